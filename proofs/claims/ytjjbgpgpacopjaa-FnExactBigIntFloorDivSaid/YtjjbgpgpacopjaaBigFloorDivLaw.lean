/- For all arguments the law FnExactBigIntFloorDiv returns true: the program's BigIntFloorDiv answers as the model's; no condition on them. -/
import Derived.Test.YtjjbgpgpacopjaaBigLaw
import Derived.Test.YtjjbgpgpacopjaaBigI4
import Derived.ProofKit
import Derived.OpenShut
import Derived.ShutString
import Derived.Lib.SmallJoins
namespace Go.Proofs.Ytjjbgpgpacopjaa.fnExactBigIntFloorDiv
open Go.ChangeShapes Go.WideShapes Go.ChangeAt Go.RowKit Go.Joins Go.Deep
open Go.ChangeMaps (open_string shut_string)

set_option maxRecDepth 100000 in
set_option maxHeartbeats 3200000 in
theorem walk {w : World} (a0g : Bool) (a0m : Option Addr) (len0m cap0m : Nat) (z0m : List Int) (hz0m : IsInts w a0m len0m z0m) (a1 : Option Addr) (len1 cap1 : Nat) (z1 : List Int) (hz1 : IsInts w a1 len1 z1) :
    Calls Try.prog 12 #[.agg #[.bool a0g, .slice a0m len0m cap0m], .slice a1 len1 cap1] w fun e w' => e = .returned (.bool true) ∧ Below w.heap.size w w' := by
  have hmz0m : len0m ≤ maxLen := hz0m.2.1
  have Hz0m := Lib.hid hz0m
  clear hz0m
  have hmz1 : len1 ≤ maxLen := hz1.2.1
  have Hz1 := Lib.hid hz1
  clear hz1
  unfold maxLen at hmz0m hmz1
  have BW0 : Hid (Below w.heap.size w w) := Below.refl _ _
  have BW1 := Lib.hid (BW0.out.alloc BW0.out.size (.cells #[.bool a0g, .slice a0m len0m cap0m] 24))
  have XaX_1 := Lib.hid (by have := Box.new w 24 #[.bool a0g, .slice a0m len0m cap0m]; simpa using this : Box (w.alloc (.cells #[.bool a0g, .slice a0m len0m cap0m] 24)) (w.heap.size) 24 #[.bool a0g, .slice a0m len0m cap0m])
  have sz1 : w.heap.size ≤ (w.alloc (.cells #[.bool a0g, .slice a0m len0m cap0m] 24)).heap.size := (by simp)
  by_cases biglen1 : 1048576 < (len1 : Int)
  · go_enter Try.func12, Try.ntmps12
    go_wp2_with fail
    go_ret
    exact ⟨rfl, BW1.out⟩
  by_cases bigs0 : (1048576 : Int) - (len0m : Int) < 0
  · go_enter Try.func12, Try.ntmps12
    go_wp2_with fail
    refine (szBigInt_neg a0g a0m len0m cap0m ((1048576 : Int)) _ (by omega) (by omega) (by unfold maxLen; omega) (by omega)).mono ?_
    rintro e ws0 ⟨rfl, hb⟩
    have BW2 := Lib.hid (BW1.out.trans (hb.mono BW1.out.size))
    have sz2 : (w.alloc (.cells #[.bool a0g, .slice a0m len0m cap0m] 24)).heap.size ≤ ws0.heap.size := hb.size
    have XaX_2 := Lib.hid (XaX_1.out.below hb XaX_1.out.lt)
    clear hb
    go_wp2_with fail
    go_ret
    exact ⟨rfl, BW2.out⟩
  have Inz0m : Hid (InI w a0m len0m z0m) := ⟨Hz0m.out.1, by omega, Hz0m.out.2.2.1, Hz0m.out.2.2.2⟩
  have Inz1 : Hid (InI w a1 len1 z1) := ⟨Hz1.out.1, by omega, Hz1.out.2.2.1, Hz1.out.2.2.2⟩
  go_enter Try.func12, Try.ntmps12
  go_wp2_with fail
  refine (szBigInt_pos a0g a0m len0m cap0m ((1048576 : Int)) _ (by omega) (by omega)  (by omega)).mono ?_
  rintro e ws0 ⟨rfl, hb⟩
  have BW2 := Lib.hid (BW1.out.trans (hb.mono BW1.out.size))
  have sz2 : (w.alloc (.cells #[.bool a0g, .slice a0m len0m cap0m] 24)).heap.size ≤ ws0.heap.size := hb.size
  have XaX_2 := Lib.hid (XaX_1.out.below hb XaX_1.out.lt)
  clear hb
  have eaX0a : ws0.cell? ⟨w.heap.size, 0, none⟩ = some (.bool a0g) := XaX_2.out.cell 0
  have eaX1a : ws0.cell? ⟨w.heap.size, 1, none⟩ = some (.slice a0m len0m cap0m) := XaX_2.out.cell 1
  go_wp2_with fail
  clear eaX0a eaX1a
  refine (toBigInt_any a0g a0m len0m cap0m z0m _ Inz0m.out.1 Inz0m.out.2.1 (Inz0m.out.2.2.1.below BW2.out)).mono ?_
  rintro e w1 ⟨v0, rfl, ho0, hb⟩
  have BW3 := Lib.hid (BW2.out.trans (hb.mono BW2.out.size))
  have sz3 : ws0.heap.size ≤ w1.heap.size := hb.size
  have XaX_3 := Lib.hid (XaX_2.out.below hb XaX_2.out.lt)
  obtain ⟨At1m, ct1m, rfl⟩ := own_slice ho0
  have Ut1m := Lib.hid (fun k (hk : (Value.slice At1m len0m ct1m).ownBlock = some k) => (ho0.lt k hk).2)
  have Ot1m_3 := Lib.hid ho0
  clear ho0
  clear hb
  go_wp2_with fail
  refine (toIntS_any a1 len1 cap1 z1 _ Inz1.out.1 Inz1.out.2.1 (Inz1.out.2.2.1.below BW3.out)).mono ?_
  rintro e w2 ⟨v, rfl, ho, hb⟩
  have BW4 := Lib.hid (BW3.out.trans (hb.mono BW3.out.size))
  have sz4 : w1.heap.size ≤ w2.heap.size := hb.size
  have Ot1m_4 := Lib.hid (own_below Ot1m_3.out hb)
  have XaX_4 := Lib.hid (XaX_3.out.below hb XaX_3.out.lt)
  obtain ⟨At2, ct2, rfl⟩ := own_slice ho
  have Ut2 := Lib.hid (fun k (hk : (Value.slice At2 len1 ct2).ownBlock = some k) => (ho.lt k hk).2)
  have Ot2_4 := Lib.hid ho
  clear ho
  clear hb
  go_wp2_with fail
  refine (spec_bigIntFloorDiv a0g At1m len0m ct1m z0m At2 len1 ct2 z1 _ ⟨Inz0m.out.1, Inz0m.out.2.1, Reads.of_own Ot1m_4.out, Inz0m.out.2.2.2⟩ (room_own Ot1m_4.out) ⟨Inz1.out.1, Inz1.out.2.1, Reads.of_own Ot2_4.out, Inz1.out.2.2.2⟩).mono ?_
  rintro e w3 ⟨r1_00, r1_01, v1_01, r1_10, v1_10, rfl, his, ho01, ho10, hap10, hb⟩
  have BW5 := Lib.hid (BW4.out.trans (hb.mono BW4.out.size))
  have sz5 : w2.heap.size ≤ w3.heap.size := hb.size
  have Ot1m_5 := Lib.hid (own_below Ot1m_4.out hb)
  have Ot2_5 := Lib.hid (own_below Ot2_4.out hb)
  have XaX_5 := Lib.hid (XaX_4.out.below hb XaX_4.out.lt)
  clear hb
  have IS := Lib.hid his
  clear his
  obtain ⟨hl, ho01⟩ := ho01
  obtain ⟨N01, hN⟩ : ∃ N, N = r1_01.length := ⟨_, rfl⟩
  rw [← hN] at hl ho01
  have HN01 := Lib.hid hN.symm
  have hl01 := hl
  clear hN hl
  obtain ⟨hl, ho10⟩ := ho10
  obtain ⟨N10, hN⟩ : ∃ N, N = r1_10.length := ⟨_, rfl⟩
  rw [← hN] at hl ho10
  have HN10 := Lib.hid hN.symm
  have hl10 := hl
  clear hN hl
  obtain ⟨Aw0m, cw0m, rfl⟩ := own_slice ho01
  have Uw0m := Lib.hid (fun k (hk : (Value.slice Aw0m N01 cw0m).ownBlock = some k) => (ho01.lt k hk).2)
  have Ow0m_5 := Lib.hid ho01
  clear ho01
  obtain ⟨Aw1, cw1, rfl⟩ := own_slice ho10
  have Uw1 := Lib.hid (fun k (hk : (Value.slice Aw1 N10 cw1).ownBlock = some k) => (ho10.lt k hk).2)
  have Ow1_5 := Lib.hid ho10
  clear ho10
  have APw1_w0m := Lib.hid hap10
  have APw0m_w1 := Lib.hid hap10.symm
  clear hap10
  clear Ot1m_5 Ut1m
  clear Ot2_5 Ut2
  have BW6 := Lib.hid (BW5.out.alloc BW5.out.size (.cells #[.bool r1_00, .slice Aw0m N01 cw0m] 27))
  have sz6 : w3.heap.size ≤ (w3.alloc (.cells #[.bool r1_00, .slice Aw0m N01 cw0m] 27)).heap.size := (by simp)
  have Ow0m_6 := Lib.hid (Ow0m_5.out.alloc (.cells #[.bool r1_00, .slice Aw0m N01 cw0m] 27))
  have Ow1_6 := Lib.hid (Ow1_5.out.alloc (.cells #[.bool r1_00, .slice Aw0m N01 cw0m] 27))
  have XaX_6 := Lib.hid (XaX_5.out.alloc (.cells #[.bool r1_00, .slice Aw0m N01 cw0m] 27))
  have Xw0_6 := Lib.hid (Box.new w3 27 #[.bool r1_00, .slice Aw0m N01 cw0m])
  have eaX0a : w3.cell? ⟨w.heap.size, 0, none⟩ = some (.bool a0g) := XaX_5.out.cell 0
  have eaX1a : w3.cell? ⟨w.heap.size, 1, none⟩ = some (.slice a0m len0m cap0m) := XaX_5.out.cell 1
  have eaX0b : (w3.alloc (.cells #[.bool r1_00, .slice Aw0m N01 cw0m] 27)).cell? ⟨w.heap.size, 0, none⟩ = some (.bool a0g) := XaX_6.out.cell 0
  have eaX1b : (w3.alloc (.cells #[.bool r1_00, .slice Aw0m N01 cw0m] 27)).cell? ⟨w.heap.size, 1, none⟩ = some (.slice a0m len0m cap0m) := XaX_6.out.cell 1
  have neaX0 : w3.heap.size ≠ w.heap.size := (by have := XaX_5.out.lt; omega)
  go_wp2_with fail
  clear eaX0a eaX1a eaX0b eaX1b neaX0
  refine (toBigInt_any a0g a0m len0m cap0m z0m _ Inz0m.out.1 Inz0m.out.2.1 (Inz0m.out.2.2.1.below BW6.out)).mono ?_
  rintro e w4 ⟨v0, rfl, ho0, hb⟩
  have BW7 := Lib.hid (BW6.out.trans (hb.mono BW6.out.size))
  have sz7 : (w3.alloc (.cells #[.bool r1_00, .slice Aw0m N01 cw0m] 27)).heap.size ≤ w4.heap.size := hb.size
  have Ow0m_7 := Lib.hid (own_below Ow0m_6.out hb)
  have Ow1_7 := Lib.hid (own_below Ow1_6.out hb)
  have XaX_7 := Lib.hid (XaX_6.out.below hb XaX_6.out.lt)
  have Xw0_7 := Lib.hid (Xw0_6.out.below hb Xw0_6.out.lt)
  obtain ⟨Ax0m, cx0m, rfl⟩ := own_slice ho0
  have Ux0m := Lib.hid (fun k (hk : (Value.slice Ax0m len0m cx0m).ownBlock = some k) => (ho0.lt k hk).2)
  have Ox0m_7 := Lib.hid ho0
  clear ho0
  clear hb
  have BW8 := Lib.hid (BW7.out.alloc BW7.out.size (.cells #[.bool a0g, .slice Ax0m len0m cx0m] 27))
  have sz8 : w4.heap.size ≤ (w4.alloc (.cells #[.bool a0g, .slice Ax0m len0m cx0m] 27)).heap.size := (by simp)
  have Ow0m_8 := Lib.hid (Ow0m_7.out.alloc (.cells #[.bool a0g, .slice Ax0m len0m cx0m] 27))
  have Ow1_8 := Lib.hid (Ow1_7.out.alloc (.cells #[.bool a0g, .slice Ax0m len0m cx0m] 27))
  have Ox0m_8 := Lib.hid (Ox0m_7.out.alloc (.cells #[.bool a0g, .slice Ax0m len0m cx0m] 27))
  have XaX_8 := Lib.hid (XaX_7.out.alloc (.cells #[.bool a0g, .slice Ax0m len0m cx0m] 27))
  have Xw0_8 := Lib.hid (Xw0_7.out.alloc (.cells #[.bool a0g, .slice Ax0m len0m cx0m] 27))
  have Xx0_8 := Lib.hid (Box.new w4 27 #[.bool a0g, .slice Ax0m len0m cx0m])
  go_wp2_with fail
  refine (toIntS_any a1 len1 cap1 z1 _ Inz1.out.1 Inz1.out.2.1 (Inz1.out.2.2.1.below BW8.out)).mono ?_
  rintro e w5 ⟨v, rfl, ho, hb⟩
  have BW9 := Lib.hid (BW8.out.trans (hb.mono BW8.out.size))
  have sz9 : (w4.alloc (.cells #[.bool a0g, .slice Ax0m len0m cx0m] 27)).heap.size ≤ w5.heap.size := hb.size
  have Ow0m_9 := Lib.hid (own_below Ow0m_8.out hb)
  have Ow1_9 := Lib.hid (own_below Ow1_8.out hb)
  have Ox0m_9 := Lib.hid (own_below Ox0m_8.out hb)
  have XaX_9 := Lib.hid (XaX_8.out.below hb XaX_8.out.lt)
  have Xw0_9 := Lib.hid (Xw0_8.out.below hb Xw0_8.out.lt)
  have Xx0_9 := Lib.hid (Xx0_8.out.below hb Xx0_8.out.lt)
  obtain ⟨Ax1, cx1, rfl⟩ := own_slice ho
  have Ux1 := Lib.hid (fun k (hk : (Value.slice Ax1 len1 cx1).ownBlock = some k) => (ho.lt k hk).2)
  have Ox1_9 := Lib.hid ho
  clear ho
  clear hb
  have ex00a : w5.cell? ⟨w4.heap.size, 0, none⟩ = some (.bool a0g) := Xx0_9.out.cell 0
  have ex01a : w5.cell? ⟨w4.heap.size, 1, none⟩ = some (.slice Ax0m len0m cx0m) := Xx0_9.out.cell 1
  go_wp2_with fail
  clear ex00a ex01a
  refine (impl_bigIntFloorDiv a0g Ax0m len0m cx0m z0m Ax1 len1 cx1 z1 _ ⟨Inz0m.out.1, Inz0m.out.2.1, Reads.of_own Ox0m_9.out, Inz0m.out.2.2.2⟩ (room_own Ox0m_9.out) ⟨Inz1.out.1, Inz1.out.2.1, Reads.of_own Ox1_9.out, Inz1.out.2.2.2⟩).mono ?_
  rintro e w6 ⟨r2_00, r2_01, v2_01, r2_10, v2_10, rfl, his, ho01, ho10, hap10, hb⟩
  have BW10 := Lib.hid (BW9.out.trans (hb.mono BW9.out.size))
  have sz10 : w5.heap.size ≤ w6.heap.size := hb.size
  have Ow0m_10 := Lib.hid (own_below Ow0m_9.out hb)
  have Ow1_10 := Lib.hid (own_below Ow1_9.out hb)
  have Ox0m_10 := Lib.hid (own_below Ox0m_9.out hb)
  have Ox1_10 := Lib.hid (own_below Ox1_9.out hb)
  have XaX_10 := Lib.hid (XaX_9.out.below hb XaX_9.out.lt)
  have Xw0_10 := Lib.hid (Xw0_9.out.below hb Xw0_9.out.lt)
  have Xx0_10 := Lib.hid (Xx0_9.out.below hb Xx0_9.out.lt)
  clear hb
  obtain ⟨rfl, rfl, rfl⟩ := bigIntFloorDiv_unique IS.out his
  clear his
  replace ho01 := ho01.2
  rw [HN01.out] at ho01
  replace ho10 := ho10.2
  rw [HN10.out] at ho10
  obtain ⟨Ag0m, cg0m, rfl⟩ := own_slice ho01
  have Ug0m := Lib.hid (fun k (hk : (Value.slice Ag0m N01 cg0m).ownBlock = some k) => (ho01.lt k hk).2)
  have Og0m_10 := Lib.hid ho01
  clear ho01
  obtain ⟨Ag1, cg1, rfl⟩ := own_slice ho10
  have Ug1 := Lib.hid (fun k (hk : (Value.slice Ag1 N10 cg1).ownBlock = some k) => (ho10.lt k hk).2)
  have Og1_10 := Lib.hid ho10
  clear ho10
  have APg1_g0m := Lib.hid hap10
  have APg0m_g1 := Lib.hid hap10.symm
  clear hap10
  have BW11 := Lib.hid (BW10.out.alloc BW10.out.size (.cells #[.bool r1_00, .slice Ag0m N01 cg0m] 27))
  have sz11 : w6.heap.size ≤ (w6.alloc (.cells #[.bool r1_00, .slice Ag0m N01 cg0m] 27)).heap.size := (by simp)
  have Ow0m_11 := Lib.hid (Ow0m_10.out.alloc (.cells #[.bool r1_00, .slice Ag0m N01 cg0m] 27))
  have Ow1_11 := Lib.hid (Ow1_10.out.alloc (.cells #[.bool r1_00, .slice Ag0m N01 cg0m] 27))
  have Ox0m_11 := Lib.hid (Ox0m_10.out.alloc (.cells #[.bool r1_00, .slice Ag0m N01 cg0m] 27))
  have Ox1_11 := Lib.hid (Ox1_10.out.alloc (.cells #[.bool r1_00, .slice Ag0m N01 cg0m] 27))
  have Og0m_11 := Lib.hid (Og0m_10.out.alloc (.cells #[.bool r1_00, .slice Ag0m N01 cg0m] 27))
  have Og1_11 := Lib.hid (Og1_10.out.alloc (.cells #[.bool r1_00, .slice Ag0m N01 cg0m] 27))
  have XaX_11 := Lib.hid (XaX_10.out.alloc (.cells #[.bool r1_00, .slice Ag0m N01 cg0m] 27))
  have Xw0_11 := Lib.hid (Xw0_10.out.alloc (.cells #[.bool r1_00, .slice Ag0m N01 cg0m] 27))
  have Xx0_11 := Lib.hid (Xx0_10.out.alloc (.cells #[.bool r1_00, .slice Ag0m N01 cg0m] 27))
  have Xg0_11 := Lib.hid (Box.new w6 27 #[.bool r1_00, .slice Ag0m N01 cg0m])
  have ew00a : w6.cell? ⟨w3.heap.size, 0, none⟩ = some (.bool r1_00) := Xw0_10.out.cell 0
  have ew01a : w6.cell? ⟨w3.heap.size, 1, none⟩ = some (.slice Aw0m N01 cw0m) := Xw0_10.out.cell 1
  have ew00b : (w6.alloc (.cells #[.bool r1_00, .slice Ag0m N01 cg0m] 27)).cell? ⟨w3.heap.size, 0, none⟩ = some (.bool r1_00) := Xw0_11.out.cell 0
  have ew01b : (w6.alloc (.cells #[.bool r1_00, .slice Ag0m N01 cg0m] 27)).cell? ⟨w3.heap.size, 1, none⟩ = some (.slice Aw0m N01 cw0m) := Xw0_11.out.cell 1
  have new00 : w6.heap.size ≠ w3.heap.size := (by have := Xw0_10.out.lt; omega)
  go_wp2_with fail
  clear ew00a ew01a ew00b ew01b new00
  refine (eqBigInt_same r1_00 Ag0m Aw0m N01 cg0m cw0m r1_01 _ HN01.out (by unfold maxLen; omega) (Reads.of_own Og0m_11.out) (Reads.of_own Ow0m_11.out)).mono ?_
  rintro e w7 ⟨rfl, hb⟩
  have BW12 := Lib.hid (BW11.out.trans (hb.mono BW11.out.size))
  have sz12 : (w6.alloc (.cells #[.bool r1_00, .slice Ag0m N01 cg0m] 27)).heap.size ≤ w7.heap.size := hb.size
  have Ow0m_12 := Lib.hid (own_below Ow0m_11.out hb)
  have Ow1_12 := Lib.hid (own_below Ow1_11.out hb)
  have Ox0m_12 := Lib.hid (own_below Ox0m_11.out hb)
  have Ox1_12 := Lib.hid (own_below Ox1_11.out hb)
  have Og0m_12 := Lib.hid (own_below Og0m_11.out hb)
  have Og1_12 := Lib.hid (own_below Og1_11.out hb)
  have XaX_12 := Lib.hid (XaX_11.out.below hb XaX_11.out.lt)
  have Xw0_12 := Lib.hid (Xw0_11.out.below hb Xw0_11.out.lt)
  have Xx0_12 := Lib.hid (Xx0_11.out.below hb Xx0_11.out.lt)
  have Xg0_12 := Lib.hid (Xg0_11.out.below hb Xg0_11.out.lt)
  clear hb
  go_wp2_with fail
  refine (eqIntS_same Ag1 Aw1 N10 cg1 cw1 r1_10 _ HN10.out (by unfold maxLen; omega) (Reads.of_own Og1_12.out) (Reads.of_own Ow1_12.out)).mono ?_
  rintro e w8 ⟨rfl, hb⟩
  have BW13 := Lib.hid (BW12.out.trans (hb.mono BW12.out.size))
  have sz13 : w7.heap.size ≤ w8.heap.size := hb.size
  have Ow0m_13 := Lib.hid (own_below Ow0m_12.out hb)
  have Ow1_13 := Lib.hid (own_below Ow1_12.out hb)
  have Ox0m_13 := Lib.hid (own_below Ox0m_12.out hb)
  have Ox1_13 := Lib.hid (own_below Ox1_12.out hb)
  have Og0m_13 := Lib.hid (own_below Og0m_12.out hb)
  have Og1_13 := Lib.hid (own_below Og1_12.out hb)
  have XaX_13 := Lib.hid (XaX_12.out.below hb XaX_12.out.lt)
  have Xw0_13 := Lib.hid (Xw0_12.out.below hb Xw0_12.out.lt)
  have Xx0_13 := Lib.hid (Xx0_12.out.below hb Xx0_12.out.lt)
  have Xg0_13 := Lib.hid (Xg0_12.out.below hb Xg0_12.out.lt)
  clear hb
  go_wp2_with fail
  have BW14 := Lib.hid BW13.out.drew
  have sz14 : w8.heap.size ≤ w8.drew.heap.size := Nat.le_refl _
  have Ow0m_14 := Lib.hid (own_drew Ow0m_13.out)
  have Ow1_14 := Lib.hid (own_drew Ow1_13.out)
  have Ox0m_14 := Lib.hid (own_drew Ox0m_13.out)
  have Ox1_14 := Lib.hid (own_drew Ox1_13.out)
  have Og0m_14 := Lib.hid (own_drew Og0m_13.out)
  have Og1_14 := Lib.hid (own_drew Og1_13.out)
  have XaX_14 := Lib.hid XaX_13.out.drew
  have Xw0_14 := Lib.hid Xw0_13.out.drew
  have Xx0_14 := Lib.hid Xx0_13.out.drew
  have Xg0_14 := Lib.hid Xg0_13.out.drew
  go_region_held3 (fun w' => w'.cell? ⟨w4.heap.size, 0, none⟩ = some (.bool a0g) ∧ w'.cell? ⟨w4.heap.size, 1, none⟩ = some (.slice Ax0m len0m cx0m) ∧ w'.cell? ⟨w.heap.size, 0, none⟩ = some (.bool a0g) ∧ w'.cell? ⟨w.heap.size, 1, none⟩ = some (.slice a0m len0m cap0m)) (first | exact ⟨Xx0_14.out.cell 0, Xx0_14.out.cell 1, XaX_14.out.cell 0, XaX_14.out.cell 1⟩ | exact ⟨Xx0_15.out.cell 0, Xx0_15.out.cell 1, XaX_15.out.cell 0, XaX_15.out.cell 1⟩ | exact ⟨Xx0_16.out.cell 0, Xx0_16.out.cell 1, XaX_16.out.cell 0, XaX_16.out.cell 1⟩) (first | (go_at_call 17; refine (eqBigInt_same a0g Ax0m At3m len0m cx0m ct3m z0m _ Inz0m.out.1 (by unfold maxLen; omega) (Reads.of_own Ox0m_15.out) (Reads.of_own Ot3m_15.out)).mono ?_; rintro e w10 ⟨rfl, hb⟩; have BW16 := Lib.hid (BW15.out.trans (hb.mono BW15.out.size)); have sz16 : w9.heap.size ≤ w10.heap.size := hb.size; have Ow0m_16 := Lib.hid (own_below Ow0m_15.out hb); have Ow1_16 := Lib.hid (own_below Ow1_15.out hb); have Ox0m_16 := Lib.hid (own_below Ox0m_15.out hb); have Ox1_16 := Lib.hid (own_below Ox1_15.out hb); have Og0m_16 := Lib.hid (own_below Og0m_15.out hb); have Og1_16 := Lib.hid (own_below Og1_15.out hb); have Ot3m_16 := Lib.hid (own_below Ot3m_15.out hb); have XaX_16 := Lib.hid (XaX_15.out.below hb XaX_15.out.lt); have Xw0_16 := Lib.hid (Xw0_15.out.below hb Xw0_15.out.lt); have Xx0_16 := Lib.hid (Xx0_15.out.below hb Xx0_15.out.lt); have Xg0_16 := Lib.hid (Xg0_15.out.below hb Xg0_15.out.lt); clear hb) | (go_at_call 15; refine (toBigInt_any a0g a0m len0m cap0m z0m _ Inz0m.out.1 Inz0m.out.2.1 (Inz0m.out.2.2.1.below BW14.out)).mono ?_; rintro e w9 ⟨v0, rfl, ho0, hb⟩; have BW15 := Lib.hid (BW14.out.trans (hb.mono BW14.out.size)); have sz15 : w8.drew.heap.size ≤ w9.heap.size := hb.size; have Ow0m_15 := Lib.hid (own_below Ow0m_14.out hb); have Ow1_15 := Lib.hid (own_below Ow1_14.out hb); have Ox0m_15 := Lib.hid (own_below Ox0m_14.out hb); have Ox1_15 := Lib.hid (own_below Ox1_14.out hb); have Og0m_15 := Lib.hid (own_below Og0m_14.out hb); have Og1_15 := Lib.hid (own_below Og1_14.out hb); have XaX_15 := Lib.hid (XaX_14.out.below hb XaX_14.out.lt); have Xw0_15 := Lib.hid (Xw0_14.out.below hb Xw0_14.out.lt); have Xx0_15 := Lib.hid (Xx0_14.out.below hb Xx0_14.out.lt); have Xg0_15 := Lib.hid (Xg0_14.out.below hb Xg0_14.out.lt); obtain ⟨At3m, ct3m, rfl⟩ := own_slice ho0; have Ut3m := Lib.hid (fun k (hk : (Value.slice At3m len0m ct3m).ownBlock = some k) => (ho0.lt k hk).2); have Ot3m_15 := Lib.hid ho0; clear ho0; clear hb))
  clear Ot3m_16 Ut3m
  go_wp2_with fail
  refine (toIntS_any a1 len1 cap1 z1 _ Inz1.out.1 Inz1.out.2.1 (Inz1.out.2.2.1.below BW16.out)).mono ?_
  rintro e w11 ⟨v, rfl, ho, hb⟩
  have BW17 := Lib.hid (BW16.out.trans (hb.mono BW16.out.size))
  have sz17 : w10.heap.size ≤ w11.heap.size := hb.size
  have Ow0m_17 := Lib.hid (own_below Ow0m_16.out hb)
  have Ow1_17 := Lib.hid (own_below Ow1_16.out hb)
  have Ox0m_17 := Lib.hid (own_below Ox0m_16.out hb)
  have Ox1_17 := Lib.hid (own_below Ox1_16.out hb)
  have Og0m_17 := Lib.hid (own_below Og0m_16.out hb)
  have Og1_17 := Lib.hid (own_below Og1_16.out hb)
  have XaX_17 := Lib.hid (XaX_16.out.below hb XaX_16.out.lt)
  have Xw0_17 := Lib.hid (Xw0_16.out.below hb Xw0_16.out.lt)
  have Xx0_17 := Lib.hid (Xx0_16.out.below hb Xx0_16.out.lt)
  have Xg0_17 := Lib.hid (Xg0_16.out.below hb Xg0_16.out.lt)
  obtain ⟨At4, ct4, rfl⟩ := own_slice ho
  have Ut4 := Lib.hid (fun k (hk : (Value.slice At4 len1 ct4).ownBlock = some k) => (ho.lt k hk).2)
  have Ot4_17 := Lib.hid ho
  clear ho
  clear hb
  go_wp2_with fail
  refine (eqIntS_same Ax1 At4 len1 cx1 ct4 z1 _ Inz1.out.1 (by unfold maxLen; omega) (Reads.of_own Ox1_17.out) (Reads.of_own Ot4_17.out)).mono ?_
  rintro e w12 ⟨rfl, hb⟩
  have BW18 := Lib.hid (BW17.out.trans (hb.mono BW17.out.size))
  have sz18 : w11.heap.size ≤ w12.heap.size := hb.size
  have Ow0m_18 := Lib.hid (own_below Ow0m_17.out hb)
  have Ow1_18 := Lib.hid (own_below Ow1_17.out hb)
  have Ox0m_18 := Lib.hid (own_below Ox0m_17.out hb)
  have Ox1_18 := Lib.hid (own_below Ox1_17.out hb)
  have Og0m_18 := Lib.hid (own_below Og0m_17.out hb)
  have Og1_18 := Lib.hid (own_below Og1_17.out hb)
  have Ot4_18 := Lib.hid (own_below Ot4_17.out hb)
  have XaX_18 := Lib.hid (XaX_17.out.below hb XaX_17.out.lt)
  have Xw0_18 := Lib.hid (Xw0_17.out.below hb Xw0_17.out.lt)
  have Xx0_18 := Lib.hid (Xx0_17.out.below hb Xx0_17.out.lt)
  have Xg0_18 := Lib.hid (Xg0_17.out.below hb Xg0_17.out.lt)
  clear hb
  clear Ot4_18 Ut4
  have ex00a : w12.cell? ⟨w4.heap.size, 0, none⟩ = some (.bool a0g) := Xx0_18.out.cell 0
  have ex01a : w12.cell? ⟨w4.heap.size, 1, none⟩ = some (.slice Ax0m len0m cx0m) := Xx0_18.out.cell 1
  go_wp2_with fail
  clear ex00a ex01a
  refine (markBigInt_own a0g _ Ax0m len0m cx0m (1) _ _ (by unfold maxLen; omega) Ox0m_18.out (ints_are _)).mono ?_
  rintro e w13 ⟨rfl, ho, hg⟩
  have BW19 := Lib.hid (below_marked BW18.out Ox0m_18.out hg (by omega) (by omega))
  have sz19 : w12.heap.size ≤ w13.heap.size := hg.size
  have Ow0m_19 := Lib.hid (Ow0m_18.out.kept hg (own_apart Ow0m_18.out Uw0m.out Ox0m_18.out Ux0m.out (.inl (by omega))))
  have Ow1_19 := Lib.hid (Ow1_18.out.kept hg (own_apart Ow1_18.out Uw1.out Ox0m_18.out Ux0m.out (.inl (by omega))))
  have Ox1_19 := Lib.hid (Ox1_18.out.kept hg (own_apart Ox1_18.out Ux1.out Ox0m_18.out Ux0m.out (.inr (by omega))))
  have Og0m_19 := Lib.hid (Og0m_18.out.kept hg (own_apart Og0m_18.out Ug0m.out Ox0m_18.out Ux0m.out (.inr (by omega))))
  have Og1_19 := Lib.hid (Og1_18.out.kept hg (own_apart Og1_18.out Ug1.out Ox0m_18.out Ux0m.out (.inr (by omega))))
  have XaX_19 := Lib.hid (XaX_18.out.grown hg (ne_own XaX_18.out Ox0m_18.out))
  have Xw0_19 := Lib.hid (Xw0_18.out.grown hg (ne_own Xw0_18.out Ox0m_18.out))
  have Xx0_19 := Lib.hid (Xx0_18.out.grown hg (ne_own Xx0_18.out Ox0m_18.out))
  have Xg0_19 := Lib.hid (Xg0_18.out.grown hg (ne_own Xg0_18.out Ox0m_18.out))
  have Ox0m_19 := Lib.hid ho
  clear ho hg
  clear Ox0m_19 Ux0m Xx0_19
  go_wp2_with fail
  refine (markIntS_own  _ Ax1 len1 cx1 (1 + len0m) _ _ (by unfold maxLen; omega) Ox1_19.out (ints_are _)).mono ?_
  rintro e w14 ⟨rfl, ho, hg⟩
  have BW20 := Lib.hid (below_marked BW19.out Ox1_19.out hg (by omega) (by omega))
  have sz20 : w13.heap.size ≤ w14.heap.size := hg.size
  have Ow0m_20 := Lib.hid (Ow0m_19.out.kept hg (own_apart Ow0m_19.out Uw0m.out Ox1_19.out Ux1.out (.inl (by omega))))
  have Ow1_20 := Lib.hid (Ow1_19.out.kept hg (own_apart Ow1_19.out Uw1.out Ox1_19.out Ux1.out (.inl (by omega))))
  have Og0m_20 := Lib.hid (Og0m_19.out.kept hg (own_apart Og0m_19.out Ug0m.out Ox1_19.out Ux1.out (.inr (by omega))))
  have Og1_20 := Lib.hid (Og1_19.out.kept hg (own_apart Og1_19.out Ug1.out Ox1_19.out Ux1.out (.inr (by omega))))
  have XaX_20 := Lib.hid (XaX_19.out.grown hg (ne_own XaX_19.out Ox1_19.out))
  have Xw0_20 := Lib.hid (Xw0_19.out.grown hg (ne_own Xw0_19.out Ox1_19.out))
  have Xg0_20 := Lib.hid (Xg0_19.out.grown hg (ne_own Xg0_19.out Ox1_19.out))
  have Ox1_20 := Lib.hid ho
  clear ho hg
  clear Ox1_20 Ux1
  have eg00a : w14.cell? ⟨w6.heap.size, 0, none⟩ = some (.bool r1_00) := Xg0_20.out.cell 0
  have eg01a : w14.cell? ⟨w6.heap.size, 1, none⟩ = some (.slice Ag0m N01 cg0m) := Xg0_20.out.cell 1
  have ew00a : w14.cell? ⟨w3.heap.size, 0, none⟩ = some (.bool r1_00) := Xw0_20.out.cell 0
  have ew01a : w14.cell? ⟨w3.heap.size, 1, none⟩ = some (.slice Aw0m N01 cw0m) := Xw0_20.out.cell 1
  go_wp2_with fail
  clear eg00a eg01a ew00a ew01a
  refine (eqBigInt_same r1_00 Ag0m Aw0m N01 cg0m cw0m r1_01 _ HN01.out (by unfold maxLen; omega) (Reads.of_own Og0m_20.out) (Reads.of_own Ow0m_20.out)).mono ?_
  rintro e w15 ⟨rfl, hb⟩
  have BW21 := Lib.hid (BW20.out.trans (hb.mono BW20.out.size))
  have sz21 : w14.heap.size ≤ w15.heap.size := hb.size
  have Ow0m_21 := Lib.hid (own_below Ow0m_20.out hb)
  have Ow1_21 := Lib.hid (own_below Ow1_20.out hb)
  have Og0m_21 := Lib.hid (own_below Og0m_20.out hb)
  have Og1_21 := Lib.hid (own_below Og1_20.out hb)
  have XaX_21 := Lib.hid (XaX_20.out.below hb XaX_20.out.lt)
  have Xw0_21 := Lib.hid (Xw0_20.out.below hb Xw0_20.out.lt)
  have Xg0_21 := Lib.hid (Xg0_20.out.below hb Xg0_20.out.lt)
  clear hb
  go_wp2_with fail
  refine (eqIntS_same Ag1 Aw1 N10 cg1 cw1 r1_10 _ HN10.out (by unfold maxLen; omega) (Reads.of_own Og1_21.out) (Reads.of_own Ow1_21.out)).mono ?_
  rintro e w16 ⟨rfl, hb⟩
  have BW22 := Lib.hid (BW21.out.trans (hb.mono BW21.out.size))
  have sz22 : w15.heap.size ≤ w16.heap.size := hb.size
  have Ow0m_22 := Lib.hid (own_below Ow0m_21.out hb)
  have Ow1_22 := Lib.hid (own_below Ow1_21.out hb)
  have Og0m_22 := Lib.hid (own_below Og0m_21.out hb)
  have Og1_22 := Lib.hid (own_below Og1_21.out hb)
  have XaX_22 := Lib.hid (XaX_21.out.below hb XaX_21.out.lt)
  have Xw0_22 := Lib.hid (Xw0_21.out.below hb Xw0_21.out.lt)
  have Xg0_22 := Lib.hid (Xg0_21.out.below hb Xg0_21.out.lt)
  clear hb
  have eg00a : w16.cell? ⟨w6.heap.size, 0, none⟩ = some (.bool r1_00) := Xg0_22.out.cell 0
  have eg01a : w16.cell? ⟨w6.heap.size, 1, none⟩ = some (.slice Ag0m N01 cg0m) := Xg0_22.out.cell 1
  go_wp2_with fail
  clear eg00a eg01a
  refine (markBigInt_own r1_00 _ Ag0m N01 cg0m (1) _ _ (by unfold maxLen; omega) Og0m_22.out (ints_are _)).mono ?_
  rintro e w17 ⟨rfl, ho, hg⟩
  have BW23 := Lib.hid (below_marked BW22.out Og0m_22.out hg (by omega) (by omega))
  have sz23 : w16.heap.size ≤ w17.heap.size := hg.size
  have Ow0m_23 := Lib.hid (Ow0m_22.out.kept hg (own_apart Ow0m_22.out Uw0m.out Og0m_22.out Ug0m.out (.inl (by omega))))
  have Ow1_23 := Lib.hid (Ow1_22.out.kept hg (own_apart Ow1_22.out Uw1.out Og0m_22.out Ug0m.out (.inl (by omega))))
  have Og1_23 := Lib.hid (Og1_22.out.kept hg (apart_of APg1_g0m.out))
  have XaX_23 := Lib.hid (XaX_22.out.grown hg (ne_own XaX_22.out Og0m_22.out))
  have Xw0_23 := Lib.hid (Xw0_22.out.grown hg (ne_own Xw0_22.out Og0m_22.out))
  have Xg0_23 := Lib.hid (Xg0_22.out.grown hg (ne_own Xg0_22.out Og0m_22.out))
  have Og0m_23 := Lib.hid ho
  clear ho hg
  go_wp2_with fail
  refine (markIntS_own  _ Ag1 N10 cg1 (1 + N01) _ _ (by unfold maxLen; omega) Og1_23.out (ints_are _)).mono ?_
  rintro e w18 ⟨rfl, ho, hg⟩
  have BW24 := Lib.hid (below_marked BW23.out Og1_23.out hg (by omega) (by omega))
  have sz24 : w17.heap.size ≤ w18.heap.size := hg.size
  have Ow0m_24 := Lib.hid (Ow0m_23.out.kept hg (own_apart Ow0m_23.out Uw0m.out Og1_23.out Ug1.out (.inl (by omega))))
  have Ow1_24 := Lib.hid (Ow1_23.out.kept hg (own_apart Ow1_23.out Uw1.out Og1_23.out Ug1.out (.inl (by omega))))
  have Og0m_24 := Lib.hid (Og0m_23.out.kept hg (apart_of APg0m_g1.out))
  have XaX_24 := Lib.hid (XaX_23.out.grown hg (ne_own XaX_23.out Og1_23.out))
  have Xw0_24 := Lib.hid (Xw0_23.out.grown hg (ne_own Xw0_23.out Og1_23.out))
  have Xg0_24 := Lib.hid (Xg0_23.out.grown hg (ne_own Xg0_23.out Og1_23.out))
  have Og1_24 := Lib.hid ho
  clear ho hg
  have eg00a : w18.cell? ⟨w6.heap.size, 0, none⟩ = some (.bool r1_00) := Xg0_24.out.cell 0
  have eg01a : w18.cell? ⟨w6.heap.size, 1, none⟩ = some (.slice Ag0m N01 cg0m) := Xg0_24.out.cell 1
  go_wp2_with fail
  clear eg00a eg01a
  refine (heldBigInt_same r1_00 Ag0m N01 cg0m (1) _ (by unfold maxLen; omega) (Reads.of_own Og0m_24.out)).mono ?_
  rintro e w19 ⟨rfl, hb⟩
  have BW25 := Lib.hid (BW24.out.trans (hb.mono BW24.out.size))
  have sz25 : w18.heap.size ≤ w19.heap.size := hb.size
  have Ow0m_25 := Lib.hid (own_below Ow0m_24.out hb)
  have Ow1_25 := Lib.hid (own_below Ow1_24.out hb)
  have Og0m_25 := Lib.hid (own_below Og0m_24.out hb)
  have Og1_25 := Lib.hid (own_below Og1_24.out hb)
  have XaX_25 := Lib.hid (XaX_24.out.below hb XaX_24.out.lt)
  have Xw0_25 := Lib.hid (Xw0_24.out.below hb Xw0_24.out.lt)
  have Xg0_25 := Lib.hid (Xg0_24.out.below hb Xg0_24.out.lt)
  clear hb
  go_wp2_with fail
  refine (heldIntS_same  Ag1 N10 cg1 (1 + N01) _ (by unfold maxLen; omega) (Reads.of_own Og1_25.out)).mono ?_
  rintro e w20 ⟨rfl, hb⟩
  have BW26 := Lib.hid (BW25.out.trans (hb.mono BW25.out.size))
  have sz26 : w19.heap.size ≤ w20.heap.size := hb.size
  have Ow0m_26 := Lib.hid (own_below Ow0m_25.out hb)
  have Ow1_26 := Lib.hid (own_below Ow1_25.out hb)
  have Og0m_26 := Lib.hid (own_below Og0m_25.out hb)
  have Og1_26 := Lib.hid (own_below Og1_25.out hb)
  have XaX_26 := Lib.hid (XaX_25.out.below hb XaX_25.out.lt)
  have Xw0_26 := Lib.hid (Xw0_25.out.below hb Xw0_25.out.lt)
  have Xg0_26 := Lib.hid (Xg0_25.out.below hb Xg0_25.out.lt)
  clear hb
  have eaX0a : w20.cell? ⟨w.heap.size, 0, none⟩ = some (.bool a0g) := XaX_26.out.cell 0
  have eaX1a : w20.cell? ⟨w.heap.size, 1, none⟩ = some (.slice a0m len0m cap0m) := XaX_26.out.cell 1
  go_wp2_with fail
  clear eaX0a eaX1a
  refine (toBigInt_any a0g a0m len0m cap0m z0m _ Inz0m.out.1 Inz0m.out.2.1 (Inz0m.out.2.2.1.below BW26.out)).mono ?_
  rintro e w21 ⟨v0, rfl, ho0, hb⟩
  have BW27 := Lib.hid (BW26.out.trans (hb.mono BW26.out.size))
  have sz27 : w20.heap.size ≤ w21.heap.size := hb.size
  have Ow0m_27 := Lib.hid (own_below Ow0m_26.out hb)
  have Ow1_27 := Lib.hid (own_below Ow1_26.out hb)
  have Og0m_27 := Lib.hid (own_below Og0m_26.out hb)
  have Og1_27 := Lib.hid (own_below Og1_26.out hb)
  have XaX_27 := Lib.hid (XaX_26.out.below hb XaX_26.out.lt)
  have Xw0_27 := Lib.hid (Xw0_26.out.below hb Xw0_26.out.lt)
  have Xg0_27 := Lib.hid (Xg0_26.out.below hb Xg0_26.out.lt)
  obtain ⟨At5m, ct5m, rfl⟩ := own_slice ho0
  have Ut5m := Lib.hid (fun k (hk : (Value.slice At5m len0m ct5m).ownBlock = some k) => (ho0.lt k hk).2)
  have Ot5m_27 := Lib.hid ho0
  clear ho0
  clear hb
  go_wp2_with fail
  refine (toIntS_any a1 len1 cap1 z1 _ Inz1.out.1 Inz1.out.2.1 (Inz1.out.2.2.1.below BW27.out)).mono ?_
  rintro e w22 ⟨v, rfl, ho, hb⟩
  have BW28 := Lib.hid (BW27.out.trans (hb.mono BW27.out.size))
  have sz28 : w21.heap.size ≤ w22.heap.size := hb.size
  have Ow0m_28 := Lib.hid (own_below Ow0m_27.out hb)
  have Ow1_28 := Lib.hid (own_below Ow1_27.out hb)
  have Og0m_28 := Lib.hid (own_below Og0m_27.out hb)
  have Og1_28 := Lib.hid (own_below Og1_27.out hb)
  have Ot5m_28 := Lib.hid (own_below Ot5m_27.out hb)
  have XaX_28 := Lib.hid (XaX_27.out.below hb XaX_27.out.lt)
  have Xw0_28 := Lib.hid (Xw0_27.out.below hb Xw0_27.out.lt)
  have Xg0_28 := Lib.hid (Xg0_27.out.below hb Xg0_27.out.lt)
  obtain ⟨At6, ct6, rfl⟩ := own_slice ho
  have Ut6 := Lib.hid (fun k (hk : (Value.slice At6 len1 ct6).ownBlock = some k) => (ho.lt k hk).2)
  have Ot6_28 := Lib.hid ho
  clear ho
  clear hb
  go_wp2_with fail
  refine (impl_bigIntFloorDiv a0g At5m len0m ct5m z0m At6 len1 ct6 z1 _ ⟨Inz0m.out.1, Inz0m.out.2.1, Reads.of_own Ot5m_28.out, Inz0m.out.2.2.2⟩ (room_own Ot5m_28.out) ⟨Inz1.out.1, Inz1.out.2.1, Reads.of_own Ot6_28.out, Inz1.out.2.2.2⟩).mono ?_
  rintro e w23 ⟨r3_00, r3_01, v3_01, r3_10, v3_10, rfl, his, ho01, ho10, hap10, hb⟩
  have BW29 := Lib.hid (BW28.out.trans (hb.mono BW28.out.size))
  have sz29 : w22.heap.size ≤ w23.heap.size := hb.size
  have Ow0m_29 := Lib.hid (own_below Ow0m_28.out hb)
  have Ow1_29 := Lib.hid (own_below Ow1_28.out hb)
  have Og0m_29 := Lib.hid (own_below Og0m_28.out hb)
  have Og1_29 := Lib.hid (own_below Og1_28.out hb)
  have Ot5m_29 := Lib.hid (own_below Ot5m_28.out hb)
  have Ot6_29 := Lib.hid (own_below Ot6_28.out hb)
  have XaX_29 := Lib.hid (XaX_28.out.below hb XaX_28.out.lt)
  have Xw0_29 := Lib.hid (Xw0_28.out.below hb Xw0_28.out.lt)
  have Xg0_29 := Lib.hid (Xg0_28.out.below hb Xg0_28.out.lt)
  clear hb
  obtain ⟨rfl, rfl, rfl⟩ := bigIntFloorDiv_unique IS.out his
  clear his
  replace ho01 := ho01.2
  rw [HN01.out] at ho01
  replace ho10 := ho10.2
  rw [HN10.out] at ho10
  obtain ⟨Ah0m, ch0m, rfl⟩ := own_slice ho01
  have Uh0m := Lib.hid (fun k (hk : (Value.slice Ah0m N01 ch0m).ownBlock = some k) => (ho01.lt k hk).2)
  have Oh0m_29 := Lib.hid ho01
  clear ho01
  obtain ⟨Ah1, ch1, rfl⟩ := own_slice ho10
  have Uh1 := Lib.hid (fun k (hk : (Value.slice Ah1 N10 ch1).ownBlock = some k) => (ho10.lt k hk).2)
  have Oh1_29 := Lib.hid ho10
  clear ho10
  have APh1_h0m := Lib.hid hap10
  have APh0m_h1 := Lib.hid hap10.symm
  clear hap10
  clear Ot5m_29 Ut5m
  clear Ot6_29 Ut6
  have BW30 := Lib.hid (BW29.out.alloc BW29.out.size (.cells #[.bool r1_00, .slice Ah0m N01 ch0m] 27))
  have sz30 : w23.heap.size ≤ (w23.alloc (.cells #[.bool r1_00, .slice Ah0m N01 ch0m] 27)).heap.size := (by simp)
  have Ow0m_30 := Lib.hid (Ow0m_29.out.alloc (.cells #[.bool r1_00, .slice Ah0m N01 ch0m] 27))
  have Ow1_30 := Lib.hid (Ow1_29.out.alloc (.cells #[.bool r1_00, .slice Ah0m N01 ch0m] 27))
  have Og0m_30 := Lib.hid (Og0m_29.out.alloc (.cells #[.bool r1_00, .slice Ah0m N01 ch0m] 27))
  have Og1_30 := Lib.hid (Og1_29.out.alloc (.cells #[.bool r1_00, .slice Ah0m N01 ch0m] 27))
  have Oh0m_30 := Lib.hid (Oh0m_29.out.alloc (.cells #[.bool r1_00, .slice Ah0m N01 ch0m] 27))
  have Oh1_30 := Lib.hid (Oh1_29.out.alloc (.cells #[.bool r1_00, .slice Ah0m N01 ch0m] 27))
  have XaX_30 := Lib.hid (XaX_29.out.alloc (.cells #[.bool r1_00, .slice Ah0m N01 ch0m] 27))
  have Xw0_30 := Lib.hid (Xw0_29.out.alloc (.cells #[.bool r1_00, .slice Ah0m N01 ch0m] 27))
  have Xg0_30 := Lib.hid (Xg0_29.out.alloc (.cells #[.bool r1_00, .slice Ah0m N01 ch0m] 27))
  have Xh0_30 := Lib.hid (Box.new w23 27 #[.bool r1_00, .slice Ah0m N01 ch0m])
  have ew00a : w23.cell? ⟨w3.heap.size, 0, none⟩ = some (.bool r1_00) := Xw0_29.out.cell 0
  have ew01a : w23.cell? ⟨w3.heap.size, 1, none⟩ = some (.slice Aw0m N01 cw0m) := Xw0_29.out.cell 1
  have ew00b : (w23.alloc (.cells #[.bool r1_00, .slice Ah0m N01 ch0m] 27)).cell? ⟨w3.heap.size, 0, none⟩ = some (.bool r1_00) := Xw0_30.out.cell 0
  have ew01b : (w23.alloc (.cells #[.bool r1_00, .slice Ah0m N01 ch0m] 27)).cell? ⟨w3.heap.size, 1, none⟩ = some (.slice Aw0m N01 cw0m) := Xw0_30.out.cell 1
  have new00 : w23.heap.size ≠ w3.heap.size := (by have := Xw0_29.out.lt; omega)
  go_wp2_with fail
  clear ew00a ew01a ew00b ew01b new00
  refine (eqBigInt_same r1_00 Ah0m Aw0m N01 ch0m cw0m r1_01 _ HN01.out (by unfold maxLen; omega) (Reads.of_own Oh0m_30.out) (Reads.of_own Ow0m_30.out)).mono ?_
  rintro e w24 ⟨rfl, hb⟩
  have BW31 := Lib.hid (BW30.out.trans (hb.mono BW30.out.size))
  have sz31 : (w23.alloc (.cells #[.bool r1_00, .slice Ah0m N01 ch0m] 27)).heap.size ≤ w24.heap.size := hb.size
  have Ow0m_31 := Lib.hid (own_below Ow0m_30.out hb)
  have Ow1_31 := Lib.hid (own_below Ow1_30.out hb)
  have Og0m_31 := Lib.hid (own_below Og0m_30.out hb)
  have Og1_31 := Lib.hid (own_below Og1_30.out hb)
  have Oh0m_31 := Lib.hid (own_below Oh0m_30.out hb)
  have Oh1_31 := Lib.hid (own_below Oh1_30.out hb)
  have XaX_31 := Lib.hid (XaX_30.out.below hb XaX_30.out.lt)
  have Xw0_31 := Lib.hid (Xw0_30.out.below hb Xw0_30.out.lt)
  have Xg0_31 := Lib.hid (Xg0_30.out.below hb Xg0_30.out.lt)
  have Xh0_31 := Lib.hid (Xh0_30.out.below hb Xh0_30.out.lt)
  clear hb
  clear Ow0m_31 Uw0m Xw0_31
  clear Oh0m_31 Uh0m Xh0_31
  go_wp2_with fail
  refine (eqIntS_same Ah1 Aw1 N10 ch1 cw1 r1_10 _ HN10.out (by unfold maxLen; omega) (Reads.of_own Oh1_31.out) (Reads.of_own Ow1_31.out)).mono ?_
  rintro e w25 ⟨rfl, hb⟩
  have BW32 := Lib.hid (BW31.out.trans (hb.mono BW31.out.size))
  have sz32 : w24.heap.size ≤ w25.heap.size := hb.size
  have Ow1_32 := Lib.hid (own_below Ow1_31.out hb)
  have Og0m_32 := Lib.hid (own_below Og0m_31.out hb)
  have Og1_32 := Lib.hid (own_below Og1_31.out hb)
  have Oh1_32 := Lib.hid (own_below Oh1_31.out hb)
  have XaX_32 := Lib.hid (XaX_31.out.below hb XaX_31.out.lt)
  have Xg0_32 := Lib.hid (Xg0_31.out.below hb Xg0_31.out.lt)
  clear hb
  clear Ow1_32 Uw1
  clear Oh1_32 Uh1
  have eg00a : w25.cell? ⟨w6.heap.size, 0, none⟩ = some (.bool r1_00) := Xg0_32.out.cell 0
  have eg01a : w25.cell? ⟨w6.heap.size, 1, none⟩ = some (.slice Ag0m N01 cg0m) := Xg0_32.out.cell 1
  go_wp2_with fail
  clear eg00a eg01a
  refine (heldBigInt_same r1_00 Ag0m N01 cg0m (1) _ (by unfold maxLen; omega) (Reads.of_own Og0m_32.out)).mono ?_
  rintro e w26 ⟨rfl, hb⟩
  have BW33 := Lib.hid (BW32.out.trans (hb.mono BW32.out.size))
  have sz33 : w25.heap.size ≤ w26.heap.size := hb.size
  have Og0m_33 := Lib.hid (own_below Og0m_32.out hb)
  have Og1_33 := Lib.hid (own_below Og1_32.out hb)
  have XaX_33 := Lib.hid (XaX_32.out.below hb XaX_32.out.lt)
  have Xg0_33 := Lib.hid (Xg0_32.out.below hb Xg0_32.out.lt)
  clear hb
  clear Og0m_33 Ug0m Xg0_33
  go_wp2_with fail
  refine (heldIntS_same  Ag1 N10 cg1 (1 + N01) _ (by unfold maxLen; omega) (Reads.of_own Og1_33.out)).mono ?_
  rintro e w27 ⟨rfl, hb⟩
  have BW34 := Lib.hid (BW33.out.trans (hb.mono BW33.out.size))
  have sz34 : w26.heap.size ≤ w27.heap.size := hb.size
  have Og1_34 := Lib.hid (own_below Og1_33.out hb)
  have XaX_34 := Lib.hid (XaX_33.out.below hb XaX_33.out.lt)
  clear hb
  clear Og1_34 Ug1
  go_wp2_with fail
  go_ret
  exact ⟨rfl, BW34.out⟩
-- THE FRAME, by wip/tools/frame.py
theorem own : ownKnob Try.prog.godebug = none := by kernel_rfl
theorem laidOut : laidOutB Try.prog = true := by kernel_rfl

set_option maxRecDepth 100000 in
theorem lifted (os : Os) (started : os.Started) (H : Type) (enc : TypeId × Value → H) :
    ReturnsInHanded {} Try.checked os 12 .any (Rows.fnExactBigIntFloorDivSpec.pre6 enc Try.prog Try.f12 Rows.fnExactBigIntFloorDivRow.domain false) (Rows.fnExactBigIntFloorDivSpec.post enc Try.prog Try.f12 false true false false) := by
  refine returnsInHanded_of_change (C := Try.checked) own started (by kernel_rfl) Try.func12
    (ChangeSpec.witness6 (enc := enc) (C := Try.checked) false ⟨#[], #[.agg #[.bool false, .slice none 0 0], .slice none 0 0], []⟩ 8 (by kernel_rfl) (by kernel_rfl) (by kernel_rfl) (by kernel_rfl)) ?_
  intro W base args ds gs before hval0 hW _ _
  have hval : ∀ (j : Nat) t v, Try.f12.params[j]? = some t → args[j]? = some v → Value.okWide Try.prog W .any base t v := hval0
  have hW' := hW
  obtain ⟨p, q, hA0, hV, rfl, _, _⟩ := hW
  have hA : DataW.TrodAll enc Try.prog W 0 (fun _ => true) true Try.f12.params.toList args.toList ds p := hA0
  rw [Try.params12] at hA hval
  obtain ⟨v0, vs0, d0, ds0, p0, q0, hargs, rfl, rfl, h0, r0⟩ := trodAll_cons hA
  obtain ⟨v1, vs1, d1, ds1, p1, q1, rfl, rfl, rfl, h1, r1⟩ := trodAll_cons r0
  obtain ⟨rfl, rfl, rfl⟩ := trodAll_nil r1
  obtain rfl : args = #[v0, v1] := by cases args; simp_all
  obtain ⟨rfl, rfl⟩ := trodVars_none hV
  have k0 := h0
  have lt0 : ∀ x ∈ p0, x.block < W.heap.size := by obtain ⟨m, hm⟩ := k0; exact DataW.trod_lt m _ _ _ hm
  obtain ⟨g0, a0, len0, cap0, z0, rfl, w0⟩ := open_big (e := 3) Try.underlying24 (by kernel_rfl) (by kernel_rfl) Try.underlying4 Try.underlying22 Try.underlying3 (by kernel_rfl) (hval 0 24 v0 rfl rfl) h0
  obtain ⟨a1, len1, cap1, rfl⟩ := okWide_slice Try.underlying22 (hval 1 22 v1 rfl rfl)
  have k1 := h1
  have lt1 : ∀ x ∈ p1, x.block < W.heap.size := by obtain ⟨m, hm⟩ := k1; exact DataW.trod_lt m _ _ _ hm
  obtain ⟨z1, w1⟩ := isInts_of Try.underlying22 Try.underlying3 (by kernel_rfl) h1
  clear hA0 hval0
  refine (walk (w := W) g0 a0 len0 cap0 z0 w0 a1 len1 cap1 z1 w1).mono fun e W' ⟨he, bel⟩ => ?_
  subst he
  exact ⟨_, rfl, _, _, _, [], _, [], hW', trodAll_mk1 (shut_bool Try.underlying4 _), (trodAll_cons_mk (Below.trod laidOut (by kernel_rfl) (of_decide_eq_true (by kernel_rfl)) k0 bel lt0) (trodAll_cons_mk (Below.trod laidOut (by kernel_rfl) (of_decide_eq_true (by kernel_rfl)) k1 bel lt1) trodAll_mk0)), rfl, bel.frame _, fun h => by cases h⟩

theorem over : Rows.fnExactBigIntFloorDivRow.holds Try.pinned (OpenSpec.ofChange Rows.fnExactBigIntFloorDivSpec) :=
  OpenClaim.holds_of_wide 12 Try.f12 rfl rfl rfl rfl rfl rfl rfl ⟨rfl, rfl, rfl, rfl, rfl⟩ rfl rfl rfl rfl rfl (by kernel_rfl) Try.func12 (by kernel_rfl)
    (of_decide_eq_true (by kernel_rfl)) (by unfold Func.isWrapper; rw [if_neg (of_decide_eq_false (by kernel_rfl))]; exact ⟨rfl, rfl⟩)
    (fun os started H enc _ => lifted os started H enc)

theorem proved : Rows.FnExactBigIntFloorDivSaid := over
end Go.Proofs.Ytjjbgpgpacopjaa.fnExactBigIntFloorDiv
