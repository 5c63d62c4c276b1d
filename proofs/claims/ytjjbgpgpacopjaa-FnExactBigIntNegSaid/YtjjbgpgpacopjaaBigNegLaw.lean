/- For all arguments the law FnExactBigIntNeg returns true: the program's BigIntNeg answers as the model's; no condition on them. -/
import Derived.Test.YtjjbgpgpacopjaaBigLaw
import Derived.Test.YtjjbgpgpacopjaaBigI3
import Derived.ProofKit
import Derived.OpenShut
import Derived.ShutString
import Derived.Lib.SmallJoins
namespace Go.Proofs.Ytjjbgpgpacopjaa.fnExactBigIntNeg
open Go.ChangeShapes Go.WideShapes Go.ChangeAt Go.RowKit Go.Joins Go.Deep
open Go.ChangeMaps (open_string shut_string)

set_option maxRecDepth 100000 in
set_option maxHeartbeats 3200000 in
theorem walk {w : World} (a0g : Bool) (a0m : Option Addr) (len0m cap0m : Nat) (z0m : List Int) (hz0m : IsInts w a0m len0m z0m) :
    Calls Try.prog 6 #[.agg #[.bool a0g, .slice a0m len0m cap0m]] w fun e w' => e = .returned (.bool true) ∧ Below w.heap.size w w' := by
  have hmz0m : len0m ≤ maxLen := hz0m.2.1
  have Hz0m := Lib.hid hz0m
  clear hz0m
  unfold maxLen at hmz0m
  have BW0 : Hid (Below w.heap.size w w) := Below.refl _ _
  have BW1 := Lib.hid (BW0.out.alloc BW0.out.size (.cells #[.bool a0g, .slice a0m len0m cap0m] 24))
  have XaX_1 := Lib.hid (by have := Box.new w 24 #[.bool a0g, .slice a0m len0m cap0m]; simpa using this : Box (w.alloc (.cells #[.bool a0g, .slice a0m len0m cap0m] 24)) (w.heap.size) 24 #[.bool a0g, .slice a0m len0m cap0m])
  have sz1 : w.heap.size ≤ (w.alloc (.cells #[.bool a0g, .slice a0m len0m cap0m] 24)).heap.size := (by simp)
  by_cases bigs0 : (1048576 : Int) - (len0m : Int) < 0
  · go_enter Try.func6, Try.ntmps6
    go_wp2_with fail
    refine (szBigInt_neg a0g a0m len0m cap0m ((1048576 : Int)) _ (by omega) (by omega) (by unfold maxLen; omega) (by omega)).mono ?_
    rintro e ws0 ⟨rfl, hb⟩
    have BW2 := Lib.hid (BW1.out.trans (hb.mono BW1.out.size))
    have sz2 : (w.alloc (.cells #[.bool a0g, .slice a0m len0m cap0m] 24)).heap.size ≤ ws0.heap.size := hb.size
    have XaX_2 := Lib.hid (XaX_1.out.below hb XaX_1.out.lt)
    clear hb
    go_wp2_with fail
    go_ret
    exact ⟨rfl, BW2.out⟩
  have Inz0m : Hid (InI w a0m len0m z0m) := ⟨Hz0m.out.1, by omega, Hz0m.out.2.2.1, Hz0m.out.2.2.2⟩
  go_enter Try.func6, Try.ntmps6
  go_wp2_with fail
  refine (szBigInt_pos a0g a0m len0m cap0m ((1048576 : Int)) _ (by omega) (by omega)  (by omega)).mono ?_
  rintro e ws0 ⟨rfl, hb⟩
  have BW2 := Lib.hid (BW1.out.trans (hb.mono BW1.out.size))
  have sz2 : (w.alloc (.cells #[.bool a0g, .slice a0m len0m cap0m] 24)).heap.size ≤ ws0.heap.size := hb.size
  have XaX_2 := Lib.hid (XaX_1.out.below hb XaX_1.out.lt)
  clear hb
  have eaX0a : ws0.cell? ⟨w.heap.size, 0, none⟩ = some (.bool a0g) := XaX_2.out.cell 0
  have eaX1a : ws0.cell? ⟨w.heap.size, 1, none⟩ = some (.slice a0m len0m cap0m) := XaX_2.out.cell 1
  go_wp2_with fail
  clear eaX0a eaX1a
  refine (toBigInt_any a0g a0m len0m cap0m z0m _ Inz0m.out.1 Inz0m.out.2.1 (Inz0m.out.2.2.1.below BW2.out)).mono ?_
  rintro e w1 ⟨v0, rfl, ho0, hb⟩
  have BW3 := Lib.hid (BW2.out.trans (hb.mono BW2.out.size))
  have sz3 : ws0.heap.size ≤ w1.heap.size := hb.size
  have XaX_3 := Lib.hid (XaX_2.out.below hb XaX_2.out.lt)
  obtain ⟨At1m, ct1m, rfl⟩ := own_slice ho0
  have Ut1m := Lib.hid (fun k (hk : (Value.slice At1m len0m ct1m).ownBlock = some k) => (ho0.lt k hk).2)
  have Ot1m_3 := Lib.hid ho0
  clear ho0
  clear hb
  go_wp2_with fail
  refine (spec_bigIntNeg a0g At1m len0m ct1m z0m _ ⟨Inz0m.out.1, Inz0m.out.2.1, Reads.of_own Ot1m_3.out, Inz0m.out.2.2.2⟩ (room_own Ot1m_3.out)).mono ?_
  rintro e w2 ⟨r1_00, r1_01, v1_01, rfl, his, ho01, hb⟩
  have BW4 := Lib.hid (BW3.out.trans (hb.mono BW3.out.size))
  have sz4 : w1.heap.size ≤ w2.heap.size := hb.size
  have Ot1m_4 := Lib.hid (own_below Ot1m_3.out hb)
  have XaX_4 := Lib.hid (XaX_3.out.below hb XaX_3.out.lt)
  clear hb
  have IS := Lib.hid his
  clear his
  obtain ⟨hl, ho01⟩ := ho01
  obtain ⟨N01, hN⟩ : ∃ N, N = r1_01.length := ⟨_, rfl⟩
  rw [← hN] at hl ho01
  have HN01 := Lib.hid hN.symm
  have hl01 := hl
  clear hN hl
  obtain ⟨Aw0m, cw0m, rfl⟩ := own_slice ho01
  have Uw0m := Lib.hid (fun k (hk : (Value.slice Aw0m N01 cw0m).ownBlock = some k) => (ho01.lt k hk).2)
  have Ow0m_4 := Lib.hid ho01
  clear ho01
  clear Ot1m_4 Ut1m
  have BW5 := Lib.hid (BW4.out.alloc BW4.out.size (.cells #[.bool r1_00, .slice Aw0m N01 cw0m] 27))
  have sz5 : w2.heap.size ≤ (w2.alloc (.cells #[.bool r1_00, .slice Aw0m N01 cw0m] 27)).heap.size := (by simp)
  have Ow0m_5 := Lib.hid (Ow0m_4.out.alloc (.cells #[.bool r1_00, .slice Aw0m N01 cw0m] 27))
  have XaX_5 := Lib.hid (XaX_4.out.alloc (.cells #[.bool r1_00, .slice Aw0m N01 cw0m] 27))
  have Xw0_5 := Lib.hid (Box.new w2 27 #[.bool r1_00, .slice Aw0m N01 cw0m])
  have eaX0a : w2.cell? ⟨w.heap.size, 0, none⟩ = some (.bool a0g) := XaX_4.out.cell 0
  have eaX1a : w2.cell? ⟨w.heap.size, 1, none⟩ = some (.slice a0m len0m cap0m) := XaX_4.out.cell 1
  have eaX0b : (w2.alloc (.cells #[.bool r1_00, .slice Aw0m N01 cw0m] 27)).cell? ⟨w.heap.size, 0, none⟩ = some (.bool a0g) := XaX_5.out.cell 0
  have eaX1b : (w2.alloc (.cells #[.bool r1_00, .slice Aw0m N01 cw0m] 27)).cell? ⟨w.heap.size, 1, none⟩ = some (.slice a0m len0m cap0m) := XaX_5.out.cell 1
  have neaX0 : w2.heap.size ≠ w.heap.size := (by have := XaX_4.out.lt; omega)
  go_wp2_with fail
  clear eaX0a eaX1a eaX0b eaX1b neaX0
  refine (toBigInt_any a0g a0m len0m cap0m z0m _ Inz0m.out.1 Inz0m.out.2.1 (Inz0m.out.2.2.1.below BW5.out)).mono ?_
  rintro e w3 ⟨v0, rfl, ho0, hb⟩
  have BW6 := Lib.hid (BW5.out.trans (hb.mono BW5.out.size))
  have sz6 : (w2.alloc (.cells #[.bool r1_00, .slice Aw0m N01 cw0m] 27)).heap.size ≤ w3.heap.size := hb.size
  have Ow0m_6 := Lib.hid (own_below Ow0m_5.out hb)
  have XaX_6 := Lib.hid (XaX_5.out.below hb XaX_5.out.lt)
  have Xw0_6 := Lib.hid (Xw0_5.out.below hb Xw0_5.out.lt)
  obtain ⟨Ax0m, cx0m, rfl⟩ := own_slice ho0
  have Ux0m := Lib.hid (fun k (hk : (Value.slice Ax0m len0m cx0m).ownBlock = some k) => (ho0.lt k hk).2)
  have Ox0m_6 := Lib.hid ho0
  clear ho0
  clear hb
  have BW7 := Lib.hid (BW6.out.alloc BW6.out.size (.cells #[.bool a0g, .slice Ax0m len0m cx0m] 27))
  have sz7 : w3.heap.size ≤ (w3.alloc (.cells #[.bool a0g, .slice Ax0m len0m cx0m] 27)).heap.size := (by simp)
  have Ow0m_7 := Lib.hid (Ow0m_6.out.alloc (.cells #[.bool a0g, .slice Ax0m len0m cx0m] 27))
  have Ox0m_7 := Lib.hid (Ox0m_6.out.alloc (.cells #[.bool a0g, .slice Ax0m len0m cx0m] 27))
  have XaX_7 := Lib.hid (XaX_6.out.alloc (.cells #[.bool a0g, .slice Ax0m len0m cx0m] 27))
  have Xw0_7 := Lib.hid (Xw0_6.out.alloc (.cells #[.bool a0g, .slice Ax0m len0m cx0m] 27))
  have Xx0_7 := Lib.hid (Box.new w3 27 #[.bool a0g, .slice Ax0m len0m cx0m])
  go_wp2_with fail
  refine (impl_bigIntNeg a0g Ax0m len0m cx0m z0m _ ⟨Inz0m.out.1, Inz0m.out.2.1, Reads.of_own Ox0m_7.out, Inz0m.out.2.2.2⟩ (room_own Ox0m_7.out)).mono ?_
  rintro e w4 ⟨r2_00, r2_01, v2_01, rfl, his, ho01, hb⟩
  have BW8 := Lib.hid (BW7.out.trans (hb.mono BW7.out.size))
  have sz8 : (w3.alloc (.cells #[.bool a0g, .slice Ax0m len0m cx0m] 27)).heap.size ≤ w4.heap.size := hb.size
  have Ow0m_8 := Lib.hid (own_below Ow0m_7.out hb)
  have Ox0m_8 := Lib.hid (own_below Ox0m_7.out hb)
  have XaX_8 := Lib.hid (XaX_7.out.below hb XaX_7.out.lt)
  have Xw0_8 := Lib.hid (Xw0_7.out.below hb Xw0_7.out.lt)
  have Xx0_8 := Lib.hid (Xx0_7.out.below hb Xx0_7.out.lt)
  clear hb
  obtain ⟨rfl, rfl⟩ := bigIntNeg_unique IS.out his
  clear his
  replace ho01 := ho01.2
  rw [HN01.out] at ho01
  obtain ⟨Ag0m, cg0m, rfl⟩ := own_slice ho01
  have Ug0m := Lib.hid (fun k (hk : (Value.slice Ag0m N01 cg0m).ownBlock = some k) => (ho01.lt k hk).2)
  have Og0m_8 := Lib.hid ho01
  clear ho01
  have BW9 := Lib.hid (BW8.out.alloc BW8.out.size (.cells #[.bool r1_00, .slice Ag0m N01 cg0m] 27))
  have sz9 : w4.heap.size ≤ (w4.alloc (.cells #[.bool r1_00, .slice Ag0m N01 cg0m] 27)).heap.size := (by simp)
  have Ow0m_9 := Lib.hid (Ow0m_8.out.alloc (.cells #[.bool r1_00, .slice Ag0m N01 cg0m] 27))
  have Ox0m_9 := Lib.hid (Ox0m_8.out.alloc (.cells #[.bool r1_00, .slice Ag0m N01 cg0m] 27))
  have Og0m_9 := Lib.hid (Og0m_8.out.alloc (.cells #[.bool r1_00, .slice Ag0m N01 cg0m] 27))
  have XaX_9 := Lib.hid (XaX_8.out.alloc (.cells #[.bool r1_00, .slice Ag0m N01 cg0m] 27))
  have Xw0_9 := Lib.hid (Xw0_8.out.alloc (.cells #[.bool r1_00, .slice Ag0m N01 cg0m] 27))
  have Xx0_9 := Lib.hid (Xx0_8.out.alloc (.cells #[.bool r1_00, .slice Ag0m N01 cg0m] 27))
  have Xg0_9 := Lib.hid (Box.new w4 27 #[.bool r1_00, .slice Ag0m N01 cg0m])
  have ew00a : w4.cell? ⟨w2.heap.size, 0, none⟩ = some (.bool r1_00) := Xw0_8.out.cell 0
  have ew01a : w4.cell? ⟨w2.heap.size, 1, none⟩ = some (.slice Aw0m N01 cw0m) := Xw0_8.out.cell 1
  have ew00b : (w4.alloc (.cells #[.bool r1_00, .slice Ag0m N01 cg0m] 27)).cell? ⟨w2.heap.size, 0, none⟩ = some (.bool r1_00) := Xw0_9.out.cell 0
  have ew01b : (w4.alloc (.cells #[.bool r1_00, .slice Ag0m N01 cg0m] 27)).cell? ⟨w2.heap.size, 1, none⟩ = some (.slice Aw0m N01 cw0m) := Xw0_9.out.cell 1
  have new00 : w4.heap.size ≠ w2.heap.size := (by have := Xw0_8.out.lt; omega)
  go_wp2_with fail
  clear ew00a ew01a ew00b ew01b new00
  refine (eqBigInt_same r1_00 Ag0m Aw0m N01 cg0m cw0m r1_01 _ HN01.out (by unfold maxLen; omega) (Reads.of_own Og0m_9.out) (Reads.of_own Ow0m_9.out)).mono ?_
  rintro e w5 ⟨rfl, hb⟩
  have BW10 := Lib.hid (BW9.out.trans (hb.mono BW9.out.size))
  have sz10 : (w4.alloc (.cells #[.bool r1_00, .slice Ag0m N01 cg0m] 27)).heap.size ≤ w5.heap.size := hb.size
  have Ow0m_10 := Lib.hid (own_below Ow0m_9.out hb)
  have Ox0m_10 := Lib.hid (own_below Ox0m_9.out hb)
  have Og0m_10 := Lib.hid (own_below Og0m_9.out hb)
  have XaX_10 := Lib.hid (XaX_9.out.below hb XaX_9.out.lt)
  have Xw0_10 := Lib.hid (Xw0_9.out.below hb Xw0_9.out.lt)
  have Xx0_10 := Lib.hid (Xx0_9.out.below hb Xx0_9.out.lt)
  have Xg0_10 := Lib.hid (Xg0_9.out.below hb Xg0_9.out.lt)
  clear hb
  go_wp2_with fail
  have BW11 := Lib.hid BW10.out.drew
  have sz11 : w5.heap.size ≤ w5.drew.heap.size := Nat.le_refl _
  have Ow0m_11 := Lib.hid (own_drew Ow0m_10.out)
  have Ox0m_11 := Lib.hid (own_drew Ox0m_10.out)
  have Og0m_11 := Lib.hid (own_drew Og0m_10.out)
  have XaX_11 := Lib.hid XaX_10.out.drew
  have Xw0_11 := Lib.hid Xw0_10.out.drew
  have Xx0_11 := Lib.hid Xx0_10.out.drew
  have Xg0_11 := Lib.hid Xg0_10.out.drew
  go_region_held3 (fun w' => w'.cell? ⟨w3.heap.size, 0, none⟩ = some (.bool a0g) ∧ w'.cell? ⟨w3.heap.size, 1, none⟩ = some (.slice Ax0m len0m cx0m) ∧ w'.cell? ⟨w.heap.size, 0, none⟩ = some (.bool a0g) ∧ w'.cell? ⟨w.heap.size, 1, none⟩ = some (.slice a0m len0m cap0m)) (first | exact ⟨Xx0_11.out.cell 0, Xx0_11.out.cell 1, XaX_11.out.cell 0, XaX_11.out.cell 1⟩ | exact ⟨Xx0_12.out.cell 0, Xx0_12.out.cell 1, XaX_12.out.cell 0, XaX_12.out.cell 1⟩ | exact ⟨Xx0_13.out.cell 0, Xx0_13.out.cell 1, XaX_13.out.cell 0, XaX_13.out.cell 1⟩) (first | (go_at_call 17; refine (eqBigInt_same a0g Ax0m At2m len0m cx0m ct2m z0m _ Inz0m.out.1 (by unfold maxLen; omega) (Reads.of_own Ox0m_12.out) (Reads.of_own Ot2m_12.out)).mono ?_; rintro e w7 ⟨rfl, hb⟩; have BW13 := Lib.hid (BW12.out.trans (hb.mono BW12.out.size)); have sz13 : w6.heap.size ≤ w7.heap.size := hb.size; have Ow0m_13 := Lib.hid (own_below Ow0m_12.out hb); have Ox0m_13 := Lib.hid (own_below Ox0m_12.out hb); have Og0m_13 := Lib.hid (own_below Og0m_12.out hb); have Ot2m_13 := Lib.hid (own_below Ot2m_12.out hb); have XaX_13 := Lib.hid (XaX_12.out.below hb XaX_12.out.lt); have Xw0_13 := Lib.hid (Xw0_12.out.below hb Xw0_12.out.lt); have Xx0_13 := Lib.hid (Xx0_12.out.below hb Xx0_12.out.lt); have Xg0_13 := Lib.hid (Xg0_12.out.below hb Xg0_12.out.lt); clear hb) | (go_at_call 15; refine (toBigInt_any a0g a0m len0m cap0m z0m _ Inz0m.out.1 Inz0m.out.2.1 (Inz0m.out.2.2.1.below BW11.out)).mono ?_; rintro e w6 ⟨v0, rfl, ho0, hb⟩; have BW12 := Lib.hid (BW11.out.trans (hb.mono BW11.out.size)); have sz12 : w5.drew.heap.size ≤ w6.heap.size := hb.size; have Ow0m_12 := Lib.hid (own_below Ow0m_11.out hb); have Ox0m_12 := Lib.hid (own_below Ox0m_11.out hb); have Og0m_12 := Lib.hid (own_below Og0m_11.out hb); have XaX_12 := Lib.hid (XaX_11.out.below hb XaX_11.out.lt); have Xw0_12 := Lib.hid (Xw0_11.out.below hb Xw0_11.out.lt); have Xx0_12 := Lib.hid (Xx0_11.out.below hb Xx0_11.out.lt); have Xg0_12 := Lib.hid (Xg0_11.out.below hb Xg0_11.out.lt); obtain ⟨At2m, ct2m, rfl⟩ := own_slice ho0; have Ut2m := Lib.hid (fun k (hk : (Value.slice At2m len0m ct2m).ownBlock = some k) => (ho0.lt k hk).2); have Ot2m_12 := Lib.hid ho0; clear ho0; clear hb))
  clear Ot2m_13 Ut2m
  have ex00a : w7.cell? ⟨w3.heap.size, 0, none⟩ = some (.bool a0g) := Xx0_13.out.cell 0
  have ex01a : w7.cell? ⟨w3.heap.size, 1, none⟩ = some (.slice Ax0m len0m cx0m) := Xx0_13.out.cell 1
  go_wp2_with fail
  clear ex00a ex01a
  refine (markBigInt_own a0g _ Ax0m len0m cx0m (1) _ _ (by unfold maxLen; omega) Ox0m_13.out (ints_are _)).mono ?_
  rintro e w8 ⟨rfl, ho, hg⟩
  have BW14 := Lib.hid (below_marked BW13.out Ox0m_13.out hg (by omega) (by omega))
  have sz14 : w7.heap.size ≤ w8.heap.size := hg.size
  have Ow0m_14 := Lib.hid (Ow0m_13.out.kept hg (own_apart Ow0m_13.out Uw0m.out Ox0m_13.out Ux0m.out (.inl (by omega))))
  have Og0m_14 := Lib.hid (Og0m_13.out.kept hg (own_apart Og0m_13.out Ug0m.out Ox0m_13.out Ux0m.out (.inr (by omega))))
  have XaX_14 := Lib.hid (XaX_13.out.grown hg (ne_own XaX_13.out Ox0m_13.out))
  have Xw0_14 := Lib.hid (Xw0_13.out.grown hg (ne_own Xw0_13.out Ox0m_13.out))
  have Xx0_14 := Lib.hid (Xx0_13.out.grown hg (ne_own Xx0_13.out Ox0m_13.out))
  have Xg0_14 := Lib.hid (Xg0_13.out.grown hg (ne_own Xg0_13.out Ox0m_13.out))
  have Ox0m_14 := Lib.hid ho
  clear ho hg
  clear Ox0m_14 Ux0m Xx0_14
  have eg00a : w8.cell? ⟨w4.heap.size, 0, none⟩ = some (.bool r1_00) := Xg0_14.out.cell 0
  have eg01a : w8.cell? ⟨w4.heap.size, 1, none⟩ = some (.slice Ag0m N01 cg0m) := Xg0_14.out.cell 1
  have ew00a : w8.cell? ⟨w2.heap.size, 0, none⟩ = some (.bool r1_00) := Xw0_14.out.cell 0
  have ew01a : w8.cell? ⟨w2.heap.size, 1, none⟩ = some (.slice Aw0m N01 cw0m) := Xw0_14.out.cell 1
  go_wp2_with fail
  clear eg00a eg01a ew00a ew01a
  refine (eqBigInt_same r1_00 Ag0m Aw0m N01 cg0m cw0m r1_01 _ HN01.out (by unfold maxLen; omega) (Reads.of_own Og0m_14.out) (Reads.of_own Ow0m_14.out)).mono ?_
  rintro e w9 ⟨rfl, hb⟩
  have BW15 := Lib.hid (BW14.out.trans (hb.mono BW14.out.size))
  have sz15 : w8.heap.size ≤ w9.heap.size := hb.size
  have Ow0m_15 := Lib.hid (own_below Ow0m_14.out hb)
  have Og0m_15 := Lib.hid (own_below Og0m_14.out hb)
  have XaX_15 := Lib.hid (XaX_14.out.below hb XaX_14.out.lt)
  have Xw0_15 := Lib.hid (Xw0_14.out.below hb Xw0_14.out.lt)
  have Xg0_15 := Lib.hid (Xg0_14.out.below hb Xg0_14.out.lt)
  clear hb
  have eg00a : w9.cell? ⟨w4.heap.size, 0, none⟩ = some (.bool r1_00) := Xg0_15.out.cell 0
  have eg01a : w9.cell? ⟨w4.heap.size, 1, none⟩ = some (.slice Ag0m N01 cg0m) := Xg0_15.out.cell 1
  go_wp2_with fail
  clear eg00a eg01a
  refine (markBigInt_own r1_00 _ Ag0m N01 cg0m (1) _ _ (by unfold maxLen; omega) Og0m_15.out (ints_are _)).mono ?_
  rintro e w10 ⟨rfl, ho, hg⟩
  have BW16 := Lib.hid (below_marked BW15.out Og0m_15.out hg (by omega) (by omega))
  have sz16 : w9.heap.size ≤ w10.heap.size := hg.size
  have Ow0m_16 := Lib.hid (Ow0m_15.out.kept hg (own_apart Ow0m_15.out Uw0m.out Og0m_15.out Ug0m.out (.inl (by omega))))
  have XaX_16 := Lib.hid (XaX_15.out.grown hg (ne_own XaX_15.out Og0m_15.out))
  have Xw0_16 := Lib.hid (Xw0_15.out.grown hg (ne_own Xw0_15.out Og0m_15.out))
  have Xg0_16 := Lib.hid (Xg0_15.out.grown hg (ne_own Xg0_15.out Og0m_15.out))
  have Og0m_16 := Lib.hid ho
  clear ho hg
  have eg00a : w10.cell? ⟨w4.heap.size, 0, none⟩ = some (.bool r1_00) := Xg0_16.out.cell 0
  have eg01a : w10.cell? ⟨w4.heap.size, 1, none⟩ = some (.slice Ag0m N01 cg0m) := Xg0_16.out.cell 1
  go_wp2_with fail
  clear eg00a eg01a
  refine (heldBigInt_same r1_00 Ag0m N01 cg0m (1) _ (by unfold maxLen; omega) (Reads.of_own Og0m_16.out)).mono ?_
  rintro e w11 ⟨rfl, hb⟩
  have BW17 := Lib.hid (BW16.out.trans (hb.mono BW16.out.size))
  have sz17 : w10.heap.size ≤ w11.heap.size := hb.size
  have Ow0m_17 := Lib.hid (own_below Ow0m_16.out hb)
  have Og0m_17 := Lib.hid (own_below Og0m_16.out hb)
  have XaX_17 := Lib.hid (XaX_16.out.below hb XaX_16.out.lt)
  have Xw0_17 := Lib.hid (Xw0_16.out.below hb Xw0_16.out.lt)
  have Xg0_17 := Lib.hid (Xg0_16.out.below hb Xg0_16.out.lt)
  clear hb
  have eaX0a : w11.cell? ⟨w.heap.size, 0, none⟩ = some (.bool a0g) := XaX_17.out.cell 0
  have eaX1a : w11.cell? ⟨w.heap.size, 1, none⟩ = some (.slice a0m len0m cap0m) := XaX_17.out.cell 1
  go_wp2_with fail
  clear eaX0a eaX1a
  refine (toBigInt_any a0g a0m len0m cap0m z0m _ Inz0m.out.1 Inz0m.out.2.1 (Inz0m.out.2.2.1.below BW17.out)).mono ?_
  rintro e w12 ⟨v0, rfl, ho0, hb⟩
  have BW18 := Lib.hid (BW17.out.trans (hb.mono BW17.out.size))
  have sz18 : w11.heap.size ≤ w12.heap.size := hb.size
  have Ow0m_18 := Lib.hid (own_below Ow0m_17.out hb)
  have Og0m_18 := Lib.hid (own_below Og0m_17.out hb)
  have XaX_18 := Lib.hid (XaX_17.out.below hb XaX_17.out.lt)
  have Xw0_18 := Lib.hid (Xw0_17.out.below hb Xw0_17.out.lt)
  have Xg0_18 := Lib.hid (Xg0_17.out.below hb Xg0_17.out.lt)
  obtain ⟨At3m, ct3m, rfl⟩ := own_slice ho0
  have Ut3m := Lib.hid (fun k (hk : (Value.slice At3m len0m ct3m).ownBlock = some k) => (ho0.lt k hk).2)
  have Ot3m_18 := Lib.hid ho0
  clear ho0
  clear hb
  go_wp2_with fail
  refine (impl_bigIntNeg a0g At3m len0m ct3m z0m _ ⟨Inz0m.out.1, Inz0m.out.2.1, Reads.of_own Ot3m_18.out, Inz0m.out.2.2.2⟩ (room_own Ot3m_18.out)).mono ?_
  rintro e w13 ⟨r3_00, r3_01, v3_01, rfl, his, ho01, hb⟩
  have BW19 := Lib.hid (BW18.out.trans (hb.mono BW18.out.size))
  have sz19 : w12.heap.size ≤ w13.heap.size := hb.size
  have Ow0m_19 := Lib.hid (own_below Ow0m_18.out hb)
  have Og0m_19 := Lib.hid (own_below Og0m_18.out hb)
  have Ot3m_19 := Lib.hid (own_below Ot3m_18.out hb)
  have XaX_19 := Lib.hid (XaX_18.out.below hb XaX_18.out.lt)
  have Xw0_19 := Lib.hid (Xw0_18.out.below hb Xw0_18.out.lt)
  have Xg0_19 := Lib.hid (Xg0_18.out.below hb Xg0_18.out.lt)
  clear hb
  obtain ⟨rfl, rfl⟩ := bigIntNeg_unique IS.out his
  clear his
  replace ho01 := ho01.2
  rw [HN01.out] at ho01
  obtain ⟨Ah0m, ch0m, rfl⟩ := own_slice ho01
  have Uh0m := Lib.hid (fun k (hk : (Value.slice Ah0m N01 ch0m).ownBlock = some k) => (ho01.lt k hk).2)
  have Oh0m_19 := Lib.hid ho01
  clear ho01
  clear Ot3m_19 Ut3m
  have BW20 := Lib.hid (BW19.out.alloc BW19.out.size (.cells #[.bool r1_00, .slice Ah0m N01 ch0m] 27))
  have sz20 : w13.heap.size ≤ (w13.alloc (.cells #[.bool r1_00, .slice Ah0m N01 ch0m] 27)).heap.size := (by simp)
  have Ow0m_20 := Lib.hid (Ow0m_19.out.alloc (.cells #[.bool r1_00, .slice Ah0m N01 ch0m] 27))
  have Og0m_20 := Lib.hid (Og0m_19.out.alloc (.cells #[.bool r1_00, .slice Ah0m N01 ch0m] 27))
  have Oh0m_20 := Lib.hid (Oh0m_19.out.alloc (.cells #[.bool r1_00, .slice Ah0m N01 ch0m] 27))
  have XaX_20 := Lib.hid (XaX_19.out.alloc (.cells #[.bool r1_00, .slice Ah0m N01 ch0m] 27))
  have Xw0_20 := Lib.hid (Xw0_19.out.alloc (.cells #[.bool r1_00, .slice Ah0m N01 ch0m] 27))
  have Xg0_20 := Lib.hid (Xg0_19.out.alloc (.cells #[.bool r1_00, .slice Ah0m N01 ch0m] 27))
  have Xh0_20 := Lib.hid (Box.new w13 27 #[.bool r1_00, .slice Ah0m N01 ch0m])
  have ew00a : w13.cell? ⟨w2.heap.size, 0, none⟩ = some (.bool r1_00) := Xw0_19.out.cell 0
  have ew01a : w13.cell? ⟨w2.heap.size, 1, none⟩ = some (.slice Aw0m N01 cw0m) := Xw0_19.out.cell 1
  have ew00b : (w13.alloc (.cells #[.bool r1_00, .slice Ah0m N01 ch0m] 27)).cell? ⟨w2.heap.size, 0, none⟩ = some (.bool r1_00) := Xw0_20.out.cell 0
  have ew01b : (w13.alloc (.cells #[.bool r1_00, .slice Ah0m N01 ch0m] 27)).cell? ⟨w2.heap.size, 1, none⟩ = some (.slice Aw0m N01 cw0m) := Xw0_20.out.cell 1
  have new00 : w13.heap.size ≠ w2.heap.size := (by have := Xw0_19.out.lt; omega)
  go_wp2_with fail
  clear ew00a ew01a ew00b ew01b new00
  refine (eqBigInt_same r1_00 Ah0m Aw0m N01 ch0m cw0m r1_01 _ HN01.out (by unfold maxLen; omega) (Reads.of_own Oh0m_20.out) (Reads.of_own Ow0m_20.out)).mono ?_
  rintro e w14 ⟨rfl, hb⟩
  have BW21 := Lib.hid (BW20.out.trans (hb.mono BW20.out.size))
  have sz21 : (w13.alloc (.cells #[.bool r1_00, .slice Ah0m N01 ch0m] 27)).heap.size ≤ w14.heap.size := hb.size
  have Ow0m_21 := Lib.hid (own_below Ow0m_20.out hb)
  have Og0m_21 := Lib.hid (own_below Og0m_20.out hb)
  have Oh0m_21 := Lib.hid (own_below Oh0m_20.out hb)
  have XaX_21 := Lib.hid (XaX_20.out.below hb XaX_20.out.lt)
  have Xw0_21 := Lib.hid (Xw0_20.out.below hb Xw0_20.out.lt)
  have Xg0_21 := Lib.hid (Xg0_20.out.below hb Xg0_20.out.lt)
  have Xh0_21 := Lib.hid (Xh0_20.out.below hb Xh0_20.out.lt)
  clear hb
  clear Ow0m_21 Uw0m Xw0_21
  clear Oh0m_21 Uh0m Xh0_21
  have eg00a : w14.cell? ⟨w4.heap.size, 0, none⟩ = some (.bool r1_00) := Xg0_21.out.cell 0
  have eg01a : w14.cell? ⟨w4.heap.size, 1, none⟩ = some (.slice Ag0m N01 cg0m) := Xg0_21.out.cell 1
  go_wp2_with fail
  clear eg00a eg01a
  refine (heldBigInt_same r1_00 Ag0m N01 cg0m (1) _ (by unfold maxLen; omega) (Reads.of_own Og0m_21.out)).mono ?_
  rintro e w15 ⟨rfl, hb⟩
  have BW22 := Lib.hid (BW21.out.trans (hb.mono BW21.out.size))
  have sz22 : w14.heap.size ≤ w15.heap.size := hb.size
  have Og0m_22 := Lib.hid (own_below Og0m_21.out hb)
  have XaX_22 := Lib.hid (XaX_21.out.below hb XaX_21.out.lt)
  have Xg0_22 := Lib.hid (Xg0_21.out.below hb Xg0_21.out.lt)
  clear hb
  clear Og0m_22 Ug0m Xg0_22
  go_wp2_with fail
  go_ret
  exact ⟨rfl, BW22.out⟩
-- THE FRAME, by wip/tools/frame.py
theorem own : ownKnob Try.prog.godebug = none := by kernel_rfl
theorem laidOut : laidOutB Try.prog = true := by kernel_rfl

set_option maxRecDepth 100000 in
theorem lifted (os : Os) (started : os.Started) (H : Type) (enc : TypeId × Value → H) :
    ReturnsInHanded {} Try.checked os 6 .any (Rows.fnExactBigIntNegSpec.pre6 enc Try.prog Try.f6 Rows.fnExactBigIntNegRow.domain false) (Rows.fnExactBigIntNegSpec.post enc Try.prog Try.f6 false true false false) := by
  refine returnsInHanded_of_change (C := Try.checked) own started (by kernel_rfl) Try.func6
    (ChangeSpec.witness6 (enc := enc) (C := Try.checked) false ⟨#[], #[.agg #[.bool false, .slice none 0 0]], []⟩ 8 (by kernel_rfl) (by kernel_rfl) (by kernel_rfl) (by kernel_rfl)) ?_
  intro W base args ds gs before hval0 hW _ _
  have hval : ∀ (j : Nat) t v, Try.f6.params[j]? = some t → args[j]? = some v → Value.okWide Try.prog W .any base t v := hval0
  have hW' := hW
  obtain ⟨p, q, hA0, hV, rfl, _, _⟩ := hW
  have hA : DataW.TrodAll enc Try.prog W 0 (fun _ => true) true Try.f6.params.toList args.toList ds p := hA0
  rw [Try.params6] at hA hval
  obtain ⟨v0, vs0, d0, ds0, p0, q0, hargs, rfl, rfl, h0, r0⟩ := trodAll_cons hA
  obtain ⟨rfl, rfl, rfl⟩ := trodAll_nil r0
  obtain rfl : args = #[v0] := by cases args; simp_all
  obtain ⟨rfl, rfl⟩ := trodVars_none hV
  have k0 := h0
  have lt0 : ∀ x ∈ p0, x.block < W.heap.size := by obtain ⟨m, hm⟩ := k0; exact DataW.trod_lt m _ _ _ hm
  obtain ⟨g0, a0, len0, cap0, z0, rfl, w0⟩ := open_big (e := 3) Try.underlying24 (by kernel_rfl) (by kernel_rfl) Try.underlying4 Try.underlying22 Try.underlying3 (by kernel_rfl) (hval 0 24 v0 rfl rfl) h0
  clear hA0 hval0
  refine (walk (w := W) g0 a0 len0 cap0 z0 w0).mono fun e W' ⟨he, bel⟩ => ?_
  subst he
  exact ⟨_, rfl, _, _, _, [], _, [], hW', trodAll_mk1 (shut_bool Try.underlying4 _), (trodAll_cons_mk (Below.trod laidOut (by kernel_rfl) (of_decide_eq_true (by kernel_rfl)) k0 bel lt0) trodAll_mk0), rfl, bel.frame _, fun h => by cases h⟩

theorem over : Rows.fnExactBigIntNegRow.holds Try.pinned (OpenSpec.ofChange Rows.fnExactBigIntNegSpec) :=
  OpenClaim.holds_of_wide 6 Try.f6 rfl rfl rfl rfl rfl rfl rfl ⟨rfl, rfl, rfl, rfl, rfl⟩ rfl rfl rfl rfl rfl (by kernel_rfl) Try.func6 (by kernel_rfl)
    (of_decide_eq_true (by kernel_rfl)) (by unfold Func.isWrapper; rw [if_neg (of_decide_eq_false (by kernel_rfl))]; exact ⟨rfl, rfl⟩)
    (fun os started H enc _ => lifted os started H enc)

theorem proved : Rows.FnExactBigIntNegSaid := over
end Go.Proofs.Ytjjbgpgpacopjaa.fnExactBigIntNeg
