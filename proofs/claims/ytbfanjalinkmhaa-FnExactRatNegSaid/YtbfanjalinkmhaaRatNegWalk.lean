/- The walk of the law: for all arguments the law FnExactRatNeg returns true: the program's RatNeg answers as the model's; no condition on them. -/
import Derived.Test.YtbfanjalinkmhaaRatLaw
import Derived.Test.YtbfanjalinkmhaaRatS8
import Derived.ProofKit
import Derived.OpenShut
import Derived.ShutString
import Derived.Lib.SmallJoins
namespace Go.Proofs.Ytbfanjalinkmhaa.fnExactRatNeg
set_option maxRecDepth 100000
open Go.ChangeShapes Go.WideShapes Go.ChangeAt Go.RowKit Go.Joins Go.Deep
open Go.ChangeMaps (open_string shut_string)

set_option maxRecDepth 100000 in
set_option maxHeartbeats 16000000 in
theorem walk {w : World} (a0g : Bool) (a0m : Option Addr) (len0m cap0m : Nat) (z0m : List Int) (hz0m : IsInts w a0m len0m z0m) (a0d : Option Addr) (len0d cap0d : Nat) (z0d : List Int) (hz0d : IsInts w a0d len0d z0d) :
    Calls Try.prog 8 #[.agg #[.bool a0g, .slice a0m len0m cap0m, .slice a0d len0d cap0d]] w fun e w' => e = .returned (.bool true) ∧ Below w.heap.size w w' := by
  have hmz0m : len0m ≤ maxLen := hz0m.2.1
  have Hz0m := Lib.hid hz0m
  clear hz0m
  have hmz0d : len0d ≤ maxLen := hz0d.2.1
  have Hz0d := Lib.hid hz0d
  clear hz0d
  unfold maxLen at hmz0m hmz0d
  have BW0 : Hid (Below w.heap.size w w) := Below.refl _ _
  have BW1 := Lib.hid (BW0.out.alloc BW0.out.size (.cells #[.bool a0g, .slice a0m len0m cap0m, .slice a0d len0d cap0d] 26))
  have XaR_1 := Lib.hid (by have := Box.new w 26 #[.bool a0g, .slice a0m len0m cap0m, .slice a0d len0d cap0d]; simpa using this : Box (w.alloc (.cells #[.bool a0g, .slice a0m len0m cap0m, .slice a0d len0d cap0d] 26)) (w.heap.size) 26 #[.bool a0g, .slice a0m len0m cap0m, .slice a0d len0d cap0d])
  have sz1 : w.heap.size ≤ (w.alloc (.cells #[.bool a0g, .slice a0m len0m cap0m, .slice a0d len0d cap0d] 26)).heap.size := (by simp)
  by_cases bigs0 : (1048576 : Int) - (len0m : Int) - (len0d : Int) < 0
  · go_enter Try.func8, Try.ntmps8
    go_wp2_with fail
    refine (szRat_neg a0g a0m len0m cap0m a0d len0d cap0d ((1048576 : Int)) _ (by omega) (by omega) (by unfold maxLen; omega) (by unfold maxLen; omega) (by omega)).mono ?_
    rintro e ws0 ⟨rfl, hb⟩
    have BW2 := Lib.hid (BW1.out.trans (hb.mono BW1.out.size))
    have sz2 : (w.alloc (.cells #[.bool a0g, .slice a0m len0m cap0m, .slice a0d len0d cap0d] 26)).heap.size ≤ ws0.heap.size := hb.size
    have XaR_2 := Lib.hid (XaR_1.out.below hb XaR_1.out.lt)
    clear hb
    go_wp2_with fail
    go_ret
    exact ⟨rfl, BW2.out⟩
  have Inz0m : Hid (InI w a0m len0m z0m) := ⟨Hz0m.out.1, by omega, Hz0m.out.2.2.1, Hz0m.out.2.2.2⟩
  have Inz0d : Hid (InI w a0d len0d z0d) := ⟨Hz0d.out.1, by omega, Hz0d.out.2.2.1, Hz0d.out.2.2.2⟩
  go_enter Try.func8, Try.ntmps8
  go_wp2_with fail
  refine (szRat_pos a0g a0m len0m cap0m a0d len0d cap0d ((1048576 : Int)) _ (by omega) (by omega)  (by omega)).mono ?_
  rintro e ws0 ⟨rfl, hb⟩
  have BW2 := Lib.hid (BW1.out.trans (hb.mono BW1.out.size))
  have sz2 : (w.alloc (.cells #[.bool a0g, .slice a0m len0m cap0m, .slice a0d len0d cap0d] 26)).heap.size ≤ ws0.heap.size := hb.size
  have XaR_2 := Lib.hid (XaR_1.out.below hb XaR_1.out.lt)
  clear hb
  have eaR0a : ws0.cell? ⟨w.heap.size, 0, none⟩ = some (.bool a0g) := XaR_2.out.cell 0
  have eaR1a : ws0.cell? ⟨w.heap.size, 1, none⟩ = some (.slice a0m len0m cap0m) := XaR_2.out.cell 1
  have eaR2a : ws0.cell? ⟨w.heap.size, 2, none⟩ = some (.slice a0d len0d cap0d) := XaR_2.out.cell 2
  go_wp2_with fail
  clear eaR0a eaR1a eaR2a
  refine (toRat_any a0g a0m len0m cap0m z0m a0d len0d cap0d z0d _ Inz0m.out.len Inz0m.out.le (Inz0m.out.rd.below BW2.out) Inz0d.out.len Inz0d.out.le (Inz0d.out.rd.below BW2.out)).mono ?_
  rintro e w1 ⟨v0, v1, rfl, ho0, ho1, hap10, hb⟩
  have BW3 := Lib.hid (BW2.out.trans (hb.mono BW2.out.size))
  have sz3 : ws0.heap.size ≤ w1.heap.size := hb.size
  have XaR_3 := Lib.hid (XaR_2.out.below hb XaR_2.out.lt)
  obtain ⟨At1m, ct1m, rfl⟩ := own_slice ho0
  have Ut1m := Lib.hid (fun k (hk : (Value.slice At1m len0m ct1m).ownBlock = some k) => (ho0.lt k hk).2)
  have Ot1m_3 := Lib.hid ho0
  clear ho0
  obtain ⟨At1d, ct1d, rfl⟩ := own_slice ho1
  have Ut1d := Lib.hid (fun k (hk : (Value.slice At1d len0d ct1d).ownBlock = some k) => (ho1.lt k hk).2)
  have Ot1d_3 := Lib.hid ho1
  clear ho1
  have APt1d_t1m := Lib.hid hap10
  have APt1m_t1d := Lib.hid hap10.symm
  clear hap10
  clear hb
  go_wp2_with fail
  refine (spec_ratNeg a0g At1m len0m ct1m z0m At1d len0d ct1d z0d _ (Inz0m.out.own Ot1m_3.out) (room_own Ot1m_3.out) (Inz0d.out.own Ot1d_3.out) (room_own Ot1d_3.out)).mono ?_
  rintro e w2 ⟨r1_00, r1_01, v1_01, r1_02, v1_02, rfl, his, ho01, ho02, hap10, hb⟩
  have BW4 := Lib.hid (BW3.out.trans (hb.mono BW3.out.size))
  have sz4 : w1.heap.size ≤ w2.heap.size := hb.size
  have Ot1m_4 := Lib.hid (own_below Ot1m_3.out hb)
  have Ot1d_4 := Lib.hid (own_below Ot1d_3.out hb)
  have XaR_4 := Lib.hid (XaR_3.out.below hb XaR_3.out.lt)
  clear hb
  have IS := Lib.hid his
  clear his
  obtain ⟨hl, ho01⟩ := ho01
  obtain ⟨N01, hN⟩ : ∃ N, N = r1_01.length := ⟨_, rfl⟩
  rw [← hN] at hl ho01
  have HN01 := Lib.hid hN.symm
  have hl01 := hl
  clear hN hl
  obtain ⟨hl, ho02⟩ := ho02
  obtain ⟨N02, hN⟩ : ∃ N, N = r1_02.length := ⟨_, rfl⟩
  rw [← hN] at hl ho02
  have HN02 := Lib.hid hN.symm
  have hl02 := hl
  clear hN hl
  obtain ⟨Aw0m, cw0m, rfl⟩ := own_slice ho01
  have Uw0m := Lib.hid (fun k (hk : (Value.slice Aw0m N01 cw0m).ownBlock = some k) => (ho01.lt k hk).2)
  have Ow0m_4 := Lib.hid ho01
  clear ho01
  obtain ⟨Aw0d, cw0d, rfl⟩ := own_slice ho02
  have Uw0d := Lib.hid (fun k (hk : (Value.slice Aw0d N02 cw0d).ownBlock = some k) => (ho02.lt k hk).2)
  have Ow0d_4 := Lib.hid ho02
  clear ho02
  have APw0d_w0m := Lib.hid hap10
  have APw0m_w0d := Lib.hid hap10.symm
  clear hap10
  clear Ot1m_4 Ut1m Ot1d_4 Ut1d
  have BW5 := Lib.hid (BW4.out.alloc BW4.out.size (.cells #[.bool r1_00, .slice Aw0m N01 cw0m, .slice Aw0d N02 cw0d] 31))
  have sz5 : w2.heap.size ≤ (w2.alloc (.cells #[.bool r1_00, .slice Aw0m N01 cw0m, .slice Aw0d N02 cw0d] 31)).heap.size := (by simp)
  have Ow0m_5 := Lib.hid (Ow0m_4.out.alloc (.cells #[.bool r1_00, .slice Aw0m N01 cw0m, .slice Aw0d N02 cw0d] 31))
  have Ow0d_5 := Lib.hid (Ow0d_4.out.alloc (.cells #[.bool r1_00, .slice Aw0m N01 cw0m, .slice Aw0d N02 cw0d] 31))
  have XaR_5 := Lib.hid (XaR_4.out.alloc (.cells #[.bool r1_00, .slice Aw0m N01 cw0m, .slice Aw0d N02 cw0d] 31))
  have Xw0_5 := Lib.hid (Box.new w2 31 #[.bool r1_00, .slice Aw0m N01 cw0m, .slice Aw0d N02 cw0d])
  have eaR0a : w2.cell? ⟨w.heap.size, 0, none⟩ = some (.bool a0g) := XaR_4.out.cell 0
  have eaR1a : w2.cell? ⟨w.heap.size, 1, none⟩ = some (.slice a0m len0m cap0m) := XaR_4.out.cell 1
  have eaR2a : w2.cell? ⟨w.heap.size, 2, none⟩ = some (.slice a0d len0d cap0d) := XaR_4.out.cell 2
  have eaR0b : (w2.alloc (.cells #[.bool r1_00, .slice Aw0m N01 cw0m, .slice Aw0d N02 cw0d] 31)).cell? ⟨w.heap.size, 0, none⟩ = some (.bool a0g) := XaR_5.out.cell 0
  have eaR1b : (w2.alloc (.cells #[.bool r1_00, .slice Aw0m N01 cw0m, .slice Aw0d N02 cw0d] 31)).cell? ⟨w.heap.size, 1, none⟩ = some (.slice a0m len0m cap0m) := XaR_5.out.cell 1
  have eaR2b : (w2.alloc (.cells #[.bool r1_00, .slice Aw0m N01 cw0m, .slice Aw0d N02 cw0d] 31)).cell? ⟨w.heap.size, 2, none⟩ = some (.slice a0d len0d cap0d) := XaR_5.out.cell 2
  have neaR0 : w2.heap.size ≠ w.heap.size := (by have := XaR_4.out.lt; omega)
  go_wp2_with fail
  clear eaR0a eaR1a eaR2a eaR0b eaR1b eaR2b neaR0
  refine (toRat_any a0g a0m len0m cap0m z0m a0d len0d cap0d z0d _ Inz0m.out.len Inz0m.out.le (Inz0m.out.rd.below BW5.out) Inz0d.out.len Inz0d.out.le (Inz0d.out.rd.below BW5.out)).mono ?_
  rintro e w3 ⟨v0, v1, rfl, ho0, ho1, hap10, hb⟩
  have BW6 := Lib.hid (BW5.out.trans (hb.mono BW5.out.size))
  have sz6 : (w2.alloc (.cells #[.bool r1_00, .slice Aw0m N01 cw0m, .slice Aw0d N02 cw0d] 31)).heap.size ≤ w3.heap.size := hb.size
  have Ow0m_6 := Lib.hid (own_below Ow0m_5.out hb)
  have Ow0d_6 := Lib.hid (own_below Ow0d_5.out hb)
  have XaR_6 := Lib.hid (XaR_5.out.below hb XaR_5.out.lt)
  have Xw0_6 := Lib.hid (Xw0_5.out.below hb Xw0_5.out.lt)
  obtain ⟨Ax0m, cx0m, rfl⟩ := own_slice ho0
  have Ux0m := Lib.hid (fun k (hk : (Value.slice Ax0m len0m cx0m).ownBlock = some k) => (ho0.lt k hk).2)
  have Ox0m_6 := Lib.hid ho0
  clear ho0
  obtain ⟨Ax0d, cx0d, rfl⟩ := own_slice ho1
  have Ux0d := Lib.hid (fun k (hk : (Value.slice Ax0d len0d cx0d).ownBlock = some k) => (ho1.lt k hk).2)
  have Ox0d_6 := Lib.hid ho1
  clear ho1
  have APx0d_x0m := Lib.hid hap10
  have APx0m_x0d := Lib.hid hap10.symm
  clear hap10
  clear hb
  have BW7 := Lib.hid (BW6.out.alloc BW6.out.size (.cells #[.bool a0g, .slice Ax0m len0m cx0m, .slice Ax0d len0d cx0d] 31))
  have sz7 : w3.heap.size ≤ (w3.alloc (.cells #[.bool a0g, .slice Ax0m len0m cx0m, .slice Ax0d len0d cx0d] 31)).heap.size := (by simp)
  have Ow0m_7 := Lib.hid (Ow0m_6.out.alloc (.cells #[.bool a0g, .slice Ax0m len0m cx0m, .slice Ax0d len0d cx0d] 31))
  have Ow0d_7 := Lib.hid (Ow0d_6.out.alloc (.cells #[.bool a0g, .slice Ax0m len0m cx0m, .slice Ax0d len0d cx0d] 31))
  have Ox0m_7 := Lib.hid (Ox0m_6.out.alloc (.cells #[.bool a0g, .slice Ax0m len0m cx0m, .slice Ax0d len0d cx0d] 31))
  have Ox0d_7 := Lib.hid (Ox0d_6.out.alloc (.cells #[.bool a0g, .slice Ax0m len0m cx0m, .slice Ax0d len0d cx0d] 31))
  have XaR_7 := Lib.hid (XaR_6.out.alloc (.cells #[.bool a0g, .slice Ax0m len0m cx0m, .slice Ax0d len0d cx0d] 31))
  have Xw0_7 := Lib.hid (Xw0_6.out.alloc (.cells #[.bool a0g, .slice Ax0m len0m cx0m, .slice Ax0d len0d cx0d] 31))
  have Xx0_7 := Lib.hid (Box.new w3 31 #[.bool a0g, .slice Ax0m len0m cx0m, .slice Ax0d len0d cx0d])
  go_wp2_with fail
  refine (impl_ratNeg a0g Ax0m len0m cx0m z0m Ax0d len0d cx0d z0d _ (Inz0m.out.own Ox0m_7.out) (room_own Ox0m_7.out) (Inz0d.out.own Ox0d_7.out) (room_own Ox0d_7.out)).mono ?_
  rintro e w4 ⟨r2_00, r2_01, v2_01, r2_02, v2_02, rfl, his, ho01, ho02, hap10, hb⟩
  have BW8 := Lib.hid (BW7.out.trans (hb.mono BW7.out.size))
  have sz8 : (w3.alloc (.cells #[.bool a0g, .slice Ax0m len0m cx0m, .slice Ax0d len0d cx0d] 31)).heap.size ≤ w4.heap.size := hb.size
  have Ow0m_8 := Lib.hid (own_below Ow0m_7.out hb)
  have Ow0d_8 := Lib.hid (own_below Ow0d_7.out hb)
  have Ox0m_8 := Lib.hid (own_below Ox0m_7.out hb)
  have Ox0d_8 := Lib.hid (own_below Ox0d_7.out hb)
  have XaR_8 := Lib.hid (XaR_7.out.below hb XaR_7.out.lt)
  have Xw0_8 := Lib.hid (Xw0_7.out.below hb Xw0_7.out.lt)
  have Xx0_8 := Lib.hid (Xx0_7.out.below hb Xx0_7.out.lt)
  clear hb
  obtain ⟨rfl, rfl, rfl⟩ := ratNeg_unique IS.out his
  clear his
  replace ho01 := ho01.2
  rw [HN01.out] at ho01
  replace ho02 := ho02.2
  rw [HN02.out] at ho02
  obtain ⟨Ag0m, cg0m, rfl⟩ := own_slice ho01
  have Ug0m := Lib.hid (fun k (hk : (Value.slice Ag0m N01 cg0m).ownBlock = some k) => (ho01.lt k hk).2)
  have Og0m_8 := Lib.hid ho01
  clear ho01
  obtain ⟨Ag0d, cg0d, rfl⟩ := own_slice ho02
  have Ug0d := Lib.hid (fun k (hk : (Value.slice Ag0d N02 cg0d).ownBlock = some k) => (ho02.lt k hk).2)
  have Og0d_8 := Lib.hid ho02
  clear ho02
  have APg0d_g0m := Lib.hid hap10
  have APg0m_g0d := Lib.hid hap10.symm
  clear hap10
  have BW9 := Lib.hid (BW8.out.alloc BW8.out.size (.cells #[.bool r1_00, .slice Ag0m N01 cg0m, .slice Ag0d N02 cg0d] 31))
  have sz9 : w4.heap.size ≤ (w4.alloc (.cells #[.bool r1_00, .slice Ag0m N01 cg0m, .slice Ag0d N02 cg0d] 31)).heap.size := (by simp)
  have Ow0m_9 := Lib.hid (Ow0m_8.out.alloc (.cells #[.bool r1_00, .slice Ag0m N01 cg0m, .slice Ag0d N02 cg0d] 31))
  have Ow0d_9 := Lib.hid (Ow0d_8.out.alloc (.cells #[.bool r1_00, .slice Ag0m N01 cg0m, .slice Ag0d N02 cg0d] 31))
  have Ox0m_9 := Lib.hid (Ox0m_8.out.alloc (.cells #[.bool r1_00, .slice Ag0m N01 cg0m, .slice Ag0d N02 cg0d] 31))
  have Ox0d_9 := Lib.hid (Ox0d_8.out.alloc (.cells #[.bool r1_00, .slice Ag0m N01 cg0m, .slice Ag0d N02 cg0d] 31))
  have Og0m_9 := Lib.hid (Og0m_8.out.alloc (.cells #[.bool r1_00, .slice Ag0m N01 cg0m, .slice Ag0d N02 cg0d] 31))
  have Og0d_9 := Lib.hid (Og0d_8.out.alloc (.cells #[.bool r1_00, .slice Ag0m N01 cg0m, .slice Ag0d N02 cg0d] 31))
  have XaR_9 := Lib.hid (XaR_8.out.alloc (.cells #[.bool r1_00, .slice Ag0m N01 cg0m, .slice Ag0d N02 cg0d] 31))
  have Xw0_9 := Lib.hid (Xw0_8.out.alloc (.cells #[.bool r1_00, .slice Ag0m N01 cg0m, .slice Ag0d N02 cg0d] 31))
  have Xx0_9 := Lib.hid (Xx0_8.out.alloc (.cells #[.bool r1_00, .slice Ag0m N01 cg0m, .slice Ag0d N02 cg0d] 31))
  have Xg0_9 := Lib.hid (Box.new w4 31 #[.bool r1_00, .slice Ag0m N01 cg0m, .slice Ag0d N02 cg0d])
  have ew00a : w4.cell? ⟨w2.heap.size, 0, none⟩ = some (.bool r1_00) := Xw0_8.out.cell 0
  have ew01a : w4.cell? ⟨w2.heap.size, 1, none⟩ = some (.slice Aw0m N01 cw0m) := Xw0_8.out.cell 1
  have ew02a : w4.cell? ⟨w2.heap.size, 2, none⟩ = some (.slice Aw0d N02 cw0d) := Xw0_8.out.cell 2
  have ew00b : (w4.alloc (.cells #[.bool r1_00, .slice Ag0m N01 cg0m, .slice Ag0d N02 cg0d] 31)).cell? ⟨w2.heap.size, 0, none⟩ = some (.bool r1_00) := Xw0_9.out.cell 0
  have ew01b : (w4.alloc (.cells #[.bool r1_00, .slice Ag0m N01 cg0m, .slice Ag0d N02 cg0d] 31)).cell? ⟨w2.heap.size, 1, none⟩ = some (.slice Aw0m N01 cw0m) := Xw0_9.out.cell 1
  have ew02b : (w4.alloc (.cells #[.bool r1_00, .slice Ag0m N01 cg0m, .slice Ag0d N02 cg0d] 31)).cell? ⟨w2.heap.size, 2, none⟩ = some (.slice Aw0d N02 cw0d) := Xw0_9.out.cell 2
  have new00 : w4.heap.size ≠ w2.heap.size := (by have := Xw0_8.out.lt; omega)
  go_wp2_with fail
  clear ew00a ew01a ew02a ew00b ew01b ew02b new00
  refine (eqRat_same r1_00 Ag0m Aw0m N01 cg0m cw0m r1_01 Ag0d Aw0d N02 cg0d cw0d r1_02 _ HN01.out (by unfold maxLen; omega) (Reads.of_own Og0m_9.out) (Reads.of_own Ow0m_9.out) HN02.out (by unfold maxLen; omega) (Reads.of_own Og0d_9.out) (Reads.of_own Ow0d_9.out)).mono ?_
  rintro e w5 ⟨rfl, hb⟩
  have BW10 := Lib.hid (BW9.out.trans (hb.mono BW9.out.size))
  have sz10 : (w4.alloc (.cells #[.bool r1_00, .slice Ag0m N01 cg0m, .slice Ag0d N02 cg0d] 31)).heap.size ≤ w5.heap.size := hb.size
  have Ow0m_10 := Lib.hid (own_below Ow0m_9.out hb)
  have Ow0d_10 := Lib.hid (own_below Ow0d_9.out hb)
  have Ox0m_10 := Lib.hid (own_below Ox0m_9.out hb)
  have Ox0d_10 := Lib.hid (own_below Ox0d_9.out hb)
  have Og0m_10 := Lib.hid (own_below Og0m_9.out hb)
  have Og0d_10 := Lib.hid (own_below Og0d_9.out hb)
  have XaR_10 := Lib.hid (XaR_9.out.below hb XaR_9.out.lt)
  have Xw0_10 := Lib.hid (Xw0_9.out.below hb Xw0_9.out.lt)
  have Xx0_10 := Lib.hid (Xx0_9.out.below hb Xx0_9.out.lt)
  have Xg0_10 := Lib.hid (Xg0_9.out.below hb Xg0_9.out.lt)
  clear hb
  go_wp2_with fail
  have BW11 := Lib.hid BW10.out.drew
  have sz11 : w5.heap.size ≤ w5.drew.heap.size := Nat.le_refl _
  have Ow0m_11 := Lib.hid (own_drew Ow0m_10.out)
  have Ow0d_11 := Lib.hid (own_drew Ow0d_10.out)
  have Ox0m_11 := Lib.hid (own_drew Ox0m_10.out)
  have Ox0d_11 := Lib.hid (own_drew Ox0d_10.out)
  have Og0m_11 := Lib.hid (own_drew Og0m_10.out)
  have Og0d_11 := Lib.hid (own_drew Og0d_10.out)
  have XaR_11 := Lib.hid XaR_10.out.drew
  have Xw0_11 := Lib.hid Xw0_10.out.drew
  have Xx0_11 := Lib.hid Xx0_10.out.drew
  have Xg0_11 := Lib.hid Xg0_10.out.drew
  have cvx00 : Hid ((#[.bool a0g, .slice Ax0m len0m cx0m, .slice Ax0d len0d cx0d] : Array Value)[0]? = some (.bool a0g)) := rfl
  have cvx01 : Hid ((#[.bool a0g, .slice Ax0m len0m cx0m, .slice Ax0d len0d cx0d] : Array Value)[1]? = some (.slice Ax0m len0m cx0m)) := rfl
  have cvx02 : Hid ((#[.bool a0g, .slice Ax0m len0m cx0m, .slice Ax0d len0d cx0d] : Array Value)[2]? = some (.slice Ax0d len0d cx0d)) := rfl
  have cvaR0 : Hid ((#[.bool a0g, .slice a0m len0m cap0m, .slice a0d len0d cap0d] : Array Value)[0]? = some (.bool a0g)) := rfl
  have cvaR1 : Hid ((#[.bool a0g, .slice a0m len0m cap0m, .slice a0d len0d cap0d] : Array Value)[1]? = some (.slice a0m len0m cap0m)) := rfl
  have cvaR2 : Hid ((#[.bool a0g, .slice a0m len0m cap0m, .slice a0d len0d cap0d] : Array Value)[2]? = some (.slice a0d len0d cap0d)) := rfl
  go_region_held3 (fun w' => w'.cell? ⟨w3.heap.size, 0, none⟩ = some (.bool a0g) ∧ w'.cell? ⟨w3.heap.size, 1, none⟩ = some (.slice Ax0m len0m cx0m) ∧ w'.cell? ⟨w3.heap.size, 2, none⟩ = some (.slice Ax0d len0d cx0d) ∧ w'.cell? ⟨w.heap.size, 0, none⟩ = some (.bool a0g) ∧ w'.cell? ⟨w.heap.size, 1, none⟩ = some (.slice a0m len0m cap0m) ∧ w'.cell? ⟨w.heap.size, 2, none⟩ = some (.slice a0d len0d cap0d)) (first | with_reducible exact ⟨cellS Xx0_13 cvx00, cellS Xx0_13 cvx01, cellS Xx0_13 cvx02, cellS XaR_13 cvaR0, cellS XaR_13 cvaR1, cellS XaR_13 cvaR2⟩ | with_reducible exact ⟨cellS Xx0_12 cvx00, cellS Xx0_12 cvx01, cellS Xx0_12 cvx02, cellS XaR_12 cvaR0, cellS XaR_12 cvaR1, cellS XaR_12 cvaR2⟩ | with_reducible exact ⟨cellS Xx0_11 cvx00, cellS Xx0_11 cvx01, cellS Xx0_11 cvx02, cellS XaR_11 cvaR0, cellS XaR_11 cvaR1, cellS XaR_11 cvaR2⟩) (first | (go_at_call 22; refine (eqRat_same a0g Ax0m At2m len0m cx0m ct2m z0m Ax0d At2d len0d cx0d ct2d z0d _ Inz0m.out.len (by unfold maxLen; omega) (Reads.of_own Ox0m_12.out) (Reads.of_own Ot2m_12.out) Inz0d.out.len (by unfold maxLen; omega) (Reads.of_own Ox0d_12.out) (Reads.of_own Ot2d_12.out)).mono ?_; rintro e w7 ⟨rfl, hb⟩; have BW13 := Lib.hid (BW12.out.trans (hb.mono BW12.out.size)); have sz13 : w6.heap.size ≤ w7.heap.size := hb.size; have Ow0m_13 := Lib.hid (own_below Ow0m_12.out hb); have Ow0d_13 := Lib.hid (own_below Ow0d_12.out hb); have Ox0m_13 := Lib.hid (own_below Ox0m_12.out hb); have Ox0d_13 := Lib.hid (own_below Ox0d_12.out hb); have Og0m_13 := Lib.hid (own_below Og0m_12.out hb); have Og0d_13 := Lib.hid (own_below Og0d_12.out hb); have Ot2m_13 := Lib.hid (own_below Ot2m_12.out hb); have Ot2d_13 := Lib.hid (own_below Ot2d_12.out hb); have XaR_13 := Lib.hid (XaR_12.out.below hb XaR_12.out.lt); have Xw0_13 := Lib.hid (Xw0_12.out.below hb Xw0_12.out.lt); have Xx0_13 := Lib.hid (Xx0_12.out.below hb Xx0_12.out.lt); have Xg0_13 := Lib.hid (Xg0_12.out.below hb Xg0_12.out.lt); clear hb) | (go_at_call 20; refine (toRat_any a0g a0m len0m cap0m z0m a0d len0d cap0d z0d _ Inz0m.out.len Inz0m.out.le (Inz0m.out.rd.below BW11.out) Inz0d.out.len Inz0d.out.le (Inz0d.out.rd.below BW11.out)).mono ?_; rintro e w6 ⟨v0, v1, rfl, ho0, ho1, hap10, hb⟩; have BW12 := Lib.hid (BW11.out.trans (hb.mono BW11.out.size)); have sz12 : w5.drew.heap.size ≤ w6.heap.size := hb.size; have Ow0m_12 := Lib.hid (own_below Ow0m_11.out hb); have Ow0d_12 := Lib.hid (own_below Ow0d_11.out hb); have Ox0m_12 := Lib.hid (own_below Ox0m_11.out hb); have Ox0d_12 := Lib.hid (own_below Ox0d_11.out hb); have Og0m_12 := Lib.hid (own_below Og0m_11.out hb); have Og0d_12 := Lib.hid (own_below Og0d_11.out hb); have XaR_12 := Lib.hid (XaR_11.out.below hb XaR_11.out.lt); have Xw0_12 := Lib.hid (Xw0_11.out.below hb Xw0_11.out.lt); have Xx0_12 := Lib.hid (Xx0_11.out.below hb Xx0_11.out.lt); have Xg0_12 := Lib.hid (Xg0_11.out.below hb Xg0_11.out.lt); obtain ⟨At2m, ct2m, rfl⟩ := own_slice ho0; have Ut2m := Lib.hid (fun k (hk : (Value.slice At2m len0m ct2m).ownBlock = some k) => (ho0.lt k hk).2); have Ot2m_12 := Lib.hid ho0; clear ho0; obtain ⟨At2d, ct2d, rfl⟩ := own_slice ho1; have Ut2d := Lib.hid (fun k (hk : (Value.slice At2d len0d ct2d).ownBlock = some k) => (ho1.lt k hk).2); have Ot2d_12 := Lib.hid ho1; clear ho1; have APt2d_t2m := Lib.hid hap10; have APt2m_t2d := Lib.hid hap10.symm; clear hap10; clear hb))
  clear cvx00 cvx01 cvx02 cvaR0 cvaR1 cvaR2
  clear Ot2m_13 Ut2m Ot2d_13 Ut2d
  have ex00a : w7.cell? ⟨w3.heap.size, 0, none⟩ = some (.bool a0g) := Xx0_13.out.cell 0
  have ex01a : w7.cell? ⟨w3.heap.size, 1, none⟩ = some (.slice Ax0m len0m cx0m) := Xx0_13.out.cell 1
  have ex02a : w7.cell? ⟨w3.heap.size, 2, none⟩ = some (.slice Ax0d len0d cx0d) := Xx0_13.out.cell 2
  go_wp2_with fail
  clear ex00a ex01a ex02a
  refine (markRat_own a0g _ _ Ax0m len0m cx0m Ax0d len0d cx0d (1) _ _ _ (by unfold maxLen; omega) Ox0m_13.out (ints_are _) Ox0d_13.out (ints_are _) APx0d_x0m.out).mono ?_
  rintro e w9 ⟨w8, rfl, ho, hg, hoz, hgz⟩
  have BW14 := Lib.hid (below_marked BW13.out Ox0m_13.out hg (by omega) (by omega))
  have sz14 : w7.heap.size ≤ w8.heap.size := hg.size
  have Ow0m_14 := Lib.hid (Ow0m_13.out.kept hg (own_apart Ow0m_13.out Uw0m.out Ox0m_13.out Ux0m.out (.inl (by omega))))
  have Ow0d_14 := Lib.hid (Ow0d_13.out.kept hg (own_apart Ow0d_13.out Uw0d.out Ox0m_13.out Ux0m.out (.inl (by omega))))
  have Ox0d_14 := Lib.hid (Ox0d_13.out.kept hg (apart_of APx0d_x0m.out))
  have Og0m_14 := Lib.hid (Og0m_13.out.kept hg (own_apart Og0m_13.out Ug0m.out Ox0m_13.out Ux0m.out (.inr (by omega))))
  have Og0d_14 := Lib.hid (Og0d_13.out.kept hg (own_apart Og0d_13.out Ug0d.out Ox0m_13.out Ux0m.out (.inr (by omega))))
  have XaR_14 := Lib.hid (XaR_13.out.grown hg (ne_own XaR_13.out Ox0m_13.out))
  have Xw0_14 := Lib.hid (Xw0_13.out.grown hg (ne_own Xw0_13.out Ox0m_13.out))
  have Xx0_14 := Lib.hid (Xx0_13.out.grown hg (ne_own Xx0_13.out Ox0m_13.out))
  have Xg0_14 := Lib.hid (Xg0_13.out.grown hg (ne_own Xg0_13.out Ox0m_13.out))
  have Ox0m_14 := Lib.hid ho
  clear ho hg
  have BW15 := Lib.hid (below_marked BW14.out Ox0d_14.out hgz (by omega) (by omega))
  have sz15 : w8.heap.size ≤ w9.heap.size := hgz.size
  have Ow0m_15 := Lib.hid (Ow0m_14.out.kept hgz (own_apart Ow0m_14.out Uw0m.out Ox0d_14.out Ux0d.out (.inl (by omega))))
  have Ow0d_15 := Lib.hid (Ow0d_14.out.kept hgz (own_apart Ow0d_14.out Uw0d.out Ox0d_14.out Ux0d.out (.inl (by omega))))
  have Ox0m_15 := Lib.hid (Ox0m_14.out.kept hgz (apart_of APx0m_x0d.out))
  have Og0m_15 := Lib.hid (Og0m_14.out.kept hgz (own_apart Og0m_14.out Ug0m.out Ox0d_14.out Ux0d.out (.inr (by omega))))
  have Og0d_15 := Lib.hid (Og0d_14.out.kept hgz (own_apart Og0d_14.out Ug0d.out Ox0d_14.out Ux0d.out (.inr (by omega))))
  have XaR_15 := Lib.hid (XaR_14.out.grown hgz (ne_own XaR_14.out Ox0d_14.out))
  have Xw0_15 := Lib.hid (Xw0_14.out.grown hgz (ne_own Xw0_14.out Ox0d_14.out))
  have Xx0_15 := Lib.hid (Xx0_14.out.grown hgz (ne_own Xx0_14.out Ox0d_14.out))
  have Xg0_15 := Lib.hid (Xg0_14.out.grown hgz (ne_own Xg0_14.out Ox0d_14.out))
  have Ox0d_15 := Lib.hid hoz
  clear hoz hgz
  clear Ox0m_15 Ux0m Ox0d_15 Ux0d Xx0_15
  have eg00a : w9.cell? ⟨w4.heap.size, 0, none⟩ = some (.bool r1_00) := Xg0_15.out.cell 0
  have eg01a : w9.cell? ⟨w4.heap.size, 1, none⟩ = some (.slice Ag0m N01 cg0m) := Xg0_15.out.cell 1
  have eg02a : w9.cell? ⟨w4.heap.size, 2, none⟩ = some (.slice Ag0d N02 cg0d) := Xg0_15.out.cell 2
  have ew00a : w9.cell? ⟨w2.heap.size, 0, none⟩ = some (.bool r1_00) := Xw0_15.out.cell 0
  have ew01a : w9.cell? ⟨w2.heap.size, 1, none⟩ = some (.slice Aw0m N01 cw0m) := Xw0_15.out.cell 1
  have ew02a : w9.cell? ⟨w2.heap.size, 2, none⟩ = some (.slice Aw0d N02 cw0d) := Xw0_15.out.cell 2
  go_wp2_with fail
  clear eg00a eg01a eg02a ew00a ew01a ew02a
  refine (eqRat_same r1_00 Ag0m Aw0m N01 cg0m cw0m r1_01 Ag0d Aw0d N02 cg0d cw0d r1_02 _ HN01.out (by unfold maxLen; omega) (Reads.of_own Og0m_15.out) (Reads.of_own Ow0m_15.out) HN02.out (by unfold maxLen; omega) (Reads.of_own Og0d_15.out) (Reads.of_own Ow0d_15.out)).mono ?_
  rintro e w10 ⟨rfl, hb⟩
  have BW16 := Lib.hid (BW15.out.trans (hb.mono BW15.out.size))
  have sz16 : w9.heap.size ≤ w10.heap.size := hb.size
  have Ow0m_16 := Lib.hid (own_below Ow0m_15.out hb)
  have Ow0d_16 := Lib.hid (own_below Ow0d_15.out hb)
  have Og0m_16 := Lib.hid (own_below Og0m_15.out hb)
  have Og0d_16 := Lib.hid (own_below Og0d_15.out hb)
  have XaR_16 := Lib.hid (XaR_15.out.below hb XaR_15.out.lt)
  have Xw0_16 := Lib.hid (Xw0_15.out.below hb Xw0_15.out.lt)
  have Xg0_16 := Lib.hid (Xg0_15.out.below hb Xg0_15.out.lt)
  clear hb
  have eg00a : w10.cell? ⟨w4.heap.size, 0, none⟩ = some (.bool r1_00) := Xg0_16.out.cell 0
  have eg01a : w10.cell? ⟨w4.heap.size, 1, none⟩ = some (.slice Ag0m N01 cg0m) := Xg0_16.out.cell 1
  have eg02a : w10.cell? ⟨w4.heap.size, 2, none⟩ = some (.slice Ag0d N02 cg0d) := Xg0_16.out.cell 2
  go_wp2_with fail
  clear eg00a eg01a eg02a
  refine (markRat_own r1_00 _ _ Ag0m N01 cg0m Ag0d N02 cg0d (1) _ _ _ (by unfold maxLen; omega) Og0m_16.out (ints_are _) Og0d_16.out (ints_are _) APg0d_g0m.out).mono ?_
  rintro e w12 ⟨w11, rfl, ho, hg, hoz, hgz⟩
  have BW17 := Lib.hid (below_marked BW16.out Og0m_16.out hg (by omega) (by omega))
  have sz17 : w10.heap.size ≤ w11.heap.size := hg.size
  have Ow0m_17 := Lib.hid (Ow0m_16.out.kept hg (own_apart Ow0m_16.out Uw0m.out Og0m_16.out Ug0m.out (.inl (by omega))))
  have Ow0d_17 := Lib.hid (Ow0d_16.out.kept hg (own_apart Ow0d_16.out Uw0d.out Og0m_16.out Ug0m.out (.inl (by omega))))
  have Og0d_17 := Lib.hid (Og0d_16.out.kept hg (apart_of APg0d_g0m.out))
  have XaR_17 := Lib.hid (XaR_16.out.grown hg (ne_own XaR_16.out Og0m_16.out))
  have Xw0_17 := Lib.hid (Xw0_16.out.grown hg (ne_own Xw0_16.out Og0m_16.out))
  have Xg0_17 := Lib.hid (Xg0_16.out.grown hg (ne_own Xg0_16.out Og0m_16.out))
  have Og0m_17 := Lib.hid ho
  clear ho hg
  have BW18 := Lib.hid (below_marked BW17.out Og0d_17.out hgz (by omega) (by omega))
  have sz18 : w11.heap.size ≤ w12.heap.size := hgz.size
  have Ow0m_18 := Lib.hid (Ow0m_17.out.kept hgz (own_apart Ow0m_17.out Uw0m.out Og0d_17.out Ug0d.out (.inl (by omega))))
  have Ow0d_18 := Lib.hid (Ow0d_17.out.kept hgz (own_apart Ow0d_17.out Uw0d.out Og0d_17.out Ug0d.out (.inl (by omega))))
  have Og0m_18 := Lib.hid (Og0m_17.out.kept hgz (apart_of APg0m_g0d.out))
  have XaR_18 := Lib.hid (XaR_17.out.grown hgz (ne_own XaR_17.out Og0d_17.out))
  have Xw0_18 := Lib.hid (Xw0_17.out.grown hgz (ne_own Xw0_17.out Og0d_17.out))
  have Xg0_18 := Lib.hid (Xg0_17.out.grown hgz (ne_own Xg0_17.out Og0d_17.out))
  have Og0d_18 := Lib.hid hoz
  clear hoz hgz
  have eg00a : w12.cell? ⟨w4.heap.size, 0, none⟩ = some (.bool r1_00) := Xg0_18.out.cell 0
  have eg01a : w12.cell? ⟨w4.heap.size, 1, none⟩ = some (.slice Ag0m N01 cg0m) := Xg0_18.out.cell 1
  have eg02a : w12.cell? ⟨w4.heap.size, 2, none⟩ = some (.slice Ag0d N02 cg0d) := Xg0_18.out.cell 2
  go_wp2_with fail
  clear eg00a eg01a eg02a
  refine (heldRat_same r1_00 Ag0m N01 cg0m Ag0d N02 cg0d (1) _ (by unfold maxLen; omega) (Reads.of_own Og0m_18.out) (Reads.of_own Og0d_18.out)).mono ?_
  rintro e w13 ⟨rfl, hb⟩
  have BW19 := Lib.hid (BW18.out.trans (hb.mono BW18.out.size))
  have sz19 : w12.heap.size ≤ w13.heap.size := hb.size
  have Ow0m_19 := Lib.hid (own_below Ow0m_18.out hb)
  have Ow0d_19 := Lib.hid (own_below Ow0d_18.out hb)
  have Og0m_19 := Lib.hid (own_below Og0m_18.out hb)
  have Og0d_19 := Lib.hid (own_below Og0d_18.out hb)
  have XaR_19 := Lib.hid (XaR_18.out.below hb XaR_18.out.lt)
  have Xw0_19 := Lib.hid (Xw0_18.out.below hb Xw0_18.out.lt)
  have Xg0_19 := Lib.hid (Xg0_18.out.below hb Xg0_18.out.lt)
  clear hb
  have eaR0a : w13.cell? ⟨w.heap.size, 0, none⟩ = some (.bool a0g) := XaR_19.out.cell 0
  have eaR1a : w13.cell? ⟨w.heap.size, 1, none⟩ = some (.slice a0m len0m cap0m) := XaR_19.out.cell 1
  have eaR2a : w13.cell? ⟨w.heap.size, 2, none⟩ = some (.slice a0d len0d cap0d) := XaR_19.out.cell 2
  go_wp2_with fail
  clear eaR0a eaR1a eaR2a
  refine (toRat_any a0g a0m len0m cap0m z0m a0d len0d cap0d z0d _ Inz0m.out.len Inz0m.out.le (Inz0m.out.rd.below BW19.out) Inz0d.out.len Inz0d.out.le (Inz0d.out.rd.below BW19.out)).mono ?_
  rintro e w14 ⟨v0, v1, rfl, ho0, ho1, hap10, hb⟩
  have BW20 := Lib.hid (BW19.out.trans (hb.mono BW19.out.size))
  have sz20 : w13.heap.size ≤ w14.heap.size := hb.size
  have Ow0m_20 := Lib.hid (own_below Ow0m_19.out hb)
  have Ow0d_20 := Lib.hid (own_below Ow0d_19.out hb)
  have Og0m_20 := Lib.hid (own_below Og0m_19.out hb)
  have Og0d_20 := Lib.hid (own_below Og0d_19.out hb)
  have XaR_20 := Lib.hid (XaR_19.out.below hb XaR_19.out.lt)
  have Xw0_20 := Lib.hid (Xw0_19.out.below hb Xw0_19.out.lt)
  have Xg0_20 := Lib.hid (Xg0_19.out.below hb Xg0_19.out.lt)
  obtain ⟨At3m, ct3m, rfl⟩ := own_slice ho0
  have Ut3m := Lib.hid (fun k (hk : (Value.slice At3m len0m ct3m).ownBlock = some k) => (ho0.lt k hk).2)
  have Ot3m_20 := Lib.hid ho0
  clear ho0
  obtain ⟨At3d, ct3d, rfl⟩ := own_slice ho1
  have Ut3d := Lib.hid (fun k (hk : (Value.slice At3d len0d ct3d).ownBlock = some k) => (ho1.lt k hk).2)
  have Ot3d_20 := Lib.hid ho1
  clear ho1
  have APt3d_t3m := Lib.hid hap10
  have APt3m_t3d := Lib.hid hap10.symm
  clear hap10
  clear hb
  go_wp2_with fail
  refine (impl_ratNeg a0g At3m len0m ct3m z0m At3d len0d ct3d z0d _ (Inz0m.out.own Ot3m_20.out) (room_own Ot3m_20.out) (Inz0d.out.own Ot3d_20.out) (room_own Ot3d_20.out)).mono ?_
  rintro e w15 ⟨r3_00, r3_01, v3_01, r3_02, v3_02, rfl, his, ho01, ho02, hap10, hb⟩
  have BW21 := Lib.hid (BW20.out.trans (hb.mono BW20.out.size))
  have sz21 : w14.heap.size ≤ w15.heap.size := hb.size
  have Ow0m_21 := Lib.hid (own_below Ow0m_20.out hb)
  have Ow0d_21 := Lib.hid (own_below Ow0d_20.out hb)
  have Og0m_21 := Lib.hid (own_below Og0m_20.out hb)
  have Og0d_21 := Lib.hid (own_below Og0d_20.out hb)
  have Ot3m_21 := Lib.hid (own_below Ot3m_20.out hb)
  have Ot3d_21 := Lib.hid (own_below Ot3d_20.out hb)
  have XaR_21 := Lib.hid (XaR_20.out.below hb XaR_20.out.lt)
  have Xw0_21 := Lib.hid (Xw0_20.out.below hb Xw0_20.out.lt)
  have Xg0_21 := Lib.hid (Xg0_20.out.below hb Xg0_20.out.lt)
  clear hb
  obtain ⟨rfl, rfl, rfl⟩ := ratNeg_unique IS.out his
  clear his
  replace ho01 := ho01.2
  rw [HN01.out] at ho01
  replace ho02 := ho02.2
  rw [HN02.out] at ho02
  obtain ⟨Ah0m, ch0m, rfl⟩ := own_slice ho01
  have Uh0m := Lib.hid (fun k (hk : (Value.slice Ah0m N01 ch0m).ownBlock = some k) => (ho01.lt k hk).2)
  have Oh0m_21 := Lib.hid ho01
  clear ho01
  obtain ⟨Ah0d, ch0d, rfl⟩ := own_slice ho02
  have Uh0d := Lib.hid (fun k (hk : (Value.slice Ah0d N02 ch0d).ownBlock = some k) => (ho02.lt k hk).2)
  have Oh0d_21 := Lib.hid ho02
  clear ho02
  have APh0d_h0m := Lib.hid hap10
  have APh0m_h0d := Lib.hid hap10.symm
  clear hap10
  clear Ot3m_21 Ut3m Ot3d_21 Ut3d
  have BW22 := Lib.hid (BW21.out.alloc BW21.out.size (.cells #[.bool r1_00, .slice Ah0m N01 ch0m, .slice Ah0d N02 ch0d] 31))
  have sz22 : w15.heap.size ≤ (w15.alloc (.cells #[.bool r1_00, .slice Ah0m N01 ch0m, .slice Ah0d N02 ch0d] 31)).heap.size := (by simp)
  have Ow0m_22 := Lib.hid (Ow0m_21.out.alloc (.cells #[.bool r1_00, .slice Ah0m N01 ch0m, .slice Ah0d N02 ch0d] 31))
  have Ow0d_22 := Lib.hid (Ow0d_21.out.alloc (.cells #[.bool r1_00, .slice Ah0m N01 ch0m, .slice Ah0d N02 ch0d] 31))
  have Og0m_22 := Lib.hid (Og0m_21.out.alloc (.cells #[.bool r1_00, .slice Ah0m N01 ch0m, .slice Ah0d N02 ch0d] 31))
  have Og0d_22 := Lib.hid (Og0d_21.out.alloc (.cells #[.bool r1_00, .slice Ah0m N01 ch0m, .slice Ah0d N02 ch0d] 31))
  have Oh0m_22 := Lib.hid (Oh0m_21.out.alloc (.cells #[.bool r1_00, .slice Ah0m N01 ch0m, .slice Ah0d N02 ch0d] 31))
  have Oh0d_22 := Lib.hid (Oh0d_21.out.alloc (.cells #[.bool r1_00, .slice Ah0m N01 ch0m, .slice Ah0d N02 ch0d] 31))
  have XaR_22 := Lib.hid (XaR_21.out.alloc (.cells #[.bool r1_00, .slice Ah0m N01 ch0m, .slice Ah0d N02 ch0d] 31))
  have Xw0_22 := Lib.hid (Xw0_21.out.alloc (.cells #[.bool r1_00, .slice Ah0m N01 ch0m, .slice Ah0d N02 ch0d] 31))
  have Xg0_22 := Lib.hid (Xg0_21.out.alloc (.cells #[.bool r1_00, .slice Ah0m N01 ch0m, .slice Ah0d N02 ch0d] 31))
  have Xh0_22 := Lib.hid (Box.new w15 31 #[.bool r1_00, .slice Ah0m N01 ch0m, .slice Ah0d N02 ch0d])
  have ew00a : w15.cell? ⟨w2.heap.size, 0, none⟩ = some (.bool r1_00) := Xw0_21.out.cell 0
  have ew01a : w15.cell? ⟨w2.heap.size, 1, none⟩ = some (.slice Aw0m N01 cw0m) := Xw0_21.out.cell 1
  have ew02a : w15.cell? ⟨w2.heap.size, 2, none⟩ = some (.slice Aw0d N02 cw0d) := Xw0_21.out.cell 2
  have ew00b : (w15.alloc (.cells #[.bool r1_00, .slice Ah0m N01 ch0m, .slice Ah0d N02 ch0d] 31)).cell? ⟨w2.heap.size, 0, none⟩ = some (.bool r1_00) := Xw0_22.out.cell 0
  have ew01b : (w15.alloc (.cells #[.bool r1_00, .slice Ah0m N01 ch0m, .slice Ah0d N02 ch0d] 31)).cell? ⟨w2.heap.size, 1, none⟩ = some (.slice Aw0m N01 cw0m) := Xw0_22.out.cell 1
  have ew02b : (w15.alloc (.cells #[.bool r1_00, .slice Ah0m N01 ch0m, .slice Ah0d N02 ch0d] 31)).cell? ⟨w2.heap.size, 2, none⟩ = some (.slice Aw0d N02 cw0d) := Xw0_22.out.cell 2
  have new00 : w15.heap.size ≠ w2.heap.size := (by have := Xw0_21.out.lt; omega)
  go_wp2_with fail
  clear ew00a ew01a ew02a ew00b ew01b ew02b new00
  refine (eqRat_same r1_00 Ah0m Aw0m N01 ch0m cw0m r1_01 Ah0d Aw0d N02 ch0d cw0d r1_02 _ HN01.out (by unfold maxLen; omega) (Reads.of_own Oh0m_22.out) (Reads.of_own Ow0m_22.out) HN02.out (by unfold maxLen; omega) (Reads.of_own Oh0d_22.out) (Reads.of_own Ow0d_22.out)).mono ?_
  rintro e w16 ⟨rfl, hb⟩
  have BW23 := Lib.hid (BW22.out.trans (hb.mono BW22.out.size))
  have sz23 : (w15.alloc (.cells #[.bool r1_00, .slice Ah0m N01 ch0m, .slice Ah0d N02 ch0d] 31)).heap.size ≤ w16.heap.size := hb.size
  have Ow0m_23 := Lib.hid (own_below Ow0m_22.out hb)
  have Ow0d_23 := Lib.hid (own_below Ow0d_22.out hb)
  have Og0m_23 := Lib.hid (own_below Og0m_22.out hb)
  have Og0d_23 := Lib.hid (own_below Og0d_22.out hb)
  have Oh0m_23 := Lib.hid (own_below Oh0m_22.out hb)
  have Oh0d_23 := Lib.hid (own_below Oh0d_22.out hb)
  have XaR_23 := Lib.hid (XaR_22.out.below hb XaR_22.out.lt)
  have Xw0_23 := Lib.hid (Xw0_22.out.below hb Xw0_22.out.lt)
  have Xg0_23 := Lib.hid (Xg0_22.out.below hb Xg0_22.out.lt)
  have Xh0_23 := Lib.hid (Xh0_22.out.below hb Xh0_22.out.lt)
  clear hb
  clear Ow0m_23 Uw0m Ow0d_23 Uw0d Xw0_23
  clear Oh0m_23 Uh0m Oh0d_23 Uh0d Xh0_23
  have eg00a : w16.cell? ⟨w4.heap.size, 0, none⟩ = some (.bool r1_00) := Xg0_23.out.cell 0
  have eg01a : w16.cell? ⟨w4.heap.size, 1, none⟩ = some (.slice Ag0m N01 cg0m) := Xg0_23.out.cell 1
  have eg02a : w16.cell? ⟨w4.heap.size, 2, none⟩ = some (.slice Ag0d N02 cg0d) := Xg0_23.out.cell 2
  go_wp2_with fail
  clear eg00a eg01a eg02a
  refine (heldRat_same r1_00 Ag0m N01 cg0m Ag0d N02 cg0d (1) _ (by unfold maxLen; omega) (Reads.of_own Og0m_23.out) (Reads.of_own Og0d_23.out)).mono ?_
  rintro e w17 ⟨rfl, hb⟩
  have BW24 := Lib.hid (BW23.out.trans (hb.mono BW23.out.size))
  have sz24 : w16.heap.size ≤ w17.heap.size := hb.size
  have Og0m_24 := Lib.hid (own_below Og0m_23.out hb)
  have Og0d_24 := Lib.hid (own_below Og0d_23.out hb)
  have XaR_24 := Lib.hid (XaR_23.out.below hb XaR_23.out.lt)
  have Xg0_24 := Lib.hid (Xg0_23.out.below hb Xg0_23.out.lt)
  clear hb
  clear Og0m_24 Ug0m Og0d_24 Ug0d Xg0_24
  go_wp2_with fail
  go_ret
  exact ⟨rfl, BW24.out⟩
end Go.Proofs.Ytbfanjalinkmhaa.fnExactRatNeg
