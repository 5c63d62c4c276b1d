/- The walk of the law: for all arguments the law FnExactLoadOk returns true: the program's LoadOk answers as the model's; no condition on them. -/
import Derived.Test.YtipmeijfmiiedaaStM6
import Derived.Test.YtipmeijfmiiedaaLdS
import Derived.ProofKit
import Derived.OpenShut
import Derived.ShutString
import Derived.Lib.SmallJoins
namespace Go.Proofs.Ytipmeijfmiiedaa.fnExactLoadOk
set_option maxRecDepth 100000
open Go.ChangeShapes Go.WideShapes Go.ChangeAt Go.RowKit Go.Joins Go.Deep
open Go.ChangeMaps (open_string shut_string)

set_option maxRecDepth 100000 in
set_option maxHeartbeats 16000000 in
theorem walk {w : World} (a0 : Option Addr) (len0 cap0 : Nat) (z0 : List JD) (hz0 : IsJ w a0 len0 z0) (b0 : Option Addr) (m0 d0 : Nat) (y0 : List MD) (hy0 : IsM w b0 m0 y0) (a1 : Option Addr) (len1 cap1 : Nat) (z1 : List Int) (hz1 : IsInts w a1 len1 z1) :
    Calls Try.prog 4 #[.agg #[.slice a0 len0 cap0, .slice b0 m0 d0], .slice a1 len1 cap1] w fun e w' => e = .returned (.bool true) ∧ Below w.heap.size w w' := by
  have hmz0 : len0 ≤ maxLen := hz0.2.1
  have Hz0 := Lib.hid hz0
  clear hz0
  have hmy0 : m0 ≤ maxLen := hy0.2.1
  have Hy0 := Lib.hid hy0
  clear hy0
  have hmz1 : len1 ≤ maxLen := hz1.2.1
  have Hz1 := Lib.hid hz1
  clear hz1
  have BW0 : Hid (Below w.heap.size w w) := Below.refl _ _
  have BW1 := Lib.hid (BW0.out.alloc BW0.out.size (.cells #[.slice a0 len0 cap0, .slice b0 m0 d0] 44))
  have sz1 : Hid (w.heap.size + 1 ≤ (w.alloc (.cells #[.slice a0 len0 cap0, .slice b0 m0 d0] 44)).heap.size) := Lib.hid (by simp)
  have XaS_1 := Lib.hid (Box.new w 44 #[.slice a0 len0 cap0, .slice b0 m0 d0])
  by_cases biga1 : 1048576 < (len1 : Int)
  · go_enter Try.func4, Try.ntmps4
    go_wp2_with fail
    go_ret
    exact ⟨rfl, BW1.out⟩
  have Inz1 : Hid (InI w a1 len1 z1) := ⟨Hz1.out.1, by omega, Hz1.out.2.2.1, Hz1.out.2.2.2⟩
  go_enter Try.func4, Try.ntmps4
  have eaS0a : (w.alloc (.cells #[.slice a0 len0 cap0, .slice b0 m0 d0] 44)).cell? ⟨w.heap.size, 0, none⟩ = some (.slice a0 len0 cap0) := XaS_1.out.cell 0
  have eaS1a : (w.alloc (.cells #[.slice a0 len0 cap0, .slice b0 m0 d0] 44)).cell? ⟨w.heap.size, 1, none⟩ = some (.slice b0 m0 d0) := XaS_1.out.cell 1
  go_wp2_with fail
  clear eaS0a eaS1a
  refine (szStructure_any a0 len0 cap0 z0 b0 m0 d0 (1048576 : Int) _ (Hz0.out.below BW1.out) hmy0 (by omega) (by omega)).mono ?_
  rintro e ws0 ⟨lf0, rfl, hr, hb⟩
  have BW2 := Lib.hid (BW1.out.trans (hb.mono BW1.out.size))
  have sz2 : Hid ((w.alloc (.cells #[.slice a0 len0 cap0, .slice b0 m0 d0] 44)).heap.size ≤ ws0.heap.size) := hb.size
  have XaS_2 := Lib.hid (XaS_1.out.below hb XaS_1.out.lt)
  clear hb
  rcases hr with rfl | ⟨h0, hr⟩
  · go_wp2_with fail
    go_ret
    exact ⟨rfl, BW2.out⟩
  have lb0 : 0 ≤ lf0 ∧ lf0 ≤ 1048576 := by omega
  have ls0 : lf0 + ((len0 : Int) + jtot z0 + m0) = (1048576 : Int) := by omega
  have HLS0 := Lib.hid ls0
  have lt0 : len0 + jtot z0 + m0 ≤ 1048576 := by omega
  clear ls0 hr
  have h00 := h0
  clear h0
  have Inz0 : Hid (InT w a0 len0 z0 b0 m0 y0) := ⟨Hz0.out.inJ (by omega), Hy0.out.inM (by omega)⟩
  have Ftz0 : Hid (TFit len0 z0 m0 y0) := ⟨Inz0.out.1.1, Inz0.out.2.1, Inz0.out.1.2.2.2, Inz0.out.2.2.2.2⟩
  have eaS0a : ws0.cell? ⟨w.heap.size, 0, none⟩ = some (.slice a0 len0 cap0) := XaS_2.out.cell 0
  have eaS1a : ws0.cell? ⟨w.heap.size, 1, none⟩ = some (.slice b0 m0 d0) := XaS_2.out.cell 1
  go_wp2_with fail
  clear eaS0a eaS1a
  refine (toStructure_any a0 len0 cap0 z0 b0 m0 d0 y0 _ (Inz0.out.below BW2.out)).mono ?_
  rintro e w1 ⟨At1, ct1, Bt1, dt1, rfl, ho, hb⟩
  have BW3 := Lib.hid (BW2.out.trans (hb.mono BW2.out.size))
  have sz3 : Hid (ws0.heap.size ≤ w1.heap.size) := hb.size
  have XaS_3 := Lib.hid (XaS_2.out.below hb XaS_2.out.lt)
  have Ut1 := Lib.hid ho.lt
  have Rt1_3 := Lib.hid ho.holds
  clear ho hb
  go_wp2_with fail
  refine (toIntS_any a1 len1 cap1 z1 _ Inz1.out.len Inz1.out.le (Inz1.out.rd.below BW3.out)).mono ?_
  rintro e w2 ⟨v, rfl, ho, hb⟩
  have BW4 := Lib.hid (BW3.out.trans (hb.mono BW3.out.size))
  have sz4 : Hid (w1.heap.size ≤ w2.heap.size) := hb.size
  have Rt1_4 := Lib.hid (Rt1_3.out.below hb)
  have XaS_4 := Lib.hid (XaS_3.out.below hb XaS_3.out.lt)
  obtain ⟨At2, ct2, rfl⟩ := own_slice ho
  have Ut2 := Lib.hid (show ∀ k, blk _ k → _ ∧ _ from fun k hk => ho.lt k hk)
  have Rt2_4 := Lib.hid (own_holds ho)
  clear ho hb
  go_wp2_with fail
  refine (spec_loadOk At1 len0 ct1 z0 Bt1 m0 dt1 y0 At2 len1 ct2 z1 _ (tin Rt1_4 Ftz0 (by omega) (by omega)) (Inz1.out.own (inow Rt2_4))).mono ?_
  rintro e w3 ⟨r1_0, rfl, his, hb⟩
  have BW5 := Lib.hid (BW4.out.trans (hb.mono BW4.out.size))
  have sz5 : Hid (w2.heap.size ≤ w3.heap.size) := hb.size
  have Rt1_5 := Lib.hid (Rt1_4.out.below hb)
  have Rt2_5 := Lib.hid (Rt2_4.out.below hb)
  have XaS_5 := Lib.hid (XaS_4.out.below hb XaS_4.out.lt)
  have IS := Lib.hid his
  clear his
  clear hb
  clear Rt1_5 Ut1
  clear Rt2_5 Ut2
  have eaS0a : w3.cell? ⟨w.heap.size, 0, none⟩ = some (.slice a0 len0 cap0) := XaS_5.out.cell 0
  have eaS1a : w3.cell? ⟨w.heap.size, 1, none⟩ = some (.slice b0 m0 d0) := XaS_5.out.cell 1
  go_wp2_with fail
  clear eaS0a eaS1a
  refine (toStructure_any a0 len0 cap0 z0 b0 m0 d0 y0 _ (Inz0.out.below BW5.out)).mono ?_
  rintro e w4 ⟨Ax0, cx0, Bx0, dx0, rfl, ho, hb⟩
  have BW6 := Lib.hid (BW5.out.trans (hb.mono BW5.out.size))
  have sz6 : Hid (w3.heap.size ≤ w4.heap.size) := hb.size
  have XaS_6 := Lib.hid (XaS_5.out.below hb XaS_5.out.lt)
  have Ux0 := Lib.hid ho.lt
  have Rx0_6 := Lib.hid ho.holds
  clear ho hb
  have BW7 := Lib.hid (BW6.out.alloc BW6.out.size (.cells #[.slice Ax0 len0 cx0, .slice Bx0 m0 dx0] 26))
  have sz7 : Hid (w4.heap.size + 1 ≤ (w4.alloc (.cells #[.slice Ax0 len0 cx0, .slice Bx0 m0 dx0] 26)).heap.size) := Lib.hid (by simp)
  have Rx0_7 := Lib.hid (Rx0_6.out.alloc (.cells #[.slice Ax0 len0 cx0, .slice Bx0 m0 dx0] 26))
  have XaS_7 := Lib.hid (XaS_6.out.alloc (.cells #[.slice Ax0 len0 cx0, .slice Bx0 m0 dx0] 26))
  have Xx0_7 := Lib.hid (Box.new w4 26 #[.slice Ax0 len0 cx0, .slice Bx0 m0 dx0])
  go_wp2_with fail
  refine (toIntS_any a1 len1 cap1 z1 _ Inz1.out.len Inz1.out.le (Inz1.out.rd.below BW7.out)).mono ?_
  rintro e w5 ⟨v, rfl, ho, hb⟩
  have BW8 := Lib.hid (BW7.out.trans (hb.mono BW7.out.size))
  have sz8 : Hid ((w4.alloc (.cells #[.slice Ax0 len0 cx0, .slice Bx0 m0 dx0] 26)).heap.size ≤ w5.heap.size) := hb.size
  have Rx0_8 := Lib.hid (Rx0_7.out.below hb)
  have XaS_8 := Lib.hid (XaS_7.out.below hb XaS_7.out.lt)
  have Xx0_8 := Lib.hid (Xx0_7.out.below hb Xx0_7.out.lt)
  obtain ⟨Ax1, cx1, rfl⟩ := own_slice ho
  have Ux1 := Lib.hid (show ∀ k, blk _ k → _ ∧ _ from fun k hk => ho.lt k hk)
  have Rx1_8 := Lib.hid (own_holds ho)
  clear ho hb
  have ex00a : w5.cell? ⟨w4.heap.size, 0, none⟩ = some (.slice Ax0 len0 cx0) := Xx0_8.out.cell 0
  have ex01a : w5.cell? ⟨w4.heap.size, 1, none⟩ = some (.slice Bx0 m0 dx0) := Xx0_8.out.cell 1
  go_wp2_with fail
  clear ex00a ex01a
  refine (impl_loadOk Ax0 len0 cx0 z0 Bx0 m0 dx0 y0 Ax1 len1 cx1 z1 _ (tin Rx0_8 Ftz0 (by omega) (by omega)) (Inz1.out.own (inow Rx1_8))).mono ?_
  rintro e w6 ⟨r2_0, rfl, his, hb⟩
  have BW9 := Lib.hid (BW8.out.trans (hb.mono BW8.out.size))
  have sz9 : Hid (w5.heap.size ≤ w6.heap.size) := hb.size
  have Rx0_9 := Lib.hid (Rx0_8.out.below hb)
  have Rx1_9 := Lib.hid (Rx1_8.out.below hb)
  have XaS_9 := Lib.hid (XaS_8.out.below hb XaS_8.out.lt)
  have Xx0_9 := Lib.hid (Xx0_8.out.below hb Xx0_8.out.lt)
  obtain rfl := loadOk_unique IS.out his
  clear his
  clear hb
  go_wp2_with fail
  have BW10 := Lib.hid BW9.out.drew
  have sz10 : Hid (w6.heap.size ≤ w6.drew.heap.size) := Nat.le_refl _
  have Rx0_10 := Lib.hid Rx0_9.out.drew
  have Rx1_10 := Lib.hid Rx1_9.out.drew
  have XaS_10 := Lib.hid XaS_9.out.drew
  have Xx0_10 := Lib.hid Xx0_9.out.drew
  have cvx00 : Hid ((#[.slice Ax0 len0 cx0, .slice Bx0 m0 dx0] : Array Value)[0]? = some (.slice Ax0 len0 cx0)) := rfl
  have cvx01 : Hid ((#[.slice Ax0 len0 cx0, .slice Bx0 m0 dx0] : Array Value)[1]? = some (.slice Bx0 m0 dx0)) := rfl
  have cvaS0 : Hid ((#[.slice a0 len0 cap0, .slice b0 m0 d0] : Array Value)[0]? = some (.slice a0 len0 cap0)) := rfl
  have cvaS1 : Hid ((#[.slice a0 len0 cap0, .slice b0 m0 d0] : Array Value)[1]? = some (.slice b0 m0 d0)) := rfl
  go_region_held3 (fun w' => w'.cell? ⟨w4.heap.size, 0, none⟩ = some (.slice Ax0 len0 cx0) ∧ w'.cell? ⟨w4.heap.size, 1, none⟩ = some (.slice Bx0 m0 dx0) ∧ w'.cell? ⟨w.heap.size, 0, none⟩ = some (.slice a0 len0 cap0) ∧ w'.cell? ⟨w.heap.size, 1, none⟩ = some (.slice b0 m0 d0)) (first | with_reducible exact ⟨cellS Xx0_12 cvx00, cellS Xx0_12 cvx01, cellS XaS_12 cvaS0, cellS XaS_12 cvaS1⟩ | with_reducible exact ⟨cellS Xx0_11 cvx00, cellS Xx0_11 cvx01, cellS XaS_11 cvaS0, cellS XaS_11 cvaS1⟩ | with_reducible exact ⟨cellS Xx0_10 cvx00, cellS Xx0_10 cvx01, cellS XaS_10 cvaS0, cellS XaS_10 cvaS1⟩) (first | (go_at_call 24; refine (eqStructure_same Ax0 At3 len0 cx0 ct3 z0 Bx0 Bt3 m0 dx0 dt3 y0 _ (tin Rx0_11 Ftz0 (by omega) (by omega)) (tin Rt3_11 Ftz0 (by omega) (by omega))).mono ?_; rintro e w8 ⟨rfl, hb⟩; have BW12 := Lib.hid (BW11.out.trans (hb.mono BW11.out.size)); have sz12 : Hid (w7.heap.size ≤ w8.heap.size) := hb.size; have Rx0_12 := Lib.hid (Rx0_11.out.below hb); have Rx1_12 := Lib.hid (Rx1_11.out.below hb); have Rt3_12 := Lib.hid (Rt3_11.out.below hb); have XaS_12 := Lib.hid (XaS_11.out.below hb XaS_11.out.lt); have Xx0_12 := Lib.hid (Xx0_11.out.below hb Xx0_11.out.lt); clear hb) | (go_at_call 21; refine (toStructure_any a0 len0 cap0 z0 b0 m0 d0 y0 _ (Inz0.out.below BW10.out)).mono ?_; rintro e w7 ⟨At3, ct3, Bt3, dt3, rfl, ho, hb⟩; have BW11 := Lib.hid (BW10.out.trans (hb.mono BW10.out.size)); have sz11 : Hid (w6.drew.heap.size ≤ w7.heap.size) := hb.size; have Rx0_11 := Lib.hid (Rx0_10.out.below hb); have Rx1_11 := Lib.hid (Rx1_10.out.below hb); have XaS_11 := Lib.hid (XaS_10.out.below hb XaS_10.out.lt); have Xx0_11 := Lib.hid (Xx0_10.out.below hb Xx0_10.out.lt); have Ut3 := Lib.hid ho.lt; have Rt3_11 := Lib.hid ho.holds; clear ho hb))
  clear cvx00 cvx01 cvaS0 cvaS1
  clear Rx0_12 Ux0 Xx0_12
  clear Rt3_12 Ut3
  go_wp2_with fail
  refine (toIntS_any a1 len1 cap1 z1 _ Inz1.out.len Inz1.out.le (Inz1.out.rd.below BW12.out)).mono ?_
  rintro e w9 ⟨v, rfl, ho, hb⟩
  have BW13 := Lib.hid (BW12.out.trans (hb.mono BW12.out.size))
  have sz13 : Hid (w8.heap.size ≤ w9.heap.size) := hb.size
  have Rx1_13 := Lib.hid (Rx1_12.out.below hb)
  have XaS_13 := Lib.hid (XaS_12.out.below hb XaS_12.out.lt)
  obtain ⟨At4, ct4, rfl⟩ := own_slice ho
  have Ut4 := Lib.hid (show ∀ k, blk _ k → _ ∧ _ from fun k hk => ho.lt k hk)
  have Rt4_13 := Lib.hid (own_holds ho)
  clear ho hb
  go_wp2_with fail
  refine (eqIntS_same Ax1 At4 len1 cx1 ct4 z1 _ Inz1.out.len (by unfold maxLen; omega) (Reads.of_own (inow Rx1_13)) (Reads.of_own (inow Rt4_13))).mono ?_
  rintro e w10 ⟨rfl, hb⟩
  have BW14 := Lib.hid (BW13.out.trans (hb.mono BW13.out.size))
  have sz14 : Hid (w9.heap.size ≤ w10.heap.size) := hb.size
  have Rx1_14 := Lib.hid (Rx1_13.out.below hb)
  have Rt4_14 := Lib.hid (Rt4_13.out.below hb)
  have XaS_14 := Lib.hid (XaS_13.out.below hb XaS_13.out.lt)
  clear hb
  clear Rx1_14 Ux1
  clear Rt4_14 Ut4
  go_wp2_with fail
  go_ret
  exact ⟨rfl, BW14.out⟩
end Go.Proofs.Ytipmeijfmiiedaa.fnExactLoadOk
