/- The walk of the law: for all arguments the law FnExactIsPositive returns true: the program's IsPositive answers as the model's; no condition on them. -/
import Derived.Test.YtdehcddjkcpnfaaGreatGV
import Derived.Test.YtdehcddjkcpnfaaGreatMatMem
import Derived.Test.YtdehcddjkcpnfaaGreatFS
import Derived.Test.YtdehcddjkcpnfaaGreatFC
import Derived.ProofKit
import Derived.OpenShut
import Derived.ShutString
import Derived.Lib.SmallJoins
namespace Go.Proofs.YtdehcddjkcpnfaaGreat.fnExactIsPositive
set_option maxRecDepth 100000
open Go.ChangeShapes Go.WideShapes Go.ChangeAt Go.RowKit Go.Joins Go.Deep
open Go.ChangeMaps (open_string shut_string)

set_option maxRecDepth 100000 in
set_option maxHeartbeats 16000000 in
theorem walk {w : World} (p0 : Int) (hp0 : (Lit.int .i64 p0).wf = true) (q0 : Int) (hq0 : (Lit.int .i64 q0).wf = true) (a0 : Option Addr) (len0 cap0 : Nat) (z0 : List RD) (hz0 : IsV w a0 len0 z0) :
    Calls Tryz.prog 7 #[.agg #[.int .i64 p0, .int .i64 q0, .slice a0 len0 cap0]] w fun e w' => e = .returned (.bool true) ∧ Below w.heap.size w w' := by
  have Bp0 := bounds_i64 hp0
  clear hp0
  have Bq0 := bounds_i64 hq0
  clear hq0
  have hmz0 : len0 ≤ maxLen := hz0.2.1
  have Hz0 := Lib.hid hz0
  clear hz0
  have BW0 : Hid (Below w.heap.size w w) := Below.refl _ _
  have BW1 := Lib.hid (BW0.out.alloc BW0.out.size (.cells #[.int .i64 p0, .int .i64 q0, .slice a0 len0 cap0] 44))
  have sz1 : Hid (w.heap.size + 1 ≤ (w.alloc (.cells #[.int .i64 p0, .int .i64 q0, .slice a0 len0 cap0] 44)).heap.size) := Lib.hid (by simp)
  have XaM_1 := Lib.hid (Box.new w 44 #[.int .i64 p0, .int .i64 q0, .slice a0 len0 cap0])
  go_enter Tryz.func7, Tryz.ntmps7
  have eaM0a : (w.alloc (.cells #[.int .i64 p0, .int .i64 q0, .slice a0 len0 cap0] 44)).cell? ⟨w.heap.size, 0, none⟩ = some (.int .i64 p0) := XaM_1.out.cell 0
  have eaM1a : (w.alloc (.cells #[.int .i64 p0, .int .i64 q0, .slice a0 len0 cap0] 44)).cell? ⟨w.heap.size, 1, none⟩ = some (.int .i64 q0) := XaM_1.out.cell 1
  have eaM2a : (w.alloc (.cells #[.int .i64 p0, .int .i64 q0, .slice a0 len0 cap0] 44)).cell? ⟨w.heap.size, 2, none⟩ = some (.slice a0 len0 cap0) := XaM_1.out.cell 2
  go_wp2_with fail
  clear eaM0a eaM1a eaM2a
  refine (szMatrix_any p0 q0 a0 len0 cap0 z0 (1048576 : Int) _ (Hz0.out.below BW1.out) (by omega) (by omega)).mono ?_
  rintro e ws0 ⟨lf0, rfl, hr, hb⟩
  have BW2 := Lib.hid (BW1.out.trans (hb.mono BW1.out.size))
  have sz2 : Hid ((w.alloc (.cells #[.int .i64 p0, .int .i64 q0, .slice a0 len0 cap0] 44)).heap.size ≤ ws0.heap.size) := hb.size
  have XaM_2 := Lib.hid (XaM_1.out.below hb XaM_1.out.lt)
  clear hb
  rcases hr with rfl | ⟨h0, hr⟩
  · go_wp2_with fail
    go_ret
    exact ⟨rfl, BW2.out⟩
  have lb0 : 0 ≤ lf0 ∧ lf0 ≤ 1048576 := by omega
  have ls0 : lf0 + ((len0 : Int) + tot z0) = (1048576 : Int) := by omega
  have HLS0 := Lib.hid ls0
  have lt0 : len0 + tot z0 ≤ 1048576 := by omega
  clear ls0 hr
  have h00 := h0
  clear h0
  have Ftz0 := Lib.hid (Hz0.out.fits (by omega))
  have eaM0a : ws0.cell? ⟨w.heap.size, 0, none⟩ = some (.int .i64 p0) := XaM_2.out.cell 0
  have eaM1a : ws0.cell? ⟨w.heap.size, 1, none⟩ = some (.int .i64 q0) := XaM_2.out.cell 1
  have eaM2a : ws0.cell? ⟨w.heap.size, 2, none⟩ = some (.slice a0 len0 cap0) := XaM_2.out.cell 2
  go_wp2_with fail
  clear eaM0a eaM1a eaM2a
  refine (toMatrix_any p0 q0 a0 len0 cap0 z0 _ (Hz0.out.below BW2.out) (by omega)).mono ?_
  rintro e w1 ⟨V, Lt1, rfl, ho, hh, hb⟩
  have BW3 := Lib.hid (BW2.out.trans (hb.mono BW2.out.size))
  have sz3 : Hid (ws0.heap.size ≤ w1.heap.size) := hb.size
  have XaM_3 := Lib.hid (XaM_2.out.below hb XaM_2.out.lt)
  obtain ⟨At1, ct1, rfl⟩ := ho.slice
  have Ut1 := Lib.hid ho.lt
  have Rt1_3 := Lib.hid ho.holds
  have hcapt1 : len0 ≤ ct1 := own_le ho.2.1
  have HHt1 := Lib.hid hh
  obtain ⟨mt1, hmt1⟩ : ∃ m, m = mtot Lt1 := ⟨_, rfl⟩
  have Mt1 : Hid (mt1 = len0 + tot z0) := Lib.hid (by have := mtot_has hh; have := Hz0.out.1; omega)
  have Qt1 : Hid (mtot Lt1 = mt1) := hmt1.symm
  clear hmt1
  clear ho hh hb
  go_wp2_with fail
  refine (spec_isPositive p0 q0 At1 len0 ct1 z0 _ (vin Rt1_3 HHt1 (by omega) Ftz0) Bp0 Bq0 hcapt1).mono ?_
  rintro e w2 ⟨r1_0, rfl, his, hb⟩
  have BW4 := Lib.hid (BW3.out.trans (hb.mono BW3.out.size))
  have sz4 : Hid (w1.heap.size ≤ w2.heap.size) := hb.size
  have Rt1_4 := Lib.hid (Rt1_3.out.below hb)
  have XaM_4 := Lib.hid (XaM_3.out.below hb XaM_3.out.lt)
  have IS := Lib.hid his
  clear his
  clear hb
  clear Rt1_4 Ut1
  have eaM0a : w2.cell? ⟨w.heap.size, 0, none⟩ = some (.int .i64 p0) := XaM_4.out.cell 0
  have eaM1a : w2.cell? ⟨w.heap.size, 1, none⟩ = some (.int .i64 q0) := XaM_4.out.cell 1
  have eaM2a : w2.cell? ⟨w.heap.size, 2, none⟩ = some (.slice a0 len0 cap0) := XaM_4.out.cell 2
  go_wp2_with fail
  clear eaM0a eaM1a eaM2a
  refine (toMatrix_any p0 q0 a0 len0 cap0 z0 _ (Hz0.out.below BW4.out) (by omega)).mono ?_
  rintro e w3 ⟨V, Lx0, rfl, ho, hh, hb⟩
  have BW5 := Lib.hid (BW4.out.trans (hb.mono BW4.out.size))
  have sz5 : Hid (w2.heap.size ≤ w3.heap.size) := hb.size
  have XaM_5 := Lib.hid (XaM_4.out.below hb XaM_4.out.lt)
  obtain ⟨Ax0, cx0, rfl⟩ := ho.slice
  have Ux0 := Lib.hid ho.lt
  have Rx0_5 := Lib.hid ho.holds
  have hcapx0 : len0 ≤ cx0 := own_le ho.2.1
  have HHx0 := Lib.hid hh
  obtain ⟨mx0, hmx0⟩ : ∃ m, m = mtot Lx0 := ⟨_, rfl⟩
  have Mx0 : Hid (mx0 = len0 + tot z0) := Lib.hid (by have := mtot_has hh; have := Hz0.out.1; omega)
  have Qx0 : Hid (mtot Lx0 = mx0) := hmx0.symm
  clear hmx0
  clear ho hh hb
  have BW6 := Lib.hid (BW5.out.alloc BW5.out.size (.cells #[.int .i64 p0, .int .i64 q0, .slice Ax0 len0 cx0] 47))
  have sz6 : Hid (w3.heap.size + 1 ≤ (w3.alloc (.cells #[.int .i64 p0, .int .i64 q0, .slice Ax0 len0 cx0] 47)).heap.size) := Lib.hid (by simp)
  have Rx0_6 := Lib.hid (Rx0_5.out.alloc (.cells #[.int .i64 p0, .int .i64 q0, .slice Ax0 len0 cx0] 47))
  have XaM_6 := Lib.hid (XaM_5.out.alloc (.cells #[.int .i64 p0, .int .i64 q0, .slice Ax0 len0 cx0] 47))
  have Xx0_6 := Lib.hid (Box.new w3 47 #[.int .i64 p0, .int .i64 q0, .slice Ax0 len0 cx0])
  go_wp2_with fail
  refine (impl_isPositive p0 q0 Ax0 len0 cx0 z0 _ (vin Rx0_6 HHx0 (by omega) Ftz0) Bp0 Bq0 hcapx0).mono ?_
  rintro e w4 ⟨r2_0, rfl, his, hb⟩
  have BW7 := Lib.hid (BW6.out.trans (hb.mono BW6.out.size))
  have sz7 : Hid ((w3.alloc (.cells #[.int .i64 p0, .int .i64 q0, .slice Ax0 len0 cx0] 47)).heap.size ≤ w4.heap.size) := hb.size
  have Rx0_7 := Lib.hid (Rx0_6.out.below hb)
  have XaM_7 := Lib.hid (XaM_6.out.below hb XaM_6.out.lt)
  have Xx0_7 := Lib.hid (Xx0_6.out.below hb Xx0_6.out.lt)
  obtain rfl := isPositive_unique IS.out his
  clear his
  clear hb
  go_wp2_with fail
  have BW8 := Lib.hid BW7.out.drew
  have sz8 : Hid (w4.heap.size ≤ w4.drew.heap.size) := Nat.le_refl _
  have Rx0_8 := Lib.hid Rx0_7.out.drew
  have XaM_8 := Lib.hid XaM_7.out.drew
  have Xx0_8 := Lib.hid Xx0_7.out.drew
  have cvx00 : Hid ((#[.int .i64 p0, .int .i64 q0, .slice Ax0 len0 cx0] : Array Value)[0]? = some (.int .i64 p0)) := rfl
  have cvx01 : Hid ((#[.int .i64 p0, .int .i64 q0, .slice Ax0 len0 cx0] : Array Value)[1]? = some (.int .i64 q0)) := rfl
  have cvx02 : Hid ((#[.int .i64 p0, .int .i64 q0, .slice Ax0 len0 cx0] : Array Value)[2]? = some (.slice Ax0 len0 cx0)) := rfl
  have cvaM0 : Hid ((#[.int .i64 p0, .int .i64 q0, .slice a0 len0 cap0] : Array Value)[0]? = some (.int .i64 p0)) := rfl
  have cvaM1 : Hid ((#[.int .i64 p0, .int .i64 q0, .slice a0 len0 cap0] : Array Value)[1]? = some (.int .i64 q0)) := rfl
  have cvaM2 : Hid ((#[.int .i64 p0, .int .i64 q0, .slice a0 len0 cap0] : Array Value)[2]? = some (.slice a0 len0 cap0)) := rfl
  go_region_held3 (fun w' => w'.cell? ⟨w3.heap.size, 0, none⟩ = some (.int .i64 p0) ∧ w'.cell? ⟨w3.heap.size, 1, none⟩ = some (.int .i64 q0) ∧ w'.cell? ⟨w3.heap.size, 2, none⟩ = some (.slice Ax0 len0 cx0) ∧ w'.cell? ⟨w.heap.size, 0, none⟩ = some (.int .i64 p0) ∧ w'.cell? ⟨w.heap.size, 1, none⟩ = some (.int .i64 q0) ∧ w'.cell? ⟨w.heap.size, 2, none⟩ = some (.slice a0 len0 cap0)) (first | with_reducible exact ⟨cellS Xx0_10 cvx00, cellS Xx0_10 cvx01, cellS Xx0_10 cvx02, cellS XaM_10 cvaM0, cellS XaM_10 cvaM1, cellS XaM_10 cvaM2⟩ | with_reducible exact ⟨cellS Xx0_9 cvx00, cellS Xx0_9 cvx01, cellS Xx0_9 cvx02, cellS XaM_9 cvaM0, cellS XaM_9 cvaM1, cellS XaM_9 cvaM2⟩ | with_reducible exact ⟨cellS Xx0_8 cvx00, cellS Xx0_8 cvx01, cellS Xx0_8 cvx02, cellS XaM_8 cvaM0, cellS XaM_8 cvaM1, cellS XaM_8 cvaM2⟩) (first | (go_at_call 28; refine (eqMatrix_same p0 q0 Ax0 At2 len0 cx0 ct2 z0 _ (vin Rx0_9 HHx0 (by omega) Ftz0) (vin Rt2_9 HHt2 (by omega) Ftz0)).mono ?_; rintro e w6 ⟨rfl, hb⟩; have BW10 := Lib.hid (BW9.out.trans (hb.mono BW9.out.size)); have sz10 : Hid (w5.heap.size ≤ w6.heap.size) := hb.size; have Rx0_10 := Lib.hid (Rx0_9.out.below hb); have Rt2_10 := Lib.hid (Rt2_9.out.below hb); have XaM_10 := Lib.hid (XaM_9.out.below hb XaM_9.out.lt); have Xx0_10 := Lib.hid (Xx0_9.out.below hb Xx0_9.out.lt); clear hb) | (go_at_call 26; refine (toMatrix_any p0 q0 a0 len0 cap0 z0 _ (Hz0.out.below BW8.out) (by omega)).mono ?_; rintro e w5 ⟨V, Lt2, rfl, ho, hh, hb⟩; have BW9 := Lib.hid (BW8.out.trans (hb.mono BW8.out.size)); have sz9 : Hid (w4.drew.heap.size ≤ w5.heap.size) := hb.size; have Rx0_9 := Lib.hid (Rx0_8.out.below hb); have XaM_9 := Lib.hid (XaM_8.out.below hb XaM_8.out.lt); have Xx0_9 := Lib.hid (Xx0_8.out.below hb Xx0_8.out.lt); obtain ⟨At2, ct2, rfl⟩ := ho.slice; have Ut2 := Lib.hid ho.lt; have Rt2_9 := Lib.hid ho.holds; have hcapt2 : len0 ≤ ct2 := own_le ho.2.1; have HHt2 := Lib.hid hh; obtain ⟨mt2, hmt2⟩ : ∃ m, m = mtot Lt2 := ⟨_, rfl⟩; have Mt2 : Hid (mt2 = len0 + tot z0) := Lib.hid (by have := mtot_has hh; have := Hz0.out.1; omega); have Qt2 : Hid (mtot Lt2 = mt2) := hmt2.symm; clear hmt2; clear ho hh hb))
  clear cvx00 cvx01 cvx02 cvaM0 cvaM1 cvaM2
  clear Rx0_10 Ux0 Xx0_10
  clear Rt2_10 Ut2
  go_wp2_with fail
  go_ret
  exact ⟨rfl, BW10.out⟩
end Go.Proofs.YtdehcddjkcpnfaaGreat.fnExactIsPositive
