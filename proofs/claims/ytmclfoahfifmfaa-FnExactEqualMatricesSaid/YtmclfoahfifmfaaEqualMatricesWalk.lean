/- The walk of the law: for all arguments the law FnExactEqualMatrices returns true: the program's EqualMatrices answers as the model's; no condition on them. -/
import Derived.Test.YtmclfoahfifmfaaGV
import Derived.Test.YtmclfoahfifmfaaMatMem
import Derived.Test.YtmclfoahfifmfaaMatE
import Derived.Test.YtmclfoahfifmfaaGF
import Derived.ProofKit
import Derived.OpenShut
import Derived.ShutString
import Derived.Lib.SmallJoins
namespace Go.Proofs.Ytmclfoahfifmfaa.fnExactEqualMatrices
set_option maxRecDepth 100000
open Go.ChangeShapes Go.WideShapes Go.ChangeAt Go.RowKit Go.Joins Go.Deep
open Go.ChangeMaps (open_string shut_string)

set_option maxRecDepth 100000 in
set_option maxHeartbeats 16000000 in
theorem walk {w : World} (p0 : Int) (hp0 : (Lit.int .i64 p0).wf = true) (q0 : Int) (hq0 : (Lit.int .i64 q0).wf = true) (a0 : Option Addr) (len0 cap0 : Nat) (z0 : List RD) (hz0 : IsV w a0 len0 z0) (p1 : Int) (hp1 : (Lit.int .i64 p1).wf = true) (q1 : Int) (hq1 : (Lit.int .i64 q1).wf = true) (a1 : Option Addr) (len1 cap1 : Nat) (z1 : List RD) (hz1 : IsV w a1 len1 z1) :
    Calls Try.prog 11 #[.agg #[.int .i64 p0, .int .i64 q0, .slice a0 len0 cap0], .agg #[.int .i64 p1, .int .i64 q1, .slice a1 len1 cap1]] w fun e w' => e = .returned (.bool true) ∧ Below w.heap.size w w' := by
  have Bp0 := bounds_i64 hp0
  clear hp0
  have Bq0 := bounds_i64 hq0
  clear hq0
  have hmz0 : len0 ≤ maxLen := hz0.2.1
  have Hz0 := Lib.hid hz0
  clear hz0
  have Bp1 := bounds_i64 hp1
  clear hp1
  have Bq1 := bounds_i64 hq1
  clear hq1
  have hmz1 : len1 ≤ maxLen := hz1.2.1
  have Hz1 := Lib.hid hz1
  clear hz1
  have BW0 : Hid (Below w.heap.size w w) := Below.refl _ _
  have BW1 := Lib.hid (BW0.out.alloc BW0.out.size (.cells #[.int .i64 p0, .int .i64 q0, .slice a0 len0 cap0] 47))
  have sz1 : Hid (w.heap.size + 1 ≤ (w.alloc (.cells #[.int .i64 p0, .int .i64 q0, .slice a0 len0 cap0] 47)).heap.size) := Lib.hid (by simp)
  have XaA_1 := Lib.hid (Box.new w 47 #[.int .i64 p0, .int .i64 q0, .slice a0 len0 cap0])
  have BW2 := Lib.hid (BW1.out.alloc BW1.out.size (.cells #[.int .i64 p1, .int .i64 q1, .slice a1 len1 cap1] 47))
  have sz2 : Hid ((w.alloc (.cells #[.int .i64 p0, .int .i64 q0, .slice a0 len0 cap0] 47)).heap.size + 1 ≤ ((w.alloc (.cells #[.int .i64 p0, .int .i64 q0, .slice a0 len0 cap0] 47)).alloc (.cells #[.int .i64 p1, .int .i64 q1, .slice a1 len1 cap1] 47)).heap.size) := Lib.hid (by simp)
  have XaA_2 := Lib.hid (XaA_1.out.alloc (.cells #[.int .i64 p1, .int .i64 q1, .slice a1 len1 cap1] 47))
  have XaB_2 : Hid (Box ((w.alloc (.cells #[.int .i64 p0, .int .i64 q0, .slice a0 len0 cap0] 47)).alloc (.cells #[.int .i64 p1, .int .i64 q1, .slice a1 len1 cap1] 47)) (w.heap.size + 1) 47 #[.int .i64 p1, .int .i64 q1, .slice a1 len1 cap1]) := Lib.hid (Box.at' (by simp))
  go_enter Try.func11, Try.ntmps11
  have eaA0a : ((w.alloc (.cells #[.int .i64 p0, .int .i64 q0, .slice a0 len0 cap0] 47)).alloc (.cells #[.int .i64 p1, .int .i64 q1, .slice a1 len1 cap1] 47)).cell? ⟨w.heap.size, 0, none⟩ = some (.int .i64 p0) := XaA_2.out.cell 0
  have eaA1a : ((w.alloc (.cells #[.int .i64 p0, .int .i64 q0, .slice a0 len0 cap0] 47)).alloc (.cells #[.int .i64 p1, .int .i64 q1, .slice a1 len1 cap1] 47)).cell? ⟨w.heap.size, 1, none⟩ = some (.int .i64 q0) := XaA_2.out.cell 1
  have eaA2a : ((w.alloc (.cells #[.int .i64 p0, .int .i64 q0, .slice a0 len0 cap0] 47)).alloc (.cells #[.int .i64 p1, .int .i64 q1, .slice a1 len1 cap1] 47)).cell? ⟨w.heap.size, 2, none⟩ = some (.slice a0 len0 cap0) := XaA_2.out.cell 2
  go_wp2_with fail
  clear eaA0a eaA1a eaA2a
  refine (szMatrix_any p0 q0 a0 len0 cap0 z0 (1048576 : Int) _ (Hz0.out.below BW2.out) (by omega) (by omega)).mono ?_
  rintro e ws0 ⟨lf0, rfl, hr, hb⟩
  have BW3 := Lib.hid (BW2.out.trans (hb.mono BW2.out.size))
  have sz3 : Hid (((w.alloc (.cells #[.int .i64 p0, .int .i64 q0, .slice a0 len0 cap0] 47)).alloc (.cells #[.int .i64 p1, .int .i64 q1, .slice a1 len1 cap1] 47)).heap.size ≤ ws0.heap.size) := hb.size
  have XaA_3 := Lib.hid (XaA_2.out.below hb XaA_2.out.lt)
  have XaB_3 := Lib.hid (XaB_2.out.below hb XaB_2.out.lt)
  clear hb
  rcases hr with rfl | ⟨h0, hr⟩
  · go_wp2_with fail
    go_ret
    exact ⟨rfl, BW3.out⟩
  have lb0 : 0 ≤ lf0 ∧ lf0 ≤ 1048576 := by omega
  have ls0 : lf0 + ((len0 : Int) + tot z0) = (1048576 : Int) := by omega
  have HLS0 := Lib.hid ls0
  have lt0 : len0 + tot z0 ≤ 1048576 := by omega
  clear ls0 hr
  have h00 := h0
  clear h0
  have Ftz0 := Lib.hid (Hz0.out.fits (by omega))
  have eaB0a : ws0.cell? ⟨w.heap.size + 1, 0, none⟩ = some (.int .i64 p1) := XaB_3.out.cell 0
  have eaB1a : ws0.cell? ⟨w.heap.size + 1, 1, none⟩ = some (.int .i64 q1) := XaB_3.out.cell 1
  have eaB2a : ws0.cell? ⟨w.heap.size + 1, 2, none⟩ = some (.slice a1 len1 cap1) := XaB_3.out.cell 2
  go_wp2_with fail
  clear eaB0a eaB1a eaB2a
  refine (szMatrix_any p1 q1 a1 len1 cap1 z1 lf0 _ (Hz1.out.below BW3.out) (by omega) (by omega)).mono ?_
  rintro e ws1 ⟨lf1, rfl, hr, hb⟩
  have BW4 := Lib.hid (BW3.out.trans (hb.mono BW3.out.size))
  have sz4 : Hid (ws0.heap.size ≤ ws1.heap.size) := hb.size
  have XaA_4 := Lib.hid (XaA_3.out.below hb XaA_3.out.lt)
  have XaB_4 := Lib.hid (XaB_3.out.below hb XaB_3.out.lt)
  clear hb
  rcases hr with rfl | ⟨h0, hr⟩
  · go_wp2_with fail
    go_ret
    exact ⟨rfl, BW4.out⟩
  have lb1 : 0 ≤ lf1 ∧ lf1 ≤ 1048576 := by omega
  have ls1 : lf1 + ((len1 : Int) + tot z1) = lf0 := by omega
  have HLS1 := Lib.hid ls1
  have lt1 : len1 + tot z1 ≤ 1048576 := by omega
  clear ls1 hr
  have h01 := h0
  clear h0
  have Ftz1 := Lib.hid (Hz1.out.fits (by omega))
  go_wp2_with fail
  have BW5 := Lib.hid BW4.out.drew
  have sz5 : Hid (ws1.heap.size ≤ ws1.drew.heap.size) := Nat.le_refl _
  have XaA_5 := Lib.hid XaA_4.out.drew
  have XaB_5 := Lib.hid XaB_4.out.drew
  have cvaA0 : Hid ((#[.int .i64 p0, .int .i64 q0, .slice a0 len0 cap0] : Array Value)[0]? = some (.int .i64 p0)) := rfl
  have cvaA1 : Hid ((#[.int .i64 p0, .int .i64 q0, .slice a0 len0 cap0] : Array Value)[1]? = some (.int .i64 q0)) := rfl
  have cvaA2 : Hid ((#[.int .i64 p0, .int .i64 q0, .slice a0 len0 cap0] : Array Value)[2]? = some (.slice a0 len0 cap0)) := rfl
  have cvaB0 : Hid ((#[.int .i64 p1, .int .i64 q1, .slice a1 len1 cap1] : Array Value)[0]? = some (.int .i64 p1)) := rfl
  have cvaB1 : Hid ((#[.int .i64 p1, .int .i64 q1, .slice a1 len1 cap1] : Array Value)[1]? = some (.int .i64 q1)) := rfl
  have cvaB2 : Hid ((#[.int .i64 p1, .int .i64 q1, .slice a1 len1 cap1] : Array Value)[2]? = some (.slice a1 len1 cap1)) := rfl
  go_region_held3 (fun w' => w'.cell? ⟨w.heap.size, 0, none⟩ = some (.int .i64 p0) ∧ w'.cell? ⟨w.heap.size, 1, none⟩ = some (.int .i64 q0) ∧ w'.cell? ⟨w.heap.size, 2, none⟩ = some (.slice a0 len0 cap0) ∧ w'.cell? ⟨w.heap.size + 1, 0, none⟩ = some (.int .i64 p1) ∧ w'.cell? ⟨w.heap.size + 1, 1, none⟩ = some (.int .i64 q1) ∧ w'.cell? ⟨w.heap.size + 1, 2, none⟩ = some (.slice a1 len1 cap1)) (first | with_reducible exact ⟨cellS XaA_8 cvaA0, cellS XaA_8 cvaA1, cellS XaA_8 cvaA2, cellS XaB_8 cvaB0, cellS XaB_8 cvaB1, cellS XaB_8 cvaB2⟩ | with_reducible exact ⟨cellS XaA_7 cvaA0, cellS XaA_7 cvaA1, cellS XaA_7 cvaA2, cellS XaB_7 cvaB0, cellS XaB_7 cvaB1, cellS XaB_7 cvaB2⟩ | with_reducible exact ⟨cellS XaA_6 cvaA0, cellS XaA_6 cvaA1, cellS XaA_6 cvaA2, cellS XaB_6 cvaB0, cellS XaB_6 cvaB1, cellS XaB_6 cvaB2⟩ | with_reducible exact ⟨cellS XaA_5 cvaA0, cellS XaA_5 cvaA1, cellS XaA_5 cvaA2, cellS XaB_5 cvaB0, cellS XaB_5 cvaB1, cellS XaB_5 cvaB2⟩) (first | (go_at_call 47; (with_reducible refine (spec_equalMatrices p0 q0 At1 len0 ct1 z0 p1 q1 At2 len1 ct2 z1 _ (vin Rt1_7 HHt1 (by omega) Ftz0) Bp0 Bq0 hcapt1 (vin Rt2_7 HHt2 (by omega) Ftz1) Bp1 Bq1 hcapt2).mono ?_); rintro e w3 ⟨r1_0, rfl, his, hb⟩; have BW8 := Lib.hid (BW7.out.trans (hb.mono BW7.out.size)); have sz8 : Hid (w2.heap.size ≤ w3.heap.size) := hb.size; have Rt1_8 := Lib.hid (Rt1_7.out.below hb); have Rt2_8 := Lib.hid (Rt2_7.out.below hb); have XaA_8 := Lib.hid (XaA_7.out.below hb XaA_7.out.lt); have XaB_8 := Lib.hid (XaB_7.out.below hb XaB_7.out.lt); have IS := Lib.hid his; clear his; clear hb; clear Rt1_8 Ut1; clear Rt2_8 Ut2) | (go_at_call 25; (with_reducible refine (toMatrix_any p1 q1 a1 len1 cap1 z1 _ (Hz1.out.below BW6.out) (by omega)).mono ?_); rintro e w2 ⟨V, Lt2, rfl, ho, hh, hb⟩; have BW7 := Lib.hid (BW6.out.trans (hb.mono BW6.out.size)); have sz7 : Hid (w1.heap.size ≤ w2.heap.size) := hb.size; have Rt1_7 := Lib.hid (Rt1_6.out.below hb); have XaA_7 := Lib.hid (XaA_6.out.below hb XaA_6.out.lt); have XaB_7 := Lib.hid (XaB_6.out.below hb XaB_6.out.lt); obtain ⟨At2, ct2, rfl⟩ := ho.slice; have Ut2 := Lib.hid ho.lt; have Rt2_7 := Lib.hid ho.holds; have hcapt2 : len1 ≤ ct2 := own_le ho.2.1; have HHt2 := Lib.hid hh; obtain ⟨mt2, hmt2⟩ : ∃ m, m = mtot Lt2 := ⟨_, rfl⟩; have Mt2 : Hid (mt2 = len1 + tot z1) := Lib.hid (by have := mtot_has hh; have := Hz1.out.1; omega); have Qt2 : Hid (mtot Lt2 = mt2) := hmt2.symm; clear hmt2; clear ho hh hb) | (go_at_call 25; (with_reducible refine (toMatrix_any p0 q0 a0 len0 cap0 z0 _ (Hz0.out.below BW5.out) (by omega)).mono ?_); rintro e w1 ⟨V, Lt1, rfl, ho, hh, hb⟩; have BW6 := Lib.hid (BW5.out.trans (hb.mono BW5.out.size)); have sz6 : Hid (ws1.drew.heap.size ≤ w1.heap.size) := hb.size; have XaA_6 := Lib.hid (XaA_5.out.below hb XaA_5.out.lt); have XaB_6 := Lib.hid (XaB_5.out.below hb XaB_5.out.lt); obtain ⟨At1, ct1, rfl⟩ := ho.slice; have Ut1 := Lib.hid ho.lt; have Rt1_6 := Lib.hid ho.holds; have hcapt1 : len0 ≤ ct1 := own_le ho.2.1; have HHt1 := Lib.hid hh; obtain ⟨mt1, hmt1⟩ : ∃ m, m = mtot Lt1 := ⟨_, rfl⟩; have Mt1 : Hid (mt1 = len0 + tot z0) := Lib.hid (by have := mtot_has hh; have := Hz0.out.1; omega); have Qt1 : Hid (mtot Lt1 = mt1) := hmt1.symm; clear hmt1; clear ho hh hb))
  clear cvaA0 cvaA1 cvaA2 cvaB0 cvaB1 cvaB2
  have eaA0a : w3.cell? ⟨w.heap.size, 0, none⟩ = some (.int .i64 p0) := XaA_8.out.cell 0
  have eaA1a : w3.cell? ⟨w.heap.size, 1, none⟩ = some (.int .i64 q0) := XaA_8.out.cell 1
  have eaA2a : w3.cell? ⟨w.heap.size, 2, none⟩ = some (.slice a0 len0 cap0) := XaA_8.out.cell 2
  go_wp2_with fail
  clear eaA0a eaA1a eaA2a
  refine (toMatrix_any p0 q0 a0 len0 cap0 z0 _ (Hz0.out.below BW8.out) (by omega)).mono ?_
  rintro e w4 ⟨V, Lx0, rfl, ho, hh, hb⟩
  have BW9 := Lib.hid (BW8.out.trans (hb.mono BW8.out.size))
  have sz9 : Hid (w3.heap.size ≤ w4.heap.size) := hb.size
  have XaA_9 := Lib.hid (XaA_8.out.below hb XaA_8.out.lt)
  have XaB_9 := Lib.hid (XaB_8.out.below hb XaB_8.out.lt)
  obtain ⟨Ax0, cx0, rfl⟩ := ho.slice
  have Ux0 := Lib.hid ho.lt
  have Rx0_9 := Lib.hid ho.holds
  have hcapx0 : len0 ≤ cx0 := own_le ho.2.1
  have HHx0 := Lib.hid hh
  obtain ⟨mx0, hmx0⟩ : ∃ m, m = mtot Lx0 := ⟨_, rfl⟩
  have Mx0 : Hid (mx0 = len0 + tot z0) := Lib.hid (by have := mtot_has hh; have := Hz0.out.1; omega)
  have Qx0 : Hid (mtot Lx0 = mx0) := hmx0.symm
  clear hmx0
  clear ho hh hb
  have BW10 := Lib.hid (BW9.out.alloc BW9.out.size (.cells #[.int .i64 p0, .int .i64 q0, .slice Ax0 len0 cx0] 25))
  have sz10 : Hid (w4.heap.size + 1 ≤ (w4.alloc (.cells #[.int .i64 p0, .int .i64 q0, .slice Ax0 len0 cx0] 25)).heap.size) := Lib.hid (by simp)
  have Rx0_10 := Lib.hid (Rx0_9.out.alloc (.cells #[.int .i64 p0, .int .i64 q0, .slice Ax0 len0 cx0] 25))
  have XaA_10 := Lib.hid (XaA_9.out.alloc (.cells #[.int .i64 p0, .int .i64 q0, .slice Ax0 len0 cx0] 25))
  have XaB_10 := Lib.hid (XaB_9.out.alloc (.cells #[.int .i64 p0, .int .i64 q0, .slice Ax0 len0 cx0] 25))
  have Xx0_10 := Lib.hid (Box.new w4 25 #[.int .i64 p0, .int .i64 q0, .slice Ax0 len0 cx0])
  have eaB0a : w4.cell? ⟨w.heap.size + 1, 0, none⟩ = some (.int .i64 p1) := XaB_9.out.cell 0
  have eaB1a : w4.cell? ⟨w.heap.size + 1, 1, none⟩ = some (.int .i64 q1) := XaB_9.out.cell 1
  have eaB2a : w4.cell? ⟨w.heap.size + 1, 2, none⟩ = some (.slice a1 len1 cap1) := XaB_9.out.cell 2
  have eaB0b : (w4.alloc (.cells #[.int .i64 p0, .int .i64 q0, .slice Ax0 len0 cx0] 25)).cell? ⟨w.heap.size + 1, 0, none⟩ = some (.int .i64 p1) := XaB_10.out.cell 0
  have eaB1b : (w4.alloc (.cells #[.int .i64 p0, .int .i64 q0, .slice Ax0 len0 cx0] 25)).cell? ⟨w.heap.size + 1, 1, none⟩ = some (.int .i64 q1) := XaB_10.out.cell 1
  have eaB2b : (w4.alloc (.cells #[.int .i64 p0, .int .i64 q0, .slice Ax0 len0 cx0] 25)).cell? ⟨w.heap.size + 1, 2, none⟩ = some (.slice a1 len1 cap1) := XaB_10.out.cell 2
  have neaB0 : w4.heap.size ≠ w.heap.size + 1 := (by have := XaB_9.out.lt; omega)
  go_wp2_with fail
  clear eaB0a eaB1a eaB2a eaB0b eaB1b eaB2b neaB0
  refine (toMatrix_any p1 q1 a1 len1 cap1 z1 _ (Hz1.out.below BW10.out) (by omega)).mono ?_
  rintro e w5 ⟨V, Lx1, rfl, ho, hh, hb⟩
  have BW11 := Lib.hid (BW10.out.trans (hb.mono BW10.out.size))
  have sz11 : Hid ((w4.alloc (.cells #[.int .i64 p0, .int .i64 q0, .slice Ax0 len0 cx0] 25)).heap.size ≤ w5.heap.size) := hb.size
  have Rx0_11 := Lib.hid (Rx0_10.out.below hb)
  have XaA_11 := Lib.hid (XaA_10.out.below hb XaA_10.out.lt)
  have XaB_11 := Lib.hid (XaB_10.out.below hb XaB_10.out.lt)
  have Xx0_11 := Lib.hid (Xx0_10.out.below hb Xx0_10.out.lt)
  obtain ⟨Ax1, cx1, rfl⟩ := ho.slice
  have Ux1 := Lib.hid ho.lt
  have Rx1_11 := Lib.hid ho.holds
  have hcapx1 : len1 ≤ cx1 := own_le ho.2.1
  have HHx1 := Lib.hid hh
  obtain ⟨mx1, hmx1⟩ : ∃ m, m = mtot Lx1 := ⟨_, rfl⟩
  have Mx1 : Hid (mx1 = len1 + tot z1) := Lib.hid (by have := mtot_has hh; have := Hz1.out.1; omega)
  have Qx1 : Hid (mtot Lx1 = mx1) := hmx1.symm
  clear hmx1
  clear ho hh hb
  have BW12 := Lib.hid (BW11.out.alloc BW11.out.size (.cells #[.int .i64 p1, .int .i64 q1, .slice Ax1 len1 cx1] 25))
  have sz12 : Hid (w5.heap.size + 1 ≤ (w5.alloc (.cells #[.int .i64 p1, .int .i64 q1, .slice Ax1 len1 cx1] 25)).heap.size) := Lib.hid (by simp)
  have Rx0_12 := Lib.hid (Rx0_11.out.alloc (.cells #[.int .i64 p1, .int .i64 q1, .slice Ax1 len1 cx1] 25))
  have Rx1_12 := Lib.hid (Rx1_11.out.alloc (.cells #[.int .i64 p1, .int .i64 q1, .slice Ax1 len1 cx1] 25))
  have XaA_12 := Lib.hid (XaA_11.out.alloc (.cells #[.int .i64 p1, .int .i64 q1, .slice Ax1 len1 cx1] 25))
  have XaB_12 := Lib.hid (XaB_11.out.alloc (.cells #[.int .i64 p1, .int .i64 q1, .slice Ax1 len1 cx1] 25))
  have Xx0_12 := Lib.hid (Xx0_11.out.alloc (.cells #[.int .i64 p1, .int .i64 q1, .slice Ax1 len1 cx1] 25))
  have Xx1_12 := Lib.hid (Box.new w5 25 #[.int .i64 p1, .int .i64 q1, .slice Ax1 len1 cx1])
  have ex00a : w5.cell? ⟨w4.heap.size, 0, none⟩ = some (.int .i64 p0) := Xx0_11.out.cell 0
  have ex01a : w5.cell? ⟨w4.heap.size, 1, none⟩ = some (.int .i64 q0) := Xx0_11.out.cell 1
  have ex02a : w5.cell? ⟨w4.heap.size, 2, none⟩ = some (.slice Ax0 len0 cx0) := Xx0_11.out.cell 2
  have ex00b : (w5.alloc (.cells #[.int .i64 p1, .int .i64 q1, .slice Ax1 len1 cx1] 25)).cell? ⟨w4.heap.size, 0, none⟩ = some (.int .i64 p0) := Xx0_12.out.cell 0
  have ex01b : (w5.alloc (.cells #[.int .i64 p1, .int .i64 q1, .slice Ax1 len1 cx1] 25)).cell? ⟨w4.heap.size, 1, none⟩ = some (.int .i64 q0) := Xx0_12.out.cell 1
  have ex02b : (w5.alloc (.cells #[.int .i64 p1, .int .i64 q1, .slice Ax1 len1 cx1] 25)).cell? ⟨w4.heap.size, 2, none⟩ = some (.slice Ax0 len0 cx0) := Xx0_12.out.cell 2
  have nex00 : w5.heap.size ≠ w4.heap.size := (by have := Xx0_11.out.lt; omega)
  go_wp2_with fail
  clear ex00a ex01a ex02a ex00b ex01b ex02b nex00
  refine (impl_equalMatrices p0 q0 Ax0 len0 cx0 z0 p1 q1 Ax1 len1 cx1 z1 _ (vin Rx0_12 HHx0 (by omega) Ftz0) Bp0 Bq0 hcapx0 (vin Rx1_12 HHx1 (by omega) Ftz1) Bp1 Bq1 hcapx1).mono ?_
  rintro e w6 ⟨r2_0, rfl, his, hb⟩
  have BW13 := Lib.hid (BW12.out.trans (hb.mono BW12.out.size))
  have sz13 : Hid ((w5.alloc (.cells #[.int .i64 p1, .int .i64 q1, .slice Ax1 len1 cx1] 25)).heap.size ≤ w6.heap.size) := hb.size
  have Rx0_13 := Lib.hid (Rx0_12.out.below hb)
  have Rx1_13 := Lib.hid (Rx1_12.out.below hb)
  have XaA_13 := Lib.hid (XaA_12.out.below hb XaA_12.out.lt)
  have XaB_13 := Lib.hid (XaB_12.out.below hb XaB_12.out.lt)
  have Xx0_13 := Lib.hid (Xx0_12.out.below hb Xx0_12.out.lt)
  have Xx1_13 := Lib.hid (Xx1_12.out.below hb Xx1_12.out.lt)
  obtain rfl := equalMatrices_unique IS.out his
  clear his
  clear hb
  go_wp2_with fail
  have BW14 := Lib.hid BW13.out.drew
  have sz14 : Hid (w6.heap.size ≤ w6.drew.heap.size) := Nat.le_refl _
  have Rx0_14 := Lib.hid Rx0_13.out.drew
  have Rx1_14 := Lib.hid Rx1_13.out.drew
  have XaA_14 := Lib.hid XaA_13.out.drew
  have XaB_14 := Lib.hid XaB_13.out.drew
  have Xx0_14 := Lib.hid Xx0_13.out.drew
  have Xx1_14 := Lib.hid Xx1_13.out.drew
  have cvx00 : Hid ((#[.int .i64 p0, .int .i64 q0, .slice Ax0 len0 cx0] : Array Value)[0]? = some (.int .i64 p0)) := rfl
  have cvx01 : Hid ((#[.int .i64 p0, .int .i64 q0, .slice Ax0 len0 cx0] : Array Value)[1]? = some (.int .i64 q0)) := rfl
  have cvx02 : Hid ((#[.int .i64 p0, .int .i64 q0, .slice Ax0 len0 cx0] : Array Value)[2]? = some (.slice Ax0 len0 cx0)) := rfl
  have cvaA0 : Hid ((#[.int .i64 p0, .int .i64 q0, .slice a0 len0 cap0] : Array Value)[0]? = some (.int .i64 p0)) := rfl
  have cvaA1 : Hid ((#[.int .i64 p0, .int .i64 q0, .slice a0 len0 cap0] : Array Value)[1]? = some (.int .i64 q0)) := rfl
  have cvaA2 : Hid ((#[.int .i64 p0, .int .i64 q0, .slice a0 len0 cap0] : Array Value)[2]? = some (.slice a0 len0 cap0)) := rfl
  go_region_held3 (fun w' => w'.cell? ⟨w4.heap.size, 0, none⟩ = some (.int .i64 p0) ∧ w'.cell? ⟨w4.heap.size, 1, none⟩ = some (.int .i64 q0) ∧ w'.cell? ⟨w4.heap.size, 2, none⟩ = some (.slice Ax0 len0 cx0) ∧ w'.cell? ⟨w.heap.size, 0, none⟩ = some (.int .i64 p0) ∧ w'.cell? ⟨w.heap.size, 1, none⟩ = some (.int .i64 q0) ∧ w'.cell? ⟨w.heap.size, 2, none⟩ = some (.slice a0 len0 cap0)) (first | with_reducible exact ⟨cellS Xx0_16 cvx00, cellS Xx0_16 cvx01, cellS Xx0_16 cvx02, cellS XaA_16 cvaA0, cellS XaA_16 cvaA1, cellS XaA_16 cvaA2⟩ | with_reducible exact ⟨cellS Xx0_15 cvx00, cellS Xx0_15 cvx01, cellS Xx0_15 cvx02, cellS XaA_15 cvaA0, cellS XaA_15 cvaA1, cellS XaA_15 cvaA2⟩ | with_reducible exact ⟨cellS Xx0_14 cvx00, cellS Xx0_14 cvx01, cellS Xx0_14 cvx02, cellS XaA_14 cvaA0, cellS XaA_14 cvaA1, cellS XaA_14 cvaA2⟩) (first | (go_at_call 26; refine (eqMatrix_same p0 q0 Ax0 At3 len0 cx0 ct3 z0 _ (vin Rx0_15 HHx0 (by omega) Ftz0) (vin Rt3_15 HHt3 (by omega) Ftz0)).mono ?_; rintro e w8 ⟨rfl, hb⟩; have BW16 := Lib.hid (BW15.out.trans (hb.mono BW15.out.size)); have sz16 : Hid (w7.heap.size ≤ w8.heap.size) := hb.size; have Rx0_16 := Lib.hid (Rx0_15.out.below hb); have Rx1_16 := Lib.hid (Rx1_15.out.below hb); have Rt3_16 := Lib.hid (Rt3_15.out.below hb); have XaA_16 := Lib.hid (XaA_15.out.below hb XaA_15.out.lt); have XaB_16 := Lib.hid (XaB_15.out.below hb XaB_15.out.lt); have Xx0_16 := Lib.hid (Xx0_15.out.below hb Xx0_15.out.lt); have Xx1_16 := Lib.hid (Xx1_15.out.below hb Xx1_15.out.lt); clear hb) | (go_at_call 25; refine (toMatrix_any p0 q0 a0 len0 cap0 z0 _ (Hz0.out.below BW14.out) (by omega)).mono ?_; rintro e w7 ⟨V, Lt3, rfl, ho, hh, hb⟩; have BW15 := Lib.hid (BW14.out.trans (hb.mono BW14.out.size)); have sz15 : Hid (w6.drew.heap.size ≤ w7.heap.size) := hb.size; have Rx0_15 := Lib.hid (Rx0_14.out.below hb); have Rx1_15 := Lib.hid (Rx1_14.out.below hb); have XaA_15 := Lib.hid (XaA_14.out.below hb XaA_14.out.lt); have XaB_15 := Lib.hid (XaB_14.out.below hb XaB_14.out.lt); have Xx0_15 := Lib.hid (Xx0_14.out.below hb Xx0_14.out.lt); have Xx1_15 := Lib.hid (Xx1_14.out.below hb Xx1_14.out.lt); obtain ⟨At3, ct3, rfl⟩ := ho.slice; have Ut3 := Lib.hid ho.lt; have Rt3_15 := Lib.hid ho.holds; have hcapt3 : len0 ≤ ct3 := own_le ho.2.1; have HHt3 := Lib.hid hh; obtain ⟨mt3, hmt3⟩ : ∃ m, m = mtot Lt3 := ⟨_, rfl⟩; have Mt3 : Hid (mt3 = len0 + tot z0) := Lib.hid (by have := mtot_has hh; have := Hz0.out.1; omega); have Qt3 : Hid (mtot Lt3 = mt3) := hmt3.symm; clear hmt3; clear ho hh hb))
  clear cvx00 cvx01 cvx02 cvaA0 cvaA1 cvaA2
  clear Rx0_16 Ux0 Xx0_16
  clear Rt3_16 Ut3
  go_wp2_with fail
  have BW17 := Lib.hid BW16.out.drew
  have sz17 : Hid (w8.heap.size ≤ w8.drew.heap.size) := Nat.le_refl _
  have Rx1_17 := Lib.hid Rx1_16.out.drew
  have XaA_17 := Lib.hid XaA_16.out.drew
  have XaB_17 := Lib.hid XaB_16.out.drew
  have Xx1_17 := Lib.hid Xx1_16.out.drew
  have cvx10 : Hid ((#[.int .i64 p1, .int .i64 q1, .slice Ax1 len1 cx1] : Array Value)[0]? = some (.int .i64 p1)) := rfl
  have cvx11 : Hid ((#[.int .i64 p1, .int .i64 q1, .slice Ax1 len1 cx1] : Array Value)[1]? = some (.int .i64 q1)) := rfl
  have cvx12 : Hid ((#[.int .i64 p1, .int .i64 q1, .slice Ax1 len1 cx1] : Array Value)[2]? = some (.slice Ax1 len1 cx1)) := rfl
  have cvaB0 : Hid ((#[.int .i64 p1, .int .i64 q1, .slice a1 len1 cap1] : Array Value)[0]? = some (.int .i64 p1)) := rfl
  have cvaB1 : Hid ((#[.int .i64 p1, .int .i64 q1, .slice a1 len1 cap1] : Array Value)[1]? = some (.int .i64 q1)) := rfl
  have cvaB2 : Hid ((#[.int .i64 p1, .int .i64 q1, .slice a1 len1 cap1] : Array Value)[2]? = some (.slice a1 len1 cap1)) := rfl
  go_region_held3 (fun w' => w'.cell? ⟨w5.heap.size, 0, none⟩ = some (.int .i64 p1) ∧ w'.cell? ⟨w5.heap.size, 1, none⟩ = some (.int .i64 q1) ∧ w'.cell? ⟨w5.heap.size, 2, none⟩ = some (.slice Ax1 len1 cx1) ∧ w'.cell? ⟨w.heap.size + 1, 0, none⟩ = some (.int .i64 p1) ∧ w'.cell? ⟨w.heap.size + 1, 1, none⟩ = some (.int .i64 q1) ∧ w'.cell? ⟨w.heap.size + 1, 2, none⟩ = some (.slice a1 len1 cap1)) (first | with_reducible exact ⟨cellS Xx1_19 cvx10, cellS Xx1_19 cvx11, cellS Xx1_19 cvx12, cellS XaB_19 cvaB0, cellS XaB_19 cvaB1, cellS XaB_19 cvaB2⟩ | with_reducible exact ⟨cellS Xx1_18 cvx10, cellS Xx1_18 cvx11, cellS Xx1_18 cvx12, cellS XaB_18 cvaB0, cellS XaB_18 cvaB1, cellS XaB_18 cvaB2⟩ | with_reducible exact ⟨cellS Xx1_17 cvx10, cellS Xx1_17 cvx11, cellS Xx1_17 cvx12, cellS XaB_17 cvaB0, cellS XaB_17 cvaB1, cellS XaB_17 cvaB2⟩) (first | (go_at_call 26; refine (eqMatrix_same p1 q1 Ax1 At4 len1 cx1 ct4 z1 _ (vin Rx1_18 HHx1 (by omega) Ftz1) (vin Rt4_18 HHt4 (by omega) Ftz1)).mono ?_; rintro e w10 ⟨rfl, hb⟩; have BW19 := Lib.hid (BW18.out.trans (hb.mono BW18.out.size)); have sz19 : Hid (w9.heap.size ≤ w10.heap.size) := hb.size; have Rx1_19 := Lib.hid (Rx1_18.out.below hb); have Rt4_19 := Lib.hid (Rt4_18.out.below hb); have XaA_19 := Lib.hid (XaA_18.out.below hb XaA_18.out.lt); have XaB_19 := Lib.hid (XaB_18.out.below hb XaB_18.out.lt); have Xx1_19 := Lib.hid (Xx1_18.out.below hb Xx1_18.out.lt); clear hb) | (go_at_call 25; refine (toMatrix_any p1 q1 a1 len1 cap1 z1 _ (Hz1.out.below BW17.out) (by omega)).mono ?_; rintro e w9 ⟨V, Lt4, rfl, ho, hh, hb⟩; have BW18 := Lib.hid (BW17.out.trans (hb.mono BW17.out.size)); have sz18 : Hid (w8.drew.heap.size ≤ w9.heap.size) := hb.size; have Rx1_18 := Lib.hid (Rx1_17.out.below hb); have XaA_18 := Lib.hid (XaA_17.out.below hb XaA_17.out.lt); have XaB_18 := Lib.hid (XaB_17.out.below hb XaB_17.out.lt); have Xx1_18 := Lib.hid (Xx1_17.out.below hb Xx1_17.out.lt); obtain ⟨At4, ct4, rfl⟩ := ho.slice; have Ut4 := Lib.hid ho.lt; have Rt4_18 := Lib.hid ho.holds; have hcapt4 : len1 ≤ ct4 := own_le ho.2.1; have HHt4 := Lib.hid hh; obtain ⟨mt4, hmt4⟩ : ∃ m, m = mtot Lt4 := ⟨_, rfl⟩; have Mt4 : Hid (mt4 = len1 + tot z1) := Lib.hid (by have := mtot_has hh; have := Hz1.out.1; omega); have Qt4 : Hid (mtot Lt4 = mt4) := hmt4.symm; clear hmt4; clear ho hh hb))
  clear cvx10 cvx11 cvx12 cvaB0 cvaB1 cvaB2
  clear Rx1_19 Ux1 Xx1_19
  clear Rt4_19 Ut4
  go_wp2_with fail
  go_ret
  exact ⟨rfl, BW19.out⟩
end Go.Proofs.Ytmclfoahfifmfaa.fnExactEqualMatrices
