/- The walk of the law: for all arguments the law FnExactSolveSystem returns true: the program's SolveSystem answers as the model's; no condition on them. -/
import Derived.Test.YthjbfdifeffilaaGreatGV
import Derived.Test.YthjbfdifeffilaaGreatMatMem
import Derived.Test.YthjbfdifeffilaaGreatEC
import Derived.Test.YthjbfdifeffilaaGreatElJ8
import Derived.ProofKit
import Derived.OpenShut
import Derived.ShutString
import Derived.Lib.SmallJoins
namespace Go.Proofs.YthjbfdifeffilaaGreat.fnExactSolveSystem
set_option maxRecDepth 100000
open Go.ChangeShapes Go.WideShapes Go.ChangeAt Go.RowKit Go.Joins Go.Deep
open Go.ChangeMaps (open_string shut_string)

set_option maxRecDepth 100000 in
set_option maxHeartbeats 16000000 in
theorem walk {w : World} (p0 : Int) (hp0 : (Lit.int .i64 p0).wf = true) (q0 : Int) (hq0 : (Lit.int .i64 q0).wf = true) (a0 : Option Addr) (len0 cap0 : Nat) (z0 : List RD) (hz0 : IsV w a0 len0 z0) (a1 : Option Addr) (len1 cap1 : Nat) (z1 : List RD) (hz1 : IsV w a1 len1 z1) :
    Calls Tryz.prog 8 #[.agg #[.int .i64 p0, .int .i64 q0, .slice a0 len0 cap0], .slice a1 len1 cap1] w fun e w' => e = .returned (.bool true) ∧ Below w.heap.size w w' := by
  have Bp0 := bounds_i64 hp0
  clear hp0
  have Bq0 := bounds_i64 hq0
  clear hq0
  have hmz0 : len0 ≤ maxLen := hz0.2.1
  have Hz0 := Lib.hid hz0
  clear hz0
  have hmz1 : len1 ≤ maxLen := hz1.2.1
  have Hz1 := Lib.hid hz1
  clear hz1
  have BW0 : Hid (Below w.heap.size w w) := Below.refl _ _
  have BW1 := Lib.hid (BW0.out.alloc BW0.out.size (.cells #[.int .i64 p0, .int .i64 q0, .slice a0 len0 cap0] 50))
  have sz1 : Hid (w.heap.size + 1 ≤ (w.alloc (.cells #[.int .i64 p0, .int .i64 q0, .slice a0 len0 cap0] 50)).heap.size) := Lib.hid (by simp)
  have XaM_1 := Lib.hid (Box.new w 50 #[.int .i64 p0, .int .i64 q0, .slice a0 len0 cap0])
  go_enter Tryz.func8, Tryz.ntmps8
  have eaM0a : (w.alloc (.cells #[.int .i64 p0, .int .i64 q0, .slice a0 len0 cap0] 50)).cell? ⟨w.heap.size, 0, none⟩ = some (.int .i64 p0) := XaM_1.out.cell 0
  have eaM1a : (w.alloc (.cells #[.int .i64 p0, .int .i64 q0, .slice a0 len0 cap0] 50)).cell? ⟨w.heap.size, 1, none⟩ = some (.int .i64 q0) := XaM_1.out.cell 1
  have eaM2a : (w.alloc (.cells #[.int .i64 p0, .int .i64 q0, .slice a0 len0 cap0] 50)).cell? ⟨w.heap.size, 2, none⟩ = some (.slice a0 len0 cap0) := XaM_1.out.cell 2
  go_wp2_with fail
  clear eaM0a eaM1a eaM2a
  refine (szMatrix_any p0 q0 a0 len0 cap0 z0 (1048576 : Int) _ (Hz0.out.below BW1.out) (by omega) (by omega)).mono ?_
  rintro e ws0 ⟨lf0, rfl, hr, hb⟩
  have BW2 := Lib.hid (BW1.out.trans (hb.mono BW1.out.size))
  have sz2 : Hid ((w.alloc (.cells #[.int .i64 p0, .int .i64 q0, .slice a0 len0 cap0] 50)).heap.size ≤ ws0.heap.size) := hb.size
  have XaM_2 := Lib.hid (XaM_1.out.below hb XaM_1.out.lt)
  clear hb
  rcases hr with rfl | ⟨h0, hr⟩
  · go_wp2_with fail
    go_ret
    exact ⟨rfl, BW2.out⟩
  have lb0 : 0 ≤ lf0 ∧ lf0 ≤ 1048576 := by omega
  have ls0 : lf0 + ((len0 : Int) + tot z0) = (1048576 : Int) := by omega
  have HLS0 := Lib.hid ls0
  have lt0 : len0 + tot z0 ≤ 1048576 := by omega
  clear ls0 hr
  have h00 := h0
  clear h0
  have Ftz0 := Lib.hid (Hz0.out.fits (by omega))
  go_wp2_with fail
  refine (szRatS_any a1 len1 cap1 z1 lf0 _ (Hz1.out.below BW2.out) (by omega) (by omega)).mono ?_
  rintro e ws1 ⟨lf1, rfl, hr, hb⟩
  have BW3 := Lib.hid (BW2.out.trans (hb.mono BW2.out.size))
  have sz3 : Hid (ws0.heap.size ≤ ws1.heap.size) := hb.size
  have XaM_3 := Lib.hid (XaM_2.out.below hb XaM_2.out.lt)
  clear hb
  rcases hr with rfl | ⟨h0, hr⟩
  · go_wp2_with fail
    go_ret
    exact ⟨rfl, BW3.out⟩
  have lb1 : 0 ≤ lf1 ∧ lf1 ≤ 1048576 := by omega
  have ls1 : lf1 + ((len1 : Int) + tot z1) = lf0 := by omega
  have HLS1 := Lib.hid ls1
  have lt1 : len1 + tot z1 ≤ 1048576 := by omega
  clear ls1 hr
  have h01 := h0
  clear h0
  have Ftz1 := Lib.hid (Hz1.out.fits (by omega))
  have eaM0a : ws1.cell? ⟨w.heap.size, 0, none⟩ = some (.int .i64 p0) := XaM_3.out.cell 0
  have eaM1a : ws1.cell? ⟨w.heap.size, 1, none⟩ = some (.int .i64 q0) := XaM_3.out.cell 1
  have eaM2a : ws1.cell? ⟨w.heap.size, 2, none⟩ = some (.slice a0 len0 cap0) := XaM_3.out.cell 2
  go_wp2_with fail
  clear eaM0a eaM1a eaM2a
  refine (toMatrix_any p0 q0 a0 len0 cap0 z0 _ (Hz0.out.below BW3.out) (by omega)).mono ?_
  rintro e w1 ⟨V, Lt1, rfl, ho, hh, hb⟩
  have BW4 := Lib.hid (BW3.out.trans (hb.mono BW3.out.size))
  have sz4 : Hid (ws1.heap.size ≤ w1.heap.size) := hb.size
  have XaM_4 := Lib.hid (XaM_3.out.below hb XaM_3.out.lt)
  obtain ⟨At1, ct1, rfl⟩ := ho.slice
  have Ut1 := Lib.hid ho.lt
  have Rt1_4 := Lib.hid ho.holds
  have hcapt1 : len0 ≤ ct1 := own_le ho.2.1
  have HHt1 := Lib.hid hh
  obtain ⟨mt1, hmt1⟩ : ∃ m, m = mtot Lt1 := ⟨_, rfl⟩
  have Mt1 : Hid (mt1 = len0 + tot z0) := Lib.hid (by have := mtot_has hh; have := Hz0.out.1; omega)
  have Qt1 : Hid (mtot Lt1 = mt1) := hmt1.symm
  clear hmt1
  clear ho hh hb
  go_wp2_with fail
  refine (toRatS_any a1 len1 cap1 z1 _ (Hz1.out.below BW4.out) (by omega)).mono ?_
  rintro e w2 ⟨V, Lt2, rfl, ho, hh, hb⟩
  have BW5 := Lib.hid (BW4.out.trans (hb.mono BW4.out.size))
  have sz5 : Hid (w1.heap.size ≤ w2.heap.size) := hb.size
  have Rt1_5 := Lib.hid (Rt1_4.out.below hb)
  have XaM_5 := Lib.hid (XaM_4.out.below hb XaM_4.out.lt)
  obtain ⟨At2, ct2, rfl⟩ := ho.slice
  have Ut2 := Lib.hid ho.lt
  have Rt2_5 := Lib.hid ho.holds
  have hcapt2 : len1 ≤ ct2 := own_le ho.2.1
  have HHt2 := Lib.hid hh
  obtain ⟨mt2, hmt2⟩ : ∃ m, m = mtot Lt2 := ⟨_, rfl⟩
  have Mt2 : Hid (mt2 = len1 + tot z1) := Lib.hid (by have := mtot_has hh; have := Hz1.out.1; omega)
  have Qt2 : Hid (mtot Lt2 = mt2) := hmt2.symm
  clear hmt2
  clear ho hh hb
  go_wp2_with fail
  refine (spec_solveSystem p0 q0 At1 len0 ct1 z0 At2 len1 ct2 z1 _ (vin Rt1_5 HHt1 (by omega) Ftz0) Bp0 Bq0 hcapt1 (vin Rt2_5 HHt2 (by omega) Ftz1) hcapt2).mono ?_
  rintro e w3 ⟨r1_0, v0, r1_1, rfl, his, h0, hb⟩
  have BW6 := Lib.hid (BW5.out.trans (hb.mono BW5.out.size))
  have sz6 : Hid (w2.heap.size ≤ w3.heap.size) := hb.size
  have Rt1_6 := Lib.hid (Rt1_5.out.below hb)
  have Rt2_6 := Lib.hid (Rt2_5.out.below hb)
  have XaM_6 := Lib.hid (XaM_5.out.below hb XaM_5.out.lt)
  have IS := Lib.hid his
  clear his
  obtain ⟨hl, hf, Lw0, ho, hh⟩ := h0
  obtain ⟨N0, hN⟩ : ∃ N, N = r1_0.length := ⟨_, rfl⟩
  rw [← hN] at hl ho
  have HN0 : Hid (r1_0.length = N0) := hN.symm
  have hl0 := hl
  have Ftr1_0 := Lib.hid hf
  clear hN hl hf
  obtain ⟨Aw0, cw0, rfl⟩ := ho.slice
  have Uw0 := Lib.hid ho.lt
  have Rw0_6 := Lib.hid ho.holds
  have HHw0 := Lib.hid hh
  obtain ⟨mw0, hmw0⟩ : ∃ m, m = mtot Lw0 := ⟨_, rfl⟩
  have Mw0 : Hid (mw0 = N0 + tot r1_0) := Lib.hid (by have := mtot_has hh; have := HN0.out; omega)
  have Qw0 : Hid (mtot Lw0 = mw0) := hmw0.symm
  clear hmw0
  clear ho hh
  clear hb
  clear Rt1_6 Ut1
  clear Rt2_6 Ut2
  have eaM0a : w3.cell? ⟨w.heap.size, 0, none⟩ = some (.int .i64 p0) := XaM_6.out.cell 0
  have eaM1a : w3.cell? ⟨w.heap.size, 1, none⟩ = some (.int .i64 q0) := XaM_6.out.cell 1
  have eaM2a : w3.cell? ⟨w.heap.size, 2, none⟩ = some (.slice a0 len0 cap0) := XaM_6.out.cell 2
  go_wp2_with fail
  clear eaM0a eaM1a eaM2a
  refine (toMatrix_any p0 q0 a0 len0 cap0 z0 _ (Hz0.out.below BW6.out) (by omega)).mono ?_
  rintro e w4 ⟨V, Lx0, rfl, ho, hh, hb⟩
  have BW7 := Lib.hid (BW6.out.trans (hb.mono BW6.out.size))
  have sz7 : Hid (w3.heap.size ≤ w4.heap.size) := hb.size
  have Rw0_7 := Lib.hid (Rw0_6.out.below hb)
  have XaM_7 := Lib.hid (XaM_6.out.below hb XaM_6.out.lt)
  obtain ⟨Ax0, cx0, rfl⟩ := ho.slice
  have Ux0 := Lib.hid ho.lt
  have Rx0_7 := Lib.hid ho.holds
  have hcapx0 : len0 ≤ cx0 := own_le ho.2.1
  have HHx0 := Lib.hid hh
  obtain ⟨mx0, hmx0⟩ : ∃ m, m = mtot Lx0 := ⟨_, rfl⟩
  have Mx0 : Hid (mx0 = len0 + tot z0) := Lib.hid (by have := mtot_has hh; have := Hz0.out.1; omega)
  have Qx0 : Hid (mtot Lx0 = mx0) := hmx0.symm
  clear hmx0
  clear ho hh hb
  have BW8 := Lib.hid (BW7.out.alloc BW7.out.size (.cells #[.int .i64 p0, .int .i64 q0, .slice Ax0 len0 cx0] 25))
  have sz8 : Hid (w4.heap.size + 1 ≤ (w4.alloc (.cells #[.int .i64 p0, .int .i64 q0, .slice Ax0 len0 cx0] 25)).heap.size) := Lib.hid (by simp)
  have Rw0_8 := Lib.hid (Rw0_7.out.alloc (.cells #[.int .i64 p0, .int .i64 q0, .slice Ax0 len0 cx0] 25))
  have Rx0_8 := Lib.hid (Rx0_7.out.alloc (.cells #[.int .i64 p0, .int .i64 q0, .slice Ax0 len0 cx0] 25))
  have XaM_8 := Lib.hid (XaM_7.out.alloc (.cells #[.int .i64 p0, .int .i64 q0, .slice Ax0 len0 cx0] 25))
  have Xx0_8 := Lib.hid (Box.new w4 25 #[.int .i64 p0, .int .i64 q0, .slice Ax0 len0 cx0])
  go_wp2_with fail
  refine (toRatS_any a1 len1 cap1 z1 _ (Hz1.out.below BW8.out) (by omega)).mono ?_
  rintro e w5 ⟨V, Lx1, rfl, ho, hh, hb⟩
  have BW9 := Lib.hid (BW8.out.trans (hb.mono BW8.out.size))
  have sz9 : Hid ((w4.alloc (.cells #[.int .i64 p0, .int .i64 q0, .slice Ax0 len0 cx0] 25)).heap.size ≤ w5.heap.size) := hb.size
  have Rw0_9 := Lib.hid (Rw0_8.out.below hb)
  have Rx0_9 := Lib.hid (Rx0_8.out.below hb)
  have XaM_9 := Lib.hid (XaM_8.out.below hb XaM_8.out.lt)
  have Xx0_9 := Lib.hid (Xx0_8.out.below hb Xx0_8.out.lt)
  obtain ⟨Ax1, cx1, rfl⟩ := ho.slice
  have Ux1 := Lib.hid ho.lt
  have Rx1_9 := Lib.hid ho.holds
  have hcapx1 : len1 ≤ cx1 := own_le ho.2.1
  have HHx1 := Lib.hid hh
  obtain ⟨mx1, hmx1⟩ : ∃ m, m = mtot Lx1 := ⟨_, rfl⟩
  have Mx1 : Hid (mx1 = len1 + tot z1) := Lib.hid (by have := mtot_has hh; have := Hz1.out.1; omega)
  have Qx1 : Hid (mtot Lx1 = mx1) := hmx1.symm
  clear hmx1
  clear ho hh hb
  have ex00a : w5.cell? ⟨w4.heap.size, 0, none⟩ = some (.int .i64 p0) := Xx0_9.out.cell 0
  have ex01a : w5.cell? ⟨w4.heap.size, 1, none⟩ = some (.int .i64 q0) := Xx0_9.out.cell 1
  have ex02a : w5.cell? ⟨w4.heap.size, 2, none⟩ = some (.slice Ax0 len0 cx0) := Xx0_9.out.cell 2
  go_wp2_with fail
  clear ex00a ex01a ex02a
  refine (impl_solveSystem p0 q0 Ax0 len0 cx0 z0 Ax1 len1 cx1 z1 _ (vin Rx0_9 HHx0 (by omega) Ftz0) Bp0 Bq0 hcapx0 (vin Rx1_9 HHx1 (by omega) Ftz1) hcapx1).mono ?_
  rintro e w6 ⟨r2_0, v0, r2_1, rfl, his, h0, hb⟩
  have BW10 := Lib.hid (BW9.out.trans (hb.mono BW9.out.size))
  have sz10 : Hid (w5.heap.size ≤ w6.heap.size) := hb.size
  have Rw0_10 := Lib.hid (Rw0_9.out.below hb)
  have Rx0_10 := Lib.hid (Rx0_9.out.below hb)
  have Rx1_10 := Lib.hid (Rx1_9.out.below hb)
  have XaM_10 := Lib.hid (XaM_9.out.below hb XaM_9.out.lt)
  have Xx0_10 := Lib.hid (Xx0_9.out.below hb Xx0_9.out.lt)
  obtain ⟨rfl, rfl⟩ := solveSystem_unique IS.out his
  clear his
  obtain ⟨_, _, Lg0, ho, hh⟩ := h0
  rw [HN0.out] at ho
  obtain ⟨Ag0, cg0, rfl⟩ := ho.slice
  have Ug0 := Lib.hid ho.lt
  have Rg0_10 := Lib.hid ho.holds
  have HHg0 := Lib.hid hh
  obtain ⟨mg0, hmg0⟩ : ∃ m, m = mtot Lg0 := ⟨_, rfl⟩
  have Mg0 : Hid (mg0 = N0 + tot r1_0) := Lib.hid (by have := mtot_has hh; have := HN0.out; omega)
  have Qg0 : Hid (mtot Lg0 = mg0) := hmg0.symm
  clear hmg0
  clear ho hh
  clear hb
  go_wp2_with fail
  refine (eqRatS_same Ag0 Aw0 N0 cg0 cw0 r1_0 _ (vin Rg0_10 HHg0 (by omega) Ftr1_0) (vin Rw0_10 HHw0 (by omega) Ftr1_0)).mono ?_
  rintro e w7 ⟨rfl, hb⟩
  have BW11 := Lib.hid (BW10.out.trans (hb.mono BW10.out.size))
  have sz11 : Hid (w6.heap.size ≤ w7.heap.size) := hb.size
  have Rw0_11 := Lib.hid (Rw0_10.out.below hb)
  have Rx0_11 := Lib.hid (Rx0_10.out.below hb)
  have Rx1_11 := Lib.hid (Rx1_10.out.below hb)
  have Rg0_11 := Lib.hid (Rg0_10.out.below hb)
  have XaM_11 := Lib.hid (XaM_10.out.below hb XaM_10.out.lt)
  have Xx0_11 := Lib.hid (Xx0_10.out.below hb Xx0_10.out.lt)
  clear hb
  go_wp2_with fail
  have BW12 := Lib.hid BW11.out.drew
  have sz12 : Hid (w7.heap.size ≤ w7.drew.heap.size) := Nat.le_refl _
  have Rw0_12 := Lib.hid Rw0_11.out.drew
  have Rx0_12 := Lib.hid Rx0_11.out.drew
  have Rx1_12 := Lib.hid Rx1_11.out.drew
  have Rg0_12 := Lib.hid Rg0_11.out.drew
  have XaM_12 := Lib.hid XaM_11.out.drew
  have Xx0_12 := Lib.hid Xx0_11.out.drew
  have cvx00 : Hid ((#[.int .i64 p0, .int .i64 q0, .slice Ax0 len0 cx0] : Array Value)[0]? = some (.int .i64 p0)) := rfl
  have cvx01 : Hid ((#[.int .i64 p0, .int .i64 q0, .slice Ax0 len0 cx0] : Array Value)[1]? = some (.int .i64 q0)) := rfl
  have cvx02 : Hid ((#[.int .i64 p0, .int .i64 q0, .slice Ax0 len0 cx0] : Array Value)[2]? = some (.slice Ax0 len0 cx0)) := rfl
  have cvaM0 : Hid ((#[.int .i64 p0, .int .i64 q0, .slice a0 len0 cap0] : Array Value)[0]? = some (.int .i64 p0)) := rfl
  have cvaM1 : Hid ((#[.int .i64 p0, .int .i64 q0, .slice a0 len0 cap0] : Array Value)[1]? = some (.int .i64 q0)) := rfl
  have cvaM2 : Hid ((#[.int .i64 p0, .int .i64 q0, .slice a0 len0 cap0] : Array Value)[2]? = some (.slice a0 len0 cap0)) := rfl
  go_region_held3 (fun w' => w'.cell? ⟨w4.heap.size, 0, none⟩ = some (.int .i64 p0) ∧ w'.cell? ⟨w4.heap.size, 1, none⟩ = some (.int .i64 q0) ∧ w'.cell? ⟨w4.heap.size, 2, none⟩ = some (.slice Ax0 len0 cx0) ∧ w'.cell? ⟨w.heap.size, 0, none⟩ = some (.int .i64 p0) ∧ w'.cell? ⟨w.heap.size, 1, none⟩ = some (.int .i64 q0) ∧ w'.cell? ⟨w.heap.size, 2, none⟩ = some (.slice a0 len0 cap0)) (first | with_reducible exact ⟨cellS Xx0_14 cvx00, cellS Xx0_14 cvx01, cellS Xx0_14 cvx02, cellS XaM_14 cvaM0, cellS XaM_14 cvaM1, cellS XaM_14 cvaM2⟩ | with_reducible exact ⟨cellS Xx0_13 cvx00, cellS Xx0_13 cvx01, cellS Xx0_13 cvx02, cellS XaM_13 cvaM0, cellS XaM_13 cvaM1, cellS XaM_13 cvaM2⟩ | with_reducible exact ⟨cellS Xx0_12 cvx00, cellS Xx0_12 cvx01, cellS Xx0_12 cvx02, cellS XaM_12 cvaM0, cellS XaM_12 cvaM1, cellS XaM_12 cvaM2⟩) (first | (go_at_call 29; refine (eqMatrix_same p0 q0 Ax0 At3 len0 cx0 ct3 z0 _ (vin Rx0_13 HHx0 (by omega) Ftz0) (vin Rt3_13 HHt3 (by omega) Ftz0)).mono ?_; rintro e w9 ⟨rfl, hb⟩; have BW14 := Lib.hid (BW13.out.trans (hb.mono BW13.out.size)); have sz14 : Hid (w8.heap.size ≤ w9.heap.size) := hb.size; have Rw0_14 := Lib.hid (Rw0_13.out.below hb); have Rx0_14 := Lib.hid (Rx0_13.out.below hb); have Rx1_14 := Lib.hid (Rx1_13.out.below hb); have Rg0_14 := Lib.hid (Rg0_13.out.below hb); have Rt3_14 := Lib.hid (Rt3_13.out.below hb); have XaM_14 := Lib.hid (XaM_13.out.below hb XaM_13.out.lt); have Xx0_14 := Lib.hid (Xx0_13.out.below hb Xx0_13.out.lt); clear hb) | (go_at_call 28; refine (toMatrix_any p0 q0 a0 len0 cap0 z0 _ (Hz0.out.below BW12.out) (by omega)).mono ?_; rintro e w8 ⟨V, Lt3, rfl, ho, hh, hb⟩; have BW13 := Lib.hid (BW12.out.trans (hb.mono BW12.out.size)); have sz13 : Hid (w7.drew.heap.size ≤ w8.heap.size) := hb.size; have Rw0_13 := Lib.hid (Rw0_12.out.below hb); have Rx0_13 := Lib.hid (Rx0_12.out.below hb); have Rx1_13 := Lib.hid (Rx1_12.out.below hb); have Rg0_13 := Lib.hid (Rg0_12.out.below hb); have XaM_13 := Lib.hid (XaM_12.out.below hb XaM_12.out.lt); have Xx0_13 := Lib.hid (Xx0_12.out.below hb Xx0_12.out.lt); obtain ⟨At3, ct3, rfl⟩ := ho.slice; have Ut3 := Lib.hid ho.lt; have Rt3_13 := Lib.hid ho.holds; have hcapt3 : len0 ≤ ct3 := own_le ho.2.1; have HHt3 := Lib.hid hh; obtain ⟨mt3, hmt3⟩ : ∃ m, m = mtot Lt3 := ⟨_, rfl⟩; have Mt3 : Hid (mt3 = len0 + tot z0) := Lib.hid (by have := mtot_has hh; have := Hz0.out.1; omega); have Qt3 : Hid (mtot Lt3 = mt3) := hmt3.symm; clear hmt3; clear ho hh hb))
  clear cvx00 cvx01 cvx02 cvaM0 cvaM1 cvaM2
  clear Rt3_14 Ut3
  go_wp2_with fail
  refine (toRatS_any a1 len1 cap1 z1 _ (Hz1.out.below BW14.out) (by omega)).mono ?_
  rintro e w10 ⟨V, Lt4, rfl, ho, hh, hb⟩
  have BW15 := Lib.hid (BW14.out.trans (hb.mono BW14.out.size))
  have sz15 : Hid (w9.heap.size ≤ w10.heap.size) := hb.size
  have Rw0_15 := Lib.hid (Rw0_14.out.below hb)
  have Rx0_15 := Lib.hid (Rx0_14.out.below hb)
  have Rx1_15 := Lib.hid (Rx1_14.out.below hb)
  have Rg0_15 := Lib.hid (Rg0_14.out.below hb)
  have XaM_15 := Lib.hid (XaM_14.out.below hb XaM_14.out.lt)
  have Xx0_15 := Lib.hid (Xx0_14.out.below hb Xx0_14.out.lt)
  obtain ⟨At4, ct4, rfl⟩ := ho.slice
  have Ut4 := Lib.hid ho.lt
  have Rt4_15 := Lib.hid ho.holds
  have hcapt4 : len1 ≤ ct4 := own_le ho.2.1
  have HHt4 := Lib.hid hh
  obtain ⟨mt4, hmt4⟩ : ∃ m, m = mtot Lt4 := ⟨_, rfl⟩
  have Mt4 : Hid (mt4 = len1 + tot z1) := Lib.hid (by have := mtot_has hh; have := Hz1.out.1; omega)
  have Qt4 : Hid (mtot Lt4 = mt4) := hmt4.symm
  clear hmt4
  clear ho hh hb
  go_wp2_with fail
  refine (eqRatS_same Ax1 At4 len1 cx1 ct4 z1 _ (vin Rx1_15 HHx1 (by omega) Ftz1) (vin Rt4_15 HHt4 (by omega) Ftz1)).mono ?_
  rintro e w11 ⟨rfl, hb⟩
  have BW16 := Lib.hid (BW15.out.trans (hb.mono BW15.out.size))
  have sz16 : Hid (w10.heap.size ≤ w11.heap.size) := hb.size
  have Rw0_16 := Lib.hid (Rw0_15.out.below hb)
  have Rx0_16 := Lib.hid (Rx0_15.out.below hb)
  have Rx1_16 := Lib.hid (Rx1_15.out.below hb)
  have Rg0_16 := Lib.hid (Rg0_15.out.below hb)
  have Rt4_16 := Lib.hid (Rt4_15.out.below hb)
  have XaM_16 := Lib.hid (XaM_15.out.below hb XaM_15.out.lt)
  have Xx0_16 := Lib.hid (Xx0_15.out.below hb Xx0_15.out.lt)
  clear hb
  clear Rt4_16 Ut4
  have ex00a : w11.cell? ⟨w4.heap.size, 0, none⟩ = some (.int .i64 p0) := Xx0_16.out.cell 0
  have ex01a : w11.cell? ⟨w4.heap.size, 1, none⟩ = some (.int .i64 q0) := Xx0_16.out.cell 1
  have ex02a : w11.cell? ⟨w4.heap.size, 2, none⟩ = some (.slice Ax0 len0 cx0) := Xx0_16.out.cell 2
  go_wp2_with fail
  clear ex00a ex01a ex02a
  refine (markMatrix_m _ p0 q0 Ax0 len0 cx0 (1) mx0 Lx0 z0 _ Qx0 (by have := Mx0.out; unfold maxLen; omega) (vnow Rx0_16) HHx0.out).mono ?_
  rintro e w12 ⟨rfl, ho, hW⟩
  have BW17 := Lib.hid (Wrote.below BW16.out hW (fun k hk => Nat.le_trans (Nat.le_trans (Nat.le_of_succ_le sz1.out) (Nat.le_trans sz2.out (Nat.le_trans sz3.out (Nat.le_trans sz4.out (Nat.le_trans sz5.out sz6.out))))) (Ux0.out k hk).1) (Nat.le_trans (Nat.le_of_succ_le sz1.out) (Nat.le_trans sz2.out (Nat.le_trans sz3.out (Nat.le_trans sz4.out (Nat.le_trans sz5.out (Nat.le_trans sz6.out (Nat.le_trans sz7.out (Nat.le_trans (Nat.le_of_succ_le sz8.out) (Nat.le_trans sz9.out (Nat.le_trans sz10.out (Nat.le_trans sz11.out (Nat.le_trans sz12.out (Nat.le_trans sz13.out (Nat.le_trans sz14.out (Nat.le_trans sz15.out sz16.out))))))))))))))))
  have sz17 : Hid (w11.heap.size ≤ w12.heap.size) := hW.size
  have Rw0_17 := Lib.hid (Rw0_16.out.wrote hW (two_none Uw0 Ux0 (.inl (Nat.le_refl _))))
  have Rx1_17 := Lib.hid (Rx1_16.out.wrote hW (two_none Ux1 Ux0 (.inr (Nat.le_of_succ_le sz8.out))))
  have Rg0_17 := Lib.hid (Rg0_16.out.wrote hW (two_none Ug0 Ux0 (.inr (Nat.le_trans (Nat.le_of_succ_le sz8.out) sz9.out))))
  have XaM_17 := Lib.hid (XaM_16.out.wroteV Rx0_16.out.now hW)
  have Xx0_17 := Lib.hid (Xx0_16.out.wroteV Rx0_16.out.now hW)
  have Rx0_17 := Lib.hid ho.holds_marked
  clear ho hW
  clear Rx0_17 Ux0 Xx0_17
  go_wp2_with fail
  refine (markRatS_m _ Ax1 len1 cx1 (1 + mx0) mx1 Lx1 z1 _ Qx1 (by have := Mx0.out; have := Mx1.out; unfold maxLen; omega) (vnow Rx1_17) HHx1.out).mono ?_
  rintro e w13 ⟨rfl, ho, hW⟩
  have BW18 := Lib.hid (Wrote.below BW17.out hW (fun k hk => Nat.le_trans (Nat.le_trans (Nat.le_of_succ_le sz1.out) (Nat.le_trans sz2.out (Nat.le_trans sz3.out (Nat.le_trans sz4.out (Nat.le_trans sz5.out (Nat.le_trans sz6.out (Nat.le_trans sz7.out (Nat.le_of_succ_le sz8.out)))))))) (Ux1.out k hk).1) (Nat.le_trans (Nat.le_of_succ_le sz1.out) (Nat.le_trans sz2.out (Nat.le_trans sz3.out (Nat.le_trans sz4.out (Nat.le_trans sz5.out (Nat.le_trans sz6.out (Nat.le_trans sz7.out (Nat.le_trans (Nat.le_of_succ_le sz8.out) (Nat.le_trans sz9.out (Nat.le_trans sz10.out (Nat.le_trans sz11.out (Nat.le_trans sz12.out (Nat.le_trans sz13.out (Nat.le_trans sz14.out (Nat.le_trans sz15.out (Nat.le_trans sz16.out sz17.out)))))))))))))))))
  have sz18 : Hid (w12.heap.size ≤ w13.heap.size) := hW.size
  have Rw0_18 := Lib.hid (Rw0_17.out.wrote hW (two_none Uw0 Ux1 (.inl (Nat.le_trans sz7.out (Nat.le_of_succ_le sz8.out)))))
  have Rg0_18 := Lib.hid (Rg0_17.out.wrote hW (two_none Ug0 Ux1 (.inr (Nat.le_refl _))))
  have XaM_18 := Lib.hid (XaM_17.out.wroteV Rx1_17.out.now hW)
  have Rx1_18 := Lib.hid ho.holds_marked
  clear ho hW
  clear Rx1_18 Ux1
  go_wp2_with fail
  refine (eqRatS_same Ag0 Aw0 N0 cg0 cw0 r1_0 _ (vin Rg0_18 HHg0 (by omega) Ftr1_0) (vin Rw0_18 HHw0 (by omega) Ftr1_0)).mono ?_
  rintro e w14 ⟨rfl, hb⟩
  have BW19 := Lib.hid (BW18.out.trans (hb.mono BW18.out.size))
  have sz19 : Hid (w13.heap.size ≤ w14.heap.size) := hb.size
  have Rw0_19 := Lib.hid (Rw0_18.out.below hb)
  have Rg0_19 := Lib.hid (Rg0_18.out.below hb)
  have XaM_19 := Lib.hid (XaM_18.out.below hb XaM_18.out.lt)
  clear hb
  go_wp2_with fail
  refine (markRatS_m _ Ag0 N0 cg0 (1) mg0 Lg0 r1_0 _ Qg0 (by have := Mg0.out; unfold maxLen; omega) (vnow Rg0_19) HHg0.out).mono ?_
  rintro e w15 ⟨rfl, ho, hW⟩
  have BW20 := Lib.hid (Wrote.below BW19.out hW (fun k hk => Nat.le_trans (Nat.le_trans (Nat.le_of_succ_le sz1.out) (Nat.le_trans sz2.out (Nat.le_trans sz3.out (Nat.le_trans sz4.out (Nat.le_trans sz5.out (Nat.le_trans sz6.out (Nat.le_trans sz7.out (Nat.le_trans (Nat.le_of_succ_le sz8.out) sz9.out)))))))) (Ug0.out k hk).1) (Nat.le_trans (Nat.le_of_succ_le sz1.out) (Nat.le_trans sz2.out (Nat.le_trans sz3.out (Nat.le_trans sz4.out (Nat.le_trans sz5.out (Nat.le_trans sz6.out (Nat.le_trans sz7.out (Nat.le_trans (Nat.le_of_succ_le sz8.out) (Nat.le_trans sz9.out (Nat.le_trans sz10.out (Nat.le_trans sz11.out (Nat.le_trans sz12.out (Nat.le_trans sz13.out (Nat.le_trans sz14.out (Nat.le_trans sz15.out (Nat.le_trans sz16.out (Nat.le_trans sz17.out (Nat.le_trans sz18.out sz19.out)))))))))))))))))))
  have sz20 : Hid (w14.heap.size ≤ w15.heap.size) := hW.size
  have Rw0_20 := Lib.hid (Rw0_19.out.wrote hW (two_none Uw0 Ug0 (.inl (Nat.le_trans sz7.out (Nat.le_trans (Nat.le_of_succ_le sz8.out) sz9.out)))))
  have XaM_20 := Lib.hid (XaM_19.out.wroteV Rg0_19.out.now hW)
  have Rg0_20 := Lib.hid ho.holds_marked
  clear ho hW
  go_wp2_with fail
  refine (heldRatS_m _ Ag0 N0 cg0 (1) mg0 Lg0 _ Qg0 (by have := Mg0.out; unfold maxLen; omega) (vnow Rg0_20)).mono ?_
  rintro e w16 ⟨rfl, hb⟩
  have BW21 := Lib.hid (BW20.out.trans (hb.mono BW20.out.size))
  have sz21 : Hid (w15.heap.size ≤ w16.heap.size) := hb.size
  have Rw0_21 := Lib.hid (Rw0_20.out.below hb)
  have Rg0_21 := Lib.hid (Rg0_20.out.below hb)
  have XaM_21 := Lib.hid (XaM_20.out.below hb XaM_20.out.lt)
  clear hb
  have eaM0a : w16.cell? ⟨w.heap.size, 0, none⟩ = some (.int .i64 p0) := XaM_21.out.cell 0
  have eaM1a : w16.cell? ⟨w.heap.size, 1, none⟩ = some (.int .i64 q0) := XaM_21.out.cell 1
  have eaM2a : w16.cell? ⟨w.heap.size, 2, none⟩ = some (.slice a0 len0 cap0) := XaM_21.out.cell 2
  go_wp2_with fail
  clear eaM0a eaM1a eaM2a
  refine (toMatrix_any p0 q0 a0 len0 cap0 z0 _ (Hz0.out.below BW21.out) (by omega)).mono ?_
  rintro e w17 ⟨V, Lt5, rfl, ho, hh, hb⟩
  have BW22 := Lib.hid (BW21.out.trans (hb.mono BW21.out.size))
  have sz22 : Hid (w16.heap.size ≤ w17.heap.size) := hb.size
  have Rw0_22 := Lib.hid (Rw0_21.out.below hb)
  have Rg0_22 := Lib.hid (Rg0_21.out.below hb)
  have XaM_22 := Lib.hid (XaM_21.out.below hb XaM_21.out.lt)
  obtain ⟨At5, ct5, rfl⟩ := ho.slice
  have Ut5 := Lib.hid ho.lt
  have Rt5_22 := Lib.hid ho.holds
  have hcapt5 : len0 ≤ ct5 := own_le ho.2.1
  have HHt5 := Lib.hid hh
  obtain ⟨mt5, hmt5⟩ : ∃ m, m = mtot Lt5 := ⟨_, rfl⟩
  have Mt5 : Hid (mt5 = len0 + tot z0) := Lib.hid (by have := mtot_has hh; have := Hz0.out.1; omega)
  have Qt5 : Hid (mtot Lt5 = mt5) := hmt5.symm
  clear hmt5
  clear ho hh hb
  go_wp2_with fail
  refine (toRatS_any a1 len1 cap1 z1 _ (Hz1.out.below BW22.out) (by omega)).mono ?_
  rintro e w18 ⟨V, Lt6, rfl, ho, hh, hb⟩
  have BW23 := Lib.hid (BW22.out.trans (hb.mono BW22.out.size))
  have sz23 : Hid (w17.heap.size ≤ w18.heap.size) := hb.size
  have Rw0_23 := Lib.hid (Rw0_22.out.below hb)
  have Rg0_23 := Lib.hid (Rg0_22.out.below hb)
  have Rt5_23 := Lib.hid (Rt5_22.out.below hb)
  have XaM_23 := Lib.hid (XaM_22.out.below hb XaM_22.out.lt)
  obtain ⟨At6, ct6, rfl⟩ := ho.slice
  have Ut6 := Lib.hid ho.lt
  have Rt6_23 := Lib.hid ho.holds
  have hcapt6 : len1 ≤ ct6 := own_le ho.2.1
  have HHt6 := Lib.hid hh
  obtain ⟨mt6, hmt6⟩ : ∃ m, m = mtot Lt6 := ⟨_, rfl⟩
  have Mt6 : Hid (mt6 = len1 + tot z1) := Lib.hid (by have := mtot_has hh; have := Hz1.out.1; omega)
  have Qt6 : Hid (mtot Lt6 = mt6) := hmt6.symm
  clear hmt6
  clear ho hh hb
  go_wp2_with fail
  refine (impl_solveSystem p0 q0 At5 len0 ct5 z0 At6 len1 ct6 z1 _ (vin Rt5_23 HHt5 (by omega) Ftz0) Bp0 Bq0 hcapt5 (vin Rt6_23 HHt6 (by omega) Ftz1) hcapt6).mono ?_
  rintro e w19 ⟨r3_0, v0, r3_1, rfl, his, h0, hb⟩
  have BW24 := Lib.hid (BW23.out.trans (hb.mono BW23.out.size))
  have sz24 : Hid (w18.heap.size ≤ w19.heap.size) := hb.size
  have Rw0_24 := Lib.hid (Rw0_23.out.below hb)
  have Rg0_24 := Lib.hid (Rg0_23.out.below hb)
  have Rt5_24 := Lib.hid (Rt5_23.out.below hb)
  have Rt6_24 := Lib.hid (Rt6_23.out.below hb)
  have XaM_24 := Lib.hid (XaM_23.out.below hb XaM_23.out.lt)
  obtain ⟨rfl, rfl⟩ := solveSystem_unique IS.out his
  clear his
  obtain ⟨_, _, Lh0, ho, hh⟩ := h0
  rw [HN0.out] at ho
  obtain ⟨Ah0, ch0, rfl⟩ := ho.slice
  have Uh0 := Lib.hid ho.lt
  have Rh0_24 := Lib.hid ho.holds
  have HHh0 := Lib.hid hh
  obtain ⟨mh0, hmh0⟩ : ∃ m, m = mtot Lh0 := ⟨_, rfl⟩
  have Mh0 : Hid (mh0 = N0 + tot r1_0) := Lib.hid (by have := mtot_has hh; have := HN0.out; omega)
  have Qh0 : Hid (mtot Lh0 = mh0) := hmh0.symm
  clear hmh0
  clear ho hh
  clear hb
  clear Rt5_24 Ut5
  clear Rt6_24 Ut6
  go_wp2_with fail
  refine (eqRatS_same Ah0 Aw0 N0 ch0 cw0 r1_0 _ (vin Rh0_24 HHh0 (by omega) Ftr1_0) (vin Rw0_24 HHw0 (by omega) Ftr1_0)).mono ?_
  rintro e w20 ⟨rfl, hb⟩
  have BW25 := Lib.hid (BW24.out.trans (hb.mono BW24.out.size))
  have sz25 : Hid (w19.heap.size ≤ w20.heap.size) := hb.size
  have Rw0_25 := Lib.hid (Rw0_24.out.below hb)
  have Rg0_25 := Lib.hid (Rg0_24.out.below hb)
  have Rh0_25 := Lib.hid (Rh0_24.out.below hb)
  have XaM_25 := Lib.hid (XaM_24.out.below hb XaM_24.out.lt)
  clear hb
  clear Rw0_25 Uw0
  clear Rh0_25 Uh0
  go_wp2_with fail
  refine (heldRatS_m _ Ag0 N0 cg0 (1) mg0 Lg0 _ Qg0 (by have := Mg0.out; unfold maxLen; omega) (vnow Rg0_25)).mono ?_
  rintro e w21 ⟨rfl, hb⟩
  have BW26 := Lib.hid (BW25.out.trans (hb.mono BW25.out.size))
  have sz26 : Hid (w20.heap.size ≤ w21.heap.size) := hb.size
  have Rg0_26 := Lib.hid (Rg0_25.out.below hb)
  have XaM_26 := Lib.hid (XaM_25.out.below hb XaM_25.out.lt)
  clear hb
  clear Rg0_26 Ug0
  go_wp2_with fail
  go_ret
  exact ⟨rfl, BW26.out⟩
end Go.Proofs.YthjbfdifeffilaaGreat.fnExactSolveSystem
