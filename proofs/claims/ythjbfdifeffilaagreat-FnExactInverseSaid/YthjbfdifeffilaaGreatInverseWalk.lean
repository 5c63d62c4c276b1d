/- The walk of the law: for all arguments the law FnExactInverse returns true: the program's Inverse answers as the model's; no condition on them. -/
import Derived.Test.YthjbfdifeffilaaGreatGV
import Derived.Test.YthjbfdifeffilaaGreatMatMem
import Derived.Test.YthjbfdifeffilaaGreatEC
import Derived.Test.YthjbfdifeffilaaGreatElJ8
import Derived.ProofKit
import Derived.OpenShut
import Derived.ShutString
import Derived.Lib.SmallJoins
namespace Go.Proofs.YthjbfdifeffilaaGreat.fnExactInverse
set_option maxRecDepth 100000
open Go.ChangeShapes Go.WideShapes Go.ChangeAt Go.RowKit Go.Joins Go.Deep
open Go.ChangeMaps (open_string shut_string)

set_option maxRecDepth 100000 in
set_option maxHeartbeats 16000000 in
theorem walk {w : World} (p0 : Int) (hp0 : (Lit.int .i64 p0).wf = true) (q0 : Int) (hq0 : (Lit.int .i64 q0).wf = true) (a0 : Option Addr) (len0 cap0 : Nat) (z0 : List RD) (hz0 : IsV w a0 len0 z0) :
    Calls Tryz.prog 7 #[.agg #[.int .i64 p0, .int .i64 q0, .slice a0 len0 cap0]] w fun e w' => e = .returned (.bool true) ∧ Below w.heap.size w w' := by
  have Bp0 := bounds_i64 hp0
  clear hp0
  have Bq0 := bounds_i64 hq0
  clear hq0
  have hmz0 : len0 ≤ maxLen := hz0.2.1
  have Hz0 := Lib.hid hz0
  clear hz0
  have BW0 : Hid (Below w.heap.size w w) := Below.refl _ _
  have BW1 := Lib.hid (BW0.out.alloc BW0.out.size (.cells #[.int .i64 p0, .int .i64 q0, .slice a0 len0 cap0] 50))
  have sz1 : Hid (w.heap.size + 1 ≤ (w.alloc (.cells #[.int .i64 p0, .int .i64 q0, .slice a0 len0 cap0] 50)).heap.size) := Lib.hid (by simp)
  have XaM_1 := Lib.hid (Box.new w 50 #[.int .i64 p0, .int .i64 q0, .slice a0 len0 cap0])
  go_enter Tryz.func7, Tryz.ntmps7
  have eaM0a : (w.alloc (.cells #[.int .i64 p0, .int .i64 q0, .slice a0 len0 cap0] 50)).cell? ⟨w.heap.size, 0, none⟩ = some (.int .i64 p0) := XaM_1.out.cell 0
  have eaM1a : (w.alloc (.cells #[.int .i64 p0, .int .i64 q0, .slice a0 len0 cap0] 50)).cell? ⟨w.heap.size, 1, none⟩ = some (.int .i64 q0) := XaM_1.out.cell 1
  have eaM2a : (w.alloc (.cells #[.int .i64 p0, .int .i64 q0, .slice a0 len0 cap0] 50)).cell? ⟨w.heap.size, 2, none⟩ = some (.slice a0 len0 cap0) := XaM_1.out.cell 2
  go_wp2_with fail
  clear eaM0a eaM1a eaM2a
  refine (szMatrix_any p0 q0 a0 len0 cap0 z0 (1048576 : Int) _ (Hz0.out.below BW1.out) (by omega) (by omega)).mono ?_
  rintro e ws0 ⟨lf0, rfl, hr, hb⟩
  have BW2 := Lib.hid (BW1.out.trans (hb.mono BW1.out.size))
  have sz2 : Hid ((w.alloc (.cells #[.int .i64 p0, .int .i64 q0, .slice a0 len0 cap0] 50)).heap.size ≤ ws0.heap.size) := hb.size
  have XaM_2 := Lib.hid (XaM_1.out.below hb XaM_1.out.lt)
  clear hb
  rcases hr with rfl | ⟨h0, hr⟩
  · go_wp2_with fail
    go_ret
    exact ⟨rfl, BW2.out⟩
  have lb0 : 0 ≤ lf0 ∧ lf0 ≤ 1048576 := by omega
  have ls0 : lf0 + ((len0 : Int) + tot z0) = (1048576 : Int) := by omega
  have HLS0 := Lib.hid ls0
  have lt0 : len0 + tot z0 ≤ 1048576 := by omega
  clear ls0 hr
  have h00 := h0
  clear h0
  have Ftz0 := Lib.hid (Hz0.out.fits (by omega))
  have eaM0a : ws0.cell? ⟨w.heap.size, 0, none⟩ = some (.int .i64 p0) := XaM_2.out.cell 0
  have eaM1a : ws0.cell? ⟨w.heap.size, 1, none⟩ = some (.int .i64 q0) := XaM_2.out.cell 1
  have eaM2a : ws0.cell? ⟨w.heap.size, 2, none⟩ = some (.slice a0 len0 cap0) := XaM_2.out.cell 2
  go_wp2_with fail
  clear eaM0a eaM1a eaM2a
  refine (toMatrix_any p0 q0 a0 len0 cap0 z0 _ (Hz0.out.below BW2.out) (by omega)).mono ?_
  rintro e w1 ⟨V, Lt1, rfl, ho, hh, hb⟩
  have BW3 := Lib.hid (BW2.out.trans (hb.mono BW2.out.size))
  have sz3 : Hid (ws0.heap.size ≤ w1.heap.size) := hb.size
  have XaM_3 := Lib.hid (XaM_2.out.below hb XaM_2.out.lt)
  obtain ⟨At1, ct1, rfl⟩ := ho.slice
  have Ut1 := Lib.hid ho.lt
  have Rt1_3 := Lib.hid ho.holds
  have hcapt1 : len0 ≤ ct1 := own_le ho.2.1
  have HHt1 := Lib.hid hh
  obtain ⟨mt1, hmt1⟩ : ∃ m, m = mtot Lt1 := ⟨_, rfl⟩
  have Mt1 : Hid (mt1 = len0 + tot z0) := Lib.hid (by have := mtot_has hh; have := Hz0.out.1; omega)
  have Qt1 : Hid (mtot Lt1 = mt1) := hmt1.symm
  clear hmt1
  clear ho hh hb
  go_wp2_with fail
  refine (spec_inverse p0 q0 At1 len0 ct1 z0 _ (vin Rt1_3 HHt1 (by omega) Ftz0) Bp0 Bq0 hcapt1).mono ?_
  rintro e w2 ⟨p1_0, q1_0, r1_0, v0, r1_1, rfl, his, h0, hb⟩
  have BW4 := Lib.hid (BW3.out.trans (hb.mono BW3.out.size))
  have sz4 : Hid (w1.heap.size ≤ w2.heap.size) := hb.size
  have Rt1_4 := Lib.hid (Rt1_3.out.below hb)
  have XaM_4 := Lib.hid (XaM_3.out.below hb XaM_3.out.lt)
  have IS := Lib.hid his
  clear his
  obtain ⟨hl, hf, Lw0, ho, hh⟩ := h0
  obtain ⟨N0, hN⟩ : ∃ N, N = r1_0.length := ⟨_, rfl⟩
  rw [← hN] at hl ho
  have HN0 : Hid (r1_0.length = N0) := hN.symm
  have hl0 := hl
  have Ftr1_0 := Lib.hid hf
  clear hN hl hf
  obtain ⟨Aw0, cw0, rfl⟩ := ho.slice
  have Uw0 := Lib.hid ho.lt
  have Rw0_4 := Lib.hid ho.holds
  have HHw0 := Lib.hid hh
  obtain ⟨mw0, hmw0⟩ : ∃ m, m = mtot Lw0 := ⟨_, rfl⟩
  have Mw0 : Hid (mw0 = N0 + tot r1_0) := Lib.hid (by have := mtot_has hh; have := HN0.out; omega)
  have Qw0 : Hid (mtot Lw0 = mw0) := hmw0.symm
  clear hmw0
  clear ho hh
  clear hb
  clear Rt1_4 Ut1
  have BW5 := Lib.hid (BW4.out.alloc BW4.out.size (.cells #[.int .i64 p1_0, .int .i64 q1_0, .slice Aw0 N0 cw0] 25))
  have sz5 : Hid (w2.heap.size + 1 ≤ (w2.alloc (.cells #[.int .i64 p1_0, .int .i64 q1_0, .slice Aw0 N0 cw0] 25)).heap.size) := Lib.hid (by simp)
  have Rw0_5 := Lib.hid (Rw0_4.out.alloc (.cells #[.int .i64 p1_0, .int .i64 q1_0, .slice Aw0 N0 cw0] 25))
  have XaM_5 := Lib.hid (XaM_4.out.alloc (.cells #[.int .i64 p1_0, .int .i64 q1_0, .slice Aw0 N0 cw0] 25))
  have Xw0_5 := Lib.hid (Box.new w2 25 #[.int .i64 p1_0, .int .i64 q1_0, .slice Aw0 N0 cw0])
  have eaM0a : w2.cell? ⟨w.heap.size, 0, none⟩ = some (.int .i64 p0) := XaM_4.out.cell 0
  have eaM1a : w2.cell? ⟨w.heap.size, 1, none⟩ = some (.int .i64 q0) := XaM_4.out.cell 1
  have eaM2a : w2.cell? ⟨w.heap.size, 2, none⟩ = some (.slice a0 len0 cap0) := XaM_4.out.cell 2
  have eaM0b : (w2.alloc (.cells #[.int .i64 p1_0, .int .i64 q1_0, .slice Aw0 N0 cw0] 25)).cell? ⟨w.heap.size, 0, none⟩ = some (.int .i64 p0) := XaM_5.out.cell 0
  have eaM1b : (w2.alloc (.cells #[.int .i64 p1_0, .int .i64 q1_0, .slice Aw0 N0 cw0] 25)).cell? ⟨w.heap.size, 1, none⟩ = some (.int .i64 q0) := XaM_5.out.cell 1
  have eaM2b : (w2.alloc (.cells #[.int .i64 p1_0, .int .i64 q1_0, .slice Aw0 N0 cw0] 25)).cell? ⟨w.heap.size, 2, none⟩ = some (.slice a0 len0 cap0) := XaM_5.out.cell 2
  have neaM0 : w2.heap.size ≠ w.heap.size := (by have := XaM_4.out.lt; omega)
  go_wp2_with fail
  clear eaM0a eaM1a eaM2a eaM0b eaM1b eaM2b neaM0
  refine (toMatrix_any p0 q0 a0 len0 cap0 z0 _ (Hz0.out.below BW5.out) (by omega)).mono ?_
  rintro e w3 ⟨V, Lx0, rfl, ho, hh, hb⟩
  have BW6 := Lib.hid (BW5.out.trans (hb.mono BW5.out.size))
  have sz6 : Hid ((w2.alloc (.cells #[.int .i64 p1_0, .int .i64 q1_0, .slice Aw0 N0 cw0] 25)).heap.size ≤ w3.heap.size) := hb.size
  have Rw0_6 := Lib.hid (Rw0_5.out.below hb)
  have XaM_6 := Lib.hid (XaM_5.out.below hb XaM_5.out.lt)
  have Xw0_6 := Lib.hid (Xw0_5.out.below hb Xw0_5.out.lt)
  obtain ⟨Ax0, cx0, rfl⟩ := ho.slice
  have Ux0 := Lib.hid ho.lt
  have Rx0_6 := Lib.hid ho.holds
  have hcapx0 : len0 ≤ cx0 := own_le ho.2.1
  have HHx0 := Lib.hid hh
  obtain ⟨mx0, hmx0⟩ : ∃ m, m = mtot Lx0 := ⟨_, rfl⟩
  have Mx0 : Hid (mx0 = len0 + tot z0) := Lib.hid (by have := mtot_has hh; have := Hz0.out.1; omega)
  have Qx0 : Hid (mtot Lx0 = mx0) := hmx0.symm
  clear hmx0
  clear ho hh hb
  have BW7 := Lib.hid (BW6.out.alloc BW6.out.size (.cells #[.int .i64 p0, .int .i64 q0, .slice Ax0 len0 cx0] 25))
  have sz7 : Hid (w3.heap.size + 1 ≤ (w3.alloc (.cells #[.int .i64 p0, .int .i64 q0, .slice Ax0 len0 cx0] 25)).heap.size) := Lib.hid (by simp)
  have Rw0_7 := Lib.hid (Rw0_6.out.alloc (.cells #[.int .i64 p0, .int .i64 q0, .slice Ax0 len0 cx0] 25))
  have Rx0_7 := Lib.hid (Rx0_6.out.alloc (.cells #[.int .i64 p0, .int .i64 q0, .slice Ax0 len0 cx0] 25))
  have XaM_7 := Lib.hid (XaM_6.out.alloc (.cells #[.int .i64 p0, .int .i64 q0, .slice Ax0 len0 cx0] 25))
  have Xw0_7 := Lib.hid (Xw0_6.out.alloc (.cells #[.int .i64 p0, .int .i64 q0, .slice Ax0 len0 cx0] 25))
  have Xx0_7 := Lib.hid (Box.new w3 25 #[.int .i64 p0, .int .i64 q0, .slice Ax0 len0 cx0])
  go_wp2_with fail
  refine (impl_inverse p0 q0 Ax0 len0 cx0 z0 _ (vin Rx0_7 HHx0 (by omega) Ftz0) Bp0 Bq0 hcapx0).mono ?_
  rintro e w4 ⟨p2_0, q2_0, r2_0, v0, r2_1, rfl, his, h0, hb⟩
  have BW8 := Lib.hid (BW7.out.trans (hb.mono BW7.out.size))
  have sz8 : Hid ((w3.alloc (.cells #[.int .i64 p0, .int .i64 q0, .slice Ax0 len0 cx0] 25)).heap.size ≤ w4.heap.size) := hb.size
  have Rw0_8 := Lib.hid (Rw0_7.out.below hb)
  have Rx0_8 := Lib.hid (Rx0_7.out.below hb)
  have XaM_8 := Lib.hid (XaM_7.out.below hb XaM_7.out.lt)
  have Xw0_8 := Lib.hid (Xw0_7.out.below hb Xw0_7.out.lt)
  have Xx0_8 := Lib.hid (Xx0_7.out.below hb Xx0_7.out.lt)
  obtain ⟨rfl, rfl, rfl, rfl⟩ := inverse_unique IS.out his
  clear his
  obtain ⟨_, _, Lg0, ho, hh⟩ := h0
  rw [HN0.out] at ho
  obtain ⟨Ag0, cg0, rfl⟩ := ho.slice
  have Ug0 := Lib.hid ho.lt
  have Rg0_8 := Lib.hid ho.holds
  have HHg0 := Lib.hid hh
  obtain ⟨mg0, hmg0⟩ : ∃ m, m = mtot Lg0 := ⟨_, rfl⟩
  have Mg0 : Hid (mg0 = N0 + tot r1_0) := Lib.hid (by have := mtot_has hh; have := HN0.out; omega)
  have Qg0 : Hid (mtot Lg0 = mg0) := hmg0.symm
  clear hmg0
  clear ho hh
  clear hb
  have BW9 := Lib.hid (BW8.out.alloc BW8.out.size (.cells #[.int .i64 p1_0, .int .i64 q1_0, .slice Ag0 N0 cg0] 25))
  have sz9 : Hid (w4.heap.size + 1 ≤ (w4.alloc (.cells #[.int .i64 p1_0, .int .i64 q1_0, .slice Ag0 N0 cg0] 25)).heap.size) := Lib.hid (by simp)
  have Rw0_9 := Lib.hid (Rw0_8.out.alloc (.cells #[.int .i64 p1_0, .int .i64 q1_0, .slice Ag0 N0 cg0] 25))
  have Rx0_9 := Lib.hid (Rx0_8.out.alloc (.cells #[.int .i64 p1_0, .int .i64 q1_0, .slice Ag0 N0 cg0] 25))
  have Rg0_9 := Lib.hid (Rg0_8.out.alloc (.cells #[.int .i64 p1_0, .int .i64 q1_0, .slice Ag0 N0 cg0] 25))
  have XaM_9 := Lib.hid (XaM_8.out.alloc (.cells #[.int .i64 p1_0, .int .i64 q1_0, .slice Ag0 N0 cg0] 25))
  have Xw0_9 := Lib.hid (Xw0_8.out.alloc (.cells #[.int .i64 p1_0, .int .i64 q1_0, .slice Ag0 N0 cg0] 25))
  have Xx0_9 := Lib.hid (Xx0_8.out.alloc (.cells #[.int .i64 p1_0, .int .i64 q1_0, .slice Ag0 N0 cg0] 25))
  have Xg0_9 := Lib.hid (Box.new w4 25 #[.int .i64 p1_0, .int .i64 q1_0, .slice Ag0 N0 cg0])
  have ew00a : w4.cell? ⟨w2.heap.size, 0, none⟩ = some (.int .i64 p1_0) := Xw0_8.out.cell 0
  have ew01a : w4.cell? ⟨w2.heap.size, 1, none⟩ = some (.int .i64 q1_0) := Xw0_8.out.cell 1
  have ew02a : w4.cell? ⟨w2.heap.size, 2, none⟩ = some (.slice Aw0 N0 cw0) := Xw0_8.out.cell 2
  have ew00b : (w4.alloc (.cells #[.int .i64 p1_0, .int .i64 q1_0, .slice Ag0 N0 cg0] 25)).cell? ⟨w2.heap.size, 0, none⟩ = some (.int .i64 p1_0) := Xw0_9.out.cell 0
  have ew01b : (w4.alloc (.cells #[.int .i64 p1_0, .int .i64 q1_0, .slice Ag0 N0 cg0] 25)).cell? ⟨w2.heap.size, 1, none⟩ = some (.int .i64 q1_0) := Xw0_9.out.cell 1
  have ew02b : (w4.alloc (.cells #[.int .i64 p1_0, .int .i64 q1_0, .slice Ag0 N0 cg0] 25)).cell? ⟨w2.heap.size, 2, none⟩ = some (.slice Aw0 N0 cw0) := Xw0_9.out.cell 2
  have new00 : w4.heap.size ≠ w2.heap.size := (by have := Xw0_8.out.lt; omega)
  go_wp2_with fail
  clear ew00a ew01a ew02a ew00b ew01b ew02b new00
  refine (eqMatrix_same p1_0 q1_0 Ag0 Aw0 N0 cg0 cw0 r1_0 _ (vin Rg0_9 HHg0 (by omega) Ftr1_0) (vin Rw0_9 HHw0 (by omega) Ftr1_0)).mono ?_
  rintro e w5 ⟨rfl, hb⟩
  have BW10 := Lib.hid (BW9.out.trans (hb.mono BW9.out.size))
  have sz10 : Hid ((w4.alloc (.cells #[.int .i64 p1_0, .int .i64 q1_0, .slice Ag0 N0 cg0] 25)).heap.size ≤ w5.heap.size) := hb.size
  have Rw0_10 := Lib.hid (Rw0_9.out.below hb)
  have Rx0_10 := Lib.hid (Rx0_9.out.below hb)
  have Rg0_10 := Lib.hid (Rg0_9.out.below hb)
  have XaM_10 := Lib.hid (XaM_9.out.below hb XaM_9.out.lt)
  have Xw0_10 := Lib.hid (Xw0_9.out.below hb Xw0_9.out.lt)
  have Xx0_10 := Lib.hid (Xx0_9.out.below hb Xx0_9.out.lt)
  have Xg0_10 := Lib.hid (Xg0_9.out.below hb Xg0_9.out.lt)
  clear hb
  go_wp2_with fail
  have BW11 := Lib.hid BW10.out.drew
  have sz11 : Hid (w5.heap.size ≤ w5.drew.heap.size) := Nat.le_refl _
  have Rw0_11 := Lib.hid Rw0_10.out.drew
  have Rx0_11 := Lib.hid Rx0_10.out.drew
  have Rg0_11 := Lib.hid Rg0_10.out.drew
  have XaM_11 := Lib.hid XaM_10.out.drew
  have Xw0_11 := Lib.hid Xw0_10.out.drew
  have Xx0_11 := Lib.hid Xx0_10.out.drew
  have Xg0_11 := Lib.hid Xg0_10.out.drew
  have cvx00 : Hid ((#[.int .i64 p0, .int .i64 q0, .slice Ax0 len0 cx0] : Array Value)[0]? = some (.int .i64 p0)) := rfl
  have cvx01 : Hid ((#[.int .i64 p0, .int .i64 q0, .slice Ax0 len0 cx0] : Array Value)[1]? = some (.int .i64 q0)) := rfl
  have cvx02 : Hid ((#[.int .i64 p0, .int .i64 q0, .slice Ax0 len0 cx0] : Array Value)[2]? = some (.slice Ax0 len0 cx0)) := rfl
  have cvaM0 : Hid ((#[.int .i64 p0, .int .i64 q0, .slice a0 len0 cap0] : Array Value)[0]? = some (.int .i64 p0)) := rfl
  have cvaM1 : Hid ((#[.int .i64 p0, .int .i64 q0, .slice a0 len0 cap0] : Array Value)[1]? = some (.int .i64 q0)) := rfl
  have cvaM2 : Hid ((#[.int .i64 p0, .int .i64 q0, .slice a0 len0 cap0] : Array Value)[2]? = some (.slice a0 len0 cap0)) := rfl
  go_region_held3 (fun w' => w'.cell? ⟨w3.heap.size, 0, none⟩ = some (.int .i64 p0) ∧ w'.cell? ⟨w3.heap.size, 1, none⟩ = some (.int .i64 q0) ∧ w'.cell? ⟨w3.heap.size, 2, none⟩ = some (.slice Ax0 len0 cx0) ∧ w'.cell? ⟨w.heap.size, 0, none⟩ = some (.int .i64 p0) ∧ w'.cell? ⟨w.heap.size, 1, none⟩ = some (.int .i64 q0) ∧ w'.cell? ⟨w.heap.size, 2, none⟩ = some (.slice a0 len0 cap0)) (first | with_reducible exact ⟨cellS Xx0_13 cvx00, cellS Xx0_13 cvx01, cellS Xx0_13 cvx02, cellS XaM_13 cvaM0, cellS XaM_13 cvaM1, cellS XaM_13 cvaM2⟩ | with_reducible exact ⟨cellS Xx0_12 cvx00, cellS Xx0_12 cvx01, cellS Xx0_12 cvx02, cellS XaM_12 cvaM0, cellS XaM_12 cvaM1, cellS XaM_12 cvaM2⟩ | with_reducible exact ⟨cellS Xx0_11 cvx00, cellS Xx0_11 cvx01, cellS Xx0_11 cvx02, cellS XaM_11 cvaM0, cellS XaM_11 cvaM1, cellS XaM_11 cvaM2⟩) (first | (go_at_call 29; refine (eqMatrix_same p0 q0 Ax0 At2 len0 cx0 ct2 z0 _ (vin Rx0_12 HHx0 (by omega) Ftz0) (vin Rt2_12 HHt2 (by omega) Ftz0)).mono ?_; rintro e w7 ⟨rfl, hb⟩; have BW13 := Lib.hid (BW12.out.trans (hb.mono BW12.out.size)); have sz13 : Hid (w6.heap.size ≤ w7.heap.size) := hb.size; have Rw0_13 := Lib.hid (Rw0_12.out.below hb); have Rx0_13 := Lib.hid (Rx0_12.out.below hb); have Rg0_13 := Lib.hid (Rg0_12.out.below hb); have Rt2_13 := Lib.hid (Rt2_12.out.below hb); have XaM_13 := Lib.hid (XaM_12.out.below hb XaM_12.out.lt); have Xw0_13 := Lib.hid (Xw0_12.out.below hb Xw0_12.out.lt); have Xx0_13 := Lib.hid (Xx0_12.out.below hb Xx0_12.out.lt); have Xg0_13 := Lib.hid (Xg0_12.out.below hb Xg0_12.out.lt); clear hb) | (go_at_call 28; refine (toMatrix_any p0 q0 a0 len0 cap0 z0 _ (Hz0.out.below BW11.out) (by omega)).mono ?_; rintro e w6 ⟨V, Lt2, rfl, ho, hh, hb⟩; have BW12 := Lib.hid (BW11.out.trans (hb.mono BW11.out.size)); have sz12 : Hid (w5.drew.heap.size ≤ w6.heap.size) := hb.size; have Rw0_12 := Lib.hid (Rw0_11.out.below hb); have Rx0_12 := Lib.hid (Rx0_11.out.below hb); have Rg0_12 := Lib.hid (Rg0_11.out.below hb); have XaM_12 := Lib.hid (XaM_11.out.below hb XaM_11.out.lt); have Xw0_12 := Lib.hid (Xw0_11.out.below hb Xw0_11.out.lt); have Xx0_12 := Lib.hid (Xx0_11.out.below hb Xx0_11.out.lt); have Xg0_12 := Lib.hid (Xg0_11.out.below hb Xg0_11.out.lt); obtain ⟨At2, ct2, rfl⟩ := ho.slice; have Ut2 := Lib.hid ho.lt; have Rt2_12 := Lib.hid ho.holds; have hcapt2 : len0 ≤ ct2 := own_le ho.2.1; have HHt2 := Lib.hid hh; obtain ⟨mt2, hmt2⟩ : ∃ m, m = mtot Lt2 := ⟨_, rfl⟩; have Mt2 : Hid (mt2 = len0 + tot z0) := Lib.hid (by have := mtot_has hh; have := Hz0.out.1; omega); have Qt2 : Hid (mtot Lt2 = mt2) := hmt2.symm; clear hmt2; clear ho hh hb))
  clear cvx00 cvx01 cvx02 cvaM0 cvaM1 cvaM2
  clear Rt2_13 Ut2
  have ex00a : w7.cell? ⟨w3.heap.size, 0, none⟩ = some (.int .i64 p0) := Xx0_13.out.cell 0
  have ex01a : w7.cell? ⟨w3.heap.size, 1, none⟩ = some (.int .i64 q0) := Xx0_13.out.cell 1
  have ex02a : w7.cell? ⟨w3.heap.size, 2, none⟩ = some (.slice Ax0 len0 cx0) := Xx0_13.out.cell 2
  go_wp2_with fail
  clear ex00a ex01a ex02a
  refine (markMatrix_m _ p0 q0 Ax0 len0 cx0 (1) mx0 Lx0 z0 _ Qx0 (by have := Mx0.out; unfold maxLen; omega) (vnow Rx0_13) HHx0.out).mono ?_
  rintro e w8 ⟨rfl, ho, hW⟩
  have BW14 := Lib.hid (Wrote.below BW13.out hW (fun k hk => Nat.le_trans (Nat.le_trans (Nat.le_of_succ_le sz1.out) (Nat.le_trans sz2.out (Nat.le_trans sz3.out (Nat.le_trans sz4.out (Nat.le_of_succ_le sz5.out))))) (Ux0.out k hk).1) (Nat.le_trans (Nat.le_of_succ_le sz1.out) (Nat.le_trans sz2.out (Nat.le_trans sz3.out (Nat.le_trans sz4.out (Nat.le_trans (Nat.le_of_succ_le sz5.out) (Nat.le_trans sz6.out (Nat.le_trans (Nat.le_of_succ_le sz7.out) (Nat.le_trans sz8.out (Nat.le_trans (Nat.le_of_succ_le sz9.out) (Nat.le_trans sz10.out (Nat.le_trans sz11.out (Nat.le_trans sz12.out sz13.out)))))))))))))
  have sz14 : Hid (w7.heap.size ≤ w8.heap.size) := hW.size
  have Rw0_14 := Lib.hid (Rw0_13.out.wrote hW (two_none Uw0 Ux0 (.inl (Nat.le_of_succ_le sz5.out))))
  have Rg0_14 := Lib.hid (Rg0_13.out.wrote hW (two_none Ug0 Ux0 (.inr (Nat.le_of_succ_le sz7.out))))
  have XaM_14 := Lib.hid (XaM_13.out.wroteV Rx0_13.out.now hW)
  have Xw0_14 := Lib.hid (Xw0_13.out.wroteV Rx0_13.out.now hW)
  have Xx0_14 := Lib.hid (Xx0_13.out.wroteV Rx0_13.out.now hW)
  have Xg0_14 := Lib.hid (Xg0_13.out.wroteV Rx0_13.out.now hW)
  have Rx0_14 := Lib.hid ho.holds_marked
  clear ho hW
  clear Rx0_14 Ux0 Xx0_14
  have eg00a : w8.cell? ⟨w4.heap.size, 0, none⟩ = some (.int .i64 p1_0) := Xg0_14.out.cell 0
  have eg01a : w8.cell? ⟨w4.heap.size, 1, none⟩ = some (.int .i64 q1_0) := Xg0_14.out.cell 1
  have eg02a : w8.cell? ⟨w4.heap.size, 2, none⟩ = some (.slice Ag0 N0 cg0) := Xg0_14.out.cell 2
  have ew00a : w8.cell? ⟨w2.heap.size, 0, none⟩ = some (.int .i64 p1_0) := Xw0_14.out.cell 0
  have ew01a : w8.cell? ⟨w2.heap.size, 1, none⟩ = some (.int .i64 q1_0) := Xw0_14.out.cell 1
  have ew02a : w8.cell? ⟨w2.heap.size, 2, none⟩ = some (.slice Aw0 N0 cw0) := Xw0_14.out.cell 2
  go_wp2_with fail
  clear eg00a eg01a eg02a ew00a ew01a ew02a
  refine (eqMatrix_same p1_0 q1_0 Ag0 Aw0 N0 cg0 cw0 r1_0 _ (vin Rg0_14 HHg0 (by omega) Ftr1_0) (vin Rw0_14 HHw0 (by omega) Ftr1_0)).mono ?_
  rintro e w9 ⟨rfl, hb⟩
  have BW15 := Lib.hid (BW14.out.trans (hb.mono BW14.out.size))
  have sz15 : Hid (w8.heap.size ≤ w9.heap.size) := hb.size
  have Rw0_15 := Lib.hid (Rw0_14.out.below hb)
  have Rg0_15 := Lib.hid (Rg0_14.out.below hb)
  have XaM_15 := Lib.hid (XaM_14.out.below hb XaM_14.out.lt)
  have Xw0_15 := Lib.hid (Xw0_14.out.below hb Xw0_14.out.lt)
  have Xg0_15 := Lib.hid (Xg0_14.out.below hb Xg0_14.out.lt)
  clear hb
  have eg00a : w9.cell? ⟨w4.heap.size, 0, none⟩ = some (.int .i64 p1_0) := Xg0_15.out.cell 0
  have eg01a : w9.cell? ⟨w4.heap.size, 1, none⟩ = some (.int .i64 q1_0) := Xg0_15.out.cell 1
  have eg02a : w9.cell? ⟨w4.heap.size, 2, none⟩ = some (.slice Ag0 N0 cg0) := Xg0_15.out.cell 2
  go_wp2_with fail
  clear eg00a eg01a eg02a
  refine (markMatrix_m _ p1_0 q1_0 Ag0 N0 cg0 (1) mg0 Lg0 r1_0 _ Qg0 (by have := Mg0.out; unfold maxLen; omega) (vnow Rg0_15) HHg0.out).mono ?_
  rintro e w10 ⟨rfl, ho, hW⟩
  have BW16 := Lib.hid (Wrote.below BW15.out hW (fun k hk => Nat.le_trans (Nat.le_trans (Nat.le_of_succ_le sz1.out) (Nat.le_trans sz2.out (Nat.le_trans sz3.out (Nat.le_trans sz4.out (Nat.le_trans (Nat.le_of_succ_le sz5.out) (Nat.le_trans sz6.out (Nat.le_of_succ_le sz7.out))))))) (Ug0.out k hk).1) (Nat.le_trans (Nat.le_of_succ_le sz1.out) (Nat.le_trans sz2.out (Nat.le_trans sz3.out (Nat.le_trans sz4.out (Nat.le_trans (Nat.le_of_succ_le sz5.out) (Nat.le_trans sz6.out (Nat.le_trans (Nat.le_of_succ_le sz7.out) (Nat.le_trans sz8.out (Nat.le_trans (Nat.le_of_succ_le sz9.out) (Nat.le_trans sz10.out (Nat.le_trans sz11.out (Nat.le_trans sz12.out (Nat.le_trans sz13.out (Nat.le_trans sz14.out sz15.out)))))))))))))))
  have sz16 : Hid (w9.heap.size ≤ w10.heap.size) := hW.size
  have Rw0_16 := Lib.hid (Rw0_15.out.wrote hW (two_none Uw0 Ug0 (.inl (Nat.le_trans (Nat.le_of_succ_le sz5.out) (Nat.le_trans sz6.out (Nat.le_of_succ_le sz7.out))))))
  have XaM_16 := Lib.hid (XaM_15.out.wroteV Rg0_15.out.now hW)
  have Xw0_16 := Lib.hid (Xw0_15.out.wroteV Rg0_15.out.now hW)
  have Xg0_16 := Lib.hid (Xg0_15.out.wroteV Rg0_15.out.now hW)
  have Rg0_16 := Lib.hid ho.holds_marked
  clear ho hW
  have eg00a : w10.cell? ⟨w4.heap.size, 0, none⟩ = some (.int .i64 p1_0) := Xg0_16.out.cell 0
  have eg01a : w10.cell? ⟨w4.heap.size, 1, none⟩ = some (.int .i64 q1_0) := Xg0_16.out.cell 1
  have eg02a : w10.cell? ⟨w4.heap.size, 2, none⟩ = some (.slice Ag0 N0 cg0) := Xg0_16.out.cell 2
  go_wp2_with fail
  clear eg00a eg01a eg02a
  refine (heldMatrix_m _ p1_0 q1_0 Ag0 N0 cg0 (1) mg0 Lg0 _ Qg0 (by have := Mg0.out; unfold maxLen; omega) (vnow Rg0_16)).mono ?_
  rintro e w11 ⟨rfl, hb⟩
  have BW17 := Lib.hid (BW16.out.trans (hb.mono BW16.out.size))
  have sz17 : Hid (w10.heap.size ≤ w11.heap.size) := hb.size
  have Rw0_17 := Lib.hid (Rw0_16.out.below hb)
  have Rg0_17 := Lib.hid (Rg0_16.out.below hb)
  have XaM_17 := Lib.hid (XaM_16.out.below hb XaM_16.out.lt)
  have Xw0_17 := Lib.hid (Xw0_16.out.below hb Xw0_16.out.lt)
  have Xg0_17 := Lib.hid (Xg0_16.out.below hb Xg0_16.out.lt)
  clear hb
  have eaM0a : w11.cell? ⟨w.heap.size, 0, none⟩ = some (.int .i64 p0) := XaM_17.out.cell 0
  have eaM1a : w11.cell? ⟨w.heap.size, 1, none⟩ = some (.int .i64 q0) := XaM_17.out.cell 1
  have eaM2a : w11.cell? ⟨w.heap.size, 2, none⟩ = some (.slice a0 len0 cap0) := XaM_17.out.cell 2
  go_wp2_with fail
  clear eaM0a eaM1a eaM2a
  refine (toMatrix_any p0 q0 a0 len0 cap0 z0 _ (Hz0.out.below BW17.out) (by omega)).mono ?_
  rintro e w12 ⟨V, Lt3, rfl, ho, hh, hb⟩
  have BW18 := Lib.hid (BW17.out.trans (hb.mono BW17.out.size))
  have sz18 : Hid (w11.heap.size ≤ w12.heap.size) := hb.size
  have Rw0_18 := Lib.hid (Rw0_17.out.below hb)
  have Rg0_18 := Lib.hid (Rg0_17.out.below hb)
  have XaM_18 := Lib.hid (XaM_17.out.below hb XaM_17.out.lt)
  have Xw0_18 := Lib.hid (Xw0_17.out.below hb Xw0_17.out.lt)
  have Xg0_18 := Lib.hid (Xg0_17.out.below hb Xg0_17.out.lt)
  obtain ⟨At3, ct3, rfl⟩ := ho.slice
  have Ut3 := Lib.hid ho.lt
  have Rt3_18 := Lib.hid ho.holds
  have hcapt3 : len0 ≤ ct3 := own_le ho.2.1
  have HHt3 := Lib.hid hh
  obtain ⟨mt3, hmt3⟩ : ∃ m, m = mtot Lt3 := ⟨_, rfl⟩
  have Mt3 : Hid (mt3 = len0 + tot z0) := Lib.hid (by have := mtot_has hh; have := Hz0.out.1; omega)
  have Qt3 : Hid (mtot Lt3 = mt3) := hmt3.symm
  clear hmt3
  clear ho hh hb
  go_wp2_with fail
  refine (impl_inverse p0 q0 At3 len0 ct3 z0 _ (vin Rt3_18 HHt3 (by omega) Ftz0) Bp0 Bq0 hcapt3).mono ?_
  rintro e w13 ⟨p3_0, q3_0, r3_0, v0, r3_1, rfl, his, h0, hb⟩
  have BW19 := Lib.hid (BW18.out.trans (hb.mono BW18.out.size))
  have sz19 : Hid (w12.heap.size ≤ w13.heap.size) := hb.size
  have Rw0_19 := Lib.hid (Rw0_18.out.below hb)
  have Rg0_19 := Lib.hid (Rg0_18.out.below hb)
  have Rt3_19 := Lib.hid (Rt3_18.out.below hb)
  have XaM_19 := Lib.hid (XaM_18.out.below hb XaM_18.out.lt)
  have Xw0_19 := Lib.hid (Xw0_18.out.below hb Xw0_18.out.lt)
  have Xg0_19 := Lib.hid (Xg0_18.out.below hb Xg0_18.out.lt)
  obtain ⟨rfl, rfl, rfl, rfl⟩ := inverse_unique IS.out his
  clear his
  obtain ⟨_, _, Lh0, ho, hh⟩ := h0
  rw [HN0.out] at ho
  obtain ⟨Ah0, ch0, rfl⟩ := ho.slice
  have Uh0 := Lib.hid ho.lt
  have Rh0_19 := Lib.hid ho.holds
  have HHh0 := Lib.hid hh
  obtain ⟨mh0, hmh0⟩ : ∃ m, m = mtot Lh0 := ⟨_, rfl⟩
  have Mh0 : Hid (mh0 = N0 + tot r1_0) := Lib.hid (by have := mtot_has hh; have := HN0.out; omega)
  have Qh0 : Hid (mtot Lh0 = mh0) := hmh0.symm
  clear hmh0
  clear ho hh
  clear hb
  clear Rt3_19 Ut3
  have BW20 := Lib.hid (BW19.out.alloc BW19.out.size (.cells #[.int .i64 p1_0, .int .i64 q1_0, .slice Ah0 N0 ch0] 25))
  have sz20 : Hid (w13.heap.size + 1 ≤ (w13.alloc (.cells #[.int .i64 p1_0, .int .i64 q1_0, .slice Ah0 N0 ch0] 25)).heap.size) := Lib.hid (by simp)
  have Rw0_20 := Lib.hid (Rw0_19.out.alloc (.cells #[.int .i64 p1_0, .int .i64 q1_0, .slice Ah0 N0 ch0] 25))
  have Rg0_20 := Lib.hid (Rg0_19.out.alloc (.cells #[.int .i64 p1_0, .int .i64 q1_0, .slice Ah0 N0 ch0] 25))
  have Rh0_20 := Lib.hid (Rh0_19.out.alloc (.cells #[.int .i64 p1_0, .int .i64 q1_0, .slice Ah0 N0 ch0] 25))
  have XaM_20 := Lib.hid (XaM_19.out.alloc (.cells #[.int .i64 p1_0, .int .i64 q1_0, .slice Ah0 N0 ch0] 25))
  have Xw0_20 := Lib.hid (Xw0_19.out.alloc (.cells #[.int .i64 p1_0, .int .i64 q1_0, .slice Ah0 N0 ch0] 25))
  have Xg0_20 := Lib.hid (Xg0_19.out.alloc (.cells #[.int .i64 p1_0, .int .i64 q1_0, .slice Ah0 N0 ch0] 25))
  have Xh0_20 := Lib.hid (Box.new w13 25 #[.int .i64 p1_0, .int .i64 q1_0, .slice Ah0 N0 ch0])
  have ew00a : w13.cell? ⟨w2.heap.size, 0, none⟩ = some (.int .i64 p1_0) := Xw0_19.out.cell 0
  have ew01a : w13.cell? ⟨w2.heap.size, 1, none⟩ = some (.int .i64 q1_0) := Xw0_19.out.cell 1
  have ew02a : w13.cell? ⟨w2.heap.size, 2, none⟩ = some (.slice Aw0 N0 cw0) := Xw0_19.out.cell 2
  have ew00b : (w13.alloc (.cells #[.int .i64 p1_0, .int .i64 q1_0, .slice Ah0 N0 ch0] 25)).cell? ⟨w2.heap.size, 0, none⟩ = some (.int .i64 p1_0) := Xw0_20.out.cell 0
  have ew01b : (w13.alloc (.cells #[.int .i64 p1_0, .int .i64 q1_0, .slice Ah0 N0 ch0] 25)).cell? ⟨w2.heap.size, 1, none⟩ = some (.int .i64 q1_0) := Xw0_20.out.cell 1
  have ew02b : (w13.alloc (.cells #[.int .i64 p1_0, .int .i64 q1_0, .slice Ah0 N0 ch0] 25)).cell? ⟨w2.heap.size, 2, none⟩ = some (.slice Aw0 N0 cw0) := Xw0_20.out.cell 2
  have new00 : w13.heap.size ≠ w2.heap.size := (by have := Xw0_19.out.lt; omega)
  go_wp2_with fail
  clear ew00a ew01a ew02a ew00b ew01b ew02b new00
  refine (eqMatrix_same p1_0 q1_0 Ah0 Aw0 N0 ch0 cw0 r1_0 _ (vin Rh0_20 HHh0 (by omega) Ftr1_0) (vin Rw0_20 HHw0 (by omega) Ftr1_0)).mono ?_
  rintro e w14 ⟨rfl, hb⟩
  have BW21 := Lib.hid (BW20.out.trans (hb.mono BW20.out.size))
  have sz21 : Hid ((w13.alloc (.cells #[.int .i64 p1_0, .int .i64 q1_0, .slice Ah0 N0 ch0] 25)).heap.size ≤ w14.heap.size) := hb.size
  have Rw0_21 := Lib.hid (Rw0_20.out.below hb)
  have Rg0_21 := Lib.hid (Rg0_20.out.below hb)
  have Rh0_21 := Lib.hid (Rh0_20.out.below hb)
  have XaM_21 := Lib.hid (XaM_20.out.below hb XaM_20.out.lt)
  have Xw0_21 := Lib.hid (Xw0_20.out.below hb Xw0_20.out.lt)
  have Xg0_21 := Lib.hid (Xg0_20.out.below hb Xg0_20.out.lt)
  have Xh0_21 := Lib.hid (Xh0_20.out.below hb Xh0_20.out.lt)
  clear hb
  clear Rw0_21 Uw0 Xw0_21
  clear Rh0_21 Uh0 Xh0_21
  have eg00a : w14.cell? ⟨w4.heap.size, 0, none⟩ = some (.int .i64 p1_0) := Xg0_21.out.cell 0
  have eg01a : w14.cell? ⟨w4.heap.size, 1, none⟩ = some (.int .i64 q1_0) := Xg0_21.out.cell 1
  have eg02a : w14.cell? ⟨w4.heap.size, 2, none⟩ = some (.slice Ag0 N0 cg0) := Xg0_21.out.cell 2
  go_wp2_with fail
  clear eg00a eg01a eg02a
  refine (heldMatrix_m _ p1_0 q1_0 Ag0 N0 cg0 (1) mg0 Lg0 _ Qg0 (by have := Mg0.out; unfold maxLen; omega) (vnow Rg0_21)).mono ?_
  rintro e w15 ⟨rfl, hb⟩
  have BW22 := Lib.hid (BW21.out.trans (hb.mono BW21.out.size))
  have sz22 : Hid (w14.heap.size ≤ w15.heap.size) := hb.size
  have Rg0_22 := Lib.hid (Rg0_21.out.below hb)
  have XaM_22 := Lib.hid (XaM_21.out.below hb XaM_21.out.lt)
  have Xg0_22 := Lib.hid (Xg0_21.out.below hb Xg0_21.out.lt)
  clear hb
  clear Rg0_22 Ug0 Xg0_22
  go_wp2_with fail
  go_ret
  exact ⟨rfl, BW22.out⟩
end Go.Proofs.YthjbfdifeffilaaGreat.fnExactInverse
