/- The walk of the law: for all arguments the law FnExactFactor returns true: the program's Factor answers as the model's; no condition on them. -/
import Derived.Test.YtdehcddjkcpnfaaGreatGV
import Derived.Test.YtdehcddjkcpnfaaGreatMatMem
import Derived.Test.YtdehcddjkcpnfaaGreatFS
import Derived.Test.YtdehcddjkcpnfaaGreatFC
import Derived.ProofKit
import Derived.OpenShut
import Derived.ShutString
import Derived.Lib.SmallJoins
namespace Go.Proofs.YtdehcddjkcpnfaaGreat.fnExactFactor
set_option maxRecDepth 100000
open Go.ChangeShapes Go.WideShapes Go.ChangeAt Go.RowKit Go.Joins Go.Deep
open Go.ChangeMaps (open_string shut_string)

set_option maxRecDepth 100000 in
set_option maxHeartbeats 16000000 in
theorem walk {w : World} (p0 : Int) (hp0 : (Lit.int .i64 p0).wf = true) (q0 : Int) (hq0 : (Lit.int .i64 q0).wf = true) (a0 : Option Addr) (len0 cap0 : Nat) (z0 : List RD) (hz0 : IsV w a0 len0 z0) :
    Calls Tryz.prog 6 #[.agg #[.int .i64 p0, .int .i64 q0, .slice a0 len0 cap0]] w fun e w' => e = .returned (.bool true) ∧ Below w.heap.size w w' := by
  have Bp0 := bounds_i64 hp0
  clear hp0
  have Bq0 := bounds_i64 hq0
  clear hq0
  have hmz0 : len0 ≤ maxLen := hz0.2.1
  have Hz0 := Lib.hid hz0
  clear hz0
  have BW0 : Hid (Below w.heap.size w w) := Below.refl _ _
  have BW1 := Lib.hid (BW0.out.alloc BW0.out.size (.cells #[.int .i64 p0, .int .i64 q0, .slice a0 len0 cap0] 44))
  have sz1 : Hid (w.heap.size + 1 ≤ (w.alloc (.cells #[.int .i64 p0, .int .i64 q0, .slice a0 len0 cap0] 44)).heap.size) := Lib.hid (by simp)
  have XaM_1 := Lib.hid (Box.new w 44 #[.int .i64 p0, .int .i64 q0, .slice a0 len0 cap0])
  go_enter Tryz.func6, Tryz.ntmps6
  have eaM0a : (w.alloc (.cells #[.int .i64 p0, .int .i64 q0, .slice a0 len0 cap0] 44)).cell? ⟨w.heap.size, 0, none⟩ = some (.int .i64 p0) := XaM_1.out.cell 0
  have eaM1a : (w.alloc (.cells #[.int .i64 p0, .int .i64 q0, .slice a0 len0 cap0] 44)).cell? ⟨w.heap.size, 1, none⟩ = some (.int .i64 q0) := XaM_1.out.cell 1
  have eaM2a : (w.alloc (.cells #[.int .i64 p0, .int .i64 q0, .slice a0 len0 cap0] 44)).cell? ⟨w.heap.size, 2, none⟩ = some (.slice a0 len0 cap0) := XaM_1.out.cell 2
  go_wp2_with fail
  clear eaM0a eaM1a eaM2a
  refine (szMatrix_any p0 q0 a0 len0 cap0 z0 (1048576 : Int) _ (Hz0.out.below BW1.out) (by omega) (by omega)).mono ?_
  rintro e ws0 ⟨lf0, rfl, hr, hb⟩
  have BW2 := Lib.hid (BW1.out.trans (hb.mono BW1.out.size))
  have sz2 : Hid ((w.alloc (.cells #[.int .i64 p0, .int .i64 q0, .slice a0 len0 cap0] 44)).heap.size ≤ ws0.heap.size) := hb.size
  have XaM_2 := Lib.hid (XaM_1.out.below hb XaM_1.out.lt)
  clear hb
  rcases hr with rfl | ⟨h0, hr⟩
  · go_wp2_with fail
    go_ret
    exact ⟨rfl, BW2.out⟩
  have lb0 : 0 ≤ lf0 ∧ lf0 ≤ 1048576 := by omega
  have ls0 : lf0 + ((len0 : Int) + tot z0) = (1048576 : Int) := by omega
  have HLS0 := Lib.hid ls0
  have lt0 : len0 + tot z0 ≤ 1048576 := by omega
  clear ls0 hr
  have h00 := h0
  clear h0
  have Ftz0 := Lib.hid (Hz0.out.fits (by omega))
  have eaM0a : ws0.cell? ⟨w.heap.size, 0, none⟩ = some (.int .i64 p0) := XaM_2.out.cell 0
  have eaM1a : ws0.cell? ⟨w.heap.size, 1, none⟩ = some (.int .i64 q0) := XaM_2.out.cell 1
  have eaM2a : ws0.cell? ⟨w.heap.size, 2, none⟩ = some (.slice a0 len0 cap0) := XaM_2.out.cell 2
  go_wp2_with fail
  clear eaM0a eaM1a eaM2a
  refine (toMatrix_any p0 q0 a0 len0 cap0 z0 _ (Hz0.out.below BW2.out) (by omega)).mono ?_
  rintro e w1 ⟨V, Lt1, rfl, ho, hh, hb⟩
  have BW3 := Lib.hid (BW2.out.trans (hb.mono BW2.out.size))
  have sz3 : Hid (ws0.heap.size ≤ w1.heap.size) := hb.size
  have XaM_3 := Lib.hid (XaM_2.out.below hb XaM_2.out.lt)
  obtain ⟨At1, ct1, rfl⟩ := ho.slice
  have Ut1 := Lib.hid ho.lt
  have Rt1_3 := Lib.hid ho.holds
  have hcapt1 : len0 ≤ ct1 := own_le ho.2.1
  have HHt1 := Lib.hid hh
  obtain ⟨mt1, hmt1⟩ : ∃ m, m = mtot Lt1 := ⟨_, rfl⟩
  have Mt1 : Hid (mt1 = len0 + tot z0) := Lib.hid (by have := mtot_has hh; have := Hz0.out.1; omega)
  have Qt1 : Hid (mtot Lt1 = mt1) := hmt1.symm
  clear hmt1
  clear ho hh hb
  go_wp2_with fail
  refine (spec_factor p0 q0 At1 len0 ct1 z0 _ (vin Rt1_3 HHt1 (by omega) Ftz0) Bp0 Bq0 hcapt1).mono ?_
  rintro e w2 ⟨p1_0, q1_0, r1_0, v0, r1_1, v1, r1_2, rfl, his, h0, hb⟩
  have BW4 := Lib.hid (BW3.out.trans (hb.mono BW3.out.size))
  have sz4 : Hid (w1.heap.size ≤ w2.heap.size) := hb.size
  have Rt1_4 := Lib.hid (Rt1_3.out.below hb)
  have XaM_4 := Lib.hid (XaM_3.out.below hb XaM_3.out.lt)
  have IS := Lib.hid his
  clear his
  obtain ⟨⟨hl, hf, hm, hg⟩, Lw0, Lw1, ho, hh, hv, hk, hfar⟩ := h0
  obtain ⟨N0, hN⟩ : ∃ N, N = r1_0.length := ⟨_, rfl⟩
  rw [← hN] at hl ho
  have HN0 : Hid (r1_0.length = N0) := hN.symm
  have hl0 := hl
  have Ftr1_0 := Lib.hid hf
  clear hN hl hf
  obtain ⟨N1, hN⟩ : ∃ N, N = r1_1.length := ⟨_, rfl⟩
  rw [← hN] at hm hv
  have HN1 : Hid (r1_1.length = N1) := hN.symm
  have hl1 := hm
  have Ftr1_1 := Lib.hid hg
  clear hN hm hg
  obtain ⟨Aw0, cw0, rfl⟩ := ho.slice
  obtain ⟨Aw1, cw1, rfl⟩ := hv.slice
  have APw0_w1 := Lib.hid hfar
  have APw1_w0 := Lib.hid (fun k hk hj => hfar k hj hk)
  have Uw0 := Lib.hid ho.lt
  have Rw0_4 := Lib.hid ho.holds
  have HHw0 := Lib.hid hh
  obtain ⟨mw0, hmw0⟩ : ∃ m, m = mtot Lw0 := ⟨_, rfl⟩
  have Mw0 : Hid (mw0 = N0 + tot r1_0) := Lib.hid (by have := mtot_has hh; have := HN0.out; omega)
  have Qw0 : Hid (mtot Lw0 = mw0) := hmw0.symm
  clear hmw0 ho hh
  have ho := hv
  have Uw1 := Lib.hid ho.lt
  have Rw1_4 := Lib.hid ho.holds
  have HHw1 := Lib.hid hk
  obtain ⟨mw1, hmw1⟩ : ∃ m, m = mtot Lw1 := ⟨_, rfl⟩
  have Mw1 : Hid (mw1 = N1 + tot r1_1) := Lib.hid (by have := mtot_has hk; have := HN1.out; omega)
  have Qw1 : Hid (mtot Lw1 = mw1) := hmw1.symm
  clear hmw1 ho hv hk hfar
  clear hb
  clear Rt1_4 Ut1
  have BW5 := Lib.hid (BW4.out.alloc BW4.out.size (.cells #[.int .i64 p1_0, .int .i64 q1_0, .slice Aw0 N0 cw0] 47))
  have sz5 : Hid (w2.heap.size + 1 ≤ (w2.alloc (.cells #[.int .i64 p1_0, .int .i64 q1_0, .slice Aw0 N0 cw0] 47)).heap.size) := Lib.hid (by simp)
  have Rw0_5 := Lib.hid (Rw0_4.out.alloc (.cells #[.int .i64 p1_0, .int .i64 q1_0, .slice Aw0 N0 cw0] 47))
  have Rw1_5 := Lib.hid (Rw1_4.out.alloc (.cells #[.int .i64 p1_0, .int .i64 q1_0, .slice Aw0 N0 cw0] 47))
  have XaM_5 := Lib.hid (XaM_4.out.alloc (.cells #[.int .i64 p1_0, .int .i64 q1_0, .slice Aw0 N0 cw0] 47))
  have Xw0_5 := Lib.hid (Box.new w2 47 #[.int .i64 p1_0, .int .i64 q1_0, .slice Aw0 N0 cw0])
  have eaM0a : w2.cell? ⟨w.heap.size, 0, none⟩ = some (.int .i64 p0) := XaM_4.out.cell 0
  have eaM1a : w2.cell? ⟨w.heap.size, 1, none⟩ = some (.int .i64 q0) := XaM_4.out.cell 1
  have eaM2a : w2.cell? ⟨w.heap.size, 2, none⟩ = some (.slice a0 len0 cap0) := XaM_4.out.cell 2
  have eaM0b : (w2.alloc (.cells #[.int .i64 p1_0, .int .i64 q1_0, .slice Aw0 N0 cw0] 47)).cell? ⟨w.heap.size, 0, none⟩ = some (.int .i64 p0) := XaM_5.out.cell 0
  have eaM1b : (w2.alloc (.cells #[.int .i64 p1_0, .int .i64 q1_0, .slice Aw0 N0 cw0] 47)).cell? ⟨w.heap.size, 1, none⟩ = some (.int .i64 q0) := XaM_5.out.cell 1
  have eaM2b : (w2.alloc (.cells #[.int .i64 p1_0, .int .i64 q1_0, .slice Aw0 N0 cw0] 47)).cell? ⟨w.heap.size, 2, none⟩ = some (.slice a0 len0 cap0) := XaM_5.out.cell 2
  have neaM0 : w2.heap.size ≠ w.heap.size := (by have := XaM_4.out.lt; omega)
  go_wp2_with fail
  clear eaM0a eaM1a eaM2a eaM0b eaM1b eaM2b neaM0
  refine (toMatrix_any p0 q0 a0 len0 cap0 z0 _ (Hz0.out.below BW5.out) (by omega)).mono ?_
  rintro e w3 ⟨V, Lx0, rfl, ho, hh, hb⟩
  have BW6 := Lib.hid (BW5.out.trans (hb.mono BW5.out.size))
  have sz6 : Hid ((w2.alloc (.cells #[.int .i64 p1_0, .int .i64 q1_0, .slice Aw0 N0 cw0] 47)).heap.size ≤ w3.heap.size) := hb.size
  have Rw0_6 := Lib.hid (Rw0_5.out.below hb)
  have Rw1_6 := Lib.hid (Rw1_5.out.below hb)
  have XaM_6 := Lib.hid (XaM_5.out.below hb XaM_5.out.lt)
  have Xw0_6 := Lib.hid (Xw0_5.out.below hb Xw0_5.out.lt)
  obtain ⟨Ax0, cx0, rfl⟩ := ho.slice
  have Ux0 := Lib.hid ho.lt
  have Rx0_6 := Lib.hid ho.holds
  have hcapx0 : len0 ≤ cx0 := own_le ho.2.1
  have HHx0 := Lib.hid hh
  obtain ⟨mx0, hmx0⟩ : ∃ m, m = mtot Lx0 := ⟨_, rfl⟩
  have Mx0 : Hid (mx0 = len0 + tot z0) := Lib.hid (by have := mtot_has hh; have := Hz0.out.1; omega)
  have Qx0 : Hid (mtot Lx0 = mx0) := hmx0.symm
  clear hmx0
  clear ho hh hb
  have BW7 := Lib.hid (BW6.out.alloc BW6.out.size (.cells #[.int .i64 p0, .int .i64 q0, .slice Ax0 len0 cx0] 47))
  have sz7 : Hid (w3.heap.size + 1 ≤ (w3.alloc (.cells #[.int .i64 p0, .int .i64 q0, .slice Ax0 len0 cx0] 47)).heap.size) := Lib.hid (by simp)
  have Rw0_7 := Lib.hid (Rw0_6.out.alloc (.cells #[.int .i64 p0, .int .i64 q0, .slice Ax0 len0 cx0] 47))
  have Rw1_7 := Lib.hid (Rw1_6.out.alloc (.cells #[.int .i64 p0, .int .i64 q0, .slice Ax0 len0 cx0] 47))
  have Rx0_7 := Lib.hid (Rx0_6.out.alloc (.cells #[.int .i64 p0, .int .i64 q0, .slice Ax0 len0 cx0] 47))
  have XaM_7 := Lib.hid (XaM_6.out.alloc (.cells #[.int .i64 p0, .int .i64 q0, .slice Ax0 len0 cx0] 47))
  have Xw0_7 := Lib.hid (Xw0_6.out.alloc (.cells #[.int .i64 p0, .int .i64 q0, .slice Ax0 len0 cx0] 47))
  have Xx0_7 := Lib.hid (Box.new w3 47 #[.int .i64 p0, .int .i64 q0, .slice Ax0 len0 cx0])
  go_wp2_with fail
  refine (impl_factor p0 q0 Ax0 len0 cx0 z0 _ (vin Rx0_7 HHx0 (by omega) Ftz0) Bp0 Bq0 hcapx0).mono ?_
  rintro e w4 ⟨p2_0, q2_0, r2_0, v0, r2_1, v1, r2_2, rfl, his, h0, hb⟩
  have BW8 := Lib.hid (BW7.out.trans (hb.mono BW7.out.size))
  have sz8 : Hid ((w3.alloc (.cells #[.int .i64 p0, .int .i64 q0, .slice Ax0 len0 cx0] 47)).heap.size ≤ w4.heap.size) := hb.size
  have Rw0_8 := Lib.hid (Rw0_7.out.below hb)
  have Rw1_8 := Lib.hid (Rw1_7.out.below hb)
  have Rx0_8 := Lib.hid (Rx0_7.out.below hb)
  have XaM_8 := Lib.hid (XaM_7.out.below hb XaM_7.out.lt)
  have Xw0_8 := Lib.hid (Xw0_7.out.below hb Xw0_7.out.lt)
  have Xx0_8 := Lib.hid (Xx0_7.out.below hb Xx0_7.out.lt)
  obtain ⟨rfl, rfl, rfl, rfl, rfl⟩ := factor_unique IS.out his
  clear his
  obtain ⟨⟨_, _, _, _⟩, Lg0, Lg1, ho, hh, hv, hk, hfar⟩ := h0
  rw [HN0.out] at ho
  rw [HN1.out] at hv
  obtain ⟨Ag0, cg0, rfl⟩ := ho.slice
  obtain ⟨Ag1, cg1, rfl⟩ := hv.slice
  have APg0_g1 := Lib.hid hfar
  have APg1_g0 := Lib.hid (fun k hk hj => hfar k hj hk)
  have Ug0 := Lib.hid ho.lt
  have Rg0_8 := Lib.hid ho.holds
  have HHg0 := Lib.hid hh
  obtain ⟨mg0, hmg0⟩ : ∃ m, m = mtot Lg0 := ⟨_, rfl⟩
  have Mg0 : Hid (mg0 = N0 + tot r1_0) := Lib.hid (by have := mtot_has hh; have := HN0.out; omega)
  have Qg0 : Hid (mtot Lg0 = mg0) := hmg0.symm
  clear hmg0 ho hh
  have ho := hv
  have Ug1 := Lib.hid ho.lt
  have Rg1_8 := Lib.hid ho.holds
  have HHg1 := Lib.hid hk
  obtain ⟨mg1, hmg1⟩ : ∃ m, m = mtot Lg1 := ⟨_, rfl⟩
  have Mg1 : Hid (mg1 = N1 + tot r1_1) := Lib.hid (by have := mtot_has hk; have := HN1.out; omega)
  have Qg1 : Hid (mtot Lg1 = mg1) := hmg1.symm
  clear hmg1 ho hv hk hfar
  clear hb
  have BW9 := Lib.hid (BW8.out.alloc BW8.out.size (.cells #[.int .i64 p1_0, .int .i64 q1_0, .slice Ag0 N0 cg0] 47))
  have sz9 : Hid (w4.heap.size + 1 ≤ (w4.alloc (.cells #[.int .i64 p1_0, .int .i64 q1_0, .slice Ag0 N0 cg0] 47)).heap.size) := Lib.hid (by simp)
  have Rw0_9 := Lib.hid (Rw0_8.out.alloc (.cells #[.int .i64 p1_0, .int .i64 q1_0, .slice Ag0 N0 cg0] 47))
  have Rw1_9 := Lib.hid (Rw1_8.out.alloc (.cells #[.int .i64 p1_0, .int .i64 q1_0, .slice Ag0 N0 cg0] 47))
  have Rx0_9 := Lib.hid (Rx0_8.out.alloc (.cells #[.int .i64 p1_0, .int .i64 q1_0, .slice Ag0 N0 cg0] 47))
  have Rg0_9 := Lib.hid (Rg0_8.out.alloc (.cells #[.int .i64 p1_0, .int .i64 q1_0, .slice Ag0 N0 cg0] 47))
  have Rg1_9 := Lib.hid (Rg1_8.out.alloc (.cells #[.int .i64 p1_0, .int .i64 q1_0, .slice Ag0 N0 cg0] 47))
  have XaM_9 := Lib.hid (XaM_8.out.alloc (.cells #[.int .i64 p1_0, .int .i64 q1_0, .slice Ag0 N0 cg0] 47))
  have Xw0_9 := Lib.hid (Xw0_8.out.alloc (.cells #[.int .i64 p1_0, .int .i64 q1_0, .slice Ag0 N0 cg0] 47))
  have Xx0_9 := Lib.hid (Xx0_8.out.alloc (.cells #[.int .i64 p1_0, .int .i64 q1_0, .slice Ag0 N0 cg0] 47))
  have Xg0_9 := Lib.hid (Box.new w4 47 #[.int .i64 p1_0, .int .i64 q1_0, .slice Ag0 N0 cg0])
  have ew00a : w4.cell? ⟨w2.heap.size, 0, none⟩ = some (.int .i64 p1_0) := Xw0_8.out.cell 0
  have ew01a : w4.cell? ⟨w2.heap.size, 1, none⟩ = some (.int .i64 q1_0) := Xw0_8.out.cell 1
  have ew02a : w4.cell? ⟨w2.heap.size, 2, none⟩ = some (.slice Aw0 N0 cw0) := Xw0_8.out.cell 2
  have ew00b : (w4.alloc (.cells #[.int .i64 p1_0, .int .i64 q1_0, .slice Ag0 N0 cg0] 47)).cell? ⟨w2.heap.size, 0, none⟩ = some (.int .i64 p1_0) := Xw0_9.out.cell 0
  have ew01b : (w4.alloc (.cells #[.int .i64 p1_0, .int .i64 q1_0, .slice Ag0 N0 cg0] 47)).cell? ⟨w2.heap.size, 1, none⟩ = some (.int .i64 q1_0) := Xw0_9.out.cell 1
  have ew02b : (w4.alloc (.cells #[.int .i64 p1_0, .int .i64 q1_0, .slice Ag0 N0 cg0] 47)).cell? ⟨w2.heap.size, 2, none⟩ = some (.slice Aw0 N0 cw0) := Xw0_9.out.cell 2
  have new00 : w4.heap.size ≠ w2.heap.size := (by have := Xw0_8.out.lt; omega)
  go_wp2_with fail
  clear ew00a ew01a ew02a ew00b ew01b ew02b new00
  refine (eqMatrix_same p1_0 q1_0 Ag0 Aw0 N0 cg0 cw0 r1_0 _ (vin Rg0_9 HHg0 (by omega) Ftr1_0) (vin Rw0_9 HHw0 (by omega) Ftr1_0)).mono ?_
  rintro e w5 ⟨rfl, hb⟩
  have BW10 := Lib.hid (BW9.out.trans (hb.mono BW9.out.size))
  have sz10 : Hid ((w4.alloc (.cells #[.int .i64 p1_0, .int .i64 q1_0, .slice Ag0 N0 cg0] 47)).heap.size ≤ w5.heap.size) := hb.size
  have Rw0_10 := Lib.hid (Rw0_9.out.below hb)
  have Rw1_10 := Lib.hid (Rw1_9.out.below hb)
  have Rx0_10 := Lib.hid (Rx0_9.out.below hb)
  have Rg0_10 := Lib.hid (Rg0_9.out.below hb)
  have Rg1_10 := Lib.hid (Rg1_9.out.below hb)
  have XaM_10 := Lib.hid (XaM_9.out.below hb XaM_9.out.lt)
  have Xw0_10 := Lib.hid (Xw0_9.out.below hb Xw0_9.out.lt)
  have Xx0_10 := Lib.hid (Xx0_9.out.below hb Xx0_9.out.lt)
  have Xg0_10 := Lib.hid (Xg0_9.out.below hb Xg0_9.out.lt)
  clear hb
  go_wp2_with fail
  refine (eqRatS_same Ag1 Aw1 N1 cg1 cw1 r1_1 _ (vin Rg1_10 HHg1 (by omega) Ftr1_1) (vin Rw1_10 HHw1 (by omega) Ftr1_1)).mono ?_
  rintro e w6 ⟨rfl, hb⟩
  have BW11 := Lib.hid (BW10.out.trans (hb.mono BW10.out.size))
  have sz11 : Hid (w5.heap.size ≤ w6.heap.size) := hb.size
  have Rw0_11 := Lib.hid (Rw0_10.out.below hb)
  have Rw1_11 := Lib.hid (Rw1_10.out.below hb)
  have Rx0_11 := Lib.hid (Rx0_10.out.below hb)
  have Rg0_11 := Lib.hid (Rg0_10.out.below hb)
  have Rg1_11 := Lib.hid (Rg1_10.out.below hb)
  have XaM_11 := Lib.hid (XaM_10.out.below hb XaM_10.out.lt)
  have Xw0_11 := Lib.hid (Xw0_10.out.below hb Xw0_10.out.lt)
  have Xx0_11 := Lib.hid (Xx0_10.out.below hb Xx0_10.out.lt)
  have Xg0_11 := Lib.hid (Xg0_10.out.below hb Xg0_10.out.lt)
  clear hb
  go_wp2_with fail
  have BW12 := Lib.hid BW11.out.drew
  have sz12 : Hid (w6.heap.size ≤ w6.drew.heap.size) := Nat.le_refl _
  have Rw0_12 := Lib.hid Rw0_11.out.drew
  have Rw1_12 := Lib.hid Rw1_11.out.drew
  have Rx0_12 := Lib.hid Rx0_11.out.drew
  have Rg0_12 := Lib.hid Rg0_11.out.drew
  have Rg1_12 := Lib.hid Rg1_11.out.drew
  have XaM_12 := Lib.hid XaM_11.out.drew
  have Xw0_12 := Lib.hid Xw0_11.out.drew
  have Xx0_12 := Lib.hid Xx0_11.out.drew
  have Xg0_12 := Lib.hid Xg0_11.out.drew
  have cvx00 : Hid ((#[.int .i64 p0, .int .i64 q0, .slice Ax0 len0 cx0] : Array Value)[0]? = some (.int .i64 p0)) := rfl
  have cvx01 : Hid ((#[.int .i64 p0, .int .i64 q0, .slice Ax0 len0 cx0] : Array Value)[1]? = some (.int .i64 q0)) := rfl
  have cvx02 : Hid ((#[.int .i64 p0, .int .i64 q0, .slice Ax0 len0 cx0] : Array Value)[2]? = some (.slice Ax0 len0 cx0)) := rfl
  have cvaM0 : Hid ((#[.int .i64 p0, .int .i64 q0, .slice a0 len0 cap0] : Array Value)[0]? = some (.int .i64 p0)) := rfl
  have cvaM1 : Hid ((#[.int .i64 p0, .int .i64 q0, .slice a0 len0 cap0] : Array Value)[1]? = some (.int .i64 q0)) := rfl
  have cvaM2 : Hid ((#[.int .i64 p0, .int .i64 q0, .slice a0 len0 cap0] : Array Value)[2]? = some (.slice a0 len0 cap0)) := rfl
  go_region_held3 (fun w' => w'.cell? ⟨w3.heap.size, 0, none⟩ = some (.int .i64 p0) ∧ w'.cell? ⟨w3.heap.size, 1, none⟩ = some (.int .i64 q0) ∧ w'.cell? ⟨w3.heap.size, 2, none⟩ = some (.slice Ax0 len0 cx0) ∧ w'.cell? ⟨w.heap.size, 0, none⟩ = some (.int .i64 p0) ∧ w'.cell? ⟨w.heap.size, 1, none⟩ = some (.int .i64 q0) ∧ w'.cell? ⟨w.heap.size, 2, none⟩ = some (.slice a0 len0 cap0)) (first | with_reducible exact ⟨cellS Xx0_14 cvx00, cellS Xx0_14 cvx01, cellS Xx0_14 cvx02, cellS XaM_14 cvaM0, cellS XaM_14 cvaM1, cellS XaM_14 cvaM2⟩ | with_reducible exact ⟨cellS Xx0_13 cvx00, cellS Xx0_13 cvx01, cellS Xx0_13 cvx02, cellS XaM_13 cvaM0, cellS XaM_13 cvaM1, cellS XaM_13 cvaM2⟩ | with_reducible exact ⟨cellS Xx0_12 cvx00, cellS Xx0_12 cvx01, cellS Xx0_12 cvx02, cellS XaM_12 cvaM0, cellS XaM_12 cvaM1, cellS XaM_12 cvaM2⟩) (first | (go_at_call 28; refine (eqMatrix_same p0 q0 Ax0 At2 len0 cx0 ct2 z0 _ (vin Rx0_13 HHx0 (by omega) Ftz0) (vin Rt2_13 HHt2 (by omega) Ftz0)).mono ?_; rintro e w8 ⟨rfl, hb⟩; have BW14 := Lib.hid (BW13.out.trans (hb.mono BW13.out.size)); have sz14 : Hid (w7.heap.size ≤ w8.heap.size) := hb.size; have Rw0_14 := Lib.hid (Rw0_13.out.below hb); have Rw1_14 := Lib.hid (Rw1_13.out.below hb); have Rx0_14 := Lib.hid (Rx0_13.out.below hb); have Rg0_14 := Lib.hid (Rg0_13.out.below hb); have Rg1_14 := Lib.hid (Rg1_13.out.below hb); have Rt2_14 := Lib.hid (Rt2_13.out.below hb); have XaM_14 := Lib.hid (XaM_13.out.below hb XaM_13.out.lt); have Xw0_14 := Lib.hid (Xw0_13.out.below hb Xw0_13.out.lt); have Xx0_14 := Lib.hid (Xx0_13.out.below hb Xx0_13.out.lt); have Xg0_14 := Lib.hid (Xg0_13.out.below hb Xg0_13.out.lt); clear hb) | (go_at_call 26; refine (toMatrix_any p0 q0 a0 len0 cap0 z0 _ (Hz0.out.below BW12.out) (by omega)).mono ?_; rintro e w7 ⟨V, Lt2, rfl, ho, hh, hb⟩; have BW13 := Lib.hid (BW12.out.trans (hb.mono BW12.out.size)); have sz13 : Hid (w6.drew.heap.size ≤ w7.heap.size) := hb.size; have Rw0_13 := Lib.hid (Rw0_12.out.below hb); have Rw1_13 := Lib.hid (Rw1_12.out.below hb); have Rx0_13 := Lib.hid (Rx0_12.out.below hb); have Rg0_13 := Lib.hid (Rg0_12.out.below hb); have Rg1_13 := Lib.hid (Rg1_12.out.below hb); have XaM_13 := Lib.hid (XaM_12.out.below hb XaM_12.out.lt); have Xw0_13 := Lib.hid (Xw0_12.out.below hb Xw0_12.out.lt); have Xx0_13 := Lib.hid (Xx0_12.out.below hb Xx0_12.out.lt); have Xg0_13 := Lib.hid (Xg0_12.out.below hb Xg0_12.out.lt); obtain ⟨At2, ct2, rfl⟩ := ho.slice; have Ut2 := Lib.hid ho.lt; have Rt2_13 := Lib.hid ho.holds; have hcapt2 : len0 ≤ ct2 := own_le ho.2.1; have HHt2 := Lib.hid hh; obtain ⟨mt2, hmt2⟩ : ∃ m, m = mtot Lt2 := ⟨_, rfl⟩; have Mt2 : Hid (mt2 = len0 + tot z0) := Lib.hid (by have := mtot_has hh; have := Hz0.out.1; omega); have Qt2 : Hid (mtot Lt2 = mt2) := hmt2.symm; clear hmt2; clear ho hh hb))
  clear cvx00 cvx01 cvx02 cvaM0 cvaM1 cvaM2
  clear Rt2_14 Ut2
  have ex00a : w8.cell? ⟨w3.heap.size, 0, none⟩ = some (.int .i64 p0) := Xx0_14.out.cell 0
  have ex01a : w8.cell? ⟨w3.heap.size, 1, none⟩ = some (.int .i64 q0) := Xx0_14.out.cell 1
  have ex02a : w8.cell? ⟨w3.heap.size, 2, none⟩ = some (.slice Ax0 len0 cx0) := Xx0_14.out.cell 2
  go_wp2_with fail
  clear ex00a ex01a ex02a
  refine (markMatrix_m _ p0 q0 Ax0 len0 cx0 (1) mx0 Lx0 z0 _ Qx0 (by have := Mx0.out; unfold maxLen; omega) (vnow Rx0_14) HHx0.out).mono ?_
  rintro e w9 ⟨rfl, ho, hW⟩
  have BW15 := Lib.hid (Wrote.below BW14.out hW (fun k hk => Nat.le_trans (Nat.le_trans (Nat.le_of_succ_le sz1.out) (Nat.le_trans sz2.out (Nat.le_trans sz3.out (Nat.le_trans sz4.out (Nat.le_of_succ_le sz5.out))))) (Ux0.out k hk).1) (Nat.le_trans (Nat.le_of_succ_le sz1.out) (Nat.le_trans sz2.out (Nat.le_trans sz3.out (Nat.le_trans sz4.out (Nat.le_trans (Nat.le_of_succ_le sz5.out) (Nat.le_trans sz6.out (Nat.le_trans (Nat.le_of_succ_le sz7.out) (Nat.le_trans sz8.out (Nat.le_trans (Nat.le_of_succ_le sz9.out) (Nat.le_trans sz10.out (Nat.le_trans sz11.out (Nat.le_trans sz12.out (Nat.le_trans sz13.out sz14.out))))))))))))))
  have sz15 : Hid (w8.heap.size ≤ w9.heap.size) := hW.size
  have Rw0_15 := Lib.hid (Rw0_14.out.wrote hW (two_none Uw0 Ux0 (.inl (Nat.le_of_succ_le sz5.out))))
  have Rw1_15 := Lib.hid (Rw1_14.out.wrote hW (two_none Uw1 Ux0 (.inl (Nat.le_of_succ_le sz5.out))))
  have Rg0_15 := Lib.hid (Rg0_14.out.wrote hW (two_none Ug0 Ux0 (.inr (Nat.le_of_succ_le sz7.out))))
  have Rg1_15 := Lib.hid (Rg1_14.out.wrote hW (two_none Ug1 Ux0 (.inr (Nat.le_of_succ_le sz7.out))))
  have XaM_15 := Lib.hid (XaM_14.out.wroteV Rx0_14.out.now hW)
  have Xw0_15 := Lib.hid (Xw0_14.out.wroteV Rx0_14.out.now hW)
  have Xx0_15 := Lib.hid (Xx0_14.out.wroteV Rx0_14.out.now hW)
  have Xg0_15 := Lib.hid (Xg0_14.out.wroteV Rx0_14.out.now hW)
  have Rx0_15 := Lib.hid ho.holds_marked
  clear ho hW
  clear Rx0_15 Ux0 Xx0_15
  have eg00a : w9.cell? ⟨w4.heap.size, 0, none⟩ = some (.int .i64 p1_0) := Xg0_15.out.cell 0
  have eg01a : w9.cell? ⟨w4.heap.size, 1, none⟩ = some (.int .i64 q1_0) := Xg0_15.out.cell 1
  have eg02a : w9.cell? ⟨w4.heap.size, 2, none⟩ = some (.slice Ag0 N0 cg0) := Xg0_15.out.cell 2
  have ew00a : w9.cell? ⟨w2.heap.size, 0, none⟩ = some (.int .i64 p1_0) := Xw0_15.out.cell 0
  have ew01a : w9.cell? ⟨w2.heap.size, 1, none⟩ = some (.int .i64 q1_0) := Xw0_15.out.cell 1
  have ew02a : w9.cell? ⟨w2.heap.size, 2, none⟩ = some (.slice Aw0 N0 cw0) := Xw0_15.out.cell 2
  go_wp2_with fail
  clear eg00a eg01a eg02a ew00a ew01a ew02a
  refine (eqMatrix_same p1_0 q1_0 Ag0 Aw0 N0 cg0 cw0 r1_0 _ (vin Rg0_15 HHg0 (by omega) Ftr1_0) (vin Rw0_15 HHw0 (by omega) Ftr1_0)).mono ?_
  rintro e w10 ⟨rfl, hb⟩
  have BW16 := Lib.hid (BW15.out.trans (hb.mono BW15.out.size))
  have sz16 : Hid (w9.heap.size ≤ w10.heap.size) := hb.size
  have Rw0_16 := Lib.hid (Rw0_15.out.below hb)
  have Rw1_16 := Lib.hid (Rw1_15.out.below hb)
  have Rg0_16 := Lib.hid (Rg0_15.out.below hb)
  have Rg1_16 := Lib.hid (Rg1_15.out.below hb)
  have XaM_16 := Lib.hid (XaM_15.out.below hb XaM_15.out.lt)
  have Xw0_16 := Lib.hid (Xw0_15.out.below hb Xw0_15.out.lt)
  have Xg0_16 := Lib.hid (Xg0_15.out.below hb Xg0_15.out.lt)
  clear hb
  go_wp2_with fail
  refine (eqRatS_same Ag1 Aw1 N1 cg1 cw1 r1_1 _ (vin Rg1_16 HHg1 (by omega) Ftr1_1) (vin Rw1_16 HHw1 (by omega) Ftr1_1)).mono ?_
  rintro e w11 ⟨rfl, hb⟩
  have BW17 := Lib.hid (BW16.out.trans (hb.mono BW16.out.size))
  have sz17 : Hid (w10.heap.size ≤ w11.heap.size) := hb.size
  have Rw0_17 := Lib.hid (Rw0_16.out.below hb)
  have Rw1_17 := Lib.hid (Rw1_16.out.below hb)
  have Rg0_17 := Lib.hid (Rg0_16.out.below hb)
  have Rg1_17 := Lib.hid (Rg1_16.out.below hb)
  have XaM_17 := Lib.hid (XaM_16.out.below hb XaM_16.out.lt)
  have Xw0_17 := Lib.hid (Xw0_16.out.below hb Xw0_16.out.lt)
  have Xg0_17 := Lib.hid (Xg0_16.out.below hb Xg0_16.out.lt)
  clear hb
  have eg00a : w11.cell? ⟨w4.heap.size, 0, none⟩ = some (.int .i64 p1_0) := Xg0_17.out.cell 0
  have eg01a : w11.cell? ⟨w4.heap.size, 1, none⟩ = some (.int .i64 q1_0) := Xg0_17.out.cell 1
  have eg02a : w11.cell? ⟨w4.heap.size, 2, none⟩ = some (.slice Ag0 N0 cg0) := Xg0_17.out.cell 2
  go_wp2_with fail
  clear eg00a eg01a eg02a
  refine (markMatrix_m _ p1_0 q1_0 Ag0 N0 cg0 (1) mg0 Lg0 r1_0 _ Qg0 (by have := Mg0.out; unfold maxLen; omega) (vnow Rg0_17) HHg0.out).mono ?_
  rintro e w12 ⟨rfl, ho, hW⟩
  have BW18 := Lib.hid (Wrote.below BW17.out hW (fun k hk => Nat.le_trans (Nat.le_trans (Nat.le_of_succ_le sz1.out) (Nat.le_trans sz2.out (Nat.le_trans sz3.out (Nat.le_trans sz4.out (Nat.le_trans (Nat.le_of_succ_le sz5.out) (Nat.le_trans sz6.out (Nat.le_of_succ_le sz7.out))))))) (Ug0.out k hk).1) (Nat.le_trans (Nat.le_of_succ_le sz1.out) (Nat.le_trans sz2.out (Nat.le_trans sz3.out (Nat.le_trans sz4.out (Nat.le_trans (Nat.le_of_succ_le sz5.out) (Nat.le_trans sz6.out (Nat.le_trans (Nat.le_of_succ_le sz7.out) (Nat.le_trans sz8.out (Nat.le_trans (Nat.le_of_succ_le sz9.out) (Nat.le_trans sz10.out (Nat.le_trans sz11.out (Nat.le_trans sz12.out (Nat.le_trans sz13.out (Nat.le_trans sz14.out (Nat.le_trans sz15.out (Nat.le_trans sz16.out sz17.out)))))))))))))))))
  have sz18 : Hid (w11.heap.size ≤ w12.heap.size) := hW.size
  have Rw0_18 := Lib.hid (Rw0_17.out.wrote hW (two_none Uw0 Ug0 (.inl (Nat.le_trans (Nat.le_of_succ_le sz5.out) (Nat.le_trans sz6.out (Nat.le_of_succ_le sz7.out))))))
  have Rw1_18 := Lib.hid (Rw1_17.out.wrote hW (two_none Uw1 Ug0 (.inl (Nat.le_trans (Nat.le_of_succ_le sz5.out) (Nat.le_trans sz6.out (Nat.le_of_succ_le sz7.out))))))
  have Rg1_18 := Lib.hid (Rg1_17.out.wrote hW APg1_g0.out)
  have XaM_18 := Lib.hid (XaM_17.out.wroteV Rg0_17.out.now hW)
  have Xw0_18 := Lib.hid (Xw0_17.out.wroteV Rg0_17.out.now hW)
  have Xg0_18 := Lib.hid (Xg0_17.out.wroteV Rg0_17.out.now hW)
  have Rg0_18 := Lib.hid ho.holds_marked
  clear ho hW
  go_wp2_with fail
  refine (markRatS_m _ Ag1 N1 cg1 (1 + mg0) mg1 Lg1 r1_1 _ Qg1 (by have := Mg0.out; have := Mg1.out; unfold maxLen; omega) (vnow Rg1_18) HHg1.out).mono ?_
  rintro e w13 ⟨rfl, ho, hW⟩
  have BW19 := Lib.hid (Wrote.below BW18.out hW (fun k hk => Nat.le_trans (Nat.le_trans (Nat.le_of_succ_le sz1.out) (Nat.le_trans sz2.out (Nat.le_trans sz3.out (Nat.le_trans sz4.out (Nat.le_trans (Nat.le_of_succ_le sz5.out) (Nat.le_trans sz6.out (Nat.le_of_succ_le sz7.out))))))) (Ug1.out k hk).1) (Nat.le_trans (Nat.le_of_succ_le sz1.out) (Nat.le_trans sz2.out (Nat.le_trans sz3.out (Nat.le_trans sz4.out (Nat.le_trans (Nat.le_of_succ_le sz5.out) (Nat.le_trans sz6.out (Nat.le_trans (Nat.le_of_succ_le sz7.out) (Nat.le_trans sz8.out (Nat.le_trans (Nat.le_of_succ_le sz9.out) (Nat.le_trans sz10.out (Nat.le_trans sz11.out (Nat.le_trans sz12.out (Nat.le_trans sz13.out (Nat.le_trans sz14.out (Nat.le_trans sz15.out (Nat.le_trans sz16.out (Nat.le_trans sz17.out sz18.out))))))))))))))))))
  have sz19 : Hid (w12.heap.size ≤ w13.heap.size) := hW.size
  have Rw0_19 := Lib.hid (Rw0_18.out.wrote hW (two_none Uw0 Ug1 (.inl (Nat.le_trans (Nat.le_of_succ_le sz5.out) (Nat.le_trans sz6.out (Nat.le_of_succ_le sz7.out))))))
  have Rw1_19 := Lib.hid (Rw1_18.out.wrote hW (two_none Uw1 Ug1 (.inl (Nat.le_trans (Nat.le_of_succ_le sz5.out) (Nat.le_trans sz6.out (Nat.le_of_succ_le sz7.out))))))
  have Rg0_19 := Lib.hid (Rg0_18.out.wrote hW APg0_g1.out)
  have XaM_19 := Lib.hid (XaM_18.out.wroteV Rg1_18.out.now hW)
  have Xw0_19 := Lib.hid (Xw0_18.out.wroteV Rg1_18.out.now hW)
  have Xg0_19 := Lib.hid (Xg0_18.out.wroteV Rg1_18.out.now hW)
  have Rg1_19 := Lib.hid ho.holds_marked
  clear ho hW
  have eg00a : w13.cell? ⟨w4.heap.size, 0, none⟩ = some (.int .i64 p1_0) := Xg0_19.out.cell 0
  have eg01a : w13.cell? ⟨w4.heap.size, 1, none⟩ = some (.int .i64 q1_0) := Xg0_19.out.cell 1
  have eg02a : w13.cell? ⟨w4.heap.size, 2, none⟩ = some (.slice Ag0 N0 cg0) := Xg0_19.out.cell 2
  go_wp2_with fail
  clear eg00a eg01a eg02a
  refine (heldMatrix_m _ p1_0 q1_0 Ag0 N0 cg0 (1) mg0 Lg0 _ Qg0 (by have := Mg0.out; unfold maxLen; omega) (vnow Rg0_19)).mono ?_
  rintro e w14 ⟨rfl, hb⟩
  have BW20 := Lib.hid (BW19.out.trans (hb.mono BW19.out.size))
  have sz20 : Hid (w13.heap.size ≤ w14.heap.size) := hb.size
  have Rw0_20 := Lib.hid (Rw0_19.out.below hb)
  have Rw1_20 := Lib.hid (Rw1_19.out.below hb)
  have Rg0_20 := Lib.hid (Rg0_19.out.below hb)
  have Rg1_20 := Lib.hid (Rg1_19.out.below hb)
  have XaM_20 := Lib.hid (XaM_19.out.below hb XaM_19.out.lt)
  have Xw0_20 := Lib.hid (Xw0_19.out.below hb Xw0_19.out.lt)
  have Xg0_20 := Lib.hid (Xg0_19.out.below hb Xg0_19.out.lt)
  clear hb
  go_wp2_with fail
  refine (heldRatS_m _ Ag1 N1 cg1 (1 + mg0) mg1 Lg1 _ Qg1 (by have := Mg0.out; have := Mg1.out; unfold maxLen; omega) (vnow Rg1_20)).mono ?_
  rintro e w15 ⟨rfl, hb⟩
  have BW21 := Lib.hid (BW20.out.trans (hb.mono BW20.out.size))
  have sz21 : Hid (w14.heap.size ≤ w15.heap.size) := hb.size
  have Rw0_21 := Lib.hid (Rw0_20.out.below hb)
  have Rw1_21 := Lib.hid (Rw1_20.out.below hb)
  have Rg0_21 := Lib.hid (Rg0_20.out.below hb)
  have Rg1_21 := Lib.hid (Rg1_20.out.below hb)
  have XaM_21 := Lib.hid (XaM_20.out.below hb XaM_20.out.lt)
  have Xw0_21 := Lib.hid (Xw0_20.out.below hb Xw0_20.out.lt)
  have Xg0_21 := Lib.hid (Xg0_20.out.below hb Xg0_20.out.lt)
  clear hb
  have eaM0a : w15.cell? ⟨w.heap.size, 0, none⟩ = some (.int .i64 p0) := XaM_21.out.cell 0
  have eaM1a : w15.cell? ⟨w.heap.size, 1, none⟩ = some (.int .i64 q0) := XaM_21.out.cell 1
  have eaM2a : w15.cell? ⟨w.heap.size, 2, none⟩ = some (.slice a0 len0 cap0) := XaM_21.out.cell 2
  go_wp2_with fail
  clear eaM0a eaM1a eaM2a
  refine (toMatrix_any p0 q0 a0 len0 cap0 z0 _ (Hz0.out.below BW21.out) (by omega)).mono ?_
  rintro e w16 ⟨V, Lt3, rfl, ho, hh, hb⟩
  have BW22 := Lib.hid (BW21.out.trans (hb.mono BW21.out.size))
  have sz22 : Hid (w15.heap.size ≤ w16.heap.size) := hb.size
  have Rw0_22 := Lib.hid (Rw0_21.out.below hb)
  have Rw1_22 := Lib.hid (Rw1_21.out.below hb)
  have Rg0_22 := Lib.hid (Rg0_21.out.below hb)
  have Rg1_22 := Lib.hid (Rg1_21.out.below hb)
  have XaM_22 := Lib.hid (XaM_21.out.below hb XaM_21.out.lt)
  have Xw0_22 := Lib.hid (Xw0_21.out.below hb Xw0_21.out.lt)
  have Xg0_22 := Lib.hid (Xg0_21.out.below hb Xg0_21.out.lt)
  obtain ⟨At3, ct3, rfl⟩ := ho.slice
  have Ut3 := Lib.hid ho.lt
  have Rt3_22 := Lib.hid ho.holds
  have hcapt3 : len0 ≤ ct3 := own_le ho.2.1
  have HHt3 := Lib.hid hh
  obtain ⟨mt3, hmt3⟩ : ∃ m, m = mtot Lt3 := ⟨_, rfl⟩
  have Mt3 : Hid (mt3 = len0 + tot z0) := Lib.hid (by have := mtot_has hh; have := Hz0.out.1; omega)
  have Qt3 : Hid (mtot Lt3 = mt3) := hmt3.symm
  clear hmt3
  clear ho hh hb
  go_wp2_with fail
  refine (impl_factor p0 q0 At3 len0 ct3 z0 _ (vin Rt3_22 HHt3 (by omega) Ftz0) Bp0 Bq0 hcapt3).mono ?_
  rintro e w17 ⟨p3_0, q3_0, r3_0, v0, r3_1, v1, r3_2, rfl, his, h0, hb⟩
  have BW23 := Lib.hid (BW22.out.trans (hb.mono BW22.out.size))
  have sz23 : Hid (w16.heap.size ≤ w17.heap.size) := hb.size
  have Rw0_23 := Lib.hid (Rw0_22.out.below hb)
  have Rw1_23 := Lib.hid (Rw1_22.out.below hb)
  have Rg0_23 := Lib.hid (Rg0_22.out.below hb)
  have Rg1_23 := Lib.hid (Rg1_22.out.below hb)
  have Rt3_23 := Lib.hid (Rt3_22.out.below hb)
  have XaM_23 := Lib.hid (XaM_22.out.below hb XaM_22.out.lt)
  have Xw0_23 := Lib.hid (Xw0_22.out.below hb Xw0_22.out.lt)
  have Xg0_23 := Lib.hid (Xg0_22.out.below hb Xg0_22.out.lt)
  obtain ⟨rfl, rfl, rfl, rfl, rfl⟩ := factor_unique IS.out his
  clear his
  obtain ⟨⟨_, _, _, _⟩, Lh0, Lh1, ho, hh, hv, hk, hfar⟩ := h0
  rw [HN0.out] at ho
  rw [HN1.out] at hv
  obtain ⟨Ah0, ch0, rfl⟩ := ho.slice
  obtain ⟨Ah1, ch1, rfl⟩ := hv.slice
  have APh0_h1 := Lib.hid hfar
  have APh1_h0 := Lib.hid (fun k hk hj => hfar k hj hk)
  have Uh0 := Lib.hid ho.lt
  have Rh0_23 := Lib.hid ho.holds
  have HHh0 := Lib.hid hh
  obtain ⟨mh0, hmh0⟩ : ∃ m, m = mtot Lh0 := ⟨_, rfl⟩
  have Mh0 : Hid (mh0 = N0 + tot r1_0) := Lib.hid (by have := mtot_has hh; have := HN0.out; omega)
  have Qh0 : Hid (mtot Lh0 = mh0) := hmh0.symm
  clear hmh0 ho hh
  have ho := hv
  have Uh1 := Lib.hid ho.lt
  have Rh1_23 := Lib.hid ho.holds
  have HHh1 := Lib.hid hk
  obtain ⟨mh1, hmh1⟩ : ∃ m, m = mtot Lh1 := ⟨_, rfl⟩
  have Mh1 : Hid (mh1 = N1 + tot r1_1) := Lib.hid (by have := mtot_has hk; have := HN1.out; omega)
  have Qh1 : Hid (mtot Lh1 = mh1) := hmh1.symm
  clear hmh1 ho hv hk hfar
  clear hb
  clear Rt3_23 Ut3
  have BW24 := Lib.hid (BW23.out.alloc BW23.out.size (.cells #[.int .i64 p1_0, .int .i64 q1_0, .slice Ah0 N0 ch0] 47))
  have sz24 : Hid (w17.heap.size + 1 ≤ (w17.alloc (.cells #[.int .i64 p1_0, .int .i64 q1_0, .slice Ah0 N0 ch0] 47)).heap.size) := Lib.hid (by simp)
  have Rw0_24 := Lib.hid (Rw0_23.out.alloc (.cells #[.int .i64 p1_0, .int .i64 q1_0, .slice Ah0 N0 ch0] 47))
  have Rw1_24 := Lib.hid (Rw1_23.out.alloc (.cells #[.int .i64 p1_0, .int .i64 q1_0, .slice Ah0 N0 ch0] 47))
  have Rg0_24 := Lib.hid (Rg0_23.out.alloc (.cells #[.int .i64 p1_0, .int .i64 q1_0, .slice Ah0 N0 ch0] 47))
  have Rg1_24 := Lib.hid (Rg1_23.out.alloc (.cells #[.int .i64 p1_0, .int .i64 q1_0, .slice Ah0 N0 ch0] 47))
  have Rh0_24 := Lib.hid (Rh0_23.out.alloc (.cells #[.int .i64 p1_0, .int .i64 q1_0, .slice Ah0 N0 ch0] 47))
  have Rh1_24 := Lib.hid (Rh1_23.out.alloc (.cells #[.int .i64 p1_0, .int .i64 q1_0, .slice Ah0 N0 ch0] 47))
  have XaM_24 := Lib.hid (XaM_23.out.alloc (.cells #[.int .i64 p1_0, .int .i64 q1_0, .slice Ah0 N0 ch0] 47))
  have Xw0_24 := Lib.hid (Xw0_23.out.alloc (.cells #[.int .i64 p1_0, .int .i64 q1_0, .slice Ah0 N0 ch0] 47))
  have Xg0_24 := Lib.hid (Xg0_23.out.alloc (.cells #[.int .i64 p1_0, .int .i64 q1_0, .slice Ah0 N0 ch0] 47))
  have Xh0_24 := Lib.hid (Box.new w17 47 #[.int .i64 p1_0, .int .i64 q1_0, .slice Ah0 N0 ch0])
  have ew00a : w17.cell? ⟨w2.heap.size, 0, none⟩ = some (.int .i64 p1_0) := Xw0_23.out.cell 0
  have ew01a : w17.cell? ⟨w2.heap.size, 1, none⟩ = some (.int .i64 q1_0) := Xw0_23.out.cell 1
  have ew02a : w17.cell? ⟨w2.heap.size, 2, none⟩ = some (.slice Aw0 N0 cw0) := Xw0_23.out.cell 2
  have ew00b : (w17.alloc (.cells #[.int .i64 p1_0, .int .i64 q1_0, .slice Ah0 N0 ch0] 47)).cell? ⟨w2.heap.size, 0, none⟩ = some (.int .i64 p1_0) := Xw0_24.out.cell 0
  have ew01b : (w17.alloc (.cells #[.int .i64 p1_0, .int .i64 q1_0, .slice Ah0 N0 ch0] 47)).cell? ⟨w2.heap.size, 1, none⟩ = some (.int .i64 q1_0) := Xw0_24.out.cell 1
  have ew02b : (w17.alloc (.cells #[.int .i64 p1_0, .int .i64 q1_0, .slice Ah0 N0 ch0] 47)).cell? ⟨w2.heap.size, 2, none⟩ = some (.slice Aw0 N0 cw0) := Xw0_24.out.cell 2
  have new00 : w17.heap.size ≠ w2.heap.size := (by have := Xw0_23.out.lt; omega)
  go_wp2_with fail
  clear ew00a ew01a ew02a ew00b ew01b ew02b new00
  refine (eqMatrix_same p1_0 q1_0 Ah0 Aw0 N0 ch0 cw0 r1_0 _ (vin Rh0_24 HHh0 (by omega) Ftr1_0) (vin Rw0_24 HHw0 (by omega) Ftr1_0)).mono ?_
  rintro e w18 ⟨rfl, hb⟩
  have BW25 := Lib.hid (BW24.out.trans (hb.mono BW24.out.size))
  have sz25 : Hid ((w17.alloc (.cells #[.int .i64 p1_0, .int .i64 q1_0, .slice Ah0 N0 ch0] 47)).heap.size ≤ w18.heap.size) := hb.size
  have Rw0_25 := Lib.hid (Rw0_24.out.below hb)
  have Rw1_25 := Lib.hid (Rw1_24.out.below hb)
  have Rg0_25 := Lib.hid (Rg0_24.out.below hb)
  have Rg1_25 := Lib.hid (Rg1_24.out.below hb)
  have Rh0_25 := Lib.hid (Rh0_24.out.below hb)
  have Rh1_25 := Lib.hid (Rh1_24.out.below hb)
  have XaM_25 := Lib.hid (XaM_24.out.below hb XaM_24.out.lt)
  have Xw0_25 := Lib.hid (Xw0_24.out.below hb Xw0_24.out.lt)
  have Xg0_25 := Lib.hid (Xg0_24.out.below hb Xg0_24.out.lt)
  have Xh0_25 := Lib.hid (Xh0_24.out.below hb Xh0_24.out.lt)
  clear hb
  clear Rw0_25 Uw0 Xw0_25
  clear Rh0_25 Uh0 Xh0_25
  go_wp2_with fail
  refine (eqRatS_same Ah1 Aw1 N1 ch1 cw1 r1_1 _ (vin Rh1_25 HHh1 (by omega) Ftr1_1) (vin Rw1_25 HHw1 (by omega) Ftr1_1)).mono ?_
  rintro e w19 ⟨rfl, hb⟩
  have BW26 := Lib.hid (BW25.out.trans (hb.mono BW25.out.size))
  have sz26 : Hid (w18.heap.size ≤ w19.heap.size) := hb.size
  have Rw1_26 := Lib.hid (Rw1_25.out.below hb)
  have Rg0_26 := Lib.hid (Rg0_25.out.below hb)
  have Rg1_26 := Lib.hid (Rg1_25.out.below hb)
  have Rh1_26 := Lib.hid (Rh1_25.out.below hb)
  have XaM_26 := Lib.hid (XaM_25.out.below hb XaM_25.out.lt)
  have Xg0_26 := Lib.hid (Xg0_25.out.below hb Xg0_25.out.lt)
  clear hb
  clear Rw1_26 Uw1
  clear Rh1_26 Uh1
  have eg00a : w19.cell? ⟨w4.heap.size, 0, none⟩ = some (.int .i64 p1_0) := Xg0_26.out.cell 0
  have eg01a : w19.cell? ⟨w4.heap.size, 1, none⟩ = some (.int .i64 q1_0) := Xg0_26.out.cell 1
  have eg02a : w19.cell? ⟨w4.heap.size, 2, none⟩ = some (.slice Ag0 N0 cg0) := Xg0_26.out.cell 2
  go_wp2_with fail
  clear eg00a eg01a eg02a
  refine (heldMatrix_m _ p1_0 q1_0 Ag0 N0 cg0 (1) mg0 Lg0 _ Qg0 (by have := Mg0.out; unfold maxLen; omega) (vnow Rg0_26)).mono ?_
  rintro e w20 ⟨rfl, hb⟩
  have BW27 := Lib.hid (BW26.out.trans (hb.mono BW26.out.size))
  have sz27 : Hid (w19.heap.size ≤ w20.heap.size) := hb.size
  have Rg0_27 := Lib.hid (Rg0_26.out.below hb)
  have Rg1_27 := Lib.hid (Rg1_26.out.below hb)
  have XaM_27 := Lib.hid (XaM_26.out.below hb XaM_26.out.lt)
  have Xg0_27 := Lib.hid (Xg0_26.out.below hb Xg0_26.out.lt)
  clear hb
  clear Rg0_27 Ug0 Xg0_27
  go_wp2_with fail
  refine (heldRatS_m _ Ag1 N1 cg1 (1 + mg0) mg1 Lg1 _ Qg1 (by have := Mg0.out; have := Mg1.out; unfold maxLen; omega) (vnow Rg1_27)).mono ?_
  rintro e w21 ⟨rfl, hb⟩
  have BW28 := Lib.hid (BW27.out.trans (hb.mono BW27.out.size))
  have sz28 : Hid (w20.heap.size ≤ w21.heap.size) := hb.size
  have Rg1_28 := Lib.hid (Rg1_27.out.below hb)
  have XaM_28 := Lib.hid (XaM_27.out.below hb XaM_27.out.lt)
  clear hb
  clear Rg1_28 Ug1
  go_wp2_with fail
  go_ret
  exact ⟨rfl, BW28.out⟩
end Go.Proofs.YtdehcddjkcpnfaaGreat.fnExactFactor
