/- The walk of the law: for all arguments the law FnExactAddVectors returns true: the program's AddVectors answers as the model's; no condition on them. -/
import Derived.Test.YtjggdbakbhacjaaGV
import Derived.Test.YtjggdbakbhacjaaVecS5
import Derived.Test.YtjggdbakbhacjaaVecI3
import Derived.ProofKit
import Derived.OpenShut
import Derived.ShutString
import Derived.Lib.SmallJoins
namespace Go.Proofs.Ytjggdbakbhacjaa.fnExactAddVectors
set_option maxRecDepth 100000
open Go.ChangeShapes Go.WideShapes Go.ChangeAt Go.RowKit Go.Joins Go.Deep
open Go.ChangeMaps (open_string shut_string)

set_option maxRecDepth 100000 in
set_option maxHeartbeats 16000000 in
theorem walk {w : World} (a0 : Option Addr) (len0 cap0 : Nat) (z0 : List RD) (hz0 : IsV w a0 len0 z0) (a1 : Option Addr) (len1 cap1 : Nat) (z1 : List RD) (hz1 : IsV w a1 len1 z1) :
    Calls Try.prog 7 #[.slice a0 len0 cap0, .slice a1 len1 cap1] w fun e w' => e = .returned (.bool true) ∧ Below w.heap.size w w' := by
  have hmz0 : len0 ≤ maxLen := hz0.2.1
  have Hz0 := Lib.hid hz0
  clear hz0
  have hmz1 : len1 ≤ maxLen := hz1.2.1
  have Hz1 := Lib.hid hz1
  clear hz1
  have BW0 : Hid (Below w.heap.size w w) := Below.refl _ _
  go_enter Try.func7, Try.ntmps7
  go_wp2_with fail
  refine (szRatS_any a0 len0 cap0 z0 (1048576 : Int) _ (Hz0.out.below BW0.out) (by omega) (by omega)).mono ?_
  rintro e ws0 ⟨lf0, rfl, hr, hb⟩
  have BW1 := Lib.hid (BW0.out.trans (hb.mono BW0.out.size))
  have sz1 : Hid (w.heap.size ≤ ws0.heap.size) := hb.size
  clear hb
  rcases hr with rfl | ⟨h0, hr⟩
  · go_wp2_with fail
    go_ret
    exact ⟨rfl, BW1.out⟩
  have lb0 : 0 ≤ lf0 ∧ lf0 ≤ 1048576 := by omega
  have ls0 : lf0 + ((len0 : Int) + tot z0) = (1048576 : Int) := by omega
  have HLS0 := Lib.hid ls0
  have lt0 : len0 + tot z0 ≤ 1048576 := by omega
  clear ls0 hr
  have h00 := h0
  clear h0
  have Ftz0 := Lib.hid (Hz0.out.fits (by omega))
  go_wp2_with fail
  refine (szRatS_any a1 len1 cap1 z1 lf0 _ (Hz1.out.below BW1.out) (by omega) (by omega)).mono ?_
  rintro e ws1 ⟨lf1, rfl, hr, hb⟩
  have BW2 := Lib.hid (BW1.out.trans (hb.mono BW1.out.size))
  have sz2 : Hid (ws0.heap.size ≤ ws1.heap.size) := hb.size
  clear hb
  rcases hr with rfl | ⟨h0, hr⟩
  · go_wp2_with fail
    go_ret
    exact ⟨rfl, BW2.out⟩
  have lb1 : 0 ≤ lf1 ∧ lf1 ≤ 1048576 := by omega
  have ls1 : lf1 + ((len1 : Int) + tot z1) = lf0 := by omega
  have HLS1 := Lib.hid ls1
  have lt1 : len1 + tot z1 ≤ 1048576 := by omega
  clear ls1 hr
  have h01 := h0
  clear h0
  have Ftz1 := Lib.hid (Hz1.out.fits (by omega))
  go_wp2_with fail
  refine (toRatS_any a0 len0 cap0 z0 _ (Hz0.out.below BW2.out) (by omega)).mono ?_
  rintro e w1 ⟨V, Lt1, rfl, ho, hh, hb⟩
  have BW3 := Lib.hid (BW2.out.trans (hb.mono BW2.out.size))
  have sz3 : Hid (ws1.heap.size ≤ w1.heap.size) := hb.size
  obtain ⟨At1, ct1, rfl⟩ := ho.slice
  have Ut1 := Lib.hid ho.lt
  have Rt1_3 := Lib.hid ho.holds
  have HHt1 := Lib.hid hh
  obtain ⟨mt1, hmt1⟩ : ∃ m, m = mtot Lt1 := ⟨_, rfl⟩
  have Mt1 : Hid (mt1 = len0 + tot z0) := Lib.hid (by have := mtot_has hh; have := Hz0.out.1; omega)
  have Qt1 : Hid (mtot Lt1 = mt1) := hmt1.symm
  clear hmt1
  clear ho hh hb
  go_wp2_with fail
  refine (toRatS_any a1 len1 cap1 z1 _ (Hz1.out.below BW3.out) (by omega)).mono ?_
  rintro e w2 ⟨V, Lt2, rfl, ho, hh, hb⟩
  have BW4 := Lib.hid (BW3.out.trans (hb.mono BW3.out.size))
  have sz4 : Hid (w1.heap.size ≤ w2.heap.size) := hb.size
  have Rt1_4 := Lib.hid (Rt1_3.out.below hb)
  obtain ⟨At2, ct2, rfl⟩ := ho.slice
  have Ut2 := Lib.hid ho.lt
  have Rt2_4 := Lib.hid ho.holds
  have HHt2 := Lib.hid hh
  obtain ⟨mt2, hmt2⟩ : ∃ m, m = mtot Lt2 := ⟨_, rfl⟩
  have Mt2 : Hid (mt2 = len1 + tot z1) := Lib.hid (by have := mtot_has hh; have := Hz1.out.1; omega)
  have Qt2 : Hid (mtot Lt2 = mt2) := hmt2.symm
  clear hmt2
  clear ho hh hb
  go_wp2_with fail
  refine (spec_addVectors At1 len0 ct1 z0 At2 len1 ct2 z1 _ (vin Rt1_4 HHt1 (by omega) Ftz0) (vin Rt2_4 HHt2 (by omega) Ftz1)).mono ?_
  rintro e w3 ⟨r1_0, v0, r1_1, rfl, his, h0, hb⟩
  have BW5 := Lib.hid (BW4.out.trans (hb.mono BW4.out.size))
  have sz5 : Hid (w2.heap.size ≤ w3.heap.size) := hb.size
  have Rt1_5 := Lib.hid (Rt1_4.out.below hb)
  have Rt2_5 := Lib.hid (Rt2_4.out.below hb)
  have IS := Lib.hid his
  clear his
  obtain ⟨hl, hf, Lw0, ho, hh⟩ := h0
  obtain ⟨N0, hN⟩ : ∃ N, N = r1_0.length := ⟨_, rfl⟩
  rw [← hN] at hl ho
  have HN0 : Hid (r1_0.length = N0) := hN.symm
  have hl0 := hl
  have Ftr1_0 := Lib.hid hf
  clear hN hl hf
  obtain ⟨Aw0, cw0, rfl⟩ := ho.slice
  have Uw0 := Lib.hid ho.lt
  have Rw0_5 := Lib.hid ho.holds
  have HHw0 := Lib.hid hh
  obtain ⟨mw0, hmw0⟩ : ∃ m, m = mtot Lw0 := ⟨_, rfl⟩
  have Mw0 : Hid (mw0 = N0 + tot r1_0) := Lib.hid (by have := mtot_has hh; have := HN0.out; omega)
  have Qw0 : Hid (mtot Lw0 = mw0) := hmw0.symm
  clear hmw0
  clear ho hh
  clear hb
  clear Rt1_5 Ut1
  clear Rt2_5 Ut2
  go_wp2_with fail
  refine (toRatS_any a0 len0 cap0 z0 _ (Hz0.out.below BW5.out) (by omega)).mono ?_
  rintro e w4 ⟨V, Lx0, rfl, ho, hh, hb⟩
  have BW6 := Lib.hid (BW5.out.trans (hb.mono BW5.out.size))
  have sz6 : Hid (w3.heap.size ≤ w4.heap.size) := hb.size
  have Rw0_6 := Lib.hid (Rw0_5.out.below hb)
  obtain ⟨Ax0, cx0, rfl⟩ := ho.slice
  have Ux0 := Lib.hid ho.lt
  have Rx0_6 := Lib.hid ho.holds
  have HHx0 := Lib.hid hh
  obtain ⟨mx0, hmx0⟩ : ∃ m, m = mtot Lx0 := ⟨_, rfl⟩
  have Mx0 : Hid (mx0 = len0 + tot z0) := Lib.hid (by have := mtot_has hh; have := Hz0.out.1; omega)
  have Qx0 : Hid (mtot Lx0 = mx0) := hmx0.symm
  clear hmx0
  clear ho hh hb
  go_wp2_with fail
  refine (toRatS_any a1 len1 cap1 z1 _ (Hz1.out.below BW6.out) (by omega)).mono ?_
  rintro e w5 ⟨V, Lx1, rfl, ho, hh, hb⟩
  have BW7 := Lib.hid (BW6.out.trans (hb.mono BW6.out.size))
  have sz7 : Hid (w4.heap.size ≤ w5.heap.size) := hb.size
  have Rw0_7 := Lib.hid (Rw0_6.out.below hb)
  have Rx0_7 := Lib.hid (Rx0_6.out.below hb)
  obtain ⟨Ax1, cx1, rfl⟩ := ho.slice
  have Ux1 := Lib.hid ho.lt
  have Rx1_7 := Lib.hid ho.holds
  have HHx1 := Lib.hid hh
  obtain ⟨mx1, hmx1⟩ : ∃ m, m = mtot Lx1 := ⟨_, rfl⟩
  have Mx1 : Hid (mx1 = len1 + tot z1) := Lib.hid (by have := mtot_has hh; have := Hz1.out.1; omega)
  have Qx1 : Hid (mtot Lx1 = mx1) := hmx1.symm
  clear hmx1
  clear ho hh hb
  go_wp2_with fail
  refine (impl_addVectors Ax0 len0 cx0 z0 Ax1 len1 cx1 z1 _ (vin Rx0_7 HHx0 (by omega) Ftz0) (vin Rx1_7 HHx1 (by omega) Ftz1)).mono ?_
  rintro e w6 ⟨r2_0, v0, r2_1, rfl, his, h0, hb⟩
  have BW8 := Lib.hid (BW7.out.trans (hb.mono BW7.out.size))
  have sz8 : Hid (w5.heap.size ≤ w6.heap.size) := hb.size
  have Rw0_8 := Lib.hid (Rw0_7.out.below hb)
  have Rx0_8 := Lib.hid (Rx0_7.out.below hb)
  have Rx1_8 := Lib.hid (Rx1_7.out.below hb)
  obtain ⟨rfl, rfl⟩ := addVectors_unique IS.out his
  clear his
  obtain ⟨_, _, Lg0, ho, hh⟩ := h0
  rw [HN0.out] at ho
  obtain ⟨Ag0, cg0, rfl⟩ := ho.slice
  have Ug0 := Lib.hid ho.lt
  have Rg0_8 := Lib.hid ho.holds
  have HHg0 := Lib.hid hh
  obtain ⟨mg0, hmg0⟩ : ∃ m, m = mtot Lg0 := ⟨_, rfl⟩
  have Mg0 : Hid (mg0 = N0 + tot r1_0) := Lib.hid (by have := mtot_has hh; have := HN0.out; omega)
  have Qg0 : Hid (mtot Lg0 = mg0) := hmg0.symm
  clear hmg0
  clear ho hh
  clear hb
  go_wp2_with fail
  refine (eqRatS_same Ag0 Aw0 N0 cg0 cw0 r1_0 _ (vin Rg0_8 HHg0 (by omega) Ftr1_0) (vin Rw0_8 HHw0 (by omega) Ftr1_0)).mono ?_
  rintro e w7 ⟨rfl, hb⟩
  have BW9 := Lib.hid (BW8.out.trans (hb.mono BW8.out.size))
  have sz9 : Hid (w6.heap.size ≤ w7.heap.size) := hb.size
  have Rw0_9 := Lib.hid (Rw0_8.out.below hb)
  have Rx0_9 := Lib.hid (Rx0_8.out.below hb)
  have Rx1_9 := Lib.hid (Rx1_8.out.below hb)
  have Rg0_9 := Lib.hid (Rg0_8.out.below hb)
  clear hb
  go_wp2_with fail
  refine (toRatS_any a0 len0 cap0 z0 _ (Hz0.out.below BW9.out) (by omega)).mono ?_
  rintro e w8 ⟨V, Lt3, rfl, ho, hh, hb⟩
  have BW10 := Lib.hid (BW9.out.trans (hb.mono BW9.out.size))
  have sz10 : Hid (w7.heap.size ≤ w8.heap.size) := hb.size
  have Rw0_10 := Lib.hid (Rw0_9.out.below hb)
  have Rx0_10 := Lib.hid (Rx0_9.out.below hb)
  have Rx1_10 := Lib.hid (Rx1_9.out.below hb)
  have Rg0_10 := Lib.hid (Rg0_9.out.below hb)
  obtain ⟨At3, ct3, rfl⟩ := ho.slice
  have Ut3 := Lib.hid ho.lt
  have Rt3_10 := Lib.hid ho.holds
  have HHt3 := Lib.hid hh
  obtain ⟨mt3, hmt3⟩ : ∃ m, m = mtot Lt3 := ⟨_, rfl⟩
  have Mt3 : Hid (mt3 = len0 + tot z0) := Lib.hid (by have := mtot_has hh; have := Hz0.out.1; omega)
  have Qt3 : Hid (mtot Lt3 = mt3) := hmt3.symm
  clear hmt3
  clear ho hh hb
  go_wp2_with fail
  refine (eqRatS_same Ax0 At3 len0 cx0 ct3 z0 _ (vin Rx0_10 HHx0 (by omega) Ftz0) (vin Rt3_10 HHt3 (by omega) Ftz0)).mono ?_
  rintro e w9 ⟨rfl, hb⟩
  have BW11 := Lib.hid (BW10.out.trans (hb.mono BW10.out.size))
  have sz11 : Hid (w8.heap.size ≤ w9.heap.size) := hb.size
  have Rw0_11 := Lib.hid (Rw0_10.out.below hb)
  have Rx0_11 := Lib.hid (Rx0_10.out.below hb)
  have Rx1_11 := Lib.hid (Rx1_10.out.below hb)
  have Rg0_11 := Lib.hid (Rg0_10.out.below hb)
  have Rt3_11 := Lib.hid (Rt3_10.out.below hb)
  clear hb
  clear Rt3_11 Ut3
  go_wp2_with fail
  refine (toRatS_any a1 len1 cap1 z1 _ (Hz1.out.below BW11.out) (by omega)).mono ?_
  rintro e w10 ⟨V, Lt4, rfl, ho, hh, hb⟩
  have BW12 := Lib.hid (BW11.out.trans (hb.mono BW11.out.size))
  have sz12 : Hid (w9.heap.size ≤ w10.heap.size) := hb.size
  have Rw0_12 := Lib.hid (Rw0_11.out.below hb)
  have Rx0_12 := Lib.hid (Rx0_11.out.below hb)
  have Rx1_12 := Lib.hid (Rx1_11.out.below hb)
  have Rg0_12 := Lib.hid (Rg0_11.out.below hb)
  obtain ⟨At4, ct4, rfl⟩ := ho.slice
  have Ut4 := Lib.hid ho.lt
  have Rt4_12 := Lib.hid ho.holds
  have HHt4 := Lib.hid hh
  obtain ⟨mt4, hmt4⟩ : ∃ m, m = mtot Lt4 := ⟨_, rfl⟩
  have Mt4 : Hid (mt4 = len1 + tot z1) := Lib.hid (by have := mtot_has hh; have := Hz1.out.1; omega)
  have Qt4 : Hid (mtot Lt4 = mt4) := hmt4.symm
  clear hmt4
  clear ho hh hb
  go_wp2_with fail
  refine (eqRatS_same Ax1 At4 len1 cx1 ct4 z1 _ (vin Rx1_12 HHx1 (by omega) Ftz1) (vin Rt4_12 HHt4 (by omega) Ftz1)).mono ?_
  rintro e w11 ⟨rfl, hb⟩
  have BW13 := Lib.hid (BW12.out.trans (hb.mono BW12.out.size))
  have sz13 : Hid (w10.heap.size ≤ w11.heap.size) := hb.size
  have Rw0_13 := Lib.hid (Rw0_12.out.below hb)
  have Rx0_13 := Lib.hid (Rx0_12.out.below hb)
  have Rx1_13 := Lib.hid (Rx1_12.out.below hb)
  have Rg0_13 := Lib.hid (Rg0_12.out.below hb)
  have Rt4_13 := Lib.hid (Rt4_12.out.below hb)
  clear hb
  clear Rt4_13 Ut4
  go_wp2_with fail
  refine (markRatS_m _ Ax0 len0 cx0 (1) mx0 Lx0 z0 _ Qx0 (by have := Mx0.out; unfold maxLen; omega) (vnow Rx0_13) HHx0.out).mono ?_
  rintro e w12 ⟨rfl, ho, hW⟩
  have BW14 := Lib.hid (Wrote.below BW13.out hW (fun k hk => Nat.le_trans (Nat.le_trans sz1.out (Nat.le_trans sz2.out (Nat.le_trans sz3.out (Nat.le_trans sz4.out sz5.out)))) (Ux0.out k hk).1) (Nat.le_trans sz1.out (Nat.le_trans sz2.out (Nat.le_trans sz3.out (Nat.le_trans sz4.out (Nat.le_trans sz5.out (Nat.le_trans sz6.out (Nat.le_trans sz7.out (Nat.le_trans sz8.out (Nat.le_trans sz9.out (Nat.le_trans sz10.out (Nat.le_trans sz11.out (Nat.le_trans sz12.out sz13.out)))))))))))))
  have sz14 : Hid (w11.heap.size ≤ w12.heap.size) := hW.size
  have Rw0_14 := Lib.hid (Rw0_13.out.wrote hW (two_none Uw0 Ux0 (.inl (Nat.le_refl _))))
  have Rx1_14 := Lib.hid (Rx1_13.out.wrote hW (two_none Ux1 Ux0 (.inr (Nat.le_refl _))))
  have Rg0_14 := Lib.hid (Rg0_13.out.wrote hW (two_none Ug0 Ux0 (.inr sz7.out)))
  have Rx0_14 := Lib.hid ho.holds_marked
  clear ho hW
  clear Rx0_14 Ux0
  go_wp2_with fail
  refine (markRatS_m _ Ax1 len1 cx1 (1 + mx0) mx1 Lx1 z1 _ Qx1 (by have := Mx0.out; have := Mx1.out; unfold maxLen; omega) (vnow Rx1_14) HHx1.out).mono ?_
  rintro e w13 ⟨rfl, ho, hW⟩
  have BW15 := Lib.hid (Wrote.below BW14.out hW (fun k hk => Nat.le_trans (Nat.le_trans sz1.out (Nat.le_trans sz2.out (Nat.le_trans sz3.out (Nat.le_trans sz4.out (Nat.le_trans sz5.out sz6.out))))) (Ux1.out k hk).1) (Nat.le_trans sz1.out (Nat.le_trans sz2.out (Nat.le_trans sz3.out (Nat.le_trans sz4.out (Nat.le_trans sz5.out (Nat.le_trans sz6.out (Nat.le_trans sz7.out (Nat.le_trans sz8.out (Nat.le_trans sz9.out (Nat.le_trans sz10.out (Nat.le_trans sz11.out (Nat.le_trans sz12.out (Nat.le_trans sz13.out sz14.out))))))))))))))
  have sz15 : Hid (w12.heap.size ≤ w13.heap.size) := hW.size
  have Rw0_15 := Lib.hid (Rw0_14.out.wrote hW (two_none Uw0 Ux1 (.inl sz6.out)))
  have Rg0_15 := Lib.hid (Rg0_14.out.wrote hW (two_none Ug0 Ux1 (.inr (Nat.le_refl _))))
  have Rx1_15 := Lib.hid ho.holds_marked
  clear ho hW
  clear Rx1_15 Ux1
  go_wp2_with fail
  refine (eqRatS_same Ag0 Aw0 N0 cg0 cw0 r1_0 _ (vin Rg0_15 HHg0 (by omega) Ftr1_0) (vin Rw0_15 HHw0 (by omega) Ftr1_0)).mono ?_
  rintro e w14 ⟨rfl, hb⟩
  have BW16 := Lib.hid (BW15.out.trans (hb.mono BW15.out.size))
  have sz16 : Hid (w13.heap.size ≤ w14.heap.size) := hb.size
  have Rw0_16 := Lib.hid (Rw0_15.out.below hb)
  have Rg0_16 := Lib.hid (Rg0_15.out.below hb)
  clear hb
  go_wp2_with fail
  refine (markRatS_m _ Ag0 N0 cg0 (1) mg0 Lg0 r1_0 _ Qg0 (by have := Mg0.out; unfold maxLen; omega) (vnow Rg0_16) HHg0.out).mono ?_
  rintro e w15 ⟨rfl, ho, hW⟩
  have BW17 := Lib.hid (Wrote.below BW16.out hW (fun k hk => Nat.le_trans (Nat.le_trans sz1.out (Nat.le_trans sz2.out (Nat.le_trans sz3.out (Nat.le_trans sz4.out (Nat.le_trans sz5.out (Nat.le_trans sz6.out sz7.out)))))) (Ug0.out k hk).1) (Nat.le_trans sz1.out (Nat.le_trans sz2.out (Nat.le_trans sz3.out (Nat.le_trans sz4.out (Nat.le_trans sz5.out (Nat.le_trans sz6.out (Nat.le_trans sz7.out (Nat.le_trans sz8.out (Nat.le_trans sz9.out (Nat.le_trans sz10.out (Nat.le_trans sz11.out (Nat.le_trans sz12.out (Nat.le_trans sz13.out (Nat.le_trans sz14.out (Nat.le_trans sz15.out sz16.out))))))))))))))))
  have sz17 : Hid (w14.heap.size ≤ w15.heap.size) := hW.size
  have Rw0_17 := Lib.hid (Rw0_16.out.wrote hW (two_none Uw0 Ug0 (.inl (Nat.le_trans sz6.out sz7.out))))
  have Rg0_17 := Lib.hid ho.holds_marked
  clear ho hW
  go_wp2_with fail
  refine (heldRatS_m _ Ag0 N0 cg0 (1) mg0 Lg0 _ Qg0 (by have := Mg0.out; unfold maxLen; omega) (vnow Rg0_17)).mono ?_
  rintro e w16 ⟨rfl, hb⟩
  have BW18 := Lib.hid (BW17.out.trans (hb.mono BW17.out.size))
  have sz18 : Hid (w15.heap.size ≤ w16.heap.size) := hb.size
  have Rw0_18 := Lib.hid (Rw0_17.out.below hb)
  have Rg0_18 := Lib.hid (Rg0_17.out.below hb)
  clear hb
  go_wp2_with fail
  refine (toRatS_any a0 len0 cap0 z0 _ (Hz0.out.below BW18.out) (by omega)).mono ?_
  rintro e w17 ⟨V, Lt5, rfl, ho, hh, hb⟩
  have BW19 := Lib.hid (BW18.out.trans (hb.mono BW18.out.size))
  have sz19 : Hid (w16.heap.size ≤ w17.heap.size) := hb.size
  have Rw0_19 := Lib.hid (Rw0_18.out.below hb)
  have Rg0_19 := Lib.hid (Rg0_18.out.below hb)
  obtain ⟨At5, ct5, rfl⟩ := ho.slice
  have Ut5 := Lib.hid ho.lt
  have Rt5_19 := Lib.hid ho.holds
  have HHt5 := Lib.hid hh
  obtain ⟨mt5, hmt5⟩ : ∃ m, m = mtot Lt5 := ⟨_, rfl⟩
  have Mt5 : Hid (mt5 = len0 + tot z0) := Lib.hid (by have := mtot_has hh; have := Hz0.out.1; omega)
  have Qt5 : Hid (mtot Lt5 = mt5) := hmt5.symm
  clear hmt5
  clear ho hh hb
  go_wp2_with fail
  refine (toRatS_any a1 len1 cap1 z1 _ (Hz1.out.below BW19.out) (by omega)).mono ?_
  rintro e w18 ⟨V, Lt6, rfl, ho, hh, hb⟩
  have BW20 := Lib.hid (BW19.out.trans (hb.mono BW19.out.size))
  have sz20 : Hid (w17.heap.size ≤ w18.heap.size) := hb.size
  have Rw0_20 := Lib.hid (Rw0_19.out.below hb)
  have Rg0_20 := Lib.hid (Rg0_19.out.below hb)
  have Rt5_20 := Lib.hid (Rt5_19.out.below hb)
  obtain ⟨At6, ct6, rfl⟩ := ho.slice
  have Ut6 := Lib.hid ho.lt
  have Rt6_20 := Lib.hid ho.holds
  have HHt6 := Lib.hid hh
  obtain ⟨mt6, hmt6⟩ : ∃ m, m = mtot Lt6 := ⟨_, rfl⟩
  have Mt6 : Hid (mt6 = len1 + tot z1) := Lib.hid (by have := mtot_has hh; have := Hz1.out.1; omega)
  have Qt6 : Hid (mtot Lt6 = mt6) := hmt6.symm
  clear hmt6
  clear ho hh hb
  go_wp2_with fail
  refine (impl_addVectors At5 len0 ct5 z0 At6 len1 ct6 z1 _ (vin Rt5_20 HHt5 (by omega) Ftz0) (vin Rt6_20 HHt6 (by omega) Ftz1)).mono ?_
  rintro e w19 ⟨r3_0, v0, r3_1, rfl, his, h0, hb⟩
  have BW21 := Lib.hid (BW20.out.trans (hb.mono BW20.out.size))
  have sz21 : Hid (w18.heap.size ≤ w19.heap.size) := hb.size
  have Rw0_21 := Lib.hid (Rw0_20.out.below hb)
  have Rg0_21 := Lib.hid (Rg0_20.out.below hb)
  have Rt5_21 := Lib.hid (Rt5_20.out.below hb)
  have Rt6_21 := Lib.hid (Rt6_20.out.below hb)
  obtain ⟨rfl, rfl⟩ := addVectors_unique IS.out his
  clear his
  obtain ⟨_, _, Lh0, ho, hh⟩ := h0
  rw [HN0.out] at ho
  obtain ⟨Ah0, ch0, rfl⟩ := ho.slice
  have Uh0 := Lib.hid ho.lt
  have Rh0_21 := Lib.hid ho.holds
  have HHh0 := Lib.hid hh
  obtain ⟨mh0, hmh0⟩ : ∃ m, m = mtot Lh0 := ⟨_, rfl⟩
  have Mh0 : Hid (mh0 = N0 + tot r1_0) := Lib.hid (by have := mtot_has hh; have := HN0.out; omega)
  have Qh0 : Hid (mtot Lh0 = mh0) := hmh0.symm
  clear hmh0
  clear ho hh
  clear hb
  clear Rt5_21 Ut5
  clear Rt6_21 Ut6
  go_wp2_with fail
  refine (eqRatS_same Ah0 Aw0 N0 ch0 cw0 r1_0 _ (vin Rh0_21 HHh0 (by omega) Ftr1_0) (vin Rw0_21 HHw0 (by omega) Ftr1_0)).mono ?_
  rintro e w20 ⟨rfl, hb⟩
  have BW22 := Lib.hid (BW21.out.trans (hb.mono BW21.out.size))
  have sz22 : Hid (w19.heap.size ≤ w20.heap.size) := hb.size
  have Rw0_22 := Lib.hid (Rw0_21.out.below hb)
  have Rg0_22 := Lib.hid (Rg0_21.out.below hb)
  have Rh0_22 := Lib.hid (Rh0_21.out.below hb)
  clear hb
  clear Rw0_22 Uw0
  clear Rh0_22 Uh0
  go_wp2_with fail
  refine (heldRatS_m _ Ag0 N0 cg0 (1) mg0 Lg0 _ Qg0 (by have := Mg0.out; unfold maxLen; omega) (vnow Rg0_22)).mono ?_
  rintro e w21 ⟨rfl, hb⟩
  have BW23 := Lib.hid (BW22.out.trans (hb.mono BW22.out.size))
  have sz23 : Hid (w20.heap.size ≤ w21.heap.size) := hb.size
  have Rg0_23 := Lib.hid (Rg0_22.out.below hb)
  clear hb
  clear Rg0_23 Ug0
  go_wp2_with fail
  go_ret
  exact ⟨rfl, BW23.out⟩
end Go.Proofs.Ytjggdbakbhacjaa.fnExactAddVectors
