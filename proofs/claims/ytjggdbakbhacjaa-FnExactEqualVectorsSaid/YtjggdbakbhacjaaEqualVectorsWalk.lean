/- The walk of the law: for all arguments the law FnExactEqualVectors returns true: the program's EqualVectors answers as the model's; no condition on them. -/
import Derived.Test.YtjggdbakbhacjaaGV
import Derived.Test.YtjggdbakbhacjaaGW
import Derived.Test.YtjggdbakbhacjaaVecE2
import Derived.ProofKit
import Derived.OpenShut
import Derived.ShutString
import Derived.Lib.SmallJoins
namespace Go.Proofs.Ytjggdbakbhacjaa.fnExactEqualVectors
set_option maxRecDepth 100000
open Go.ChangeShapes Go.WideShapes Go.ChangeAt Go.RowKit Go.Joins Go.Deep
open Go.ChangeMaps (open_string shut_string)

set_option maxRecDepth 100000 in
set_option maxHeartbeats 16000000 in
theorem walk {w : World} (a0 : Option Addr) (len0 cap0 : Nat) (z0 : List RD) (hz0 : IsV w a0 len0 z0) (a1 : Option Addr) (len1 cap1 : Nat) (z1 : List RD) (hz1 : IsV w a1 len1 z1) :
    Calls Try.prog 11 #[.slice a0 len0 cap0, .slice a1 len1 cap1] w fun e w' => e = .returned (.bool true) ∧ Below w.heap.size w w' := by
  have hmz0 : len0 ≤ maxLen := hz0.2.1
  have Hz0 := Lib.hid hz0
  clear hz0
  have hmz1 : len1 ≤ maxLen := hz1.2.1
  have Hz1 := Lib.hid hz1
  clear hz1
  have BW0 : Hid (Below w.heap.size w w) := Below.refl _ _
  go_enter Try.func11, Try.ntmps11
  go_wp2_with fail
  refine (szRatS_any a0 len0 cap0 z0 (1048576 : Int) _ (Hz0.out.below BW0.out) (by omega) (by omega)).mono ?_
  rintro e ws0 ⟨lf0, rfl, hr, hb⟩
  have BW1 := Lib.hid (BW0.out.trans (hb.mono BW0.out.size))
  have sz1 : w.heap.size ≤ ws0.heap.size := hb.size
  clear hb
  rcases hr with rfl | ⟨h0, hr⟩
  · go_wp2_with fail
    go_ret
    exact ⟨rfl, BW1.out⟩
  have lb0 : 0 ≤ lf0 ∧ lf0 ≤ 1048576 := by omega
  have ls0 : lf0 + ((len0 : Int) + tot z0) = (1048576 : Int) := by omega
  have HLS0 := Lib.hid ls0
  have lt0 : len0 + tot z0 ≤ 1048576 := by omega
  clear ls0 hr
  have h00 := h0
  clear h0
  have Ftz0 := Lib.hid (Hz0.out.fits (by omega))
  go_wp2_with fail
  refine (szRatS_any a1 len1 cap1 z1 lf0 _ (Hz1.out.below BW1.out) (by omega) (by omega)).mono ?_
  rintro e ws1 ⟨lf1, rfl, hr, hb⟩
  have BW2 := Lib.hid (BW1.out.trans (hb.mono BW1.out.size))
  have sz2 : ws0.heap.size ≤ ws1.heap.size := hb.size
  clear hb
  rcases hr with rfl | ⟨h0, hr⟩
  · go_wp2_with fail
    go_ret
    exact ⟨rfl, BW2.out⟩
  have lb1 : 0 ≤ lf1 ∧ lf1 ≤ 1048576 := by omega
  have ls1 : lf1 + ((len1 : Int) + tot z1) = lf0 := by omega
  have HLS1 := Lib.hid ls1
  have lt1 : len1 + tot z1 ≤ 1048576 := by omega
  clear ls1 hr
  have h01 := h0
  clear h0
  have Ftz1 := Lib.hid (Hz1.out.fits (by omega))
  go_wp2_with fail
  refine (toRatS_any a0 len0 cap0 z0 _ (Hz0.out.below BW2.out) (by omega)).mono ?_
  rintro e w1 ⟨V, Lt1, rfl, ho, hh, hb⟩
  have BW3 := Lib.hid (BW2.out.trans (hb.mono BW2.out.size))
  have sz3 : ws1.heap.size ≤ w1.heap.size := hb.size
  obtain ⟨At1, ct1, rfl⟩ := ho.slice
  have Ut1 := Lib.hid ho.lt
  have Rt1_3 := Lib.hid ho.holds
  have HHt1 := Lib.hid hh
  have Mt1 : mtot Lt1 = len0 + tot z0 := by have := mtot_has hh; have := Hz0.out.1; omega
  clear ho hh hb
  go_wp2_with fail
  refine (toRatS_any a1 len1 cap1 z1 _ (Hz1.out.below BW3.out) (by omega)).mono ?_
  rintro e w2 ⟨V, Lt2, rfl, ho, hh, hb⟩
  have BW4 := Lib.hid (BW3.out.trans (hb.mono BW3.out.size))
  have sz4 : w1.heap.size ≤ w2.heap.size := hb.size
  have Rt1_4 := Lib.hid (Rt1_3.out.below hb)
  obtain ⟨At2, ct2, rfl⟩ := ho.slice
  have Ut2 := Lib.hid ho.lt
  have Rt2_4 := Lib.hid ho.holds
  have HHt2 := Lib.hid hh
  have Mt2 : mtot Lt2 = len1 + tot z1 := by have := mtot_has hh; have := Hz1.out.1; omega
  clear ho hh hb
  go_wp2_with fail
  refine (spec_equalVectors At1 len0 ct1 z0 At2 len1 ct2 z1 _ (vin Rt1_4 HHt1 (by omega) Ftz0) (vin Rt2_4 HHt2 (by omega) Ftz1)).mono ?_
  rintro e w3 ⟨r1_0, rfl, his, hb⟩
  have BW5 := Lib.hid (BW4.out.trans (hb.mono BW4.out.size))
  have sz5 : w2.heap.size ≤ w3.heap.size := hb.size
  have Rt1_5 := Lib.hid (Rt1_4.out.below hb)
  have Rt2_5 := Lib.hid (Rt2_4.out.below hb)
  have IS := Lib.hid his
  clear his
  clear hb
  clear Rt1_5 Ut1
  clear Rt2_5 Ut2
  go_wp2_with fail
  refine (toRatS_any a0 len0 cap0 z0 _ (Hz0.out.below BW5.out) (by omega)).mono ?_
  rintro e w4 ⟨V, Lx0, rfl, ho, hh, hb⟩
  have BW6 := Lib.hid (BW5.out.trans (hb.mono BW5.out.size))
  have sz6 : w3.heap.size ≤ w4.heap.size := hb.size
  obtain ⟨Ax0, cx0, rfl⟩ := ho.slice
  have Ux0 := Lib.hid ho.lt
  have Rx0_6 := Lib.hid ho.holds
  have HHx0 := Lib.hid hh
  have Mx0 : mtot Lx0 = len0 + tot z0 := by have := mtot_has hh; have := Hz0.out.1; omega
  clear ho hh hb
  go_wp2_with fail
  refine (toRatS_any a1 len1 cap1 z1 _ (Hz1.out.below BW6.out) (by omega)).mono ?_
  rintro e w5 ⟨V, Lx1, rfl, ho, hh, hb⟩
  have BW7 := Lib.hid (BW6.out.trans (hb.mono BW6.out.size))
  have sz7 : w4.heap.size ≤ w5.heap.size := hb.size
  have Rx0_7 := Lib.hid (Rx0_6.out.below hb)
  obtain ⟨Ax1, cx1, rfl⟩ := ho.slice
  have Ux1 := Lib.hid ho.lt
  have Rx1_7 := Lib.hid ho.holds
  have HHx1 := Lib.hid hh
  have Mx1 : mtot Lx1 = len1 + tot z1 := by have := mtot_has hh; have := Hz1.out.1; omega
  clear ho hh hb
  go_wp2_with fail
  refine (impl_equalVectors Ax0 len0 cx0 z0 Ax1 len1 cx1 z1 _ (vin Rx0_7 HHx0 (by omega) Ftz0) (vin Rx1_7 HHx1 (by omega) Ftz1)).mono ?_
  rintro e w6 ⟨r2_0, rfl, his, hb⟩
  have BW8 := Lib.hid (BW7.out.trans (hb.mono BW7.out.size))
  have sz8 : w5.heap.size ≤ w6.heap.size := hb.size
  have Rx0_8 := Lib.hid (Rx0_7.out.below hb)
  have Rx1_8 := Lib.hid (Rx1_7.out.below hb)
  obtain rfl := equalVectors_unique IS.out his
  clear his
  clear hb
  go_wp2_with fail
  refine (toRatS_any a0 len0 cap0 z0 _ (Hz0.out.below BW8.out) (by omega)).mono ?_
  rintro e w7 ⟨V, Lt3, rfl, ho, hh, hb⟩
  have BW9 := Lib.hid (BW8.out.trans (hb.mono BW8.out.size))
  have sz9 : w6.heap.size ≤ w7.heap.size := hb.size
  have Rx0_9 := Lib.hid (Rx0_8.out.below hb)
  have Rx1_9 := Lib.hid (Rx1_8.out.below hb)
  obtain ⟨At3, ct3, rfl⟩ := ho.slice
  have Ut3 := Lib.hid ho.lt
  have Rt3_9 := Lib.hid ho.holds
  have HHt3 := Lib.hid hh
  have Mt3 : mtot Lt3 = len0 + tot z0 := by have := mtot_has hh; have := Hz0.out.1; omega
  clear ho hh hb
  go_wp2_with fail
  refine (eqRatS_same Ax0 At3 len0 cx0 ct3 z0 _ (vin Rx0_9 HHx0 (by omega) Ftz0) (vin Rt3_9 HHt3 (by omega) Ftz0)).mono ?_
  rintro e w8 ⟨rfl, hb⟩
  have BW10 := Lib.hid (BW9.out.trans (hb.mono BW9.out.size))
  have sz10 : w7.heap.size ≤ w8.heap.size := hb.size
  have Rx0_10 := Lib.hid (Rx0_9.out.below hb)
  have Rx1_10 := Lib.hid (Rx1_9.out.below hb)
  have Rt3_10 := Lib.hid (Rt3_9.out.below hb)
  clear hb
  clear Rx0_10 Ux0
  clear Rt3_10 Ut3
  go_wp2_with fail
  refine (toRatS_any a1 len1 cap1 z1 _ (Hz1.out.below BW10.out) (by omega)).mono ?_
  rintro e w9 ⟨V, Lt4, rfl, ho, hh, hb⟩
  have BW11 := Lib.hid (BW10.out.trans (hb.mono BW10.out.size))
  have sz11 : w8.heap.size ≤ w9.heap.size := hb.size
  have Rx1_11 := Lib.hid (Rx1_10.out.below hb)
  obtain ⟨At4, ct4, rfl⟩ := ho.slice
  have Ut4 := Lib.hid ho.lt
  have Rt4_11 := Lib.hid ho.holds
  have HHt4 := Lib.hid hh
  have Mt4 : mtot Lt4 = len1 + tot z1 := by have := mtot_has hh; have := Hz1.out.1; omega
  clear ho hh hb
  go_wp2_with fail
  refine (eqRatS_same Ax1 At4 len1 cx1 ct4 z1 _ (vin Rx1_11 HHx1 (by omega) Ftz1) (vin Rt4_11 HHt4 (by omega) Ftz1)).mono ?_
  rintro e w10 ⟨rfl, hb⟩
  have BW12 := Lib.hid (BW11.out.trans (hb.mono BW11.out.size))
  have sz12 : w9.heap.size ≤ w10.heap.size := hb.size
  have Rx1_12 := Lib.hid (Rx1_11.out.below hb)
  have Rt4_12 := Lib.hid (Rt4_11.out.below hb)
  clear hb
  clear Rx1_12 Ux1
  clear Rt4_12 Ut4
  go_wp2_with fail
  go_ret
  exact ⟨rfl, BW12.out⟩
end Go.Proofs.Ytjggdbakbhacjaa.fnExactEqualVectors
