/- The walk of the law: for all arguments the law FnExactIsVector returns true: the program's IsVector answers as the model's; no condition on them. -/
import Derived.Test.YtjggdbakbhacjaaVecOpen
import Derived.Test.YtjggdbakbhacjaaVecS
import Derived.ProofKit
import Derived.OpenShut
import Derived.ShutString
import Derived.Lib.SmallJoins
namespace Go.Proofs.Ytjggdbakbhacjaa.fnExactIsVector
set_option maxRecDepth 100000
open Go.ChangeShapes Go.WideShapes Go.ChangeAt Go.RowKit Go.Joins Go.Deep
open Go.ChangeMaps (open_string shut_string)

set_option maxRecDepth 100000 in
set_option maxHeartbeats 16000000 in
theorem walk {w : World} (a0 : Option Addr) (len0 cap0 : Nat) (z0 : List RD) (hz0 : IsV w a0 len0 z0) :
    Calls Try.prog 4 #[.slice a0 len0 cap0] w fun e w' => e = .returned (.bool true) ∧ Below w.heap.size w w' := by
  have hmz0 : len0 ≤ maxLen := hz0.2.1
  have Hz0 := Lib.hid hz0
  clear hz0
  have BW0 : Hid (Below w.heap.size w w) := Below.refl _ _
  go_enter Try.func4, Try.ntmps4
  go_wp2_with fail
  refine (szRatS_any a0 len0 cap0 z0 (1048576 : Int) _ (Hz0.out.below BW0.out) (by omega) (by omega)).mono ?_
  rintro e ws0 ⟨lf0, rfl, hr, hb⟩
  have BW1 := Lib.hid (BW0.out.trans (hb.mono BW0.out.size))
  have sz1 : w.heap.size ≤ ws0.heap.size := hb.size
  clear hb
  rcases hr with rfl | ⟨h0, hr⟩
  · go_wp2_with fail
    go_ret
    exact ⟨rfl, BW1.out⟩
  have lb0 : 0 ≤ lf0 ∧ lf0 ≤ 1048576 := by omega
  have ls0 : lf0 + ((len0 : Int) + tot z0) = (1048576 : Int) := by omega
  have HLS0 := Lib.hid ls0
  have lt0 : len0 + tot z0 ≤ 1048576 := by omega
  clear ls0 hr
  have h00 := h0
  clear h0
  have Ftz0 := Lib.hid (Hz0.out.fits (by omega))
  go_wp2_with fail
  refine (toRatS_any a0 len0 cap0 z0 _ (Hz0.out.below BW1.out) (by omega)).mono ?_
  rintro e w1 ⟨V, Lt1, rfl, ho, hh, hb⟩
  have BW2 := Lib.hid (BW1.out.trans (hb.mono BW1.out.size))
  have sz2 : ws0.heap.size ≤ w1.heap.size := hb.size
  obtain ⟨At1, ct1, rfl⟩ := ho.slice
  have Ut1 := Lib.hid ho.lt
  have Rt1_2 := Lib.hid ho.holds
  have HHt1 := Lib.hid hh
  have Mt1 : mtot Lt1 = len0 + tot z0 := by have := mtot_has hh; have := Hz0.out.1; omega
  clear ho hh hb
  go_wp2_with fail
  refine (spec_isVector At1 len0 ct1 z0 _ (vin Rt1_2 HHt1 (by omega) Ftz0)).mono ?_
  rintro e w2 ⟨r1_0, rfl, his, hb⟩
  have BW3 := Lib.hid (BW2.out.trans (hb.mono BW2.out.size))
  have sz3 : w1.heap.size ≤ w2.heap.size := hb.size
  have Rt1_3 := Lib.hid (Rt1_2.out.below hb)
  have IS := Lib.hid his
  clear his
  clear hb
  clear Rt1_3 Ut1
  go_wp2_with fail
  refine (toRatS_any a0 len0 cap0 z0 _ (Hz0.out.below BW3.out) (by omega)).mono ?_
  rintro e w3 ⟨V, Lx0, rfl, ho, hh, hb⟩
  have BW4 := Lib.hid (BW3.out.trans (hb.mono BW3.out.size))
  have sz4 : w2.heap.size ≤ w3.heap.size := hb.size
  obtain ⟨Ax0, cx0, rfl⟩ := ho.slice
  have Ux0 := Lib.hid ho.lt
  have Rx0_4 := Lib.hid ho.holds
  have HHx0 := Lib.hid hh
  have Mx0 : mtot Lx0 = len0 + tot z0 := by have := mtot_has hh; have := Hz0.out.1; omega
  clear ho hh hb
  go_wp2_with fail
  refine (impl_isVector Ax0 len0 cx0 z0 _ (vin Rx0_4 HHx0 (by omega) Ftz0)).mono ?_
  rintro e w4 ⟨r2_0, rfl, his, hb⟩
  have BW5 := Lib.hid (BW4.out.trans (hb.mono BW4.out.size))
  have sz5 : w3.heap.size ≤ w4.heap.size := hb.size
  have Rx0_5 := Lib.hid (Rx0_4.out.below hb)
  obtain rfl := isVector_unique IS.out his
  clear his
  clear hb
  go_wp2_with fail
  refine (toRatS_any a0 len0 cap0 z0 _ (Hz0.out.below BW5.out) (by omega)).mono ?_
  rintro e w5 ⟨V, Lt2, rfl, ho, hh, hb⟩
  have BW6 := Lib.hid (BW5.out.trans (hb.mono BW5.out.size))
  have sz6 : w4.heap.size ≤ w5.heap.size := hb.size
  have Rx0_6 := Lib.hid (Rx0_5.out.below hb)
  obtain ⟨At2, ct2, rfl⟩ := ho.slice
  have Ut2 := Lib.hid ho.lt
  have Rt2_6 := Lib.hid ho.holds
  have HHt2 := Lib.hid hh
  have Mt2 : mtot Lt2 = len0 + tot z0 := by have := mtot_has hh; have := Hz0.out.1; omega
  clear ho hh hb
  go_wp2_with fail
  refine (eqRatS_same Ax0 At2 len0 cx0 ct2 z0 _ (vin Rx0_6 HHx0 (by omega) Ftz0) (vin Rt2_6 HHt2 (by omega) Ftz0)).mono ?_
  rintro e w6 ⟨rfl, hb⟩
  have BW7 := Lib.hid (BW6.out.trans (hb.mono BW6.out.size))
  have sz7 : w5.heap.size ≤ w6.heap.size := hb.size
  have Rx0_7 := Lib.hid (Rx0_6.out.below hb)
  have Rt2_7 := Lib.hid (Rt2_6.out.below hb)
  clear hb
  clear Rx0_7 Ux0
  clear Rt2_7 Ut2
  go_wp2_with fail
  go_ret
  exact ⟨rfl, BW7.out⟩
end Go.Proofs.Ytjggdbakbhacjaa.fnExactIsVector
