/- The walk of the law: for all arguments the law FnExactFormatVector returns true: the program's FormatVector answers as the model's, where the library's table of powers of ten is as the program's text lays it; no other condition. -/
import Derived.Test.YtjggdbakbhacjaaDoorGV
import Derived.Test.YtjggdbakbhacjaaDoorVecF2
import Derived.ProofKit
import Derived.OpenShut
import Derived.ShutString
import Derived.Lib.SmallJoins
import Derived.LaidMore
import Derived.Stop.Joined
import Derived.Test.YtjggdbakbhacjaaDoorCards
import Derived.Test.YtjggdbakbhacjaaDoorTie
namespace Go.Proofs.YtjggdbakbhacjaaDoor.fnExactFormatVector
set_option maxRecDepth 100000
open Go.ChangeShapes Go.WideShapes Go.ChangeAt Go.RowKit Go.Joins Go.Deep
open Go.ChangeMaps (open_string shut_string)

set_option maxRecDepth 100000 in
set_option maxHeartbeats 16000000 in
theorem walk {w : World} (a0 : Option Addr) (len0 cap0 : Nat) (z0 : List RD) (hz0 : IsV w a0 len0 z0) (ht : Tab w) :
    Calls Tryd.prog 3 #[.slice a0 len0 cap0] w fun e w' => e = .returned (.bool true) ∧ Below w.heap.size w w' := by
  have Ht := Lib.hid ht
  clear ht
  have hmz0 : len0 ≤ maxLen := hz0.2.1
  have Hz0 := Lib.hid hz0
  clear hz0
  have BW0 : Hid (Below w.heap.size w w) := Below.refl _ _
  go_enter Tryd.func3, Tryd.ntmps3
  go_wp2_with fail
  refine (szRatS_any a0 len0 cap0 z0 (1048576 : Int) _ (Hz0.out.below BW0.out) (by omega) (by omega)).mono ?_
  rintro e ws0 ⟨lf0, rfl, hr, hb⟩
  have BW1 := Lib.hid (BW0.out.trans (hb.mono BW0.out.size))
  have sz1 : Hid (w.heap.size ≤ ws0.heap.size) := hb.size
  clear hb
  rcases hr with rfl | ⟨h0, hr⟩
  · go_wp2_with fail
    go_ret
    exact ⟨rfl, BW1.out⟩
  have lb0 : 0 ≤ lf0 ∧ lf0 ≤ 1048576 := by omega
  have ls0 : lf0 + ((len0 : Int) + tot z0) = (1048576 : Int) := by omega
  have HLS0 := Lib.hid ls0
  have lt0 : len0 + tot z0 ≤ 1048576 := by omega
  clear ls0 hr
  have h00 := h0
  clear h0
  have Ftz0 := Lib.hid (Hz0.out.fits (by omega))
  go_wp2_with fail
  refine (toRatS_any a0 len0 cap0 z0 _ (Hz0.out.below BW1.out) (by omega)).mono ?_
  rintro e w1 ⟨V, Lt1, rfl, ho, hh, hb⟩
  have BW2 := Lib.hid (BW1.out.trans (hb.mono BW1.out.size))
  have sz2 : Hid (ws0.heap.size ≤ w1.heap.size) := hb.size
  obtain ⟨At1, ct1, rfl⟩ := ho.slice
  have Ut1 := Lib.hid ho.lt
  have Rt1_2 := Lib.hid ho.holds
  have HHt1 := Lib.hid hh
  obtain ⟨mt1, hmt1⟩ : ∃ m, m = mtot Lt1 := ⟨_, rfl⟩
  have Mt1 : Hid (mt1 = len0 + tot z0) := Lib.hid (by have := mtot_has hh; have := Hz0.out.1; omega)
  have Qt1 : Hid (mtot Lt1 = mt1) := hmt1.symm
  clear hmt1
  clear ho hh hb
  go_wp2_with fail
  refine (spec_formatVector At1 len0 ct1 z0 _ (vin Rt1_2 HHt1 (by omega) Ftz0)).mono ?_
  rintro e w2 ⟨r1_0, rfl, his, hb⟩
  have BW3 := Lib.hid (BW2.out.trans (hb.mono BW2.out.size))
  have sz3 : Hid (w1.heap.size ≤ w2.heap.size) := hb.size
  have Rt1_3 := Lib.hid (Rt1_2.out.below hb)
  have IS := Lib.hid his
  clear his
  clear hb
  clear Rt1_3 Ut1
  go_wp2_with fail
  refine (toRatS_any a0 len0 cap0 z0 _ (Hz0.out.below BW3.out) (by omega)).mono ?_
  rintro e w3 ⟨V, Lx0, rfl, ho, hh, hb⟩
  have BW4 := Lib.hid (BW3.out.trans (hb.mono BW3.out.size))
  have sz4 : Hid (w2.heap.size ≤ w3.heap.size) := hb.size
  obtain ⟨Ax0, cx0, rfl⟩ := ho.slice
  have Ux0 := Lib.hid ho.lt
  have Rx0_4 := Lib.hid ho.holds
  have HHx0 := Lib.hid hh
  obtain ⟨mx0, hmx0⟩ : ∃ m, m = mtot Lx0 := ⟨_, rfl⟩
  have Mx0 : Hid (mx0 = len0 + tot z0) := Lib.hid (by have := mtot_has hh; have := Hz0.out.1; omega)
  have Qx0 : Hid (mtot Lx0 = mx0) := hmx0.symm
  clear hmx0
  clear ho hh hb
  go_wp2_with fail
  refine (impl_formatVector Ax0 len0 cx0 z0 _ (vin Rx0_4 HHx0 (by omega) Ftz0) (Ht.out.below BW4.out)).mono ?_
  rintro e w4 ⟨r2_0, rfl, his, hb⟩
  have BW5 := Lib.hid (BW4.out.trans (hb.mono BW4.out.size))
  have sz5 : Hid (w3.heap.size ≤ w4.heap.size) := hb.size
  have Rx0_5 := Lib.hid (Rx0_4.out.below hb)
  obtain rfl := formatVector_unique IS.out his
  clear his
  clear hb
  go_wp2_with fail
  refine (toRatS_any a0 len0 cap0 z0 _ (Hz0.out.below BW5.out) (by omega)).mono ?_
  rintro e w5 ⟨V, Lt2, rfl, ho, hh, hb⟩
  have BW6 := Lib.hid (BW5.out.trans (hb.mono BW5.out.size))
  have sz6 : Hid (w4.heap.size ≤ w5.heap.size) := hb.size
  have Rx0_6 := Lib.hid (Rx0_5.out.below hb)
  obtain ⟨At2, ct2, rfl⟩ := ho.slice
  have Ut2 := Lib.hid ho.lt
  have Rt2_6 := Lib.hid ho.holds
  have HHt2 := Lib.hid hh
  obtain ⟨mt2, hmt2⟩ : ∃ m, m = mtot Lt2 := ⟨_, rfl⟩
  have Mt2 : Hid (mt2 = len0 + tot z0) := Lib.hid (by have := mtot_has hh; have := Hz0.out.1; omega)
  have Qt2 : Hid (mtot Lt2 = mt2) := hmt2.symm
  clear hmt2
  clear ho hh hb
  go_wp2_with fail
  refine (eqRatS_same Ax0 At2 len0 cx0 ct2 z0 _ (vin Rx0_6 HHx0 (by omega) Ftz0) (vin Rt2_6 HHt2 (by omega) Ftz0)).mono ?_
  rintro e w6 ⟨rfl, hb⟩
  have BW7 := Lib.hid (BW6.out.trans (hb.mono BW6.out.size))
  have sz7 : Hid (w5.heap.size ≤ w6.heap.size) := hb.size
  have Rx0_7 := Lib.hid (Rx0_6.out.below hb)
  have Rt2_7 := Lib.hid (Rt2_6.out.below hb)
  clear hb
  clear Rx0_7 Ux0
  clear Rt2_7 Ut2
  go_wp2_with fail
  go_ret
  exact ⟨rfl, BW7.out⟩
theorem given {W : World} (h : laidMetH Tryd.prog Rows.fnExactFormatVectorRow.laid W) : Tab W := by
  rw [MakeChecks.laidMetH_plain _ _ _ (by kernel_rfl)] at h
  obtain ⟨ps, h, _⟩ := h
  obtain ⟨ps, h⟩ := laid_tail h
  obtain ⟨ps, h⟩ := laid_tail h
  exact Tab.of_vars h
end Go.Proofs.YtjggdbakbhacjaaDoor.fnExactFormatVector
