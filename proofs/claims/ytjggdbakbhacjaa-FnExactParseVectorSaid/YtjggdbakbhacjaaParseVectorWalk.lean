/- The walk of the law: for all arguments the law FnExactParseVector returns true: the program's ParseVector answers as the model's; no condition on them. -/
import Derived.Test.YtjggdbakbhacjaaGV
import Derived.Test.YtjggdbakbhacjaaVecP2
import Derived.ProofKit
import Derived.OpenShut
import Derived.ShutString
import Derived.Lib.SmallJoins
import Derived.HandedShaped
namespace Go.Proofs.Ytjggdbakbhacjaa.fnExactParseVector
set_option maxRecDepth 100000
open Go.ChangeShapes Go.WideShapes Go.ChangeAt Go.RowKit Go.Joins Go.Deep
open Go.ChangeMaps (open_string shut_string)

set_option maxRecDepth 100000 in
set_option maxHeartbeats 16000000 in
theorem walk {w : World} (a0 : ByteArray) (_ha0 : a0.size ≤ maxLen) (hmx : MaxAt w) :
    Calls Try.prog 12 #[.string a0] w fun e w' => e = .returned (.bool true) ∧ Below w.heap.size w w' := by
  have HMX := Lib.hid hmx
  clear hmx
  have BW0 : Hid (Below w.heap.size w w) := Below.refl _ _
  by_cases biga0 : 1048576 < (a0.size : Int)
  · go_enter Try.func12, Try.ntmps12
    go_wp2_with fail
    go_ret
    exact ⟨rfl, BW0.out⟩
  go_enter Try.func12, Try.ntmps12
  go_wp2_with fail
  refine (spec_parseVector a0 _ (by omega)).mono ?_
  rintro e w1 ⟨r1_0, v0, r1_1, rfl, his, h0, hb⟩
  have BW1 := Lib.hid (BW0.out.trans (hb.mono BW0.out.size))
  have sz1 : Hid (w.heap.size ≤ w1.heap.size) := hb.size
  have IS := Lib.hid his
  clear his
  obtain ⟨hl, hf, Lw0, ho, hh⟩ := h0
  obtain ⟨N0, hN⟩ : ∃ N, N = r1_0.length := ⟨_, rfl⟩
  rw [← hN] at hl ho
  have HN0 : Hid (r1_0.length = N0) := hN.symm
  have hl0 := hl
  have Ftr1_0 := Lib.hid hf
  clear hN hl hf
  obtain ⟨Aw0, cw0, rfl⟩ := ho.slice
  have Uw0 := Lib.hid ho.lt
  have Rw0_1 := Lib.hid ho.holds
  have HHw0 := Lib.hid hh
  obtain ⟨mw0, hmw0⟩ : ∃ m, m = mtot Lw0 := ⟨_, rfl⟩
  have Mw0 : Hid (mw0 = N0 + tot r1_0) := Lib.hid (by have := mtot_has hh; have := HN0.out; omega)
  have Qw0 : Hid (mtot Lw0 = mw0) := hmw0.symm
  clear hmw0
  clear ho hh
  clear hb
  go_wp2_with fail
  refine (impl_parseVector a0 _ (by omega) (HMX.out.below BW1.out HMX.out.pos)).mono ?_
  rintro e w2 ⟨r2_0, v0, r2_1, rfl, his, h0, hb⟩
  have BW2 := Lib.hid (BW1.out.trans (hb.mono BW1.out.size))
  have sz2 : Hid (w1.heap.size ≤ w2.heap.size) := hb.size
  have Rw0_2 := Lib.hid (Rw0_1.out.below hb)
  obtain ⟨rfl, rfl⟩ := parseVector_unique IS.out his
  clear his
  obtain ⟨_, _, Lg0, ho, hh⟩ := h0
  rw [HN0.out] at ho
  obtain ⟨Ag0, cg0, rfl⟩ := ho.slice
  have Ug0 := Lib.hid ho.lt
  have Rg0_2 := Lib.hid ho.holds
  have HHg0 := Lib.hid hh
  obtain ⟨mg0, hmg0⟩ : ∃ m, m = mtot Lg0 := ⟨_, rfl⟩
  have Mg0 : Hid (mg0 = N0 + tot r1_0) := Lib.hid (by have := mtot_has hh; have := HN0.out; omega)
  have Qg0 : Hid (mtot Lg0 = mg0) := hmg0.symm
  clear hmg0
  clear ho hh
  clear hb
  go_wp2_with fail
  refine (eqRatS_same Ag0 Aw0 N0 cg0 cw0 r1_0 _ (vin Rg0_2 HHg0 (by omega) Ftr1_0) (vin Rw0_2 HHw0 (by omega) Ftr1_0)).mono ?_
  rintro e w3 ⟨rfl, hb⟩
  have BW3 := Lib.hid (BW2.out.trans (hb.mono BW2.out.size))
  have sz3 : Hid (w2.heap.size ≤ w3.heap.size) := hb.size
  have Rw0_3 := Lib.hid (Rw0_2.out.below hb)
  have Rg0_3 := Lib.hid (Rg0_2.out.below hb)
  clear hb
  go_wp2_with fail
  refine (markRatS_m _ Ag0 N0 cg0 (1) mg0 Lg0 r1_0 _ Qg0 (by have := Mg0.out; unfold maxLen; omega) (vnow Rg0_3) HHg0.out).mono ?_
  rintro e w4 ⟨rfl, ho, hW⟩
  have BW4 := Lib.hid (Wrote.below BW3.out hW (fun k hk => Nat.le_trans sz1.out (Ug0.out k hk).1) (Nat.le_trans sz1.out (Nat.le_trans sz2.out sz3.out)))
  have sz4 : Hid (w3.heap.size ≤ w4.heap.size) := hW.size
  have Rw0_4 := Lib.hid (Rw0_3.out.wrote hW (two_none Uw0 Ug0 (.inl (Nat.le_refl _))))
  have Rg0_4 := Lib.hid ho.holds_marked
  clear ho hW
  go_wp2_with fail
  refine (heldRatS_m _ Ag0 N0 cg0 (1) mg0 Lg0 _ Qg0 (by have := Mg0.out; unfold maxLen; omega) (vnow Rg0_4)).mono ?_
  rintro e w5 ⟨rfl, hb⟩
  have BW5 := Lib.hid (BW4.out.trans (hb.mono BW4.out.size))
  have sz5 : Hid (w4.heap.size ≤ w5.heap.size) := hb.size
  have Rw0_5 := Lib.hid (Rw0_4.out.below hb)
  have Rg0_5 := Lib.hid (Rg0_4.out.below hb)
  clear hb
  go_wp2_with fail
  refine (impl_parseVector a0 _ (by omega) (HMX.out.below BW5.out HMX.out.pos)).mono ?_
  rintro e w6 ⟨r3_0, v0, r3_1, rfl, his, h0, hb⟩
  have BW6 := Lib.hid (BW5.out.trans (hb.mono BW5.out.size))
  have sz6 : Hid (w5.heap.size ≤ w6.heap.size) := hb.size
  have Rw0_6 := Lib.hid (Rw0_5.out.below hb)
  have Rg0_6 := Lib.hid (Rg0_5.out.below hb)
  obtain ⟨rfl, rfl⟩ := parseVector_unique IS.out his
  clear his
  obtain ⟨_, _, Lh0, ho, hh⟩ := h0
  rw [HN0.out] at ho
  obtain ⟨Ah0, ch0, rfl⟩ := ho.slice
  have Uh0 := Lib.hid ho.lt
  have Rh0_6 := Lib.hid ho.holds
  have HHh0 := Lib.hid hh
  obtain ⟨mh0, hmh0⟩ : ∃ m, m = mtot Lh0 := ⟨_, rfl⟩
  have Mh0 : Hid (mh0 = N0 + tot r1_0) := Lib.hid (by have := mtot_has hh; have := HN0.out; omega)
  have Qh0 : Hid (mtot Lh0 = mh0) := hmh0.symm
  clear hmh0
  clear ho hh
  clear hb
  go_wp2_with fail
  refine (eqRatS_same Ah0 Aw0 N0 ch0 cw0 r1_0 _ (vin Rh0_6 HHh0 (by omega) Ftr1_0) (vin Rw0_6 HHw0 (by omega) Ftr1_0)).mono ?_
  rintro e w7 ⟨rfl, hb⟩
  have BW7 := Lib.hid (BW6.out.trans (hb.mono BW6.out.size))
  have sz7 : Hid (w6.heap.size ≤ w7.heap.size) := hb.size
  have Rw0_7 := Lib.hid (Rw0_6.out.below hb)
  have Rg0_7 := Lib.hid (Rg0_6.out.below hb)
  have Rh0_7 := Lib.hid (Rh0_6.out.below hb)
  clear hb
  clear Rw0_7 Uw0
  clear Rh0_7 Uh0
  go_wp2_with fail
  refine (heldRatS_m _ Ag0 N0 cg0 (1) mg0 Lg0 _ Qg0 (by have := Mg0.out; unfold maxLen; omega) (vnow Rg0_7)).mono ?_
  rintro e w8 ⟨rfl, hb⟩
  have BW8 := Lib.hid (BW7.out.trans (hb.mono BW7.out.size))
  have sz8 : Hid (w7.heap.size ≤ w8.heap.size) := hb.size
  have Rg0_8 := Lib.hid (Rg0_7.out.below hb)
  clear hb
  clear Rg0_8 Ug0
  go_wp2_with fail
  go_ret
  exact ⟨rfl, BW8.out⟩
end Go.Proofs.Ytjggdbakbhacjaa.fnExactParseVector
