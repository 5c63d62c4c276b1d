/- For every joint the law FnExactJointOk returns true: the program's JointOk answers as the model's; no condition on the joint. -/
import Derived.Test.YtcmbfgaojlnjcaaStK2
import Derived.ProofKit
import Derived.OpenShut
import Derived.ShutString
namespace Go.Proofs.Ytcmbfgaojlnjcaa.fnExactJointOk
set_option maxRecDepth 100000
open Go.ChangeShapes Go.WideShapes Go.ChangeAt Go.RowKit Go.Joins Go.Deep
open Go.ChangeMaps (open_string shut_string)

set_option maxHeartbeats 1600000 in
theorem walk {w : World} (s : ByteArray) (x y : Int) (f : Bool) (hs : s.size ≤ maxLen) (_hb : (-9223372036854775808 ≤ x ∧ x ≤ 9223372036854775807) ∧ -9223372036854775808 ≤ y ∧ y ≤ 9223372036854775807) :
    Calls Try.prog 5 #[.agg #[.string s, .int .i64 x, .int .i64 y, .bool f]] w fun e w' => e = .returned (.bool true) ∧ Below w.heap.size w w' := by
  obtain ⟨W, hW⟩ : ∃ W, W = w.alloc (.cells #[.string s, .int .i64 x, .int .i64 y, .bool f] 33) := ⟨_, rfl⟩
  have X0 : Hid (Box W w.heap.size 33 #[.string s, .int .i64 x, .int .i64 y, .bool f]) := by rw [hW]; exact Box.new _ _ _
  have B0 : Hid (Below w.heap.size w W) := by rw [hW]; exact (Below.refl _ _).alloc (Nat.le_refl _) _
  go_enter Try.func5, Try.ntmps5
  go_wp2_with fail
  rw [← hW]
  clear hW
  refine (szJoint_any s x y f 1048576 _ hs (by omega) (by omega)).mono ?_
  rintro e w1 ⟨r, rfl, hr, hb⟩
  have X1 := Lib.hid (X0.out.below hb X0.out.lt)
  have B1 := Lib.hid (B0.out.trans (hb.mono B0.out.size))
  clear hb
  rcases hr with rfl | ⟨hr0, _⟩
  · go_wp2_with fail
    go_ret
    exact ⟨rfl, B1.out⟩
  have q0 := X1.out.cell 0
  have q1 := X1.out.cell 1
  have q2 := X1.out.cell 2
  have q3 := X1.out.cell 3
  simp at q0 q1 q2 q3
  go_wp2_with fail
  clear q0 q1 q2 q3
  refine (toJoint_any s x y f _).mono ?_
  rintro e w2 ⟨rfl, hb⟩
  have X2 := Lib.hid (X1.out.below hb X1.out.lt)
  have B2 := Lib.hid (B1.out.trans (hb.mono B1.out.size))
  clear hb
  go_wp2_with fail
  refine (spec_jointOk s x y f _ hs).mono ?_
  rintro e w3 ⟨b, rfl, hq, hb⟩
  have X3 := Lib.hid (X2.out.below hb X2.out.lt)
  have B3 := Lib.hid (B2.out.trans (hb.mono B2.out.size))
  have HQ := Lib.hid hq
  clear hb hq
  have q0 := X3.out.cell 0
  have q1 := X3.out.cell 1
  have q2 := X3.out.cell 2
  have q3 := X3.out.cell 3
  simp at q0 q1 q2 q3
  go_wp2_with fail
  clear q0 q1 q2 q3
  refine (toJoint_any s x y f _).mono ?_
  rintro e w4 ⟨rfl, hb⟩
  have B4 := Lib.hid (B3.out.trans (hb.mono B3.out.size))
  clear hb
  go_wp2_with fail
  refine (impl_jointOk s x y f _ hs).mono ?_
  rintro e w5 ⟨c, rfl, hq, hb⟩
  have B5 := Lib.hid (B4.out.trans (hb.mono B4.out.size))
  obtain rfl : c = b := Bool.eq_iff_iff.2 (hq.trans HQ.out.symm)
  clear hb hq HQ
  go_wp2_with fail
  go_ret
  exact ⟨rfl, B5.out⟩
-- THE FRAME, by wip/tools/frame.py
theorem own : ownKnob Try.prog.godebug = none := by kernel_rfl
theorem laidOut : laidOutB Try.prog = true := by kernel_rfl

set_option maxRecDepth 100000 in
theorem lifted (os : Os) (started : os.Started) (H : Type) (enc : TypeId × Value → H) :
    ReturnsInHanded {} Try.checked os 5 .any (Rows.fnExactJointOkSpec.pre6 enc Try.prog Try.f5 Rows.fnExactJointOkRow.domain false) (Rows.fnExactJointOkSpec.post enc Try.prog Try.f5 false true false false) := by
  refine returnsInHanded_of_change (C := Try.checked) own started (by kernel_rfl) Try.func5
    (ChangeSpec.witness6 (enc := enc) (C := Try.checked) false ⟨#[], #[.agg #[.string ByteArray.empty, .int .i64 0, .int .i64 0, .bool false]], []⟩ 8 (by kernel_rfl) (by kernel_rfl) (by kernel_rfl) (by kernel_rfl)) ?_
  intro W base args ds gs before hval0 hW _ _
  have hval : ∀ (j : Nat) t v, Try.f5.params[j]? = some t → args[j]? = some v → Value.okWide Try.prog W .any base t v := hval0
  have hW' := hW
  obtain ⟨p, q, hA0, hV, rfl, _, _⟩ := hW
  have hA : DataW.TrodAll enc Try.prog W 0 (fun _ => true) true Try.f5.params.toList args.toList ds p := hA0
  rw [Try.params5] at hA hval
  obtain ⟨v0, vs0, d0, ds0, p0, q0, hargs, rfl, rfl, h0, r0⟩ := trodAll_cons hA
  obtain ⟨rfl, rfl, rfl⟩ := trodAll_nil r0
  obtain rfl : args = #[v0] := by cases args; simp_all
  obtain ⟨rfl, rfl⟩ := trodVars_none hV
  have k0 := h0
  have lt0 : ∀ x ∈ p0, x.block < W.heap.size := by obtain ⟨m, hm⟩ := k0; exact DataW.trod_lt m _ _ _ hm
  obtain ⟨a0, x0, y0, f0, rfl, w0, u0⟩ := open_joint Try.underlying33 (by kernel_rfl) (by kernel_rfl) Try.underlying9 Try.underlying3 Try.underlying3 Try.underlying4 (hval 0 33 v0 rfl rfl) h0
  clear hA0 hval0
  refine (walk (w := W) a0 x0 y0 f0 w0 u0).mono fun e W' ⟨he, bel⟩ => ?_
  subst he
  exact ⟨_, rfl, _, _, _, [], _, [], hW', trodAll_mk1 (shut_bool Try.underlying4 _), (trodAll_cons_mk (Below.trod laidOut (by kernel_rfl) (of_decide_eq_true (by kernel_rfl)) k0 bel lt0) trodAll_mk0), rfl, bel.frame _, fun h => by cases h⟩

theorem over : Rows.fnExactJointOkRow.holds Try.pinned (OpenSpec.ofChange Rows.fnExactJointOkSpec) :=
  OpenClaim.holds_of_wide 5 Try.f5 rfl rfl rfl rfl rfl rfl rfl ⟨rfl, rfl, rfl, rfl, rfl⟩ rfl rfl rfl rfl rfl (by kernel_rfl) Try.func5 (by kernel_rfl)
    (of_decide_eq_true (by kernel_rfl)) (by unfold Func.isWrapper; rw [if_neg (of_decide_eq_false (by kernel_rfl))]; exact ⟨rfl, rfl⟩)
    (fun os started H enc _ => lifted os started H enc)

theorem proved : Rows.FnExactJointOkSaid := over
end Go.Proofs.Ytcmbfgaojlnjcaa.fnExactJointOk
