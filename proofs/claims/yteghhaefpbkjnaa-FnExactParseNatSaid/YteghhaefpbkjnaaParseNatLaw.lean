/- For all arguments the law FnExactParseNat returns true: the program's ParseNat answers as the model's; no condition on them. -/
import Derived.Test.YteghhaefpbkjnaaPar
import Derived.ProofKit
import Derived.OpenShut
import Derived.ShutString
namespace Go.Proofs.Yteghhaefpbkjnaa.fnExactParseNat
open Go.ChangeShapes Go.WideShapes Go.ChangeAt Go.RowKit
open Go.ChangeMaps (open_string shut_string)

set_option maxHeartbeats 1600000 in
theorem walk {w : World} (a0 : ByteArray) (_ha0 : a0.size ≤ maxLen) :
    Calls Try.prog 12 #[.string a0] w fun e w' => e = .returned (.bool true) ∧ Below w.heap.size w w' := by
  by_cases biga0 : 1048576 < (a0.size : Int)
  · go_enter Try.func12, Try.ntmps12
    go_wp2_with fail
    go_ret
    exact ⟨rfl, Below.refl _ _⟩
  have BW0 : Hid (Below w.heap.size w w) := Below.refl _ _
  go_enter Try.func12, Try.ntmps12
  go_wp2_with fail
  refine (spec_parseNat a0 _ (by omega)).mono ?_
  rintro e w1 ⟨r1_0, v1_0, r1_1, rfl, his, ho0, hb⟩
  have BW1 := Lib.hid (BW0.out.trans (hb.mono BW0.out.size))
  have sz1 : w.heap.size ≤ w1.heap.size := hb.size
  clear hb
  have IS := Lib.hid his
  clear his
  obtain ⟨hl0, ho0⟩ := ho0
  obtain ⟨N0, hN0⟩ : ∃ N, N = r1_0.length := ⟨_, rfl⟩
  rw [← hN0] at hl0 ho0
  have HN0 := Lib.hid hN0.symm
  clear hN0
  obtain ⟨Aw0, cw0, rfl⟩ := own_slice ho0
  have Uw0 := Lib.hid (fun k (hk : (Value.slice Aw0 N0 cw0).ownBlock = some k) => (ho0.lt k hk).2)
  have Ow0_1 := Lib.hid ho0
  clear ho0
  go_wp2_with fail
  refine (impl_parseNat a0 _ (by omega)).mono ?_
  rintro e w2 ⟨r2_0, v2_0, r2_1, rfl, his, ho0, hb⟩
  have BW2 := Lib.hid (BW1.out.trans (hb.mono BW1.out.size))
  have sz2 : w1.heap.size ≤ w2.heap.size := hb.size
  have Ow0_2 := Lib.hid (own_below Ow0_1.out hb)
  clear hb
  obtain ⟨rfl, rfl⟩ := parseNat_unique IS.out his
  clear his
  have ho0 := ho0.2
  rw [HN0.out] at ho0
  obtain ⟨Ag0, cg0, rfl⟩ := own_slice ho0
  have Ug0 := Lib.hid (fun k (hk : (Value.slice Ag0 N0 cg0).ownBlock = some k) => (ho0.lt k hk).2)
  have Og0_2 := Lib.hid ho0
  clear ho0
  go_wp2_with fail
  refine (eqIntS_same Ag0 Aw0 N0 cg0 cw0 r1_0 _ HN0.out (by unfold maxLen; omega) (Reads.of_own Og0_2.out) (Reads.of_own Ow0_2.out)).mono ?_
  rintro e w3 ⟨rfl, hb⟩
  have BW3 := Lib.hid (BW2.out.trans (hb.mono BW2.out.size))
  have sz3 : w2.heap.size ≤ w3.heap.size := hb.size
  have Ow0_3 := Lib.hid (own_below Ow0_2.out hb)
  have Og0_3 := Lib.hid (own_below Og0_2.out hb)
  clear hb
  go_wp2_with fail
  refine (markIntS_own _ Ag0 N0 cg0 (1) _ _ (by unfold maxLen; omega) Og0_3.out (ints_are _)).mono ?_
  rintro e w4 ⟨rfl, ho, hg⟩
  have BW4 := Lib.hid (below_marked BW3.out Og0_3.out hg (by omega) (by omega))
  have sz4 : w3.heap.size ≤ w4.heap.size := hg.size
  have Ow0_4 := Lib.hid (Ow0_3.out.kept hg (own_apart Ow0_3.out Uw0.out Og0_3.out Ug0.out (.inl (by omega))))
  have Og0_4 := Lib.hid ho
  clear ho hg
  go_wp2_with fail
  refine (heldIntS_same Ag0 N0 cg0 (1) _ (by unfold maxLen; omega) (Reads.of_own Og0_4.out)).mono ?_
  rintro e w5 ⟨rfl, hb⟩
  have BW5 := Lib.hid (BW4.out.trans (hb.mono BW4.out.size))
  have sz5 : w4.heap.size ≤ w5.heap.size := hb.size
  have Ow0_5 := Lib.hid (own_below Ow0_4.out hb)
  have Og0_5 := Lib.hid (own_below Og0_4.out hb)
  clear hb
  go_wp2_with fail
  refine (impl_parseNat a0 _ (by omega)).mono ?_
  rintro e w6 ⟨r3_0, v3_0, r3_1, rfl, his, ho0, hb⟩
  have BW6 := Lib.hid (BW5.out.trans (hb.mono BW5.out.size))
  have sz6 : w5.heap.size ≤ w6.heap.size := hb.size
  have Ow0_6 := Lib.hid (own_below Ow0_5.out hb)
  have Og0_6 := Lib.hid (own_below Og0_5.out hb)
  clear hb
  obtain ⟨rfl, rfl⟩ := parseNat_unique IS.out his
  clear his
  have ho0 := ho0.2
  rw [HN0.out] at ho0
  obtain ⟨Ah0, ch0, rfl⟩ := own_slice ho0
  have Uh0 := Lib.hid (fun k (hk : (Value.slice Ah0 N0 ch0).ownBlock = some k) => (ho0.lt k hk).2)
  have Oh0_6 := Lib.hid ho0
  clear ho0
  go_wp2_with fail
  refine (eqIntS_same Ah0 Aw0 N0 ch0 cw0 r1_0 _ HN0.out (by unfold maxLen; omega) (Reads.of_own Oh0_6.out) (Reads.of_own Ow0_6.out)).mono ?_
  rintro e w7 ⟨rfl, hb⟩
  have BW7 := Lib.hid (BW6.out.trans (hb.mono BW6.out.size))
  have sz7 : w6.heap.size ≤ w7.heap.size := hb.size
  have Ow0_7 := Lib.hid (own_below Ow0_6.out hb)
  have Og0_7 := Lib.hid (own_below Og0_6.out hb)
  have Oh0_7 := Lib.hid (own_below Oh0_6.out hb)
  clear hb
  clear Ow0_7 Uw0
  clear Oh0_7 Uh0
  go_wp2_with fail
  refine (heldIntS_same Ag0 N0 cg0 (1) _ (by unfold maxLen; omega) (Reads.of_own Og0_7.out)).mono ?_
  rintro e w8 ⟨rfl, hb⟩
  have BW8 := Lib.hid (BW7.out.trans (hb.mono BW7.out.size))
  have sz8 : w7.heap.size ≤ w8.heap.size := hb.size
  have Og0_8 := Lib.hid (own_below Og0_7.out hb)
  clear hb
  clear Og0_8 Ug0
  go_wp2_with fail
  go_ret
  exact ⟨rfl, BW8.out⟩
-- THE FRAME, by wip/tools/frame.py
theorem own : ownKnob Try.prog.godebug = none := by kernel_rfl

set_option maxRecDepth 100000 in
theorem lifted (os : Os) (started : os.Started) (H : Type) (enc : TypeId × Value → H) :
    ReturnsInHanded {} Try.checked os 12 .any (Rows.fnExactParseNatSpec.pre6 enc Try.prog Try.f12 Rows.fnExactParseNatRow.domain false) (Rows.fnExactParseNatSpec.post enc Try.prog Try.f12 false true false false) := by
  refine returnsInHanded_of_change (C := Try.checked) own started (by kernel_rfl) Try.func12
    (ChangeSpec.witness6 (enc := enc) (C := Try.checked) false ⟨#[], #[.string ByteArray.empty], []⟩ 8 (by kernel_rfl) (by kernel_rfl) (by kernel_rfl) (by kernel_rfl)) ?_
  intro W base args ds gs before hval0 hW _ _
  have hval : ∀ (j : Nat) t v, Try.f12.params[j]? = some t → args[j]? = some v → Value.okWide Try.prog W .any base t v := hval0
  have hW' := hW
  obtain ⟨p, q, hA0, hV, rfl, _, _⟩ := hW
  have hA : DataW.TrodAll enc Try.prog W 0 (fun _ => true) true Try.f12.params.toList args.toList ds p := hA0
  rw [Try.params12] at hA hval
  obtain ⟨v0, vs0, d0, ds0, p0, q0, hargs, rfl, rfl, h0, r0⟩ := trodAll_cons hA
  obtain ⟨rfl, rfl, rfl⟩ := trodAll_nil r0
  obtain rfl : args = #[v0] := by cases args; simp_all
  obtain ⟨rfl, rfl⟩ := trodVars_none hV
  obtain ⟨a0, rfl, rfl, rfl, w0⟩ := open_string Try.underlying9 (hval 0 9 v0 rfl rfl) h0
  clear hA0 hval0
  simp only [List.append_nil] at hW'
  refine (walk (w := W) a0 w0).mono fun e W' ⟨he, bel⟩ => ?_
  subst he
  exact ⟨_, rfl, _, _, _, [], _, [], hW', trodAll_mk1 (shut_bool Try.underlying4 _), (trodAll_cons_mk (shut_string Try.underlying9 w0) trodAll_mk0), rfl, bel.frame _, fun h => by cases h⟩

theorem over : Rows.fnExactParseNatRow.holds Try.pinned (OpenSpec.ofChange Rows.fnExactParseNatSpec) :=
  OpenClaim.holds_of_wide 12 Try.f12 rfl rfl rfl rfl rfl rfl rfl ⟨rfl, rfl, rfl, rfl, rfl⟩ rfl rfl rfl rfl rfl (by kernel_rfl) Try.func12 (by kernel_rfl)
    (of_decide_eq_true (by kernel_rfl)) (by unfold Func.isWrapper; rw [if_neg (of_decide_eq_false (by kernel_rfl))]; exact ⟨rfl, rfl⟩)
    (fun os started H enc _ => lifted os started H enc)

theorem proved : Rows.FnExactParseNatSaid := over
end Go.Proofs.Yteghhaefpbkjnaa.fnExactParseNat
