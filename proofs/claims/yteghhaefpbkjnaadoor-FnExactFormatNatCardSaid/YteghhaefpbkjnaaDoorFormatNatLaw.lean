/- For all arguments the law FnExactFormatNat returns true: the program's FormatNat answers as the model's, where the library's table of powers of ten is as the program's text lays it; no other condition. -/
import Derived.Test.YteghhaefpbkjnaaDoorFnt
import Derived.Test.YteghhaefpbkjnaaDoorTab
import Derived.ProofKit
import Derived.OpenShut
import Derived.ShutString
import Derived.LaidMore
import Derived.Stop.Joined
import Derived.Test.YteghhaefpbkjnaaDoorCards
import Derived.Test.YteghhaefpbkjnaaDoorTie
namespace Go.Proofs.YteghhaefpbkjnaaDoor.fnExactFormatNat
open Go.ChangeShapes Go.WideShapes Go.ChangeAt Go.RowKit
open Go.ChangeMaps (open_string shut_string)

set_option maxHeartbeats 1600000 in
theorem walk {w : World} (a0 : Option Addr) (len0 cap0 : Nat) (z0 : List Int) (hz0 : IsInts w a0 len0 z0) (ht : Tab w) :
    Calls Tryd.prog 4 #[.slice a0 len0 cap0] w fun e w' => e = .returned (.bool true) ∧ Below w.heap.size w w' := by
  have Ht := Lib.hid ht
  clear ht
  have Hz0 := Lib.hid hz0
  clear hz0
  by_cases biglen0 : 1048576 < (len0 : Int)
  · go_enter Tryd.func4, Tryd.ntmps4
    go_wp2_with fail
    go_ret
    exact ⟨rfl, Below.refl _ _⟩
  have Inz0 : Hid (InI w a0 len0 z0) := ⟨Hz0.out.1, by omega, Hz0.out.2.2.1, Hz0.out.2.2.2⟩
  have BW0 : Hid (Below w.heap.size w w) := Below.refl _ _
  go_enter Tryd.func4, Tryd.ntmps4
  go_wp2_with fail
  refine (toIntS_any a0 len0 cap0 z0 _ Inz0.out.1 Inz0.out.2.1 (Inz0.out.2.2.1.below BW0.out)).mono ?_
  rintro e w1 ⟨v, rfl, ho, hb⟩
  have BW1 := Lib.hid (BW0.out.trans (hb.mono BW0.out.size))
  have sz1 : w.heap.size ≤ w1.heap.size := hb.size
  obtain ⟨At1, ct1, rfl⟩ := own_slice ho
  have Ut1 := Lib.hid (fun k (hk : (Value.slice At1 len0 ct1).ownBlock = some k) => (ho.lt k hk).2)
  have Ot1_1 := Lib.hid ho
  clear ho
  clear hb
  go_wp2_with fail
  refine (spec_formatNat At1 len0 ct1 z0 _ ⟨Inz0.out.1, Inz0.out.2.1, Reads.of_own Ot1_1.out, Inz0.out.2.2.2⟩).mono ?_
  rintro e w2 ⟨r1_0, rfl, his, hb⟩
  have BW2 := Lib.hid (BW1.out.trans (hb.mono BW1.out.size))
  have sz2 : w1.heap.size ≤ w2.heap.size := hb.size
  have Ot1_2 := Lib.hid (own_below Ot1_1.out hb)
  clear hb
  have IS := Lib.hid his
  clear his
  clear Ot1_2 Ut1
  go_wp2_with fail
  refine (toIntS_any a0 len0 cap0 z0 _ Inz0.out.1 Inz0.out.2.1 (Inz0.out.2.2.1.below BW2.out)).mono ?_
  rintro e w3 ⟨v, rfl, ho, hb⟩
  have BW3 := Lib.hid (BW2.out.trans (hb.mono BW2.out.size))
  have sz3 : w2.heap.size ≤ w3.heap.size := hb.size
  obtain ⟨Ax0, cx0, rfl⟩ := own_slice ho
  have Ux0 := Lib.hid (fun k (hk : (Value.slice Ax0 len0 cx0).ownBlock = some k) => (ho.lt k hk).2)
  have Ox0_3 := Lib.hid ho
  clear ho
  clear hb
  go_wp2_with fail
  refine (impl_formatNat Ax0 len0 cx0 z0 _ ⟨Inz0.out.1, Inz0.out.2.1, Reads.of_own Ox0_3.out, Inz0.out.2.2.2⟩ (Ht.out.below BW3.out)).mono ?_
  rintro e w4 ⟨r2_0, rfl, his, hb⟩
  have BW4 := Lib.hid (BW3.out.trans (hb.mono BW3.out.size))
  have sz4 : w3.heap.size ≤ w4.heap.size := hb.size
  have Ox0_4 := Lib.hid (own_below Ox0_3.out hb)
  clear hb
  obtain rfl := formatNat_unique IS.out his
  clear his
  go_wp2_with fail
  refine (toIntS_any a0 len0 cap0 z0 _ Inz0.out.1 Inz0.out.2.1 (Inz0.out.2.2.1.below BW4.out)).mono ?_
  rintro e w5 ⟨v, rfl, ho, hb⟩
  have BW5 := Lib.hid (BW4.out.trans (hb.mono BW4.out.size))
  have sz5 : w4.heap.size ≤ w5.heap.size := hb.size
  have Ox0_5 := Lib.hid (own_below Ox0_4.out hb)
  obtain ⟨At3, ct3, rfl⟩ := own_slice ho
  have Ut3 := Lib.hid (fun k (hk : (Value.slice At3 len0 ct3).ownBlock = some k) => (ho.lt k hk).2)
  have Ot3_5 := Lib.hid ho
  clear ho
  clear hb
  go_wp2_with fail
  refine (eqIntS_same Ax0 At3 len0 cx0 ct3 z0 _ Inz0.out.1 (by unfold maxLen; omega) (Reads.of_own Ox0_5.out) (Reads.of_own Ot3_5.out)).mono ?_
  rintro e w6 ⟨rfl, hb⟩
  have BW6 := Lib.hid (BW5.out.trans (hb.mono BW5.out.size))
  have sz6 : w5.heap.size ≤ w6.heap.size := hb.size
  have Ox0_6 := Lib.hid (own_below Ox0_5.out hb)
  have Ot3_6 := Lib.hid (own_below Ot3_5.out hb)
  clear hb
  clear Ox0_6 Ux0
  clear Ot3_6 Ut3
  go_wp2_with fail
  go_ret
  exact ⟨rfl, BW6.out⟩
theorem given {W : World} (h : laidMetH Tryd.prog Rows.fnExactFormatNatRow.laid W) : Tab W := by
  rw [MakeChecks.laidMetH_plain _ _ _ (by kernel_rfl)] at h
  obtain ⟨ps, h, _⟩ := h
  obtain ⟨ps, h⟩ := laid_tail h
  obtain ⟨ps, h⟩ := laid_tail h
  exact Tab.of_vars h
-- THE FRAME, by wip/tools/frame.py
theorem own : ownKnob Tryd.prog.godebug = none := by kernel_rfl
theorem laidOut : laidOutB Tryd.prog = true := by kernel_rfl

theorem door_met (os : Os) (args : Array Value) : laidMetH Tryd.prog Rows.fnExactFormatNatRow.laid ((World.doorLaid Tryd.prog 400 os).forCall (fun _ _ => 0) ⟨#[], args, []⟩).memory :=
  laidMetH_of_parts3 (fuel := 8) (laidMet_of_run' 8 (by kernel_rfl) (by kernel_rfl)) (by kernel_rfl) (by kernel_rfl)
set_option maxRecDepth 100000 in
theorem lifted (os : Os) (started : os.Started) (H : Type) (enc : TypeId × Value → H) :
    ReturnsInHanded {} Tryd.checked os 4 .any (fun w args => (Rows.fnExactFormatNatSpec.pre enc Tryd.prog Tryd.f4 [] false w args ∧ laidMetH Tryd.prog Rows.fnExactFormatNatRow.laid w) ∧ sizedMet enc Tryd.prog Tryd.f4 (OpenSpec.ofChange Rows.fnExactFormatNatSpec) false w args)
      (Rows.fnExactFormatNatSpec.post enc Tryd.prog Tryd.f4 false true false false) := by
  refine returnsInHanded_of_change_and (C := Tryd.checked) (X := fun w _ => laidMetH Tryd.prog Rows.fnExactFormatNatRow.laid w) (fun _ _ _ hh h => h.of_heap hh) own started (by kernel_rfl) Tryd.func4
    (ChangeSpec.witness_shaped (enc := enc) (C := Tryd.checked) (os := os) (X := fun w _ => laidMetH Tryd.prog Rows.fnExactFormatNatRow.laid w) false (World.doorLaid Tryd.prog 400 os) #[.slice none 0 0] 8 rfl (World.shaped_of_RefB (by kernel_rfl) (by kernel_rfl)) (by kernel_rfl) (by kernel_rfl) (by kernel_rfl) (door_met os _)) ?_
  intro W base args ds gs before hval0 hW _ _ hL _
  have hval : ∀ (j : Nat) t v, Tryd.f4.params[j]? = some t → args[j]? = some v → Value.okWide Tryd.prog W .any base t v := hval0
  have hW' := hW
  obtain ⟨p, q, hA0, hV, rfl, _, _⟩ := hW
  have hA : DataW.TrodAll enc Tryd.prog W 0 (fun _ => true) true Tryd.f4.params.toList args.toList ds p := hA0
  rw [Tryd.params4] at hA hval
  obtain ⟨v0, vs0, d0, ds0, p0, q0, hargs, rfl, rfl, h0, r0⟩ := trodAll_cons hA
  obtain ⟨rfl, rfl, rfl⟩ := trodAll_nil r0
  obtain rfl : args = #[v0] := by cases args; simp_all
  obtain ⟨rfl, rfl⟩ := trodVars_none hV
  obtain ⟨a0, len0, cap0, rfl⟩ := okWide_slice Tryd.underlying23 (hval 0 23 v0 rfl rfl)
  have k0 := h0
  have lt0 : ∀ x ∈ p0, x.block < W.heap.size := by obtain ⟨m, hm⟩ := k0; exact DataW.trod_lt m _ _ _ hm
  obtain ⟨z0, w0⟩ := isInts_of Tryd.underlying23 Tryd.underlying3 (by kernel_rfl) h0
  clear hA0 hval0
  refine (walk (w := W) a0 len0 cap0 z0 w0 (given hL)).mono fun e W' ⟨he, bel⟩ => ?_
  subst he
  exact ⟨_, rfl, _, _, _, [], _, [], hW', trodAll_mk1 (shut_bool Tryd.underlying4 _), (trodAll_cons_mk (Below.trod laidOut (by kernel_rfl) (of_decide_eq_true (by kernel_rfl)) k0 bel lt0) trodAll_mk0), rfl, bel.frame _, fun h => by cases h⟩

theorem over : Rows.fnExactFormatNatRow.holds Tryd.pinned (OpenSpec.ofChange Rows.fnExactFormatNatSpec) :=
  OpenClaim.holds_of_wide 4 Tryd.f4 rfl rfl rfl rfl rfl rfl rfl ⟨rfl, rfl, rfl, rfl, rfl⟩ rfl rfl rfl rfl rfl (by kernel_rfl) Tryd.func4 (by kernel_rfl)
    (of_decide_eq_true (by kernel_rfl)) (by unfold Func.isWrapper; rw [if_neg (of_decide_eq_false (by kernel_rfl))]; exact ⟨rfl, rfl⟩)
    (fun os started H enc _ => lifted os started H enc)

theorem proved : Rows.FnExactFormatNatSaid := over

theorem plain (f : FuncId) (fn : Func) (hf : Tryd.pinned.checked.prog.funcNamed "loop.example/g00830/laws.FnExactFormatNat" = some f) (hfn : Tryd.pinned.checked.prog.funcs[f]? = some fn) :
    ∀ (j : Nat) t, fn.params[j]? = some t → Tryd.pinned.checked.prog.wantsStandIn t = false := by
  obtain rfl : f = 4 := Option.some.inj ((show Tryd.prog.funcNamed "loop.example/g00830/laws.FnExactFormatNat" = some 4 by kernel_rfl).symm.trans hf) |>.symm
  obtain rfl : fn = Tryd.f4 := (Option.some.inj (Tryd.func4.symm.trans hfn)).symm
  intro j t ht
  rw [Tryd.params4] at ht
  have hm : t ∈ [23] := by have := Array.mem_of_getElem? ht; simp at this ⊢; omega
  have hall : ([23].all fun u => !Tryd.prog.wantsStandIn u) = true := by kernel_rfl
  exact (show Tryd.prog.wantsStandIn t = false by simpa using List.all_eq_true.1 hall t hm)

theorem card : Rows.FnExactFormatNatCardSaid :=
  Claim7.holds_tied_plain_at .later [] _ _ _ _ proved (fun _ h => by cases h) (by kernel_rfl) (fun _ h => by cases h) fnExactFormatNat_row_tie rfl ⟨rfl, rfl⟩ (by kernel_rfl) rfl (fun f fn hf hfn => ⟨by kernel_rfl, plain f fn hf hfn⟩) (by kernel_rfl)
end Go.Proofs.YteghhaefpbkjnaaDoor.fnExactFormatNat
