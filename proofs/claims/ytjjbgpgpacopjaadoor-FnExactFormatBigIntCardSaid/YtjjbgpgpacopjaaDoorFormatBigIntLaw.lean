/- For all arguments the law FnExactFormatBigInt returns true: the program's FormatBigInt answers as the model's, where the library's table of powers of ten is as the program's text lays it; no other condition. -/
import Derived.Test.YtjjbgpgpacopjaaDoorBigLaw
import Derived.Test.YtjjbgpgpacopjaaDoorBigF
import Derived.ProofKit
import Derived.OpenShut
import Derived.ShutString
import Derived.Lib.SmallJoins
import Derived.LaidMore
import Derived.Stop.Joined
import Derived.Test.YtjjbgpgpacopjaaDoorCards
import Derived.Test.YtjjbgpgpacopjaaDoorTie
namespace Go.Proofs.YtjjbgpgpacopjaaDoor.fnExactFormatBigInt
open Go.ChangeShapes Go.WideShapes Go.ChangeAt Go.RowKit Go.Joins Go.Deep
open Go.ChangeMaps (open_string shut_string)

set_option maxRecDepth 100000 in
set_option maxHeartbeats 3200000 in
theorem walk {w : World} (a0g : Bool) (a0m : Option Addr) (len0m cap0m : Nat) (z0m : List Int) (hz0m : IsInts w a0m len0m z0m) (ht : Tab w) :
    Calls Tryd.prog 3 #[.agg #[.bool a0g, .slice a0m len0m cap0m]] w fun e w' => e = .returned (.bool true) ∧ Below w.heap.size w w' := by
  have Ht := Lib.hid ht
  clear ht
  have hmz0m : len0m ≤ maxLen := hz0m.2.1
  have Hz0m := Lib.hid hz0m
  clear hz0m
  unfold maxLen at hmz0m
  have BW0 : Hid (Below w.heap.size w w) := Below.refl _ _
  have BW1 := Lib.hid (BW0.out.alloc BW0.out.size (.cells #[.bool a0g, .slice a0m len0m cap0m] 24))
  have XaX_1 := Lib.hid (by have := Box.new w 24 #[.bool a0g, .slice a0m len0m cap0m]; simpa using this : Box (w.alloc (.cells #[.bool a0g, .slice a0m len0m cap0m] 24)) (w.heap.size) 24 #[.bool a0g, .slice a0m len0m cap0m])
  have sz1 : w.heap.size ≤ (w.alloc (.cells #[.bool a0g, .slice a0m len0m cap0m] 24)).heap.size := (by simp)
  by_cases bigs0 : (1048576 : Int) - (len0m : Int) < 0
  · go_enter Tryd.func3, Tryd.ntmps3
    go_wp2_with fail
    refine (szBigInt_neg a0g a0m len0m cap0m ((1048576 : Int)) _ (by omega) (by omega) (by unfold maxLen; omega) (by omega)).mono ?_
    rintro e ws0 ⟨rfl, hb⟩
    have BW2 := Lib.hid (BW1.out.trans (hb.mono BW1.out.size))
    have sz2 : (w.alloc (.cells #[.bool a0g, .slice a0m len0m cap0m] 24)).heap.size ≤ ws0.heap.size := hb.size
    have XaX_2 := Lib.hid (XaX_1.out.below hb XaX_1.out.lt)
    clear hb
    go_wp2_with fail
    go_ret
    exact ⟨rfl, BW2.out⟩
  have Inz0m : Hid (InI w a0m len0m z0m) := ⟨Hz0m.out.1, by omega, Hz0m.out.2.2.1, Hz0m.out.2.2.2⟩
  go_enter Tryd.func3, Tryd.ntmps3
  go_wp2_with fail
  refine (szBigInt_pos a0g a0m len0m cap0m ((1048576 : Int)) _ (by omega) (by omega)  (by omega)).mono ?_
  rintro e ws0 ⟨rfl, hb⟩
  have BW2 := Lib.hid (BW1.out.trans (hb.mono BW1.out.size))
  have sz2 : (w.alloc (.cells #[.bool a0g, .slice a0m len0m cap0m] 24)).heap.size ≤ ws0.heap.size := hb.size
  have XaX_2 := Lib.hid (XaX_1.out.below hb XaX_1.out.lt)
  clear hb
  have eaX0a : ws0.cell? ⟨w.heap.size, 0, none⟩ = some (.bool a0g) := XaX_2.out.cell 0
  have eaX1a : ws0.cell? ⟨w.heap.size, 1, none⟩ = some (.slice a0m len0m cap0m) := XaX_2.out.cell 1
  go_wp2_with fail
  clear eaX0a eaX1a
  refine (toBigInt_any a0g a0m len0m cap0m z0m _ Inz0m.out.len Inz0m.out.le (Inz0m.out.rd.below BW2.out)).mono ?_
  rintro e w1 ⟨v0, rfl, ho0, hb⟩
  have BW3 := Lib.hid (BW2.out.trans (hb.mono BW2.out.size))
  have sz3 : ws0.heap.size ≤ w1.heap.size := hb.size
  have XaX_3 := Lib.hid (XaX_2.out.below hb XaX_2.out.lt)
  obtain ⟨At1m, ct1m, rfl⟩ := own_slice ho0
  have Ut1m := Lib.hid (fun k (hk : (Value.slice At1m len0m ct1m).ownBlock = some k) => (ho0.lt k hk).2)
  have Ot1m_3 := Lib.hid ho0
  clear ho0
  clear hb
  go_wp2_with fail
  refine (spec_formatBigInt a0g At1m len0m ct1m z0m _ (Inz0m.out.own Ot1m_3.out) (room_own Ot1m_3.out)).mono ?_
  rintro e w2 ⟨r1_00, rfl, his, hb⟩
  have BW4 := Lib.hid (BW3.out.trans (hb.mono BW3.out.size))
  have sz4 : w1.heap.size ≤ w2.heap.size := hb.size
  have Ot1m_4 := Lib.hid (own_below Ot1m_3.out hb)
  have XaX_4 := Lib.hid (XaX_3.out.below hb XaX_3.out.lt)
  clear hb
  have IS := Lib.hid his
  clear his
  clear Ot1m_4 Ut1m
  have eaX0a : w2.cell? ⟨w.heap.size, 0, none⟩ = some (.bool a0g) := XaX_4.out.cell 0
  have eaX1a : w2.cell? ⟨w.heap.size, 1, none⟩ = some (.slice a0m len0m cap0m) := XaX_4.out.cell 1
  go_wp2_with fail
  clear eaX0a eaX1a
  refine (toBigInt_any a0g a0m len0m cap0m z0m _ Inz0m.out.len Inz0m.out.le (Inz0m.out.rd.below BW4.out)).mono ?_
  rintro e w3 ⟨v0, rfl, ho0, hb⟩
  have BW5 := Lib.hid (BW4.out.trans (hb.mono BW4.out.size))
  have sz5 : w2.heap.size ≤ w3.heap.size := hb.size
  have XaX_5 := Lib.hid (XaX_4.out.below hb XaX_4.out.lt)
  obtain ⟨Ax0m, cx0m, rfl⟩ := own_slice ho0
  have Ux0m := Lib.hid (fun k (hk : (Value.slice Ax0m len0m cx0m).ownBlock = some k) => (ho0.lt k hk).2)
  have Ox0m_5 := Lib.hid ho0
  clear ho0
  clear hb
  have BW6 := Lib.hid (BW5.out.alloc BW5.out.size (.cells #[.bool a0g, .slice Ax0m len0m cx0m] 27))
  have sz6 : w3.heap.size ≤ (w3.alloc (.cells #[.bool a0g, .slice Ax0m len0m cx0m] 27)).heap.size := (by simp)
  have Ox0m_6 := Lib.hid (Ox0m_5.out.alloc (.cells #[.bool a0g, .slice Ax0m len0m cx0m] 27))
  have XaX_6 := Lib.hid (XaX_5.out.alloc (.cells #[.bool a0g, .slice Ax0m len0m cx0m] 27))
  have Xx0_6 := Lib.hid (Box.new w3 27 #[.bool a0g, .slice Ax0m len0m cx0m])
  go_wp2_with fail
  refine (impl_formatBigInt a0g Ax0m len0m cx0m z0m _ (Inz0m.out.own Ox0m_6.out) (room_own Ox0m_6.out) (Ht.out.below BW6.out)).mono ?_
  rintro e w4 ⟨r2_00, rfl, his, hb⟩
  have BW7 := Lib.hid (BW6.out.trans (hb.mono BW6.out.size))
  have sz7 : (w3.alloc (.cells #[.bool a0g, .slice Ax0m len0m cx0m] 27)).heap.size ≤ w4.heap.size := hb.size
  have Ox0m_7 := Lib.hid (own_below Ox0m_6.out hb)
  have XaX_7 := Lib.hid (XaX_6.out.below hb XaX_6.out.lt)
  have Xx0_7 := Lib.hid (Xx0_6.out.below hb Xx0_6.out.lt)
  clear hb
  obtain rfl := formatBigInt_unique IS.out his
  clear his
  go_wp2_with fail
  have BW8 := Lib.hid BW7.out.drew
  have sz8 : w4.heap.size ≤ w4.drew.heap.size := Nat.le_refl _
  have Ox0m_8 := Lib.hid (own_drew Ox0m_7.out)
  have XaX_8 := Lib.hid XaX_7.out.drew
  have Xx0_8 := Lib.hid Xx0_7.out.drew
  go_region_held3 (fun w' => w'.cell? ⟨w3.heap.size, 0, none⟩ = some (.bool a0g) ∧ w'.cell? ⟨w3.heap.size, 1, none⟩ = some (.slice Ax0m len0m cx0m) ∧ w'.cell? ⟨w.heap.size, 0, none⟩ = some (.bool a0g) ∧ w'.cell? ⟨w.heap.size, 1, none⟩ = some (.slice a0m len0m cap0m)) (first | exact ⟨Xx0_8.out.cell 0, Xx0_8.out.cell 1, XaX_8.out.cell 0, XaX_8.out.cell 1⟩ | exact ⟨Xx0_9.out.cell 0, Xx0_9.out.cell 1, XaX_9.out.cell 0, XaX_9.out.cell 1⟩ | exact ⟨Xx0_10.out.cell 0, Xx0_10.out.cell 1, XaX_10.out.cell 0, XaX_10.out.cell 1⟩) (first | (go_at_call 8; refine (eqBigInt_same a0g Ax0m At2m len0m cx0m ct2m z0m _ Inz0m.out.len (by unfold maxLen; omega) (Reads.of_own Ox0m_9.out) (Reads.of_own Ot2m_9.out)).mono ?_; rintro e w6 ⟨rfl, hb⟩; have BW10 := Lib.hid (BW9.out.trans (hb.mono BW9.out.size)); have sz10 : w5.heap.size ≤ w6.heap.size := hb.size; have Ox0m_10 := Lib.hid (own_below Ox0m_9.out hb); have Ot2m_10 := Lib.hid (own_below Ot2m_9.out hb); have XaX_10 := Lib.hid (XaX_9.out.below hb XaX_9.out.lt); have Xx0_10 := Lib.hid (Xx0_9.out.below hb Xx0_9.out.lt); clear hb) | (go_at_call 6; refine (toBigInt_any a0g a0m len0m cap0m z0m _ Inz0m.out.len Inz0m.out.le (Inz0m.out.rd.below BW8.out)).mono ?_; rintro e w5 ⟨v0, rfl, ho0, hb⟩; have BW9 := Lib.hid (BW8.out.trans (hb.mono BW8.out.size)); have sz9 : w4.drew.heap.size ≤ w5.heap.size := hb.size; have Ox0m_9 := Lib.hid (own_below Ox0m_8.out hb); have XaX_9 := Lib.hid (XaX_8.out.below hb XaX_8.out.lt); have Xx0_9 := Lib.hid (Xx0_8.out.below hb Xx0_8.out.lt); obtain ⟨At2m, ct2m, rfl⟩ := own_slice ho0; have Ut2m := Lib.hid (fun k (hk : (Value.slice At2m len0m ct2m).ownBlock = some k) => (ho0.lt k hk).2); have Ot2m_9 := Lib.hid ho0; clear ho0; clear hb))
  clear Ox0m_10 Ux0m Xx0_10
  clear Ot2m_10 Ut2m
  go_wp2_with fail
  go_ret
  exact ⟨rfl, BW10.out⟩
theorem given {W : World} (h : laidMetH Tryd.prog Rows.fnExactFormatBigIntRow.laid W) : Tab W := by
  rw [MakeChecks.laidMetH_plain _ _ _ (by kernel_rfl)] at h
  obtain ⟨ps, h, _⟩ := h
  obtain ⟨ps, h⟩ := laid_tail h
  obtain ⟨ps, h⟩ := laid_tail h
  exact Tab.of_vars h
-- THE FRAME, by wip/tools/frame.py
theorem own : ownKnob Tryd.prog.godebug = none := by kernel_rfl
theorem laidOut : laidOutB Tryd.prog = true := by kernel_rfl

theorem door_met (os : Os) (args : Array Value) : laidMetH Tryd.prog Rows.fnExactFormatBigIntRow.laid ((World.doorLaid Tryd.prog 400 os).forCall (fun _ _ => 0) ⟨#[], args, []⟩).memory :=
  laidMetH_of_parts3 (fuel := 8) (laidMet_of_run' 8 (by kernel_rfl) (by kernel_rfl)) (by kernel_rfl) (by kernel_rfl)
set_option maxRecDepth 100000 in
theorem lifted (os : Os) (started : os.Started) (H : Type) (enc : TypeId × Value → H) :
    ReturnsInHanded {} Tryd.checked os 3 .any (fun w args => (Rows.fnExactFormatBigIntSpec.pre enc Tryd.prog Tryd.f3 [] false w args ∧ laidMetH Tryd.prog Rows.fnExactFormatBigIntRow.laid w) ∧ sizedMet enc Tryd.prog Tryd.f3 (OpenSpec.ofChange Rows.fnExactFormatBigIntSpec) false w args)
      (Rows.fnExactFormatBigIntSpec.post enc Tryd.prog Tryd.f3 false true false false) := by
  refine returnsInHanded_of_change_and (C := Tryd.checked) (X := fun w _ => laidMetH Tryd.prog Rows.fnExactFormatBigIntRow.laid w) (fun _ _ _ hh h => h.of_heap hh) own started (by kernel_rfl) Tryd.func3
    (ChangeSpec.witness_shaped (enc := enc) (C := Tryd.checked) (os := os) (X := fun w _ => laidMetH Tryd.prog Rows.fnExactFormatBigIntRow.laid w) false (World.doorLaid Tryd.prog 400 os) #[.agg #[.bool false, .slice none 0 0]] 8 rfl (World.shaped_of_RefB (by kernel_rfl) (by kernel_rfl)) (by kernel_rfl) (by kernel_rfl) (by kernel_rfl) (door_met os _)) ?_
  intro W base args ds gs before hval0 hW _ _ hL _
  have hval : ∀ (j : Nat) t v, Tryd.f3.params[j]? = some t → args[j]? = some v → Value.okWide Tryd.prog W .any base t v := hval0
  have hW' := hW
  obtain ⟨p, q, hA0, hV, rfl, _, _⟩ := hW
  have hA : DataW.TrodAll enc Tryd.prog W 0 (fun _ => true) true Tryd.f3.params.toList args.toList ds p := hA0
  rw [Tryd.params3] at hA hval
  obtain ⟨v0, vs0, d0, ds0, p0, q0, hargs, rfl, rfl, h0, r0⟩ := trodAll_cons hA
  obtain ⟨rfl, rfl, rfl⟩ := trodAll_nil r0
  obtain rfl : args = #[v0] := by cases args; simp_all
  obtain ⟨rfl, rfl⟩ := trodVars_none hV
  have k0 := h0
  have lt0 : ∀ x ∈ p0, x.block < W.heap.size := by obtain ⟨m, hm⟩ := k0; exact DataW.trod_lt m _ _ _ hm
  obtain ⟨g0, a0, len0, cap0, z0, rfl, w0⟩ := open_big (e := 3) Tryd.underlying24 (by kernel_rfl) (by kernel_rfl) Tryd.underlying4 Tryd.underlying22 Tryd.underlying3 (by kernel_rfl) (hval 0 24 v0 rfl rfl) h0
  clear hA0 hval0
  refine (walk (w := W) g0 a0 len0 cap0 z0 w0 (given hL)).mono fun e W' ⟨he, bel⟩ => ?_
  subst he
  exact ⟨_, rfl, _, _, _, [], _, [], hW', trodAll_mk1 (shut_bool Tryd.underlying4 _), (trodAll_cons_mk (Below.trod laidOut (by kernel_rfl) (of_decide_eq_true (by kernel_rfl)) k0 bel lt0) trodAll_mk0), rfl, bel.frame _, fun h => by cases h⟩

theorem over : Rows.fnExactFormatBigIntRow.holds Tryd.pinned (OpenSpec.ofChange Rows.fnExactFormatBigIntSpec) :=
  OpenClaim.holds_of_wide 3 Tryd.f3 rfl rfl rfl rfl rfl rfl rfl ⟨rfl, rfl, rfl, rfl, rfl⟩ rfl rfl rfl rfl rfl (by kernel_rfl) Tryd.func3 (by kernel_rfl)
    (of_decide_eq_true (by kernel_rfl)) (by unfold Func.isWrapper; rw [if_neg (of_decide_eq_false (by kernel_rfl))]; exact ⟨rfl, rfl⟩)
    (fun os started H enc _ => lifted os started H enc)

theorem proved : Rows.FnExactFormatBigIntSaid := over

theorem plain (f : FuncId) (fn : Func) (hf : Tryd.pinned.checked.prog.funcNamed "loop.example/g00830/laws.FnExactFormatBigInt" = some f) (hfn : Tryd.pinned.checked.prog.funcs[f]? = some fn) :
    ∀ (j : Nat) t, fn.params[j]? = some t → Tryd.pinned.checked.prog.wantsStandIn t = false := by
  obtain rfl : f = 3 := Option.some.inj ((show Tryd.prog.funcNamed "loop.example/g00830/laws.FnExactFormatBigInt" = some 3 by kernel_rfl).symm.trans hf) |>.symm
  obtain rfl : fn = Tryd.f3 := (Option.some.inj (Tryd.func3.symm.trans hfn)).symm
  intro j t ht
  rw [Tryd.params3] at ht
  have hm : t ∈ [24] := by have := Array.mem_of_getElem? ht; simp at this ⊢; omega
  have hall : ([24].all fun u => !Tryd.prog.wantsStandIn u) = true := by kernel_rfl
  exact (show Tryd.prog.wantsStandIn t = false by simpa using List.all_eq_true.1 hall t hm)

theorem card : Rows.FnExactFormatBigIntCardSaid :=
  Claim7.holds_tied_plain_at .later [] _ _ _ _ proved (fun _ h => by cases h) (by kernel_rfl) (fun _ h => by cases h) fnExactFormatBigInt_row_tie rfl ⟨rfl, rfl⟩ (by kernel_rfl) rfl (fun f fn hf hfn => ⟨by kernel_rfl, plain f fn hf hfn⟩) (by kernel_rfl)
end Go.Proofs.YtjjbgpgpacopjaaDoor.fnExactFormatBigInt
