/- For all arguments the law FnExactNatCmp returns true: the program's NatCmp answers as the model's; no condition on them. -/
import Derived.Test.YteghhaefpbkjnaaIm1
import Derived.ProofKit
import Derived.OpenShut
import Derived.ShutString
namespace Go.Proofs.Yteghhaefpbkjnaa.fnExactNatCmp
open Go.ChangeShapes Go.WideShapes Go.ChangeAt Go.RowKit
open Go.ChangeMaps (open_string shut_string)

set_option maxHeartbeats 1600000 in
theorem walk {w : World} (a0 : Option Addr) (len0 cap0 : Nat) (z0 : List Int) (hz0 : IsInts w a0 len0 z0) (a1 : Option Addr) (len1 cap1 : Nat) (z1 : List Int) (hz1 : IsInts w a1 len1 z1) :
    Calls Try.prog 6 #[.slice a0 len0 cap0, .slice a1 len1 cap1] w fun e w' => e = .returned (.bool true) ∧ Below w.heap.size w w' := by
  have Hz0 := Lib.hid hz0
  clear hz0
  have Hz1 := Lib.hid hz1
  clear hz1
  by_cases biglen0 : 1048576 < (len0 : Int)
  · go_enter Try.func6, Try.ntmps6
    go_wp2_with fail
    go_ret
    exact ⟨rfl, Below.refl _ _⟩
  by_cases biglen1 : 1048576 < (len1 : Int)
  · go_enter Try.func6, Try.ntmps6
    go_wp2_with fail
    go_ret
    exact ⟨rfl, Below.refl _ _⟩
  have Inz0 : Hid (InI w a0 len0 z0) := ⟨Hz0.out.1, by omega, Hz0.out.2.2.1, Hz0.out.2.2.2⟩
  have Inz1 : Hid (InI w a1 len1 z1) := ⟨Hz1.out.1, by omega, Hz1.out.2.2.1, Hz1.out.2.2.2⟩
  have BW0 : Hid (Below w.heap.size w w) := Below.refl _ _
  go_enter Try.func6, Try.ntmps6
  go_wp2_with fail
  refine (toIntS_any a0 len0 cap0 z0 _ Inz0.out.1 Inz0.out.2.1 (Inz0.out.2.2.1.below BW0.out)).mono ?_
  rintro e w1 ⟨v, rfl, ho, hb⟩
  have BW1 := Lib.hid (BW0.out.trans (hb.mono BW0.out.size))
  have sz1 : w.heap.size ≤ w1.heap.size := hb.size
  obtain ⟨At1, ct1, rfl⟩ := own_slice ho
  have Ut1 := Lib.hid (fun k (hk : (Value.slice At1 len0 ct1).ownBlock = some k) => (ho.lt k hk).2)
  have Ot1_1 := Lib.hid ho
  clear ho
  clear hb
  go_wp2_with fail
  refine (toIntS_any a1 len1 cap1 z1 _ Inz1.out.1 Inz1.out.2.1 (Inz1.out.2.2.1.below BW1.out)).mono ?_
  rintro e w2 ⟨v, rfl, ho, hb⟩
  have BW2 := Lib.hid (BW1.out.trans (hb.mono BW1.out.size))
  have sz2 : w1.heap.size ≤ w2.heap.size := hb.size
  have Ot1_2 := Lib.hid (own_below Ot1_1.out hb)
  obtain ⟨At2, ct2, rfl⟩ := own_slice ho
  have Ut2 := Lib.hid (fun k (hk : (Value.slice At2 len1 ct2).ownBlock = some k) => (ho.lt k hk).2)
  have Ot2_2 := Lib.hid ho
  clear ho
  clear hb
  go_wp2_with fail
  refine (spec_natCmp At1 len0 ct1 z0 At2 len1 ct2 z1 _ ⟨Inz0.out.1, Inz0.out.2.1, Reads.of_own Ot1_2.out, Inz0.out.2.2.2⟩ ⟨Inz1.out.1, Inz1.out.2.1, Reads.of_own Ot2_2.out, Inz1.out.2.2.2⟩).mono ?_
  rintro e w3 ⟨r1_0, rfl, his, hb⟩
  have BW3 := Lib.hid (BW2.out.trans (hb.mono BW2.out.size))
  have sz3 : w2.heap.size ≤ w3.heap.size := hb.size
  have Ot1_3 := Lib.hid (own_below Ot1_2.out hb)
  have Ot2_3 := Lib.hid (own_below Ot2_2.out hb)
  clear hb
  have IS := Lib.hid his
  clear his
  clear Ot1_3 Ut1
  clear Ot2_3 Ut2
  go_wp2_with fail
  refine (toIntS_any a0 len0 cap0 z0 _ Inz0.out.1 Inz0.out.2.1 (Inz0.out.2.2.1.below BW3.out)).mono ?_
  rintro e w4 ⟨v, rfl, ho, hb⟩
  have BW4 := Lib.hid (BW3.out.trans (hb.mono BW3.out.size))
  have sz4 : w3.heap.size ≤ w4.heap.size := hb.size
  obtain ⟨Ax0, cx0, rfl⟩ := own_slice ho
  have Ux0 := Lib.hid (fun k (hk : (Value.slice Ax0 len0 cx0).ownBlock = some k) => (ho.lt k hk).2)
  have Ox0_4 := Lib.hid ho
  clear ho
  clear hb
  go_wp2_with fail
  refine (toIntS_any a1 len1 cap1 z1 _ Inz1.out.1 Inz1.out.2.1 (Inz1.out.2.2.1.below BW4.out)).mono ?_
  rintro e w5 ⟨v, rfl, ho, hb⟩
  have BW5 := Lib.hid (BW4.out.trans (hb.mono BW4.out.size))
  have sz5 : w4.heap.size ≤ w5.heap.size := hb.size
  have Ox0_5 := Lib.hid (own_below Ox0_4.out hb)
  obtain ⟨Ax1, cx1, rfl⟩ := own_slice ho
  have Ux1 := Lib.hid (fun k (hk : (Value.slice Ax1 len1 cx1).ownBlock = some k) => (ho.lt k hk).2)
  have Ox1_5 := Lib.hid ho
  clear ho
  clear hb
  go_wp2_with fail
  refine (impl_natCmp Ax0 len0 cx0 z0 Ax1 len1 cx1 z1 _ ⟨Inz0.out.1, Inz0.out.2.1, Reads.of_own Ox0_5.out, Inz0.out.2.2.2⟩ ⟨Inz1.out.1, Inz1.out.2.1, Reads.of_own Ox1_5.out, Inz1.out.2.2.2⟩).mono ?_
  rintro e w6 ⟨r2_0, rfl, his, hb⟩
  have BW6 := Lib.hid (BW5.out.trans (hb.mono BW5.out.size))
  have sz6 : w5.heap.size ≤ w6.heap.size := hb.size
  have Ox0_6 := Lib.hid (own_below Ox0_5.out hb)
  have Ox1_6 := Lib.hid (own_below Ox1_5.out hb)
  clear hb
  obtain rfl := natCmp_unique IS.out his
  clear his
  go_wp2_with fail
  refine (toIntS_any a0 len0 cap0 z0 _ Inz0.out.1 Inz0.out.2.1 (Inz0.out.2.2.1.below BW6.out)).mono ?_
  rintro e w7 ⟨v, rfl, ho, hb⟩
  have BW7 := Lib.hid (BW6.out.trans (hb.mono BW6.out.size))
  have sz7 : w6.heap.size ≤ w7.heap.size := hb.size
  have Ox0_7 := Lib.hid (own_below Ox0_6.out hb)
  have Ox1_7 := Lib.hid (own_below Ox1_6.out hb)
  obtain ⟨At5, ct5, rfl⟩ := own_slice ho
  have Ut5 := Lib.hid (fun k (hk : (Value.slice At5 len0 ct5).ownBlock = some k) => (ho.lt k hk).2)
  have Ot5_7 := Lib.hid ho
  clear ho
  clear hb
  go_wp2_with fail
  refine (eqIntS_same Ax0 At5 len0 cx0 ct5 z0 _ Inz0.out.1 (by unfold maxLen; omega) (Reads.of_own Ox0_7.out) (Reads.of_own Ot5_7.out)).mono ?_
  rintro e w8 ⟨rfl, hb⟩
  have BW8 := Lib.hid (BW7.out.trans (hb.mono BW7.out.size))
  have sz8 : w7.heap.size ≤ w8.heap.size := hb.size
  have Ox0_8 := Lib.hid (own_below Ox0_7.out hb)
  have Ox1_8 := Lib.hid (own_below Ox1_7.out hb)
  have Ot5_8 := Lib.hid (own_below Ot5_7.out hb)
  clear hb
  clear Ox0_8 Ux0
  clear Ot5_8 Ut5
  go_wp2_with fail
  refine (toIntS_any a1 len1 cap1 z1 _ Inz1.out.1 Inz1.out.2.1 (Inz1.out.2.2.1.below BW8.out)).mono ?_
  rintro e w9 ⟨v, rfl, ho, hb⟩
  have BW9 := Lib.hid (BW8.out.trans (hb.mono BW8.out.size))
  have sz9 : w8.heap.size ≤ w9.heap.size := hb.size
  have Ox1_9 := Lib.hid (own_below Ox1_8.out hb)
  obtain ⟨At6, ct6, rfl⟩ := own_slice ho
  have Ut6 := Lib.hid (fun k (hk : (Value.slice At6 len1 ct6).ownBlock = some k) => (ho.lt k hk).2)
  have Ot6_9 := Lib.hid ho
  clear ho
  clear hb
  go_wp2_with fail
  refine (eqIntS_same Ax1 At6 len1 cx1 ct6 z1 _ Inz1.out.1 (by unfold maxLen; omega) (Reads.of_own Ox1_9.out) (Reads.of_own Ot6_9.out)).mono ?_
  rintro e w10 ⟨rfl, hb⟩
  have BW10 := Lib.hid (BW9.out.trans (hb.mono BW9.out.size))
  have sz10 : w9.heap.size ≤ w10.heap.size := hb.size
  have Ox1_10 := Lib.hid (own_below Ox1_9.out hb)
  have Ot6_10 := Lib.hid (own_below Ot6_9.out hb)
  clear hb
  clear Ox1_10 Ux1
  clear Ot6_10 Ut6
  go_wp2_with fail
  go_ret
  exact ⟨rfl, BW10.out⟩
-- THE FRAME, by wip/tools/frame.py
theorem own : ownKnob Try.prog.godebug = none := by kernel_rfl
theorem laidOut : laidOutB Try.prog = true := by kernel_rfl

set_option maxRecDepth 100000 in
theorem lifted (os : Os) (started : os.Started) (H : Type) (enc : TypeId × Value → H) :
    ReturnsInHanded {} Try.checked os 6 .any (Rows.fnExactNatCmpSpec.pre6 enc Try.prog Try.f6 Rows.fnExactNatCmpRow.domain false) (Rows.fnExactNatCmpSpec.post enc Try.prog Try.f6 false true false false) := by
  refine returnsInHanded_of_change (C := Try.checked) own started (by kernel_rfl) Try.func6
    (ChangeSpec.witness6 (enc := enc) (C := Try.checked) false ⟨#[], #[.slice none 0 0, .slice none 0 0], []⟩ 8 (by kernel_rfl) (by kernel_rfl) (by kernel_rfl) (by kernel_rfl)) ?_
  intro W base args ds gs before hval0 hW _ _
  have hval : ∀ (j : Nat) t v, Try.f6.params[j]? = some t → args[j]? = some v → Value.okWide Try.prog W .any base t v := hval0
  have hW' := hW
  obtain ⟨p, q, hA0, hV, rfl, _, _⟩ := hW
  have hA : DataW.TrodAll enc Try.prog W 0 (fun _ => true) true Try.f6.params.toList args.toList ds p := hA0
  rw [Try.params6] at hA hval
  obtain ⟨v0, vs0, d0, ds0, p0, q0, hargs, rfl, rfl, h0, r0⟩ := trodAll_cons hA
  obtain ⟨v1, vs1, d1, ds1, p1, q1, rfl, rfl, rfl, h1, r1⟩ := trodAll_cons r0
  obtain ⟨rfl, rfl, rfl⟩ := trodAll_nil r1
  obtain rfl : args = #[v0, v1] := by cases args; simp_all
  obtain ⟨rfl, rfl⟩ := trodVars_none hV
  obtain ⟨a0, len0, cap0, rfl⟩ := okWide_slice Try.underlying22 (hval 0 22 v0 rfl rfl)
  have k0 := h0
  have lt0 : ∀ x ∈ p0, x.block < W.heap.size := by obtain ⟨m, hm⟩ := k0; exact DataW.trod_lt m _ _ _ hm
  obtain ⟨z0, w0⟩ := isInts_of Try.underlying22 Try.underlying3 (by kernel_rfl) h0
  obtain ⟨a1, len1, cap1, rfl⟩ := okWide_slice Try.underlying22 (hval 1 22 v1 rfl rfl)
  have k1 := h1
  have lt1 : ∀ x ∈ p1, x.block < W.heap.size := by obtain ⟨m, hm⟩ := k1; exact DataW.trod_lt m _ _ _ hm
  obtain ⟨z1, w1⟩ := isInts_of Try.underlying22 Try.underlying3 (by kernel_rfl) h1
  clear hA0 hval0
  refine (walk (w := W) a0 len0 cap0 z0 w0 a1 len1 cap1 z1 w1).mono fun e W' ⟨he, bel⟩ => ?_
  subst he
  exact ⟨_, rfl, _, _, _, [], _, [], hW', trodAll_mk1 (shut_bool Try.underlying4 _), (trodAll_cons_mk (Below.trod laidOut (by kernel_rfl) (of_decide_eq_true (by kernel_rfl)) k0 bel lt0) (trodAll_cons_mk (Below.trod laidOut (by kernel_rfl) (of_decide_eq_true (by kernel_rfl)) k1 bel lt1) trodAll_mk0)), rfl, bel.frame _, fun h => by cases h⟩

theorem over : Rows.fnExactNatCmpRow.holds Try.pinned (OpenSpec.ofChange Rows.fnExactNatCmpSpec) :=
  OpenClaim.holds_of_wide 6 Try.f6 rfl rfl rfl rfl rfl rfl rfl ⟨rfl, rfl, rfl, rfl, rfl⟩ rfl rfl rfl rfl rfl (by kernel_rfl) Try.func6 (by kernel_rfl)
    (of_decide_eq_true (by kernel_rfl)) (by unfold Func.isWrapper; rw [if_neg (of_decide_eq_false (by kernel_rfl))]; exact ⟨rfl, rfl⟩)
    (fun os started H enc _ => lifted os started H enc)

theorem proved : Rows.FnExactNatCmpSaid := over
end Go.Proofs.Yteghhaefpbkjnaa.fnExactNatCmp
