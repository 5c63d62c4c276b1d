/- Contracts of the model's natural numbers: differences, products, the way back to int. -/
import Derived.Test.YteghhaefpbkjnaaNat
namespace Go.Proofs.Yteghhaefpbkjnaa
open Go.RowKit

theorem own_lower {w : World} {base base' : Nat} {E : TypeId} {size n : Nat} {v : Value} {xs : List Value} (h : w.ownsRow base E size v n xs) (hb : base' ≤ base) : w.ownsRow base' E size v n xs := by
  refine ⟨h.1, ?_⟩
  rcases h.2 with h | ⟨g, cap, cur, h1, h2, h3⟩
  · exact .inl h
  · exact .inr ⟨g, cap, cur, h1, by omega, h3⟩

set_option maxHeartbeats 800000 in
theorem spec_natSub (A1 : Option Addr) (n1 c1 : Nat) (xs : List Int) (A2 : Option Addr) (n2 c2 : Nat) (ys : List Int) (w : World) (h1 : InI w A1 n1 xs) (h2 : InI w A2 n2 ys) :
    Calls Try.prog 27 #[.slice A1 n1 c1, .slice A2 n2 c2] w fun e w' => ∃ rs v, e = .returned v ∧ NatSubIs xs ys rs ∧ ResI w w' v rs ∧ Below w.heap.size w w' := by
  have H1 := Lib.hid h1
  have H2 := Lib.hid h2
  clear h1 h2
  go_enter Try.func27, Try.ntmps27
  go_wp2_with fail
  refine (spec_natOk' A1 n1 c1 xs _ H1.out).mono ?_
  rintro e w' ⟨⟨b1, rfl, ho1⟩, rfl⟩
  cases b1
  · have hfin : Hid (NatSubIs xs ys []) := .inr ⟨(fun h => by have := ho1.2 h.1; cases this), rfl⟩
    clear ho1
    go_wp2_with fail
    go_ret
    exact ⟨[], _, rfl, hfin.out, ⟨by simp, World.ownsRow_nil _ _ _ _⟩, Below.refl _ _⟩
  have k1 := Lib.hid (ho1.1 rfl)
  clear ho1
  go_wp2_with fail
  refine (spec_natOk' A2 n2 c2 ys _ H2.out).mono ?_
  rintro e w' ⟨⟨b2, rfl, ho2⟩, rfl⟩
  cases b2
  · have hfin : Hid (NatSubIs xs ys []) := .inr ⟨(fun h => by have := ho2.2 h.2.1; cases this), rfl⟩
    clear ho2
    go_wp2_with fail
    go_ret
    exact ⟨[], _, rfl, hfin.out, ⟨by simp, World.ownsRow_nil _ _ _ _⟩, Below.refl _ _⟩
  have k2 := Lib.hid (ho2.1 rfl)
  clear ho2
  go_wp2_with fail
  refine (spec_cmp A1 n1 c1 xs A2 n2 c2 ys _ H1.out.canon H2.out.canon k1.out.1 k2.out.1).mono ?_
  rintro e w1 ⟨rfl, hb⟩
  have HB := Lib.hid hb
  by_cases hlt : val xs < val ys
  · have hfin : Hid (NatSubIs xs ys []) := .inr ⟨(fun h => by have := h.2.2; omega), rfl⟩
    rw [cmpV_lt hlt]
    clear hb hlt
    go_wp2_with fail
    go_ret
    exact ⟨[], _, rfl, hfin.out, ⟨by simp, World.ownsRow_nil _ _ _ _⟩, HB.out⟩
  have hge : Hid (val ys ≤ val xs) := Lib.hid (by omega)
  have hcm : 0 ≤ cmpV (val xs) (val ys) := by
    by_cases e : val xs = val ys
    · rw [cmpV_eq e]; omega
    · rw [cmpV_gt (by omega)]; omega
  obtain ⟨cm, hcm2⟩ : ∃ cm, cm = cmpV (val xs) (val ys) := ⟨_, rfl⟩
  rw [← hcm2] at hcm ⊢
  clear hb hlt hcm2
  go_wp2_with fail
  refine (spec_sub A1 n1 c1 xs A2 n2 c2 ys _ (H1.out.below HB.out).canon (H2.out.below HB.out).canon k1.out.1 k2.out.1 hge.out).mono ?_
  rintro e w2 ⟨r, A, c, rfl, hr, hv, hl, ho, hb2⟩
  have hfin : Hid (∃ rs v', v' = Value.slice A r.length c ∧ NatSubIs xs ys rs ∧ ResI w w2 v' rs ∧ Below w.heap.size w w2) := by
    have h60 : r.length ≤ 60 := by have := k1.out.2; rw [H1.out.1] at this; omega
    obtain ⟨hok, hcap⟩ := hr.ok h60
    exact ⟨r, _, rfl, .inl ⟨⟨k1.out, k2.out, hge.out⟩, r, hr, hv, hcap.symm⟩, ⟨by omega, own_lower ho HB.out.size⟩, HB.out.trans (hb2.mono HB.out.size)⟩
  obtain ⟨N, hN⟩ : ∃ N, N = r.length := ⟨_, rfl⟩
  rw [← hN] at hfin ⊢
  clear hr hv hl ho hb2 hN
  go_wp2_with fail
  go_ret
  obtain ⟨rs, v', rfl, h⟩ := hfin.out
  exact ⟨rs, _, rfl, h⟩
end Go.Proofs.Yteghhaefpbkjnaa
