/- Contracts of the model's natural numbers: long division. -/
import Derived.Test.YtjjbgpgpacopjaaDoorNat5
import Derived.Test.YtjjbgpgpacopjaaDoorIm9
namespace Go.Proofs.YtjjbgpgpacopjaaDoor
open Go.RowKit

/-- The model's long division down to place k: q the limbs of the quotient, r what is left. -/
def LongS (xs ys : List Int) (k : Nat) (q r : List Int) : Prop :=
  q.length = xs.length ∧ InR q ∧ (∀ j (h : j < q.length), j < k → q[j] = 0) ∧ val (q.drop k) * val ys + val r = val (xs.drop k) ∧ Canon r ∧ val r < val ys
theorem LongS.bring {xs ys q r : List Int} {i : Nat} {x : Int} (h : LongS xs ys (i + 1) q r) (hi : i < xs.length) (hx : x = xs[i]) (hxr : InR xs) : 0 ≤ x + 1000000000 * val r ∧ x + 1000000000 * val r < 1000000000 * val ys := by
  have h1 := hxr _ (List.getElem_mem hi)
  rw [← hx] at h1
  have h2 := val_nonneg h.2.2.2.2.1.1
  have h3 := h.2.2.2.2.2
  omega
theorem LongS.skip {xs ys q r r' : List Int} {i : Nat} {x : Int} (h : LongS xs ys (i + 1) q r) (hi : i < xs.length) (hx : x = xs[i]) (hr : Canon r') (hv : val r' = x + 1000000000 * val r) (hlt : val r' < val ys) : LongS xs ys i q r' := by
  obtain ⟨h1, h2, h3, h4, h5, h6⟩ := h
  refine ⟨h1, h2, fun j hj hk => h3 j hj (by omega), ?_, hr, hlt⟩
  rw [val_drop_at (show i < q.length by omega), val_drop_at hi, h3 i (by omega) (by omega), ← hx, hv, ← h4]
  grind
theorem LongS.take {xs ys q r r' : List Int} {i : Nat} {x d : Int} (h : LongS xs ys (i + 1) q r) (hi : i < xs.length) (hx : x = xs[i]) (hr : Canon r') (hv : val r' = x + 1000000000 * val r - val ys * d) (hlt : x + 1000000000 * val r < (d + 1) * val ys) (d0 : 0 ≤ d) (d1 : d ≤ 999999999) : LongS xs ys i (q.set i d) r' := by
  obtain ⟨h1, h2, h3, h4, h5, h6⟩ := h
  refine ⟨by simpa using h1, h2.set i d0 d1, fun j hj hk => by rw [List.getElem_set_ne (by omega)]; exact h3 j (by simpa using hj) (by omega), ?_, hr, ?_⟩
  · rw [val_drop_at (by simp; omega), List.getElem_set_self, List.drop_set_of_lt (by omega), val_drop_at hi, ← hx, hv, ← h4]
    grind
  · rw [hv, Int.mul_comm (val ys) d]; rw [Int.add_mul, Int.one_mul] at hlt; omega
theorem cons_val (x : Int) (r : List Int) : val (x :: r) = x + 1000000000 * val r := rfl

theorem own_over {w w' : World} {g : Nat} {E : TypeId} {size n : Nat} {v : Value} {xs : List Value} (h : w.ownsRow (g + 1) E size v n xs) (hg : w.grownBy w' (some g)) : w'.ownsRow (g + 1) E size v n xs := by
  refine h.kept hg ?_
  cases hv : v.ownBlock with
  | none => exact .inl rfl
  | some k => exact .inr (fun e => by cases e; have := (h.lt g hv).1; omega)
end Go.Proofs.YtjjbgpgpacopjaaDoor
