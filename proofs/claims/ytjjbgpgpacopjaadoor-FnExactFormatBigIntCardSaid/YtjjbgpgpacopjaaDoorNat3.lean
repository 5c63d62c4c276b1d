/- Contracts of the model's natural numbers: products. -/
import Derived.Test.YtjjbgpgpacopjaaDoorNat2
namespace Go.Proofs.YtjjbgpgpacopjaaDoor
open Go.RowKit

/-- The product after i whole rows: the limbs. -/
def MulAt (xs ys : List Int) (L i : Nat) (os : List Int) : Prop := os.length = L ∧ InR os ∧ val os = val (xs.take i) * val ys ∧ ZeroFrom os (i + ys.length)
/-- .. and j places into the next row, x its limb, cy the carry. -/
def RowAt (xs ys : List Int) (L i : Nat) (x : Int) (j : Nat) (cy : Int) (os : List Int) : Prop :=
  os.length = L ∧ InR os ∧ val os + pw (i + j) * cy = val (xs.take i) * val ys + pw i * (x * val (ys.take j)) ∧ ZeroFrom os (i + ys.length) ∧ 0 ≤ cy ∧ cy ≤ 999999999
theorem MulAt.row {xs ys os : List Int} {L i : Nat} (x : Int) (h : MulAt xs ys L i os) : RowAt xs ys L i x 0 0 os :=
  ⟨h.1, h.2.1, by rw [h.2.2.1]; simp [val], h.2.2.2, by omega, by omega⟩
theorem RowAt.step {xs ys os : List Int} {L i j : Nat} {x cy y o : Int} (h : RowAt xs ys L i x j cy os) (hj : j < ys.length) (hy : y = ys[j]) (hij : i + j < os.length) (ho : o = os[i + j]) (hS : 0 ≤ o + x * y + cy) (hS1 : o + x * y + cy ≤ 999999999999999999) :
    RowAt xs ys L i x (j + 1) ((o + x * y + cy) / 1000000000) (os.set (i + j) ((o + x * y + cy) % 1000000000)) := by
  obtain ⟨h1, h2, h3, h4, h5, h6⟩ := h
  refine ⟨by simpa using h1, h2.set _ (by omega) (by omega), ?_, h4.set (by omega) _, by omega, by omega⟩
  rw [val_set _ _ _ hij, val_take_succ, ← ho, ← Nat.add_assoc, pw]
  have hl : lim ys j = y := by unfold lim; rw [List.getD_eq_getElem?_getD, List.getElem?_eq_getElem hj, hy]; rfl
  rw [hl]
  have e : pw (i + j) * ((o + x * y + cy) % 1000000000 - o) + 1000000000 * pw (i + j) * ((o + x * y + cy) / 1000000000) = pw (i + j) * (x * y) + pw (i + j) * cy := by
    rw [Int.mul_comm 1000000000, Int.mul_assoc, ← Int.mul_add, ← Int.mul_add]
    congr 1; omega
  have e2 : pw i * (x * (val (ys.take j) + pw j * y)) = pw i * (x * val (ys.take j)) + pw (i + j) * (x * y) := by
    rw [Int.mul_add, Int.mul_add, pw_add, Int.mul_left_comm x (pw j) y, Int.mul_assoc]
  rw [e2]; omega
theorem RowAt.next {xs ys os : List Int} {L i : Nat} {x cy : Int} (h : RowAt xs ys L i x ys.length cy os) (hi : i < xs.length) (hx : x = xs[i]) (hl : i + ys.length < os.length) : MulAt xs ys L (i + 1) (os.set (i + ys.length) cy) := by
  obtain ⟨h1, h2, h3, h4, h5, h6⟩ := h
  refine ⟨by simpa using h1, h2.set _ h5 h6, ?_, by have := h4.set_last cy; rwa [Nat.add_right_comm] at this⟩
  have hlx : lim xs i = x := by unfold lim; rw [List.getD_eq_getElem?_getD, List.getElem?_eq_getElem hi, hx]; rfl
  rw [val_set _ _ _ hl, h4 _ hl (Nat.le_refl _), val_take_succ, hlx, Int.sub_zero, h3, List.take_of_length_le (Nat.le_refl _), Int.add_mul, Int.mul_assoc]

end Go.Proofs.YtjjbgpgpacopjaaDoor
