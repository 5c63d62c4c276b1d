/- Contracts of the program's natural numbers: sums, differences, products. -/
import Derived.Test.YtbfanjalinkmhaaDoorIm2
namespace Go.Proofs.YtbfanjalinkmhaaDoor
set_option maxRecDepth 100000
open Go.RowKit

/-- A sum after k places: the limbs, the carry. -/
def SumAt (xs ys : List Int) (L k : Nat) (cy : Int) (os : List Int) : Prop := os.length = L + 1 ∧ InR os ∧ val os + pw k * cy = val (xs.take k) + val (ys.take k) ∧ ZeroFrom os k ∧ 0 ≤ cy ∧ cy ≤ 1
theorem SumAt.start (xs ys : List Int) (L : Nat) : SumAt xs ys L 0 0 (List.replicate (L + 1) 0) :=
  ⟨by simp, zeros_inR _, by rw [zeros_val]; simp [val], zeros_from _ _, by omega, by omega⟩
theorem SumAt.step {xs ys os : List Int} {L k : Nat} {cy x y : Int} (h : SumAt xs ys L k cy os) (hx : lim xs k = x) (hy : lim ys k = y) (x0 : 0 ≤ x) (x1 : x ≤ 999999999) (y0 : 0 ≤ y) (y1 : y ≤ 999999999) (hk : k < L) :
    SumAt xs ys L (k + 1) ((cy + (x + y)) / 1000000000) (os.set k ((cy + (x + y)) % 1000000000)) := by
  obtain ⟨h1, h2, h3, h4, h5, h6⟩ := h
  have hio : k < os.length := by omega
  refine ⟨by simpa using h1, h2.set _ (by omega) (by omega), ?_, h4.set_last _, by omega, by omega⟩
  rw [val_set _ _ _ hio, h4 _ hio (Nat.le_refl _), val_take_succ, val_take_succ, hx, hy, pw]
  have e := Int.mul_ediv_add_emod (cy + (x + y)) 1000000000
  grind
theorem SumAt.last {xs ys os : List Int} {L : Nat} {cy : Int} (h : SumAt xs ys L L cy os) (hx : xs.length ≤ L) (hy : ys.length ≤ L) : InR (os.set L cy) ∧ val (os.set L cy) = val xs + val ys ∧ (os.set L cy).length = L + 1 := by
  obtain ⟨h1, h2, h3, h4, h5, h6⟩ := h
  rw [List.take_of_length_le hx, List.take_of_length_le hy] at h3
  refine ⟨h2.set _ h5 (by omega), ?_, by simpa using h1⟩
  rw [val_set _ _ _ (by omega), h4 _ (by omega) (Nat.le_refl _), Int.sub_zero]; exact h3
/-- A difference after k places: the limbs, what is still to be taken off. -/
def DiffAt (xs ys : List Int) (L k : Nat) (bo : Int) (os : List Int) : Prop := os.length = L ∧ InR os ∧ val os = val (xs.take k) - val (ys.take k) + pw k * bo ∧ ZeroFrom os k ∧ 0 ≤ bo ∧ bo ≤ 1
theorem DiffAt.start (xs ys : List Int) (L : Nat) : DiffAt xs ys L 0 0 (List.replicate L 0) :=
  ⟨by simp, zeros_inR _, by rw [zeros_val]; simp [val], zeros_from _ _, by omega, by omega⟩
theorem DiffAt.step0 {xs ys os : List Int} {L k : Nat} {bo x y d : Int} (h : DiffAt xs ys L k bo os) (hx : lim xs k = x) (hy : lim ys k = y) (x1 : x ≤ 999999999) (y0 : 0 ≤ y) (hk : k < L) (hd : d = x - y - bo) (d0 : 0 ≤ d) :
    DiffAt xs ys L (k + 1) 0 (os.set k d) := by
  obtain ⟨h1, h2, h3, h4, h5, h6⟩ := h
  have hio : k < os.length := by omega
  refine ⟨by simpa using h1, h2.set _ (by omega) (by omega), ?_, h4.set_last _, by omega, by omega⟩
  rw [val_set _ _ _ hio, h4 _ hio (Nat.le_refl _), val_take_succ, val_take_succ, hx, hy, hd]
  grind
theorem DiffAt.step1 {xs ys os : List Int} {L k : Nat} {bo x y d : Int} (h : DiffAt xs ys L k bo os) (hx : lim xs k = x) (hy : lim ys k = y) (x0 : 0 ≤ x) (y1 : y ≤ 999999999) (hk : k < L) (hd : d = x - y - bo) (d0 : d < 0) :
    DiffAt xs ys L (k + 1) 1 (os.set k (d + 1000000000)) := by
  obtain ⟨h1, h2, h3, h4, h5, h6⟩ := h
  have hio : k < os.length := by omega
  refine ⟨by simpa using h1, h2.set _ (by omega) (by omega), ?_, h4.set_last _, by omega, by omega⟩
  rw [val_set _ _ _ hio, h4 _ hio (Nat.le_refl _), val_take_succ, val_take_succ, hx, hy, hd, pw]
  grind
theorem DiffAt.done {xs ys os : List Int} {k : Nat} {bo : Int} (h : DiffAt xs ys k k bo os) (hx : xs.length ≤ k) (hy : ys.length ≤ k) (hle : val ys ≤ val xs) : InR os ∧ val os = val xs - val ys ∧ os.length = k := by
  obtain ⟨h1, h2, h3, h4, h5, h6⟩ := h
  rw [List.take_of_length_le hx, List.take_of_length_le hy] at h3
  have h7 := val_lt h2
  rw [h1] at h7
  have hb0 : bo = 0 := by
    by_cases e : bo = 0
    · exact e
    · have e1 : bo = 1 := by omega
      rw [e1, Int.mul_one] at h3; omega
  subst hb0
  exact ⟨h2, by rw [h3]; simp, h1⟩
/-- Trimmed and limited: what the cut list gives. -/
theorem capEnd_of {xs : List Int} {A : Option Addr} {c m : Nat} {e : Ending} (ht : Trimmed xs m) (h : (60 < m ∧ e = .returned (.slice none 0 0)) ∨ (m ≤ 60 ∧ e = .returned (.slice A m c))) : CapEnd xs A c e := ⟨m, ht, h⟩
/-- An ending with a list of its own: what it is, where it lies. -/
def BinEnd (Q : List Int → Prop) (w w' : World) (e : Ending) : Prop := ∃ rs v, e = .returned v ∧ Q rs ∧ ResI w w' v rs ∧ Below w.heap.size w w'

end Go.Proofs.YtbfanjalinkmhaaDoor
