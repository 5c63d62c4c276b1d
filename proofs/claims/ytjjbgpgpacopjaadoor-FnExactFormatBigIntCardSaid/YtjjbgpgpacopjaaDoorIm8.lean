/- Contracts of the program's long division. -/
import Derived.Test.YtjjbgpgpacopjaaDoorIm7
import Derived.Test.YtjjbgpgpacopjaaDoorApp
namespace Go.Proofs.YtjjbgpgpacopjaaDoor
open Go.RowKit

theorem top_pos {l : List Int} {m : Nat} (h : InR l) (hl : m < l.length) (hl2 : l.length ≤ m + 1) (hv : pw m ≤ val l) : 1 ≤ l[m] := by
  have h0 := h _ (List.getElem_mem hl)
  have h1 := val_split l m (by omega)
  have h2 := take_bd h m (by omega)
  have h3 := val_drop_at hl
  rw [List.drop_eq_nil_of_le hl2] at h3
  by_cases e : l[m] = 0
  · rw [h3, e] at h1; simp [val] at h1; omega
  · omega
/-- What a division ends in: quotient and remainder, in memory of their own. -/
def DivEnd (a b : Int) (B : Nat) (w w' : World) (e : Ending) : Prop := ∃ q v r u, e = .returned (.tuple #[v, u]) ∧ DivIs a b q r ∧ q.length ≤ B ∧ r.length ≤ B ∧ w'.ownsRow w.heap.size 3 1 v q.length (q.map (.int .i64)) ∧ w'.ownsRow w.heap.size 3 1 u r.length (r.map (.int .i64)) ∧ Apart u v ∧ Below w.heap.size w w'
theorem scale_bd {t : Int} (t1 : 1 ≤ t) (t2 : t ≤ 999999999) : 1 ≤ 1000000000 / (t + 1) ∧ 1000000000 / (t + 1) ≤ 500000000 ∧ (t + 1) * (1000000000 / (t + 1)) ≤ 1000000000 := by
  have h1 : 1000000000 / (t + 1) * (t + 1) ≤ 1000000000 := Int.ediv_mul_le _ (by omega)
  have h2 : 1 ≤ 1000000000 / (t + 1) := (Int.le_ediv_iff_mul_le (by omega)).2 (by omega)
  refine ⟨h2, ?_, by rw [Int.mul_comm]; exact h1⟩
  have h3 : 1000000000 / (t + 1) * 2 ≤ 1000000000 / (t + 1) * (t + 1) := Int.mul_le_mul_of_nonneg_left (by omega) (by omega)
  omega
/-- The scaled divisor has no more limbs. -/
theorem scaled_lt {ys : List Int} {m : Nat} {t s : Int} (h : InR ys) (hl : m < ys.length) (hl2 : ys.length = m + 1) (ht : t = ys[m]) (s1 : 1 ≤ s) (hs : (t + 1) * s ≤ 1000000000) : val ys * s < pw (m + 1) := by
  have h1 := val_split ys m (by omega)
  have h2 := take_bd h m (by omega)
  have h3 := val_drop_at hl
  rw [List.drop_eq_nil_of_le (show ys.length ≤ m + 1 by omega), ← ht] at h3
  simp only [val] at h3
  have h4 : val ys + 1 ≤ (t + 1) * pw m := by rw [Int.add_mul, Int.one_mul, Int.mul_comm t]; rw [h3] at h1; simp only [Int.mul_zero, Int.add_zero] at h1; omega
  have h5 : (val ys + 1) * s ≤ (t + 1) * pw m * s := Int.mul_le_mul_of_nonneg_right h4 (by omega)
  have h6 : (t + 1) * s * pw m ≤ 1000000000 * pw m := Int.mul_le_mul_of_nonneg_right hs (by have := pw_pos m; omega)
  have h7 : (t + 1) * pw m * s = (t + 1) * s * pw m := by grind
  rw [Int.add_mul, Int.one_mul] at h5
  rw [pw]; omega
/-- The start of a long division. -/
theorem LongAt.start {A s B : Int} {n1 m M : Nat} {R : List Int} (hR : R.length = n1 + 1) (hr : InR R) (hv : val R = A * s) (hM : M + m = n1) (hA : A < pw n1) (hB : pw m ≤ B) (s1 : 1 ≤ s) : LongAt (A * s) (B * s) (n1 + 1) M M (List.replicate M 0) R := by
  refine ⟨by simp, zeros_inR _, hR, hr, ?_, by rw [List.drop_eq_nil_of_le (by simp)]; simp [val, hv]⟩
  have h1 := val_split R M (by omega)
  have h2 := val_nonneg (hr.take M)
  have h3 : A * s < pw n1 * s := Int.mul_lt_mul_of_pos_right hA (by omega)
  have h4 : pw m * s ≤ B * s := Int.mul_le_mul_of_nonneg_right hB (by omega)
  have h5 : pw n1 * s = pw M * (pw m * s) := by rw [← hM, pw_add, Int.mul_assoc]
  have h6 : pw M * val (R.drop M) < pw M * (pw m * s) := by omega
  have h7 := Int.lt_of_mul_lt_mul_left h6 (by have := pw_pos M; omega)
  omega

theorem own_grown_none {w w' : World} {base : Nat} {E : TypeId} {size n : Nat} {v : Value} {xs : List Value} (h : w.ownsRow base E size v n xs) (hg : w.grownBy w' none) : w'.ownsRow base E size v n xs :=
  h.kept hg (by cases hv : v.ownBlock <;> simp)
theorem own_grown_ne {w w' : World} {base : Nat} {E : TypeId} {size n c g g' : Nat} {xs : List Value} (h : w.ownsRow base E size (.slice (some ⟨g, 0, none⟩) n c) n xs) (hg : w.grownBy w' (some g')) (hne : g ≠ g') : w'.ownsRow base E size (.slice (some ⟨g, 0, none⟩) n c) n xs :=
  h.kept hg (.inr (by simp [Value.ownBlock, hne]))
/-- A long division under way: what lies in memory. -/
def LongMem (base g1 g2 g3 n1 n2 M : Nat) (t D : Int) (ds : List Int) (wr : World) (k : Nat) (q r : List Int) : Prop :=
  LongAt t D (n1 + 1) M k q r ∧ wr.ownsRow base 3 1 (.slice (some ⟨g1, 0, none⟩) (n1 + 1) (n1 + 1)) (n1 + 1) (r.map (.int .i64)) ∧ wr.ownsRow base 3 1 (.slice (some ⟨g2, 0, none⟩) n2 (n2 + 1)) n2 (ds.map (.int .i64)) ∧ wr.ownsRow base 3 1 (.slice (some ⟨g3, 0, none⟩) M M) M (q.map (.int .i64))
end Go.Proofs.YtjjbgpgpacopjaaDoor
