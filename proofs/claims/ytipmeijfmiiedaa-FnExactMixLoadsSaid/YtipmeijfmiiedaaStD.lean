/- Structures as data: joints and members, as values and as the cells of a list. -/
import Derived.Test.YtipmeijfmiiedaaGA
namespace Go.Proofs.Ytipmeijfmiiedaa
set_option maxRecDepth 100000
open Go.RowKit

/-- A joint. -/
structure JD where
  name : ByteArray
  x : Int
  y : Int
  fixed : Bool
/-- A member. -/
structure MD where
  a : Int
  b : Int
  k : Int
def JD.cells (j : JD) : List Value := [.string j.name, .int .i64 j.x, .int .i64 j.y, .bool j.fixed]
def jcells (l : List JD) : List Value := l.flatMap JD.cells
theorem jcells_nil : jcells [] = [] := rfl
theorem jcells_cons (j : JD) (l : List JD) : jcells (j :: l) = (.string j.name) :: (.int .i64 j.x) :: (.int .i64 j.y) :: (.bool j.fixed) :: jcells l := rfl
theorem jcells_append (l l' : List JD) : jcells (l ++ l') = jcells l ++ jcells l' := List.flatMap_append
theorem jcells_length (l : List JD) : (jcells l).length = l.length * 4 := by
  induction l with
  | nil => rfl
  | cons a l ih => simp only [jcells_cons, List.length_cons, ih]; omega
theorem jcells_at : ∀ (l : List JD) (i : Nat) (j : JD), l[i]? = some j → (jcells l)[i * 4]? = some (.string j.name) ∧ (jcells l)[i * 4 + 1]? = some (.int .i64 j.x) ∧ (jcells l)[i * 4 + 2]? = some (.int .i64 j.y) ∧ (jcells l)[i * 4 + 3]? = some (.bool j.fixed)
  | a :: l, 0, j, h => by
    obtain rfl : a = j := by simpa using h
    simp [jcells_cons]
  | a :: l, i + 1, j, h => by
    have := jcells_at l i j (by simpa using h)
    rw [jcells_cons, show (i + 1) * 4 = i * 4 + 1 + 1 + 1 + 1 by omega]
    simpa using this
theorem jcells_set : ∀ (l : List JD) (i : Nat) (j : JD), i < l.length → jcells (l.set i j) = (((((jcells l).set (i * 4) (.string j.name)).set (i * 4 + 1) (.int .i64 j.x)).set (i * 4 + 2) (.int .i64 j.y)).set (i * 4 + 3) (.bool j.fixed))
  | x :: l, 0, j, _ => by simp [jcells_cons]
  | x :: l, i + 1, j, h => by
    have := jcells_set l i j (by simpa using h)
    rw [List.set_cons_succ, jcells_cons, jcells_cons, this, show (i + 1) * 4 = i * 4 + 1 + 1 + 1 + 1 by omega]
    simp [List.set_cons_succ]
def JD.zero : JD := ⟨ByteArray.empty, 0, 0, false⟩
theorem jcells_zero (n : Nat) : (madeCells (Value.agg #[.string ByteArray.empty, .int .i64 0, .int .i64 0, .bool false]).cells (n * 4)).toList = jcells (List.replicate n JD.zero) := by
  apply List.ext_getElem?
  intro j
  by_cases hj : j < n * 4
  · have hi : (List.replicate n JD.zero)[j / 4]? = some JD.zero := by rw [List.getElem?_replicate, if_pos (by omega)]
    have hat := jcells_at _ _ _ hi
    have hm : j % 4 = 0 ∨ j % 4 = 1 ∨ j % 4 = 2 ∨ j % 4 = 3 := by omega
    have hq : j = j / 4 * 4 + j % 4 := by omega
    generalize j / 4 = q at hat hq
    generalize hr : j % 4 = r at hq hm
    have hmade : (madeCells (Value.agg #[.string ByteArray.empty, .int .i64 0, .int .i64 0, .bool false]).cells (n * 4)).toList[j]? = (Value.agg #[.string ByteArray.empty, .int .i64 0, .int .i64 0, .bool false]).cells[j % 4]? := by
      simp [madeCells, hj, Value.cells]
      rcases hm with rfl | rfl | rfl | rfl <;> rw [hr] <;> rfl
    rw [hmade, hr, hq]
    rcases hm with rfl | rfl | rfl | rfl
    · rw [Nat.add_zero, hat.1]; simp [Value.cells, JD.zero]
    · rw [hat.2.1]; simp [Value.cells, JD.zero]
    · rw [hat.2.2.1]; simp [Value.cells, JD.zero]
    · rw [hat.2.2.2]; simp [Value.cells, JD.zero]
  · have h1 : (madeCells (Value.agg #[.string ByteArray.empty, .int .i64 0, .int .i64 0, .bool false]).cells (n * 4)).toList.length = n * 4 := by simp [madeCells]
    rw [List.getElem?_eq_none (by omega), List.getElem?_eq_none (by rw [jcells_length]; simp; omega)]
def MD.cells (j : MD) : List Value := [.int .i64 j.a, .int .i64 j.b, .int .i64 j.k]
def mcells (l : List MD) : List Value := l.flatMap MD.cells
theorem mcells_nil : mcells [] = [] := rfl
theorem mcells_cons (j : MD) (l : List MD) : mcells (j :: l) = (.int .i64 j.a) :: (.int .i64 j.b) :: (.int .i64 j.k) :: mcells l := rfl
theorem mcells_append (l l' : List MD) : mcells (l ++ l') = mcells l ++ mcells l' := List.flatMap_append
theorem mcells_length (l : List MD) : (mcells l).length = l.length * 3 := by
  induction l with
  | nil => rfl
  | cons a l ih => simp only [mcells_cons, List.length_cons, ih]; omega
theorem mcells_at : ∀ (l : List MD) (i : Nat) (j : MD), l[i]? = some j → (mcells l)[i * 3]? = some (.int .i64 j.a) ∧ (mcells l)[i * 3 + 1]? = some (.int .i64 j.b) ∧ (mcells l)[i * 3 + 2]? = some (.int .i64 j.k)
  | a :: l, 0, j, h => by
    obtain rfl : a = j := by simpa using h
    simp [mcells_cons]
  | a :: l, i + 1, j, h => by
    have := mcells_at l i j (by simpa using h)
    rw [mcells_cons, show (i + 1) * 3 = i * 3 + 1 + 1 + 1 by omega]
    simpa using this
theorem mcells_set : ∀ (l : List MD) (i : Nat) (j : MD), i < l.length → mcells (l.set i j) = ((((mcells l).set (i * 3) (.int .i64 j.a)).set (i * 3 + 1) (.int .i64 j.b)).set (i * 3 + 2) (.int .i64 j.k))
  | x :: l, 0, j, _ => by simp [mcells_cons]
  | x :: l, i + 1, j, h => by
    have := mcells_set l i j (by simpa using h)
    rw [List.set_cons_succ, mcells_cons, mcells_cons, this, show (i + 1) * 3 = i * 3 + 1 + 1 + 1 by omega]
    simp [List.set_cons_succ]
def MD.zero : MD := ⟨0, 0, 0⟩
theorem mcells_zero (n : Nat) : (madeCells (Value.agg #[.int .i64 0, .int .i64 0, .int .i64 0]).cells (n * 3)).toList = mcells (List.replicate n MD.zero) := by
  apply List.ext_getElem?
  intro j
  by_cases hj : j < n * 3
  · have hi : (List.replicate n MD.zero)[j / 3]? = some MD.zero := by rw [List.getElem?_replicate, if_pos (by omega)]
    have hat := mcells_at _ _ _ hi
    have hm : j % 3 = 0 ∨ j % 3 = 1 ∨ j % 3 = 2 := by omega
    have hq : j = j / 3 * 3 + j % 3 := by omega
    generalize j / 3 = q at hat hq
    generalize hr : j % 3 = r at hq hm
    have hmade : (madeCells (Value.agg #[.int .i64 0, .int .i64 0, .int .i64 0]).cells (n * 3)).toList[j]? = (Value.agg #[.int .i64 0, .int .i64 0, .int .i64 0]).cells[j % 3]? := by
      simp [madeCells, hj, Value.cells]
      rcases hm with rfl | rfl | rfl <;> rw [hr] <;> rfl
    rw [hmade, hr, hq]
    rcases hm with rfl | rfl | rfl
    · rw [Nat.add_zero, hat.1]; simp [Value.cells, MD.zero]
    · rw [hat.2.1]; simp [Value.cells, MD.zero]
    · rw [hat.2.2]; simp [Value.cells, MD.zero]
  · have h1 : (madeCells (Value.agg #[.int .i64 0, .int .i64 0, .int .i64 0]).cells (n * 3)).toList.length = n * 3 := by simp [madeCells]
    rw [List.getElem?_eq_none (by omega), List.getElem?_eq_none (by rw [mcells_length]; simp; omega)]
end Go.Proofs.Ytipmeijfmiiedaa
