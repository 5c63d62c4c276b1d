/- Contracts of linear programs, by the model: valid or not, a column. -/
import Derived.Test.YtipmeijfmiiedaaLpM
import Derived.Test.YtipmeijfmiiedaaGN
import Derived.Test.YtipmeijfmiiedaaGA
namespace Go.Proofs.Ytipmeijfmiiedaa
set_option maxRecDepth 100000
open Go.RowKit

def LpOkEnd (Q : Prop) (w w' : World) (e : Ending) : Prop := ∃ b, e = .returned (.bool b) ∧ (b = true ↔ Q) ∧ Below w.heap.size w w'
theorem lpOk_no {Q : Prop} {w w' : World} (h : ¬ Q) (hb : Below w.heap.size w w') : LpOkEnd Q w w' (.returned (.bool false)) := ⟨false, rfl, ⟨fun e => (by cases e), fun q => absurd q h⟩, hb⟩
theorem lpOk_yes {Q : Prop} {w w' : World} (h : Q) (hb : Below w.heap.size w w') : LpOkEnd Q w w' (.returned (.bool true)) := ⟨true, rfl, ⟨fun _ => h, fun _ => rfl⟩, hb⟩
/-- What a test of entries ends in. -/
def EntEnd (la : List Int) (e : Ending) : Prop := ∃ b, e = .returned (.bool b) ∧ (b = true ↔ Ent la)
theorem ent_no {la : List Int} (h : ¬ Ent la) : EntEnd la (.returned (.bool false)) := ⟨false, rfl, ⟨fun e => (by cases e), fun q => absurd q h⟩⟩
theorem ent_yes {la : List Int} (h : Ent la) : EntEnd la (.returned (.bool true)) := ⟨true, rfl, ⟨fun _ => h, fun _ => rfl⟩⟩
theorem Ent.nil : Ent [] := fun z hz => by cases hz
theorem Ent.snoc {la : List Int} {k : Nat} {z : Int} (h : Ent (la.take k)) (hk : la[k]? = some z) (hz : -100 ≤ z ∧ z ≤ 100) : Ent (la.take (k + 1)) := by
  rw [List.take_add_one, hk]
  intro y hy
  rcases List.mem_append.1 hy with hy | hy
  · exact h y hy
  · obtain rfl : y = z := by simpa using hy
    exact hz
theorem ent_bad {la : List Int} {k : Nat} {z : Int} (hk : la[k]? = some z) (hz : ¬ (-100 ≤ z ∧ z ≤ 100)) : ¬ Ent la := fun h => hz (h z (List.mem_of_getElem? hk))
theorem cells_get {w : World} {b o k : Nat} {la : List Int} {z : Int} (hc : CellsAt w b o (la.map (.int .i64))) (hk : la[k]? = some z) : w.cell? ⟨b, o + k, none⟩ = some (.int .i64 z) := by
  obtain ⟨hlt, rfl⟩ := List.getElem?_eq_some_iff.1 hk
  exact (hc k (by simpa using hlt)).trans (by simp)
/-- An element of a list that was handed in. -/
theorem InI.get {w : World} {A : Option Addr} {n : Nat} {xs : List Int} (h : InI w A n xs) {k : Nat} (hk : k < n) : ∃ b o z, A = some ⟨b, o, none⟩ ∧ xs[k]? = some z ∧ w.cell? ⟨b, o + k, none⟩ = some (.int .i64 z) ∧ b < w.heap.size ∧ -9223372036854775808 ≤ z ∧ z ≤ 9223372036854775807 := by
  have hkx : k < xs.length := by rw [h.1]; exact hk
  obtain ⟨b, o, hA, hb, hc⟩ := h.2.2.1.at_ (by simp; omega)
  exact ⟨b, o, xs[k], hA, List.getElem?_eq_getElem hkx, cells_get hc (List.getElem?_eq_getElem hkx), hb, h.2.2.2 _ (List.getElem_mem _)⟩
theorem in_no' {n lo hi : Int} (h : (decide (lo ≤ n) && decide (n ≤ hi)) = false) : ¬ (lo ≤ n ∧ n ≤ hi) := by
  rw [← Bool.decide_and] at h
  exact of_decide_eq_false h
theorem in_yes' {n lo hi : Int} (h : (decide (lo ≤ n) && decide (n ≤ hi)) = true) : lo ≤ n ∧ n ≤ hi := by simpa using h
/-- A list of integers, handed back. -/
def IntsEnd (r : List Int) (w w' : World) (e : Ending) : Prop := ∃ v, e = .returned v ∧ ResI w w' v r ∧ Below w.heap.size w w'
theorem intsEnd_mk {r : List Int} {w w' : World} {v : Value} {n : Nat} (hn : r.length = n) (hm : n ≤ 4194304) (ho : w'.ownsRow w.heap.size 3 1 v n (r.map (.int .i64))) (hb : Below w.heap.size w w') : IntsEnd r w w' (.returned v) :=
  ⟨v, rfl, ⟨by omega, by rw [hn]; exact ho⟩, hb⟩
theorem place_nat {K p i j : Nat} (hi : i < p) (hj : j < K) : i * K + j < p * K := by
  have : (i + 1) * K ≤ p * K := Nat.mul_le_mul_right _ hi
  rw [Nat.succ_mul] at this
  omega
def ColEnd (p k : Int) (la lb lc : List Int) (j : Int) (w w' : World) (e : Ending) : Prop := ∃ r v, e = .returned v ∧ ColumnOfIs p k la lb lc j r ∧ ResI w w' v r ∧ Below w.heap.size w w'
theorem col_no {p k : Int} {la lb lc : List Int} {j : Int} {w w' : World} (h : ¬ ((LP.mk p k la lb lc).ok ∧ 0 ≤ j ∧ j < k)) (hb : Below w.heap.size w w') : ColEnd p k la lb lc j w w' (.returned (.slice none 0 0)) :=
  ⟨[], _, rfl, .inr ⟨h, rfl⟩, ⟨by simp, World.ownsRow_nil _ _ _ _⟩, hb⟩
theorem resI_lower {w w1 w' : World} {v : Value} {r : List Int} (h : ResI w1 w' v r) (hs : w.heap.size ≤ w1.heap.size) : ResI w w' v r := ⟨h.1, own_base h.2 hs⟩
end Go.Proofs.Ytipmeijfmiiedaa
