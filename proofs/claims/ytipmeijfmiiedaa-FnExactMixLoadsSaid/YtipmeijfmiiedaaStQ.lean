/- Lists of joints and of members compared, by the program and by the model: SameStructures. -/
import Derived.Test.YtipmeijfmiiedaaStM6
import Derived.Laws.StructEq
import Derived.BigQuiet
namespace Go.Proofs.Ytipmeijfmiiedaa
set_option maxRecDepth 100000
open Go.RowKit

theorem toList_ne {s t : ByteArray} (h : s ≠ t) : ¬ s.toList = t.toList := fun e => h (by
  rw [ByteArray.toList_eq, ByteArray.toList_eq] at e
  obtain ⟨⟨x⟩⟩ := s
  obtain ⟨⟨y⟩⟩ := t
  simp at e
  rw [e])
theorem jd_ne {s t : ByteArray} {x y x' y' : Int} {f f' : Bool} (h : (⟨s, x, y, f⟩ : JD) ≠ ⟨t, x', y', f'⟩) : ¬ s.toList = t.toList ∨ (s = t ∧ ¬ x = x') ∨ (s = t ∧ x = x' ∧ ¬ y = y') ∨ (s = t ∧ x = x' ∧ y = y' ∧ ¬ f = f') := by
  by_cases h0 : s = t
  · subst h0
    by_cases h1 : x = x'
    · subst h1
      by_cases h2 : y = y'
      · subst h2
        exact .inr (.inr (.inr ⟨rfl, rfl, rfl, fun e => h (by rw [e])⟩))
      · exact .inr (.inr (.inl ⟨rfl, rfl, h2⟩))
    · exact .inr (.inl ⟨rfl, h1⟩)
  · exact .inl (toList_ne h0)
theorem md_ne {x y z x' y' z' : Int} (h : (⟨x, y, z⟩ : MD) ≠ ⟨x', y', z'⟩) : ¬ x = x' ∨ (x = x' ∧ ¬ y = y') ∨ (x = x' ∧ y = y' ∧ ¬ z = z') := by
  by_cases h1 : x = x'
  · subst h1
    by_cases h2 : y = y'
    · subst h2
      exact .inr (.inr ⟨rfl, rfl, fun e => h (by rw [e])⟩)
    · exact .inr (.inl ⟨rfl, h2⟩)
  · exact .inl h1
/-- A function that tells whether Q holds. -/
def YesEnd (Q : Prop) (w w' : World) (e : Ending) : Prop := ∃ b, e = .returned (.bool b) ∧ (b = true ↔ Q) ∧ Below w.heap.size w w'
theorem yes_no {Q : Prop} {w w' : World} (h : ¬ Q) (hb : Below w.heap.size w w') : YesEnd Q w w' (.returned (.bool false)) := ⟨false, rfl, ⟨fun q => (by cases q), fun q => absurd q h⟩, hb⟩
theorem yes_yes {Q : Prop} {w w' : World} (h : Q) (hb : Below w.heap.size w w') : YesEnd Q w w' (.returned (.bool true)) := ⟨true, rfl, ⟨fun _ => h, fun _ => rfl⟩, hb⟩
theorem take_ne {α : Type} {xs ys : List α} {k : Nat} {x y : α} (hx : xs[k]? = some x) (hy : ys[k]? = some y) (h : x ≠ y) : xs ≠ ys := fun e => by
  subst e
  rw [hx] at hy
  exact h (Option.some.inj hy)
theorem take_eq {α : Type} {xs ys : List α} {k : Nat} {x : α} (h : xs.take k = ys.take k) (hx : xs[k]? = some x) (hy : ys[k]? = some x) : xs.take (k + 1) = ys.take (k + 1) := by
  obtain ⟨h1, h2⟩ := List.getElem?_eq_some_iff.1 hx
  obtain ⟨h3, h4⟩ := List.getElem?_eq_some_iff.1 hy
  rw [List.take_succ_eq_append_getElem h1, List.take_succ_eq_append_getElem h3, h, h2, h4]
end Go.Proofs.Ytipmeijfmiiedaa
