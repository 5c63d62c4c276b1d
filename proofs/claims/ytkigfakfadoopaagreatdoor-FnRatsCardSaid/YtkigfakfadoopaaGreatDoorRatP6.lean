/- Contract of ParseRat, by the program: the text of a key, at any length that a text has. -/
import Derived.Test.YtkigfakfadoopaaGreatDoorRatP5
namespace Go.Proofs.YtkigfakfadoopaaGreatDoor
set_option maxRecDepth 100000
open Go.RowKit

theorem cut1_len : ∀ l : List UInt8, (cut1 l).1.length ≤ l.length ∧ (cut1 l).2.1.length ≤ l.length
  | [] => ⟨Nat.le_refl _, Nat.le_refl _⟩
  | b :: l => by
    have ih := cut1_len l
    unfold cut1
    by_cases h : b = 47
    · rw [if_pos h]; simp
    · rw [if_neg h]; simp; omega
theorem size_list (l : List UInt8) : (⟨l.toArray⟩ : ByteArray).size = l.length := by show l.toArray.size = _; simp
theorem numT_size (s : ByteArray) : (numT s).size ≤ s.size := by
  have := (cut1_len s.data.toList).1
  rw [len_size] at this
  unfold numT
  rw [size_list]; exact this
theorem denT_size (s : ByteArray) : (denT s).size ≤ s.size + 1 := by
  have := (cut1_len s.data.toList).2
  rw [len_size] at this
  unfold denT
  split
  · have h : (⟨(cut1 s.data.toList).2.1.toArray⟩ : ByteArray).size = (cut1 s.data.toList).2.1.length := size_list _
    omega
  · have h : (⟨#[49]⟩ : ByteArray).size = 1 := rfl
    omega
theorem MaxAt.pos {w : World} (h : MaxAt w) : 0 < w.heap.size := by
  obtain ⟨m, h⟩ := h
  rcases Nat.lt_or_ge 0 w.heap.size with k | k
  · exact k
  · exfalso
    have e : w.heap[0]? = none := Array.getElem?_eq_none k
    simp [World.cell?, e] at h
set_option maxHeartbeats 400000 in
theorem impl_text' (a b : ByteArray) (w : World) (ha : a.size ≤ 1048576) (hb : b.size ≤ 1048577) :
    Calls Tryz.prog 29 #[.agg #[.string a, .string b]] w fun e w' => e = .returned (.string (keyText a b)) ∧ Below w.heap.size w w' := by
  by_cases h : b = ⟨#[49]⟩
  · have HF : Hid (keyText a b = a) := if_pos h
    have ht : (b.toList == [49]) = true := by simpa using list49.2 h
    clear h
    go_enter Tryz.func29, Tryz.ntmps29
    go_wp2_with fail
    go_ret
    exact ⟨ret_str HF.out.symm, (Below.refl _ _).alloc (Nat.le_refl _) _⟩
  · have HF : Hid (keyText a b = a ++ ⟨#[47]⟩ ++ b) := if_neg h
    have ht : (b.toList == [49]) = false := by simpa using fun e => h (list49.1 e)
    clear h
    go_enter Tryz.func29, Tryz.ntmps29
    go_wp2_with fail
    go_ret
    exact ⟨ret_str HF.out.symm, (Below.refl _ _).alloc (Nat.le_refl _) _⟩
end Go.Proofs.YtkigfakfadoopaaGreatDoor
