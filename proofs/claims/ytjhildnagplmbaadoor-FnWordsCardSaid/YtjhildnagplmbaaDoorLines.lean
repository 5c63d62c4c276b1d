/- Contracts of the functions that split a text into lines: the model's and the program's. -/
import Derived.Test.YtjhildnagplmbaaDoorSplit
import Derived.WalkSmall
namespace Go.Proofs.YtjhildnagplmbaaDoor
open Go.RowKit

def nl : ByteArray := ⟨#[10]⟩
/-- What follows the last newline. -/
def rest (s : ByteArray) : ByteArray := s.extract (begins s nl s.size) s.size
def linesL (s : ByteArray) : List ByteArray := if (rest s).toList.isEmpty then pieces s nl s.size else splitAll s nl
theorem linesL_le (s : ByteArray) : (linesL s).length ≤ s.size + 1 := by
  have h1 := pieces_le s nl s.size
  have h2 := splitAll_le s nl
  unfold linesL; split <;> omega

/-- The row of all pieces, cut by one where the last is empty. -/
theorem lines_own {w : World} {base : Nat} {g c : Nat} {s : ByteArray} (h : w.ownsRow base 9 1 (.slice (some ⟨g, 0, none⟩) (splitAll s nl).length c) (splitAll s nl).length ((splitAll s nl).map .string)) (he : (rest s).toList.isEmpty = true) :
    w.ownsRow base 9 1 (.slice (some ⟨g, 0, none⟩) (linesL s).length c) (linesL s).length ((linesL s).map .string) := by
  rw [splitAll_length] at h
  unfold linesL
  rw [if_pos he]
  unfold splitAll at h
  rw [List.map_append] at h
  exact ownsRow_pop (by simp) h

theorem lines_len {s : ByteArray} {N : Nat} (hN : (pieces s nl s.size).length = N) (hc : (rest s).toList.isEmpty = true) : (linesL s).length = N := by
  unfold linesL; rw [if_pos hc]; exact hN


set_option maxHeartbeats 800000 in
theorem impl_splitLines (s : ByteArray) (w : World) (hs : s.size ≤ 1048576) :
    Calls Tryd.prog 13 #[.string s] w fun e w' => ∃ v, e = .returned v ∧ w'.ownsRow w.heap.size 9 1 v (linesL s).length ((linesL s).map .string) ∧ Below w.heap.size w w' := by
  have hp := pieces_le s nl s.size
  have hl := splitAll_length s nl
  generalize hN : (pieces s nl s.size).length = N at hp hl
  have Hl := Lib.hid hl
  have HN := Lib.hid hN
  clear hl hN
  go_enter Tryd.func13, Tryd.ntmps13
  go_wp2_with fail
  refine (impl_splitAny s nl _ (by omega) (by decide)).mono ?_
  rintro e w1 ⟨v1, rfl, ho, hb⟩
  obtain ⟨A, c, rfl⟩ := own_slice ho
  obtain ⟨g, rfl, hbase, hgs⟩ := own_at ho (by rw [Hl.out]; omega)
  have O := Lib.hid ho
  have hcap := (own_cap ho).1
  rw [Hl.out] at hcap
  have hB := Lib.hid hb
  have hcell : w1.cell? ⟨g, N, none⟩ = some (.string (rest s)) := by
    rw [ho.cellAt N (by rw [Hl.out]; omega)]
    unfold splitAll
    rw [List.map_append, List.getElem?_append_right (by simp [HN.out]), List.length_map, HN.out, Nat.sub_self]
    rfl
  clear ho hb
  rw [Hl.out]
  cases hc : (rest s).toList.isEmpty
  · have hfin : Hid (w1.ownsRow w.heap.size 9 1 (.slice (some ⟨g, 0, none⟩) (N + 1) c) (linesL s).length ((linesL s).map .string)) := by
      have := O.out
      unfold Hid linesL
      rw [if_neg (by rw [hc]; simp)]
      rwa [Hl.out] at this ⊢
    go_wp2_with fail
    go_ret
    exact ⟨_, rfl, hfin.out, hB.out⟩
  · have hfin := Lib.hid (lines_own O.out hc)
    rw [lines_len HN.out hc] at hfin
    go_wp2_with fail
    go_ret
    exact ⟨_, rfl, by rw [lines_len HN.out hc]; exact hfin.out, hB.out⟩
end Go.Proofs.YtjhildnagplmbaaDoor
