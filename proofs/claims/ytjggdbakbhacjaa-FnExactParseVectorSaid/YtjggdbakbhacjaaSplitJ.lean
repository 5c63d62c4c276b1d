/- Plain facts: what is split at a space is joined again. No program is named here. -/
import Derived.Test.YtjggdbakbhacjaaGP
namespace Go.Proofs.Ytjggdbakbhacjaa
set_option maxRecDepth 100000
open Go.RowKit

def sp : ByteArray := ⟨#[32]⟩
theorem join_step (p : List UInt8) (q : List (List UInt8)) (d : List UInt8) (h : q ≠ []) : Lib.join (p :: q) d = p ++ d ++ Lib.join q d := by
  match q, h with
  | x :: r, _ => rw [Lib.join_cons, Lib.join_cons]; simp [Lib.joinTail]
theorem join_all (d : List UInt8) (last : List UInt8) : ∀ P : List (List UInt8), Lib.join (P ++ [last]) d = (P.map (· ++ d)).flatten ++ last
  | [] => by simp [Lib.join_one]
  | p :: P => by
    rw [List.cons_append, join_step _ _ _ (by simp), join_all d last P]; simp
theorem pieces_text (s : ByteArray) : ∀ k, k ≤ s.size → (((pieces s sp k).map (·.data.toList)).map (· ++ [32])).flatten = s.data.toList.take (begins s sp k)
  | 0, _ => by simp [pieces, begins, splitS]
  | k + 1, h => by
    have ih := pieces_text s k (by omega)
    have hb := begins_le s sp k
    cases hc : sp.data.toList.contains (byteAt s k)
    · rw [(split_miss hc).1, (split_miss hc).2]; exact ih
    · rw [(split_hit hc).1, (split_hit hc).2]
      have hbyte : s[k]'(by omega) = 32 := by
        rw [List.contains_iff_mem, byteAt_lt (by omega)] at hc
        simpa [sp] using hc
      have ht := take_snoc s k (by omega)
      rw [List.map_append, List.map_append, List.flatten_append, ih, ht, hbyte]
      have h2 : s.data.toList.take k = s.data.toList.take (begins s sp k) ++ (s.data.toList.drop (begins s sp k)).take (k - begins s sp k) := by
        rw [← List.take_add]; congr 1; omega
      rw [h2]
      simp
theorem split_join (s : ByteArray) : joinB (splitAll s sp) sp (splitAll s sp).length = s := by
  unfold joinB jb
  rw [List.take_of_length_le (Nat.le_refl _)]
  have h := pieces_text s s.size (Nat.le_refl _)
  unfold splitAll
  rw [List.map_append, List.map_cons, List.map_nil, show sp.data.toList = [32] from rfl, join_all, h, Lib.extract_data, List.take_of_length_le (l := List.drop _ _) (by simp), List.take_append_drop]
/-- If no piece is empty, there are not many. -/
theorem few_pieces {s : ByteArray} (h : ∀ p ∈ splitAll s sp, 1 ≤ p.size) : 2 * (splitAll s sp).length ≤ s.size + 1 := by
  have hj := split_join s
  have hs : s.size = (joinB (splitAll s sp) sp (splitAll s sp).length).size := by rw [hj]
  rw [hs, joinB_size]
  unfold jb
  rw [List.take_of_length_le (Nat.le_refl _)]
  unfold splitAll at h ⊢
  generalize pieces s sp s.size = P at h ⊢
  generalize s.extract (begins s sp s.size) s.size = last at h ⊢
  rw [List.map_append, List.map_cons, List.map_nil, show sp.data.toList = [32] from rfl, join_all]
  have h1 : 1 ≤ last.data.toList.length := by rw [len_size]; exact h last (by simp)
  have h2 : ∀ Q : List ByteArray, (∀ p ∈ Q, 1 ≤ p.size) → 2 * Q.length ≤ ((Q.map (·.data.toList)).map (· ++ [32])).flatten.length := by
    intro Q
    induction Q with
    | nil => intro _; simp
    | cons p Q ih =>
      intro hq
      have i1 := ih fun x hx => hq x (by simp [hx])
      have i2 : 1 ≤ p.data.toList.length := by rw [len_size]; exact hq p (by simp)
      simp only [List.map_cons, List.flatten_cons, List.length_append, List.length_cons, List.length_nil]
      omega
  have h3 := h2 P fun p hp => h p (by simp [hp])
  simp only [List.length_append, List.length_cons, List.length_nil]
  omega
end Go.Proofs.Ytjggdbakbhacjaa
