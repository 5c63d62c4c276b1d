/- Contract of ParseRat, by the program: the library's variable that a search reads. -/
import Derived.Test.YtkigfakfadoopaaGreatDoorGR
import Derived.Test.YtkigfakfadoopaaGreatDoorShelf
import Derived.Lib.IndexMore
namespace Go.Proofs.YtkigfakfadoopaaGreatDoor
set_option maxRecDepth 100000
open Go.RowKit

/-- strings.Cut at a slash. -/
theorem cut_one : ∀ l : List UInt8, Lib.cut l [47] = cut1 l
  | [] => rfl
  | b :: l => by
    have ih := cut_one l
    have hge := Lib.index_ge l [47]
    unfold Lib.cut at ih ⊢
    unfold cut1
    by_cases hb : b = 47
    · have e : Lib.index (b :: l) [47] = 0 := by subst hb; unfold Lib.index; simp [List.isPrefixOf]
      rw [e, if_pos hb]; simp
    · have hp : ([47] : List UInt8).isPrefixOf (b :: l) = false := by simp [List.isPrefixOf]; exact fun h => hb h.symm
      have e : Lib.index (b :: l) [47] = if Lib.index l [47] == -1 then -1 else Lib.index l [47] + 1 := by
        rw [Lib.index, hp]; simp
      rw [if_neg hb, e, ← ih]
      by_cases hn : 0 ≤ Lib.index l [47]
      · have h1 : (Lib.index l [47] == -1) = false := by simp; omega
        have h2 : (Lib.index l [47] + 1).toNat = (Lib.index l [47]).toNat + 1 := by omega
        rw [h1]
        simp only [Bool.false_eq_true, if_false]
        rw [if_pos hn, if_pos (by omega : 0 ≤ Lib.index l [47] + 1), h2]
        simp
      · have h1 : (Lib.index l [47] == -1) = true := by simp; omega
        rw [h1, if_neg hn]
        simp
/-- The library's variable that a search reads holds a number. -/
def MaxAt (w : World) : Prop := ∃ m, w.cell? ⟨0, 0, none⟩ = some (.int .i64 m)
theorem MaxAt.below {w w' : World} (h : MaxAt w) (hb : Below w.heap.size w w') (h0 : 0 < w.heap.size) : MaxAt w' := by
  obtain ⟨m, h⟩ := h
  exact ⟨m, by rw [(bcell hb).1 0 _ h0]; exact h⟩
theorem maxAt_shaped {w : World} (h : w.ShapedOpen Tryz.prog) : MaxAt w := Tryz.laysM145.s1_3 w h
end Go.Proofs.YtkigfakfadoopaaGreatDoor
