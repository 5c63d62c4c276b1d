/- Matrices in memory: what the functions on matrices end in; a list of fractions beside a variable that is written; rows of a list that was handed in. -/
import Derived.Test.YtegclofijaoajaaGreatMat
import Derived.Test.YtegclofijaoajaaGreatGV
namespace Go.Proofs.YtegclofijaoajaaGreat
set_option maxRecDepth 100000
open Go.RowKit

theorem own_le {w : World} {base : Nat} {E : TypeId} {size n c : Nat} {A : Option Addr} {xs : List Value} (h : w.ownsRow base E size (.slice A n c) n xs) : n ≤ c := by
  rcases h.2 with ⟨hv, h0⟩ | ⟨g, cap, cur, hv, _, _, hc, _⟩
  · omega
  · cases hv; exact hc
def MatEnd (Q : Int → Int → List RD → Prop) (w w' : World) (e : Ending) : Prop := ∃ p k r V, e = .returned (.agg #[.int .i64 p, .int .i64 k, V]) ∧ Q p k r ∧ ResV w w' V r ∧ Below w.heap.size w w'
def MatOkEnd (Q : Int → Int → List RD → Bool → Prop) (w w' : World) (e : Ending) : Prop := ∃ p k r V b, e = .returned (.tuple #[.agg #[.int .i64 p, .int .i64 k, V], .bool b]) ∧ Q p k r b ∧ ResV w w' V r ∧ Below w.heap.size w w'
section
variable {w W : World} {gb n base : Nat} {cs : Array Value} {p k : Int} {V : Value} {r : List RD} {L : List El}
end
def MOkEnd (p k : Int) (rs : List RD) (w w' : World) (e : Ending) : Prop := ∃ b, e = .returned (.bool b) ∧ MatrixOkIs p k rs b ∧ Below w.heap.size w w'
def EqMEnd (p k : Int) (rs : List RD) (p' k' : Int) (ss : List RD) (w w' : World) (e : Ending) : Prop := ∃ b, e = .returned (.bool b) ∧ EqualMatricesIs p k rs p' k' ss b ∧ Below w.heap.size w w'
/-- Row u / K of a list that lies at A: where it lies. -/
def MRowAt (A A' : Option Addr) (K u : Nat) : Prop := K = 0 ∨ ∃ b o, A = some ⟨b, o, none⟩ ∧ A' = some ⟨b, o + u * 3, none⟩
def MRowEnd (A : Option Addr) (K u : Nat) (w w' : World) (e : Ending) : Prop := ∃ A' c', e = .returned (.slice A' K c') ∧ K ≤ c' ∧ MRowAt A A' K u ∧ Below w.heap.size w w'
theorem InV.row {w : World} {A A' : Option Addr} {n K i : Nat} {rs : List RD} (h : InV w A n rs) (hr : MRowAt A A' K (i * K)) (hle : i * K + K ≤ n) (hK : K ≤ 24) : InV w A' K (mrow K rs i) := by
  have hl : (mrow K rs i).length = K := by simp only [mrow, List.length_take, List.length_drop]; have := h.1; omega
  refine ⟨hl, by omega, ?_⟩
  rcases hr with h0 | ⟨b, o, rfl, rfl⟩
  · exact .inl h0
  · by_cases h0 : K = 0
    · exact .inl h0
    rcases h.2.2 with hn | ⟨b', o', hA, hlt, hat⟩
    · omega
    · cases hA
      refine .inr ⟨b, _, rfl, hlt, fun j hj => ?_⟩
      rw [hl] at hj
      have hx : i * K + j < rs.length := by have := h.1; omega
      have e : (mrow K rs i)[j] = rs[i * K + j] := by
        have := mrow_at (rs := rs) (i := i) hj
        rw [List.getElem?_eq_getElem (by rw [hl]; exact hj), List.getElem?_eq_getElem hx] at this
        exact Option.some.inj this
      rw [e, show o + i * K * 3 + j * 3 = o + (i * K + j) * 3 by omega]
      exact hat _ hx
/-- An element, as it lies there. -/
def AtEnd (r : RD) (w w' : World) (e : Ending) : Prop := ∃ A n c B m d, e = .returned (.agg #[.bool r.g, .slice A n c, .slice B m d]) ∧ InI w' A n r.xs ∧ Room A n c ∧ InI w' B m r.ds ∧ Room B m d ∧ Below w.heap.size w w'
end Go.Proofs.YtegclofijaoajaaGreat
