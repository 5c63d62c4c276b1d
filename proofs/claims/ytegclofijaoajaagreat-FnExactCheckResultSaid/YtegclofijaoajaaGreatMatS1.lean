/- Contracts of matrices, by the model: an element, a row, copied. -/
import Derived.Test.YtegclofijaoajaaGreatMatS
import Derived.Test.YtegclofijaoajaaGreatGK
namespace Go.Proofs.YtegclofijaoajaaGreat
set_option maxRecDepth 100000
open Go.RowKit

theorem MOk.at_ {P K : Nat} {rs : List RD} (h : MOk P K rs) {i j : Nat} (hi : i < P) (hj : j < K) : ∃ r, rs[i * K + j]? = some r ∧ r.ok := by
  have hl : rs.length = P * K := by have := h.2.2.1; rw [← Int.natCast_mul] at this; omega
  have hlt : i * K + j < rs.length := by rw [hl]; exact cell_lt hi hj
  exact ⟨_, List.getElem?_eq_getElem hlt, h.all _ (List.getElem_mem _)⟩
/-- Where the elements lie. -/
theorem InV.some_ {w : World} {A : Option Addr} {n : Nat} {rs : List RD} (h : InV w A n rs) (hn : 0 < n) : ∃ b o, A = some ⟨b, o, none⟩ := by
  rcases h.2.2 with h0 | ⟨b, o, hA, _⟩
  · omega
  · exact ⟨b, o, hA⟩
end Go.Proofs.YtegclofijaoajaaGreat
