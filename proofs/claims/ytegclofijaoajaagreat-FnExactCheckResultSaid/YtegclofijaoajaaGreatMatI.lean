/- Contracts of matrices, by the program: sizes, rows, valid or not, new ones. -/
import Derived.Test.YtegclofijaoajaaGreatMatC
import Derived.BigQuiet
namespace Go.Proofs.YtegclofijaoajaaGreat
set_option maxRecDepth 100000
open Go.RowKit

theorem below_drewN {B : Nat} {a w : World} (h : Below B a w) (n : Nat) : Below B a (w.drewN n) := ⟨h.os, h.tape, h.output, h.size, h.block⟩
/-- A new list of zero values, in a struct. -/
def NewMEnd (P K : Nat) (w w' : World) (e : Ending) : Prop := ∃ g, e = .returned (.agg #[.int .i64 P, .int .i64 K, .slice (some ⟨g, 0, none⟩) (P * K) (P * K)]) ∧ OwnV w' w.heap.size (.slice (some ⟨g, 0, none⟩) (P * K) (P * K)) (P * K) (List.replicate (P * K) El.zero) ∧ Below w.heap.size w w'
end Go.Proofs.YtegclofijaoajaaGreat
