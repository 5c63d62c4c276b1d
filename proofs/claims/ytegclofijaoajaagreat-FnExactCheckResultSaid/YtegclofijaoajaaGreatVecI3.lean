/- Contracts of vectors, by the program: sums, differences, multiples. -/
import Derived.Test.YtegclofijaoajaaGreatVecI2
namespace Go.Proofs.YtegclofijaoajaaGreat
set_option maxRecDepth 100000
open Go.RowKit

def CheckedEnd (A : Option Addr) (n c : Nat) (rs : List RD) (w w' : World) (e : Ending) : Prop :=
  ((VOk rs ∧ e = .returned (.tuple #[.slice A n c, .bool true])) ∨ (¬ VOk rs ∧ e = .returned (.tuple #[.slice none 0 0, .bool false]))) ∧ Below w.heap.size w w'
end Go.Proofs.YtegclofijaoajaaGreat
