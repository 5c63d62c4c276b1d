/- Contracts of the elimination, by the program: the search for the next pivot, which leaves two loops by a label. -/
import Derived.Test.YtegclofijaoajaaGreatEL
import Derived.Test.YtegclofijaoajaaGreatMatI6
import Derived.Test.YtegclofijaoajaaGreatGK
import Derived.Deep.LoopGhost
namespace Go.Proofs.YtegclofijaoajaaGreat
set_option maxRecDepth 100000
open Go.RowKit

def FindIs (P K : Nat) (rs : List RD) (n : Nat) (r c : Int) (b : Bool) : Prop :=
  (∃ i k : Nat, r = i ∧ c = k ∧ b = true ∧ k < K ∧ firstRow P K rs n k = some i ∧ ∀ j, j < k → firstRow P K rs n j = none) ∨ (r = 0 ∧ c = 0 ∧ b = false ∧ ∀ j, j < K → firstRow P K rs n j = none)
def FindEnd (P K : Nat) (rs : List RD) (n : Nat) (w w' : World) (e : Ending) : Prop := ∃ r c b, e = .returned (.tuple #[.int .i64 r, .int .i64 c, .bool b]) ∧ FindIs P K rs n r c b ∧ Below w.heap.size w w'
end Go.Proofs.YtegclofijaoajaaGreat
