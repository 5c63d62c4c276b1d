/- Contracts of the elimination, by the model: quotients, elements told by their cells, copies. -/
import Derived.Test.YtegclofijaoajaaGreatElimE
import Derived.Test.YtegclofijaoajaaGreatMatS1
import Derived.Test.YtegclofijaoajaaGreatMatI6
namespace Go.Proofs.YtegclofijaoajaaGreat
set_option maxRecDepth 100000
open Go.RowKit

def CopyVEnd (n : Nat) (rs : List RD) (w w' : World) (e : Ending) : Prop := ∃ A c L, e = .returned (.slice A n c) ∧ OwnV w' w.heap.size (.slice A n c) n L ∧ Has L rs ∧ Below w.heap.size w w'
def CopyMSEnd (P K n : Nat) (rs : List RD) (w w' : World) (e : Ending) : Prop := ∃ A c L, e = .returned (.agg #[.int .i64 P, .int .i64 K, .slice A n c]) ∧ OwnV w' w.heap.size (.slice A n c) n L ∧ Has L rs ∧ Below w.heap.size w w'
end Go.Proofs.YtegclofijaoajaaGreat
