/- Contracts of vectors: the inner product, by the model. -/
import Derived.Test.YtegclofijaoajaaGreatVecB
import Derived.Test.YtegclofijaoajaaGreatGW
import Derived.Deep.RegionWith
namespace Go.Proofs.YtegclofijaoajaaGreat
set_option maxRecDepth 100000
open Go.RowKit

def NilEnd (xs : List Int) (w w' : World) (e : Ending) : Prop := ∃ b, e = .returned (.bool b) ∧ (b = true ↔ xs = []) ∧ Below w.heap.size w w'
theorem in_gr {w : World} {base c : Nat} {A : Option Addr} {r : List Int} (hl : r.length ≤ 24) (hr : InR r) (ho : w.ownsRow base 3 1 (.slice A r.length c) r.length (r.map (.int .i64))) : InI w A r.length r := ⟨rfl, by omega, Reads.of_own ho, limbs_bd hr⟩
end Go.Proofs.YtegclofijaoajaaGreat
