/- Contracts of matrices, by the model: the sum; results with a number that is too large. -/
import Derived.Test.YthjbfdifeffilaaMatS
import Derived.Test.YthjbfdifeffilaaGW
import Derived.Test.YthjbfdifeffilaaRatS5
import Derived.Deep.RegionLaw
namespace Go.Proofs.Ythjbfdifeffilaa
set_option maxRecDepth 100000
open Go.RowKit

def DoneMEnd (p k : Int) (A : Option Addr) (n c : Nat) (rs : List RD) (w w' : World) (e : Ending) : Prop :=
  (((∀ r ∈ rs, r.ok) ∧ e = .returned (.tuple #[.agg #[.int .i64 p, .int .i64 k, .slice A n c], .bool true])) ∨ (¬ (∀ r ∈ rs, r.ok) ∧ e = .returned (.tuple #[.agg #[.int .i64 0, .int .i64 0, .slice none 0 0], .bool false]))) ∧ Below w.heap.size w w'
theorem add_no {p k p' k' : Int} {rs ss : List RD} (h : ¬ (MOk p k rs ∧ MOk p' k' ss ∧ p = p' ∧ k = k')) : AddMatricesIs p k rs p' k' ss 0 0 [] false := matDone_no fun h2 => h h2.1
end Go.Proofs.Ythjbfdifeffilaa
