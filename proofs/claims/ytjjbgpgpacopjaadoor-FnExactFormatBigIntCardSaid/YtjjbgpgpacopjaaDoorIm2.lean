/- Contracts of the program's natural numbers: sums, differences, products, the way back to int. -/
import Derived.Test.YtjjbgpgpacopjaaDoorIm1
namespace Go.Proofs.YtjjbgpgpacopjaaDoor
open Go.RowKit





theorem maxOf_val {r : List Int} (h : NatOfIs 9223372036854775807 r) : Canon r ∧ val r = 9223372036854775807 := ⟨h.1, by rw [h.2]; rfl⟩
end Go.Proofs.YtjjbgpgpacopjaaDoor
