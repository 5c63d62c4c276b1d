/- Contracts of the programs that search for certificates, by the program: negated, weighted. -/
import Derived.Test.YtipmeijfmiiedaaFarD
import Derived.Test.YtipmeijfmiiedaaLpI2
import Derived.Test.YtipmeijfmiiedaaMakeF
namespace Go.Proofs.Ytipmeijfmiiedaa
set_option maxRecDepth 100000
open Go.RowKit

/-- The negatives, as the program has them. -/
def wneg (l : List Int) : List Int := l.map fun z => IntKind.i64.wrap (-z)
theorem wneg_length (l : List Int) : (wneg l).length = l.length := by simp [wneg]
theorem wneg_at {l : List Int} {i : Nat} {z : Int} (h : l[i]? = some z) : (wneg l)[i]? = some (IntKind.i64.wrap (-z)) := by simp [wneg, h]
theorem wneg_ent {l : List Int} (h : Ent l) : wneg l = ineg l := List.map_congr_left fun z hz => by
  have := h z hz
  rw [IntKind.wrap_i64]
  omega
end Go.Proofs.Ytipmeijfmiiedaa
