/- Contracts of the programs that search for certificates, by the model. -/
import Derived.Test.YtipmeijfmiiedaaFarD
import Derived.Test.YtipmeijfmiiedaaLpS
import Derived.Test.YtipmeijfmiiedaaAppZ
namespace Go.Proofs.Ytipmeijfmiiedaa
set_option maxRecDepth 100000
open Go.RowKit

theorem frows_le {K P j : Nat} {la : List Int} (hj : j ≤ K) (hP : P ≤ 9) (hK : K ≤ 16) : (frows K la P j).length ≤ 544 := by
  rw [frows_length]
  exact Nat.le_trans (Nat.mul_le_mul (show j ≤ 16 by omega) (show P + P + K ≤ 34 by omega)) (by decide)
theorem own_len' {w : World} {base n : Nat} {v : Value} {xs : List Int} (h : w.ownsRow base 3 1 v n (xs.map (.int .i64))) : xs.length = n := by have := h.1; simpa using this
end Go.Proofs.Ytipmeijfmiiedaa
