/- Contracts of the model's natural numbers: one digit of a long division. -/
import Derived.Test.YtjjbgpgpacopjaaDoorNat4
import Derived.Test.YtjjbgpgpacopjaaDoorApp
namespace Go.Proofs.YtjjbgpgpacopjaaDoor
open Go.RowKit

def DigEnd (R D : Int) (e : Ending) : Prop := ∃ q, e = .returned (.int .i64 q) ∧ q * D ≤ R ∧ R < (q + 1) * D ∧ 0 ≤ q ∧ q ≤ 999999999

theorem dig_start {R D P x t : Int} (hP : 0 < P) (e1 : x * P ≤ R) (e2 : R < (x + 1) * P) (e3 : t * P ≤ D) (e4 : D ≤ (t + 1) * P) (x0 : 0 ≤ x) (t1 : 1 ≤ t) (hlt : R < 1000000000 * D) (hD : 0 < D) :
    Dig R D (x / (t + 1)) (if x / t < 999999999 then x / t else 999999999) := by
  have g1 := (guess (q := 0) hP e1 e2 e3 e4 x0 t1).1
  have g2 := lt_guess hP e2 e3 x0 t1
  have g3 := (guess (q := 0) hP e1 e2 e3 e4 x0 t1).2.2
  have up : ∀ hi, R < (hi + 1) * D → x / (t + 1) ≤ hi := fun hi h => by
    have : x / (t + 1) < hi + 1 := Int.lt_of_mul_lt_mul_right (a := D) (by omega) (by omega)
    omega
  split
  · exact ⟨g1, g2, g3, up _ g2, by omega⟩
  · exact ⟨g1, by omega, g3, up _ (by omega), by omega⟩

end Go.Proofs.YtjjbgpgpacopjaaDoor
