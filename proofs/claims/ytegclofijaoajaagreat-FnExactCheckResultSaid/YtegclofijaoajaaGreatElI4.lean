/- Contracts of the elimination, by the program: a row divided by its pivot. -/
import Derived.Test.YtegclofijaoajaaGreatElimM
import Derived.Test.YtegclofijaoajaaGreatVecC2
import Derived.Test.YtegclofijaoajaaGreatVecB3
namespace Go.Proofs.YtegclofijaoajaaGreat
set_option maxRecDepth 100000
open Go.RowKit

/-- What a change in place reports: true, and what lies there now, or false where a number is too large. -/
def ChOkEnd (base G N c : Nat) (L0 : List El) (zs : List RD) (w w' : World) (e : Ending) : Prop :=
  ∃ b, e = .returned (.bool b) ∧ (b = true ↔ AllOk zs) ∧ (b = true → ∃ L, OwnV w' base (.slice (some ⟨G, 0, none⟩) N c) N L ∧ Has L zs ∧ FootIn w L0 L) ∧ Wrote (fun k => k = G) w w'
end Go.Proofs.YtegclofijaoajaaGreat
