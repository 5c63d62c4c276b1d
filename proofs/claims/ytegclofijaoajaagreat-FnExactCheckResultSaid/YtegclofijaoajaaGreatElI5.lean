/- Contracts of the elimination, by the program: a column made 0 outside one row. -/
import Derived.Test.YtegclofijaoajaaGreatElI4
import Derived.Test.YtegclofijaoajaaGreatVecI3
import Derived.Test.YtegclofijaoajaaGreatGK
import Derived.Test.YtegclofijaoajaaGreatElI2
namespace Go.Proofs.YtegclofijaoajaaGreat
set_option maxRecDepth 100000
open Go.RowKit

/-- The rows before i are done. -/
noncomputable def clrTo (P K : Nat) (rs : List RD) (n k i : Nat) : List RD := mk P K fun a b => if a < i then clr K rs n k a b else cell K rs a b
section
variable {P K n k i : Nat} {rs : List RD}
end
end Go.Proofs.YtegclofijaoajaaGreat
