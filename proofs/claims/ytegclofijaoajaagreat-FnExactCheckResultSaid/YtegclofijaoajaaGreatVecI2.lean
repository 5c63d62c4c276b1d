/- Contracts of vectors, by the program: combined element by element. -/
import Derived.Test.YtegclofijaoajaaGreatGW
import Derived.Test.YtegclofijaoajaaGreatGE
namespace Go.Proofs.YtegclofijaoajaaGreat
set_option maxRecDepth 100000
open Go.RowKit

end Go.Proofs.YtegclofijaoajaaGreat
