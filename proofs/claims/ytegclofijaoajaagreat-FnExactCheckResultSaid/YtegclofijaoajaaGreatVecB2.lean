/- Contracts of vectors: the inner product, by the program. -/
import Derived.Test.YtegclofijaoajaaGreatVecB
import Derived.Test.YtegclofijaoajaaGreatVecI3
namespace Go.Proofs.YtegclofijaoajaaGreat
set_option maxRecDepth 100000
open Go.RowKit

end Go.Proofs.YtegclofijaoajaaGreat
