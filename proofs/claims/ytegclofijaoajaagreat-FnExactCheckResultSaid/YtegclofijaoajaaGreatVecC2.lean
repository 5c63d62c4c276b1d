/- Contracts of vectors: multiples, by the program. -/
import Derived.Test.YtegclofijaoajaaGreatVecI3
namespace Go.Proofs.YtegclofijaoajaaGreat
set_option maxRecDepth 100000
open Go.RowKit

end Go.Proofs.YtegclofijaoajaaGreat
