/- Contracts of matrices, by the model: valid or not; rows and elements. -/
import Derived.Test.YtegclofijaoajaaGreatMatC
namespace Go.Proofs.YtegclofijaoajaaGreat
set_option maxRecDepth 100000
open Go.RowKit

end Go.Proofs.YtegclofijaoajaaGreat
