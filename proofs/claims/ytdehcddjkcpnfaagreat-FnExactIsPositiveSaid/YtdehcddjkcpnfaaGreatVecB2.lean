/- Contracts of vectors: the inner product, by the program. -/
import Derived.Test.YtdehcddjkcpnfaaGreatVecB
import Derived.Test.YtdehcddjkcpnfaaGreatVecI3
namespace Go.Proofs.YtdehcddjkcpnfaaGreat
set_option maxRecDepth 100000
open Go.RowKit

end Go.Proofs.YtdehcddjkcpnfaaGreat
