/- Contracts of vectors, by the program: combined element by element. -/
import Derived.Test.YtdehcddjkcpnfaaGreatGW
import Derived.Test.YtdehcddjkcpnfaaGreatGE
namespace Go.Proofs.YtdehcddjkcpnfaaGreat
set_option maxRecDepth 100000
open Go.RowKit

end Go.Proofs.YtdehcddjkcpnfaaGreat
