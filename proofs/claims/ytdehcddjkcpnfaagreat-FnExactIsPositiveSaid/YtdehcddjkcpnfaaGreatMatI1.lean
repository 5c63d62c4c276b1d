/- Contracts of matrices, by the program: an element, a row, copied. -/
import Derived.Test.YtdehcddjkcpnfaaGreatMatI
import Derived.Test.YtdehcddjkcpnfaaGreatMatS1
import Derived.Test.YtdehcddjkcpnfaaGreatGK
namespace Go.Proofs.YtdehcddjkcpnfaaGreat
set_option maxRecDepth 100000
open Go.RowKit

end Go.Proofs.YtdehcddjkcpnfaaGreat
