/- Contracts of the program's natural numbers: products. -/
import Derived.Test.YtbfanjalinkmhaaDoorIm4
namespace Go.Proofs.YtbfanjalinkmhaaDoor
set_option maxRecDepth 100000
open Go.RowKit

end Go.Proofs.YtbfanjalinkmhaaDoor
