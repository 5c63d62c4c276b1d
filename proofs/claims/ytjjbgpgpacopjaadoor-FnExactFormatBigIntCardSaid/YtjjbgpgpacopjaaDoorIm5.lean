/- Contracts of the program's natural numbers: products. -/
import Derived.Test.YtjjbgpgpacopjaaDoorIm4
namespace Go.Proofs.YtjjbgpgpacopjaaDoor
open Go.RowKit

end Go.Proofs.YtjjbgpgpacopjaaDoor
