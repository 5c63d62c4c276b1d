/- Contracts of vectors, by the model: sums and differences. -/
import Derived.Test.YtibheldbjjdinaaGreatGW
namespace Go.Proofs.YtibheldbjjdinaaGreat
set_option maxRecDepth 100000
open Go.RowKit

end Go.Proofs.YtibheldbjjdinaaGreat
