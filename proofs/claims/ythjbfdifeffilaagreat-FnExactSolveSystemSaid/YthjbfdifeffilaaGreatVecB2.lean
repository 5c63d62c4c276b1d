/- Contracts of vectors: the inner product, by the program. -/
import Derived.Test.YthjbfdifeffilaaGreatVecB
import Derived.Test.YthjbfdifeffilaaGreatVecI3
namespace Go.Proofs.YthjbfdifeffilaaGreat
set_option maxRecDepth 100000
open Go.RowKit

end Go.Proofs.YthjbfdifeffilaaGreat
