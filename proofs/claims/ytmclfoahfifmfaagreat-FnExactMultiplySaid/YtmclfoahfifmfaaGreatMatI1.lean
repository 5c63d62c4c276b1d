/- Contracts of matrices, by the program: an element, a row, copied. -/
import Derived.Test.YtmclfoahfifmfaaGreatMatI
import Derived.Test.YtmclfoahfifmfaaGreatMatS1
import Derived.Test.YtmclfoahfifmfaaGreatGK
namespace Go.Proofs.YtmclfoahfifmfaaGreat
set_option maxRecDepth 100000
open Go.RowKit

end Go.Proofs.YtmclfoahfifmfaaGreat
