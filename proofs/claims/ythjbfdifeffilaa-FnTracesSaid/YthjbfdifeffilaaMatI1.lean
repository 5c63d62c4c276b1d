/- Contracts of matrices, by the program: an element, a row, copied. -/
import Derived.Test.YthjbfdifeffilaaMatI
import Derived.Test.YthjbfdifeffilaaMatS1
import Derived.Test.YthjbfdifeffilaaGK
namespace Go.Proofs.Ythjbfdifeffilaa
set_option maxRecDepth 100000
open Go.RowKit

end Go.Proofs.Ythjbfdifeffilaa
