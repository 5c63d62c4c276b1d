/- Contracts of linear programs, by the program: valid or not. -/
import Derived.Test.YtipmeijfmiiedaaLpS
import Derived.BigQuiet
import Derived.Deep.RegionWith
namespace Go.Proofs.Ytipmeijfmiiedaa
set_option maxRecDepth 100000
open Go.RowKit

end Go.Proofs.Ytipmeijfmiiedaa
