/- the exact laws TreeFault, SameTrees and NewTree, walked, out of what the function and its specification answer. -/
import Derived.Test.YtlnkheopmagacaaDoorZ5
namespace Go.Proofs.YtlnkheopmagacaaDoor
open Go.RowKit

end Go.Proofs.YtlnkheopmagacaaDoor
