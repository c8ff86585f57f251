/- the exact laws TreeFault, SameTrees and NewTree, walked, out of what the function and its specification answer. -/
import Derived.Test.YtjlmkjcahnnjpaaDoorZ5
namespace Go.Proofs.YtjlmkjcahnnjpaaDoor
open Go.RowKit

end Go.Proofs.YtjlmkjcahnnjpaaDoor
