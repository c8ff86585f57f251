/- the exact laws TreeFault, SameTrees and NewTree, walked, out of what the function and its specification answer. -/
import Derived.Test.YtjlmkjcahnnjpaaGreatDoorZ5
namespace Go.Proofs.YtjlmkjcahnnjpaaGreatDoor
open Go.RowKit

end Go.Proofs.YtjlmkjcahnnjpaaGreatDoor
