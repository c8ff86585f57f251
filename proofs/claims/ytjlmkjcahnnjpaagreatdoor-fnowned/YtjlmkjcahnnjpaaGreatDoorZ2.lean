/- laws.toZnodeS: a fresh slice of the same nodes. -/
import Derived.Test.YtjlmkjcahnnjpaaGreatDoorZ1
namespace Go.Proofs.YtjlmkjcahnnjpaaGreatDoor
open Go.RowKit

end Go.Proofs.YtjlmkjcahnnjpaaGreatDoor
