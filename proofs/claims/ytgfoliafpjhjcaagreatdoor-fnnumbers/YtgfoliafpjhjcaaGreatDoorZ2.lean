/- laws.toZnodeS: a fresh slice of the same nodes. -/
import Derived.Test.YtgfoliafpjhjcaaGreatDoorZ1
namespace Go.Proofs.YtgfoliafpjhjcaaGreatDoor
open Go.RowKit

end Go.Proofs.YtgfoliafpjhjcaaGreatDoor
