/- laws.toZnodeS: a fresh slice of the same nodes. -/
import Derived.Test.YtmiffefnpendoaaGreatDoorZ1
namespace Go.Proofs.YtmiffefnpendoaaGreatDoor
open Go.RowKit

end Go.Proofs.YtmiffefnpendoaaGreatDoor
