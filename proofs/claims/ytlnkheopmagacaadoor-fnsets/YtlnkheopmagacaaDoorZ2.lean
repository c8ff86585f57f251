/- laws.toZnodeS: a fresh slice of the same nodes. -/
import Derived.Test.YtlnkheopmagacaaDoorZ1
namespace Go.Proofs.YtlnkheopmagacaaDoor
open Go.RowKit

end Go.Proofs.YtlnkheopmagacaaDoor
