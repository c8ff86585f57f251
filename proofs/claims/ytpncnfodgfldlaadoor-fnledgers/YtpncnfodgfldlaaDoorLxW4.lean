/- chapter 1's functions over readPath and codeOfPath: PathFault, isName, DeepIn. -/
import Derived.Test.YtpncnfodgfldlaaDoorLxW3
import Derived.Test.YtpncnfodgfldlaaDoorLxAs
namespace Go.Proofs.YtpncnfodgfldlaaDoor
open Go.RowKit
end Go.Proofs.YtpncnfodgfldlaaDoor
