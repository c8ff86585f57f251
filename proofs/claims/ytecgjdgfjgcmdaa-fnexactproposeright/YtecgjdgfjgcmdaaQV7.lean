/- PickOf: the program's. -/
import Derived.Test.YtecgjdgfjgcmdaaQV7b
namespace Go.Proofs.Ytecgjdgfjgcmdaa
open Go.RowKit

end Go.Proofs.Ytecgjdgfjgcmdaa
