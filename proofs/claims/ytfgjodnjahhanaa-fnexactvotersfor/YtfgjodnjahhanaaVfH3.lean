/- SameMsgs: the specification's and the program's, and what they ask: messages behind pointers. -/
import Derived.Test.YtfgjodnjahhanaaVfH2
import Derived.Deep.RegionHeld3
namespace Go.Proofs.Ytfgjodnjahhanaa
open Go.RowKit
namespace Msg
def same {α : Type} [DecidableEq α] (zs ys : List α) : Bool := decide (zs = ys)
/-- Are they the same message? -/
def sameM (m n : Ms) : Bool := decide (m = n)
end Msg
end Go.Proofs.Ytfgjodnjahhanaa
