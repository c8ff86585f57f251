/- the laws' comparisons and marks of a ZResult. -/
import Derived.Test.YtmiffefnpendoaaGreatDoorZ3
namespace Go.Proofs.YtmiffefnpendoaaGreatDoor
open Go.RowKit

/-- A ZResult as a value. -/
def zr (c : Int) (p : ByteArray) (v : Value) : Value := .agg #[.int .i64 c, .string p, v]

end Go.Proofs.YtmiffefnpendoaaGreatDoor
