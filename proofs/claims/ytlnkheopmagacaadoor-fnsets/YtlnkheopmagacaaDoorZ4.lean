/- the laws' comparisons and marks of a ZResult. -/
import Derived.Test.YtlnkheopmagacaaDoorZ3
namespace Go.Proofs.YtlnkheopmagacaaDoor
open Go.RowKit

/-- A ZResult as a value. -/
def zr (c : Int) (p : ByteArray) (v : Value) : Value := .agg #[.int .i64 c, .string p, v]

end Go.Proofs.YtlnkheopmagacaaDoor
