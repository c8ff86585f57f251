/- the laws' comparisons and marks of a ZResult. -/
import Derived.Test.YtgofggmgnodplaaDoorZ3
namespace Go.Proofs.YtgofggmgnodplaaDoor
open Go.RowKit

/-- A ZResult as a value. -/
def zr (c : Int) (p : ByteArray) (v : Value) : Value := .agg #[.int .i64 c, .string p, v]

end Go.Proofs.YtgofggmgnodplaaDoor
