/- impl.readPath, walked. -/
import Derived.Test.YtfgjodnjahhanaaVfW2
namespace Go.Proofs.Ytfgjodnjahhanaa
open Go.RowKit
def rpShape (n la : Nat) : Value := .tuple #[.agg #[.int .i64 n, .int .i64 la], .nilIface]
end Go.Proofs.Ytfgjodnjahhanaa
