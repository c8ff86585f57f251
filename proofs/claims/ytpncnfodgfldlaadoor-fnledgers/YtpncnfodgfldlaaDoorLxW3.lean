/- impl.readPath, walked. -/
import Derived.Test.YtpncnfodgfldlaaDoorLxW2
namespace Go.Proofs.YtpncnfodgfldlaaDoor
open Go.RowKit
def rpShape (n la : Nat) : Value := .tuple #[.agg #[.int .i64 n, .int .i64 la], .nilIface]
end Go.Proofs.YtpncnfodgfldlaaDoor
