/- impl.readPath, walked. -/
import Derived.Test.YtfgjodnjahhanaaDoorW2
namespace Go.Proofs.YtfgjodnjahhanaaDoor
open Go.RowKit

def rpShape (n la : Nat) : Value := .tuple #[.agg #[.int .i64 n, .int .i64 la], .nilIface]
theorem below2 (w : World) (o o' : Obj) : Below w.heap.size w ((w.alloc o).alloc o') := ((Below.refl _ _).alloc (Nat.le_refl _) _).alloc (by simp) _

end Go.Proofs.YtfgjodnjahhanaaDoor
