/- who is in a view; slots: the specification's. -/
import Derived.Test.YtecgjdgfjgcmdaaGreatRtRP5
import Derived.Test.YtecgjdgfjgcmdaaGreatRtRP6
namespace Go.Proofs.YtecgjdgfjgcmdaaGreat
open Go.RowKit
theorem box1 (W : World) (x : Value) (t : TypeId) (n : Nat) (h : W.heap.size = n) : (W.alloc (.cells #[x] t)).cell? ⟨n, 0, none⟩ = some x := by subst h; simp
end Go.Proofs.YtecgjdgfjgcmdaaGreat
