/- impl.SeqName and the specification's: what they answer. -/
import Derived.Test.YtihfgaanaffinaaDoorW7
import Derived.Test.YtihfgaanaffinaaDoorS6
namespace Go.Proofs.YtihfgaanaffinaaDoor
open Go.RowKit

set_option maxHeartbeats 1000000 in
theorem formatInt_digit (d : Int) (w : World) (h0 : 0 ≤ d) (h9 : d ≤ 9) :
    Calls Tryd.prog 90 #[.int .i64 d, .int .i64 10] w fun e w' => e = .returned (.string (dig d)) ∧ w' = w := by
  have hd : d = 0 ∨ d = 1 ∨ d = 2 ∨ d = 3 ∨ d = 4 ∨ d = 5 ∨ d = 6 ∨ d = 7 ∨ d = 8 ∨ d = 9 := by omega
  clear h0 h9
  rcases hd with rfl | rfl | rfl | rfl | rfl | rfl | rfl | rfl | rfl | rfl
  all_goals
    go_enter Tryd.func90, Tryd.ntmps90
    go_wp2
    go_ret
    exact ⟨rfl, rfl⟩

end Go.Proofs.YtihfgaanaffinaaDoor
