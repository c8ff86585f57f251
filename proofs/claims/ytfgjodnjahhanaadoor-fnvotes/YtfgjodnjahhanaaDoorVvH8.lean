/- the program's small functions over messages. -/
import Derived.Test.YtfgjodnjahhanaaDoorVvH5
import Derived.Deep.RegionHeld3
import Derived.Test.YtfgjodnjahhanaaDoorVvB1
namespace Go.Proofs.YtfgjodnjahhanaaDoor
open Go.RowKit
/-- The program's own form of a message. -/
def pagg (m : Ms) (v u : Value) : Value := .agg #[.int .i64 m.view, .int .i64 m.kind, .int .i64 m.from_, .int .i64 m.slot, .int .i64 m.value, v, u]
set_option maxHeartbeats 1000000 in
theorem isBadCount_any (f : Int) (w : World) : Calls Tryd.prog 26 #[.int .i64 f] w fun e w' => e = .returned (.bool (Msg.fOk f)) ∧ w' = w := by
  have HB : Hid (∀ wx : World, Calls Tryd.prog 33 #[.int .i64 f, .int .i64 1, .int .i64 2] wx fun e w' => e = .returned (.bool (Msg.fOk f)) ∧ w' = wx) := fun wx => isWithin_any f 1 2 wx
  generalize (Msg.fOk f) = bb at *
  go_enter Tryd.func26, Tryd.ntmps26
  go_wp2_with fail
  refine (HB.out _).mono ?_
  rintro e w9 ⟨rfl, hw⟩
  rw [hw]
  clear hw w9
  go_wp2
  go_ret
  exact ⟨rfl, rfl⟩

set_option maxHeartbeats 1000000 in
theorem replicasOf_any (f : Int) (w : World) (h0 : 1 ≤ f) (h1 : f ≤ 2) : Calls Tryd.prog 44 #[.int .i64 f] w fun e w' => e = .returned (.int .i64 (3 * f + 1)) ∧ w' = w := by
  have e1 : IntKind.i64.wrap (3 * f) = 3 * f := by rw [IntKind.wrap_i64]; omega
  have e2 : IntKind.i64.wrap (3 * f + 1) = 3 * f + 1 := by rw [IntKind.wrap_i64]; omega
  go_enter Tryd.func44, Tryd.ntmps44
  go_wp2
  go_ret
  exact ⟨rfl, rfl⟩
set_option maxHeartbeats 1000000 in
theorem isReplica_any (f id : Int) (w : World) (h0 : 1 ≤ f) (h1 : f ≤ 2) : Calls Tryd.prog 27 #[.int .i64 f, .int .i64 id] w fun e w' => e = .returned (.bool (decide (1 ≤ id) && decide (id ≤ 3 * f + 1))) ∧ w' = w := by
  have HB := isWithin_any id 1 (3 * f + 1) w
  generalize (decide (1 ≤ id) && decide (id ≤ 3 * f + 1)) = bb at *
  go_enter Tryd.func27, Tryd.ntmps27
  go_wp2_with fail
  refine (replicasOf_any f w h0 h1).mono ?_
  rintro e w9 ⟨rfl, hw⟩
  rw [hw]
  clear hw w9
  go_wp2_with fail
  refine HB.mono ?_
  rintro e w9 ⟨rfl, hw⟩
  rw [hw]
  clear hw w9
  go_wp2
  go_ret
  exact ⟨rfl, rfl⟩
end Go.Proofs.YtfgjodnjahhanaaDoor
