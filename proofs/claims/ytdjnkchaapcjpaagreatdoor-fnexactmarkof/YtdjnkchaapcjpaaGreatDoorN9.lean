/- laws.eqReplyResult at two that are alike. -/
import Derived.Test.YtdjnkchaapcjpaaGreatDoorN7
namespace Go.Proofs.YtdjnkchaapcjpaaGreatDoor
open Go.RowKit
set_option maxHeartbeats 1000000 in
theorem eqReplyR_same (c d n : Int) (p : ByteArray) (w : World) : Calls Tryz.prog 16 #[yr c d n p, yr c d n p] w fun e w' => e = .returned (.bool true) ∧ Ext w w' := by
  have HC : Hid (∀ wx : World, Calls Tryz.prog 56 #[.agg #[.int .i64 d, .int .i64 n, .string p], .agg #[.int .i64 d, .int .i64 n, .string p]] wx fun e w' => e = .returned (.bool true) ∧ Ext wx w') := fun wx => eqReply_same d n p wx
  unfold yr
  go_enter Tryz.func16, Tryz.ntmps16
  go_wp2_with fail
  refine (HC.out _).mono ?_
  rintro e w1 ⟨rfl, hb⟩
  have HB : Hid (Ext w w1) := (((Ext.refl _).alloc _).alloc _).trans hb
  clear hb
  go_wp2
  go_ret
  exact ⟨rfl, HB.out⟩
end Go.Proofs.YtdjnkchaapcjpaaGreatDoor
