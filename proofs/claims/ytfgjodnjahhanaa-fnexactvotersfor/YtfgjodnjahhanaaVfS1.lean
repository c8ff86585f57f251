/- the specification's l1In, l1Name, l1Cut: what they answer. -/
import Derived.Test.YtfgjodnjahhanaaProg
import Derived.Test.YtfgjodnjahhanaaVfBase
namespace Go.Proofs.Ytfgjodnjahhanaa
open Go.RowKit
set_option maxHeartbeats 400000 in
theorem l1In_any (v lo hi : Int) (w : World) :
    Calls Try.prog 48 #[.int .i64 v, .int .i64 lo, .int .i64 hi] w fun e w' => e = .returned (.bool (decide (lo ≤ v) && decide (v ≤ hi))) ∧ w' = w := by
  by_cases h : lo ≤ v
  · go_enter Try.func48, Try.ntmps48
    go_wp2
    go_ret
    exact ⟨ret_bool (by simp [h]), rfl⟩
  · have h2 : decide (lo ≤ v) = false := by simpa using h
    go_enter Try.func48, Try.ntmps48
    go_wp2
    go_ret
    exact ⟨ret_bool (by simp), rfl⟩

/-! ### l1Cut -/
/-- Where the pieces stand behind a round. -/
def CutAt (l : List UInt8) (ps : List ByteArray) (f k : Nat) : Prop :=
  f ≤ k ∧ ps.length ≤ k ∧ ps.map (·.data.toList) ++ (if k ≤ l.length then Pth.cut ((l.drop f).take (k - f)) (l.drop k) else []) = Pth.cut [] l
end Go.Proofs.Ytfgjodnjahhanaa
