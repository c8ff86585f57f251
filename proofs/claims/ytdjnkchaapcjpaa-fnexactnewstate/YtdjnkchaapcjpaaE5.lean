/- the program's functions over sessions that are asked first: SessionsFault, momentFault, sessionFault. -/
import Derived.Test.YtdjnkchaapcjpaaE4
namespace Go.Proofs.Ytdjnkchaapcjpaa
open Go.RowKit

set_option maxHeartbeats 1000000 in
theorem upTo_any (n m : Int) (w : World) : Calls Try.prog 17 #[.int .i64 n, .int .i64 m] w fun e w' => e = .returned (.bool (decide (0 ≤ n) && decide (n ≤ m))) ∧ w' = w := by
  by_cases h0 : 0 ≤ n
  · by_cases h1 : n ≤ m
    · go_enter Try.func17, Try.ntmps17
      go_wp2
      go_ret
      exact ⟨by simp [h0, h1], rfl⟩
    · go_enter Try.func17, Try.ntmps17
      go_wp2
      go_ret
      exact ⟨by simp [h1], rfl⟩
  · go_enter Try.func17, Try.ntmps17
    go_wp2
    go_ret
    exact ⟨by simp; omega, rfl⟩
/-- The code of a moment. -/
def Ses.moment (l : List Se) (n : Int) : Int := if Ses.fault l ≠ 0 then Ses.fault l else if Ses.nowOk n = true then 0 else 3
theorem Ses.asked_moment (l : List Se) (i n : Int) : Ses.asked l i n = if Ses.moment l n ≠ 0 then Ses.moment l n else if Ses.idOk i = true then 0 else 3 := by
  unfold Ses.asked Ses.moment
  by_cases h : Ses.fault l ≠ 0
  · rw [if_pos h, if_pos h, if_pos h]
  · rw [if_neg h, if_neg h]
    cases Ses.nowOk n <;> cases Ses.idOk i <;> simp

end Go.Proofs.Ytdjnkchaapcjpaa
