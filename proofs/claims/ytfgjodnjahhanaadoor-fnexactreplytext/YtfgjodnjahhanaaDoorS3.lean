/- the specification's ParentOf, NameIn, DeepIn and what they call: what they answer; the laws' comparisons. -/
import Derived.Test.YtfgjodnjahhanaaDoorS2
namespace Go.Proofs.YtfgjodnjahhanaaDoor
open Go.RowKit

theorem last_on (s : ByteArray) (k a : Nat) (h : k < s.size) : Pth.lastSl (s.data.toList.drop k) k a = Pth.lastSl (s.data.toList.drop (k + 1)) (k + 1) (if s[k] = 47 then k else a) := by
  rw [drop_at s k h, Pth.lastSl]
  split <;> rfl

theorem lastSl_le (l : List UInt8) : Pth.lastSl l 0 0 ≤ l.length := by
  rcases Pth.lastSl_lt l 0 0 with h | h <;> omega

end Go.Proofs.YtfgjodnjahhanaaDoor
