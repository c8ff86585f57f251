/- The leaves of chapter 1's reading of paths: what isNameByte, strings.Count at one byte and hasTooMany answer. -/
import Derived.Test.YtfgjodnjahhanaaDoorProg
import Derived.Test.YtfgjodnjahhanaaDoorBase
namespace Go.Proofs.YtfgjodnjahhanaaDoor
open Go.RowKit

theorem many_val (s : ByteArray) : (decide (24 < (s.size : Int)) || decide (4 < ((Array.count 47 s.data : Nat) : Int))) = Pth.many s.data.toList := by
  unfold Pth.many
  rw [len_eq, Bool.eq_iff_iff]
  simp
  omega

end Go.Proofs.YtfgjodnjahhanaaDoor
