/- chapter 1's functions over readPath and codeOfPath: PathFault, isName, DeepIn. -/
import Derived.Test.YtfgjodnjahhanaaDoorW3
import Derived.Test.YtfgjodnjahhanaaDoorAsHit
namespace Go.Proofs.YtfgjodnjahhanaaDoor
open Go.RowKit

theorem fault_many {l : List UInt8} (h : Pth.many l = true) : Pth.faultI l = 2 := by unfold Pth.faultI; rw [h]; rfl
theorem fault_none {l : List UInt8} (h : Pth.many l = false) (hr : Pth.rd l = none) : Pth.faultI l = 5 := by unfold Pth.faultI; rw [h, hr]; rfl
theorem fault_some {l : List UInt8} {x : Nat × Nat} (h : Pth.many l = false) (hr : Pth.rd l = some x) : Pth.faultI l = 0 := by unfold Pth.faultI; rw [h, hr]; rfl

theorem slash_cat (s : ByteArray) : ((⟨#[47]⟩ : ByteArray) ++ s).data.toList = (47 : UInt8) :: s.data.toList := by simp [ByteArray.data_append]

end Go.Proofs.YtfgjodnjahhanaaDoor
