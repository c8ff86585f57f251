/- chapter 1's functions over readPath and codeOfPath: PathFault, isName, DeepIn. -/
import Derived.Test.YtfgjodnjahhanaaVfW3
import Derived.Test.YtfgjodnjahhanaaVfAs
namespace Go.Proofs.Ytfgjodnjahhanaa
open Go.RowKit
theorem fault_many {l : List UInt8} (h : Pth.many l = true) : Pth.faultI l = 2 := by unfold Pth.faultI; rw [h]; rfl
theorem fault_none {l : List UInt8} (h : Pth.many l = false) (hr : Pth.rd l = none) : Pth.faultI l = 5 := by unfold Pth.faultI; rw [h, hr]; rfl
end Go.Proofs.Ytfgjodnjahhanaa
