/- What the rows of chapter 1 have in common: what the listed variable errors.errorType gives, and that it can be so. -/
import Derived.Test.YtfgjodnjahhanaaDoorCards
import Derived.Test.YtfgjodnjahhanaaDoorTie
import Derived.Test.YtfgjodnjahhanaaDoorW4
import Derived.ChangeSame
import Derived.ChangeVars
import Derived.JoinedOf
import Derived.RowKit
import Derived.RowKitTokens
import Derived.LaidLaws
import Derived.LaidHandle
import Derived.ProofKit
import Derived.OpenShut
import Derived.Stop.Joined
import Derived.SevenTiedAt
namespace Go.Proofs.YtfgjodnjahhanaaDoor
open Go.ChangeShapes Go.WideShapes Go.RowKit

theorem own_knob : ownKnob Tryd.prog.godebug = none := by kernel_rfl
theorem gOne : ((List.range 146).filter fun t => Tryd.prog.rowNamed t [101, 114, 114, 111, 114]) = [69] := by kernel_rfl
theorem gSize : Tryd.prog.types.size = 146 := by kernel_rfl

/-- A cells block whose first cell is v. -/
def putFirst (v : Value) : Obj → Obj
  | .cells _ t frozen => .cells #[v] t frozen
  | o => o
def putAll (vs : Array Value) : Obj → Obj
  | .cells _ t frozen => .cells vs t frozen
  | o => o
end Go.Proofs.YtfgjodnjahhanaaDoor
