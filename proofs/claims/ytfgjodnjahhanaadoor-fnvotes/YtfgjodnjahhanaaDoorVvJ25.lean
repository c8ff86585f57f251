/- As, W4, in one text. -/
import Derived.Test.YtfgjodnjahhanaaDoorProg
import Derived.WalkKit
import Derived.LaidEql
import Derived.RowKitTokens
import Derived.Test.YtfgjodnjahhanaaDoorVvJ24
namespace Go.Proofs.YtfgjodnjahhanaaDoor
open Go.RowKit Go.Extern
theorem rls (v x : Value) : ReflectliteValue.set #[v, x] = (do
    let (some (dst, a, fl), some (src, b, _)) := (← ReflectliteValue.parts v, ← ReflectliteValue.parts x)
      | unsupported (.noEntry "extern/(internal/reflectlite.Value).Set.zeroValue")
    if fl / ReflectliteValue.flagAddr % 2 == 0 then unsupported (.noEntry "extern/(internal/reflectlite.Value).Set.unaddressable")
    let val ← loadVar src b
    if ← Rtype.directlyAssignable dst src then storeVar dst a val
    else if ← Rtype.implements dst src then
      if (← Rtype.kind src) == 20 then
        match val with
        | .nilIface => unsupported (.noEntry "extern/reflectlite: a nil value of one interface type handed on as a value of another")
        | _ => storeVar dst a val
      else storeVar dst a (.iface src val)
    else panicString ("reflectlite.Set: value of type " ++ (← Rtype.spelt src) ++ " is not assignable to type " ++ (← Rtype.spelt dst))
    pure (.tuple #[])) := rfl
end Go.Proofs.YtfgjodnjahhanaaDoor
namespace Go.Proofs.YtfgjodnjahhanaaDoor
open Go.RowKit
theorem fault_many {l : List UInt8} (h : Pth.many l = true) : Pth.faultI l = 2 := by unfold Pth.faultI; rw [h]; rfl
theorem fault_none {l : List UInt8} (h : Pth.many l = false) (hr : Pth.rd l = none) : Pth.faultI l = 5 := by unfold Pth.faultI; rw [h, hr]; rfl
end Go.Proofs.YtfgjodnjahhanaaDoor
