/- How an argument of nodes is opened. -/
import Derived.Test.YtfgjodnjahhanaaDoorZ1
import Derived.ChangeSame
import Derived.ChangeVars
import Derived.ChangeOld
import Derived.Below
import Derived.Carry
import Derived.RowKit
import Derived.ProofKit
import Derived.OpenShut
import Derived.Deep.Slices
namespace Go.Proofs.YtfgjodnjahhanaaDoor
open Go.ChangeShapes Go.WideShapes Go.ChangeAt Go.RowKit
theorem laid_outZ : laidOutB Tryd.prog = true := by kernel_rfl
instance : Inhabited Zn := ⟨⟨ByteArray.empty, 0, 0, 0, 0⟩⟩
theorem nodes_add (a : Addr) (i k : Nat) : (a.add i).add k = a.add (i + k) := Deep.add_add a i k
theorem spot_none {W : World} {a : Addr} {v : Value} (h : W.cell? a = some v) : a = ⟨a.block, a.off, none⟩ := by
  obtain ⟨b, o, s⟩ := a
  cases s with
  | none => rfl
  | some x => simp [World.cell?] at h; split at h <;> simp at h
end Go.Proofs.YtfgjodnjahhanaaDoor
