/- laws.FnExactGetZ answers true at every argument. -/
import Derived.Test.YtihfgaanaffinaaDoorI7
import Derived.Test.YtihfgaanaffinaaDoorZ5
namespace Go.Proofs.YtihfgaanaffinaaDoor
open Go.RowKit
theorem Tre.getT_len (zs : List Zn) (p : ByteArray) : (Tre.getT zs p).2.2.length ≤ 1048576 := by
  unfold Tre.getT
  split
  · simp
  · split
    · split <;> simp
    · simp
theorem lawGetZ (v : Value) (zs : List Zn) (s : ByteArray) (w : World) (hg : Gd w) (hS : NSlice w v zs) (hz : ∀ z ∈ zs, z.path.size ≤ maxLen) :
    Calls Tryd.prog 15 #[v, .string s] w fun e w' => e = .returned (.bool true) ∧ Ext w w' :=
  lawGetZ_of v zs s w (Tre.getT zs s).1 (Tre.getT zs s).2.1 (Tre.getT zs s).2.2 hS hz (Tre.getT_len zs s) (fun _ _ _ wx vx _ h => specGetZ_any vx zs s wx h) (fun _ _ _ wx vx he h => implGetZ_any vx zs s wx (hg.ext he) h)
end Go.Proofs.YtihfgaanaffinaaDoor
