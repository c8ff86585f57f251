/- laws.FnExactTreeFault answers true at every slice of nodes. -/
import Derived.Test.YtihfgaanaffinaaDoorI5
import Derived.Test.YtihfgaanaffinaaDoorZ6
namespace Go.Proofs.YtihfgaanaffinaaDoor
open Go.RowKit
theorem lawTreeFault (v : Value) (zs : List Zn) (w : World) (hg : Gd w) (hS : NSlice w v zs) (hz : ∀ z ∈ zs, z.path.size ≤ maxLen) :
    Calls Tryd.prog 12 #[v] w fun e w' => e = .returned (.bool true) ∧ Ext w w' :=
  lawTreeFault_of v zs w (Tre.fault zs) hS hz (fun _ _ wx vx _ h => specTreeFault_any vx zs wx h) (fun _ _ wx vx he h => implTreeFault_any vx zs wx (hg.ext he) h)
end Go.Proofs.YtihfgaanaffinaaDoor
