/- laws.FnExactSameTrees answers true at every two slices of nodes. -/
import Derived.Test.YtmkmilkncmfigaaI0
import Derived.Test.YtmkmilkncmfigaaZ6
namespace Go.Proofs.Ytmkmilkncmfigaa
open Go.RowKit
theorem lawSameTrees (v : Value) (zs : List Zn) (u : Value) (ys : List Zn) (w : World) (hS : NSlice w v zs) (hz : ∀ z ∈ zs, z.path.size ≤ maxLen) (hT : NSlice w u ys) (hy : ∀ z ∈ ys, z.path.size ≤ maxLen) :
    Calls Try.prog 4 #[v, u] w fun e w' => e = .returned (.bool true) ∧ Ext w w' :=
  lawSameTrees_of v u zs ys w (Tre.same zs ys) hS hT hz hy (fun _ _ _ _ wx vx ux _ h1 h2 => specSameTrees_any vx ux zs ys wx h1 h2) (fun _ _ _ _ wx vx ux _ h1 h2 => implSameTrees_any vx ux zs ys wx h1 h2)
end Go.Proofs.Ytmkmilkncmfigaa
