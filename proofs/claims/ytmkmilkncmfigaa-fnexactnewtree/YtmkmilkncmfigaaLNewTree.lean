/- laws.FnExactNewTree answers true at every number. -/
import Derived.Test.YtmkmilkncmfigaaI0
import Derived.Test.YtmkmilkncmfigaaZ6
namespace Go.Proofs.Ytmkmilkncmfigaa
open Go.RowKit
theorem lawNewTree (d : Int) (w : World) : Calls Try.prog 3 #[.int .i64 d] w fun e w' => e = .returned (.bool true) ∧ Ext w w' :=
  lawNewTree_of d w (Tre.newT d).1 (Tre.newT d).2.1 (Tre.newT d).2.2 (by unfold Tre.newT; split <;> simp) (fun wx _ => specNewTree_any d wx) (fun wx _ => implNewTree_any d wx)
end Go.Proofs.Ytmkmilkncmfigaa
