/- the specification's votes, what is decided, the log. -/
import Derived.Test.YtfgjodnjahhanaaDoorVvQS1
namespace Go.Proofs.YtfgjodnjahhanaaDoor
open Go.RowKit
theorem Led.own_ext {w w' : World} {base : Nat} {e : TypeId} {size : Nat} {v : Value} {n : Nat} {xs : List Value} (h : w.ownsRow base e size v n xs) (he : Ext w w') : w'.ownsRow base e size v n xs := by
  refine ⟨h.1, ?_⟩
  rcases h.2 with hn | ⟨g, cap, cur, rfl, hb, hgg, rest⟩
  · exact .inl hn
  · exact .inr ⟨g, cap, cur, rfl, hb, (he.block g (Array.getElem?_eq_some_iff.1 hgg).1).trans hgg, rest⟩
end Go.Proofs.YtfgjodnjahhanaaDoor
