/- The program's copyNodes: the same nodes in memory of its own. -/
import Derived.Test.YtgofggmgnodplaaDoorI5
import Derived.Test.YtgofggmgnodplaaDoorClone
import Derived.Lib.SliceRun
namespace Go.Proofs.YtgofggmgnodplaaDoor
open Go.RowKit

theorem List.set_getElem?_self' {α : Type} {l : List α} {k : Nat} {z : α} (h : l[k]? = some z) : l.set k z = l := by
  apply List.ext_getElem?
  intro i
  rw [List.getElem?_set]
  split
  · rename_i hi; subst hi; rw [h]; split
    · rfl
    · rename_i hn; exact absurd (List.getElem?_eq_some_iff.1 h).1 hn
  · rfl

end Go.Proofs.YtgofggmgnodplaaDoor
