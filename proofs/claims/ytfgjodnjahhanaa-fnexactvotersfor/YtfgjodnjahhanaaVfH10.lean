/- the program's lists of numbers: whether they rise, the slots of certificates; whether the parts are in bounds. -/
import Derived.Test.YtfgjodnjahhanaaVfH9
namespace Go.Proofs.Ytfgjodnjahhanaa
open Go.RowKit
theorem cellM_one (w : World) (x : Value) (t : TypeId) (m : Nat) (hm : w.heap.size = m) : ∀ j u, [x][j]? = some u → (w.alloc (.cells #[x] t)).cell? ((⟨m, 0, none⟩ : Addr).add j) = some u := by subst hm; exact cell_one_new w x t
end Go.Proofs.Ytfgjodnjahhanaa
