/- the exact law of KidsZ, walked, out of what the function and its specification answer. -/
import Derived.Test.YtlnkheopmagacaaDoorZ7
namespace Go.Proofs.YtlnkheopmagacaaDoor
open Go.RowKit

/-- A TextsResult of code c and texts rs came back, its texts in new memory. -/
def XRet (w : World) (c : Int) (rs : List ByteArray) (e : Ending) (w' : World) : Prop :=
  ∃ v g, e = .returned (xr c v) ∧ w.heap.size ≤ g ∧ TOwn w' v g rs ∧ Ext w w'
/-- Block b holds a TextsResult. -/
def XBoxAt (w : World) (b : Nat) (c : Int) (v : Value) : Prop :=
  b < w.heap.size ∧ w.cell? ⟨b, 0, none⟩ = some (.int .i64 c) ∧ w.cell? ⟨b, 1, none⟩ = some v
theorem XBoxAt.ext {w w' : World} {b : Nat} {c : Int} {v : Value} (h : XBoxAt w b c v) (he : Ext w w') : XBoxAt w' b c v := by
  obtain ⟨hc, _⟩ := Ext.cell he
  exact ⟨Nat.lt_of_lt_of_le h.1 he.size, (hc _ _ h.1).trans h.2.1, (hc _ _ h.1).trans h.2.2⟩
theorem XBoxAt.upd {w w' : World} {b g : Nat} {c : Int} {v : Value} (h : XBoxAt w b c v) (he : Upd g w w') (hne : b ≠ g) : XBoxAt w' b c v :=
  ⟨Nat.lt_of_lt_of_le h.1 he.2.1, (he.at_ne _ _ hne h.1).1.trans h.2.1, (he.at_ne _ _ hne h.1).1.trans h.2.2⟩
theorem xbox_new (w : World) (c : Int) (v : Value) (t : TypeId) : XBoxAt (w.alloc (.cells #[.int .i64 c, v] t)) w.heap.size c v :=
  ⟨by simp, by simp, by simp⟩

end Go.Proofs.YtlnkheopmagacaaDoor
