/- laws.FnExactSumOf answers true at every slice of numbers. -/
import Derived.Test.YtecgjdgfjgcmdaaGreatRtA1
namespace Go.Proofs.YtecgjdgfjgcmdaaGreat
open Go.RowKit
/-- Block b holds an IntResult. -/
def IBoxAt (w : World) (b : Nat) (c n : Int) : Prop := b < w.heap.size ∧ w.cell? ⟨b, 0, none⟩ = some (.int .i64 c) ∧ w.cell? ⟨b, 1, none⟩ = some (.int .i64 n)
theorem IBoxAt.ext {w w' : World} {b : Nat} {c n : Int} (h : IBoxAt w b c n) (he : Ext w w') : IBoxAt w' b c n := by
 obtain ⟨hc, _⟩ := Ext.cell he
 exact ⟨Nat.lt_of_lt_of_le h.1 he.size, (hc _ _ h.1).trans h.2.1, (hc _ _ h.1).trans h.2.2⟩
end Go.Proofs.YtecgjdgfjgcmdaaGreat
