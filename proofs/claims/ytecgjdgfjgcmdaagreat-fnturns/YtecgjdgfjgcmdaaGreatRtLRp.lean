/- replicas in the laws: toReplica; boxes. -/
import Derived.Test.YtecgjdgfjgcmdaaGreatRtGP
namespace Go.Proofs.YtecgjdgfjgcmdaaGreat
open Go.RowKit
def QBoxAt (w : World) (b : Nat) (c : Rp) : Prop := b < w.heap.size ∧ w.cell? ⟨b, 0, none⟩ = some (.int .i64 c.id) ∧ w.cell? ⟨b, 1, none⟩ = some (.int .i64 c.view) ∧ w.cell? ⟨b, 2, none⟩ = some (.int .i64 c.start) ∧ w.cell? ⟨b, 3, none⟩ = some (.int .i64 c.done)
theorem QBoxAt.ext {w w' : World} {b : Nat} {c : Rp} (h : QBoxAt w b c) (he : Ext w w') : QBoxAt w' b c := by
 obtain ⟨hc, _⟩ := Ext.cell he
 exact ⟨Nat.lt_of_lt_of_le h.1 he.size, (hc _ _ h.1).trans h.2.1, (hc _ _ h.1).trans h.2.2.1, (hc _ _ h.1).trans h.2.2.2.1, (hc _ _ h.1).trans h.2.2.2.2⟩
theorem qbox_new (w : World) (c : Rp) (t : TypeId) : QBoxAt (w.alloc (.cells #[.int .i64 c.id, .int .i64 c.view, .int .i64 c.start, .int .i64 c.done] t)) w.heap.size c := ⟨by simp, by simp, by simp, by simp, by simp⟩
end Go.Proofs.YtecgjdgfjgcmdaaGreat
