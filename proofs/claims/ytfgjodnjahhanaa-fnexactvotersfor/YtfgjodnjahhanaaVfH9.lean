/- the program's functions over a message in its own form. -/
import Derived.Test.YtfgjodnjahhanaaVfH8
namespace Go.Proofs.Ytfgjodnjahhanaa
open Go.RowKit
/-- A message in the program's own form, in a box. -/
def PBoxAt (w : World) (b : Nat) (m : Ms) (v u : Value) : Prop := b < w.heap.size ∧ w.cell? ⟨b, 0, none⟩ = some (.int .i64 m.view) ∧ w.cell? ⟨b, 1, none⟩ = some (.int .i64 m.kind) ∧ w.cell? ⟨b, 2, none⟩ = some (.int .i64 m.from_) ∧ w.cell? ⟨b, 3, none⟩ = some (.int .i64 m.slot) ∧ w.cell? ⟨b, 4, none⟩ = some (.int .i64 m.value) ∧ w.cell? ⟨b, 5, none⟩ = some v ∧ w.cell? ⟨b, 6, none⟩ = some u
theorem PBoxAt.ext {w w' : World} {b : Nat} {m : Ms} {v u : Value} (h : PBoxAt w b m v u) (he : Ext w w') : PBoxAt w' b m v u := by
  obtain ⟨hc, hf⟩ := Ext.cell he
  obtain ⟨hb, c0, c1, c2, c3, c4, c5, c6⟩ := h
  exact ⟨Nat.lt_of_lt_of_le hb he.size, (hc _ _ hb).trans c0, (hc _ _ hb).trans c1, (hc _ _ hb).trans c2, (hc _ _ hb).trans c3, (hc _ _ hb).trans c4, (hc _ _ hb).trans c5, (hc _ _ hb).trans c6⟩
namespace Msg
def beyondN (kind slot value : Int) (nc nr : Nat) : Bool := decide (¬ (1 ≤ kind ∧ kind ≤ 3) ∧ (slot ≠ 0 ∨ value ≠ 0) ∨ kind ≠ 4 ∧ 0 < nc ∨ kind ≠ 5 ∧ 0 < nr)
end Msg
def Msg.certIn (c : Ct) : Bool := decide (1 ≤ c.slot ∧ c.slot ≤ 30 ∧ 0 ≤ c.view ∧ c.view ≤ 20 ∧ 0 ≤ c.value ∧ c.value ≤ 12)
end Go.Proofs.Ytfgjodnjahhanaa
