/- the exact laws of functions over nodes, walked, out of what the function and its specification answer. -/
import Derived.Test.YtmiffefnpendoaaGreatDoorZ4
namespace Go.Proofs.YtmiffefnpendoaaGreatDoor
open Go.RowKit

/-- A ZResult of code c, path p and nodes rs came back, its nodes in new memory. -/
def ZRet (w : World) (c : Int) (p : ByteArray) (rs : List Zn) (e : Ending) (w' : World) : Prop :=
  ∃ v g, e = .returned (zr c p v) ∧ w.heap.size ≤ g ∧ Own w' v g rs ∧ Ext w w'
/-- Block b holds a ZResult. -/
def BoxAt (w : World) (b : Nat) (c : Int) (p : ByteArray) (v : Value) : Prop :=
  b < w.heap.size ∧ w.cell? ⟨b, 0, none⟩ = some (.int .i64 c) ∧ w.cell? ⟨b, 1, none⟩ = some (.string p) ∧ w.cell? ⟨b, 2, none⟩ = some v
theorem Own.lt {w : World} {v : Value} {g : Nat} {zs : List Zn} (h : Own w v g zs) (h0 : 0 < zs.length) : g < w.heap.size := by
  obtain ⟨a, cap, -, -, -, h4⟩ := h
  obtain ⟨off, -, hr, -⟩ := h4 h0
  exact hr.1
theorem Own.nil {w w' : World} {v : Value} {g g' : Nat} {zs : List Zn} (h : Own w v g zs) (h0 : ¬ 0 < zs.length) : Own w' v g' zs := by
  obtain ⟨a, cap, h1, h2, h3, -⟩ := h
  exact ⟨a, cap, h1, h2, h3, fun h => absurd h h0⟩
theorem Own.upd' {w w' : World} {v : Value} {g b : Nat} {zs : List Zn} (h : Own w v g zs) (he : Upd b w w') (hne : 0 < zs.length → g ≠ b) : Own w' v g zs := by
  by_cases h0 : 0 < zs.length
  · exact h.upd he (hne h0)
  · exact h.nil h0
theorem Own.pick {w : World} {v : Value} {g : Nat} {zs : List Zn} (h : Own w v g zs) : ∃ g', g' ≤ w.heap.size ∧ Own w v g' zs ∧ (g' = w.heap.size ∧ ¬ 0 < zs.length ∨ (g' = g ∧ g < w.heap.size ∧ 0 < zs.length)) := by
  by_cases h0 : 0 < zs.length
  · exact ⟨g, Nat.le_of_lt (h.lt h0), h, Or.inr ⟨rfl, h.lt h0, h0⟩⟩
  · exact ⟨_, Nat.le_refl _, h.nil h0, Or.inl ⟨rfl, h0⟩⟩
theorem BoxAt.ext {w w' : World} {b : Nat} {c : Int} {p : ByteArray} {v : Value} (h : BoxAt w b c p v) (he : Ext w w') : BoxAt w' b c p v := by
  obtain ⟨hc, _⟩ := Ext.cell he
  exact ⟨Nat.lt_of_lt_of_le h.1 he.size, (hc _ _ h.1).trans h.2.1, (hc _ _ h.1).trans h.2.2.1, (hc _ _ h.1).trans h.2.2.2⟩
theorem BoxAt.upd {w w' : World} {b g : Nat} {c : Int} {p : ByteArray} {v : Value} (h : BoxAt w b c p v) (he : Upd g w w') (hne : b ≠ g) : BoxAt w' b c p v :=
  ⟨Nat.lt_of_lt_of_le h.1 he.2.1, (he.at_ne _ _ hne h.1).1.trans h.2.1, (he.at_ne _ _ hne h.1).1.trans h.2.2.1, (he.at_ne _ _ hne h.1).1.trans h.2.2.2⟩
theorem box_new (w : World) (c : Int) (p : ByteArray) (v : Value) (t : TypeId) : BoxAt (w.alloc (.cells #[.int .i64 c, .string p, v] t)) w.heap.size c p v :=
  ⟨by simp, by simp, by simp, by simp⟩

end Go.Proofs.YtmiffefnpendoaaGreatDoor
