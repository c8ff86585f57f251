/- messages: one of them; the laws' functions over it. -/
import Derived.Test.YtfgjodnjahhanaaDoorVvH1
namespace Go.Proofs.YtfgjodnjahhanaaDoor
open Go.RowKit
structure Ms where
  kind : Int
  view : Int
  from_ : Int
  slot : Int
  value : Int
  certs : List Ct
  refs : List Int
  deriving DecidableEq
instance : Inhabited Ms := ⟨⟨0, 0, 0, 0, 0, [], []⟩⟩
def magg (m : Ms) (v u : Value) : Value := .agg #[.int .i64 m.kind, .int .i64 m.view, .int .i64 m.from_, .int .i64 m.slot, .int .i64 m.value, v, u]
/-- The lists of m are what v and u read as. -/
def MLs (w : World) (v u : Value) (m : Ms) : Prop := CtSlice w v m.certs ∧ ISlice w u m.refs
theorem MLs.ext {w w' : World} {v u : Value} {m : Ms} (h : MLs w v u m) (he : Ext w w') : MLs w' v u m := ⟨h.1.ext he, h.2.ext he⟩
theorem MLs.form {w : World} {v u : Value} {m : Ms} (h : MLs w v u m) : ∃ a c a' c', v = .slice a m.certs.length c ∧ u = .slice a' m.refs.length c' ∧ m.certs.length ≤ c ∧ c ≤ maxLen ∧ m.refs.length ≤ c' ∧ c' ≤ maxLen := by
  obtain ⟨⟨a, c, h1, h2, h3, -⟩, ⟨a', c', g1, g2, g3, -⟩⟩ := h
  exact ⟨a, c, a', c', h1, g1, h2, h3, g2, g3⟩

/-- The message m lies in block b from o on; v and u are its lists. -/
def MCs (w : World) (b o : Nat) (m : Ms) (v u : Value) : Prop := w.cell? ⟨b, o, none⟩ = some (.int .i64 m.kind) ∧ w.cell? ⟨b, o + 1, none⟩ = some (.int .i64 m.view) ∧ w.cell? ⟨b, o + 2, none⟩ = some (.int .i64 m.from_) ∧ w.cell? ⟨b, o + 3, none⟩ = some (.int .i64 m.slot) ∧ w.cell? ⟨b, o + 4, none⟩ = some (.int .i64 m.value) ∧ w.cell? ⟨b, o + 5, none⟩ = some v ∧ w.cell? ⟨b, o + 6, none⟩ = some u
theorem MCs.ext {w w' : World} {b o : Nat} {m : Ms} {v u : Value} (h : MCs w b o m v u) (hb : b < w.heap.size) (he : Ext w w') : MCs w' b o m v u := by
  obtain ⟨hc, hf⟩ := Ext.cell he
  obtain ⟨c0, c1, c2, c3, c4, c5, c6⟩ := h
  exact ⟨(hc _ _ hb).trans c0, (hc _ _ hb).trans c1, (hc _ _ hb).trans c2, (hc _ _ hb).trans c3, (hc _ _ hb).trans c4, (hc _ _ hb).trans c5, (hc _ _ hb).trans c6⟩
/-- A message in a box of its own. -/
def MBoxAt (w : World) (b : Nat) (m : Ms) (v u : Value) : Prop := b < w.heap.size ∧ (w.cell? ⟨b, 0, none⟩ = some (.int .i64 m.kind) ∧ w.cell? ⟨b, 1, none⟩ = some (.int .i64 m.view) ∧ w.cell? ⟨b, 2, none⟩ = some (.int .i64 m.from_) ∧ w.cell? ⟨b, 3, none⟩ = some (.int .i64 m.slot) ∧ w.cell? ⟨b, 4, none⟩ = some (.int .i64 m.value) ∧ w.cell? ⟨b, 5, none⟩ = some v ∧ w.cell? ⟨b, 6, none⟩ = some u) ∧ w.frozen? ⟨b, 0, none⟩ = false ∧ w.frozen? ⟨b, 1, none⟩ = false ∧ w.frozen? ⟨b, 2, none⟩ = false ∧ w.frozen? ⟨b, 3, none⟩ = false ∧ w.frozen? ⟨b, 4, none⟩ = false ∧ w.frozen? ⟨b, 5, none⟩ = false ∧ w.frozen? ⟨b, 6, none⟩ = false
theorem MBoxAt.ext {w w' : World} {b : Nat} {m : Ms} {v u : Value} (h : MBoxAt w b m v u) (he : Ext w w') : MBoxAt w' b m v u := by
  obtain ⟨hc, hf⟩ := Ext.cell he
  obtain ⟨hb, ⟨c0, c1, c2, c3, c4, c5, c6⟩, f0, f1, f2, f3, f4, f5, f6⟩ := h
  exact ⟨Nat.lt_of_lt_of_le hb he.size, ⟨(hc _ _ hb).trans c0, (hc _ _ hb).trans c1, (hc _ _ hb).trans c2, (hc _ _ hb).trans c3, (hc _ _ hb).trans c4, (hc _ _ hb).trans c5, (hc _ _ hb).trans c6⟩, (hf _ _ hb).trans f0, (hf _ _ hb).trans f1, (hf _ _ hb).trans f2, (hf _ _ hb).trans f3, (hf _ _ hb).trans f4, (hf _ _ hb).trans f5, (hf _ _ hb).trans f6⟩
theorem MBoxAt.set_ne {w : World} {b g o : Nat} {m : Ms} {v u x : Value} (h : MBoxAt w b m v u) (hne : g ≠ b) : MBoxAt (w.setCell ⟨g, o, none⟩ x) b m v u := by
  obtain ⟨hb, ⟨c0, c1, c2, c3, c4, c5, c6⟩, f0, f1, f2, f3, f4, f5, f6⟩ := h
  refine ⟨by simpa using hb, ⟨?_, ?_, ?_, ?_, ?_, ?_, ?_⟩, by simpa using f0, by simpa using f1, by simpa using f2, by simpa using f3, by simpa using f4, by simpa using f5, by simpa using f6⟩ <;> rw [iset_ne _ _ _ _ _ _ (Or.inl hne)] <;> assumption
end Go.Proofs.YtfgjodnjahhanaaDoor
