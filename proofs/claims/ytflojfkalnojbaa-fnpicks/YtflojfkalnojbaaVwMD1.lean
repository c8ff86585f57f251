/- how draws of messages stand. -/
import Derived.Test.YtflojfkalnojbaaVwMD0
namespace Go.Proofs.Ytflojfkalnojbaa
open Go.RowKit
/-- How a draw of a message stands: the result's box, the message's box, its lists, the source. -/
def Dr.St (w : World) (b : Nat) (cv : Value) (W : World) (B a : Nat) (m : Ms) (v u : Value) : Prop :=
  MBoxAt W w.heap.size ⟨0, 0, 0, 0, 0, [], []⟩ (.slice none 0 0) (.slice none 0 0) ∧ MBoxAt W B m v u ∧ w.heap.size < B ∧ W.ownsRow (B + 1) 38 3 v m.certs.length (cellsCt m.certs) ∧ W.ownsRow (B + 1) 2 1 u m.refs.length (m.refs.map (Value.int .i64)) ∧ Dr.Tick b a cv w W
theorem Dr.St.tick {w : World} {b : Nat} {cv : Value} {W W' : World} {B a a2 : Nat} {m : Ms} {v u : Value} (h : Dr.St w b cv W B a m v u) (hb : b < w.heap.size) (ht : Dr.Tick b a2 cv W W') : Dr.St w b cv W' B a2 m v u := by
  obtain ⟨h1, h2, h3, h4, h5, h6⟩ := h
  exact ⟨ht.2.2.box h1 (by omega), ht.2.2.box h2 (by omega), h3, ht.2.2.own h4 (by omega), ht.2.2.own h5 (by omega), h6.trans ht⟩
theorem Dr.St.ext {w : World} {b : Nat} {cv : Value} {W W' : World} {B a : Nat} {m : Ms} {v u : Value} (h : Dr.St w b cv W B a m v u) (he : Ext W W') : Dr.St w b cv W' B a m v u := by
  obtain ⟨h1, h2, h3, h4, h5, h6⟩ := h
  exact ⟨h1.ext he, h2.ext he, h3, Led.own_ext h4 he, Led.own_ext h5 he, h6.ext he⟩
theorem Dr.St.slot {w : World} {b : Nat} {cv : Value} {W : World} {B a : Nat} {m : Ms} {v u : Value} (h : Dr.St w b cv W B a m v u) (hb : b < w.heap.size) (x : Int) : Dr.St w b cv (W.setCell ⟨B, 3, none⟩ (.int .i64 x)) B a { m with slot := x } v u := by
  obtain ⟨h1, h2, h3, h4, h5, h6⟩ := h
  exact ⟨h1.set_ne (by omega), Dr.box_set3 h2, h3, Led.owns_set h4 (by omega) _, Led.owns_set h5 (by omega) _, h6.set hb _ _ (by omega) _⟩
theorem Dr.St.value {w : World} {b : Nat} {cv : Value} {W : World} {B a : Nat} {m : Ms} {v u : Value} (h : Dr.St w b cv W B a m v u) (hb : b < w.heap.size) (x : Int) : Dr.St w b cv (W.setCell ⟨B, 4, none⟩ (.int .i64 x)) B a { m with value := x } v u := by
  obtain ⟨h1, h2, h3, h4, h5, h6⟩ := h
  exact ⟨h1.set_ne (by omega), Dr.box_set4 h2, h3, Led.owns_set h4 (by omega) _, Led.owns_set h5 (by omega) _, h6.set hb _ _ (by omega) _⟩
theorem Dr.St.got {w : World} {b : Nat} {cv : Value} {W : World} {B a k : Nat} {m : Ms} {v u : Value} (h : Dr.St w b cv W B a m v u) (hb : b < w.heap.size) (hk : a ≤ k) (h1 : m.certs.length ≤ 5) (h2 : m.refs.length ≤ 4) : Dr.Got (w.heap.size + 1) w b k cv m v u (Dr.put7 W w.heap.size m v u) := by
  obtain ⟨-, -, h3, h4, h5, h6⟩ := h
  exact Dr.Got.put7 ⟨Dr.own_base h4 (by omega), Dr.own_base h5 (by omega), h1, h2, a, hk, h6⟩ hb _ (Nat.le_refl _) (by omega)
theorem Dr.St.certs {w : World} {b : Nat} {cv : Value} {W W2 : World} {B a : Nat} {m : Ms} {v u v6 : Value} {o : Obj} {z : Ct} (h : Dr.St w b cv W B a m v u) (hb : b < w.heap.size) (ho : W2.ownsRow (B + 1) 38 3 v6 (m.certs.length + 1) (cellsCt m.certs ++ cellsCt [z])) (hg : (W.alloc o).grownBy W2 v.ownBlock) : Dr.St w b cv (W2.setCell ⟨B, 5, none⟩ v6) B a { m with certs := m.certs ++ [z] } v6 u := by
  obtain ⟨h1, h2, h3, h4, h5, h6⟩ := h
  have hv := h4.lt
  have hB : Below (B + 1) W W2 := Below.grown ((Below.refl _ _).alloc (by have := h2.1; omega) _) hg (by have := h2.1; simp; omega) (fun q hq => (hv q hq).1)
  have e1 : MBoxAt W2 w.heap.size ⟨0, 0, 0, 0, 0, [], []⟩ (.slice none 0 0) (.slice none 0 0) := Dr.box_below h1 hB (by omega)
  have e2 : MBoxAt W2 B m v u := Dr.box_below h2 hB (by omega)
  refine ⟨e1.set_ne (by omega), e2.set5, h3, ?_, ?_, ?_⟩
  · have h9 := Led.owns_set ho (b := B) (o := 5) (by omega) v6
    rw [List.length_append]
    rw [show cellsCt (m.certs ++ [z]) = cellsCt m.certs ++ cellsCt [z] from by simp [cellsCt]]
    exact h9
  · exact Led.owns_set (Dr.own_grown (h5.alloc _) hg (Dr.own_ne h4 h5 Dr.ne_types)) (by omega) _
  · exact (Dr.Tick.grown (h6.ext ((Ext.refl _).alloc _)) hb hg (fun q hq => by have := (hv q hq).1; omega)).set hb _ _ (by omega) _
theorem Dr.St.refs {w : World} {b : Nat} {cv : Value} {W W2 : World} {B a : Nat} {m : Ms} {v u v6 : Value} {o : Obj} {z : Int} (h : Dr.St w b cv W B a m v u) (hb : b < w.heap.size) (ho : W2.ownsRow (B + 1) 2 1 v6 (m.refs.length + 1) (m.refs.map (Value.int .i64) ++ [.int .i64 z])) (hg : (W.alloc o).grownBy W2 u.ownBlock) : Dr.St w b cv (W2.setCell ⟨B, 6, none⟩ v6) B a { m with refs := m.refs ++ [z] } v v6 := by
  obtain ⟨h1, h2, h3, h4, h5, h6⟩ := h
  have hv := h5.lt
  have hB : Below (B + 1) W W2 := Below.grown ((Below.refl _ _).alloc (by have := h2.1; omega) _) hg (by have := h2.1; simp; omega) (fun q hq => (hv q hq).1)
  have e1 : MBoxAt W2 w.heap.size ⟨0, 0, 0, 0, 0, [], []⟩ (.slice none 0 0) (.slice none 0 0) := Dr.box_below h1 hB (by omega)
  have e2 : MBoxAt W2 B m v u := Dr.box_below h2 hB (by omega)
  refine ⟨e1.set_ne (by omega), e2.set6, h3, ?_, ?_, ?_⟩
  · exact Led.owns_set (Dr.own_grown (h4.alloc _) hg (Dr.own_ne h5 h4 (Ne.symm Dr.ne_types))) (by omega) _
  · have h9 := Led.owns_set ho (b := B) (o := 6) (by omega) v6
    rw [List.length_append, List.map_append]
    exact h9
  · exact (Dr.Tick.grown (h6.ext ((Ext.refl _).alloc _)) hb hg (fun q hq => by have := (hv q hq).1; omega)).set hb _ _ (by omega) _
end Go.Proofs.Ytflojfkalnojbaa
