/- what draws of messages lean on. -/
import Derived.Test.YtfgjodnjahhanaaDoorVvJ30
import Derived.Test.YtfgjodnjahhanaaDoorVvQS5
namespace Go.Proofs.YtfgjodnjahhanaaDoor
open Go.RowKit
namespace Dr
/-- Blocks that were there are as they were, but block b. -/
def Kp (b : Nat) (w w' : World) : Prop := w.heap.size ≤ w'.heap.size ∧ ∀ g, g < w.heap.size → g ≠ b → w'.heap[g]? = w.heap[g]?
theorem Kp.refl (b : Nat) (w : World) : Kp b w w := ⟨Nat.le_refl _, fun _ _ _ => rfl⟩
theorem Kp.trans {b : Nat} {w w1 w2 : World} (h : Kp b w w1) (h2 : Kp b w1 w2) : Kp b w w2 := ⟨Nat.le_trans h.1 h2.1, fun g hg hne => (h2.2 g (Nat.lt_of_lt_of_le hg h.1) hne).trans (h.2 g hg hne)⟩
theorem Kp.ext {b : Nat} {w w' : World} (h : Ext w w') : Kp b w w' := ⟨h.size, fun g hg _ => Below.block h g hg⟩
theorem Kp.cell {b : Nat} {w w' : World} (h : Kp b w w') {g : Nat} (hg : g < w.heap.size) (hne : g ≠ b) (o : Nat) : w'.cell? ⟨g, o, none⟩ = w.cell? ⟨g, o, none⟩ ∧ w'.frozen? ⟨g, o, none⟩ = w.frozen? ⟨g, o, none⟩ := by
  have e := h.2 g hg hne
  unfold World.cell? World.frozen?
  simp only [e, and_self]
theorem Kp.own {b : Nat} {w w' : World} (hk : Kp b w w') {base : Nat} {e : TypeId} {s : Nat} {v : Value} {n : Nat} {xs : List Value} (h : w.ownsRow base e s v n xs) (hb : b < base) : w'.ownsRow base e s v n xs := by
  refine ⟨h.1, ?_⟩
  rcases h.2 with hn | ⟨g, cap, cur, rfl, hg, hgg, rest⟩
  · exact .inl hn
  · exact .inr ⟨g, cap, cur, rfl, hg, (hk.2 g (Array.getElem?_eq_some_iff.1 hgg).1 (by omega)).trans hgg, rest⟩
theorem Kp.box {b : Nat} {w w' : World} (hk : Kp b w w') {B : Nat} {m : Ms} {v u : Value} (h : MBoxAt w B m v u) (hne : B ≠ b) : MBoxAt w' B m v u := by
  obtain ⟨hb, ⟨c0, c1, c2, c3, c4, c5, c6⟩, f0, f1, f2, f3, f4, f5, f6⟩ := h
  have hc := fun k => (hk.cell hb hne k).1
  have hf := fun k => (hk.cell hb hne k).2
  exact ⟨Nat.lt_of_lt_of_le hb hk.1, ⟨(hc _).trans c0, (hc _).trans c1, (hc _).trans c2, (hc _).trans c3, (hc _).trans c4, (hc _).trans c5, (hc _).trans c6⟩, (hf _).trans f0, (hf _).trans f1, (hf _).trans f2, (hf _).trans f3, (hf _).trans f4, (hf _).trans f5, (hf _).trans f6⟩
theorem heap_set (w : World) {k g : Nat} (h : k ≠ g) (o : Nat) (v : Value) : (w.setCell ⟨g, o, none⟩ v).heap[k]? = w.heap[k]? := Below.heap_setCell w ⟨g, o, none⟩ v k h
theorem Kp.set {b : Nat} {w w1 : World} (h : Kp b w w1) (g o : Nat) (hg : w.heap.size ≤ g ∨ g = b) (v : Value) : Kp b w (w1.setCell ⟨g, o, none⟩ v) :=
  ⟨by simpa using h.1, fun k hk hne => by
    have e : (w1.setCell ⟨g, o, none⟩ v).heap[k]? = w1.heap[k]? := heap_set w1 (by omega) o v
    exact e.trans (h.2 k hk hne)⟩
theorem Kp.drewN {b : Nat} {w w1 : World} (h : Kp b w w1) (q : Nat) : Kp b w (w1.drewN q) := ⟨by simpa using h.1, fun k hk hne => by simpa using h.2 k hk hne⟩
/-- A draw was made: the source has gone on, nothing else has turned. -/
def Tick (b a : Nat) (cv : Value) (w w' : World) : Prop := SrcAt w' b a cv ∧ Below b w w' ∧ Kp b w w'
theorem Tick.upd {b a : Nat} {cv : Value} {w w' : World} (h : Tick b a cv w w') : Upd b w w' := ⟨h.2.1, h.2.2.1, fun _ o hc hl => h.2.2.cell hl (Nat.ne_of_gt hc) o⟩
theorem tick_of {b a : Nat} {cv : Value} {w w' : World} {q : Nat} (h : SrcAt w b a cv) (e : w' = (w.setCell ⟨b, 1, none⟩ (.int .i64 (a + 1 : Nat))).drewN q) : Tick b (a + 1) cv w w' := by
  rw [e]
  exact ⟨h.place _ _, (Upd.place _ _ _).1, ((Kp.refl b w).set _ _ (Or.inr rfl) _).drewN _⟩
theorem next (b a : Nat) (cv : Value) (n : Int) (w : World) (h : SrcAt w b a cv) (h1 : 1 ≤ n) (h2 : n ≤ 200) (ha : a ≤ 1000) :
    Calls Tryd.prog 52 #[.pointer (some ⟨b, 0, none⟩), .int .i64 n] w fun e w' => ∃ r : Int, e = .returned (.int .i64 r) ∧ 0 ≤ r ∧ r < n ∧ Tick b (a + 1) cv w w' :=
  (next_any b a cv n w h h1 h2 ha).mono fun _ _ ⟨r, _, h1, h2, h3, h4⟩ => ⟨r, h1, h2, h3, tick_of h h4⟩
theorem nums_new (w : World) (l : List Int) (t : TypeId) : NumsAt (w.alloc (.cells (l.map (Value.int .i64)).toArray t)) w.heap.size 0 l := by
  intro i x hx
  rw [Nat.zero_add, World.cell?_alloc_at _ _ _ _ rfl]
  simp [hx]
theorem pick (b a : Nat) (cv : Value) (l : List Int) (w : World) (t : TypeId) (h : SrcAt w b a cv) (h1 : 1 ≤ l.length) (h2 : l.length ≤ 200) (ha : a ≤ 1000) :
    Calls Tryd.prog 51 #[.pointer (some ⟨b, 0, none⟩), .slice (some ⟨w.heap.size, 0, none⟩) l.length l.length] (w.alloc (.cells (l.map (Value.int .i64)).toArray t)) fun e w' => ∃ x : Int, e = .returned (.int .i64 x) ∧ Tick b (a + 1) cv w w' :=
  (pick_any b a w.heap.size 0 _ cv l _ (h.alloc _) (Nat.ne_of_gt h.lt) (nums_new w l t) h1 h2 ha).mono fun _ _ ⟨x, _, h1, h4⟩ => ⟨x, h1, by
    obtain ⟨q1, q2, q3⟩ := tick_of (h.alloc _) h4
    exact ⟨q1, ((Below.refl _ _).alloc (Nat.le_of_lt h.lt) _).trans q2, (Kp.ext ((Ext.refl _).alloc _)).trans q3⟩⟩
theorem src_set {w : World} {b a : Nat} {cv : Value} (h : SrcAt w b a cv) (g o : Nat) (hg : b < g) (v : Value) : SrcAt (w.setCell ⟨g, o, none⟩ v) b a cv := h.kept ((Below.refl _ _).setCell (p := ⟨g, o, none⟩) hg v)
/-- From w on: draws were made, new memory was made and written. -/
theorem Tick.trans {b a a2 : Nat} {cv : Value} {w w1 w2 : World} (h : Tick b a cv w w1) (h2 : Tick b a2 cv w1 w2) : Tick b a2 cv w w2 := ⟨h2.1, h.2.1.trans h2.2.1, h.2.2.trans h2.2.2⟩
theorem Tick.ext {b a : Nat} {cv : Value} {w w1 w2 : World} (h : Tick b a cv w w1) (he : Ext w1 w2) : Tick b a cv w w2 := ⟨h.1.ext he, h.2.1.trans (Below.mono he (Nat.le_of_lt h.1.lt)), h.2.2.trans (Kp.ext he)⟩
theorem Tick.start {b a : Nat} {cv : Value} {w : World} (h : SrcAt w b a cv) : Tick b a cv w w := ⟨h, Below.refl _ _, Kp.refl _ _⟩
theorem Tick.set {b a : Nat} {cv : Value} {w w1 : World} (h : Tick b a cv w w1) (hb : b < w.heap.size) (g o : Nat) (hg : w.heap.size ≤ g) (v : Value) : Tick b a cv w (w1.setCell ⟨g, o, none⟩ v) := ⟨src_set h.1 _ _ (by omega) _, Below.setCell (p := ⟨g, o, none⟩) h.2.1 (by show b ≤ g; omega) v, h.2.2.set _ _ (Or.inl hg) _⟩
theorem Tick.grown {b a : Nat} {cv : Value} {w w1 w2 : World} {k : Option Nat} (h : Tick b a cv w w1) (hb : b < w.heap.size) (hg : w1.grownBy w2 k) (hk : ∀ q, k = some q → w.heap.size ≤ q) : Tick b a cv w w2 := by
  have hB : Below w.heap.size w1 w2 := Below.grown (Below.refl _ _) hg h.2.2.1 (fun q hq => hk q hq)
  refine ⟨h.1.kept (hB.mono (by omega)), h.2.1.trans (hB.mono (by omega)), ?_⟩
  refine ⟨Nat.le_trans h.2.2.1 hg.size, fun g hg1 hne => ?_⟩
  exact (hg.block g (Nat.lt_of_lt_of_le hg1 h.2.2.1) (fun e => by have := hk g e.symm; omega)).trans (h.2.2.2 g hg1 hne)
def put7 (W : World) (R : Nat) (m : Ms) (v u : Value) : World := (((((((W.setCell ⟨R, 0, none⟩ (.int .i64 m.kind)).setCell ⟨R, 1, none⟩ (.int .i64 m.view)).setCell ⟨R, 2, none⟩ (.int .i64 m.from_)).setCell ⟨R, 3, none⟩ (.int .i64 m.slot)).setCell ⟨R, 4, none⟩ (.int .i64 m.value)).setCell ⟨R, 5, none⟩ v).setCell ⟨R, 6, none⟩ u)
end Dr
end Go.Proofs.YtfgjodnjahhanaaDoor
