/- numbers of their own, marks, what marking a ledger turns. -/
import Derived.Test.YtfgjodnjahhanaaDoorVvLG1
namespace Go.Proofs.YtfgjodnjahhanaaDoor
open Go.RowKit
namespace Led
def IOwn (w : World) (v : Value) (g : Nat) (ts : List Int) : Prop :=
  ∃ a cap, v = .slice a ts.length cap ∧ ts.length ≤ cap ∧ cap ≤ maxLen ∧ (0 < ts.length → ∃ off, a = some ⟨g, off, none⟩ ∧ IRoom w g off ts.length ∧ NumsAt w g off ts)
theorem IOwn.slice {w : World} {v : Value} {g : Nat} {ts : List Int} (h : IOwn w v g ts) : ISlice w v ts := by
  obtain ⟨a, cap, h1, h2, h3, h4⟩ := h
  refine ⟨a, cap, h1, h2, h3, fun h0 => ?_⟩
  obtain ⟨off, e, hr, hN⟩ := h4 h0
  exact ⟨g, off, e, hr.1, hN⟩
theorem IOwn.ext {w w' : World} {v : Value} {g : Nat} {ts : List Int} (h : IOwn w v g ts) (he : Ext w w') : IOwn w' v g ts := by
  obtain ⟨a, cap, h1, h2, h3, h4⟩ := h
  refine ⟨a, cap, h1, h2, h3, fun h0 => ?_⟩
  obtain ⟨off, e, hr, hN⟩ := h4 h0
  exact ⟨off, e, iroom_ext hr he, hN.ext hr.1 he⟩
theorem IOwn.lt {w : World} {v : Value} {g : Nat} {ts : List Int} (h : IOwn w v g ts) (h0 : 0 < ts.length) : g < w.heap.size := by
  obtain ⟨a, cap, -, -, -, h4⟩ := h
  obtain ⟨off, -, hr, -⟩ := h4 h0
  exact hr.1
theorem IOwn.nil {w w' : World} {v : Value} {g g' : Nat} {ts : List Int} (h : IOwn w v g ts) (h0 : ¬ 0 < ts.length) : IOwn w' v g' ts := by
  obtain ⟨a, cap, h1, h2, h3, -⟩ := h
  exact ⟨a, cap, h1, h2, h3, fun h => absurd h h0⟩
theorem IOwn.upd' {w w' : World} {v : Value} {g b : Nat} {ts : List Int} (h : IOwn w v g ts) (he : Upd b w w') (hne : 0 < ts.length → g ≠ b) : IOwn w' v g ts := by
  by_cases h0 : 0 < ts.length
  · obtain ⟨a, cap, h1, h2, h3, h4⟩ := h
    refine ⟨a, cap, h1, h2, h3, fun _ => ?_⟩
    obtain ⟨off, e, hr, hN⟩ := h4 h0
    exact ⟨off, e, iroom_upd hr he (hne h0), numsAt_upd hN he (hne h0) hr.1⟩
  · exact h.nil h0
theorem IOwn.pick {w : World} {v : Value} {g : Nat} {ts : List Int} (h : IOwn w v g ts) : ∃ g', g' ≤ w.heap.size ∧ IOwn w v g' ts ∧ (g' = w.heap.size ∧ ¬ 0 < ts.length ∨ (g' = g ∧ g < w.heap.size ∧ 0 < ts.length)) := by
  by_cases h0 : 0 < ts.length
  · exact ⟨g, Nat.le_of_lt (h.lt h0), h, Or.inr ⟨rfl, h.lt h0, h0⟩⟩
  · exact ⟨_, Nat.le_refl _, h.nil h0, Or.inl ⟨rfl, h0⟩⟩
theorem iown_of_owns {w : World} {base : Nat} {v : Value} {l : List Int} (h : w.ownsRow base 2 1 v l.length (l.map (Value.int .i64))) : ∃ g, base ≤ g ∧ (0 < l.length → g < w.heap.size) ∧ IOwn w v g l := by
  have hlt := h.lt
  rcases h.2 with ⟨hv, h0⟩ | ⟨g, cap, cur, hv, hb, hh, hn, hm, hcs, htk⟩
  · exact ⟨base, Nat.le_refl _, fun h => by omega, none, 0, by rw [hv, h0], by omega, by unfold maxLen; omega, fun h => by omega⟩
  · subst hv
    refine ⟨g, hb, fun _ => (hlt g rfl).2, some ⟨g, 0, none⟩, cap, rfl, hn, hm, fun h0 => ⟨0, rfl, ⟨(hlt g rfl).2, fun j hj => ⟨?_, h.frozenAt _⟩⟩, fun i x hx => ?_⟩⟩
    · rw [Nat.zero_add]
      exact ⟨.int .i64 (l[j]'hj), by rw [h.cellAt j (by omega), List.getElem?_map, List.getElem?_eq_getElem hj]; rfl⟩
    · have hi := (List.getElem?_eq_some_iff.1 hx).1
      rw [Nat.zero_add, h.cellAt i (by omega), List.getElem?_map, hx]; rfl


def imarks (k n : Nat) : List Int := (List.range n).map fun i => ((k + i : Nat) : Int)
def jr (c : Int) (v : Value) : Value := .agg #[.int .i64 c, v]

/-- An IntsResult of code c and numbers rs came back, its numbers in new memory. -/
def JRet (w : World) (c : Int) (rs : List Int) (e : Ending) (w' : World) : Prop :=
  ∃ v g, e = .returned (jr c v) ∧ w.heap.size ≤ g ∧ IOwn w' v g rs ∧ Ext w w'
/-- Block b holds a IntsResult. -/
def JBoxAt (w : World) (b : Nat) (c : Int) (v : Value) : Prop :=
  b < w.heap.size ∧ w.cell? ⟨b, 0, none⟩ = some (.int .i64 c) ∧ w.cell? ⟨b, 1, none⟩ = some v
theorem JBoxAt.ext {w w' : World} {b : Nat} {c : Int} {v : Value} (h : JBoxAt w b c v) (he : Ext w w') : JBoxAt w' b c v := by
  obtain ⟨hc, _⟩ := Ext.cell he
  exact ⟨Nat.lt_of_lt_of_le h.1 he.size, (hc _ _ h.1).trans h.2.1, (hc _ _ h.1).trans h.2.2⟩
theorem JBoxAt.upd {w w' : World} {b g : Nat} {c : Int} {v : Value} (h : JBoxAt w b c v) (he : Upd g w w') (hne : b ≠ g) : JBoxAt w' b c v :=
  ⟨Nat.lt_of_lt_of_le h.1 he.2.1, (he.at_ne _ _ hne h.1).1.trans h.2.1, (he.at_ne _ _ hne h.1).1.trans h.2.2⟩
theorem jbox_new (w : World) (c : Int) (v : Value) (t : TypeId) : JBoxAt (w.alloc (.cells #[.int .i64 c, v] t)) w.heap.size c v :=
  ⟨by simp, by simp, by simp⟩


/-- Nothing has turned but blocks from lo to hi. -/
def UpdR (lo hi : Nat) (w w' : World) : Prop :=
  Below lo w w' ∧ w.heap.size ≤ w'.heap.size ∧ ∀ c o, hi ≤ c → c < w.heap.size → w'.cell? ⟨c, o, none⟩ = w.cell? ⟨c, o, none⟩ ∧ w'.frozen? ⟨c, o, none⟩ = w.frozen? ⟨c, o, none⟩
theorem UpdR.refl (lo hi : Nat) (w : World) : UpdR lo hi w w := ⟨Below.refl _ _, Nat.le_refl _, fun _ _ _ _ => ⟨rfl, rfl⟩⟩
theorem UpdR.trans {lo hi : Nat} {w w1 w2 : World} (h : UpdR lo hi w w1) (h2 : UpdR lo hi w1 w2) : UpdR lo hi w w2 :=
  ⟨h.1.trans h2.1, Nat.le_trans h.2.1 h2.2.1, fun c o hc hl => ⟨((h2.2.2 c o hc (Nat.lt_of_lt_of_le hl h.2.1)).1).trans (h.2.2 c o hc hl).1, ((h2.2.2 c o hc (Nat.lt_of_lt_of_le hl h.2.1)).2).trans (h.2.2 c o hc hl).2⟩⟩
theorem UpdR.of {lo hi b : Nat} {w w' : World} (h : Upd b w w') (h1 : lo ≤ b) (h2 : b < hi) : UpdR lo hi w w' :=
  ⟨Below.mono h.1 h1, h.2.1, fun c o hc hl => h.2.2 c o (by omega) hl⟩
theorem UpdR.mono {lo hi lo' : Nat} {w w' : World} (h : UpdR lo hi w w') (h1 : lo' ≤ lo) : UpdR lo' hi w w' := ⟨Below.mono h.1 h1, h.2.1, h.2.2⟩
theorem UpdR.at_ne {lo hi : Nat} {w w' : World} (h : UpdR lo hi w w') (c o : Nat) (hc : c < lo ∨ hi ≤ c) (hl : c < w.heap.size) : w'.cell? ⟨c, o, none⟩ = w.cell? ⟨c, o, none⟩ ∧ w'.frozen? ⟨c, o, none⟩ = w.frozen? ⟨c, o, none⟩ := by
  rcases hc with hc | hc
  · exact ⟨h.1.cell (p := ⟨c, o, none⟩) hc, h.1.frozen (p := ⟨c, o, none⟩) hc⟩
  · exact h.2.2 c o hc hl
theorem UpdR.to_ext {lo hi : Nat} {w w1 w' : World} (h : UpdR lo hi w1 w') (he : Ext w w1) (hb : w.heap.size ≤ lo) : Ext w w' := Below.trans he (Below.mono h.1 hb)
/-- Cells that were there are there still, and may be written as before. -/
def Kept (w w' : World) : Prop := w.heap.size ≤ w'.heap.size ∧ ∀ b o, (∀ u, w.cell? ⟨b, o, none⟩ = some u → ∃ u', w'.cell? ⟨b, o, none⟩ = some u') ∧ w'.frozen? ⟨b, o, none⟩ = w.frozen? ⟨b, o, none⟩
theorem Kept.refl (w : World) : Kept w w := ⟨Nat.le_refl _, fun _ _ => ⟨fun u h => ⟨u, h⟩, rfl⟩⟩
theorem Kept.trans {w w1 w2 : World} (h : Kept w w1) (h2 : Kept w1 w2) : Kept w w2 := ⟨Nat.le_trans h.1 h2.1, fun b o => ⟨fun u hu => by obtain ⟨u', hu'⟩ := (h.2 b o).1 u hu; exact (h2.2 b o).1 u' hu', (h2.2 b o).2.trans (h.2 b o).2⟩⟩
theorem Kept.set {w w' : World} (h : Kept w w') (g p : Nat) (v : Value) : Kept w (w'.setCell ⟨g, p, none⟩ v) := by
  refine h.trans ⟨by simp, fun b o => ⟨fun u hu => ?_, by simp⟩⟩
  by_cases hh : g = b ∧ p = o
  · obtain ⟨rfl, rfl⟩ := hh
    exact ⟨v, iset_eq _ _ _ _ ⟨u, hu⟩⟩
  · exact ⟨u, by rw [iset_ne _ _ _ _ _ _ (by omega)]; exact hu⟩
theorem Kept.ct {w w' : World} (h : Kept w w') {g off n : Nat} (hr : CtRoom w g off n) : CtRoom w' g off n :=
  ⟨Nat.lt_of_lt_of_le hr.1 h.1, fun j hj => ⟨by obtain ⟨u, hu⟩ := (hr.2 j hj).1; exact (h.2 _ _).1 u hu, (h.2 _ _).2.trans (hr.2 j hj).2⟩⟩
theorem Kept.ir {w w' : World} (h : Kept w w') {g off n : Nat} (hr : IRoom w g off n) : IRoom w' g off n :=
  ⟨Nat.lt_of_lt_of_le hr.1 h.1, fun j hj => ⟨by obtain ⟨u, hu⟩ := (hr.2 j hj).1; exact (h.2 _ _).1 u hu, (h.2 _ _).2.trans (hr.2 j hj).2⟩⟩
theorem Kept.mr {w w' : World} (h : Kept w w') {g off n : Nat} (hr : MRoom w g off n) : MRoom w' g off n :=
  ⟨Nat.lt_of_lt_of_le hr.1 h.1, fun j hj => ⟨by obtain ⟨u, hu⟩ := (hr.2 j hj).1; exact (h.2 _ _).1 u hu, (h.2 _ _).2.trans (hr.2 j hj).2⟩⟩
/-- A list of n certificates lies from lo to hi and may be written. -/
def CtR (lo hi : Nat) (w : World) (v : Value) (n : Nat) : Prop :=
  ∃ a cap, v = .slice a n cap ∧ n ≤ cap ∧ cap ≤ maxLen ∧ (0 < n → ∃ b off, a = some ⟨b, off, none⟩ ∧ lo ≤ b ∧ b < hi ∧ CtRoom w b off n)
def IR (lo hi : Nat) (w : World) (v : Value) (n : Nat) : Prop :=
  ∃ a cap, v = .slice a n cap ∧ n ≤ cap ∧ cap ≤ maxLen ∧ (0 < n → ∃ b off, a = some ⟨b, off, none⟩ ∧ lo ≤ b ∧ b < hi ∧ IRoom w b off n)
theorem CtR.kept {lo hi : Nat} {w w' : World} {v : Value} {n : Nat} (h : CtR lo hi w v n) (hk : Kept w w') : CtR lo hi w' v n := by
  obtain ⟨a, cap, h1, h2, h3, h4⟩ := h
  refine ⟨a, cap, h1, h2, h3, fun h0 => ?_⟩
  obtain ⟨b, off, e, hB, hC, hr⟩ := h4 h0
  exact ⟨b, off, e, hB, hC, hk.ct hr⟩
theorem IR.kept {lo hi : Nat} {w w' : World} {v : Value} {n : Nat} (h : IR lo hi w v n) (hk : Kept w w') : IR lo hi w' v n := by
  obtain ⟨a, cap, h1, h2, h3, h4⟩ := h
  refine ⟨a, cap, h1, h2, h3, fun h0 => ?_⟩
  obtain ⟨b, off, e, hB, hC, hr⟩ := h4 h0
  exact ⟨b, off, e, hB, hC, hk.ir hr⟩
theorem CtR.of {B : Nat} {w : World} {v : Value} {zs : List Ct} (h : CtNew B w v zs) : CtR B w.heap.size w v zs.length := by
  obtain ⟨a, cap, h1, h2, h3, h4⟩ := h
  refine ⟨a, cap, h1, h2, h3, fun h0 => ?_⟩
  obtain ⟨b, off, e, hB, hr, hN⟩ := h4 h0
  exact ⟨b, off, e, hB, hr.1, hr⟩
theorem IR.of {B : Nat} {w : World} {v : Value} {zs : List Int} (h : INew B w v zs) : IR B w.heap.size w v zs.length := by
  obtain ⟨a, cap, h1, h2, h3, h4⟩ := h
  refine ⟨a, cap, h1, h2, h3, fun h0 => ?_⟩
  obtain ⟨b, off, e, hB, hr, hN⟩ := h4 h0
  exact ⟨b, off, e, hB, hr.1, hr⟩
/-- The ledger in block g may be written, and its lists from there up to hi. -/
def LRoom (hi : Nat) (w : World) (g : Nat) (ms : List Ms) : Prop :=
  MRoom w g 0 ms.length ∧ ∀ (i : Nat) m, ms[i]? = some m → ∃ v u, w.cell? ⟨g, i * 7 + 5, none⟩ = some v ∧ w.cell? ⟨g, i * 7 + 6, none⟩ = some u ∧ CtR (g + 1) hi w v m.certs.length ∧ IR (g + 1) hi w u m.refs.length
theorem LRoom.of {w : World} {g : Nat} {ms : List Ms} (hr : MRoom w g 0 ms.length) (h : MsNew w g 0 ms) : LRoom w.heap.size w g ms := by
  refine ⟨hr, fun i m hm => ?_⟩
  obtain ⟨v, u, ⟨-, -, -, -, -, c5, c6⟩, h2, h3⟩ := h i m hm
  rw [Nat.zero_add] at c5 c6
  exact ⟨v, u, c5, c6, CtR.of h2, IR.of h3⟩
theorem CtR.ext {lo hi : Nat} {w w' : World} {v : Value} {n : Nat} (h : CtR lo hi w v n) (he : Ext w w') : CtR lo hi w' v n := by
  obtain ⟨a, cap, h1, h2, h3, h4⟩ := h
  refine ⟨a, cap, h1, h2, h3, fun h0 => ?_⟩
  obtain ⟨b, off, e, hB, hC, hr⟩ := h4 h0
  exact ⟨b, off, e, hB, hC, hr.ext he⟩
theorem IR.ext {lo hi : Nat} {w w' : World} {v : Value} {n : Nat} (h : IR lo hi w v n) (he : Ext w w') : IR lo hi w' v n := by
  obtain ⟨a, cap, h1, h2, h3, h4⟩ := h
  refine ⟨a, cap, h1, h2, h3, fun h0 => ?_⟩
  obtain ⟨b, off, e, hB, hC, hr⟩ := h4 h0
  exact ⟨b, off, e, hB, hC, iroom_ext hr he⟩
theorem LRoom.ext {hi : Nat} {w w' : World} {g : Nat} {ms : List Ms} (h : LRoom hi w g ms) (he : Ext w w') : LRoom hi w' g ms := by
  refine ⟨h.1.ext he, fun i m hm => ?_⟩
  obtain ⟨v, u, c5, c6, h2, h3⟩ := h.2 i m hm
  exact ⟨v, u, ((Ext.cell he).1 _ _ h.1.1).trans c5, ((Ext.cell he).1 _ _ h.1.1).trans c6, h2.ext he, h3.ext he⟩
theorem LRoom.set {hi : Nat} {w : World} {g : Nat} {ms : List Ms} (h : LRoom hi w g ms) (j r : Nat) (x : Value) (hr : r < 5) : LRoom hi (w.setCell ⟨g, j * 7 + r, none⟩ x) g ms := by
  have hk : Kept w (w.setCell ⟨g, j * 7 + r, none⟩ x) := (Kept.refl w).set _ _ x
  refine ⟨hk.mr h.1, fun i m hm => ?_⟩
  obtain ⟨v, u, c5, c6, h2, h3⟩ := h.2 i m hm
  exact ⟨v, u, by rw [iset_ne _ _ _ _ _ _ (Or.inr (by omega))]; exact c5, by rw [iset_ne _ _ _ _ _ _ (Or.inr (by omega))]; exact c6, h2.kept hk, h3.kept hk⟩
def five (w : World) (g o : Nat) (a b c d e : Value) : World := ((((w.setCell ⟨g, o, none⟩ a).setCell ⟨g, o + 1, none⟩ b).setCell ⟨g, o + 2, none⟩ c).setCell ⟨g, o + 3, none⟩ d).setCell ⟨g, o + 4, none⟩ e
theorem LRoom.five {hi : Nat} {w : World} {g : Nat} {ms : List Ms} (h : LRoom hi w g ms) (j : Nat) (a b c d e : Value) : LRoom hi (five w g (j * 7) a b c d e) g ms :=
  (((((by have h0 := h.set j 0 a (by omega); rw [Nat.add_zero] at h0; exact h0 : LRoom hi (w.setCell ⟨g, j * 7, none⟩ a) g ms)).set j 1 b (by omega)).set j 2 c (by omega)).set j 3 d (by omega)).set j 4 e (by omega)
end Led
end Go.Proofs.YtfgjodnjahhanaaDoor
