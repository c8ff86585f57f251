/- KC0, KM0, in one text. -/
import Derived.Test.YtecgjdgfjgcmdaaGreatRtG9
import Derived.Test.YtecgjdgfjgcmdaaGreatRtRP4
import Derived.Test.YtecgjdgfjgcmdaaGreatRtGA
namespace Go.Proofs.YtecgjdgfjgcmdaaGreat
open Go.RowKit
def cmark (k : Nat) : Ct := ⟨(k : Nat), (k + 1 : Nat), (k + 2 : Nat)⟩
def cmarks (k n : Nat) : List Ct := (List.range n).map fun i => cmark (k + 3 * i)
theorem CtOwn.pick {w : World} {v : Value} {g : Nat} {ts : List Ct} (h : CtOwn w v g ts) : ∃ g', g' ≤ w.heap.size ∧ CtOwn w v g' ts ∧ (g' = w.heap.size ∧ ¬ 0 < ts.length ∨ (g' = g ∧ g < w.heap.size ∧ 0 < ts.length)) := by
 by_cases h0 : 0 < ts.length
 ·exact ⟨g, Nat.le_of_lt (h.lt h0), h, Or.inr ⟨rfl, h.lt h0, h0⟩⟩
 ·exact ⟨_, Nat.le_refl _, h.nil h0, Or.inl ⟨rfl, h0⟩⟩
end Go.Proofs.YtecgjdgfjgcmdaaGreat
namespace Go.Proofs.YtecgjdgfjgcmdaaGreat
open Go.RowKit
theorem ctown_nil (w : World) (g : Nat) : CtOwn w (.slice none 0 0) g [] := ⟨none, 0, rfl, Nat.le_refl _, by unfold maxLen; omega, fun h => absurd h (by simp)⟩
theorem iown_nil (w : World) (g : Nat) : Led.IOwn w (.slice none 0 0) g [] := ⟨none, 0, rfl, Nat.le_refl _, by unfold maxLen; omega, fun h => absurd h (by simp)⟩
/-- The lists of m lie in memory that was made since wx, apart from each other. -/
def KM (m : Ms) : World → World → Value → Value → Prop := fun wx W x y => ∃ g1 g2, wx.heap.size ≤ g1 ∧ wx.heap.size ≤ g2 ∧ (0 < m.certs.length → 0 < m.refs.length → g1 ≠ g2) ∧ CtOwn W x g1 m.certs ∧ Led.IOwn W y g2 m.refs
theorem KM_kept (m : Ms) : Kept2 (KM m) := fun wx W W' b x y hb hu ⟨g1, g2, h1, h2, h3, h4, h5⟩ => ⟨g1, g2, h1, h2, h3, h4.upd' hu (fun _ => by omega), h5.upd' hu (fun _ => by omega)⟩
theorem KM.ext {m : Ms} {wx W W' : World} {x y : Value} (h : KM m wx W x y) (he : Ext W W') : KM m wx W' x y := by
 obtain ⟨g1, g2, h1, h2, h3, h4, h5⟩ := h
 exact ⟨g1, g2, h1, h2, h3, h4.ext he, h5.ext he⟩
theorem KM.old {m : Ms} {w wx W : World} {x y : Value} (h : KM m wx W x y) (he : Ext w wx) : KM m w W x y := by
 obtain ⟨g1, g2, h1, h2, h3, h4, h5⟩ := h
 exact ⟨g1, g2, Nat.le_trans he.size h1, Nat.le_trans he.size h2, h3, h4, h5⟩
theorem KM.zero (w W : World) : KM zeroM w W (.slice none 0 0) (.slice none 0 0) := ⟨_, _, Nat.le_refl _, Nat.le_refl _, fun h => absurd h (by simp [zeroM]), ctown_nil _ _, iown_nil _ _⟩
def ansM (c : Int) (m : Ms) : Ms := if c = 0 then m else zeroM
/-- A MsgResult of code c and message m came back, its lists in new memory. -/
def MgRet (w : World) (c : Int) (m : Ms) (e : Ending) (w' : World) : Prop := ∃ x y, e = .returned (mres c m x y) ∧ KM m w w' x y ∧ Ext w w'
theorem MgRet.of {c : Int} {m : Ms} {w w' : World} {e : Ending} (h : Heard (KM m) c m w e w') : MgRet w c (ansM c m) e w' := by
 obtain ⟨he, ⟨h1, h2⟩ | ⟨h1, x, y, wx, h2, h3, h4⟩⟩ := h
 ·refine ⟨_, _, by rw [h2]; unfold ansM; rw [if_neg h1], ?_, he⟩
  unfold ansM; rw [if_neg h1]; exact KM.zero _ _
 ·subst h1
  exact ⟨x, y, h2, h4.old h3, he⟩
/-- The lists of m lie in blocks from lo to hi, apart from each other. -/
def MgAt (lo hi : Nat) (w : World) (x y : Value) (m : Ms) : Prop :=
 ∃ g1 g2, (0 < m.certs.length → lo ≤ g1 ∧ g1 < hi) ∧ (0 < m.refs.length → lo ≤ g2 ∧ g2 < hi) ∧ (0 < m.certs.length → 0 < m.refs.length → g1 ≠ g2) ∧ CtOwn w x g1 m.certs ∧ Led.IOwn w y g2 m.refs
theorem MgAt.of {m : Ms} {w W : World} {x y : Value} (h : KM m w W x y) : MgAt w.heap.size W.heap.size W x y m := by
 obtain ⟨g1, g2, h1, h2, h3, h4, h5⟩ := h
 exact ⟨g1, g2, fun h => ⟨h1, h4.lt h⟩, fun h => ⟨h2, h5.lt h⟩, h3, h4, h5⟩
theorem MgAt.ext {lo hi : Nat} {w w' : World} {x y : Value} {m : Ms} (h : MgAt lo hi w x y m) (he : Ext w w') : MgAt lo hi w' x y m := by
 obtain ⟨g1, g2, h1, h2, h3, h4, h5⟩ := h
 exact ⟨g1, g2, h1, h2, h3, h4.ext he, h5.ext he⟩
theorem MgAt.mono {lo hi lo' hi' : Nat} {w : World} {x y : Value} {m : Ms} (h : MgAt lo hi w x y m) (hl : lo' ≤ lo) (hh : hi ≤ hi') : MgAt lo' hi' w x y m := by
 obtain ⟨g1, g2, h1, h2, h3, h4, h5⟩ := h
 exact ⟨g1, g2, fun h => by have := h1 h; omega, fun h => by have := h2 h; omega, h3, h4, h5⟩
theorem MgAt.slice {lo hi : Nat} {w : World} {x y : Value} {m : Ms} (h : MgAt lo hi w x y m) : MLs w x y m := by
 obtain ⟨g1, g2, -, -, -, h4, h5⟩ := h
 exact ⟨h4.slice, h5.slice⟩
theorem MgAt.form {lo hi : Nat} {w : World} {x y : Value} {m : Ms} (h : MgAt lo hi w x y m) : ∃ a c a' c', x = .slice a m.certs.length c ∧ y = .slice a' m.refs.length c' := by
 obtain ⟨a, c, a', c', h1, h2, -⟩ := h.slice.form
 exact ⟨a, c, a', c', h1, h2⟩
def mmarks (m : Ms) : Ms := ⟨m.kind, m.view, m.from_, m.slot, m.value, cmarks 1 m.certs.length, Led.imarks (1 + 3 * m.certs.length) m.refs.length⟩
def markE (m : Ms) : Nat := 1 + 3 * m.certs.length + m.refs.length
/-- A MsgResult in a box. -/
def MrBox (w : World) (b : Nat) (c : Int) (m : Ms) (x y : Value) : Prop := b < w.heap.size ∧ w.cell? ⟨b, 0, none⟩ = some (.int .i64 c) ∧ w.cell? ⟨b, 1, none⟩ = some (.int .i64 m.kind) ∧ w.cell? ⟨b, 2, none⟩ = some (.int .i64 m.view) ∧ w.cell? ⟨b, 3, none⟩ = some (.int .i64 m.from_) ∧ w.cell? ⟨b, 4, none⟩ = some (.int .i64 m.slot) ∧ w.cell? ⟨b, 5, none⟩ = some (.int .i64 m.value) ∧ w.cell? ⟨b, 6, none⟩ = some x ∧ w.cell? ⟨b, 7, none⟩ = some y
theorem MrBox.ext {w w' : World} {b : Nat} {c : Int} {m : Ms} {x y : Value} (h : MrBox w b c m x y) (he : Ext w w') : MrBox w' b c m x y := by
 obtain ⟨hc, _⟩ := Ext.cell he
 obtain ⟨hb, c0, c1, c2, c3, c4, c5, c6, c7⟩ := h
 exact ⟨Nat.lt_of_lt_of_le hb he.size, (hc _ _ hb).trans c0, (hc _ _ hb).trans c1, (hc _ _ hb).trans c2, (hc _ _ hb).trans c3, (hc _ _ hb).trans c4, (hc _ _ hb).trans c5, (hc _ _ hb).trans c6, (hc _ _ hb).trans c7⟩
theorem mrbox_new (w : World) (c : Int) (m : Ms) (x y : Value) (t : TypeId) : MrBox (w.alloc (.cells #[.int .i64 c, .int .i64 m.kind, .int .i64 m.view, .int .i64 m.from_, .int .i64 m.slot, .int .i64 m.value, x, y] t)) w.heap.size c m x y := ⟨by simp, by simp, by simp, by simp, by simp, by simp, by simp, by simp, by simp⟩
/-- A list of n entries in block g may have turned, and nothing else. -/
def UpdN (n g : Nat) (w w' : World) : Prop := ∃ g', Upd g' w w' ∧ (0 < n → g' = g) ∧ (¬ 0 < n → g' = w.heap.size)
end Go.Proofs.YtecgjdgfjgcmdaaGreat
