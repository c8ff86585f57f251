/- LV0, KM0, LRp, LMr, TM0, in one text. -/
import Derived.Test.YtecgjdgfjgcmdaaGreatRcLG5
import Derived.Test.YtecgjdgfjgcmdaaGreatRcKC0
import Derived.Test.YtecgjdgfjgcmdaaGreatRcRP4
import Derived.Test.YtecgjdgfjgcmdaaGreatRcGP
namespace Go.Proofs.YtecgjdgfjgcmdaaGreat
open Go.RowKit
def OnlyZ (R : Act → World → Prop) : Exit → Act → World → Prop
  | .normal, a, w => R a w
  | _, _, _ => False
theorem OnlyZ.out {R : Act → World → Prop} {e : Exit} {a : Act} {w : World} (h : OnlyZ R e a w) : e = .normal ∧ R a w := by
  cases e <;> first | exact ⟨rfl, h⟩ | exact (h : False).elim
/-- An IntsResult was made and boxed in bw; w0 is as it was. -/
def Led.Got (w0 : World) (c : Int) (rs : List Int) (W : World) (bw g3 : Nat) (v : Value) : Prop :=
  Ext w0 W ∧ w0.heap.size ≤ bw ∧ Led.JBoxAt W bw c v ∧ Led.IOwn W v g3 rs ∧ w0.heap.size ≤ g3
theorem Led.Got.new {w0 n : World} {c : Int} {rs : List Int} {g3 : Nat} {v : Value} {t : TypeId} (X : Ext w0 n) (hO : Led.IOwn n v g3 rs) (hg : w0.heap.size ≤ g3) : Led.Got w0 c rs (n.alloc (.cells #[.int .i64 c, v] t)) n.heap.size g3 v :=
  ⟨X.alloc _, X.size, Led.jbox_new n c v t, hO.ext ((Ext.refl _).alloc _), hg⟩
theorem Led.jz_put {n : World} {b : Nat} {c : Int} {v : Value} (B : Led.JZ n b) : Led.JBoxAt ((n.setCell ⟨b, 0, none⟩ (.int .i64 c)).setCell ⟨b, 1, none⟩ v) b c v := by
  obtain ⟨h0, h1, h2, -, -⟩ := B
  refine ⟨by simpa using h0, ?_, ?_⟩
  · rw [iset_ne _ _ _ _ _ _ (by omega)]; exact iset_eq _ _ _ _ ⟨_, h1⟩
  · apply iset_eq; rw [iset_ne _ _ _ _ _ _ (by omega)]; exact ⟨_, h2⟩
theorem Led.Got.set {w0 n : World} {c : Int} {rs : List Int} {g3 b : Nat} {v : Value} (X : Ext w0 n) (hb : w0.heap.size ≤ b) (B : Led.JZ n b) (hO : Led.IOwn n v g3 rs) (hbg : 0 < rs.length → g3 ≠ b) (hg : w0.heap.size ≤ g3) : Led.Got w0 c rs ((n.setCell ⟨b, 0, none⟩ (.int .i64 c)).setCell ⟨b, 1, none⟩ v) b g3 v :=
  ⟨(X.setCell (p := ⟨b, 0, none⟩) hb _).setCell (p := ⟨b, 1, none⟩) hb _, hb, Led.jz_put B, hO.upd' (((Upd.refl b n).setAt _ _).setAt _ _) hbg, hg⟩
theorem Led.UpdR.alloc' {lo hi : Nat} {w : World} (o : Obj) (h : lo ≤ w.heap.size) : Led.UpdR lo hi w (w.alloc o) :=
  ⟨(Below.refl _ _).alloc h _, by simp, fun c k _ hl => ⟨World.cell?_alloc_lt _ _ _ hl, World.frozen?_alloc_old _ _ _ (Nat.ne_of_lt hl)⟩⟩
theorem Led.CtR.updR {lo hi lo2 hi2 : Nat} {w w' : World} {v : Value} {n : Nat} (h : Led.CtR lo2 hi2 w v n) (hu : Led.UpdR lo hi w w') (hle : hi ≤ lo2) : Led.CtR lo2 hi2 w' v n := by
  obtain ⟨a, cap, h1, h2, h3, h4⟩ := h
  refine ⟨a, cap, h1, h2, h3, fun h0 => ?_⟩
  obtain ⟨b, off, e, hB, hC, hr⟩ := h4 h0
  exact ⟨b, off, e, hB, hC, Nat.lt_of_lt_of_le hr.1 hu.2.1, fun j hj => ⟨by rw [(hu.at_ne _ _ (Or.inr (by omega)) hr.1).1]; exact (hr.2 j hj).1, by rw [(hu.at_ne _ _ (Or.inr (by omega)) hr.1).2]; exact (hr.2 j hj).2⟩⟩
theorem Led.IR.updR {lo hi lo2 hi2 : Nat} {w w' : World} {v : Value} {n : Nat} (h : Led.IR lo2 hi2 w v n) (hu : Led.UpdR lo hi w w') (hle : hi ≤ lo2) : Led.IR lo2 hi2 w' v n := by
  obtain ⟨a, cap, h1, h2, h3, h4⟩ := h
  refine ⟨a, cap, h1, h2, h3, fun h0 => ?_⟩
  obtain ⟨b, off, e, hB, hC, hr⟩ := h4 h0
  exact ⟨b, off, e, hB, hC, Nat.lt_of_lt_of_le hr.1 hu.2.1, fun j hj => ⟨by rw [(hu.at_ne _ _ (Or.inr (by omega)) hr.1).1]; exact (hr.2 j hj).1, by rw [(hu.at_ne _ _ (Or.inr (by omega)) hr.1).2]; exact (hr.2 j hj).2⟩⟩
theorem MBoxAt.updR {lo hi : Nat} {w w' : World} {b : Nat} {m : Ms} {v u : Value} (h : MBoxAt w b m v u) (hu : Led.UpdR lo hi w w') (hne : b < lo ∨ hi ≤ b) : MBoxAt w' b m v u := by
  obtain ⟨hb, ⟨c0, c1, c2, c3, c4, c5, c6⟩, f0, f1, f2, f3, f4, f5, f6⟩ := h
  have hc := fun k => (hu.at_ne b k hne hb).1
  have hf := fun k => (hu.at_ne b k hne hb).2
  exact ⟨Nat.lt_of_lt_of_le hb hu.2.1, ⟨(hc _).trans c0, (hc _).trans c1, (hc _).trans c2, (hc _).trans c3, (hc _).trans c4, (hc _).trans c5, (hc _).trans c6⟩, (hf _).trans f0, (hf _).trans f1, (hf _).trans f2, (hf _).trans f3, (hf _).trans f4, (hf _).trans f5, (hf _).trans f6⟩
namespace Led
end Led
end Go.Proofs.YtecgjdgfjgcmdaaGreat
namespace Go.Proofs.YtecgjdgfjgcmdaaGreat
open Go.RowKit
theorem ctown_nil (w : World) (g : Nat) : CtOwn w (.slice none 0 0) g [] := ⟨none, 0, rfl, Nat.le_refl _, by unfold maxLen; omega, fun h => absurd h (by simp)⟩
theorem iown_nil (w : World) (g : Nat) : Led.IOwn w (.slice none 0 0) g [] := ⟨none, 0, rfl, Nat.le_refl _, by unfold maxLen; omega, fun h => absurd h (by simp)⟩
/-- The lists of m lie in memory that was made since wx, apart from each other. -/
def KM (m : Ms) : World → World → Value → Value → Prop := fun wx W x y => ∃ g1 g2, wx.heap.size ≤ g1 ∧ wx.heap.size ≤ g2 ∧ (0 < m.certs.length → 0 < m.refs.length → g1 ≠ g2) ∧ CtOwn W x g1 m.certs ∧ Led.IOwn W y g2 m.refs
theorem KM_kept (m : Ms) : Kept2 (KM m) := fun wx W W' b x y hb hu ⟨g1, g2, h1, h2, h3, h4, h5⟩ => ⟨g1, g2, h1, h2, h3, h4.upd' hu (fun _ => by omega), h5.upd' hu (fun _ => by omega)⟩
theorem KM.ext {m : Ms} {wx W W' : World} {x y : Value} (h : KM m wx W x y) (he : Ext W W') : KM m wx W' x y := by
  obtain ⟨g1, g2, h1, h2, h3, h4, h5⟩ := h
  exact ⟨g1, g2, h1, h2, h3, h4.ext he, h5.ext he⟩
theorem KM.old {m : Ms} {w wx W : World} {x y : Value} (h : KM m wx W x y) (he : Ext w wx) : KM m w W x y := by
  obtain ⟨g1, g2, h1, h2, h3, h4, h5⟩ := h
  exact ⟨g1, g2, Nat.le_trans he.size h1, Nat.le_trans he.size h2, h3, h4, h5⟩
theorem KM.zero (w W : World) : KM zeroM w W (.slice none 0 0) (.slice none 0 0) := ⟨_, _, Nat.le_refl _, Nat.le_refl _, fun h => absurd h (by simp [zeroM]), ctown_nil _ _, iown_nil _ _⟩
def ansM (c : Int) (m : Ms) : Ms := if c = 0 then m else zeroM
/-- A MsgResult of code c and message m came back, its lists in new memory. -/
def MgRet (w : World) (c : Int) (m : Ms) (e : Ending) (w' : World) : Prop := ∃ x y, e = .returned (mres c m x y) ∧ KM m w w' x y ∧ Ext w w'
theorem MgRet.of {c : Int} {m : Ms} {w w' : World} {e : Ending} (h : Heard (KM m) c m w e w') : MgRet w c (ansM c m) e w' := by
  obtain ⟨he, ⟨h1, h2⟩ | ⟨h1, x, y, wx, h2, h3, h4⟩⟩ := h
  · refine ⟨_, _, by rw [h2]; unfold ansM; rw [if_neg h1], ?_, he⟩
    unfold ansM; rw [if_neg h1]; exact KM.zero _ _
  · subst h1
    exact ⟨x, y, h2, h4.old h3, he⟩
/-- The lists of m lie in blocks from lo to hi, apart from each other. -/
def MgAt (lo hi : Nat) (w : World) (x y : Value) (m : Ms) : Prop :=
  ∃ g1 g2, (0 < m.certs.length → lo ≤ g1 ∧ g1 < hi) ∧ (0 < m.refs.length → lo ≤ g2 ∧ g2 < hi) ∧ (0 < m.certs.length → 0 < m.refs.length → g1 ≠ g2) ∧ CtOwn w x g1 m.certs ∧ Led.IOwn w y g2 m.refs
theorem MgAt.of {m : Ms} {w W : World} {x y : Value} (h : KM m w W x y) : MgAt w.heap.size W.heap.size W x y m := by
  obtain ⟨g1, g2, h1, h2, h3, h4, h5⟩ := h
  exact ⟨g1, g2, fun h => ⟨h1, h4.lt h⟩, fun h => ⟨h2, h5.lt h⟩, h3, h4, h5⟩
theorem MgAt.ext {lo hi : Nat} {w w' : World} {x y : Value} {m : Ms} (h : MgAt lo hi w x y m) (he : Ext w w') : MgAt lo hi w' x y m := by
  obtain ⟨g1, g2, h1, h2, h3, h4, h5⟩ := h
  exact ⟨g1, g2, h1, h2, h3, h4.ext he, h5.ext he⟩
theorem MgAt.mono {lo hi lo' hi' : Nat} {w : World} {x y : Value} {m : Ms} (h : MgAt lo hi w x y m) (hl : lo' ≤ lo) (hh : hi ≤ hi') : MgAt lo' hi' w x y m := by
  obtain ⟨g1, g2, h1, h2, h3, h4, h5⟩ := h
  exact ⟨g1, g2, fun h => by have := h1 h; omega, fun h => by have := h2 h; omega, h3, h4, h5⟩
theorem MgAt.updR {lo hi lo' hi' : Nat} {w w' : World} {x y : Value} {m : Ms} (h : MgAt lo hi w x y m) (hu : Led.UpdR lo' hi' w w') (hd : hi ≤ lo' ∨ hi' ≤ lo) : MgAt lo hi w' x y m := by
  obtain ⟨g1, g2, h1, h2, h3, h4, h5⟩ := h
  exact ⟨g1, g2, h1, h2, h3, h4.updR hu (fun h => by have := h1 h; omega), h5.updR hu (fun h => by have := h2 h; omega)⟩
theorem MgAt.slice {lo hi : Nat} {w : World} {x y : Value} {m : Ms} (h : MgAt lo hi w x y m) : MLs w x y m := by
  obtain ⟨g1, g2, -, -, -, h4, h5⟩ := h
  exact ⟨h4.slice, h5.slice⟩
theorem MgAt.form {lo hi : Nat} {w : World} {x y : Value} {m : Ms} (h : MgAt lo hi w x y m) : ∃ a c a' c', x = .slice a m.certs.length c ∧ y = .slice a' m.refs.length c' := by
  obtain ⟨a, c, a', c', h1, h2, -⟩ := h.slice.form
  exact ⟨a, c, a', c', h1, h2⟩
def mmarks (m : Ms) : Ms := ⟨m.kind, m.view, m.from_, m.slot, m.value, cmarks 1 m.certs.length, Led.imarks (1 + 3 * m.certs.length) m.refs.length⟩
def markE (m : Ms) : Nat := 1 + 3 * m.certs.length + m.refs.length
/-- A MsgResult in a box. -/
def MrBox (w : World) (b : Nat) (c : Int) (m : Ms) (x y : Value) : Prop := b < w.heap.size ∧ w.cell? ⟨b, 0, none⟩ = some (.int .i64 c) ∧ w.cell? ⟨b, 1, none⟩ = some (.int .i64 m.kind) ∧ w.cell? ⟨b, 2, none⟩ = some (.int .i64 m.view) ∧ w.cell? ⟨b, 3, none⟩ = some (.int .i64 m.from_) ∧ w.cell? ⟨b, 4, none⟩ = some (.int .i64 m.slot) ∧ w.cell? ⟨b, 5, none⟩ = some (.int .i64 m.value) ∧ w.cell? ⟨b, 6, none⟩ = some x ∧ w.cell? ⟨b, 7, none⟩ = some y
theorem MrBox.ext {w w' : World} {b : Nat} {c : Int} {m : Ms} {x y : Value} (h : MrBox w b c m x y) (he : Ext w w') : MrBox w' b c m x y := by
  obtain ⟨hc, _⟩ := Ext.cell he
  obtain ⟨hb, c0, c1, c2, c3, c4, c5, c6, c7⟩ := h
  exact ⟨Nat.lt_of_lt_of_le hb he.size, (hc _ _ hb).trans c0, (hc _ _ hb).trans c1, (hc _ _ hb).trans c2, (hc _ _ hb).trans c3, (hc _ _ hb).trans c4, (hc _ _ hb).trans c5, (hc _ _ hb).trans c6, (hc _ _ hb).trans c7⟩
theorem MrBox.updR {lo hi : Nat} {w w' : World} {b : Nat} {c : Int} {m : Ms} {x y : Value} (h : MrBox w b c m x y) (hu : Led.UpdR lo hi w w') (hne : b < lo ∨ hi ≤ b) : MrBox w' b c m x y := by
  obtain ⟨hb, c0, c1, c2, c3, c4, c5, c6, c7⟩ := h
  have hc := fun k => (hu.at_ne b k hne hb).1
  exact ⟨Nat.lt_of_lt_of_le hb hu.2.1, (hc _).trans c0, (hc _).trans c1, (hc _).trans c2, (hc _).trans c3, (hc _).trans c4, (hc _).trans c5, (hc _).trans c6, (hc _).trans c7⟩
theorem mrbox_new (w : World) (c : Int) (m : Ms) (x y : Value) (t : TypeId) : MrBox (w.alloc (.cells #[.int .i64 c, .int .i64 m.kind, .int .i64 m.view, .int .i64 m.from_, .int .i64 m.slot, .int .i64 m.value, x, y] t)) w.heap.size c m x y := ⟨by simp, by simp, by simp, by simp, by simp, by simp, by simp, by simp, by simp⟩
/-- A list of n entries in block g may have turned, and nothing else. -/
def UpdN (n g : Nat) (w w' : World) : Prop := ∃ g', Upd g' w w' ∧ (0 < n → g' = g) ∧ (¬ 0 < n → g' = w.heap.size)
theorem UpdN.updR {n g lo hi : Nat} {w w' : World} (h : UpdN n g w w') (h1 : 0 < n → lo ≤ g ∧ g < hi) (hlo : lo ≤ w.heap.size) : Led.UpdR lo hi w w' := by
  obtain ⟨g', hu, ha, hb⟩ := h
  by_cases h0 : 0 < n
  · rw [ha h0] at hu; exact Led.UpdR.of hu (h1 h0).1 (h1 h0).2
  · rw [hb h0] at hu; exact ⟨Below.mono hu.1 hlo, hu.2.1, fun c o _ hl => hu.at_ne c o (Nat.ne_of_lt hl) hl⟩
theorem UpdN.iown {n g g2 : Nat} {w w' : World} {y : Value} {l : List Int} (h : UpdN n g w w') (hI : Led.IOwn w y g2 l) (hne : 0 < n → 0 < l.length → g ≠ g2) : Led.IOwn w' y g2 l := by
  obtain ⟨g', hu, ha, hb⟩ := h
  refine hI.upd' hu (fun h2 => ?_)
  by_cases h0 : 0 < n
  · rw [ha h0]; exact fun e => hne h0 h2 e.symm
  · rw [hb h0]; have := hI.lt h2; omega
theorem UpdN.ctown {n g g2 : Nat} {w w' : World} {y : Value} {l : List Ct} (h : UpdN n g w w') (hI : CtOwn w y g2 l) (hne : 0 < n → 0 < l.length → g ≠ g2) : CtOwn w' y g2 l := by
  obtain ⟨g', hu, ha, hb⟩ := h
  refine hI.upd' hu (fun h2 => ?_)
  by_cases h0 : 0 < n
  · rw [ha h0]; exact fun e => hne h0 h2 e.symm
  · rw [hb h0]; have := hI.lt h2; omega
theorem markCertN (v : Value) (g : Nat) (ts : List Ct) (k : Nat) (w : World) (hO : CtOwn w v g ts) (hk : k ≤ 100) (hl : ts.length ≤ 1048576) :
    Calls Tryz.prog 61 #[v, .int .i64 k] w fun e w' => e = .returned (.int .i64 (k + 3 * ts.length : Nat)) ∧ CtOwn w' v g (cmarks k ts.length) ∧ UpdN ts.length g w w' := by
  by_cases h0 : 0 < ts.length
  · exact (markCertS_any v g ts k w hO hk hl).mono fun e w' h => ⟨h.1, h.2.1, g, h.2.2, fun _ => rfl, fun h => absurd h0 h⟩
  · exact (markCertS_any v w.heap.size ts k w (hO.nil h0) hk hl).mono fun e w' h => ⟨h.1, h.2.1.nil (by rw [cmarks_length]; exact h0), w.heap.size, h.2.2, fun h => absurd h h0, fun _ => rfl⟩
theorem markIntN (v : Value) (g : Nat) (ts : List Int) (k : Nat) (w : World) (hO : Led.IOwn w v g ts) (hk : k ≤ 10000000) (hl : ts.length ≤ 1048576) :
    Calls Tryz.prog 62 #[v, .int .i64 k] w fun e w' => e = .returned (.int .i64 (k + ts.length : Nat)) ∧ Led.IOwn w' v g (Led.imarks k ts.length) ∧ UpdN ts.length g w w' := by
  by_cases h0 : 0 < ts.length
  · exact (Led.markInt64S_any v g ts k w hO hk hl).mono fun e w' h => ⟨h.1, h.2.1, g, h.2.2, fun _ => rfl, fun h => absurd h0 h⟩
  · exact (Led.markInt64S_any v w.heap.size ts k w (hO.nil h0) hk hl).mono fun e w' h => ⟨h.1, h.2.1.nil (by rw [Led.imarks_length]; exact h0), w.heap.size, h.2.2, fun h => absurd h h0, fun _ => rfl⟩
set_option linter.unusedSimpArgs false in
set_option maxHeartbeats 4000000 in
set_option maxRecDepth 100000 in
theorem markMsg_at (lo hi : Nat) (m : Ms) (x y : Value) (w : World) (hO : MgAt lo hi w x y m) (hlo : lo ≤ hi) (hhi : hi ≤ w.heap.size) (hsc : m.certs.length ≤ 1048576) (hsr : m.refs.length ≤ 1048576) :
    Calls Tryz.prog 63 #[magg m x y, .int .i64 ((1 : Nat) : Int)] w fun e w' => e = .returned (.int .i64 (markE m : Nat)) ∧ MLs w' x y (mmarks m) ∧ Led.UpdR lo hi w w' := by
  obtain ⟨g1, g2, h1, h2, h3, h4, h5⟩ := hO
  have HC : Hid (∀ wx, CtOwn wx x g1 m.certs → Calls Tryz.prog 61 #[x, .int .i64 ((1 : Nat) : Int)] wx fun e w' => e = .returned (.int .i64 (1 + 3 * m.certs.length : Nat)) ∧ CtOwn w' x g1 (cmarks 1 m.certs.length) ∧ UpdN m.certs.length g1 wx w') := fun wx h => markCertN x g1 m.certs 1 wx h (by omega) hsc
  have HI : Hid (∀ wx, Led.IOwn wx y g2 m.refs → Calls Tryz.prog 62 #[y, .int .i64 ((1 + 3 * m.certs.length : Nat) : Int)] wx fun e w' => e = .returned (.int .i64 (1 + 3 * m.certs.length + m.refs.length : Nat)) ∧ Led.IOwn w' y g2 (Led.imarks (1 + 3 * m.certs.length) m.refs.length) ∧ UpdN m.refs.length g2 wx w') := fun wx h => markIntN y g2 m.refs _ wx h (by omega) hsr
  have H4 : Hid (CtOwn w x g1 m.certs) := h4
  have H5 : Hid (Led.IOwn w y g2 m.refs) := h5
  have HN : Hid ((0 < m.certs.length → lo ≤ g1 ∧ g1 < hi) ∧ (0 < m.refs.length → lo ≤ g2 ∧ g2 < hi) ∧ (0 < m.certs.length → 0 < m.refs.length → g1 ≠ g2)) := ⟨h1, h2, h3⟩
  obtain ⟨a, c, rfl, -⟩ := id h4
  obtain ⟨a', c', rfl, -⟩ := id h5
  clear h1 h2 h3 h4 h5
  have HE : Hid (markE m = 1 + 3 * m.certs.length + m.refs.length) := rfl
  have HMM : Hid (∀ W, CtOwn W (.slice a m.certs.length c) g1 (cmarks 1 m.certs.length) → Led.IOwn W (.slice a' m.refs.length c') g2 (Led.imarks (1 + 3 * m.certs.length) m.refs.length) → MLs W (.slice a m.certs.length c) (.slice a' m.refs.length c') (mmarks m)) := fun W h1 h2 => ⟨h1.slice, h2.slice⟩
  unfold magg
  rw [HE.out]
  have hw1 : (1 + 3 * m.certs.length : Nat) ≤ 10000000 := by omega
  go_enter Tryz.func63, Tryz.ntmps63
  go_wp2_with fail
  refine (HC.out _ (H4.out.ext ((Ext.refl _).alloc _))).mono ?_
  rintro e w2 ⟨rfl, hC2, hu⟩
  have HU2 : Hid (Led.UpdR lo hi (w.alloc _) w2) := hu.updR HN.out.1 (by simp; omega)
  have HI2 : Hid (Led.IOwn w2 (.slice a' m.refs.length c') g2 m.refs) := hu.iown (H5.out.ext ((Ext.refl _).alloc _)) HN.out.2.2
  have HC2 : Hid (CtOwn w2 (.slice a m.certs.length c) g1 (cmarks 1 m.certs.length)) := hC2
  obtain ⟨-, ⟨p0, p1, p2, p3, p4, p5, p6⟩, -⟩ := (mbox_new w m (.slice a m.certs.length c) (.slice a' m.refs.length c') 40).updR HU2.out (Or.inr hhi)
  have HU3 : Hid (Led.UpdR lo hi w w2) := (Led.UpdR.alloc' _ (by omega)).trans HU2.out
  clear hu hC2 HU2
  go_wp2_with fail
  refine (HI.out _ HI2.out).mono ?_
  rintro e w3 ⟨rfl, hI3, hu⟩
  have HU4 : Hid (Led.UpdR lo hi w w3) := HU3.out.trans (hu.updR HN.out.2.1 (by have := HU3.out.2.1; omega))
  have HM4 : Hid (MLs w3 (.slice a m.certs.length c) (.slice a' m.refs.length c') (mmarks m)) := HMM.out w3 (hu.ctown HC2.out (fun p q e => HN.out.2.2 (by rwa [cmarks_length] at q) p e.symm)) hI3
  clear hu hI3
  go_wp2
  go_ret
  exact ⟨rfl, HM4.out, HU4.out⟩
set_option linter.unusedSimpArgs false in
set_option maxHeartbeats 4000000 in
set_option maxRecDepth 100000 in
theorem heldMsg_at (m : Ms) (x y : Value) (w : World) (hO : MLs w x y (mmarks m)) (hsc : m.certs.length ≤ 1048576) (hsr : m.refs.length ≤ 1048576) :
    Calls Tryz.prog 64 #[magg m x y, .int .i64 ((1 : Nat) : Int)] w fun e w' => e = .returned (.int .i64 (markE m : Nat)) ∧ Ext w w' := by
  have HC : Hid (∀ wx, Ext w wx → Calls Tryz.prog 118 #[x, .int .i64 ((1 : Nat) : Int)] wx fun e w' => e = .returned (.int .i64 (1 + 3 * m.certs.length : Nat)) ∧ Ext wx w') := fun wx h => heldCertS_any x m.certs.length 1 wx (hO.1.ext h) (by omega) hsc
  have HI : Hid (∀ wx, Ext w wx → Calls Tryz.prog 119 #[y, .int .i64 ((1 + 3 * m.certs.length : Nat) : Int)] wx fun e w' => e = .returned (.int .i64 (1 + 3 * m.certs.length + m.refs.length : Nat)) ∧ Ext wx w') := fun wx h => Led.heldInt64S_any y m.refs.length _ wx (hO.2.ext h) (by omega) hsr
  obtain ⟨a, c, a', c', rfl, rfl, -⟩ := hO.form
  clear hO
  have HE : Hid (markE m = 1 + 3 * m.certs.length + m.refs.length) := rfl
  unfold magg
  obtain ⟨k1, hk1⟩ : ∃ k1, k1 = 1 + 3 * m.certs.length := ⟨_, rfl⟩
  obtain ⟨k2, hk2⟩ : ∃ k2, k2 = k1 + m.refs.length := ⟨_, rfl⟩
  rw [HE.out]
  rw [← hk1] at HC HI ⊢
  rw [← hk2] at HI ⊢
  clear hk1 hk2 HE
  go_enter Tryz.func64, Tryz.ntmps64
  go_wp2_with fail
  refine (HC.out _ ((Ext.refl _).alloc _)).mono ?_
  rintro e w2 ⟨rfl, hb⟩
  obtain ⟨-, ⟨p0, p1, p2, p3, p4, p5, p6⟩, -⟩ := (mbox_new w m (.slice a (mmarks m).certs.length c) (.slice a' (mmarks m).refs.length c') 40).ext hb
  have HE2 : Hid (Ext w w2) := ((Ext.refl _).alloc _).trans hb
  clear hb
  go_wp2_with fail
  refine (HI.out _ HE2.out).mono ?_
  rintro e w3 ⟨rfl, hb⟩
  have HE3 : Hid (Ext w w3) := HE2.out.trans hb
  clear hb
  go_wp2
  go_ret
  exact ⟨rfl, HE3.out⟩
set_option linter.unusedSimpArgs false in
set_option maxHeartbeats 4000000 in
set_option maxRecDepth 100000 in
theorem eqMsgResult_same (c : Int) (m : Ms) (x y x' y' : Value) (w : World) (h : MLs w x y m) (h' : MLs w x' y' m) :
    Calls Tryz.prog 25 #[mres c m x y, mres c m x' y'] w fun e w' => e = .returned (.bool true) ∧ Ext w w' := by
  have HQ : Hid (∀ wx, Ext w wx → Calls Tryz.prog 47 #[magg m x y, magg m x' y'] wx fun e w' => e = .returned (.bool true) ∧ Ext wx w') := fun wx he => eqMsg_same m x x' y y' wx (h.ext he) (h'.ext he)
  have hcc : (c != c) = false := by simp
  obtain ⟨a1, c1, a2, c2, rfl, rfl, -⟩ := h.form
  obtain ⟨a3, c3, a4, c4, rfl, rfl, -⟩ := h'.form
  clear h h'
  unfold mres magg at *
  go_enter Tryz.func25, Tryz.ntmps25
  go_wp2_with fail
  refine (HQ.out _ (((Ext.refl _).alloc _).alloc _)).mono ?_
  rintro e w2 ⟨rfl, hb⟩
  have HE : Hid (Ext w w2) := (((Ext.refl _).alloc _).alloc _).trans hb
  clear hb
  go_wp2
  go_ret
  exact ⟨rfl, HE.out⟩
set_option linter.unusedSimpArgs false in
set_option maxHeartbeats 4000000 in
set_option maxRecDepth 100000 in
theorem markMsgResult_at (lo hi : Nat) (c : Int) (m : Ms) (x y : Value) (w : World) (hO : MgAt lo hi w x y m) (hlo : lo ≤ hi) (hhi : hi ≤ w.heap.size) (hsc : m.certs.length ≤ 1048576) (hsr : m.refs.length ≤ 1048576) :
    Calls Tryz.prog 27 #[mres c m x y, .int .i64 ((1 : Nat) : Int)] w fun e w' => e = .returned (.int .i64 (markE m : Nat)) ∧ MLs w' x y (mmarks m) ∧ Led.UpdR lo hi w w' := by
  have HQ : Hid (∀ wx, MgAt lo hi wx x y m → hi ≤ wx.heap.size → Calls Tryz.prog 63 #[magg m x y, .int .i64 ((1 : Nat) : Int)] wx fun e w' => e = .returned (.int .i64 (markE m : Nat)) ∧ MLs w' x y (mmarks m) ∧ Led.UpdR lo hi wx w') := fun wx h1 h2 => markMsg_at lo hi m x y wx h1 hlo h2 hsc hsr
  have HO : Hid (MgAt lo hi w x y m) := hO
  obtain ⟨a1, c1, a2, c2, rfl, rfl⟩ := hO.form
  clear hO
  unfold mres magg at *
  generalize markE m = K at *
  go_enter Tryz.func27, Tryz.ntmps27
  go_wp2_with fail
  refine (HQ.out _ (HO.out.ext ((Ext.refl _).alloc _)) (by simp; omega)).mono ?_
  rintro e w2 ⟨rfl, hM, hu⟩
  have HM2 : Hid _ := hM
  have HU : Hid (Led.UpdR lo hi w w2) := (Led.UpdR.alloc' _ (by omega)).trans hu
  clear hM hu
  go_wp2
  go_ret
  exact ⟨rfl, HM2.out, HU.out⟩
set_option linter.unusedSimpArgs false in
set_option maxHeartbeats 4000000 in
set_option maxRecDepth 100000 in
theorem heldMsgResult_at (c : Int) (m : Ms) (x y : Value) (w : World) (hO : MLs w x y (mmarks m)) (hsc : m.certs.length ≤ 1048576) (hsr : m.refs.length ≤ 1048576) :
    Calls Tryz.prog 28 #[mres c m x y, .int .i64 ((1 : Nat) : Int)] w fun e w' => e = .returned (.int .i64 (markE m : Nat)) ∧ Ext w w' := by
  have HQ : Hid (∀ wx, Ext w wx → Calls Tryz.prog 64 #[magg m x y, .int .i64 ((1 : Nat) : Int)] wx fun e w' => e = .returned (.int .i64 (markE m : Nat)) ∧ Ext wx w') := fun wx he => heldMsg_at m x y wx (hO.ext he) hsc hsr
  obtain ⟨a1, c1, a2, c2, rfl, rfl, -⟩ := hO.form
  clear hO
  unfold mres magg at *
  generalize markE m = K at *
  go_enter Tryz.func28, Tryz.ntmps28
  go_wp2_with fail
  refine (HQ.out _ ((Ext.refl _).alloc _)).mono ?_
  rintro e w2 ⟨rfl, hb⟩
  have HE : Hid (Ext w w2) := ((Ext.refl _).alloc _).trans hb
  clear hb
  go_wp2
  go_ret
  exact ⟨rfl, HE.out⟩
end Go.Proofs.YtecgjdgfjgcmdaaGreat
namespace Go.Proofs.YtecgjdgfjgcmdaaGreat
open Go.RowKit
def QBoxAt (w : World) (b : Nat) (c : Rp) : Prop := b < w.heap.size ∧ w.cell? ⟨b, 0, none⟩ = some (.int .i64 c.id) ∧ w.cell? ⟨b, 1, none⟩ = some (.int .i64 c.view) ∧ w.cell? ⟨b, 2, none⟩ = some (.int .i64 c.start) ∧ w.cell? ⟨b, 3, none⟩ = some (.int .i64 c.done)
theorem QBoxAt.ext {w w' : World} {b : Nat} {c : Rp} (h : QBoxAt w b c) (he : Ext w w') : QBoxAt w' b c := by
  obtain ⟨hc, _⟩ := Ext.cell he
  exact ⟨Nat.lt_of_lt_of_le h.1 he.size, (hc _ _ h.1).trans h.2.1, (hc _ _ h.1).trans h.2.2.1, (hc _ _ h.1).trans h.2.2.2.1, (hc _ _ h.1).trans h.2.2.2.2⟩
theorem qbox_new (w : World) (c : Rp) (t : TypeId) : QBoxAt (w.alloc (.cells #[.int .i64 c.id, .int .i64 c.view, .int .i64 c.start, .int .i64 c.done] t)) w.heap.size c := ⟨by simp, by simp, by simp, by simp, by simp⟩
set_option linter.unusedSimpArgs false in
set_option maxHeartbeats 2000000 in
set_option maxRecDepth 100000 in
theorem toReplica_any (c : Rp) (w : World) : Calls Tryz.prog 14 #[ragg c] w fun e w' => e = .returned (ragg c) ∧ Ext w w' := by
  unfold ragg
  go_enter Tryz.func14, Tryz.ntmps14
  go_wp2
  refine bodyPost_ret (v := ragg c) (by simp [results, Tryz.results14, go_sem, ragg]) rfl ?_
  exact ⟨rfl, (((Ext.refl _).alloc _).alloc _).alloc _⟩
end Go.Proofs.YtecgjdgfjgcmdaaGreat
namespace Go.Proofs.YtecgjdgfjgcmdaaGreat
open Go.RowKit
theorem QBoxAt.updR {lo hi : Nat} {w w' : World} {b : Nat} {c : Rp} (h : QBoxAt w b c) (hu : Led.UpdR lo hi w w') (hne : b < lo ∨ hi ≤ b) : QBoxAt w' b c := by
  obtain ⟨hb, c0, c1, c2, c3⟩ := h
  have hc := fun k => (hu.at_ne b k hne hb).1
  exact ⟨Nat.lt_of_lt_of_le hb hu.2.1, (hc _).trans c0, (hc _).trans c1, (hc _).trans c2, (hc _).trans c3⟩
/-- The lists of m lie apart from block b. -/
def MgN (b : Nat) (W : World) (x y : Value) (m : Ms) : Prop := ∃ g1 g2, (0 < m.certs.length → g1 ≠ b) ∧ (0 < m.refs.length → g2 ≠ b) ∧ (0 < m.certs.length → 0 < m.refs.length → g1 ≠ g2) ∧ CtOwn W x g1 m.certs ∧ Led.IOwn W y g2 m.refs
theorem MgN.new {m : Ms} {w W : World} {x y : Value} {b : Nat} (h : KM m w W x y) (hb : b < w.heap.size) : MgN b W x y m := by
  obtain ⟨g1, g2, h1, h2, h3, h4, h5⟩ := h
  exact ⟨g1, g2, fun _ => by omega, fun _ => by omega, h3, h4, h5⟩
theorem MgN.old {m : Ms} {w W W' : World} {x y : Value} {b : Nat} (h : KM m w W x y) (hb : W.heap.size ≤ b) (he : Ext W W') : MgN b W' x y m := by
  obtain ⟨g1, g2, h1, h2, h3, h4, h5⟩ := h
  exact ⟨g1, g2, fun h => by have := h4.lt h; omega, fun h => by have := h5.lt h; omega, h3, h4.ext he, h5.ext he⟩
theorem MgN.ext {m : Ms} {W W' : World} {x y : Value} {b : Nat} (h : MgN b W x y m) (he : Ext W W') : MgN b W' x y m := by
  obtain ⟨g1, g2, h1, h2, h3, h4, h5⟩ := h
  exact ⟨g1, g2, h1, h2, h3, h4.ext he, h5.ext he⟩
theorem MgN.set {m : Ms} {W W' : World} {x y : Value} {b : Nat} (h : MgN b W x y m) (hu : Upd b W W') : MgAt 0 W'.heap.size W' x y m := by
  obtain ⟨g1, g2, h1, h2, h3, h4, h5⟩ := h
  have k4 := h4.upd' hu h1
  have k5 := h5.upd' hu h2
  exact ⟨g1, g2, fun h => ⟨Nat.zero_le _, k4.lt h⟩, fun h => ⟨Nat.zero_le _, k5.lt h⟩, h3, k4, k5⟩
/-- A MsgResult was made and boxed in bw; w0 is as it was. -/
def GotM (w0 : World) (cc : Int) (m : Ms) (W : World) (bw : Nat) (x y : Value) : Prop := Ext w0 W ∧ w0.heap.size ≤ bw ∧ MrBox W bw cc m x y ∧ MgAt 0 W.heap.size W x y m
theorem mr_put {n : World} {b : Nat} {cc : Int} {m : Ms} {x y : Value} (B : ZBox n b [.int .i64 0, .int .i64 0, .int .i64 0, .int .i64 0, .int .i64 0, .int .i64 0, .slice none 0 0, .slice none 0 0]) : MrBox (((((((((n.setCell ⟨b, 0, none⟩ (.int .i64 cc)).setCell ⟨b, 1, none⟩ (.int .i64 m.kind)).setCell ⟨b, 2, none⟩ (.int .i64 m.view)).setCell ⟨b, 3, none⟩ (.int .i64 m.from_)).setCell ⟨b, 4, none⟩ (.int .i64 m.slot)).setCell ⟨b, 5, none⟩ (.int .i64 m.value)).setCell ⟨b, 6, none⟩ x).setCell ⟨b, 7, none⟩ y)) b cc m x y := by
  obtain ⟨z0, -⟩ := B.2 0 _ rfl
  obtain ⟨z1, -⟩ := B.2 1 _ rfl
  obtain ⟨z2, -⟩ := B.2 2 _ rfl
  obtain ⟨z3, -⟩ := B.2 3 _ rfl
  obtain ⟨z4, -⟩ := B.2 4 _ rfl
  obtain ⟨z5, -⟩ := B.2 5 _ rfl
  obtain ⟨z6, -⟩ := B.2 6 _ rfl
  obtain ⟨z7, -⟩ := B.2 7 _ rfl
  have hb := B.1
  refine ⟨by simpa using hb, ?_, ?_, ?_, ?_, ?_, ?_, ?_, ?_⟩ <;> simp [go_sem, z0, z1, z2, z3, z4, z5, z6, z7]
theorem GotM.set {w0 n : World} {cc : Int} {m : Ms} {b : Nat} {x y : Value} (X : Ext w0 n) (hb : w0.heap.size ≤ b) (B : ZBox n b [.int .i64 0, .int .i64 0, .int .i64 0, .int .i64 0, .int .i64 0, .int .i64 0, .slice none 0 0, .slice none 0 0]) (hO : MgN b n x y m) : GotM w0 cc m (((((((((n.setCell ⟨b, 0, none⟩ (.int .i64 cc)).setCell ⟨b, 1, none⟩ (.int .i64 m.kind)).setCell ⟨b, 2, none⟩ (.int .i64 m.view)).setCell ⟨b, 3, none⟩ (.int .i64 m.from_)).setCell ⟨b, 4, none⟩ (.int .i64 m.slot)).setCell ⟨b, 5, none⟩ (.int .i64 m.value)).setCell ⟨b, 6, none⟩ x).setCell ⟨b, 7, none⟩ y)) b x y :=
  ⟨X.eight _ hb _ _ _ _ _ _ _ _, hb, mr_put B, hO.set (Upd.eight _ _ _ _ _ _ _ _ _ _)⟩
theorem zbox8 (w : World) (t : TypeId) : ZBox (w.alloc (.cells #[.int .i64 0, .int .i64 0, .int .i64 0, .int .i64 0, .int .i64 0, .int .i64 0, .slice none 0 0, .slice none 0 0] t)) w.heap.size [.int .i64 0, .int .i64 0, .int .i64 0, .int .i64 0, .int .i64 0, .int .i64 0, .slice none 0 0, .slice none 0 0] := zbox_new w [.int .i64 0, .int .i64 0, .int .i64 0, .int .i64 0, .int .i64 0, .int .i64 0, .slice none 0 0, .slice none 0 0] t
def OnlyY (R : Act → World → Prop) : Exit → Act → World → Prop
  | .normal, a, w => R a w
  | _, _, _ => False
theorem OnlyY.out {R : Act → World → Prop} {e : Exit} {a : Act} {w : World} (h : OnlyY R e a w) : e = .normal ∧ R a w := by
  cases e <;> first | exact ⟨rfl, h⟩ | exact (h : False).elim
end Go.Proofs.YtecgjdgfjgcmdaaGreat
namespace Go.Proofs.YtecgjdgfjgcmdaaGreat
open Go.RowKit
namespace Msg
/-- What one says who leaves its view. -/
def chM (ms : List Ms) (r : Rp) (view : Int) : Ms := ⟨4, view, r.id, 0, 0, ns (cms ms r.id view) 30, []⟩
/-- What one says who begins its view. -/
def nwM (f : Int) (ms : List Ms) (r : Rp) : Ms := ⟨5, r.view, r.id, 0, 0, [], refsN f ms r⟩
theorem askC_zero {f : Int} {ms : List Ms} {r : Rp} {c : Int} (h : askC f ms r c = 0) : repC f ms r = 0 ∧ c = 0 := by
  unfold askC at h
  by_cases h1 : repC f ms r = 0
  · rw [if_neg (by simp [h1])] at h; exact ⟨h1, h⟩
  · rw [if_pos h1] at h; exact absurd h h1
theorem refsN_len {f : Int} {ms : List Ms} {r : Rp} (hf : 1 ≤ f) : ((refsN f ms r).length : Int) ≤ 2 * f + 1 := by
  unfold refsN; rw [List.length_take]; omega
end Msg
end Go.Proofs.YtecgjdgfjgcmdaaGreat
