/- MD0, MD1, LV0, MD2, MDc, MD3, MD4, MD5, MD6, in one text. -/
import Derived.Test.YtecgjdgfjgcmdaaGreatRtGD
import Derived.Test.YtecgjdgfjgcmdaaGreatRtLG6
import Derived.Test.YtecgjdgfjgcmdaaGreatRtQS5
import Derived.Test.YtecgjdgfjgcmdaaGreatRtLG5
import Derived.Test.YtecgjdgfjgcmdaaGreatRtLG2
import Derived.Maps.AppendAt
import Derived.Test.YtecgjdgfjgcmdaaGreatRtTk
namespace Go.Proofs.YtecgjdgfjgcmdaaGreat
open Go.RowKit
namespace Dr
theorem step_append_own {P : Program} (w : World) {ops : Array Oper} {o : Oper} {a : Act} {K : Act → World → Prop} {Q : Exit → Act → World → Prop} {E : Prop} (hgd : o.guard = none) (s x : Operand) (t : TypeId)
  (ho : o.op = .call { callee := .builtin .append, args := #[s, x], argTypes := #[t, t] })
  (base : Nat) (e : TypeId) (i : TypeInfo) (z : Value) (size bytes : Nat) (ht : P.underlying t = some (.slice e)) (hi : P.info? e = some i) (hz : i.zero = some z)
  (hsize : i.size = size) (hby : i.bytes = bytes) (hzs : z.cells.size = size) (hsz : 0 < size)
  (v : Value) (n : Nat) (xs : List Value) (hs : a.eval s = v) (hown : w.ownsRow base e size v n xs)
  (ad : Addr) (m c : Nat) (news : List Value) (hx : a.eval x = .slice (some ad) m c) (hl : news.length = m * size) (hnews : ∀ j u, news[j]? = some u → w.cell? (ad.add j) = some u) (h1 : ∀ u ∈ news, u.oneCell' = true)
  (h63 : n + m ≤ maxLen) (hbytes : (n + m) * bytes ≤ 140737488355328) (hbase : base ≤ w.heap.size)
  (h : ∀ v' w', w'.ownsRow base e size v' (n + m) (xs ++ news) → w.grownBy w' v.ownBlock → (v' = .slice none 0 0 ↔ v = .slice none 0 0 ∧ m = 0) → K (a.put o.dst v') w') :
  if Region.wanted o (yielded ops a.tmps) = true then Oper.wp P o a w K Q else E := by
 have hw : Region.wanted o (yielded ops a.tmps) = true := by simp [Region.wanted, hgd]
 rw [if_pos hw]
 exact wp_append_own w s x t ho base e i z size bytes ht hi hz hsize hby hzs hsz v n xs hs hown ad m c news hx hl hnews h1 h63 hbytes hbase h
/-- Blocks that were there are as they were, but block b. -/
def Kp (b : Nat) (w w' : World) : Prop := w.heap.size ≤ w'.heap.size ∧ ∀ g, g < w.heap.size → g ≠ b → w'.heap[g]? = w.heap[g]?
theorem Kp.refl (b : Nat) (w : World) : Kp b w w := ⟨Nat.le_refl _, fun _ _ _ => rfl⟩
theorem Kp.trans {b : Nat} {w w1 w2 : World} (h : Kp b w w1) (h2 : Kp b w1 w2) : Kp b w w2 := ⟨Nat.le_trans h.1 h2.1, fun g hg hne => (h2.2 g (Nat.lt_of_lt_of_le hg h.1) hne).trans (h.2 g hg hne)⟩
theorem Kp.ext {b : Nat} {w w' : World} (h : Ext w w') : Kp b w w' := ⟨h.size, fun g hg _ => Below.block h g hg⟩
theorem Kp.cell {b : Nat} {w w' : World} (h : Kp b w w') {g : Nat} (hg : g < w.heap.size) (hne : g ≠ b) (o : Nat) : w'.cell? ⟨g, o, none⟩ = w.cell? ⟨g, o, none⟩ ∧ w'.frozen? ⟨g, o, none⟩ = w.frozen? ⟨g, o, none⟩ := by
 have e := h.2 g hg hne
 unfold World.cell? World.frozen?
 simp only [e, and_self]
theorem Kp.own {b : Nat} {w w' : World} (hk : Kp b w w') {base : Nat} {e : TypeId} {s : Nat} {v : Value} {n : Nat} {xs : List Value} (h : w.ownsRow base e s v n xs) (hb : b < base) : w'.ownsRow base e s v n xs := by
 refine ⟨h.1, ?_⟩
 rcases h.2 with hn | ⟨g, cap, cur, rfl, hg, hgg, rest⟩
 ·exact .inl hn
 ·exact .inr ⟨g, cap, cur, rfl, hg, (hk.2 g (Array.getElem?_eq_some_iff.1 hgg).1 (by omega)).trans hgg, rest⟩
theorem Kp.box {b : Nat} {w w' : World} (hk : Kp b w w') {B : Nat} {m : Ms} {v u : Value} (h : MBoxAt w B m v u) (hne : B ≠ b) : MBoxAt w' B m v u := by
 obtain ⟨hb, ⟨c0, c1, c2, c3, c4, c5, c6⟩, f0, f1, f2, f3, f4, f5, f6⟩ := h
 have hc := fun k => (hk.cell hb hne k).1
 have hf := fun k => (hk.cell hb hne k).2
 exact ⟨Nat.lt_of_lt_of_le hb hk.1, ⟨(hc _).trans c0, (hc _).trans c1, (hc _).trans c2, (hc _).trans c3, (hc _).trans c4, (hc _).trans c5, (hc _).trans c6⟩, (hf _).trans f0, (hf _).trans f1, (hf _).trans f2, (hf _).trans f3, (hf _).trans f4, (hf _).trans f5, (hf _).trans f6⟩
theorem heap_set (w : World) {k g : Nat} (h : k ≠ g) (o : Nat) (v : Value) : (w.setCell ⟨g, o, none⟩ v).heap[k]? = w.heap[k]? := Below.heap_setCell w ⟨g, o, none⟩ v k h
theorem Kp.set {b : Nat} {w w1 : World} (h : Kp b w w1) (g o : Nat) (hg : w.heap.size ≤ g ∨ g = b) (v : Value) : Kp b w (w1.setCell ⟨g, o, none⟩ v) :=
 ⟨by simpa using h.1, fun k hk hne => by
  have e : (w1.setCell ⟨g, o, none⟩ v).heap[k]? = w1.heap[k]? := heap_set w1 (by omega) o v
  exact e.trans (h.2 k hk hne)⟩
theorem Kp.drewN {b : Nat} {w w1 : World} (h : Kp b w w1) (q : Nat) : Kp b w (w1.drewN q) := ⟨by simpa using h.1, fun k hk hne => by simpa using h.2 k hk hne⟩
/-- A draw was made: the source has gone on, nothing else has turned. -/
def Tick (b a : Nat) (cv : Value) (w w' : World) : Prop := SrcAt w' b a cv ∧ Below b w w' ∧ Kp b w w'
theorem Tick.upd {b a : Nat} {cv : Value} {w w' : World} (h : Tick b a cv w w') : Upd b w w' := ⟨h.2.1, h.2.2.1, fun _ o hc hl => h.2.2.cell hl (Nat.ne_of_gt hc) o⟩
theorem tick_of {b a : Nat} {cv : Value} {w w' : World} {q : Nat} (h : SrcAt w b a cv) (e : w' = (w.setCell ⟨b, 1, none⟩ (.int .i64 (a + 1 : Nat))).drewN q) : Tick b (a + 1) cv w w' := by
 rw [e]
 exact ⟨h.place _ _, (Upd.place _ _ _).1, ((Kp.refl b w).set _ _ (Or.inr rfl) _).drewN _⟩
theorem next (b a : Nat) (cv : Value) (n : Int) (w : World) (h : SrcAt w b a cv) (h1 : 1 ≤ n) (h2 : n ≤ 200) (ha : a ≤ 1000) :
  Calls Tryz.prog 82 #[.pointer (some ⟨b, 0, none⟩), .int .i64 n] w fun e w' => ∃ r : Int, e = .returned (.int .i64 r) ∧ 0 ≤ r ∧ r < n ∧ Tick b (a + 1) cv w w' :=
 (next_any b a cv n w h h1 h2 ha).mono fun _ _ ⟨r, _, h1, h2, h3, h4⟩ => ⟨r, h1, h2, h3, tick_of h h4⟩
theorem chance (b a : Nat) (cv : Value) (n : Int) (w : World) (h : SrcAt w b a cv) (h1 : 1 ≤ n) (h2 : n ≤ 200) (ha : a ≤ 1000) :
  Calls Tryz.prog 80 #[.pointer (some ⟨b, 0, none⟩), .int .i64 n] w fun e w' => ∃ r : Bool, e = .returned (.bool r) ∧ Tick b (a + 1) cv w w' :=
 (chance_any b a cv n w h h1 h2 ha).mono fun _ _ ⟨r, _, h1, h4⟩ => ⟨r, h1, tick_of h h4⟩
theorem nums_new (w : World) (l : List Int) (t : TypeId) : NumsAt (w.alloc (.cells (l.map (Value.int .i64)).toArray t)) w.heap.size 0 l := by
 intro i x hx
 rw [Nat.zero_add, World.cell?_alloc_at _ _ _ _ rfl]
 simp [hx]
theorem pick (b a : Nat) (cv : Value) (l : List Int) (w : World) (t : TypeId) (h : SrcAt w b a cv) (h1 : 1 ≤ l.length) (h2 : l.length ≤ 200) (ha : a ≤ 1000) :
  Calls Tryz.prog 73 #[.pointer (some ⟨b, 0, none⟩), .slice (some ⟨w.heap.size, 0, none⟩) l.length l.length] (w.alloc (.cells (l.map (Value.int .i64)).toArray t)) fun e w' => ∃ x : Int, e = .returned (.int .i64 x) ∧ Tick b (a + 1) cv w w' :=
 (pick_any b a w.heap.size 0 _ cv l _ (h.alloc _) (Nat.ne_of_gt h.lt) (nums_new w l t) h1 h2 ha).mono fun _ _ ⟨x, _, h1, h4⟩ => ⟨x, h1, by
  obtain ⟨q1, q2, q3⟩ := tick_of (h.alloc _) h4
  exact ⟨q1, ((Below.refl _ _).alloc (Nat.le_of_lt h.lt) _).trans q2, (Kp.ext ((Ext.refl _).alloc _)).trans q3⟩⟩
theorem src_set {w : World} {b a : Nat} {cv : Value} (h : SrcAt w b a cv) (g o : Nat) (hg : b < g) (v : Value) : SrcAt (w.setCell ⟨g, o, none⟩ v) b a cv := h.kept ((Below.refl _ _).setCell (p := ⟨g, o, none⟩) hg v)
/-- From w on: draws were made, new memory was made and written. -/
theorem Tick.trans {b a a2 : Nat} {cv : Value} {w w1 w2 : World} (h : Tick b a cv w w1) (h2 : Tick b a2 cv w1 w2) : Tick b a2 cv w w2 := ⟨h2.1, h.2.1.trans h2.2.1, h.2.2.trans h2.2.2⟩
theorem Tick.ext {b a : Nat} {cv : Value} {w w1 w2 : World} (h : Tick b a cv w w1) (he : Ext w1 w2) : Tick b a cv w w2 := ⟨h.1.ext he, h.2.1.trans (Below.mono he (Nat.le_of_lt h.1.lt)), h.2.2.trans (Kp.ext he)⟩
theorem Tick.start {b a : Nat} {cv : Value} {w : World} (h : SrcAt w b a cv) : Tick b a cv w w := ⟨h, Below.refl _ _, Kp.refl _ _⟩
theorem Tick.set {b a : Nat} {cv : Value} {w w1 : World} (h : Tick b a cv w w1) (hb : b < w.heap.size) (g o : Nat) (hg : w.heap.size ≤ g) (v : Value) : Tick b a cv w (w1.setCell ⟨g, o, none⟩ v) := ⟨src_set h.1 _ _ (by omega) _, Below.setCell (p := ⟨g, o, none⟩) h.2.1 (by show b ≤ g; omega) v, h.2.2.set _ _ (Or.inl hg) _⟩
theorem Tick.grown {b a : Nat} {cv : Value} {w w1 w2 : World} {k : Option Nat} (h : Tick b a cv w w1) (hb : b < w.heap.size) (hg : w1.grownBy w2 k) (hk : ∀ q, k = some q → w.heap.size ≤ q) : Tick b a cv w w2 := by
 have hB : Below w.heap.size w1 w2 := Below.grown (Below.refl _ _) hg h.2.2.1 (fun q hq => hk q hq)
 refine ⟨h.1.kept (hB.mono (by omega)), h.2.1.trans (hB.mono (by omega)), ?_⟩
 refine ⟨Nat.le_trans h.2.2.1 hg.size, fun g hg1 hne => ?_⟩
 exact (hg.block g (Nat.lt_of_lt_of_le hg1 h.2.2.1) (fun e => by have := hk g e.symm; omega)).trans (h.2.2.2 g hg1 hne)
theorem box_set3 {w : World} {b : Nat} {m : Ms} {v u : Value} {x : Int} (h : MBoxAt w b m v u) : MBoxAt (w.setCell ⟨b, 3, none⟩ (.int .i64 x)) b { m with slot := x } v u := by
 obtain ⟨hb, ⟨c0, c1, c2, c3, c4, c5, c6⟩, f0, f1, f2, f3, f4, f5, f6⟩ := h
 refine ⟨by simpa using hb, ⟨?_, ?_, ?_, iset_eq _ _ _ _ ⟨_, c3⟩, ?_, ?_, ?_⟩, by simpa using f0, by simpa using f1, by simpa using f2, by simpa using f3, by simpa using f4, by simpa using f5, by simpa using f6⟩ <;> rw [iset_ne _ _ _ _ _ _ (by omega)] <;> assumption
theorem box_set4 {w : World} {b : Nat} {m : Ms} {v u : Value} {x : Int} (h : MBoxAt w b m v u) : MBoxAt (w.setCell ⟨b, 4, none⟩ (.int .i64 x)) b { m with value := x } v u := by
 obtain ⟨hb, ⟨c0, c1, c2, c3, c4, c5, c6⟩, f0, f1, f2, f3, f4, f5, f6⟩ := h
 refine ⟨by simpa using hb, ⟨?_, ?_, ?_, ?_, iset_eq _ _ _ _ ⟨_, c4⟩, ?_, ?_⟩, by simpa using f0, by simpa using f1, by simpa using f2, by simpa using f3, by simpa using f4, by simpa using f5, by simpa using f6⟩ <;> rw [iset_ne _ _ _ _ _ _ (by omega)] <;> assumption
theorem own_base {w : World} {base base' : Nat} {e : TypeId} {s : Nat} {v : Value} {n : Nat} {xs : List Value} (h : w.ownsRow base e s v n xs) (hb : base' ≤ base) : w.ownsRow base' e s v n xs := by
 refine ⟨h.1, ?_⟩
 rcases h.2 with hn | ⟨g, cap, cur, rfl, hg, hgg, rest⟩
 ·exact .inl hn
 ·exact .inr ⟨g, cap, cur, rfl, Nat.le_trans hb hg, hgg, rest⟩
theorem own_ne {w : World} {b1 b2 : Nat} {e1 e2 : TypeId} {s1 s2 : Nat} {v u : Value} {n1 n2 : Nat} {xs ys : List Value} (h1 : w.ownsRow b1 e1 s1 v n1 xs) (h2 : w.ownsRow b2 e2 s2 u n2 ys) (he : e1 ≠ e2) : ∀ q, u.ownBlock = some q → v.ownBlock ≠ some q := by
 intro q hu hv
 rcases h1.2 with ⟨rfl, -⟩ | ⟨g, cap, cur, rfl, hg, hgg, -⟩
 ·cases hv
 ·rcases h2.2 with ⟨rfl, -⟩ | ⟨g2, cap2, cur2, rfl, hg2, hgg2, -⟩
  ·cases hu
  ·cases hv
   cases hu
   rw [hgg] at hgg2
   cases hgg2
   exact he rfl
theorem own_grown {w w' : World} {base : Nat} {e : TypeId} {s : Nat} {u : Value} {n : Nat} {xs : List Value} {k : Option Nat} (h : w.ownsRow base e s u n xs) (hg : w.grownBy w' k) (hne : ∀ q, u.ownBlock = some q → k ≠ some q) : w'.ownsRow base e s u n xs := by
 refine ⟨h.1, ?_⟩
 rcases h.2 with hn | ⟨g, cap, cur, rfl, hb, hgg, rest⟩
 ·exact .inl hn
 ·exact .inr ⟨g, cap, cur, rfl, hb, (hg.block g (Array.getElem?_eq_some_iff.1 hgg).1 (fun e => hne g rfl e.symm)).trans hgg, rest⟩
theorem box_below {w w' : World} {B n : Nat} {m : Ms} {v u : Value} (h : MBoxAt w B m v u) (hB : Below n w w') (hn : B < n) : MBoxAt w' B m v u := by
 obtain ⟨hb, ⟨c0, c1, c2, c3, c4, c5, c6⟩, f0, f1, f2, f3, f4, f5, f6⟩ := h
 have hc := fun k => hB.cell (p := ⟨B, k, none⟩) hn
 have hf := fun k => hB.frozen (p := ⟨B, k, none⟩) hn
 exact ⟨Nat.lt_of_lt_of_le hb hB.size, ⟨(hc _).trans c0, (hc _).trans c1, (hc _).trans c2, (hc _).trans c3, (hc _).trans c4, (hc _).trans c5, (hc _).trans c6⟩, (hf _).trans f0, (hf _).trans f1, (hf _).trans f2, (hf _).trans f3, (hf _).trans f4, (hf _).trans f5, (hf _).trans f6⟩
theorem ne_types : (57 : TypeId) ≠ 2 := by decide
/-- A message came of a draw; its lists lie in memory of their own, from base on; the source has come to a place of at most a. -/
def Got (base : Nat) (w : World) (b a : Nat) (cv : Value) (m : Ms) (v u : Value) (w' : World) : Prop :=
 w'.ownsRow base 57 3 v m.certs.length (cellsCt m.certs) ∧ w'.ownsRow base 2 1 u m.refs.length (m.refs.map (Value.int .i64)) ∧ m.certs.length ≤ 5 ∧ m.refs.length ≤ 4 ∧ ∃ a', a' ≤ a ∧ Tick b a' cv w w'
def put7 (W : World) (R : Nat) (m : Ms) (v u : Value) : World := (((((((W.setCell ⟨R, 0, none⟩ (.int .i64 m.kind)).setCell ⟨R, 1, none⟩ (.int .i64 m.view)).setCell ⟨R, 2, none⟩ (.int .i64 m.from_)).setCell ⟨R, 3, none⟩ (.int .i64 m.slot)).setCell ⟨R, 4, none⟩ (.int .i64 m.value)).setCell ⟨R, 5, none⟩ v).setCell ⟨R, 6, none⟩ u)
theorem Got.put7 {base : Nat} {w : World} {b a : Nat} {cv : Value} {m : Ms} {v u : Value} {w' : World} (h : Got base w b a cv m v u w') (hb : b < w.heap.size) (R : Nat) (hR : w.heap.size ≤ R) (hRb : R < base) : Got base w b a cv m v u (put7 w' R m v u) := by
 obtain ⟨h1, h2, h3, h4, a', ha, h5⟩ := h
 refine ⟨?_, ?_, h3, h4, a', ha, ?_⟩ <;> unfold Dr.put7
 ·exact Led.owns_set (Led.owns_set (Led.owns_set (Led.owns_set (Led.owns_set (Led.owns_set (Led.owns_set (h1) hRb _) hRb _) hRb _) hRb _) hRb _) hRb _) hRb _
 ·exact Led.owns_set (Led.owns_set (Led.owns_set (Led.owns_set (Led.owns_set (Led.owns_set (Led.owns_set (h2) hRb _) hRb _) hRb _) hRb _) hRb _) hRb _) hRb _
 ·exact Tick.set (Tick.set (Tick.set (Tick.set (Tick.set (Tick.set (Tick.set (h5) hb _ _ hR _) hb _ _ hR _) hb _ _ hR _) hb _ _ hR _) hb _ _ hR _) hb _ _ hR _) hb _ _ hR _
end Dr
end Go.Proofs.YtecgjdgfjgcmdaaGreat
namespace Go.Proofs.YtecgjdgfjgcmdaaGreat
open Go.RowKit
/-- How a draw of a message stands: the result's box, the message's box, its lists, the source. -/
def Dr.St (w : World) (b : Nat) (cv : Value) (W : World) (B a : Nat) (m : Ms) (v u : Value) : Prop :=
 MBoxAt W w.heap.size ⟨0, 0, 0, 0, 0, [], []⟩ (.slice none 0 0) (.slice none 0 0) ∧ MBoxAt W B m v u ∧ w.heap.size < B ∧ W.ownsRow (B + 1) 57 3 v m.certs.length (cellsCt m.certs) ∧ W.ownsRow (B + 1) 2 1 u m.refs.length (m.refs.map (Value.int .i64)) ∧ Dr.Tick b a cv w W
theorem Dr.St.tick {w : World} {b : Nat} {cv : Value} {W W' : World} {B a a2 : Nat} {m : Ms} {v u : Value} (h : Dr.St w b cv W B a m v u) (hb : b < w.heap.size) (ht : Dr.Tick b a2 cv W W') : Dr.St w b cv W' B a2 m v u := by
 obtain ⟨h1, h2, h3, h4, h5, h6⟩ := h
 exact ⟨ht.2.2.box h1 (by omega), ht.2.2.box h2 (by omega), h3, ht.2.2.own h4 (by omega), ht.2.2.own h5 (by omega), h6.trans ht⟩
theorem Dr.St.ext {w : World} {b : Nat} {cv : Value} {W W' : World} {B a : Nat} {m : Ms} {v u : Value} (h : Dr.St w b cv W B a m v u) (he : Ext W W') : Dr.St w b cv W' B a m v u := by
 obtain ⟨h1, h2, h3, h4, h5, h6⟩ := h
 exact ⟨h1.ext he, h2.ext he, h3, Led.own_ext h4 he, Led.own_ext h5 he, h6.ext he⟩
theorem Dr.St.slot {w : World} {b : Nat} {cv : Value} {W : World} {B a : Nat} {m : Ms} {v u : Value} (h : Dr.St w b cv W B a m v u) (hb : b < w.heap.size) (x : Int) : Dr.St w b cv (W.setCell ⟨B, 3, none⟩ (.int .i64 x)) B a { m with slot := x } v u := by
 obtain ⟨h1, h2, h3, h4, h5, h6⟩ := h
 exact ⟨h1.set_ne (by omega), Dr.box_set3 h2, h3, Led.owns_set h4 (by omega) _, Led.owns_set h5 (by omega) _, h6.set hb _ _ (by omega) _⟩
theorem Dr.St.value {w : World} {b : Nat} {cv : Value} {W : World} {B a : Nat} {m : Ms} {v u : Value} (h : Dr.St w b cv W B a m v u) (hb : b < w.heap.size) (x : Int) : Dr.St w b cv (W.setCell ⟨B, 4, none⟩ (.int .i64 x)) B a { m with value := x } v u := by
 obtain ⟨h1, h2, h3, h4, h5, h6⟩ := h
 exact ⟨h1.set_ne (by omega), Dr.box_set4 h2, h3, Led.owns_set h4 (by omega) _, Led.owns_set h5 (by omega) _, h6.set hb _ _ (by omega) _⟩
theorem Dr.St.got {w : World} {b : Nat} {cv : Value} {W : World} {B a k : Nat} {m : Ms} {v u : Value} (h : Dr.St w b cv W B a m v u) (hb : b < w.heap.size) (hk : a ≤ k) (h1 : m.certs.length ≤ 5) (h2 : m.refs.length ≤ 4) : Dr.Got (w.heap.size + 1) w b k cv m v u (Dr.put7 W w.heap.size m v u) := by
 obtain ⟨-, -, h3, h4, h5, h6⟩ := h
 exact Dr.Got.put7 ⟨Dr.own_base h4 (by omega), Dr.own_base h5 (by omega), h1, h2, a, hk, h6⟩ hb _ (Nat.le_refl _) (by omega)
theorem Dr.St.certs {w : World} {b : Nat} {cv : Value} {W W2 : World} {B a : Nat} {m : Ms} {v u v6 : Value} {o : Obj} {z : Ct} (h : Dr.St w b cv W B a m v u) (hb : b < w.heap.size) (ho : W2.ownsRow (B + 1) 57 3 v6 (m.certs.length + 1) (cellsCt m.certs ++ cellsCt [z])) (hg : (W.alloc o).grownBy W2 v.ownBlock) : Dr.St w b cv (W2.setCell ⟨B, 5, none⟩ v6) B a { m with certs := m.certs ++ [z] } v6 u := by
 obtain ⟨h1, h2, h3, h4, h5, h6⟩ := h
 have hv := h4.lt
 have hB : Below (B + 1) W W2 := Below.grown ((Below.refl _ _).alloc (by have := h2.1; omega) _) hg (by have := h2.1; simp; omega) (fun q hq => (hv q hq).1)
 have e1 : MBoxAt W2 w.heap.size ⟨0, 0, 0, 0, 0, [], []⟩ (.slice none 0 0) (.slice none 0 0) := Dr.box_below h1 hB (by omega)
 have e2 : MBoxAt W2 B m v u := Dr.box_below h2 hB (by omega)
 refine ⟨e1.set_ne (by omega), e2.set5, h3, ?_, ?_, ?_⟩
 ·have h9 := Led.owns_set ho (b := B) (o := 5) (by omega) v6
  rw [List.length_append]
  rw [show cellsCt (m.certs ++ [z]) = cellsCt m.certs ++ cellsCt [z] from by simp [cellsCt]]
  exact h9
 ·exact Led.owns_set (Dr.own_grown (h5.alloc _) hg (Dr.own_ne h4 h5 Dr.ne_types)) (by omega) _
 ·exact (Dr.Tick.grown (h6.ext ((Ext.refl _).alloc _)) hb hg (fun q hq => by have := (hv q hq).1; omega)).set hb _ _ (by omega) _
theorem Dr.St.refs {w : World} {b : Nat} {cv : Value} {W W2 : World} {B a : Nat} {m : Ms} {v u v6 : Value} {o : Obj} {z : Int} (h : Dr.St w b cv W B a m v u) (hb : b < w.heap.size) (ho : W2.ownsRow (B + 1) 2 1 v6 (m.refs.length + 1) (m.refs.map (Value.int .i64) ++ [.int .i64 z])) (hg : (W.alloc o).grownBy W2 u.ownBlock) : Dr.St w b cv (W2.setCell ⟨B, 6, none⟩ v6) B a { m with refs := m.refs ++ [z] } v v6 := by
 obtain ⟨h1, h2, h3, h4, h5, h6⟩ := h
 have hv := h5.lt
 have hB : Below (B + 1) W W2 := Below.grown ((Below.refl _ _).alloc (by have := h2.1; omega) _) hg (by have := h2.1; simp; omega) (fun q hq => (hv q hq).1)
 have e1 : MBoxAt W2 w.heap.size ⟨0, 0, 0, 0, 0, [], []⟩ (.slice none 0 0) (.slice none 0 0) := Dr.box_below h1 hB (by omega)
 have e2 : MBoxAt W2 B m v u := Dr.box_below h2 hB (by omega)
 refine ⟨e1.set_ne (by omega), e2.set6, h3, ?_, ?_, ?_⟩
 ·exact Led.owns_set (Dr.own_grown (h4.alloc _) hg (Dr.own_ne h5 h4 (Ne.symm Dr.ne_types))) (by omega) _
 ·have h9 := Led.owns_set ho (b := B) (o := 6) (by omega) v6
  rw [List.length_append, List.map_append]
  exact h9
 ·exact (Dr.Tick.grown (h6.ext ((Ext.refl _).alloc _)) hb hg (fun q hq => by have := (hv q hq).1; omega)).set hb _ _ (by omega) _
end Go.Proofs.YtecgjdgfjgcmdaaGreat
namespace Go.Proofs.YtecgjdgfjgcmdaaGreat
open Go.RowKit
theorem keepAl {w : World} {ob : Obj} {c o : Nat} {v : Value} (hv : w.cell? ⟨c, o, none⟩ = some v) : (w.alloc ob).cell? ⟨c, o, none⟩ = some v :=
 (World.cell?_alloc_lt _ _ _ (World.block_lt_of_cell? w _ hv)).trans hv
def OnlyZ (R : Act → World → Prop) : Exit → Act → World → Prop
 | .normal, a, w => R a w
 | _, _, _ => False
theorem OnlyZ.out {R : Act → World → Prop} {e : Exit} {a : Act} {w : World} (h : OnlyZ R e a w) : e = .normal ∧ R a w := by
 cases e <;> first | exact ⟨rfl, h⟩ | exact (h : False).elim
/-- An IntsResult was made and boxed in bw; w0 is as it was. -/
def Led.Got (w0 : World) (c : Int) (rs : List Int) (W : World) (bw g3 : Nat) (v : Value) : Prop :=
 Ext w0 W ∧ w0.heap.size ≤ bw ∧ Led.JBoxAt W bw c v ∧ Led.IOwn W v g3 rs ∧ w0.heap.size ≤ g3
theorem Led.Got.new {w0 n : World} {c : Int} {rs : List Int} {g3 : Nat} {v : Value} {t : TypeId} (X : Ext w0 n) (hO : Led.IOwn n v g3 rs) (hg : w0.heap.size ≤ g3) : Led.Got w0 c rs (n.alloc (.cells #[.int .i64 c, v] t)) n.heap.size g3 v :=
 ⟨X.alloc _, X.size, Led.jbox_new n c v t, hO.ext ((Ext.refl _).alloc _), hg⟩
theorem Led.jz_put {n : World} {b : Nat} {c : Int} {v : Value} (B : Led.JZ n b) : Led.JBoxAt ((n.setCell ⟨b, 0, none⟩ (.int .i64 c)).setCell ⟨b, 1, none⟩ v) b c v := by
 obtain ⟨h0, h1, h2, -, -⟩ := B
 refine ⟨by simpa using h0, ?_, ?_⟩
 ·rw [iset_ne _ _ _ _ _ _ (by omega)]; exact iset_eq _ _ _ _ ⟨_, h1⟩
 ·apply iset_eq; rw [iset_ne _ _ _ _ _ _ (by omega)]; exact ⟨_, h2⟩
theorem Led.Got.set {w0 n : World} {c : Int} {rs : List Int} {g3 b : Nat} {v : Value} (X : Ext w0 n) (hb : w0.heap.size ≤ b) (B : Led.JZ n b) (hO : Led.IOwn n v g3 rs) (hbg : 0 < rs.length → g3 ≠ b) (hg : w0.heap.size ≤ g3) : Led.Got w0 c rs ((n.setCell ⟨b, 0, none⟩ (.int .i64 c)).setCell ⟨b, 1, none⟩ v) b g3 v :=
 ⟨(X.setCell (p := ⟨b, 0, none⟩) hb _).setCell (p := ⟨b, 1, none⟩) hb _, hb, Led.jz_put B, hO.upd' (((Upd.refl b n).setAt _ _).setAt _ _) hbg, hg⟩
namespace Led
end Led
end Go.Proofs.YtecgjdgfjgcmdaaGreat
namespace Go.Proofs.YtecgjdgfjgcmdaaGreat
open Go.RowKit
theorem ct_new (w : World) (z : Ct) (t : TypeId) : ∀ j u, (cellsCt [z])[j]? = some u → (w.alloc (.cells #[.int .i64 z.slot, .int .i64 z.view, .int .i64 z.value] t)).cell? ((⟨w.heap.size, 0, none⟩ : Addr).add j) = some u := CtsAt.news (l := [z]) (by
 intro i y hy
 cases i with
 | zero => simp at hy; subst hy; exact ⟨by simp, by simp, by simp⟩
 | succ i => simp at hy)
theorem Dr.St.first {w w1 w2 w3 : World} {b a : Nat} {cv : Value} (x r1 r2 : Int) (h : SrcAt w b a cv) (ht1 : Dr.Tick b (a + 1) cv (w.alloc (.cells #[.int .i64 0, .int .i64 0, .int .i64 0, .int .i64 0, .int .i64 0, .slice none 0 0, .slice none 0 0] 40)) w1) (ht2 : Dr.Tick b (a + 1 + 1) cv w1 w2) (ht3 : Dr.Tick b (a + 1 + 1 + 1) cv w2 w3) :
  Dr.St w b cv (w3.alloc (.cells #[.int .i64 x, .int .i64 r1, .int .i64 (1 + r2), .int .i64 0, .int .i64 0, .slice none 0 0, .slice none 0 0] 40)) w3.heap.size (a + 3) ⟨x, r1, 1 + r2, 0, 0, [], []⟩ (.slice none 0 0) (.slice none 0 0) := by
 have hlt := h.lt
 have hR := (((mbox_new w ⟨0, 0, 0, 0, 0, [], []⟩ (.slice none 0 0) (.slice none 0 0) 40)))
 have q1 := ht1.2.2.box hR (by omega)
 have q2 := ht2.2.2.box q1 (by omega)
 have q3 := ht3.2.2.box q2 (by omega)
 refine ⟨q3.ext ((Ext.refl _).alloc _), mbox_new w3 ⟨x, r1, 1 + r2, 0, 0, [], []⟩ (.slice none 0 0) (.slice none 0 0) _, q3.1, World.ownsRow_nil _ _ _ _, World.ownsRow_nil _ _ _ _, ?_⟩
 exact ((((Dr.Tick.start h).ext ((Ext.refl _).alloc _)).trans ht1).trans ht2).trans ht3 |>.ext ((Ext.refl _).alloc _)
set_option linter.unusedSimpArgs false in
set_option maxHeartbeats 8000000 in
set_option maxRecDepth 100000 in
theorem l8Draw_any (b a : Nat) (cv : Value) (n : Int) (w : World) (h : SrcAt w b a cv) (hn0 : 0 ≤ n) (hn1 : n ≤ 20) (ha : a ≤ 900) :
  Calls Tryz.prog 187 #[.pointer (some ⟨b, 0, none⟩), .int .i64 n] w fun e w' => ∃ m v u, e = .returned (magg m v u) ∧ Dr.Got (w.heap.size + 1) w b (a + 25) cv m v u w' ∧ m.certs.length ≤ 4 := by
 have hi9 : (Tryz.prog.info? 57).map (fun i => (i.zero, i.size, i.bytes)) = some (some (.agg #[.int .i64 0, .int .i64 0, .int .i64 0]), 3, 24) := by kernel_rfl
 obtain ⟨ti, hti, hxx⟩ := Option.map_eq_some_iff.1 hi9
 simp only [Prod.mk.injEq] at hxx
 obtain ⟨hz0, hz1, hz2⟩ := hxx
 clear hi9
 have hi9 : (Tryz.prog.info? 2).map (fun i => (i.zero, i.size, i.bytes)) = some (some (.int .i64 0), 1, 8) := by kernel_rfl
 obtain ⟨si, hsi, hxx⟩ := Option.map_eq_some_iff.1 hi9
 simp only [Prod.mk.injEq] at hxx
 obtain ⟨sz0, sz1, sz2⟩ := hxx
 clear hi9
 have hb := h.lt
 have HS0 : Hid (SrcAt w b a cv) := h
 have NX : Hid (∀ (a' : Nat) (k : Int) (wx : World), SrcAt wx b a' cv → 1 ≤ k → k ≤ 200 → a' ≤ 1000 → Calls Tryz.prog 82 #[.pointer (some ⟨b, 0, none⟩), .int .i64 k] wx fun e w' => ∃ r : Int, e = .returned (.int .i64 r) ∧ 0 ≤ r ∧ r < k ∧ Dr.Tick b (a' + 1) cv wx w') := fun a' k wx h1 h2 h3 h4 => Dr.next b a' cv k wx h1 h2 h3 h4
 have CH : Hid (∀ (a' : Nat) (k : Int) (wx : World), SrcAt wx b a' cv → 1 ≤ k → k ≤ 200 → a' ≤ 1000 → Calls Tryz.prog 80 #[.pointer (some ⟨b, 0, none⟩), .int .i64 k] wx fun e w' => ∃ r : Bool, e = .returned (.bool r) ∧ Dr.Tick b (a' + 1) cv wx w') := fun a' k wx h1 h2 h3 h4 => Dr.chance b a' cv k wx h1 h2 h3 h4
 have PK : Hid (∀ (a' g : Nat) (wx : World), g = wx.heap.size → SrcAt wx b a' cv → a' ≤ 1000 → Calls Tryz.prog 73 #[.pointer (some ⟨b, 0, none⟩), .slice (some ⟨g, 0, none⟩) 7 7] (wx.alloc (.cells #[.int .i64 1, .int .i64 2, .int .i64 2, .int .i64 3, .int .i64 3, .int .i64 4, .int .i64 5] 2)) fun e w' => ∃ x : Int, e = .returned (.int .i64 x) ∧ Dr.Tick b (a' + 1) cv wx w') := fun a' g wx hg h1 h2 => by subst hg; exact Dr.pick b a' cv [1, 2, 2, 3, 3, 4, 5] wx 2 h1 (by decide) (by decide) h2
 clear h
 go_enter Tryz.func187, Tryz.ntmps187
 go_wp2_with fail
 refine (PK.out a _ _ (by simp) (HS0.out.alloc _) (by omega)).mono ?_
 rintro e w1 ⟨x, rfl, ht1⟩
 have T1 : Hid _ := ht1
 clear ht1
 go_wp2_with fail
 refine (NX.out (a + 1) 3 _ T1.out.1 (by omega) (by omega) (by omega)).mono ?_
 rintro e w2 ⟨r1, rfl, hr10, hr11, ht2⟩
 have T2 : Hid _ := ht2
 clear ht2
 go_wp2_with fail
 refine (NX.out (a + 1 + 1) 4 _ T2.out.1 (by omega) (by omega) (by omega)).mono ?_
 rintro e w3 ⟨r2, rfl, hr20, hr21, ht3⟩
 have ST : Hid _ := Dr.St.first x r1 r2 HS0.out T1.out T2.out ht3
 clear ht3 T1 T2 PK HS0
 have hwr : IntKind.i64.wrap (1 + r2) = 1 + r2 := by rw [IntKind.wrap_i64]; omega
 obtain ⟨W0, hW0⟩ : ∃ W0, W0 = w3.alloc (.cells #[.int .i64 x, .int .i64 r1, .int .i64 (1 + r2), .int .i64 0, .int .i64 0, .slice none 0 0, .slice none 0 0] 40) := ⟨_, rfl⟩
 have ST2 : Hid (Dr.St w b cv W0 w3.heap.size (a + 3) ⟨x, r1, 1 + r2, 0, 0, [], []⟩ (.slice none 0 0) (.slice none 0 0)) := by rw [hW0]; exact ST.out
 clear ST
 by_cases hx4 : x = 4
 ·have g4 : (x == 4) = true := by simpa using hx4
  clear hx4
  go_wp2
  rw [← hW0]
  generalize w3.heap.size = B at *
  clear hW0
  go_loopw [6] (fun i wr => ∃ (k : Nat) (zs : List Ct) (v : Value) (a4 : Nat), 1 ≤ k ∧ k ≤ 4 ∧ i = .int .i64 (k : Int) ∧ zs.length + 1 ≤ k ∧ a4 ≤ a + 3 + 5 * k ∧ a4 ≤ 1000 ∧ Hid (Dr.St w b cv wr B a4 ⟨x, r1, 1 + r2, 0, 0, zs, []⟩ v (.slice none 0 0))) (fun i _ => 4 - (intOf i).toNat)
  case atStart => exact ⟨1, [], (.slice none 0 0), a + 3, by omega, by omega, rfl, by simp, by omega, by omega, ST2⟩
  case round =>
   obtain ⟨k, zs, v, a4, hk1, hk, rfl, hzl, ha4, ha5, SK⟩ := hrel
   obtain ⟨ad, cp, rfl⟩ := Led.owns_form SK.out.2.2.2.1
   by_cases hk4 : k < 4
   ·by_cases hv : 0 < r1
    ·obtain ⟨bl, ⟨c0, c1, c2, c3, c4, c5, c6⟩, -⟩ := SK.out.2.1
     go_wp2_with fail
     refine (CH.out a4 3 _ SK.out.2.2.2.2.2.1 (by omega) (by omega) (by omega)).mono ?_
     rintro e w4 ⟨ch, rfl, ht⟩
     have T4 : Hid (Dr.St w b cv w4 B (a4 + 1) ⟨x, r1, 1 + r2, 0, 0, zs, []⟩ (.slice ad zs.length cp) (.slice none 0 0)) := SK.out.tick hb ht
     clear ht bl c0 c1 c2 c3 c4 c5 c6 SK
     cases ch with
     | false =>
      go_wp2
      exact ⟨⟨k + 1, zs, _, a4 + 1, by omega, by omega, by go_num, by omega, by omega, by omega, T4⟩, by simp [intOf]; omega⟩
     | true =>
      have TD : Hid (Dr.St w b cv w4.drew B (a4 + 1) ⟨x, r1, 1 + r2, 0, 0, zs, []⟩ (.slice ad zs.length cp) (.slice none 0 0)) := T4.out.ext (Ext.refl _).drew
      go_wp2
      refine wp_region_held_drew (S := (fun W' : World => W'.cell? ⟨B, 1, none⟩ = some (.int .i64 r1))) (by kernel_rfl) (T4.out.2.1.2.1.2.1) (fun hHeld => ?_)
      refine tk 0 ⟨some 39, .fieldAddr 40 (.tmp 5) 5, 0, oz54, #[], none⟩ ?_
      refine tk 2 ⟨some 41, .move (.tmp 6), 2, oz54, #[], none⟩ ?_
      refine tk 3 ⟨some 42, .move (.tmp 0), 92, oz54, #[], none⟩ ?_
      refine tk 4 ⟨some 43, .fieldAddr 40 (.tmp 5) 1, 0, oz54, #[], none⟩ ?_
      refine tk 5 ⟨some 44, .load 2 (.tmp 43), 2, oz54, #[⟨4, .data⟩], none⟩ ?_
      refine tk 7 ⟨some 46, .move (.tmp 0), 92, oz54, #[], none⟩ ?_
      refine wpAnyH_ready (rs := [1, 6]) (by kernel_rfl) (by simp) (AllReadyH.cons rfl (fun K hK => ?_) (AllReadyH.cons rfl (fun K hK => ?_) AllReadyH.nil))
      ·have cc5 : w4.drew.cell? ⟨B, 5, none⟩ = some (.slice ad zs.length cp) := TD.out.2.1.2.1.2.2.2.2.2.1
       have SV1 : Hid (w4.drew.cell? ⟨B, 1, none⟩ = some (.int .i64 r1)) := TD.out.2.1.2.1.2.1
       go_simp
       refine hK.out _ _ (by exact SV1.out) (fun hHeld1 => ?_)
       clear hK K
       clear cc5
       refine wpAnyH_ready (rs := [6]) (by kernel_rfl) (by simp) (AllReadyH.cons rfl (fun K hK => ?_) AllReadyH.nil)
       go_simp
       refine (NX.out _ r1 _ TD.out.2.2.2.2.2.1 (by omega) (by omega) (by omega)).mono ?_
       rintro e y3 ⟨q1, rfl, hq10, hq11, ht⟩
       have T3 : Hid (Dr.St w b cv y3 B (a4 + 1 + 1) ⟨x, r1, 1 + r2, 0, 0, zs, []⟩ (.slice ad zs.length cp) (.slice none 0 0)) := TD.out.tick hb ht
       have SV3 : Hid (y3.cell? ⟨B, 1, none⟩ = some (.int .i64 r1)) := T3.out.2.1.2.1.2.1
       clear ht
       refine hK.out _ _ (by exact SV3.out) (fun hHeld3 => ?_)
       clear hK K
       refine wpAnyH_ready (rs := [8]) (by kernel_rfl) (by simp) (AllReadyH.cons rfl (fun K hK => ?_) AllReadyH.nil)
       go_simp
       refine (NX.out _ 3 _ T3.out.2.2.2.2.2.1 (by omega) (by omega) (by omega)).mono ?_
       rintro e y4 ⟨q2, rfl, hq20, hq21, ht⟩
       have T4 : Hid (Dr.St w b cv y4 B (a4 + 1 + 1 + 1) ⟨x, r1, 1 + r2, 0, 0, zs, []⟩ (.slice ad zs.length cp) (.slice none 0 0)) := T3.out.tick hb ht
       have SV4 : Hid (y4.cell? ⟨B, 1, none⟩ = some (.int .i64 r1)) := T4.out.2.1.2.1.2.1
       clear ht
       refine hK.out _ _ (by exact SV4.out) (fun hHeld4 => ?_)
       clear hK K
       refine tk 9 ⟨some 48, .build 57 #[(0, .tmp 41), (1, .tmp 45), (2, .tmp 47)], 57, oz54, oy55, none⟩ ?_
       refine wpAnyH_ready (rs := [10]) (by kernel_rfl) (by simp) (AllReadyH.cons rfl (fun K hK => ?_) AllReadyH.nil)
       go_simp
       have SV5 : Hid ((y4.alloc (.cells #[.int .i64 (k : Int), .int .i64 q1, .int .i64 q2] 57)).cell? ⟨B, 1, none⟩ = some (.int .i64 r1)) := keepAl T4.out.2.1.2.1.2.1
       refine hK.out _ _ (by exact SV5.out) (fun hHeld5 => ?_)
       clear hK K
       refine wpAnyH_ready (rs := [11]) (by kernel_rfl) (by simp) (AllReadyH.cons rfl (fun K hK => ?_) AllReadyH.nil)
       refine Dr.step_append_own _ rfl (.tmp 40) (.tmp 49) 37 rfl (B + 1) 57 ti (.agg #[.int .i64 0, .int .i64 0, .int .i64 0]) 3 24 Tryz.underlying37 hti hz0 hz1 hz2 rfl (by decide) (.slice ad zs.length cp) zs.length (cellsCt zs) rfl (T4.out.2.2.2.1.alloc _) ⟨y4.heap.size, 0, none⟩ 1 1 (cellsCt [⟨k, q1, q2⟩]) rfl rfl (ct_new _ _ _) (cellsCt_one _) (by unfold maxLen; omega) (by omega) (by have := T4.out.2.1.1; simp; omega) ?_
       intro v6 w6 hown6 hgrow6 hnil6
       clear hnil6
       have TF : Hid (Dr.St w b cv (w6.setCell ⟨B, 5, none⟩ v6) B (a4 + 1 + 1 + 1) ⟨x, r1, 1 + r2, 0, 0, (zs ++ [⟨k, q1, q2⟩]), []⟩ v6 (.slice none 0 0)) := T4.out.certs hb hown6 hgrow6
       have BX : Hid (MBoxAt w6 B ⟨x, r1, 1 + r2, 0, 0, zs, []⟩ (.slice ad zs.length cp) (.slice none 0 0)) := Dr.box_below T4.out.2.1 (Below.grown ((Below.refl (B + 1) y4).alloc (by have := T4.out.2.1.1; omega) _) hgrow6 (by have := T4.out.2.1.1; simp; omega) (fun q hq => (T4.out.2.2.2.1.lt q hq).1)) (by omega)
       have SV6 : Hid (w6.cell? ⟨B, 1, none⟩ = some (.int .i64 r1)) := BX.out.2.1.2.1
       have OW : Hid (∃ ad6 cap6, v6 = .slice ad6 (zs.length + 1) cap6) := Led.owns_form hown6
       clear hown6 hgrow6
       refine hK.out _ _ (by exact SV6.out) (fun hHeld6 => ?_)
       clear hK K
       refine tk 12 ⟨some 51, .fieldAddr 40 (.tmp 5) 5, 0, oz54, oy56, none⟩ ?_
       refine wpAnyH_ready (rs := [13]) (by kernel_rfl) (by simp) (AllReadyH.cons rfl (fun K hK => ?_) AllReadyH.nil)
       obtain ⟨-, ⟨-, -, -, -, -, bx5, -⟩, -, -, -, -, -, bf5, -⟩ := BX.out
       obtain ⟨ad6, cap6, rfl⟩ := OW.out
       go_simp
       have SV7 : Hid ((w6.setCell ⟨B, 5, none⟩ (.slice ad6 (zs.length + 1) cap6)).cell? ⟨B, 1, none⟩ = some (.int .i64 r1)) := TF.out.2.1.2.1.2.1
       refine hK.out _ _ (by exact SV7.out) (fun hHeld7 => ?_)
       clear hK K
       refine wpAnyH_done (by kernel_rfl) ?_ _
       obtain ⟨W7, hW7⟩ : ∃ W7, W7 = w6.setCell ⟨B, 5, none⟩ (.slice ad6 (zs.length + 1) cap6) := ⟨_, rfl⟩
       have TG2 : Hid (Dr.St w b cv W7 B (a4 + 1 + 1 + 1) ⟨x, r1, 1 + r2, 0, 0, (zs ++ [⟨k, q1, q2⟩]), []⟩ (.slice ad6 (zs.length + 1) cap6) (.slice none 0 0)) := by rw [hW7]; exact TF.out
       rw [← hW7]
       clear TF BX hW7
       go_wp2
       exact ⟨⟨k + 1, zs ++ [⟨k, q1, q2⟩], _, a4 + 1 + 1 + 1, by omega, by omega, by go_num, by rw [List.length_append]; simp; omega, by omega, by omega, TG2⟩, by simp [intOf]; omega⟩
      ·go_simp
       refine (NX.out _ r1 _ TD.out.2.2.2.2.2.1 (by omega) (by omega) (by omega)).mono ?_
       rintro e y2 ⟨q1, rfl, hq10, hq11, ht⟩
       have T2 : Hid (Dr.St w b cv y2 B (a4 + 1 + 1) ⟨x, r1, 1 + r2, 0, 0, zs, []⟩ (.slice ad zs.length cp) (.slice none 0 0)) := TD.out.tick hb ht
       have SV2 : Hid (y2.cell? ⟨B, 1, none⟩ = some (.int .i64 r1)) := T2.out.2.1.2.1.2.1
       clear ht
       refine hK.out _ _ (by exact SV2.out) (fun hHeld2 => ?_)
       clear hK K
       refine wpAnyH_ready (rs := [1, 8]) (by kernel_rfl) (by simp) (AllReadyH.cons rfl (fun K hK => ?_) (AllReadyH.cons rfl (fun K hK => ?_) AllReadyH.nil))
       ·have cc5 : y2.cell? ⟨B, 5, none⟩ = some (.slice ad zs.length cp) := T2.out.2.1.2.1.2.2.2.2.2.1
        have SV8 : Hid (y2.cell? ⟨B, 1, none⟩ = some (.int .i64 r1)) := T2.out.2.1.2.1.2.1
        go_simp
        refine hK.out _ _ (by exact SV8.out) (fun hHeld8 => ?_)
        clear hK K
        clear cc5
        refine wpAnyH_ready (rs := [8]) (by kernel_rfl) (by simp) (AllReadyH.cons rfl (fun K hK => ?_) AllReadyH.nil)
        go_simp
        refine (NX.out _ 3 _ T2.out.2.2.2.2.2.1 (by omega) (by omega) (by omega)).mono ?_
        rintro e y10 ⟨q2, rfl, hq20, hq21, ht⟩
        have T10 : Hid (Dr.St w b cv y10 B (a4 + 1 + 1 + 1) ⟨x, r1, 1 + r2, 0, 0, zs, []⟩ (.slice ad zs.length cp) (.slice none 0 0)) := T2.out.tick hb ht
        have SV10 : Hid (y10.cell? ⟨B, 1, none⟩ = some (.int .i64 r1)) := T10.out.2.1.2.1.2.1
        clear ht
        refine hK.out _ _ (by exact SV10.out) (fun hHeld10 => ?_)
        clear hK K
        refine tk 9 ⟨some 48, .build 57 #[(0, .tmp 41), (1, .tmp 45), (2, .tmp 47)], 57, oz54, oy55, none⟩ ?_
        refine wpAnyH_ready (rs := [10]) (by kernel_rfl) (by simp) (AllReadyH.cons rfl (fun K hK => ?_) AllReadyH.nil)
        go_simp
        have SV11 : Hid ((y10.alloc (.cells #[.int .i64 (k : Int), .int .i64 q1, .int .i64 q2] 57)).cell? ⟨B, 1, none⟩ = some (.int .i64 r1)) := keepAl T10.out.2.1.2.1.2.1
        refine hK.out _ _ (by exact SV11.out) (fun hHeld11 => ?_)
        clear hK K
        refine wpAnyH_ready (rs := [11]) (by kernel_rfl) (by simp) (AllReadyH.cons rfl (fun K hK => ?_) AllReadyH.nil)
        refine Dr.step_append_own _ rfl (.tmp 40) (.tmp 49) 37 rfl (B + 1) 57 ti (.agg #[.int .i64 0, .int .i64 0, .int .i64 0]) 3 24 Tryz.underlying37 hti hz0 hz1 hz2 rfl (by decide) (.slice ad zs.length cp) zs.length (cellsCt zs) rfl (T10.out.2.2.2.1.alloc _) ⟨y10.heap.size, 0, none⟩ 1 1 (cellsCt [⟨k, q1, q2⟩]) rfl rfl (ct_new _ _ _) (cellsCt_one _) (by unfold maxLen; omega) (by omega) (by have := T10.out.2.1.1; simp; omega) ?_
        intro v6 w6 hown6 hgrow6 hnil6
        clear hnil6
        have TF : Hid (Dr.St w b cv (w6.setCell ⟨B, 5, none⟩ v6) B (a4 + 1 + 1 + 1) ⟨x, r1, 1 + r2, 0, 0, (zs ++ [⟨k, q1, q2⟩]), []⟩ v6 (.slice none 0 0)) := T10.out.certs hb hown6 hgrow6
        have BX : Hid (MBoxAt w6 B ⟨x, r1, 1 + r2, 0, 0, zs, []⟩ (.slice ad zs.length cp) (.slice none 0 0)) := Dr.box_below T10.out.2.1 (Below.grown ((Below.refl (B + 1) y10).alloc (by have := T10.out.2.1.1; omega) _) hgrow6 (by have := T10.out.2.1.1; simp; omega) (fun q hq => (T10.out.2.2.2.1.lt q hq).1)) (by omega)
        have SV12 : Hid (w6.cell? ⟨B, 1, none⟩ = some (.int .i64 r1)) := BX.out.2.1.2.1
        have OW : Hid (∃ ad6 cap6, v6 = .slice ad6 (zs.length + 1) cap6) := Led.owns_form hown6
        clear hown6 hgrow6
        refine hK.out _ _ (by exact SV12.out) (fun hHeld12 => ?_)
        clear hK K
        refine tk 12 ⟨some 51, .fieldAddr 40 (.tmp 5) 5, 0, oz54, oy56, none⟩ ?_
        refine wpAnyH_ready (rs := [13]) (by kernel_rfl) (by simp) (AllReadyH.cons rfl (fun K hK => ?_) AllReadyH.nil)
        obtain ⟨-, ⟨-, -, -, -, -, bx5, -⟩, -, -, -, -, -, bf5, -⟩ := BX.out
        obtain ⟨ad6, cap6, rfl⟩ := OW.out
        go_simp
        have SV13 : Hid ((w6.setCell ⟨B, 5, none⟩ (.slice ad6 (zs.length + 1) cap6)).cell? ⟨B, 1, none⟩ = some (.int .i64 r1)) := TF.out.2.1.2.1.2.1
        refine hK.out _ _ (by exact SV13.out) (fun hHeld13 => ?_)
        clear hK K
        refine wpAnyH_done (by kernel_rfl) ?_ _
        obtain ⟨W7, hW7⟩ : ∃ W7, W7 = w6.setCell ⟨B, 5, none⟩ (.slice ad6 (zs.length + 1) cap6) := ⟨_, rfl⟩
        have TG2 : Hid (Dr.St w b cv W7 B (a4 + 1 + 1 + 1) ⟨x, r1, 1 + r2, 0, 0, (zs ++ [⟨k, q1, q2⟩]), []⟩ (.slice ad6 (zs.length + 1) cap6) (.slice none 0 0)) := by rw [hW7]; exact TF.out
        rw [← hW7]
        clear TF BX hW7
        go_wp2
        exact ⟨⟨k + 1, zs ++ [⟨k, q1, q2⟩], _, a4 + 1 + 1 + 1, by omega, by omega, by go_num, by rw [List.length_append]; simp; omega, by omega, by omega, TG2⟩, by simp [intOf]; omega⟩
       ·go_simp
        refine (NX.out _ 3 _ T2.out.2.2.2.2.2.1 (by omega) (by omega) (by omega)).mono ?_
        rintro e y9 ⟨q2, rfl, hq20, hq21, ht⟩
        have T9 : Hid (Dr.St w b cv y9 B (a4 + 1 + 1 + 1) ⟨x, r1, 1 + r2, 0, 0, zs, []⟩ (.slice ad zs.length cp) (.slice none 0 0)) := T2.out.tick hb ht
        have SV9 : Hid (y9.cell? ⟨B, 1, none⟩ = some (.int .i64 r1)) := T9.out.2.1.2.1.2.1
        clear ht
        refine hK.out _ _ (by exact SV9.out) (fun hHeld9 => ?_)
        clear hK K
        refine tk 9 ⟨some 48, .build 57 #[(0, .tmp 41), (1, .tmp 45), (2, .tmp 47)], 57, oz54, oy55, none⟩ ?_
        refine wpAnyH_ready (rs := [1, 10]) (by kernel_rfl) (by simp) (AllReadyH.cons rfl (fun K hK => ?_) (AllReadyH.cons rfl (fun K hK => ?_) AllReadyH.nil))
        ·have cc5 : y9.cell? ⟨B, 5, none⟩ = some (.slice ad zs.length cp) := T9.out.2.1.2.1.2.2.2.2.2.1
         have SV14 : Hid (y9.cell? ⟨B, 1, none⟩ = some (.int .i64 r1)) := T9.out.2.1.2.1.2.1
         go_simp
         refine hK.out _ _ (by exact SV14.out) (fun hHeld14 => ?_)
         clear hK K
         clear cc5
         refine wpAnyH_ready (rs := [10]) (by kernel_rfl) (by simp) (AllReadyH.cons rfl (fun K hK => ?_) AllReadyH.nil)
         go_simp
         have SV16 : Hid ((y9.alloc (.cells #[.int .i64 (k : Int), .int .i64 q1, .int .i64 q2] 57)).cell? ⟨B, 1, none⟩ = some (.int .i64 r1)) := keepAl T9.out.2.1.2.1.2.1
         refine hK.out _ _ (by exact SV16.out) (fun hHeld16 => ?_)
         clear hK K
         refine wpAnyH_ready (rs := [11]) (by kernel_rfl) (by simp) (AllReadyH.cons rfl (fun K hK => ?_) AllReadyH.nil)
         refine Dr.step_append_own _ rfl (.tmp 40) (.tmp 49) 37 rfl (B + 1) 57 ti (.agg #[.int .i64 0, .int .i64 0, .int .i64 0]) 3 24 Tryz.underlying37 hti hz0 hz1 hz2 rfl (by decide) (.slice ad zs.length cp) zs.length (cellsCt zs) rfl (T9.out.2.2.2.1.alloc _) ⟨y9.heap.size, 0, none⟩ 1 1 (cellsCt [⟨k, q1, q2⟩]) rfl rfl (ct_new _ _ _) (cellsCt_one _) (by unfold maxLen; omega) (by omega) (by have := T9.out.2.1.1; simp; omega) ?_
         intro v6 w6 hown6 hgrow6 hnil6
         clear hnil6
         have TF : Hid (Dr.St w b cv (w6.setCell ⟨B, 5, none⟩ v6) B (a4 + 1 + 1 + 1) ⟨x, r1, 1 + r2, 0, 0, (zs ++ [⟨k, q1, q2⟩]), []⟩ v6 (.slice none 0 0)) := T9.out.certs hb hown6 hgrow6
         have BX : Hid (MBoxAt w6 B ⟨x, r1, 1 + r2, 0, 0, zs, []⟩ (.slice ad zs.length cp) (.slice none 0 0)) := Dr.box_below T9.out.2.1 (Below.grown ((Below.refl (B + 1) y9).alloc (by have := T9.out.2.1.1; omega) _) hgrow6 (by have := T9.out.2.1.1; simp; omega) (fun q hq => (T9.out.2.2.2.1.lt q hq).1)) (by omega)
         have SV17 : Hid (w6.cell? ⟨B, 1, none⟩ = some (.int .i64 r1)) := BX.out.2.1.2.1
         have OW : Hid (∃ ad6 cap6, v6 = .slice ad6 (zs.length + 1) cap6) := Led.owns_form hown6
         clear hown6 hgrow6
         refine hK.out _ _ (by exact SV17.out) (fun hHeld17 => ?_)
         clear hK K
         refine tk 12 ⟨some 51, .fieldAddr 40 (.tmp 5) 5, 0, oz54, oy56, none⟩ ?_
         refine wpAnyH_ready (rs := [13]) (by kernel_rfl) (by simp) (AllReadyH.cons rfl (fun K hK => ?_) AllReadyH.nil)
         obtain ⟨-, ⟨-, -, -, -, -, bx5, -⟩, -, -, -, -, -, bf5, -⟩ := BX.out
         obtain ⟨ad6, cap6, rfl⟩ := OW.out
         go_simp
         have SV18 : Hid ((w6.setCell ⟨B, 5, none⟩ (.slice ad6 (zs.length + 1) cap6)).cell? ⟨B, 1, none⟩ = some (.int .i64 r1)) := TF.out.2.1.2.1.2.1
         refine hK.out _ _ (by exact SV18.out) (fun hHeld18 => ?_)
         clear hK K
         refine wpAnyH_done (by kernel_rfl) ?_ _
         obtain ⟨W7, hW7⟩ : ∃ W7, W7 = w6.setCell ⟨B, 5, none⟩ (.slice ad6 (zs.length + 1) cap6) := ⟨_, rfl⟩
         have TG2 : Hid (Dr.St w b cv W7 B (a4 + 1 + 1 + 1) ⟨x, r1, 1 + r2, 0, 0, (zs ++ [⟨k, q1, q2⟩]), []⟩ (.slice ad6 (zs.length + 1) cap6) (.slice none 0 0)) := by rw [hW7]; exact TF.out
         rw [← hW7]
         clear TF BX hW7
         go_wp2
         exact ⟨⟨k + 1, zs ++ [⟨k, q1, q2⟩], _, a4 + 1 + 1 + 1, by omega, by omega, by go_num, by rw [List.length_append]; simp; omega, by omega, by omega, TG2⟩, by simp [intOf]; omega⟩
        ·go_simp
         have SV15 : Hid ((y9.alloc (.cells #[.int .i64 (k : Int), .int .i64 q1, .int .i64 q2] 57)).cell? ⟨B, 1, none⟩ = some (.int .i64 r1)) := keepAl T9.out.2.1.2.1.2.1
         refine hK.out _ _ (by exact SV15.out) (fun hHeld15 => ?_)
         clear hK K
         refine wpAnyH_ready (rs := [1]) (by kernel_rfl) (by simp) (AllReadyH.cons rfl (fun K hK => ?_) AllReadyH.nil)
         have cc5 : (y9.alloc (.cells #[.int .i64 (k : Int), .int .i64 q1, .int .i64 q2] 57)).cell? ⟨B, 5, none⟩ = some (.slice ad zs.length cp) := keepAl T9.out.2.1.2.1.2.2.2.2.2.1
         have SV19 : Hid ((y9.alloc (.cells #[.int .i64 (k : Int), .int .i64 q1, .int .i64 q2] 57)).cell? ⟨B, 1, none⟩ = some (.int .i64 r1)) := keepAl T9.out.2.1.2.1.2.1
         go_simp
         refine hK.out _ _ (by exact SV19.out) (fun hHeld19 => ?_)
         clear hK K
         clear cc5
         refine wpAnyH_ready (rs := [11]) (by kernel_rfl) (by simp) (AllReadyH.cons rfl (fun K hK => ?_) AllReadyH.nil)
         refine Dr.step_append_own _ rfl (.tmp 40) (.tmp 49) 37 rfl (B + 1) 57 ti (.agg #[.int .i64 0, .int .i64 0, .int .i64 0]) 3 24 Tryz.underlying37 hti hz0 hz1 hz2 rfl (by decide) (.slice ad zs.length cp) zs.length (cellsCt zs) rfl (T9.out.2.2.2.1.alloc _) ⟨y9.heap.size, 0, none⟩ 1 1 (cellsCt [⟨k, q1, q2⟩]) rfl rfl (ct_new _ _ _) (cellsCt_one _) (by unfold maxLen; omega) (by omega) (by have := T9.out.2.1.1; simp; omega) ?_
         intro v6 w6 hown6 hgrow6 hnil6
         clear hnil6
         have TF : Hid (Dr.St w b cv (w6.setCell ⟨B, 5, none⟩ v6) B (a4 + 1 + 1 + 1) ⟨x, r1, 1 + r2, 0, 0, (zs ++ [⟨k, q1, q2⟩]), []⟩ v6 (.slice none 0 0)) := T9.out.certs hb hown6 hgrow6
         have BX : Hid (MBoxAt w6 B ⟨x, r1, 1 + r2, 0, 0, zs, []⟩ (.slice ad zs.length cp) (.slice none 0 0)) := Dr.box_below T9.out.2.1 (Below.grown ((Below.refl (B + 1) y9).alloc (by have := T9.out.2.1.1; omega) _) hgrow6 (by have := T9.out.2.1.1; simp; omega) (fun q hq => (T9.out.2.2.2.1.lt q hq).1)) (by omega)
         have SV20 : Hid (w6.cell? ⟨B, 1, none⟩ = some (.int .i64 r1)) := BX.out.2.1.2.1
         have OW : Hid (∃ ad6 cap6, v6 = .slice ad6 (zs.length + 1) cap6) := Led.owns_form hown6
         clear hown6 hgrow6
         refine hK.out _ _ (by exact SV20.out) (fun hHeld20 => ?_)
         clear hK K
         refine tk 12 ⟨some 51, .fieldAddr 40 (.tmp 5) 5, 0, oz54, oy56, none⟩ ?_
         refine wpAnyH_ready (rs := [13]) (by kernel_rfl) (by simp) (AllReadyH.cons rfl (fun K hK => ?_) AllReadyH.nil)
         obtain ⟨-, ⟨-, -, -, -, -, bx5, -⟩, -, -, -, -, -, bf5, -⟩ := BX.out
         obtain ⟨ad6, cap6, rfl⟩ := OW.out
         go_simp
         have SV21 : Hid ((w6.setCell ⟨B, 5, none⟩ (.slice ad6 (zs.length + 1) cap6)).cell? ⟨B, 1, none⟩ = some (.int .i64 r1)) := TF.out.2.1.2.1.2.1
         refine hK.out _ _ (by exact SV21.out) (fun hHeld21 => ?_)
         clear hK K
         refine wpAnyH_done (by kernel_rfl) ?_ _
         obtain ⟨W7, hW7⟩ : ∃ W7, W7 = w6.setCell ⟨B, 5, none⟩ (.slice ad6 (zs.length + 1) cap6) := ⟨_, rfl⟩
         have TG2 : Hid (Dr.St w b cv W7 B (a4 + 1 + 1 + 1) ⟨x, r1, 1 + r2, 0, 0, (zs ++ [⟨k, q1, q2⟩]), []⟩ (.slice ad6 (zs.length + 1) cap6) (.slice none 0 0)) := by rw [hW7]; exact TF.out
         rw [← hW7]
         clear TF BX hW7
         go_wp2
         exact ⟨⟨k + 1, zs ++ [⟨k, q1, q2⟩], _, a4 + 1 + 1 + 1, by omega, by omega, by go_num, by rw [List.length_append]; simp; omega, by omega, by omega, TG2⟩, by simp [intOf]; omega⟩
    ·obtain ⟨⟨rl, ⟨R0, R1, R2, R3, R4, R5, R6⟩, F0, F1, F2, F3, F4, F5, F6⟩, ⟨bl, ⟨c0, c1, c2, c3, c4, c5, c6⟩, f0, f1, f2, f3, f4, f5, f6⟩, hRB, -, -, -⟩ := SK.out
     have hne : w.heap.size ≠ B := Nat.ne_of_lt hRB
     have GT : Hid (Dr.Got (w.heap.size + 1) w b (a + 25) cv ⟨x, r1, 1 + r2, 0, 0, zs, []⟩ (.slice ad zs.length cp) (.slice none 0 0) (Dr.put7 wr w.heap.size ⟨x, r1, 1 + r2, 0, 0, zs, []⟩ (.slice ad zs.length cp) (.slice none 0 0))) := SK.out.got hb (by omega) (by show zs.length ≤ 5; omega) (by simp)
     have GL : Hid (zs.length ≤ 4) := by show _ ≤ _; omega
     clear SK NX CH
     go_wp2
     exact bodyPost_ret (v := magg ⟨x, r1, 1 + r2, 0, 0, zs, []⟩ (.slice ad zs.length cp) (.slice none 0 0)) (by simp [results, Tryz.results187, go_sem, magg, *]) rfl ⟨_, _, _, rfl, GT.out, GL.out⟩
   ·obtain ⟨⟨rl, ⟨R0, R1, R2, R3, R4, R5, R6⟩, F0, F1, F2, F3, F4, F5, F6⟩, ⟨bl, ⟨c0, c1, c2, c3, c4, c5, c6⟩, f0, f1, f2, f3, f4, f5, f6⟩, hRB, -, -, -⟩ := SK.out
    have hne : w.heap.size ≠ B := Nat.ne_of_lt hRB
    have GT : Hid (Dr.Got (w.heap.size + 1) w b (a + 25) cv ⟨x, r1, 1 + r2, 0, 0, zs, []⟩ (.slice ad zs.length cp) (.slice none 0 0) (Dr.put7 wr w.heap.size ⟨x, r1, 1 + r2, 0, 0, zs, []⟩ (.slice ad zs.length cp) (.slice none 0 0))) := SK.out.got hb (by omega) (by show zs.length ≤ 5; omega) (by simp)
    have GL : Hid (zs.length ≤ 4) := by show _ ≤ _; omega
    clear SK NX CH
    go_wp2
    exact bodyPost_ret (v := magg ⟨x, r1, 1 + r2, 0, 0, zs, []⟩ (.slice ad zs.length cp) (.slice none 0 0)) (by simp [results, Tryz.results187, go_sem, magg, *]) rfl ⟨_, _, _, rfl, GT.out, GL.out⟩
 ·by_cases hx5 : x = 5
  ·have g4 : (x == 4) = false := by simpa using hx4
   have g5 : (x == 5) = true := by simpa using hx5
   clear hx4 hx5
   go_wp2
   rw [← hW0]
   generalize w3.heap.size = B at *
   clear hW0
   go_loopw [7] (fun i wr => ∃ (k : Nat) (rs : List Int) (u : Value) (a4 : Nat), (k : Int) ≤ n ∧ i = .int .i64 (k : Int) ∧ rs.length ≤ 4 ∧ a4 ≤ a + 3 + k ∧ a4 ≤ 1000 ∧ Hid (Dr.St w b cv wr B a4 ⟨x, r1, 1 + r2, 0, 0, [], rs⟩ (.slice none 0 0) u)) (fun i _ => n.toNat - (intOf i).toNat)
   case atStart => exact ⟨0, [], (.slice none 0 0), a + 3, by omega, rfl, by simp, by omega, by omega, ST2⟩
   case round =>
    obtain ⟨k, rs, u, a4, hk, rfl, hrl, ha4, ha5, SK⟩ := hrel
    obtain ⟨ad, cp, rfl⟩ := Led.owns_form SK.out.2.2.2.2.1
    by_cases hkn : (k : Int) < n
    ·by_cases hl4 : rs.length < 4
     ·obtain ⟨bl, ⟨c0, c1, c2, c3, c4, c5, c6⟩, -⟩ := SK.out.2.1
      have hl5 : (rs.length : Int) < 4 := by omega
      go_wp2_with fail
      refine (CH.out a4 3 _ SK.out.2.2.2.2.2.1 (by omega) (by omega) (by omega)).mono ?_
      rintro e w4 ⟨ch, rfl, ht⟩
      have T4 : Hid (Dr.St w b cv w4 B (a4 + 1) ⟨x, r1, 1 + r2, 0, 0, [], rs⟩ (.slice none 0 0) (.slice ad rs.length cp)) := SK.out.tick hb ht
      clear ht bl c0 c1 c2 c3 c4 c5 c6 SK
      cases ch with
      | false =>
       go_wp2
       exact ⟨⟨k + 1, rs, _, a4 + 1, by omega, by go_num, by omega, by omega, by omega, T4⟩, by simp [intOf]; omega⟩
      | true =>
       obtain ⟨bl, ⟨-, -, -, -, -, -, c6⟩, -⟩ := T4.out.2.1
       have hO4 : Hid (w4.ownsRow (B + 1) 2 1 (.slice ad rs.length cp) rs.length (rs.map (Value.int .i64))) := T4.out.2.2.2.2.1
       go_wp2_with (at_builtin; go_must (refine wpList_append_own _ rfl _ _ 38 rfl (B + 1) 2 si (.int .i64 0) 1 8 Tryz.underlying38 hsi sz0 sz1 sz2 rfl (by decide) _ rs.length _ rfl (hO4.out.alloc _) ⟨w4.heap.size, 0, none⟩ 1 1 [.int .i64 (k : Int)] rfl rfl (cellM_one _ _ _ _ rfl) (ints_oneCell .i64 [(k : Int)]) (by unfold maxLen; omega) (by omega) (by simp; omega) ?_; intro v6 w6 hown6 hgrow6 hnil6; have TF : Hid (Dr.St w b cv (w6.setCell ⟨B, 6, none⟩ v6) B (a4 + 1) ⟨x, r1, 1 + r2, 0, 0, [], rs ++ [(k : Int)]⟩ (.slice none 0 0) v6) := T4.out.refs hb hown6 hgrow6; have BX : Hid (MBoxAt w6 B ⟨x, r1, 1 + r2, 0, 0, [], rs⟩ (.slice none 0 0) (.slice ad rs.length cp)) := Dr.box_below T4.out.2.1 (Below.grown ((Below.refl (B + 1) w4).alloc (by omega) _) hgrow6 (by simp; omega) (fun q hq => (T4.out.2.2.2.2.1.lt q hq).1)) (by omega); obtain ⟨ad6, cap6, rfl⟩ := Led.owns_form hown6; obtain ⟨-, ⟨-, -, -, -, -, -, bx6⟩, -, -, -, -, -, -, bf6⟩ := BX.out; clear hown6 hgrow6 hnil6 BX))
       exact ⟨⟨k + 1, rs ++ [(k : Int)], _, a4 + 1, by omega, by go_num, by rw [List.length_append]; simp; omega, by omega, by omega, TF⟩, by simp [intOf]; omega⟩
     ·have hl5 : ¬ (rs.length : Int) < 4 := by omega
      obtain ⟨⟨rl, ⟨R0, R1, R2, R3, R4, R5, R6⟩, F0, F1, F2, F3, F4, F5, F6⟩, ⟨bl, ⟨c0, c1, c2, c3, c4, c5, c6⟩, f0, f1, f2, f3, f4, f5, f6⟩, hRB, -, -, -⟩ := SK.out
      have hne : w.heap.size ≠ B := Nat.ne_of_lt hRB
      have GT : Hid (Dr.Got (w.heap.size + 1) w b (a + 25) cv ⟨x, r1, 1 + r2, 0, 0, [], rs⟩ (.slice none 0 0) (.slice ad rs.length cp) (Dr.put7 wr w.heap.size ⟨x, r1, 1 + r2, 0, 0, [], rs⟩ (.slice none 0 0) (.slice ad rs.length cp))) := SK.out.got hb (by omega) (by simp) (by show rs.length ≤ 4; omega)
      have GL : Hid (([] : List Ct).length ≤ 4) := by show _ ≤ _; simp
      clear SK NX CH
      go_wp2
      exact bodyPost_ret (v := magg ⟨x, r1, 1 + r2, 0, 0, [], rs⟩ (.slice none 0 0) (.slice ad rs.length cp)) (by simp [results, Tryz.results187, go_sem, magg, *]) rfl ⟨_, _, _, rfl, GT.out, GL.out⟩
    ·obtain ⟨⟨rl, ⟨R0, R1, R2, R3, R4, R5, R6⟩, F0, F1, F2, F3, F4, F5, F6⟩, ⟨bl, ⟨c0, c1, c2, c3, c4, c5, c6⟩, f0, f1, f2, f3, f4, f5, f6⟩, hRB, -, -, -⟩ := SK.out
     have hne : w.heap.size ≠ B := Nat.ne_of_lt hRB
     have GT : Hid (Dr.Got (w.heap.size + 1) w b (a + 25) cv ⟨x, r1, 1 + r2, 0, 0, [], rs⟩ (.slice none 0 0) (.slice ad rs.length cp) (Dr.put7 wr w.heap.size ⟨x, r1, 1 + r2, 0, 0, [], rs⟩ (.slice none 0 0) (.slice ad rs.length cp))) := SK.out.got hb (by omega) (by simp) (by show rs.length ≤ 4; omega)
     have GL : Hid (([] : List Ct).length ≤ 4) := by show _ ≤ _; simp
     clear SK NX CH
     go_wp2
     exact bodyPost_ret (v := magg ⟨x, r1, 1 + r2, 0, 0, [], rs⟩ (.slice none 0 0) (.slice ad rs.length cp)) (by simp [results, Tryz.results187, go_sem, magg, *]) rfl ⟨_, _, _, rfl, GT.out, GL.out⟩
  ·have g4 : (x == 4) = false := by simpa using hx4
   have g5 : (x == 5) = false := by simpa using hx5
   clear hx4 hx5
   go_wp2_with fail
   rw [← hW0]
   generalize w3.heap.size = B at *
   clear hW0
   refine (NX.out (a + 3) 2 _ ST2.out.2.2.2.2.2.1 (by omega) (by omega) (by omega)).mono ?_
   rintro e w4 ⟨s1, rfl, hs10, hs11, ht⟩
   have S4 : Hid (Dr.St w b cv w4 B (a + 3 + 1) ⟨x, r1, 1 + r2, 0, 0, [], []⟩ (.slice none 0 0) (.slice none 0 0)) := ST2.out.tick hb ht
   have S5 : Hid (Dr.St w b cv (w4.setCell ⟨B, 3, none⟩ (.int .i64 (1 + s1))) B (a + 3 + 1) ⟨x, r1, 1 + r2, 1 + s1, 0, [], []⟩ (.slice none 0 0) (.slice none 0 0)) := S4.out.slot hb (1 + s1)
   have hws : IntKind.i64.wrap (1 + s1) = 1 + s1 := by rw [IntKind.wrap_i64]; omega
   obtain ⟨bl, ⟨c0, c1, c2, c3, c4, c5, c6⟩, f0, f1, f2, f3, f4, f5, f6⟩ := S4.out.2.1
   clear ht ST2
   go_wp2_with fail
   refine (NX.out (a + 3 + 1) 3 _ S5.out.2.2.2.2.2.1 (by omega) (by omega) (by omega)).mono ?_
   rintro e w5 ⟨s2, rfl, hs20, hs21, ht⟩
   have S6 : Hid (Dr.St w b cv w5 B (a + 3 + 1 + 1) ⟨x, r1, 1 + r2, 1 + s1, 0, [], []⟩ (.slice none 0 0) (.slice none 0 0)) := S5.out.tick hb ht
   have S7 : Hid (Dr.St w b cv (w5.setCell ⟨B, 4, none⟩ (.int .i64 s2)) B (a + 3 + 1 + 1) ⟨x, r1, 1 + r2, 1 + s1, s2, [], []⟩ (.slice none 0 0) (.slice none 0 0)) := S6.out.value hb s2
   clear ht bl c0 c1 c2 c3 c4 c5 c6 f0 f1 f2 f3 f4 f5 f6 hwr hws g4 g5
   have GT : Hid (Dr.Got (w.heap.size + 1) w b (a + 25) cv ⟨x, r1, 1 + r2, 1 + s1, s2, [], []⟩ (.slice none 0 0) (.slice none 0 0) (Dr.put7 (w5.setCell ⟨B, 4, none⟩ (.int .i64 s2)) w.heap.size ⟨x, r1, 1 + r2, 1 + s1, s2, [], []⟩ (.slice none 0 0) (.slice none 0 0))) := S7.out.got hb (by omega) (by simp) (by simp)
   have GL : Hid (([] : List Ct).length ≤ 4) := by show _ ≤ _; simp
   obtain ⟨⟨rl, ⟨R0, R1, R2, R3, R4, R5, R6⟩, F0, F1, F2, F3, F4, F5, F6⟩, ⟨bl, ⟨c0, c1, c2, c3, c4, c5, c6⟩, f0, f1, f2, f3, f4, f5, f6⟩, hRB, -, -, -⟩ := S6.out
   have hne : w.heap.size ≠ B := Nat.ne_of_lt hRB
   go_wp2
   exact bodyPost_ret (v := magg ⟨x, r1, 1 + r2, 1 + s1, s2, [], []⟩ (.slice none 0 0) (.slice none 0 0)) (by simp [results, Tryz.results187, go_sem, magg, *]) rfl ⟨_, _, _, rfl, GT.out, GL.out⟩
end Go.Proofs.YtecgjdgfjgcmdaaGreat
namespace Go.Proofs.YtecgjdgfjgcmdaaGreat
open Go.RowKit
namespace Dr
def cellsP (l : List (Ms × Value × Value)) : List Value := l.flatMap fun p => [.int .i64 p.1.kind, .int .i64 p.1.view, .int .i64 p.1.from_, .int .i64 p.1.slot, .int .i64 p.1.value, p.2.1, p.2.2]
theorem cellsP_app (l k : List (Ms × Value × Value)) : cellsP (l ++ k) = cellsP l ++ cellsP k := by simp [cellsP]
theorem cellsP_at : ∀ (l : List (Ms × Value × Value)) (i : Nat) (p : Ms × Value × Value), l[i]? = some p → (cellsP l)[i * 7]? = some (.int .i64 p.1.kind) ∧ (cellsP l)[i * 7 + 1]? = some (.int .i64 p.1.view) ∧ (cellsP l)[i * 7 + 2]? = some (.int .i64 p.1.from_) ∧ (cellsP l)[i * 7 + 3]? = some (.int .i64 p.1.slot) ∧ (cellsP l)[i * 7 + 4]? = some (.int .i64 p.1.value) ∧ (cellsP l)[i * 7 + 5]? = some p.2.1 ∧ (cellsP l)[i * 7 + 6]? = some p.2.2
 | [], i, p, h => by simp at h
 | q :: r, 0, p, h => by simp at h; subst h; simp [cellsP]
 | q :: r, i + 1, p, h => by
  simp only [List.getElem?_cons_succ] at h
  have := cellsP_at r i p h
  have e : ∀ j, (cellsP (q :: r))[(i + 1) * 7 + j]? = (cellsP r)[i * 7 + j]? := fun j => by
   rw [show cellsP (q :: r) = [.int .i64 q.1.kind, .int .i64 q.1.view, .int .i64 q.1.from_, .int .i64 q.1.slot, .int .i64 q.1.value, q.2.1, q.2.2] ++ cellsP r from rfl, List.getElem?_append_right (by simp; omega)]
   congr 1
   simp
   omega
  have e0 := e 0
  rw [Nat.add_zero, Nat.add_zero] at e0
  rw [e0, e 1, e 2, e 3, e 4, e 5, e 6]
  exact this
theorem cellsP_one (l : List (Ms × Value × Value)) (h : ∀ p ∈ l, p.2.1.oneCell' = true ∧ p.2.2.oneCell' = true) : ∀ u ∈ cellsP l, u.oneCell' = true := by
 intro u hu
 simp only [cellsP, List.mem_flatMap] at hu
 obtain ⟨p, hp, hs⟩ := hu
 obtain ⟨q1, q2⟩ := h p hp
 simp at hs
 rcases hs with rfl | rfl | rfl | rfl | rfl | rfl | rfl <;> first | rfl | assumption
end Dr
theorem Dr.msg_new (w : World) (m : Ms) (v u : Value) (t : TypeId) : ∀ j x, (Dr.cellsP [(m, v, u)])[j]? = some x → (w.alloc (.cells #[.int .i64 m.kind, .int .i64 m.view, .int .i64 m.from_, .int .i64 m.slot, .int .i64 m.value, v, u] t)).cell? ((⟨w.heap.size, 0, none⟩ : Addr).add j) = some x := by
 intro j x hx
 have e : Dr.cellsP [(m, v, u)] = [.int .i64 m.kind, .int .i64 m.view, .int .i64 m.from_, .int .i64 m.slot, .int .i64 m.value, v, u] := rfl
 rw [e] at hx
 rw [Addr.add_lit, Nat.zero_add, World.cell?_alloc_at _ _ _ _ rfl]
 simpa using hx
end Go.Proofs.YtecgjdgfjgcmdaaGreat
namespace Go.Proofs.YtecgjdgfjgcmdaaGreat
open Go.RowKit
namespace Dr
/-- The messages of ps lie in a row of their own, their lists in rows of their own. -/
def MRow (base : Nat) (W : World) (ov : Value) (ps : List (Ms × Value × Value)) : Prop :=
 W.ownsRow base 40 7 ov ps.length (cellsP ps) ∧ (∀ p ∈ ps, W.ownsRow base 57 3 p.2.1 p.1.certs.length (cellsCt p.1.certs) ∧ W.ownsRow base 2 1 p.2.2 p.1.refs.length (p.1.refs.map (Value.int .i64))) ∧ ∀ p ∈ ps, SmallM p.1
theorem MRow.kp {base b : Nat} {W W' : World} {ov : Value} {ps : List (Ms × Value × Value)} (h : MRow base W ov ps) (hk : Kp b W W') (hb : b < base) : MRow base W' ov ps :=
 ⟨hk.own h.1 hb, fun p hp => ⟨hk.own (h.2.1 p hp).1 hb, hk.own (h.2.1 p hp).2 hb⟩, h.2.2⟩
theorem MRow.ext {base : Nat} {W W' : World} {ov : Value} {ps : List (Ms × Value × Value)} (h : MRow base W ov ps) (he : Ext W W') : MRow base W' ov ps :=
 ⟨Led.own_ext h.1 he, fun p hp => ⟨Led.own_ext (h.2.1 p hp).1 he, Led.own_ext (h.2.1 p hp).2 he⟩, h.2.2⟩
theorem ne_cm : (40 : TypeId) ≠ 57 := by decide
theorem ne_im : (40 : TypeId) ≠ 2 := by decide
theorem MRow.push {base : Nat} {W W2 : World} {ov v6 : Value} {ps : List (Ms × Value × Value)} {p : Ms × Value × Value} {o : Obj} (h : MRow base W ov ps) (h1 : W.ownsRow base 57 3 p.2.1 p.1.certs.length (cellsCt p.1.certs)) (h2 : W.ownsRow base 2 1 p.2.2 p.1.refs.length (p.1.refs.map (Value.int .i64))) (ho : W2.ownsRow base 40 7 v6 (ps.length + 1) (cellsP ps ++ cellsP [p])) (hg : (W.alloc o).grownBy W2 ov.ownBlock) (hs : SmallM p.1) : MRow base W2 v6 (ps ++ [p]) := by
 have hr := h.1
 refine ⟨by rw [cellsP_app, List.length_append]; exact ho, fun q hq => ?_, fun q hq => by
  rw [List.mem_append, List.mem_singleton] at hq
  rcases hq with hq | rfl
  ·exact h.2.2 q hq
  ·exact hs⟩
 have hkeep : ∀ q : Ms × Value × Value, W.ownsRow base 57 3 q.2.1 q.1.certs.length (cellsCt q.1.certs) ∧ W.ownsRow base 2 1 q.2.2 q.1.refs.length (q.1.refs.map (Value.int .i64)) → W2.ownsRow base 57 3 q.2.1 q.1.certs.length (cellsCt q.1.certs) ∧ W2.ownsRow base 2 1 q.2.2 q.1.refs.length (q.1.refs.map (Value.int .i64)) := fun q hq =>
  ⟨own_grown (hq.1.alloc _) hg (own_ne hr hq.1 ne_cm), own_grown (hq.2.alloc _) hg (own_ne hr hq.2 ne_im)⟩
 rw [List.mem_append, List.mem_singleton] at hq
 rcases hq with hq | rfl
 ·exact hkeep q (h.2.1 q hq)
 ·exact hkeep q ⟨h1, h2⟩
theorem MRow.slice {base : Nat} {W : World} {ov : Value} {ps : List (Ms × Value × Value)} (h : MRow base W ov ps) : MSlice W ov (ps.map (·.1)) := by
 have hlt := h.1.lt
 rcases h.1.2 with ⟨hv, h0⟩ | ⟨g, cap, cur, hv, hb, hh, hn, hm, hcs, htk⟩
 ·exact ⟨none, 0, by rw [hv, List.length_map, h0], by rw [List.length_map]; omega, by unfold maxLen; omega, fun hp => by rw [List.length_map] at hp; omega⟩
 ·subst hv
  refine ⟨some ⟨g, 0, none⟩, cap, by rw [List.length_map], by rw [List.length_map]; exact hn, hm, fun hp => ⟨g, 0, rfl, (hlt g rfl).2, fun i m hi => ?_⟩⟩
  rw [List.getElem?_map] at hi
  obtain ⟨p, hpi, rfl⟩ := Option.map_eq_some_iff.1 hi
  have hil := (List.getElem?_eq_some_iff.1 hpi).1
  obtain ⟨c0, c1, c2, c3, c4, c5, c6⟩ := cellsP_at ps i p hpi
  obtain ⟨q1, q2⟩ := h.2.1 p (List.mem_of_getElem? hpi)
  obtain ⟨g1, -, hC⟩ := ctown_of_owns q1
  refine ⟨p.2.1, p.2.2, ?_, hC.slice, islice_of_owns q2⟩
  rw [Nat.zero_add]
  have e := fun j (hj : j < 7) => h.1.cellAt (i * 7 + j) (by omega)
  exact ⟨(by have := e 0 (by omega); rw [Nat.add_zero] at this; exact this.trans c0), (e 1 (by omega)).trans c1, (e 2 (by omega)).trans c2, (e 3 (by omega)).trans c3, (e 4 (by omega)).trans c4, (e 5 (by omega)).trans c5, (e 6 (by omega)).trans c6⟩
end Dr
end Go.Proofs.YtecgjdgfjgcmdaaGreat
namespace Go.Proofs.YtecgjdgfjgcmdaaGreat
open Go.RowKit
theorem Dr.Got.lists {base : Nat} {w : World} {b a : Nat} {cv : Value} {m : Ms} {v u : Value} {w' : World} (h : Dr.Got base w b a cv m v u w') : MLs w' v u m := by
 obtain ⟨g, -, hC⟩ := ctown_of_owns h.1
 exact ⟨hC.slice, islice_of_owns h.2.1⟩
set_option maxHeartbeats 8000000 in
set_option maxRecDepth 100000 in
theorem l8Many_any (b a : Nat) (cv : Value) (w : World) (h : SrcAt w b a cv) (ha : a ≤ 300) :
  Calls Tryz.prog 178 #[.pointer (some ⟨b, 0, none⟩)] w fun e w' => ∃ (ov : Value) (ps : List (Ms × Value × Value)) (a' : Nat), e = .returned ov ∧ Dr.MRow w.heap.size w' ov ps ∧ ps.length ≤ 15 ∧ a' ≤ a + 400 ∧ Dr.Tick b a' cv w w' := by
 have hi9 : (Tryz.prog.info? 40).map (fun i => (i.zero, i.size, i.bytes)) = some (some (.agg #[.int .i64 0, .int .i64 0, .int .i64 0, .int .i64 0, .int .i64 0, .slice none 0 0, .slice none 0 0]), 7, 88) := by kernel_rfl
 obtain ⟨ti, hti, hxx⟩ := Option.map_eq_some_iff.1 hi9
 simp only [Prod.mk.injEq] at hxx
 obtain ⟨hz0, hz1, hz2⟩ := hxx
 clear hi9
 have hb := h.lt
 have NX : Hid (∀ (a' : Nat) (k : Int) (wx : World), SrcAt wx b a' cv → 1 ≤ k → k ≤ 200 → a' ≤ 1000 → Calls Tryz.prog 82 #[.pointer (some ⟨b, 0, none⟩), .int .i64 k] wx fun e w' => ∃ r : Int, e = .returned (.int .i64 r) ∧ 0 ≤ r ∧ r < k ∧ Dr.Tick b (a' + 1) cv wx w') := fun a' k wx h1 h2 h3 h4 => Dr.next b a' cv k wx h1 h2 h3 h4
 have DR : Hid (∀ (a' : Nat) (k : Int) (wx : World), SrcAt wx b a' cv → 0 ≤ k → k ≤ 20 → a' ≤ 900 → Calls Tryz.prog 187 #[.pointer (some ⟨b, 0, none⟩), .int .i64 k] wx fun e w' => ∃ m v u, e = .returned (magg m v u) ∧ Dr.Got (wx.heap.size + 1) wx b (a' + 25) cv m v u w' ∧ m.certs.length ≤ 4) := fun a' k wx h1 h2 h3 h4 => l8Draw_any b a' cv k wx h1 h2 h3 h4
 have AT : Hid (∀ (ov : Value) (ms : List Ms) (m : Ms) (B : Nat) (wx : World), MSlice wx ov ms → B < wx.heap.size → MAt wx B 0 m → Calls Tryz.prog 170 #[ov, .pointer (some ⟨B, 0, none⟩)] wx fun e w' => e = .returned (.int .i64 (Msg.place ms m)) ∧ Ext wx w') := fun ov ms m B wx h1 h2 h3 => l8At_any ov ms m B 0 wx h1 h2 h3
 have T0 : Hid (Dr.Tick b a cv w (w.alloc (.cells #[] 40))) := (Dr.Tick.start h).ext ((Ext.refl _).alloc _)
 have M0 : Hid (Dr.MRow w.heap.size (w.alloc (.cells #[] 40)) (.slice (some ⟨w.heap.size, 0, none⟩) 0 0) []) := ⟨World.ownsRow_made w #[] 0 (Nat.le_refl _) (by unfold maxLen; omega) rfl, fun p hp => (by cases hp), fun p hp => by cases hp⟩
 clear h
 go_enter Tryz.func178, Tryz.ntmps178
 go_wp2_with fail
 refine (NX.out a 16 _ T0.out.1 (by omega) (by omega) (by omega)).mono ?_
 rintro e w1 ⟨r, rfl, hr0, hr1, ht⟩
 have T1 : Hid (Dr.Tick b (a + 1) cv w w1) := T0.out.trans ht
 have M1 : Hid (Dr.MRow w.heap.size w1 (.slice (some ⟨w.heap.size, 0, none⟩) 0 0) []) := M0.out.kp ht.2.2 hb
 clear ht T0 M0
 obtain ⟨R, rfl⟩ := Int.eq_ofNat_of_zero_le hr0
 have hR : R ≤ 15 := by omega
 go_wp2
 go_loopw [3, 4] (fun ov i wr => ∃ (k : Nat) (ps : List (Ms × Value × Value)) (a4 : Nat), k ≤ R ∧ i = .int .i64 (k : Int) ∧ ps.length + k ≤ R ∧ a4 ≤ a + 1 + 25 * (R - k) ∧ Hid (Dr.MRow w.heap.size wr ov ps) ∧ Hid (Dr.Tick b a4 cv w wr)) (fun _ i _ => (intOf i).toNat)
 case atStart => exact ⟨R, [], a + 1, Nat.le_refl _, rfl, by simp, by omega, M1, T1⟩
 case round =>
  obtain ⟨k, ps, a4, hk, rfl, hpl, ha4, HM, HT⟩ := hrel
  obtain ⟨ad, cp, rfl⟩ := Led.owns_form HM.out.1
  by_cases hk0 : 0 < k
  ·have hk1 : (0 : Int) < (k : Int) := by omega
   have hpl2 : (ps.length : Int) ≤ 20 := by omega
   have hwk : IntKind.i64.wrap ((k : Int) - 1) = ((k - 1 : Nat) : Int) := by rw [IntKind.wrap_i64]; omega
   go_wp2_with fail
   refine (DR.out a4 _ _ HT.out.1 (by omega) hpl2 (by omega)).mono ?_
   rintro e w2 ⟨m, v, u, rfl, hG, hcl⟩
   obtain ⟨av, cpv, rfl⟩ := Led.owns_form hG.1
   obtain ⟨au, cpu, rfl⟩ := Led.owns_form hG.2.1
   obtain ⟨a5, ha5, htk⟩ := hG.2.2.2.2
   have HT2 : Hid (Dr.Tick b a5 cv w w2) := HT.out.trans htk
   have HM2 : Hid (Dr.MRow w.heap.size w2 (.slice ad ps.length cp) ps) := HM.out.kp htk.2.2 hb
   have hsz : w.heap.size ≤ w2.heap.size := HT2.out.2.2.1
   have HC : Hid (w2.ownsRow w.heap.size 57 3 (.slice av m.certs.length cpv) m.certs.length (cellsCt m.certs) ∧ w2.ownsRow w.heap.size 2 1 (.slice au m.refs.length cpu) m.refs.length (m.refs.map (Value.int .i64))) := ⟨Dr.own_base hG.1 (by have := HT.out.2.2.1; omega), Dr.own_base hG.2.1 (by have := HT.out.2.2.1; omega)⟩
   have HL : Hid (MLs w2 (.slice av m.certs.length cpv) (.slice au m.refs.length cpu) m) := hG.lists
   have HSm : Hid (SmallM m) := ⟨by have := hG.2.2.1; omega, by have := hG.2.2.2.1; omega⟩
   clear hG htk HM HT hcl
   unfold magg
   have HA : Hid (MAt (w2.alloc (.cells #[.int .i64 m.kind, .int .i64 m.view, .int .i64 m.from_, .int .i64 m.slot, .int .i64 m.value, .slice av m.certs.length cpv, .slice au m.refs.length cpu] 40)) w2.heap.size 0 m) := ⟨_, _, (mbox_new w2 m _ _ _).cs, HL.out.ext ((Ext.refl _).alloc _)⟩
   have HS : Hid (MSlice (w2.alloc (.cells #[.int .i64 m.kind, .int .i64 m.view, .int .i64 m.from_, .int .i64 m.slot, .int .i64 m.value, .slice av m.certs.length cpv, .slice au m.refs.length cpu] 40)) (.slice ad ps.length cp) (ps.map (·.1))) := HM2.out.slice.ext ((Ext.refl _).alloc _)
   go_wp2_with fail
   refine (AT.out _ _ _ _ _ HS.out (by simp) HA.out).mono ?_
   rintro e w3 ⟨rfl, hb3⟩
   have HX : Hid (Ext w2 w3) := ((Ext.refl _).alloc _).trans hb3
   have HB : Hid (MBoxAt w3 w2.heap.size m (.slice av m.certs.length cpv) (.slice au m.refs.length cpu)) := (mbox_new w2 m _ _ _).ext hb3
   have HM3 : Hid (Dr.MRow w.heap.size w3 (.slice ad ps.length cp) ps) := HM2.out.ext HX.out
   have HT3 : Hid (Dr.Tick b a5 cv w w3) := HT2.out.ext HX.out
   have HC3 : Hid (w3.ownsRow w.heap.size 57 3 (.slice av m.certs.length cpv) m.certs.length (cellsCt m.certs) ∧ w3.ownsRow w.heap.size 2 1 (.slice au m.refs.length cpu) m.refs.length (m.refs.map (Value.int .i64))) := ⟨Led.own_ext HC.out.1 HX.out, Led.own_ext HC.out.2 HX.out⟩
   have hsz3 : w.heap.size ≤ w3.heap.size := HT3.out.2.2.1
   clear hb3 HA HS HX HM2 HT2 HC HL
   generalize Msg.place (ps.map (·.1)) m = pl at *
   by_cases hneg : pl < 0
   ·obtain ⟨bl, ⟨c0, c1, c2, c3, c4, c5, c6⟩, -⟩ := HB.out
    go_wp2_with (at_builtin; go_must (refine wpList_append_own _ rfl _ _ 27 rfl w.heap.size 40 ti (.agg #[.int .i64 0, .int .i64 0, .int .i64 0, .int .i64 0, .int .i64 0, .slice none 0 0, .slice none 0 0]) 7 88 Tryz.underlying27 hti hz0 hz1 hz2 rfl (by decide) _ ps.length _ rfl (HM3.out.1.alloc _) ⟨w3.heap.size, 0, none⟩ 1 1 (Dr.cellsP [(m, .slice av m.certs.length cpv, .slice au m.refs.length cpu)]) rfl rfl (Dr.msg_new _ _ _ _ _) (Dr.cellsP_one _ (fun p hp => by rw [List.mem_singleton] at hp; subst hp; exact ⟨rfl, rfl⟩)) (by unfold maxLen; omega) (by omega) (by simp; omega) ?_; intro v6 w6 hown6 hgrow6 hnil6; have HM6 : Hid (Dr.MRow w.heap.size w6 v6 (ps ++ [(m, .slice av m.certs.length cpv, .slice au m.refs.length cpu)])) := HM3.out.push HC3.out.1 HC3.out.2 hown6 hgrow6 HSm.out; have HT6 : Hid (Dr.Tick b a5 cv w w6) := Dr.Tick.grown (HT3.out.ext ((Ext.refl _).alloc _)) hb hgrow6 (fun q hq => (HM3.out.1.lt q hq).1); clear hown6 hgrow6 hnil6))
    exact ⟨⟨k - 1, ps ++ [(m, .slice av m.certs.length cpv, .slice au m.refs.length cpu)], a5, by omega, by first | rfl | rw [hwk], by rw [List.length_append]; simp; omega, by omega, HM6, HT6⟩, by simp [intOf]; omega⟩
   ·go_wp2
    exact ⟨⟨k - 1, ps, a5, by omega, by first | rfl | rw [hwk], by omega, by omega, HM3, HT3⟩, by simp [intOf]; omega⟩
  ·have hke : k = 0 := by omega
   subst hke
   go_wp2
   go_ret
   exact ⟨_, ps, a4, rfl, HM.out, by omega, by omega, HT.out⟩
end Go.Proofs.YtecgjdgfjgcmdaaGreat
namespace Go.Proofs.YtecgjdgfjgcmdaaGreat
open Go.RowKit
theorem Dr.own_set {w : World} {base : Nat} {e : TypeId} {s : Nat} {v : Value} {n : Nat} {xs : List Value} (h : w.ownsRow base e s v n xs) (g o : Nat) (x : Value) (hne : ∀ q, v.ownBlock = some q → q ≠ g) : (w.setCell ⟨g, o, none⟩ x).ownsRow base e s v n xs := by
 refine ⟨h.1, ?_⟩
 rcases h.2 with hn | ⟨q, cap, cur, rfl, hg, hgg, rest⟩
 ·exact .inl hn
 ·exact .inr ⟨q, cap, cur, rfl, hg, (Dr.heap_set w (hne q rfl) o x).trans hgg, rest⟩
theorem Dr.bset0 {w : World} {b : Nat} {m : Ms} {v u : Value} {x : Int} (h : MBoxAt w b m v u) : MBoxAt (w.setCell ⟨b, 0, none⟩ (.int .i64 x)) b { m with kind := x } v u := by
 obtain ⟨hb, ⟨c0, c1, c2, c3, c4, c5, c6⟩, f0, f1, f2, f3, f4, f5, f6⟩ := h
 refine ⟨by simpa using hb, ⟨iset_eq _ _ _ _ ⟨_, c0⟩, ?_, ?_, ?_, ?_, ?_, ?_⟩, by simpa using f0, by simpa using f1, by simpa using f2, by simpa using f3, by simpa using f4, by simpa using f5, by simpa using f6⟩ <;> rw [iset_ne _ _ _ _ _ _ (by omega)] <;> assumption
theorem Dr.bset1 {w : World} {b : Nat} {m : Ms} {v u : Value} {x : Int} (h : MBoxAt w b m v u) : MBoxAt (w.setCell ⟨b, 1, none⟩ (.int .i64 x)) b { m with view := x } v u := by
 obtain ⟨hb, ⟨c0, c1, c2, c3, c4, c5, c6⟩, f0, f1, f2, f3, f4, f5, f6⟩ := h
 refine ⟨by simpa using hb, ⟨?_, iset_eq _ _ _ _ ⟨_, c1⟩, ?_, ?_, ?_, ?_, ?_⟩, by simpa using f0, by simpa using f1, by simpa using f2, by simpa using f3, by simpa using f4, by simpa using f5, by simpa using f6⟩ <;> rw [iset_ne _ _ _ _ _ _ (by omega)] <;> assumption
theorem Dr.bset2 {w : World} {b : Nat} {m : Ms} {v u : Value} {x : Int} (h : MBoxAt w b m v u) : MBoxAt (w.setCell ⟨b, 2, none⟩ (.int .i64 x)) b { m with from_ := x } v u := by
 obtain ⟨hb, ⟨c0, c1, c2, c3, c4, c5, c6⟩, f0, f1, f2, f3, f4, f5, f6⟩ := h
 refine ⟨by simpa using hb, ⟨?_, ?_, iset_eq _ _ _ _ ⟨_, c2⟩, ?_, ?_, ?_, ?_⟩, by simpa using f0, by simpa using f1, by simpa using f2, by simpa using f3, by simpa using f4, by simpa using f5, by simpa using f6⟩ <;> rw [iset_ne _ _ _ _ _ _ (by omega)] <;> assumption
theorem Dr.bset3 {w : World} {b : Nat} {m : Ms} {v u : Value} {x : Int} (h : MBoxAt w b m v u) : MBoxAt (w.setCell ⟨b, 3, none⟩ (.int .i64 x)) b { m with slot := x } v u := by
 obtain ⟨hb, ⟨c0, c1, c2, c3, c4, c5, c6⟩, f0, f1, f2, f3, f4, f5, f6⟩ := h
 refine ⟨by simpa using hb, ⟨?_, ?_, ?_, iset_eq _ _ _ _ ⟨_, c3⟩, ?_, ?_, ?_⟩, by simpa using f0, by simpa using f1, by simpa using f2, by simpa using f3, by simpa using f4, by simpa using f5, by simpa using f6⟩ <;> rw [iset_ne _ _ _ _ _ _ (by omega)] <;> assumption
theorem Dr.bset4 {w : World} {b : Nat} {m : Ms} {v u : Value} {x : Int} (h : MBoxAt w b m v u) : MBoxAt (w.setCell ⟨b, 4, none⟩ (.int .i64 x)) b { m with value := x } v u := by
 obtain ⟨hb, ⟨c0, c1, c2, c3, c4, c5, c6⟩, f0, f1, f2, f3, f4, f5, f6⟩ := h
 refine ⟨by simpa using hb, ⟨?_, ?_, ?_, ?_, iset_eq _ _ _ _ ⟨_, c4⟩, ?_, ?_⟩, by simpa using f0, by simpa using f1, by simpa using f2, by simpa using f3, by simpa using f4, by simpa using f5, by simpa using f6⟩ <;> rw [iset_ne _ _ _ _ _ _ (by omega)] <;> assumption
/-- How a bent draw stands: the message's box is newer than its lists. -/
def Dr.Sb (w : World) (b : Nat) (cv : Value) (W : World) (B a : Nat) (m : Ms) (v u : Value) : Prop :=
 MBoxAt W w.heap.size ⟨0, 0, 0, 0, 0, [], []⟩ (.slice none 0 0) (.slice none 0 0) ∧ MBoxAt W B m v u ∧ w.heap.size < B ∧ W.ownsRow (w.heap.size + 1) 57 3 v m.certs.length (cellsCt m.certs) ∧ W.ownsRow (w.heap.size + 1) 2 1 u m.refs.length (m.refs.map (Value.int .i64)) ∧ (∀ q, v.ownBlock = some q → q ≠ B) ∧ (∀ q, u.ownBlock = some q → q ≠ B) ∧ Dr.Tick b a cv w W
theorem Dr.Sb.tick {w : World} {b : Nat} {cv : Value} {W W' : World} {B a a2 : Nat} {m : Ms} {v u : Value} (h : Dr.Sb w b cv W B a m v u) (hb : b < w.heap.size) (ht : Dr.Tick b a2 cv W W') : Dr.Sb w b cv W' B a2 m v u := by
 obtain ⟨h1, h2, h3, h4, h5, h6, h7, h8⟩ := h
 exact ⟨ht.2.2.box h1 (by omega), ht.2.2.box h2 (by omega), h3, ht.2.2.own h4 (by omega), ht.2.2.own h5 (by omega), h6, h7, h8.trans ht⟩
theorem Dr.Sb.set0 {w : World} {b : Nat} {cv : Value} {W : World} {B a : Nat} {m : Ms} {v u : Value} (h : Dr.Sb w b cv W B a m v u) (hb : b < w.heap.size) (x : Int) : Dr.Sb w b cv (W.setCell ⟨B, 0, none⟩ (.int .i64 x)) B a { m with kind := x } v u := by
 obtain ⟨h1, h2, h3, h4, h5, h6, h7, h8⟩ := h
 exact ⟨h1.set_ne (by omega), Dr.bset0 h2, h3, Dr.own_set h4 _ _ _ h6, Dr.own_set h5 _ _ _ h7, h6, h7, h8.set hb _ _ (by omega) _⟩
theorem Dr.Sb.set1 {w : World} {b : Nat} {cv : Value} {W : World} {B a : Nat} {m : Ms} {v u : Value} (h : Dr.Sb w b cv W B a m v u) (hb : b < w.heap.size) (x : Int) : Dr.Sb w b cv (W.setCell ⟨B, 1, none⟩ (.int .i64 x)) B a { m with view := x } v u := by
 obtain ⟨h1, h2, h3, h4, h5, h6, h7, h8⟩ := h
 exact ⟨h1.set_ne (by omega), Dr.bset1 h2, h3, Dr.own_set h4 _ _ _ h6, Dr.own_set h5 _ _ _ h7, h6, h7, h8.set hb _ _ (by omega) _⟩
theorem Dr.Sb.set2 {w : World} {b : Nat} {cv : Value} {W : World} {B a : Nat} {m : Ms} {v u : Value} (h : Dr.Sb w b cv W B a m v u) (hb : b < w.heap.size) (x : Int) : Dr.Sb w b cv (W.setCell ⟨B, 2, none⟩ (.int .i64 x)) B a { m with from_ := x } v u := by
 obtain ⟨h1, h2, h3, h4, h5, h6, h7, h8⟩ := h
 exact ⟨h1.set_ne (by omega), Dr.bset2 h2, h3, Dr.own_set h4 _ _ _ h6, Dr.own_set h5 _ _ _ h7, h6, h7, h8.set hb _ _ (by omega) _⟩
theorem Dr.Sb.set3 {w : World} {b : Nat} {cv : Value} {W : World} {B a : Nat} {m : Ms} {v u : Value} (h : Dr.Sb w b cv W B a m v u) (hb : b < w.heap.size) (x : Int) : Dr.Sb w b cv (W.setCell ⟨B, 3, none⟩ (.int .i64 x)) B a { m with slot := x } v u := by
 obtain ⟨h1, h2, h3, h4, h5, h6, h7, h8⟩ := h
 exact ⟨h1.set_ne (by omega), Dr.bset3 h2, h3, Dr.own_set h4 _ _ _ h6, Dr.own_set h5 _ _ _ h7, h6, h7, h8.set hb _ _ (by omega) _⟩
theorem Dr.Sb.set4 {w : World} {b : Nat} {cv : Value} {W : World} {B a : Nat} {m : Ms} {v u : Value} (h : Dr.Sb w b cv W B a m v u) (hb : b < w.heap.size) (x : Int) : Dr.Sb w b cv (W.setCell ⟨B, 4, none⟩ (.int .i64 x)) B a { m with value := x } v u := by
 obtain ⟨h1, h2, h3, h4, h5, h6, h7, h8⟩ := h
 exact ⟨h1.set_ne (by omega), Dr.bset4 h2, h3, Dr.own_set h4 _ _ _ h6, Dr.own_set h5 _ _ _ h7, h6, h7, h8.set hb _ _ (by omega) _⟩
theorem Dr.Sb.got {w : World} {b : Nat} {cv : Value} {W : World} {B a k : Nat} {m : Ms} {v u : Value} (h : Dr.Sb w b cv W B a m v u) (hb : b < w.heap.size) (hk : a ≤ k) (h1 : m.certs.length ≤ 5) (h2 : m.refs.length ≤ 4) : Dr.Got (w.heap.size + 1) w b k cv m v u (Dr.put7 W w.heap.size m v u) := by
 obtain ⟨-, -, h3, h4, h5, -, -, h6⟩ := h
 exact Dr.Got.put7 ⟨h4, h5, h1, h2, a, hk, h6⟩ hb _ (Nat.le_refl _) (by omega)
theorem Dr.Sb.first {w w1 : World} {b a k : Nat} {cv : Value} {m : Ms} {v u : Value} (h : SrcAt w b a cv) (hG : Dr.Got ((w.alloc (.cells #[.int .i64 0, .int .i64 0, .int .i64 0, .int .i64 0, .int .i64 0, .slice none 0 0, .slice none 0 0] 40)).heap.size + 1) (w.alloc (.cells #[.int .i64 0, .int .i64 0, .int .i64 0, .int .i64 0, .int .i64 0, .slice none 0 0, .slice none 0 0] 40)) b k cv m v u w1) :
  ∃ a', a' ≤ k ∧ Dr.Sb w b cv (w1.alloc (.cells #[.int .i64 m.kind, .int .i64 m.view, .int .i64 m.from_, .int .i64 m.slot, .int .i64 m.value, v, u] 40)) w1.heap.size a' m v u := by
 have hlt := h.lt
 obtain ⟨h1, h2, -, -, a', ha, ht⟩ := hG
 have q1 := ht.2.2.box (mbox_new w ⟨0, 0, 0, 0, 0, [], []⟩ (.slice none 0 0) (.slice none 0 0) 40) (by omega)
 refine ⟨a', ha, q1.ext ((Ext.refl _).alloc _), mbox_new w1 m v u _, q1.1, Dr.own_base (h1.alloc _) (by simp), Dr.own_base (h2.alloc _) (by simp), fun q hq => Nat.ne_of_lt (h1.lt q hq).2, fun q hq => Nat.ne_of_lt (h2.lt q hq).2, ?_⟩
 exact (((Dr.Tick.start h).ext ((Ext.refl _).alloc _)).trans ht).ext ((Ext.refl _).alloc _)
theorem Dr.cell_block {w w' : World} {c : Nat} (h : w'.heap[c]? = w.heap[c]?) (o : Nat) : w'.cell? ⟨c, o, none⟩ = w.cell? ⟨c, o, none⟩ ∧ w'.frozen? ⟨c, o, none⟩ = w.frozen? ⟨c, o, none⟩ := by
 unfold World.cell? World.frozen?
 simp only [h, and_self]
theorem Dr.res_of {W : World} {B R : Nat} {x : Value} {m : Ms} {v u : Value} (h : MBoxAt (W.setCell ⟨B, 5, none⟩ x) R m v u) (hRB : R < B) : MBoxAt W R m v u := by
 obtain ⟨hb, ⟨c0, c1, c2, c3, c4, c5, c6⟩, f0, f1, f2, f3, f4, f5, f6⟩ := h
 have hc := fun k => (iset_ne W B 5 R k x (Or.inl (Nat.ne_of_gt hRB)))
 exact ⟨by simpa using hb, ⟨(hc _).symm.trans c0, (hc _).symm.trans c1, (hc _).symm.trans c2, (hc _).symm.trans c3, (hc _).symm.trans c4, (hc _).symm.trans c5, (hc _).symm.trans c6⟩, by simpa using f0, by simpa using f1, by simpa using f2, by simpa using f3, by simpa using f4, by simpa using f5, by simpa using f6⟩
theorem Dr.Sb.certs {w : World} {b : Nat} {cv : Value} {W W2 : World} {B a : Nat} {m : Ms} {v u v6 : Value} {o : Obj} {z : Ct} (h : Dr.Sb w b cv W B a m v u) (hb : b < w.heap.size) (ho : W2.ownsRow (w.heap.size + 1) 57 3 v6 (m.certs.length + 1) (cellsCt m.certs ++ cellsCt [z])) (hg : (W.alloc o).grownBy W2 v.ownBlock) (hat : v6.ownBlock = v.ownBlock ∨ v6.ownBlock = some (W.alloc o).heap.size) :
  MBoxAt W2 B m v u ∧ Dr.Sb w b cv (W2.setCell ⟨B, 5, none⟩ v6) B a { m with certs := m.certs ++ [z] } v6 u := by
 obtain ⟨h1, h2, h3, h4, h5, h6, h7, h8⟩ := h
 have hv := h4.lt
 have hB2 := h2.1
 have kp : ∀ {x : Nat} {m : Ms} {v' u' : Value}, MBoxAt W x m v' u' → (∀ q, v.ownBlock = some q → q ≠ x) → MBoxAt W2 x m v' u' := fun {x m v' u'} hx hne => by
  have hx' := hx.ext ((Ext.refl W).alloc o)
  obtain ⟨hb, ⟨c0, c1, c2, c3, c4, c5, c6⟩, f0, f1, f2, f3, f4, f5, f6⟩ := hx'
  have hbl := hg.block x hb (fun e => hne x e.symm rfl)
  have hc := fun k => (Dr.cell_block hbl k).1
  have hf := fun k => (Dr.cell_block hbl k).2
  exact ⟨Nat.lt_of_lt_of_le hb hg.size, ⟨(hc _).trans c0, (hc _).trans c1, (hc _).trans c2, (hc _).trans c3, (hc _).trans c4, (hc _).trans c5, (hc _).trans c6⟩, (hf _).trans f0, (hf _).trans f1, (hf _).trans f2, (hf _).trans f3, (hf _).trans f4, (hf _).trans f5, (hf _).trans f6⟩
 have e1 := kp h1 (fun q hq => by have := (hv q hq).1; omega)
 have e2 := kp h2 h6
 have h6' : ∀ q, v6.ownBlock = some q → q ≠ B := fun q hq => by
  rcases hat with h | h
  ·exact h6 q (h.symm.trans hq)
  ·rw [h] at hq
   cases hq
   simp
   omega
 refine ⟨e2, e1.set_ne (by omega), e2.set5, h3, ?_, ?_, h6', h7, ?_⟩
 ·rw [List.length_append]
  rw [show cellsCt (m.certs ++ [z]) = cellsCt m.certs ++ cellsCt [z] from by simp [cellsCt]]
  exact Dr.own_set ho _ _ _ h6'
 ·exact Dr.own_set (Dr.own_grown (h5.alloc _) hg (Dr.own_ne h4 h5 Dr.ne_types)) _ _ _ h7
 ·exact (Dr.Tick.grown (h8.ext ((Ext.refl _).alloc _)) hb hg (fun q hq => by have := (hv q hq).1; omega)).set hb _ _ (by omega) _

set_option maxHeartbeats 8000000 in
set_option maxRecDepth 100000 in
theorem l8Bent_any (b a : Nat) (cv : Value) (w : World) (h : SrcAt w b a cv) (ha : a ≤ 900) :
  Calls Tryz.prog 179 #[.pointer (some ⟨b, 0, none⟩)] w fun e w' => ∃ m v u, e = .returned (magg m v u) ∧ Dr.Got (w.heap.size + 1) w b (a + 30) cv m v u w' := by
 have hi9 : (Tryz.prog.info? 57).map (fun i => (i.zero, i.size, i.bytes)) = some (some (.agg #[.int .i64 0, .int .i64 0, .int .i64 0]), 3, 24) := by kernel_rfl
 obtain ⟨ti, hti, hxx⟩ := Option.map_eq_some_iff.1 hi9
 simp only [Prod.mk.injEq] at hxx
 obtain ⟨hz0, hz1, hz2⟩ := hxx
 clear hi9
 have hb := h.lt
 have HS0 : Hid (SrcAt w b a cv) := h
 have NX : Hid (∀ (a' : Nat) (k : Int) (wx : World), SrcAt wx b a' cv → 1 ≤ k → k ≤ 200 → a' ≤ 1000 → Calls Tryz.prog 82 #[.pointer (some ⟨b, 0, none⟩), .int .i64 k] wx fun e w' => ∃ r : Int, e = .returned (.int .i64 r) ∧ 0 ≤ r ∧ r < k ∧ Dr.Tick b (a' + 1) cv wx w') := fun a' k wx h1 h2 h3 h4 => Dr.next b a' cv k wx h1 h2 h3 h4
 have DR : Hid (∀ (a' : Nat) (k : Int) (wx : World), SrcAt wx b a' cv → 0 ≤ k → k ≤ 20 → a' ≤ 900 → Calls Tryz.prog 187 #[.pointer (some ⟨b, 0, none⟩), .int .i64 k] wx fun e w' => ∃ m v u, e = .returned (magg m v u) ∧ Dr.Got (wx.heap.size + 1) wx b (a' + 25) cv m v u w' ∧ m.certs.length ≤ 4) := fun a' k wx h1 h2 h3 h4 => l8Draw_any b a' cv k wx h1 h2 h3 h4
 have PK0 : Hid (∀ (a' g : Nat) (wx : World), g = wx.heap.size → SrcAt wx b a' cv → a' ≤ 1000 → Calls Tryz.prog 73 #[.pointer (some ⟨b, 0, none⟩), .slice (some ⟨g, 0, none⟩) 4 4] (wx.alloc (.cells #[.int .i64 0, .int .i64 1, .int .i64 4, .int .i64 6] 2)) fun e w' => ∃ x : Int, e = .returned (.int .i64 x) ∧ Dr.Tick b (a' + 1) cv wx w') := fun a' g wx hg h1 h2 => by subst hg; exact Dr.pick b a' cv [0, 1, 4, 6] wx 2 h1 (by decide) (by decide) h2
 have PK1 : Hid (∀ (a' g : Nat) (wx : World), g = wx.heap.size → SrcAt wx b a' cv → a' ≤ 1000 → Calls Tryz.prog 73 #[.pointer (some ⟨b, 0, none⟩), .slice (some ⟨g, 0, none⟩) 3 3] (wx.alloc (.cells #[.int .i64 (-1), .int .i64 20, .int .i64 21] 2)) fun e w' => ∃ x : Int, e = .returned (.int .i64 x) ∧ Dr.Tick b (a' + 1) cv wx w') := fun a' g wx hg h1 h2 => by subst hg; exact Dr.pick b a' cv [-1, 20, 21] wx 2 h1 (by decide) (by decide) h2
 have PK2 : Hid (∀ (a' g : Nat) (wx : World), g = wx.heap.size → SrcAt wx b a' cv → a' ≤ 1000 → Calls Tryz.prog 73 #[.pointer (some ⟨b, 0, none⟩), .slice (some ⟨g, 0, none⟩) 4 4] (wx.alloc (.cells #[.int .i64 0, .int .i64 4, .int .i64 7, .int .i64 8] 2)) fun e w' => ∃ x : Int, e = .returned (.int .i64 x) ∧ Dr.Tick b (a' + 1) cv wx w') := fun a' g wx hg h1 h2 => by subst hg; exact Dr.pick b a' cv [0, 4, 7, 8] wx 2 h1 (by decide) (by decide) h2
 have PK3 : Hid (∀ (a' g : Nat) (wx : World), g = wx.heap.size → SrcAt wx b a' cv → a' ≤ 1000 → Calls Tryz.prog 73 #[.pointer (some ⟨b, 0, none⟩), .slice (some ⟨g, 0, none⟩) 3 3] (wx.alloc (.cells #[.int .i64 0, .int .i64 30, .int .i64 31] 2)) fun e w' => ∃ x : Int, e = .returned (.int .i64 x) ∧ Dr.Tick b (a' + 1) cv wx w') := fun a' g wx hg h1 h2 => by subst hg; exact Dr.pick b a' cv [0, 30, 31] wx 2 h1 (by decide) (by decide) h2
 have PK4 : Hid (∀ (a' g : Nat) (wx : World), g = wx.heap.size → SrcAt wx b a' cv → a' ≤ 1000 → Calls Tryz.prog 73 #[.pointer (some ⟨b, 0, none⟩), .slice (some ⟨g, 0, none⟩) 3 3] (wx.alloc (.cells #[.int .i64 (-1), .int .i64 12, .int .i64 13] 2)) fun e w' => ∃ x : Int, e = .returned (.int .i64 x) ∧ Dr.Tick b (a' + 1) cv wx w') := fun a' g wx hg h1 h2 => by subst hg; exact Dr.pick b a' cv [-1, 12, 13] wx 2 h1 (by decide) (by decide) h2
 clear h
 go_enter Tryz.func179, Tryz.ntmps179
 go_wp2_with fail
 refine (DR.out a 6 _ (HS0.out.alloc _) (by omega) (by omega) (by omega)).mono ?_
 rintro e w1 ⟨m, v, u, rfl, hG, hcl4⟩
 obtain ⟨av, cpv, rfl⟩ := Led.owns_form hG.1
 obtain ⟨au, cpu, rfl⟩ := Led.owns_form hG.2.1
 have hcl := hG.2.2.1
 have hrl := hG.2.2.2.1
 obtain ⟨a1, ha1, hSb⟩ := Dr.Sb.first HS0.out hG
 have SB : Hid _ := hSb
 clear hG hSb HS0 DR
 unfold magg
 obtain ⟨W0, hW0⟩ : ∃ W0, W0 = w1.alloc (.cells #[.int .i64 m.kind, .int .i64 m.view, .int .i64 m.from_, .int .i64 m.slot, .int .i64 m.value, (.slice av m.certs.length cpv), (.slice au m.refs.length cpu)] 40) := ⟨_, rfl⟩
 have S1 : Hid (Dr.Sb w b cv W0 w1.heap.size a1 m (.slice av m.certs.length cpv) (.slice au m.refs.length cpu)) := by rw [hW0]; exact SB.out
 clear SB
 go_wp2_with fail
 rw [← hW0]
 generalize w1.heap.size = B at *
 clear hW0
 refine (NX.out a1 12 _ S1.out.2.2.2.2.2.2.2.1 (by omega) (by omega) (by omega)).mono ?_
 rintro e w2 ⟨r, rfl, hr0, hr1, ht⟩
 have S2 : Hid (Dr.Sb w b cv w2 B (a1 + 1) m (.slice av m.certs.length cpv) (.slice au m.refs.length cpu)) := S1.out.tick hb ht
 clear ht S1 NX
 by_cases h0 : r = 0
 ·have g0 : (r == 0) = true := by simpa using h0
  clear h0
  go_wp2_with fail
  refine (PK0.out (a1 + 1) _ _ rfl S2.out.2.2.2.2.2.2.2.1 (by omega)).mono ?_
  rintro e w3 ⟨x, rfl, ht⟩
  have S30 : Hid (Dr.Sb w b cv w3 B (a1 + 1 + 1) m (.slice av m.certs.length cpv) (.slice au m.refs.length cpu)) := S2.out.tick hb ht
  have S3 : Hid (Dr.Sb w b cv (w3.setCell ⟨B, 0, none⟩ (.int .i64 x)) B (a1 + 1 + 1) ⟨x, m.view, m.from_, m.slot, m.value, m.certs, m.refs⟩ (.slice av m.certs.length cpv) (.slice au m.refs.length cpu)) := S30.out.set0 hb x
  clear ht S2 PK0 PK1 PK2 PK3 PK4
  have GT : Hid (Dr.Got (w.heap.size + 1) w b (a + 30) cv ⟨x, m.view, m.from_, m.slot, m.value, m.certs, m.refs⟩ (.slice av m.certs.length cpv) (.slice au m.refs.length cpu) (Dr.put7 (w3.setCell ⟨B, 0, none⟩ (.int .i64 x)) w.heap.size ⟨x, m.view, m.from_, m.slot, m.value, m.certs, m.refs⟩ (.slice av m.certs.length cpv) (.slice au m.refs.length cpu))) := S3.out.got hb (by omega) hcl hrl
  obtain ⟨⟨rl, ⟨R0, R1, R2, R3, R4, R5, R6⟩, F0, F1, F2, F3, F4, F5, F6⟩, ⟨bl, ⟨c0, c1, c2, c3, c4, c5, c6⟩, f0, f1, f2, f3, f4, f5, f6⟩, hRB, -⟩ := S30.out
  have hne : w.heap.size ≠ B := Nat.ne_of_lt hRB
  go_wp2
  exact bodyPost_ret (v := magg ⟨x, m.view, m.from_, m.slot, m.value, m.certs, m.refs⟩ (.slice av m.certs.length cpv) (.slice au m.refs.length cpu)) (by simp [results, Tryz.results179, go_sem, magg, *]) rfl ⟨_, _, _, rfl, GT.out⟩
 have g0 : (r == 0) = false := by simpa using h0
 by_cases h1 : r = 1
 ·have g1 : (r == 1) = true := by simpa using h1
  clear h1
  go_wp2_with fail
  refine (PK1.out (a1 + 1) _ _ rfl S2.out.2.2.2.2.2.2.2.1 (by omega)).mono ?_
  rintro e w3 ⟨x, rfl, ht⟩
  have S30 : Hid (Dr.Sb w b cv w3 B (a1 + 1 + 1) m (.slice av m.certs.length cpv) (.slice au m.refs.length cpu)) := S2.out.tick hb ht
  have S3 : Hid (Dr.Sb w b cv (w3.setCell ⟨B, 1, none⟩ (.int .i64 x)) B (a1 + 1 + 1) ⟨m.kind, x, m.from_, m.slot, m.value, m.certs, m.refs⟩ (.slice av m.certs.length cpv) (.slice au m.refs.length cpu)) := S30.out.set1 hb x
  clear ht S2 PK0 PK1 PK2 PK3 PK4
  have GT : Hid (Dr.Got (w.heap.size + 1) w b (a + 30) cv ⟨m.kind, x, m.from_, m.slot, m.value, m.certs, m.refs⟩ (.slice av m.certs.length cpv) (.slice au m.refs.length cpu) (Dr.put7 (w3.setCell ⟨B, 1, none⟩ (.int .i64 x)) w.heap.size ⟨m.kind, x, m.from_, m.slot, m.value, m.certs, m.refs⟩ (.slice av m.certs.length cpv) (.slice au m.refs.length cpu))) := S3.out.got hb (by omega) hcl hrl
  obtain ⟨⟨rl, ⟨R0, R1, R2, R3, R4, R5, R6⟩, F0, F1, F2, F3, F4, F5, F6⟩, ⟨bl, ⟨c0, c1, c2, c3, c4, c5, c6⟩, f0, f1, f2, f3, f4, f5, f6⟩, hRB, -⟩ := S30.out
  have hne : w.heap.size ≠ B := Nat.ne_of_lt hRB
  go_wp2
  exact bodyPost_ret (v := magg ⟨m.kind, x, m.from_, m.slot, m.value, m.certs, m.refs⟩ (.slice av m.certs.length cpv) (.slice au m.refs.length cpu)) (by simp [results, Tryz.results179, go_sem, magg, *]) rfl ⟨_, _, _, rfl, GT.out⟩
 have g1 : (r == 1) = false := by simpa using h1
 by_cases h2 : r = 2
 ·have g2 : (r == 2) = true := by simpa using h2
  clear h2
  go_wp2_with fail
  refine (PK2.out (a1 + 1) _ _ rfl S2.out.2.2.2.2.2.2.2.1 (by omega)).mono ?_
  rintro e w3 ⟨x, rfl, ht⟩
  have S30 : Hid (Dr.Sb w b cv w3 B (a1 + 1 + 1) m (.slice av m.certs.length cpv) (.slice au m.refs.length cpu)) := S2.out.tick hb ht
  have S3 : Hid (Dr.Sb w b cv (w3.setCell ⟨B, 2, none⟩ (.int .i64 x)) B (a1 + 1 + 1) ⟨m.kind, m.view, x, m.slot, m.value, m.certs, m.refs⟩ (.slice av m.certs.length cpv) (.slice au m.refs.length cpu)) := S30.out.set2 hb x
  clear ht S2 PK0 PK1 PK2 PK3 PK4
  have GT : Hid (Dr.Got (w.heap.size + 1) w b (a + 30) cv ⟨m.kind, m.view, x, m.slot, m.value, m.certs, m.refs⟩ (.slice av m.certs.length cpv) (.slice au m.refs.length cpu) (Dr.put7 (w3.setCell ⟨B, 2, none⟩ (.int .i64 x)) w.heap.size ⟨m.kind, m.view, x, m.slot, m.value, m.certs, m.refs⟩ (.slice av m.certs.length cpv) (.slice au m.refs.length cpu))) := S3.out.got hb (by omega) hcl hrl
  obtain ⟨⟨rl, ⟨R0, R1, R2, R3, R4, R5, R6⟩, F0, F1, F2, F3, F4, F5, F6⟩, ⟨bl, ⟨c0, c1, c2, c3, c4, c5, c6⟩, f0, f1, f2, f3, f4, f5, f6⟩, hRB, -⟩ := S30.out
  have hne : w.heap.size ≠ B := Nat.ne_of_lt hRB
  go_wp2
  exact bodyPost_ret (v := magg ⟨m.kind, m.view, x, m.slot, m.value, m.certs, m.refs⟩ (.slice av m.certs.length cpv) (.slice au m.refs.length cpu)) (by simp [results, Tryz.results179, go_sem, magg, *]) rfl ⟨_, _, _, rfl, GT.out⟩
 have g2 : (r == 2) = false := by simpa using h2
 by_cases h3 : r = 3
 ·have g3 : (r == 3) = true := by simpa using h3
  clear h3
  go_wp2_with fail
  refine (PK3.out (a1 + 1) _ _ rfl S2.out.2.2.2.2.2.2.2.1 (by omega)).mono ?_
  rintro e w3 ⟨x, rfl, ht⟩
  have S30 : Hid (Dr.Sb w b cv w3 B (a1 + 1 + 1) m (.slice av m.certs.length cpv) (.slice au m.refs.length cpu)) := S2.out.tick hb ht
  have S3 : Hid (Dr.Sb w b cv (w3.setCell ⟨B, 3, none⟩ (.int .i64 x)) B (a1 + 1 + 1) ⟨m.kind, m.view, m.from_, x, m.value, m.certs, m.refs⟩ (.slice av m.certs.length cpv) (.slice au m.refs.length cpu)) := S30.out.set3 hb x
  clear ht S2 PK0 PK1 PK2 PK3 PK4
  have GT : Hid (Dr.Got (w.heap.size + 1) w b (a + 30) cv ⟨m.kind, m.view, m.from_, x, m.value, m.certs, m.refs⟩ (.slice av m.certs.length cpv) (.slice au m.refs.length cpu) (Dr.put7 (w3.setCell ⟨B, 3, none⟩ (.int .i64 x)) w.heap.size ⟨m.kind, m.view, m.from_, x, m.value, m.certs, m.refs⟩ (.slice av m.certs.length cpv) (.slice au m.refs.length cpu))) := S3.out.got hb (by omega) hcl hrl
  obtain ⟨⟨rl, ⟨R0, R1, R2, R3, R4, R5, R6⟩, F0, F1, F2, F3, F4, F5, F6⟩, ⟨bl, ⟨c0, c1, c2, c3, c4, c5, c6⟩, f0, f1, f2, f3, f4, f5, f6⟩, hRB, -⟩ := S30.out
  have hne : w.heap.size ≠ B := Nat.ne_of_lt hRB
  go_wp2
  exact bodyPost_ret (v := magg ⟨m.kind, m.view, m.from_, x, m.value, m.certs, m.refs⟩ (.slice av m.certs.length cpv) (.slice au m.refs.length cpu)) (by simp [results, Tryz.results179, go_sem, magg, *]) rfl ⟨_, _, _, rfl, GT.out⟩
 have g3 : (r == 3) = false := by simpa using h3
 by_cases h4 : r = 4
 ·have g4 : (r == 4) = true := by simpa using h4
  clear h4
  go_wp2_with fail
  refine (PK4.out (a1 + 1) _ _ rfl S2.out.2.2.2.2.2.2.2.1 (by omega)).mono ?_
  rintro e w3 ⟨x, rfl, ht⟩
  have S30 : Hid (Dr.Sb w b cv w3 B (a1 + 1 + 1) m (.slice av m.certs.length cpv) (.slice au m.refs.length cpu)) := S2.out.tick hb ht
  have S3 : Hid (Dr.Sb w b cv (w3.setCell ⟨B, 4, none⟩ (.int .i64 x)) B (a1 + 1 + 1) ⟨m.kind, m.view, m.from_, m.slot, x, m.certs, m.refs⟩ (.slice av m.certs.length cpv) (.slice au m.refs.length cpu)) := S30.out.set4 hb x
  clear ht S2 PK0 PK1 PK2 PK3 PK4
  have GT : Hid (Dr.Got (w.heap.size + 1) w b (a + 30) cv ⟨m.kind, m.view, m.from_, m.slot, x, m.certs, m.refs⟩ (.slice av m.certs.length cpv) (.slice au m.refs.length cpu) (Dr.put7 (w3.setCell ⟨B, 4, none⟩ (.int .i64 x)) w.heap.size ⟨m.kind, m.view, m.from_, m.slot, x, m.certs, m.refs⟩ (.slice av m.certs.length cpv) (.slice au m.refs.length cpu))) := S3.out.got hb (by omega) hcl hrl
  obtain ⟨⟨rl, ⟨R0, R1, R2, R3, R4, R5, R6⟩, F0, F1, F2, F3, F4, F5, F6⟩, ⟨bl, ⟨c0, c1, c2, c3, c4, c5, c6⟩, f0, f1, f2, f3, f4, f5, f6⟩, hRB, -⟩ := S30.out
  have hne : w.heap.size ≠ B := Nat.ne_of_lt hRB
  go_wp2
  exact bodyPost_ret (v := magg ⟨m.kind, m.view, m.from_, m.slot, x, m.certs, m.refs⟩ (.slice av m.certs.length cpv) (.slice au m.refs.length cpu)) (by simp [results, Tryz.results179, go_sem, magg, *]) rfl ⟨_, _, _, rfl, GT.out⟩
 have g4 : (r == 4) = false := by simpa using h4
 by_cases h5 : r = 5
 ·have g5 : (r == 5) = true := by simpa using h5
  clear h5 PK0 PK1 PK2 PK3 PK4
  obtain ⟨bl, ⟨-, -, -, -, -, c5, -⟩, -⟩ := S2.out.2.1
  have hO : Hid (w2.ownsRow (w.heap.size + 1) 57 3 (.slice av m.certs.length cpv) m.certs.length (cellsCt m.certs)) := S2.out.2.2.2.1
  have hRB2 : w.heap.size < B := S2.out.2.2.1
  go_wp2_with (at_builtin; go_must (refine wpList_append_own_at _ rfl _ _ 37 rfl (w.heap.size + 1) 57 ti (.agg #[.int .i64 0, .int .i64 0, .int .i64 0]) 3 24 Tryz.underlying37 hti hz0 hz1 hz2 rfl (by decide) _ m.certs.length _ rfl (hO.out.alloc _) ⟨w2.heap.size, 0, none⟩ 1 1 (cellsCt [⟨1, 0, 1⟩]) rfl rfl (ct_new _ _ _) (cellsCt_one _) (by unfold maxLen; omega) (by omega) (by simp; omega) ?_; intro v6 w6 hown6 hgrow6 hnil6 hat6; have TF : Hid (MBoxAt w6 B m (.slice av m.certs.length cpv) (.slice au m.refs.length cpu) ∧ Dr.Sb w b cv (w6.setCell ⟨B, 5, none⟩ v6) B (a1 + 1) ⟨m.kind, m.view, m.from_, m.slot, m.value, m.certs ++ [⟨1, 0, 1⟩], m.refs⟩ v6 (.slice au m.refs.length cpu)) := S2.out.certs hb hown6 hgrow6 hat6; obtain ⟨ad6, cap6, rfl⟩ := Led.owns_form hown6; have S3 : Hid (Dr.Sb w b cv (w6.setCell ⟨B, 5, none⟩ (.slice ad6 (m.certs.length + 1) cap6)) B (a1 + 1) ⟨m.kind, m.view, m.from_, m.slot, m.value, m.certs ++ [⟨1, 0, 1⟩], m.refs⟩ (.slice ad6 (m.certs.length + 1) cap6) (.slice au m.refs.length cpu)) := TF.out.2; have R6 : Hid (MBoxAt w6 w.heap.size ⟨0, 0, 0, 0, 0, [], []⟩ (.slice none 0 0) (.slice none 0 0)) := Dr.res_of TF.out.2.1 hRB2; have GT : Hid (Dr.Got (w.heap.size + 1) w b (a + 30) cv ⟨m.kind, m.view, m.from_, m.slot, m.value, m.certs ++ [⟨1, 0, 1⟩], m.refs⟩ (.slice ad6 (m.certs.length + 1) cap6) (.slice au m.refs.length cpu) (Dr.put7 (w6.setCell ⟨B, 5, none⟩ (.slice ad6 (m.certs.length + 1) cap6)) w.heap.size ⟨m.kind, m.view, m.from_, m.slot, m.value, m.certs ++ [⟨1, 0, 1⟩], m.refs⟩ (.slice ad6 (m.certs.length + 1) cap6) (.slice au m.refs.length cpu))) := S3.out.got hb (by omega) (by show (m.certs ++ [(⟨1, 0, 1⟩ : Ct)]).length ≤ 5; rw [List.length_append]; simp; omega) hrl; obtain ⟨rl, ⟨R0, R1, R2, R3, R4, R5, R66⟩, F0, F1, F2, F3, F4, F5, F6⟩ := R6.out; obtain ⟨bl6, ⟨c06, c16, c26, c36, c46, c56, c66⟩, f06, f16, f26, f36, f46, f56, f66⟩ := TF.out.1; have hne : w.heap.size ≠ B := Nat.ne_of_lt hRB2; clear hown6 hgrow6 hnil6 hat6 TF R6 S3))
  exact bodyPost_ret (v := magg ⟨m.kind, m.view, m.from_, m.slot, m.value, m.certs ++ [⟨1, 0, 1⟩], m.refs⟩ (.slice ad6 (m.certs.length + 1) cap6) (.slice au m.refs.length cpu)) (by simp [results, Tryz.results179, go_sem, magg, *]) rfl ⟨_, _, _, rfl, GT.out⟩
 ·have g5 : (r == 5) = false := by simpa using h5
  clear h5 PK0 PK1 PK2 PK3 PK4
  have S20 := S2
  have GT : Hid (Dr.Got (w.heap.size + 1) w b (a + 30) cv m (.slice av m.certs.length cpv) (.slice au m.refs.length cpu) (Dr.put7 w2 w.heap.size m (.slice av m.certs.length cpv) (.slice au m.refs.length cpu))) := S2.out.got hb (by omega) hcl hrl
  obtain ⟨⟨rl, ⟨R0, R1, R2, R3, R4, R5, R6⟩, F0, F1, F2, F3, F4, F5, F6⟩, ⟨bl, ⟨c0, c1, c2, c3, c4, c5, c6⟩, f0, f1, f2, f3, f4, f5, f6⟩, hRB, -⟩ := S20.out
  have hne : w.heap.size ≠ B := Nat.ne_of_lt hRB
  go_wp2
  exact bodyPost_ret (v := magg m (.slice av m.certs.length cpv) (.slice au m.refs.length cpu)) (by simp [results, Tryz.results179, go_sem, magg, *]) rfl ⟨_, _, _, rfl, GT.out⟩
end Go.Proofs.YtecgjdgfjgcmdaaGreat
namespace Go.Proofs.YtecgjdgfjgcmdaaGreat
open Go.RowKit
/-- Blocks from base on are as they were. -/
def Dr.Kb (base : Nat) (w w' : World) : Prop := w.heap.size ≤ w'.heap.size ∧ ∀ g, base ≤ g → g < w.heap.size → w'.heap[g]? = w.heap[g]?
theorem Dr.Kb.refl (base : Nat) (w : World) : Dr.Kb base w w := ⟨Nat.le_refl _, fun _ _ _ => rfl⟩
theorem Dr.Kb.trans {base : Nat} {w w1 w2 : World} (h : Dr.Kb base w w1) (h2 : Dr.Kb base w1 w2) : Dr.Kb base w w2 := ⟨Nat.le_trans h.1 h2.1, fun g hb hg => (h2.2 g hb (Nat.lt_of_lt_of_le hg h.1)).trans (h.2 g hb hg)⟩
theorem Dr.Kb.mono {base base' : Nat} {w w' : World} (h : Dr.Kb base w w') (hb : base ≤ base') : Dr.Kb base' w w' := ⟨h.1, fun g h1 h2 => h.2 g (by omega) h2⟩
theorem Dr.Kb.of_kp {b base : Nat} {w w' : World} (h : Dr.Kp b w w') (hb : b < base) : Dr.Kb base w w' := ⟨h.1, fun g h1 h2 => h.2 g h2 (by omega)⟩
theorem Dr.Kb.of_ext {base : Nat} {w w' : World} (h : Ext w w') : Dr.Kb base w w' := ⟨h.size, fun g _ hg => Below.block h g hg⟩
theorem Dr.Kb.own {base : Nat} {w w' : World} {e : TypeId} {s n : Nat} {v : Value} {xs : List Value} (hk : Dr.Kb base w w') (h : w.ownsRow base e s v n xs) : w'.ownsRow base e s v n xs := by
 refine ⟨h.1, ?_⟩
 rcases h.2 with hn | ⟨g, cap, cur, rfl, hbg, hgg, rest⟩
 ·exact .inl hn
 ·exact .inr ⟨g, cap, cur, rfl, hbg, (hk.2 g hbg (Array.getElem?_eq_some_iff.1 hgg).1).trans hgg, rest⟩
theorem Dr.MRow.kb {base : Nat} {W W' : World} {ov : Value} {ps : List (Ms × Value × Value)} (h : Dr.MRow base W ov ps) (hk : Dr.Kb base W W') : Dr.MRow base W' ov ps :=
 ⟨hk.own h.1, fun p hp => ⟨hk.own (h.2.1 p hp).1, hk.own (h.2.1 p hp).2⟩, h.2.2⟩
/-- What a draw of a ledger leaves. -/
def Dr.Ledger (k : Nat) (w : World) (b a : Nat) (cv : Value) (e : Ending) (w' : World) : Prop :=
 ∃ (ov : Value) (ms : List Ms) (a' : Nat), e = .returned ov ∧ (∀ W', Dr.Kb w.heap.size w' W' → MSlice W' ov ms) ∧ (ms.length ≤ 241 ∧ ∀ m ∈ ms, SmallM m) ∧ a' ≤ a + k ∧ Dr.Tick b a' cv w w'
theorem Dr.made_at (z : Array Value) (hz : z.size = 7) (n i j : Nat) (hi : i < n) (hj : j < 7) : (madeCells z (n * 7))[i * 7 + j]? = z[j]? := by
 have h1 : i * 7 + j < n * 7 := by omega
 rw [Array.getElem?_eq_getElem (by rw [size_madeCells]; exact h1), Array.getElem?_eq_getElem (by omega)]
 congr 1
 simp only [madeCells, Array.getElem_map, Array.getElem_range, hz]
 rw [show (i * 7 + j) % 7 = j from by omega]
 exact getElem!_pos z j (by omega)
theorem Dr.zeros (w : World) (M : Array Value) (n : Nat) (hM : M = madeCells (Value.agg #[.int .i64 0, .int .i64 0, .int .i64 0, .int .i64 0, .int .i64 0, .slice none 0 0, .slice none 0 0]).cells (n * 7)) (hn : n ≤ maxLen) (t : TypeId) (W' : World) (hW : (∀ o, W'.cell? ⟨w.heap.size, o, none⟩ = (w.alloc (.cells M t)).cell? ⟨w.heap.size, o, none⟩) ∧ w.heap.size < W'.heap.size) : MSlice W' (.slice (some ⟨w.heap.size, 0, none⟩) n n) (List.replicate n ⟨0, 0, 0, 0, 0, [], []⟩) := by
 refine ⟨_, n, by rw [List.length_replicate], by rw [List.length_replicate]; exact Nat.le_refl _, hn, fun _ => ⟨w.heap.size, 0, rfl, hW.2, fun i m hm => ?_⟩⟩
 rw [List.getElem?_replicate] at hm
 split at hm
 ·rename_i hi
  cases hm
  have hc : ∀ j, j < 7 → W'.cell? ⟨w.heap.size, 0 + i * 7 + j, none⟩ = (Value.agg #[.int .i64 0, .int .i64 0, .int .i64 0, .int .i64 0, .int .i64 0, .slice none 0 0, .slice none 0 0]).cells[j]? := fun j hj => by
   rw [hW.1, Nat.zero_add, World.cell?_alloc_at _ _ _ _ rfl, hM]
   exact Dr.made_at _ rfl n i j hi hj
  refine ⟨.slice none 0 0, .slice none 0 0, ⟨?_, ?_, ?_, ?_, ?_, ?_, ?_⟩, ⟨⟨none, 0, rfl, Nat.le_refl _, by unfold maxLen; omega, fun h => by simp at h⟩, ⟨none, 0, rfl, Nat.le_refl _, by unfold maxLen; omega, fun h => by simp at h⟩⟩⟩
  ·exact (hc 0 (by omega)).trans rfl
  ·exact (hc 1 (by omega)).trans rfl
  ·exact (hc 2 (by omega)).trans rfl
  ·exact (hc 3 (by omega)).trans rfl
  ·exact (hc 4 (by omega)).trans rfl
  ·exact (hc 5 (by omega)).trans rfl
  ·exact (hc 6 (by omega)).trans rfl
 ·cases hm
theorem Dr.Ledger.of {k : Nat} {w : World} {b a a' : Nat} {cv : Value} {ov : Value} {w' : World} {ps : List (Ms × Value × Value)} (h : Dr.MRow w.heap.size w' ov ps) (hl : ps.length ≤ 241) (ha : a' ≤ a + k) (ht : Dr.Tick b a' cv w w') : Dr.Ledger k w b a cv (.returned ov) w' := ⟨ov, _, a', rfl, fun _ hk => (h.kb hk).slice, ⟨by rw [List.length_map]; exact hl, fun m hm => by obtain ⟨p, hp, rfl⟩ := List.mem_map.1 hm; exact h.2.2 p hp⟩, ha, ht⟩
set_option maxHeartbeats 8000000 in
set_option maxRecDepth 100000 in
theorem l8Wrong_any (b a : Nat) (cv : Value) (w : World) (h : SrcAt w b a cv) (ha : a ≤ 300) :
  Calls Tryz.prog 160 #[.pointer (some ⟨b, 0, none⟩)] w (Dr.Ledger 450 w b a cv) := by
 have hi9 : (Tryz.prog.info? 40).map (fun i => (i.zero, i.size, i.bytes)) = some (some (.agg #[.int .i64 0, .int .i64 0, .int .i64 0, .int .i64 0, .int .i64 0, .slice none 0 0, .slice none 0 0]), 7, 88) := by kernel_rfl
 obtain ⟨ti, hti, hxx⟩ := Option.map_eq_some_iff.1 hi9
 simp only [Prod.mk.injEq] at hxx
 obtain ⟨hz0, hz1, hz2⟩ := hxx
 clear hi9
 have hb := h.lt
 have HS0 : Hid (SrcAt w b a cv) := h
 have NX : Hid (∀ (a' : Nat) (k : Int) (wx : World), SrcAt wx b a' cv → 1 ≤ k → k ≤ 200 → a' ≤ 1000 → Calls Tryz.prog 82 #[.pointer (some ⟨b, 0, none⟩), .int .i64 k] wx fun e w' => ∃ r : Int, e = .returned (.int .i64 r) ∧ 0 ≤ r ∧ r < k ∧ Dr.Tick b (a' + 1) cv wx w') := fun a' k wx h1 h2 h3 h4 => Dr.next b a' cv k wx h1 h2 h3 h4
 have MY : Hid (Calls Tryz.prog 178 #[.pointer (some ⟨b, 0, none⟩)] w fun e w' => ∃ (ov : Value) (ps : List (Ms × Value × Value)) (a' : Nat), e = .returned ov ∧ Dr.MRow w.heap.size w' ov ps ∧ ps.length ≤ 15 ∧ a' ≤ a + 400 ∧ Dr.Tick b a' cv w w') := l8Many_any b a cv w h ha
 have BT : Hid (∀ (a' : Nat) (wx : World), SrcAt wx b a' cv → a' ≤ 900 → Calls Tryz.prog 179 #[.pointer (some ⟨b, 0, none⟩)] wx fun e w' => ∃ m v u, e = .returned (magg m v u) ∧ Dr.Got (wx.heap.size + 1) wx b (a' + 30) cv m v u w') := fun a' wx h1 h2 => l8Bent_any b a' cv wx h1 h2
 clear h
 go_enter Tryz.func160, Tryz.ntmps160
 go_wp2_with fail
 refine MY.out.mono ?_
 rintro e w1 ⟨ov, ps, a1, rfl, hM, hpl, ha1, ht⟩
 obtain ⟨ad, cp, rfl⟩ := Led.owns_form hM.1
 have HM1 : Hid (Dr.MRow w.heap.size w1 (.slice ad ps.length cp) ps) := hM
 have HT1 : Hid (Dr.Tick b a1 cv w w1) := ht
 clear hM ht MY HS0
 go_wp2_with fail
 refine (NX.out a1 12 _ HT1.out.1 (by omega) (by omega) (by omega)).mono ?_
 rintro e w2 ⟨r, rfl, hr0, hr1, ht⟩
 have HM2 : Hid (Dr.MRow w.heap.size w2 (.slice ad ps.length cp) ps) := HM1.out.kp ht.2.2 hb
 have HT2 : Hid (Dr.Tick b (a1 + 1) cv w w2) := HT1.out.trans ht
 clear ht HM1 HT1 NX
 by_cases h0 : r = 0
 ·have g0 : (r == 0) = true := by simpa using h0
  clear h0
  go_wp2_with fail
  refine (BT.out (a1 + 1) _ HT2.out.1 (by omega)).mono ?_
  rintro e w3 ⟨m, v, u, rfl, hG⟩
  obtain ⟨av, cpv, rfl⟩ := Led.owns_form hG.1
  obtain ⟨au, cpu, rfl⟩ := Led.owns_form hG.2.1
  obtain ⟨a5, ha5, htk⟩ := hG.2.2.2.2
  have HT3 : Hid (Dr.Tick b a5 cv w w3) := HT2.out.trans htk
  have HM3 : Hid (Dr.MRow w.heap.size w3 (.slice ad ps.length cp) ps) := HM2.out.kp htk.2.2 hb
  have HSm : Hid (SmallM m) := ⟨by have := hG.2.2.1; omega, by have := hG.2.2.2.1; omega⟩
  have HC3 : Hid (w3.ownsRow w.heap.size 57 3 (.slice av m.certs.length cpv) m.certs.length (cellsCt m.certs) ∧ w3.ownsRow w.heap.size 2 1 (.slice au m.refs.length cpu) m.refs.length (m.refs.map (Value.int .i64))) := ⟨Dr.own_base hG.1 (by have := HT2.out.2.2.1; omega), Dr.own_base hG.2.1 (by have := HT2.out.2.2.1; omega)⟩
  have hsz3 : w.heap.size ≤ w3.heap.size := HT3.out.2.2.1
  clear hG htk HM2 HT2 BT
  unfold magg
  go_wp2_with (at_builtin; go_must (refine wpList_append_own _ rfl _ _ 27 rfl w.heap.size 40 ti (.agg #[.int .i64 0, .int .i64 0, .int .i64 0, .int .i64 0, .int .i64 0, .slice none 0 0, .slice none 0 0]) 7 88 Tryz.underlying27 hti hz0 hz1 hz2 rfl (by decide) _ ps.length _ rfl (HM3.out.1.alloc _) ⟨w3.heap.size, 0, none⟩ 1 1 (Dr.cellsP [(m, .slice av m.certs.length cpv, .slice au m.refs.length cpu)]) rfl rfl (Dr.msg_new _ _ _ _ _) (Dr.cellsP_one _ (fun p hp => by rw [List.mem_singleton] at hp; subst hp; exact ⟨rfl, rfl⟩)) (by unfold maxLen; omega) (by omega) (by simp; omega) ?_; intro v6 w6 hown6 hgrow6 hnil6; have HM6 : Hid (Dr.MRow w.heap.size w6 v6 (ps ++ [(m, .slice av m.certs.length cpv, .slice au m.refs.length cpu)])) := HM3.out.push HC3.out.1 HC3.out.2 hown6 hgrow6 HSm.out; have HT6 : Hid (Dr.Tick b a5 cv w w6) := Dr.Tick.grown (HT3.out.ext ((Ext.refl _).alloc _)) hb hgrow6 (fun q hq => (HM3.out.1.lt q hq).1); clear hown6 hgrow6 hnil6))
  go_ret
  exact Dr.Ledger.of HM6.out (by rw [List.length_append]; simp; omega) (by omega) HT6.out
 ·have g0 : (r == 0) = false := by simpa using h0
  by_cases h1 : r = 1
  ·have g1 : (r == 1) = true := by simpa using h1
   obtain ⟨M, hM⟩ : ∃ M, M = madeCells (Value.agg #[.int .i64 0, .int .i64 0, .int .i64 0, .int .i64 0, .int .i64 0, .slice none 0 0, .slice none 0 0]).cells (241 * 7) := ⟨_, rfl⟩
   have HMk : ∀ W : World, (Instr.makeSlice 27 (.int .i64 241) (.int .i64 241)).run Tryz.prog W = .ok (.slice (some ⟨W.heap.size, 0, none⟩) 241 241) (W.alloc (.cells M 40)) := fun W => by
    have h := run_make (P := Tryz.prog) W 27 40 ti _ Tryz.underlying27 hti hz0 .i64 .i64 241 241 (by omega) (by omega) (by rw [hz2]; omega) (by omega)
    rw [hz1] at h
    rw [hM]
    simpa using h
   have HZ : Hid (∀ W W' : World, w.heap.size ≤ W.heap.size → Dr.Kb w.heap.size (W.alloc (.cells M 40)) W' → MSlice W' (.slice (some ⟨W.heap.size, 0, none⟩) 241 241) (List.replicate 241 ⟨0, 0, 0, 0, 0, [], []⟩)) := fun W W' hbW hk => Dr.zeros W M 241 hM (by unfold maxLen; omega) _ W' ⟨fun o => (Dr.cell_block (hk.2 W.heap.size hbW (by simp)) o).1, Nat.lt_of_lt_of_le (by simp) hk.1⟩
   clear h0 h1 hM BT
   go_wp2
   go_ret
   exact ⟨_, _, a1 + 1, rfl, fun W' hk => HZ.out _ W' HT2.out.2.2.1 hk, ⟨by rw [List.length_replicate]; exact Nat.le_refl _, fun m hm => by rw [(List.mem_replicate.1 hm).2]; exact ⟨Nat.zero_le _, Nat.zero_le _⟩⟩, by omega, HT2.out.ext ((Ext.refl _).alloc _)⟩
  ·have g1 : (r == 1) = false := by simpa using h1
   clear h0 h1 BT
   go_wp2
   go_ret
   exact Dr.Ledger.of HM2.out (by omega) (by omega) HT2.out
theorem l8DrawF_any (b a : Nat) (cv : Value) (w : World) (h : SrcAt w b a cv) (ha : a ≤ 900) :
  Calls Tryz.prog 124 #[.pointer (some ⟨b, 0, none⟩)] w fun e w' => ∃ x : Int, e = .returned (.int .i64 x) ∧ Dr.Tick b (a + 1) cv w w' := by
 have HS0 : Hid (SrcAt w b a cv) := h
 have PK : Hid (∀ (g : Nat) (wx : World), g = wx.heap.size → SrcAt wx b a cv → Calls Tryz.prog 73 #[.pointer (some ⟨b, 0, none⟩), .slice (some ⟨g, 0, none⟩) 9 9] (wx.alloc (.cells #[.int .i64 1, .int .i64 1, .int .i64 1, .int .i64 1, .int .i64 2, .int .i64 0, .int .i64 1, .int .i64 1, .int .i64 3] 2)) fun e w' => ∃ x : Int, e = .returned (.int .i64 x) ∧ Dr.Tick b (a + 1) cv wx w') := fun g wx hg h1 => by subst hg; exact Dr.pick b a cv [1, 1, 1, 1, 2, 0, 1, 1, 3] wx 2 h1 (by decide) (by decide) (by omega)
 clear h
 go_enter Tryz.func124, Tryz.ntmps124
 go_wp2_with fail
 refine (PK.out _ _ rfl HS0.out).mono ?_
 rintro e w1 ⟨x, rfl, ht⟩
 have HT : Hid (Dr.Tick b (a + 1) cv w w1) := ht
 clear ht
 go_wp2
 go_ret
 exact ⟨x, rfl, HT.out⟩
end Go.Proofs.YtecgjdgfjgcmdaaGreat
