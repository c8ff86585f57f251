/- PF1, PF3, in one text. -/
import Derived.Test.YtilinjjimiiplaaGreatDoorKqV7
import Derived.Test.YtilinjjimiiplaaGreatDoorKqV15
import Derived.Test.YtilinjjimiiplaaGreatDoorKqD6G
import Derived.Test.YtilinjjimiiplaaGreatDoorKqJ28
import Derived.Test.YtilinjjimiiplaaGreatDoorKqV17O
namespace Go.Proofs.YtilinjjimiiplaaGreatDoor
open Go.RowKit
theorem Sm.lead_app : ∀ (a : List Sd) (x : Int) (b : List Sd), Sm.lead x (a ++ b) = (Sm.lead x a).bind fun y => Sm.lead y b
  | [], x, b => rfl
  | s :: a, x, b => by
    rw [List.cons_append, Sm.lead, Sm.lead]
    split
    · exact Sm.lead_app a _ b
    · rfl
theorem Sm.sideAt_up (a b : Int) (r : List Int) (i : Nat) : Sm.sideAt (i + 2) (a :: b :: r) = Sm.sideAt i r := by
  unfold Sm.sideAt
  by_cases h : i % 2 = 1
  · rw [if_pos h, if_pos (by omega), show i + 2 - 1 = (i - 1) + 2 by omega]
    rfl
  · rw [if_neg h, if_neg (by omega)]
    by_cases h2 : i + 1 < r.length
    · rw [if_pos h2, if_pos (by simp only [List.length_cons]; omega)]
      rfl
    · rw [if_neg h2, if_neg (by simp only [List.length_cons]; omega)]
theorem Sm.lead_one (x : Int) (s : Sd) (h : Sm.is s.sum = true) : Sm.lead x [s] = some (Sm.with x s) := by rw [Sm.lead, if_pos h]; rfl
/-- One row up: the sum above is the one below with its side, if it has one. -/
theorem Sm.up_at : ∀ (l : List Int) (i : Nat) (x : Int), l[i]? = some x → Sm.ok l = true → ∃ y, (Sm.up l)[i / 2]? = some y ∧ Sm.lead x (Sm.sideAt i l) = some y
  | [], i, x, h, _ => by simp at h
  | [a], i, x, h, _ => by
    obtain ⟨hi, rfl⟩ := List.getElem?_eq_some_iff.1 h
    have h0 : i = 0 := by simp at hi; omega
    subst h0
    exact ⟨a, rfl, rfl⟩
  | a :: b :: r, 0, x, h, ho => by
    cases h
    have hb : Sm.is b = true := by unfold Sm.ok at ho; rw [List.all_cons, List.all_cons, Bool.and_eq_true, Bool.and_eq_true] at ho; exact ho.2.1
    refine ⟨Sm.sum [1, a, b], rfl, ?_⟩
    have hs : Sm.sideAt 0 (a :: b :: r) = [⟨false, b⟩] := by unfold Sm.sideAt; rw [if_neg (by decide), if_pos (by simp only [List.length_cons]; omega)]; rfl
    rw [hs]
    exact Sm.lead_one a ⟨false, b⟩ hb
  | a :: b :: r, 1, x, h, ho => by
    cases h
    have ha : Sm.is a = true := by unfold Sm.ok at ho; rw [List.all_cons, Bool.and_eq_true] at ho; exact ho.1
    refine ⟨Sm.sum [1, a, b], rfl, ?_⟩
    have hs : Sm.sideAt 1 (a :: b :: r) = [⟨true, a⟩] := by unfold Sm.sideAt; rw [if_pos (by decide)]; rfl
    rw [hs]
    exact Sm.lead_one b ⟨true, a⟩ ha
  | a :: b :: r, i + 2, x, h, ho => by
    have hr : Sm.ok r = true := by unfold Sm.ok at ho ⊢; rw [List.all_cons, List.all_cons, Bool.and_eq_true, Bool.and_eq_true] at ho; exact ho.2.2
    obtain ⟨y, h1, h2⟩ := Sm.up_at r i x (by simpa using h) hr
    refine ⟨y, ?_, by rw [Sm.sideAt_up]; exact h2⟩
    rw [Sm.up, show (i + 2) / 2 = i / 2 + 1 by omega, List.getElem?_cons_succ]
    exact h1
theorem Sm.lead_sides : ∀ (f i : Nat) (l : List Int) (x : Int), Sm.ok l = true → l[i]? = some x → l.length ≤ f → Sm.lead x (Sm.sidesF f i l) = some (Sm.rootF f l)
  | 0, i, l, x, _, hx, hf => by
    have := (List.getElem?_eq_some_iff.1 hx).1
    omega
  | f + 1, i, l, x, ho, hx, hf => by
    by_cases h : 1 < l.length
    · rw [Sm.sidesF, if_pos h, Sm.rootF, if_pos h, Sm.lead_app]
      obtain ⟨y, h1, h2⟩ := Sm.up_at l i x hx ho
      rw [h2]
      exact Sm.lead_sides f (i / 2) (Sm.up l) y (Sm.up_ok l ho) h1 (by rw [Sm.up_len]; omega)
    · rw [Sm.sidesF_end h, Sm.rootF_end h, Sm.lead]
      match l, hx, h with
      | [a], hx, _ =>
        obtain ⟨hi, rfl⟩ := List.getElem?_eq_some_iff.1 hx
        have h0 : i = 0 := by simp at hi; omega
        subst h0
        rfl
      | [], hx, _ => simp at hx
      | _ :: _ :: _, _, h => exact absurd (by simp only [List.length_cons]; omega) h
theorem Sm.sides_few : ∀ (k f i : Nat) (l : List Int), l.length ≤ 2 ^ k → (Sm.sidesF f i l).length ≤ k
  | 0, f, i, l, h => by rw [Sm.sidesF_end (by simpa using h)]; exact Nat.le_refl _
  | k + 1, 0, i, l, h => by rw [Sm.sidesF]; exact Nat.zero_le _
  | k + 1, f + 1, i, l, h => by
    rw [Sm.sidesF]
    split
    · have h1 := Sm.sides_few k f (i / 2) (Sm.up l) (by rw [Sm.up_len]; rw [Nat.pow_succ] at h; omega)
      have h2 := Sm.sideAt_len i l
      rw [List.length_append]
      omega
    · exact Nat.zero_le _
/-- What is shown of a node of a tree checks. -/
theorem Sm.shown {zs : List Zn} {k : Nat} {z : Zn} (hz : zs[k]? = some z) (h20 : zs.length ≤ 20) (hn : Sm.nodeC z = 0) :
    (Sm.sidesF (zs.map Sm.leaf).length k (zs.map Sm.leaf)).length ≤ 5 ∧ Sm.check z (Sm.sidesF (zs.map Sm.leaf).length k (zs.map Sm.leaf)) (Sm.root (zs.map Sm.leaf)) = true := by
  have h5 := Sm.sides_few 5 (zs.map Sm.leaf).length k (zs.map Sm.leaf) (by rw [List.length_map]; omega)
  refine ⟨h5, ?_⟩
  have hl := Sm.lead_sides (zs.map Sm.leaf).length k (zs.map Sm.leaf) (Sm.leaf z) (Sm.leaves_ok zs) (by rw [List.getElem?_map, hz]; rfl) (Nat.le_refl _)
  rw [Sm.check_ok hn (by omega) hl]
  exact beq_self_eq_true _
end Go.Proofs.YtilinjjimiiplaaGreatDoor
namespace Go.Proofs.YtilinjjimiiplaaGreatDoor
open Go.RowKit
/-- A node, sides and a number. -/
def DrawnC (w : World) (e : Ending) (w' : World) : Prop :=
  ∃ (z : Zn) (v : Value) (l : List Sd) (r : Int), e = .returned (.tuple #[zagg z, v, .int .i64 r]) ∧ SSlice w' v l ∧ Ext w w'
theorem CodeOk.up {w : World} {b b' : Nat} {cv : Value} (h : CodeOk w b cv) (hb : b ≤ b') : CodeOk w b' cv := by
  obtain ⟨ad, len, cap, h1, h2, h3⟩ := h
  refine ⟨ad, len, cap, h1, h2, fun h0 => ?_⟩
  obtain ⟨g, off, e, hg, hN⟩ := h3 h0
  exact ⟨g, off, e, by omega, hN⟩
theorem src_new3 {w : World} {cv : Value} (o : Obj) (h : CodeOk w w.heap.size cv) : SrcAt ((w.alloc o).alloc (.cells #[cv, .int .i64 0] 85)) (w.heap.size + 1) 0 cv := by
  have h1 : CodeOk (w.alloc o) (w.alloc o).heap.size cv := (h.below ((Below.refl _ _).alloc (Nat.le_refl _) _)).up (by simp)
  have h2 := src_new h1
  simpa using h2
theorem room_new (w : World) (t : TypeId) : Room (w.alloc (.cells #[.string ⟨#[]⟩, .int .i64 0, .int .i64 0, .int .i64 0, .int .i64 0] t)) w.heap.size 0 1 := by
  refine ⟨by simp, fun j hj => ⟨?_, by simp⟩⟩
  match j, hj with
  | 0, _ => exact ⟨.string ⟨#[]⟩, by simp⟩
  | 1, _ => exact ⟨.int .i64 0, by simp⟩
  | 2, _ => exact ⟨.int .i64 0, by simp⟩
  | 3, _ => exact ⟨.int .i64 0, by simp⟩
  | 4, _ => exact ⟨.int .i64 0, by simp⟩
/-- Under way: the source, the tree, the proof's box and its sides, the answer's node; nothing of w turned. -/
structure CSt (w : World) (a : Nat) (cv : Value) (g off cap : Nat) (zs : List Zn) (b3 B : Nat) (pv : Value) (ts : List Sd) (W : World) : Prop where
  src : SrcAt W (w.heap.size + 1) a cv
  tree : Own W (.slice (some ⟨g, off, none⟩) zs.length cap) g zs
  box : B < W.heap.size ∧ W.cell? ⟨B, 2, none⟩ = some pv ∧ W.frozen? ⟨B, 2, none⟩ = false
  row : W.ownsRow b3 59 2 pv ts.length (cellsS ts) ∧ pv.ownBlock ≠ some B
  out : Room W w.heap.size 0 1
  ext : Ext w W
  num : w.heap.size + 1 < g ∧ g < b3 ∧ b3 ≤ B
theorem CSt.next {w : World} {a a' : Nat} {cv : Value} {g off cap : Nat} {zs : List Zn} {b3 B : Nat} {pv : Value} {ts : List Sd} {W W' : World} (h : CSt w a cv g off cap zs b3 B pv ts W) (he : Ext W W') (hs : SrcAt W' (w.heap.size + 1) a' cv) : CSt w a' cv g off cap zs b3 B pv ts W' :=
  ⟨hs, h.tree.ext he, ⟨Nat.lt_of_lt_of_le h.box.1 he.size, ((Ext.cell he).1 _ _ h.box.1).trans h.box.2.1, ((Ext.cell he).2 _ _ h.box.1).trans h.box.2.2⟩, ⟨own_ext h.row.1 he, h.row.2⟩, h.out.ext he, h.ext.trans he, h.num⟩
theorem CSt.alloc {w : World} {a : Nat} {cv : Value} {g off cap : Nat} {zs : List Zn} {b3 B : Nat} {pv : Value} {ts : List Sd} {W : World} (h : CSt w a cv g off cap zs b3 B pv ts W) (o : Obj) : CSt w a cv g off cap zs b3 B pv ts (W.alloc o) :=
  h.next ((Ext.refl _).alloc _) (h.src.ext ((Ext.refl _).alloc _))
theorem CSt.drew {w : World} {a : Nat} {cv : Value} {g off cap : Nat} {zs : List Zn} {b3 B : Nat} {pv : Value} {ts : List Sd} {W : World} (h : CSt w a cv g off cap zs b3 B pv ts W) : CSt w a cv g off cap zs b3 B pv ts W.drew :=
  h.next (Ext.refl _).drew (h.src.ext (Ext.refl _).drew)
theorem CSt.place {w : World} {a : Nat} {cv : Value} {g off cap : Nat} {zs : List Zn} {b3 B : Nat} {pv : Value} {ts : List Sd} {W : World} (h : CSt w a cv g off cap zs b3 B pv ts W) (a' q : Nat) : CSt w a' cv g off cap zs b3 B pv ts ((W.setCell ⟨w.heap.size + 1, 1, none⟩ (.int .i64 (a' : Int))).drewN q) := by
  obtain ⟨n1, n2, n3⟩ := h.num
  have hu : Upd (w.heap.size + 1) W ((W.setCell ⟨w.heap.size + 1, 1, none⟩ (.int .i64 (a' : Int))).drewN q) := Upd.place _ _ _
  have hb := hu.at_ne B 2 (by omega) h.box.1
  exact ⟨h.src.place _ _, h.tree.upd hu (by omega), ⟨Nat.lt_of_lt_of_le h.box.1 hu.2.1, hb.1.trans h.box.2.1, hb.2.trans h.box.2.2⟩, ⟨owns_place h.row.1 (by omega) _ _, h.row.2⟩, h.out.upd hu (by omega), hu.to_ext h.ext (by omega), h.num⟩
theorem Own.nodes {w : World} {g off cap i : Nat} {zs : List Zn} {z : Zn} (h : Own w (.slice (some ⟨g, off, none⟩) zs.length cap) g zs) (hz : zs[i]? = some z) : w.cell? ⟨g, off + i * 5, none⟩ = some (.string z.path) ∧ w.cell? ⟨g, off + i * 5 + 1, none⟩ = some (.int .i64 z.data) ∧ w.cell? ⟨g, off + i * 5 + 2, none⟩ = some (.int .i64 z.version) ∧ w.cell? ⟨g, off + i * 5 + 3, none⟩ = some (.int .i64 z.owner) ∧ w.cell? ⟨g, off + i * 5 + 4, none⟩ = some (.int .i64 z.next) := by
  have hi := (List.getElem?_eq_some_iff.1 hz).1
  obtain ⟨a, cap', he, h2, h3, h4⟩ := h
  obtain ⟨off', ha, -, hN⟩ := h4 (by omega)
  injection he with e1 _ e3
  subst e3
  rw [← e1] at ha
  injection ha with ha
  injection ha with _ e5 _
  subst e5
  exact hN i z hz
/-- What the last statement reads, and what it leaves. -/
structure CEnd (w : World) (g o B : Nat) (z : Zn) (pv : Value) (ts : List Sd) (W : World) : Prop where
  node : W.cell? ⟨g, o, none⟩ = some (.string z.path) ∧ W.cell? ⟨g, o + 1, none⟩ = some (.int .i64 z.data) ∧ W.cell? ⟨g, o + 2, none⟩ = some (.int .i64 z.version) ∧ W.cell? ⟨g, o + 3, none⟩ = some (.int .i64 z.owner) ∧ W.cell? ⟨g, o + 4, none⟩ = some (.int .i64 z.next)
  box : W.cell? ⟨B, 2, none⟩ = some pv
  sides : ∃ g2, w.heap.size < g2 ∧ SOwn W pv g2 ts
  out : Room W w.heap.size 0 1
  ext : Ext w W
theorem CEnd.drew {w : World} {g o B : Nat} {z : Zn} {pv : Value} {ts : List Sd} {W : World} (h : CEnd w g o B z pv ts W) : CEnd w g o B z pv ts W.drew := by
  obtain ⟨g2, h2, hS⟩ := h.sides
  exact ⟨by simpa using h.node, by simpa using h.box, ⟨g2, h2, hS.ext (Ext.refl _).drew⟩, h.out.ext (Ext.refl _).drew, h.ext.drew⟩
theorem CSt.fin {w : World} {a : Nat} {cv : Value} {g off cap : Nat} {zs : List Zn} {b3 B : Nat} {pv : Value} {ts : List Sd} {W : World} (h : CSt w a cv g off cap zs b3 B pv ts W) {i : Nat} {z : Zn} (hz : zs[i]? = some z) : CEnd w g (off + i * 5) B z pv ts W := by
  obtain ⟨n1, n2, n3⟩ := h.num
  obtain ⟨g2, hg2, hS⟩ := sown_of_owns h.row.1
  exact ⟨h.tree.nodes hz, h.box.2.1, ⟨g2, by omega, hS⟩, h.out, h.ext⟩
/-- A node's data, turned. -/
theorem CSt.data {w : World} {a : Nat} {cv : Value} {g off cap : Nat} {zs : List Zn} {b3 B : Nat} {pv : Value} {ts : List Sd} {W : World} (h : CSt w a cv g off cap zs b3 B pv ts W) {i : Nat} {z : Zn} (hz : zs[i]? = some z) (x : Int) : CEnd w g (off + i * 5) B { z with data := x } pv ts (W.setCell ⟨g, off + i * 5 + 1, none⟩ (.int .i64 x)) := by
  obtain ⟨n1, n2, n3⟩ := h.num
  obtain ⟨g2, hg2, hS⟩ := sown_of_owns h.row.1
  have hu : Upd g W (W.setCell ⟨g, off + i * 5 + 1, none⟩ (.int .i64 x)) := (Upd.refl _ _).setAt _ _
  have hb := hu.at_ne B 2 (by omega) h.box.1
  obtain ⟨d0, d1, d2, d3, d4⟩ := h.tree.nodes hz
  refine ⟨⟨?_, iset_eq _ _ _ _ ⟨_, d1⟩, ?_, ?_, ?_⟩, hb.1.trans h.box.2.1, ⟨g2, by omega, hS.upd' hu (fun _ => by omega)⟩, h.out.upd hu (by omega), hu.to_ext h.ext (by omega)⟩
  · rw [iset_ne _ _ _ _ _ _ (by omega)]; exact d0
  · rw [iset_ne _ _ _ _ _ _ (by omega)]; exact d2
  · rw [iset_ne _ _ _ _ _ _ (by omega)]; exact d3
  · rw [iset_ne _ _ _ _ _ _ (by omega)]; exact d4
/-- The first side, turned. -/
theorem CSt.side {w : World} {a : Nat} {cv : Value} {g off cap : Nat} {zs : List Zn} {b3 B : Nat} {s : Sd} {r : List Sd} {pa : Option Addr} {pc : Nat} {W : World} (h : CSt w a cv g off cap zs b3 B (.slice pa (s :: r).length pc) (s :: r) W) {i : Nat} {z : Zn} (hz : zs[i]? = some z) (b : Bool) :
    ∃ g2 o2, pa = some ⟨g2, o2, none⟩ ∧ W.cell? ⟨g2, o2, none⟩ = some (.bool s.left) ∧ W.frozen? ⟨g2, o2, none⟩ = false ∧ CEnd w g (off + i * 5) B z (.slice pa (s :: r).length pc) (⟨b, s.sum⟩ :: r) (W.setCell ⟨g2, o2, none⟩ (.bool b)) := by
  obtain ⟨n1, n2, n3⟩ := h.num
  obtain ⟨g2, hg2, hS⟩ := sown_of_owns h.row.1
  obtain ⟨a', cap', he, h2, h3, h4⟩ := hS
  obtain ⟨o2, ha, hR, hN⟩ := h4 (by simp)
  injection he with e1 _ e3
  subst e1 e3 ha
  have hgB : g2 ≠ B := fun e => h.row.2 (by rw [← e]; rfl)
  obtain ⟨s0, s1⟩ := hN 0 s rfl
  obtain ⟨-, r0⟩ := hR.2 0 (by simp only [List.length_cons]; omega)
  rw [Nat.zero_mul, Nat.add_zero] at s0 s1
  rw [Nat.add_zero] at r0
  refine ⟨g2, o2, rfl, s0, r0, ?_⟩
  have hu : Upd g2 W (W.setCell ⟨g2, o2, none⟩ (.bool b)) := (Upd.refl _ _).setAt _ _
  have hb := hu.at_ne B 2 (by omega) h.box.1
  refine ⟨(h.tree.upd hu (by omega)).nodes hz, hb.1.trans h.box.2.1, ⟨g2, by omega, some ⟨g2, o2, none⟩, pc, rfl, h2, h3, fun _ => ⟨o2, rfl, ⟨by simpa using hR.1, fun j hj => ⟨?_, by simpa using (hR.2 j hj).2⟩⟩, fun j t ht => ?_⟩⟩, h.out.upd hu (by omega), hu.to_ext h.ext (by omega)⟩
  · by_cases h0 : j = 0
    · subst h0; exact ⟨_, iset_eq _ _ _ _ ⟨_, s0⟩⟩
    · rw [iset_ne _ _ _ _ _ _ (by omega)]; exact (hR.2 j hj).1
  · match j, ht with
    | 0, ht =>
      cases ht
      refine ⟨by rw [Nat.zero_mul, Nat.add_zero]; exact iset_eq _ _ _ _ ⟨_, s0⟩, ?_⟩
      rw [iset_ne _ _ _ _ _ _ (by omega), Nat.zero_mul, Nat.add_zero]
      exact s1
    | j + 1, ht =>
      obtain ⟨t0, t1⟩ := hN (j + 1) t ht
      rw [iset_ne _ _ _ _ _ _ (by omega), iset_ne _ _ _ _ _ _ (by omega)]
      exact ⟨t0, t1⟩
theorem grown_upd2 {w w' : World} {row : Option Nat} (hg : w.grownBy w' row) {base : Nat} (hb : ∀ k, row = some k → base ≤ k) (hw : base ≤ w.heap.size) : ∃ B, base ≤ B ∧ Upd B w w' ∧ ∀ gx, row ≠ some gx → gx < w.heap.size → gx ≠ B := by
  cases row with
  | none => exact ⟨w.heap.size, hw, Upd.ext (Below.grown (Below.refl _ _) hg (Nat.le_refl _) fun q hq => by cases hq) (Nat.le_refl _), fun gx _ hl => by omega⟩
  | some b =>
    by_cases hbs : b ≤ w.heap.size
    · refine ⟨b, hb b rfl, ⟨Below.grown (Below.refl _ _) hg hbs (fun k hk => by cases hk; exact Nat.le_refl _), hg.size, fun c o hc hl => ?_⟩, fun gx h1 _ h2 => h1 (by rw [h2])⟩
      have hh := hg.block c hl (fun e => by cases e; omega)
      unfold World.cell? World.frozen?
      simp only [hh, and_self]
    · exact ⟨w.heap.size, hw, Upd.ext (Below.grown (Below.refl _ _) hg (Nat.le_refl _) fun q hq => by cases hq; omega) (Nat.le_refl _), fun gx _ hl => by omega⟩
/-- A side more. -/
theorem CSt.more {w : World} {a : Nat} {cv : Value} {g off cap : Nat} {zs : List Zn} {b3 B : Nat} {pv v6 : Value} {ts : List Sd} {s : Sd} {ob : Obj} {W w6 : World} (h : CSt w a cv g off cap zs b3 B pv ts W) {i : Nat} {z : Zn} (hz : zs[i]? = some z) (ho : w6.ownsRow b3 59 2 v6 (ts.length + 1) (cellsS ts ++ cellsS [s])) (hg : (W.alloc ob).grownBy w6 pv.ownBlock) (hl : v6.ownBlock = pv.ownBlock ∨ v6.ownBlock = some (W.alloc ob).heap.size) :
    (B < w6.heap.size ∧ w6.cell? ⟨B, 2, none⟩ = some pv ∧ w6.frozen? ⟨B, 2, none⟩ = false) ∧ CEnd w g (off + i * 5) B z v6 (ts ++ [s]) (w6.setCell ⟨B, 2, none⟩ v6) := by
  obtain ⟨n1, n2, n3⟩ := h.num
  have hA := h.alloc ob
  obtain ⟨B', hB', hu, hne⟩ := grown_upd2 hg (fun k hk => (h.row.1.lt k hk).1) (by have := h.box.1; simp; omega)
  have hBB : B ≠ B' := hne B h.row.2 hA.box.1
  have hb := hu.at_ne B 2 hBB hA.box.1
  have hv6 : v6.ownBlock ≠ some B := by
    rcases hl with hl | hl
    · rw [hl]; exact h.row.2
    · rw [hl]; intro e; have h1 := hA.box.1; injection e with e; omega
  obtain ⟨g2, hg2, hS⟩ := sown_of_owns (l := ts ++ [s]) (by rw [cellsS_app, List.length_append]; exact ho)
  obtain ⟨a', cap', he, h2, h3, h4⟩ := id hS
  obtain ⟨o2, ha, -, -⟩ := h4 (by simp)
  have hgB : g2 ≠ B := fun e => hv6 (by rw [he, ha, ← e]; rfl)
  have hu2 : Upd B w6 (w6.setCell ⟨B, 2, none⟩ v6) := (Upd.refl _ _).setAt _ _
  exact ⟨⟨Nat.lt_of_lt_of_le hA.box.1 hu.2.1, hb.1.trans hA.box.2.1, hb.2.trans hA.box.2.2⟩, ((hA.tree.upd hu (by omega)).upd hu2 (by omega)).nodes hz, iset_eq _ _ _ _ ⟨_, hb.1.trans hA.box.2.1⟩, ⟨g2, by omega, hS.upd' hu2 (fun _ => hgB)⟩, (hA.out.upd hu (by omega)).upd hu2 (by omega), hu2.to_ext (hu.to_ext hA.ext (by omega)) (by omega)⟩
theorem CEnd.drawn {w : World} {g o B : Nat} {z : Zn} {pv : Value} {ts : List Sd} {W : World} (h : CEnd w g o B z pv ts W) (r : Int) : DrawnC w (.returned (.tuple #[zagg z, pv, .int .i64 r])) (putZ W w.heap.size 0 z).drew := by
  obtain ⟨g2, h2, hS⟩ := h.sides
  have he : Upd w.heap.size W (putZ W w.heap.size 0 z) := (((((Upd.refl _ _).setAt 0 _).setAt 1 _).setAt 2 _).setAt 3 _).setAt 4 _
  exact ⟨z, pv, ts, r, rfl, ((hS.upd' he (fun _ => by omega)).ext (Ext.refl _).drew).slice, (he.to_ext h.ext (Nat.le_refl _)).drew⟩
end Go.Proofs.YtilinjjimiiplaaGreatDoor
