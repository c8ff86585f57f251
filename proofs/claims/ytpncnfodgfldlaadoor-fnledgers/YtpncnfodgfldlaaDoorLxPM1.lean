/- copies of a message, whatever its lists are: each list a row of its own. -/
import Derived.Test.YtpncnfodgfldlaaDoorLxG2
namespace Go.Proofs.YtpncnfodgfldlaaDoor
open Go.RowKit
/-- What a copy of a message leaves. -/
def MCp (w : World) (m : Ms) (e : Ending) (w' : World) : Prop := ∃ x y, e = .returned (magg m x y) ∧ w'.ownsRow w.heap.size 76 3 x m.certs.length (cellsCt m.certs) ∧ w'.ownsRow w.heap.size 2 1 y m.refs.length (m.refs.map (Value.int .i64)) ∧ Ext w w'
theorem appC {w : World} {ops : Array Oper} {rest : List Oper} {o : Oper} {a : Act} {Q : Exit → Act → World → Prop} (hgd : o.guard = none) (s x : Operand)
    (ho : o.op = .call { callee := .builtin .append, args := #[s, x], argTypes := #[25, 25] })
    (base : Nat) (i : TypeInfo) (hi : Tryd.prog.info? 76 = some i) (hz : i.zero = some (.agg #[.int .i64 0, .int .i64 0, .int .i64 0])) (hsize : i.size = 3) (hby : i.bytes = 24)
    (v0 : Value) (hs : a.eval s = v0) (hown : w.ownsRow base 76 3 v0 0 []) (xv : Value) (hx : a.eval x = xv) (cs : List Ct) (hC : CtSlice w xv cs) (hl : cs.length ≤ 1048576) (hbase : base ≤ w.heap.size)
    (h : ∀ v' w', w'.ownsRow base 76 3 v' cs.length (cellsCt cs) → w.grownBy w' v0.ownBlock → wpList Tryd.prog ops Q rest (a.put o.dst v') w') : wpList Tryd.prog ops Q (o :: rest) a w := by
  obtain ⟨ad, cap, rfl, -, -, hcx⟩ := hC
  cases ad with
  | none =>
    have h0 : cs = [] := by
      by_cases h0 : 0 < cs.length
      · obtain ⟨b9, o9, e9, -⟩ := hcx h0; cases e9
      · exact List.eq_nil_of_length_eq_zero (by omega)
    subst h0
    exact append_none_cap hgd s x _ ho base _ i 3 Tryd.underlying25 hi v0 0 [] hs hown cap hx (h v0 w hown (World.grownBy.refl _ _))
  | some ad =>
    have hn : ∀ j u, (cellsCt cs)[j]? = some u → w.cell? (ad.add j) = some u := by
      by_cases h0 : 0 < cs.length
      · obtain ⟨b9, o9, e9, hb9, hC9⟩ := hcx h0
        cases e9
        exact hC9.news
      · intro j u hj
        rw [List.eq_nil_of_length_eq_zero (show cs.length = 0 by omega)] at hj
        simp [cellsCt] at hj
    refine wpList_append_own _ hgd s x _ ho base 76 i (.agg #[.int .i64 0, .int .i64 0, .int .i64 0]) 3 24 Tryd.underlying25 hi hz hsize hby rfl (by decide) v0 0 [] hs hown ad cs.length cap (cellsCt cs) hx (cellsCt_len _) hn (cellsCt_one _) (by unfold maxLen; omega) (by omega) hbase ?_
    intro v' w' h1 h2 _
    rw [Nat.zero_add, List.nil_append] at h1
    exact h v' w' h1 h2

theorem appI {w : World} {ops : Array Oper} {rest : List Oper} {o : Oper} {a : Act} {Q : Exit → Act → World → Prop} (hgd : o.guard = none) (s x : Operand)
    (ho : o.op = .call { callee := .builtin .append, args := #[s, x], argTypes := #[26, 26] })
    (base : Nat) (i : TypeInfo) (hi : Tryd.prog.info? 2 = some i) (hz : i.zero = some (.int .i64 0)) (hsize : i.size = 1) (hby : i.bytes = 8)
    (v0 : Value) (hs : a.eval s = v0) (hown : w.ownsRow base 2 1 v0 0 []) (xv : Value) (hx : a.eval x = xv) (cs : List Int) (hC : ISlice w xv cs) (hl : cs.length ≤ 1048576) (hbase : base ≤ w.heap.size)
    (h : ∀ v' w', w'.ownsRow base 2 1 v' cs.length (cs.map (Value.int .i64)) → w.grownBy w' v0.ownBlock → wpList Tryd.prog ops Q rest (a.put o.dst v') w') : wpList Tryd.prog ops Q (o :: rest) a w := by
  obtain ⟨ad, cap, rfl, -, -, hcx⟩ := hC
  cases ad with
  | none =>
    have h0 : cs = [] := by
      by_cases h0 : 0 < cs.length
      · obtain ⟨b9, o9, e9, -⟩ := hcx h0; cases e9
      · exact List.eq_nil_of_length_eq_zero (by omega)
    subst h0
    exact append_none_cap hgd s x _ ho base _ i 1 Tryd.underlying26 hi v0 0 [] hs hown cap hx (h v0 w hown (World.grownBy.refl _ _))
  | some ad =>
    have hn : ∀ j u, (cs.map (Value.int .i64))[j]? = some u → w.cell? (ad.add j) = some u := by
      by_cases h0 : 0 < cs.length
      · obtain ⟨b9, o9, e9, hb9, hC9⟩ := hcx h0
        cases e9
        exact hC9.news
      · intro j u hj
        rw [List.eq_nil_of_length_eq_zero (show cs.length = 0 by omega)] at hj
        simp at hj
    refine wpList_append_own _ hgd s x _ ho base 2 i (.int .i64 0) 1 8 Tryd.underlying26 hi hz hsize hby rfl (by decide) v0 0 [] hs hown ad cs.length cap (cs.map (Value.int .i64)) hx (by simp) hn (ints_oneCell .i64 cs) (by unfold maxLen; omega) (by omega) hbase ?_
    intro v' w' h1 h2 _
    rw [Nat.zero_add, List.nil_append] at h1
    exact h v' w' h1 h2
set_option maxHeartbeats 4000000 in
set_option maxRecDepth 100000 in
theorem copyOneP (m : Ms) (v u : Value) (w : World) (hL : MLs w v u m) (hl1 : m.certs.length ≤ 1048576) (hl2 : m.refs.length ≤ 1048576) :
    Calls Tryd.prog 47 #[magg m v u] w (MCp w m) := by
  obtain ⟨h1, h2⟩ := hL
  obtain ⟨x1, y1, e1, -, -, -⟩ := _root_.id h1
  obtain ⟨x2, y2, e2, -, -, -⟩ := _root_.id h2
  subst e1 e2
  have hi9 : (Tryd.prog.info? 76).map (fun i => (i.zero, i.size, i.bytes)) = some (some (.agg #[.int .i64 0, .int .i64 0, .int .i64 0]), 3, 24) := by kernel_rfl
  obtain ⟨ti, hti, hxx⟩ := Option.map_eq_some_iff.1 hi9
  simp only [Prod.mk.injEq] at hxx
  obtain ⟨hz0, hz1, hz2⟩ := hxx
  clear hi9
  have hi9 : (Tryd.prog.info? 2).map (fun i => (i.zero, i.size, i.bytes)) = some (some (.int .i64 0), 1, 8) := by kernel_rfl
  obtain ⟨ui, hui, hxx⟩ := Option.map_eq_some_iff.1 hi9
  simp only [Prod.mk.injEq] at hxx
  obtain ⟨hy0, hy1, hy2⟩ := hxx
  clear hi9
  have HBx : Hid (∀ wx : World, Below (w.heap.size + 2) ((w.alloc (.cells #[.int .i64 m.kind, .int .i64 m.view, .int .i64 m.from_, .int .i64 m.slot, .int .i64 m.value, .slice x1 m.certs.length y1, .slice x2 m.refs.length y2] 28)).alloc (.cells #[.int .i64 0, .int .i64 0, .int .i64 0, .int .i64 0, .int .i64 0, .slice none 0 0, .slice none 0 0] 28)) wx → MBoxAt wx w.heap.size m (.slice x1 m.certs.length y1) (.slice x2 m.refs.length y2) ∧ MBoxAt wx (w.heap.size + 1) ⟨0, 0, 0, 0, 0, [], []⟩ (.slice none 0 0) (.slice none 0 0) ∧ Ext w wx ∧ CtSlice wx (.slice x1 m.certs.length y1) m.certs ∧ ISlice wx (.slice x2 m.refs.length y2) m.refs) := fun wx he => by
    have he' : Ext ((w.alloc (.cells #[.int .i64 m.kind, .int .i64 m.view, .int .i64 m.from_, .int .i64 m.slot, .int .i64 m.value, .slice x1 m.certs.length y1, .slice x2 m.refs.length y2] 28)).alloc (.cells #[.int .i64 0, .int .i64 0, .int .i64 0, .int .i64 0, .int .i64 0, .slice none 0 0, .slice none 0 0] 28)) wx := by have h := he; unfold Ext; simpa using h
    have hE : Ext w wx := (((Ext.refl _).alloc _).alloc _).trans he'
    have hz := (mbox_new (w.alloc (.cells #[.int .i64 m.kind, .int .i64 m.view, .int .i64 m.from_, .int .i64 m.slot, .int .i64 m.value, .slice x1 m.certs.length y1, .slice x2 m.refs.length y2] 28)) ⟨0, 0, 0, 0, 0, [], []⟩ (.slice none 0 0) (.slice none 0 0) 28).ext he'
    rw [World.size_alloc] at hz
    exact ⟨((mbox_new w m _ _ _).ext ((Ext.refl _).alloc _)).ext he', hz, hE, h1.ext hE, h2.ext hE⟩
  have HW0 : Hid (CtSlice (((w.alloc (.cells #[.int .i64 m.kind, .int .i64 m.view, .int .i64 m.from_, .int .i64 m.slot, .int .i64 m.value, .slice x1 m.certs.length y1, .slice x2 m.refs.length y2] 28)).alloc (.cells #[.int .i64 0, .int .i64 0, .int .i64 0, .int .i64 0, .int .i64 0, .slice none 0 0, .slice none 0 0] 28)).alloc (.cells #[] 76)) (.slice x1 m.certs.length y1) m.certs) := (HBx.out _ ((Below.refl _ _).alloc (by simp) _)).2.2.2.1
  have HO0 : Hid ((((w.alloc (.cells #[.int .i64 m.kind, .int .i64 m.view, .int .i64 m.from_, .int .i64 m.slot, .int .i64 m.value, .slice x1 m.certs.length y1, .slice x2 m.refs.length y2] 28)).alloc (.cells #[.int .i64 0, .int .i64 0, .int .i64 0, .int .i64 0, .int .i64 0, .slice none 0 0, .slice none 0 0] 28)).alloc (.cells #[] 76)).ownsRow (w.heap.size + 2) 76 3 (.slice (some ⟨w.heap.size + 1 + 1, 0, none⟩) 0 0) 0 []) := by
    have h := World.ownsRow_made (base := w.heap.size + 2) (e := 76) (size := 3) ((w.alloc (.cells #[.int .i64 m.kind, .int .i64 m.view, .int .i64 m.from_, .int .i64 m.slot, .int .i64 m.value, .slice x1 m.certs.length y1, .slice x2 m.refs.length y2] 28)).alloc (.cells #[.int .i64 0, .int .i64 0, .int .i64 0, .int .i64 0, .int .i64 0, .slice none 0 0, .slice none 0 0] 28)) #[] 0 (by simp) (by unfold maxLen; omega) rfl
    simp only [World.size_alloc] at h
    exact h
  clear h1
  unfold magg
  go_enter Tryd.func47, Tryd.ntmps47
  go_wp2_with (first
    | (at_builtin; refine appC rfl _ _ rfl (w.heap.size + 2) ti hti hz0 hz1 hz2 _ rfl HO0.out _ rfl m.certs HW0.out hl1 (by simp <;> omega) ?_; intro v3 w3 hown3 hgrow3; obtain ⟨a3, c3, rfl⟩ := owns_form6 hown3; have hbl3 : Below (w.heap.size + 2) ((w.alloc (.cells #[.int .i64 m.kind, .int .i64 m.view, .int .i64 m.from_, .int .i64 m.slot, .int .i64 m.value, .slice x1 m.certs.length y1, .slice x2 m.refs.length y2] 28)).alloc (.cells #[.int .i64 0, .int .i64 0, .int .i64 0, .int .i64 0, .int .i64 0, .slice none 0 0, .slice none 0 0] 28)) w3 := Below.grown ((Below.refl _ _).alloc (by simp) _) hgrow3 (by simp <;> omega) (fun q hq => (HO0.out.lt q hq).1); have hs3 : w.heap.size + 2 ≤ w3.heap.size := (by have := Below.size hbl3; simpa using this); have HB3 : Hid (MBoxAt w3 w.heap.size m (.slice x1 m.certs.length y1) (.slice x2 m.refs.length y2) ∧ MBoxAt w3 (w.heap.size + 1) ⟨0, 0, 0, 0, 0, [], []⟩ (.slice none 0 0) (.slice none 0 0) ∧ Ext w w3 ∧ CtSlice w3 (.slice x1 m.certs.length y1) m.certs ∧ ISlice w3 (.slice x2 m.refs.length y2) m.refs) := HBx.out _ hbl3; have HO3 : Hid (w3.ownsRow (w.heap.size + 2) 76 3 (.slice a3 m.certs.length c3) m.certs.length (cellsCt m.certs)) := hown3; have HW3 : Hid (ISlice ((w3.setCell ⟨w.heap.size, 5, none⟩ (.slice a3 m.certs.length c3)).alloc (.cells #[] 2)) (.slice x2 m.refs.length y2) m.refs) := h2.ext ((HB3.out.2.2.1.setCell (p := ⟨w.heap.size, 5, none⟩) (Nat.le_refl _) _).alloc _); have HO1 : Hid (((w3.setCell ⟨w.heap.size, 5, none⟩ (.slice a3 m.certs.length c3)).alloc (.cells #[] 2)).ownsRow w3.heap.size 2 1 (.slice (some ⟨w3.heap.size, 0, none⟩) 0 0) 0 []) := (by have h := World.ownsRow_made (base := w3.heap.size) (e := 2) (size := 1) (w3.setCell ⟨w.heap.size, 5, none⟩ (.slice a3 m.certs.length c3)) #[] 0 (by simp) (by unfold maxLen; omega) rfl; simp only [World.size_setCell] at h; exact h); have q6 : ((w3.setCell ⟨w.heap.size, 5, none⟩ (.slice a3 m.certs.length c3)).alloc (.cells #[] 2)).cell? ⟨w.heap.size, 6, none⟩ = some (.slice x2 m.refs.length y2) := (alloc_cell _ _ _ _ (by rw [World.size_setCell]; omega)).trans (by rw [iset_ne _ _ _ _ _ _ (by omega)]; exact HB3.out.1.2.1.2.2.2.2.2.2); clear hown3 hgrow3 hbl3; obtain ⟨-, ⟨p0, p1, p2, p3, p4, p5, p6⟩, f0, f1, f2, f3, f4, f5, f6⟩ := HB3.out.1)
    | (at_builtin; refine appI rfl _ _ rfl w3.heap.size ui hui hy0 hy1 hy2 _ rfl HO1.out _ rfl m.refs HW3.out hl2 (by simp) ?_; intro v4 w4 hown4 hgrow4; obtain ⟨a4, c4, rfl⟩ := owns_form6 hown4; have hbl4 : Below w3.heap.size (w3.setCell ⟨w.heap.size, 5, none⟩ (.slice a3 m.certs.length c3)) w4 := Below.grown ((Below.refl _ _).alloc (by simp) _) hgrow4 (by simp) (fun q hq => (HO1.out.lt q hq).1); have hs4 : w3.heap.size ≤ w4.heap.size := (by have := Below.size hbl4; simpa using this); have he4 : Ext (w3.setCell ⟨w.heap.size, 5, none⟩ (.slice a3 m.certs.length c3)) w4 := (by unfold Ext; simpa using hbl4); have HA4 : Hid (MBoxAt w4 w.heap.size m (.slice a3 m.certs.length c3) (.slice x2 m.refs.length y2) ∧ MBoxAt w4 (w.heap.size + 1) ⟨0, 0, 0, 0, 0, [], []⟩ (.slice none 0 0) (.slice none 0 0) ∧ Ext w w4) := ⟨HB3.out.1.set5.ext he4, (HB3.out.2.1.set_ne (by omega)).ext he4, (HB3.out.2.2.1.setCell (p := ⟨w.heap.size, 5, none⟩) (Nat.le_refl _) _).trans he4⟩; have HO4 : Hid (w4.ownsRow (w.heap.size + 2) 76 3 (.slice a3 m.certs.length c3) m.certs.length (cellsCt m.certs) ∧ w4.ownsRow w3.heap.size 2 1 (.slice a4 m.refs.length c4) m.refs.length (m.refs.map (Value.int .i64)) ∧ (∀ q, (Value.slice a3 m.certs.length c3).ownBlock = some q → q < w3.heap.size)) := ⟨owns_ext6 (ownsRow_setCell_below HO3.out (a := ⟨w.heap.size, 5, none⟩) (by show w.heap.size < w.heap.size + 2; omega) _) he4, hown4, fun q hq => (HO3.out.lt q hq).2⟩; clear hown4 hgrow4 hbl4 he4 p0 p1 p2 p3 p4 p5 p6 f0 f1 f2 f3 f4 f5 f6; obtain ⟨-, ⟨p0, p1, p2, p3, p4, p5, p6⟩, f0, f1, f2, f3, f4, f5, f6⟩ := HA4.out.1; obtain ⟨-, ⟨r0, r1, r2, r3, r4, r5, r6⟩, g0, g1, g2, g3, g4, g5, g6⟩ := HA4.out.2.1))
  refine bodyPost_ret (v := magg m (.slice a3 m.certs.length c3) (.slice a4 m.refs.length c4)) (by simp [results, Tryd.results47, go_sem, magg, *]) rfl ⟨_, _, rfl, ?_, ?_, ?_⟩
  · refine Dr.own_base (base := w.heap.size + 2) ?_ (by omega)
    iterate 7 (refine ownsRow_setCell_below ?_ (by show w.heap.size + 1 < w.heap.size + 2; omega) _)
    exact ownsRow_setCell_below HO4.out.1 (a := ⟨w.heap.size, 6, none⟩) (by show w.heap.size < w.heap.size + 2; omega) _
  · refine Dr.own_base (base := w3.heap.size) ?_ (by omega)
    iterate 7 (refine ownsRow_setCell_below ?_ (by show w.heap.size + 1 < w3.heap.size; omega) _)
    exact ownsRow_setCell_below HO4.out.2.1 (a := ⟨w.heap.size, 6, none⟩) (by show w.heap.size < w3.heap.size; omega) _
  · iterate 7 (refine Ext.setCell ?_ (by show w.heap.size ≤ w.heap.size + 1; omega) _)
    exact HA4.out.2.2.setCell (p := ⟨w.heap.size, 6, none⟩) (Nat.le_refl _) _
set_option maxHeartbeats 4000000 in
set_option maxRecDepth 100000 in
theorem copyMsgP (m : Ms) (v u : Value) (w : World) (hL : MLs w v u m) (hl1 : m.certs.length ≤ 1048576) (hl2 : m.refs.length ≤ 1048576) :
    Calls Tryd.prog 22 #[magg m v u] w (MCp w m) := by
  obtain ⟨h1, h2⟩ := hL
  obtain ⟨x1, y1, e1, -, -, -⟩ := _root_.id h1
  obtain ⟨x2, y2, e2, -, -, -⟩ := _root_.id h2
  subst e1 e2
  have hi9 : (Tryd.prog.info? 76).map (fun i => (i.zero, i.size, i.bytes)) = some (some (.agg #[.int .i64 0, .int .i64 0, .int .i64 0]), 3, 24) := by kernel_rfl
  obtain ⟨ti, hti, hxx⟩ := Option.map_eq_some_iff.1 hi9
  simp only [Prod.mk.injEq] at hxx
  obtain ⟨hz0, hz1, hz2⟩ := hxx
  clear hi9
  have hi9 : (Tryd.prog.info? 2).map (fun i => (i.zero, i.size, i.bytes)) = some (some (.int .i64 0), 1, 8) := by kernel_rfl
  obtain ⟨ui, hui, hxx⟩ := Option.map_eq_some_iff.1 hi9
  simp only [Prod.mk.injEq] at hxx
  obtain ⟨hy0, hy1, hy2⟩ := hxx
  clear hi9
  have HBx : Hid (∀ wx : World, Below (w.heap.size + 2) ((w.alloc (.cells #[.int .i64 m.kind, .int .i64 m.view, .int .i64 m.from_, .int .i64 m.slot, .int .i64 m.value, .slice x1 m.certs.length y1, .slice x2 m.refs.length y2] 28)).alloc (.cells #[.int .i64 0, .int .i64 0, .int .i64 0, .int .i64 0, .int .i64 0, .slice none 0 0, .slice none 0 0] 28)) wx → MBoxAt wx w.heap.size m (.slice x1 m.certs.length y1) (.slice x2 m.refs.length y2) ∧ MBoxAt wx (w.heap.size + 1) ⟨0, 0, 0, 0, 0, [], []⟩ (.slice none 0 0) (.slice none 0 0) ∧ Ext w wx ∧ CtSlice wx (.slice x1 m.certs.length y1) m.certs ∧ ISlice wx (.slice x2 m.refs.length y2) m.refs) := fun wx he => by
    have he' : Ext ((w.alloc (.cells #[.int .i64 m.kind, .int .i64 m.view, .int .i64 m.from_, .int .i64 m.slot, .int .i64 m.value, .slice x1 m.certs.length y1, .slice x2 m.refs.length y2] 28)).alloc (.cells #[.int .i64 0, .int .i64 0, .int .i64 0, .int .i64 0, .int .i64 0, .slice none 0 0, .slice none 0 0] 28)) wx := by have h := he; unfold Ext; simpa using h
    have hE : Ext w wx := (((Ext.refl _).alloc _).alloc _).trans he'
    have hz := (mbox_new (w.alloc (.cells #[.int .i64 m.kind, .int .i64 m.view, .int .i64 m.from_, .int .i64 m.slot, .int .i64 m.value, .slice x1 m.certs.length y1, .slice x2 m.refs.length y2] 28)) ⟨0, 0, 0, 0, 0, [], []⟩ (.slice none 0 0) (.slice none 0 0) 28).ext he'
    rw [World.size_alloc] at hz
    exact ⟨((mbox_new w m _ _ _).ext ((Ext.refl _).alloc _)).ext he', hz, hE, h1.ext hE, h2.ext hE⟩
  have HW0 : Hid (CtSlice ((w.alloc (.cells #[.int .i64 m.kind, .int .i64 m.view, .int .i64 m.from_, .int .i64 m.slot, .int .i64 m.value, .slice x1 m.certs.length y1, .slice x2 m.refs.length y2] 28)).alloc (.cells #[.int .i64 0, .int .i64 0, .int .i64 0, .int .i64 0, .int .i64 0, .slice none 0 0, .slice none 0 0] 28)) (.slice x1 m.certs.length y1) m.certs) := (HBx.out _ (Below.refl _ _)).2.2.2.1
  clear h1
  unfold magg
  go_enter Tryd.func22, Tryd.ntmps22
  go_wp2_with (first
    | (at_builtin; refine appC rfl _ _ rfl (w.heap.size + 2) ti hti hz0 hz1 hz2 _ rfl (World.ownsRow_nil _ _ _ _) _ rfl m.certs HW0.out hl1 (by simp <;> omega) ?_; intro v3 w3 hown3 hgrow3; obtain ⟨a3, c3, rfl⟩ := owns_form6 hown3; have hbl3 : Below (w.heap.size + 2) ((w.alloc (.cells #[.int .i64 m.kind, .int .i64 m.view, .int .i64 m.from_, .int .i64 m.slot, .int .i64 m.value, .slice x1 m.certs.length y1, .slice x2 m.refs.length y2] 28)).alloc (.cells #[.int .i64 0, .int .i64 0, .int .i64 0, .int .i64 0, .int .i64 0, .slice none 0 0, .slice none 0 0] 28)) w3 := Below.grown (Below.refl _ _) hgrow3 (by simp) (fun q hq => by cases hq); have hs3 : w.heap.size + 2 ≤ w3.heap.size := (by have := Below.size hbl3; simpa using this); have HB3 : Hid (MBoxAt w3 w.heap.size m (.slice x1 m.certs.length y1) (.slice x2 m.refs.length y2) ∧ MBoxAt w3 (w.heap.size + 1) ⟨0, 0, 0, 0, 0, [], []⟩ (.slice none 0 0) (.slice none 0 0) ∧ Ext w w3 ∧ CtSlice w3 (.slice x1 m.certs.length y1) m.certs ∧ ISlice w3 (.slice x2 m.refs.length y2) m.refs) := HBx.out _ hbl3; have HO3 : Hid (w3.ownsRow (w.heap.size + 2) 76 3 (.slice a3 m.certs.length c3) m.certs.length (cellsCt m.certs)) := hown3; have HW3 : Hid (ISlice (w3.setCell ⟨w.heap.size, 5, none⟩ (.slice a3 m.certs.length c3)) (.slice x2 m.refs.length y2) m.refs) := h2.ext (HB3.out.2.2.1.setCell (p := ⟨w.heap.size, 5, none⟩) (Nat.le_refl _) _); clear hown3 hgrow3 hbl3; obtain ⟨-, ⟨p0, p1, p2, p3, p4, p5, p6⟩, f0, f1, f2, f3, f4, f5, f6⟩ := HB3.out.1)
    | (at_builtin; refine appI rfl _ _ rfl w3.heap.size ui hui hy0 hy1 hy2 _ rfl (World.ownsRow_nil _ _ _ _) _ rfl m.refs HW3.out hl2 (by simp) ?_; intro v4 w4 hown4 hgrow4; obtain ⟨a4, c4, rfl⟩ := owns_form6 hown4; have hbl4 : Below w3.heap.size (w3.setCell ⟨w.heap.size, 5, none⟩ (.slice a3 m.certs.length c3)) w4 := Below.grown (Below.refl _ _) hgrow4 (by simp) (fun q hq => by cases hq); have hs4 : w3.heap.size ≤ w4.heap.size := (by have := Below.size hbl4; simpa using this); have he4 : Ext (w3.setCell ⟨w.heap.size, 5, none⟩ (.slice a3 m.certs.length c3)) w4 := (by unfold Ext; simpa using hbl4); have HA4 : Hid (MBoxAt w4 w.heap.size m (.slice a3 m.certs.length c3) (.slice x2 m.refs.length y2) ∧ MBoxAt w4 (w.heap.size + 1) ⟨0, 0, 0, 0, 0, [], []⟩ (.slice none 0 0) (.slice none 0 0) ∧ Ext w w4) := ⟨HB3.out.1.set5.ext he4, (HB3.out.2.1.set_ne (by omega)).ext he4, (HB3.out.2.2.1.setCell (p := ⟨w.heap.size, 5, none⟩) (Nat.le_refl _) _).trans he4⟩; have HO4 : Hid (w4.ownsRow (w.heap.size + 2) 76 3 (.slice a3 m.certs.length c3) m.certs.length (cellsCt m.certs) ∧ w4.ownsRow w3.heap.size 2 1 (.slice a4 m.refs.length c4) m.refs.length (m.refs.map (Value.int .i64)) ∧ (∀ q, (Value.slice a3 m.certs.length c3).ownBlock = some q → q < w3.heap.size)) := ⟨owns_ext6 (ownsRow_setCell_below HO3.out (a := ⟨w.heap.size, 5, none⟩) (by show w.heap.size < w.heap.size + 2; omega) _) he4, hown4, fun q hq => (HO3.out.lt q hq).2⟩; clear hown4 hgrow4 hbl4 he4 p0 p1 p2 p3 p4 p5 p6 f0 f1 f2 f3 f4 f5 f6; obtain ⟨-, ⟨p0, p1, p2, p3, p4, p5, p6⟩, f0, f1, f2, f3, f4, f5, f6⟩ := HA4.out.1; obtain ⟨-, ⟨r0, r1, r2, r3, r4, r5, r6⟩, g0, g1, g2, g3, g4, g5, g6⟩ := HA4.out.2.1))
  refine bodyPost_ret (v := magg m (.slice a3 m.certs.length c3) (.slice a4 m.refs.length c4)) (by simp [results, Tryd.results22, go_sem, magg, *]) rfl ⟨_, _, rfl, ?_, ?_, ?_⟩
  · refine Dr.own_base (base := w.heap.size + 2) ?_ (by omega)
    iterate 7 (refine ownsRow_setCell_below ?_ (by show w.heap.size + 1 < w.heap.size + 2; omega) _)
    exact ownsRow_setCell_below HO4.out.1 (a := ⟨w.heap.size, 6, none⟩) (by show w.heap.size < w.heap.size + 2; omega) _
  · refine Dr.own_base (base := w3.heap.size) ?_ (by omega)
    iterate 7 (refine ownsRow_setCell_below ?_ (by show w.heap.size + 1 < w3.heap.size; omega) _)
    exact ownsRow_setCell_below HO4.out.2.1 (a := ⟨w.heap.size, 6, none⟩) (by show w.heap.size < w3.heap.size; omega) _
  · iterate 7 (refine Ext.setCell ?_ (by show w.heap.size ≤ w.heap.size + 1; omega) _)
    exact HA4.out.2.2.setCell (p := ⟨w.heap.size, 6, none⟩) (Nat.le_refl _) _
end Go.Proofs.YtpncnfodgfldlaaDoor
