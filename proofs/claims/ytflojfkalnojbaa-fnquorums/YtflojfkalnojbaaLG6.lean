/- copies of a message: certificates' cells in a row, lists copied by append. -/
import Derived.Test.YtflojfkalnojbaaLG4
import Derived.Test.YtflojfkalnojbaaH10
import Derived.Laws.AppendOwnNone
namespace Go.Proofs.Ytflojfkalnojbaa
open Go.RowKit
def cellsCt (l : List Ct) : List Value := l.flatMap fun s => [.int .i64 s.slot, .int .i64 s.view, .int .i64 s.value]
theorem cellsCt_len (l : List Ct) : (cellsCt l).length = l.length * 3 := by
  induction l with
  | nil => rfl
  | cons s r ih => simp only [cellsCt, List.flatMap_cons, List.length_append, List.length_cons, List.length_nil] at ih ⊢; omega
theorem cellsCt_at : ∀ (l : List Ct) (i : Nat) (s : Ct), l[i]? = some s → (cellsCt l)[i * 3]? = some (.int .i64 s.slot) ∧ (cellsCt l)[i * 3 + 1]? = some (.int .i64 s.view) ∧ (cellsCt l)[i * 3 + 2]? = some (.int .i64 s.value)
  | s :: r, 0, t, h => by simp at h; subst h; exact ⟨rfl, rfl, rfl⟩
  | s :: r, i + 1, t, h => by
    simp only [List.getElem?_cons_succ] at h
    have := cellsCt_at r i t h
    rw [show (i + 1) * 3 = i * 3 + 1 + 1 + 1 from by omega]
    exact this
  | [], i, t, h => by simp at h
theorem cellsCt_get : ∀ (l : List Ct) (j : Nat) (u : Value), (cellsCt l)[j]? = some u → ∃ i s, l[i]? = some s ∧ ((j = i * 3 ∧ u = .int .i64 s.slot) ∨ (j = i * 3 + 1 ∧ u = .int .i64 s.view) ∨ (j = i * 3 + 2 ∧ u = .int .i64 s.value))
  | [], j, u, h => by simp [cellsCt] at h
  | s :: r, 0, u, h => by simp [cellsCt] at h; exact ⟨0, s, rfl, Or.inl ⟨rfl, h.symm⟩⟩
  | s :: r, 1, u, h => by simp [cellsCt] at h; exact ⟨0, s, rfl, Or.inr (Or.inl ⟨rfl, h.symm⟩)⟩
  | s :: r, 2, u, h => by simp [cellsCt] at h; exact ⟨0, s, rfl, Or.inr (Or.inr ⟨rfl, h.symm⟩)⟩
  | s :: r, j + 3, u, h => by
    have h' : (cellsCt r)[j]? = some u := by simpa [cellsCt] using h
    obtain ⟨i, t, q1, q2⟩ := cellsCt_get r j u h'
    refine ⟨i + 1, t, by simpa using q1, ?_⟩
    rcases q2 with ⟨q, e⟩ | ⟨q, e⟩ | ⟨q, e⟩
    · exact Or.inl ⟨by omega, e⟩
    · exact Or.inr (Or.inl ⟨by omega, e⟩)
    · exact Or.inr (Or.inr ⟨by omega, e⟩)
theorem CtsAt.news {w : World} {b off : Nat} {l : List Ct} (h : CtsAt w b off l) : ∀ j u, (cellsCt l)[j]? = some u → w.cell? ((⟨b, off, none⟩ : Addr).add j) = some u := by
  intro j u hu
  rw [Addr.add_lit]
  obtain ⟨i, s, hs, q⟩ := cellsCt_get l j u hu
  obtain ⟨c0, c1, c2⟩ := h i s hs
  rcases q with ⟨rfl, rfl⟩ | ⟨rfl, rfl⟩ | ⟨rfl, rfl⟩
  · exact c0
  · rw [← Nat.add_assoc]; exact c1
  · rw [← Nat.add_assoc]; exact c2
theorem cellsCt_one (l : List Ct) : ∀ u ∈ cellsCt l, u.oneCell' = true := by
  intro u hu
  simp only [cellsCt, List.mem_flatMap] at hu
  obtain ⟨s, _, hs⟩ := hu
  simp at hs
  rcases hs with rfl | rfl | rfl <;> rfl
theorem NumsAt.news {w : World} {b off : Nat} {l : List Int} (h : NumsAt w b off l) : ∀ j u, (l.map (Value.int .i64))[j]? = some u → w.cell? ((⟨b, off, none⟩ : Addr).add j) = some u := by
  intro j u hu
  rw [Addr.add_lit]
  rw [List.getElem?_map] at hu
  obtain ⟨x, hx, rfl⟩ := Option.map_eq_some_iff.1 hu
  exact h j x hx
theorem owns_form6 {w : World} {B : Nat} {e : TypeId} {s : Nat} {v : Value} {n : Nat} {xs : List Value} (h : w.ownsRow B e s v n xs) : ∃ a c, v = .slice a n c := by
  rcases h.2 with ⟨hv, h0⟩ | ⟨g, cap, cur, hv, -⟩
  · exact ⟨none, 0, by rw [hv, h0]⟩
  · exact ⟨_, cap, hv⟩
theorem owns_ext6 {B : Nat} {e : TypeId} {k : Nat} {v : Value} {n : Nat} {xs : List Value} {w w' : World} (h : w.ownsRow B e k v n xs) (hb : Ext w w') : w'.ownsRow B e k v n xs := by
  refine ⟨h.1, ?_⟩
  rcases h.2 with h0 | ⟨g, cap, cur, h1, h2, h3, h4⟩
  · exact .inl h0
  · exact .inr ⟨g, cap, cur, h1, h2, (Below.block hb g (Array.getElem?_eq_some_iff.1 h3).1).trans h3, h4⟩
theorem ctown_of_owns {w : World} {base : Nat} {v : Value} {l : List Ct} (h : w.ownsRow base 38 3 v l.length (cellsCt l)) : ∃ g, base ≤ g ∧ CtOwn w v g l := by
  have hlt := h.lt
  rcases h.2 with ⟨hv, h0⟩ | ⟨g, cap, cur, hv, hb, hh, hn, hm, hcs, htk⟩
  · exact ⟨base, Nat.le_refl _, none, 0, by rw [hv, h0], by omega, by unfold maxLen; omega, fun h => by omega⟩
  · subst hv
    refine ⟨g, hb, some ⟨g, 0, none⟩, cap, rfl, hn, hm, fun h0 => ⟨0, rfl, ⟨(hlt g rfl).2, fun j hj => ⟨?_, h.frozenAt _⟩⟩, fun i s hs => ?_⟩⟩
    · have hj' : j < (cellsCt l).length := by rw [cellsCt_len]; exact hj
      rw [Nat.zero_add]
      exact ⟨(cellsCt l)[j], by rw [h.cellAt j hj, List.getElem?_eq_getElem hj']⟩
    · obtain ⟨h1, h2, h3⟩ := cellsCt_at l i s hs
      have hi := (List.getElem?_eq_some_iff.1 hs).1
      rw [Nat.zero_add]
      exact ⟨by rw [h.cellAt _ (by omega)]; exact h1, by rw [h.cellAt _ (by omega)]; exact h2, by rw [h.cellAt _ (by omega)]; exact h3⟩

/-- A copy of m came back, its lists in new memory, each in its own. -/
def MCopy (w : World) (m : Ms) (e : Ending) (w' : World) : Prop := ∃ x y g h, e = .returned (magg m x y) ∧ w.heap.size ≤ g ∧ g < h ∧ h ≤ w'.heap.size ∧ CtOwn w' x g m.certs ∧ Led.IOwn w' y h m.refs ∧ Ext w w'
set_option maxHeartbeats 4000000 in
set_option maxRecDepth 100000 in
theorem copyMsg_any (m : Ms) (b1 o1 c b2 o2 c' : Nat) (w : World) (hb1 : b1 < w.heap.size) (hb2 : b2 < w.heap.size) (h1 : CtsAt w b1 o1 m.certs) (h2 : NumsAt w b2 o2 m.refs) (hl1 : m.certs.length ≤ 1048576) (hl2 : m.refs.length ≤ 1048576) :
    Calls Try.prog 106 #[magg m (.slice (some ⟨b1, o1, none⟩) m.certs.length c) (.slice (some ⟨b2, o2, none⟩) m.refs.length c')] w (MCopy w m) := by
  have hi9 : (Try.prog.info? 38).map (fun i => (i.zero, i.size, i.bytes)) = some (some (.agg #[.int .i64 0, .int .i64 0, .int .i64 0]), 3, 24) := by kernel_rfl
  obtain ⟨ti, hti, hxx⟩ := Option.map_eq_some_iff.1 hi9
  simp only [Prod.mk.injEq] at hxx
  obtain ⟨hz0, hz1, hz2⟩ := hxx
  clear hi9
  have hi9 : (Try.prog.info? 2).map (fun i => (i.zero, i.size, i.bytes)) = some (some (.int .i64 0), 1, 8) := by kernel_rfl
  obtain ⟨ui, hui, hxx⟩ := Option.map_eq_some_iff.1 hi9
  simp only [Prod.mk.injEq] at hxx
  obtain ⟨hy0, hy1, hy2⟩ := hxx
  clear hi9
  have HBx : Hid (∀ wx : World, Below (w.heap.size + 2) ((w.alloc (.cells #[.int .i64 m.kind, .int .i64 m.view, .int .i64 m.from_, .int .i64 m.slot, .int .i64 m.value, .slice (some ⟨b1, o1, none⟩) m.certs.length c, .slice (some ⟨b2, o2, none⟩) m.refs.length c'] 28)).alloc (.cells #[.int .i64 0, .int .i64 0, .int .i64 0, .int .i64 0, .int .i64 0, .slice none 0 0, .slice none 0 0] 28)) wx → MBoxAt wx w.heap.size m (.slice (some ⟨b1, o1, none⟩) m.certs.length c) (.slice (some ⟨b2, o2, none⟩) m.refs.length c') ∧ MBoxAt wx (w.heap.size + 1) ⟨0, 0, 0, 0, 0, [], []⟩ (.slice none 0 0) (.slice none 0 0) ∧ Ext w wx ∧ CtsAt wx b1 o1 m.certs ∧ NumsAt wx b2 o2 m.refs) := fun wx he => by
    have he' : Ext ((w.alloc (.cells #[.int .i64 m.kind, .int .i64 m.view, .int .i64 m.from_, .int .i64 m.slot, .int .i64 m.value, .slice (some ⟨b1, o1, none⟩) m.certs.length c, .slice (some ⟨b2, o2, none⟩) m.refs.length c'] 28)).alloc (.cells #[.int .i64 0, .int .i64 0, .int .i64 0, .int .i64 0, .int .i64 0, .slice none 0 0, .slice none 0 0] 28)) wx := by have h := he; unfold Ext; simpa using h
    have hE : Ext w wx := (((Ext.refl _).alloc _).alloc _).trans he'
    have hz := (mbox_new (w.alloc (.cells #[.int .i64 m.kind, .int .i64 m.view, .int .i64 m.from_, .int .i64 m.slot, .int .i64 m.value, .slice (some ⟨b1, o1, none⟩) m.certs.length c, .slice (some ⟨b2, o2, none⟩) m.refs.length c'] 28)) ⟨0, 0, 0, 0, 0, [], []⟩ (.slice none 0 0) (.slice none 0 0) 28).ext he'
    rw [World.size_alloc] at hz
    exact ⟨((mbox_new w m _ _ _).ext ((Ext.refl _).alloc _)).ext he', hz, hE, h1.ext hb1 hE, h2.ext hb2 hE⟩
  have HW0 : Hid (CtsAt ((w.alloc (.cells #[.int .i64 m.kind, .int .i64 m.view, .int .i64 m.from_, .int .i64 m.slot, .int .i64 m.value, .slice (some ⟨b1, o1, none⟩) m.certs.length c, .slice (some ⟨b2, o2, none⟩) m.refs.length c'] 28)).alloc (.cells #[.int .i64 0, .int .i64 0, .int .i64 0, .int .i64 0, .int .i64 0, .slice none 0 0, .slice none 0 0] 28)) b1 o1 m.certs) := (HBx.out _ (Below.refl _ _)).2.2.2.1
  clear h1 h2
  unfold magg
  go_enter Try.func106, Try.ntmps106
  go_wp2_with (first
    | (at_builtin; refine wpList_append_own _ rfl _ _ 25 rfl (w.heap.size + 2) 38 ti (.agg #[.int .i64 0, .int .i64 0, .int .i64 0]) 3 24 Try.underlying25 hti hz0 hz1 hz2 rfl (by decide) (.slice none 0 0) 0 [] rfl (World.ownsRow_nil _ _ _ _) ⟨b1, o1, none⟩ m.certs.length c (cellsCt m.certs) rfl (cellsCt_len _) HW0.out.news (cellsCt_one _) (by unfold maxLen; omega) (by omega) (by simp <;> omega) ?_; intro v3 w3 hown3 hgrow3 hnil3; rw [Nat.zero_add, List.nil_append] at hown3; obtain ⟨a3, c3, rfl⟩ := owns_form6 hown3; have hbl3 : Below (w.heap.size + 2) ((w.alloc (.cells #[.int .i64 m.kind, .int .i64 m.view, .int .i64 m.from_, .int .i64 m.slot, .int .i64 m.value, .slice (some ⟨b1, o1, none⟩) m.certs.length c, .slice (some ⟨b2, o2, none⟩) m.refs.length c'] 28)).alloc (.cells #[.int .i64 0, .int .i64 0, .int .i64 0, .int .i64 0, .int .i64 0, .slice none 0 0, .slice none 0 0] 28)) w3 := Below.grown (Below.refl _ _) hgrow3 (by simp) (fun q hq => by cases hq); have hs3 : w.heap.size + 2 ≤ w3.heap.size := (by have := Below.size hbl3; simpa using this); have HB3 : Hid (MBoxAt w3 w.heap.size m (.slice (some ⟨b1, o1, none⟩) m.certs.length c) (.slice (some ⟨b2, o2, none⟩) m.refs.length c') ∧ MBoxAt w3 (w.heap.size + 1) ⟨0, 0, 0, 0, 0, [], []⟩ (.slice none 0 0) (.slice none 0 0) ∧ Ext w w3 ∧ CtsAt w3 b1 o1 m.certs ∧ NumsAt w3 b2 o2 m.refs) := HBx.out _ hbl3; have HO3 : Hid (w3.ownsRow (w.heap.size + 2) 38 3 (.slice a3 m.certs.length c3) m.certs.length (cellsCt m.certs)) := hown3; have HW3 : Hid (NumsAt (w3.setCell ⟨w.heap.size, 5, none⟩ (.slice a3 m.certs.length c3)) b2 o2 m.refs) := HB3.out.2.2.2.2.set_ne (by omega); clear hown3 hgrow3 hnil3 hbl3; obtain ⟨-, ⟨p0, p1, p2, p3, p4, p5, p6⟩, f0, f1, f2, f3, f4, f5, f6⟩ := HB3.out.1)
    | (at_builtin; refine wpList_append_own _ rfl _ _ 26 rfl w3.heap.size 2 ui (.int .i64 0) 1 8 Try.underlying26 hui hy0 hy1 hy2 rfl (by decide) (.slice none 0 0) 0 [] rfl (World.ownsRow_nil _ _ _ _) ⟨b2, o2, none⟩ m.refs.length c' (m.refs.map (Value.int .i64)) rfl (by simp) HW3.out.news (ints_oneCell .i64 m.refs) (by unfold maxLen; omega) (by omega) (by simp) ?_; intro v4 w4 hown4 hgrow4 hnil4; rw [Nat.zero_add, List.nil_append] at hown4; obtain ⟨a4, c4, rfl⟩ := owns_form6 hown4; have hbl4 : Below w3.heap.size (w3.setCell ⟨w.heap.size, 5, none⟩ (.slice a3 m.certs.length c3)) w4 := Below.grown (Below.refl _ _) hgrow4 (by simp) (fun q hq => by cases hq); have hs4 : w3.heap.size ≤ w4.heap.size := (by have := Below.size hbl4; simpa using this); have he4 : Ext (w3.setCell ⟨w.heap.size, 5, none⟩ (.slice a3 m.certs.length c3)) w4 := (by unfold Ext; simpa using hbl4); have HA4 : Hid (MBoxAt w4 w.heap.size m (.slice a3 m.certs.length c3) (.slice (some ⟨b2, o2, none⟩) m.refs.length c') ∧ MBoxAt w4 (w.heap.size + 1) ⟨0, 0, 0, 0, 0, [], []⟩ (.slice none 0 0) (.slice none 0 0) ∧ Ext w w4) := ⟨HB3.out.1.set5.ext he4, (HB3.out.2.1.set_ne (by omega)).ext he4, (HB3.out.2.2.1.setCell (p := ⟨w.heap.size, 5, none⟩) (Nat.le_refl _) _).trans he4⟩; have HO4 : Hid (w4.ownsRow (w.heap.size + 2) 38 3 (.slice a3 m.certs.length c3) m.certs.length (cellsCt m.certs) ∧ w4.ownsRow w3.heap.size 2 1 (.slice a4 m.refs.length c4) m.refs.length (m.refs.map (Value.int .i64)) ∧ (∀ q, (Value.slice a3 m.certs.length c3).ownBlock = some q → q < w3.heap.size)) := ⟨owns_ext6 (ownsRow_setCell_below HO3.out (a := ⟨w.heap.size, 5, none⟩) (by show w.heap.size < w.heap.size + 2; omega) _) he4, hown4, fun q hq => (HO3.out.lt q hq).2⟩; clear hown4 hgrow4 hnil4 hbl4 he4 p0 p1 p2 p3 p4 p5 p6 f0 f1 f2 f3 f4 f5 f6; obtain ⟨-, ⟨p0, p1, p2, p3, p4, p5, p6⟩, f0, f1, f2, f3, f4, f5, f6⟩ := HA4.out.1; obtain ⟨-, ⟨r0, r1, r2, r3, r4, r5, r6⟩, g0, g1, g2, g3, g4, g5, g6⟩ := HA4.out.2.1))
  obtain ⟨g, hg, hg3, hC⟩ : ∃ g, w.heap.size ≤ g ∧ g < w3.heap.size ∧ (g ≠ w.heap.size ∧ g ≠ w.heap.size + 1 ∨ ¬ 0 < m.certs.length) ∧ CtOwn w4 (.slice a3 m.certs.length c3) g m.certs := by
    obtain ⟨g, hg, hC⟩ := ctown_of_owns HO4.out.1
    by_cases h0 : 0 < m.certs.length
    · obtain ⟨a0, cap0, e, -, -, h4⟩ := id hC
      obtain ⟨off, ha, -, -⟩ := h4 h0
      injection e with e1 _ _
      rw [ha] at e1
      exact ⟨g, by omega, HO4.out.2.2 g (by rw [e1]; rfl), Or.inl ⟨by omega, by omega⟩, hC⟩
    · exact ⟨w.heap.size, Nat.le_refl _, by omega, Or.inr h0, hC.nil h0⟩
  obtain ⟨hne, hC⟩ := hC
  obtain ⟨h, hh1, hh2, hI⟩ : ∃ h, w3.heap.size ≤ h ∧ h ≤ w4.heap.size ∧ Led.IOwn w4 (.slice a4 m.refs.length c4) h m.refs := by
    obtain ⟨h, hh1, hh2, hI⟩ := Led.iown_of_owns HO4.out.2.1
    by_cases h0 : 0 < m.refs.length
    · exact ⟨h, hh1, Nat.le_of_lt (hh2 h0), hI⟩
    · exact ⟨w3.heap.size, Nat.le_refl _, hs4, hI.nil h0⟩
  refine bodyPost_ret (v := magg m (.slice a3 m.certs.length c3) (.slice a4 m.refs.length c4)) (by simp [results, Try.results106, go_sem, magg, *]) rfl ⟨_, _, g, h, rfl, hg, by omega, by simpa using hh2, ?_, ?_, ?_⟩
  · refine (hC.upd' ((Upd.refl w.heap.size w4).setAt 6 _) (fun h0 => ?_)).upd' ((((((((Upd.refl (w.heap.size + 1) _).setAt _ _).setAt _ _).setAt _ _).setAt _ _).setAt _ _).setAt _ _).setAt _ _) (fun h0 => ?_)
    · rcases hne with h | h
      · exact h.1
      · exact absurd h0 h
    · rcases hne with h | h
      · exact h.2
      · exact absurd h0 h
  · exact (hI.upd' ((Upd.refl w.heap.size w4).setAt 6 _) (fun _ => by omega)).upd' ((((((((Upd.refl (w.heap.size + 1) _).setAt _ _).setAt _ _).setAt _ _).setAt _ _).setAt _ _).setAt _ _).setAt _ _) (fun _ => by omega)
  · iterate 7 (refine Ext.setCell ?_ (by show w.heap.size ≤ w.heap.size + 1; omega) _)
    exact HA4.out.2.2.setCell (p := ⟨w.heap.size, 6, none⟩) (Nat.le_refl _) _
set_option maxHeartbeats 4000000 in
set_option maxRecDepth 100000 in
theorem l8CopyOne_any (m : Ms) (b1 o1 c b2 o2 c' : Nat) (w : World) (hb1 : b1 < w.heap.size) (hb2 : b2 < w.heap.size) (h1 : CtsAt w b1 o1 m.certs) (h2 : NumsAt w b2 o2 m.refs) (hl1 : m.certs.length ≤ 1048576) (hl2 : m.refs.length ≤ 1048576) :
    Calls Try.prog 66 #[magg m (.slice (some ⟨b1, o1, none⟩) m.certs.length c) (.slice (some ⟨b2, o2, none⟩) m.refs.length c')] w (MCopy w m) := by
  have hi9 : (Try.prog.info? 38).map (fun i => (i.zero, i.size, i.bytes)) = some (some (.agg #[.int .i64 0, .int .i64 0, .int .i64 0]), 3, 24) := by kernel_rfl
  obtain ⟨ti, hti, hxx⟩ := Option.map_eq_some_iff.1 hi9
  simp only [Prod.mk.injEq] at hxx
  obtain ⟨hz0, hz1, hz2⟩ := hxx
  clear hi9
  have hi9 : (Try.prog.info? 2).map (fun i => (i.zero, i.size, i.bytes)) = some (some (.int .i64 0), 1, 8) := by kernel_rfl
  obtain ⟨ui, hui, hxx⟩ := Option.map_eq_some_iff.1 hi9
  simp only [Prod.mk.injEq] at hxx
  obtain ⟨hy0, hy1, hy2⟩ := hxx
  clear hi9
  have HBx : Hid (∀ wx : World, Below (w.heap.size + 2) ((w.alloc (.cells #[.int .i64 m.kind, .int .i64 m.view, .int .i64 m.from_, .int .i64 m.slot, .int .i64 m.value, .slice (some ⟨b1, o1, none⟩) m.certs.length c, .slice (some ⟨b2, o2, none⟩) m.refs.length c'] 28)).alloc (.cells #[.int .i64 0, .int .i64 0, .int .i64 0, .int .i64 0, .int .i64 0, .slice none 0 0, .slice none 0 0] 28)) wx → MBoxAt wx w.heap.size m (.slice (some ⟨b1, o1, none⟩) m.certs.length c) (.slice (some ⟨b2, o2, none⟩) m.refs.length c') ∧ MBoxAt wx (w.heap.size + 1) ⟨0, 0, 0, 0, 0, [], []⟩ (.slice none 0 0) (.slice none 0 0) ∧ Ext w wx ∧ CtsAt wx b1 o1 m.certs ∧ NumsAt wx b2 o2 m.refs) := fun wx he => by
    have he' : Ext ((w.alloc (.cells #[.int .i64 m.kind, .int .i64 m.view, .int .i64 m.from_, .int .i64 m.slot, .int .i64 m.value, .slice (some ⟨b1, o1, none⟩) m.certs.length c, .slice (some ⟨b2, o2, none⟩) m.refs.length c'] 28)).alloc (.cells #[.int .i64 0, .int .i64 0, .int .i64 0, .int .i64 0, .int .i64 0, .slice none 0 0, .slice none 0 0] 28)) wx := by have h := he; unfold Ext; simpa using h
    have hE : Ext w wx := (((Ext.refl _).alloc _).alloc _).trans he'
    have hz := (mbox_new (w.alloc (.cells #[.int .i64 m.kind, .int .i64 m.view, .int .i64 m.from_, .int .i64 m.slot, .int .i64 m.value, .slice (some ⟨b1, o1, none⟩) m.certs.length c, .slice (some ⟨b2, o2, none⟩) m.refs.length c'] 28)) ⟨0, 0, 0, 0, 0, [], []⟩ (.slice none 0 0) (.slice none 0 0) 28).ext he'
    rw [World.size_alloc] at hz
    exact ⟨((mbox_new w m _ _ _).ext ((Ext.refl _).alloc _)).ext he', hz, hE, h1.ext hb1 hE, h2.ext hb2 hE⟩
  have HW0 : Hid (CtsAt (((w.alloc (.cells #[.int .i64 m.kind, .int .i64 m.view, .int .i64 m.from_, .int .i64 m.slot, .int .i64 m.value, .slice (some ⟨b1, o1, none⟩) m.certs.length c, .slice (some ⟨b2, o2, none⟩) m.refs.length c'] 28)).alloc (.cells #[.int .i64 0, .int .i64 0, .int .i64 0, .int .i64 0, .int .i64 0, .slice none 0 0, .slice none 0 0] 28)).alloc (.cells #[] 38)) b1 o1 m.certs) := (HBx.out _ ((Below.refl _ _).alloc (by simp) _)).2.2.2.1
  have HO0 : Hid ((((w.alloc (.cells #[.int .i64 m.kind, .int .i64 m.view, .int .i64 m.from_, .int .i64 m.slot, .int .i64 m.value, .slice (some ⟨b1, o1, none⟩) m.certs.length c, .slice (some ⟨b2, o2, none⟩) m.refs.length c'] 28)).alloc (.cells #[.int .i64 0, .int .i64 0, .int .i64 0, .int .i64 0, .int .i64 0, .slice none 0 0, .slice none 0 0] 28)).alloc (.cells #[] 38)).ownsRow (w.heap.size + 2) 38 3 (.slice (some ⟨w.heap.size + 1 + 1, 0, none⟩) 0 0) 0 []) := by
    have h := World.ownsRow_made (base := w.heap.size + 2) (e := 38) (size := 3) ((w.alloc (.cells #[.int .i64 m.kind, .int .i64 m.view, .int .i64 m.from_, .int .i64 m.slot, .int .i64 m.value, .slice (some ⟨b1, o1, none⟩) m.certs.length c, .slice (some ⟨b2, o2, none⟩) m.refs.length c'] 28)).alloc (.cells #[.int .i64 0, .int .i64 0, .int .i64 0, .int .i64 0, .int .i64 0, .slice none 0 0, .slice none 0 0] 28)) #[] 0 (by simp) (by unfold maxLen; omega) rfl
    simp only [World.size_alloc] at h
    exact h
  clear h1 h2
  unfold magg
  go_enter Try.func66, Try.ntmps66
  go_wp2_with (first
    | (at_builtin; refine wpList_append_own _ rfl _ _ 25 rfl (w.heap.size + 2) 38 ti (.agg #[.int .i64 0, .int .i64 0, .int .i64 0]) 3 24 Try.underlying25 hti hz0 hz1 hz2 rfl (by decide) _ 0 [] rfl HO0.out ⟨b1, o1, none⟩ m.certs.length c (cellsCt m.certs) rfl (cellsCt_len _) HW0.out.news (cellsCt_one _) (by unfold maxLen; omega) (by omega) (by simp <;> omega) ?_; intro v3 w3 hown3 hgrow3 hnil3; rw [Nat.zero_add, List.nil_append] at hown3; obtain ⟨a3, c3, rfl⟩ := owns_form6 hown3; have hbl3 : Below (w.heap.size + 2) ((w.alloc (.cells #[.int .i64 m.kind, .int .i64 m.view, .int .i64 m.from_, .int .i64 m.slot, .int .i64 m.value, .slice (some ⟨b1, o1, none⟩) m.certs.length c, .slice (some ⟨b2, o2, none⟩) m.refs.length c'] 28)).alloc (.cells #[.int .i64 0, .int .i64 0, .int .i64 0, .int .i64 0, .int .i64 0, .slice none 0 0, .slice none 0 0] 28)) w3 := Below.grown ((Below.refl _ _).alloc (by simp) _) hgrow3 (by simp <;> omega) (fun q hq => (HO0.out.lt q hq).1); have hs3 : w.heap.size + 2 ≤ w3.heap.size := (by have := Below.size hbl3; simpa using this); have HB3 : Hid (MBoxAt w3 w.heap.size m (.slice (some ⟨b1, o1, none⟩) m.certs.length c) (.slice (some ⟨b2, o2, none⟩) m.refs.length c') ∧ MBoxAt w3 (w.heap.size + 1) ⟨0, 0, 0, 0, 0, [], []⟩ (.slice none 0 0) (.slice none 0 0) ∧ Ext w w3 ∧ CtsAt w3 b1 o1 m.certs ∧ NumsAt w3 b2 o2 m.refs) := HBx.out _ hbl3; have HO3 : Hid (w3.ownsRow (w.heap.size + 2) 38 3 (.slice a3 m.certs.length c3) m.certs.length (cellsCt m.certs)) := hown3; have HW3 : Hid (NumsAt ((w3.setCell ⟨w.heap.size, 5, none⟩ (.slice a3 m.certs.length c3)).alloc (.cells #[] 2)) b2 o2 m.refs) := (HB3.out.2.2.2.2.set_ne (by omega)).ext (by have := HB3.out.2.2.1.size; simp; omega) ((Ext.refl _).alloc _); have HO1 : Hid (((w3.setCell ⟨w.heap.size, 5, none⟩ (.slice a3 m.certs.length c3)).alloc (.cells #[] 2)).ownsRow w3.heap.size 2 1 (.slice (some ⟨w3.heap.size, 0, none⟩) 0 0) 0 []) := (by have h := World.ownsRow_made (base := w3.heap.size) (e := 2) (size := 1) (w3.setCell ⟨w.heap.size, 5, none⟩ (.slice a3 m.certs.length c3)) #[] 0 (by simp) (by unfold maxLen; omega) rfl; simp only [World.size_setCell] at h; exact h); have q6 : ((w3.setCell ⟨w.heap.size, 5, none⟩ (.slice a3 m.certs.length c3)).alloc (.cells #[] 2)).cell? ⟨w.heap.size, 6, none⟩ = some (.slice (some ⟨b2, o2, none⟩) m.refs.length c') := (alloc_cell _ _ _ _ (by rw [World.size_setCell]; omega)).trans (by rw [iset_ne _ _ _ _ _ _ (by omega)]; exact HB3.out.1.2.1.2.2.2.2.2.2); clear hown3 hgrow3 hnil3 hbl3; obtain ⟨-, ⟨p0, p1, p2, p3, p4, p5, p6⟩, f0, f1, f2, f3, f4, f5, f6⟩ := HB3.out.1)
    | (at_builtin; refine wpList_append_own _ rfl _ _ 26 rfl w3.heap.size 2 ui (.int .i64 0) 1 8 Try.underlying26 hui hy0 hy1 hy2 rfl (by decide) _ 0 [] rfl HO1.out ⟨b2, o2, none⟩ m.refs.length c' (m.refs.map (Value.int .i64)) rfl (by simp) HW3.out.news (ints_oneCell .i64 m.refs) (by unfold maxLen; omega) (by omega) (by simp) ?_; intro v4 w4 hown4 hgrow4 hnil4; rw [Nat.zero_add, List.nil_append] at hown4; obtain ⟨a4, c4, rfl⟩ := owns_form6 hown4; have hbl4 : Below w3.heap.size (w3.setCell ⟨w.heap.size, 5, none⟩ (.slice a3 m.certs.length c3)) w4 := Below.grown ((Below.refl _ _).alloc (by simp) _) hgrow4 (by simp) (fun q hq => (HO1.out.lt q hq).1); have hs4 : w3.heap.size ≤ w4.heap.size := (by have := Below.size hbl4; simpa using this); have he4 : Ext (w3.setCell ⟨w.heap.size, 5, none⟩ (.slice a3 m.certs.length c3)) w4 := (by unfold Ext; simpa using hbl4); have HA4 : Hid (MBoxAt w4 w.heap.size m (.slice a3 m.certs.length c3) (.slice (some ⟨b2, o2, none⟩) m.refs.length c') ∧ MBoxAt w4 (w.heap.size + 1) ⟨0, 0, 0, 0, 0, [], []⟩ (.slice none 0 0) (.slice none 0 0) ∧ Ext w w4) := ⟨HB3.out.1.set5.ext he4, (HB3.out.2.1.set_ne (by omega)).ext he4, (HB3.out.2.2.1.setCell (p := ⟨w.heap.size, 5, none⟩) (Nat.le_refl _) _).trans he4⟩; have HO4 : Hid (w4.ownsRow (w.heap.size + 2) 38 3 (.slice a3 m.certs.length c3) m.certs.length (cellsCt m.certs) ∧ w4.ownsRow w3.heap.size 2 1 (.slice a4 m.refs.length c4) m.refs.length (m.refs.map (Value.int .i64)) ∧ (∀ q, (Value.slice a3 m.certs.length c3).ownBlock = some q → q < w3.heap.size)) := ⟨owns_ext6 (ownsRow_setCell_below HO3.out (a := ⟨w.heap.size, 5, none⟩) (by show w.heap.size < w.heap.size + 2; omega) _) he4, hown4, fun q hq => (HO3.out.lt q hq).2⟩; clear hown4 hgrow4 hnil4 hbl4 he4 p0 p1 p2 p3 p4 p5 p6 f0 f1 f2 f3 f4 f5 f6; obtain ⟨-, ⟨p0, p1, p2, p3, p4, p5, p6⟩, f0, f1, f2, f3, f4, f5, f6⟩ := HA4.out.1; obtain ⟨-, ⟨r0, r1, r2, r3, r4, r5, r6⟩, g0, g1, g2, g3, g4, g5, g6⟩ := HA4.out.2.1))
  obtain ⟨g, hg, hg3, hC⟩ : ∃ g, w.heap.size ≤ g ∧ g < w3.heap.size ∧ (g ≠ w.heap.size ∧ g ≠ w.heap.size + 1 ∨ ¬ 0 < m.certs.length) ∧ CtOwn w4 (.slice a3 m.certs.length c3) g m.certs := by
    obtain ⟨g, hg, hC⟩ := ctown_of_owns HO4.out.1
    by_cases h0 : 0 < m.certs.length
    · obtain ⟨a0, cap0, e, -, -, h4⟩ := id hC
      obtain ⟨off, ha, -, -⟩ := h4 h0
      injection e with e1 _ _
      rw [ha] at e1
      exact ⟨g, by omega, HO4.out.2.2 g (by rw [e1]; rfl), Or.inl ⟨by omega, by omega⟩, hC⟩
    · exact ⟨w.heap.size, Nat.le_refl _, by omega, Or.inr h0, hC.nil h0⟩
  obtain ⟨hne, hC⟩ := hC
  obtain ⟨h, hh1, hh2, hI⟩ : ∃ h, w3.heap.size ≤ h ∧ h ≤ w4.heap.size ∧ Led.IOwn w4 (.slice a4 m.refs.length c4) h m.refs := by
    obtain ⟨h, hh1, hh2, hI⟩ := Led.iown_of_owns HO4.out.2.1
    by_cases h0 : 0 < m.refs.length
    · exact ⟨h, hh1, Nat.le_of_lt (hh2 h0), hI⟩
    · exact ⟨w3.heap.size, Nat.le_refl _, hs4, hI.nil h0⟩
  refine bodyPost_ret (v := magg m (.slice a3 m.certs.length c3) (.slice a4 m.refs.length c4)) (by simp [results, Try.results66, go_sem, magg, *]) rfl ⟨_, _, g, h, rfl, hg, by omega, by simpa using hh2, ?_, ?_, ?_⟩
  · refine (hC.upd' ((Upd.refl w.heap.size w4).setAt 6 _) (fun h0 => ?_)).upd' ((((((((Upd.refl (w.heap.size + 1) _).setAt _ _).setAt _ _).setAt _ _).setAt _ _).setAt _ _).setAt _ _).setAt _ _) (fun h0 => ?_)
    · rcases hne with h | h
      · exact h.1
      · exact absurd h0 h
    · rcases hne with h | h
      · exact h.2
      · exact absurd h0 h
  · exact (hI.upd' ((Upd.refl w.heap.size w4).setAt 6 _) (fun _ => by omega)).upd' ((((((((Upd.refl (w.heap.size + 1) _).setAt _ _).setAt _ _).setAt _ _).setAt _ _).setAt _ _).setAt _ _).setAt _ _) (fun _ => by omega)
  · iterate 7 (refine Ext.setCell ?_ (by show w.heap.size ≤ w.heap.size + 1; omega) _)
    exact HA4.out.2.2.setCell (p := ⟨w.heap.size, 6, none⟩) (Nat.le_refl _) _
end Go.Proofs.Ytflojfkalnojbaa
