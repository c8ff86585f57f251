/- draws of votes. -/
import Derived.Test.YtfgjodnjahhanaaDoorVvVT1
import Derived.Test.YtfgjodnjahhanaaDoorVvMD0
import Derived.Laws.AppendOwn
namespace Go.Proofs.YtfgjodnjahhanaaDoor
open Go.RowKit
namespace Vot
def cellsV (l : List Vt) : List Value := l.flatMap fun z => [.int .i64 z.frm, .int .i64 z.code, .int .i64 z.value, .string z.path]
theorem cellsV_app (l m : List Vt) : cellsV (l ++ m) = cellsV l ++ cellsV m := by simp [cellsV]
theorem cellsV_at : ∀ (l : List Vt) (i : Nat) (z : Vt), l[i]? = some z → (cellsV l)[i * 4]? = some (.int .i64 z.frm) ∧ (cellsV l)[i * 4 + 1]? = some (.int .i64 z.code) ∧ (cellsV l)[i * 4 + 2]? = some (.int .i64 z.value) ∧ (cellsV l)[i * 4 + 3]? = some (.string z.path)
  | [], i, z, h => by simp at h
  | y :: t, 0, z, h => by
    simp only [List.getElem?_cons_zero, Option.some.injEq] at h
    subst h
    exact ⟨rfl, rfl, rfl, rfl⟩
  | y :: t, i + 1, z, h => by
    have ih := cellsV_at t i z (by simpa using h)
    have e : ∀ j, (cellsV (y :: t))[(i + 1) * 4 + j]? = (cellsV t)[i * 4 + j]? := fun j => by
      rw [show cellsV (y :: t) = [.int .i64 y.frm, .int .i64 y.code, .int .i64 y.value, .string y.path] ++ cellsV t from rfl, List.getElem?_append_right (by simp; omega)]
      congr 1
      simp; omega
    exact ⟨(e 0).trans ih.1, (e 1).trans ih.2.1, (e 2).trans ih.2.2.1, (e 3).trans ih.2.2.2⟩
theorem cellsV_one (l : List Vt) : ∀ u ∈ cellsV l, u.oneCell' = true := by
  intro u hu
  unfold cellsV at hu
  obtain ⟨z, -, hz⟩ := List.mem_flatMap.1 hu
  simp only [List.mem_cons, List.not_mem_nil, or_false] at hz
  rcases hz with rfl | rfl | rfl | rfl <;> rfl
theorem slice_of_owns {w : World} {base : Nat} {v : Value} {l : List Vt} (h : w.ownsRow base 46 4 v l.length (cellsV l)) : VtSlice w v l := by
  have hlt := h.lt
  rcases h.2 with ⟨hv, h0⟩ | ⟨g, cap, cur, hv, hb, hh, hn, hm, hcs, htk⟩
  · exact ⟨none, 0, by rw [hv, h0], by omega, by unfold maxLen; omega, fun h => by omega⟩
  · subst hv
    refine ⟨some ⟨g, 0, none⟩, cap, rfl, hn, hm, fun h0 => ⟨g, 0, rfl, (hlt g rfl).2, fun i z hz => ?_⟩⟩
    obtain ⟨h1, h2, h3, h4⟩ := cellsV_at l i z hz
    have hi := (List.getElem?_eq_some_iff.1 hz).1
    rw [Nat.zero_add]
    exact ⟨by rw [h.cellAt _ (by omega)]; exact h1, by rw [h.cellAt _ (by omega)]; exact h2, by rw [h.cellAt _ (by omega)]; exact h3, by rw [h.cellAt _ (by omega)]; exact h4⟩
theorem cells_new (w : World) (z : Vt) (t : TypeId) (m : Nat) (hm : w.heap.size = m) : ∀ j u, (cellsV [z])[j]? = some u → (w.alloc (.cells #[.int .i64 z.frm, .int .i64 z.code, .int .i64 z.value, .string z.path] t)).cell? ((⟨m, 0, none⟩ : Addr).add j) = some u := by
  subst hm
  intro j u hj
  rw [Addr.add_lit]
  match j, hj with
  | 0, hj => cases hj; simp
  | 1, hj => cases hj; simp
  | 2, hj => cases hj; simp
  | 3, hj => cases hj; simp
  | j + 4, hj => simp [cellsV] at hj
theorem ry_kp {b : Nat} {w w' : World} {B : Nat} {v0 v1 v2 : Value} (h : RyAt w B v0 v1 v2) (hk : Dr.Kp b w w') (hne : B ≠ b) : RyAt w' B v0 v1 v2 := by
  obtain ⟨hb, ⟨c0, c1, c2⟩, f0, f1, f2⟩ := h
  have hc := fun o => (hk.cell hb hne o).1
  have hf := fun o => (hk.cell hb hne o).2
  exact ⟨Nat.lt_of_lt_of_le hb hk.1, ⟨(hc _).trans c0, (hc _).trans c1, (hc _).trans c2⟩, (hf _).trans f0, (hf _).trans f1, (hf _).trans f2⟩
theorem tick_alloc {b a a2 : Nat} {cv : Value} {w w1 : World} {o : Obj} (h : SrcAt w b a cv) (ht : Dr.Tick b a2 cv (w.alloc o) w1) : Dr.Tick b a2 cv w w1 :=
  ((Dr.Tick.start h).ext ((Ext.refl _).alloc o)).trans ht

set_option maxHeartbeats 2000000 in
set_option maxRecDepth 100000 in
theorem l8DrawF_any (b a : Nat) (cv : Value) (w : World) (h : SrcAt w b a cv) (ha : a ≤ 900) :
    Calls Tryd.prog 39 #[.pointer (some ⟨b, 0, none⟩)] w fun e w' => ∃ x : Int, e = .returned (.int .i64 x) ∧ Dr.Tick b (a + 1) cv w w' := by
  have HS0 : Hid (SrcAt w b a cv) := h
  have PK : Hid (∀ (g : Nat) (wx : World), g = wx.heap.size → SrcAt wx b a cv → Calls Tryd.prog 51 #[.pointer (some ⟨b, 0, none⟩), .slice (some ⟨g, 0, none⟩) 9 9] (wx.alloc (.cells #[.int .i64 1, .int .i64 1, .int .i64 1, .int .i64 1, .int .i64 2, .int .i64 0, .int .i64 1, .int .i64 1, .int .i64 3] 2)) fun e w' => ∃ x : Int, e = .returned (.int .i64 x) ∧ Dr.Tick b (a + 1) cv wx w') := fun g wx hg h1 => by subst hg; exact Dr.pick b a cv [1, 1, 1, 1, 2, 0, 1, 1, 3] wx 2 h1 (by decide) (by decide) (by omega)
  clear h
  go_enter Tryd.func39, Tryd.ntmps39
  go_wp2_with fail
  refine (PK.out _ _ rfl HS0.out).mono ?_
  rintro e w1 ⟨x, rfl, ht⟩
  have HT : Hid (Dr.Tick b (a + 1) cv w w1) := ht
  clear ht
  go_wp2
  go_ret
  exact ⟨x, rfl, HT.out⟩

set_option maxHeartbeats 4000000 in
set_option maxRecDepth 100000 in
theorem l14Reply_any (b a : Nat) (cv : Value) (w : World) (h : SrcAt w b a cv) (ha : a ≤ 900) :
    Calls Tryd.prog 53 #[.pointer (some ⟨b, 0, none⟩)] w fun e w' => ∃ (c r : Int) (p : ByteArray), e = .returned (yagg c r p) ∧ p.size ≤ 2 ∧ Dr.Tick b (a + 3) cv w w' := by
  have HS0 : Hid (SrcAt w b a cv) := h
  have hlt := h.lt
  have PK : Hid (∀ (g : Nat) (wx : World), g = wx.heap.size → SrcAt wx b a cv → Calls Tryd.prog 51 #[.pointer (some ⟨b, 0, none⟩), .slice (some ⟨g, 0, none⟩) 3 3] (wx.alloc (.cells #[.int .i64 0, .int .i64 0, .int .i64 4] 2)) fun e w' => ∃ x : Int, e = .returned (.int .i64 x) ∧ Dr.Tick b (a + 1) cv wx w') := fun g wx hg h1 => by subst hg; exact Dr.pick b a cv [0, 0, 4] wx 2 h1 (by decide) (by decide) (by omega)
  have NX : Hid (∀ (k : Nat) (wx : World), k ≤ 10 → SrcAt wx b (a + k) cv → Calls Tryd.prog 52 #[.pointer (some ⟨b, 0, none⟩), .int .i64 2] wx fun e w' => ∃ r : Int, e = .returned (.int .i64 r) ∧ 0 ≤ r ∧ r < 2 ∧ Dr.Tick b (a + k + 1) cv wx w') := fun k wx hk h1 => Dr.next b (a + k) cv 2 wx h1 (by omega) (by omega) (by omega)
  clear h
  go_enter Tryd.func53, Tryd.ntmps53
  go_wp2_with fail
  refine (PK.out _ (w.alloc _) (by simp) (HS0.out.alloc _)).mono ?_
  rintro e w1 ⟨x, rfl, ht⟩
  have HT1 : Hid (Dr.Tick b (a + 1) cv w w1) := tick_alloc HS0.out ht
  have HB1 : Hid (RyAt w1 w.heap.size (.int .i64 0) (.int .i64 0) (.string ByteArray.empty)) := ry_kp (ry_new w _ _ _ _) ht.2.2 (by omega)
  clear ht
  go_wp2_with fail
  refine (NX.out 1 _ (by omega) HT1.out.1).mono ?_
  rintro e w2 ⟨r, rfl, hr0, hr1, ht⟩
  have HT2 : Hid (Dr.Tick b (a + 2) cv w w2) := HT1.out.trans ht
  have HB2 : Hid (RyAt w2 w.heap.size (.int .i64 0) (.int .i64 0) (.string ByteArray.empty)) := ry_kp HB1.out ht.2.2 (by omega)
  clear ht HT1 HB1
  go_wp2_with fail
  refine (NX.out 2 (w2.alloc _) (by omega) (HT2.out.1.alloc _)).mono ?_
  rintro e w3 ⟨q, rfl, hq0, hq1, ht⟩
  have HT3 : Hid (Dr.Tick b (a + 3) cv w w3) := (HT2.out.ext ((Ext.refl _).alloc _)).trans ht
  have HB3 : Hid (RyAt w3 w.heap.size (.int .i64 0) (.int .i64 0) (.string ByteArray.empty)) := ry_kp (HB2.out.ext ((Ext.refl _).alloc _)) ht.2.2 (by omega)
  have hbl := HT2.out.1.lt
  have s0 : w3.cell? ⟨w2.heap.size, 0, none⟩ = some (.string ⟨#[]⟩) := (ht.2.2.cell (by simp) (by omega) 0).1.trans (by simp)
  have s1 : w3.cell? ⟨w2.heap.size, 1, none⟩ = some (.string ⟨#[47, 97]⟩) := (ht.2.2.cell (by simp) (by omega) 1).1.trans (by simp)
  have hl3 : w2.heap.size < w3.heap.size := by have := ht.2.2.1; simp at this; omega
  have HW : Hid (b < w.heap.size) := hlt
  have hq : q = 0 ∨ q = 1 := by omega
  clear ht hbl hlt HT2 HB2
  obtain ⟨xl, ⟨x0, x1, x2⟩, f0, f1, f2⟩ := HB3.out
  rcases hq with rfl | rfl
  · go_wp2
    exact bodyPost_ret (v := yagg x r ⟨#[]⟩) (by simp [results, Tryd.results53, go_sem, yagg, x0, x1, x2]) rfl ⟨x, r, _, rfl, by decide, ((HT3.out.set HW.out _ _ (Nat.le_refl _) _).set HW.out _ _ (Nat.le_refl _) _).set HW.out _ _ (Nat.le_refl _) _⟩
  · go_wp2
    exact bodyPost_ret (v := yagg x r ⟨#[47, 97]⟩) (by simp [results, Tryd.results53, go_sem, yagg, x0, x1, x2]) rfl ⟨x, r, _, rfl, by decide, ((HT3.out.set HW.out _ _ (Nat.le_refl _) _).set HW.out _ _ (Nat.le_refl _) _).set HW.out _ _ (Nat.le_refl _) _⟩
end Vot
end Go.Proofs.YtfgjodnjahhanaaDoor
