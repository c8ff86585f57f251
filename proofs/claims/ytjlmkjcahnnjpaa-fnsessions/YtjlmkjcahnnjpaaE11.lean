/- TouchSession: the program's and the specification's. -/
import Derived.Test.YtjlmkjcahnnjpaaE10
namespace Go.Proofs.Ytjlmkjcahnnjpaa
open Go.RowKit Go.Maps

set_option maxHeartbeats 2000000 in
set_option maxRecDepth 100000 in
theorem implTouchSession_any (v : Value) (l : List Se) (i n : Int) (w : World) (hS : ESlice w v l) :
    Calls Try.prog 12 #[v, .int .i64 i, .int .i64 n] w (ERet w (Ses.touchV l i n).1 (Ses.touchV l i n).2) := by
  have HS : Hid (ESlice w v l) := hS
  have HF : Hid (∀ wx, Ext w wx → Calls Try.prog 33 #[v, .int .i64 i, .int .i64 n] wx fun e w' => e = .returned (.int .i64 (Ses.asked l i n)) ∧ Ext wx w') := fun wx he => sessionFault_any v l i n wx (hS.ext he)
  obtain ⟨a, cap, rfl, -⟩ := hS
  unfold Ses.touchV
  by_cases hc : Ses.asked l i n = 0
  · obtain ⟨hf, hi, hn⟩ := Ses.asked_zero hc
    obtain ⟨h6, hr, ho⟩ := Ses.fault_zero hf
    have HR : Hid (∀ wx, Ext w wx → Calls Try.prog 34 #[.slice a l.length cap] wx fun e w' => ∃ b, e = .returned (.map (some b)) ∧ wx.heap.size ≤ b ∧ EMap w' b l.length l ∧ Ext wx w') := fun wx he => rollOf_any _ l wx (HS.out.ext he) h6 hr ho
    have HP : Hid (Rises l ∧ ∀ s ∈ l, Ses.ok s = true) := ⟨hr, ho⟩
    have hkey : keyOf Try.prog 2 (.int .i64 i) = some (.int .i64 i) := key64 (by omega)
    rw [hc] at HF
    rw [if_neg (by simp [hc])]
    clear hc hf hr ho
    have HL : Hid (∀ (b : Nat) (wx : World), EMap wx b l.length l → Calls Try.prog 36 #[.map (some b), .int .i64 i, .int .i64 n] wx fun e w' => e = .returned (.bool (Ses.live l i n)) ∧ w' = wx) := fun b wx h => isLive_any b _ l i n wx h (by omega)
    cases hh : Ses.live l i n with
    | false =>
      rw [hh] at HL
      rw [if_neg (by simp)]
      go_enter Try.func12, Try.ntmps12
      go_wp2_with fail
      refine (HF.out _ ((Ext.refl _).alloc _)).mono ?_
      rintro e w2 ⟨rfl, hb⟩
      have HX2 : Hid (EBox w2 w.heap.size) := (EBox.new w _).ext hb
      have HB : Hid (Ext w w2) := ((Ext.refl _).alloc _).trans hb
      clear hb
      go_wp2_with fail
      refine (HR.out _ HB.out).mono ?_
      rintro e w3 ⟨b, rfl, hb3, hM, hb⟩
      have HM : Hid (EMap w3 b l.length l) := hM
      have HX3 : Hid (EBox w3 w.heap.size) := HX2.out.ext hb
      obtain ⟨x0, x1, x2, x3, x4⟩ := id HX3.out
      have HB3 : Hid (Ext w w3) := HB.out.trans hb
      clear hb hM
      go_wp2_with fail
      refine (HL.out _ _ HM.out).mono ?_
      rintro e w4 ⟨rfl, hw⟩
      subst hw
      go_wp2
      exact bodyPost_ret (v := er 9 (.slice none 0 0)) (by simp [results, Try.results12, go_sem, er, x1, x2]) rfl (eret_bad _ HB3.out)
    | true =>
      rw [hh] at HL
      rw [if_pos rfl]
      have hval : plainElem (H := Unit) Try.prog 2 (.int .i64 (n + 10)) = some (.lit (.int .i64 (n + 10)), []) := plainElem_int Try.underlying2 (wf64 (by omega))
      have hput : (mapE l).put (.int .i64 i) (.lit (.int .i64 (n + 10))) = mapE (putSe ⟨i, n + 10⟩ l) := mapE_put ⟨i, n + 10⟩ l HP.out.1
      have HIn : Hid (∀ (b : Nat) (wx : World), EMap wx b (l.length + 1) (putSe ⟨i, n + 10⟩ l) → Calls Try.prog 35 #[.map (some b)] wx fun e w' => ∃ v g, e = .returned v ∧ wx.heap.size ≤ g ∧ EOwn w' v g (putSe ⟨i, n + 10⟩ l) ∧ Ext wx w') := fun b wx h => inOrder_any b _ _ wx h (HP.out.1.put _) (by have := putSe_len ⟨i, n + 10⟩ l; omega) (fun s hs => by
        rcases putSe_mem hs with rfl | hs
        · show _ ≤ i ∧ i ≤ _; omega
        · have := Ses.ok_iff.1 (HP.out.2 s hs); omega)
      generalize putSe ⟨i, n + 10⟩ l = rs at *
      go_enter Try.func12, Try.ntmps12
      go_wp2_with fail
      refine (HF.out _ ((Ext.refl _).alloc _)).mono ?_
      rintro e w2 ⟨rfl, hb⟩
      have HX2 : Hid (EBox w2 w.heap.size) := (EBox.new w _).ext hb
      have HB : Hid (Ext w w2) := ((Ext.refl _).alloc _).trans hb
      clear hb
      go_wp2_with fail
      refine (HR.out _ HB.out).mono ?_
      rintro e w3 ⟨b, rfl, hb3, hM, hb⟩
      have HM : Hid (EMap w3 b l.length l) := hM
      have HX3 : Hid (EBox w3 w.heap.size) := HX2.out.ext hb
      obtain ⟨x0, x1, x2, x3, x4⟩ := id HX3.out
      have HB3 : Hid (Ext w w3) := HB.out.trans hb
      have hb4 : w.heap.size < b := Nat.lt_of_lt_of_le HX2.out.1 hb3
      clear hb hM hb3
      go_wp2_with fail
      refine (HL.out _ _ HM.out).mono ?_
      rintro e w3' ⟨rfl, hw⟩
      subst hw
      go_wp2_with (first | (at_mapUpdate; refine wpList_mapUpdate_own _ rfl _ _ _ 51 rfl 2 2 law64 Try.underlying51 _ b l.length _ rfl HM.out (by unfold maxLen; omega) _ _ _ rfl rfl hkey _ [] hval ?_; intro w4 hown4 hgrow4; rw [hput] at hown4; have HM4 : Hid (EMap w4 b (l.length + 1) rs) := hown4; have HB4 : Hid (Ext w w4) := Below.grown HB3.out hgrow4 HB3.out.size (fun j hj => by cases hj; exact Nat.le_of_lt hb4); have HX4 : Hid (EBox w4 w.heap.size) := HX3.out.below ((Below.refl b _).grown hgrow4 (Nat.le_of_lt HM.out.lt) (fun j hj => by cases hj; exact Nat.le_refl _)) hb4; clear hown4 hgrow4))
      refine (HIn.out _ _ HM4.out).mono ?_
      rintro e w5 ⟨v5, g5, rfl, hg5, hO5, hb⟩
      have HX5 : Hid (EBox w5 w.heap.size) := HX4.out.ext hb
      have HB5 : Hid (Ext w w5) := HB4.out.trans hb
      have HO5 : Hid (EOwn w5 v5 g5 rs) := hO5
      have hg6 : w.heap.size < g5 := Nat.lt_of_lt_of_le HX4.out.1 hg5
      obtain ⟨a5, cap5, rfl, -⟩ := id hO5
      clear hb hO5 x0 x1 x2 x3 x4
      obtain ⟨x0, x1, x2, x3, x4⟩ := id HX5.out
      go_wp2
      exact bodyPost_ret (v := er 0 (.slice a5 rs.length cap5)) (by simp [results, Try.results12, go_sem, er, x1, x2]) rfl (eret_box 0 HB5.out HO5.out hg6)
  · rw [if_pos hc]
    generalize Ses.asked l i n = c at *
    go_enter Try.func12, Try.ntmps12
    go_wp2_with fail
    refine (HF.out _ ((Ext.refl _).alloc _)).mono ?_
    rintro e w2 ⟨rfl, hb⟩
    have HX2 : Hid (EBox w2 w.heap.size) := (EBox.new w _).ext hb
    have HB : Hid (Ext w w2) := ((Ext.refl _).alloc _).trans hb
    clear hb
    obtain ⟨x0, x1, x2, x3, x4⟩ := id HX2.out
    go_wp2
    exact bodyPost_ret (v := er c (.slice none 0 0)) (by simp [results, Try.results12, go_sem, er, x1, x2]) rfl (eret_bad _ HB.out)

theorem put_set {l : List Se} {s t : Se} {k : Nat} (hr : Rises l) (h : l[k]? = some t) (he : t.id = s.id) : putSe s l = l.set k s := by
  obtain ⟨hk, rfl⟩ := List.getElem?_eq_some_iff.1 h
  have hA : ∀ t ∈ l.take k, t.id < s.id := by
    intro t ht
    obtain ⟨j, hj, rfl⟩ := List.mem_iff_getElem.1 ht
    rw [List.length_take] at hj
    rw [List.getElem_take, ← he]
    exact List.pairwise_iff_getElem.1 hr j k (by omega) hk (by omega)
  have hB : ∀ t ∈ l.drop (k + 1), s.id < t.id := by
    intro t ht
    obtain ⟨j, hj, rfl⟩ := List.mem_iff_getElem.1 ht
    rw [List.length_drop] at hj
    rw [List.getElem_drop, ← he]
    exact List.pairwise_iff_getElem.1 hr k (k + 1 + j) hk (by omega) (by omega)
  unfold putSe
  rw [List.set_eq_take_append_cons_drop, if_pos hk]
  have e0 : l = l.take k ++ l[k] :: l.drop (k + 1) := by rw [← List.drop_eq_getElem_cons hk, List.take_append_drop]
  have e1 : l.filter (fun t => decide (t.id < s.id)) = l.take k := by
    conv => lhs; rw [e0]
    rw [List.filter_append, List.filter_cons_of_neg (by simp; omega), List.filter_eq_self.2 (fun t ht => by simpa using hA t ht), List.filter_eq_nil_iff.2 (fun t ht => by have := hB t ht; simp; omega), List.append_nil]
  have e2 : l.filter (fun t => decide (s.id < t.id)) = l.drop (k + 1) := by
    conv => lhs; rw [e0]
    rw [List.filter_append, List.filter_cons_of_neg (by simp; omega), List.filter_eq_nil_iff.2 (fun t ht => by have := hA t ht; simp; omega), List.filter_eq_self.2 (fun t ht => by simpa using hB t ht), List.nil_append]
  rw [e1, e2]
/-- The Until of one session was written. -/
theorem EOwn.til {w : World} {g cap k : Nat} {off : Nat} {l : List Se} {s : Se} (hr : ERoom w g off l.length) (hN : SesAt w g off l) (hl : l.length ≤ cap) (hc : cap ≤ maxLen) (hk : l[k]? = some s) (y : Int) :
    EOwn (w.setCell ⟨g, off + k * 2 + 1, none⟩ (.int .i64 y)) (.slice (some ⟨g, off, none⟩) l.length cap) g (l.set k ⟨s.id, y⟩) := by
  have hkl := (List.getElem?_eq_some_iff.1 hk).1
  have hc' : ∀ j, j ≠ off + k * 2 + 1 → (w.setCell ⟨g, off + k * 2 + 1, none⟩ (.int .i64 y)).cell? ⟨g, j, none⟩ = w.cell? ⟨g, j, none⟩ := fun j hj => iset_ne _ _ _ _ _ _ (by omega)
  have hcy : (w.setCell ⟨g, off + k * 2 + 1, none⟩ (.int .i64 y)).cell? ⟨g, off + k * 2 + 1, none⟩ = some (.int .i64 y) := iset_eq _ _ _ _ (by rw [Nat.add_assoc]; exact (hr.2 (k * 2 + 1) (by omega)).1)
  refine ⟨some ⟨g, off, none⟩, cap, by rw [List.length_set], by rw [List.length_set]; exact hl, hc, fun _ => ⟨off, rfl, ⟨by simpa using hr.1, fun j hj => ⟨?_, by rw [List.length_set] at hj; simpa using (hr.2 j hj).2⟩⟩, ?_⟩⟩
  · rw [List.length_set] at hj
    by_cases h : off + j = off + k * 2 + 1
    · rw [h]; exact ⟨_, hcy⟩
    · rw [hc' _ h]; exact (hr.2 j hj).1
  · intro i t ht
    rw [List.getElem?_set] at ht
    split at ht
    · rename_i hki
      subst hki
      cases ht
      exact ⟨by rw [hc' _ (by omega)]; exact (hN k s hk).1, hcy⟩
    · obtain ⟨c0, c1⟩ := hN i t ht
      exact ⟨by rw [hc' _ (by omega)]; exact c0, by rw [hc' _ (by omega)]; exact c1⟩

set_option maxHeartbeats 4000000 in
set_option maxRecDepth 100000 in
theorem l4Touch_any (b off cap : Nat) (l : List Se) (i n : Int) (w : World) (hS : ESlice w (.slice (some ⟨b, off, none⟩) l.length cap) l) (hr : Rises l) (hl : l.length ≤ 1000) (hn : -100000 ≤ n ∧ n ≤ 100000) :
    Calls Try.prog 39 #[.slice (some ⟨b, off, none⟩) l.length cap, .int .i64 i, .int .i64 n] w (ERet w (if Ses.live l i n = true then 0 else 9) (if Ses.live l i n = true then putSe ⟨i, n + 10⟩ l else [])) := by
  have hi9 : (Try.prog.info? 58).map (fun i => (i.zero, i.size, i.bytes)) = some (some (.agg #[.int .i64 0, .int .i64 0]), 2, 16) := by kernel_rfl
  obtain ⟨ti, hti, hxx⟩ := Option.map_eq_some_iff.1 hi9
  simp only [Prod.mk.injEq] at hxx
  obtain ⟨hz0, hz1, hz2⟩ := hxx
  clear hi9
  have HAt : Hid (∀ wx, Ext w wx → Calls Try.prog 60 #[.slice (some ⟨b, off, none⟩) l.length cap, .int .i64 i] wx fun e w' => e = .returned (.int .i64 (Ses.atF i 0 l)) ∧ w' = wx) := fun wx he => l4At_any _ l i wx (hS.ext he)
  have HL : Hid (∀ wx, Ext w wx → Calls Try.prog 47 #[.slice (some ⟨b, off, none⟩) l.length cap, .int .i64 i, .int .i64 n] wx fun e w' => e = .returned (.bool (Ses.live l i n)) ∧ w' = wx) := fun wx he => l4Live_any _ l i n wx (hS.ext he)
  obtain ⟨a', cap', he, hlc, hcm, hx⟩ := hS
  injection he with e1 _ e3
  subst e1 e3
  have HNA : Hid (∀ wx, Ext w wx → SesAt wx b off l) := by
    intro wx he
    by_cases h0 : 0 < l.length
    · obtain ⟨b', off', he', hb, hN⟩ := hx h0
      injection he' with he'
      injection he' with e1 e2 _
      subst e1 e2
      exact hN.ext hb he
    · intro j s hs
      have := (List.getElem?_eq_some_iff.1 hs).1
      omega
  clear hx
  unfold maxLen at hcm
  cases hlv : Ses.live l i n with
  | false =>
    rw [hlv] at HL
    rw [if_neg (by simp), if_neg (by simp)]
    go_enter Try.func39, Try.ntmps39
    go_wp2_with fail
    refine (HL.out _ ((Ext.refl _).alloc _)).mono ?_
    rintro e w2 ⟨rfl, hw⟩
    have HB : Hid (OBox w w2) := by rw [hw]; exact OBox.new w
    clear hw
    obtain ⟨x0, x1, x2, x3, x4⟩ := HB.out.box
    go_wp2
    exact bodyPost_ret (v := er 9 (.slice none 0 0)) (by simp [results, Try.results39, go_sem, er, x1, x2]) rfl (eret_bad _ HB.out.to)
  | true =>
    rw [hlv] at HL
    rw [if_pos rfl, if_pos rfl]
    rcases Ses.atF_is i l 0 with ⟨q1, q2⟩ | ⟨j, s, q1, q2, q3, q4, q5⟩
    · exfalso
      unfold Ses.live at hlv
      rw [q2] at hlv
      cases hlv
    · rw [q2, Nat.zero_add] at HAt
      have HR : Hid (putSe ⟨i, n + 10⟩ l = l.set j ⟨s.id, n + 10⟩) := by
        have h := put_set (s := ⟨i, n + 10⟩) hr q1 q3
        show _ = _
        rw [h, q3]
      have hjl := (List.getElem?_eq_some_iff.1 q1).1
      have HJ : Hid (l[j]? = some s) := q1
      clear q1 q2 q3 q4 q5 hr hlv
      have hl2 : (cellsE l).length = l.length * 2 := cellsE_len l
      go_enter Try.func39, Try.ntmps39
      go_wp2_with fail
      refine (HL.out _ ((Ext.refl _).alloc _)).mono ?_
      rintro e w2 ⟨rfl, hw⟩
      have HB : Hid (OBox w w2) := by rw [hw]; exact OBox.new w
      clear hw
      have HN0 : Hid (SesAt (w2.alloc (.cells #[] 58)) b off l) := HNA.out _ (HB.out.alloc _).to
      have HO : Hid ((w2.alloc (.cells #[] 58)).ownsRow (w.heap.size + 1) 58 2 (.slice (some ⟨w2.heap.size, 0, none⟩) 0 0) 0 []) := World.ownsRow_made w2 #[] 0 HB.out.size (by unfold maxLen; omega) rfl
      go_wp2_with (at_builtin; go_must (refine wpList_append_own _ rfl _ _ 24 rfl (w.heap.size + 1) 58 ti (.agg #[.int .i64 0, .int .i64 0]) 2 16 Try.underlying24 hti hz0 hz1 hz2 rfl (by decide) (.slice (some ⟨w2.heap.size, 0, none⟩) 0 0) 0 [] rfl HO.out ⟨b, off, none⟩ l.length _ (cellsE l) rfl hl2 HN0.out.news (cellsE_one _) (by unfold maxLen; omega) (by omega) (by have := HB.out.size; simp; omega) ?_; intro v4 w4 hown4 hgrow4 hnil4; have HE4 : Hid (OBox w w4) := (HB.out.alloc _).grown hgrow4 (fun q hq => (HO.out.lt q hq).1); have HO4 : Hid (w4.ownsRow (w.heap.size + 1) 58 2 v4 (0 + l.length) ([] ++ cellsE l)) := hown4; clear hown4 hgrow4 hnil4))
      refine (HAt.out _ HE4.out.to).mono ?_
      rintro e w5 ⟨rfl, hw⟩
      subst hw
      obtain ⟨g, a4, cap4, hg, hv4, hO⟩ := eown3 (rs := l) HO4.out (by omega) (by simp)
      subst hv4
      obtain ⟨a5, cap5, he5, hlc5, hcm5, hx5⟩ := hO
      injection he5 with e1 _ e3
      subst e1 e3
      obtain ⟨off5, rfl, hr5, hN5⟩ := hx5 (by omega)
      have HT : Hid (EOwn (w5.setCell ⟨g, off5 + j * 2 + 1, none⟩ (.int .i64 (n + 10))) (.slice (some ⟨g, off5, none⟩) l.length cap4) g (l.set j ⟨s.id, n + 10⟩)) := EOwn.til hr5 hN5 hlc5 hcm5 HJ.out (n + 10)
      have HE6 : Hid (OBox w (w5.setCell ⟨g, off5 + j * 2 + 1, none⟩ (.int .i64 (n + 10)))) := Below.setCell (p := ⟨g, off5 + j * 2 + 1, none⟩) HE4.out hg _
      obtain ⟨⟨u5, r5⟩, f5⟩ := hr5.2 (j * 2 + 1) (by omega)
      rw [← Nat.add_assoc] at r5 f5
      unfold maxLen at hcm5
      clear hN5 hr5 hx5
      obtain ⟨x0, x1, x2, x3, x4⟩ := HE6.out.box
      go_wp2
      exact bodyPost_ret (v := er 0 (.slice (some ⟨g, off5, none⟩) l.length cap4)) (by simp [results, Try.results39, go_sem, er, x1, x2]) rfl (by rw [HR.out]; exact eret_box 0 HE6.out.to HT.out (by omega))

def Ses.touched (l : List Se) (i n : Int) : Int × List Se := if Ses.live l i n = true then (0, putSe ⟨i, n + 10⟩ l) else (9, [])
theorem Ses.touchV_eq (l : List Se) (i n : Int) : Ses.touchV l i n = if Ses.asked l i n ≠ 0 then (Ses.asked l i n, []) else Ses.touched l i n := rfl
set_option maxHeartbeats 1000000 in
theorem specTouchSession_any (v : Value) (l : List Se) (i n : Int) (w : World) (hv : SomeS v) (hS : ESlice w v l) :
    Calls Try.prog 14 #[v, .int .i64 i, .int .i64 n] w (ERet w (Ses.touchV l i n).1 (Ses.touchV l i n).2) := by
  have HF : Hid (∀ wx, Ext w wx → Calls Try.prog 37 #[v, .int .i64 i, .int .i64 n] wx fun e w' => e = .returned (.int .i64 (Ses.asked l i n)) ∧ Ext wx w') := fun wx he => l4Asked_any v l i n wx (hS.ext he)
  obtain ⟨b, off, m, cap, rfl⟩ := hv
  have hm : m = l.length := by obtain ⟨a, cap', he, -⟩ := hS; injection he
  subst hm
  have HS : Hid (ESlice w (.slice (some ⟨b, off, none⟩) l.length cap) l) := hS
  clear hS
  rw [Ses.touchV_eq]
  by_cases hc : Ses.asked l i n = 0
  · obtain ⟨hf, -, hn⟩ := Ses.asked_zero hc
    obtain ⟨h6, hr, -⟩ := Ses.fault_zero hf
    have HO : Hid (∀ wx, Ext w wx → Calls Try.prog 39 #[.slice (some ⟨b, off, none⟩) l.length cap, .int .i64 i, .int .i64 n] wx (ERet wx (Ses.touched l i n).1 (Ses.touched l i n).2)) := fun wx he => by
      have h := l4Touch_any b off cap l i n wx (HS.out.ext he) hr (by omega) (by omega)
      unfold Ses.touched
      cases hq : Ses.live l i n <;> rw [hq] at h <;> simpa using h
    rw [if_neg (by simp [hc])]
    rw [hc] at HF
    clear hc hf hr
    generalize Ses.touched l i n = R at *
    obtain ⟨c, rs⟩ := R
    go_enter Try.func14, Try.ntmps14
    go_wp2_with fail
    refine (HF.out _ ((Ext.refl _).alloc _)).mono ?_
    rintro e w2 ⟨rfl, hb⟩
    have HB : Hid (OBox w w2) := (OBox.new w).ext hb
    clear hb
    go_wp2_with fail
    refine (HO.out _ HB.out.to).mono ?_
    rintro e w3 ⟨v3, g3, rfl, hg3, hO3, hb⟩
    have HB3 : Hid (OBox w w3) := HB.out.ext hb
    have hg4 : w.heap.size < g3 := Nat.lt_of_lt_of_le HB.out.size hg3
    have HO3 : Hid (EOwn w3 v3 g3 rs) := hO3
    obtain ⟨a3, cap3, rfl, -⟩ := id hO3
    clear hb hO3
    obtain ⟨x0, x1, x2, x3, x4⟩ := HB3.out.box
    unfold er
    go_wp2
    exact bodyPost_ret (v := er c (.slice a3 rs.length cap3)) (by simp [results, Try.results14, go_sem, er, x1, x2]) rfl (eret_box c HB3.out.to HO3.out hg4)
  · rw [if_pos hc]
    generalize Ses.asked l i n = c at *
    go_enter Try.func14, Try.ntmps14
    go_wp2_with fail
    refine (HF.out _ ((Ext.refl _).alloc _)).mono ?_
    rintro e w2 ⟨rfl, hb⟩
    have HB : Hid (OBox w w2) := (OBox.new w).ext hb
    clear hb
    obtain ⟨x0, x1, x2, x3, x4⟩ := HB.out.box
    go_wp2
    exact bodyPost_ret (v := er c (.slice none 0 0)) (by simp [results, Try.results14, go_sem, er, x1, x2]) rfl (eret_bad _ HB.out.to)

theorem Ses.touchV_len (l : List Se) (i n : Int) : (Ses.touchV l i n).2.length ≤ 1048576 := by
  unfold Ses.touchV
  split
  · simp
  · rename_i h
    split
    · have := putSe_len ⟨i, n + 10⟩ l
      have h6 := (Ses.fault_zero (Ses.asked_zero (l := l) (i := i) (n := n) (by omega)).1).1
      simp only
      omega
    · simp
theorem lawTouchSession (v : Value) (l : List Se) (i n : Int) (w : World) (hS : ESlice w v l) :
    Calls Try.prog 6 #[v, .int .i64 i, .int .i64 n] w fun e w' => e = .returned (.bool true) ∧ Ext w w' :=
  lawTouchSession_of v l i n w _ _ hS (Ses.touchV_len l i n) (fun _ wx vx _ hv h => specTouchSession_any vx l i n wx hv h) (fun _ wx vx _ h => implTouchSession_any vx l i n wx h)
end Go.Proofs.Ytjlmkjcahnnjpaa
