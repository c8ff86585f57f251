/- the specification's OpenSession. -/
import Derived.Test.YtjlmkjcahnnjpaaE8
import Derived.Deep.RegionLaw
namespace Go.Proofs.Ytjlmkjcahnnjpaa
open Go.RowKit

theorem put_cut {l : List Se} {s : Se} {k : Nat} (hk : k ≤ l.length) (hr : Rises l) (hh : hasE l s.id = false) (h1 : ∀ (j : Nat) t, j < k → l[j]? = some t → t.id < s.id) (h2 : ∀ t, l[k]? = some t → ¬ t.id < s.id) : putSe s l = l.take k ++ s :: l.drop k := by
  have hA : ∀ t ∈ l.take k, t.id < s.id := by
    intro t ht
    obtain ⟨j, hj, rfl⟩ := List.mem_iff_getElem.1 ht
    rw [List.length_take] at hj
    rw [List.getElem_take]
    exact h1 j _ (by omega) (List.getElem?_eq_getElem (by omega))
  have hB : ∀ t ∈ l.drop k, s.id < t.id := by
    intro t ht
    obtain ⟨j, hj, rfl⟩ := List.mem_iff_getElem.1 ht
    rw [List.length_drop] at hj
    rw [List.getElem_drop]
    have h3 := h2 (l[k]'(by omega)) (List.getElem?_eq_getElem (by omega))
    have h4 : l[k + j].id ≠ s.id := by
      intro e
      have : hasE l s.id = true := by
        unfold hasE
        rw [List.any_eq_true]
        exact ⟨l[k + j], List.getElem_mem _, by simp [e]⟩
      rw [hh] at this; cases this
    rcases Nat.eq_zero_or_pos j with rfl | hj0
    · simp only [Nat.add_zero] at h4 ⊢; omega
    · have := List.pairwise_iff_getElem.1 hr k (k + j) (by omega) (by omega) (by omega)
      omega
  unfold putSe
  conv => lhs; rw [← List.take_append_drop k l]
  rw [List.filter_append, List.filter_append, List.filter_eq_self.2 (fun t ht => by simpa using hA t ht), List.filter_eq_nil_iff.2 (fun t ht => by have := hB t ht; simp; omega), List.filter_eq_nil_iff.2 (fun t ht => by have := hA t ht; simp; omega), List.filter_eq_self.2 (fun t ht => by simpa using hB t ht), List.append_nil, List.nil_append]
theorem SesAt.take {w : World} {b off : Nat} {l : List Se} (h : SesAt w b off l) (k : Nat) : SesAt w b off (l.take k) := by
  intro i s hs
  rw [List.getElem?_take] at hs
  split at hs
  · exact h i s hs
  · cases hs
theorem SesAt.drop {w : World} {b off : Nat} {l : List Se} (h : SesAt w b off l) (k : Nat) : SesAt w b (off + k * 2) (l.drop k) := by
  intro i s hs
  rw [List.getElem?_drop] at hs
  have := h (k + i) s hs
  rw [show off + (k + i) * 2 = off + k * 2 + i * 2 from by omega] at this
  exact this
theorem cellsE_get : ∀ (l : List Se) (j : Nat) (u : Value), (cellsE l)[j]? = some u → ∃ i s, l[i]? = some s ∧ ((j = i * 2 ∧ u = .int .i64 s.id) ∨ (j = i * 2 + 1 ∧ u = .int .i64 s.til))
  | [], j, u, h => by simp [cellsE] at h
  | s :: r, 0, u, h => by simp [cellsE] at h; exact ⟨0, s, rfl, Or.inl ⟨rfl, h.symm⟩⟩
  | s :: r, 1, u, h => by simp [cellsE] at h; exact ⟨0, s, rfl, Or.inr ⟨rfl, h.symm⟩⟩
  | s :: r, j + 2, u, h => by
    have h' : (cellsE r)[j]? = some u := by simpa [cellsE] using h
    obtain ⟨i, t, q1, q2⟩ := cellsE_get r j u h'
    refine ⟨i + 1, t, by simpa using q1, ?_⟩
    rcases q2 with ⟨q, e⟩ | ⟨q, e⟩
    · exact Or.inl ⟨by omega, e⟩
    · exact Or.inr ⟨by omega, e⟩
theorem SesAt.news {w : World} {b off : Nat} {l : List Se} (h : SesAt w b off l) : ∀ j u, (cellsE l)[j]? = some u → w.cell? ((⟨b, off, none⟩ : Addr).add j) = some u := by
  intro j u hu
  rw [Addr.add_lit]
  obtain ⟨i, s, hs, q⟩ := cellsE_get l j u hu
  obtain ⟨c0, c1⟩ := h i s hs
  rcases q with ⟨rfl, rfl⟩ | ⟨rfl, rfl⟩
  · exact c0
  · rw [← Nat.add_assoc]; exact c1

theorem eown3 {w : World} {base N : Nat} {v : Value} {cs : List Value} {rs : List Se} (h : w.ownsRow base 58 2 v N cs) (hN : N = rs.length) (hc : cs = cellsE rs) : ∃ g a cap, base ≤ g ∧ v = .slice a rs.length cap ∧ EOwn w v g rs := by
  subst hN hc
  obtain ⟨g, hg, hO⟩ := eown_of_owns h
  obtain ⟨a, cap, hv, hr⟩ := id hO
  exact ⟨g, a, cap, hg, hv, hO⟩
theorem eown4 {w : World} {base N : Nat} {v : Value} {cs : List Value} {rs : List Se} (h : w.ownsRow base 58 2 v N cs) (hN : N = rs.length) (hc : cs = cellsE rs) : w.ownsRow base 58 2 v rs.length (cellsE rs) := by
  subst hN hc
  exact h
/-- The same, its sessions in a row of its own, behind the result's block. -/
def ERetO (w : World) (c : Int) (rs : List Se) (e : Ending) (w' : World) : Prop :=
  ∃ v, e = .returned (er c v) ∧ w'.ownsRow (w.heap.size + 1) 58 2 v rs.length (cellsE rs) ∧ Ext w w'
theorem ERetO.to {w w' : World} {c : Int} {rs : List Se} {e : Ending} (h : ERetO w c rs e w') : ERet w c rs e w' := by
  obtain ⟨v, h1, h2, h3⟩ := h
  obtain ⟨g, hg, hO⟩ := eown_of_owns h2
  exact ⟨v, g, h1, by omega, hO, h3⟩
theorem eretO_box {w w2 : World} (c : Int) {v : Value} {rs : List Se} (hE : Ext w w2) (hO : w2.ownsRow (w.heap.size + 1) 58 2 v rs.length (cellsE rs)) :
    ERetO w c rs (.returned (er c v)) ((w2.setCell ⟨w.heap.size, 0, none⟩ (.int .i64 c)).setCell ⟨w.heap.size, 1, none⟩ v) :=
  ⟨v, rfl, ownsRow_setCell_below (ownsRow_setCell_below hO (a := ⟨w.heap.size, 0, none⟩) (Nat.lt_succ_self _) _) (a := ⟨w.heap.size, 1, none⟩) (Nat.lt_succ_self _) _, hE.two _ _⟩
theorem eretO_bad {w w2 : World} (c : Int) (hE : Ext w w2) :
    ERetO w c [] (.returned (er c (.slice none 0 0))) ((w2.setCell ⟨w.heap.size, 0, none⟩ (.int .i64 c)).setCell ⟨w.heap.size, 1, none⟩ (.slice none 0 0)) :=
  eretO_box c hE (World.ownsRow_nil _ _ _ _)
def Ses.opened (l : List Se) (i n : Int) : Int × List Se := if hasE l i = true then (6, []) else if 6 ≤ l.length then (2, []) else (0, putSe ⟨i, n + 10⟩ l)
theorem Ses.openV_eq (l : List Se) (i n : Int) : Ses.openV l i n = if Ses.asked l i n ≠ 0 then (Ses.asked l i n, []) else Ses.opened l i n := rfl
/-- The result's block was laid behind w, and nothing up to it has turned since. -/
def OBox (w wx : World) : Prop := Below (w.heap.size + 1) (w.alloc (.cells #[.int .i64 0, .slice none 0 0] 28)) wx
theorem OBox.new (w : World) : OBox w (w.alloc (.cells #[.int .i64 0, .slice none 0 0] 28)) := Below.refl _ _
theorem OBox.to {w wx : World} (h : OBox w wx) : Ext w wx := ((Ext.refl w).alloc _).trans (Below.mono h (by simp))
theorem OBox.drew {w wx : World} (h : OBox w wx) : OBox w wx.drew := Below.drew h
theorem OBox.size {w wx : World} (h : OBox w wx) : w.heap.size + 1 ≤ wx.heap.size := by have := Below.size h; simpa using this
theorem OBox.alloc {w wx : World} (h : OBox w wx) (o : Obj) : OBox w (wx.alloc o) := Below.alloc h h.size o
theorem OBox.ext {w wx wy : World} (h : OBox w wx) (he : Ext wx wy) : OBox w wy := Below.trans h (Below.mono he h.size)
theorem OBox.grown {w wx wy : World} {row : Option Nat} (h : OBox w wx) (hg : wx.grownBy wy row) (hr : ∀ q, row = some q → w.heap.size + 1 ≤ q) : OBox w wy := Below.grown h hg h.size hr
theorem OBox.box {w wx : World} (h : OBox w wx) : EBox wx w.heap.size := (EBox.new w _).below h (by omega)

set_option maxHeartbeats 4000000 in
set_option maxRecDepth 100000 in
theorem l4Open_own (b off cap : Nat) (l : List Se) (i n : Int) (w : World) (hS : ESlice w (.slice (some ⟨b, off, none⟩) l.length cap) l) (hr : Rises l) (hl : l.length ≤ 1000) (hn : -100000 ≤ n ∧ n ≤ 100000) :
    Calls Try.prog 38 #[.slice (some ⟨b, off, none⟩) l.length cap, .int .i64 i, .int .i64 n] w (ERetO w (Ses.opened l i n).1 (Ses.opened l i n).2) := by
  have hi9 : (Try.prog.info? 58).map (fun i => (i.zero, i.size, i.bytes)) = some (some (.agg #[.int .i64 0, .int .i64 0]), 2, 16) := by kernel_rfl
  obtain ⟨ti, hti, hxx⟩ := Option.map_eq_some_iff.1 hi9
  simp only [Prod.mk.injEq] at hxx
  obtain ⟨hz0, hz1, hz2⟩ := hxx
  clear hi9
  have HAt : Hid (∀ wx, Ext w wx → Calls Try.prog 60 #[.slice (some ⟨b, off, none⟩) l.length cap, .int .i64 i] wx fun e w' => e = .returned (.int .i64 (Ses.atF i 0 l)) ∧ w' = wx) := fun wx he => l4At_any _ l i wx (hS.ext he)
  obtain ⟨a', cap', he, hlc, hcm, hx⟩ := hS
  injection he with e1 _ e3
  subst e1 e3
  have HX : Hid (0 < l.length → ∃ b' off', (some (⟨b, off, none⟩ : Addr)) = some ⟨b', off', none⟩ ∧ b' < w.heap.size ∧ SesAt w b' off' l) := hx
  have HNA : Hid (∀ wx, Ext w wx → SesAt wx b off l) := by
    intro wx he
    by_cases h0 : 0 < l.length
    · obtain ⟨b', off', he', hb, hN⟩ := hx h0
      injection he' with he'
      injection he' with e1 e2 _
      subst e1 e2
      exact hN.ext hb he
    · intro j s hs
      have := (List.getElem?_eq_some_iff.1 hs).1
      omega
  clear hx
  unfold maxLen at hcm
  rcases Ses.atF_is i l 0 with ⟨q1, q2⟩ | ⟨j, s, q1, q2, q3, q4, q5⟩
  · rw [q1] at HAt
    by_cases h6 : 6 ≤ l.length
    · rw [show Ses.opened l i n = (2, []) from by unfold Ses.opened; rw [if_neg (by simp [q2]), if_pos h6]]
      have hl6 : (6 : Int) ≤ ((l.length : Nat) : Int) := by omega
      go_enter Try.func38, Try.ntmps38
      go_wp2_with fail
      refine (HAt.out _ ((Ext.refl _).alloc _)).mono ?_
      rintro e w2 ⟨rfl, hw⟩
      have HB : Hid (OBox w w2) := by rw [hw]; exact OBox.new w
      clear hw
      obtain ⟨x0, x1, x2, x3, x4⟩ := HB.out.box
      go_wp2
      exact bodyPost_ret (v := er 2 (.slice none 0 0)) (by simp [results, Try.results38, go_sem, er, x1, x2]) rfl (eretO_bad _ HB.out.to)
    · rw [show Ses.opened l i n = (0, putSe ⟨i, n + 10⟩ l) from by unfold Ses.opened; rw [if_neg (by simp [q2]), if_neg h6]]
      have hl6 : ¬ (6 : Int) ≤ ((l.length : Nat) : Int) := by omega
      have HP : Hid (Rises l ∧ hasE l i = false) := ⟨hr, q2⟩
      clear q1 q2 hr
      generalize hR : putSe ⟨i, n + 10⟩ l = rs
      have HR : Hid (putSe ⟨i, n + 10⟩ l = rs) := hR
      clear hR
      go_enter Try.func38, Try.ntmps38
      go_wp2_with fail
      refine (HAt.out _ ((Ext.refl _).alloc _)).mono ?_
      rintro e w2 ⟨rfl, hw⟩
      have HB : Hid (OBox w w2) := by rw [hw]; exact OBox.new w
      clear hw
      go_wp2
      go_loopw [7] (fun iv wr => ∃ (k : Nat), k ≤ l.length ∧ iv = .int .i64 k ∧ Hid (∀ (j : Nat) t, j < k → l[j]? = some t → t.id < i) ∧ Hid (OBox w wr)) (fun iv _ => l.length - (intOf iv).toNat)
      case atStart => exact ⟨0, Nat.zero_le _, rfl, fun j y h => by omega, HB.out⟩
      case round =>
        obtain ⟨k, hk, rfl, HA, HE⟩ := hrel
        by_cases hlt : k < l.length
        · obtain ⟨t, htk⟩ : ∃ t, l[k]? = some t := ⟨_, List.getElem?_eq_getElem hlt⟩
          obtain ⟨d0, d1⟩ := HNA.out _ HE.out.to k t htk
          by_cases hti' : t.id < i
          · have HA2 : Hid (∀ (j : Nat) x, j < k + 1 → l[j]? = some x → x.id < i) := by
              intro j x hj hx
              by_cases hjk : j = k
              · subst hjk; rw [htk] at hx; cases hx; exact hti'
              · exact HA.out j x (by omega) hx
            clear htk
            go_wp2
            exact ⟨⟨k + 1, by omega, by go_num, HA2, HE.out⟩, by simp [intOf]; omega⟩
          · have HRS : Hid (rs = l.take k ++ ⟨i, n + 10⟩ :: l.drop k) := by
              show _ = _
              rw [← HR.out]
              exact put_cut hk HP.out.1 HP.out.2 HA.out (fun x hx => by rw [htk] at hx; cases hx; exact hti')
            clear htk
            have HSa : Hid (∀ wy : World, SesAt wy b off l → ∀ j u, (cellsE (l.drop k))[j]? = some u → wy.cell? ((⟨b, off + k * 2, none⟩ : Addr).add j) = some u) := fun wy hN => (hN.drop k).news
            have HSb : Hid (cap = k → ∀ wy : World, ∀ j u, (cellsE (l.drop k))[j]? = some u → wy.cell? ((⟨b, off, none⟩ : Addr).add j) = some u) := fun h wy t u hu => by
              rw [List.drop_of_length_le (by omega)] at hu
              simp [cellsE] at hu
            have hkc : k ≤ cap := by omega
            have hlt2 : (cellsE (l.take k)).length = k * 2 := by rw [cellsE_len, List.length_take]; omega
            have hld : (cellsE (l.drop k)).length = (l.length - k) * 2 := by rw [cellsE_len, List.length_drop]
            have HN0 : Hid (SesAt (wr.alloc (.cells #[] 58)) b off l) := HNA.out _ (HE.out.alloc _).to
            have HO : Hid ((wr.alloc (.cells #[] 58)).ownsRow (w.heap.size + 1) 58 2 (.slice (some ⟨wr.heap.size, 0, none⟩) 0 0) 0 []) := World.ownsRow_made wr #[] 0 HE.out.size (by unfold maxLen; omega) rfl
            go_wp2_with (first | (at_builtin; have HO5' := HO5.out; go_must (first | (refine wpList_append_own _ rfl _ _ 24 rfl (w.heap.size + 1) 58 ti (.agg #[.int .i64 0, .int .i64 0]) 2 16 Try.underlying24 hti hz0 hz1 hz2 rfl (by decide) v5 (0 + k + 1) ([] ++ cellsE (l.take k) ++ cellsE [⟨i, n + 10⟩]) rfl HO5' ⟨b, off + k * 2, none⟩ (l.length - k) _ (cellsE (l.drop k)) rfl hld (HSa.out w5 HN5.out) (cellsE_one _) (by unfold maxLen; omega) (by omega) (by have := HE5.out.size; omega) ?_; intro v6 w6 hown6 hgrow6 hnil6; have HE6 : Hid (OBox w w6) := HE5.out.grown hgrow6 (fun q hq => (HO5.out.lt q hq).1); have HO6 : Hid (w6.ownsRow (w.heap.size + 1) 58 2 v6 (0 + k + 1 + (l.length - k)) ([] ++ cellsE (l.take k) ++ cellsE [⟨i, n + 10⟩] ++ cellsE (l.drop k))) := hown6; clear hown6 hgrow6 hnil6 HO5'; obtain ⟨g6, a6, cap6, hg6, hv6, hO6'⟩ := eown3 (rs := rs) HO6.out (by rw [HRS.out]; simp; omega) (by rw [HRS.out, cellsE_app]; simp [cellsE]); have HO7 : Hid (w6.ownsRow (w.heap.size + 1) 58 2 v6 rs.length (cellsE rs)) := eown4 HO6.out (by rw [HRS.out]; simp; omega) (by rw [HRS.out, cellsE_app]; simp [cellsE]); subst hv6; clear hO6'; obtain ⟨x0, x1, x2, x3, x4⟩ := HE6.out.box) | (refine wpList_append_own _ rfl _ _ 24 rfl (w.heap.size + 1) 58 ti (.agg #[.int .i64 0, .int .i64 0]) 2 16 Try.underlying24 hti hz0 hz1 hz2 rfl (by decide) v5 (0 + k + 1) ([] ++ cellsE (l.take k) ++ cellsE [⟨i, n + 10⟩]) rfl HO5' ⟨b, off, none⟩ (l.length - k) _ (cellsE (l.drop k)) rfl hld (HSb.out (by assumption) w5) (cellsE_one _) (by unfold maxLen; omega) (by omega) (by have := HE5.out.size; omega) ?_; intro v6 w6 hown6 hgrow6 hnil6; have HE6 : Hid (OBox w w6) := HE5.out.grown hgrow6 (fun q hq => (HO5.out.lt q hq).1); have HO6 : Hid (w6.ownsRow (w.heap.size + 1) 58 2 v6 (0 + k + 1 + (l.length - k)) ([] ++ cellsE (l.take k) ++ cellsE [⟨i, n + 10⟩] ++ cellsE (l.drop k))) := hown6; clear hown6 hgrow6 hnil6 HO5'; obtain ⟨g6, a6, cap6, hg6, hv6, hO6'⟩ := eown3 (rs := rs) HO6.out (by rw [HRS.out]; simp; omega) (by rw [HRS.out, cellsE_app]; simp [cellsE]); have HO7 : Hid (w6.ownsRow (w.heap.size + 1) 58 2 v6 rs.length (cellsE rs)) := eown4 HO6.out (by rw [HRS.out]; simp; omega) (by rw [HRS.out, cellsE_app]; simp [cellsE]); subst hv6; clear hO6'; obtain ⟨x0, x1, x2, x3, x4⟩ := HE6.out.box))) | (at_builtin; have HO4' := HO4.out; refine wpList_append_own _ rfl _ _ 24 rfl (w.heap.size + 1) 58 ti (.agg #[.int .i64 0, .int .i64 0]) 2 16 Try.underlying24 hti hz0 hz1 hz2 rfl (by decide) v4 (0 + k) ([] ++ cellsE (l.take k)) rfl (HO4.out.alloc _) ⟨w4.heap.size, 0, none⟩ 1 1 (cellsE [⟨i, n + 10⟩]) rfl rfl (cells_ses _ _ _ _) (cellsE_one _) (by unfold maxLen; omega) (by omega) (by have := HE4.out.size; simp; omega) ?_; intro v5 w5 hown5 hgrow5 hnil5; have HE5 : Hid (OBox w w5) := (HE4.out.alloc _).grown hgrow5 (fun q hq => (HO4.out.lt q hq).1); have HO5 : Hid (w5.ownsRow (w.heap.size + 1) 58 2 v5 (0 + k + 1) ([] ++ cellsE (l.take k) ++ cellsE [⟨i, n + 10⟩])) := hown5; have HN5 : Hid (SesAt w5 b off l) := HNA.out _ HE5.out.to; clear hown5 hgrow5 hnil5 HO4') | (at_builtin; refine wpList_append_own _ rfl _ _ 24 rfl (w.heap.size + 1) 58 ti (.agg #[.int .i64 0, .int .i64 0]) 2 16 Try.underlying24 hti hz0 hz1 hz2 rfl (by decide) (.slice (some ⟨wr.heap.size, 0, none⟩) 0 0) 0 [] rfl HO.out ⟨b, off, none⟩ k _ (cellsE (l.take k)) rfl hlt2 (HN0.out.take k).news (cellsE_one _) (by unfold maxLen; omega) (by omega) (by have := HE.out.size; simp; omega) ?_; intro v4 w4 hown4 hgrow4 hnil4; have HE4 : Hid (OBox w w4) := (HE.out.alloc _).grown hgrow4 (fun q hq => (HO.out.lt q hq).1); have HO4 : Hid (w4.ownsRow (w.heap.size + 1) 58 2 v4 (0 + k) ([] ++ cellsE (l.take k))) := hown4; clear hown4 hgrow4 hnil4))
            all_goals exact bodyPost_ret (v := er 0 (.slice a6 rs.length cap6)) (by simp [results, Try.results38, go_sem, er, x1, x2]) rfl (eretO_box 0 HE6.out.to HO7.out)
        · obtain rfl : k = l.length := by omega
          have HRS : Hid (rs = l.take l.length ++ ⟨i, n + 10⟩ :: l.drop l.length) := by
            show _ = _
            rw [← HR.out]
            exact put_cut hk HP.out.1 HP.out.2 HA.out (fun x hx => by have := (List.getElem?_eq_some_iff.1 hx).1; omega)
          have HSa : Hid (∀ wy : World, SesAt wy b off l → ∀ j u, (cellsE (l.drop l.length))[j]? = some u → wy.cell? ((⟨b, off + l.length * 2, none⟩ : Addr).add j) = some u) := fun wy hN => (hN.drop l.length).news
          have HSb : Hid (cap = l.length → ∀ wy : World, ∀ j u, (cellsE (l.drop l.length))[j]? = some u → wy.cell? ((⟨b, off, none⟩ : Addr).add j) = some u) := fun h wy t u hu => by
            rw [List.drop_of_length_le (by omega)] at hu
            simp [cellsE] at hu
          have hkc : l.length ≤ cap := by omega
          have hlt2 : (cellsE (l.take l.length)).length = l.length * 2 := by rw [cellsE_len, List.length_take]; omega
          have hld : (cellsE (l.drop l.length)).length = 0 * 2 := by simp [cellsE]
          have HN0 : Hid (SesAt (wr.alloc (.cells #[] 58)) b off l) := HNA.out _ (HE.out.alloc _).to
          have HO : Hid ((wr.alloc (.cells #[] 58)).ownsRow (w.heap.size + 1) 58 2 (.slice (some ⟨wr.heap.size, 0, none⟩) 0 0) 0 []) := World.ownsRow_made wr #[] 0 HE.out.size (by unfold maxLen; omega) rfl
          obtain ⟨A, hA⟩ : ∃ A : Addr, (if cap = l.length then some (⟨b, off, none⟩ : Addr) else some ⟨b, off + l.length * 2, none⟩) = some A := by by_cases h : cap = l.length <;> simp [h]
          go_wp2_with (first | (at_builtin; have HO5' := HO5.out; go_must (refine wpList_append_own _ rfl _ _ 24 rfl (w.heap.size + 1) 58 ti (.agg #[.int .i64 0, .int .i64 0]) 2 16 Try.underlying24 hti hz0 hz1 hz2 rfl (by decide) v5 (0 + l.length + 1) ([] ++ cellsE (l.take l.length) ++ cellsE [⟨i, n + 10⟩]) rfl HO5' A 0 _ (cellsE (l.drop l.length)) rfl hld (fun t u hu => by simp [cellsE] at hu) (cellsE_one _) (by unfold maxLen; omega) (by omega) (by have := HE5.out.size; omega) ?_; intro v6 w6 hown6 hgrow6 hnil6; have HE6 : Hid (OBox w w6) := HE5.out.grown hgrow6 (fun q hq => (HO5.out.lt q hq).1); have HO6 : Hid (w6.ownsRow (w.heap.size + 1) 58 2 v6 (0 + l.length + 1 + 0) ([] ++ cellsE (l.take l.length) ++ cellsE [⟨i, n + 10⟩] ++ cellsE (l.drop l.length))) := hown6; clear hown6 hgrow6 hnil6 HO5'; obtain ⟨g6, a6, cap6, hg6, hv6, hO6'⟩ := eown3 (rs := rs) HO6.out (by rw [HRS.out]; simp) (by rw [HRS.out, cellsE_app]; simp [cellsE]); have HO7 : Hid (w6.ownsRow (w.heap.size + 1) 58 2 v6 rs.length (cellsE rs)) := eown4 HO6.out (by rw [HRS.out]; simp) (by rw [HRS.out, cellsE_app]; simp [cellsE]); subst hv6; clear hO6'; obtain ⟨x0, x1, x2, x3, x4⟩ := HE6.out.box)) | (at_builtin; have HO4' := HO4.out; refine wpList_append_own _ rfl _ _ 24 rfl (w.heap.size + 1) 58 ti (.agg #[.int .i64 0, .int .i64 0]) 2 16 Try.underlying24 hti hz0 hz1 hz2 rfl (by decide) v4 (0 + l.length) ([] ++ cellsE (l.take l.length)) rfl (HO4.out.alloc _) ⟨w4.heap.size, 0, none⟩ 1 1 (cellsE [⟨i, n + 10⟩]) rfl rfl (cells_ses _ _ _ _) (cellsE_one _) (by unfold maxLen; omega) (by omega) (by have := HE4.out.size; simp; omega) ?_; intro v5 w5 hown5 hgrow5 hnil5; have HE5 : Hid (OBox w w5) := (HE4.out.alloc _).grown hgrow5 (fun q hq => (HO4.out.lt q hq).1); have HO5 : Hid (w5.ownsRow (w.heap.size + 1) 58 2 v5 (0 + l.length + 1) ([] ++ cellsE (l.take l.length) ++ cellsE [⟨i, n + 10⟩])) := hown5; have HN5 : Hid (SesAt w5 b off l) := HNA.out _ HE5.out.to; clear hown5 hgrow5 hnil5 HO4') | (at_builtin; refine wpList_append_own _ rfl _ _ 24 rfl (w.heap.size + 1) 58 ti (.agg #[.int .i64 0, .int .i64 0]) 2 16 Try.underlying24 hti hz0 hz1 hz2 rfl (by decide) (.slice (some ⟨wr.heap.size, 0, none⟩) 0 0) 0 [] rfl HO.out ⟨b, off, none⟩ l.length _ (cellsE (l.take l.length)) rfl hlt2 (HN0.out.take l.length).news (cellsE_one _) (by unfold maxLen; omega) (by omega) (by have := HE.out.size; simp; omega) ?_; intro v4 w4 hown4 hgrow4 hnil4; have HE4 : Hid (OBox w w4) := (HE.out.alloc _).grown hgrow4 (fun q hq => (HO.out.lt q hq).1); have HO4 : Hid (w4.ownsRow (w.heap.size + 1) 58 2 v4 (0 + l.length) ([] ++ cellsE (l.take l.length))) := hown4; clear hown4 hgrow4 hnil4))
          all_goals exact bodyPost_ret (v := er 0 (.slice a6 rs.length cap6)) (by simp [results, Try.results38, go_sem, er, x1, x2]) rfl (eretO_box 0 HE6.out.to HO7.out)
  · rw [show Ses.opened l i n = (6, []) from by unfold Ses.opened; rw [q4, if_pos rfl]]
    rw [q2, Nat.zero_add] at HAt
    have hj : (0 : Int) ≤ (j : Int) := by omega
    clear q1 q2 q3 q4 q5
    go_enter Try.func38, Try.ntmps38
    go_wp2_with fail
    refine (HAt.out _ ((Ext.refl _).alloc _)).mono ?_
    rintro e w2 ⟨rfl, hw⟩
    have HB : Hid (OBox w w2) := by rw [hw]; exact OBox.new w
    clear hw
    obtain ⟨x0, x1, x2, x3, x4⟩ := HB.out.box
    go_wp2
    exact bodyPost_ret (v := er 6 (.slice none 0 0)) (by simp [results, Try.results38, go_sem, er, x1, x2]) rfl (eretO_bad _ HB.out.to)

theorem l4Open_any (b off cap : Nat) (l : List Se) (i n : Int) (w : World) (hS : ESlice w (.slice (some ⟨b, off, none⟩) l.length cap) l) (hr : Rises l) (hl : l.length ≤ 1000) (hn : -100000 ≤ n ∧ n ≤ 100000) :
    Calls Try.prog 38 #[.slice (some ⟨b, off, none⟩) l.length cap, .int .i64 i, .int .i64 n] w (ERet w (Ses.opened l i n).1 (Ses.opened l i n).2) :=
  (l4Open_own b off cap l i n w hS hr hl hn).mono fun _ _ h => h.to

set_option maxHeartbeats 1000000 in
theorem specOpenSession_any (v : Value) (l : List Se) (i n : Int) (w : World) (hv : SomeS v) (hS : ESlice w v l) :
    Calls Try.prog 13 #[v, .int .i64 i, .int .i64 n] w (ERet w (Ses.openV l i n).1 (Ses.openV l i n).2) := by
  have HF : Hid (∀ wx, Ext w wx → Calls Try.prog 37 #[v, .int .i64 i, .int .i64 n] wx fun e w' => e = .returned (.int .i64 (Ses.asked l i n)) ∧ Ext wx w') := fun wx he => l4Asked_any v l i n wx (hS.ext he)
  obtain ⟨b, off, m, cap, rfl⟩ := hv
  have hm : m = l.length := by obtain ⟨a, cap', he, -⟩ := hS; injection he
  subst hm
  have HS : Hid (ESlice w (.slice (some ⟨b, off, none⟩) l.length cap) l) := hS
  clear hS
  rw [Ses.openV_eq]
  by_cases hc : Ses.asked l i n = 0
  · obtain ⟨hf, -, hn⟩ := Ses.asked_zero hc
    obtain ⟨h6, hr, -⟩ := Ses.fault_zero hf
    have HO : Hid (∀ wx, Ext w wx → Calls Try.prog 38 #[.slice (some ⟨b, off, none⟩) l.length cap, .int .i64 i, .int .i64 n] wx (ERet wx (Ses.opened l i n).1 (Ses.opened l i n).2)) := fun wx he => l4Open_any b off cap l i n wx (HS.out.ext he) hr (by omega) (by omega)
    rw [if_neg (by simp [hc])]
    rw [hc] at HF
    clear hc hf hr
    generalize Ses.opened l i n = R at *
    obtain ⟨c, rs⟩ := R
    go_enter Try.func13, Try.ntmps13
    go_wp2_with fail
    refine (HF.out _ ((Ext.refl _).alloc _)).mono ?_
    rintro e w2 ⟨rfl, hb⟩
    have HB : Hid (OBox w w2) := (OBox.new w).ext hb
    clear hb
    go_wp2_with fail
    refine (HO.out _ HB.out.to).mono ?_
    rintro e w3 ⟨v3, g3, rfl, hg3, hO3, hb⟩
    have HB3 : Hid (OBox w w3) := HB.out.ext hb
    have hg4 : w.heap.size < g3 := Nat.lt_of_lt_of_le HB.out.size hg3
    have HO3 : Hid (EOwn w3 v3 g3 rs) := hO3
    obtain ⟨a3, cap3, rfl, -⟩ := id hO3
    clear hb hO3
    obtain ⟨x0, x1, x2, x3, x4⟩ := HB3.out.box
    unfold er
    go_wp2
    exact bodyPost_ret (v := er c (.slice a3 rs.length cap3)) (by simp [results, Try.results13, go_sem, er, x1, x2]) rfl (eret_box c HB3.out.to HO3.out hg4)
  · rw [if_pos hc]
    generalize Ses.asked l i n = c at *
    go_enter Try.func13, Try.ntmps13
    go_wp2_with fail
    refine (HF.out _ ((Ext.refl _).alloc _)).mono ?_
    rintro e w2 ⟨rfl, hb⟩
    have HB : Hid (OBox w w2) := (OBox.new w).ext hb
    clear hb
    obtain ⟨x0, x1, x2, x3, x4⟩ := HB.out.box
    go_wp2
    exact bodyPost_ret (v := er c (.slice none 0 0)) (by simp [results, Try.results13, go_sem, er, x1, x2]) rfl (eret_bad _ HB.out.to)
end Go.Proofs.Ytjlmkjcahnnjpaa
