/- the specification's SplitSessions. -/
import Derived.Test.YtjlmkjcahnnjpaaE12
import Derived.Maps.AppendAt
namespace Go.Proofs.Ytjlmkjcahnnjpaa
open Go.RowKit Go.Maps

theorem cells_lit (w : World) (s : Se) (t : TypeId) : ∀ j u, (cellsE [s])[j]? = some u → (w.alloc (.cells #[.int .i64 s.id, .int .i64 s.til] t)).cell? ((⟨w.heap.size, 0, none⟩ : Addr).add j) = some u := cells_ses w s.id s.til t
def Apart (v u : Value) : Prop := ∃ g h, v.ownBlock = some g ∧ u.ownBlock = some h ∧ g ≠ h
set_option maxHeartbeats 4000000 in
set_option maxRecDepth 100000 in
theorem l4Split_any (v : Value) (l : List Se) (n : Int) (w : World) (hS : ESlice w v l) (hl : l.length ≤ 1000) :
    Calls Try.prog 48 #[v, .int .i64 n] w fun e w' => ∃ v u g h, e = .returned (.tuple #[v, u]) ∧ w.heap.size ≤ g ∧ w.heap.size ≤ h ∧ EOwn w' v g (Ses.liveL l n) ∧ IOwn w' u h (Ses.overL l n) ∧ (0 < (Ses.liveL l n).length → 0 < (Ses.overL l n).length → g ≠ h) ∧ Ext w w' := by
  have hi9 : (Try.prog.info? 2).map (fun i => (i.zero, i.size, i.bytes)) = some (some (.int .i64 0), 1, 8) := by kernel_rfl
  obtain ⟨ti, hti, hxx⟩ := Option.map_eq_some_iff.1 hi9
  simp only [Prod.mk.injEq] at hxx
  obtain ⟨hz0, hz1, hz2⟩ := hxx
  clear hi9
  have hi9 : (Try.prog.info? 58).map (fun i => (i.zero, i.size, i.bytes)) = some (some (.agg #[.int .i64 0, .int .i64 0]), 2, 16) := by kernel_rfl
  obtain ⟨si, hsi, hxx⟩ := Option.map_eq_some_iff.1 hi9
  simp only [Prod.mk.injEq] at hxx
  obtain ⟨hy0, hy1, hy2⟩ := hxx
  clear hi9
  obtain ⟨a, cap, rfl, hlc, hcm, hx⟩ := hS
  have HX : Hid (0 < l.length → ∃ b off, a = some ⟨b, off, none⟩ ∧ b < w.heap.size ∧ SesAt w b off l) := hx
  clear hx
  unfold maxLen at hcm
  go_enter Try.func48, Try.ntmps48
  go_wp2
  go_loopw [6, 7, 8] (fun lv ov i wr => ∃ (k : Nat), k ≤ l.length ∧ i = .int .i64 k ∧ Hid (wr.ownsRow w.heap.size 58 2 lv (Ses.liveL (l.take k) n).length (cellsE (Ses.liveL (l.take k) n))) ∧ Hid (wr.ownsRow w.heap.size 2 1 ov (Ses.overL (l.take k) n).length ((Ses.overL (l.take k) n).map (Value.int .i64))) ∧ Hid (Apart lv ov) ∧ Hid (Ext w wr)) (fun _ _ i _ => l.length - (intOf i).toNat)
  case atStart => 
    refine ⟨0, Nat.zero_le _, rfl, ?_, ?_, ⟨w.heap.size, w.heap.size + 1, rfl, rfl, by omega⟩, ((Ext.refl _).alloc _).alloc _⟩
    · exact (World.ownsRow_made w #[] 0 (Nat.le_refl _) (by unfold maxLen; omega) rfl).alloc _
    · have h := World.ownsRow_made (base := w.heap.size) (e := 2) (size := 1) (w.alloc (.cells #[] 58)) #[] 0 (by simp) (by unfold maxLen; omega) rfl
      show ((w.alloc (.cells #[] 58)).alloc (.cells #[] 2)).ownsRow w.heap.size 2 1 (.slice (some ⟨w.heap.size + 1, 0, none⟩) 0 0) 0 []
      simpa using h
  case round =>
    obtain ⟨k, hk, rfl, HL, HO, HA, HE⟩ := hrel
    by_cases hlt : k < l.length
    · obtain ⟨s, hsk⟩ : ∃ s, l[k]? = some s := ⟨_, List.getElem?_eq_getElem hlt⟩
      obtain ⟨bb, off, rfl, hb, hN⟩ := HX.out (by omega)
      obtain ⟨d0, d1⟩ := hN.ext hb HE.out k s hsk
      have hbw := HE.out.size
      by_cases q : n ≤ s.til
      · have HL2 : Hid (Ses.liveL (l.take (k + 1)) n = Ses.liveL (l.take k) n ++ [s]) := by show _ = _; rw [Ses.live_take n hsk, if_pos q]
        have HO2 : Hid (Ses.overL (l.take (k + 1)) n = Ses.overL (l.take k) n) := by show _ = _; rw [Ses.over_take n hsk, if_pos q, List.append_nil]
        have hll : (Ses.liveL (l.take k) n).length ≤ 1000 := by
          unfold Ses.liveL
          have h1 := List.length_filter_le (fun s : Se => decide (n ≤ s.til)) (l.take k)
          rw [List.length_take] at h1
          omega
        clear hN hsk
        generalize Ses.liveL (l.take k) n = ls at *
        go_wp2_with (at_builtin; go_must (refine wpList_append_own_at _ rfl _ _ 24 rfl w.heap.size 58 si (.agg #[.int .i64 0, .int .i64 0]) 2 16 Try.underlying24 hsi hy0 hy1 hy2 rfl (by decide) u6 _ _ rfl (HL.out.alloc _) ⟨wr.heap.size, 0, none⟩ 1 1 (cellsE [s]) rfl rfl (cells_lit _ _ _) (cellsE_one _) (by unfold maxLen; omega) (by omega) (by simp; omega) ?_; intro v6 w6 hown6 hgrow6 hnil6 hloc6))
        have HL6 : Hid (w6.ownsRow w.heap.size 58 2 v6 (Ses.liveL (l.take (k + 1)) n).length (cellsE (Ses.liveL (l.take (k + 1)) n))) := by show World.ownsRow _ _ _ _ _ _ _; rw [HL2.out, List.length_append, cellsE_app]; exact hown6
        have HO6 : Hid (w6.ownsRow w.heap.size 2 1 u7 (Ses.overL (l.take (k + 1)) n).length ((Ses.overL (l.take (k + 1)) n).map (Value.int .i64))) := by
          show World.ownsRow _ _ _ _ _ _ _
          rw [HO2.out]
          refine (HO.out.alloc _).kept hgrow6 (Or.inr ?_)
          obtain ⟨g, h, e1, e2, hne⟩ := HA.out
          rw [e1, e2]
          intro e
          injection e with e
          exact hne e.symm
        have HA6 : Hid (Apart v6 u7) := by
          obtain ⟨g, h, e1, e2, hne⟩ := HA.out
          have := (HO.out.lt h e2).2
          rcases hloc6 with e | e
          · exact ⟨g, h, e.trans e1, e2, hne⟩
          · exact ⟨_, h, e, e2, by simp; omega⟩
        have HE6 : Hid (Ext w w6) := Below.trans HE.out (((Below.refl _ _).alloc HE.out.size _).grown hgrow6 (by have := HE.out.size; simp; omega) (fun q hq => (HL.out.lt q hq).1))
        clear hown6 hgrow6 hnil6 hloc6
        go_wp2
        exact ⟨⟨k + 1, by omega, by go_num, HL6, HO6, HA6, HE6⟩, by simp [intOf]; omega⟩
      · have HL2 : Hid (Ses.liveL (l.take (k + 1)) n = Ses.liveL (l.take k) n) := by show _ = _; rw [Ses.live_take n hsk, if_neg q, List.append_nil]
        have HO2 : Hid (Ses.overL (l.take (k + 1)) n = Ses.overL (l.take k) n ++ [s.id]) := by show _ = _; rw [Ses.over_take n hsk, if_neg q]
        have hll : (Ses.overL (l.take k) n).length ≤ 1000 := by
          unfold Ses.overL
          rw [List.length_map]
          have h1 := List.length_filter_le (fun s : Se => decide (s.til < n)) (l.take k)
          rw [List.length_take] at h1
          omega
        clear hN hsk
        generalize Ses.overL (l.take k) n = os at *
        go_wp2_with (at_builtin; go_must (refine wpList_append_own_at _ rfl _ _ 31 rfl w.heap.size 2 ti (.int .i64 0) 1 8 Try.underlying31 hti hz0 hz1 hz2 rfl (by decide) u7 _ _ rfl (HO.out.alloc _) ⟨wr.heap.size, 0, none⟩ 1 1 [.int .i64 s.id] rfl rfl (cell_one_new _ _ _) (ints_oneCell .i64 [s.id]) (by unfold maxLen; omega) (by omega) (by simp; omega) ?_; intro v6 w6 hown6 hgrow6 hnil6 hloc6))
        have HL6 : Hid (w6.ownsRow w.heap.size 58 2 u6 (Ses.liveL (l.take (k + 1)) n).length (cellsE (Ses.liveL (l.take (k + 1)) n))) := by
          show World.ownsRow _ _ _ _ _ _ _
          rw [HL2.out]
          refine (HL.out.alloc _).kept hgrow6 (Or.inr ?_)
          obtain ⟨g, h, e1, e2, hne⟩ := HA.out
          rw [e1, e2]
          intro e
          injection e with e
          exact hne e
        have HO6 : Hid (w6.ownsRow w.heap.size 2 1 v6 (Ses.overL (l.take (k + 1)) n).length ((Ses.overL (l.take (k + 1)) n).map (Value.int .i64))) := by show World.ownsRow _ _ _ _ _ _ _; rw [HO2.out, List.length_append, List.map_append]; exact hown6
        have HA6 : Hid (Apart u6 v6) := by
          obtain ⟨g, h, e1, e2, hne⟩ := HA.out
          have := (HL.out.lt g e1).2
          rcases hloc6 with e | e
          · exact ⟨g, h, e1, e.trans e2, hne⟩
          · exact ⟨g, _, e1, e, by simp; omega⟩
        have HE6 : Hid (Ext w w6) := Below.trans HE.out (((Below.refl _ _).alloc HE.out.size _).grown hgrow6 (by have := HE.out.size; simp; omega) (fun q hq => (HO.out.lt q hq).1))
        clear hown6 hgrow6 hnil6 hloc6
        go_wp2
        exact ⟨⟨k + 1, by omega, by go_num, HL6, HO6, HA6, HE6⟩, by simp [intOf]; omega⟩
    · have hke : k = l.length := by omega
      subst hke
      rw [List.take_length] at HL HO
      have hne : ∃ g h, w.heap.size ≤ g ∧ w.heap.size ≤ h ∧ EOwn wr u6 g (Ses.liveL l n) ∧ IOwn wr u7 h (Ses.overL l n) ∧ (0 < (Ses.liveL l n).length → 0 < (Ses.overL l n).length → g ≠ h) := by
        obtain ⟨g, hg, hE⟩ := eown_of_owns HL.out
        obtain ⟨h, hh, hlt, hI⟩ := iown_of_owns HO.out
        refine ⟨g, h, hg, hh, hE, hI, fun h1 h2 e => ?_⟩
        obtain ⟨a1, cap1, hv1, -, -, hx1⟩ := hE
        obtain ⟨a2, cap2, hv2, -, -, hx2⟩ := hI
        obtain ⟨o1, ha1, -⟩ := hx1 h1
        obtain ⟨o2, ha2, -⟩ := hx2 h2
        obtain ⟨g', h', e1, e2, hne⟩ := HA.out
        rw [hv1, ha1] at e1
        rw [hv2, ha2] at e2
        simp [Value.ownBlock] at e1 e2
        omega
      have HN : Hid (∃ g h, w.heap.size ≤ g ∧ w.heap.size ≤ h ∧ EOwn wr u6 g (Ses.liveL l n) ∧ IOwn wr u7 h (Ses.overL l n) ∧ (0 < (Ses.liveL l n).length → 0 < (Ses.overL l n).length → g ≠ h)) := hne
      clear hne
      go_wp2
      obtain ⟨g, h, q1, q2, q3, q4, q5⟩ := HN.out
      exact bodyPost_ret (v := .tuple #[u6, u7]) (by simp [results, Try.results48, go_sem]) rfl ⟨u6, u7, g, h, rfl, q1, q2, q3, q4, q5, HE.out⟩

theorem Ses.asked_one (l : List Se) (n : Int) : Ses.asked l 1 n = Ses.moment l n := by
  unfold Ses.asked Ses.moment
  by_cases h : Ses.fault l ≠ 0
  · rw [if_pos h, if_pos h]
  · rw [if_neg h, if_neg h]
    cases Ses.nowOk n <;> simp [Ses.idOk]
set_option maxHeartbeats 2000000 in
theorem specSplitSessions_any (v : Value) (l : List Se) (n : Int) (w : World) (hS : ESlice w v l) :
    Calls Try.prog 28 #[v, .int .i64 n] w (SRet w (Ses.splitV l n).1 (Ses.splitV l n).2.1 (Ses.splitV l n).2.2) := by
  have HF : Hid (∀ wx, Ext w wx → Calls Try.prog 37 #[v, .int .i64 1, .int .i64 n] wx fun e w' => e = .returned (.int .i64 (Ses.moment l n)) ∧ Ext wx w') := fun wx he => by rw [← Ses.asked_one]; exact l4Asked_any v l 1 n wx (hS.ext he)
  have HS : Hid (ESlice w v l) := hS
  obtain ⟨a, cap, rfl, -⟩ := hS
  unfold Ses.splitV
  by_cases hc : Ses.moment l n ≠ 0
  · rw [if_pos hc]
    generalize Ses.moment l n = c at *
    go_enter Try.func28, Try.ntmps28
    go_wp2_with fail
    refine (HF.out _ ((Ext.refl _).alloc _)).mono ?_
    rintro e w2 ⟨rfl, hb⟩
    have HB : Hid (SBox w w2) := (SBox.new w).ext hb
    clear hb
    obtain ⟨x0, x1, x2, x3, x4, x5, x6⟩ := HB.out.box
    go_wp2
    exact bodyPost_ret (v := sr c (.slice none 0 0) (.slice none 0 0)) (by simp [results, Try.results28, go_sem, sr, x1, x2, x3]) rfl (sret_bad _ HB.out.to)
  · rw [if_neg hc]
    have hc0 : Ses.moment l n = 0 := by omega
    obtain ⟨hf, hn⟩ := Ses.moment_zero hc0
    obtain ⟨h6, -, -⟩ := Ses.fault_zero hf
    have HL : Hid (∀ wx, Ext w wx → Calls Try.prog 48 #[.slice a l.length cap, .int .i64 n] wx fun e w' => ∃ v u g h, e = .returned (.tuple #[v, u]) ∧ wx.heap.size ≤ g ∧ wx.heap.size ≤ h ∧ EOwn w' v g (Ses.liveL l n) ∧ IOwn w' u h (Ses.overL l n) ∧ (0 < (Ses.liveL l n).length → 0 < (Ses.overL l n).length → g ≠ h) ∧ Ext wx w') := fun wx he => l4Split_any _ l n wx (HS.out.ext he) (by omega)
    rw [hc0] at HF
    clear hc hc0 hf
    generalize Ses.liveL l n = ls at *
    generalize Ses.overL l n = os at *
    go_enter Try.func28, Try.ntmps28
    go_wp2_with fail
    refine (HF.out _ ((Ext.refl _).alloc _)).mono ?_
    rintro e w2 ⟨rfl, hb⟩
    have HB : Hid (SBox w w2) := (SBox.new w).ext hb
    clear hb
    go_wp2_with fail
    refine (HL.out _ HB.out.to).mono ?_
    rintro e w3 ⟨v3, u3, g3, h3, rfl, hg3, hh3, hO3, hI3, hne, hb⟩
    have HB3 : Hid (SBox w w3) := HB.out.ext hb
    have HG : Hid (w.heap.size < g3 ∧ w.heap.size < h3 ∧ (0 < ls.length → 0 < os.length → g3 ≠ h3)) := ⟨by have := HB.out.size; omega, by have := HB.out.size; omega, hne⟩
    have HO3 : Hid (EOwn w3 v3 g3 ls) := hO3
    have HI3 : Hid (IOwn w3 u3 h3 os) := hI3
    obtain ⟨a3, cap3, rfl, -⟩ := id hO3
    obtain ⟨a4, cap4, rfl, -⟩ := id hI3
    clear hb hO3 hI3 hne
    obtain ⟨x0, x1, x2, x3, x4, x5, x6⟩ := HB3.out.box
    go_wp2
    exact bodyPost_ret (v := sr 0 (.slice a3 ls.length cap3) (.slice a4 os.length cap4)) (by simp [results, Try.results28, go_sem, sr, x1, x2, x3]) rfl (sret_box 0 HB3.out.to HO3.out HI3.out HG.out.1 HG.out.2.1 HG.out.2.2)
end Go.Proofs.Ytjlmkjcahnnjpaa
