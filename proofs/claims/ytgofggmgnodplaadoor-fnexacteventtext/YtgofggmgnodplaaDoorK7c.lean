/- the text of an event: the program's; the law. -/
import Derived.Test.YtgofggmgnodplaaDoorK7b
namespace Go.Proofs.YtgofggmgnodplaaDoor
open Go.RowKit
theorem Wch.kindW_len (k : Int) : (Wch.kindW k).length ≤ 30 := by
  unfold Wch.kindW
  split
  · simp
  · split <;> simp
set_option maxHeartbeats 4000000 in
set_option maxRecDepth 100000 in
theorem implEventText_any (z : Ev) (w : World) (hg : Gd w) (ht : Tb w) : Calls Tryd.prog 20 #[evagg z] w fun e w' => e = .returned (tr (Wch.evV z)) ∧ Ext w w' := by
  obtain ⟨c, p, k⟩ := z
  have HI : Hid (∀ wx : World, Ext w wx → Calls Tryd.prog 25 #[.int .i64 c, .string p] wx fun e w' => e = .returned (.int .i64 (Wch.code ⟨c, p⟩)) ∧ Ext wx w') := fun wx h => clientOrPath_any c p wx (hg.ext h)
  have HK : Hid (∀ wx : World, Calls Tryd.prog 42 #[.int .i64 k, .int .i64 1, .int .i64 3] wx fun e w' => e = .returned (.bool (decide (1 ≤ k) && decide (k ≤ 3))) ∧ w' = wx) := isWithin_any k 1 3
  clear hg
  by_cases hc : Wch.code ⟨c, p⟩ = 0
  · rw [hc] at HI
    cases hk : (decide (1 ≤ k) && decide (k ≤ 3)) with
    | false =>
      rw [Wch.evV_2 (z := ⟨c, p, k⟩) hc hk]
      rw [hk] at HK
      unfold tr evagg
      clear hc hk ht
      simp only
      go_enter Tryd.func20, Tryd.ntmps20
      go_wp2_with fail
      refine (HI.out _ (((Ext.refl _).alloc _).alloc _)).mono ?_
      rintro e w2 ⟨rfl, hb⟩
      have HB : Hid (Ext w w2) := (((Ext.refl _).alloc _).alloc _).trans hb
      have hT := (twobox_new w ⟨c, p, k⟩ _ _).ext hb
      obtain ⟨c0, c1, c2⟩ := hT.1.2.cells
      obtain ⟨t0, t1, t2, t3, t4⟩ := hT.2
      clear hb hT
      go_wp2_with fail
      refine (HK.out _).mono ?_
      rintro e w1 ⟨rfl, hw1⟩; rw [hw1]; clear hw1 w1
      go_wp2
      exact bodyPost_ret (v := tr (1, [])) (by simp [results, Tryd.results20, go_sem, tr, mkB, *]) rfl ⟨rfl, HB.out.twoK _ _⟩
    | true =>
      rw [Wch.evV_3 (z := ⟨c, p, k⟩) hc hk]
      rw [hk] at HK
      simp only
      obtain ⟨hi, hp⟩ := Wch.code_zero hc
      simp only [Wch.idOk, Bool.and_eq_true, decide_eq_true_eq] at hi
      have HN : Hid (∀ wx : World, Ext w wx → Calls Tryd.prog 43 #[.int .i64 c] wx fun e w' => e = .returned (.string (mkB (Lib.itoa c))) ∧ Ext wx w') := fun wx h => numberText_any c wx (by omega) (by omega) (ht.ext h)
      have HW : Hid (∀ wx : World, Calls Tryd.prog 44 #[.int .i64 k] wx fun e w' => e = .returned (.string (mkB (Wch.kindW k))) ∧ Ext wx w') := eventWord_any k
      have s1 : (mkB (Lib.itoa c)).data.toList.length ≤ 30 := by rw [mkB_list]; have := itoa_len c (by omega) (by omega); omega
      have s2 : p.data.toList.length ≤ 30 := by have h := few_of_ok hp; simp only at h; rw [len_eq]; omega
      have s3 : (mkB (Wch.kindW k)).data.toList.length ≤ 30 := by rw [mkB_list]; exact Wch.kindW_len k
      have HJ : Hid (∀ (bk : Nat) (wx : World), bk < wx.heap.size → wx.cell? ⟨bk, 0, none⟩ = some (.string ⟨#[101, 118, 101, 110, 116]⟩) → wx.cell? ⟨bk, 1, none⟩ = some (.string (mkB (Lib.itoa c))) → wx.cell? ⟨bk, 2, none⟩ = some (.string p) → wx.cell? ⟨bk, 3, none⟩ = some (.string (mkB (Wch.kindW k))) → Calls Tryd.prog 45 #[.slice (some ⟨bk, 0, none⟩) 4 4, .string ⟨#[32]⟩] wx fun e w' => e = .returned (.string (mkB (Lib.join (Wch.evW c p k) [32]))) ∧ Ext wx w') := by
        intro bk wx hbk a0 a1 a2 a3
        have h := joinStr_any bk 0 4 [⟨#[101, 118, 101, 110, 116]⟩, mkB (Lib.itoa c), p, mkB (Wch.kindW k)] wx (fun j x hx => by
          rw [Nat.zero_add]
          match j, hx with
          | 0, hx => simp at hx; subst hx; exact a0
          | 1, hx => simp at hx; subst hx; exact a1
          | 2, hx => simp at hx; subst hx; exact a2
          | 3, hx => simp at hx; subst hx; exact a3
          | j + 4, hx => simp at hx) hbk (by simp) (by
            intro x hx
            simp only [List.map_cons, List.map_nil, List.mem_cons, List.not_mem_nil, or_false] at hx
            rcases hx with rfl | rfl | rfl | rfl
            · decide
            · exact s1
            · exact s2
            · exact s3) (by simp)
        simp only [List.map_cons, List.map_nil, mkB_list] at h
        exact h
      clear hc hk hi hp s1 s2 s3 ht
      unfold tr evagg
      simp only
      generalize mkB (Lib.join (Wch.evW c p k) [32]) = X at *
      generalize mkB (Lib.itoa c) = dg at *
      generalize mkB (Wch.kindW k) = kw at *
      go_enter Tryd.func20, Tryd.ntmps20
      go_wp2_with fail
      refine (HI.out _ (((Ext.refl _).alloc _).alloc _)).mono ?_
      rintro e w2 ⟨rfl, hb⟩
      have HB : Hid (Ext w w2) := (((Ext.refl _).alloc _).alloc _).trans hb
      have HT : Hid (TwoBox w2 w.heap.size ⟨c, p, k⟩) := (twobox_new w ⟨c, p, k⟩ _ _).ext hb
      obtain ⟨c0, c1, c2⟩ := HT.out.1.2.cells
      clear hb
      go_wp2_with fail
      refine (HK.out _).mono ?_
      rintro e w1 ⟨rfl, hw1⟩; rw [hw1]; clear hw1 w1
      clear HI HK
      go_wp2
      go_region_held3 (fun W => W.cell? ⟨w.heap.size, 0, none⟩ = some (.int .i64 c) ∧ W.cell? ⟨w.heap.size, 1, none⟩ = some (.string p) ∧ W.cell? ⟨w.heap.size, 2, none⟩ = some (.int .i64 k)) (first | exact ⟨c0, c1, c2⟩ | exact ⟨d0, d1, d2⟩ | exact ⟨e0, e1, e2⟩ | go_keep) (first
        | (go_at_call 43; refine (HN.out _ (by first | exact HB.out.drew | exact HB.out)).mono ?_; rintro e w3 ⟨rfl, hb3⟩; have HE3 : Hid (Ext w w3) := (HB.out.drew).trans hb3; have HT3 : Hid (TwoBox w3 w.heap.size ⟨c, p, k⟩) := (HT.out.ext ((Ext.refl _).drew)).ext hb3; obtain ⟨d0, d1, d2⟩ := HT3.out.1.2.cells; clear hb3 c0 c1 c2)
        | (go_at_call 44; refine (HW.out _).mono ?_; rintro e w4 ⟨rfl, hb4⟩; have HE4 : Hid (Ext w w4) := HE3.out.trans hb4; have HT4 : Hid (TwoBox w4 w.heap.size ⟨c, p, k⟩) := HT3.out.ext hb4; obtain ⟨e0, e1, e2⟩ := HT4.out.1.2.cells; clear hb4 d0 d1 d2))
      all_goals
        clear e0 e1 e2
        go_wp2_with fail
        refine (HJ.out w4.heap.size _ (by simp) (by simp) (by simp) (by simp) (by simp)).mono ?_
        rintro e w5 ⟨rfl, hb5⟩
        have HE5 : Hid (Ext w w5) := (HE4.out.alloc _).trans hb5
        obtain ⟨t0, t1, t2, t3, t4⟩ := ((HT4.out.alloc _).ext hb5).2
        clear hb5
        go_wp2
        exact bodyPost_ret (v := .agg #[.int .i64 0, .string X]) (by simp [results, Tryd.results20, go_sem, *]) rfl ⟨rfl, HE5.out.twoK _ _⟩
  · rw [Wch.evV_1 (z := ⟨c, p, k⟩) rfl hc]
    simp only
    generalize Wch.code ⟨c, p⟩ = q at *
    have hcb : (q != 0) = true := by simpa using hc
    unfold tr evagg
    clear ht
    simp only
    go_enter Tryd.func20, Tryd.ntmps20
    go_wp2_with fail
    refine (HI.out _ (((Ext.refl _).alloc _).alloc _)).mono ?_
    rintro e w2 ⟨rfl, hb⟩
    have HB : Hid (Ext w w2) := (((Ext.refl _).alloc _).alloc _).trans hb
    obtain ⟨t0, t1, t2, t3, t4⟩ := ((twobox_new w ⟨c, p, k⟩ _ _).ext hb).2
    clear hb
    go_wp2
    exact bodyPost_ret (v := tr (q, [])) (by simp [results, Tryd.results20, go_sem, tr, mkB, *]) rfl ⟨rfl, HB.out.twoK _ _⟩
end Go.Proofs.YtgofggmgnodplaaDoor
