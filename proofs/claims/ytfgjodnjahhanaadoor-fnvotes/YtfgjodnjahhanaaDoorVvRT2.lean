/- the text of a reply: both ReplyTexts. -/
import Derived.Test.YtfgjodnjahhanaaDoorVvRT1b
import Derived.Test.YtfgjodnjahhanaaDoorVvJ29
import Derived.Laws.AppendOwn
namespace Go.Proofs.YtfgjodnjahhanaaDoor
open Go.RowKit
namespace Rpy
theorem twoK {w W : World} (h : Ext w W) (a b : Value) : Ext w ((W.setCell ⟨w.heap.size + 1, 0, none⟩ a).setCell ⟨w.heap.size + 1, 1, none⟩ b) :=
  (h.setCell (p := ⟨w.heap.size + 1, 0, none⟩) (Nat.le_succ _) _).setCell (p := ⟨w.heap.size + 1, 1, none⟩) (Nat.le_succ _) _
/-- Both boxes of ReplyText. -/
def RTBox (w : World) (b : Nat) (c r : Int) (p : ByteArray) : Prop := RyAt w b (.int .i64 c) (.int .i64 r) (.string p) ∧ TBoxAt w (b + 1) 0 ⟨#[]⟩
theorem RTBox.ext {w w' : World} {b : Nat} {c r : Int} {p : ByteArray} (h : RTBox w b c r p) (he : Ext w w') : RTBox w' b c r p := ⟨h.1.ext he, h.2.ext he⟩
theorem rtbox_new (w : World) (c r : Int) (p : ByteArray) (t u : TypeId) : RTBox ((w.alloc (.cells #[.int .i64 c, .int .i64 r, .string p] t)).alloc (.cells #[.int .i64 0, .string ⟨#[]⟩] u)) w.heap.size c r p := by
  have h2 := tbox_new (w.alloc (.cells #[.int .i64 c, .int .i64 r, .string p] t)) 0 ⟨#[]⟩ u
  rw [World.size_alloc] at h2
  exact ⟨(ry_new w _ _ _ t).ext ((Ext.refl _).alloc _), h2⟩
theorem row3_new (w : World) (x y z : ByteArray) : (w.alloc (.cells #[.string x, .string y, .string z] 9)).ownsRow w.heap.size 9 1 (.slice (some ⟨w.heap.size, 0, none⟩) 3 3) 3 ([x, y, z].map Value.string) :=
  ⟨by simp, .inr ⟨w.heap.size, 3, #[.string x, .string y, .string z], rfl, Nat.le_refl _, heap_alloc_new w _, Nat.le_refl _, by unfold maxLen; omega, by simp, by simp⟩⟩
theorem cell1 (w : World) (x : Value) (t : TypeId) (m : Nat) (hm : w.heap.size = m) : ∀ j u, [x][j]? = some u → (w.alloc (.cells #[x] t)).cell? ((⟨m, 0, none⟩ : Addr).add j) = some u := by subst hm; exact cell_one_new w x t
theorem joinS_any (xs : List ByteArray) (B : Nat) (v : Value) (w : World) (h0 : 0 < xs.length) (hl : xs.length ≤ 10) (hs : ∀ x ∈ xs.map (·.data.toList), x.length ≤ 30) (hO : w.ownsRow B 9 1 v xs.length (xs.map Value.string)) :
    Calls Tryd.prog 21 #[v, .string ⟨#[32]⟩] w fun e w' => e = .returned (.string (mkB (Lib.join (xs.map (·.data.toList)) [32]))) ∧ Ext w w' := by
  have hlt := hO.lt
  rcases hO.2 with ⟨hv, h1⟩ | ⟨g, cap, cur, hv, hb, hh, hn, hm, hcs, htk⟩
  · omega
  · subst hv
    exact joinStr_any g 0 cap xs w (fun j x hx => by
      have hj := (List.getElem?_eq_some_iff.1 hx).1
      rw [Nat.zero_add, hO.cellAt j (by omega), List.getElem?_map, hx]; rfl) (hlt g rfl).2 (by omega) hs hl
theorem words_short {c r : Int} {p : ByteArray} (h : okY c r p = true) : (mkB (Lib.itoa c)).data.toList.length ≤ 30 ∧ (mkB (Lib.itoa r)).data.toList.length ≤ 30 ∧ p.data.toList.length ≤ 30 := by
  obtain ⟨h0, h1, h2, h3, h4⟩ := ok_in h
  refine ⟨?_, ?_, ?_⟩
  · rw [mkB_list]; have := itoa_len c (by omega) (by omega); omega
  · rw [mkB_list]; have := itoa_len r (by omega) (by omega); omega
  · rw [len_eq]; omega
end Rpy
set_option maxHeartbeats 8000000 in
set_option maxRecDepth 100000 in
theorem implReplyText_any (c r : Int) (p : ByteArray) (w : World) (hp : p.size ≤ maxLen) (ht : Tb w) : Calls Tryd.prog 8 #[yagg c r p] w fun e w' => e = .returned (tr (Rpy.textV c r p)) ∧ Ext w w' := by
  have HI : Hid (∀ wx : World, Calls Tryd.prog 19 #[.agg #[.int .i64 c, .int .i64 r, .string p]] wx fun e w' => e = .returned (.bool (okY c r p)) ∧ Ext wx w') := fun wx => isReply_any c r p wx hp
  clear hp
  unfold yagg
  cases hok : okY c r p with
  | false =>
    rw [Rpy.textV_bad hok]
    rw [hok] at HI
    clear hok ht
    go_enter Tryd.func8, Tryd.ntmps8
    go_wp2_with fail
    refine (HI.out _).mono ?_
    rintro e w2 ⟨rfl, hb⟩
    have HB : Hid (Ext w w2) := (((Ext.refl _).alloc _).alloc _).trans hb
    obtain ⟨t0, t1, t2, t3, t4⟩ := ((Rpy.rtbox_new w c r p _ _).ext hb).2
    clear hb
    go_wp2
    exact bodyPost_ret (v := tr (3, [])) (by simp [results, Tryd.results8, go_sem, tr, mkB, *]) rfl ⟨rfl, Rpy.twoK HB.out _ _⟩
  | true =>
    rw [Rpy.textV_ok hok]
    rw [hok] at HI
    obtain ⟨hc0, hc1, hr0, hr1, hp⟩ := Rpy.ok_in hok
    obtain ⟨s1, s2, s3⟩ := Rpy.words_short hok
    have HC : Hid (∀ wx : World, Ext w wx → Calls Tryd.prog 20 #[.int .i64 c] wx fun e w' => e = .returned (.string (mkB (Lib.itoa c))) ∧ Ext wx w') := fun wx h => numberText_any c wx (by omega) (by omega) (ht.ext h)
    have HR : Hid (∀ wx : World, Ext w wx → Calls Tryd.prog 20 #[.int .i64 r] wx fun e w' => e = .returned (.string (mkB (Lib.itoa r))) ∧ Ext wx w') := fun wx h => numberText_any r wx (by omega) (by omega) (ht.ext h)
    have HJ3 : Hid (p.size = 0 → ∀ (B : Nat) (v : Value) (wx : World), wx.ownsRow B 9 1 v 3 ([⟨#[99, 111, 100, 101]⟩, mkB (Lib.itoa c), mkB (Lib.itoa r)].map Value.string) → Calls Tryd.prog 21 #[v, .string ⟨#[32]⟩] wx fun e w' => e = .returned (.string (mkB (Lib.join (Rpy.words c r p) [32]))) ∧ Ext wx w') := by
      intro h0 B v wx hO
      have h := Rpy.joinS_any [⟨#[99, 111, 100, 101]⟩, mkB (Lib.itoa c), mkB (Lib.itoa r)] B v wx (by simp) (by simp) (by
        intro x hx
        simp only [List.map_cons, List.map_nil, List.mem_cons, List.not_mem_nil, or_false] at hx
        rcases hx with rfl | rfl | rfl
        · decide
        · exact s1
        · exact s2) hO
      simp only [List.map_cons, List.map_nil, mkB_list] at h
      unfold Rpy.words
      rw [if_pos h0]
      exact h
    have HJ4 : Hid (¬ p.size = 0 → ∀ (B : Nat) (v : Value) (wx : World), wx.ownsRow B 9 1 v 4 ([⟨#[99, 111, 100, 101]⟩, mkB (Lib.itoa c), mkB (Lib.itoa r), p].map Value.string) → Calls Tryd.prog 21 #[v, .string ⟨#[32]⟩] wx fun e w' => e = .returned (.string (mkB (Lib.join (Rpy.words c r p) [32]))) ∧ Ext wx w') := by
      intro h0 B v wx hO
      have h := Rpy.joinS_any [⟨#[99, 111, 100, 101]⟩, mkB (Lib.itoa c), mkB (Lib.itoa r), p] B v wx (by simp) (by simp) (by
        intro x hx
        simp only [List.map_cons, List.map_nil, List.mem_cons, List.not_mem_nil, or_false] at hx
        rcases hx with rfl | rfl | rfl | rfl
        · decide
        · exact s1
        · exact s2
        · exact s3) hO
      simp only [List.map_cons, List.map_nil, mkB_list] at h
      unfold Rpy.words
      rw [if_neg h0]
      exact h
    clear hok ht hc0 hc1 hr0 hr1 s1 s2 s3
    unfold tr
    simp only
    generalize mkB (Lib.join (Rpy.words c r p) [32]) = X at *
    generalize mkB (Lib.itoa c) = dc at *
    generalize mkB (Lib.itoa r) = dr at *
    by_cases hp0 : p.size = 0
    · have HJ : Hid _ := HJ3.out hp0
      obtain rfl := Rpy.empty_of hp0
      clear HJ3 HJ4 hp0 hp
      go_enter Tryd.func8, Tryd.ntmps8
      go_wp2_with fail
      refine (HI.out _).mono ?_
      rintro e w2 ⟨rfl, hb⟩
      have HB : Hid (Ext w w2) := (((Ext.refl _).alloc _).alloc _).trans hb
      have HT : Hid (Rpy.RTBox w2 w.heap.size c r ⟨#[]⟩) := (Rpy.rtbox_new w c r _ _ _).ext hb
      obtain ⟨-, ⟨c0, c1, c2⟩, -⟩ := HT.out.1
      clear hb HI
      go_wp2
      go_region_held3 (fun W => W.cell? ⟨w.heap.size, 0, none⟩ = some (.int .i64 c) ∧ W.cell? ⟨w.heap.size, 1, none⟩ = some (.int .i64 r) ∧ W.cell? ⟨w.heap.size, 2, none⟩ = some (.string ⟨#[]⟩)) (first | exact ⟨c0, c1, c2⟩ | exact ⟨d0, d1, d2⟩ | exact ⟨e0, e1, e2⟩ | go_keep) (first
        | (go_at_call 20; refine (HC.out _ (by first | exact HB.out.drew | exact HB.out)).mono ?_; rintro e w3 ⟨rfl, hb3⟩; have HE3 : Hid (Ext w w3) := (HB.out.drew).trans hb3; have HT3 : Hid (Rpy.RTBox w3 w.heap.size c r ⟨#[]⟩) := (HT.out.ext ((Ext.refl _).drew)).ext hb3; obtain ⟨-, ⟨d0, d1, d2⟩, -⟩ := HT3.out.1; clear hb3 c0 c1 c2 HC)
        | (go_at_call 20; refine (HR.out _ HE3.out).mono ?_; rintro e w4 ⟨rfl, hb4⟩; have HE4 : Hid (Ext w w4) := HE3.out.trans hb4; have HT4 : Hid (Rpy.RTBox w4 w.heap.size c r ⟨#[]⟩) := HT3.out.ext hb4; obtain ⟨-, ⟨e0, e1, e2⟩, -⟩ := HT4.out.1; clear hb4 d0 d1 d2 HR))
      all_goals
        have HO5 : Hid ((w4.alloc (.cells #[.string ⟨#[99, 111, 100, 101]⟩, .string dc, .string dr] 9)).ownsRow w4.heap.size 9 1 (.slice (some ⟨w4.heap.size, 0, none⟩) 3 3) 3 ([⟨#[99, 111, 100, 101]⟩, dc, dr].map Value.string)) := Rpy.row3_new w4 _ _ _
        have HE5 : Hid (Ext w (w4.alloc (.cells #[.string ⟨#[99, 111, 100, 101]⟩, .string dc, .string dr] 9))) := HE4.out.alloc _
        have HT5 : Hid (Rpy.RTBox (w4.alloc (.cells #[.string ⟨#[99, 111, 100, 101]⟩, .string dc, .string dr] 9)) w.heap.size c r ⟨#[]⟩) := HT4.out.ext ((Ext.refl _).alloc _)
        clear e0 e1 e2 HT4 HE4
        generalize (w4.alloc (.cells #[.string ⟨#[99, 111, 100, 101]⟩, .string dc, .string dr] 9)) = w5 at HO5 HE5 HT5 ⊢
        obtain ⟨l5, ⟨e0, e1, e2⟩, -⟩ := HT5.out.1
        go_wp2_with fail
        refine (HJ.out _ _ _ HO5.out).mono ?_
        rintro e w6 ⟨rfl, hb6⟩
        have HE6 : Hid (Ext w w6) := HE5.out.trans hb6
        obtain ⟨t0, t1, t2, t3, t4⟩ := (HT5.out.ext hb6).2
        clear hb6 e0 e1 e2 l5
        go_wp2
        exact bodyPost_ret (v := .agg #[.int .i64 0, .string X]) (by simp [results, Tryd.results8, go_sem, *]) rfl ⟨rfl, Rpy.twoK HE6.out _ _⟩
    · have HJ : Hid _ := HJ4.out hp0
      have hpe : (!p.toList.isEmpty) = true := by
        have : p.data.toList.length = p.size := by rw [len_eq]
        rw [Lib.toList_data]
        cases hq : p.data.toList with
        | nil => rw [hq] at this; simp at this; omega
        | cons a t => rfl
      have hi9 : (Tryd.prog.info? 9).map (fun i => (i.zero, i.size, i.bytes)) = some (some (.string ByteArray.empty), 1, 16) := by kernel_rfl
      obtain ⟨i0, hi, hxx⟩ := Option.map_eq_some_iff.1 hi9
      simp only [Prod.mk.injEq] at hxx
      obtain ⟨hz0, hz1, hz2⟩ := hxx
      clear hi9 HJ3 HJ4 hp0 hp
      go_enter Tryd.func8, Tryd.ntmps8
      go_wp2_with fail
      refine (HI.out _).mono ?_
      rintro e w2 ⟨rfl, hb⟩
      have HB : Hid (Ext w w2) := (((Ext.refl _).alloc _).alloc _).trans hb
      have HT : Hid (Rpy.RTBox w2 w.heap.size c r p) := (Rpy.rtbox_new w c r _ _ _).ext hb
      obtain ⟨-, ⟨c0, c1, c2⟩, -⟩ := HT.out.1
      clear hb HI
      go_wp2
      go_region_held3 (fun W => W.cell? ⟨w.heap.size, 0, none⟩ = some (.int .i64 c) ∧ W.cell? ⟨w.heap.size, 1, none⟩ = some (.int .i64 r) ∧ W.cell? ⟨w.heap.size, 2, none⟩ = some (.string p)) (first | exact ⟨c0, c1, c2⟩ | exact ⟨d0, d1, d2⟩ | exact ⟨e0, e1, e2⟩ | go_keep) (first
        | (go_at_call 20; refine (HC.out _ (by first | exact HB.out.drew | exact HB.out)).mono ?_; rintro e w3 ⟨rfl, hb3⟩; have HE3 : Hid (Ext w w3) := (HB.out.drew).trans hb3; have HT3 : Hid (Rpy.RTBox w3 w.heap.size c r p) := (HT.out.ext ((Ext.refl _).drew)).ext hb3; obtain ⟨-, ⟨d0, d1, d2⟩, -⟩ := HT3.out.1; clear hb3 c0 c1 c2 HC)
        | (go_at_call 20; refine (HR.out _ HE3.out).mono ?_; rintro e w4 ⟨rfl, hb4⟩; have HE4 : Hid (Ext w w4) := HE3.out.trans hb4; have HT4 : Hid (Rpy.RTBox w4 w.heap.size c r p) := HT3.out.ext hb4; obtain ⟨-, ⟨e0, e1, e2⟩, -⟩ := HT4.out.1; clear hb4 d0 d1 d2 HR))
      all_goals
        have HO5 : Hid ((w4.alloc (.cells #[.string ⟨#[99, 111, 100, 101]⟩, .string dc, .string dr] 9)).ownsRow w4.heap.size 9 1 (.slice (some ⟨w4.heap.size, 0, none⟩) 3 3) 3 ([⟨#[99, 111, 100, 101]⟩, dc, dr].map Value.string)) := Rpy.row3_new w4 _ _ _
        have HE5 : Hid (Ext w (w4.alloc (.cells #[.string ⟨#[99, 111, 100, 101]⟩, .string dc, .string dr] 9))) := HE4.out.alloc _
        have HX5 : Hid (Ext w4 (w4.alloc (.cells #[.string ⟨#[99, 111, 100, 101]⟩, .string dc, .string dr] 9))) := (Ext.refl _).alloc _
        clear e0 e1 e2
        generalize (w4.alloc (.cells #[.string ⟨#[99, 111, 100, 101]⟩, .string dc, .string dr] 9)) = w5 at HO5 HE5 HX5 ⊢
        obtain ⟨l5, ⟨e0, e1, e2⟩, -⟩ := (HT4.out.ext HX5.out).1
        go_wp2_with (at_builtin; go_must (refine wpList_append_own _ rfl _ _ 52 rfl w4.heap.size 9 i0 (.string ByteArray.empty) 1 16 Tryd.underlying52 hi hz0 hz1 hz2 rfl (by decide) _ _ _ rfl (HO5.out.alloc _) ⟨w5.heap.size, 0, none⟩ 1 1 [.string p] rfl rfl (Rpy.cell1 _ _ _ _ rfl) (map_one [p]) (by unfold maxLen; omega) (by omega) (by have := HX5.out.size; simp; omega) ?_; intro v6 w6 hown6 hgrow6 hnil6))
        have X6 : Hid (Ext w4 w6) := Below.grown (HX5.out.alloc _) hgrow6 (by have := HX5.out.size; simp; omega) (fun q hq => by have := (HO5.out.lt q hq).1; simpa using this)
        have HO6 : Hid (w6.ownsRow w4.heap.size 9 1 v6 4 ([⟨#[99, 111, 100, 101]⟩, dc, dr, p].map Value.string)) := hown6
        have HE6 : Hid (Ext w w6) := HE4.out.trans X6.out
        have HT6 : Hid (Rpy.RTBox w6 w.heap.size c r p) := HT4.out.ext X6.out
        clear hown6 hgrow6 hnil6 e0 e1 e2 l5
        obtain ⟨g6, off6, cap6, rfl, -⟩ := txts_of_owns HO6.out (by simp)
        go_wp2_with fail
        refine (HJ.out _ _ _ HO6.out).mono ?_
        rintro e w7 ⟨rfl, hb7⟩
        have HE7 : Hid (Ext w w7) := HE6.out.trans hb7
        obtain ⟨t0, t1, t2, t3, t4⟩ := (HT6.out.ext hb7).2
        clear hb7
        go_wp2
        exact bodyPost_ret (v := .agg #[.int .i64 0, .string X]) (by simp [results, Tryd.results8, go_sem, *]) rfl ⟨rfl, Rpy.twoK HE7.out _ _⟩

set_option maxHeartbeats 4000000 in
set_option maxRecDepth 100000 in
theorem specReplyText_any (c r : Int) (p : ByteArray) (w : World) (hp : p.size ≤ maxLen) : Calls Tryd.prog 6 #[yagg c r p] w fun e w' => e = .returned (tr (Rpy.textV c r p)) ∧ Ext w w' := by
  have HI : Hid (∀ (wx : World), RyAt wx w.heap.size (.int .i64 c) (.int .i64 r) (.string p) → Calls Tryd.prog 17 #[.pointer (some ⟨w.heap.size, 0, none⟩)] wx fun e w' => e = .returned (.bool (okY c r p)) ∧ w' = wx) := fun wx h => l6Reply_any w.heap.size 0 c r p wx h.2.1.1 h.2.1.2.1 h.2.1.2.2 hp
  clear hp
  unfold yagg
  have HT : Hid (Rpy.RTBox ((w.alloc (.cells #[.int .i64 c, .int .i64 r, .string p] 28)).alloc (.cells #[.int .i64 0, .string ⟨#[]⟩] 26)) w.heap.size c r p) := Rpy.rtbox_new w c r p _ _
  cases hok : okY c r p with
  | false =>
    rw [Rpy.textV_bad hok]
    rw [hok] at HI
    clear hok
    go_enter Tryd.func6, Tryd.ntmps6
    go_wp2_with fail
    refine (HI.out _ HT.out.1).mono ?_
    rintro e w9 ⟨rfl, hw⟩
    rw [hw]
    clear hw w9
    go_wp2
    exact bodyPost_ret (v := tr (3, [])) (by simp [results, Tryd.results6, go_sem, tr, mkB, *]) rfl ⟨rfl, by first | exact Rpy.twoK (((Ext.refl _).alloc _).alloc _) _ _ | exact (((Ext.refl _).alloc _).alloc _)⟩
  | true =>
    rw [Rpy.textV_ok hok]
    rw [hok] at HI
    have HX : Hid (∀ (wx : World), RyAt wx w.heap.size (.int .i64 c) (.int .i64 r) (.string p) → Calls Tryd.prog 18 #[.pointer (some ⟨w.heap.size, 0, none⟩)] wx fun e w' => e = .returned (.string (mkB (Lib.join (Rpy.words c r p) [32]))) ∧ Ext wx w') := fun wx h => l14Text_any c r p w.heap.size wx hok h
    clear hok
    unfold tr
    simp only
    generalize mkB (Lib.join (Rpy.words c r p) [32]) = X at *
    go_enter Tryd.func6, Tryd.ntmps6
    go_wp2_with fail
    refine (HI.out _ HT.out.1).mono ?_
    rintro e w9 ⟨rfl, hw⟩
    rw [hw]
    clear hw w9
    go_wp2_with fail
    refine (HX.out _ HT.out.1).mono ?_
    rintro e w2 ⟨rfl, hb⟩
    have HB : Hid (Ext w w2) := (((Ext.refl _).alloc _).alloc _).trans hb
    obtain ⟨t0, t1, t2, t3, t4⟩ := (HT.out.ext hb).2
    clear hb
    go_wp2
    exact bodyPost_ret (v := .agg #[.int .i64 0, .string X]) (by simp [results, Tryd.results6, go_sem, *]) rfl ⟨rfl, Rpy.twoK HB.out _ _⟩
end Go.Proofs.YtfgjodnjahhanaaDoor
