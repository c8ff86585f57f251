/- OpText of the program, kind by kind (3, 5, 8). -/
import Derived.Test.YtdjnkchaapcjpaaGreatDoorP3
namespace Go.Proofs.YtdjnkchaapcjpaaGreatDoor
open Go.RowKit

set_option maxHeartbeats 4000000 in
set_option maxRecDepth 100000 in
theorem implOpText_5 (p : ByteArray) (d v : Int) (w : World) (hg : Gd w) (ht : Tb w) (hf : Opr.fault ⟨5, p, d, v, false, false⟩ = 0) :
    Calls Tryz.prog 25 #[oagg ⟨5, p, d, v, false, false⟩] w fun e w' => e = .returned (tr (0, Opr.text ⟨5, p, d, v, false, false⟩)) ∧ Ext w w' := by
  obtain ⟨-, hr, hpz⟩ := Opr.fault_zero hf
  have hr' : 0 ≤ d ∧ d ≤ 9999 ∧ -1 ≤ v ∧ v ≤ 999 := by simpa [Opr.inR] using hr
  obtain ⟨hd0, hd1, hv0, hv1⟩ := hr'
  clear hr
  have hi9 : (Tryz.prog.info? 9).map (fun i => (i.zero, i.size, i.bytes)) = some (some (.string ByteArray.empty), 1, 16) := by kernel_rfl
  obtain ⟨i0, hi, hxx⟩ := Option.map_eq_some_iff.1 hi9
  simp only [Prod.mk.injEq] at hxx
  obtain ⟨hz0, hz1, hz2⟩ := hxx
  clear hi9
  have HF : Hid (∀ wx : World, Ext w wx → Calls Tryz.prog 28 #[oagg ⟨5, p, d, v, false, false⟩] wx fun e w' => e = .returned (.int .i64 0) ∧ Ext wx w') := by rw [← hf]; exact fun wx he => implOpFault_any _ wx (hg.ext he)
  have HD : Hid (∀ wx : World, Calls Tryz.prog 69 #[oagg ⟨5, p, d, v, false, false⟩] wx fun e w' => e = .returned (.iface 191 (.agg #[.string p, .int .i64 d, .int .i64 v])) ∧ Ext wx w') := deedOf_5 p d v false false
  have hm : ∀ W : World, Sem.run Tryz.prog (method 443 191 (.agg #[.string p, .int .i64 d, .int .i64 v]) "loop.example/g00369/impl.word") W = .ok (257, .agg #[.string p, .int .i64 d, .int .i64 v]) W := fun W => by kernel_rfl
  have HW : Hid (∀ wx : World, Calls Tryz.prog 257 #[.agg #[.string p, .int .i64 d, .int .i64 v]] wx fun e w' => e = .returned (.string (mkB (Opr.word 5))) ∧ Ext wx w') := word_5 p d v
  have HWB : Hid (∀ wx : World, Ext w wx → Calls Tryz.prog 70 #[.iface 191 (.agg #[.string p, .int .i64 d, .int .i64 v])] wx fun e w' => ∃ u, e = .returned u ∧ Txts w' u [p, mkB (Lib.itoa d), mkB (Opr.verT v)] ∧ Ext wx w') := fun wx he => wordsBehind_5 p d v wx (ht.ext he) (by omega) (by omega) (by omega) (by omega)
  have HL : Hid (∀ x ∈ ([mkB (Opr.word 5)] ++ [p, mkB (Lib.itoa d), mkB (Opr.verT v)]).map (·.data.toList), x.length ≤ 30) := by
    have h1 := few_of_ok (s := p) (hpz rfl)
    have h2 := itoa_len d (by omega) (by omega)
    have h3 := verT_len v (by omega) (by omega)
    intro x hx
    simp only [List.map_cons, List.map_nil, List.cons_append, List.nil_append, List.mem_cons, List.not_mem_nil, or_false, mkB_list] at hx
    rcases hx with rfl | rfl | rfl | rfl
    · decide
    · exact Nat.le_trans h1 (by decide)
    · exact Nat.le_trans h2 (by decide)
    · exact Nat.le_trans h3 (by decide)
  have HE : Hid (Lib.join (([mkB (Opr.word 5)] ++ [p, mkB (Lib.itoa d), mkB (Opr.verT v)]).map (·.data.toList)) [32] = Opr.text ⟨5, p, d, v, false, false⟩) := by
    show _ = _
    unfold Opr.text
    congr 1
  have HX0 : Hid (OBoxAt (w.alloc (.cells #[.int .i64 5, .string p, .int .i64 d, .int .i64 v, .bool false, .bool false] 49)) w.heap.size ⟨5, p, d, v, false, false⟩) := obox_new w ⟨5, p, d, v, false, false⟩ _
  clear hf hg ht hpz hd0 hd1 hv0 hv1
  generalize Opr.text ⟨5, p, d, v, false, false⟩ = TX at *
  generalize mkB (Lib.itoa d) = dt at *
  generalize mkB (Opr.verT v) = vt at *
  generalize mkB (Opr.word 5) = wd at *
  skip
  skip
  unfold oagg at *
  go_enter Tryz.func25, Tryz.ntmps25
  go_wp2_with fail
  refine (HF.out _ (((Ext.refl _).alloc _).alloc _)).mono ?_
  rintro e w2 ⟨rfl, hb⟩
  have HB2 : Hid (Ext w w2) := (((Ext.refl _).alloc _).alloc _).trans hb
  have HX2 : Hid (OBoxAt w2 w.heap.size ⟨5, p, d, v, false, false⟩) := HX0.out.ext (((Ext.refl _).alloc _).trans hb)
  have HT0 := (tbox_new (w.alloc _) 0 ⟨#[]⟩ _).ext hb
  rw [World.size_alloc] at HT0
  have HT2 : Hid (TBoxAt w2 (w.heap.size + 1) 0 ⟨#[]⟩) := HT0
  clear hb HX0 HT0
  obtain ⟨x2, y0, y1, y2, y3, y4, y5⟩ := HX2.out
  go_wp2_with fail
  refine (HD.out _).mono ?_
  rintro e w3 ⟨rfl, hb⟩
  have HB3 : Hid (Ext w w3) := HB2.out.trans hb
  have HT3 : Hid (TBoxAt w3 (w.heap.size + 1) 0 ⟨#[]⟩) := HT2.out.ext hb
  clear hb HT2 y0 y1 y2 y3 y4 y5 x2 HX2 HB2
  go_wp2_with fail
  refine (HW.out _).mono ?_
  rintro e w4 ⟨rfl, hb⟩
  have HB4 : Hid (Ext w w4) := HB3.out.trans hb
  have HT4 : Hid (TBoxAt w4 (w.heap.size + 1) 0 ⟨#[]⟩) := HT3.out.ext hb
  clear hb HT3 HB3
  go_wp2_with fail
  refine (HWB.out _ (HB4.out.alloc _)).mono ?_
  rintro e w5 ⟨u, rfl, ht5, hb⟩
  obtain ⟨g, off, cap5, rfl, hc1, hc2, hcell⟩ := ht5
  have HC5 : Hid (∀ (j : Nat) (x : Value), ([p, dt, vt].map Value.string)[j]? = some x → w5.cell? ((⟨g, off, none⟩ : Addr).add j) = some x) := by
    intro j x hx
    rw [List.getElem?_map] at hx
    obtain ⟨b, hb1, rfl⟩ := Option.map_eq_some_iff.1 hx
    rw [Addr.add_lit]
    exact hcell j b hb1
  have X5 : Hid (Below w4.heap.size w4 w5) := ((Ext.refl _).alloc _).trans hb
  have HO5 : Hid (w5.ownsRow w4.heap.size 9 1 (.slice (some ⟨w4.heap.size, 0, none⟩) 1 1) 1 [.string wd]) := ownsRow_ext (World.ownsRow_lit w4 #[.string wd] 1 (Nat.le_refl _) (by unfold maxLen; omega) rfl) hb
  clear hb hcell hc1 hc2
  go_wp2_with (first | (at_builtin; go_must (refine wpList_append_own _ rfl _ _ 115 rfl w4.heap.size 9 i0 (.string ByteArray.empty) 1 16 Tryz.underlying115 hi hz0 hz1 hz2 rfl (by decide) _ 1 _ rfl HO5.out ⟨g, off, none⟩ 3 cap5 ([p, dt, vt].map Value.string) rfl rfl HC5.out (map_one _) (by unfold maxLen; omega) (by omega) X5.out.size ?_; intro v6 w6 hown6 hgrow6 hnil6); have X6 : Hid (Ext w4 w6) := (X5.out.grown hgrow6 X5.out.size (fun k hk => (HO5.out.lt k hk).1)); have HT6 : Hid (TBoxAt w6 (w.heap.size + 1) 0 ⟨#[]⟩) := HT4.out.ext X6.out; have HB6 : Hid (Ext w w6) := HB4.out.trans X6.out; have HO6 : Hid (w6.ownsRow w4.heap.size 9 1 v6 4 ([wd, p, dt, vt].map Value.string)) := hown6; clear hown6 hgrow6 hnil6 HT4 HB4; have hg6 := txts_of_owns HO6.out (by simp); obtain ⟨g6, off6, cap6, rfl, hq1, hq2, hq3⟩ := hg6; have HJ : Hid (Calls Tryz.prog 71 #[.slice (some ⟨g6, off6, none⟩) 4 cap6, .string ⟨#[32]⟩] w6 fun e w' => e = .returned (.string (mkB TX)) ∧ Ext w6 w') := (by rw [← HE.out]; exact joinStr_any g6 off6 cap6 [wd, p, dt, vt] w6 hq3 (World.block_lt_of_cell? w6 _ (hq3 0 wd rfl)) hq1 HL.out (by simp)); clear hq1 hq2 hq3))
  refine HJ.out.mono ?_
  rintro e w7 ⟨rfl, hb⟩
  have HB7 : Hid (Ext w w7) := HB6.out.trans hb
  obtain ⟨t0, t1, t2, t3, t4⟩ := HT6.out.ext hb
  clear hb HT6 HB6
  go_wp2
  exact bodyPost_ret (v := tr (0, TX)) (by simp [results, Tryz.results25, go_sem, tr, *]) rfl ⟨rfl, (HB7.out.setCell (by simp) _).setCell (by simp) _⟩

set_option maxHeartbeats 4000000 in
set_option maxRecDepth 100000 in
theorem implOpText_8 (p : ByteArray) (d v : Int) (w : World) (hg : Gd w) (ht : Tb w) (hf : Opr.fault ⟨8, p, d, v, false, false⟩ = 0) :
    Calls Tryz.prog 25 #[oagg ⟨8, p, d, v, false, false⟩] w fun e w' => e = .returned (tr (0, Opr.text ⟨8, p, d, v, false, false⟩)) ∧ Ext w w' := by
  obtain ⟨-, hr, hpz⟩ := Opr.fault_zero hf
  have hr' : 0 ≤ d ∧ d ≤ 9999 ∧ -1 ≤ v ∧ v ≤ 999 := by simpa [Opr.inR] using hr
  obtain ⟨hd0, hd1, hv0, hv1⟩ := hr'
  clear hr
  have hi9 : (Tryz.prog.info? 9).map (fun i => (i.zero, i.size, i.bytes)) = some (some (.string ByteArray.empty), 1, 16) := by kernel_rfl
  obtain ⟨i0, hi, hxx⟩ := Option.map_eq_some_iff.1 hi9
  simp only [Prod.mk.injEq] at hxx
  obtain ⟨hz0, hz1, hz2⟩ := hxx
  clear hi9
  have HF : Hid (∀ wx : World, Ext w wx → Calls Tryz.prog 28 #[oagg ⟨8, p, d, v, false, false⟩] wx fun e w' => e = .returned (.int .i64 0) ∧ Ext wx w') := by rw [← hf]; exact fun wx he => implOpFault_any _ wx (hg.ext he)
  have HD : Hid (∀ wx : World, Calls Tryz.prog 69 #[oagg ⟨8, p, d, v, false, false⟩] wx fun e w' => e = .returned (.iface 195 (.agg #[.string p, .int .i64 v])) ∧ Ext wx w') := deedOf_8 p d v false false
  have hm : ∀ W : World, Sem.run Tryz.prog (method 443 195 (.agg #[.string p, .int .i64 v]) "loop.example/g00369/impl.word") W = .ok (260, .agg #[.string p, .int .i64 v]) W := fun W => by kernel_rfl
  have HW : Hid (∀ wx : World, Calls Tryz.prog 260 #[.agg #[.string p, .int .i64 v]] wx fun e w' => e = .returned (.string (mkB (Opr.word 8))) ∧ Ext wx w') := word_8 p v
  have HWB : Hid (∀ wx : World, Ext w wx → Calls Tryz.prog 70 #[.iface 195 (.agg #[.string p, .int .i64 v])] wx fun e w' => ∃ u, e = .returned u ∧ Txts w' u [p, mkB (Opr.verT v)] ∧ Ext wx w') := fun wx he => wordsBehind_8 p v wx (ht.ext he) (by omega) (by omega)
  have HL : Hid (∀ x ∈ ([mkB (Opr.word 8)] ++ [p, mkB (Opr.verT v)]).map (·.data.toList), x.length ≤ 30) := by
    have h1 := few_of_ok (s := p) (hpz rfl)
    skip
    have h3 := verT_len v (by omega) (by omega)
    intro x hx
    simp only [List.map_cons, List.map_nil, List.cons_append, List.nil_append, List.mem_cons, List.not_mem_nil, or_false, mkB_list] at hx
    rcases hx with rfl | rfl | rfl
    · decide
    · exact Nat.le_trans h1 (by decide)
    · exact Nat.le_trans h3 (by decide)
  have HE : Hid (Lib.join (([mkB (Opr.word 8)] ++ [p, mkB (Opr.verT v)]).map (·.data.toList)) [32] = Opr.text ⟨8, p, d, v, false, false⟩) := by
    show _ = _
    unfold Opr.text
    congr 1
  have HX0 : Hid (OBoxAt (w.alloc (.cells #[.int .i64 8, .string p, .int .i64 d, .int .i64 v, .bool false, .bool false] 49)) w.heap.size ⟨8, p, d, v, false, false⟩) := obox_new w ⟨8, p, d, v, false, false⟩ _
  clear hf hg ht hpz hd0 hd1 hv0 hv1
  generalize Opr.text ⟨8, p, d, v, false, false⟩ = TX at *
  skip
  generalize mkB (Opr.verT v) = vt at *
  generalize mkB (Opr.word 8) = wd at *
  skip
  skip
  unfold oagg at *
  go_enter Tryz.func25, Tryz.ntmps25
  go_wp2_with fail
  refine (HF.out _ (((Ext.refl _).alloc _).alloc _)).mono ?_
  rintro e w2 ⟨rfl, hb⟩
  have HB2 : Hid (Ext w w2) := (((Ext.refl _).alloc _).alloc _).trans hb
  have HX2 : Hid (OBoxAt w2 w.heap.size ⟨8, p, d, v, false, false⟩) := HX0.out.ext (((Ext.refl _).alloc _).trans hb)
  have HT0 := (tbox_new (w.alloc _) 0 ⟨#[]⟩ _).ext hb
  rw [World.size_alloc] at HT0
  have HT2 : Hid (TBoxAt w2 (w.heap.size + 1) 0 ⟨#[]⟩) := HT0
  clear hb HX0 HT0
  obtain ⟨x2, y0, y1, y2, y3, y4, y5⟩ := HX2.out
  go_wp2_with fail
  refine (HD.out _).mono ?_
  rintro e w3 ⟨rfl, hb⟩
  have HB3 : Hid (Ext w w3) := HB2.out.trans hb
  have HT3 : Hid (TBoxAt w3 (w.heap.size + 1) 0 ⟨#[]⟩) := HT2.out.ext hb
  clear hb HT2 y0 y1 y2 y3 y4 y5 x2 HX2 HB2
  go_wp2_with fail
  refine (HW.out _).mono ?_
  rintro e w4 ⟨rfl, hb⟩
  have HB4 : Hid (Ext w w4) := HB3.out.trans hb
  have HT4 : Hid (TBoxAt w4 (w.heap.size + 1) 0 ⟨#[]⟩) := HT3.out.ext hb
  clear hb HT3 HB3
  go_wp2_with fail
  refine (HWB.out _ (HB4.out.alloc _)).mono ?_
  rintro e w5 ⟨u, rfl, ht5, hb⟩
  obtain ⟨g, off, cap5, rfl, hc1, hc2, hcell⟩ := ht5
  have HC5 : Hid (∀ (j : Nat) (x : Value), ([p, vt].map Value.string)[j]? = some x → w5.cell? ((⟨g, off, none⟩ : Addr).add j) = some x) := by
    intro j x hx
    rw [List.getElem?_map] at hx
    obtain ⟨b, hb1, rfl⟩ := Option.map_eq_some_iff.1 hx
    rw [Addr.add_lit]
    exact hcell j b hb1
  have X5 : Hid (Below w4.heap.size w4 w5) := ((Ext.refl _).alloc _).trans hb
  have HO5 : Hid (w5.ownsRow w4.heap.size 9 1 (.slice (some ⟨w4.heap.size, 0, none⟩) 1 1) 1 [.string wd]) := ownsRow_ext (World.ownsRow_lit w4 #[.string wd] 1 (Nat.le_refl _) (by unfold maxLen; omega) rfl) hb
  clear hb hcell hc1 hc2
  go_wp2_with (first | (at_builtin; go_must (refine wpList_append_own _ rfl _ _ 115 rfl w4.heap.size 9 i0 (.string ByteArray.empty) 1 16 Tryz.underlying115 hi hz0 hz1 hz2 rfl (by decide) _ 1 _ rfl HO5.out ⟨g, off, none⟩ 2 cap5 ([p, vt].map Value.string) rfl rfl HC5.out (map_one _) (by unfold maxLen; omega) (by omega) X5.out.size ?_; intro v6 w6 hown6 hgrow6 hnil6); have X6 : Hid (Ext w4 w6) := (X5.out.grown hgrow6 X5.out.size (fun k hk => (HO5.out.lt k hk).1)); have HT6 : Hid (TBoxAt w6 (w.heap.size + 1) 0 ⟨#[]⟩) := HT4.out.ext X6.out; have HB6 : Hid (Ext w w6) := HB4.out.trans X6.out; have HO6 : Hid (w6.ownsRow w4.heap.size 9 1 v6 3 ([wd, p, vt].map Value.string)) := hown6; clear hown6 hgrow6 hnil6 HT4 HB4; have hg6 := txts_of_owns HO6.out (by simp); obtain ⟨g6, off6, cap6, rfl, hq1, hq2, hq3⟩ := hg6; have HJ : Hid (Calls Tryz.prog 71 #[.slice (some ⟨g6, off6, none⟩) 3 cap6, .string ⟨#[32]⟩] w6 fun e w' => e = .returned (.string (mkB TX)) ∧ Ext w6 w') := (by rw [← HE.out]; exact joinStr_any g6 off6 cap6 [wd, p, vt] w6 hq3 (World.block_lt_of_cell? w6 _ (hq3 0 wd rfl)) hq1 HL.out (by simp)); clear hq1 hq2 hq3))
  refine HJ.out.mono ?_
  rintro e w7 ⟨rfl, hb⟩
  have HB7 : Hid (Ext w w7) := HB6.out.trans hb
  obtain ⟨t0, t1, t2, t3, t4⟩ := HT6.out.ext hb
  clear hb HT6 HB6
  go_wp2
  exact bodyPost_ret (v := tr (0, TX)) (by simp [results, Tryz.results25, go_sem, tr, *]) rfl ⟨rfl, (HB7.out.setCell (by simp) _).setCell (by simp) _⟩

set_option maxHeartbeats 4000000 in
set_option maxRecDepth 100000 in
theorem implOpText_3_ff (p : ByteArray) (d v : Int) (w : World) (hg : Gd w) (ht : Tb w) (hf : Opr.fault ⟨3, p, d, v, false, false⟩ = 0) :
    Calls Tryz.prog 25 #[oagg ⟨3, p, d, v, false, false⟩] w fun e w' => e = .returned (tr (0, Opr.text ⟨3, p, d, v, false, false⟩)) ∧ Ext w w' := by
  obtain ⟨-, hr, hpz⟩ := Opr.fault_zero hf
  have hr' : 0 ≤ d ∧ d ≤ 9999 ∧ -1 ≤ v ∧ v ≤ 999 := by simpa [Opr.inR] using hr
  obtain ⟨hd0, hd1, hv0, hv1⟩ := hr'
  clear hr
  have hi9 : (Tryz.prog.info? 9).map (fun i => (i.zero, i.size, i.bytes)) = some (some (.string ByteArray.empty), 1, 16) := by kernel_rfl
  obtain ⟨i0, hi, hxx⟩ := Option.map_eq_some_iff.1 hi9
  simp only [Prod.mk.injEq] at hxx
  obtain ⟨hz0, hz1, hz2⟩ := hxx
  clear hi9
  have HF : Hid (∀ wx : World, Ext w wx → Calls Tryz.prog 28 #[oagg ⟨3, p, d, v, false, false⟩] wx fun e w' => e = .returned (.int .i64 0) ∧ Ext wx w') := by rw [← hf]; exact fun wx he => implOpFault_any _ wx (hg.ext he)
  have HD : Hid (∀ wx : World, Calls Tryz.prog 69 #[oagg ⟨3, p, d, v, false, false⟩] wx fun e w' => e = .returned (.iface 187 (.agg #[.string p, .int .i64 d, .bool false, .bool false])) ∧ Ext wx w') := deedOf_3 p d v false false
  have hm : ∀ W : World, Sem.run Tryz.prog (method 443 187 (.agg #[.string p, .int .i64 d, .bool false, .bool false]) "loop.example/g00369/impl.word") W = .ok (255, .agg #[.string p, .int .i64 d, .bool false, .bool false]) W := fun W => by kernel_rfl
  have HW : Hid (∀ wx : World, Calls Tryz.prog 255 #[.agg #[.string p, .int .i64 d, .bool false, .bool false]] wx fun e w' => e = .returned (.string (mkB (Opr.word 3))) ∧ Ext wx w') := word_3 p d false false
  have HWB : Hid (∀ wx : World, Ext w wx → Calls Tryz.prog 70 #[.iface 187 (.agg #[.string p, .int .i64 d, .bool false, .bool false])] wx fun e w' => ∃ u, e = .returned u ∧ Txts w' u [p, mkB (Lib.itoa d)] ∧ Ext wx w') := fun wx he => wordsBehind_3 p d false false wx (ht.ext he) (by omega) (by omega)
  have HL : Hid (∀ x ∈ ([mkB (Opr.word 3)] ++ [p, mkB (Lib.itoa d)]).map (·.data.toList), x.length ≤ 30) := by
    have h1 := few_of_ok (s := p) (hpz rfl)
    have h2 := itoa_len d (by omega) (by omega)
    skip
    intro x hx
    simp only [List.map_cons, List.map_nil, List.cons_append, List.nil_append, List.mem_cons, List.not_mem_nil, or_false, mkB_list] at hx
    rcases hx with rfl | rfl | rfl
    · decide
    · exact Nat.le_trans h1 (by decide)
    · exact Nat.le_trans h2 (by decide)
  have HE : Hid (Lib.join (([mkB (Opr.word 3)] ++ [p, mkB (Lib.itoa d)]).map (·.data.toList)) [32] = Opr.text ⟨3, p, d, v, false, false⟩) := by
    show _ = _
    unfold Opr.text
    congr 1
  have HX0 : Hid (OBoxAt (w.alloc (.cells #[.int .i64 3, .string p, .int .i64 d, .int .i64 v, .bool false, .bool false] 49)) w.heap.size ⟨3, p, d, v, false, false⟩) := obox_new w ⟨3, p, d, v, false, false⟩ _
  clear hf hg ht hpz hd0 hd1 hv0 hv1
  generalize Opr.text ⟨3, p, d, v, false, false⟩ = TX at *
  generalize mkB (Lib.itoa d) = dt at *
  skip
  generalize mkB (Opr.word 3) = wd at *
  skip
  skip
  unfold oagg at *
  go_enter Tryz.func25, Tryz.ntmps25
  go_wp2_with fail
  refine (HF.out _ (((Ext.refl _).alloc _).alloc _)).mono ?_
  rintro e w2 ⟨rfl, hb⟩
  have HB2 : Hid (Ext w w2) := (((Ext.refl _).alloc _).alloc _).trans hb
  have HX2 : Hid (OBoxAt w2 w.heap.size ⟨3, p, d, v, false, false⟩) := HX0.out.ext (((Ext.refl _).alloc _).trans hb)
  have HT0 := (tbox_new (w.alloc _) 0 ⟨#[]⟩ _).ext hb
  rw [World.size_alloc] at HT0
  have HT2 : Hid (TBoxAt w2 (w.heap.size + 1) 0 ⟨#[]⟩) := HT0
  clear hb HX0 HT0
  obtain ⟨x2, y0, y1, y2, y3, y4, y5⟩ := HX2.out
  go_wp2_with fail
  refine (HD.out _).mono ?_
  rintro e w3 ⟨rfl, hb⟩
  have HB3 : Hid (Ext w w3) := HB2.out.trans hb
  have HT3 : Hid (TBoxAt w3 (w.heap.size + 1) 0 ⟨#[]⟩) := HT2.out.ext hb
  clear hb HT2 y0 y1 y2 y3 y4 y5 x2 HX2 HB2
  go_wp2_with fail
  refine (HW.out _).mono ?_
  rintro e w4 ⟨rfl, hb⟩
  have HB4 : Hid (Ext w w4) := HB3.out.trans hb
  have HT4 : Hid (TBoxAt w4 (w.heap.size + 1) 0 ⟨#[]⟩) := HT3.out.ext hb
  clear hb HT3 HB3
  go_wp2_with fail
  refine (HWB.out _ (HB4.out.alloc _)).mono ?_
  rintro e w5 ⟨u, rfl, ht5, hb⟩
  obtain ⟨g, off, cap5, rfl, hc1, hc2, hcell⟩ := ht5
  have HC5 : Hid (∀ (j : Nat) (x : Value), ([p, dt].map Value.string)[j]? = some x → w5.cell? ((⟨g, off, none⟩ : Addr).add j) = some x) := by
    intro j x hx
    rw [List.getElem?_map] at hx
    obtain ⟨b, hb1, rfl⟩ := Option.map_eq_some_iff.1 hx
    rw [Addr.add_lit]
    exact hcell j b hb1
  have X5 : Hid (Below w4.heap.size w4 w5) := ((Ext.refl _).alloc _).trans hb
  have HO5 : Hid (w5.ownsRow w4.heap.size 9 1 (.slice (some ⟨w4.heap.size, 0, none⟩) 1 1) 1 [.string wd]) := ownsRow_ext (World.ownsRow_lit w4 #[.string wd] 1 (Nat.le_refl _) (by unfold maxLen; omega) rfl) hb
  clear hb hcell hc1 hc2
  go_wp2_with (first | (at_builtin; go_must (refine wpList_append_own _ rfl _ _ 115 rfl w4.heap.size 9 i0 (.string ByteArray.empty) 1 16 Tryz.underlying115 hi hz0 hz1 hz2 rfl (by decide) _ 1 _ rfl HO5.out ⟨g, off, none⟩ 2 cap5 ([p, dt].map Value.string) rfl rfl HC5.out (map_one _) (by unfold maxLen; omega) (by omega) X5.out.size ?_; intro v6 w6 hown6 hgrow6 hnil6); have X6 : Hid (Ext w4 w6) := (X5.out.grown hgrow6 X5.out.size (fun k hk => (HO5.out.lt k hk).1)); have HT6 : Hid (TBoxAt w6 (w.heap.size + 1) 0 ⟨#[]⟩) := HT4.out.ext X6.out; have HB6 : Hid (Ext w w6) := HB4.out.trans X6.out; have HO6 : Hid (w6.ownsRow w4.heap.size 9 1 v6 3 ([wd, p, dt].map Value.string)) := hown6; clear hown6 hgrow6 hnil6 HT4 HB4; have hg6 := txts_of_owns HO6.out (by simp); obtain ⟨g6, off6, cap6, rfl, hq1, hq2, hq3⟩ := hg6; have HJ : Hid (Calls Tryz.prog 71 #[.slice (some ⟨g6, off6, none⟩) 3 cap6, .string ⟨#[32]⟩] w6 fun e w' => e = .returned (.string (mkB TX)) ∧ Ext w6 w') := (by rw [← HE.out]; exact joinStr_any g6 off6 cap6 [wd, p, dt] w6 hq3 (World.block_lt_of_cell? w6 _ (hq3 0 wd rfl)) hq1 HL.out (by simp)); clear hq1 hq2 hq3))
  refine HJ.out.mono ?_
  rintro e w7 ⟨rfl, hb⟩
  have HB7 : Hid (Ext w w7) := HB6.out.trans hb
  obtain ⟨t0, t1, t2, t3, t4⟩ := HT6.out.ext hb
  clear hb HT6 HB6
  go_wp2
  exact bodyPost_ret (v := tr (0, TX)) (by simp [results, Tryz.results25, go_sem, tr, *]) rfl ⟨rfl, (HB7.out.setCell (by simp) _).setCell (by simp) _⟩

set_option maxHeartbeats 4000000 in
set_option maxRecDepth 100000 in
theorem implOpText_3_ft (p : ByteArray) (d v : Int) (w : World) (hg : Gd w) (ht : Tb w) (hf : Opr.fault ⟨3, p, d, v, false, true⟩ = 0) :
    Calls Tryz.prog 25 #[oagg ⟨3, p, d, v, false, true⟩] w fun e w' => e = .returned (tr (0, Opr.text ⟨3, p, d, v, false, true⟩)) ∧ Ext w w' := by
  obtain ⟨-, hr, hpz⟩ := Opr.fault_zero hf
  have hr' : 0 ≤ d ∧ d ≤ 9999 ∧ -1 ≤ v ∧ v ≤ 999 := by simpa [Opr.inR] using hr
  obtain ⟨hd0, hd1, hv0, hv1⟩ := hr'
  clear hr
  have hi9 : (Tryz.prog.info? 9).map (fun i => (i.zero, i.size, i.bytes)) = some (some (.string ByteArray.empty), 1, 16) := by kernel_rfl
  obtain ⟨i0, hi, hxx⟩ := Option.map_eq_some_iff.1 hi9
  simp only [Prod.mk.injEq] at hxx
  obtain ⟨hz0, hz1, hz2⟩ := hxx
  clear hi9
  have HF : Hid (∀ wx : World, Ext w wx → Calls Tryz.prog 28 #[oagg ⟨3, p, d, v, false, true⟩] wx fun e w' => e = .returned (.int .i64 0) ∧ Ext wx w') := by rw [← hf]; exact fun wx he => implOpFault_any _ wx (hg.ext he)
  have HD : Hid (∀ wx : World, Calls Tryz.prog 69 #[oagg ⟨3, p, d, v, false, true⟩] wx fun e w' => e = .returned (.iface 187 (.agg #[.string p, .int .i64 d, .bool false, .bool true])) ∧ Ext wx w') := deedOf_3 p d v false true
  have hm : ∀ W : World, Sem.run Tryz.prog (method 443 187 (.agg #[.string p, .int .i64 d, .bool false, .bool true]) "loop.example/g00369/impl.word") W = .ok (255, .agg #[.string p, .int .i64 d, .bool false, .bool true]) W := fun W => by kernel_rfl
  have HW : Hid (∀ wx : World, Calls Tryz.prog 255 #[.agg #[.string p, .int .i64 d, .bool false, .bool true]] wx fun e w' => e = .returned (.string (mkB (Opr.word 3))) ∧ Ext wx w') := word_3 p d false true
  have HWB : Hid (∀ wx : World, Ext w wx → Calls Tryz.prog 70 #[.iface 187 (.agg #[.string p, .int .i64 d, .bool false, .bool true])] wx fun e w' => ∃ u, e = .returned u ∧ Txts w' u [p, mkB (Lib.itoa d), mkB Opr.ownW] ∧ Ext wx w') := fun wx he => wordsBehind_3 p d false true wx (ht.ext he) (by omega) (by omega)
  have HL : Hid (∀ x ∈ ([mkB (Opr.word 3)] ++ [p, mkB (Lib.itoa d), mkB Opr.ownW]).map (·.data.toList), x.length ≤ 30) := by
    have h1 := few_of_ok (s := p) (hpz rfl)
    have h2 := itoa_len d (by omega) (by omega)
    skip
    intro x hx
    simp only [List.map_cons, List.map_nil, List.cons_append, List.nil_append, List.mem_cons, List.not_mem_nil, or_false, mkB_list] at hx
    rcases hx with rfl | rfl | rfl | rfl
    · decide
    · exact Nat.le_trans h1 (by decide)
    · exact Nat.le_trans h2 (by decide)
    · decide
  have HE : Hid (Lib.join (([mkB (Opr.word 3)] ++ [p, mkB (Lib.itoa d), mkB Opr.ownW]).map (·.data.toList)) [32] = Opr.text ⟨3, p, d, v, false, true⟩) := by
    show _ = _
    unfold Opr.text
    congr 1
  have HX0 : Hid (OBoxAt (w.alloc (.cells #[.int .i64 3, .string p, .int .i64 d, .int .i64 v, .bool false, .bool true] 49)) w.heap.size ⟨3, p, d, v, false, true⟩) := obox_new w ⟨3, p, d, v, false, true⟩ _
  clear hf hg ht hpz hd0 hd1 hv0 hv1
  generalize Opr.text ⟨3, p, d, v, false, true⟩ = TX at *
  generalize mkB (Lib.itoa d) = dt at *
  skip
  generalize mkB (Opr.word 3) = wd at *
  skip
  generalize mkB Opr.ownW = ow at *
  unfold oagg at *
  go_enter Tryz.func25, Tryz.ntmps25
  go_wp2_with fail
  refine (HF.out _ (((Ext.refl _).alloc _).alloc _)).mono ?_
  rintro e w2 ⟨rfl, hb⟩
  have HB2 : Hid (Ext w w2) := (((Ext.refl _).alloc _).alloc _).trans hb
  have HX2 : Hid (OBoxAt w2 w.heap.size ⟨3, p, d, v, false, true⟩) := HX0.out.ext (((Ext.refl _).alloc _).trans hb)
  have HT0 := (tbox_new (w.alloc _) 0 ⟨#[]⟩ _).ext hb
  rw [World.size_alloc] at HT0
  have HT2 : Hid (TBoxAt w2 (w.heap.size + 1) 0 ⟨#[]⟩) := HT0
  clear hb HX0 HT0
  obtain ⟨x2, y0, y1, y2, y3, y4, y5⟩ := HX2.out
  go_wp2_with fail
  refine (HD.out _).mono ?_
  rintro e w3 ⟨rfl, hb⟩
  have HB3 : Hid (Ext w w3) := HB2.out.trans hb
  have HT3 : Hid (TBoxAt w3 (w.heap.size + 1) 0 ⟨#[]⟩) := HT2.out.ext hb
  clear hb HT2 y0 y1 y2 y3 y4 y5 x2 HX2 HB2
  go_wp2_with fail
  refine (HW.out _).mono ?_
  rintro e w4 ⟨rfl, hb⟩
  have HB4 : Hid (Ext w w4) := HB3.out.trans hb
  have HT4 : Hid (TBoxAt w4 (w.heap.size + 1) 0 ⟨#[]⟩) := HT3.out.ext hb
  clear hb HT3 HB3
  go_wp2_with fail
  refine (HWB.out _ (HB4.out.alloc _)).mono ?_
  rintro e w5 ⟨u, rfl, ht5, hb⟩
  obtain ⟨g, off, cap5, rfl, hc1, hc2, hcell⟩ := ht5
  have HC5 : Hid (∀ (j : Nat) (x : Value), ([p, dt, ow].map Value.string)[j]? = some x → w5.cell? ((⟨g, off, none⟩ : Addr).add j) = some x) := by
    intro j x hx
    rw [List.getElem?_map] at hx
    obtain ⟨b, hb1, rfl⟩ := Option.map_eq_some_iff.1 hx
    rw [Addr.add_lit]
    exact hcell j b hb1
  have X5 : Hid (Below w4.heap.size w4 w5) := ((Ext.refl _).alloc _).trans hb
  have HO5 : Hid (w5.ownsRow w4.heap.size 9 1 (.slice (some ⟨w4.heap.size, 0, none⟩) 1 1) 1 [.string wd]) := ownsRow_ext (World.ownsRow_lit w4 #[.string wd] 1 (Nat.le_refl _) (by unfold maxLen; omega) rfl) hb
  clear hb hcell hc1 hc2
  go_wp2_with (first | (at_builtin; go_must (refine wpList_append_own _ rfl _ _ 115 rfl w4.heap.size 9 i0 (.string ByteArray.empty) 1 16 Tryz.underlying115 hi hz0 hz1 hz2 rfl (by decide) _ 1 _ rfl HO5.out ⟨g, off, none⟩ 3 cap5 ([p, dt, ow].map Value.string) rfl rfl HC5.out (map_one _) (by unfold maxLen; omega) (by omega) X5.out.size ?_; intro v6 w6 hown6 hgrow6 hnil6); have X6 : Hid (Ext w4 w6) := (X5.out.grown hgrow6 X5.out.size (fun k hk => (HO5.out.lt k hk).1)); have HT6 : Hid (TBoxAt w6 (w.heap.size + 1) 0 ⟨#[]⟩) := HT4.out.ext X6.out; have HB6 : Hid (Ext w w6) := HB4.out.trans X6.out; have HO6 : Hid (w6.ownsRow w4.heap.size 9 1 v6 4 ([wd, p, dt, ow].map Value.string)) := hown6; clear hown6 hgrow6 hnil6 HT4 HB4; have hg6 := txts_of_owns HO6.out (by simp); obtain ⟨g6, off6, cap6, rfl, hq1, hq2, hq3⟩ := hg6; have HJ : Hid (Calls Tryz.prog 71 #[.slice (some ⟨g6, off6, none⟩) 4 cap6, .string ⟨#[32]⟩] w6 fun e w' => e = .returned (.string (mkB TX)) ∧ Ext w6 w') := (by rw [← HE.out]; exact joinStr_any g6 off6 cap6 [wd, p, dt, ow] w6 hq3 (World.block_lt_of_cell? w6 _ (hq3 0 wd rfl)) hq1 HL.out (by simp)); clear hq1 hq2 hq3))
  refine HJ.out.mono ?_
  rintro e w7 ⟨rfl, hb⟩
  have HB7 : Hid (Ext w w7) := HB6.out.trans hb
  obtain ⟨t0, t1, t2, t3, t4⟩ := HT6.out.ext hb
  clear hb HT6 HB6
  go_wp2
  exact bodyPost_ret (v := tr (0, TX)) (by simp [results, Tryz.results25, go_sem, tr, *]) rfl ⟨rfl, (HB7.out.setCell (by simp) _).setCell (by simp) _⟩

set_option maxHeartbeats 4000000 in
set_option maxRecDepth 100000 in
theorem implOpText_3_tf (p : ByteArray) (d v : Int) (w : World) (hg : Gd w) (ht : Tb w) (hf : Opr.fault ⟨3, p, d, v, true, false⟩ = 0) :
    Calls Tryz.prog 25 #[oagg ⟨3, p, d, v, true, false⟩] w fun e w' => e = .returned (tr (0, Opr.text ⟨3, p, d, v, true, false⟩)) ∧ Ext w w' := by
  obtain ⟨-, hr, hpz⟩ := Opr.fault_zero hf
  have hr' : 0 ≤ d ∧ d ≤ 9999 ∧ -1 ≤ v ∧ v ≤ 999 := by simpa [Opr.inR] using hr
  obtain ⟨hd0, hd1, hv0, hv1⟩ := hr'
  clear hr
  have hi9 : (Tryz.prog.info? 9).map (fun i => (i.zero, i.size, i.bytes)) = some (some (.string ByteArray.empty), 1, 16) := by kernel_rfl
  obtain ⟨i0, hi, hxx⟩ := Option.map_eq_some_iff.1 hi9
  simp only [Prod.mk.injEq] at hxx
  obtain ⟨hz0, hz1, hz2⟩ := hxx
  clear hi9
  have HF : Hid (∀ wx : World, Ext w wx → Calls Tryz.prog 28 #[oagg ⟨3, p, d, v, true, false⟩] wx fun e w' => e = .returned (.int .i64 0) ∧ Ext wx w') := by rw [← hf]; exact fun wx he => implOpFault_any _ wx (hg.ext he)
  have HD : Hid (∀ wx : World, Calls Tryz.prog 69 #[oagg ⟨3, p, d, v, true, false⟩] wx fun e w' => e = .returned (.iface 187 (.agg #[.string p, .int .i64 d, .bool true, .bool false])) ∧ Ext wx w') := deedOf_3 p d v true false
  have hm : ∀ W : World, Sem.run Tryz.prog (method 443 187 (.agg #[.string p, .int .i64 d, .bool true, .bool false]) "loop.example/g00369/impl.word") W = .ok (255, .agg #[.string p, .int .i64 d, .bool true, .bool false]) W := fun W => by kernel_rfl
  have HW : Hid (∀ wx : World, Calls Tryz.prog 255 #[.agg #[.string p, .int .i64 d, .bool true, .bool false]] wx fun e w' => e = .returned (.string (mkB (Opr.word 3))) ∧ Ext wx w') := word_3 p d true false
  have HWB : Hid (∀ wx : World, Ext w wx → Calls Tryz.prog 70 #[.iface 187 (.agg #[.string p, .int .i64 d, .bool true, .bool false])] wx fun e w' => ∃ u, e = .returned u ∧ Txts w' u [p, mkB (Lib.itoa d), mkB Opr.seqW] ∧ Ext wx w') := fun wx he => wordsBehind_3 p d true false wx (ht.ext he) (by omega) (by omega)
  have HL : Hid (∀ x ∈ ([mkB (Opr.word 3)] ++ [p, mkB (Lib.itoa d), mkB Opr.seqW]).map (·.data.toList), x.length ≤ 30) := by
    have h1 := few_of_ok (s := p) (hpz rfl)
    have h2 := itoa_len d (by omega) (by omega)
    skip
    intro x hx
    simp only [List.map_cons, List.map_nil, List.cons_append, List.nil_append, List.mem_cons, List.not_mem_nil, or_false, mkB_list] at hx
    rcases hx with rfl | rfl | rfl | rfl
    · decide
    · exact Nat.le_trans h1 (by decide)
    · exact Nat.le_trans h2 (by decide)
    · decide
  have HE : Hid (Lib.join (([mkB (Opr.word 3)] ++ [p, mkB (Lib.itoa d), mkB Opr.seqW]).map (·.data.toList)) [32] = Opr.text ⟨3, p, d, v, true, false⟩) := by
    show _ = _
    unfold Opr.text
    congr 1
  have HX0 : Hid (OBoxAt (w.alloc (.cells #[.int .i64 3, .string p, .int .i64 d, .int .i64 v, .bool true, .bool false] 49)) w.heap.size ⟨3, p, d, v, true, false⟩) := obox_new w ⟨3, p, d, v, true, false⟩ _
  clear hf hg ht hpz hd0 hd1 hv0 hv1
  generalize Opr.text ⟨3, p, d, v, true, false⟩ = TX at *
  generalize mkB (Lib.itoa d) = dt at *
  skip
  generalize mkB (Opr.word 3) = wd at *
  generalize mkB Opr.seqW = sq at *
  skip
  unfold oagg at *
  go_enter Tryz.func25, Tryz.ntmps25
  go_wp2_with fail
  refine (HF.out _ (((Ext.refl _).alloc _).alloc _)).mono ?_
  rintro e w2 ⟨rfl, hb⟩
  have HB2 : Hid (Ext w w2) := (((Ext.refl _).alloc _).alloc _).trans hb
  have HX2 : Hid (OBoxAt w2 w.heap.size ⟨3, p, d, v, true, false⟩) := HX0.out.ext (((Ext.refl _).alloc _).trans hb)
  have HT0 := (tbox_new (w.alloc _) 0 ⟨#[]⟩ _).ext hb
  rw [World.size_alloc] at HT0
  have HT2 : Hid (TBoxAt w2 (w.heap.size + 1) 0 ⟨#[]⟩) := HT0
  clear hb HX0 HT0
  obtain ⟨x2, y0, y1, y2, y3, y4, y5⟩ := HX2.out
  go_wp2_with fail
  refine (HD.out _).mono ?_
  rintro e w3 ⟨rfl, hb⟩
  have HB3 : Hid (Ext w w3) := HB2.out.trans hb
  have HT3 : Hid (TBoxAt w3 (w.heap.size + 1) 0 ⟨#[]⟩) := HT2.out.ext hb
  clear hb HT2 y0 y1 y2 y3 y4 y5 x2 HX2 HB2
  go_wp2_with fail
  refine (HW.out _).mono ?_
  rintro e w4 ⟨rfl, hb⟩
  have HB4 : Hid (Ext w w4) := HB3.out.trans hb
  have HT4 : Hid (TBoxAt w4 (w.heap.size + 1) 0 ⟨#[]⟩) := HT3.out.ext hb
  clear hb HT3 HB3
  go_wp2_with fail
  refine (HWB.out _ (HB4.out.alloc _)).mono ?_
  rintro e w5 ⟨u, rfl, ht5, hb⟩
  obtain ⟨g, off, cap5, rfl, hc1, hc2, hcell⟩ := ht5
  have HC5 : Hid (∀ (j : Nat) (x : Value), ([p, dt, sq].map Value.string)[j]? = some x → w5.cell? ((⟨g, off, none⟩ : Addr).add j) = some x) := by
    intro j x hx
    rw [List.getElem?_map] at hx
    obtain ⟨b, hb1, rfl⟩ := Option.map_eq_some_iff.1 hx
    rw [Addr.add_lit]
    exact hcell j b hb1
  have X5 : Hid (Below w4.heap.size w4 w5) := ((Ext.refl _).alloc _).trans hb
  have HO5 : Hid (w5.ownsRow w4.heap.size 9 1 (.slice (some ⟨w4.heap.size, 0, none⟩) 1 1) 1 [.string wd]) := ownsRow_ext (World.ownsRow_lit w4 #[.string wd] 1 (Nat.le_refl _) (by unfold maxLen; omega) rfl) hb
  clear hb hcell hc1 hc2
  go_wp2_with (first | (at_builtin; go_must (refine wpList_append_own _ rfl _ _ 115 rfl w4.heap.size 9 i0 (.string ByteArray.empty) 1 16 Tryz.underlying115 hi hz0 hz1 hz2 rfl (by decide) _ 1 _ rfl HO5.out ⟨g, off, none⟩ 3 cap5 ([p, dt, sq].map Value.string) rfl rfl HC5.out (map_one _) (by unfold maxLen; omega) (by omega) X5.out.size ?_; intro v6 w6 hown6 hgrow6 hnil6); have X6 : Hid (Ext w4 w6) := (X5.out.grown hgrow6 X5.out.size (fun k hk => (HO5.out.lt k hk).1)); have HT6 : Hid (TBoxAt w6 (w.heap.size + 1) 0 ⟨#[]⟩) := HT4.out.ext X6.out; have HB6 : Hid (Ext w w6) := HB4.out.trans X6.out; have HO6 : Hid (w6.ownsRow w4.heap.size 9 1 v6 4 ([wd, p, dt, sq].map Value.string)) := hown6; clear hown6 hgrow6 hnil6 HT4 HB4; have hg6 := txts_of_owns HO6.out (by simp); obtain ⟨g6, off6, cap6, rfl, hq1, hq2, hq3⟩ := hg6; have HJ : Hid (Calls Tryz.prog 71 #[.slice (some ⟨g6, off6, none⟩) 4 cap6, .string ⟨#[32]⟩] w6 fun e w' => e = .returned (.string (mkB TX)) ∧ Ext w6 w') := (by rw [← HE.out]; exact joinStr_any g6 off6 cap6 [wd, p, dt, sq] w6 hq3 (World.block_lt_of_cell? w6 _ (hq3 0 wd rfl)) hq1 HL.out (by simp)); clear hq1 hq2 hq3))
  refine HJ.out.mono ?_
  rintro e w7 ⟨rfl, hb⟩
  have HB7 : Hid (Ext w w7) := HB6.out.trans hb
  obtain ⟨t0, t1, t2, t3, t4⟩ := HT6.out.ext hb
  clear hb HT6 HB6
  go_wp2
  exact bodyPost_ret (v := tr (0, TX)) (by simp [results, Tryz.results25, go_sem, tr, *]) rfl ⟨rfl, (HB7.out.setCell (by simp) _).setCell (by simp) _⟩

set_option maxHeartbeats 4000000 in
set_option maxRecDepth 100000 in
theorem implOpText_3_tt (p : ByteArray) (d v : Int) (w : World) (hg : Gd w) (ht : Tb w) (hf : Opr.fault ⟨3, p, d, v, true, true⟩ = 0) :
    Calls Tryz.prog 25 #[oagg ⟨3, p, d, v, true, true⟩] w fun e w' => e = .returned (tr (0, Opr.text ⟨3, p, d, v, true, true⟩)) ∧ Ext w w' := by
  obtain ⟨-, hr, hpz⟩ := Opr.fault_zero hf
  have hr' : 0 ≤ d ∧ d ≤ 9999 ∧ -1 ≤ v ∧ v ≤ 999 := by simpa [Opr.inR] using hr
  obtain ⟨hd0, hd1, hv0, hv1⟩ := hr'
  clear hr
  have hi9 : (Tryz.prog.info? 9).map (fun i => (i.zero, i.size, i.bytes)) = some (some (.string ByteArray.empty), 1, 16) := by kernel_rfl
  obtain ⟨i0, hi, hxx⟩ := Option.map_eq_some_iff.1 hi9
  simp only [Prod.mk.injEq] at hxx
  obtain ⟨hz0, hz1, hz2⟩ := hxx
  clear hi9
  have HF : Hid (∀ wx : World, Ext w wx → Calls Tryz.prog 28 #[oagg ⟨3, p, d, v, true, true⟩] wx fun e w' => e = .returned (.int .i64 0) ∧ Ext wx w') := by rw [← hf]; exact fun wx he => implOpFault_any _ wx (hg.ext he)
  have HD : Hid (∀ wx : World, Calls Tryz.prog 69 #[oagg ⟨3, p, d, v, true, true⟩] wx fun e w' => e = .returned (.iface 187 (.agg #[.string p, .int .i64 d, .bool true, .bool true])) ∧ Ext wx w') := deedOf_3 p d v true true
  have hm : ∀ W : World, Sem.run Tryz.prog (method 443 187 (.agg #[.string p, .int .i64 d, .bool true, .bool true]) "loop.example/g00369/impl.word") W = .ok (255, .agg #[.string p, .int .i64 d, .bool true, .bool true]) W := fun W => by kernel_rfl
  have HW : Hid (∀ wx : World, Calls Tryz.prog 255 #[.agg #[.string p, .int .i64 d, .bool true, .bool true]] wx fun e w' => e = .returned (.string (mkB (Opr.word 3))) ∧ Ext wx w') := word_3 p d true true
  have HWB : Hid (∀ wx : World, Ext w wx → Calls Tryz.prog 70 #[.iface 187 (.agg #[.string p, .int .i64 d, .bool true, .bool true])] wx fun e w' => ∃ u, e = .returned u ∧ Txts w' u [p, mkB (Lib.itoa d), mkB Opr.seqW, mkB Opr.ownW] ∧ Ext wx w') := fun wx he => wordsBehind_3 p d true true wx (ht.ext he) (by omega) (by omega)
  have HL : Hid (∀ x ∈ ([mkB (Opr.word 3)] ++ [p, mkB (Lib.itoa d), mkB Opr.seqW, mkB Opr.ownW]).map (·.data.toList), x.length ≤ 30) := by
    have h1 := few_of_ok (s := p) (hpz rfl)
    have h2 := itoa_len d (by omega) (by omega)
    skip
    intro x hx
    simp only [List.map_cons, List.map_nil, List.cons_append, List.nil_append, List.mem_cons, List.not_mem_nil, or_false, mkB_list] at hx
    rcases hx with rfl | rfl | rfl | rfl | rfl
    · decide
    · exact Nat.le_trans h1 (by decide)
    · exact Nat.le_trans h2 (by decide)
    · decide
    · decide
  have HE : Hid (Lib.join (([mkB (Opr.word 3)] ++ [p, mkB (Lib.itoa d), mkB Opr.seqW, mkB Opr.ownW]).map (·.data.toList)) [32] = Opr.text ⟨3, p, d, v, true, true⟩) := by
    show _ = _
    unfold Opr.text
    congr 1
  have HX0 : Hid (OBoxAt (w.alloc (.cells #[.int .i64 3, .string p, .int .i64 d, .int .i64 v, .bool true, .bool true] 49)) w.heap.size ⟨3, p, d, v, true, true⟩) := obox_new w ⟨3, p, d, v, true, true⟩ _
  clear hf hg ht hpz hd0 hd1 hv0 hv1
  generalize Opr.text ⟨3, p, d, v, true, true⟩ = TX at *
  generalize mkB (Lib.itoa d) = dt at *
  skip
  generalize mkB (Opr.word 3) = wd at *
  generalize mkB Opr.seqW = sq at *
  generalize mkB Opr.ownW = ow at *
  unfold oagg at *
  go_enter Tryz.func25, Tryz.ntmps25
  go_wp2_with fail
  refine (HF.out _ (((Ext.refl _).alloc _).alloc _)).mono ?_
  rintro e w2 ⟨rfl, hb⟩
  have HB2 : Hid (Ext w w2) := (((Ext.refl _).alloc _).alloc _).trans hb
  have HX2 : Hid (OBoxAt w2 w.heap.size ⟨3, p, d, v, true, true⟩) := HX0.out.ext (((Ext.refl _).alloc _).trans hb)
  have HT0 := (tbox_new (w.alloc _) 0 ⟨#[]⟩ _).ext hb
  rw [World.size_alloc] at HT0
  have HT2 : Hid (TBoxAt w2 (w.heap.size + 1) 0 ⟨#[]⟩) := HT0
  clear hb HX0 HT0
  obtain ⟨x2, y0, y1, y2, y3, y4, y5⟩ := HX2.out
  go_wp2_with fail
  refine (HD.out _).mono ?_
  rintro e w3 ⟨rfl, hb⟩
  have HB3 : Hid (Ext w w3) := HB2.out.trans hb
  have HT3 : Hid (TBoxAt w3 (w.heap.size + 1) 0 ⟨#[]⟩) := HT2.out.ext hb
  clear hb HT2 y0 y1 y2 y3 y4 y5 x2 HX2 HB2
  go_wp2_with fail
  refine (HW.out _).mono ?_
  rintro e w4 ⟨rfl, hb⟩
  have HB4 : Hid (Ext w w4) := HB3.out.trans hb
  have HT4 : Hid (TBoxAt w4 (w.heap.size + 1) 0 ⟨#[]⟩) := HT3.out.ext hb
  clear hb HT3 HB3
  go_wp2_with fail
  refine (HWB.out _ (HB4.out.alloc _)).mono ?_
  rintro e w5 ⟨u, rfl, ht5, hb⟩
  obtain ⟨g, off, cap5, rfl, hc1, hc2, hcell⟩ := ht5
  have HC5 : Hid (∀ (j : Nat) (x : Value), ([p, dt, sq, ow].map Value.string)[j]? = some x → w5.cell? ((⟨g, off, none⟩ : Addr).add j) = some x) := by
    intro j x hx
    rw [List.getElem?_map] at hx
    obtain ⟨b, hb1, rfl⟩ := Option.map_eq_some_iff.1 hx
    rw [Addr.add_lit]
    exact hcell j b hb1
  have X5 : Hid (Below w4.heap.size w4 w5) := ((Ext.refl _).alloc _).trans hb
  have HO5 : Hid (w5.ownsRow w4.heap.size 9 1 (.slice (some ⟨w4.heap.size, 0, none⟩) 1 1) 1 [.string wd]) := ownsRow_ext (World.ownsRow_lit w4 #[.string wd] 1 (Nat.le_refl _) (by unfold maxLen; omega) rfl) hb
  clear hb hcell hc1 hc2
  go_wp2_with (first | (at_builtin; go_must (refine wpList_append_own _ rfl _ _ 115 rfl w4.heap.size 9 i0 (.string ByteArray.empty) 1 16 Tryz.underlying115 hi hz0 hz1 hz2 rfl (by decide) _ 1 _ rfl HO5.out ⟨g, off, none⟩ 4 cap5 ([p, dt, sq, ow].map Value.string) rfl rfl HC5.out (map_one _) (by unfold maxLen; omega) (by omega) X5.out.size ?_; intro v6 w6 hown6 hgrow6 hnil6); have X6 : Hid (Ext w4 w6) := (X5.out.grown hgrow6 X5.out.size (fun k hk => (HO5.out.lt k hk).1)); have HT6 : Hid (TBoxAt w6 (w.heap.size + 1) 0 ⟨#[]⟩) := HT4.out.ext X6.out; have HB6 : Hid (Ext w w6) := HB4.out.trans X6.out; have HO6 : Hid (w6.ownsRow w4.heap.size 9 1 v6 5 ([wd, p, dt, sq, ow].map Value.string)) := hown6; clear hown6 hgrow6 hnil6 HT4 HB4; have hg6 := txts_of_owns HO6.out (by simp); obtain ⟨g6, off6, cap6, rfl, hq1, hq2, hq3⟩ := hg6; have HJ : Hid (Calls Tryz.prog 71 #[.slice (some ⟨g6, off6, none⟩) 5 cap6, .string ⟨#[32]⟩] w6 fun e w' => e = .returned (.string (mkB TX)) ∧ Ext w6 w') := (by rw [← HE.out]; exact joinStr_any g6 off6 cap6 [wd, p, dt, sq, ow] w6 hq3 (World.block_lt_of_cell? w6 _ (hq3 0 wd rfl)) hq1 HL.out (by simp)); clear hq1 hq2 hq3))
  refine HJ.out.mono ?_
  rintro e w7 ⟨rfl, hb⟩
  have HB7 : Hid (Ext w w7) := HB6.out.trans hb
  obtain ⟨t0, t1, t2, t3, t4⟩ := HT6.out.ext hb
  clear hb HT6 HB6
  go_wp2
  exact bodyPost_ret (v := tr (0, TX)) (by simp [results, Tryz.results25, go_sem, tr, *]) rfl ⟨rfl, (HB7.out.setCell (by simp) _).setCell (by simp) _⟩
end Go.Proofs.YtdjnkchaapcjpaaGreatDoor
