/- RequestText of the specification and of the program. -/
import Derived.Test.YtdfokjjkhabneaaGreatDoorU1
namespace Go.Proofs.YtdfokjjkhabneaaGreatDoor
open Go.RowKit
theorem cell_one_at (w : World) (x : Value) (t : TypeId) (m : Nat) (hm : w.heap.size = m) : ∀ j u, [x][j]? = some u → (w.alloc (.cells #[x] t)).cell? ((⟨m, 0, none⟩ : Addr).add j) = some u := by subst hm; exact cell_one_new w x t
theorem Opr.textRV_bad {r : Rq} {c : Int} (h : Opr.faultR r = c) (h0 : c ≠ 0) : Opr.textRV r = (c, []) := by unfold Opr.textRV; rw [h, if_pos h0]
theorem Opr.textRV_ok {r : Rq} (h : Opr.faultR r = 0) : Opr.textRV r = (0, Opr.textR r) := by unfold Opr.textRV; rw [h, if_neg (by decide)]
theorem RBoxAt.at {w : World} {b : Nat} {r : Rq} {v : Value} (h : RBoxAt w b r v) : RAt w b 0 r v := ⟨h.1, h.2.1.1, h.2.1.2.1, h.2.1.2.2.1, h.2.1.2.2.2⟩
set_option maxHeartbeats 2000000 in
set_option maxRecDepth 100000 in
theorem specRequestText_any (r : Rq) (v : Value) (w : World) (hS : OSlice w v r.ops) : Calls Tryz.prog 17 #[ragg r v] w fun e w' => e = .returned (tr (Opr.textRV r)) ∧ Ext w w' := by
  have HL : Hid (∀ wx : World, Ext w wx → RBoxAt wx w.heap.size r v → Calls Tryz.prog 45 #[.pointer (some ⟨w.heap.size, 0, none⟩)] wx fun e w' => e = .returned (.int .i64 (Opr.faultR r)) ∧ Ext wx w') := fun wx he h => l5Request_any _ 0 r v wx h.at (hS.ext he)
  have HX : Hid (Opr.faultR r = 0 → ∀ wx : World, Ext w wx → RBoxAt wx w.heap.size r v → Calls Tryz.prog 46 #[.pointer (some ⟨w.heap.size, 0, none⟩)] wx fun e w' => e = .returned (.string (mkB (Opr.textR r))) ∧ Ext wx w') := fun hf wx he h => l5RequestText_any _ 0 r v wx h.at (hS.ext he) hf
  obtain ⟨a, cap, rfl, -, -, -⟩ := hS
  unfold ragg
  by_cases hf : Opr.faultR r = 0
  · have HX2 : Hid _ := HX.out hf
    rw [Opr.textRV_ok hf]
    rw [hf] at HL
    clear hf HX
    generalize Opr.textR r = TX at *
    unfold tr
    go_enter Tryz.func17, Tryz.ntmps17
    go_wp2_with fail
    refine (HL.out _ (((Ext.refl _).alloc _).alloc _) ((rbox_new w r _ _).ext ((Ext.refl _).alloc _))).mono ?_
    rintro e w1 ⟨rfl, hb⟩
    have HB : Hid (Ext w w1) := (((Ext.refl _).alloc _).alloc _).trans hb
    have HO : Hid (RBoxAt w1 w.heap.size r (.slice a r.ops.length cap)) := (rbox_new w r _ _).ext (((Ext.refl _).alloc _).trans hb)
    have HT0 := (tbox_new (w.alloc _) 0 ⟨#[]⟩ _).ext hb
    rw [World.size_alloc] at HT0
    have HT : Hid (TBoxAt w1 (w.heap.size + 1) 0 ⟨#[]⟩) := HT0
    clear hb HT0
    go_wp2_with fail
    refine (HX2.out _ HB.out HO.out).mono ?_
    rintro e w2 ⟨rfl, hb⟩
    have HB2 : Hid (Ext w w2) := HB.out.trans hb
    obtain ⟨t0, t1, t2, t3, t4⟩ := HT.out.ext hb
    clear hb
    go_wp2
    exact bodyPost_ret (v := tr (0, TX)) (by simp [results, Tryz.results17, go_sem, tr, *]) rfl ⟨rfl, (HB2.out.setCell (by simp) _).setCell (by simp) _⟩
  · rw [Opr.textRV_bad rfl hf]
    clear HX
    generalize Opr.faultR r = c at *
    have hcb : (c != 0) = true := by simpa using hf
    unfold tr
    go_enter Tryz.func17, Tryz.ntmps17
    go_wp2_with fail
    refine (HL.out _ (((Ext.refl _).alloc _).alloc _) ((rbox_new w r _ _).ext ((Ext.refl _).alloc _))).mono ?_
    rintro e w1 ⟨rfl, hb⟩
    have HB : Hid (Ext w w1) := (((Ext.refl _).alloc _).alloc _).trans hb
    have HT0 := (tbox_new (w.alloc _) 0 ⟨#[]⟩ _).ext hb
    rw [World.size_alloc] at HT0
    obtain ⟨t0, t1, t2, t3, t4⟩ := HT0
    clear hb
    go_wp2
    exact bodyPost_ret (v := tr (c, [])) (by simp [results, Tryz.results17, go_sem, tr, mkB, *]) rfl ⟨rfl, (HB.out.setCell (by simp) _).setCell (by simp) _⟩

/-- The words of a request's text, as the program gathers them. -/
def reqWs (r : Rq) (l : List Opn) : List ByteArray := (Opr.headW r ++ Opr.opsW l).map mkB
theorem reqWs_data (r : Rq) (l : List Opn) : (reqWs r l).map (·.data.toList) = Opr.headW r ++ Opr.opsW l := by
  unfold reqWs; rw [List.map_map]
  conv => rhs; rw [← List.map_id (Opr.headW r ++ Opr.opsW l)]
  exact List.map_congr_left (fun x _ => mkB_list x)
theorem reqWs_snoc (r : Rq) (l : List Opn) (o : Opn) : reqWs r (l ++ [o]) = reqWs r l ++ (if l.length = 0 then [mkB (Opr.text o)] else [mkB [59], mkB (Opr.text o)]) := by
  unfold reqWs; rw [Opr.opsW_snoc, ← List.append_assoc, List.map_append]
  congr 1
  split <;> rfl
theorem opsW_len (l : List Opn) : (Opr.opsW l).length ≤ 2 * l.length := by
  cases l with
  | nil => simp [Opr.opsW]
  | cons x t =>
    have : ∀ t : List Opn, (t.flatMap (fun z => [[59], Opr.text z])).length = 2 * t.length := by
      intro t; induction t with
      | nil => rfl
      | cons y t ih => simp only [List.flatMap_cons, List.length_append, List.length_cons, List.length_nil, ih]; omega
    simp only [Opr.opsW, List.length_cons, this]; omega
theorem reqWs_len (r : Rq) (l : List Opn) : (reqWs r l).length ≤ 6 + 2 * l.length := by
  have := opsW_len l
  simp only [reqWs, List.length_map, List.length_append, Opr.headW, List.length_cons, List.length_nil]; omega
theorem join_long (xs : List (List UInt8)) (h : ∀ x ∈ xs, x.length ≤ 500) (hl : xs.length ≤ 20) : (Lib.join xs [32]).length ≤ 20000 := by
  have : ∀ (xs : List (List UInt8)), (∀ x ∈ xs, x.length ≤ 500) → (Lib.joinTail [32] xs).length ≤ 501 * xs.length := by
    intro xs
    induction xs with
    | nil => simp [Lib.joinTail]
    | cons x t ih =>
      intro hx
      have h1 := ih (fun y hy => hx y (List.mem_cons_of_mem _ hy))
      have h2 := hx x (List.mem_cons_self)
      simp only [Lib.joinTail, List.map_cons, List.flatten_cons, List.length_append, List.length_cons, List.length_nil] at h1 ⊢
      omega
  cases xs with
  | nil => simp [Lib.join_nil]
  | cons x t =>
    rw [Lib.join_cons, List.length_append]
    have h1 := this t (fun y hy => h y (List.mem_cons_of_mem _ hy))
    have h2 := h x (List.mem_cons_self)
    simp only [List.length_cons] at hl
    omega
theorem opsW_short {l : List Opn} (h : ∀ z ∈ l, Opr.fault z = 0) : ∀ x ∈ Opr.opsW l, x.length ≤ 500 := by
  intro x hx
  cases l with
  | nil => cases hx
  | cons y t =>
    simp only [Opr.opsW, List.mem_cons, List.mem_flatMap, List.not_mem_nil, or_false] at hx
    rcases hx with rfl | ⟨z, hz, rfl | rfl⟩
    · exact Nat.le_trans (Opr.text_len (h y (List.mem_cons_self))) (by decide)
    · decide
    · exact Nat.le_trans (Opr.text_len (h z (List.mem_cons_of_mem _ hz))) (by decide)
theorem headW_short {r : Rq} (h : Opr.okHead r) : ∀ x ∈ Opr.headW r, x.length ≤ 500 := by
  obtain ⟨k1, k2, k3, k4, k5, k6⟩ := Opr.heads h
  have h1 := itoa_len r.client (by omega) (by omega)
  have h2 := itoa_len r.number (by omega) (by omega)
  have h3 := itoa_len r.time (by omega) (by omega)
  intro x hx
  simp only [Opr.headW, List.mem_cons, List.not_mem_nil, or_false] at hx
  rcases hx with rfl | rfl | rfl | rfl | rfl | rfl
  · decide
  · omega
  · omega
  · decide
  · omega
  · decide
theorem joinStr2_any (bk o c : Nat) (xs : List ByteArray) (w : World) (hcells : ∀ (j : Nat) x, xs[j]? = some x → w.cell? ⟨bk, o + j, none⟩ = some (.string x)) (hbk : bk < w.heap.size) (hcap : xs.length ≤ c) (hs : ∀ x ∈ xs.map (·.data.toList), x.length ≤ 500) (hl : xs.length ≤ 20) :
    Calls Tryz.prog 33 #[.slice (some ⟨bk, o, none⟩) xs.length c, .string ⟨#[32]⟩] w fun e w' => e = .returned (.string (mkB (Lib.join (xs.map (·.data.toList)) [32]))) ∧ Ext w w' :=
  strings_Join bk o c xs ⟨#[32]⟩ w hcells hbk (by omega) hcap (by have := join_long (xs.map (·.data.toList)) hs (by simpa using hl); show (Lib.join _ [32]).length ≤ _; omega)

set_option maxHeartbeats 4000000 in
set_option maxRecDepth 100000 in
theorem implRequestText_ok (r : Rq) (v : Value) (w : World) (hg : Gd w) (ht : Tb w) (hS : OSlice w v r.ops) (hf : Opr.faultR r = 0) : Calls Tryz.prog 14 #[ragg r v] w fun e w' => e = .returned (tr (0, Opr.textR r)) ∧ Ext w w' := by
  obtain ⟨hh, hl1, hl3, hz⟩ := Opr.faultR_zero hf
  have HSh : Hid (∀ x ∈ (reqWs r r.ops).map (·.data.toList), x.length ≤ 500) := by
    intro x hx; rw [reqWs_data] at hx
    rcases List.mem_append.1 hx with h | h
    · exact headW_short hh x h
    · exact opsW_short hz x h
  obtain ⟨k1, k2, k3, k4, k5, k6⟩ := Opr.heads hh
  have HRF : Hid (∀ wx : World, Ext w wx → Calls Tryz.prog 15 #[ragg r v] wx fun e w' => e = .returned (.int .i64 0) ∧ Ext wx w') := by rw [← hf]; exact fun wx he => implRequestFault_any r v wx (hg.ext he) (hS.ext he)
  have D1 : Hid (∀ wx : World, Ext w wx → Calls Tryz.prog 42 #[.int .i64 r.client] wx fun e w' => e = .returned (.string (mkB (Lib.itoa r.client))) ∧ Ext wx w') := fun wx he => numberText_any _ wx (by omega) (by omega) (ht.ext he)
  have D2 : Hid (∀ wx : World, Ext w wx → Calls Tryz.prog 42 #[.int .i64 r.number] wx fun e w' => e = .returned (.string (mkB (Lib.itoa r.number))) ∧ Ext wx w') := fun wx he => numberText_any _ wx (by omega) (by omega) (ht.ext he)
  have D3 : Hid (∀ wx : World, Ext w wx → Calls Tryz.prog 42 #[.int .i64 r.time] wx fun e w' => e = .returned (.string (mkB (Lib.itoa r.time))) ∧ Ext wx w') := fun wx he => numberText_any _ wx (by omega) (by omega) (ht.ext he)
  have HOT : Hid (∀ (z : Opn), z ∈ r.ops → ∀ wx : World, Ext w wx → Calls Tryz.prog 9 #[oagg z] wx fun e w' => e = .returned (tr (0, Opr.text z)) ∧ Ext wx w') := fun z hzm wx he => by
    have h := implOpText_any z wx (hg.ext he) (ht.ext he)
    rw [Opr.textV_ok (hz z hzm)] at h
    exact h
  have hi9 : (Tryz.prog.info? 9).map (fun i => (i.zero, i.size, i.bytes)) = some (some (.string ByteArray.empty), 1, 16) := by kernel_rfl
  obtain ⟨i0, hi, hxx⟩ := Option.map_eq_some_iff.1 hi9
  simp only [Prod.mk.injEq] at hxx
  obtain ⟨hz0, hz1, hz2⟩ := hxx
  clear hi9
  obtain ⟨a, cap, rfl, hlc, hcm, hx⟩ := hS
  have HX : Hid (0 < r.ops.length → ∃ b off, a = some ⟨b, off, none⟩ ∧ b < w.heap.size ∧ OpsAt w b off r.ops) := hx
  clear hx hf hh hz hg ht k1 k2 k3 k4 k5 k6
  unfold maxLen at hcm
  have HW0 : Hid ([.string ⟨#[99, 108, 105, 101, 110, 116]⟩, .string (mkB (Lib.itoa r.client)), .string (mkB (Lib.itoa r.number)), .string ⟨#[97, 116]⟩, .string (mkB (Lib.itoa r.time)), .string ⟨#[58]⟩] = (reqWs r []).map Value.string) := (rfl : _ = _)
  generalize mkB (Lib.itoa r.client) = t1 at *
  generalize mkB (Lib.itoa r.number) = t2 at *
  generalize mkB (Lib.itoa r.time) = t3 at *
  unfold ragg at *
  go_enter Tryz.func14, Tryz.ntmps14
  go_wp2_with fail
  refine (HRF.out _ (((Ext.refl _).alloc _).alloc _)).mono ?_
  rintro e w0 ⟨rfl, hb⟩
  have E0 : Hid (Ext w w0) := (((Ext.refl _).alloc _).alloc _).trans hb
  have BXw0 : Hid (RBoxAt w0 w.heap.size r (.slice a r.ops.length cap)) := (rbox_new w r _ _).ext (((Ext.refl _).alloc _).trans hb)
  have HT0 := (tbox_new (w.alloc _) 0 ⟨#[]⟩ _).ext hb
  rw [World.size_alloc] at HT0
  have TXw0 : Hid (TBoxAt w0 (w.heap.size + 1) 0 ⟨#[]⟩) := HT0
  clear hb HT0 HRF
  go_wp2
  obtain ⟨bx, hbx⟩ : ∃ bx, bx = w.heap.size := ⟨_, rfl⟩
  have HBX : Hid (w.heap.size ≤ bx) := Nat.le_of_eq hbx.symm
  rw [← hbx] at BXw0 TXw0 ⊢
  clear hbx
  obtain ⟨L0, ⟨c0, c1, c2, c3⟩, -, -, -, -⟩ := BXw0.out
  go_region_held3 (fun W => W.cell? ⟨bx, 0, none⟩ = some (.int .i64 r.client) ∧ W.cell? ⟨bx, 1, none⟩ = some (.int .i64 r.number) ∧ W.cell? ⟨bx, 2, none⟩ = some (.int .i64 r.time) ∧ W.cell? ⟨bx, 3, none⟩ = some (.slice a r.ops.length cap)) (first | exact ⟨c0, c1, c2, c3⟩ | exact ⟨(alloc_cell _ _ _ _ L0).trans c0, (alloc_cell _ _ _ _ L0).trans c1, (alloc_cell _ _ _ _ L0).trans c2, (alloc_cell _ _ _ _ L0).trans c3⟩ | go_keep) (first | (have tkw1 := E0; clear tkw1; go_at_call 42; refine (D1.out _ (by first | exact E0.out.drew | exact E0.out)).mono ?_; rintro e w1 ⟨rfl, hb⟩; have Xw1 : Hid (Ext w0 w1) := (by first | exact ((Ext.refl _).drew).trans hb | exact hb); have Ew1 : Hid (Ext w w1) := E0.out.trans Xw1.out; have BXw1 : Hid (RBoxAt w1 bx r (.slice a r.ops.length cap)) := BXw0.out.ext Xw1.out; have TXw1 : Hid (TBoxAt w1 (bx + 1) 0 ⟨#[]⟩) := TXw0.out.ext Xw1.out; clear hb Xw1 E0 BXw0 TXw0 L0 c0 c1 c2 c3; obtain ⟨L0, ⟨c0, c1, c2, c3⟩, -, -, -, -⟩ := BXw1.out) | (have tkw2 := Ew1; clear tkw2; go_at_call 42; refine (D2.out _ (by first | exact Ew1.out.drew | exact Ew1.out)).mono ?_; rintro e w2 ⟨rfl, hb⟩; have Xw2 : Hid (Ext w1 w2) := (by first | exact ((Ext.refl _).drew).trans hb | exact hb); have Ew2 : Hid (Ext w w2) := Ew1.out.trans Xw2.out; have BXw2 : Hid (RBoxAt w2 bx r (.slice a r.ops.length cap)) := BXw1.out.ext Xw2.out; have TXw2 : Hid (TBoxAt w2 (bx + 1) 0 ⟨#[]⟩) := TXw1.out.ext Xw2.out; clear hb Xw2 Ew1 BXw1 TXw1 L0 c0 c1 c2 c3; obtain ⟨L0, ⟨c0, c1, c2, c3⟩, -, -, -, -⟩ := BXw2.out) | (have tkw3 := Ew2; clear tkw3; go_at_call 42; refine (D3.out _ (by first | exact Ew2.out.drew | exact Ew2.out)).mono ?_; rintro e w3 ⟨rfl, hb⟩; have Xw3 : Hid (Ext w2 w3) := (by first | exact ((Ext.refl _).drew).trans hb | exact hb); have Ew3 : Hid (Ext w w3) := Ew2.out.trans Xw3.out; have BXw3 : Hid (RBoxAt w3 bx r (.slice a r.ops.length cap)) := BXw2.out.ext Xw3.out; have TXw3 : Hid (TBoxAt w3 (bx + 1) 0 ⟨#[]⟩) := TXw2.out.ext Xw3.out; clear hb Xw3 Ew2 BXw2 TXw2 L0 c0 c1 c2 c3; obtain ⟨L0, ⟨c0, c1, c2, c3⟩, -, -, -, -⟩ := BXw3.out))
  have HO : Hid ((w3.alloc (.cells #[.string ⟨#[99, 108, 105, 101, 110, 116]⟩, .string t1, .string t2, .string ⟨#[97, 116]⟩, .string t3, .string ⟨#[58]⟩] 9)).ownsRow w3.heap.size 9 1 (.slice (some ⟨w3.heap.size, 0, none⟩) 6 6) 6 ((reqWs r []).map Value.string)) := by
    rw [← HW0.out]
    exact World.ownsRow_lit w3 #[.string ⟨#[99, 108, 105, 101, 110, 116]⟩, .string t1, .string t2, .string ⟨#[97, 116]⟩, .string t3, .string ⟨#[58]⟩] 6 (Nat.le_refl _) (by unfold maxLen; omega) rfl
  have HB : Hid (Below w3.heap.size w3 (w3.alloc (.cells #[.string ⟨#[99, 108, 105, 101, 110, 116]⟩, .string t1, .string t2, .string ⟨#[97, 116]⟩, .string t3, .string ⟨#[58]⟩] 9))) := (Below.refl _ _).alloc (Nat.le_refl _) _
  have c3' := (alloc_cell w3 (.cells #[.string ⟨#[99, 108, 105, 101, 110, 116]⟩, .string t1, .string t2, .string ⟨#[97, 116]⟩, .string t3, .string ⟨#[58]⟩] 9) _ _ L0).trans c3
  generalize w3.alloc (.cells #[.string ⟨#[99, 108, 105, 101, 110, 116]⟩, .string t1, .string t2, .string ⟨#[97, 116]⟩, .string t3, .string ⟨#[58]⟩] 9) = wA at *
  clear c0 c1 c2 HW0
  go_wp2
  clear c3' c3
  go_loopw [4, 26] (fun v i wr => ∃ (k : Nat), k ≤ r.ops.length ∧ i = .int .i64 k ∧ Hid (wr.ownsRow w3.heap.size 9 1 v (reqWs r (r.ops.take k)).length ((reqWs r (r.ops.take k)).map Value.string)) ∧ Hid (Below w3.heap.size w3 wr)) (fun _ i _ => r.ops.length - (intOf i).toNat)
  case atStart => exact ⟨0, Nat.zero_le _, rfl, HO.out, HB.out⟩
  case round =>
    obtain ⟨k, hk, rfl, HOk, HBk⟩ := hrel
    have HE : Hid (Ext w wr) := Ew3.out.trans HBk.out
    by_cases hlt : k < r.ops.length
    · obtain ⟨z, hzk⟩ : ∃ z, r.ops[k]? = some z := ⟨_, List.getElem?_eq_getElem hlt⟩
      obtain ⟨b', off', rfl, hb', hN'⟩ := HX.out (by omega)
      obtain ⟨d0, d1, d2, d3, d4, d5⟩ := hN'.ext hb' HE.out k z hzk
      have hlt' : b' < wr.heap.size := Nat.lt_of_lt_of_le hb' HE.out.size
      have HZt : Hid (∀ wx : World, Ext w wx → Calls Tryz.prog 9 #[oagg z] wx fun e w' => e = .returned (tr (0, Opr.text z)) ∧ Ext wx w') := HOT.out z (List.mem_of_getElem? hzk)
      have hsn : reqWs r (r.ops.take (k + 1)) = reqWs r (r.ops.take k) ++ (if k = 0 then [mkB (Opr.text z)] else [mkB [59], mkB (Opr.text z)]) := by
        have ht : r.ops.take (k + 1) = r.ops.take k ++ [z] := by
          have h2 : r.ops[k] = z := by have := (List.getElem?_eq_some_iff.1 hzk).2; exact this
          rw [List.take_succ_eq_append_getElem hlt, h2]
        rw [ht, reqWs_snoc, List.length_take, Nat.min_eq_left (by omega)]
      have hle : (reqWs r (r.ops.take k)).length ≤ 20 := by
        have := reqWs_len r (r.ops.take k); rw [List.length_take] at this; omega
      have HSn : Hid _ := hsn
      have hal := alloc_cell
      clear hzk hN' hsn
      unfold tr oagg at HZt
      simp only at HZt
      obtain ⟨tz, htz⟩ : ∃ tz, tz = mkB (Opr.text z) := ⟨_, rfl⟩
      rw [← htz] at HZt
      rw [← htz] at HSn
      clear htz
      obtain ⟨L, hLL⟩ : ∃ L, L = reqWs r (r.ops.take k) := ⟨_, rfl⟩
      rw [← hLL] at HOk HSn hle
      clear hLL
      have hfd : ∀ W : World, (Instr.field 31 (.agg #[.int .i64 0, .string tz]) 1).run Tryz.prog W = .ok (.string tz) W := fun W => by kernel_rfl
      by_cases hk0 : k = 0
      · subst hk0
        have HSn0 : Hid (reqWs r (r.ops.take (0 + 1)) = L ++ [tz]) := HSn.out
        clear HSn
        simp only [Nat.zero_mul, Nat.add_zero] at d0 d1 d2 d3 d4 d5
        go_wp2_with (first | (go_at_call 9; refine (HZt.out _ (HE.out.alloc _)).mono ?_; rintro e w5 ⟨rfl, hb5⟩; have X5 : Hid (Ext (wr.alloc (.cells #[.int .i64 z.kind, .string z.path, .int .i64 z.data, .int .i64 z.version, .bool z.seq, .bool z.own] 26)) w5) := hb5; clear hb5; have HB5 : Hid (Below w3.heap.size w3 w5) := (HBk.out.alloc HBk.out.size _).trans (Below.mono X5.out (by have := HBk.out.size; simp; omega)); have HO5 : Hid (w5.ownsRow w3.heap.size 9 1 u4 L.length (L.map Value.string)) := ownsRow_ext (HOk.out.alloc _) X5.out; clear X5 hal d0 d1 d2 d3 d4 d5) | (at_builtin; go_must (refine wpList_append_own _ rfl _ _ 63 rfl w3.heap.size 9 i0 (.string ByteArray.empty) 1 16 Tryz.underlying63 hi hz0 hz1 hz2 rfl (by decide) _ L.length _ rfl (HO5.out.alloc _) ⟨w5.heap.size, 0, none⟩ 1 1 [.string tz] rfl rfl (cell_one_new _ _ _) (fun x hx => by simp at hx; subst hx; rfl) (by unfold maxLen; omega) (by omega) (by have := HB5.out.size; simp; omega) ?_; intro v6 w6 hown6 hgrow6 hnil6)))
        have HO6 : Hid (w6.ownsRow w3.heap.size 9 1 v6 (reqWs r (r.ops.take (0 + 1))).length ((reqWs r (r.ops.take (0 + 1))).map Value.string)) := by
          show w6.ownsRow _ _ _ _ _ _
          rw [HSn0.out, List.length_append, List.map_append]; exact hown6
        have HB6 : Hid (Below w3.heap.size w3 w6) := (HB5.out.alloc HB5.out.size _).grown hgrow6 (by have := HB5.out.size; simp; omega) (fun q hq => (HO5.out.lt q hq).1)
        exact ⟨⟨0 + 1, by omega, by go_num, HO6, HB6⟩, by simp [intOf]; omega⟩
      · have hkp : (0 : Int) < (k : Int) := by omega
        have HSn0 : Hid (reqWs r (r.ops.take (k + 1)) = L ++ [mkB [59], tz]) := HSn.out.trans (by rw [if_neg hk0])
        have hvl := HOk.out.lt
        clear HSn hk0
        have TK : True := trivial
        go_wp2_with (first | (at_builtin; clear TK; go_must (refine wpList_append_own _ rfl _ _ 63 rfl w3.heap.size 9 i0 (.string ByteArray.empty) 1 16 Tryz.underlying63 hi hz0 hz1 hz2 rfl (by decide) _ L.length _ rfl ((HOk.out.alloc _).alloc _) ⟨wr.heap.size + 1, 0, none⟩ 1 1 [.string (mkB [59])] rfl rfl (cell_one_at _ _ _ _ (by simp)) (fun x hx => by simp at hx; subst hx; rfl) (by unfold maxLen; omega) (by omega) (by have := HBk.out.size; simp; omega) ?_; intro v4 w4 hown4 hgrow4 hnil4); have HB4 : Hid (Below w3.heap.size w3 w4) := ((HBk.out.alloc HBk.out.size _).alloc (by have := HBk.out.size; simp; omega) _).grown hgrow4 (by have := HBk.out.size; simp; omega) (fun q hq => (hvl q hq).1); have HO4 : Hid (w4.ownsRow w3.heap.size 9 1 v4 (L.length + 1) (L.map Value.string ++ [.string (mkB [59])])) := hown4; have y0 : w4.cell? ⟨wr.heap.size, 0, none⟩ = some (.int .i64 z.kind) := hgrow4.cell (a := ⟨wr.heap.size, 0, none⟩) (by simp) (fun e => by have := (hvl wr.heap.size e.symm).2; omega); have y1 : w4.cell? ⟨wr.heap.size, 1, none⟩ = some (.string z.path) := hgrow4.cell (a := ⟨wr.heap.size, 1, none⟩) (by simp) (fun e => by have := (hvl wr.heap.size e.symm).2; omega); have y2 : w4.cell? ⟨wr.heap.size, 2, none⟩ = some (.int .i64 z.data) := hgrow4.cell (a := ⟨wr.heap.size, 2, none⟩) (by simp) (fun e => by have := (hvl wr.heap.size e.symm).2; omega); have y3 : w4.cell? ⟨wr.heap.size, 3, none⟩ = some (.int .i64 z.version) := hgrow4.cell (a := ⟨wr.heap.size, 3, none⟩) (by simp) (fun e => by have := (hvl wr.heap.size e.symm).2; omega); have y4 : w4.cell? ⟨wr.heap.size, 4, none⟩ = some (.bool z.seq) := hgrow4.cell (a := ⟨wr.heap.size, 4, none⟩) (by simp) (fun e => by have := (hvl wr.heap.size e.symm).2; omega); have y5 : w4.cell? ⟨wr.heap.size, 5, none⟩ = some (.bool z.own) := hgrow4.cell (a := ⟨wr.heap.size, 5, none⟩) (by simp) (fun e => by have := (hvl wr.heap.size e.symm).2; omega); clear hown4 hgrow4 hnil4 hal d0 d1 d2 d3 d4 d5) | (go_at_call 9; refine (HZt.out _ (Ew3.out.trans HB4.out)).mono ?_; rintro e w5 ⟨rfl, hb5⟩; have X5 : Hid (Ext w4 w5) := hb5; clear hb5; have HB5 : Hid (Below w3.heap.size w3 w5) := HB4.out.trans (Below.mono X5.out HB4.out.size); have HO5 : Hid (w5.ownsRow w3.heap.size 9 1 v4 (L.length + 1) (L.map Value.string ++ [.string (mkB [59])])) := ownsRow_ext HO4.out X5.out; clear X5) | (at_builtin; go_must (refine wpList_append_own _ rfl _ _ 63 rfl w3.heap.size 9 i0 (.string ByteArray.empty) 1 16 Tryz.underlying63 hi hz0 hz1 hz2 rfl (by decide) _ (L.length + 1) _ rfl (HO5.out.alloc _) ⟨w5.heap.size, 0, none⟩ 1 1 [.string tz] rfl rfl (cell_one_new _ _ _) (fun x hx => by simp at hx; subst hx; rfl) (by unfold maxLen; omega) (by omega) (by have := HB5.out.size; simp; omega) ?_; intro v6 w6 hown6 hgrow6 hnil6)))
        have HO6 : Hid (w6.ownsRow w3.heap.size 9 1 v6 (reqWs r (r.ops.take (k + 1))).length ((reqWs r (r.ops.take (k + 1))).map Value.string)) := by
          show w6.ownsRow _ _ _ _ _ _
          rw [HSn0.out, show (L ++ [mkB [59], tz]).length = L.length + 1 + 1 from by simp, show (L ++ [mkB [59], tz]).map Value.string = L.map Value.string ++ [.string (mkB [59])] ++ [.string tz] from by simp]; exact hown6
        have HB6 : Hid (Below w3.heap.size w3 w6) := (HB5.out.alloc HB5.out.size _).grown hgrow6 (by have := HB5.out.size; simp; omega) (fun q hq => (HO5.out.lt q hq).1)
        exact ⟨⟨k + 1, by omega, by go_num, HO6, HB6⟩, by simp [intOf]; omega⟩
    · have hke : k = r.ops.length := by omega
      subst hke
      have hle : (reqWs r r.ops).length ≤ 20 := by have := reqWs_len r r.ops; omega
      have HO7 : Hid (wr.ownsRow w3.heap.size 9 1 u4 (reqWs r r.ops).length ((reqWs r r.ops).map Value.string)) := by have := HOk.out; rw [List.take_length] at this; exact this
      have hne : reqWs r r.ops ≠ [] := by simp [reqWs, Opr.headW]
      obtain ⟨g6, off6, cap6, rfl, hq1, hq2, hq3⟩ := txts_of_owns HO7.out hne
      have HJ : Hid (Calls Tryz.prog 33 #[.slice (some ⟨g6, off6, none⟩) (reqWs r r.ops).length cap6, .string ⟨#[32]⟩] wr fun e w' => e = .returned (.string (mkB (Opr.textR r))) ∧ Ext wr w') := by
        have h := joinStr2_any g6 off6 cap6 (reqWs r r.ops) wr hq3 (World.block_lt_of_cell? wr _ (hq3 0 (mkB [99, 108, 105, 101, 110, 116]) rfl)) hq1 HSh.out hle
        rw [reqWs_data] at h
        exact h
      have HTb : Hid (TBoxAt wr (bx + 1) 0 ⟨#[]⟩) := TXw3.out.ext HBk.out
      clear hq1 hq2 hq3 hne HOk HO7
      generalize (reqWs r r.ops).length = nl at *
      go_wp2_with fail
      refine HJ.out.mono ?_
      rintro e w7 ⟨rfl, hb⟩
      have HB7 : Hid (Ext w w7) := HE.out.trans hb
      obtain ⟨t0, t1', t2', t3', t4'⟩ := HTb.out.ext hb
      clear hb
      have hbx := HBX.out
      go_wp2
      exact bodyPost_ret (v := tr (0, Opr.textR r)) (by simp [results, Tryz.results14, go_sem, tr, *]) rfl ⟨rfl, (HB7.out.setCell (by simp; omega) _).setCell (by simp; omega) _⟩
end Go.Proofs.YtdfokjjkhabneaaGreatDoor
