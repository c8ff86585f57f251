/- the specification's MayPropose. -/
import Derived.Test.YtecgjdgfjgcmdaaGreatRmRP6a
import Derived.Test.YtecgjdgfjgcmdaaGreatRmRP6b
import Derived.Test.YtecgjdgfjgcmdaaGreatRmGF
import Derived.Test.YtecgjdgfjgcmdaaGreatRmTk
namespace Go.Proofs.YtecgjdgfjgcmdaaGreat
open Go.RowKit
theorem Msg.start_cases {f : Int} {ms : List Ms} {r : Rp} (hrz : Msg.repF f ms r = 0) (hv : Msg.inV r = true) : (r.start < 0 ∧ Msg.startL ms r.view r.start = []) ∨ (∃ (q : Nat) (z : Ms), r.start = q ∧ ms[q]? = some z ∧ Msg.startL ms r.view r.start = Msg.picks ms z.refs) := by
 have h := Msg.startB_inV hrz
 rw [hv] at h
 by_cases h0 : r.view = 0
 ·left
  rw [h0, Msg.startB_zero] at h
  have h1 : r.start = -1 := of_decide_eq_true h
  exact ⟨by omega, by unfold Msg.startL; rw [if_pos h0]⟩
 ·right
  unfold Msg.startB at h
  rw [if_neg h0] at h
  have h1 : Msg.newAt f ms r.start = true := by
   cases h2 : Msg.newAt f ms r.start
   ·rw [h2] at h; cases h
   ·rfl
  cases hn : Msg.nth ms r.start with
  | none => rw [Msg.newAt_none hn] at h1; cases h1
  | some z =>
   have hn2 := hn
   unfold Msg.nth at hn2
   split at hn2
   ·rename_i hp
    exact ⟨r.start.toNat, z, by omega, hn2, by unfold Msg.startL; rw [if_neg h0, Msg.refsAt_some hn]⟩
   ·cases hn2

set_option linter.unusedSimpArgs false in
set_option maxHeartbeats 8000000 in
set_option maxRecDepth 100000 in
theorem l11Propose_any (f : Int) (v : Value) (ms : List Ms) (r : Rp) (b : Nat) (slot value : Int) (w : World) (hS : MSlice w v ms) (hR : RpAt w b r) (hrep : Msg.repC f ms r = 0) :
  Calls Tryz.prog 48 #[.int .i64 f, v, .pointer (some ⟨b, 0, none⟩), .int .i64 slot, .int .i64 value] w fun e w' => e = .returned (.int .i64 (Msg.propC f ms r slot value)) ∧ Ext w w' := by
 have hled := Msg.repC_led hrep
 obtain ⟨hf0, hf1, hml⟩ := Msg.ledger_zero hled
 have hrf := Msg.repF_zero (by rw [← Msg.repC_ok hled]; exact hrep)
 have hrz : Msg.repF f ms r = 0 := by rw [← Msg.repC_ok hled]; exact hrep
 have hst0 := Msg.startB_inV (f := f) (ms := ms) hrz
 have hvw := hrf.2.1
 have HSC0 : Hid (Msg.inV r = true → (r.start < 0 ∧ Msg.startL ms r.view r.start = []) ∨ (∃ (q : Nat) (z : Ms), r.start = q ∧ ms[q]? = some z ∧ Msg.startL ms r.view r.start = Msg.picks ms z.refs)) := fun hv => Msg.start_cases hrz hv
 have HB0 : Hid (RpAt w b r) := hR
 have HS : Hid (∀ W', Ext w W' → W'.cell? ⟨b, 0, none⟩ = some (.int .i64 r.id) ∧ W'.cell? ⟨b, 1, none⟩ = some (.int .i64 r.view)) := fun W' he => ⟨(hR.ext he).2.1, (hR.ext he).2.2.1⟩
 have HG : Hid (∀ bb, Msg.rangeB slot value = bb → ∀ wx, Calls Tryz.prog 101 #[.int .i64 slot, .int .i64 value] wx fun e w' => e = .returned (.bool bb) ∧ w' = wx) := fun bb h wx => by have q := l11Slot_any slot value wx; rw [h] at q; exact q
 have HV : Hid (∀ bb, Msg.inV r = bb → ∀ wx, Ext w wx → Calls Tryz.prog 102 #[.pointer (some ⟨b, 0, none⟩)] wx fun e w' => e = .returned (.bool bb) ∧ w' = wx) := fun bb h wx he => l11In_any r b bb wx (hR.ext he) h
 have J3 : Hid (∀ wx, Calls Tryz.prog 65 #[.int .i64 f, .int .i64 r.view] wx fun e w' => e = .returned (.int .i64 (Msg.primary f r.view)) ∧ w' = wx) := fun wx => l9Primary_any f r.view wx hf0 hf1 hvw.1 hvw.2
 have HT0 : Hid (∀ s bb, ¬ s = 0 → Msg.slotB (Msg.saidL ms r 1) s = bb → ∀ wx, Ext w wx → Calls Tryz.prog 103 #[v, .pointer (some ⟨b, 0, none⟩), .int .i64 1, .int .i64 s, .int .i64 (-1)] wx fun e w' => e = .returned (.bool bb) ∧ Ext wx w') := fun s bb hs h wx he => by
  have q := l11SentS_any v ms r b 1 s wx (hS.ext he) (hR.ext he) hs
  rw [Msg.sent_slot hs, h] at q; exact q
 have HTv : Hid (0 ≤ value → ∀ bb, Msg.valB (Msg.saidL ms r 1) value = bb → ∀ wx, Ext w wx → Calls Tryz.prog 103 #[v, .pointer (some ⟨b, 0, none⟩), .int .i64 1, .int .i64 0, .int .i64 value] wx fun e w' => e = .returned (.bool bb) ∧ Ext wx w') := fun hv bb h wx he => by
  have q := l11SentV_any v ms r b 1 value wx (hS.ext he) (hR.ext he) hv
  rw [Msg.sent_val hv, h] at q; exact q
 have HLv : Hid (1 ≤ slot → slot ≤ 30 → r.start < (ms.length : Int) → ∀ bb, Msg.valueB ms r.start slot value = bb → ∀ wx, Ext w wx → Calls Tryz.prog 104 #[v, .int .i64 r.start, .int .i64 slot, .int .i64 value] wx fun e w' => e = .returned (.bool bb) ∧ Ext wx w') := fun h1 h2 hst bb h wx he => by
  have q := l10Value_any f v ms r.start slot value wx (hS.ext he) hled hst h1 h2
  rw [h] at q; exact q
 have HPk : Hid (∀ (q : Nat) (z : Ms), ms[q]? = some z → ∀ u wx, Ext w wx → ISlice wx u z.refs → Calls Tryz.prog 105 #[v, u] wx fun e w' => ∃ vo g, e = .returned vo ∧ wx.heap.size ≤ g ∧ Led.IOwn w' vo g (Msg.picks ms z.refs) ∧ Ext wx w') := fun q z h2 u wx he hi => l10Pick_any f v ms u z.refs wx (hS.ext he) hi hled (Msg.refs_zero hled h2) (by have h4 := (Msg.lists_zero (Msg.ledger_all hled z (List.mem_of_getElem? h2))).2.1; have h3 := Msg.ledger_zero hled; omega)
 obtain ⟨hbl, x0, x1, x2, x3⟩ := hR
 obtain ⟨a, cap, rfl, hlc, hcm, hx9⟩ := hS
 have HX : Hid (0 < ms.length → ∃ b off, a = some ⟨b, off, none⟩ ∧ b < w.heap.size ∧ MsAt w b off ms) := hx9
 unfold maxLen at hcm
 clear hx9 hf0 hf1 hml hled hrep hrf hrz hvw
 cases h1 : Msg.rangeB slot value with
 | false =>
  have HR : Hid (Msg.propC f ms r slot value = 3) := by show _ = _; unfold Msg.propC; rw [h1, if_pos rfl]
  have J1 : Hid _ := HG.out false h1
  clear h1 HG HV HT0 HTv HLv HPk HX HSC0 HS J3 hst0
  go_enter Tryz.func48, Tryz.ntmps48
  go_wp2_with fail
  refine (J1.out _).mono ?_
  rintro e w9 ⟨rfl, hw⟩
  rw [hw]
  clear hw w9
  go_wp2
  go_ret
  exact ⟨ret_int HR.out.symm, Ext.refl _⟩
 | true =>
  have J1 : Hid _ := HG.out true h1
  have hrng := h1
  unfold Msg.rangeB at hrng
  simp only [Bool.and_eq_true, decide_eq_true_eq] at hrng
  obtain ⟨⟨hsl1, hsl2⟩, hv0, hv1⟩ := hrng
  have hwr : IntKind.i64.wrap (slot - 1) = slot - 1 := by rw [IntKind.wrap_i64]; omega
  cases h2 : Msg.inV r with
  | false =>
   have HR : Hid (Msg.propC f ms r slot value = 8) := by show _ = _; unfold Msg.propC; rw [h1, if_neg (by decide), if_pos (by rw [h2]; rfl)]
   have J2 : Hid _ := HV.out false h2
   clear h1 h2 HG HV HT0 HTv HLv HPk HX HSC0 hst0 J3
   go_enter Tryz.func48, Tryz.ntmps48
   go_wp2_with fail
   refine (J1.out _).mono ?_
   rintro e w9 ⟨rfl, hw⟩
   rw [hw]
   clear hw w9
   go_wp2
   clear x0 x1 x2 x3
   refine wp_region_held_drew (S := (fun W' : World => W'.cell? ⟨b, 0, none⟩ = some (.int .i64 r.id) ∧ W'.cell? ⟨b, 1, none⟩ = some (.int .i64 r.view))) (by kernel_rfl) (HS.out _ ((Ext.refl _).drew)) (fun hHeld => ?_)
   refine tk 0 ⟨some 15, .move (.tmp 2), 72, oz280, #[], none⟩ ?_
   refine wpAnyH_ready (rs := [1]) (by kernel_rfl) (by simp) (AllReadyH.cons rfl (fun K hK => ?_) AllReadyH.nil)
   go_simp
   refine (J2.out _ ((Ext.refl _).drew)).mono ?_
   rintro e w9 ⟨rfl, hw⟩
   rw [hw]
   clear hw w9
   refine hK.out _ _ (by exact HS.out _ ((Ext.refl _).drew)) (fun hHeld1 => ?_)
   clear hK K
   refine tk 2 ⟨some 17, .unOp .not 4 (.tmp 16), 4, oz280, #[⟨1, .data⟩], none⟩ ?_
   refine tk 3 ⟨some 18, .move (.tmp 17), 4, oz280, oy281, none⟩ ?_
   refine tn 4 ⟨some 19, .move (.tmp 2), 72, oz280, #[⟨3, .guard⟩], some (3, false)⟩ ?_
   refine tn 5 ⟨some 20, .nilCheck (.tmp 19), 0, oz280, oy282, some (3, false)⟩ ?_
   refine tn 6 ⟨some 21, .fieldAddr 29 (.tmp 20) 0, 0, oz280, oy283, some (3, false)⟩ ?_
   refine tn 7 ⟨some 22, .load 2 (.tmp 21), 2, oz280, oy284, some (3, false)⟩ ?_
   refine tn 8 ⟨some 23, .move (.tmp 0), 2, oz280, #[⟨3, .guard⟩], some (3, false)⟩ ?_
   refine tn 9 ⟨some 24, .move (.tmp 2), 72, oz280, #[⟨3, .guard⟩], some (3, false)⟩ ?_
   refine tn 10 ⟨some 25, .nilCheck (.tmp 24), 0, oz280, oy285, some (3, false)⟩ ?_
   refine tn 11 ⟨some 26, .fieldAddr 29 (.tmp 25) 1, 0, oz280, oy286, some (3, false)⟩ ?_
   refine tn 12 ⟨some 27, .load 2 (.tmp 26), 2, oz280, oy287, some (3, false)⟩ ?_
   refine tn 13 ⟨some 28, .call ⟨.value (.func 65), #[.tmp 23, .tmp 27], #[2, 2]⟩, 2, oz280, #[⟨8, .data⟩, ⟨12, .data⟩, ⟨3, .chain⟩, ⟨3, .guard⟩], some (3, false)⟩ ?_
   refine tn 14 ⟨some 29, .binOp .neq 2 (.tmp 22) (.tmp 28) 2, 4, oz280, oy288, some (3, false)⟩ ?_
   refine tk 15 ⟨some 30, .pick (.tmp 18) (.const (.bool true)) (.tmp 29), 4, oz280, oy289, none⟩ ?_
   refine wpAnyH_done (by kernel_rfl) ?_ _
   go_wp2
   go_ret
   exact ⟨ret_int HR.out.symm, (Ext.refl _).drew⟩
  | true =>
   have J2 : Hid _ := HV.out true h2
   have HSC : Hid _ := HSC0.out h2
   rw [h2] at hst0
   have hstl : r.start < (ms.length : Int) := by
    rcases HSC.out with ⟨h, -⟩ | ⟨q, z, h, hz, -⟩
    ·omega
    ·have := (List.getElem?_eq_some_iff.1 hz).1; omega
   have HLv1 : Hid _ := HLv.out hsl1 hsl2 hstl
   have HTv1 : Hid _ := HTv.out hv0
   have HVB : Hid (Msg.valueB ms r.start slot value = Msg.holdB (Msg.startL ms r.view r.start) slot value) := Msg.holdB_is hst0 hsl1 hv0
   clear HG HV HLv HTv HSC0 hst0 hstl
   cases h3 : decide (r.id = Msg.primary f r.view) with
   | false =>
    have HR : Hid (Msg.propC f ms r slot value = 8) := by show _ = _; unfold Msg.propC; rw [h1, if_neg (by decide), if_pos (by rw [h2, h3]; rfl)]
    have g3 : (r.id != Msg.primary f r.view) = true := by have := of_decide_eq_false h3; simpa using this
    clear h1 h2 h3 HT0 HTv1 HLv1 HPk HX HSC HVB
    generalize Msg.primary f r.view = pv at *
    go_enter Tryz.func48, Tryz.ntmps48
    go_wp2_with fail
    refine (J1.out _).mono ?_
    rintro e w9 ⟨rfl, hw⟩
    rw [hw]
    clear hw w9
    go_wp2
    clear x0 x1 x2 x3
    refine wp_region_held_drew (S := (fun W' : World => W'.cell? ⟨b, 0, none⟩ = some (.int .i64 r.id) ∧ W'.cell? ⟨b, 1, none⟩ = some (.int .i64 r.view))) (by kernel_rfl) (HS.out _ ((Ext.refl _).drew)) (fun hHeld => ?_)
    refine tk 0 ⟨some 15, .move (.tmp 2), 72, oz280, #[], none⟩ ?_
    refine wpAnyH_ready (rs := [1]) (by kernel_rfl) (by simp) (AllReadyH.cons rfl (fun K hK => ?_) AllReadyH.nil)
    go_simp
    refine (J2.out _ ((Ext.refl _).drew)).mono ?_
    rintro e w9 ⟨rfl, hw⟩
    rw [hw]
    clear hw w9
    refine hK.out _ _ (by exact HS.out _ ((Ext.refl _).drew)) (fun hHeld1 => ?_)
    clear hK K
    refine tk 2 ⟨some 17, .unOp .not 4 (.tmp 16), 4, oz280, #[⟨1, .data⟩], none⟩ ?_
    refine tk 3 ⟨some 18, .move (.tmp 17), 4, oz280, oy281, none⟩ ?_
    refine tk 4 ⟨some 19, .move (.tmp 2), 72, oz280, #[⟨3, .guard⟩], some (3, false)⟩ ?_
    refine tk 5 ⟨some 20, .nilCheck (.tmp 19), 0, oz280, oy282, some (3, false)⟩ ?_
    refine tk 6 ⟨some 21, .fieldAddr 29 (.tmp 20) 0, 0, oz280, oy283, some (3, false)⟩ ?_
    refine tk 7 ⟨some 22, .load 2 (.tmp 21), 2, oz280, oy284, some (3, false)⟩ ?_
    refine tk 8 ⟨some 23, .move (.tmp 0), 2, oz280, #[⟨3, .guard⟩], some (3, false)⟩ ?_
    refine tk 9 ⟨some 24, .move (.tmp 2), 72, oz280, #[⟨3, .guard⟩], some (3, false)⟩ ?_
    refine tk 10 ⟨some 25, .nilCheck (.tmp 24), 0, oz280, oy285, some (3, false)⟩ ?_
    refine tk 11 ⟨some 26, .fieldAddr 29 (.tmp 25) 1, 0, oz280, oy286, some (3, false)⟩ ?_
    refine tk 12 ⟨some 27, .load 2 (.tmp 26), 2, oz280, oy287, some (3, false)⟩ ?_
    refine wpAnyH_ready (rs := [13]) (by kernel_rfl) (by simp) (AllReadyH.cons rfl (fun K hK => ?_) AllReadyH.nil)
    go_simp
    refine (J3.out _).mono ?_
    rintro e w9 ⟨rfl, hw⟩
    rw [hw]
    clear hw w9
    refine hK.out _ _ (by exact HS.out _ ((Ext.refl _).drew)) (fun hHeld2 => ?_)
    clear hK K
    refine tk 14 ⟨some 29, .binOp .neq 2 (.tmp 22) (.tmp 28) 2, 4, oz280, oy288, some (3, false)⟩ ?_
    refine tk 15 ⟨some 30, .pick (.tmp 18) (.const (.bool true)) (.tmp 29), 4, oz280, oy289, none⟩ ?_
    refine wpAnyH_done (by kernel_rfl) ?_ _
    go_wp2
    go_ret
    exact ⟨ret_int HR.out.symm, (Ext.refl _).drew⟩
   | true =>
    have g3 : (r.id != Msg.primary f r.view) = false := by have := of_decide_eq_true h3; simpa using this
    cases h5 : Msg.slotB (Msg.saidL ms r 1) slot with
    | true =>
     have HR : Hid (Msg.propC f ms r slot value = 6) := by show _ = _; unfold Msg.propC; rw [h1, h2, h3, h5, if_neg (by decide), if_neg (by decide), if_pos rfl]
     have HA : Hid _ := HT0.out slot true (by omega) h5
     clear h1 h2 h3 h5 HT0 HTv1 HLv1 HPk HX HSC HVB
     generalize Msg.primary f r.view = pv at *
     go_enter Tryz.func48, Tryz.ntmps48
     go_wp2_with fail
     refine (J1.out _).mono ?_
     rintro e w9 ⟨rfl, hw⟩
     rw [hw]
     clear hw w9
     go_wp2
     clear x0 x1 x2 x3
     refine wp_region_held_drew (S := (fun W' : World => W'.cell? ⟨b, 0, none⟩ = some (.int .i64 r.id) ∧ W'.cell? ⟨b, 1, none⟩ = some (.int .i64 r.view))) (by kernel_rfl) (HS.out _ ((Ext.refl _).drew)) (fun hHeld => ?_)
     refine tk 0 ⟨some 15, .move (.tmp 2), 72, oz280, #[], none⟩ ?_
     refine wpAnyH_ready (rs := [1]) (by kernel_rfl) (by simp) (AllReadyH.cons rfl (fun K hK => ?_) AllReadyH.nil)
     go_simp
     refine (J2.out _ ((Ext.refl _).drew)).mono ?_
     rintro e w9 ⟨rfl, hw⟩
     rw [hw]
     clear hw w9
     refine hK.out _ _ (by exact HS.out _ ((Ext.refl _).drew)) (fun hHeld1 => ?_)
     clear hK K
     refine tk 2 ⟨some 17, .unOp .not 4 (.tmp 16), 4, oz280, #[⟨1, .data⟩], none⟩ ?_
     refine tk 3 ⟨some 18, .move (.tmp 17), 4, oz280, oy281, none⟩ ?_
     refine tk 4 ⟨some 19, .move (.tmp 2), 72, oz280, #[⟨3, .guard⟩], some (3, false)⟩ ?_
     refine tk 5 ⟨some 20, .nilCheck (.tmp 19), 0, oz280, oy282, some (3, false)⟩ ?_
     refine tk 6 ⟨some 21, .fieldAddr 29 (.tmp 20) 0, 0, oz280, oy283, some (3, false)⟩ ?_
     refine tk 7 ⟨some 22, .load 2 (.tmp 21), 2, oz280, oy284, some (3, false)⟩ ?_
     refine tk 8 ⟨some 23, .move (.tmp 0), 2, oz280, #[⟨3, .guard⟩], some (3, false)⟩ ?_
     refine tk 9 ⟨some 24, .move (.tmp 2), 72, oz280, #[⟨3, .guard⟩], some (3, false)⟩ ?_
     refine tk 10 ⟨some 25, .nilCheck (.tmp 24), 0, oz280, oy285, some (3, false)⟩ ?_
     refine tk 11 ⟨some 26, .fieldAddr 29 (.tmp 25) 1, 0, oz280, oy286, some (3, false)⟩ ?_
     refine tk 12 ⟨some 27, .load 2 (.tmp 26), 2, oz280, oy287, some (3, false)⟩ ?_
     refine wpAnyH_ready (rs := [13]) (by kernel_rfl) (by simp) (AllReadyH.cons rfl (fun K hK => ?_) AllReadyH.nil)
     go_simp
     refine (J3.out _).mono ?_
     rintro e w9 ⟨rfl, hw⟩
     rw [hw]
     clear hw w9
     refine hK.out _ _ (by exact HS.out _ ((Ext.refl _).drew)) (fun hHeld2 => ?_)
     clear hK K
     refine tk 14 ⟨some 29, .binOp .neq 2 (.tmp 22) (.tmp 28) 2, 4, oz280, oy288, some (3, false)⟩ ?_
     refine tk 15 ⟨some 30, .pick (.tmp 18) (.const (.bool true)) (.tmp 29), 4, oz280, oy289, none⟩ ?_
     refine wpAnyH_done (by kernel_rfl) ?_ _
     go_wp2_with fail
     refine (HA.out _ ((Ext.refl _).drew)).mono ?_
     rintro e w1 ⟨rfl, hb⟩
     have HB1 : Hid (RpAt w1 b r) := HB0.out.ext (((Ext.refl _).drew).trans hb)
     have HE1 : Hid (Ext w w1) := ((Ext.refl _).drew).trans hb
     clear HB0
     clear hb
     go_wp2
     go_ret
     exact ⟨ret_int HR.out.symm, HE1.out⟩
    | false =>
     have HA : Hid _ := HT0.out slot false (by omega) h5
     have HPC : Hid (∀ P, ¬ (1 < slot ∧ Msg.slotB (Msg.saidL ms r 1) (slot - 1) = false) → (if Msg.holdB (Msg.startL ms r.view r.start) slot value = false then (1 : Int) else if slot ≤ ((Msg.startL ms r.view r.start).length : Int) then 0 else if Msg.valB (Msg.saidL ms r 1) value = true then 1 else 0) = P → Msg.propC f ms r slot value = P) := fun P hq he => by
      rw [← he]; unfold Msg.propC; rw [h1, h2, h3, h5, if_neg (by decide), if_neg (by decide), if_neg (by decide), if_neg hq]
     by_cases h6 : 1 < slot
     ·cases h7 : Msg.slotB (Msg.saidL ms r 1) (slot - 1) with
      | false =>
       have HR : Hid (Msg.propC f ms r slot value = 4) := by show _ = _; unfold Msg.propC; rw [h1, h2, h3, h5, if_neg (by decide), if_neg (by decide), if_neg (by decide), if_pos ⟨h6, h7⟩]
       have HK : Hid _ := HT0.out (slot - 1) false (by omega) h7
       clear h1 h2 h3 h5 h7 HT0 HTv1 HLv1 HPk HX HSC HVB HPC
       generalize Msg.primary f r.view = pv at *
       go_enter Tryz.func48, Tryz.ntmps48
       go_wp2_with fail
       refine (J1.out _).mono ?_
       rintro e w9 ⟨rfl, hw⟩
       rw [hw]
       clear hw w9
       go_wp2
       clear x0 x1 x2 x3
       refine wp_region_held_drew (S := (fun W' : World => W'.cell? ⟨b, 0, none⟩ = some (.int .i64 r.id) ∧ W'.cell? ⟨b, 1, none⟩ = some (.int .i64 r.view))) (by kernel_rfl) (HS.out _ ((Ext.refl _).drew)) (fun hHeld => ?_)
       refine tk 0 ⟨some 15, .move (.tmp 2), 72, oz280, #[], none⟩ ?_
       refine wpAnyH_ready (rs := [1]) (by kernel_rfl) (by simp) (AllReadyH.cons rfl (fun K hK => ?_) AllReadyH.nil)
       go_simp
       refine (J2.out _ ((Ext.refl _).drew)).mono ?_
       rintro e w9 ⟨rfl, hw⟩
       rw [hw]
       clear hw w9
       refine hK.out _ _ (by exact HS.out _ ((Ext.refl _).drew)) (fun hHeld1 => ?_)
       clear hK K
       refine tk 2 ⟨some 17, .unOp .not 4 (.tmp 16), 4, oz280, #[⟨1, .data⟩], none⟩ ?_
       refine tk 3 ⟨some 18, .move (.tmp 17), 4, oz280, oy281, none⟩ ?_
       refine tk 4 ⟨some 19, .move (.tmp 2), 72, oz280, #[⟨3, .guard⟩], some (3, false)⟩ ?_
       refine tk 5 ⟨some 20, .nilCheck (.tmp 19), 0, oz280, oy282, some (3, false)⟩ ?_
       refine tk 6 ⟨some 21, .fieldAddr 29 (.tmp 20) 0, 0, oz280, oy283, some (3, false)⟩ ?_
       refine tk 7 ⟨some 22, .load 2 (.tmp 21), 2, oz280, oy284, some (3, false)⟩ ?_
       refine tk 8 ⟨some 23, .move (.tmp 0), 2, oz280, #[⟨3, .guard⟩], some (3, false)⟩ ?_
       refine tk 9 ⟨some 24, .move (.tmp 2), 72, oz280, #[⟨3, .guard⟩], some (3, false)⟩ ?_
       refine tk 10 ⟨some 25, .nilCheck (.tmp 24), 0, oz280, oy285, some (3, false)⟩ ?_
       refine tk 11 ⟨some 26, .fieldAddr 29 (.tmp 25) 1, 0, oz280, oy286, some (3, false)⟩ ?_
       refine tk 12 ⟨some 27, .load 2 (.tmp 26), 2, oz280, oy287, some (3, false)⟩ ?_
       refine wpAnyH_ready (rs := [13]) (by kernel_rfl) (by simp) (AllReadyH.cons rfl (fun K hK => ?_) AllReadyH.nil)
       go_simp
       refine (J3.out _).mono ?_
       rintro e w9 ⟨rfl, hw⟩
       rw [hw]
       clear hw w9
       refine hK.out _ _ (by exact HS.out _ ((Ext.refl _).drew)) (fun hHeld2 => ?_)
       clear hK K
       refine tk 14 ⟨some 29, .binOp .neq 2 (.tmp 22) (.tmp 28) 2, 4, oz280, oy288, some (3, false)⟩ ?_
       refine tk 15 ⟨some 30, .pick (.tmp 18) (.const (.bool true)) (.tmp 29), 4, oz280, oy289, none⟩ ?_
       refine wpAnyH_done (by kernel_rfl) ?_ _
       go_wp2_with fail
       refine (HA.out _ ((Ext.refl _).drew)).mono ?_
       rintro e w1 ⟨rfl, hb⟩
       have HB1 : Hid (RpAt w1 b r) := HB0.out.ext (((Ext.refl _).drew).trans hb)
       have HE1 : Hid (Ext w w1) := ((Ext.refl _).drew).trans hb
       clear HB0
       clear hb
       go_wp2_with fail
       refine (HK.out _ HE1.out).mono ?_
       rintro e w2 ⟨rfl, hb⟩
       have HB2 : Hid (RpAt w2 b r) := HB1.out.ext hb
       have HE2 : Hid (Ext w w2) := HE1.out.trans hb
       clear hb HB1 HE1
       go_wp2
       go_ret
       exact ⟨ret_int HR.out.symm, HE2.out⟩
      | true =>
       have HK : Hid _ := HT0.out (slot - 1) true (by omega) h7
       have HPD : Hid _ := fun P => HPC.out P (fun h => by have q := h.2; rw [h7] at q; cases q)
       clear h1 h2 h3 h5 h7 HT0 HPC
       generalize Msg.primary f r.view = pv at *
       cases h8 : Msg.holdB (Msg.startL ms r.view r.start) slot value with
       | false =>
        have HR : Hid (Msg.propC f ms r slot value = 1) := HPD.out 1 (by rw [h8, if_pos rfl])
        have HL : Hid _ := HLv1.out false (HVB.out.trans h8)
        clear h8 HLv1 HTv1 HPD HPk HX HSC
        go_enter Tryz.func48, Tryz.ntmps48
        go_wp2_with fail
        refine (J1.out _).mono ?_
        rintro e w9 ⟨rfl, hw⟩
        rw [hw]
        clear hw w9
        go_wp2
        clear x0 x1 x2 x3
        refine wp_region_held_drew (S := (fun W' : World => W'.cell? ⟨b, 0, none⟩ = some (.int .i64 r.id) ∧ W'.cell? ⟨b, 1, none⟩ = some (.int .i64 r.view))) (by kernel_rfl) (HS.out _ ((Ext.refl _).drew)) (fun hHeld => ?_)
        refine tk 0 ⟨some 15, .move (.tmp 2), 72, oz280, #[], none⟩ ?_
        refine wpAnyH_ready (rs := [1]) (by kernel_rfl) (by simp) (AllReadyH.cons rfl (fun K hK => ?_) AllReadyH.nil)
        go_simp
        refine (J2.out _ ((Ext.refl _).drew)).mono ?_
        rintro e w9 ⟨rfl, hw⟩
        rw [hw]
        clear hw w9
        refine hK.out _ _ (by exact HS.out _ ((Ext.refl _).drew)) (fun hHeld1 => ?_)
        clear hK K
        refine tk 2 ⟨some 17, .unOp .not 4 (.tmp 16), 4, oz280, #[⟨1, .data⟩], none⟩ ?_
        refine tk 3 ⟨some 18, .move (.tmp 17), 4, oz280, oy281, none⟩ ?_
        refine tk 4 ⟨some 19, .move (.tmp 2), 72, oz280, #[⟨3, .guard⟩], some (3, false)⟩ ?_
        refine tk 5 ⟨some 20, .nilCheck (.tmp 19), 0, oz280, oy282, some (3, false)⟩ ?_
        refine tk 6 ⟨some 21, .fieldAddr 29 (.tmp 20) 0, 0, oz280, oy283, some (3, false)⟩ ?_
        refine tk 7 ⟨some 22, .load 2 (.tmp 21), 2, oz280, oy284, some (3, false)⟩ ?_
        refine tk 8 ⟨some 23, .move (.tmp 0), 2, oz280, #[⟨3, .guard⟩], some (3, false)⟩ ?_
        refine tk 9 ⟨some 24, .move (.tmp 2), 72, oz280, #[⟨3, .guard⟩], some (3, false)⟩ ?_
        refine tk 10 ⟨some 25, .nilCheck (.tmp 24), 0, oz280, oy285, some (3, false)⟩ ?_
        refine tk 11 ⟨some 26, .fieldAddr 29 (.tmp 25) 1, 0, oz280, oy286, some (3, false)⟩ ?_
        refine tk 12 ⟨some 27, .load 2 (.tmp 26), 2, oz280, oy287, some (3, false)⟩ ?_
        refine wpAnyH_ready (rs := [13]) (by kernel_rfl) (by simp) (AllReadyH.cons rfl (fun K hK => ?_) AllReadyH.nil)
        go_simp
        refine (J3.out _).mono ?_
        rintro e w9 ⟨rfl, hw⟩
        rw [hw]
        clear hw w9
        refine hK.out _ _ (by exact HS.out _ ((Ext.refl _).drew)) (fun hHeld2 => ?_)
        clear hK K
        refine tk 14 ⟨some 29, .binOp .neq 2 (.tmp 22) (.tmp 28) 2, 4, oz280, oy288, some (3, false)⟩ ?_
        refine tk 15 ⟨some 30, .pick (.tmp 18) (.const (.bool true)) (.tmp 29), 4, oz280, oy289, none⟩ ?_
        refine wpAnyH_done (by kernel_rfl) ?_ _
        go_wp2_with fail
        refine (HA.out _ ((Ext.refl _).drew)).mono ?_
        rintro e w1 ⟨rfl, hb⟩
        have HB1 : Hid (RpAt w1 b r) := HB0.out.ext (((Ext.refl _).drew).trans hb)
        have HE1 : Hid (Ext w w1) := ((Ext.refl _).drew).trans hb
        clear HB0
        clear hb
        go_wp2_with fail
        refine (HK.out _ HE1.out).mono ?_
        rintro e w2 ⟨rfl, hb⟩
        have HB2 : Hid (RpAt w2 b r) := HB1.out.ext hb
        have HE2 : Hid (Ext w w2) := HE1.out.trans hb
        clear hb HB1 HE1
        obtain ⟨-, x0, x1, x2, x3⟩ := HB2.out
        go_wp2_with fail
        refine (HL.out _ HE2.out).mono ?_
        rintro e w3 ⟨rfl, hb⟩
        have HB3 : Hid (RpAt w3 b r) := HB2.out.ext hb
        have HE3 : Hid (Ext w w3) := HE2.out.trans hb
        clear hb HB2 HE2 x0 x1 x2 x3
        go_wp2
        go_ret
        exact ⟨ret_int HR.out.symm, HE3.out⟩
       | true =>
        have HL : Hid _ := HLv1.out true (HVB.out.trans h8)
        rcases HSC.out with ⟨hs0, hsl⟩ | ⟨q, z, hq, hz, hsl⟩
        ·have hst : ¬ 0 ≤ r.start := by omega
         have hnl : ¬ slot ≤ ((Msg.startL ms r.view r.start).length : Int) := by rw [hsl]; simp; omega
         cases h10 : Msg.valB (Msg.saidL ms r 1) value with
         | true =>
          have HR : Hid (Msg.propC f ms r slot value = 1) := HPD.out 1 (by rw [h8, if_neg (by decide), if_neg hnl, h10, if_pos rfl])
          have HW : Hid _ := HTv1.out true h10
          clear h8 h10 hs0 hsl hnl HLv1 HTv1 HPD HPk HX HSC
          go_enter Tryz.func48, Tryz.ntmps48
          go_wp2_with fail
          refine (J1.out _).mono ?_
          rintro e w9 ⟨rfl, hw⟩
          rw [hw]
          clear hw w9
          go_wp2
          clear x0 x1 x2 x3
          refine wp_region_held_drew (S := (fun W' : World => W'.cell? ⟨b, 0, none⟩ = some (.int .i64 r.id) ∧ W'.cell? ⟨b, 1, none⟩ = some (.int .i64 r.view))) (by kernel_rfl) (HS.out _ ((Ext.refl _).drew)) (fun hHeld => ?_)
          refine tk 0 ⟨some 15, .move (.tmp 2), 72, oz280, #[], none⟩ ?_
          refine wpAnyH_ready (rs := [1]) (by kernel_rfl) (by simp) (AllReadyH.cons rfl (fun K hK => ?_) AllReadyH.nil)
          go_simp
          refine (J2.out _ ((Ext.refl _).drew)).mono ?_
          rintro e w9 ⟨rfl, hw⟩
          rw [hw]
          clear hw w9
          refine hK.out _ _ (by exact HS.out _ ((Ext.refl _).drew)) (fun hHeld1 => ?_)
          clear hK K
          refine tk 2 ⟨some 17, .unOp .not 4 (.tmp 16), 4, oz280, #[⟨1, .data⟩], none⟩ ?_
          refine tk 3 ⟨some 18, .move (.tmp 17), 4, oz280, oy281, none⟩ ?_
          refine tk 4 ⟨some 19, .move (.tmp 2), 72, oz280, #[⟨3, .guard⟩], some (3, false)⟩ ?_
          refine tk 5 ⟨some 20, .nilCheck (.tmp 19), 0, oz280, oy282, some (3, false)⟩ ?_
          refine tk 6 ⟨some 21, .fieldAddr 29 (.tmp 20) 0, 0, oz280, oy283, some (3, false)⟩ ?_
          refine tk 7 ⟨some 22, .load 2 (.tmp 21), 2, oz280, oy284, some (3, false)⟩ ?_
          refine tk 8 ⟨some 23, .move (.tmp 0), 2, oz280, #[⟨3, .guard⟩], some (3, false)⟩ ?_
          refine tk 9 ⟨some 24, .move (.tmp 2), 72, oz280, #[⟨3, .guard⟩], some (3, false)⟩ ?_
          refine tk 10 ⟨some 25, .nilCheck (.tmp 24), 0, oz280, oy285, some (3, false)⟩ ?_
          refine tk 11 ⟨some 26, .fieldAddr 29 (.tmp 25) 1, 0, oz280, oy286, some (3, false)⟩ ?_
          refine tk 12 ⟨some 27, .load 2 (.tmp 26), 2, oz280, oy287, some (3, false)⟩ ?_
          refine wpAnyH_ready (rs := [13]) (by kernel_rfl) (by simp) (AllReadyH.cons rfl (fun K hK => ?_) AllReadyH.nil)
          go_simp
          refine (J3.out _).mono ?_
          rintro e w9 ⟨rfl, hw⟩
          rw [hw]
          clear hw w9
          refine hK.out _ _ (by exact HS.out _ ((Ext.refl _).drew)) (fun hHeld2 => ?_)
          clear hK K
          refine tk 14 ⟨some 29, .binOp .neq 2 (.tmp 22) (.tmp 28) 2, 4, oz280, oy288, some (3, false)⟩ ?_
          refine tk 15 ⟨some 30, .pick (.tmp 18) (.const (.bool true)) (.tmp 29), 4, oz280, oy289, none⟩ ?_
          refine wpAnyH_done (by kernel_rfl) ?_ _
          go_wp2_with fail
          refine (HA.out _ ((Ext.refl _).drew)).mono ?_
          rintro e w1 ⟨rfl, hb⟩
          have HB1 : Hid (RpAt w1 b r) := HB0.out.ext (((Ext.refl _).drew).trans hb)
          have HE1 : Hid (Ext w w1) := ((Ext.refl _).drew).trans hb
          clear HB0
          clear hb
          go_wp2_with fail
          refine (HK.out _ HE1.out).mono ?_
          rintro e w2 ⟨rfl, hb⟩
          have HB2 : Hid (RpAt w2 b r) := HB1.out.ext hb
          have HE2 : Hid (Ext w w2) := HE1.out.trans hb
          clear hb HB1 HE1
          obtain ⟨-, x0, x1, x2, x3⟩ := HB2.out
          go_wp2_with fail
          refine (HL.out _ HE2.out).mono ?_
          rintro e w3 ⟨rfl, hb⟩
          have HB3 : Hid (RpAt w3 b r) := HB2.out.ext hb
          have HE3 : Hid (Ext w w3) := HE2.out.trans hb
          clear hb HB2 HE2 x0 x1 x2 x3
          obtain ⟨-, x0, x1, x2, x3⟩ := HB3.out
          go_wp2_with fail
          refine (HW.out _ HE3.out).mono ?_
          rintro e w4 ⟨rfl, hb⟩
          have HB4 : Hid (RpAt w4 b r) := HB3.out.ext hb
          have HE4 : Hid (Ext w w4) := HE3.out.trans hb
          clear hb HB3 HE3
          go_wp2
          go_ret
          exact ⟨ret_int HR.out.symm, HE4.out⟩
         | false =>
          have HR : Hid (Msg.propC f ms r slot value = 0) := HPD.out 0 (by rw [h8, if_neg (by decide), if_neg hnl, h10, if_neg (by decide)])
          have HW : Hid _ := HTv1.out false h10
          clear h8 h10 hs0 hsl hnl HLv1 HTv1 HPD HPk HX HSC
          go_enter Tryz.func48, Tryz.ntmps48
          go_wp2_with fail
          refine (J1.out _).mono ?_
          rintro e w9 ⟨rfl, hw⟩
          rw [hw]
          clear hw w9
          go_wp2
          clear x0 x1 x2 x3
          refine wp_region_held_drew (S := (fun W' : World => W'.cell? ⟨b, 0, none⟩ = some (.int .i64 r.id) ∧ W'.cell? ⟨b, 1, none⟩ = some (.int .i64 r.view))) (by kernel_rfl) (HS.out _ ((Ext.refl _).drew)) (fun hHeld => ?_)
          refine tk 0 ⟨some 15, .move (.tmp 2), 72, oz280, #[], none⟩ ?_
          refine wpAnyH_ready (rs := [1]) (by kernel_rfl) (by simp) (AllReadyH.cons rfl (fun K hK => ?_) AllReadyH.nil)
          go_simp
          refine (J2.out _ ((Ext.refl _).drew)).mono ?_
          rintro e w9 ⟨rfl, hw⟩
          rw [hw]
          clear hw w9
          refine hK.out _ _ (by exact HS.out _ ((Ext.refl _).drew)) (fun hHeld1 => ?_)
          clear hK K
          refine tk 2 ⟨some 17, .unOp .not 4 (.tmp 16), 4, oz280, #[⟨1, .data⟩], none⟩ ?_
          refine tk 3 ⟨some 18, .move (.tmp 17), 4, oz280, oy281, none⟩ ?_
          refine tk 4 ⟨some 19, .move (.tmp 2), 72, oz280, #[⟨3, .guard⟩], some (3, false)⟩ ?_
          refine tk 5 ⟨some 20, .nilCheck (.tmp 19), 0, oz280, oy282, some (3, false)⟩ ?_
          refine tk 6 ⟨some 21, .fieldAddr 29 (.tmp 20) 0, 0, oz280, oy283, some (3, false)⟩ ?_
          refine tk 7 ⟨some 22, .load 2 (.tmp 21), 2, oz280, oy284, some (3, false)⟩ ?_
          refine tk 8 ⟨some 23, .move (.tmp 0), 2, oz280, #[⟨3, .guard⟩], some (3, false)⟩ ?_
          refine tk 9 ⟨some 24, .move (.tmp 2), 72, oz280, #[⟨3, .guard⟩], some (3, false)⟩ ?_
          refine tk 10 ⟨some 25, .nilCheck (.tmp 24), 0, oz280, oy285, some (3, false)⟩ ?_
          refine tk 11 ⟨some 26, .fieldAddr 29 (.tmp 25) 1, 0, oz280, oy286, some (3, false)⟩ ?_
          refine tk 12 ⟨some 27, .load 2 (.tmp 26), 2, oz280, oy287, some (3, false)⟩ ?_
          refine wpAnyH_ready (rs := [13]) (by kernel_rfl) (by simp) (AllReadyH.cons rfl (fun K hK => ?_) AllReadyH.nil)
          go_simp
          refine (J3.out _).mono ?_
          rintro e w9 ⟨rfl, hw⟩
          rw [hw]
          clear hw w9
          refine hK.out _ _ (by exact HS.out _ ((Ext.refl _).drew)) (fun hHeld2 => ?_)
          clear hK K
          refine tk 14 ⟨some 29, .binOp .neq 2 (.tmp 22) (.tmp 28) 2, 4, oz280, oy288, some (3, false)⟩ ?_
          refine tk 15 ⟨some 30, .pick (.tmp 18) (.const (.bool true)) (.tmp 29), 4, oz280, oy289, none⟩ ?_
          refine wpAnyH_done (by kernel_rfl) ?_ _
          go_wp2_with fail
          refine (HA.out _ ((Ext.refl _).drew)).mono ?_
          rintro e w1 ⟨rfl, hb⟩
          have HB1 : Hid (RpAt w1 b r) := HB0.out.ext (((Ext.refl _).drew).trans hb)
          have HE1 : Hid (Ext w w1) := ((Ext.refl _).drew).trans hb
          clear HB0
          clear hb
          go_wp2_with fail
          refine (HK.out _ HE1.out).mono ?_
          rintro e w2 ⟨rfl, hb⟩
          have HB2 : Hid (RpAt w2 b r) := HB1.out.ext hb
          have HE2 : Hid (Ext w w2) := HE1.out.trans hb
          clear hb HB1 HE1
          obtain ⟨-, x0, x1, x2, x3⟩ := HB2.out
          go_wp2_with fail
          refine (HL.out _ HE2.out).mono ?_
          rintro e w3 ⟨rfl, hb⟩
          have HB3 : Hid (RpAt w3 b r) := HB2.out.ext hb
          have HE3 : Hid (Ext w w3) := HE2.out.trans hb
          clear hb HB2 HE2 x0 x1 x2 x3
          obtain ⟨-, x0, x1, x2, x3⟩ := HB3.out
          go_wp2_with fail
          refine (HW.out _ HE3.out).mono ?_
          rintro e w4 ⟨rfl, hb⟩
          have HB4 : Hid (RpAt w4 b r) := HB3.out.ext hb
          have HE4 : Hid (Ext w w4) := HE3.out.trans hb
          clear hb HB3 HE3
          go_wp2
          go_ret
          exact ⟨ret_int HR.out.symm, HE4.out⟩
        ·have HPk1 : Hid _ := HPk.out q z hz
         obtain ⟨b1, off, rfl, hb1, hN⟩ := HX.out (by have := (List.getElem?_eq_some_iff.1 hz).1; omega)
         have HMz : Hid (b1 < w.heap.size ∧ MAt w b1 (off + q * 7) z) := ⟨hb1, hN q z hz⟩
         have hql : q < ms.length := (List.getElem?_eq_some_iff.1 hz).1
         have HQ : Hid (r.start = (q : Int)) := hq
         rw [hsl] at HPD
         by_cases h9 : slot ≤ ((Msg.picks ms z.refs).length : Int)
         ·have HR : Hid (Msg.propC f ms r slot value = 0) := HPD.out 0 (by rw [← hsl, h8, if_neg (by decide), hsl, if_pos h9])
          clear h8 hsl hq hz hN hb1 HLv1 HTv1 HPD HPk HX HSC
          generalize Msg.picks ms z.refs = LL at *
          go_enter Tryz.func48, Tryz.ntmps48
          go_wp2_with fail
          refine (J1.out _).mono ?_
          rintro e w9 ⟨rfl, hw⟩
          rw [hw]
          clear hw w9
          go_wp2
          clear x0 x1 x2 x3
          refine wp_region_held_drew (S := (fun W' : World => W'.cell? ⟨b, 0, none⟩ = some (.int .i64 r.id) ∧ W'.cell? ⟨b, 1, none⟩ = some (.int .i64 r.view))) (by kernel_rfl) (HS.out _ ((Ext.refl _).drew)) (fun hHeld => ?_)
          refine tk 0 ⟨some 15, .move (.tmp 2), 72, oz280, #[], none⟩ ?_
          refine wpAnyH_ready (rs := [1]) (by kernel_rfl) (by simp) (AllReadyH.cons rfl (fun K hK => ?_) AllReadyH.nil)
          go_simp
          refine (J2.out _ ((Ext.refl _).drew)).mono ?_
          rintro e w9 ⟨rfl, hw⟩
          rw [hw]
          clear hw w9
          refine hK.out _ _ (by exact HS.out _ ((Ext.refl _).drew)) (fun hHeld1 => ?_)
          clear hK K
          refine tk 2 ⟨some 17, .unOp .not 4 (.tmp 16), 4, oz280, #[⟨1, .data⟩], none⟩ ?_
          refine tk 3 ⟨some 18, .move (.tmp 17), 4, oz280, oy281, none⟩ ?_
          refine tk 4 ⟨some 19, .move (.tmp 2), 72, oz280, #[⟨3, .guard⟩], some (3, false)⟩ ?_
          refine tk 5 ⟨some 20, .nilCheck (.tmp 19), 0, oz280, oy282, some (3, false)⟩ ?_
          refine tk 6 ⟨some 21, .fieldAddr 29 (.tmp 20) 0, 0, oz280, oy283, some (3, false)⟩ ?_
          refine tk 7 ⟨some 22, .load 2 (.tmp 21), 2, oz280, oy284, some (3, false)⟩ ?_
          refine tk 8 ⟨some 23, .move (.tmp 0), 2, oz280, #[⟨3, .guard⟩], some (3, false)⟩ ?_
          refine tk 9 ⟨some 24, .move (.tmp 2), 72, oz280, #[⟨3, .guard⟩], some (3, false)⟩ ?_
          refine tk 10 ⟨some 25, .nilCheck (.tmp 24), 0, oz280, oy285, some (3, false)⟩ ?_
          refine tk 11 ⟨some 26, .fieldAddr 29 (.tmp 25) 1, 0, oz280, oy286, some (3, false)⟩ ?_
          refine tk 12 ⟨some 27, .load 2 (.tmp 26), 2, oz280, oy287, some (3, false)⟩ ?_
          refine wpAnyH_ready (rs := [13]) (by kernel_rfl) (by simp) (AllReadyH.cons rfl (fun K hK => ?_) AllReadyH.nil)
          go_simp
          refine (J3.out _).mono ?_
          rintro e w9 ⟨rfl, hw⟩
          rw [hw]
          clear hw w9
          refine hK.out _ _ (by exact HS.out _ ((Ext.refl _).drew)) (fun hHeld2 => ?_)
          clear hK K
          refine tk 14 ⟨some 29, .binOp .neq 2 (.tmp 22) (.tmp 28) 2, 4, oz280, oy288, some (3, false)⟩ ?_
          refine tk 15 ⟨some 30, .pick (.tmp 18) (.const (.bool true)) (.tmp 29), 4, oz280, oy289, none⟩ ?_
          refine wpAnyH_done (by kernel_rfl) ?_ _
          go_wp2_with fail
          refine (HA.out _ ((Ext.refl _).drew)).mono ?_
          rintro e w1 ⟨rfl, hb⟩
          have HB1 : Hid (RpAt w1 b r) := HB0.out.ext (((Ext.refl _).drew).trans hb)
          have HE1 : Hid (Ext w w1) := ((Ext.refl _).drew).trans hb
          clear HB0
          clear hb
          go_wp2_with fail
          refine (HK.out _ HE1.out).mono ?_
          rintro e w2 ⟨rfl, hb⟩
          have HB2 : Hid (RpAt w2 b r) := HB1.out.ext hb
          have HE2 : Hid (Ext w w2) := HE1.out.trans hb
          clear hb HB1 HE1
          obtain ⟨-, x0, x1, x2, x3⟩ := HB2.out
          go_wp2_with fail
          refine (HL.out _ HE2.out).mono ?_
          rintro e w3 ⟨rfl, hb⟩
          have HB3 : Hid (RpAt w3 b r) := HB2.out.ext hb
          have HE3 : Hid (Ext w w3) := HE2.out.trans hb
          clear hb HB2 HE2 x0 x1 x2 x3
          obtain ⟨-, x0, x1, x2, x3⟩ := HB3.out
          rw [HQ.out] at x2
          obtain ⟨vz, uz, ⟨-, -, -, -, -, -, d6⟩, hLz⟩ := HMz.out.2.ext HMz.out.1 HE3.out
          have HIr : Hid (ISlice w3 uz z.refs) := hLz.2
          obtain ⟨-, ⟨ar, cr, rfl, -, -, -⟩⟩ := hLz
          go_wp2_with fail
          refine (HPk1.out _ _ HE3.out HIr.out).mono ?_
          rintro e w4 ⟨v2, g2, rfl, -, hO2, hb⟩
          have HE4 : Hid (Ext w w4) := HE3.out.trans hb
          have HB4 : Hid (RpAt w4 b r) := HB3.out.ext hb
          obtain ⟨a2, c2, rfl, -⟩ := hO2.slice
          clear hb hO2 d6 x0 x1 x2 x3 HIr HB3 HE3
          go_wp2
          go_ret
          exact ⟨ret_int HR.out.symm, HE4.out⟩
         ·cases h10 : Msg.valB (Msg.saidL ms r 1) value with
          | true =>
           have HR : Hid (Msg.propC f ms r slot value = 1) := HPD.out 1 (by rw [← hsl, h8, if_neg (by decide), hsl, if_neg h9, h10, if_pos rfl])
           have HW : Hid _ := HTv1.out true h10
           clear h8 h10 hsl hq hz hN hb1 HLv1 HTv1 HPD HPk HX HSC
           generalize Msg.picks ms z.refs = LL at *
           go_enter Tryz.func48, Tryz.ntmps48
           go_wp2_with fail
           refine (J1.out _).mono ?_
           rintro e w9 ⟨rfl, hw⟩
           rw [hw]
           clear hw w9
           go_wp2
           clear x0 x1 x2 x3
           refine wp_region_held_drew (S := (fun W' : World => W'.cell? ⟨b, 0, none⟩ = some (.int .i64 r.id) ∧ W'.cell? ⟨b, 1, none⟩ = some (.int .i64 r.view))) (by kernel_rfl) (HS.out _ ((Ext.refl _).drew)) (fun hHeld => ?_)
           refine tk 0 ⟨some 15, .move (.tmp 2), 72, oz280, #[], none⟩ ?_
           refine wpAnyH_ready (rs := [1]) (by kernel_rfl) (by simp) (AllReadyH.cons rfl (fun K hK => ?_) AllReadyH.nil)
           go_simp
           refine (J2.out _ ((Ext.refl _).drew)).mono ?_
           rintro e w9 ⟨rfl, hw⟩
           rw [hw]
           clear hw w9
           refine hK.out _ _ (by exact HS.out _ ((Ext.refl _).drew)) (fun hHeld1 => ?_)
           clear hK K
           refine tk 2 ⟨some 17, .unOp .not 4 (.tmp 16), 4, oz280, #[⟨1, .data⟩], none⟩ ?_
           refine tk 3 ⟨some 18, .move (.tmp 17), 4, oz280, oy281, none⟩ ?_
           refine tk 4 ⟨some 19, .move (.tmp 2), 72, oz280, #[⟨3, .guard⟩], some (3, false)⟩ ?_
           refine tk 5 ⟨some 20, .nilCheck (.tmp 19), 0, oz280, oy282, some (3, false)⟩ ?_
           refine tk 6 ⟨some 21, .fieldAddr 29 (.tmp 20) 0, 0, oz280, oy283, some (3, false)⟩ ?_
           refine tk 7 ⟨some 22, .load 2 (.tmp 21), 2, oz280, oy284, some (3, false)⟩ ?_
           refine tk 8 ⟨some 23, .move (.tmp 0), 2, oz280, #[⟨3, .guard⟩], some (3, false)⟩ ?_
           refine tk 9 ⟨some 24, .move (.tmp 2), 72, oz280, #[⟨3, .guard⟩], some (3, false)⟩ ?_
           refine tk 10 ⟨some 25, .nilCheck (.tmp 24), 0, oz280, oy285, some (3, false)⟩ ?_
           refine tk 11 ⟨some 26, .fieldAddr 29 (.tmp 25) 1, 0, oz280, oy286, some (3, false)⟩ ?_
           refine tk 12 ⟨some 27, .load 2 (.tmp 26), 2, oz280, oy287, some (3, false)⟩ ?_
           refine wpAnyH_ready (rs := [13]) (by kernel_rfl) (by simp) (AllReadyH.cons rfl (fun K hK => ?_) AllReadyH.nil)
           go_simp
           refine (J3.out _).mono ?_
           rintro e w9 ⟨rfl, hw⟩
           rw [hw]
           clear hw w9
           refine hK.out _ _ (by exact HS.out _ ((Ext.refl _).drew)) (fun hHeld2 => ?_)
           clear hK K
           refine tk 14 ⟨some 29, .binOp .neq 2 (.tmp 22) (.tmp 28) 2, 4, oz280, oy288, some (3, false)⟩ ?_
           refine tk 15 ⟨some 30, .pick (.tmp 18) (.const (.bool true)) (.tmp 29), 4, oz280, oy289, none⟩ ?_
           refine wpAnyH_done (by kernel_rfl) ?_ _
           go_wp2_with fail
           refine (HA.out _ ((Ext.refl _).drew)).mono ?_
           rintro e w1 ⟨rfl, hb⟩
           have HB1 : Hid (RpAt w1 b r) := HB0.out.ext (((Ext.refl _).drew).trans hb)
           have HE1 : Hid (Ext w w1) := ((Ext.refl _).drew).trans hb
           clear HB0
           clear hb
           go_wp2_with fail
           refine (HK.out _ HE1.out).mono ?_
           rintro e w2 ⟨rfl, hb⟩
           have HB2 : Hid (RpAt w2 b r) := HB1.out.ext hb
           have HE2 : Hid (Ext w w2) := HE1.out.trans hb
           clear hb HB1 HE1
           obtain ⟨-, x0, x1, x2, x3⟩ := HB2.out
           go_wp2_with fail
           refine (HL.out _ HE2.out).mono ?_
           rintro e w3 ⟨rfl, hb⟩
           have HB3 : Hid (RpAt w3 b r) := HB2.out.ext hb
           have HE3 : Hid (Ext w w3) := HE2.out.trans hb
           clear hb HB2 HE2 x0 x1 x2 x3
           obtain ⟨-, x0, x1, x2, x3⟩ := HB3.out
           rw [HQ.out] at x2
           obtain ⟨vz, uz, ⟨-, -, -, -, -, -, d6⟩, hLz⟩ := HMz.out.2.ext HMz.out.1 HE3.out
           have HIr : Hid (ISlice w3 uz z.refs) := hLz.2
           obtain ⟨-, ⟨ar, cr, rfl, -, -, -⟩⟩ := hLz
           go_wp2_with fail
           refine (HPk1.out _ _ HE3.out HIr.out).mono ?_
           rintro e w4 ⟨v2, g2, rfl, -, hO2, hb⟩
           have HE4 : Hid (Ext w w4) := HE3.out.trans hb
           have HB4 : Hid (RpAt w4 b r) := HB3.out.ext hb
           obtain ⟨a2, c2, rfl, -⟩ := hO2.slice
           clear hb hO2 d6 x0 x1 x2 x3 HIr HB3 HE3
           go_wp2_with fail
           refine (HW.out _ HE4.out).mono ?_
           rintro e w5 ⟨rfl, hb⟩
           have HB5 : Hid (RpAt w5 b r) := HB4.out.ext hb
           have HE5 : Hid (Ext w w5) := HE4.out.trans hb
           clear hb HB4 HE4
           go_wp2
           go_ret
           exact ⟨ret_int HR.out.symm, HE5.out⟩
          | false =>
           have HR : Hid (Msg.propC f ms r slot value = 0) := HPD.out 0 (by rw [← hsl, h8, if_neg (by decide), hsl, if_neg h9, h10, if_neg (by decide)])
           have HW : Hid _ := HTv1.out false h10
           clear h8 h10 hsl hq hz hN hb1 HLv1 HTv1 HPD HPk HX HSC
           generalize Msg.picks ms z.refs = LL at *
           go_enter Tryz.func48, Tryz.ntmps48
           go_wp2_with fail
           refine (J1.out _).mono ?_
           rintro e w9 ⟨rfl, hw⟩
           rw [hw]
           clear hw w9
           go_wp2
           clear x0 x1 x2 x3
           refine wp_region_held_drew (S := (fun W' : World => W'.cell? ⟨b, 0, none⟩ = some (.int .i64 r.id) ∧ W'.cell? ⟨b, 1, none⟩ = some (.int .i64 r.view))) (by kernel_rfl) (HS.out _ ((Ext.refl _).drew)) (fun hHeld => ?_)
           refine tk 0 ⟨some 15, .move (.tmp 2), 72, oz280, #[], none⟩ ?_
           refine wpAnyH_ready (rs := [1]) (by kernel_rfl) (by simp) (AllReadyH.cons rfl (fun K hK => ?_) AllReadyH.nil)
           go_simp
           refine (J2.out _ ((Ext.refl _).drew)).mono ?_
           rintro e w9 ⟨rfl, hw⟩
           rw [hw]
           clear hw w9
           refine hK.out _ _ (by exact HS.out _ ((Ext.refl _).drew)) (fun hHeld1 => ?_)
           clear hK K
           refine tk 2 ⟨some 17, .unOp .not 4 (.tmp 16), 4, oz280, #[⟨1, .data⟩], none⟩ ?_
           refine tk 3 ⟨some 18, .move (.tmp 17), 4, oz280, oy281, none⟩ ?_
           refine tk 4 ⟨some 19, .move (.tmp 2), 72, oz280, #[⟨3, .guard⟩], some (3, false)⟩ ?_
           refine tk 5 ⟨some 20, .nilCheck (.tmp 19), 0, oz280, oy282, some (3, false)⟩ ?_
           refine tk 6 ⟨some 21, .fieldAddr 29 (.tmp 20) 0, 0, oz280, oy283, some (3, false)⟩ ?_
           refine tk 7 ⟨some 22, .load 2 (.tmp 21), 2, oz280, oy284, some (3, false)⟩ ?_
           refine tk 8 ⟨some 23, .move (.tmp 0), 2, oz280, #[⟨3, .guard⟩], some (3, false)⟩ ?_
           refine tk 9 ⟨some 24, .move (.tmp 2), 72, oz280, #[⟨3, .guard⟩], some (3, false)⟩ ?_
           refine tk 10 ⟨some 25, .nilCheck (.tmp 24), 0, oz280, oy285, some (3, false)⟩ ?_
           refine tk 11 ⟨some 26, .fieldAddr 29 (.tmp 25) 1, 0, oz280, oy286, some (3, false)⟩ ?_
           refine tk 12 ⟨some 27, .load 2 (.tmp 26), 2, oz280, oy287, some (3, false)⟩ ?_
           refine wpAnyH_ready (rs := [13]) (by kernel_rfl) (by simp) (AllReadyH.cons rfl (fun K hK => ?_) AllReadyH.nil)
           go_simp
           refine (J3.out _).mono ?_
           rintro e w9 ⟨rfl, hw⟩
           rw [hw]
           clear hw w9
           refine hK.out _ _ (by exact HS.out _ ((Ext.refl _).drew)) (fun hHeld2 => ?_)
           clear hK K
           refine tk 14 ⟨some 29, .binOp .neq 2 (.tmp 22) (.tmp 28) 2, 4, oz280, oy288, some (3, false)⟩ ?_
           refine tk 15 ⟨some 30, .pick (.tmp 18) (.const (.bool true)) (.tmp 29), 4, oz280, oy289, none⟩ ?_
           refine wpAnyH_done (by kernel_rfl) ?_ _
           go_wp2_with fail
           refine (HA.out _ ((Ext.refl _).drew)).mono ?_
           rintro e w1 ⟨rfl, hb⟩
           have HB1 : Hid (RpAt w1 b r) := HB0.out.ext (((Ext.refl _).drew).trans hb)
           have HE1 : Hid (Ext w w1) := ((Ext.refl _).drew).trans hb
           clear HB0
           clear hb
           go_wp2_with fail
           refine (HK.out _ HE1.out).mono ?_
           rintro e w2 ⟨rfl, hb⟩
           have HB2 : Hid (RpAt w2 b r) := HB1.out.ext hb
           have HE2 : Hid (Ext w w2) := HE1.out.trans hb
           clear hb HB1 HE1
           obtain ⟨-, x0, x1, x2, x3⟩ := HB2.out
           go_wp2_with fail
           refine (HL.out _ HE2.out).mono ?_
           rintro e w3 ⟨rfl, hb⟩
           have HB3 : Hid (RpAt w3 b r) := HB2.out.ext hb
           have HE3 : Hid (Ext w w3) := HE2.out.trans hb
           clear hb HB2 HE2 x0 x1 x2 x3
           obtain ⟨-, x0, x1, x2, x3⟩ := HB3.out
           rw [HQ.out] at x2
           obtain ⟨vz, uz, ⟨-, -, -, -, -, -, d6⟩, hLz⟩ := HMz.out.2.ext HMz.out.1 HE3.out
           have HIr : Hid (ISlice w3 uz z.refs) := hLz.2
           obtain ⟨-, ⟨ar, cr, rfl, -, -, -⟩⟩ := hLz
           go_wp2_with fail
           refine (HPk1.out _ _ HE3.out HIr.out).mono ?_
           rintro e w4 ⟨v2, g2, rfl, -, hO2, hb⟩
           have HE4 : Hid (Ext w w4) := HE3.out.trans hb
           have HB4 : Hid (RpAt w4 b r) := HB3.out.ext hb
           obtain ⟨a2, c2, rfl, -⟩ := hO2.slice
           clear hb hO2 d6 x0 x1 x2 x3 HIr HB3 HE3
           go_wp2_with fail
           refine (HW.out _ HE4.out).mono ?_
           rintro e w5 ⟨rfl, hb⟩
           have HB5 : Hid (RpAt w5 b r) := HB4.out.ext hb
           have HE5 : Hid (Ext w w5) := HE4.out.trans hb
           clear hb HB4 HE4
           go_wp2
           go_ret
           exact ⟨ret_int HR.out.symm, HE5.out⟩
     ·have HPD : Hid _ := fun P => HPC.out P (fun h => h6 h.1)
      clear h1 h2 h3 h5 HT0 HPC
      generalize Msg.primary f r.view = pv at *
      cases h8 : Msg.holdB (Msg.startL ms r.view r.start) slot value with
      | false =>
       have HR : Hid (Msg.propC f ms r slot value = 1) := HPD.out 1 (by rw [h8, if_pos rfl])
       have HL : Hid _ := HLv1.out false (HVB.out.trans h8)
       clear h8 HLv1 HTv1 HPD HPk HX HSC
       go_enter Tryz.func48, Tryz.ntmps48
       go_wp2_with fail
       refine (J1.out _).mono ?_
       rintro e w9 ⟨rfl, hw⟩
       rw [hw]
       clear hw w9
       go_wp2
       clear x0 x1 x2 x3
       refine wp_region_held_drew (S := (fun W' : World => W'.cell? ⟨b, 0, none⟩ = some (.int .i64 r.id) ∧ W'.cell? ⟨b, 1, none⟩ = some (.int .i64 r.view))) (by kernel_rfl) (HS.out _ ((Ext.refl _).drew)) (fun hHeld => ?_)
       refine tk 0 ⟨some 15, .move (.tmp 2), 72, oz280, #[], none⟩ ?_
       refine wpAnyH_ready (rs := [1]) (by kernel_rfl) (by simp) (AllReadyH.cons rfl (fun K hK => ?_) AllReadyH.nil)
       go_simp
       refine (J2.out _ ((Ext.refl _).drew)).mono ?_
       rintro e w9 ⟨rfl, hw⟩
       rw [hw]
       clear hw w9
       refine hK.out _ _ (by exact HS.out _ ((Ext.refl _).drew)) (fun hHeld1 => ?_)
       clear hK K
       refine tk 2 ⟨some 17, .unOp .not 4 (.tmp 16), 4, oz280, #[⟨1, .data⟩], none⟩ ?_
       refine tk 3 ⟨some 18, .move (.tmp 17), 4, oz280, oy281, none⟩ ?_
       refine tk 4 ⟨some 19, .move (.tmp 2), 72, oz280, #[⟨3, .guard⟩], some (3, false)⟩ ?_
       refine tk 5 ⟨some 20, .nilCheck (.tmp 19), 0, oz280, oy282, some (3, false)⟩ ?_
       refine tk 6 ⟨some 21, .fieldAddr 29 (.tmp 20) 0, 0, oz280, oy283, some (3, false)⟩ ?_
       refine tk 7 ⟨some 22, .load 2 (.tmp 21), 2, oz280, oy284, some (3, false)⟩ ?_
       refine tk 8 ⟨some 23, .move (.tmp 0), 2, oz280, #[⟨3, .guard⟩], some (3, false)⟩ ?_
       refine tk 9 ⟨some 24, .move (.tmp 2), 72, oz280, #[⟨3, .guard⟩], some (3, false)⟩ ?_
       refine tk 10 ⟨some 25, .nilCheck (.tmp 24), 0, oz280, oy285, some (3, false)⟩ ?_
       refine tk 11 ⟨some 26, .fieldAddr 29 (.tmp 25) 1, 0, oz280, oy286, some (3, false)⟩ ?_
       refine tk 12 ⟨some 27, .load 2 (.tmp 26), 2, oz280, oy287, some (3, false)⟩ ?_
       refine wpAnyH_ready (rs := [13]) (by kernel_rfl) (by simp) (AllReadyH.cons rfl (fun K hK => ?_) AllReadyH.nil)
       go_simp
       refine (J3.out _).mono ?_
       rintro e w9 ⟨rfl, hw⟩
       rw [hw]
       clear hw w9
       refine hK.out _ _ (by exact HS.out _ ((Ext.refl _).drew)) (fun hHeld2 => ?_)
       clear hK K
       refine tk 14 ⟨some 29, .binOp .neq 2 (.tmp 22) (.tmp 28) 2, 4, oz280, oy288, some (3, false)⟩ ?_
       refine tk 15 ⟨some 30, .pick (.tmp 18) (.const (.bool true)) (.tmp 29), 4, oz280, oy289, none⟩ ?_
       refine wpAnyH_done (by kernel_rfl) ?_ _
       go_wp2_with fail
       refine (HA.out _ ((Ext.refl _).drew)).mono ?_
       rintro e w1 ⟨rfl, hb⟩
       have HB1 : Hid (RpAt w1 b r) := HB0.out.ext (((Ext.refl _).drew).trans hb)
       have HE1 : Hid (Ext w w1) := ((Ext.refl _).drew).trans hb
       clear HB0
       clear hb
       obtain ⟨-, x0, x1, x2, x3⟩ := HB1.out
       go_wp2_with fail
       refine (HL.out _ HE1.out).mono ?_
       rintro e w2 ⟨rfl, hb⟩
       have HB2 : Hid (RpAt w2 b r) := HB1.out.ext hb
       have HE2 : Hid (Ext w w2) := HE1.out.trans hb
       clear hb HB1 HE1 x0 x1 x2 x3
       go_wp2
       go_ret
       exact ⟨ret_int HR.out.symm, HE2.out⟩
      | true =>
       have HL : Hid _ := HLv1.out true (HVB.out.trans h8)
       rcases HSC.out with ⟨hs0, hsl⟩ | ⟨q, z, hq, hz, hsl⟩
       ·have hst : ¬ 0 ≤ r.start := by omega
        have hnl : ¬ slot ≤ ((Msg.startL ms r.view r.start).length : Int) := by rw [hsl]; simp; omega
        cases h10 : Msg.valB (Msg.saidL ms r 1) value with
        | true =>
         have HR : Hid (Msg.propC f ms r slot value = 1) := HPD.out 1 (by rw [h8, if_neg (by decide), if_neg hnl, h10, if_pos rfl])
         have HW : Hid _ := HTv1.out true h10
         clear h8 h10 hs0 hsl hnl HLv1 HTv1 HPD HPk HX HSC
         go_enter Tryz.func48, Tryz.ntmps48
         go_wp2_with fail
         refine (J1.out _).mono ?_
         rintro e w9 ⟨rfl, hw⟩
         rw [hw]
         clear hw w9
         go_wp2
         clear x0 x1 x2 x3
         refine wp_region_held_drew (S := (fun W' : World => W'.cell? ⟨b, 0, none⟩ = some (.int .i64 r.id) ∧ W'.cell? ⟨b, 1, none⟩ = some (.int .i64 r.view))) (by kernel_rfl) (HS.out _ ((Ext.refl _).drew)) (fun hHeld => ?_)
         refine tk 0 ⟨some 15, .move (.tmp 2), 72, oz280, #[], none⟩ ?_
         refine wpAnyH_ready (rs := [1]) (by kernel_rfl) (by simp) (AllReadyH.cons rfl (fun K hK => ?_) AllReadyH.nil)
         go_simp
         refine (J2.out _ ((Ext.refl _).drew)).mono ?_
         rintro e w9 ⟨rfl, hw⟩
         rw [hw]
         clear hw w9
         refine hK.out _ _ (by exact HS.out _ ((Ext.refl _).drew)) (fun hHeld1 => ?_)
         clear hK K
         refine tk 2 ⟨some 17, .unOp .not 4 (.tmp 16), 4, oz280, #[⟨1, .data⟩], none⟩ ?_
         refine tk 3 ⟨some 18, .move (.tmp 17), 4, oz280, oy281, none⟩ ?_
         refine tk 4 ⟨some 19, .move (.tmp 2), 72, oz280, #[⟨3, .guard⟩], some (3, false)⟩ ?_
         refine tk 5 ⟨some 20, .nilCheck (.tmp 19), 0, oz280, oy282, some (3, false)⟩ ?_
         refine tk 6 ⟨some 21, .fieldAddr 29 (.tmp 20) 0, 0, oz280, oy283, some (3, false)⟩ ?_
         refine tk 7 ⟨some 22, .load 2 (.tmp 21), 2, oz280, oy284, some (3, false)⟩ ?_
         refine tk 8 ⟨some 23, .move (.tmp 0), 2, oz280, #[⟨3, .guard⟩], some (3, false)⟩ ?_
         refine tk 9 ⟨some 24, .move (.tmp 2), 72, oz280, #[⟨3, .guard⟩], some (3, false)⟩ ?_
         refine tk 10 ⟨some 25, .nilCheck (.tmp 24), 0, oz280, oy285, some (3, false)⟩ ?_
         refine tk 11 ⟨some 26, .fieldAddr 29 (.tmp 25) 1, 0, oz280, oy286, some (3, false)⟩ ?_
         refine tk 12 ⟨some 27, .load 2 (.tmp 26), 2, oz280, oy287, some (3, false)⟩ ?_
         refine wpAnyH_ready (rs := [13]) (by kernel_rfl) (by simp) (AllReadyH.cons rfl (fun K hK => ?_) AllReadyH.nil)
         go_simp
         refine (J3.out _).mono ?_
         rintro e w9 ⟨rfl, hw⟩
         rw [hw]
         clear hw w9
         refine hK.out _ _ (by exact HS.out _ ((Ext.refl _).drew)) (fun hHeld2 => ?_)
         clear hK K
         refine tk 14 ⟨some 29, .binOp .neq 2 (.tmp 22) (.tmp 28) 2, 4, oz280, oy288, some (3, false)⟩ ?_
         refine tk 15 ⟨some 30, .pick (.tmp 18) (.const (.bool true)) (.tmp 29), 4, oz280, oy289, none⟩ ?_
         refine wpAnyH_done (by kernel_rfl) ?_ _
         go_wp2_with fail
         refine (HA.out _ ((Ext.refl _).drew)).mono ?_
         rintro e w1 ⟨rfl, hb⟩
         have HB1 : Hid (RpAt w1 b r) := HB0.out.ext (((Ext.refl _).drew).trans hb)
         have HE1 : Hid (Ext w w1) := ((Ext.refl _).drew).trans hb
         clear HB0
         clear hb
         obtain ⟨-, x0, x1, x2, x3⟩ := HB1.out
         go_wp2_with fail
         refine (HL.out _ HE1.out).mono ?_
         rintro e w2 ⟨rfl, hb⟩
         have HB2 : Hid (RpAt w2 b r) := HB1.out.ext hb
         have HE2 : Hid (Ext w w2) := HE1.out.trans hb
         clear hb HB1 HE1 x0 x1 x2 x3
         obtain ⟨-, x0, x1, x2, x3⟩ := HB2.out
         go_wp2_with fail
         refine (HW.out _ HE2.out).mono ?_
         rintro e w3 ⟨rfl, hb⟩
         have HB3 : Hid (RpAt w3 b r) := HB2.out.ext hb
         have HE3 : Hid (Ext w w3) := HE2.out.trans hb
         clear hb HB2 HE2
         go_wp2
         go_ret
         exact ⟨ret_int HR.out.symm, HE3.out⟩
        | false =>
         have HR : Hid (Msg.propC f ms r slot value = 0) := HPD.out 0 (by rw [h8, if_neg (by decide), if_neg hnl, h10, if_neg (by decide)])
         have HW : Hid _ := HTv1.out false h10
         clear h8 h10 hs0 hsl hnl HLv1 HTv1 HPD HPk HX HSC
         go_enter Tryz.func48, Tryz.ntmps48
         go_wp2_with fail
         refine (J1.out _).mono ?_
         rintro e w9 ⟨rfl, hw⟩
         rw [hw]
         clear hw w9
         go_wp2
         clear x0 x1 x2 x3
         refine wp_region_held_drew (S := (fun W' : World => W'.cell? ⟨b, 0, none⟩ = some (.int .i64 r.id) ∧ W'.cell? ⟨b, 1, none⟩ = some (.int .i64 r.view))) (by kernel_rfl) (HS.out _ ((Ext.refl _).drew)) (fun hHeld => ?_)
         refine tk 0 ⟨some 15, .move (.tmp 2), 72, oz280, #[], none⟩ ?_
         refine wpAnyH_ready (rs := [1]) (by kernel_rfl) (by simp) (AllReadyH.cons rfl (fun K hK => ?_) AllReadyH.nil)
         go_simp
         refine (J2.out _ ((Ext.refl _).drew)).mono ?_
         rintro e w9 ⟨rfl, hw⟩
         rw [hw]
         clear hw w9
         refine hK.out _ _ (by exact HS.out _ ((Ext.refl _).drew)) (fun hHeld1 => ?_)
         clear hK K
         refine tk 2 ⟨some 17, .unOp .not 4 (.tmp 16), 4, oz280, #[⟨1, .data⟩], none⟩ ?_
         refine tk 3 ⟨some 18, .move (.tmp 17), 4, oz280, oy281, none⟩ ?_
         refine tk 4 ⟨some 19, .move (.tmp 2), 72, oz280, #[⟨3, .guard⟩], some (3, false)⟩ ?_
         refine tk 5 ⟨some 20, .nilCheck (.tmp 19), 0, oz280, oy282, some (3, false)⟩ ?_
         refine tk 6 ⟨some 21, .fieldAddr 29 (.tmp 20) 0, 0, oz280, oy283, some (3, false)⟩ ?_
         refine tk 7 ⟨some 22, .load 2 (.tmp 21), 2, oz280, oy284, some (3, false)⟩ ?_
         refine tk 8 ⟨some 23, .move (.tmp 0), 2, oz280, #[⟨3, .guard⟩], some (3, false)⟩ ?_
         refine tk 9 ⟨some 24, .move (.tmp 2), 72, oz280, #[⟨3, .guard⟩], some (3, false)⟩ ?_
         refine tk 10 ⟨some 25, .nilCheck (.tmp 24), 0, oz280, oy285, some (3, false)⟩ ?_
         refine tk 11 ⟨some 26, .fieldAddr 29 (.tmp 25) 1, 0, oz280, oy286, some (3, false)⟩ ?_
         refine tk 12 ⟨some 27, .load 2 (.tmp 26), 2, oz280, oy287, some (3, false)⟩ ?_
         refine wpAnyH_ready (rs := [13]) (by kernel_rfl) (by simp) (AllReadyH.cons rfl (fun K hK => ?_) AllReadyH.nil)
         go_simp
         refine (J3.out _).mono ?_
         rintro e w9 ⟨rfl, hw⟩
         rw [hw]
         clear hw w9
         refine hK.out _ _ (by exact HS.out _ ((Ext.refl _).drew)) (fun hHeld2 => ?_)
         clear hK K
         refine tk 14 ⟨some 29, .binOp .neq 2 (.tmp 22) (.tmp 28) 2, 4, oz280, oy288, some (3, false)⟩ ?_
         refine tk 15 ⟨some 30, .pick (.tmp 18) (.const (.bool true)) (.tmp 29), 4, oz280, oy289, none⟩ ?_
         refine wpAnyH_done (by kernel_rfl) ?_ _
         go_wp2_with fail
         refine (HA.out _ ((Ext.refl _).drew)).mono ?_
         rintro e w1 ⟨rfl, hb⟩
         have HB1 : Hid (RpAt w1 b r) := HB0.out.ext (((Ext.refl _).drew).trans hb)
         have HE1 : Hid (Ext w w1) := ((Ext.refl _).drew).trans hb
         clear HB0
         clear hb
         obtain ⟨-, x0, x1, x2, x3⟩ := HB1.out
         go_wp2_with fail
         refine (HL.out _ HE1.out).mono ?_
         rintro e w2 ⟨rfl, hb⟩
         have HB2 : Hid (RpAt w2 b r) := HB1.out.ext hb
         have HE2 : Hid (Ext w w2) := HE1.out.trans hb
         clear hb HB1 HE1 x0 x1 x2 x3
         obtain ⟨-, x0, x1, x2, x3⟩ := HB2.out
         go_wp2_with fail
         refine (HW.out _ HE2.out).mono ?_
         rintro e w3 ⟨rfl, hb⟩
         have HB3 : Hid (RpAt w3 b r) := HB2.out.ext hb
         have HE3 : Hid (Ext w w3) := HE2.out.trans hb
         clear hb HB2 HE2
         go_wp2
         go_ret
         exact ⟨ret_int HR.out.symm, HE3.out⟩
       ·have HPk1 : Hid _ := HPk.out q z hz
        obtain ⟨b1, off, rfl, hb1, hN⟩ := HX.out (by have := (List.getElem?_eq_some_iff.1 hz).1; omega)
        have HMz : Hid (b1 < w.heap.size ∧ MAt w b1 (off + q * 7) z) := ⟨hb1, hN q z hz⟩
        have hql : q < ms.length := (List.getElem?_eq_some_iff.1 hz).1
        have HQ : Hid (r.start = (q : Int)) := hq
        rw [hsl] at HPD
        by_cases h9 : slot ≤ ((Msg.picks ms z.refs).length : Int)
        ·have HR : Hid (Msg.propC f ms r slot value = 0) := HPD.out 0 (by rw [← hsl, h8, if_neg (by decide), hsl, if_pos h9])
         clear h8 hsl hq hz hN hb1 HLv1 HTv1 HPD HPk HX HSC
         generalize Msg.picks ms z.refs = LL at *
         go_enter Tryz.func48, Tryz.ntmps48
         go_wp2_with fail
         refine (J1.out _).mono ?_
         rintro e w9 ⟨rfl, hw⟩
         rw [hw]
         clear hw w9
         go_wp2
         clear x0 x1 x2 x3
         refine wp_region_held_drew (S := (fun W' : World => W'.cell? ⟨b, 0, none⟩ = some (.int .i64 r.id) ∧ W'.cell? ⟨b, 1, none⟩ = some (.int .i64 r.view))) (by kernel_rfl) (HS.out _ ((Ext.refl _).drew)) (fun hHeld => ?_)
         refine tk 0 ⟨some 15, .move (.tmp 2), 72, oz280, #[], none⟩ ?_
         refine wpAnyH_ready (rs := [1]) (by kernel_rfl) (by simp) (AllReadyH.cons rfl (fun K hK => ?_) AllReadyH.nil)
         go_simp
         refine (J2.out _ ((Ext.refl _).drew)).mono ?_
         rintro e w9 ⟨rfl, hw⟩
         rw [hw]
         clear hw w9
         refine hK.out _ _ (by exact HS.out _ ((Ext.refl _).drew)) (fun hHeld1 => ?_)
         clear hK K
         refine tk 2 ⟨some 17, .unOp .not 4 (.tmp 16), 4, oz280, #[⟨1, .data⟩], none⟩ ?_
         refine tk 3 ⟨some 18, .move (.tmp 17), 4, oz280, oy281, none⟩ ?_
         refine tk 4 ⟨some 19, .move (.tmp 2), 72, oz280, #[⟨3, .guard⟩], some (3, false)⟩ ?_
         refine tk 5 ⟨some 20, .nilCheck (.tmp 19), 0, oz280, oy282, some (3, false)⟩ ?_
         refine tk 6 ⟨some 21, .fieldAddr 29 (.tmp 20) 0, 0, oz280, oy283, some (3, false)⟩ ?_
         refine tk 7 ⟨some 22, .load 2 (.tmp 21), 2, oz280, oy284, some (3, false)⟩ ?_
         refine tk 8 ⟨some 23, .move (.tmp 0), 2, oz280, #[⟨3, .guard⟩], some (3, false)⟩ ?_
         refine tk 9 ⟨some 24, .move (.tmp 2), 72, oz280, #[⟨3, .guard⟩], some (3, false)⟩ ?_
         refine tk 10 ⟨some 25, .nilCheck (.tmp 24), 0, oz280, oy285, some (3, false)⟩ ?_
         refine tk 11 ⟨some 26, .fieldAddr 29 (.tmp 25) 1, 0, oz280, oy286, some (3, false)⟩ ?_
         refine tk 12 ⟨some 27, .load 2 (.tmp 26), 2, oz280, oy287, some (3, false)⟩ ?_
         refine wpAnyH_ready (rs := [13]) (by kernel_rfl) (by simp) (AllReadyH.cons rfl (fun K hK => ?_) AllReadyH.nil)
         go_simp
         refine (J3.out _).mono ?_
         rintro e w9 ⟨rfl, hw⟩
         rw [hw]
         clear hw w9
         refine hK.out _ _ (by exact HS.out _ ((Ext.refl _).drew)) (fun hHeld2 => ?_)
         clear hK K
         refine tk 14 ⟨some 29, .binOp .neq 2 (.tmp 22) (.tmp 28) 2, 4, oz280, oy288, some (3, false)⟩ ?_
         refine tk 15 ⟨some 30, .pick (.tmp 18) (.const (.bool true)) (.tmp 29), 4, oz280, oy289, none⟩ ?_
         refine wpAnyH_done (by kernel_rfl) ?_ _
         go_wp2_with fail
         refine (HA.out _ ((Ext.refl _).drew)).mono ?_
         rintro e w1 ⟨rfl, hb⟩
         have HB1 : Hid (RpAt w1 b r) := HB0.out.ext (((Ext.refl _).drew).trans hb)
         have HE1 : Hid (Ext w w1) := ((Ext.refl _).drew).trans hb
         clear HB0
         clear hb
         obtain ⟨-, x0, x1, x2, x3⟩ := HB1.out
         go_wp2_with fail
         refine (HL.out _ HE1.out).mono ?_
         rintro e w2 ⟨rfl, hb⟩
         have HB2 : Hid (RpAt w2 b r) := HB1.out.ext hb
         have HE2 : Hid (Ext w w2) := HE1.out.trans hb
         clear hb HB1 HE1 x0 x1 x2 x3
         obtain ⟨-, x0, x1, x2, x3⟩ := HB2.out
         rw [HQ.out] at x2
         obtain ⟨vz, uz, ⟨-, -, -, -, -, -, d6⟩, hLz⟩ := HMz.out.2.ext HMz.out.1 HE2.out
         have HIr : Hid (ISlice w2 uz z.refs) := hLz.2
         obtain ⟨-, ⟨ar, cr, rfl, -, -, -⟩⟩ := hLz
         go_wp2_with fail
         refine (HPk1.out _ _ HE2.out HIr.out).mono ?_
         rintro e w3 ⟨v2, g2, rfl, -, hO2, hb⟩
         have HE3 : Hid (Ext w w3) := HE2.out.trans hb
         have HB3 : Hid (RpAt w3 b r) := HB2.out.ext hb
         obtain ⟨a2, c2, rfl, -⟩ := hO2.slice
         clear hb hO2 d6 x0 x1 x2 x3 HIr HB2 HE2
         go_wp2
         go_ret
         exact ⟨ret_int HR.out.symm, HE3.out⟩
        ·cases h10 : Msg.valB (Msg.saidL ms r 1) value with
         | true =>
          have HR : Hid (Msg.propC f ms r slot value = 1) := HPD.out 1 (by rw [← hsl, h8, if_neg (by decide), hsl, if_neg h9, h10, if_pos rfl])
          have HW : Hid _ := HTv1.out true h10
          clear h8 h10 hsl hq hz hN hb1 HLv1 HTv1 HPD HPk HX HSC
          generalize Msg.picks ms z.refs = LL at *
          go_enter Tryz.func48, Tryz.ntmps48
          go_wp2_with fail
          refine (J1.out _).mono ?_
          rintro e w9 ⟨rfl, hw⟩
          rw [hw]
          clear hw w9
          go_wp2
          clear x0 x1 x2 x3
          refine wp_region_held_drew (S := (fun W' : World => W'.cell? ⟨b, 0, none⟩ = some (.int .i64 r.id) ∧ W'.cell? ⟨b, 1, none⟩ = some (.int .i64 r.view))) (by kernel_rfl) (HS.out _ ((Ext.refl _).drew)) (fun hHeld => ?_)
          refine tk 0 ⟨some 15, .move (.tmp 2), 72, oz280, #[], none⟩ ?_
          refine wpAnyH_ready (rs := [1]) (by kernel_rfl) (by simp) (AllReadyH.cons rfl (fun K hK => ?_) AllReadyH.nil)
          go_simp
          refine (J2.out _ ((Ext.refl _).drew)).mono ?_
          rintro e w9 ⟨rfl, hw⟩
          rw [hw]
          clear hw w9
          refine hK.out _ _ (by exact HS.out _ ((Ext.refl _).drew)) (fun hHeld1 => ?_)
          clear hK K
          refine tk 2 ⟨some 17, .unOp .not 4 (.tmp 16), 4, oz280, #[⟨1, .data⟩], none⟩ ?_
          refine tk 3 ⟨some 18, .move (.tmp 17), 4, oz280, oy281, none⟩ ?_
          refine tk 4 ⟨some 19, .move (.tmp 2), 72, oz280, #[⟨3, .guard⟩], some (3, false)⟩ ?_
          refine tk 5 ⟨some 20, .nilCheck (.tmp 19), 0, oz280, oy282, some (3, false)⟩ ?_
          refine tk 6 ⟨some 21, .fieldAddr 29 (.tmp 20) 0, 0, oz280, oy283, some (3, false)⟩ ?_
          refine tk 7 ⟨some 22, .load 2 (.tmp 21), 2, oz280, oy284, some (3, false)⟩ ?_
          refine tk 8 ⟨some 23, .move (.tmp 0), 2, oz280, #[⟨3, .guard⟩], some (3, false)⟩ ?_
          refine tk 9 ⟨some 24, .move (.tmp 2), 72, oz280, #[⟨3, .guard⟩], some (3, false)⟩ ?_
          refine tk 10 ⟨some 25, .nilCheck (.tmp 24), 0, oz280, oy285, some (3, false)⟩ ?_
          refine tk 11 ⟨some 26, .fieldAddr 29 (.tmp 25) 1, 0, oz280, oy286, some (3, false)⟩ ?_
          refine tk 12 ⟨some 27, .load 2 (.tmp 26), 2, oz280, oy287, some (3, false)⟩ ?_
          refine wpAnyH_ready (rs := [13]) (by kernel_rfl) (by simp) (AllReadyH.cons rfl (fun K hK => ?_) AllReadyH.nil)
          go_simp
          refine (J3.out _).mono ?_
          rintro e w9 ⟨rfl, hw⟩
          rw [hw]
          clear hw w9
          refine hK.out _ _ (by exact HS.out _ ((Ext.refl _).drew)) (fun hHeld2 => ?_)
          clear hK K
          refine tk 14 ⟨some 29, .binOp .neq 2 (.tmp 22) (.tmp 28) 2, 4, oz280, oy288, some (3, false)⟩ ?_
          refine tk 15 ⟨some 30, .pick (.tmp 18) (.const (.bool true)) (.tmp 29), 4, oz280, oy289, none⟩ ?_
          refine wpAnyH_done (by kernel_rfl) ?_ _
          go_wp2_with fail
          refine (HA.out _ ((Ext.refl _).drew)).mono ?_
          rintro e w1 ⟨rfl, hb⟩
          have HB1 : Hid (RpAt w1 b r) := HB0.out.ext (((Ext.refl _).drew).trans hb)
          have HE1 : Hid (Ext w w1) := ((Ext.refl _).drew).trans hb
          clear HB0
          clear hb
          obtain ⟨-, x0, x1, x2, x3⟩ := HB1.out
          go_wp2_with fail
          refine (HL.out _ HE1.out).mono ?_
          rintro e w2 ⟨rfl, hb⟩
          have HB2 : Hid (RpAt w2 b r) := HB1.out.ext hb
          have HE2 : Hid (Ext w w2) := HE1.out.trans hb
          clear hb HB1 HE1 x0 x1 x2 x3
          obtain ⟨-, x0, x1, x2, x3⟩ := HB2.out
          rw [HQ.out] at x2
          obtain ⟨vz, uz, ⟨-, -, -, -, -, -, d6⟩, hLz⟩ := HMz.out.2.ext HMz.out.1 HE2.out
          have HIr : Hid (ISlice w2 uz z.refs) := hLz.2
          obtain ⟨-, ⟨ar, cr, rfl, -, -, -⟩⟩ := hLz
          go_wp2_with fail
          refine (HPk1.out _ _ HE2.out HIr.out).mono ?_
          rintro e w3 ⟨v2, g2, rfl, -, hO2, hb⟩
          have HE3 : Hid (Ext w w3) := HE2.out.trans hb
          have HB3 : Hid (RpAt w3 b r) := HB2.out.ext hb
          obtain ⟨a2, c2, rfl, -⟩ := hO2.slice
          clear hb hO2 d6 x0 x1 x2 x3 HIr HB2 HE2
          go_wp2_with fail
          refine (HW.out _ HE3.out).mono ?_
          rintro e w4 ⟨rfl, hb⟩
          have HB4 : Hid (RpAt w4 b r) := HB3.out.ext hb
          have HE4 : Hid (Ext w w4) := HE3.out.trans hb
          clear hb HB3 HE3
          go_wp2
          go_ret
          exact ⟨ret_int HR.out.symm, HE4.out⟩
         | false =>
          have HR : Hid (Msg.propC f ms r slot value = 0) := HPD.out 0 (by rw [← hsl, h8, if_neg (by decide), hsl, if_neg h9, h10, if_neg (by decide)])
          have HW : Hid _ := HTv1.out false h10
          clear h8 h10 hsl hq hz hN hb1 HLv1 HTv1 HPD HPk HX HSC
          generalize Msg.picks ms z.refs = LL at *
          go_enter Tryz.func48, Tryz.ntmps48
          go_wp2_with fail
          refine (J1.out _).mono ?_
          rintro e w9 ⟨rfl, hw⟩
          rw [hw]
          clear hw w9
          go_wp2
          clear x0 x1 x2 x3
          refine wp_region_held_drew (S := (fun W' : World => W'.cell? ⟨b, 0, none⟩ = some (.int .i64 r.id) ∧ W'.cell? ⟨b, 1, none⟩ = some (.int .i64 r.view))) (by kernel_rfl) (HS.out _ ((Ext.refl _).drew)) (fun hHeld => ?_)
          refine tk 0 ⟨some 15, .move (.tmp 2), 72, oz280, #[], none⟩ ?_
          refine wpAnyH_ready (rs := [1]) (by kernel_rfl) (by simp) (AllReadyH.cons rfl (fun K hK => ?_) AllReadyH.nil)
          go_simp
          refine (J2.out _ ((Ext.refl _).drew)).mono ?_
          rintro e w9 ⟨rfl, hw⟩
          rw [hw]
          clear hw w9
          refine hK.out _ _ (by exact HS.out _ ((Ext.refl _).drew)) (fun hHeld1 => ?_)
          clear hK K
          refine tk 2 ⟨some 17, .unOp .not 4 (.tmp 16), 4, oz280, #[⟨1, .data⟩], none⟩ ?_
          refine tk 3 ⟨some 18, .move (.tmp 17), 4, oz280, oy281, none⟩ ?_
          refine tk 4 ⟨some 19, .move (.tmp 2), 72, oz280, #[⟨3, .guard⟩], some (3, false)⟩ ?_
          refine tk 5 ⟨some 20, .nilCheck (.tmp 19), 0, oz280, oy282, some (3, false)⟩ ?_
          refine tk 6 ⟨some 21, .fieldAddr 29 (.tmp 20) 0, 0, oz280, oy283, some (3, false)⟩ ?_
          refine tk 7 ⟨some 22, .load 2 (.tmp 21), 2, oz280, oy284, some (3, false)⟩ ?_
          refine tk 8 ⟨some 23, .move (.tmp 0), 2, oz280, #[⟨3, .guard⟩], some (3, false)⟩ ?_
          refine tk 9 ⟨some 24, .move (.tmp 2), 72, oz280, #[⟨3, .guard⟩], some (3, false)⟩ ?_
          refine tk 10 ⟨some 25, .nilCheck (.tmp 24), 0, oz280, oy285, some (3, false)⟩ ?_
          refine tk 11 ⟨some 26, .fieldAddr 29 (.tmp 25) 1, 0, oz280, oy286, some (3, false)⟩ ?_
          refine tk 12 ⟨some 27, .load 2 (.tmp 26), 2, oz280, oy287, some (3, false)⟩ ?_
          refine wpAnyH_ready (rs := [13]) (by kernel_rfl) (by simp) (AllReadyH.cons rfl (fun K hK => ?_) AllReadyH.nil)
          go_simp
          refine (J3.out _).mono ?_
          rintro e w9 ⟨rfl, hw⟩
          rw [hw]
          clear hw w9
          refine hK.out _ _ (by exact HS.out _ ((Ext.refl _).drew)) (fun hHeld2 => ?_)
          clear hK K
          refine tk 14 ⟨some 29, .binOp .neq 2 (.tmp 22) (.tmp 28) 2, 4, oz280, oy288, some (3, false)⟩ ?_
          refine tk 15 ⟨some 30, .pick (.tmp 18) (.const (.bool true)) (.tmp 29), 4, oz280, oy289, none⟩ ?_
          refine wpAnyH_done (by kernel_rfl) ?_ _
          go_wp2_with fail
          refine (HA.out _ ((Ext.refl _).drew)).mono ?_
          rintro e w1 ⟨rfl, hb⟩
          have HB1 : Hid (RpAt w1 b r) := HB0.out.ext (((Ext.refl _).drew).trans hb)
          have HE1 : Hid (Ext w w1) := ((Ext.refl _).drew).trans hb
          clear HB0
          clear hb
          obtain ⟨-, x0, x1, x2, x3⟩ := HB1.out
          go_wp2_with fail
          refine (HL.out _ HE1.out).mono ?_
          rintro e w2 ⟨rfl, hb⟩
          have HB2 : Hid (RpAt w2 b r) := HB1.out.ext hb
          have HE2 : Hid (Ext w w2) := HE1.out.trans hb
          clear hb HB1 HE1 x0 x1 x2 x3
          obtain ⟨-, x0, x1, x2, x3⟩ := HB2.out
          rw [HQ.out] at x2
          obtain ⟨vz, uz, ⟨-, -, -, -, -, -, d6⟩, hLz⟩ := HMz.out.2.ext HMz.out.1 HE2.out
          have HIr : Hid (ISlice w2 uz z.refs) := hLz.2
          obtain ⟨-, ⟨ar, cr, rfl, -, -, -⟩⟩ := hLz
          go_wp2_with fail
          refine (HPk1.out _ _ HE2.out HIr.out).mono ?_
          rintro e w3 ⟨v2, g2, rfl, -, hO2, hb⟩
          have HE3 : Hid (Ext w w3) := HE2.out.trans hb
          have HB3 : Hid (RpAt w3 b r) := HB2.out.ext hb
          obtain ⟨a2, c2, rfl, -⟩ := hO2.slice
          clear hb hO2 d6 x0 x1 x2 x3 HIr HB2 HE2
          go_wp2_with fail
          refine (HW.out _ HE3.out).mono ?_
          rintro e w4 ⟨rfl, hb⟩
          have HB4 : Hid (RpAt w4 b r) := HB3.out.ext hb
          have HE4 : Hid (Ext w w4) := HE3.out.trans hb
          clear hb HB3 HE3
          go_wp2
          go_ret
          exact ⟨ret_int HR.out.symm, HE4.out⟩


set_option linter.unusedSimpArgs false in
set_option maxHeartbeats 8000000 in
set_option maxRecDepth 100000 in
theorem specMayPropose_any (f : Int) (v : Value) (ms : List Ms) (r : Rp) (slot : Int) (value : Int) (w : World) (hS : MSlice w v ms) :
  Calls Tryz.prog 17 #[.int .i64 f, v, ragg r, .int .i64 slot, .int .i64 value] w fun e w' => e = .returned (.int .i64 (Msg.askC f ms r (Msg.propC f ms r slot value))) ∧ Ext w w' := by
 have HF : Hid (∀ wx b, Ext w wx → RpAt wx b r → Calls Tryz.prog 43 #[.int .i64 f, v, .pointer (some ⟨b, 0, none⟩)] wx fun e w' => e = .returned (.int .i64 (Msg.repC f ms r)) ∧ Ext wx w') := fun wx b he h => l11Asked_any f v ms r b wx (hS.ext he) h
 have HP : Hid (Msg.repC f ms r = 0 → ∀ wx b, Ext w wx → RpAt wx b r → Calls Tryz.prog 48 #[.int .i64 f, v, .pointer (some ⟨b, 0, none⟩), .int .i64 slot, .int .i64 value] wx fun e w' => e = .returned (.int .i64 (Msg.propC f ms r slot value)) ∧ Ext wx w') := fun h0 wx b he h => l11Propose_any f v ms r b slot value wx (hS.ext he) h h0
 obtain ⟨a, cap, rfl, -, -, -⟩ := hS
 unfold ragg
 go_enter Tryz.func17, Tryz.ntmps17
 by_cases hc : Msg.repC f ms r = 0
 ·have HR : Hid (Msg.askC f ms r (Msg.propC f ms r slot value) = Msg.propC f ms r slot value) := Msg.askC_ok hc
  have HP1 : Hid _ := HP.out hc
  rw [hc] at HF
  clear hc HP
  go_wp2_with fail
  refine (HF.out _ _ ((Ext.refl _).alloc _) (rbox_new _ _ _)).mono ?_
  rintro e w1 ⟨rfl, hb⟩
  have HE : Hid (Ext w w1) := ((Ext.refl _).alloc _).trans hb
  have HB : Hid (RpAt w1 w.heap.size r) := (rbox_new w r _).ext hb
  clear hb
  go_wp2_with fail
  refine (HP1.out _ _ HE.out HB.out).mono ?_
  rintro e w2 ⟨rfl, hb⟩
  have HE2 : Hid (Ext w w2) := HE.out.trans hb
  clear hb
  go_wp2
  go_ret
  exact ⟨ret_int HR.out.symm, HE2.out⟩
 ·have HR : Hid (Msg.askC f ms r (Msg.propC f ms r slot value) = Msg.repC f ms r) := Msg.askC_bad hc
  have g1 : (Msg.repC f ms r != 0) = true := by simpa using hc
  clear hc HP
  generalize Msg.repC f ms r = c at *
  go_wp2_with fail
  refine (HF.out _ _ ((Ext.refl _).alloc _) (rbox_new _ _ _)).mono ?_
  rintro e w1 ⟨rfl, hb⟩
  have HE : Hid (Ext w w1) := ((Ext.refl _).alloc _).trans hb
  clear hb
  go_wp2
  go_ret
  exact ⟨ret_int HR.out.symm, HE.out⟩
end Go.Proofs.YtecgjdgfjgcmdaaGreat
