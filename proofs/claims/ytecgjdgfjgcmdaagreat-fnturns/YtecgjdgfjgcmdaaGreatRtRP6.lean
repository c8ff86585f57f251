/- the specification's ReplicaFault. -/
import Derived.Test.YtecgjdgfjgcmdaaGreatRtGP
import Derived.Test.YtecgjdgfjgcmdaaGreatRtQV8s
import Derived.Test.YtecgjdgfjgcmdaaGreatRtQS5
import Derived.Deep.RegionHeld3
import Derived.Test.YtecgjdgfjgcmdaaGreatRtTk
namespace Go.Proofs.YtecgjdgfjgcmdaaGreat
open Go.RowKit
set_option linter.unusedSimpArgs false in
set_option maxHeartbeats 8000000 in
set_option maxRecDepth 100000 in
theorem l11Fault_any (f : Int) (v : Value) (ms : List Ms) (r : Rp) (b : Nat) (w : World) (hS : MSlice w v ms) (hled : Msg.ledger f ms = 0) (hR : RpAt w b r) :
  Calls Tryz.prog 94 #[.int .i64 f, v, .pointer (some ⟨b, 0, none⟩)] w fun e w' => e = .returned (.int .i64 (Msg.repF f ms r)) ∧ Ext w w' := by
 obtain ⟨hf0, hf1, hml⟩ := Msg.ledger_zero hled
 have HI1 : Hid (∀ bb, decide (1 ≤ r.id ∧ r.id ≤ 3 * f + 1) = bb → ∀ wx, Calls Tryz.prog 145 #[.int .i64 f, .int .i64 r.id] wx fun e w' => e = .returned (.bool bb) ∧ w' = wx) := fun bb h wx => l8Id_any f r.id bb wx hf0 hf1 (by rw [← h, Bool.decide_and])
 have HI2 : Hid (∀ bb, decide (0 ≤ r.view ∧ r.view ≤ 20) = bb → ∀ wx, Calls Tryz.prog 57 #[.int .i64 r.view, .int .i64 0, .int .i64 20] wx fun e w' => e = .returned (.bool bb) ∧ w' = wx) := fun bb h wx => l1In_isM r.view 0 20 bb wx (by rw [← h, Bool.decide_and])
 have HI3 : Hid (∀ bb, decide (0 ≤ r.done ∧ r.done ≤ 30) = bb → ∀ wx, Calls Tryz.prog 57 #[.int .i64 r.done, .int .i64 0, .int .i64 30] wx fun e w' => e = .returned (.bool bb) ∧ w' = wx) := fun bb h wx => l1In_isM r.done 0 30 bb wx (by rw [← h, Bool.decide_and])
 have HS0 : Hid (∀ bb, Msg.startB f ms r.view r.start = bb → ∀ wx, Ext w wx → Calls Tryz.prog 146 #[.int .i64 f, v, .int .i64 r.view, .int .i64 r.start] wx fun e w' => e = .returned (.bool bb) ∧ Ext wx w') := fun bb h wx he => by have q := l10Start_any f v ms r.view r.start wx (hS.ext he) hled; rw [h] at q; exact q
 have HLg : Hid (∀ wx, Ext w wx → Calls Tryz.prog 147 #[.int .i64 f, v] wx fun e w' => ∃ vo g, e = .returned vo ∧ wx.heap.size ≤ g ∧ Led.IOwn w' vo g (Msg.log f ms) ∧ Ext wx w') := fun wx he => l9Log_any f v ms wx (hS.ext he) hf0 hf1 hml
 have HS : Hid (∀ W', Ext w W' → W'.cell? ⟨b, 1, none⟩ = some (.int .i64 r.view) ∧ W'.cell? ⟨b, 2, none⟩ = some (.int .i64 r.start) ∧ W'.cell? ⟨b, 3, none⟩ = some (.int .i64 r.done)) := fun W' he => ⟨(hR.ext he).2.2.1, (hR.ext he).2.2.2.1, (hR.ext he).2.2.2.2⟩
 obtain ⟨hbl, x0, x1, x2, x3⟩ := hR
 obtain ⟨a, cap, rfl, -, -, -⟩ := hS
 clear hf0 hf1 hml hled
 cases h1 : decide (1 ≤ r.id ∧ r.id ≤ 3 * f + 1) with
 | false =>
  have HR : Hid (Msg.repF f ms r = 3) := by show _ = _; unfold Msg.repF; rw [if_pos (by unfold Msg.repIn; rw [h1]; rfl)]
  have J1 : Hid _ := HI1.out false h1
  clear h1 HI1 HI2 HI3 HS0 HLg HS
  go_enter Tryz.func94, Tryz.ntmps94
  go_wp2_with fail
  refine (J1.out _).mono ?_
  rintro e w9 ⟨rfl, hw⟩
  rw [hw]
  clear hw w9
  go_wp2
  go_ret
  exact ⟨ret_int HR.out.symm, Ext.refl _⟩
 | true =>
  have J1 : Hid _ := HI1.out true h1
  cases h2 : decide (0 ≤ r.view ∧ r.view ≤ 20) with
  | false =>
   have HR : Hid (Msg.repF f ms r = 3) := by show _ = _; unfold Msg.repF; rw [if_pos (by unfold Msg.repIn; rw [h1, h2]; rfl)]
   have J2 : Hid _ := HI2.out false h2
   clear h1 h2 HI1 HI2 HI3 HS0 HLg HS
   go_enter Tryz.func94, Tryz.ntmps94
   go_wp2_with fail
   refine (J1.out _).mono ?_
   rintro e w9 ⟨rfl, hw⟩
   rw [hw]
   clear hw w9
   go_wp2_with fail
   refine (J2.out _).mono ?_
   rintro e w9 ⟨rfl, hw⟩
   rw [hw]
   clear hw w9
   go_wp2
   go_ret
   exact ⟨ret_int HR.out.symm, Ext.refl _⟩
  | true =>
   have J2 : Hid _ := HI2.out true h2
   cases h3 : decide (0 ≤ r.done ∧ r.done ≤ 30) with
   | false =>
    have HR : Hid (Msg.repF f ms r = 3) := by show _ = _; unfold Msg.repF; rw [if_pos (by unfold Msg.repIn; rw [h1, h2, h3]; rfl)]
    have J3 : Hid _ := HI3.out false h3
    clear h1 h2 h3 HI1 HI2 HI3 HS0 HLg HS
    go_enter Tryz.func94, Tryz.ntmps94
    go_wp2_with fail
    refine (J1.out _).mono ?_
    rintro e w9 ⟨rfl, hw⟩
    rw [hw]
    clear hw w9
    go_wp2_with fail
    refine (J2.out _).mono ?_
    rintro e w9 ⟨rfl, hw⟩
    rw [hw]
    clear hw w9
    go_wp2_with fail
    refine (J3.out _).mono ?_
    rintro e w9 ⟨rfl, hw⟩
    rw [hw]
    clear hw w9
    go_wp2
    go_ret
    exact ⟨ret_int HR.out.symm, Ext.refl _⟩
   | true =>
    have J3 : Hid _ := HI3.out true h3
    have HIn : Hid (Msg.repIn f r = true) := by show _ = _; unfold Msg.repIn; rw [h1, h2, h3]; rfl
    clear h1 h2 h3 HI1 HI2 HI3
    by_cases h6 : r.start = -1
    ·have g4 : (r.start != -1) = false := by simpa using h6
     have HL4 : Hid (¬ (¬ r.start = -1 ∧ Msg.startB f ms r.view r.start = false)) := fun h => h.1 h6
     clear h6 HS0
     go_enter Tryz.func94, Tryz.ntmps94
     go_wp2_with fail
     refine (J1.out _).mono ?_
     rintro e w9 ⟨rfl, hw⟩
     rw [hw]
     clear hw w9
     go_wp2_with fail
     refine (J2.out _).mono ?_
     rintro e w9 ⟨rfl, hw⟩
     rw [hw]
     clear hw w9
     go_wp2_with fail
     refine (J3.out _).mono ?_
     rintro e w9 ⟨rfl, hw⟩
     rw [hw]
     clear hw w9
     go_wp2
     clear x0 x1 x2 x3
     refine wp_region_held_drew (S := (fun W' : World => W'.cell? ⟨b, 1, none⟩ = some (.int .i64 r.view) ∧ W'.cell? ⟨b, 2, none⟩ = some (.int .i64 r.start) ∧ W'.cell? ⟨b, 3, none⟩ = some (.int .i64 r.done))) (by kernel_rfl) (HS.out _ ((Ext.refl _).drew)) (fun hHeld => ?_)
     refine tk 0 ⟨some 30, .move (.tmp 2), 72, oz213, #[], none⟩ ?_
     refine tk 1 ⟨some 31, .nilCheck (.tmp 30), 0, oz213, #[⟨0, .data⟩], none⟩ ?_
     refine tk 2 ⟨some 32, .fieldAddr 29 (.tmp 31) 2, 0, oz213, #[⟨1, .data⟩], none⟩ ?_
     refine tk 3 ⟨some 33, .load 2 (.tmp 32), 2, oz213, #[⟨2, .data⟩], none⟩ ?_
     refine tk 4 ⟨some 34, .binOp .neq 2 (.tmp 33) (.const (.int .i64 (-1))) 2, 4, oz213, #[⟨3, .data⟩], none⟩ ?_
     refine tk 5 ⟨some 35, .move (.tmp 34), 4, oz213, #[⟨4, .data⟩], none⟩ ?_
     refine tn 6 ⟨some 36, .move (.tmp 2), 72, oz213, #[⟨5, .guard⟩], some (5, true)⟩ ?_
     refine tn 7 ⟨some 37, .nilCheck (.tmp 36), 0, oz213, oy27, some (5, true)⟩ ?_
     refine tn 8 ⟨some 38, .fieldAddr 29 (.tmp 37) 1, 0, oz213, oy28, some (5, true)⟩ ?_
     refine tn 9 ⟨some 39, .load 2 (.tmp 38), 2, oz213, oy29, some (5, true)⟩ ?_
     refine tn 10 ⟨some 40, .binOp .eql 2 (.tmp 39) (.const (.int .i64 0)) 2, 4, oz213, oy214, some (5, true)⟩ ?_
     refine tn 11 ⟨some 41, .move (.tmp 40), 4, oz213, oy215, some (5, true)⟩ ?_
     refine tn 12 ⟨some 42, .move (.tmp 0), 2, oz213, oy184, some (11, false)⟩ ?_
     refine tn 13 ⟨some 43, .move (.tmp 1), 27, oz213, oy184, some (11, false)⟩ ?_
     refine tn 14 ⟨some 44, .move (.tmp 2), 72, oz213, oy184, some (11, false)⟩ ?_
     refine tn 15 ⟨some 45, .nilCheck (.tmp 44), 0, oz213, oy186, some (11, false)⟩ ?_
     refine tn 16 ⟨some 46, .fieldAddr 29 (.tmp 45) 1, 0, oz213, oy187, some (11, false)⟩ ?_
     refine tn 17 ⟨some 47, .load 2 (.tmp 46), 2, oz213, oy216, some (11, false)⟩ ?_
     refine tn 18 ⟨some 48, .move (.tmp 2), 72, oz213, oy184, some (11, false)⟩ ?_
     refine tn 19 ⟨some 49, .nilCheck (.tmp 48), 0, oz213, oy189, some (11, false)⟩ ?_
     refine tn 20 ⟨some 50, .fieldAddr 29 (.tmp 49) 2, 0, oz213, oy217, some (11, false)⟩ ?_
     refine tn 21 ⟨some 51, .load 2 (.tmp 50), 2, oz213, oy191, some (11, false)⟩ ?_
     refine tn 22 ⟨some 52, .call { callee := .value (.func 146), args := #[.tmp 42, .tmp 43, .tmp 47, .tmp 51], argTypes := #[2, 27, 2, 2] }, 4, oz213, #[⟨12, .data⟩, ⟨13, .data⟩, ⟨17, .data⟩, ⟨21, .data⟩, ⟨11, .chain⟩, ⟨11, .guard⟩], some (11, false)⟩ ?_
     refine tn 23 ⟨some 53, .unOp .not 4 (.tmp 52), 4, oz213, oy218, some (11, false)⟩ ?_
     refine tn 24 ⟨some 54, .pick (.tmp 41) (.const (.bool true)) (.tmp 53), 4, oz213, oy219, some (5, true)⟩ ?_
     refine tk 25 ⟨some 55, .pick (.tmp 35) (.tmp 54) (.const (.bool false)), 4, oz213, oy220, none⟩ ?_
     refine wpAnyH_done (by kernel_rfl) ?_ _
     by_cases h5 : (0 : Int) < r.done
     ·have P5 : Hid (decide ((0 : Int) < r.done) = true) := decide_eq_true h5
      by_cases h7 : ((Msg.log f ms).length : Int) < r.done
      ·have HR : Hid (Msg.repF f ms r = 8) := by show _ = _; unfold Msg.repF; rw [if_neg (by simp [HIn.out]), if_neg HL4.out, if_pos h7]
       have P7 : Hid (decide (((Msg.log f ms).length : Int) < r.done) = true) := decide_eq_true h7
       clear h5 h7
       go_wp2
       refine wp_region_held_drew (S := (fun W' : World => W'.cell? ⟨b, 1, none⟩ = some (.int .i64 r.view) ∧ W'.cell? ⟨b, 2, none⟩ = some (.int .i64 r.start) ∧ W'.cell? ⟨b, 3, none⟩ = some (.int .i64 r.done))) (by kernel_rfl) (HS.out _ (((Ext.refl w).drew).drew)) (fun hHeld => ?_)
       refine tk 0 ⟨some 56, .move (.tmp 2), 72, oz221, #[], none⟩ ?_
       refine tk 1 ⟨some 57, .nilCheck (.tmp 56), 0, oz221, #[⟨0, .data⟩], none⟩ ?_
       refine tk 2 ⟨some 58, .fieldAddr 29 (.tmp 57) 3, 0, oz221, #[⟨1, .data⟩], none⟩ ?_
       refine tk 3 ⟨some 59, .load 2 (.tmp 58), 2, oz221, #[⟨2, .data⟩], none⟩ ?_
       refine tk 4 ⟨some 60, .binOp .gtr 2 (.tmp 59) (.const (.int .i64 0)) 2, 4, oz221, #[⟨3, .data⟩], none⟩ ?_
       (try rw [P5.out])
       refine tk 5 ⟨some 61, .move (.tmp 60), 4, oz221, #[⟨4, .data⟩], none⟩ ?_
       refine tk 6 ⟨some 62, .move (.tmp 2), 72, oz221, #[⟨5, .guard⟩], some (5, true)⟩ ?_
       refine tk 7 ⟨some 63, .nilCheck (.tmp 62), 0, oz221, oy27, some (5, true)⟩ ?_
       refine tk 8 ⟨some 64, .fieldAddr 29 (.tmp 63) 3, 0, oz221, oy28, some (5, true)⟩ ?_
       refine tk 9 ⟨some 65, .load 2 (.tmp 64), 2, oz221, oy29, some (5, true)⟩ ?_
       refine tk 10 ⟨some 66, .move (.tmp 0), 2, oz221, #[⟨5, .guard⟩], some (5, true)⟩ ?_
       refine tk 11 ⟨some 67, .move (.tmp 1), 27, oz221, #[⟨5, .guard⟩], some (5, true)⟩ ?_
       refine wpAnyH_ready (rs := [12]) (by kernel_rfl) (by simp) (AllReadyH.cons rfl (fun K hK => ?_) AllReadyH.nil)
       go_simp
       refine (HLg.out _ (((Ext.refl w).drew).drew)).mono ?_
       rintro e y2 ⟨v3, g3, rfl, -, hO3, hb⟩
       have X2 : Hid (Ext w y2) := (((Ext.refl w).drew).drew).trans hb
       obtain ⟨a3, c3, rfl, -⟩ := id hO3
       clear hb hO3
       refine hK.out _ _ (by exact HS.out _ X2.out) (fun hHeld2 => ?_)
       clear hK K
       refine tk 13 ⟨some 69, .call { callee := .builtin .len, args := #[.tmp 68], argTypes := #[38] }, 3, oz221, oy169, some (5, true)⟩ ?_
       refine tk 14 ⟨some 70, .binOp .gtr 2 (.tmp 65) (.tmp 69) 2, 4, oz221, oy222, some (5, true)⟩ ?_
       (try rw [P7.out])
       refine tk 15 ⟨some 71, .pick (.tmp 61) (.tmp 70) (.const (.bool false)), 4, oz221, oy223, none⟩ ?_
       refine wpAnyH_done (by kernel_rfl) ?_ _
       go_wp2
       go_ret
       exact ⟨ret_int HR.out.symm, X2.out⟩
      ·have HR : Hid (Msg.repF f ms r = 0) := by show _ = _; unfold Msg.repF; rw [if_neg (by simp [HIn.out]), if_neg HL4.out, if_neg h7]
       have P7 : Hid (decide (((Msg.log f ms).length : Int) < r.done) = false) := decide_eq_false h7
       clear h5 h7
       go_wp2
       refine wp_region_held_drew (S := (fun W' : World => W'.cell? ⟨b, 1, none⟩ = some (.int .i64 r.view) ∧ W'.cell? ⟨b, 2, none⟩ = some (.int .i64 r.start) ∧ W'.cell? ⟨b, 3, none⟩ = some (.int .i64 r.done))) (by kernel_rfl) (HS.out _ (((Ext.refl w).drew).drew)) (fun hHeld => ?_)
       refine tk 0 ⟨some 56, .move (.tmp 2), 72, oz221, #[], none⟩ ?_
       refine tk 1 ⟨some 57, .nilCheck (.tmp 56), 0, oz221, #[⟨0, .data⟩], none⟩ ?_
       refine tk 2 ⟨some 58, .fieldAddr 29 (.tmp 57) 3, 0, oz221, #[⟨1, .data⟩], none⟩ ?_
       refine tk 3 ⟨some 59, .load 2 (.tmp 58), 2, oz221, #[⟨2, .data⟩], none⟩ ?_
       refine tk 4 ⟨some 60, .binOp .gtr 2 (.tmp 59) (.const (.int .i64 0)) 2, 4, oz221, #[⟨3, .data⟩], none⟩ ?_
       (try rw [P5.out])
       refine tk 5 ⟨some 61, .move (.tmp 60), 4, oz221, #[⟨4, .data⟩], none⟩ ?_
       refine tk 6 ⟨some 62, .move (.tmp 2), 72, oz221, #[⟨5, .guard⟩], some (5, true)⟩ ?_
       refine tk 7 ⟨some 63, .nilCheck (.tmp 62), 0, oz221, oy27, some (5, true)⟩ ?_
       refine tk 8 ⟨some 64, .fieldAddr 29 (.tmp 63) 3, 0, oz221, oy28, some (5, true)⟩ ?_
       refine tk 9 ⟨some 65, .load 2 (.tmp 64), 2, oz221, oy29, some (5, true)⟩ ?_
       refine tk 10 ⟨some 66, .move (.tmp 0), 2, oz221, #[⟨5, .guard⟩], some (5, true)⟩ ?_
       refine tk 11 ⟨some 67, .move (.tmp 1), 27, oz221, #[⟨5, .guard⟩], some (5, true)⟩ ?_
       refine wpAnyH_ready (rs := [12]) (by kernel_rfl) (by simp) (AllReadyH.cons rfl (fun K hK => ?_) AllReadyH.nil)
       go_simp
       refine (HLg.out _ (((Ext.refl w).drew).drew)).mono ?_
       rintro e y2 ⟨v3, g3, rfl, -, hO3, hb⟩
       have X2 : Hid (Ext w y2) := (((Ext.refl w).drew).drew).trans hb
       obtain ⟨a3, c3, rfl, -⟩ := id hO3
       clear hb hO3
       refine hK.out _ _ (by exact HS.out _ X2.out) (fun hHeld2 => ?_)
       clear hK K
       refine tk 13 ⟨some 69, .call { callee := .builtin .len, args := #[.tmp 68], argTypes := #[38] }, 3, oz221, oy169, some (5, true)⟩ ?_
       refine tk 14 ⟨some 70, .binOp .gtr 2 (.tmp 65) (.tmp 69) 2, 4, oz221, oy222, some (5, true)⟩ ?_
       (try rw [P7.out])
       refine tk 15 ⟨some 71, .pick (.tmp 61) (.tmp 70) (.const (.bool false)), 4, oz221, oy223, none⟩ ?_
       refine wpAnyH_done (by kernel_rfl) ?_ _
       go_wp2
       go_ret
       exact ⟨ret_int HR.out.symm, X2.out⟩
     ·have P5 : Hid (decide ((0 : Int) < r.done) = false) := decide_eq_false h5
      have HR : Hid (Msg.repF f ms r = 0) := by show _ = _; unfold Msg.repF; rw [if_neg (by simp [HIn.out]), if_neg HL4.out, if_neg (by omega)]
      clear h5
      go_wp2
      refine wp_region_held_drew (S := (fun W' : World => W'.cell? ⟨b, 1, none⟩ = some (.int .i64 r.view) ∧ W'.cell? ⟨b, 2, none⟩ = some (.int .i64 r.start) ∧ W'.cell? ⟨b, 3, none⟩ = some (.int .i64 r.done))) (by kernel_rfl) (HS.out _ (((Ext.refl w).drew).drew)) (fun hHeld => ?_)
      refine tk 0 ⟨some 56, .move (.tmp 2), 72, oz221, #[], none⟩ ?_
      refine tk 1 ⟨some 57, .nilCheck (.tmp 56), 0, oz221, #[⟨0, .data⟩], none⟩ ?_
      refine tk 2 ⟨some 58, .fieldAddr 29 (.tmp 57) 3, 0, oz221, #[⟨1, .data⟩], none⟩ ?_
      refine tk 3 ⟨some 59, .load 2 (.tmp 58), 2, oz221, #[⟨2, .data⟩], none⟩ ?_
      refine tk 4 ⟨some 60, .binOp .gtr 2 (.tmp 59) (.const (.int .i64 0)) 2, 4, oz221, #[⟨3, .data⟩], none⟩ ?_
      (try rw [P5.out])
      refine tk 5 ⟨some 61, .move (.tmp 60), 4, oz221, #[⟨4, .data⟩], none⟩ ?_
      refine tn 6 ⟨some 62, .move (.tmp 2), 72, oz221, #[⟨5, .guard⟩], some (5, true)⟩ ?_
      refine tn 7 ⟨some 63, .nilCheck (.tmp 62), 0, oz221, oy27, some (5, true)⟩ ?_
      refine tn 8 ⟨some 64, .fieldAddr 29 (.tmp 63) 3, 0, oz221, oy28, some (5, true)⟩ ?_
      refine tn 9 ⟨some 65, .load 2 (.tmp 64), 2, oz221, oy29, some (5, true)⟩ ?_
      refine tn 10 ⟨some 66, .move (.tmp 0), 2, oz221, #[⟨5, .guard⟩], some (5, true)⟩ ?_
      refine tn 11 ⟨some 67, .move (.tmp 1), 27, oz221, #[⟨5, .guard⟩], some (5, true)⟩ ?_
      refine tn 12 ⟨some 68, .call { callee := .value (.func 147), args := #[.tmp 66, .tmp 67], argTypes := #[2, 27] }, 38, oz221, #[⟨10, .data⟩, ⟨11, .data⟩, ⟨5, .chain⟩, ⟨5, .guard⟩], some (5, true)⟩ ?_
      refine tn 13 ⟨some 69, .call { callee := .builtin .len, args := #[.tmp 68], argTypes := #[38] }, 3, oz221, oy169, some (5, true)⟩ ?_
      refine tn 14 ⟨some 70, .binOp .gtr 2 (.tmp 65) (.tmp 69) 2, 4, oz221, oy222, some (5, true)⟩ ?_
      refine tk 15 ⟨some 71, .pick (.tmp 61) (.tmp 70) (.const (.bool false)), 4, oz221, oy223, none⟩ ?_
      refine wpAnyH_done (by kernel_rfl) ?_ _
      go_wp2
      go_ret
      exact ⟨ret_int HR.out.symm, (((Ext.refl w).drew).drew)⟩
    ·have g4 : (r.start != -1) = true := by simpa using h6
     by_cases h0 : r.view = 0
     ·have g5 : (r.view == 0) = true := by simpa using h0
      have HR : Hid (Msg.repF f ms r = 1) := by show _ = _; unfold Msg.repF; rw [if_neg (by simp [HIn.out]), if_pos ⟨h6, by rw [h0, Msg.startB_zero]; exact decide_eq_false h6⟩]
      clear h6 h0 HS0 HLg
      go_enter Tryz.func94, Tryz.ntmps94
      go_wp2_with fail
      refine (J1.out _).mono ?_
      rintro e w9 ⟨rfl, hw⟩
      rw [hw]
      clear hw w9
      go_wp2_with fail
      refine (J2.out _).mono ?_
      rintro e w9 ⟨rfl, hw⟩
      rw [hw]
      clear hw w9
      go_wp2_with fail
      refine (J3.out _).mono ?_
      rintro e w9 ⟨rfl, hw⟩
      rw [hw]
      clear hw w9
      go_wp2
      clear x0 x1 x2 x3
      refine wp_region_held_drew (S := (fun W' : World => W'.cell? ⟨b, 1, none⟩ = some (.int .i64 r.view) ∧ W'.cell? ⟨b, 2, none⟩ = some (.int .i64 r.start) ∧ W'.cell? ⟨b, 3, none⟩ = some (.int .i64 r.done))) (by kernel_rfl) (HS.out _ ((Ext.refl _).drew)) (fun hHeld => ?_)
      refine tk 0 ⟨some 30, .move (.tmp 2), 72, oz213, #[], none⟩ ?_
      refine tk 1 ⟨some 31, .nilCheck (.tmp 30), 0, oz213, #[⟨0, .data⟩], none⟩ ?_
      refine tk 2 ⟨some 32, .fieldAddr 29 (.tmp 31) 2, 0, oz213, #[⟨1, .data⟩], none⟩ ?_
      refine tk 3 ⟨some 33, .load 2 (.tmp 32), 2, oz213, #[⟨2, .data⟩], none⟩ ?_
      refine tk 4 ⟨some 34, .binOp .neq 2 (.tmp 33) (.const (.int .i64 (-1))) 2, 4, oz213, #[⟨3, .data⟩], none⟩ ?_
      refine tk 5 ⟨some 35, .move (.tmp 34), 4, oz213, #[⟨4, .data⟩], none⟩ ?_
      refine tk 6 ⟨some 36, .move (.tmp 2), 72, oz213, #[⟨5, .guard⟩], some (5, true)⟩ ?_
      refine tk 7 ⟨some 37, .nilCheck (.tmp 36), 0, oz213, oy27, some (5, true)⟩ ?_
      refine tk 8 ⟨some 38, .fieldAddr 29 (.tmp 37) 1, 0, oz213, oy28, some (5, true)⟩ ?_
      refine tk 9 ⟨some 39, .load 2 (.tmp 38), 2, oz213, oy29, some (5, true)⟩ ?_
      refine tk 10 ⟨some 40, .binOp .eql 2 (.tmp 39) (.const (.int .i64 0)) 2, 4, oz213, oy214, some (5, true)⟩ ?_
      refine tk 11 ⟨some 41, .move (.tmp 40), 4, oz213, oy215, some (5, true)⟩ ?_
      refine tn 12 ⟨some 42, .move (.tmp 0), 2, oz213, oy184, some (11, false)⟩ ?_
      refine tn 13 ⟨some 43, .move (.tmp 1), 27, oz213, oy184, some (11, false)⟩ ?_
      refine tn 14 ⟨some 44, .move (.tmp 2), 72, oz213, oy184, some (11, false)⟩ ?_
      refine tn 15 ⟨some 45, .nilCheck (.tmp 44), 0, oz213, oy186, some (11, false)⟩ ?_
      refine tn 16 ⟨some 46, .fieldAddr 29 (.tmp 45) 1, 0, oz213, oy187, some (11, false)⟩ ?_
      refine tn 17 ⟨some 47, .load 2 (.tmp 46), 2, oz213, oy216, some (11, false)⟩ ?_
      refine tn 18 ⟨some 48, .move (.tmp 2), 72, oz213, oy184, some (11, false)⟩ ?_
      refine tn 19 ⟨some 49, .nilCheck (.tmp 48), 0, oz213, oy189, some (11, false)⟩ ?_
      refine tn 20 ⟨some 50, .fieldAddr 29 (.tmp 49) 2, 0, oz213, oy217, some (11, false)⟩ ?_
      refine tn 21 ⟨some 51, .load 2 (.tmp 50), 2, oz213, oy191, some (11, false)⟩ ?_
      refine tn 22 ⟨some 52, .call { callee := .value (.func 146), args := #[.tmp 42, .tmp 43, .tmp 47, .tmp 51], argTypes := #[2, 27, 2, 2] }, 4, oz213, #[⟨12, .data⟩, ⟨13, .data⟩, ⟨17, .data⟩, ⟨21, .data⟩, ⟨11, .chain⟩, ⟨11, .guard⟩], some (11, false)⟩ ?_
      refine tn 23 ⟨some 53, .unOp .not 4 (.tmp 52), 4, oz213, oy218, some (11, false)⟩ ?_
      refine tk 24 ⟨some 54, .pick (.tmp 41) (.const (.bool true)) (.tmp 53), 4, oz213, oy219, some (5, true)⟩ ?_
      refine tk 25 ⟨some 55, .pick (.tmp 35) (.tmp 54) (.const (.bool false)), 4, oz213, oy220, none⟩ ?_
      refine wpAnyH_done (by kernel_rfl) ?_ _
      go_wp2
      go_ret
      exact ⟨ret_int HR.out.symm, ((Ext.refl w).drew)⟩
     ·have g5 : (r.view == 0) = false := by simpa using h0
      clear h0
      cases h5 : Msg.startB f ms r.view r.start with
      | false =>
       have HSt : Hid _ := HS0.out false h5
       have HR : Hid (Msg.repF f ms r = 1) := by show _ = _; unfold Msg.repF; rw [if_neg (by simp [HIn.out]), if_pos ⟨h6, h5⟩]
       clear h5 h6 HS0 HLg
       go_enter Tryz.func94, Tryz.ntmps94
       go_wp2_with fail
       refine (J1.out _).mono ?_
       rintro e w9 ⟨rfl, hw⟩
       rw [hw]
       clear hw w9
       go_wp2_with fail
       refine (J2.out _).mono ?_
       rintro e w9 ⟨rfl, hw⟩
       rw [hw]
       clear hw w9
       go_wp2_with fail
       refine (J3.out _).mono ?_
       rintro e w9 ⟨rfl, hw⟩
       rw [hw]
       clear hw w9
       go_wp2
       clear x0 x1 x2 x3
       refine wp_region_held_drew (S := (fun W' : World => W'.cell? ⟨b, 1, none⟩ = some (.int .i64 r.view) ∧ W'.cell? ⟨b, 2, none⟩ = some (.int .i64 r.start) ∧ W'.cell? ⟨b, 3, none⟩ = some (.int .i64 r.done))) (by kernel_rfl) (HS.out _ ((Ext.refl _).drew)) (fun hHeld => ?_)
       refine tk 0 ⟨some 30, .move (.tmp 2), 72, oz213, #[], none⟩ ?_
       refine tk 1 ⟨some 31, .nilCheck (.tmp 30), 0, oz213, #[⟨0, .data⟩], none⟩ ?_
       refine tk 2 ⟨some 32, .fieldAddr 29 (.tmp 31) 2, 0, oz213, #[⟨1, .data⟩], none⟩ ?_
       refine tk 3 ⟨some 33, .load 2 (.tmp 32), 2, oz213, #[⟨2, .data⟩], none⟩ ?_
       refine tk 4 ⟨some 34, .binOp .neq 2 (.tmp 33) (.const (.int .i64 (-1))) 2, 4, oz213, #[⟨3, .data⟩], none⟩ ?_
       refine tk 5 ⟨some 35, .move (.tmp 34), 4, oz213, #[⟨4, .data⟩], none⟩ ?_
       refine tk 6 ⟨some 36, .move (.tmp 2), 72, oz213, #[⟨5, .guard⟩], some (5, true)⟩ ?_
       refine tk 7 ⟨some 37, .nilCheck (.tmp 36), 0, oz213, oy27, some (5, true)⟩ ?_
       refine tk 8 ⟨some 38, .fieldAddr 29 (.tmp 37) 1, 0, oz213, oy28, some (5, true)⟩ ?_
       refine tk 9 ⟨some 39, .load 2 (.tmp 38), 2, oz213, oy29, some (5, true)⟩ ?_
       refine tk 10 ⟨some 40, .binOp .eql 2 (.tmp 39) (.const (.int .i64 0)) 2, 4, oz213, oy214, some (5, true)⟩ ?_
       refine tk 11 ⟨some 41, .move (.tmp 40), 4, oz213, oy215, some (5, true)⟩ ?_
       refine tk 12 ⟨some 42, .move (.tmp 0), 2, oz213, oy184, some (11, false)⟩ ?_
       refine tk 13 ⟨some 43, .move (.tmp 1), 27, oz213, oy184, some (11, false)⟩ ?_
       refine tk 14 ⟨some 44, .move (.tmp 2), 72, oz213, oy184, some (11, false)⟩ ?_
       refine tk 15 ⟨some 45, .nilCheck (.tmp 44), 0, oz213, oy186, some (11, false)⟩ ?_
       refine tk 16 ⟨some 46, .fieldAddr 29 (.tmp 45) 1, 0, oz213, oy187, some (11, false)⟩ ?_
       refine tk 17 ⟨some 47, .load 2 (.tmp 46), 2, oz213, oy216, some (11, false)⟩ ?_
       refine tk 18 ⟨some 48, .move (.tmp 2), 72, oz213, oy184, some (11, false)⟩ ?_
       refine tk 19 ⟨some 49, .nilCheck (.tmp 48), 0, oz213, oy189, some (11, false)⟩ ?_
       refine tk 20 ⟨some 50, .fieldAddr 29 (.tmp 49) 2, 0, oz213, oy217, some (11, false)⟩ ?_
       refine tk 21 ⟨some 51, .load 2 (.tmp 50), 2, oz213, oy191, some (11, false)⟩ ?_
       refine wpAnyH_ready (rs := [22]) (by kernel_rfl) (by simp) (AllReadyH.cons rfl (fun K hK => ?_) AllReadyH.nil)
       go_simp
       refine (HSt.out _ ((Ext.refl _).drew)).mono ?_
       rintro e y1 ⟨rfl, hb⟩
       have X1 : Hid (Ext w y1) := ((Ext.refl _).drew).trans hb
       clear hb
       refine hK.out _ _ (by exact HS.out _ X1.out) (fun hHeld1 => ?_)
       clear hK K
       refine tk 23 ⟨some 53, .unOp .not 4 (.tmp 52), 4, oz213, oy218, some (11, false)⟩ ?_
       refine tk 24 ⟨some 54, .pick (.tmp 41) (.const (.bool true)) (.tmp 53), 4, oz213, oy219, some (5, true)⟩ ?_
       refine tk 25 ⟨some 55, .pick (.tmp 35) (.tmp 54) (.const (.bool false)), 4, oz213, oy220, none⟩ ?_
       refine wpAnyH_done (by kernel_rfl) ?_ _
       go_wp2
       go_ret
       exact ⟨ret_int HR.out.symm, X1.out⟩
      | true =>
       have HSt : Hid _ := HS0.out true h5
       have HL4 : Hid (¬ (¬ r.start = -1 ∧ Msg.startB f ms r.view r.start = false)) := fun h => by have q := h.2; rw [h5] at q; cases q
       clear h5 h6 HS0
       go_enter Tryz.func94, Tryz.ntmps94
       go_wp2_with fail
       refine (J1.out _).mono ?_
       rintro e w9 ⟨rfl, hw⟩
       rw [hw]
       clear hw w9
       go_wp2_with fail
       refine (J2.out _).mono ?_
       rintro e w9 ⟨rfl, hw⟩
       rw [hw]
       clear hw w9
       go_wp2_with fail
       refine (J3.out _).mono ?_
       rintro e w9 ⟨rfl, hw⟩
       rw [hw]
       clear hw w9
       go_wp2
       clear x0 x1 x2 x3
       refine wp_region_held_drew (S := (fun W' : World => W'.cell? ⟨b, 1, none⟩ = some (.int .i64 r.view) ∧ W'.cell? ⟨b, 2, none⟩ = some (.int .i64 r.start) ∧ W'.cell? ⟨b, 3, none⟩ = some (.int .i64 r.done))) (by kernel_rfl) (HS.out _ ((Ext.refl _).drew)) (fun hHeld => ?_)
       refine tk 0 ⟨some 30, .move (.tmp 2), 72, oz213, #[], none⟩ ?_
       refine tk 1 ⟨some 31, .nilCheck (.tmp 30), 0, oz213, #[⟨0, .data⟩], none⟩ ?_
       refine tk 2 ⟨some 32, .fieldAddr 29 (.tmp 31) 2, 0, oz213, #[⟨1, .data⟩], none⟩ ?_
       refine tk 3 ⟨some 33, .load 2 (.tmp 32), 2, oz213, #[⟨2, .data⟩], none⟩ ?_
       refine tk 4 ⟨some 34, .binOp .neq 2 (.tmp 33) (.const (.int .i64 (-1))) 2, 4, oz213, #[⟨3, .data⟩], none⟩ ?_
       refine tk 5 ⟨some 35, .move (.tmp 34), 4, oz213, #[⟨4, .data⟩], none⟩ ?_
       refine tk 6 ⟨some 36, .move (.tmp 2), 72, oz213, #[⟨5, .guard⟩], some (5, true)⟩ ?_
       refine tk 7 ⟨some 37, .nilCheck (.tmp 36), 0, oz213, oy27, some (5, true)⟩ ?_
       refine tk 8 ⟨some 38, .fieldAddr 29 (.tmp 37) 1, 0, oz213, oy28, some (5, true)⟩ ?_
       refine tk 9 ⟨some 39, .load 2 (.tmp 38), 2, oz213, oy29, some (5, true)⟩ ?_
       refine tk 10 ⟨some 40, .binOp .eql 2 (.tmp 39) (.const (.int .i64 0)) 2, 4, oz213, oy214, some (5, true)⟩ ?_
       refine tk 11 ⟨some 41, .move (.tmp 40), 4, oz213, oy215, some (5, true)⟩ ?_
       refine tk 12 ⟨some 42, .move (.tmp 0), 2, oz213, oy184, some (11, false)⟩ ?_
       refine tk 13 ⟨some 43, .move (.tmp 1), 27, oz213, oy184, some (11, false)⟩ ?_
       refine tk 14 ⟨some 44, .move (.tmp 2), 72, oz213, oy184, some (11, false)⟩ ?_
       refine tk 15 ⟨some 45, .nilCheck (.tmp 44), 0, oz213, oy186, some (11, false)⟩ ?_
       refine tk 16 ⟨some 46, .fieldAddr 29 (.tmp 45) 1, 0, oz213, oy187, some (11, false)⟩ ?_
       refine tk 17 ⟨some 47, .load 2 (.tmp 46), 2, oz213, oy216, some (11, false)⟩ ?_
       refine tk 18 ⟨some 48, .move (.tmp 2), 72, oz213, oy184, some (11, false)⟩ ?_
       refine tk 19 ⟨some 49, .nilCheck (.tmp 48), 0, oz213, oy189, some (11, false)⟩ ?_
       refine tk 20 ⟨some 50, .fieldAddr 29 (.tmp 49) 2, 0, oz213, oy217, some (11, false)⟩ ?_
       refine tk 21 ⟨some 51, .load 2 (.tmp 50), 2, oz213, oy191, some (11, false)⟩ ?_
       refine wpAnyH_ready (rs := [22]) (by kernel_rfl) (by simp) (AllReadyH.cons rfl (fun K hK => ?_) AllReadyH.nil)
       go_simp
       refine (HSt.out _ ((Ext.refl _).drew)).mono ?_
       rintro e y1 ⟨rfl, hb⟩
       have X1 : Hid (Ext w y1) := ((Ext.refl _).drew).trans hb
       clear hb
       refine hK.out _ _ (by exact HS.out _ X1.out) (fun hHeld1 => ?_)
       clear hK K
       refine tk 23 ⟨some 53, .unOp .not 4 (.tmp 52), 4, oz213, oy218, some (11, false)⟩ ?_
       refine tk 24 ⟨some 54, .pick (.tmp 41) (.const (.bool true)) (.tmp 53), 4, oz213, oy219, some (5, true)⟩ ?_
       refine tk 25 ⟨some 55, .pick (.tmp 35) (.tmp 54) (.const (.bool false)), 4, oz213, oy220, none⟩ ?_
       refine wpAnyH_done (by kernel_rfl) ?_ _
       by_cases h5 : (0 : Int) < r.done
       ·have P5 : Hid (decide ((0 : Int) < r.done) = true) := decide_eq_true h5
        by_cases h7 : ((Msg.log f ms).length : Int) < r.done
        ·have HR : Hid (Msg.repF f ms r = 8) := by show _ = _; unfold Msg.repF; rw [if_neg (by simp [HIn.out]), if_neg HL4.out, if_pos h7]
         have P7 : Hid (decide (((Msg.log f ms).length : Int) < r.done) = true) := decide_eq_true h7
         clear h5 h7
         go_wp2
         refine wp_region_held_drew (S := (fun W' : World => W'.cell? ⟨b, 1, none⟩ = some (.int .i64 r.view) ∧ W'.cell? ⟨b, 2, none⟩ = some (.int .i64 r.start) ∧ W'.cell? ⟨b, 3, none⟩ = some (.int .i64 r.done))) (by kernel_rfl) (HS.out _ (X1.out.drew)) (fun hHeld => ?_)
         refine tk 0 ⟨some 56, .move (.tmp 2), 72, oz221, #[], none⟩ ?_
         refine tk 1 ⟨some 57, .nilCheck (.tmp 56), 0, oz221, #[⟨0, .data⟩], none⟩ ?_
         refine tk 2 ⟨some 58, .fieldAddr 29 (.tmp 57) 3, 0, oz221, #[⟨1, .data⟩], none⟩ ?_
         refine tk 3 ⟨some 59, .load 2 (.tmp 58), 2, oz221, #[⟨2, .data⟩], none⟩ ?_
         refine tk 4 ⟨some 60, .binOp .gtr 2 (.tmp 59) (.const (.int .i64 0)) 2, 4, oz221, #[⟨3, .data⟩], none⟩ ?_
         (try rw [P5.out])
         refine tk 5 ⟨some 61, .move (.tmp 60), 4, oz221, #[⟨4, .data⟩], none⟩ ?_
         refine tk 6 ⟨some 62, .move (.tmp 2), 72, oz221, #[⟨5, .guard⟩], some (5, true)⟩ ?_
         refine tk 7 ⟨some 63, .nilCheck (.tmp 62), 0, oz221, oy27, some (5, true)⟩ ?_
         refine tk 8 ⟨some 64, .fieldAddr 29 (.tmp 63) 3, 0, oz221, oy28, some (5, true)⟩ ?_
         refine tk 9 ⟨some 65, .load 2 (.tmp 64), 2, oz221, oy29, some (5, true)⟩ ?_
         refine tk 10 ⟨some 66, .move (.tmp 0), 2, oz221, #[⟨5, .guard⟩], some (5, true)⟩ ?_
         refine tk 11 ⟨some 67, .move (.tmp 1), 27, oz221, #[⟨5, .guard⟩], some (5, true)⟩ ?_
         refine wpAnyH_ready (rs := [12]) (by kernel_rfl) (by simp) (AllReadyH.cons rfl (fun K hK => ?_) AllReadyH.nil)
         go_simp
         refine (HLg.out _ (X1.out.drew)).mono ?_
         rintro e y2 ⟨v3, g3, rfl, -, hO3, hb⟩
         have X2 : Hid (Ext w y2) := (X1.out.drew).trans hb
         obtain ⟨a3, c3, rfl, -⟩ := id hO3
         clear hb hO3
         refine hK.out _ _ (by exact HS.out _ X2.out) (fun hHeld2 => ?_)
         clear hK K
         refine tk 13 ⟨some 69, .call { callee := .builtin .len, args := #[.tmp 68], argTypes := #[38] }, 3, oz221, oy169, some (5, true)⟩ ?_
         refine tk 14 ⟨some 70, .binOp .gtr 2 (.tmp 65) (.tmp 69) 2, 4, oz221, oy222, some (5, true)⟩ ?_
         (try rw [P7.out])
         refine tk 15 ⟨some 71, .pick (.tmp 61) (.tmp 70) (.const (.bool false)), 4, oz221, oy223, none⟩ ?_
         refine wpAnyH_done (by kernel_rfl) ?_ _
         go_wp2
         go_ret
         exact ⟨ret_int HR.out.symm, X2.out⟩
        ·have HR : Hid (Msg.repF f ms r = 0) := by show _ = _; unfold Msg.repF; rw [if_neg (by simp [HIn.out]), if_neg HL4.out, if_neg h7]
         have P7 : Hid (decide (((Msg.log f ms).length : Int) < r.done) = false) := decide_eq_false h7
         clear h5 h7
         go_wp2
         refine wp_region_held_drew (S := (fun W' : World => W'.cell? ⟨b, 1, none⟩ = some (.int .i64 r.view) ∧ W'.cell? ⟨b, 2, none⟩ = some (.int .i64 r.start) ∧ W'.cell? ⟨b, 3, none⟩ = some (.int .i64 r.done))) (by kernel_rfl) (HS.out _ (X1.out.drew)) (fun hHeld => ?_)
         refine tk 0 ⟨some 56, .move (.tmp 2), 72, oz221, #[], none⟩ ?_
         refine tk 1 ⟨some 57, .nilCheck (.tmp 56), 0, oz221, #[⟨0, .data⟩], none⟩ ?_
         refine tk 2 ⟨some 58, .fieldAddr 29 (.tmp 57) 3, 0, oz221, #[⟨1, .data⟩], none⟩ ?_
         refine tk 3 ⟨some 59, .load 2 (.tmp 58), 2, oz221, #[⟨2, .data⟩], none⟩ ?_
         refine tk 4 ⟨some 60, .binOp .gtr 2 (.tmp 59) (.const (.int .i64 0)) 2, 4, oz221, #[⟨3, .data⟩], none⟩ ?_
         (try rw [P5.out])
         refine tk 5 ⟨some 61, .move (.tmp 60), 4, oz221, #[⟨4, .data⟩], none⟩ ?_
         refine tk 6 ⟨some 62, .move (.tmp 2), 72, oz221, #[⟨5, .guard⟩], some (5, true)⟩ ?_
         refine tk 7 ⟨some 63, .nilCheck (.tmp 62), 0, oz221, oy27, some (5, true)⟩ ?_
         refine tk 8 ⟨some 64, .fieldAddr 29 (.tmp 63) 3, 0, oz221, oy28, some (5, true)⟩ ?_
         refine tk 9 ⟨some 65, .load 2 (.tmp 64), 2, oz221, oy29, some (5, true)⟩ ?_
         refine tk 10 ⟨some 66, .move (.tmp 0), 2, oz221, #[⟨5, .guard⟩], some (5, true)⟩ ?_
         refine tk 11 ⟨some 67, .move (.tmp 1), 27, oz221, #[⟨5, .guard⟩], some (5, true)⟩ ?_
         refine wpAnyH_ready (rs := [12]) (by kernel_rfl) (by simp) (AllReadyH.cons rfl (fun K hK => ?_) AllReadyH.nil)
         go_simp
         refine (HLg.out _ (X1.out.drew)).mono ?_
         rintro e y2 ⟨v3, g3, rfl, -, hO3, hb⟩
         have X2 : Hid (Ext w y2) := (X1.out.drew).trans hb
         obtain ⟨a3, c3, rfl, -⟩ := id hO3
         clear hb hO3
         refine hK.out _ _ (by exact HS.out _ X2.out) (fun hHeld2 => ?_)
         clear hK K
         refine tk 13 ⟨some 69, .call { callee := .builtin .len, args := #[.tmp 68], argTypes := #[38] }, 3, oz221, oy169, some (5, true)⟩ ?_
         refine tk 14 ⟨some 70, .binOp .gtr 2 (.tmp 65) (.tmp 69) 2, 4, oz221, oy222, some (5, true)⟩ ?_
         (try rw [P7.out])
         refine tk 15 ⟨some 71, .pick (.tmp 61) (.tmp 70) (.const (.bool false)), 4, oz221, oy223, none⟩ ?_
         refine wpAnyH_done (by kernel_rfl) ?_ _
         go_wp2
         go_ret
         exact ⟨ret_int HR.out.symm, X2.out⟩
       ·have P5 : Hid (decide ((0 : Int) < r.done) = false) := decide_eq_false h5
        have HR : Hid (Msg.repF f ms r = 0) := by show _ = _; unfold Msg.repF; rw [if_neg (by simp [HIn.out]), if_neg HL4.out, if_neg (by omega)]
        clear h5
        go_wp2
        refine wp_region_held_drew (S := (fun W' : World => W'.cell? ⟨b, 1, none⟩ = some (.int .i64 r.view) ∧ W'.cell? ⟨b, 2, none⟩ = some (.int .i64 r.start) ∧ W'.cell? ⟨b, 3, none⟩ = some (.int .i64 r.done))) (by kernel_rfl) (HS.out _ (X1.out.drew)) (fun hHeld => ?_)
        refine tk 0 ⟨some 56, .move (.tmp 2), 72, oz221, #[], none⟩ ?_
        refine tk 1 ⟨some 57, .nilCheck (.tmp 56), 0, oz221, #[⟨0, .data⟩], none⟩ ?_
        refine tk 2 ⟨some 58, .fieldAddr 29 (.tmp 57) 3, 0, oz221, #[⟨1, .data⟩], none⟩ ?_
        refine tk 3 ⟨some 59, .load 2 (.tmp 58), 2, oz221, #[⟨2, .data⟩], none⟩ ?_
        refine tk 4 ⟨some 60, .binOp .gtr 2 (.tmp 59) (.const (.int .i64 0)) 2, 4, oz221, #[⟨3, .data⟩], none⟩ ?_
        (try rw [P5.out])
        refine tk 5 ⟨some 61, .move (.tmp 60), 4, oz221, #[⟨4, .data⟩], none⟩ ?_
        refine tn 6 ⟨some 62, .move (.tmp 2), 72, oz221, #[⟨5, .guard⟩], some (5, true)⟩ ?_
        refine tn 7 ⟨some 63, .nilCheck (.tmp 62), 0, oz221, oy27, some (5, true)⟩ ?_
        refine tn 8 ⟨some 64, .fieldAddr 29 (.tmp 63) 3, 0, oz221, oy28, some (5, true)⟩ ?_
        refine tn 9 ⟨some 65, .load 2 (.tmp 64), 2, oz221, oy29, some (5, true)⟩ ?_
        refine tn 10 ⟨some 66, .move (.tmp 0), 2, oz221, #[⟨5, .guard⟩], some (5, true)⟩ ?_
        refine tn 11 ⟨some 67, .move (.tmp 1), 27, oz221, #[⟨5, .guard⟩], some (5, true)⟩ ?_
        refine tn 12 ⟨some 68, .call { callee := .value (.func 147), args := #[.tmp 66, .tmp 67], argTypes := #[2, 27] }, 38, oz221, #[⟨10, .data⟩, ⟨11, .data⟩, ⟨5, .chain⟩, ⟨5, .guard⟩], some (5, true)⟩ ?_
        refine tn 13 ⟨some 69, .call { callee := .builtin .len, args := #[.tmp 68], argTypes := #[38] }, 3, oz221, oy169, some (5, true)⟩ ?_
        refine tn 14 ⟨some 70, .binOp .gtr 2 (.tmp 65) (.tmp 69) 2, 4, oz221, oy222, some (5, true)⟩ ?_
        refine tk 15 ⟨some 71, .pick (.tmp 61) (.tmp 70) (.const (.bool false)), 4, oz221, oy223, none⟩ ?_
        refine wpAnyH_done (by kernel_rfl) ?_ _
        go_wp2
        go_ret
        exact ⟨ret_int HR.out.symm, (X1.out.drew)⟩

set_option linter.unusedSimpArgs false in
set_option maxHeartbeats 8000000 in
set_option maxRecDepth 100000 in
theorem l11Asked_any (f : Int) (v : Value) (ms : List Ms) (r : Rp) (b : Nat) (w : World) (hS : MSlice w v ms) (hR : RpAt w b r) :
  Calls Tryz.prog 43 #[.int .i64 f, v, .pointer (some ⟨b, 0, none⟩)] w fun e w' => e = .returned (.int .i64 (Msg.repC f ms r)) ∧ Ext w w' := by
 have HA : Hid (Calls Tryz.prog 93 #[.int .i64 f, v] w fun e w' => e = .returned (.int .i64 (Msg.ledger f ms)) ∧ Ext w w') := l8Asked_any f v ms w hS
 have HF : Hid (Msg.ledger f ms = 0 → ∀ wx, Ext w wx → Calls Tryz.prog 94 #[.int .i64 f, v, .pointer (some ⟨b, 0, none⟩)] wx fun e w' => e = .returned (.int .i64 (Msg.repF f ms r)) ∧ Ext wx w') := fun h wx he => l11Fault_any f v ms r b wx (hS.ext he) h (hR.ext he)
 clear hR
 obtain ⟨a, cap, rfl, -, -, -⟩ := hS
 go_enter Tryz.func43, Tryz.ntmps43
 by_cases hc : Msg.ledger f ms = 0
 ·have HR : Hid (Msg.repC f ms r = Msg.repF f ms r) := Msg.repC_ok hc
  have HF1 : Hid _ := HF.out hc
  rw [hc] at HA
  clear hc HF
  go_wp2_with fail
  refine HA.out.mono ?_
  rintro e w1 ⟨rfl, hb⟩
  have HE : Hid (Ext w w1) := hb
  clear hb
  go_wp2_with fail
  refine (HF1.out _ HE.out).mono ?_
  rintro e w2 ⟨rfl, hb⟩
  have HE2 : Hid (Ext w w2) := HE.out.trans hb
  clear hb
  go_wp2
  go_ret
  exact ⟨ret_int HR.out.symm, HE2.out⟩
 ·have HR : Hid (Msg.repC f ms r = Msg.ledger f ms) := Msg.repC_bad hc
  have g1 : (Msg.ledger f ms != 0) = true := by simpa using hc
  clear hc HF
  generalize Msg.ledger f ms = c at *
  go_wp2_with fail
  refine HA.out.mono ?_
  rintro e w1 ⟨rfl, hb⟩
  have HE : Hid (Ext w w1) := hb
  clear hb
  go_wp2
  go_ret
  exact ⟨ret_int HR.out.symm, HE.out⟩
end Go.Proofs.YtecgjdgfjgcmdaaGreat
