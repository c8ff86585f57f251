/- the specification's ReplicaFault. -/
import Derived.Test.YtecgjdgfjgcmdaaGreatRcGP
import Derived.Test.YtecgjdgfjgcmdaaGreatRcQV8s
import Derived.Test.YtecgjdgfjgcmdaaGreatRcQS5
import Derived.Deep.RegionHeld3
import Derived.Test.YtecgjdgfjgcmdaaGreatRcTk
namespace Go.Proofs.YtecgjdgfjgcmdaaGreat
open Go.RowKit
set_option linter.unusedSimpArgs false in
set_option maxHeartbeats 8000000 in
set_option maxRecDepth 100000 in
theorem l11Fault_any (f : Int) (v : Value) (ms : List Ms) (r : Rp) (b : Nat) (w : World) (hS : MSlice w v ms) (hled : Msg.ledger f ms = 0) (hR : RpAt w b r) :
    Calls Tryz.prog 94 #[.int .i64 f, v, .pointer (some ⟨b, 0, none⟩)] w fun e w' => e = .returned (.int .i64 (Msg.repF f ms r)) ∧ Ext w w' := by
  obtain ⟨hf0, hf1, hml⟩ := Msg.ledger_zero hled
  have HI1 : Hid (∀ bb, decide (1 ≤ r.id ∧ r.id ≤ 3 * f + 1) = bb → ∀ wx, Calls Tryz.prog 145 #[.int .i64 f, .int .i64 r.id] wx fun e w' => e = .returned (.bool bb) ∧ w' = wx) := fun bb h wx => l8Id_any f r.id bb wx hf0 hf1 (by rw [← h, Bool.decide_and])
  have HI2 : Hid (∀ bb, decide (0 ≤ r.view ∧ r.view ≤ 20) = bb → ∀ wx, Calls Tryz.prog 57 #[.int .i64 r.view, .int .i64 0, .int .i64 20] wx fun e w' => e = .returned (.bool bb) ∧ w' = wx) := fun bb h wx => l1In_isM r.view 0 20 bb wx (by rw [← h, Bool.decide_and])
  have HI3 : Hid (∀ bb, decide (0 ≤ r.done ∧ r.done ≤ 30) = bb → ∀ wx, Calls Tryz.prog 57 #[.int .i64 r.done, .int .i64 0, .int .i64 30] wx fun e w' => e = .returned (.bool bb) ∧ w' = wx) := fun bb h wx => l1In_isM r.done 0 30 bb wx (by rw [← h, Bool.decide_and])
  have HS0 : Hid (∀ bb, Msg.startB f ms r.view r.start = bb → ∀ wx, Ext w wx → Calls Tryz.prog 146 #[.int .i64 f, v, .int .i64 r.view, .int .i64 r.start] wx fun e w' => e = .returned (.bool bb) ∧ Ext wx w') := fun bb h wx he => by have q := l10Start_any f v ms r.view r.start wx (hS.ext he) hled; rw [h] at q; exact q
  have HLg : Hid (∀ wx, Ext w wx → Calls Tryz.prog 147 #[.int .i64 f, v] wx fun e w' => ∃ vo g, e = .returned vo ∧ wx.heap.size ≤ g ∧ Led.IOwn w' vo g (Msg.log f ms) ∧ Ext wx w') := fun wx he => l9Log_any f v ms wx (hS.ext he) hf0 hf1 hml
  have HS : Hid (∀ W', Ext w W' → W'.cell? ⟨b, 1, none⟩ = some (.int .i64 r.view) ∧ W'.cell? ⟨b, 2, none⟩ = some (.int .i64 r.start) ∧ W'.cell? ⟨b, 3, none⟩ = some (.int .i64 r.done)) := fun W' he => ⟨(hR.ext he).2.2.1, (hR.ext he).2.2.2.1, (hR.ext he).2.2.2.2⟩
  obtain ⟨hbl, x0, x1, x2, x3⟩ := hR
  obtain ⟨a, cap, rfl, -, -, -⟩ := hS
  clear hf0 hf1 hml hled
  cases h1 : decide (1 ≤ r.id ∧ r.id ≤ 3 * f + 1) with
  | false =>
    have HR : Hid (Msg.repF f ms r = 3) := by show _ = _; unfold Msg.repF; rw [if_pos (by unfold Msg.repIn; rw [h1]; rfl)]
    have J1 : Hid _ := HI1.out false h1
    clear h1 HI1 HI2 HI3 HS0 HLg HS
    go_enter Tryz.func94, Tryz.ntmps94
    go_wp2_with fail
    refine (J1.out _).mono ?_
    rintro e w9 ⟨rfl, hw⟩
    rw [hw]
    clear hw w9
    go_wp2
    go_ret
    exact ⟨ret_int HR.out.symm, Ext.refl _⟩
  | true =>
    have J1 : Hid _ := HI1.out true h1
    cases h2 : decide (0 ≤ r.view ∧ r.view ≤ 20) with
    | false =>
      have HR : Hid (Msg.repF f ms r = 3) := by show _ = _; unfold Msg.repF; rw [if_pos (by unfold Msg.repIn; rw [h1, h2]; rfl)]
      have J2 : Hid _ := HI2.out false h2
      clear h1 h2 HI1 HI2 HI3 HS0 HLg HS
      go_enter Tryz.func94, Tryz.ntmps94
      go_wp2_with fail
      refine (J1.out _).mono ?_
      rintro e w9 ⟨rfl, hw⟩
      rw [hw]
      clear hw w9
      go_wp2_with fail
      refine (J2.out _).mono ?_
      rintro e w9 ⟨rfl, hw⟩
      rw [hw]
      clear hw w9
      go_wp2
      go_ret
      exact ⟨ret_int HR.out.symm, Ext.refl _⟩
    | true =>
      have J2 : Hid _ := HI2.out true h2
      cases h3 : decide (0 ≤ r.done ∧ r.done ≤ 30) with
      | false =>
        have HR : Hid (Msg.repF f ms r = 3) := by show _ = _; unfold Msg.repF; rw [if_pos (by unfold Msg.repIn; rw [h1, h2, h3]; rfl)]
        have J3 : Hid _ := HI3.out false h3
        clear h1 h2 h3 HI1 HI2 HI3 HS0 HLg HS
        go_enter Tryz.func94, Tryz.ntmps94
        go_wp2_with fail
        refine (J1.out _).mono ?_
        rintro e w9 ⟨rfl, hw⟩
        rw [hw]
        clear hw w9
        go_wp2_with fail
        refine (J2.out _).mono ?_
        rintro e w9 ⟨rfl, hw⟩
        rw [hw]
        clear hw w9
        go_wp2_with fail
        refine (J3.out _).mono ?_
        rintro e w9 ⟨rfl, hw⟩
        rw [hw]
        clear hw w9
        go_wp2
        go_ret
        exact ⟨ret_int HR.out.symm, Ext.refl _⟩
      | true =>
        have J3 : Hid _ := HI3.out true h3
        have HIn : Hid (Msg.repIn f r = true) := by show _ = _; unfold Msg.repIn; rw [h1, h2, h3]; rfl
        clear h1 h2 h3 HI1 HI2 HI3
        by_cases h6 : r.start = -1
        · have g4 : (r.start != -1) = false := by simpa using h6
          have HL4 : Hid (¬ (¬ r.start = -1 ∧ Msg.startB f ms r.view r.start = false)) := fun h => h.1 h6
          clear h6 HS0
          go_enter Tryz.func94, Tryz.ntmps94
          go_wp2_with fail
          refine (J1.out _).mono ?_
          rintro e w9 ⟨rfl, hw⟩
          rw [hw]
          clear hw w9
          go_wp2_with fail
          refine (J2.out _).mono ?_
          rintro e w9 ⟨rfl, hw⟩
          rw [hw]
          clear hw w9
          go_wp2_with fail
          refine (J3.out _).mono ?_
          rintro e w9 ⟨rfl, hw⟩
          rw [hw]
          clear hw w9
          go_wp2
          clear x0 x1 x2 x3
          refine wp_region_held_drew (S := (fun W' : World => W'.cell? ⟨b, 1, none⟩ = some (.int .i64 r.view) ∧ W'.cell? ⟨b, 2, none⟩ = some (.int .i64 r.start) ∧ W'.cell? ⟨b, 3, none⟩ = some (.int .i64 r.done))) (by kernel_rfl) (HS.out _ ((Ext.refl _).drew)) (fun hHeld => ?_)
          refine tk 0 { dst := some 30, op := Op.move (.tmp 2), type := 72, pos := "l11_replica.go:11", after := #[], guard := none } ?_
          refine tk 1 { dst := some 31, op := Op.nilCheck (.tmp 30), type := 0, pos := "l11_replica.go:11", after := #[⟨0, .data⟩], guard := none } ?_
          refine tk 2 { dst := some 32, op := Op.fieldAddr 29 (.tmp 31) 2, type := 0, pos := "l11_replica.go:11", after := #[⟨1, .data⟩], guard := none } ?_
          refine tk 3 { dst := some 33, op := Op.load 2 (.tmp 32), type := 2, pos := "l11_replica.go:11", after := #[⟨2, .data⟩], guard := none } ?_
          refine tk 4 { dst := some 34, op := Op.binOp BinOp.neq 2 (.tmp 33) (Operand.const (Value.int IntKind.i64 (-1))) 2, type := 4, pos := "l11_replica.go:11", after := #[⟨3, .data⟩], guard := none } ?_
          refine tk 5 { dst := some 35, op := Op.move (.tmp 34), type := 4, pos := "l11_replica.go:11", after := #[⟨4, .data⟩], guard := none } ?_
          refine tn 6 { dst := some 36, op := Op.move (.tmp 2), type := 72, pos := "l11_replica.go:11", after := #[⟨5, .guard⟩], guard := some (5, true) } ?_
          refine tn 7 { dst := some 37, op := Op.nilCheck (.tmp 36), type := 0, pos := "l11_replica.go:11", after := #[⟨6, .data⟩, ⟨5, .guard⟩], guard := some (5, true) } ?_
          refine tn 8 { dst := some 38, op := Op.fieldAddr 29 (.tmp 37) 1, type := 0, pos := "l11_replica.go:11", after := #[⟨7, .data⟩, ⟨5, .guard⟩], guard := some (5, true) } ?_
          refine tn 9 { dst := some 39, op := Op.load 2 (.tmp 38), type := 2, pos := "l11_replica.go:11", after := #[⟨8, .data⟩, ⟨5, .guard⟩], guard := some (5, true) } ?_
          refine tn 10 { dst := some 40, op := Op.binOp BinOp.eql 2 (.tmp 39) (Operand.const (Value.int IntKind.i64 0)) 2, type := 4, pos := "l11_replica.go:11", after := #[⟨9, .data⟩, ⟨5, .guard⟩], guard := some (5, true) } ?_
          refine tn 11 { dst := some 41, op := Op.move (.tmp 40), type := 4, pos := "l11_replica.go:11", after := #[⟨10, .data⟩, ⟨5, .chain⟩, ⟨5, .guard⟩], guard := some (5, true) } ?_
          refine tn 12 { dst := some 42, op := Op.move (.tmp 0), type := 2, pos := "l11_replica.go:11", after := #[⟨11, .guard⟩], guard := some (11, false) } ?_
          refine tn 13 { dst := some 43, op := Op.move (.tmp 1), type := 27, pos := "l11_replica.go:11", after := #[⟨11, .guard⟩], guard := some (11, false) } ?_
          refine tn 14 { dst := some 44, op := Op.move (.tmp 2), type := 72, pos := "l11_replica.go:11", after := #[⟨11, .guard⟩], guard := some (11, false) } ?_
          refine tn 15 { dst := some 45, op := Op.nilCheck (.tmp 44), type := 0, pos := "l11_replica.go:11", after := #[⟨14, .data⟩, ⟨11, .guard⟩], guard := some (11, false) } ?_
          refine tn 16 { dst := some 46, op := Op.fieldAddr 29 (.tmp 45) 1, type := 0, pos := "l11_replica.go:11", after := #[⟨15, .data⟩, ⟨11, .guard⟩], guard := some (11, false) } ?_
          refine tn 17 { dst := some 47, op := Op.load 2 (.tmp 46), type := 2, pos := "l11_replica.go:11", after := #[⟨16, .data⟩, ⟨11, .guard⟩], guard := some (11, false) } ?_
          refine tn 18 { dst := some 48, op := Op.move (.tmp 2), type := 72, pos := "l11_replica.go:11", after := #[⟨11, .guard⟩], guard := some (11, false) } ?_
          refine tn 19 { dst := some 49, op := Op.nilCheck (.tmp 48), type := 0, pos := "l11_replica.go:11", after := #[⟨18, .data⟩, ⟨11, .guard⟩], guard := some (11, false) } ?_
          refine tn 20 { dst := some 50, op := Op.fieldAddr 29 (.tmp 49) 2, type := 0, pos := "l11_replica.go:11", after := #[⟨19, .data⟩, ⟨11, .guard⟩], guard := some (11, false) } ?_
          refine tn 21 { dst := some 51, op := Op.load 2 (.tmp 50), type := 2, pos := "l11_replica.go:11", after := #[⟨20, .data⟩, ⟨11, .guard⟩], guard := some (11, false) } ?_
          refine tn 22 { dst := some 52, op := Op.call { callee := Callee.value (Operand.func 146), args := #[.tmp 42, .tmp 43, .tmp 47, .tmp 51], argTypes := #[2, 27, 2, 2] }, type := 4, pos := "l11_replica.go:11", after := #[⟨12, .data⟩, ⟨13, .data⟩, ⟨17, .data⟩, ⟨21, .data⟩, ⟨11, .chain⟩, ⟨11, .guard⟩], guard := some (11, false) } ?_
          refine tn 23 { dst := some 53, op := Op.unOp UnOp.not 4 (.tmp 52), type := 4, pos := "l11_replica.go:11", after := #[⟨22, .data⟩, ⟨11, .guard⟩], guard := some (11, false) } ?_
          refine tn 24 { dst := some 54, op := Op.pick (.tmp 41) (Operand.const (Value.bool true)) (.tmp 53), type := 4, pos := "l11_replica.go:11", after := #[⟨11, .data⟩, ⟨23, .data⟩, ⟨5, .guard⟩], guard := some (5, true) } ?_
          refine tk 25 { dst := some 55, op := Op.pick (.tmp 35) (.tmp 54) (Operand.const (Value.bool false)), type := 4, pos := "l11_replica.go:11", after := #[⟨5, .data⟩, ⟨24, .data⟩], guard := none } ?_
          refine wpAnyH_done (by kernel_rfl) ?_ _
          by_cases h5 : (0 : Int) < r.done
          · have P5 : Hid (decide ((0 : Int) < r.done) = true) := decide_eq_true h5
            by_cases h7 : ((Msg.log f ms).length : Int) < r.done
            · have HR : Hid (Msg.repF f ms r = 8) := by show _ = _; unfold Msg.repF; rw [if_neg (by simp [HIn.out]), if_neg HL4.out, if_pos h7]
              have P7 : Hid (decide (((Msg.log f ms).length : Int) < r.done) = true) := decide_eq_true h7
              clear h5 h7
              go_wp2
              refine wp_region_held_drew (S := (fun W' : World => W'.cell? ⟨b, 1, none⟩ = some (.int .i64 r.view) ∧ W'.cell? ⟨b, 2, none⟩ = some (.int .i64 r.start) ∧ W'.cell? ⟨b, 3, none⟩ = some (.int .i64 r.done))) (by kernel_rfl) (HS.out _ (((Ext.refl w).drew).drew)) (fun hHeld => ?_)
              refine tk 0 { dst := some 56, op := Op.move (.tmp 2), type := 72, pos := "l11_replica.go:14", after := #[], guard := none } ?_
              refine tk 1 { dst := some 57, op := Op.nilCheck (.tmp 56), type := 0, pos := "l11_replica.go:14", after := #[⟨0, .data⟩], guard := none } ?_
              refine tk 2 { dst := some 58, op := Op.fieldAddr 29 (.tmp 57) 3, type := 0, pos := "l11_replica.go:14", after := #[⟨1, .data⟩], guard := none } ?_
              refine tk 3 { dst := some 59, op := Op.load 2 (.tmp 58), type := 2, pos := "l11_replica.go:14", after := #[⟨2, .data⟩], guard := none } ?_
              refine tk 4 { dst := some 60, op := Op.binOp BinOp.gtr 2 (.tmp 59) (Operand.const (Value.int IntKind.i64 0)) 2, type := 4, pos := "l11_replica.go:14", after := #[⟨3, .data⟩], guard := none } ?_
              (try rw [P5.out])
              refine tk 5 { dst := some 61, op := Op.move (.tmp 60), type := 4, pos := "l11_replica.go:14", after := #[⟨4, .data⟩], guard := none } ?_
              refine tk 6 { dst := some 62, op := Op.move (.tmp 2), type := 72, pos := "l11_replica.go:14", after := #[⟨5, .guard⟩], guard := some (5, true) } ?_
              refine tk 7 { dst := some 63, op := Op.nilCheck (.tmp 62), type := 0, pos := "l11_replica.go:14", after := #[⟨6, .data⟩, ⟨5, .guard⟩], guard := some (5, true) } ?_
              refine tk 8 { dst := some 64, op := Op.fieldAddr 29 (.tmp 63) 3, type := 0, pos := "l11_replica.go:14", after := #[⟨7, .data⟩, ⟨5, .guard⟩], guard := some (5, true) } ?_
              refine tk 9 { dst := some 65, op := Op.load 2 (.tmp 64), type := 2, pos := "l11_replica.go:14", after := #[⟨8, .data⟩, ⟨5, .guard⟩], guard := some (5, true) } ?_
              refine tk 10 { dst := some 66, op := Op.move (.tmp 0), type := 2, pos := "l11_replica.go:14", after := #[⟨5, .guard⟩], guard := some (5, true) } ?_
              refine tk 11 { dst := some 67, op := Op.move (.tmp 1), type := 27, pos := "l11_replica.go:14", after := #[⟨5, .guard⟩], guard := some (5, true) } ?_
              refine wpAnyH_ready (rs := [12]) (by kernel_rfl) (by simp) (AllReadyH.cons rfl (fun K hK => ?_) AllReadyH.nil)
              go_simp
              refine (HLg.out _ (((Ext.refl w).drew).drew)).mono ?_
              rintro e y2 ⟨v3, g3, rfl, -, hO3, hb⟩
              have X2 : Hid (Ext w y2) := (((Ext.refl w).drew).drew).trans hb
              obtain ⟨a3, c3, rfl, -⟩ := id hO3
              clear hb hO3
              refine hK.out _ _ (by exact HS.out _ X2.out) (fun hHeld2 => ?_)
              clear hK K
              refine tk 13 { dst := some 69, op := Op.call { callee := Callee.builtin Builtin.len, args := #[.tmp 68], argTypes := #[38] }, type := 3, pos := "l11_replica.go:14", after := #[⟨12, .data⟩, ⟨5, .guard⟩], guard := some (5, true) } ?_
              refine tk 14 { dst := some 70, op := Op.binOp BinOp.gtr 2 (.tmp 65) (.tmp 69) 2, type := 4, pos := "l11_replica.go:14", after := #[⟨9, .data⟩, ⟨13, .data⟩, ⟨5, .guard⟩], guard := some (5, true) } ?_
              (try rw [P7.out])
              refine tk 15 { dst := some 71, op := Op.pick (.tmp 61) (.tmp 70) (Operand.const (Value.bool false)), type := 4, pos := "l11_replica.go:14", after := #[⟨5, .data⟩, ⟨14, .data⟩], guard := none } ?_
              refine wpAnyH_done (by kernel_rfl) ?_ _
              go_wp2
              go_ret
              exact ⟨ret_int HR.out.symm, X2.out⟩
            · have HR : Hid (Msg.repF f ms r = 0) := by show _ = _; unfold Msg.repF; rw [if_neg (by simp [HIn.out]), if_neg HL4.out, if_neg h7]
              have P7 : Hid (decide (((Msg.log f ms).length : Int) < r.done) = false) := decide_eq_false h7
              clear h5 h7
              go_wp2
              refine wp_region_held_drew (S := (fun W' : World => W'.cell? ⟨b, 1, none⟩ = some (.int .i64 r.view) ∧ W'.cell? ⟨b, 2, none⟩ = some (.int .i64 r.start) ∧ W'.cell? ⟨b, 3, none⟩ = some (.int .i64 r.done))) (by kernel_rfl) (HS.out _ (((Ext.refl w).drew).drew)) (fun hHeld => ?_)
              refine tk 0 { dst := some 56, op := Op.move (.tmp 2), type := 72, pos := "l11_replica.go:14", after := #[], guard := none } ?_
              refine tk 1 { dst := some 57, op := Op.nilCheck (.tmp 56), type := 0, pos := "l11_replica.go:14", after := #[⟨0, .data⟩], guard := none } ?_
              refine tk 2 { dst := some 58, op := Op.fieldAddr 29 (.tmp 57) 3, type := 0, pos := "l11_replica.go:14", after := #[⟨1, .data⟩], guard := none } ?_
              refine tk 3 { dst := some 59, op := Op.load 2 (.tmp 58), type := 2, pos := "l11_replica.go:14", after := #[⟨2, .data⟩], guard := none } ?_
              refine tk 4 { dst := some 60, op := Op.binOp BinOp.gtr 2 (.tmp 59) (Operand.const (Value.int IntKind.i64 0)) 2, type := 4, pos := "l11_replica.go:14", after := #[⟨3, .data⟩], guard := none } ?_
              (try rw [P5.out])
              refine tk 5 { dst := some 61, op := Op.move (.tmp 60), type := 4, pos := "l11_replica.go:14", after := #[⟨4, .data⟩], guard := none } ?_
              refine tk 6 { dst := some 62, op := Op.move (.tmp 2), type := 72, pos := "l11_replica.go:14", after := #[⟨5, .guard⟩], guard := some (5, true) } ?_
              refine tk 7 { dst := some 63, op := Op.nilCheck (.tmp 62), type := 0, pos := "l11_replica.go:14", after := #[⟨6, .data⟩, ⟨5, .guard⟩], guard := some (5, true) } ?_
              refine tk 8 { dst := some 64, op := Op.fieldAddr 29 (.tmp 63) 3, type := 0, pos := "l11_replica.go:14", after := #[⟨7, .data⟩, ⟨5, .guard⟩], guard := some (5, true) } ?_
              refine tk 9 { dst := some 65, op := Op.load 2 (.tmp 64), type := 2, pos := "l11_replica.go:14", after := #[⟨8, .data⟩, ⟨5, .guard⟩], guard := some (5, true) } ?_
              refine tk 10 { dst := some 66, op := Op.move (.tmp 0), type := 2, pos := "l11_replica.go:14", after := #[⟨5, .guard⟩], guard := some (5, true) } ?_
              refine tk 11 { dst := some 67, op := Op.move (.tmp 1), type := 27, pos := "l11_replica.go:14", after := #[⟨5, .guard⟩], guard := some (5, true) } ?_
              refine wpAnyH_ready (rs := [12]) (by kernel_rfl) (by simp) (AllReadyH.cons rfl (fun K hK => ?_) AllReadyH.nil)
              go_simp
              refine (HLg.out _ (((Ext.refl w).drew).drew)).mono ?_
              rintro e y2 ⟨v3, g3, rfl, -, hO3, hb⟩
              have X2 : Hid (Ext w y2) := (((Ext.refl w).drew).drew).trans hb
              obtain ⟨a3, c3, rfl, -⟩ := id hO3
              clear hb hO3
              refine hK.out _ _ (by exact HS.out _ X2.out) (fun hHeld2 => ?_)
              clear hK K
              refine tk 13 { dst := some 69, op := Op.call { callee := Callee.builtin Builtin.len, args := #[.tmp 68], argTypes := #[38] }, type := 3, pos := "l11_replica.go:14", after := #[⟨12, .data⟩, ⟨5, .guard⟩], guard := some (5, true) } ?_
              refine tk 14 { dst := some 70, op := Op.binOp BinOp.gtr 2 (.tmp 65) (.tmp 69) 2, type := 4, pos := "l11_replica.go:14", after := #[⟨9, .data⟩, ⟨13, .data⟩, ⟨5, .guard⟩], guard := some (5, true) } ?_
              (try rw [P7.out])
              refine tk 15 { dst := some 71, op := Op.pick (.tmp 61) (.tmp 70) (Operand.const (Value.bool false)), type := 4, pos := "l11_replica.go:14", after := #[⟨5, .data⟩, ⟨14, .data⟩], guard := none } ?_
              refine wpAnyH_done (by kernel_rfl) ?_ _
              go_wp2
              go_ret
              exact ⟨ret_int HR.out.symm, X2.out⟩
          · have P5 : Hid (decide ((0 : Int) < r.done) = false) := decide_eq_false h5
            have HR : Hid (Msg.repF f ms r = 0) := by show _ = _; unfold Msg.repF; rw [if_neg (by simp [HIn.out]), if_neg HL4.out, if_neg (by omega)]
            clear h5
            go_wp2
            refine wp_region_held_drew (S := (fun W' : World => W'.cell? ⟨b, 1, none⟩ = some (.int .i64 r.view) ∧ W'.cell? ⟨b, 2, none⟩ = some (.int .i64 r.start) ∧ W'.cell? ⟨b, 3, none⟩ = some (.int .i64 r.done))) (by kernel_rfl) (HS.out _ (((Ext.refl w).drew).drew)) (fun hHeld => ?_)
            refine tk 0 { dst := some 56, op := Op.move (.tmp 2), type := 72, pos := "l11_replica.go:14", after := #[], guard := none } ?_
            refine tk 1 { dst := some 57, op := Op.nilCheck (.tmp 56), type := 0, pos := "l11_replica.go:14", after := #[⟨0, .data⟩], guard := none } ?_
            refine tk 2 { dst := some 58, op := Op.fieldAddr 29 (.tmp 57) 3, type := 0, pos := "l11_replica.go:14", after := #[⟨1, .data⟩], guard := none } ?_
            refine tk 3 { dst := some 59, op := Op.load 2 (.tmp 58), type := 2, pos := "l11_replica.go:14", after := #[⟨2, .data⟩], guard := none } ?_
            refine tk 4 { dst := some 60, op := Op.binOp BinOp.gtr 2 (.tmp 59) (Operand.const (Value.int IntKind.i64 0)) 2, type := 4, pos := "l11_replica.go:14", after := #[⟨3, .data⟩], guard := none } ?_
            (try rw [P5.out])
            refine tk 5 { dst := some 61, op := Op.move (.tmp 60), type := 4, pos := "l11_replica.go:14", after := #[⟨4, .data⟩], guard := none } ?_
            refine tn 6 { dst := some 62, op := Op.move (.tmp 2), type := 72, pos := "l11_replica.go:14", after := #[⟨5, .guard⟩], guard := some (5, true) } ?_
            refine tn 7 { dst := some 63, op := Op.nilCheck (.tmp 62), type := 0, pos := "l11_replica.go:14", after := #[⟨6, .data⟩, ⟨5, .guard⟩], guard := some (5, true) } ?_
            refine tn 8 { dst := some 64, op := Op.fieldAddr 29 (.tmp 63) 3, type := 0, pos := "l11_replica.go:14", after := #[⟨7, .data⟩, ⟨5, .guard⟩], guard := some (5, true) } ?_
            refine tn 9 { dst := some 65, op := Op.load 2 (.tmp 64), type := 2, pos := "l11_replica.go:14", after := #[⟨8, .data⟩, ⟨5, .guard⟩], guard := some (5, true) } ?_
            refine tn 10 { dst := some 66, op := Op.move (.tmp 0), type := 2, pos := "l11_replica.go:14", after := #[⟨5, .guard⟩], guard := some (5, true) } ?_
            refine tn 11 { dst := some 67, op := Op.move (.tmp 1), type := 27, pos := "l11_replica.go:14", after := #[⟨5, .guard⟩], guard := some (5, true) } ?_
            refine tn 12 { dst := some 68, op := Op.call { callee := Callee.value (Operand.func 147), args := #[.tmp 66, .tmp 67], argTypes := #[2, 27] }, type := 38, pos := "l11_replica.go:14", after := #[⟨10, .data⟩, ⟨11, .data⟩, ⟨5, .chain⟩, ⟨5, .guard⟩], guard := some (5, true) } ?_
            refine tn 13 { dst := some 69, op := Op.call { callee := Callee.builtin Builtin.len, args := #[.tmp 68], argTypes := #[38] }, type := 3, pos := "l11_replica.go:14", after := #[⟨12, .data⟩, ⟨5, .guard⟩], guard := some (5, true) } ?_
            refine tn 14 { dst := some 70, op := Op.binOp BinOp.gtr 2 (.tmp 65) (.tmp 69) 2, type := 4, pos := "l11_replica.go:14", after := #[⟨9, .data⟩, ⟨13, .data⟩, ⟨5, .guard⟩], guard := some (5, true) } ?_
            refine tk 15 { dst := some 71, op := Op.pick (.tmp 61) (.tmp 70) (Operand.const (Value.bool false)), type := 4, pos := "l11_replica.go:14", after := #[⟨5, .data⟩, ⟨14, .data⟩], guard := none } ?_
            refine wpAnyH_done (by kernel_rfl) ?_ _
            go_wp2
            go_ret
            exact ⟨ret_int HR.out.symm, (((Ext.refl w).drew).drew)⟩
        · have g4 : (r.start != -1) = true := by simpa using h6
          by_cases h0 : r.view = 0
          · have g5 : (r.view == 0) = true := by simpa using h0
            have HR : Hid (Msg.repF f ms r = 1) := by show _ = _; unfold Msg.repF; rw [if_neg (by simp [HIn.out]), if_pos ⟨h6, by rw [h0, Msg.startB_zero]; exact decide_eq_false h6⟩]
            clear h6 h0 HS0 HLg
            go_enter Tryz.func94, Tryz.ntmps94
            go_wp2_with fail
            refine (J1.out _).mono ?_
            rintro e w9 ⟨rfl, hw⟩
            rw [hw]
            clear hw w9
            go_wp2_with fail
            refine (J2.out _).mono ?_
            rintro e w9 ⟨rfl, hw⟩
            rw [hw]
            clear hw w9
            go_wp2_with fail
            refine (J3.out _).mono ?_
            rintro e w9 ⟨rfl, hw⟩
            rw [hw]
            clear hw w9
            go_wp2
            clear x0 x1 x2 x3
            refine wp_region_held_drew (S := (fun W' : World => W'.cell? ⟨b, 1, none⟩ = some (.int .i64 r.view) ∧ W'.cell? ⟨b, 2, none⟩ = some (.int .i64 r.start) ∧ W'.cell? ⟨b, 3, none⟩ = some (.int .i64 r.done))) (by kernel_rfl) (HS.out _ ((Ext.refl _).drew)) (fun hHeld => ?_)
            refine tk 0 { dst := some 30, op := Op.move (.tmp 2), type := 72, pos := "l11_replica.go:11", after := #[], guard := none } ?_
            refine tk 1 { dst := some 31, op := Op.nilCheck (.tmp 30), type := 0, pos := "l11_replica.go:11", after := #[⟨0, .data⟩], guard := none } ?_
            refine tk 2 { dst := some 32, op := Op.fieldAddr 29 (.tmp 31) 2, type := 0, pos := "l11_replica.go:11", after := #[⟨1, .data⟩], guard := none } ?_
            refine tk 3 { dst := some 33, op := Op.load 2 (.tmp 32), type := 2, pos := "l11_replica.go:11", after := #[⟨2, .data⟩], guard := none } ?_
            refine tk 4 { dst := some 34, op := Op.binOp BinOp.neq 2 (.tmp 33) (Operand.const (Value.int IntKind.i64 (-1))) 2, type := 4, pos := "l11_replica.go:11", after := #[⟨3, .data⟩], guard := none } ?_
            refine tk 5 { dst := some 35, op := Op.move (.tmp 34), type := 4, pos := "l11_replica.go:11", after := #[⟨4, .data⟩], guard := none } ?_
            refine tk 6 { dst := some 36, op := Op.move (.tmp 2), type := 72, pos := "l11_replica.go:11", after := #[⟨5, .guard⟩], guard := some (5, true) } ?_
            refine tk 7 { dst := some 37, op := Op.nilCheck (.tmp 36), type := 0, pos := "l11_replica.go:11", after := #[⟨6, .data⟩, ⟨5, .guard⟩], guard := some (5, true) } ?_
            refine tk 8 { dst := some 38, op := Op.fieldAddr 29 (.tmp 37) 1, type := 0, pos := "l11_replica.go:11", after := #[⟨7, .data⟩, ⟨5, .guard⟩], guard := some (5, true) } ?_
            refine tk 9 { dst := some 39, op := Op.load 2 (.tmp 38), type := 2, pos := "l11_replica.go:11", after := #[⟨8, .data⟩, ⟨5, .guard⟩], guard := some (5, true) } ?_
            refine tk 10 { dst := some 40, op := Op.binOp BinOp.eql 2 (.tmp 39) (Operand.const (Value.int IntKind.i64 0)) 2, type := 4, pos := "l11_replica.go:11", after := #[⟨9, .data⟩, ⟨5, .guard⟩], guard := some (5, true) } ?_
            refine tk 11 { dst := some 41, op := Op.move (.tmp 40), type := 4, pos := "l11_replica.go:11", after := #[⟨10, .data⟩, ⟨5, .chain⟩, ⟨5, .guard⟩], guard := some (5, true) } ?_
            refine tn 12 { dst := some 42, op := Op.move (.tmp 0), type := 2, pos := "l11_replica.go:11", after := #[⟨11, .guard⟩], guard := some (11, false) } ?_
            refine tn 13 { dst := some 43, op := Op.move (.tmp 1), type := 27, pos := "l11_replica.go:11", after := #[⟨11, .guard⟩], guard := some (11, false) } ?_
            refine tn 14 { dst := some 44, op := Op.move (.tmp 2), type := 72, pos := "l11_replica.go:11", after := #[⟨11, .guard⟩], guard := some (11, false) } ?_
            refine tn 15 { dst := some 45, op := Op.nilCheck (.tmp 44), type := 0, pos := "l11_replica.go:11", after := #[⟨14, .data⟩, ⟨11, .guard⟩], guard := some (11, false) } ?_
            refine tn 16 { dst := some 46, op := Op.fieldAddr 29 (.tmp 45) 1, type := 0, pos := "l11_replica.go:11", after := #[⟨15, .data⟩, ⟨11, .guard⟩], guard := some (11, false) } ?_
            refine tn 17 { dst := some 47, op := Op.load 2 (.tmp 46), type := 2, pos := "l11_replica.go:11", after := #[⟨16, .data⟩, ⟨11, .guard⟩], guard := some (11, false) } ?_
            refine tn 18 { dst := some 48, op := Op.move (.tmp 2), type := 72, pos := "l11_replica.go:11", after := #[⟨11, .guard⟩], guard := some (11, false) } ?_
            refine tn 19 { dst := some 49, op := Op.nilCheck (.tmp 48), type := 0, pos := "l11_replica.go:11", after := #[⟨18, .data⟩, ⟨11, .guard⟩], guard := some (11, false) } ?_
            refine tn 20 { dst := some 50, op := Op.fieldAddr 29 (.tmp 49) 2, type := 0, pos := "l11_replica.go:11", after := #[⟨19, .data⟩, ⟨11, .guard⟩], guard := some (11, false) } ?_
            refine tn 21 { dst := some 51, op := Op.load 2 (.tmp 50), type := 2, pos := "l11_replica.go:11", after := #[⟨20, .data⟩, ⟨11, .guard⟩], guard := some (11, false) } ?_
            refine tn 22 { dst := some 52, op := Op.call { callee := Callee.value (Operand.func 146), args := #[.tmp 42, .tmp 43, .tmp 47, .tmp 51], argTypes := #[2, 27, 2, 2] }, type := 4, pos := "l11_replica.go:11", after := #[⟨12, .data⟩, ⟨13, .data⟩, ⟨17, .data⟩, ⟨21, .data⟩, ⟨11, .chain⟩, ⟨11, .guard⟩], guard := some (11, false) } ?_
            refine tn 23 { dst := some 53, op := Op.unOp UnOp.not 4 (.tmp 52), type := 4, pos := "l11_replica.go:11", after := #[⟨22, .data⟩, ⟨11, .guard⟩], guard := some (11, false) } ?_
            refine tk 24 { dst := some 54, op := Op.pick (.tmp 41) (Operand.const (Value.bool true)) (.tmp 53), type := 4, pos := "l11_replica.go:11", after := #[⟨11, .data⟩, ⟨23, .data⟩, ⟨5, .guard⟩], guard := some (5, true) } ?_
            refine tk 25 { dst := some 55, op := Op.pick (.tmp 35) (.tmp 54) (Operand.const (Value.bool false)), type := 4, pos := "l11_replica.go:11", after := #[⟨5, .data⟩, ⟨24, .data⟩], guard := none } ?_
            refine wpAnyH_done (by kernel_rfl) ?_ _
            go_wp2
            go_ret
            exact ⟨ret_int HR.out.symm, ((Ext.refl w).drew)⟩
          · have g5 : (r.view == 0) = false := by simpa using h0
            clear h0
            cases h5 : Msg.startB f ms r.view r.start with
            | false =>
              have HSt : Hid _ := HS0.out false h5
              have HR : Hid (Msg.repF f ms r = 1) := by show _ = _; unfold Msg.repF; rw [if_neg (by simp [HIn.out]), if_pos ⟨h6, h5⟩]
              clear h5 h6 HS0 HLg
              go_enter Tryz.func94, Tryz.ntmps94
              go_wp2_with fail
              refine (J1.out _).mono ?_
              rintro e w9 ⟨rfl, hw⟩
              rw [hw]
              clear hw w9
              go_wp2_with fail
              refine (J2.out _).mono ?_
              rintro e w9 ⟨rfl, hw⟩
              rw [hw]
              clear hw w9
              go_wp2_with fail
              refine (J3.out _).mono ?_
              rintro e w9 ⟨rfl, hw⟩
              rw [hw]
              clear hw w9
              go_wp2
              clear x0 x1 x2 x3
              refine wp_region_held_drew (S := (fun W' : World => W'.cell? ⟨b, 1, none⟩ = some (.int .i64 r.view) ∧ W'.cell? ⟨b, 2, none⟩ = some (.int .i64 r.start) ∧ W'.cell? ⟨b, 3, none⟩ = some (.int .i64 r.done))) (by kernel_rfl) (HS.out _ ((Ext.refl _).drew)) (fun hHeld => ?_)
              refine tk 0 { dst := some 30, op := Op.move (.tmp 2), type := 72, pos := "l11_replica.go:11", after := #[], guard := none } ?_
              refine tk 1 { dst := some 31, op := Op.nilCheck (.tmp 30), type := 0, pos := "l11_replica.go:11", after := #[⟨0, .data⟩], guard := none } ?_
              refine tk 2 { dst := some 32, op := Op.fieldAddr 29 (.tmp 31) 2, type := 0, pos := "l11_replica.go:11", after := #[⟨1, .data⟩], guard := none } ?_
              refine tk 3 { dst := some 33, op := Op.load 2 (.tmp 32), type := 2, pos := "l11_replica.go:11", after := #[⟨2, .data⟩], guard := none } ?_
              refine tk 4 { dst := some 34, op := Op.binOp BinOp.neq 2 (.tmp 33) (Operand.const (Value.int IntKind.i64 (-1))) 2, type := 4, pos := "l11_replica.go:11", after := #[⟨3, .data⟩], guard := none } ?_
              refine tk 5 { dst := some 35, op := Op.move (.tmp 34), type := 4, pos := "l11_replica.go:11", after := #[⟨4, .data⟩], guard := none } ?_
              refine tk 6 { dst := some 36, op := Op.move (.tmp 2), type := 72, pos := "l11_replica.go:11", after := #[⟨5, .guard⟩], guard := some (5, true) } ?_
              refine tk 7 { dst := some 37, op := Op.nilCheck (.tmp 36), type := 0, pos := "l11_replica.go:11", after := #[⟨6, .data⟩, ⟨5, .guard⟩], guard := some (5, true) } ?_
              refine tk 8 { dst := some 38, op := Op.fieldAddr 29 (.tmp 37) 1, type := 0, pos := "l11_replica.go:11", after := #[⟨7, .data⟩, ⟨5, .guard⟩], guard := some (5, true) } ?_
              refine tk 9 { dst := some 39, op := Op.load 2 (.tmp 38), type := 2, pos := "l11_replica.go:11", after := #[⟨8, .data⟩, ⟨5, .guard⟩], guard := some (5, true) } ?_
              refine tk 10 { dst := some 40, op := Op.binOp BinOp.eql 2 (.tmp 39) (Operand.const (Value.int IntKind.i64 0)) 2, type := 4, pos := "l11_replica.go:11", after := #[⟨9, .data⟩, ⟨5, .guard⟩], guard := some (5, true) } ?_
              refine tk 11 { dst := some 41, op := Op.move (.tmp 40), type := 4, pos := "l11_replica.go:11", after := #[⟨10, .data⟩, ⟨5, .chain⟩, ⟨5, .guard⟩], guard := some (5, true) } ?_
              refine tk 12 { dst := some 42, op := Op.move (.tmp 0), type := 2, pos := "l11_replica.go:11", after := #[⟨11, .guard⟩], guard := some (11, false) } ?_
              refine tk 13 { dst := some 43, op := Op.move (.tmp 1), type := 27, pos := "l11_replica.go:11", after := #[⟨11, .guard⟩], guard := some (11, false) } ?_
              refine tk 14 { dst := some 44, op := Op.move (.tmp 2), type := 72, pos := "l11_replica.go:11", after := #[⟨11, .guard⟩], guard := some (11, false) } ?_
              refine tk 15 { dst := some 45, op := Op.nilCheck (.tmp 44), type := 0, pos := "l11_replica.go:11", after := #[⟨14, .data⟩, ⟨11, .guard⟩], guard := some (11, false) } ?_
              refine tk 16 { dst := some 46, op := Op.fieldAddr 29 (.tmp 45) 1, type := 0, pos := "l11_replica.go:11", after := #[⟨15, .data⟩, ⟨11, .guard⟩], guard := some (11, false) } ?_
              refine tk 17 { dst := some 47, op := Op.load 2 (.tmp 46), type := 2, pos := "l11_replica.go:11", after := #[⟨16, .data⟩, ⟨11, .guard⟩], guard := some (11, false) } ?_
              refine tk 18 { dst := some 48, op := Op.move (.tmp 2), type := 72, pos := "l11_replica.go:11", after := #[⟨11, .guard⟩], guard := some (11, false) } ?_
              refine tk 19 { dst := some 49, op := Op.nilCheck (.tmp 48), type := 0, pos := "l11_replica.go:11", after := #[⟨18, .data⟩, ⟨11, .guard⟩], guard := some (11, false) } ?_
              refine tk 20 { dst := some 50, op := Op.fieldAddr 29 (.tmp 49) 2, type := 0, pos := "l11_replica.go:11", after := #[⟨19, .data⟩, ⟨11, .guard⟩], guard := some (11, false) } ?_
              refine tk 21 { dst := some 51, op := Op.load 2 (.tmp 50), type := 2, pos := "l11_replica.go:11", after := #[⟨20, .data⟩, ⟨11, .guard⟩], guard := some (11, false) } ?_
              refine wpAnyH_ready (rs := [22]) (by kernel_rfl) (by simp) (AllReadyH.cons rfl (fun K hK => ?_) AllReadyH.nil)
              go_simp
              refine (HSt.out _ ((Ext.refl _).drew)).mono ?_
              rintro e y1 ⟨rfl, hb⟩
              have X1 : Hid (Ext w y1) := ((Ext.refl _).drew).trans hb
              clear hb
              refine hK.out _ _ (by exact HS.out _ X1.out) (fun hHeld1 => ?_)
              clear hK K
              refine tk 23 { dst := some 53, op := Op.unOp UnOp.not 4 (.tmp 52), type := 4, pos := "l11_replica.go:11", after := #[⟨22, .data⟩, ⟨11, .guard⟩], guard := some (11, false) } ?_
              refine tk 24 { dst := some 54, op := Op.pick (.tmp 41) (Operand.const (Value.bool true)) (.tmp 53), type := 4, pos := "l11_replica.go:11", after := #[⟨11, .data⟩, ⟨23, .data⟩, ⟨5, .guard⟩], guard := some (5, true) } ?_
              refine tk 25 { dst := some 55, op := Op.pick (.tmp 35) (.tmp 54) (Operand.const (Value.bool false)), type := 4, pos := "l11_replica.go:11", after := #[⟨5, .data⟩, ⟨24, .data⟩], guard := none } ?_
              refine wpAnyH_done (by kernel_rfl) ?_ _
              go_wp2
              go_ret
              exact ⟨ret_int HR.out.symm, X1.out⟩
            | true =>
              have HSt : Hid _ := HS0.out true h5
              have HL4 : Hid (¬ (¬ r.start = -1 ∧ Msg.startB f ms r.view r.start = false)) := fun h => by have q := h.2; rw [h5] at q; cases q
              clear h5 h6 HS0
              go_enter Tryz.func94, Tryz.ntmps94
              go_wp2_with fail
              refine (J1.out _).mono ?_
              rintro e w9 ⟨rfl, hw⟩
              rw [hw]
              clear hw w9
              go_wp2_with fail
              refine (J2.out _).mono ?_
              rintro e w9 ⟨rfl, hw⟩
              rw [hw]
              clear hw w9
              go_wp2_with fail
              refine (J3.out _).mono ?_
              rintro e w9 ⟨rfl, hw⟩
              rw [hw]
              clear hw w9
              go_wp2
              clear x0 x1 x2 x3
              refine wp_region_held_drew (S := (fun W' : World => W'.cell? ⟨b, 1, none⟩ = some (.int .i64 r.view) ∧ W'.cell? ⟨b, 2, none⟩ = some (.int .i64 r.start) ∧ W'.cell? ⟨b, 3, none⟩ = some (.int .i64 r.done))) (by kernel_rfl) (HS.out _ ((Ext.refl _).drew)) (fun hHeld => ?_)
              refine tk 0 { dst := some 30, op := Op.move (.tmp 2), type := 72, pos := "l11_replica.go:11", after := #[], guard := none } ?_
              refine tk 1 { dst := some 31, op := Op.nilCheck (.tmp 30), type := 0, pos := "l11_replica.go:11", after := #[⟨0, .data⟩], guard := none } ?_
              refine tk 2 { dst := some 32, op := Op.fieldAddr 29 (.tmp 31) 2, type := 0, pos := "l11_replica.go:11", after := #[⟨1, .data⟩], guard := none } ?_
              refine tk 3 { dst := some 33, op := Op.load 2 (.tmp 32), type := 2, pos := "l11_replica.go:11", after := #[⟨2, .data⟩], guard := none } ?_
              refine tk 4 { dst := some 34, op := Op.binOp BinOp.neq 2 (.tmp 33) (Operand.const (Value.int IntKind.i64 (-1))) 2, type := 4, pos := "l11_replica.go:11", after := #[⟨3, .data⟩], guard := none } ?_
              refine tk 5 { dst := some 35, op := Op.move (.tmp 34), type := 4, pos := "l11_replica.go:11", after := #[⟨4, .data⟩], guard := none } ?_
              refine tk 6 { dst := some 36, op := Op.move (.tmp 2), type := 72, pos := "l11_replica.go:11", after := #[⟨5, .guard⟩], guard := some (5, true) } ?_
              refine tk 7 { dst := some 37, op := Op.nilCheck (.tmp 36), type := 0, pos := "l11_replica.go:11", after := #[⟨6, .data⟩, ⟨5, .guard⟩], guard := some (5, true) } ?_
              refine tk 8 { dst := some 38, op := Op.fieldAddr 29 (.tmp 37) 1, type := 0, pos := "l11_replica.go:11", after := #[⟨7, .data⟩, ⟨5, .guard⟩], guard := some (5, true) } ?_
              refine tk 9 { dst := some 39, op := Op.load 2 (.tmp 38), type := 2, pos := "l11_replica.go:11", after := #[⟨8, .data⟩, ⟨5, .guard⟩], guard := some (5, true) } ?_
              refine tk 10 { dst := some 40, op := Op.binOp BinOp.eql 2 (.tmp 39) (Operand.const (Value.int IntKind.i64 0)) 2, type := 4, pos := "l11_replica.go:11", after := #[⟨9, .data⟩, ⟨5, .guard⟩], guard := some (5, true) } ?_
              refine tk 11 { dst := some 41, op := Op.move (.tmp 40), type := 4, pos := "l11_replica.go:11", after := #[⟨10, .data⟩, ⟨5, .chain⟩, ⟨5, .guard⟩], guard := some (5, true) } ?_
              refine tk 12 { dst := some 42, op := Op.move (.tmp 0), type := 2, pos := "l11_replica.go:11", after := #[⟨11, .guard⟩], guard := some (11, false) } ?_
              refine tk 13 { dst := some 43, op := Op.move (.tmp 1), type := 27, pos := "l11_replica.go:11", after := #[⟨11, .guard⟩], guard := some (11, false) } ?_
              refine tk 14 { dst := some 44, op := Op.move (.tmp 2), type := 72, pos := "l11_replica.go:11", after := #[⟨11, .guard⟩], guard := some (11, false) } ?_
              refine tk 15 { dst := some 45, op := Op.nilCheck (.tmp 44), type := 0, pos := "l11_replica.go:11", after := #[⟨14, .data⟩, ⟨11, .guard⟩], guard := some (11, false) } ?_
              refine tk 16 { dst := some 46, op := Op.fieldAddr 29 (.tmp 45) 1, type := 0, pos := "l11_replica.go:11", after := #[⟨15, .data⟩, ⟨11, .guard⟩], guard := some (11, false) } ?_
              refine tk 17 { dst := some 47, op := Op.load 2 (.tmp 46), type := 2, pos := "l11_replica.go:11", after := #[⟨16, .data⟩, ⟨11, .guard⟩], guard := some (11, false) } ?_
              refine tk 18 { dst := some 48, op := Op.move (.tmp 2), type := 72, pos := "l11_replica.go:11", after := #[⟨11, .guard⟩], guard := some (11, false) } ?_
              refine tk 19 { dst := some 49, op := Op.nilCheck (.tmp 48), type := 0, pos := "l11_replica.go:11", after := #[⟨18, .data⟩, ⟨11, .guard⟩], guard := some (11, false) } ?_
              refine tk 20 { dst := some 50, op := Op.fieldAddr 29 (.tmp 49) 2, type := 0, pos := "l11_replica.go:11", after := #[⟨19, .data⟩, ⟨11, .guard⟩], guard := some (11, false) } ?_
              refine tk 21 { dst := some 51, op := Op.load 2 (.tmp 50), type := 2, pos := "l11_replica.go:11", after := #[⟨20, .data⟩, ⟨11, .guard⟩], guard := some (11, false) } ?_
              refine wpAnyH_ready (rs := [22]) (by kernel_rfl) (by simp) (AllReadyH.cons rfl (fun K hK => ?_) AllReadyH.nil)
              go_simp
              refine (HSt.out _ ((Ext.refl _).drew)).mono ?_
              rintro e y1 ⟨rfl, hb⟩
              have X1 : Hid (Ext w y1) := ((Ext.refl _).drew).trans hb
              clear hb
              refine hK.out _ _ (by exact HS.out _ X1.out) (fun hHeld1 => ?_)
              clear hK K
              refine tk 23 { dst := some 53, op := Op.unOp UnOp.not 4 (.tmp 52), type := 4, pos := "l11_replica.go:11", after := #[⟨22, .data⟩, ⟨11, .guard⟩], guard := some (11, false) } ?_
              refine tk 24 { dst := some 54, op := Op.pick (.tmp 41) (Operand.const (Value.bool true)) (.tmp 53), type := 4, pos := "l11_replica.go:11", after := #[⟨11, .data⟩, ⟨23, .data⟩, ⟨5, .guard⟩], guard := some (5, true) } ?_
              refine tk 25 { dst := some 55, op := Op.pick (.tmp 35) (.tmp 54) (Operand.const (Value.bool false)), type := 4, pos := "l11_replica.go:11", after := #[⟨5, .data⟩, ⟨24, .data⟩], guard := none } ?_
              refine wpAnyH_done (by kernel_rfl) ?_ _
              by_cases h5 : (0 : Int) < r.done
              · have P5 : Hid (decide ((0 : Int) < r.done) = true) := decide_eq_true h5
                by_cases h7 : ((Msg.log f ms).length : Int) < r.done
                · have HR : Hid (Msg.repF f ms r = 8) := by show _ = _; unfold Msg.repF; rw [if_neg (by simp [HIn.out]), if_neg HL4.out, if_pos h7]
                  have P7 : Hid (decide (((Msg.log f ms).length : Int) < r.done) = true) := decide_eq_true h7
                  clear h5 h7
                  go_wp2
                  refine wp_region_held_drew (S := (fun W' : World => W'.cell? ⟨b, 1, none⟩ = some (.int .i64 r.view) ∧ W'.cell? ⟨b, 2, none⟩ = some (.int .i64 r.start) ∧ W'.cell? ⟨b, 3, none⟩ = some (.int .i64 r.done))) (by kernel_rfl) (HS.out _ (X1.out.drew)) (fun hHeld => ?_)
                  refine tk 0 { dst := some 56, op := Op.move (.tmp 2), type := 72, pos := "l11_replica.go:14", after := #[], guard := none } ?_
                  refine tk 1 { dst := some 57, op := Op.nilCheck (.tmp 56), type := 0, pos := "l11_replica.go:14", after := #[⟨0, .data⟩], guard := none } ?_
                  refine tk 2 { dst := some 58, op := Op.fieldAddr 29 (.tmp 57) 3, type := 0, pos := "l11_replica.go:14", after := #[⟨1, .data⟩], guard := none } ?_
                  refine tk 3 { dst := some 59, op := Op.load 2 (.tmp 58), type := 2, pos := "l11_replica.go:14", after := #[⟨2, .data⟩], guard := none } ?_
                  refine tk 4 { dst := some 60, op := Op.binOp BinOp.gtr 2 (.tmp 59) (Operand.const (Value.int IntKind.i64 0)) 2, type := 4, pos := "l11_replica.go:14", after := #[⟨3, .data⟩], guard := none } ?_
                  (try rw [P5.out])
                  refine tk 5 { dst := some 61, op := Op.move (.tmp 60), type := 4, pos := "l11_replica.go:14", after := #[⟨4, .data⟩], guard := none } ?_
                  refine tk 6 { dst := some 62, op := Op.move (.tmp 2), type := 72, pos := "l11_replica.go:14", after := #[⟨5, .guard⟩], guard := some (5, true) } ?_
                  refine tk 7 { dst := some 63, op := Op.nilCheck (.tmp 62), type := 0, pos := "l11_replica.go:14", after := #[⟨6, .data⟩, ⟨5, .guard⟩], guard := some (5, true) } ?_
                  refine tk 8 { dst := some 64, op := Op.fieldAddr 29 (.tmp 63) 3, type := 0, pos := "l11_replica.go:14", after := #[⟨7, .data⟩, ⟨5, .guard⟩], guard := some (5, true) } ?_
                  refine tk 9 { dst := some 65, op := Op.load 2 (.tmp 64), type := 2, pos := "l11_replica.go:14", after := #[⟨8, .data⟩, ⟨5, .guard⟩], guard := some (5, true) } ?_
                  refine tk 10 { dst := some 66, op := Op.move (.tmp 0), type := 2, pos := "l11_replica.go:14", after := #[⟨5, .guard⟩], guard := some (5, true) } ?_
                  refine tk 11 { dst := some 67, op := Op.move (.tmp 1), type := 27, pos := "l11_replica.go:14", after := #[⟨5, .guard⟩], guard := some (5, true) } ?_
                  refine wpAnyH_ready (rs := [12]) (by kernel_rfl) (by simp) (AllReadyH.cons rfl (fun K hK => ?_) AllReadyH.nil)
                  go_simp
                  refine (HLg.out _ (X1.out.drew)).mono ?_
                  rintro e y2 ⟨v3, g3, rfl, -, hO3, hb⟩
                  have X2 : Hid (Ext w y2) := (X1.out.drew).trans hb
                  obtain ⟨a3, c3, rfl, -⟩ := id hO3
                  clear hb hO3
                  refine hK.out _ _ (by exact HS.out _ X2.out) (fun hHeld2 => ?_)
                  clear hK K
                  refine tk 13 { dst := some 69, op := Op.call { callee := Callee.builtin Builtin.len, args := #[.tmp 68], argTypes := #[38] }, type := 3, pos := "l11_replica.go:14", after := #[⟨12, .data⟩, ⟨5, .guard⟩], guard := some (5, true) } ?_
                  refine tk 14 { dst := some 70, op := Op.binOp BinOp.gtr 2 (.tmp 65) (.tmp 69) 2, type := 4, pos := "l11_replica.go:14", after := #[⟨9, .data⟩, ⟨13, .data⟩, ⟨5, .guard⟩], guard := some (5, true) } ?_
                  (try rw [P7.out])
                  refine tk 15 { dst := some 71, op := Op.pick (.tmp 61) (.tmp 70) (Operand.const (Value.bool false)), type := 4, pos := "l11_replica.go:14", after := #[⟨5, .data⟩, ⟨14, .data⟩], guard := none } ?_
                  refine wpAnyH_done (by kernel_rfl) ?_ _
                  go_wp2
                  go_ret
                  exact ⟨ret_int HR.out.symm, X2.out⟩
                · have HR : Hid (Msg.repF f ms r = 0) := by show _ = _; unfold Msg.repF; rw [if_neg (by simp [HIn.out]), if_neg HL4.out, if_neg h7]
                  have P7 : Hid (decide (((Msg.log f ms).length : Int) < r.done) = false) := decide_eq_false h7
                  clear h5 h7
                  go_wp2
                  refine wp_region_held_drew (S := (fun W' : World => W'.cell? ⟨b, 1, none⟩ = some (.int .i64 r.view) ∧ W'.cell? ⟨b, 2, none⟩ = some (.int .i64 r.start) ∧ W'.cell? ⟨b, 3, none⟩ = some (.int .i64 r.done))) (by kernel_rfl) (HS.out _ (X1.out.drew)) (fun hHeld => ?_)
                  refine tk 0 { dst := some 56, op := Op.move (.tmp 2), type := 72, pos := "l11_replica.go:14", after := #[], guard := none } ?_
                  refine tk 1 { dst := some 57, op := Op.nilCheck (.tmp 56), type := 0, pos := "l11_replica.go:14", after := #[⟨0, .data⟩], guard := none } ?_
                  refine tk 2 { dst := some 58, op := Op.fieldAddr 29 (.tmp 57) 3, type := 0, pos := "l11_replica.go:14", after := #[⟨1, .data⟩], guard := none } ?_
                  refine tk 3 { dst := some 59, op := Op.load 2 (.tmp 58), type := 2, pos := "l11_replica.go:14", after := #[⟨2, .data⟩], guard := none } ?_
                  refine tk 4 { dst := some 60, op := Op.binOp BinOp.gtr 2 (.tmp 59) (Operand.const (Value.int IntKind.i64 0)) 2, type := 4, pos := "l11_replica.go:14", after := #[⟨3, .data⟩], guard := none } ?_
                  (try rw [P5.out])
                  refine tk 5 { dst := some 61, op := Op.move (.tmp 60), type := 4, pos := "l11_replica.go:14", after := #[⟨4, .data⟩], guard := none } ?_
                  refine tk 6 { dst := some 62, op := Op.move (.tmp 2), type := 72, pos := "l11_replica.go:14", after := #[⟨5, .guard⟩], guard := some (5, true) } ?_
                  refine tk 7 { dst := some 63, op := Op.nilCheck (.tmp 62), type := 0, pos := "l11_replica.go:14", after := #[⟨6, .data⟩, ⟨5, .guard⟩], guard := some (5, true) } ?_
                  refine tk 8 { dst := some 64, op := Op.fieldAddr 29 (.tmp 63) 3, type := 0, pos := "l11_replica.go:14", after := #[⟨7, .data⟩, ⟨5, .guard⟩], guard := some (5, true) } ?_
                  refine tk 9 { dst := some 65, op := Op.load 2 (.tmp 64), type := 2, pos := "l11_replica.go:14", after := #[⟨8, .data⟩, ⟨5, .guard⟩], guard := some (5, true) } ?_
                  refine tk 10 { dst := some 66, op := Op.move (.tmp 0), type := 2, pos := "l11_replica.go:14", after := #[⟨5, .guard⟩], guard := some (5, true) } ?_
                  refine tk 11 { dst := some 67, op := Op.move (.tmp 1), type := 27, pos := "l11_replica.go:14", after := #[⟨5, .guard⟩], guard := some (5, true) } ?_
                  refine wpAnyH_ready (rs := [12]) (by kernel_rfl) (by simp) (AllReadyH.cons rfl (fun K hK => ?_) AllReadyH.nil)
                  go_simp
                  refine (HLg.out _ (X1.out.drew)).mono ?_
                  rintro e y2 ⟨v3, g3, rfl, -, hO3, hb⟩
                  have X2 : Hid (Ext w y2) := (X1.out.drew).trans hb
                  obtain ⟨a3, c3, rfl, -⟩ := id hO3
                  clear hb hO3
                  refine hK.out _ _ (by exact HS.out _ X2.out) (fun hHeld2 => ?_)
                  clear hK K
                  refine tk 13 { dst := some 69, op := Op.call { callee := Callee.builtin Builtin.len, args := #[.tmp 68], argTypes := #[38] }, type := 3, pos := "l11_replica.go:14", after := #[⟨12, .data⟩, ⟨5, .guard⟩], guard := some (5, true) } ?_
                  refine tk 14 { dst := some 70, op := Op.binOp BinOp.gtr 2 (.tmp 65) (.tmp 69) 2, type := 4, pos := "l11_replica.go:14", after := #[⟨9, .data⟩, ⟨13, .data⟩, ⟨5, .guard⟩], guard := some (5, true) } ?_
                  (try rw [P7.out])
                  refine tk 15 { dst := some 71, op := Op.pick (.tmp 61) (.tmp 70) (Operand.const (Value.bool false)), type := 4, pos := "l11_replica.go:14", after := #[⟨5, .data⟩, ⟨14, .data⟩], guard := none } ?_
                  refine wpAnyH_done (by kernel_rfl) ?_ _
                  go_wp2
                  go_ret
                  exact ⟨ret_int HR.out.symm, X2.out⟩
              · have P5 : Hid (decide ((0 : Int) < r.done) = false) := decide_eq_false h5
                have HR : Hid (Msg.repF f ms r = 0) := by show _ = _; unfold Msg.repF; rw [if_neg (by simp [HIn.out]), if_neg HL4.out, if_neg (by omega)]
                clear h5
                go_wp2
                refine wp_region_held_drew (S := (fun W' : World => W'.cell? ⟨b, 1, none⟩ = some (.int .i64 r.view) ∧ W'.cell? ⟨b, 2, none⟩ = some (.int .i64 r.start) ∧ W'.cell? ⟨b, 3, none⟩ = some (.int .i64 r.done))) (by kernel_rfl) (HS.out _ (X1.out.drew)) (fun hHeld => ?_)
                refine tk 0 { dst := some 56, op := Op.move (.tmp 2), type := 72, pos := "l11_replica.go:14", after := #[], guard := none } ?_
                refine tk 1 { dst := some 57, op := Op.nilCheck (.tmp 56), type := 0, pos := "l11_replica.go:14", after := #[⟨0, .data⟩], guard := none } ?_
                refine tk 2 { dst := some 58, op := Op.fieldAddr 29 (.tmp 57) 3, type := 0, pos := "l11_replica.go:14", after := #[⟨1, .data⟩], guard := none } ?_
                refine tk 3 { dst := some 59, op := Op.load 2 (.tmp 58), type := 2, pos := "l11_replica.go:14", after := #[⟨2, .data⟩], guard := none } ?_
                refine tk 4 { dst := some 60, op := Op.binOp BinOp.gtr 2 (.tmp 59) (Operand.const (Value.int IntKind.i64 0)) 2, type := 4, pos := "l11_replica.go:14", after := #[⟨3, .data⟩], guard := none } ?_
                (try rw [P5.out])
                refine tk 5 { dst := some 61, op := Op.move (.tmp 60), type := 4, pos := "l11_replica.go:14", after := #[⟨4, .data⟩], guard := none } ?_
                refine tn 6 { dst := some 62, op := Op.move (.tmp 2), type := 72, pos := "l11_replica.go:14", after := #[⟨5, .guard⟩], guard := some (5, true) } ?_
                refine tn 7 { dst := some 63, op := Op.nilCheck (.tmp 62), type := 0, pos := "l11_replica.go:14", after := #[⟨6, .data⟩, ⟨5, .guard⟩], guard := some (5, true) } ?_
                refine tn 8 { dst := some 64, op := Op.fieldAddr 29 (.tmp 63) 3, type := 0, pos := "l11_replica.go:14", after := #[⟨7, .data⟩, ⟨5, .guard⟩], guard := some (5, true) } ?_
                refine tn 9 { dst := some 65, op := Op.load 2 (.tmp 64), type := 2, pos := "l11_replica.go:14", after := #[⟨8, .data⟩, ⟨5, .guard⟩], guard := some (5, true) } ?_
                refine tn 10 { dst := some 66, op := Op.move (.tmp 0), type := 2, pos := "l11_replica.go:14", after := #[⟨5, .guard⟩], guard := some (5, true) } ?_
                refine tn 11 { dst := some 67, op := Op.move (.tmp 1), type := 27, pos := "l11_replica.go:14", after := #[⟨5, .guard⟩], guard := some (5, true) } ?_
                refine tn 12 { dst := some 68, op := Op.call { callee := Callee.value (Operand.func 147), args := #[.tmp 66, .tmp 67], argTypes := #[2, 27] }, type := 38, pos := "l11_replica.go:14", after := #[⟨10, .data⟩, ⟨11, .data⟩, ⟨5, .chain⟩, ⟨5, .guard⟩], guard := some (5, true) } ?_
                refine tn 13 { dst := some 69, op := Op.call { callee := Callee.builtin Builtin.len, args := #[.tmp 68], argTypes := #[38] }, type := 3, pos := "l11_replica.go:14", after := #[⟨12, .data⟩, ⟨5, .guard⟩], guard := some (5, true) } ?_
                refine tn 14 { dst := some 70, op := Op.binOp BinOp.gtr 2 (.tmp 65) (.tmp 69) 2, type := 4, pos := "l11_replica.go:14", after := #[⟨9, .data⟩, ⟨13, .data⟩, ⟨5, .guard⟩], guard := some (5, true) } ?_
                refine tk 15 { dst := some 71, op := Op.pick (.tmp 61) (.tmp 70) (Operand.const (Value.bool false)), type := 4, pos := "l11_replica.go:14", after := #[⟨5, .data⟩, ⟨14, .data⟩], guard := none } ?_
                refine wpAnyH_done (by kernel_rfl) ?_ _
                go_wp2
                go_ret
                exact ⟨ret_int HR.out.symm, (X1.out.drew)⟩

set_option linter.unusedSimpArgs false in
set_option maxHeartbeats 8000000 in
set_option maxRecDepth 100000 in
theorem l11Asked_any (f : Int) (v : Value) (ms : List Ms) (r : Rp) (b : Nat) (w : World) (hS : MSlice w v ms) (hR : RpAt w b r) :
    Calls Tryz.prog 43 #[.int .i64 f, v, .pointer (some ⟨b, 0, none⟩)] w fun e w' => e = .returned (.int .i64 (Msg.repC f ms r)) ∧ Ext w w' := by
  have HA : Hid (Calls Tryz.prog 93 #[.int .i64 f, v] w fun e w' => e = .returned (.int .i64 (Msg.ledger f ms)) ∧ Ext w w') := l8Asked_any f v ms w hS
  have HF : Hid (Msg.ledger f ms = 0 → ∀ wx, Ext w wx → Calls Tryz.prog 94 #[.int .i64 f, v, .pointer (some ⟨b, 0, none⟩)] wx fun e w' => e = .returned (.int .i64 (Msg.repF f ms r)) ∧ Ext wx w') := fun h wx he => l11Fault_any f v ms r b wx (hS.ext he) h (hR.ext he)
  clear hR
  obtain ⟨a, cap, rfl, -, -, -⟩ := hS
  go_enter Tryz.func43, Tryz.ntmps43
  by_cases hc : Msg.ledger f ms = 0
  · have HR : Hid (Msg.repC f ms r = Msg.repF f ms r) := Msg.repC_ok hc
    have HF1 : Hid _ := HF.out hc
    rw [hc] at HA
    clear hc HF
    go_wp2_with fail
    refine HA.out.mono ?_
    rintro e w1 ⟨rfl, hb⟩
    have HE : Hid (Ext w w1) := hb
    clear hb
    go_wp2_with fail
    refine (HF1.out _ HE.out).mono ?_
    rintro e w2 ⟨rfl, hb⟩
    have HE2 : Hid (Ext w w2) := HE.out.trans hb
    clear hb
    go_wp2
    go_ret
    exact ⟨ret_int HR.out.symm, HE2.out⟩
  · have HR : Hid (Msg.repC f ms r = Msg.ledger f ms) := Msg.repC_bad hc
    have g1 : (Msg.ledger f ms != 0) = true := by simpa using hc
    clear hc HF
    generalize Msg.ledger f ms = c at *
    go_wp2_with fail
    refine HA.out.mono ?_
    rintro e w1 ⟨rfl, hb⟩
    have HE : Hid (Ext w w1) := hb
    clear hb
    go_wp2
    go_ret
    exact ⟨ret_int HR.out.symm, HE.out⟩
end Go.Proofs.YtecgjdgfjgcmdaaGreat
