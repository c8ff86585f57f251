/- the specification's text of a message of kind 3. -/
import Derived.Test.YtpncnfodgfldlaaDoorLxTX4
import Derived.Test.YtpncnfodgfldlaaDoorLxTk
namespace Go.Proofs.YtpncnfodgfldlaaDoor
open Go.RowKit
set_option linter.unusedSimpArgs false in
set_option maxHeartbeats 40000000 in
set_option maxRecDepth 100000 in
theorem l8Text_3 (m : Ms) (v u : Value) (b o : Nat) (w : World) (hb1 : b < w.heap.size) (hm : MCs w b o m v u) (hS : MLs w v u m) (hF : Msg.Fine m) (hkk : m.kind = 3) :
    Calls Tryd.prog 34 #[.pointer (some ⟨b, o, none⟩)] w fun e w' => e = .returned (.string (mkB (Lib.join (Msg.msgW m) [32]))) ∧ Ext w w' := by
  have HSl : Hid (MLs w v u m) := hS
  have HM : Hid (MCs w b o m v u) := hm
  have hvw := hF.view
  have hfr := hF.from_
  have HF : Hid (Msg.Fine m) := hF
  obtain ⟨A1, hA1, sA1, r1⟩ := add_run ⟨#[99, 111, 109, 109, 105, 116]⟩ ⟨#[32]⟩ 7 1 (by decide) (by decide) (by omega)
  obtain ⟨A2, hA2, sA2, r2⟩ := add_run A1 (mkB (Lib.itoa m.view)) 8 21 (by omega) (itoa_size _ (by omega) (by omega)) (by omega)
  obtain ⟨A3, hA3, sA3, r3⟩ := add_run A2 ⟨#[32]⟩ 29 1 (by omega) (by decide) (by omega)
  obtain ⟨A4, hA4, sA4, r4⟩ := add_run A3 (mkB (Lib.itoa m.from_)) 30 21 (by omega) (itoa_size _ (by omega) (by omega)) (by omega)
  have HA4 : Hid (A4.data.toList = Lib.join (Msg.headW m) [32] ∧ A4.size ≤ 51) := by
    refine ⟨?_, by omega⟩
    rw [hA4, hA3, hA2, hA1, mkB_list, mkB_list, Msg.head_join, show Msg.kindW m.kind = [99, 111, 109, 109, 105, 116] from by rw [hkk]; rfl]
  obtain ⟨hs0, hs1, hs2, hs3⟩ := hF.slot (by omega)
  obtain ⟨B1, hB1, sB1, q1⟩ := add_run A4 ⟨#[32]⟩ 51 1 (by omega) (by decide) (by omega)
  obtain ⟨B2, hB2, sB2, q2⟩ := add_run B1 (mkB (Lib.itoa m.slot)) 52 21 (by omega) (itoa_size _ (by omega) (by omega)) (by omega)
  obtain ⟨B3, hB3, sB3, q3⟩ := add_run B2 ⟨#[32]⟩ 73 1 (by omega) (by decide) (by omega)
  obtain ⟨B4, hB4, sB4, q4⟩ := add_run B3 (mkB (Lib.itoa m.value)) 74 21 (by omega) (itoa_size _ (by omega) (by omega)) (by omega)
  have eB : B4 = mkB (Lib.join (Msg.msgW m) [32]) := by
    apply ba_eq
    have hcn := List.length_eq_zero_iff.1 (show m.certs.length = 0 by have := hF.bare; omega)
    have hrn := List.length_eq_zero_iff.1 (show m.refs.length = 0 by have := hF.bare; omega)
    have hW : Msg.msgW m = (Msg.headW m ++ [Lib.itoa m.slot]) ++ [Lib.itoa m.value] := by
      unfold Msg.msgW
      rw [Msg.slotW_yes (by omega), hcn, hrn]
      simp
    rw [mkB_list, hW, join_snoc _ _ (by simp), join_snoc _ _ (by simp [Msg.headW]), hB4, hB3, hB2, hB1, HA4.out.1, mkB_list, mkB_list]
  rw [← eB]
  have HD3 : Hid (∀ wx : World, Calls Tryd.prog 61 #[.int .i64 m.slot] wx fun e w' => e = .returned (.string (mkB (Lib.itoa m.slot))) ∧ Ext wx w') := fun wx => digits_any _ (by omega) (by omega) wx
  have HD4 : Hid (∀ wx : World, Calls Tryd.prog 61 #[.int .i64 m.value] wx fun e w' => e = .returned (.string (mkB (Lib.itoa m.value))) ∧ Ext wx w') := fun wx => digits_any _ (by omega) (by omega) wx
  have HD1 : Hid (∀ wx : World, Calls Tryd.prog 61 #[.int .i64 m.view] wx fun e w' => e = .returned (.string (mkB (Lib.itoa m.view))) ∧ Ext wx w') := fun wx => digits_any _ (by omega) (by omega) wx
  have HD2 : Hid (∀ wx : World, Calls Tryd.prog 61 #[.int .i64 m.from_] wx fun e w' => e = .returned (.string (mkB (Lib.itoa m.from_))) ∧ Ext wx w') := fun wx => digits_any _ (by omega) (by omega) wx
  have HS : Hid (∀ wx : World, Ext w wx → (fun W' : World => W'.cell? ⟨b, o, none⟩ = some (.int .i64 3) ∧ W'.cell? ⟨b, o + 1, none⟩ = some (.int .i64 m.view) ∧ W'.cell? ⟨b, o + 2, none⟩ = some (.int .i64 m.from_) ∧ W'.cell? ⟨b, o + 3, none⟩ = some (.int .i64 m.slot) ∧ W'.cell? ⟨b, o + 4, none⟩ = some (.int .i64 m.value)) wx) := fun wx he => by
    obtain ⟨x0, x1, x2, x3, x4, x5, x6⟩ := HM.out.ext hb1 he
    rw [hkk] at x0
    exact ⟨x0, x1, x2, x3, x4⟩
  clear hA1 hA2 hA3 hA4 sA1 sA2 sA3 sA4 hB1 hB2 hB3 hB4 sB1 sB2 sB3 sB4 eB hs0 hs1 hs2 hs3 HA4
  clear hS hm hvw hfr hF
  generalize mkB (Lib.itoa m.view) = n1 at *
  generalize mkB (Lib.itoa m.from_) = n2 at *
  generalize mkB (Lib.itoa m.slot) = n3 at *
  generalize mkB (Lib.itoa m.value) = n4 at *
  have HKK : Hid (m.kind = 3) := hkk
  clear hkk
  go_enter Tryd.func34, Tryd.ntmps34
  go_wp2
  refine wp_region_held_drew (S := (fun W' : World => W'.cell? ⟨b, o, none⟩ = some (.int .i64 3) ∧ W'.cell? ⟨b, o + 1, none⟩ = some (.int .i64 m.view) ∧ W'.cell? ⟨b, o + 2, none⟩ = some (.int .i64 m.from_) ∧ W'.cell? ⟨b, o + 3, none⟩ = some (.int .i64 m.slot) ∧ W'.cell? ⟨b, o + 4, none⟩ = some (.int .i64 m.value))) (by kernel_rfl) (HS.out _ ((Ext.refl _).drew)) (fun hHeld => ?_)
  have F0 : Hid (Ext w w.drew) := (Ext.refl _).drew
  refine tk 1 { dst := some 7, op := Op.move (.tmp 0), type := 50, pos := "l08_msg.go:183", after := #[], guard := none } ?_
  refine tk 2 { dst := some 8, op := Op.nilCheck (.tmp 7), type := 0, pos := "l08_msg.go:183", after := #[⟨1, .data⟩], guard := none } ?_
  refine tk 3 { dst := some 9, op := Op.fieldAddr 28 (.tmp 8) 0, type := 0, pos := "l08_msg.go:183", after := #[⟨2, .data⟩], guard := none } ?_
  refine tk 4 { dst := some 10, op := Op.load 2 (.tmp 9), type := 2, pos := "l08_msg.go:183", after := #[⟨3, .data⟩], guard := none } ?_
  refine tk 8 { dst := some 14, op := Op.move (.tmp 0), type := 50, pos := "l08_msg.go:183", after := #[], guard := none } ?_
  refine tk 9 { dst := some 15, op := Op.nilCheck (.tmp 14), type := 0, pos := "l08_msg.go:183", after := #[⟨8, .data⟩], guard := none } ?_
  refine tk 10 { dst := some 16, op := Op.fieldAddr 28 (.tmp 15) 1, type := 0, pos := "l08_msg.go:183", after := #[⟨9, .data⟩], guard := none } ?_
  refine tk 11 { dst := some 17, op := Op.load 2 (.tmp 16), type := 2, pos := "l08_msg.go:183", after := #[⟨10, .data⟩], guard := none } ?_
  refine tk 15 { dst := some 21, op := Op.move (.tmp 0), type := 50, pos := "l08_msg.go:183", after := #[], guard := none } ?_
  refine tk 16 { dst := some 22, op := Op.nilCheck (.tmp 21), type := 0, pos := "l08_msg.go:183", after := #[⟨15, .data⟩], guard := none } ?_
  refine tk 17 { dst := some 23, op := Op.fieldAddr 28 (.tmp 22) 2, type := 0, pos := "l08_msg.go:183", after := #[⟨16, .data⟩], guard := none } ?_
  refine tk 18 { dst := some 24, op := Op.load 2 (.tmp 23), type := 2, pos := "l08_msg.go:183", after := #[⟨17, .data⟩], guard := none } ?_
  refine wpAnyH_ready (rs := [0, 12]) (by kernel_rfl) (by simp) (AllReadyH.cons rfl (fun K hK => ?_) (AllReadyH.cons rfl (fun K hK => ?_) AllReadyH.nil))
  · go_simp
    have F1 : Hid (Ext w (w.drew.alloc (.cells #[.string ⟨#[]⟩, .string ⟨#[112, 114, 111, 112, 111, 115, 101]⟩, .string ⟨#[112, 114, 101, 112, 97, 114, 101]⟩, .string ⟨#[99, 111, 109, 109, 105, 116]⟩, .string ⟨#[99, 104, 97, 110, 103, 101]⟩, .string ⟨#[110, 101, 119]⟩] 9))) := F0.out.alloc _
    have X1 : Hid (Ext (w.drew.alloc (.cells #[.string ⟨#[]⟩, .string ⟨#[112, 114, 111, 112, 111, 115, 101]⟩, .string ⟨#[112, 114, 101, 112, 97, 114, 101]⟩, .string ⟨#[99, 111, 109, 109, 105, 116]⟩, .string ⟨#[99, 104, 97, 110, 103, 101]⟩, .string ⟨#[110, 101, 119]⟩] 9)) (w.drew.alloc (.cells #[.string ⟨#[]⟩, .string ⟨#[112, 114, 111, 112, 111, 115, 101]⟩, .string ⟨#[112, 114, 101, 112, 97, 114, 101]⟩, .string ⟨#[99, 111, 109, 109, 105, 116]⟩, .string ⟨#[99, 104, 97, 110, 103, 101]⟩, .string ⟨#[110, 101, 119]⟩] 9))) := Ext.refl _
    refine hK.out _ _ (HS.out _ F1.out) (fun hHeld1 => ?_)
    clear hK K
    refine tk 5 { dst := some 11, op := Op.indexAddr 60 (.tmp 6) (.tmp 10), type := 0, pos := "l08_msg.go:183", after := #[⟨0, .data⟩, ⟨4, .data⟩], guard := none } ?_
    have rw6 := row6 X1.out
    refine wpAnyH_ready (rs := [6, 12]) (by kernel_rfl) (by simp) (AllReadyH.cons rfl (fun K hK => ?_) (AllReadyH.cons rfl (fun K hK => ?_) AllReadyH.nil))
    · have zz : (w.drew.alloc (.cells #[.string ⟨#[]⟩, .string ⟨#[112, 114, 111, 112, 111, 115, 101]⟩, .string ⟨#[112, 114, 101, 112, 97, 114, 101]⟩, .string ⟨#[99, 111, 109, 109, 105, 116]⟩, .string ⟨#[99, 104, 97, 110, 103, 101]⟩, .string ⟨#[110, 101, 119]⟩] 9)).cell? ⟨w.heap.size, 3, none⟩ = some (.string ⟨#[99, 111, 109, 109, 105, 116]⟩) := rw6.2.2.1
      clear rw6
      go_simp
      refine hK.out _ _ (HS.out _ F1.out) (fun hHeld3 => ?_)
      clear hK K zz
      refine tk 7 { dst := some 13, op := Op.binOp BinOp.add 9 (.tmp 12) (Operand.const (Value.string { data := #[32] })) 9, type := 9, pos := "l08_msg.go:183", after := #[⟨6, .data⟩], guard := none } ?_
      refine wpAnyH_ready (rs := [12]) (by kernel_rfl) (by simp) (AllReadyH.cons rfl (fun K hK => ?_) AllReadyH.nil)
      go_simp
      refine (HD1.out _).mono ?_
      rintro e y5 ⟨rfl, hb⟩
      have F5 : Hid (Ext w y5) := F1.out.trans hb
      have X5 : Hid (Ext (w.drew.alloc (.cells #[.string ⟨#[]⟩, .string ⟨#[112, 114, 111, 112, 111, 115, 101]⟩, .string ⟨#[112, 114, 101, 112, 97, 114, 101]⟩, .string ⟨#[99, 111, 109, 109, 105, 116]⟩, .string ⟨#[99, 104, 97, 110, 103, 101]⟩, .string ⟨#[110, 101, 119]⟩] 9)) y5) := X1.out.trans hb
      refine hK.out _ _ (HS.out _ F5.out) (fun hHeld5 => ?_)
      clear hK K hb
      refine tk 13 { dst := some 19, op := Op.binOp BinOp.add 9 (.tmp 13) (.tmp 18) 9, type := 9, pos := "l08_msg.go:183", after := #[⟨7, .data⟩, ⟨12, .data⟩], guard := none } ?_
      refine tk 14 { dst := some 20, op := Op.binOp BinOp.add 9 (.tmp 19) (Operand.const (Value.string { data := #[32] })) 9, type := 9, pos := "l08_msg.go:183", after := #[⟨13, .data⟩], guard := none } ?_
      refine wpAnyH_ready (rs := [19]) (by kernel_rfl) (by simp) (AllReadyH.cons rfl (fun K hK => ?_) AllReadyH.nil)
      go_simp
      refine (HD2.out _).mono ?_
      rintro e y6 ⟨rfl, hb⟩
      have F6 : Hid (Ext w y6) := F5.out.trans hb
      have X6 : Hid (Ext (w.drew.alloc (.cells #[.string ⟨#[]⟩, .string ⟨#[112, 114, 111, 112, 111, 115, 101]⟩, .string ⟨#[112, 114, 101, 112, 97, 114, 101]⟩, .string ⟨#[99, 111, 109, 109, 105, 116]⟩, .string ⟨#[99, 104, 97, 110, 103, 101]⟩, .string ⟨#[110, 101, 119]⟩] 9)) y6) := X5.out.trans hb
      refine hK.out _ _ (HS.out _ F6.out) (fun hHeld6 => ?_)
      clear hK K hb
      refine tk 20 { dst := some 26, op := Op.binOp BinOp.add 9 (.tmp 20) (.tmp 25) 9, type := 9, pos := "l08_msg.go:183", after := #[⟨14, .data⟩, ⟨19, .data⟩], guard := none } ?_
      refine tk 21 { dst := some 3, op := Op.assign (.tmp 26), type := 9, pos := "l08_msg.go:183", after := #[⟨20, .data⟩, ⟨19, .chain⟩, ⟨0, .phase⟩, ⟨1, .phase⟩, ⟨2, .phase⟩, ⟨3, .phase⟩, ⟨4, .phase⟩, ⟨5, .phase⟩, ⟨6, .phase⟩, ⟨7, .phase⟩, ⟨8, .phase⟩, ⟨9, .phase⟩, ⟨10, .phase⟩, ⟨11, .phase⟩, ⟨12, .phase⟩, ⟨13, .phase⟩, ⟨14, .phase⟩, ⟨15, .phase⟩, ⟨16, .phase⟩, ⟨17, .phase⟩, ⟨18, .phase⟩, ⟨19, .phase⟩, ⟨20, .phase⟩], guard := none } ?_
      refine wpAnyH_done (by kernel_rfl) ?_ _
      have FZ : Hid (Ext w y6) := F6.out
      generalize y6 = WZ at *
      obtain ⟨p0, p1, p2, p3, p4⟩ := HS.out _ FZ.out
      go_wp2
      clear p0 p1 p2 p3 p4
      refine wp_region_held_drew (S := (fun W' : World => W'.cell? ⟨b, o, none⟩ = some (.int .i64 3) ∧ W'.cell? ⟨b, o + 1, none⟩ = some (.int .i64 m.view) ∧ W'.cell? ⟨b, o + 2, none⟩ = some (.int .i64 m.from_) ∧ W'.cell? ⟨b, o + 3, none⟩ = some (.int .i64 m.slot) ∧ W'.cell? ⟨b, o + 4, none⟩ = some (.int .i64 m.value))) (by kernel_rfl) (HS.out _ (FZ.out.drew)) (fun hHeld => ?_)
      refine tk 0 { dst := some 32, op := Op.move (.tmp 3), type := 9, pos := "l08_msg.go:185", after := #[], guard := none } ?_
      refine tk 1 { dst := some 33, op := Op.binOp BinOp.add 9 (.tmp 32) (Operand.const (Value.string { data := #[32] })) 9, type := 9, pos := "l08_msg.go:185", after := #[⟨0, .data⟩], guard := none } ?_
      refine tk 2 { dst := some 34, op := Op.move (.tmp 0), type := 50, pos := "l08_msg.go:185", after := #[], guard := none } ?_
      refine tk 3 { dst := some 35, op := Op.nilCheck (.tmp 34), type := 0, pos := "l08_msg.go:185", after := #[⟨2, .data⟩], guard := none } ?_
      refine tk 4 { dst := some 36, op := Op.fieldAddr 28 (.tmp 35) 3, type := 0, pos := "l08_msg.go:185", after := #[⟨3, .data⟩], guard := none } ?_
      refine tk 5 { dst := some 37, op := Op.load 2 (.tmp 36), type := 2, pos := "l08_msg.go:185", after := #[⟨4, .data⟩], guard := none } ?_
      refine tk 9 { dst := some 41, op := Op.move (.tmp 0), type := 50, pos := "l08_msg.go:185", after := #[], guard := none } ?_
      refine tk 10 { dst := some 42, op := Op.nilCheck (.tmp 41), type := 0, pos := "l08_msg.go:185", after := #[⟨9, .data⟩], guard := none } ?_
      refine tk 11 { dst := some 43, op := Op.fieldAddr 28 (.tmp 42) 4, type := 0, pos := "l08_msg.go:185", after := #[⟨10, .data⟩], guard := none } ?_
      refine tk 12 { dst := some 44, op := Op.load 2 (.tmp 43), type := 2, pos := "l08_msg.go:185", after := #[⟨11, .data⟩], guard := none } ?_
      refine wpAnyH_ready (rs := [6]) (by kernel_rfl) (by simp) (AllReadyH.cons rfl (fun K hK => ?_) AllReadyH.nil)
      go_simp
      refine (HD3.out _).mono ?_
      rintro e x1 ⟨rfl, hb⟩
      have G1 : Hid (Ext w x1) := FZ.out.drew.trans hb
      refine hK.out _ _ (HS.out _ G1.out) (fun hHd1 => ?_)
      clear hK K hb
      refine tk 7 { dst := some 39, op := Op.binOp BinOp.add 9 (.tmp 33) (.tmp 38) 9, type := 9, pos := "l08_msg.go:185", after := #[⟨1, .data⟩, ⟨6, .data⟩], guard := none } ?_
      refine tk 8 { dst := some 40, op := Op.binOp BinOp.add 9 (.tmp 39) (Operand.const (Value.string { data := #[32] })) 9, type := 9, pos := "l08_msg.go:185", after := #[⟨7, .data⟩], guard := none } ?_
      refine wpAnyH_ready (rs := [13]) (by kernel_rfl) (by simp) (AllReadyH.cons rfl (fun K hK => ?_) AllReadyH.nil)
      go_simp
      refine (HD4.out _).mono ?_
      rintro e x2 ⟨rfl, hb⟩
      have G2 : Hid (Ext w x2) := G1.out.trans hb
      refine hK.out _ _ (HS.out _ G2.out) (fun hHd2 => ?_)
      clear hK K hb
      refine tk 14 { dst := some 46, op := Op.binOp BinOp.add 9 (.tmp 40) (.tmp 45) 9, type := 9, pos := "l08_msg.go:185", after := #[⟨8, .data⟩, ⟨13, .data⟩], guard := none } ?_
      refine tk 15 { dst := some 2, op := Op.assign (.tmp 46), type := 9, pos := "l08_msg.go:185", after := #[⟨14, .data⟩, ⟨13, .chain⟩, ⟨0, .phase⟩, ⟨1, .phase⟩, ⟨2, .phase⟩, ⟨3, .phase⟩, ⟨4, .phase⟩, ⟨5, .phase⟩, ⟨6, .phase⟩, ⟨7, .phase⟩, ⟨8, .phase⟩, ⟨9, .phase⟩, ⟨10, .phase⟩, ⟨11, .phase⟩, ⟨12, .phase⟩, ⟨13, .phase⟩, ⟨14, .phase⟩], guard := none } ?_
      refine wpAnyH_done (by kernel_rfl) ?_ _
      go_wp2
      go_ret
      exact ⟨rfl, G2.out⟩
    · clear rw6
      go_simp
      refine (HD1.out _).mono ?_
      rintro e y4 ⟨rfl, hb⟩
      have F4 : Hid (Ext w y4) := F1.out.trans hb
      have X4 : Hid (Ext (w.drew.alloc (.cells #[.string ⟨#[]⟩, .string ⟨#[112, 114, 111, 112, 111, 115, 101]⟩, .string ⟨#[112, 114, 101, 112, 97, 114, 101]⟩, .string ⟨#[99, 111, 109, 109, 105, 116]⟩, .string ⟨#[99, 104, 97, 110, 103, 101]⟩, .string ⟨#[110, 101, 119]⟩] 9)) y4) := X1.out.trans hb
      refine hK.out _ _ (HS.out _ F4.out) (fun hHeld4 => ?_)
      clear hK K hb
      have rw6 := row6 X4.out
      refine wpAnyH_ready (rs := [6, 19]) (by kernel_rfl) (by simp) (AllReadyH.cons rfl (fun K hK => ?_) (AllReadyH.cons rfl (fun K hK => ?_) AllReadyH.nil))
      · have zz : y4.cell? ⟨w.heap.size, 3, none⟩ = some (.string ⟨#[99, 111, 109, 109, 105, 116]⟩) := rw6.2.2.1
        clear rw6
        go_simp
        refine hK.out _ _ (HS.out _ F4.out) (fun hHeld7 => ?_)
        clear hK K zz
        refine tk 7 { dst := some 13, op := Op.binOp BinOp.add 9 (.tmp 12) (Operand.const (Value.string { data := #[32] })) 9, type := 9, pos := "l08_msg.go:183", after := #[⟨6, .data⟩], guard := none } ?_
        refine tk 13 { dst := some 19, op := Op.binOp BinOp.add 9 (.tmp 13) (.tmp 18) 9, type := 9, pos := "l08_msg.go:183", after := #[⟨7, .data⟩, ⟨12, .data⟩], guard := none } ?_
        refine tk 14 { dst := some 20, op := Op.binOp BinOp.add 9 (.tmp 19) (Operand.const (Value.string { data := #[32] })) 9, type := 9, pos := "l08_msg.go:183", after := #[⟨13, .data⟩], guard := none } ?_
        refine wpAnyH_ready (rs := [19]) (by kernel_rfl) (by simp) (AllReadyH.cons rfl (fun K hK => ?_) AllReadyH.nil)
        go_simp
        refine (HD2.out _).mono ?_
        rintro e y9 ⟨rfl, hb⟩
        have F9 : Hid (Ext w y9) := F4.out.trans hb
        have X9 : Hid (Ext (w.drew.alloc (.cells #[.string ⟨#[]⟩, .string ⟨#[112, 114, 111, 112, 111, 115, 101]⟩, .string ⟨#[112, 114, 101, 112, 97, 114, 101]⟩, .string ⟨#[99, 111, 109, 109, 105, 116]⟩, .string ⟨#[99, 104, 97, 110, 103, 101]⟩, .string ⟨#[110, 101, 119]⟩] 9)) y9) := X4.out.trans hb
        refine hK.out _ _ (HS.out _ F9.out) (fun hHeld9 => ?_)
        clear hK K hb
        refine tk 20 { dst := some 26, op := Op.binOp BinOp.add 9 (.tmp 20) (.tmp 25) 9, type := 9, pos := "l08_msg.go:183", after := #[⟨14, .data⟩, ⟨19, .data⟩], guard := none } ?_
        refine tk 21 { dst := some 3, op := Op.assign (.tmp 26), type := 9, pos := "l08_msg.go:183", after := #[⟨20, .data⟩, ⟨19, .chain⟩, ⟨0, .phase⟩, ⟨1, .phase⟩, ⟨2, .phase⟩, ⟨3, .phase⟩, ⟨4, .phase⟩, ⟨5, .phase⟩, ⟨6, .phase⟩, ⟨7, .phase⟩, ⟨8, .phase⟩, ⟨9, .phase⟩, ⟨10, .phase⟩, ⟨11, .phase⟩, ⟨12, .phase⟩, ⟨13, .phase⟩, ⟨14, .phase⟩, ⟨15, .phase⟩, ⟨16, .phase⟩, ⟨17, .phase⟩, ⟨18, .phase⟩, ⟨19, .phase⟩, ⟨20, .phase⟩], guard := none } ?_
        refine wpAnyH_done (by kernel_rfl) ?_ _
        have FZ : Hid (Ext w y9) := F9.out
        generalize y9 = WZ at *
        obtain ⟨p0, p1, p2, p3, p4⟩ := HS.out _ FZ.out
        go_wp2
        clear p0 p1 p2 p3 p4
        refine wp_region_held_drew (S := (fun W' : World => W'.cell? ⟨b, o, none⟩ = some (.int .i64 3) ∧ W'.cell? ⟨b, o + 1, none⟩ = some (.int .i64 m.view) ∧ W'.cell? ⟨b, o + 2, none⟩ = some (.int .i64 m.from_) ∧ W'.cell? ⟨b, o + 3, none⟩ = some (.int .i64 m.slot) ∧ W'.cell? ⟨b, o + 4, none⟩ = some (.int .i64 m.value))) (by kernel_rfl) (HS.out _ (FZ.out.drew)) (fun hHeld => ?_)
        refine tk 0 { dst := some 32, op := Op.move (.tmp 3), type := 9, pos := "l08_msg.go:185", after := #[], guard := none } ?_
        refine tk 1 { dst := some 33, op := Op.binOp BinOp.add 9 (.tmp 32) (Operand.const (Value.string { data := #[32] })) 9, type := 9, pos := "l08_msg.go:185", after := #[⟨0, .data⟩], guard := none } ?_
        refine tk 2 { dst := some 34, op := Op.move (.tmp 0), type := 50, pos := "l08_msg.go:185", after := #[], guard := none } ?_
        refine tk 3 { dst := some 35, op := Op.nilCheck (.tmp 34), type := 0, pos := "l08_msg.go:185", after := #[⟨2, .data⟩], guard := none } ?_
        refine tk 4 { dst := some 36, op := Op.fieldAddr 28 (.tmp 35) 3, type := 0, pos := "l08_msg.go:185", after := #[⟨3, .data⟩], guard := none } ?_
        refine tk 5 { dst := some 37, op := Op.load 2 (.tmp 36), type := 2, pos := "l08_msg.go:185", after := #[⟨4, .data⟩], guard := none } ?_
        refine tk 9 { dst := some 41, op := Op.move (.tmp 0), type := 50, pos := "l08_msg.go:185", after := #[], guard := none } ?_
        refine tk 10 { dst := some 42, op := Op.nilCheck (.tmp 41), type := 0, pos := "l08_msg.go:185", after := #[⟨9, .data⟩], guard := none } ?_
        refine tk 11 { dst := some 43, op := Op.fieldAddr 28 (.tmp 42) 4, type := 0, pos := "l08_msg.go:185", after := #[⟨10, .data⟩], guard := none } ?_
        refine tk 12 { dst := some 44, op := Op.load 2 (.tmp 43), type := 2, pos := "l08_msg.go:185", after := #[⟨11, .data⟩], guard := none } ?_
        refine wpAnyH_ready (rs := [6]) (by kernel_rfl) (by simp) (AllReadyH.cons rfl (fun K hK => ?_) AllReadyH.nil)
        go_simp
        refine (HD3.out _).mono ?_
        rintro e x1 ⟨rfl, hb⟩
        have G1 : Hid (Ext w x1) := FZ.out.drew.trans hb
        refine hK.out _ _ (HS.out _ G1.out) (fun hHd1 => ?_)
        clear hK K hb
        refine tk 7 { dst := some 39, op := Op.binOp BinOp.add 9 (.tmp 33) (.tmp 38) 9, type := 9, pos := "l08_msg.go:185", after := #[⟨1, .data⟩, ⟨6, .data⟩], guard := none } ?_
        refine tk 8 { dst := some 40, op := Op.binOp BinOp.add 9 (.tmp 39) (Operand.const (Value.string { data := #[32] })) 9, type := 9, pos := "l08_msg.go:185", after := #[⟨7, .data⟩], guard := none } ?_
        refine wpAnyH_ready (rs := [13]) (by kernel_rfl) (by simp) (AllReadyH.cons rfl (fun K hK => ?_) AllReadyH.nil)
        go_simp
        refine (HD4.out _).mono ?_
        rintro e x2 ⟨rfl, hb⟩
        have G2 : Hid (Ext w x2) := G1.out.trans hb
        refine hK.out _ _ (HS.out _ G2.out) (fun hHd2 => ?_)
        clear hK K hb
        refine tk 14 { dst := some 46, op := Op.binOp BinOp.add 9 (.tmp 40) (.tmp 45) 9, type := 9, pos := "l08_msg.go:185", after := #[⟨8, .data⟩, ⟨13, .data⟩], guard := none } ?_
        refine tk 15 { dst := some 2, op := Op.assign (.tmp 46), type := 9, pos := "l08_msg.go:185", after := #[⟨14, .data⟩, ⟨13, .chain⟩, ⟨0, .phase⟩, ⟨1, .phase⟩, ⟨2, .phase⟩, ⟨3, .phase⟩, ⟨4, .phase⟩, ⟨5, .phase⟩, ⟨6, .phase⟩, ⟨7, .phase⟩, ⟨8, .phase⟩, ⟨9, .phase⟩, ⟨10, .phase⟩, ⟨11, .phase⟩, ⟨12, .phase⟩, ⟨13, .phase⟩, ⟨14, .phase⟩], guard := none } ?_
        refine wpAnyH_done (by kernel_rfl) ?_ _
        go_wp2
        go_ret
        exact ⟨rfl, G2.out⟩
      · clear rw6
        go_simp
        refine (HD2.out _).mono ?_
        rintro e y8 ⟨rfl, hb⟩
        have F8 : Hid (Ext w y8) := F4.out.trans hb
        have X8 : Hid (Ext (w.drew.alloc (.cells #[.string ⟨#[]⟩, .string ⟨#[112, 114, 111, 112, 111, 115, 101]⟩, .string ⟨#[112, 114, 101, 112, 97, 114, 101]⟩, .string ⟨#[99, 111, 109, 109, 105, 116]⟩, .string ⟨#[99, 104, 97, 110, 103, 101]⟩, .string ⟨#[110, 101, 119]⟩] 9)) y8) := X4.out.trans hb
        refine hK.out _ _ (HS.out _ F8.out) (fun hHeld8 => ?_)
        clear hK K hb
        have rw6 := row6 X8.out
        refine wpAnyH_ready (rs := [6]) (by kernel_rfl) (by simp) (AllReadyH.cons rfl (fun K hK => ?_) AllReadyH.nil)
        have zz : y8.cell? ⟨w.heap.size, 3, none⟩ = some (.string ⟨#[99, 111, 109, 109, 105, 116]⟩) := rw6.2.2.1
        clear rw6
        go_simp
        refine hK.out _ _ (HS.out _ F8.out) (fun hHeld10 => ?_)
        clear hK K zz
        refine tk 7 { dst := some 13, op := Op.binOp BinOp.add 9 (.tmp 12) (Operand.const (Value.string { data := #[32] })) 9, type := 9, pos := "l08_msg.go:183", after := #[⟨6, .data⟩], guard := none } ?_
        refine tk 13 { dst := some 19, op := Op.binOp BinOp.add 9 (.tmp 13) (.tmp 18) 9, type := 9, pos := "l08_msg.go:183", after := #[⟨7, .data⟩, ⟨12, .data⟩], guard := none } ?_
        refine tk 14 { dst := some 20, op := Op.binOp BinOp.add 9 (.tmp 19) (Operand.const (Value.string { data := #[32] })) 9, type := 9, pos := "l08_msg.go:183", after := #[⟨13, .data⟩], guard := none } ?_
        refine tk 20 { dst := some 26, op := Op.binOp BinOp.add 9 (.tmp 20) (.tmp 25) 9, type := 9, pos := "l08_msg.go:183", after := #[⟨14, .data⟩, ⟨19, .data⟩], guard := none } ?_
        refine tk 21 { dst := some 3, op := Op.assign (.tmp 26), type := 9, pos := "l08_msg.go:183", after := #[⟨20, .data⟩, ⟨19, .chain⟩, ⟨0, .phase⟩, ⟨1, .phase⟩, ⟨2, .phase⟩, ⟨3, .phase⟩, ⟨4, .phase⟩, ⟨5, .phase⟩, ⟨6, .phase⟩, ⟨7, .phase⟩, ⟨8, .phase⟩, ⟨9, .phase⟩, ⟨10, .phase⟩, ⟨11, .phase⟩, ⟨12, .phase⟩, ⟨13, .phase⟩, ⟨14, .phase⟩, ⟨15, .phase⟩, ⟨16, .phase⟩, ⟨17, .phase⟩, ⟨18, .phase⟩, ⟨19, .phase⟩, ⟨20, .phase⟩], guard := none } ?_
        refine wpAnyH_done (by kernel_rfl) ?_ _
        have FZ : Hid (Ext w y8) := F8.out
        generalize y8 = WZ at *
        obtain ⟨p0, p1, p2, p3, p4⟩ := HS.out _ FZ.out
        go_wp2
        clear p0 p1 p2 p3 p4
        refine wp_region_held_drew (S := (fun W' : World => W'.cell? ⟨b, o, none⟩ = some (.int .i64 3) ∧ W'.cell? ⟨b, o + 1, none⟩ = some (.int .i64 m.view) ∧ W'.cell? ⟨b, o + 2, none⟩ = some (.int .i64 m.from_) ∧ W'.cell? ⟨b, o + 3, none⟩ = some (.int .i64 m.slot) ∧ W'.cell? ⟨b, o + 4, none⟩ = some (.int .i64 m.value))) (by kernel_rfl) (HS.out _ (FZ.out.drew)) (fun hHeld => ?_)
        refine tk 0 { dst := some 32, op := Op.move (.tmp 3), type := 9, pos := "l08_msg.go:185", after := #[], guard := none } ?_
        refine tk 1 { dst := some 33, op := Op.binOp BinOp.add 9 (.tmp 32) (Operand.const (Value.string { data := #[32] })) 9, type := 9, pos := "l08_msg.go:185", after := #[⟨0, .data⟩], guard := none } ?_
        refine tk 2 { dst := some 34, op := Op.move (.tmp 0), type := 50, pos := "l08_msg.go:185", after := #[], guard := none } ?_
        refine tk 3 { dst := some 35, op := Op.nilCheck (.tmp 34), type := 0, pos := "l08_msg.go:185", after := #[⟨2, .data⟩], guard := none } ?_
        refine tk 4 { dst := some 36, op := Op.fieldAddr 28 (.tmp 35) 3, type := 0, pos := "l08_msg.go:185", after := #[⟨3, .data⟩], guard := none } ?_
        refine tk 5 { dst := some 37, op := Op.load 2 (.tmp 36), type := 2, pos := "l08_msg.go:185", after := #[⟨4, .data⟩], guard := none } ?_
        refine tk 9 { dst := some 41, op := Op.move (.tmp 0), type := 50, pos := "l08_msg.go:185", after := #[], guard := none } ?_
        refine tk 10 { dst := some 42, op := Op.nilCheck (.tmp 41), type := 0, pos := "l08_msg.go:185", after := #[⟨9, .data⟩], guard := none } ?_
        refine tk 11 { dst := some 43, op := Op.fieldAddr 28 (.tmp 42) 4, type := 0, pos := "l08_msg.go:185", after := #[⟨10, .data⟩], guard := none } ?_
        refine tk 12 { dst := some 44, op := Op.load 2 (.tmp 43), type := 2, pos := "l08_msg.go:185", after := #[⟨11, .data⟩], guard := none } ?_
        refine wpAnyH_ready (rs := [6]) (by kernel_rfl) (by simp) (AllReadyH.cons rfl (fun K hK => ?_) AllReadyH.nil)
        go_simp
        refine (HD3.out _).mono ?_
        rintro e x1 ⟨rfl, hb⟩
        have G1 : Hid (Ext w x1) := FZ.out.drew.trans hb
        refine hK.out _ _ (HS.out _ G1.out) (fun hHd1 => ?_)
        clear hK K hb
        refine tk 7 { dst := some 39, op := Op.binOp BinOp.add 9 (.tmp 33) (.tmp 38) 9, type := 9, pos := "l08_msg.go:185", after := #[⟨1, .data⟩, ⟨6, .data⟩], guard := none } ?_
        refine tk 8 { dst := some 40, op := Op.binOp BinOp.add 9 (.tmp 39) (Operand.const (Value.string { data := #[32] })) 9, type := 9, pos := "l08_msg.go:185", after := #[⟨7, .data⟩], guard := none } ?_
        refine wpAnyH_ready (rs := [13]) (by kernel_rfl) (by simp) (AllReadyH.cons rfl (fun K hK => ?_) AllReadyH.nil)
        go_simp
        refine (HD4.out _).mono ?_
        rintro e x2 ⟨rfl, hb⟩
        have G2 : Hid (Ext w x2) := G1.out.trans hb
        refine hK.out _ _ (HS.out _ G2.out) (fun hHd2 => ?_)
        clear hK K hb
        refine tk 14 { dst := some 46, op := Op.binOp BinOp.add 9 (.tmp 40) (.tmp 45) 9, type := 9, pos := "l08_msg.go:185", after := #[⟨8, .data⟩, ⟨13, .data⟩], guard := none } ?_
        refine tk 15 { dst := some 2, op := Op.assign (.tmp 46), type := 9, pos := "l08_msg.go:185", after := #[⟨14, .data⟩, ⟨13, .chain⟩, ⟨0, .phase⟩, ⟨1, .phase⟩, ⟨2, .phase⟩, ⟨3, .phase⟩, ⟨4, .phase⟩, ⟨5, .phase⟩, ⟨6, .phase⟩, ⟨7, .phase⟩, ⟨8, .phase⟩, ⟨9, .phase⟩, ⟨10, .phase⟩, ⟨11, .phase⟩, ⟨12, .phase⟩, ⟨13, .phase⟩, ⟨14, .phase⟩], guard := none } ?_
        refine wpAnyH_done (by kernel_rfl) ?_ _
        go_wp2
        go_ret
        exact ⟨rfl, G2.out⟩
  · go_simp
    refine (HD1.out _).mono ?_
    rintro e y2 ⟨rfl, hb⟩
    have F2 : Hid (Ext w y2) := F0.out.trans hb
    refine hK.out _ _ (HS.out _ F2.out) (fun hHeld2 => ?_)
    clear hK K hb
    refine wpAnyH_ready (rs := [0, 19]) (by kernel_rfl) (by simp) (AllReadyH.cons rfl (fun K hK => ?_) (AllReadyH.cons rfl (fun K hK => ?_) AllReadyH.nil))
    · go_simp
      have F11 : Hid (Ext w (y2.alloc (.cells #[.string ⟨#[]⟩, .string ⟨#[112, 114, 111, 112, 111, 115, 101]⟩, .string ⟨#[112, 114, 101, 112, 97, 114, 101]⟩, .string ⟨#[99, 111, 109, 109, 105, 116]⟩, .string ⟨#[99, 104, 97, 110, 103, 101]⟩, .string ⟨#[110, 101, 119]⟩] 9))) := F2.out.alloc _
      have X11 : Hid (Ext (y2.alloc (.cells #[.string ⟨#[]⟩, .string ⟨#[112, 114, 111, 112, 111, 115, 101]⟩, .string ⟨#[112, 114, 101, 112, 97, 114, 101]⟩, .string ⟨#[99, 111, 109, 109, 105, 116]⟩, .string ⟨#[99, 104, 97, 110, 103, 101]⟩, .string ⟨#[110, 101, 119]⟩] 9)) (y2.alloc (.cells #[.string ⟨#[]⟩, .string ⟨#[112, 114, 111, 112, 111, 115, 101]⟩, .string ⟨#[112, 114, 101, 112, 97, 114, 101]⟩, .string ⟨#[99, 111, 109, 109, 105, 116]⟩, .string ⟨#[99, 104, 97, 110, 103, 101]⟩, .string ⟨#[110, 101, 119]⟩] 9))) := Ext.refl _
      refine hK.out _ _ (HS.out _ F11.out) (fun hHeld11 => ?_)
      clear hK K
      refine tk 5 { dst := some 11, op := Op.indexAddr 60 (.tmp 6) (.tmp 10), type := 0, pos := "l08_msg.go:183", after := #[⟨0, .data⟩, ⟨4, .data⟩], guard := none } ?_
      have rw6 := row6 X11.out
      refine wpAnyH_ready (rs := [6, 19]) (by kernel_rfl) (by simp) (AllReadyH.cons rfl (fun K hK => ?_) (AllReadyH.cons rfl (fun K hK => ?_) AllReadyH.nil))
      · have zz : (y2.alloc (.cells #[.string ⟨#[]⟩, .string ⟨#[112, 114, 111, 112, 111, 115, 101]⟩, .string ⟨#[112, 114, 101, 112, 97, 114, 101]⟩, .string ⟨#[99, 111, 109, 109, 105, 116]⟩, .string ⟨#[99, 104, 97, 110, 103, 101]⟩, .string ⟨#[110, 101, 119]⟩] 9)).cell? ⟨y2.heap.size, 3, none⟩ = some (.string ⟨#[99, 111, 109, 109, 105, 116]⟩) := rw6.2.2.1
        clear rw6
        go_simp
        refine hK.out _ _ (HS.out _ F11.out) (fun hHeld13 => ?_)
        clear hK K zz
        refine tk 7 { dst := some 13, op := Op.binOp BinOp.add 9 (.tmp 12) (Operand.const (Value.string { data := #[32] })) 9, type := 9, pos := "l08_msg.go:183", after := #[⟨6, .data⟩], guard := none } ?_
        refine tk 13 { dst := some 19, op := Op.binOp BinOp.add 9 (.tmp 13) (.tmp 18) 9, type := 9, pos := "l08_msg.go:183", after := #[⟨7, .data⟩, ⟨12, .data⟩], guard := none } ?_
        refine tk 14 { dst := some 20, op := Op.binOp BinOp.add 9 (.tmp 19) (Operand.const (Value.string { data := #[32] })) 9, type := 9, pos := "l08_msg.go:183", after := #[⟨13, .data⟩], guard := none } ?_
        refine wpAnyH_ready (rs := [19]) (by kernel_rfl) (by simp) (AllReadyH.cons rfl (fun K hK => ?_) AllReadyH.nil)
        go_simp
        refine (HD2.out _).mono ?_
        rintro e y15 ⟨rfl, hb⟩
        have F15 : Hid (Ext w y15) := F11.out.trans hb
        have X15 : Hid (Ext (y2.alloc (.cells #[.string ⟨#[]⟩, .string ⟨#[112, 114, 111, 112, 111, 115, 101]⟩, .string ⟨#[112, 114, 101, 112, 97, 114, 101]⟩, .string ⟨#[99, 111, 109, 109, 105, 116]⟩, .string ⟨#[99, 104, 97, 110, 103, 101]⟩, .string ⟨#[110, 101, 119]⟩] 9)) y15) := X11.out.trans hb
        refine hK.out _ _ (HS.out _ F15.out) (fun hHeld15 => ?_)
        clear hK K hb
        refine tk 20 { dst := some 26, op := Op.binOp BinOp.add 9 (.tmp 20) (.tmp 25) 9, type := 9, pos := "l08_msg.go:183", after := #[⟨14, .data⟩, ⟨19, .data⟩], guard := none } ?_
        refine tk 21 { dst := some 3, op := Op.assign (.tmp 26), type := 9, pos := "l08_msg.go:183", after := #[⟨20, .data⟩, ⟨19, .chain⟩, ⟨0, .phase⟩, ⟨1, .phase⟩, ⟨2, .phase⟩, ⟨3, .phase⟩, ⟨4, .phase⟩, ⟨5, .phase⟩, ⟨6, .phase⟩, ⟨7, .phase⟩, ⟨8, .phase⟩, ⟨9, .phase⟩, ⟨10, .phase⟩, ⟨11, .phase⟩, ⟨12, .phase⟩, ⟨13, .phase⟩, ⟨14, .phase⟩, ⟨15, .phase⟩, ⟨16, .phase⟩, ⟨17, .phase⟩, ⟨18, .phase⟩, ⟨19, .phase⟩, ⟨20, .phase⟩], guard := none } ?_
        refine wpAnyH_done (by kernel_rfl) ?_ _
        have FZ : Hid (Ext w y15) := F15.out
        generalize y15 = WZ at *
        obtain ⟨p0, p1, p2, p3, p4⟩ := HS.out _ FZ.out
        go_wp2
        clear p0 p1 p2 p3 p4
        refine wp_region_held_drew (S := (fun W' : World => W'.cell? ⟨b, o, none⟩ = some (.int .i64 3) ∧ W'.cell? ⟨b, o + 1, none⟩ = some (.int .i64 m.view) ∧ W'.cell? ⟨b, o + 2, none⟩ = some (.int .i64 m.from_) ∧ W'.cell? ⟨b, o + 3, none⟩ = some (.int .i64 m.slot) ∧ W'.cell? ⟨b, o + 4, none⟩ = some (.int .i64 m.value))) (by kernel_rfl) (HS.out _ (FZ.out.drew)) (fun hHeld => ?_)
        refine tk 0 { dst := some 32, op := Op.move (.tmp 3), type := 9, pos := "l08_msg.go:185", after := #[], guard := none } ?_
        refine tk 1 { dst := some 33, op := Op.binOp BinOp.add 9 (.tmp 32) (Operand.const (Value.string { data := #[32] })) 9, type := 9, pos := "l08_msg.go:185", after := #[⟨0, .data⟩], guard := none } ?_
        refine tk 2 { dst := some 34, op := Op.move (.tmp 0), type := 50, pos := "l08_msg.go:185", after := #[], guard := none } ?_
        refine tk 3 { dst := some 35, op := Op.nilCheck (.tmp 34), type := 0, pos := "l08_msg.go:185", after := #[⟨2, .data⟩], guard := none } ?_
        refine tk 4 { dst := some 36, op := Op.fieldAddr 28 (.tmp 35) 3, type := 0, pos := "l08_msg.go:185", after := #[⟨3, .data⟩], guard := none } ?_
        refine tk 5 { dst := some 37, op := Op.load 2 (.tmp 36), type := 2, pos := "l08_msg.go:185", after := #[⟨4, .data⟩], guard := none } ?_
        refine tk 9 { dst := some 41, op := Op.move (.tmp 0), type := 50, pos := "l08_msg.go:185", after := #[], guard := none } ?_
        refine tk 10 { dst := some 42, op := Op.nilCheck (.tmp 41), type := 0, pos := "l08_msg.go:185", after := #[⟨9, .data⟩], guard := none } ?_
        refine tk 11 { dst := some 43, op := Op.fieldAddr 28 (.tmp 42) 4, type := 0, pos := "l08_msg.go:185", after := #[⟨10, .data⟩], guard := none } ?_
        refine tk 12 { dst := some 44, op := Op.load 2 (.tmp 43), type := 2, pos := "l08_msg.go:185", after := #[⟨11, .data⟩], guard := none } ?_
        refine wpAnyH_ready (rs := [6]) (by kernel_rfl) (by simp) (AllReadyH.cons rfl (fun K hK => ?_) AllReadyH.nil)
        go_simp
        refine (HD3.out _).mono ?_
        rintro e x1 ⟨rfl, hb⟩
        have G1 : Hid (Ext w x1) := FZ.out.drew.trans hb
        refine hK.out _ _ (HS.out _ G1.out) (fun hHd1 => ?_)
        clear hK K hb
        refine tk 7 { dst := some 39, op := Op.binOp BinOp.add 9 (.tmp 33) (.tmp 38) 9, type := 9, pos := "l08_msg.go:185", after := #[⟨1, .data⟩, ⟨6, .data⟩], guard := none } ?_
        refine tk 8 { dst := some 40, op := Op.binOp BinOp.add 9 (.tmp 39) (Operand.const (Value.string { data := #[32] })) 9, type := 9, pos := "l08_msg.go:185", after := #[⟨7, .data⟩], guard := none } ?_
        refine wpAnyH_ready (rs := [13]) (by kernel_rfl) (by simp) (AllReadyH.cons rfl (fun K hK => ?_) AllReadyH.nil)
        go_simp
        refine (HD4.out _).mono ?_
        rintro e x2 ⟨rfl, hb⟩
        have G2 : Hid (Ext w x2) := G1.out.trans hb
        refine hK.out _ _ (HS.out _ G2.out) (fun hHd2 => ?_)
        clear hK K hb
        refine tk 14 { dst := some 46, op := Op.binOp BinOp.add 9 (.tmp 40) (.tmp 45) 9, type := 9, pos := "l08_msg.go:185", after := #[⟨8, .data⟩, ⟨13, .data⟩], guard := none } ?_
        refine tk 15 { dst := some 2, op := Op.assign (.tmp 46), type := 9, pos := "l08_msg.go:185", after := #[⟨14, .data⟩, ⟨13, .chain⟩, ⟨0, .phase⟩, ⟨1, .phase⟩, ⟨2, .phase⟩, ⟨3, .phase⟩, ⟨4, .phase⟩, ⟨5, .phase⟩, ⟨6, .phase⟩, ⟨7, .phase⟩, ⟨8, .phase⟩, ⟨9, .phase⟩, ⟨10, .phase⟩, ⟨11, .phase⟩, ⟨12, .phase⟩, ⟨13, .phase⟩, ⟨14, .phase⟩], guard := none } ?_
        refine wpAnyH_done (by kernel_rfl) ?_ _
        go_wp2
        go_ret
        exact ⟨rfl, G2.out⟩
      · clear rw6
        go_simp
        refine (HD2.out _).mono ?_
        rintro e y14 ⟨rfl, hb⟩
        have F14 : Hid (Ext w y14) := F11.out.trans hb
        have X14 : Hid (Ext (y2.alloc (.cells #[.string ⟨#[]⟩, .string ⟨#[112, 114, 111, 112, 111, 115, 101]⟩, .string ⟨#[112, 114, 101, 112, 97, 114, 101]⟩, .string ⟨#[99, 111, 109, 109, 105, 116]⟩, .string ⟨#[99, 104, 97, 110, 103, 101]⟩, .string ⟨#[110, 101, 119]⟩] 9)) y14) := X11.out.trans hb
        refine hK.out _ _ (HS.out _ F14.out) (fun hHeld14 => ?_)
        clear hK K hb
        have rw6 := row6 X14.out
        refine wpAnyH_ready (rs := [6]) (by kernel_rfl) (by simp) (AllReadyH.cons rfl (fun K hK => ?_) AllReadyH.nil)
        have zz : y14.cell? ⟨y2.heap.size, 3, none⟩ = some (.string ⟨#[99, 111, 109, 109, 105, 116]⟩) := rw6.2.2.1
        clear rw6
        go_simp
        refine hK.out _ _ (HS.out _ F14.out) (fun hHeld16 => ?_)
        clear hK K zz
        refine tk 7 { dst := some 13, op := Op.binOp BinOp.add 9 (.tmp 12) (Operand.const (Value.string { data := #[32] })) 9, type := 9, pos := "l08_msg.go:183", after := #[⟨6, .data⟩], guard := none } ?_
        refine tk 13 { dst := some 19, op := Op.binOp BinOp.add 9 (.tmp 13) (.tmp 18) 9, type := 9, pos := "l08_msg.go:183", after := #[⟨7, .data⟩, ⟨12, .data⟩], guard := none } ?_
        refine tk 14 { dst := some 20, op := Op.binOp BinOp.add 9 (.tmp 19) (Operand.const (Value.string { data := #[32] })) 9, type := 9, pos := "l08_msg.go:183", after := #[⟨13, .data⟩], guard := none } ?_
        refine tk 20 { dst := some 26, op := Op.binOp BinOp.add 9 (.tmp 20) (.tmp 25) 9, type := 9, pos := "l08_msg.go:183", after := #[⟨14, .data⟩, ⟨19, .data⟩], guard := none } ?_
        refine tk 21 { dst := some 3, op := Op.assign (.tmp 26), type := 9, pos := "l08_msg.go:183", after := #[⟨20, .data⟩, ⟨19, .chain⟩, ⟨0, .phase⟩, ⟨1, .phase⟩, ⟨2, .phase⟩, ⟨3, .phase⟩, ⟨4, .phase⟩, ⟨5, .phase⟩, ⟨6, .phase⟩, ⟨7, .phase⟩, ⟨8, .phase⟩, ⟨9, .phase⟩, ⟨10, .phase⟩, ⟨11, .phase⟩, ⟨12, .phase⟩, ⟨13, .phase⟩, ⟨14, .phase⟩, ⟨15, .phase⟩, ⟨16, .phase⟩, ⟨17, .phase⟩, ⟨18, .phase⟩, ⟨19, .phase⟩, ⟨20, .phase⟩], guard := none } ?_
        refine wpAnyH_done (by kernel_rfl) ?_ _
        have FZ : Hid (Ext w y14) := F14.out
        generalize y14 = WZ at *
        obtain ⟨p0, p1, p2, p3, p4⟩ := HS.out _ FZ.out
        go_wp2
        clear p0 p1 p2 p3 p4
        refine wp_region_held_drew (S := (fun W' : World => W'.cell? ⟨b, o, none⟩ = some (.int .i64 3) ∧ W'.cell? ⟨b, o + 1, none⟩ = some (.int .i64 m.view) ∧ W'.cell? ⟨b, o + 2, none⟩ = some (.int .i64 m.from_) ∧ W'.cell? ⟨b, o + 3, none⟩ = some (.int .i64 m.slot) ∧ W'.cell? ⟨b, o + 4, none⟩ = some (.int .i64 m.value))) (by kernel_rfl) (HS.out _ (FZ.out.drew)) (fun hHeld => ?_)
        refine tk 0 { dst := some 32, op := Op.move (.tmp 3), type := 9, pos := "l08_msg.go:185", after := #[], guard := none } ?_
        refine tk 1 { dst := some 33, op := Op.binOp BinOp.add 9 (.tmp 32) (Operand.const (Value.string { data := #[32] })) 9, type := 9, pos := "l08_msg.go:185", after := #[⟨0, .data⟩], guard := none } ?_
        refine tk 2 { dst := some 34, op := Op.move (.tmp 0), type := 50, pos := "l08_msg.go:185", after := #[], guard := none } ?_
        refine tk 3 { dst := some 35, op := Op.nilCheck (.tmp 34), type := 0, pos := "l08_msg.go:185", after := #[⟨2, .data⟩], guard := none } ?_
        refine tk 4 { dst := some 36, op := Op.fieldAddr 28 (.tmp 35) 3, type := 0, pos := "l08_msg.go:185", after := #[⟨3, .data⟩], guard := none } ?_
        refine tk 5 { dst := some 37, op := Op.load 2 (.tmp 36), type := 2, pos := "l08_msg.go:185", after := #[⟨4, .data⟩], guard := none } ?_
        refine tk 9 { dst := some 41, op := Op.move (.tmp 0), type := 50, pos := "l08_msg.go:185", after := #[], guard := none } ?_
        refine tk 10 { dst := some 42, op := Op.nilCheck (.tmp 41), type := 0, pos := "l08_msg.go:185", after := #[⟨9, .data⟩], guard := none } ?_
        refine tk 11 { dst := some 43, op := Op.fieldAddr 28 (.tmp 42) 4, type := 0, pos := "l08_msg.go:185", after := #[⟨10, .data⟩], guard := none } ?_
        refine tk 12 { dst := some 44, op := Op.load 2 (.tmp 43), type := 2, pos := "l08_msg.go:185", after := #[⟨11, .data⟩], guard := none } ?_
        refine wpAnyH_ready (rs := [6]) (by kernel_rfl) (by simp) (AllReadyH.cons rfl (fun K hK => ?_) AllReadyH.nil)
        go_simp
        refine (HD3.out _).mono ?_
        rintro e x1 ⟨rfl, hb⟩
        have G1 : Hid (Ext w x1) := FZ.out.drew.trans hb
        refine hK.out _ _ (HS.out _ G1.out) (fun hHd1 => ?_)
        clear hK K hb
        refine tk 7 { dst := some 39, op := Op.binOp BinOp.add 9 (.tmp 33) (.tmp 38) 9, type := 9, pos := "l08_msg.go:185", after := #[⟨1, .data⟩, ⟨6, .data⟩], guard := none } ?_
        refine tk 8 { dst := some 40, op := Op.binOp BinOp.add 9 (.tmp 39) (Operand.const (Value.string { data := #[32] })) 9, type := 9, pos := "l08_msg.go:185", after := #[⟨7, .data⟩], guard := none } ?_
        refine wpAnyH_ready (rs := [13]) (by kernel_rfl) (by simp) (AllReadyH.cons rfl (fun K hK => ?_) AllReadyH.nil)
        go_simp
        refine (HD4.out _).mono ?_
        rintro e x2 ⟨rfl, hb⟩
        have G2 : Hid (Ext w x2) := G1.out.trans hb
        refine hK.out _ _ (HS.out _ G2.out) (fun hHd2 => ?_)
        clear hK K hb
        refine tk 14 { dst := some 46, op := Op.binOp BinOp.add 9 (.tmp 40) (.tmp 45) 9, type := 9, pos := "l08_msg.go:185", after := #[⟨8, .data⟩, ⟨13, .data⟩], guard := none } ?_
        refine tk 15 { dst := some 2, op := Op.assign (.tmp 46), type := 9, pos := "l08_msg.go:185", after := #[⟨14, .data⟩, ⟨13, .chain⟩, ⟨0, .phase⟩, ⟨1, .phase⟩, ⟨2, .phase⟩, ⟨3, .phase⟩, ⟨4, .phase⟩, ⟨5, .phase⟩, ⟨6, .phase⟩, ⟨7, .phase⟩, ⟨8, .phase⟩, ⟨9, .phase⟩, ⟨10, .phase⟩, ⟨11, .phase⟩, ⟨12, .phase⟩, ⟨13, .phase⟩, ⟨14, .phase⟩], guard := none } ?_
        refine wpAnyH_done (by kernel_rfl) ?_ _
        go_wp2
        go_ret
        exact ⟨rfl, G2.out⟩
    · go_simp
      refine (HD2.out _).mono ?_
      rintro e y12 ⟨rfl, hb⟩
      have F12 : Hid (Ext w y12) := F2.out.trans hb
      refine hK.out _ _ (HS.out _ F12.out) (fun hHeld12 => ?_)
      clear hK K hb
      refine wpAnyH_ready (rs := [0]) (by kernel_rfl) (by simp) (AllReadyH.cons rfl (fun K hK => ?_) AllReadyH.nil)
      go_simp
      have F17 : Hid (Ext w (y12.alloc (.cells #[.string ⟨#[]⟩, .string ⟨#[112, 114, 111, 112, 111, 115, 101]⟩, .string ⟨#[112, 114, 101, 112, 97, 114, 101]⟩, .string ⟨#[99, 111, 109, 109, 105, 116]⟩, .string ⟨#[99, 104, 97, 110, 103, 101]⟩, .string ⟨#[110, 101, 119]⟩] 9))) := F12.out.alloc _
      have X17 : Hid (Ext (y12.alloc (.cells #[.string ⟨#[]⟩, .string ⟨#[112, 114, 111, 112, 111, 115, 101]⟩, .string ⟨#[112, 114, 101, 112, 97, 114, 101]⟩, .string ⟨#[99, 111, 109, 109, 105, 116]⟩, .string ⟨#[99, 104, 97, 110, 103, 101]⟩, .string ⟨#[110, 101, 119]⟩] 9)) (y12.alloc (.cells #[.string ⟨#[]⟩, .string ⟨#[112, 114, 111, 112, 111, 115, 101]⟩, .string ⟨#[112, 114, 101, 112, 97, 114, 101]⟩, .string ⟨#[99, 111, 109, 109, 105, 116]⟩, .string ⟨#[99, 104, 97, 110, 103, 101]⟩, .string ⟨#[110, 101, 119]⟩] 9))) := Ext.refl _
      refine hK.out _ _ (HS.out _ F17.out) (fun hHeld17 => ?_)
      clear hK K
      refine tk 5 { dst := some 11, op := Op.indexAddr 60 (.tmp 6) (.tmp 10), type := 0, pos := "l08_msg.go:183", after := #[⟨0, .data⟩, ⟨4, .data⟩], guard := none } ?_
      have rw6 := row6 X17.out
      refine wpAnyH_ready (rs := [6]) (by kernel_rfl) (by simp) (AllReadyH.cons rfl (fun K hK => ?_) AllReadyH.nil)
      have zz : (y12.alloc (.cells #[.string ⟨#[]⟩, .string ⟨#[112, 114, 111, 112, 111, 115, 101]⟩, .string ⟨#[112, 114, 101, 112, 97, 114, 101]⟩, .string ⟨#[99, 111, 109, 109, 105, 116]⟩, .string ⟨#[99, 104, 97, 110, 103, 101]⟩, .string ⟨#[110, 101, 119]⟩] 9)).cell? ⟨y12.heap.size, 3, none⟩ = some (.string ⟨#[99, 111, 109, 109, 105, 116]⟩) := rw6.2.2.1
      clear rw6
      go_simp
      refine hK.out _ _ (HS.out _ F17.out) (fun hHeld18 => ?_)
      clear hK K zz
      refine tk 7 { dst := some 13, op := Op.binOp BinOp.add 9 (.tmp 12) (Operand.const (Value.string { data := #[32] })) 9, type := 9, pos := "l08_msg.go:183", after := #[⟨6, .data⟩], guard := none } ?_
      refine tk 13 { dst := some 19, op := Op.binOp BinOp.add 9 (.tmp 13) (.tmp 18) 9, type := 9, pos := "l08_msg.go:183", after := #[⟨7, .data⟩, ⟨12, .data⟩], guard := none } ?_
      refine tk 14 { dst := some 20, op := Op.binOp BinOp.add 9 (.tmp 19) (Operand.const (Value.string { data := #[32] })) 9, type := 9, pos := "l08_msg.go:183", after := #[⟨13, .data⟩], guard := none } ?_
      refine tk 20 { dst := some 26, op := Op.binOp BinOp.add 9 (.tmp 20) (.tmp 25) 9, type := 9, pos := "l08_msg.go:183", after := #[⟨14, .data⟩, ⟨19, .data⟩], guard := none } ?_
      refine tk 21 { dst := some 3, op := Op.assign (.tmp 26), type := 9, pos := "l08_msg.go:183", after := #[⟨20, .data⟩, ⟨19, .chain⟩, ⟨0, .phase⟩, ⟨1, .phase⟩, ⟨2, .phase⟩, ⟨3, .phase⟩, ⟨4, .phase⟩, ⟨5, .phase⟩, ⟨6, .phase⟩, ⟨7, .phase⟩, ⟨8, .phase⟩, ⟨9, .phase⟩, ⟨10, .phase⟩, ⟨11, .phase⟩, ⟨12, .phase⟩, ⟨13, .phase⟩, ⟨14, .phase⟩, ⟨15, .phase⟩, ⟨16, .phase⟩, ⟨17, .phase⟩, ⟨18, .phase⟩, ⟨19, .phase⟩, ⟨20, .phase⟩], guard := none } ?_
      refine wpAnyH_done (by kernel_rfl) ?_ _
      have FZ : Hid (Ext w (y12.alloc (.cells #[.string ⟨#[]⟩, .string ⟨#[112, 114, 111, 112, 111, 115, 101]⟩, .string ⟨#[112, 114, 101, 112, 97, 114, 101]⟩, .string ⟨#[99, 111, 109, 109, 105, 116]⟩, .string ⟨#[99, 104, 97, 110, 103, 101]⟩, .string ⟨#[110, 101, 119]⟩] 9))) := F17.out
      generalize (y12.alloc (.cells #[.string ⟨#[]⟩, .string ⟨#[112, 114, 111, 112, 111, 115, 101]⟩, .string ⟨#[112, 114, 101, 112, 97, 114, 101]⟩, .string ⟨#[99, 111, 109, 109, 105, 116]⟩, .string ⟨#[99, 104, 97, 110, 103, 101]⟩, .string ⟨#[110, 101, 119]⟩] 9)) = WZ at *
      obtain ⟨p0, p1, p2, p3, p4⟩ := HS.out _ FZ.out
      go_wp2
      clear p0 p1 p2 p3 p4
      refine wp_region_held_drew (S := (fun W' : World => W'.cell? ⟨b, o, none⟩ = some (.int .i64 3) ∧ W'.cell? ⟨b, o + 1, none⟩ = some (.int .i64 m.view) ∧ W'.cell? ⟨b, o + 2, none⟩ = some (.int .i64 m.from_) ∧ W'.cell? ⟨b, o + 3, none⟩ = some (.int .i64 m.slot) ∧ W'.cell? ⟨b, o + 4, none⟩ = some (.int .i64 m.value))) (by kernel_rfl) (HS.out _ (FZ.out.drew)) (fun hHeld => ?_)
      refine tk 0 { dst := some 32, op := Op.move (.tmp 3), type := 9, pos := "l08_msg.go:185", after := #[], guard := none } ?_
      refine tk 1 { dst := some 33, op := Op.binOp BinOp.add 9 (.tmp 32) (Operand.const (Value.string { data := #[32] })) 9, type := 9, pos := "l08_msg.go:185", after := #[⟨0, .data⟩], guard := none } ?_
      refine tk 2 { dst := some 34, op := Op.move (.tmp 0), type := 50, pos := "l08_msg.go:185", after := #[], guard := none } ?_
      refine tk 3 { dst := some 35, op := Op.nilCheck (.tmp 34), type := 0, pos := "l08_msg.go:185", after := #[⟨2, .data⟩], guard := none } ?_
      refine tk 4 { dst := some 36, op := Op.fieldAddr 28 (.tmp 35) 3, type := 0, pos := "l08_msg.go:185", after := #[⟨3, .data⟩], guard := none } ?_
      refine tk 5 { dst := some 37, op := Op.load 2 (.tmp 36), type := 2, pos := "l08_msg.go:185", after := #[⟨4, .data⟩], guard := none } ?_
      refine tk 9 { dst := some 41, op := Op.move (.tmp 0), type := 50, pos := "l08_msg.go:185", after := #[], guard := none } ?_
      refine tk 10 { dst := some 42, op := Op.nilCheck (.tmp 41), type := 0, pos := "l08_msg.go:185", after := #[⟨9, .data⟩], guard := none } ?_
      refine tk 11 { dst := some 43, op := Op.fieldAddr 28 (.tmp 42) 4, type := 0, pos := "l08_msg.go:185", after := #[⟨10, .data⟩], guard := none } ?_
      refine tk 12 { dst := some 44, op := Op.load 2 (.tmp 43), type := 2, pos := "l08_msg.go:185", after := #[⟨11, .data⟩], guard := none } ?_
      refine wpAnyH_ready (rs := [6]) (by kernel_rfl) (by simp) (AllReadyH.cons rfl (fun K hK => ?_) AllReadyH.nil)
      go_simp
      refine (HD3.out _).mono ?_
      rintro e x1 ⟨rfl, hb⟩
      have G1 : Hid (Ext w x1) := FZ.out.drew.trans hb
      refine hK.out _ _ (HS.out _ G1.out) (fun hHd1 => ?_)
      clear hK K hb
      refine tk 7 { dst := some 39, op := Op.binOp BinOp.add 9 (.tmp 33) (.tmp 38) 9, type := 9, pos := "l08_msg.go:185", after := #[⟨1, .data⟩, ⟨6, .data⟩], guard := none } ?_
      refine tk 8 { dst := some 40, op := Op.binOp BinOp.add 9 (.tmp 39) (Operand.const (Value.string { data := #[32] })) 9, type := 9, pos := "l08_msg.go:185", after := #[⟨7, .data⟩], guard := none } ?_
      refine wpAnyH_ready (rs := [13]) (by kernel_rfl) (by simp) (AllReadyH.cons rfl (fun K hK => ?_) AllReadyH.nil)
      go_simp
      refine (HD4.out _).mono ?_
      rintro e x2 ⟨rfl, hb⟩
      have G2 : Hid (Ext w x2) := G1.out.trans hb
      refine hK.out _ _ (HS.out _ G2.out) (fun hHd2 => ?_)
      clear hK K hb
      refine tk 14 { dst := some 46, op := Op.binOp BinOp.add 9 (.tmp 40) (.tmp 45) 9, type := 9, pos := "l08_msg.go:185", after := #[⟨8, .data⟩, ⟨13, .data⟩], guard := none } ?_
      refine tk 15 { dst := some 2, op := Op.assign (.tmp 46), type := 9, pos := "l08_msg.go:185", after := #[⟨14, .data⟩, ⟨13, .chain⟩, ⟨0, .phase⟩, ⟨1, .phase⟩, ⟨2, .phase⟩, ⟨3, .phase⟩, ⟨4, .phase⟩, ⟨5, .phase⟩, ⟨6, .phase⟩, ⟨7, .phase⟩, ⟨8, .phase⟩, ⟨9, .phase⟩, ⟨10, .phase⟩, ⟨11, .phase⟩, ⟨12, .phase⟩, ⟨13, .phase⟩, ⟨14, .phase⟩], guard := none } ?_
      refine wpAnyH_done (by kernel_rfl) ?_ _
      go_wp2
      go_ret
      exact ⟨rfl, G2.out⟩
end Go.Proofs.YtpncnfodgfldlaaDoor
