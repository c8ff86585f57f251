/- the text of a reply: the specification's l14Text. -/
import Derived.Test.YtfgjodnjahhanaaDoorVvRT1
import Derived.Deep.RegionHeld3
import Derived.Test.YtfgjodnjahhanaaDoorVvTk
namespace Go.Proofs.YtfgjodnjahhanaaDoor
open Go.RowKit
set_option maxHeartbeats 8000000 in
set_option maxRecDepth 100000 in
theorem l14Text_any (c r : Int) (p : ByteArray) (b : Nat) (w : World) (hok : okY c r p = true) (hB : RyAt w b (.int .i64 c) (.int .i64 r) (.string p)) :
    Calls Tryd.prog 18 #[.pointer (some ⟨b, 0, none⟩)] w fun e w' => e = .returned (.string (mkB (Lib.join (Rpy.words c r p) [32]))) ∧ Ext w w' := by
  obtain ⟨hc0, hc1, hr0, hr1, hp⟩ := Rpy.ok_in hok
  clear hok
  have HB : Hid (RyAt w b (.int .i64 c) (.int .i64 r) (.string p)) := hB
  have HC : Hid (∀ wx : World, Calls Tryd.prog 31 #[.int .i64 c] wx fun e w' => e = .returned (.string (mkB (Lib.itoa c))) ∧ Ext wx w') := digitsV_any c (by omega) (by omega)
  have HR : Hid (∀ wx : World, Calls Tryd.prog 31 #[.int .i64 r] wx fun e w' => e = .returned (.string (mkB (Lib.itoa r))) ∧ Ext wx w') := digitsV_any r (by omega) (by omega)
  have s1 : (mkB (Lib.itoa c)).size ≤ 21 := by rw [mkB_size]; exact itoa_len _ (by omega) (by omega)
  have s2 : (mkB (Lib.itoa r)).size ≤ 21 := by rw [mkB_size]; exact itoa_len _ (by omega) (by omega)
  have hj3 : p.size = 0 → Lib.join (Rpy.words c r p) [32] = [99, 111, 100, 101, 32] ++ (mkB (Lib.itoa c)).data.toList ++ [32] ++ (mkB (Lib.itoa r)).data.toList := fun h => by rw [Rpy.join3 c r h, mkB_list, mkB_list]
  have hj4 : ¬ p.size = 0 → Lib.join (Rpy.words c r p) [32] = [99, 111, 100, 101, 32] ++ (mkB (Lib.itoa c)).data.toList ++ [32] ++ (mkB (Lib.itoa r)).data.toList ++ [32] ++ p.data.toList := fun h => by rw [Rpy.join4 c r h, mkB_list, mkB_list]
  generalize Lib.join (Rpy.words c r p) [32] = J at *
  generalize mkB (Lib.itoa c) = dc at *
  generalize mkB (Lib.itoa r) = dr at *
  obtain ⟨A1, l1, n1, hA1⟩ := add_run ⟨#[99, 111, 100, 101, 32]⟩ dc 5 21 (by decide) s1 (by decide)
  obtain ⟨A2, l2, n2, hA2⟩ := add_run A1 ⟨#[32]⟩ 26 1 n1 (by decide) (by decide)
  obtain ⟨A3, l3, n3, hA3⟩ := add_run A2 dr 27 21 n2 s2 (by decide)
  obtain ⟨A4, l4, n4, hA4⟩ := add_run A3 ⟨#[32]⟩ 48 1 n3 (by decide) (by decide)
  obtain ⟨A5, l5, n5, hA5⟩ := add_run A4 p 49 24 n4 hp (by decide)
  have hx3 : p.size = 0 → mkB J = A3 := fun h => by
    rw [hj3 h]; refine (eq_mkB ?_).symm
    rw [l3, l2, l1]
  have hx4 : ¬ p.size = 0 → mkB J = A5 := fun h => by
    rw [hj4 h]; refine (eq_mkB ?_).symm
    rw [l5, l4, l3, l2, l1]
  clear hj3 hj4 l1 l2 l3 l4 l5 s1 s2 n1 n2 n3 n4 n5 hc0 hc1 hr0 hr1 hB
  obtain ⟨xl, ⟨x0, x1, x2⟩, -⟩ := HB.out
  by_cases hp0 : p.size = 0
  · rw [hx3 hp0]
    obtain rfl := Rpy.empty_of hp0
    clear hx3 hx4 hp0
    go_enter Tryd.func18, Tryd.ntmps18
    have HS : Hid (∀ W', Ext w W' → (fun W' : World => W'.cell? ⟨b, 0, none⟩ = some (.int .i64 c) ∧ W'.cell? ⟨b, 1, none⟩ = some (.int .i64 r) ∧ W'.cell? ⟨b, 2, none⟩ = some (.string ⟨#[]⟩)) W') := fun W' he => (HB.out.ext he).2.1
    go_wp2
    refine wp_region_held_drew (S := (fun W' : World => W'.cell? ⟨b, 0, none⟩ = some (.int .i64 c) ∧ W'.cell? ⟨b, 1, none⟩ = some (.int .i64 r) ∧ W'.cell? ⟨b, 2, none⟩ = some (.string ⟨#[]⟩))) (by kernel_rfl) (HS.out _ ((Ext.refl _).drew)) (fun hHeld => ?_)
    have F0 : Hid (Ext w w.drew) := (Ext.refl _).drew
    refine tk 0 { dst := some 4, op := Op.move (.tmp 0), type := 48, pos := "l14_vote.go:88", after := #[], guard := none } ?_
    refine tk 1 { dst := some 5, op := Op.nilCheck (.tmp 4), type := 0, pos := "l14_vote.go:88", after := #[⟨0, .data⟩], guard := none } ?_
    refine tk 2 { dst := some 6, op := Op.fieldAddr 28 (.tmp 5) 0, type := 0, pos := "l14_vote.go:88", after := #[⟨1, .data⟩], guard := none } ?_
    refine tk 3 { dst := some 7, op := Op.load 2 (.tmp 6), type := 2, pos := "l14_vote.go:88", after := #[⟨2, .data⟩], guard := none } ?_
    refine tk 7 { dst := some 11, op := Op.move (.tmp 0), type := 48, pos := "l14_vote.go:88", after := #[], guard := none } ?_
    refine tk 8 { dst := some 12, op := Op.nilCheck (.tmp 11), type := 0, pos := "l14_vote.go:88", after := #[⟨7, .data⟩], guard := none } ?_
    refine tk 9 { dst := some 13, op := Op.fieldAddr 28 (.tmp 12) 1, type := 0, pos := "l14_vote.go:88", after := #[⟨8, .data⟩], guard := none } ?_
    refine tk 10 { dst := some 14, op := Op.load 2 (.tmp 13), type := 2, pos := "l14_vote.go:88", after := #[⟨9, .data⟩], guard := none } ?_
    refine wpAnyH_ready (rs := [4]) (by kernel_rfl) (by simp) (AllReadyH.cons rfl (fun K hK => ?_) AllReadyH.nil)
    go_simp
    refine (HC.out _).mono ?_
    rintro e y1 ⟨rfl, hb⟩
    have F1 : Hid (Ext w y1) := F0.out.trans hb
    clear hb
    refine hK.out _ _ (HS.out _ F1.out) (fun hHeld1 => ?_)
    clear hK K
    refine tk 5 { dst := some 9, op := Op.binOp BinOp.add 9 (Operand.const (Value.string { data := #[99, 111, 100, 101, 32] })) (.tmp 8) 9, type := 9, pos := "l14_vote.go:88", after := #[⟨4, .data⟩], guard := none } ?_
    refine tk 6 { dst := some 10, op := Op.binOp BinOp.add 9 (.tmp 9) (Operand.const (Value.string { data := #[32] })) 9, type := 9, pos := "l14_vote.go:88", after := #[⟨5, .data⟩], guard := none } ?_
    refine wpAnyH_ready (rs := [11]) (by kernel_rfl) (by simp) (AllReadyH.cons rfl (fun K hK => ?_) AllReadyH.nil)
    go_simp
    refine (HR.out _).mono ?_
    rintro e y2 ⟨rfl, hb⟩
    have F2 : Hid (Ext w y2) := F1.out.trans hb
    clear hb
    refine hK.out _ _ (HS.out _ F2.out) (fun hHeld2 => ?_)
    clear hK K
    refine tk 12 { dst := some 16, op := Op.binOp BinOp.add 9 (.tmp 10) (.tmp 15) 9, type := 9, pos := "l14_vote.go:88", after := #[⟨6, .data⟩, ⟨11, .data⟩], guard := none } ?_
    refine tk 13 { dst := some 3, op := Op.assign (.tmp 16), type := 9, pos := "l14_vote.go:88", after := #[⟨12, .data⟩, ⟨11, .chain⟩, ⟨0, .phase⟩, ⟨1, .phase⟩, ⟨2, .phase⟩, ⟨3, .phase⟩, ⟨4, .phase⟩, ⟨5, .phase⟩, ⟨6, .phase⟩, ⟨7, .phase⟩, ⟨8, .phase⟩, ⟨9, .phase⟩, ⟨10, .phase⟩, ⟨11, .phase⟩, ⟨12, .phase⟩], guard := none } ?_
    refine wpAnyH_done (by kernel_rfl) ?_ _
    have HB2 : Hid (RyAt y2 b (.int .i64 c) (.int .i64 r) (.string ⟨#[]⟩)) := HB.out.ext F2.out
    clear x0 x1 x2
    obtain ⟨xl2, ⟨x0, x1, x2⟩, -⟩ := HB2.out
    go_wp2
    go_ret
    exact ⟨rfl, F2.out⟩
  · rw [hx4 hp0]
    have hpe : (!p.toList.isEmpty) = true := by
      have : p.data.toList.length = p.size := by rw [len_eq]
      rw [Lib.toList_data]
      cases hq : p.data.toList with
      | nil => rw [hq] at this; simp at this; omega
      | cons a t => rfl
    have hpn : ¬ p = ⟨#[]⟩ := fun h => hp0 (by rw [h]; rfl)
    clear hx3 hx4 hp0
    go_enter Tryd.func18, Tryd.ntmps18
    have HS : Hid (∀ W', Ext w W' → (fun W' : World => W'.cell? ⟨b, 0, none⟩ = some (.int .i64 c) ∧ W'.cell? ⟨b, 1, none⟩ = some (.int .i64 r) ∧ W'.cell? ⟨b, 2, none⟩ = some (.string p)) W') := fun W' he => (HB.out.ext he).2.1
    go_wp2
    refine wp_region_held_drew (S := (fun W' : World => W'.cell? ⟨b, 0, none⟩ = some (.int .i64 c) ∧ W'.cell? ⟨b, 1, none⟩ = some (.int .i64 r) ∧ W'.cell? ⟨b, 2, none⟩ = some (.string p))) (by kernel_rfl) (HS.out _ ((Ext.refl _).drew)) (fun hHeld => ?_)
    have F0 : Hid (Ext w w.drew) := (Ext.refl _).drew
    refine tk 0 { dst := some 4, op := Op.move (.tmp 0), type := 48, pos := "l14_vote.go:88", after := #[], guard := none } ?_
    refine tk 1 { dst := some 5, op := Op.nilCheck (.tmp 4), type := 0, pos := "l14_vote.go:88", after := #[⟨0, .data⟩], guard := none } ?_
    refine tk 2 { dst := some 6, op := Op.fieldAddr 28 (.tmp 5) 0, type := 0, pos := "l14_vote.go:88", after := #[⟨1, .data⟩], guard := none } ?_
    refine tk 3 { dst := some 7, op := Op.load 2 (.tmp 6), type := 2, pos := "l14_vote.go:88", after := #[⟨2, .data⟩], guard := none } ?_
    refine tk 7 { dst := some 11, op := Op.move (.tmp 0), type := 48, pos := "l14_vote.go:88", after := #[], guard := none } ?_
    refine tk 8 { dst := some 12, op := Op.nilCheck (.tmp 11), type := 0, pos := "l14_vote.go:88", after := #[⟨7, .data⟩], guard := none } ?_
    refine tk 9 { dst := some 13, op := Op.fieldAddr 28 (.tmp 12) 1, type := 0, pos := "l14_vote.go:88", after := #[⟨8, .data⟩], guard := none } ?_
    refine tk 10 { dst := some 14, op := Op.load 2 (.tmp 13), type := 2, pos := "l14_vote.go:88", after := #[⟨9, .data⟩], guard := none } ?_
    refine wpAnyH_ready (rs := [4]) (by kernel_rfl) (by simp) (AllReadyH.cons rfl (fun K hK => ?_) AllReadyH.nil)
    go_simp
    refine (HC.out _).mono ?_
    rintro e y1 ⟨rfl, hb⟩
    have F1 : Hid (Ext w y1) := F0.out.trans hb
    clear hb
    refine hK.out _ _ (HS.out _ F1.out) (fun hHeld1 => ?_)
    clear hK K
    refine tk 5 { dst := some 9, op := Op.binOp BinOp.add 9 (Operand.const (Value.string { data := #[99, 111, 100, 101, 32] })) (.tmp 8) 9, type := 9, pos := "l14_vote.go:88", after := #[⟨4, .data⟩], guard := none } ?_
    refine tk 6 { dst := some 10, op := Op.binOp BinOp.add 9 (.tmp 9) (Operand.const (Value.string { data := #[32] })) 9, type := 9, pos := "l14_vote.go:88", after := #[⟨5, .data⟩], guard := none } ?_
    refine wpAnyH_ready (rs := [11]) (by kernel_rfl) (by simp) (AllReadyH.cons rfl (fun K hK => ?_) AllReadyH.nil)
    go_simp
    refine (HR.out _).mono ?_
    rintro e y2 ⟨rfl, hb⟩
    have F2 : Hid (Ext w y2) := F1.out.trans hb
    clear hb
    refine hK.out _ _ (HS.out _ F2.out) (fun hHeld2 => ?_)
    clear hK K
    refine tk 12 { dst := some 16, op := Op.binOp BinOp.add 9 (.tmp 10) (.tmp 15) 9, type := 9, pos := "l14_vote.go:88", after := #[⟨6, .data⟩, ⟨11, .data⟩], guard := none } ?_
    refine tk 13 { dst := some 3, op := Op.assign (.tmp 16), type := 9, pos := "l14_vote.go:88", after := #[⟨12, .data⟩, ⟨11, .chain⟩, ⟨0, .phase⟩, ⟨1, .phase⟩, ⟨2, .phase⟩, ⟨3, .phase⟩, ⟨4, .phase⟩, ⟨5, .phase⟩, ⟨6, .phase⟩, ⟨7, .phase⟩, ⟨8, .phase⟩, ⟨9, .phase⟩, ⟨10, .phase⟩, ⟨11, .phase⟩, ⟨12, .phase⟩], guard := none } ?_
    refine wpAnyH_done (by kernel_rfl) ?_ _
    have HB2 : Hid (RyAt y2 b (.int .i64 c) (.int .i64 r) (.string p)) := HB.out.ext F2.out
    clear x0 x1 x2
    obtain ⟨xl2, ⟨x0, x1, x2⟩, -⟩ := HB2.out
    go_wp2
    go_ret
    exact ⟨rfl, F2.out⟩
end Go.Proofs.YtfgjodnjahhanaaDoor
