/- what begins a view: the program's. -/
import Derived.Test.YtecgjdgfjgcmdaaGreatRcQV5
import Derived.Deep.RegionHeld3
import Derived.Test.YtecgjdgfjgcmdaaGreatRcTk
namespace Go.Proofs.YtecgjdgfjgcmdaaGreat
open Go.RowKit Go.Maps
set_option linter.unusedSimpArgs false in
set_option maxHeartbeats 4000000 in
set_option maxRecDepth 100000 in
theorem isPrimary_any (f : Int) (z : Ms) (b o : Nat) (bb : Bool) (w : World) (hf0 : 1 ≤ f) (hf1 : f ≤ 2) (hv : 0 ≤ z.view ∧ z.view ≤ 20) (hb : b < w.heap.size) (hm : MAt w b o z) (hbb : decide (Msg.primary f z.view = z.from_) = bb) :
    Calls Tryz.prog 130 #[.int .i64 f, .pointer (some ⟨b, o, none⟩)] w fun e w' => e = .returned (.bool bb) ∧ Ext w w' := by
  have HP : Hid (∀ wx, Calls Tryz.prog 152 #[.int .i64 f, .int .i64 z.view] wx fun e w' => e = .returned (.agg #[.int .i64 0, .int .i64 (Msg.primary f z.view)]) ∧ Ext wx w') := fun wx => by
    have q := implPrimaryOf_any f z.view wx
    have e : Msg.primV f z.view = (0, Msg.primary f z.view) := by
      unfold Msg.primV
      rw [show Msg.fOk f = true from by unfold Msg.fOk; simp; omega, if_neg (by decide), if_neg (by simp; omega)]
    rw [e] at q
    exact q
  obtain ⟨vz, uz, ⟨-, d1, d2, -, -, -, -⟩, -⟩ := hm
  have HS : Hid (∀ W', Ext w W' → W'.cell? ⟨b, o + 1, none⟩ = some (.int .i64 z.view) ∧ W'.cell? ⟨b, o + 2, none⟩ = some (.int .i64 z.from_)) := fun W' he => ⟨((Ext.cell he).1 _ _ hb).trans d1, ((Ext.cell he).1 _ _ hb).trans d2⟩
  clear d1 d2 hf0 hf1 hv hb
  generalize Msg.primary f z.view = pv at *
  have hq : (pv == z.from_) = bb := by rw [← hbb]; by_cases h : pv = z.from_ <;> simp [h]
  clear hbb
  have hf2 : ∀ (x y : Int) (W : World), (Instr.field 65 (.agg #[.int .i64 x, .int .i64 y]) 1).run Tryz.prog W = .ok (.int .i64 y) W := fun _ _ _ => by kernel_rfl
  go_enter Tryz.func130, Tryz.ntmps130
  go_wp2
  refine wp_region_held_drew (S := (fun W' : World => W'.cell? ⟨b, o + 1, none⟩ = some (.int .i64 z.view) ∧ W'.cell? ⟨b, o + 2, none⟩ = some (.int .i64 z.from_))) (by kernel_rfl) (HS.out _ ((Ext.refl _).drew)) (fun hHeld => ?_)
  refine tk 0 { dst := some 5, op := Op.move (.tmp 0), type := 2, pos := "l10_view.go:118", after := #[], guard := none } ?_
  refine tk 1 { dst := some 6, op := Op.move (.tmp 1), type := 97, pos := "l10_view.go:118", after := #[], guard := none } ?_
  refine tk 2 { dst := some 7, op := Op.nilCheck (.tmp 6), type := 0, pos := "l10_view.go:118", after := #[⟨1, .data⟩], guard := none } ?_
  refine tk 3 { dst := some 8, op := Op.fieldAddr 40 (.tmp 7) 1, type := 0, pos := "l10_view.go:118", after := #[⟨2, .data⟩], guard := none } ?_
  refine tk 4 { dst := some 9, op := Op.load 2 (.tmp 8), type := 2, pos := "l10_view.go:118", after := #[⟨3, .data⟩], guard := none } ?_
  refine tk 7 { dst := some 12, op := Op.move (.tmp 1), type := 97, pos := "l10_view.go:118", after := #[], guard := none } ?_
  refine tk 8 { dst := some 13, op := Op.nilCheck (.tmp 12), type := 0, pos := "l10_view.go:118", after := #[⟨7, .data⟩], guard := none } ?_
  refine tk 9 { dst := some 14, op := Op.fieldAddr 40 (.tmp 13) 2, type := 0, pos := "l10_view.go:118", after := #[⟨8, .data⟩], guard := none } ?_
  refine tk 10 { dst := some 15, op := Op.load 2 (.tmp 14), type := 2, pos := "l10_view.go:118", after := #[⟨9, .data⟩], guard := none } ?_
  refine wpAnyH_ready (rs := [5]) (by kernel_rfl) (by simp) (AllReadyH.cons rfl (fun K hK => ?_) AllReadyH.nil)
  go_simp
  refine (HP.out _).mono ?_
  rintro e y1 ⟨rfl, hb⟩
  have X1 : Hid (Ext w y1) := ((Ext.refl _).drew).trans hb
  clear hb
  refine hK.out _ _ (by exact HS.out _ X1.out) (fun hHeld1 => ?_)
  clear hK K
  refine tk 6 { dst := some 11, op := Op.field 65 (.tmp 10) 1, type := 2, pos := "l10_view.go:118", after := #[⟨5, .data⟩], guard := none } ?_
  refine tk 11 { dst := some 16, op := Op.binOp BinOp.eql 2 (.tmp 11) (.tmp 15) 2, type := 4, pos := "l10_view.go:118", after := #[⟨6, .data⟩, ⟨10, .data⟩], guard := none } ?_
  refine tk 12 { dst := some 4, op := Op.assign (.tmp 16), type := 4, pos := "l10_view.go:118", after := #[⟨11, .data⟩, ⟨5, .chain⟩, ⟨0, .phase⟩, ⟨1, .phase⟩, ⟨2, .phase⟩, ⟨3, .phase⟩, ⟨4, .phase⟩, ⟨5, .phase⟩, ⟨6, .phase⟩, ⟨7, .phase⟩, ⟨8, .phase⟩, ⟨9, .phase⟩, ⟨10, .phase⟩, ⟨11, .phase⟩], guard := none } ?_
  refine wpAnyH_done (by kernel_rfl) ?_ _
  (try go_wp2)
  go_ret
  exact ⟨ret_bool (by first | exact hq | simp [hq]), X1.out⟩

set_option linter.unusedSimpArgs false in
set_option maxHeartbeats 8000000 in
set_option maxRecDepth 100000 in
theorem isRightNew_any (f : Int) (v : Value) (ms : List Ms) (z : Ms) (b o k : Nat) (w : World) (hS : MSlice w v ms) (hled : Msg.ledger f ms = 0) (hk : ms[k]? = some z) (h5 : z.kind = 5) (hb : b < w.heap.size) (hm : MAt w b o z) :
    Calls Tryz.prog 163 #[.int .i64 f, v, .pointer (some ⟨b, o, none⟩)] w fun e w' => e = .returned (.bool (Msg.newB f ms z)) ∧ Ext w w' := by
  obtain ⟨hf0, hf1, hml⟩ := Msg.ledger_zero hled
  have hfa := Msg.ledger_all hled z (List.mem_of_getElem? hk)
  have hvw := Msg.view_in hfa
  have hrl := (Msg.lists_zero hfa).2.1
  rw [Msg.newB_prog h5 hf0]
  have HPr0 : Hid (∀ (bb : Bool) (wx : World), Ext w wx → decide (Msg.primary f z.view = z.from_) = bb → Calls Tryz.prog 130 #[.int .i64 f, .pointer (some ⟨b, o, none⟩)] wx fun e w' => e = .returned (.bool bb) ∧ Ext wx w') := fun bb wx he h => isPrimary_any f z b o bb wx hf0 hf1 hvw (Nat.lt_of_lt_of_le hb he.size) (hm.ext hb he) h
  have HQ : Hid (∀ wx, Calls Tryz.prog 90 #[.int .i64 f] wx fun e w' => e = .returned (.int .i64 (2 * f + 1)) ∧ w' = wx) := fun wx => quorumOf_any f wx hf0 hf1
  obtain ⟨vz, uz, ⟨-, d1, d2, -, -, -, d6⟩, hL⟩ := hm
  have HA0 : Hid (∀ wx, Ext w wx → Calls Tryz.prog 158 #[.int .i64 f, v, uz, .int .i64 z.view] wx fun e w' => ∃ vo g, e = .returned vo ∧ wx.heap.size ≤ g ∧ Led.IOwn w' vo g (Msg.among f ms z.view z.refs z.refs.length) ∧ Ext wx w') := fun wx he => changesAmong_any f v ms uz z.refs z.view wx (hS.ext he) (hL.2.ext he) hled (Msg.refs_zero hled hk) (by omega)
  obtain ⟨-, ⟨ar, cr, rfl, -, -, -⟩⟩ := hL
  obtain ⟨a, cap, rfl, -, -, -⟩ := hS
  have HA : Hid (∀ wx, Ext w wx → Calls Tryz.prog 158 #[.int .i64 f, .slice a ms.length cap, .slice ar z.refs.length cr, .int .i64 z.view] wx fun e w' => ∃ vo g, e = .returned vo ∧ wx.heap.size ≤ g ∧ Led.IOwn w' vo g (Msg.among f ms z.view z.refs z.refs.length) ∧ Ext wx w') := HA0.out
  have HS : Hid (∀ W', Ext w W' → W'.cell? ⟨b, o + 1, none⟩ = some (.int .i64 z.view) ∧ W'.cell? ⟨b, o + 6, none⟩ = some (.slice ar z.refs.length cr)) := fun W' he => ⟨((Ext.cell he).1 _ _ hb).trans d1, ((Ext.cell he).1 _ _ hb).trans d6⟩
  clear HA0 hled hk hfa hvw h5
  by_cases h1 : Msg.primary f z.view = z.from_
  · have HPr : Hid (∀ wx, Ext w wx → Calls Tryz.prog 130 #[.int .i64 f, .pointer (some ⟨b, o, none⟩)] wx fun e w' => e = .returned (.bool true) ∧ Ext wx w') := fun wx he => HPr0.out true wx he (decide_eq_true h1)
    rw [decide_eq_true h1, Bool.true_and]
    clear h1 HPr0
    by_cases h2 : 2 * f + 1 ≤ (z.refs.length : Int)
    · rw [decide_eq_true h2, Bool.true_and]
      have P7 : Hid (decide (2 * f + 1 ≤ (z.refs.length : Int)) = true) := decide_eq_true h2
      clear h2
      generalize Msg.among f ms z.view z.refs z.refs.length = rs at *
      go_enter Tryz.func163, Tryz.ntmps163
      go_wp2
      clear d1 d2 d6
      refine wp_region_held_drew (S := (fun W' : World => W'.cell? ⟨b, o + 1, none⟩ = some (.int .i64 z.view) ∧ W'.cell? ⟨b, o + 6, none⟩ = some (.slice ar z.refs.length cr))) (by kernel_rfl) (HS.out _ ((Ext.refl _).drew)) (fun hHeld => ?_)
      refine tk 0 { dst := some 13, op := Op.move (.tmp 0), type := 2, pos := "l10_view.go:124", after := #[], guard := none } ?_
      refine tk 1 { dst := some 14, op := Op.move (.tmp 2), type := 97, pos := "l10_view.go:124", after := #[], guard := none } ?_
      refine wpAnyH_ready (rs := [2]) (by kernel_rfl) (by simp) (AllReadyH.cons rfl (fun K hK => ?_) AllReadyH.nil)
      go_simp
      refine (HPr.out _ ((Ext.refl _).drew)).mono ?_
      rintro e y1 ⟨rfl, hb⟩
      have X1 : Hid (Ext w y1) := ((Ext.refl _).drew).trans hb
      clear hb
      refine hK.out _ _ (by exact HS.out _ X1.out) (fun hHeld1 => ?_)
      clear hK K
      refine tk 3 { dst := some 16, op := Op.move (.tmp 15), type := 4, pos := "l10_view.go:124", after := #[⟨2, .data⟩, ⟨2, .chain⟩], guard := none } ?_
      refine tk 4 { dst := some 17, op := Op.move (.tmp 7), type := 2, pos := "l10_view.go:124", after := #[⟨3, .guard⟩], guard := some (3, true) } ?_
      refine tk 5 { dst := some 18, op := Op.move (.tmp 0), type := 2, pos := "l10_view.go:124", after := #[⟨3, .guard⟩], guard := some (3, true) } ?_
      refine wpAnyH_ready (rs := [6]) (by kernel_rfl) (by simp) (AllReadyH.cons rfl (fun K hK => ?_) AllReadyH.nil)
      go_simp
      refine (HQ.out _).mono ?_
      rintro e y2 ⟨rfl, hw⟩
      have X2 : Hid (Ext w y2) := by rw [hw]; exact X1.out
      clear hw
      refine hK.out _ _ (by exact HS.out _ X2.out) (fun hHeld2 => ?_)
      clear hK K
      refine tk 7 { dst := some 20, op := Op.binOp BinOp.geq 2 (.tmp 17) (.tmp 19) 2, type := 4, pos := "l10_view.go:124", after := #[⟨4, .data⟩, ⟨6, .data⟩, ⟨3, .guard⟩], guard := some (3, true) } ?_
      (try rw [P7.out])
      refine tk 8 { dst := some 21, op := Op.pick (.tmp 16) (.tmp 20) (Operand.const (Value.bool false)), type := 4, pos := "l10_view.go:124", after := #[⟨3, .data⟩, ⟨7, .data⟩], guard := none } ?_
      refine tk 9 { dst := some 22, op := Op.move (.tmp 21), type := 4, pos := "l10_view.go:124", after := #[⟨8, .data⟩, ⟨6, .chain⟩], guard := none } ?_
      refine tk 10 { dst := some 23, op := Op.move (.tmp 0), type := 2, pos := "l10_view.go:124", after := #[⟨9, .guard⟩], guard := some (9, true) } ?_
      refine tk 11 { dst := some 24, op := Op.move (.tmp 1), type := 27, pos := "l10_view.go:124", after := #[⟨9, .guard⟩], guard := some (9, true) } ?_
      refine tk 12 { dst := some 25, op := Op.move (.tmp 2), type := 97, pos := "l10_view.go:124", after := #[⟨9, .guard⟩], guard := some (9, true) } ?_
      refine tk 13 { dst := some 26, op := Op.nilCheck (.tmp 25), type := 0, pos := "l10_view.go:124", after := #[⟨12, .data⟩, ⟨9, .guard⟩], guard := some (9, true) } ?_
      refine tk 14 { dst := some 27, op := Op.fieldAddr 40 (.tmp 26) 6, type := 0, pos := "l10_view.go:124", after := #[⟨13, .data⟩, ⟨9, .guard⟩], guard := some (9, true) } ?_
      refine tk 15 { dst := some 28, op := Op.load 38 (.tmp 27), type := 38, pos := "l10_view.go:124", after := #[⟨14, .data⟩, ⟨9, .guard⟩], guard := some (9, true) } ?_
      refine tk 16 { dst := some 29, op := Op.move (.tmp 2), type := 97, pos := "l10_view.go:124", after := #[⟨9, .guard⟩], guard := some (9, true) } ?_
      refine tk 17 { dst := some 30, op := Op.nilCheck (.tmp 29), type := 0, pos := "l10_view.go:124", after := #[⟨16, .data⟩, ⟨9, .guard⟩], guard := some (9, true) } ?_
      refine tk 18 { dst := some 31, op := Op.fieldAddr 40 (.tmp 30) 1, type := 0, pos := "l10_view.go:124", after := #[⟨17, .data⟩, ⟨9, .guard⟩], guard := some (9, true) } ?_
      refine tk 19 { dst := some 32, op := Op.load 2 (.tmp 31), type := 2, pos := "l10_view.go:124", after := #[⟨18, .data⟩, ⟨9, .guard⟩], guard := some (9, true) } ?_
      refine tk 22 { dst := some 35, op := Op.move (.tmp 7), type := 2, pos := "l10_view.go:124", after := #[⟨9, .guard⟩], guard := some (9, true) } ?_
      refine wpAnyH_ready (rs := [20]) (by kernel_rfl) (by simp) (AllReadyH.cons rfl (fun K hK => ?_) AllReadyH.nil)
      go_simp
      refine (HA.out _ X2.out).mono ?_
      rintro e y3 ⟨v5, g5, rfl, -, hO5, hb⟩
      obtain ⟨a5, c5, rfl, -⟩ := id hO5
      have X3 : Hid (Ext w y3) := X2.out.trans hb
      clear hb hO5
      refine hK.out _ _ (by exact HS.out _ X3.out) (fun hHeld3 => ?_)
      clear hK K
      refine tk 21 { dst := some 34, op := Op.call { callee := Callee.builtin Builtin.len, args := #[.tmp 33], argTypes := #[38] }, type := 3, pos := "l10_view.go:124", after := #[⟨20, .data⟩, ⟨9, .guard⟩], guard := some (9, true) } ?_
      refine tk 23 { dst := some 36, op := Op.binOp BinOp.eql 2 (.tmp 34) (.tmp 35) 2, type := 4, pos := "l10_view.go:124", after := #[⟨21, .data⟩, ⟨22, .data⟩, ⟨9, .guard⟩], guard := some (9, true) } ?_
      refine tk 24 { dst := some 37, op := Op.pick (.tmp 22) (.tmp 36) (Operand.const (Value.bool false)), type := 4, pos := "l10_view.go:124", after := #[⟨9, .data⟩, ⟨23, .data⟩], guard := none } ?_
      refine tk 25 { dst := some 6, op := Op.assign (.tmp 37), type := 4, pos := "l10_view.go:124", after := #[⟨24, .data⟩, ⟨20, .chain⟩, ⟨0, .phase⟩, ⟨1, .phase⟩, ⟨2, .phase⟩, ⟨3, .phase⟩, ⟨4, .phase⟩, ⟨5, .phase⟩, ⟨6, .phase⟩, ⟨7, .phase⟩, ⟨8, .phase⟩, ⟨9, .phase⟩, ⟨10, .phase⟩, ⟨11, .phase⟩, ⟨12, .phase⟩, ⟨13, .phase⟩, ⟨14, .phase⟩, ⟨15, .phase⟩, ⟨16, .phase⟩, ⟨17, .phase⟩, ⟨18, .phase⟩, ⟨19, .phase⟩, ⟨20, .phase⟩, ⟨21, .phase⟩, ⟨22, .phase⟩, ⟨23, .phase⟩, ⟨24, .phase⟩], guard := none } ?_
      refine wpAnyH_done (by kernel_rfl) ?_ _
      (try go_wp2)
      go_ret
      exact ⟨ret_bool (by rw [Bool.eq_iff_iff]; simp; omega), X3.out⟩
    · rw [decide_eq_false h2, Bool.false_and]
      have P7 : Hid (decide (2 * f + 1 ≤ (z.refs.length : Int)) = false) := decide_eq_false h2
      clear h2
      go_enter Tryz.func163, Tryz.ntmps163
      go_wp2
      clear d1 d2 d6
      refine wp_region_held_drew (S := (fun W' : World => W'.cell? ⟨b, o + 1, none⟩ = some (.int .i64 z.view) ∧ W'.cell? ⟨b, o + 6, none⟩ = some (.slice ar z.refs.length cr))) (by kernel_rfl) (HS.out _ ((Ext.refl _).drew)) (fun hHeld => ?_)
      refine tk 0 { dst := some 13, op := Op.move (.tmp 0), type := 2, pos := "l10_view.go:124", after := #[], guard := none } ?_
      refine tk 1 { dst := some 14, op := Op.move (.tmp 2), type := 97, pos := "l10_view.go:124", after := #[], guard := none } ?_
      refine wpAnyH_ready (rs := [2]) (by kernel_rfl) (by simp) (AllReadyH.cons rfl (fun K hK => ?_) AllReadyH.nil)
      go_simp
      refine (HPr.out _ ((Ext.refl _).drew)).mono ?_
      rintro e y1 ⟨rfl, hb⟩
      have X1 : Hid (Ext w y1) := ((Ext.refl _).drew).trans hb
      clear hb
      refine hK.out _ _ (by exact HS.out _ X1.out) (fun hHeld1 => ?_)
      clear hK K
      refine tk 3 { dst := some 16, op := Op.move (.tmp 15), type := 4, pos := "l10_view.go:124", after := #[⟨2, .data⟩, ⟨2, .chain⟩], guard := none } ?_
      refine tk 4 { dst := some 17, op := Op.move (.tmp 7), type := 2, pos := "l10_view.go:124", after := #[⟨3, .guard⟩], guard := some (3, true) } ?_
      refine tk 5 { dst := some 18, op := Op.move (.tmp 0), type := 2, pos := "l10_view.go:124", after := #[⟨3, .guard⟩], guard := some (3, true) } ?_
      refine wpAnyH_ready (rs := [6]) (by kernel_rfl) (by simp) (AllReadyH.cons rfl (fun K hK => ?_) AllReadyH.nil)
      go_simp
      refine (HQ.out _).mono ?_
      rintro e y2 ⟨rfl, hw⟩
      have X2 : Hid (Ext w y2) := by rw [hw]; exact X1.out
      clear hw
      refine hK.out _ _ (by exact HS.out _ X2.out) (fun hHeld2 => ?_)
      clear hK K
      refine tk 7 { dst := some 20, op := Op.binOp BinOp.geq 2 (.tmp 17) (.tmp 19) 2, type := 4, pos := "l10_view.go:124", after := #[⟨4, .data⟩, ⟨6, .data⟩, ⟨3, .guard⟩], guard := some (3, true) } ?_
      (try rw [P7.out])
      refine tk 8 { dst := some 21, op := Op.pick (.tmp 16) (.tmp 20) (Operand.const (Value.bool false)), type := 4, pos := "l10_view.go:124", after := #[⟨3, .data⟩, ⟨7, .data⟩], guard := none } ?_
      refine tk 9 { dst := some 22, op := Op.move (.tmp 21), type := 4, pos := "l10_view.go:124", after := #[⟨8, .data⟩, ⟨6, .chain⟩], guard := none } ?_
      refine tn 10 { dst := some 23, op := Op.move (.tmp 0), type := 2, pos := "l10_view.go:124", after := #[⟨9, .guard⟩], guard := some (9, true) } ?_
      refine tn 11 { dst := some 24, op := Op.move (.tmp 1), type := 27, pos := "l10_view.go:124", after := #[⟨9, .guard⟩], guard := some (9, true) } ?_
      refine tn 12 { dst := some 25, op := Op.move (.tmp 2), type := 97, pos := "l10_view.go:124", after := #[⟨9, .guard⟩], guard := some (9, true) } ?_
      refine tn 13 { dst := some 26, op := Op.nilCheck (.tmp 25), type := 0, pos := "l10_view.go:124", after := #[⟨12, .data⟩, ⟨9, .guard⟩], guard := some (9, true) } ?_
      refine tn 14 { dst := some 27, op := Op.fieldAddr 40 (.tmp 26) 6, type := 0, pos := "l10_view.go:124", after := #[⟨13, .data⟩, ⟨9, .guard⟩], guard := some (9, true) } ?_
      refine tn 15 { dst := some 28, op := Op.load 38 (.tmp 27), type := 38, pos := "l10_view.go:124", after := #[⟨14, .data⟩, ⟨9, .guard⟩], guard := some (9, true) } ?_
      refine tn 16 { dst := some 29, op := Op.move (.tmp 2), type := 97, pos := "l10_view.go:124", after := #[⟨9, .guard⟩], guard := some (9, true) } ?_
      refine tn 17 { dst := some 30, op := Op.nilCheck (.tmp 29), type := 0, pos := "l10_view.go:124", after := #[⟨16, .data⟩, ⟨9, .guard⟩], guard := some (9, true) } ?_
      refine tn 18 { dst := some 31, op := Op.fieldAddr 40 (.tmp 30) 1, type := 0, pos := "l10_view.go:124", after := #[⟨17, .data⟩, ⟨9, .guard⟩], guard := some (9, true) } ?_
      refine tn 19 { dst := some 32, op := Op.load 2 (.tmp 31), type := 2, pos := "l10_view.go:124", after := #[⟨18, .data⟩, ⟨9, .guard⟩], guard := some (9, true) } ?_
      refine tn 20 { dst := some 33, op := Op.call { callee := Callee.value (Operand.func 158), args := #[.tmp 23, .tmp 24, .tmp 28, .tmp 32], argTypes := #[2, 27, 38, 2] }, type := 38, pos := "l10_view.go:124", after := #[⟨10, .data⟩, ⟨11, .data⟩, ⟨15, .data⟩, ⟨19, .data⟩, ⟨9, .chain⟩, ⟨9, .guard⟩], guard := some (9, true) } ?_
      refine tn 21 { dst := some 34, op := Op.call { callee := Callee.builtin Builtin.len, args := #[.tmp 33], argTypes := #[38] }, type := 3, pos := "l10_view.go:124", after := #[⟨20, .data⟩, ⟨9, .guard⟩], guard := some (9, true) } ?_
      refine tn 22 { dst := some 35, op := Op.move (.tmp 7), type := 2, pos := "l10_view.go:124", after := #[⟨9, .guard⟩], guard := some (9, true) } ?_
      refine tn 23 { dst := some 36, op := Op.binOp BinOp.eql 2 (.tmp 34) (.tmp 35) 2, type := 4, pos := "l10_view.go:124", after := #[⟨21, .data⟩, ⟨22, .data⟩, ⟨9, .guard⟩], guard := some (9, true) } ?_
      refine tk 24 { dst := some 37, op := Op.pick (.tmp 22) (.tmp 36) (Operand.const (Value.bool false)), type := 4, pos := "l10_view.go:124", after := #[⟨9, .data⟩, ⟨23, .data⟩], guard := none } ?_
      refine tk 25 { dst := some 6, op := Op.assign (.tmp 37), type := 4, pos := "l10_view.go:124", after := #[⟨24, .data⟩, ⟨20, .chain⟩, ⟨0, .phase⟩, ⟨1, .phase⟩, ⟨2, .phase⟩, ⟨3, .phase⟩, ⟨4, .phase⟩, ⟨5, .phase⟩, ⟨6, .phase⟩, ⟨7, .phase⟩, ⟨8, .phase⟩, ⟨9, .phase⟩, ⟨10, .phase⟩, ⟨11, .phase⟩, ⟨12, .phase⟩, ⟨13, .phase⟩, ⟨14, .phase⟩, ⟨15, .phase⟩, ⟨16, .phase⟩, ⟨17, .phase⟩, ⟨18, .phase⟩, ⟨19, .phase⟩, ⟨20, .phase⟩, ⟨21, .phase⟩, ⟨22, .phase⟩, ⟨23, .phase⟩, ⟨24, .phase⟩], guard := none } ?_
      refine wpAnyH_done (by kernel_rfl) ?_ _
      (try go_wp2)
      go_ret
      exact ⟨rfl, X2.out⟩
  · have HPr : Hid (∀ wx, Ext w wx → Calls Tryz.prog 130 #[.int .i64 f, .pointer (some ⟨b, o, none⟩)] wx fun e w' => e = .returned (.bool false) ∧ Ext wx w') := fun wx he => HPr0.out false wx he (decide_eq_false h1)
    rw [decide_eq_false h1, Bool.false_and, Bool.false_and]
    clear h1 HPr0
    go_enter Tryz.func163, Tryz.ntmps163
    go_wp2
    clear d1 d2 d6
    refine wp_region_held_drew (S := (fun W' : World => W'.cell? ⟨b, o + 1, none⟩ = some (.int .i64 z.view) ∧ W'.cell? ⟨b, o + 6, none⟩ = some (.slice ar z.refs.length cr))) (by kernel_rfl) (HS.out _ ((Ext.refl _).drew)) (fun hHeld => ?_)
    refine tk 0 { dst := some 13, op := Op.move (.tmp 0), type := 2, pos := "l10_view.go:124", after := #[], guard := none } ?_
    refine tk 1 { dst := some 14, op := Op.move (.tmp 2), type := 97, pos := "l10_view.go:124", after := #[], guard := none } ?_
    refine wpAnyH_ready (rs := [2]) (by kernel_rfl) (by simp) (AllReadyH.cons rfl (fun K hK => ?_) AllReadyH.nil)
    go_simp
    refine (HPr.out _ ((Ext.refl _).drew)).mono ?_
    rintro e y1 ⟨rfl, hb⟩
    have X1 : Hid (Ext w y1) := ((Ext.refl _).drew).trans hb
    clear hb
    refine hK.out _ _ (by exact HS.out _ X1.out) (fun hHeld1 => ?_)
    clear hK K
    refine tk 3 { dst := some 16, op := Op.move (.tmp 15), type := 4, pos := "l10_view.go:124", after := #[⟨2, .data⟩, ⟨2, .chain⟩], guard := none } ?_
    refine tn 4 { dst := some 17, op := Op.move (.tmp 7), type := 2, pos := "l10_view.go:124", after := #[⟨3, .guard⟩], guard := some (3, true) } ?_
    refine tn 5 { dst := some 18, op := Op.move (.tmp 0), type := 2, pos := "l10_view.go:124", after := #[⟨3, .guard⟩], guard := some (3, true) } ?_
    refine tn 6 { dst := some 19, op := Op.call { callee := Callee.value (Operand.func 90), args := #[.tmp 18], argTypes := #[2] }, type := 2, pos := "l10_view.go:124", after := #[⟨5, .data⟩, ⟨3, .chain⟩, ⟨3, .guard⟩], guard := some (3, true) } ?_
    refine tn 7 { dst := some 20, op := Op.binOp BinOp.geq 2 (.tmp 17) (.tmp 19) 2, type := 4, pos := "l10_view.go:124", after := #[⟨4, .data⟩, ⟨6, .data⟩, ⟨3, .guard⟩], guard := some (3, true) } ?_
    refine tk 8 { dst := some 21, op := Op.pick (.tmp 16) (.tmp 20) (Operand.const (Value.bool false)), type := 4, pos := "l10_view.go:124", after := #[⟨3, .data⟩, ⟨7, .data⟩], guard := none } ?_
    refine tk 9 { dst := some 22, op := Op.move (.tmp 21), type := 4, pos := "l10_view.go:124", after := #[⟨8, .data⟩, ⟨6, .chain⟩], guard := none } ?_
    refine tn 10 { dst := some 23, op := Op.move (.tmp 0), type := 2, pos := "l10_view.go:124", after := #[⟨9, .guard⟩], guard := some (9, true) } ?_
    refine tn 11 { dst := some 24, op := Op.move (.tmp 1), type := 27, pos := "l10_view.go:124", after := #[⟨9, .guard⟩], guard := some (9, true) } ?_
    refine tn 12 { dst := some 25, op := Op.move (.tmp 2), type := 97, pos := "l10_view.go:124", after := #[⟨9, .guard⟩], guard := some (9, true) } ?_
    refine tn 13 { dst := some 26, op := Op.nilCheck (.tmp 25), type := 0, pos := "l10_view.go:124", after := #[⟨12, .data⟩, ⟨9, .guard⟩], guard := some (9, true) } ?_
    refine tn 14 { dst := some 27, op := Op.fieldAddr 40 (.tmp 26) 6, type := 0, pos := "l10_view.go:124", after := #[⟨13, .data⟩, ⟨9, .guard⟩], guard := some (9, true) } ?_
    refine tn 15 { dst := some 28, op := Op.load 38 (.tmp 27), type := 38, pos := "l10_view.go:124", after := #[⟨14, .data⟩, ⟨9, .guard⟩], guard := some (9, true) } ?_
    refine tn 16 { dst := some 29, op := Op.move (.tmp 2), type := 97, pos := "l10_view.go:124", after := #[⟨9, .guard⟩], guard := some (9, true) } ?_
    refine tn 17 { dst := some 30, op := Op.nilCheck (.tmp 29), type := 0, pos := "l10_view.go:124", after := #[⟨16, .data⟩, ⟨9, .guard⟩], guard := some (9, true) } ?_
    refine tn 18 { dst := some 31, op := Op.fieldAddr 40 (.tmp 30) 1, type := 0, pos := "l10_view.go:124", after := #[⟨17, .data⟩, ⟨9, .guard⟩], guard := some (9, true) } ?_
    refine tn 19 { dst := some 32, op := Op.load 2 (.tmp 31), type := 2, pos := "l10_view.go:124", after := #[⟨18, .data⟩, ⟨9, .guard⟩], guard := some (9, true) } ?_
    refine tn 20 { dst := some 33, op := Op.call { callee := Callee.value (Operand.func 158), args := #[.tmp 23, .tmp 24, .tmp 28, .tmp 32], argTypes := #[2, 27, 38, 2] }, type := 38, pos := "l10_view.go:124", after := #[⟨10, .data⟩, ⟨11, .data⟩, ⟨15, .data⟩, ⟨19, .data⟩, ⟨9, .chain⟩, ⟨9, .guard⟩], guard := some (9, true) } ?_
    refine tn 21 { dst := some 34, op := Op.call { callee := Callee.builtin Builtin.len, args := #[.tmp 33], argTypes := #[38] }, type := 3, pos := "l10_view.go:124", after := #[⟨20, .data⟩, ⟨9, .guard⟩], guard := some (9, true) } ?_
    refine tn 22 { dst := some 35, op := Op.move (.tmp 7), type := 2, pos := "l10_view.go:124", after := #[⟨9, .guard⟩], guard := some (9, true) } ?_
    refine tn 23 { dst := some 36, op := Op.binOp BinOp.eql 2 (.tmp 34) (.tmp 35) 2, type := 4, pos := "l10_view.go:124", after := #[⟨21, .data⟩, ⟨22, .data⟩, ⟨9, .guard⟩], guard := some (9, true) } ?_
    refine tk 24 { dst := some 37, op := Op.pick (.tmp 22) (.tmp 36) (Operand.const (Value.bool false)), type := 4, pos := "l10_view.go:124", after := #[⟨9, .data⟩, ⟨23, .data⟩], guard := none } ?_
    refine tk 25 { dst := some 6, op := Op.assign (.tmp 37), type := 4, pos := "l10_view.go:124", after := #[⟨24, .data⟩, ⟨20, .chain⟩, ⟨0, .phase⟩, ⟨1, .phase⟩, ⟨2, .phase⟩, ⟨3, .phase⟩, ⟨4, .phase⟩, ⟨5, .phase⟩, ⟨6, .phase⟩, ⟨7, .phase⟩, ⟨8, .phase⟩, ⟨9, .phase⟩, ⟨10, .phase⟩, ⟨11, .phase⟩, ⟨12, .phase⟩, ⟨13, .phase⟩, ⟨14, .phase⟩, ⟨15, .phase⟩, ⟨16, .phase⟩, ⟨17, .phase⟩, ⟨18, .phase⟩, ⟨19, .phase⟩, ⟨20, .phase⟩, ⟨21, .phase⟩, ⟨22, .phase⟩, ⟨23, .phase⟩, ⟨24, .phase⟩], guard := none } ?_
    refine wpAnyH_done (by kernel_rfl) ?_ _
    (try go_wp2)
    go_ret
    exact ⟨rfl, X1.out⟩

end Go.Proofs.YtecgjdgfjgcmdaaGreat
