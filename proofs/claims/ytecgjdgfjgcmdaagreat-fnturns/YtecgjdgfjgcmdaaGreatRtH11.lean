/- the program's MsgFault. -/
import Derived.Test.YtecgjdgfjgcmdaaGreatRtH10
import Derived.Deep.RegionHeld3
import Derived.Test.YtecgjdgfjgcmdaaGreatRtTk
namespace Go.Proofs.YtecgjdgfjgcmdaaGreat
open Go.RowKit
theorem Msg.bare_beyond (kind slot value : Int) (nc nr : Nat) (h : 1 ≤ kind ∧ kind ≤ 5) : Msg.bareN kind slot value nc nr = !(Msg.beyondN kind slot value nc nr) := by
 unfold Msg.bareN Msg.beyondN
 rw [Bool.eq_iff_iff]
 simp only [decide_eq_true_iff, Bool.not_eq_true', decide_eq_false_iff_not]
 omega
set_option maxHeartbeats 20000000 in
set_option maxRecDepth 100000 in
theorem faultP_any (f : Int) (m : Ms) (v u : Value) (w : World) (hf0 : 1 ≤ f) (hf1 : f ≤ 2) (hS : MLs w v u m) : Calls Tryz.prog 89 #[pagg m v u, .int .i64 f] w fun e w' => e = .returned (.int .i64 (Msg.faultM f m)) ∧ Ext w w' := by
 have HS : Hid (MLs w v u m) := hS
 have HPa : Hid (m.view ≤ 20 → ∀ wx : World, Ext w wx → Calls Tryz.prog 142 #[pagg m v u] wx fun e w' => e = .returned (.bool (Msg.parts m)) ∧ Ext wx w') := fun h wx he => hasParts_any m v u wx (HS.out.ext he) h
 have HSo : Hid (m.certs.length ≤ 30 → ∀ wx : World, Ext w wx → Calls Tryz.prog 141 #[v] wx fun e w' => ∃ v', e = .returned v' ∧ ISlice w' v' (Msg.slots m.certs) ∧ Ext wx w') := fun h wx he => slotsOf_any v m.certs wx (HS.out.1.ext he) (by omega)
 have HRi : Hid (∀ wx : World, Ext w wx → Calls Tryz.prog 140 #[u] wx fun e w' => e = .returned (.bool (Msg.rises m.refs)) ∧ Ext wx w') := fun wx he => rises_any u m.refs wx (HS.out.2.ext he)
 obtain ⟨a, c, a', c', rfl, rfl, hc1, hc2, hc3, hc4⟩ := hS.form
 unfold maxLen at hc2 hc4
 clear hS HS
 have HBy : Hid (∀ wx : World, Calls Tryz.prog 138 #[pagg m (.slice a m.certs.length c) (.slice a' m.refs.length c')] wx fun e w' => e = .returned (.bool (Msg.beyondN m.kind m.slot m.value m.certs.length m.refs.length)) ∧ Ext wx w') := fun wx => hasBeyond_any m a a' _ _ c c' wx
 have HBo : Hid (1 ≤ m.kind → ∀ wx : World, Calls Tryz.prog 139 #[pagg m (.slice a m.certs.length c) (.slice a' m.refs.length c'), .int .i64 f] wx fun e w' => e = .returned (.bool (Msg.boundsN f m.kind m.view m.from_ m.slot m.value)) ∧ Ext wx w') := fun h wx => isInBounds_any f m a a' _ _ c c' wx hf0 hf1 h
 have HWi : Hid (∀ wx : World, Calls Tryz.prog 133 #[.int .i64 m.kind, .int .i64 1, .int .i64 5] wx fun e w' => e = .returned (.bool (decide (1 ≤ m.kind) && decide (m.kind ≤ 5))) ∧ w' = wx) := fun wx => isWithin_any m.kind 1 5 wx
 have HRo : Hid (∀ wx : World, Calls Tryz.prog 134 #[.int .i64 f] wx fun e w' => e = .returned (.int .i64 (3 * f + 1)) ∧ w' = wx) := fun wx => replicasOf_any f wx hf0 hf1
 have e3 : IntKind.i64.wrap (m.refs.length : Int) = (m.refs.length : Int) := by rw [IntKind.wrap_i64]; omega
 unfold pagg at *
 have HP : Hid (∀ wx : World, Ext (w.alloc (.cells #[.int .i64 m.view, .int .i64 m.kind, .int .i64 m.from_, .int .i64 m.slot, .int .i64 m.value, .slice a m.certs.length c, .slice a' m.refs.length c'] 112)) wx → PBoxAt wx w.heap.size m (.slice a m.certs.length c) (.slice a' m.refs.length c') ∧ Ext w wx) := fun wx he => ⟨(pbox_new w m _ _ _).ext he, ((Ext.refl _).alloc _).trans he⟩
 by_cases hk : 1 ≤ m.kind ∧ m.kind ≤ 5
 ·have q15 : (decide (1 ≤ m.kind) && decide (m.kind ≤ 5)) = true := by simp; omega
  rw [q15] at HWi
  have HBB : Hid (Msg.bareN m.kind m.slot m.value m.certs.length m.refs.length = !(Msg.beyondN m.kind m.slot m.value m.certs.length m.refs.length)) := Msg.bare_beyond _ _ _ _ _ hk
  have HBo2 := HBo.out hk.1
  have HBo3 : Hid _ := HBo2
  clear HBo HBo2 q15 hk
  generalize hqy : Msg.beyondN m.kind m.slot m.value m.certs.length m.refs.length = qy at *
  generalize hqb : Msg.boundsN f m.kind m.view m.from_ m.slot m.value = qb at *
  have HQB : Hid (Msg.boundsN f m.kind m.view m.from_ m.slot m.value = qb) := hqb
  clear hqy hqb
  go_enter Tryz.func89, Tryz.ntmps89
  go_wp2_with fail
  refine (HWi.out _).mono ?_
  rintro e w9 ⟨rfl, hw⟩
  rw [hw]
  clear hw w9
  go_wp2_with fail
  refine (HBy.out _).mono ?_
  rintro e w1 ⟨rfl, hb⟩
  have E1 : Hid (Ext _ w1) := hb
  clear hb
  obtain ⟨⟨hbl, c0, c1, c2, c3, c4, c5, c6⟩, hEw⟩ := HP.out _ E1.out
  have F1 : Hid (Ext w w1) := hEw
  clear hEw
  cases qy with
  | true =>
   have HF : Hid (Msg.faultM f m = 1) := Msg.faultM_1 (by rw [HBB.out]; rfl)
   go_wp2
   go_ret
   exact ⟨ret_int HF.out.symm, F1.out⟩
  | false =>
   go_wp2_with fail
   refine (HBo3.out _).mono ?_
   rintro e w2 ⟨rfl, hb⟩
   have E2 : Hid (Ext _ w2) := E1.out.trans hb
   clear hb hbl c0 c1 c2 c3 c4 c5 c6
   obtain ⟨⟨hbl, c0, c1, c2, c3, c4, c5, c6⟩, hEw⟩ := HP.out _ E2.out
   have F2 : Hid (Ext w w2) := hEw
   clear hEw
   cases qb with
   | false =>
    have HF : Hid (Msg.faultM f m = 3) := Msg.faultM_2 (by rw [HBB.out]; rfl) HQB.out
    go_wp2
    go_ret
    exact ⟨ret_int HF.out.symm, F2.out⟩
   | true =>
    have hvb : m.view ≤ 20 := by have h := HQB.out; unfold Msg.boundsN at h; rw [decide_eq_true_iff] at h; exact h.2.1
    have HPa2 := HPa.out hvb
    have HPa3 : Hid _ := HPa2
    clear HPa HPa2 hvb hbl c0 c1 c2 c3 c4 c5 c6
    by_cases hc : 30 < m.certs.length
    ·have cd : decide (30 < m.certs.length) = true := decide_eq_true hc
     have hM : Hid (Msg.manyN f m.certs.length m.refs.length = true) := decide_eq_true (by omega)
     have cd2 : decide ((30 : Int) < (m.certs.length : Int)) = true := decide_eq_true (by omega)
     go_wp2
     refine wp_region_held_drew (S := (fun W' : World => W'.cell? ⟨w.heap.size, 5, none⟩ = some (.slice a m.certs.length c) ∧ W'.cell? ⟨w.heap.size, 6, none⟩ = some (.slice a' m.refs.length c'))) (by kernel_rfl) ⟨(HP.out _ (E2.out.drew)).1.2.2.2.2.2.2.1, (HP.out _ (E2.out.drew)).1.2.2.2.2.2.2.2⟩ (fun hHeld => ?_)
     refine tk 0 ⟨some 20, .fieldAddr 112 (.tmp 2) 5, 0, oz59, #[], none⟩ ?_
     refine tk 1 ⟨some 21, .load 37 (.tmp 20), 37, oz59, #[⟨0, .data⟩], none⟩ ?_
     refine tk 2 ⟨some 22, .call { callee := .builtin .len, args := #[.tmp 21], argTypes := #[37] }, 3, oz59, #[⟨1, .data⟩], none⟩ ?_
     refine tk 3 ⟨some 23, .binOp .gtr 3 (.tmp 22) (.const (.int .i64 30)) 3, 4, oz59, #[⟨2, .data⟩], none⟩ ?_
     refine tk 4 ⟨some 24, .move (.tmp 23), 4, oz59, #[⟨3, .data⟩], none⟩ ?_
     refine tn 5 ⟨some 25, .fieldAddr 112 (.tmp 2) 6, 0, oz59, #[⟨4, .guard⟩], some (4, false)⟩ ?_
     refine tn 6 ⟨some 26, .load 38 (.tmp 25), 38, oz59, oy1, some (4, false)⟩ ?_
     refine tn 7 ⟨some 27, .call { callee := .builtin .len, args := #[.tmp 26], argTypes := #[38] }, 3, oz59, oy60, some (4, false)⟩ ?_
     refine tn 8 ⟨some 28, .move (.tmp 1), 2, oz59, #[⟨4, .guard⟩], some (4, false)⟩ ?_
     refine tn 9 ⟨some 29, .call ⟨.value (.func 134), #[.tmp 28], #[2]⟩, 2, oz59, #[⟨8, .data⟩, ⟨4, .chain⟩, ⟨4, .guard⟩], some (4, false)⟩ ?_
     refine tn 10 ⟨some 30, .binOp .gtr 2 (.tmp 27) (.tmp 29) 2, 4, oz59, oy61, some (4, false)⟩ ?_
     refine tk 11 ⟨some 31, .pick (.tmp 24) (.const (.bool true)) (.tmp 30), 4, oz59, oy62, none⟩ ?_
     refine tk 12 ⟨some 19, .assign (.tmp 31), 4, oz59, oy63, none⟩ ?_
     refine wpAnyH_done (by kernel_rfl) ?_ _
     have HF : Hid (Msg.faultM f m = 2) := Msg.faultM_3 (by rw [HBB.out]; rfl) HQB.out hM.out
     go_wp2
     go_ret
     exact ⟨ret_int HF.out.symm, F2.out.drew⟩
    ·have cd : decide (30 < m.certs.length) = false := decide_eq_false hc
     have cd2 : decide ((30 : Int) < (m.certs.length : Int)) = false := decide_eq_false (by omega)
     by_cases hr : 3 * f + 1 < m.refs.length
     ·have rd : decide (3 * f + 1 < (m.refs.length : Int)) = true := decide_eq_true hr
      have hM : Hid (Msg.manyN f m.certs.length m.refs.length = true) := decide_eq_true (by omega)
      go_wp2
      refine wp_region_held_drew (S := (fun W' : World => W'.cell? ⟨w.heap.size, 5, none⟩ = some (.slice a m.certs.length c) ∧ W'.cell? ⟨w.heap.size, 6, none⟩ = some (.slice a' m.refs.length c'))) (by kernel_rfl) ⟨(HP.out _ (E2.out.drew)).1.2.2.2.2.2.2.1, (HP.out _ (E2.out.drew)).1.2.2.2.2.2.2.2⟩ (fun hHeld => ?_)
      refine tk 0 ⟨some 20, .fieldAddr 112 (.tmp 2) 5, 0, oz59, #[], none⟩ ?_
      refine tk 1 ⟨some 21, .load 37 (.tmp 20), 37, oz59, #[⟨0, .data⟩], none⟩ ?_
      refine tk 2 ⟨some 22, .call { callee := .builtin .len, args := #[.tmp 21], argTypes := #[37] }, 3, oz59, #[⟨1, .data⟩], none⟩ ?_
      refine tk 3 ⟨some 23, .binOp .gtr 3 (.tmp 22) (.const (.int .i64 30)) 3, 4, oz59, #[⟨2, .data⟩], none⟩ ?_
      refine tk 4 ⟨some 24, .move (.tmp 23), 4, oz59, #[⟨3, .data⟩], none⟩ ?_
      refine tk 5 ⟨some 25, .fieldAddr 112 (.tmp 2) 6, 0, oz59, #[⟨4, .guard⟩], some (4, false)⟩ ?_
      refine tk 6 ⟨some 26, .load 38 (.tmp 25), 38, oz59, oy1, some (4, false)⟩ ?_
      refine tk 7 ⟨some 27, .call { callee := .builtin .len, args := #[.tmp 26], argTypes := #[38] }, 3, oz59, oy60, some (4, false)⟩ ?_
      refine tk 8 ⟨some 28, .move (.tmp 1), 2, oz59, #[⟨4, .guard⟩], some (4, false)⟩ ?_
      refine wpAnyH_ready (rs := [9]) (by kernel_rfl) (by simp) (AllReadyH.cons rfl (fun K hK => ?_) AllReadyH.nil)
      go_simp
      refine (HRo.out _).mono ?_
      rintro e w9 ⟨rfl, hw⟩
      rw [hw]
      clear hw w9
      refine hK.out _ _ ⟨(HP.out _ (E2.out.drew)).1.2.2.2.2.2.2.1, (HP.out _ (E2.out.drew)).1.2.2.2.2.2.2.2⟩ (fun hHeld1 => ?_)
      clear hK K
      refine tk 10 ⟨some 30, .binOp .gtr 2 (.tmp 27) (.tmp 29) 2, 4, oz59, oy61, some (4, false)⟩ ?_
      refine tk 11 ⟨some 31, .pick (.tmp 24) (.const (.bool true)) (.tmp 30), 4, oz59, oy62, none⟩ ?_
      refine tk 12 ⟨some 19, .assign (.tmp 31), 4, oz59, oy63, none⟩ ?_
      refine wpAnyH_done (by kernel_rfl) ?_ _
      have HF : Hid (Msg.faultM f m = 2) := Msg.faultM_3 (by rw [HBB.out]; rfl) HQB.out hM.out
      go_wp2
      go_ret
      exact ⟨ret_int HF.out.symm, F2.out.drew⟩
     ·have rd : decide (3 * f + 1 < (m.refs.length : Int)) = false := decide_eq_false hr
      have hM : Hid (Msg.manyN f m.certs.length m.refs.length = false) := decide_eq_false (by omega)
      have HFL : Hid (Msg.faultM f m = Msg.lists m) := Msg.faultM_4 (by rw [HBB.out]; rfl) HQB.out hM.out
      have HSo2 := HSo.out (by omega)
      have HSo3 : Hid _ := HSo2
      clear HSo HSo2
      go_wp2
      refine wp_region_held_drew (S := (fun W' : World => W'.cell? ⟨w.heap.size, 5, none⟩ = some (.slice a m.certs.length c) ∧ W'.cell? ⟨w.heap.size, 6, none⟩ = some (.slice a' m.refs.length c'))) (by kernel_rfl) ⟨(HP.out _ (E2.out.drew)).1.2.2.2.2.2.2.1, (HP.out _ (E2.out.drew)).1.2.2.2.2.2.2.2⟩ (fun hHeld => ?_)
      refine tk 0 ⟨some 20, .fieldAddr 112 (.tmp 2) 5, 0, oz59, #[], none⟩ ?_
      refine tk 1 ⟨some 21, .load 37 (.tmp 20), 37, oz59, #[⟨0, .data⟩], none⟩ ?_
      refine tk 2 ⟨some 22, .call { callee := .builtin .len, args := #[.tmp 21], argTypes := #[37] }, 3, oz59, #[⟨1, .data⟩], none⟩ ?_
      refine tk 3 ⟨some 23, .binOp .gtr 3 (.tmp 22) (.const (.int .i64 30)) 3, 4, oz59, #[⟨2, .data⟩], none⟩ ?_
      refine tk 4 ⟨some 24, .move (.tmp 23), 4, oz59, #[⟨3, .data⟩], none⟩ ?_
      refine tk 5 ⟨some 25, .fieldAddr 112 (.tmp 2) 6, 0, oz59, #[⟨4, .guard⟩], some (4, false)⟩ ?_
      refine tk 6 ⟨some 26, .load 38 (.tmp 25), 38, oz59, oy1, some (4, false)⟩ ?_
      refine tk 7 ⟨some 27, .call { callee := .builtin .len, args := #[.tmp 26], argTypes := #[38] }, 3, oz59, oy60, some (4, false)⟩ ?_
      refine tk 8 ⟨some 28, .move (.tmp 1), 2, oz59, #[⟨4, .guard⟩], some (4, false)⟩ ?_
      refine wpAnyH_ready (rs := [9]) (by kernel_rfl) (by simp) (AllReadyH.cons rfl (fun K hK => ?_) AllReadyH.nil)
      go_simp
      refine (HRo.out _).mono ?_
      rintro e w9 ⟨rfl, hw⟩
      rw [hw]
      clear hw w9
      refine hK.out _ _ ⟨(HP.out _ (E2.out.drew)).1.2.2.2.2.2.2.1, (HP.out _ (E2.out.drew)).1.2.2.2.2.2.2.2⟩ (fun hHeld1 => ?_)
      clear hK K
      refine tk 10 ⟨some 30, .binOp .gtr 2 (.tmp 27) (.tmp 29) 2, 4, oz59, oy61, some (4, false)⟩ ?_
      refine tk 11 ⟨some 31, .pick (.tmp 24) (.const (.bool true)) (.tmp 30), 4, oz59, oy62, none⟩ ?_
      refine tk 12 ⟨some 19, .assign (.tmp 31), 4, oz59, oy63, none⟩ ?_
      refine wpAnyH_done (by kernel_rfl) ?_ _
      clear hM HBB HQB HBo3 HBy HWi
      obtain ⟨⟨hbl, c0, c1, c2, c3, c4, c5, c6⟩, -⟩ := HP.out _ (E2.out.drew)
      go_wp2_with fail
      refine (HSo3.out _ F2.out.drew).mono ?_
      rintro e w3 ⟨v3, rfl, hI3, hb⟩
      have E3 : Hid (Ext _ w3) := E2.out.drew.trans hb
      have HI3 : Hid (ISlice w3 v3 (Msg.slots m.certs)) := hI3
      obtain ⟨a3, c3', rfl, -, -, -⟩ := hI3
      clear hb hbl c0 c1 c2 c3 c4 c5 c6 F2
      obtain ⟨⟨hbl, c0, c1, c2, c3, c4, c5, c6⟩, hEw⟩ := HP.out _ E3.out
      have F3 : Hid (Ext w w3) := hEw
      clear hEw
      go_wp2_with fail
      refine (rises_any _ _ _ HI3.out).mono ?_
      rintro e w4 ⟨rfl, hb⟩
      have E4 : Hid (Ext _ w4) := E3.out.trans hb
      clear hb hbl c0 c1 c2 c3 c4 c5 c6 F3 HI3
      obtain ⟨⟨hbl, c0, c1, c2, c3, c4, c5, c6⟩, hEw⟩ := HP.out _ E4.out
      have F4 : Hid (Ext w w4) := hEw
      clear hEw
      cases hrs : Msg.rises (Msg.slots m.certs) with
      | false =>
       have HF : Hid (Msg.faultM f m = 1) := HFL.out.trans (Msg.lists_1 hrs)
       clear hrs
       go_wp2
       go_ret
       exact ⟨ret_int HF.out.symm, F4.out⟩
      | true =>
       have H1 : Hid (Msg.rises (Msg.slots m.certs) = true) := hrs
       clear hrs
       go_wp2_with fail
       refine (HRi.out _ F4.out).mono ?_
       rintro e w5 ⟨rfl, hb⟩
       have E5 : Hid (Ext _ w5) := E4.out.trans hb
       clear hb hbl c0 c1 c2 c3 c4 c5 c6 F4 HRi
       obtain ⟨⟨hbl, c0, c1, c2, c3, c4, c5, c6⟩, hEw⟩ := HP.out _ E5.out
       have F5 : Hid (Ext w w5) := hEw
       clear hEw
       cases hrr : Msg.rises m.refs with
       | false =>
        have HF : Hid (Msg.faultM f m = 1) := HFL.out.trans (Msg.lists_2 H1.out hrr)
        clear hrr
        go_wp2
        go_ret
        exact ⟨ret_int HF.out.symm, F5.out⟩
       | true =>
        have H2 : Hid (Msg.rises m.refs = true) := hrr
        clear hrr
        go_wp2_with fail
        refine (HPa3.out _ F5.out).mono ?_
        rintro e w6 ⟨rfl, hb⟩
        have F6 : Hid (Ext w w6) := F5.out.trans hb
        clear hb
        cases hpp : Msg.parts m with
        | false =>
         have HF : Hid (Msg.faultM f m = 3) := HFL.out.trans (Msg.lists_3 H1.out H2.out hpp)
         clear hpp
         go_wp2
         go_ret
         exact ⟨ret_int HF.out.symm, F6.out⟩
        | true =>
         have HF : Hid (Msg.faultM f m = 0) := HFL.out.trans (Msg.lists_4 H1.out H2.out hpp)
         clear hpp
         go_wp2
         go_ret
         exact ⟨ret_int HF.out.symm, F6.out⟩
 ·have q15 : (decide (1 ≤ m.kind) && decide (m.kind ≤ 5)) = false := by rw [Bool.and_eq_false_iff]; simp; omega
  rw [q15] at HWi
  have HB0 : Hid (Msg.bareN m.kind m.slot m.value m.certs.length m.refs.length = false) := decide_eq_false (by omega)
  clear q15 hk
  go_enter Tryz.func89, Tryz.ntmps89
  go_wp2_with fail
  refine (HWi.out _).mono ?_
  rintro e w9 ⟨rfl, hw⟩
  rw [hw]
  clear hw w9
  have HF : Hid (Msg.faultM f m = 1) := Msg.faultM_1 HB0.out
  go_wp2
  go_ret
  exact ⟨ret_int HF.out.symm, (Ext.refl _).alloc _⟩

set_option maxHeartbeats 2000000 in
theorem implMsgFault_any (f : Int) (m : Ms) (v u : Value) (w : World) (hS : MLs w v u m) :
  Calls Tryz.prog 40 #[.int .i64 f, magg m v u] w fun e w' => e = .returned (.int .i64 (Msg.fault f m)) ∧ Ext w w' := by
 have HC : Hid (∀ (wx : World), 1 ≤ f → f ≤ 2 → Ext w wx → Calls Tryz.prog 89 #[pagg m v u, .int .i64 f] wx fun e w' => e = .returned (.int .i64 (Msg.faultM f m)) ∧ Ext wx w') := fun wx h0 h1 he => faultP_any f m v u wx h0 h1 (hS.ext he)
 obtain ⟨a, c, a', c', rfl, rfl, -, -, -, -⟩ := hS.form
 clear hS
 have HFo : Hid (∀ wx : World, Calls Tryz.prog 87 #[.int .i64 f] wx fun e w' => e = .returned (.bool (Msg.fOk f)) ∧ w' = wx) := fun wx => isBadCount_any f wx
 have HMo : Hid (∀ wx : World, Calls Tryz.prog 88 #[magg m (.slice a m.certs.length c) (.slice a' m.refs.length c')] wx fun e w' => e = .returned (pagg m (.slice a m.certs.length c) (.slice a' m.refs.length c')) ∧ Ext wx w') := fun wx => messageOf_any m a a' _ _ c c' wx
 unfold magg pagg at *
 cases hf : Msg.fOk f with
 | false =>
  rw [hf] at HFo
  have HF : Hid (Msg.fault f m = 3) := Msg.fault_1 hf
  clear hf HC
  go_enter Tryz.func40, Tryz.ntmps40
  go_wp2_with fail
  refine (HFo.out _).mono ?_
  rintro e w9 ⟨rfl, hw⟩
  rw [hw]
  clear hw w9
  go_wp2
  go_ret
  exact ⟨ret_int HF.out.symm, (Ext.refl _).alloc _⟩
 | true =>
  rw [hf] at HFo
  have HF : Hid (Msg.fault f m = Msg.faultM f m) := Msg.fault_2 hf
  have h12 : 1 ≤ f ∧ f ≤ 2 := by unfold Msg.fOk at hf; simpa using hf
  clear hf
  go_enter Tryz.func40, Tryz.ntmps40
  go_wp2_with fail
  refine (HFo.out _).mono ?_
  rintro e w9 ⟨rfl, hw⟩
  rw [hw]
  clear hw w9
  go_wp2_with fail
  refine (HMo.out _).mono ?_
  rintro e w1 ⟨rfl, hb⟩
  have HB1 : Hid (Ext w w1) := ((Ext.refl _).alloc _).trans hb
  clear hb
  go_wp2_with fail
  refine (HC.out _ h12.1 h12.2 HB1.out).mono ?_
  rintro e w2 ⟨rfl, hb⟩
  have HB2 : Hid (Ext w w2) := HB1.out.trans hb
  clear hb
  go_wp2
  go_ret
  exact ⟨ret_int HF.out.symm, HB2.out⟩
end Go.Proofs.YtecgjdgfjgcmdaaGreat
