/- what may be proposed: the specification's. -/
import Derived.Test.YtecgjdgfjgcmdaaGreatRmG7
import Derived.Test.YtecgjdgfjgcmdaaGreatRmQV7s
import Derived.Test.YtecgjdgfjgcmdaaGreatRmQV6s
import Derived.Test.YtecgjdgfjgcmdaaGreatRmTk
namespace Go.Proofs.YtecgjdgfjgcmdaaGreat
open Go.RowKit
set_option maxHeartbeats 4000000 in
set_option maxRecDepth 100000 in
theorem l10Value_any (f : Int) (v : Value) (ms : List Ms) (start slot value : Int) (w : World) (hS : MSlice w v ms) (hled : Msg.ledger f ms = 0) (hst : start < (ms.length : Int)) (hs1 : 1 ≤ slot) (hs2 : slot ≤ 30) :
  Calls Tryz.prog 104 #[v, .int .i64 start, .int .i64 slot, .int .i64 value] w fun e w' => e = .returned (.bool (Msg.valueB ms start slot value)) ∧ Ext w w' := by
 by_cases h0 : start < 0
 ·obtain ⟨a, cap, rfl, -, -, -⟩ := hS
  unfold Msg.valueB
  rw [if_pos h0]
  clear hled hst
  go_enter Tryz.func104, Tryz.ntmps104
  go_wp2
  go_ret
  exact ⟨rfl, Ext.refl _⟩
 ·obtain ⟨z, h2, hn⟩ := Msg.nth_at (show 0 ≤ start by omega) hst
  have HPk : Hid (∀ u wx, Ext w wx → ISlice wx u z.refs → Calls Tryz.prog 105 #[v, u] wx fun e w' => ∃ vo g, e = .returned vo ∧ wx.heap.size ≤ g ∧ Led.IOwn w' vo g (Msg.picks ms z.refs) ∧ Ext wx w') := fun u wx he hi => l10Pick_any f v ms u z.refs wx (hS.ext he) hi hled (Msg.refs_zero hled h2) (by have h4 := (Msg.lists_zero (Msg.ledger_all hled z (List.mem_of_getElem? h2))).2.1; have h3 := Msg.ledger_zero hled; omega)
  have hV : Msg.valueB ms start slot value = if slot ≤ ((Msg.picks ms z.refs).length : Int) then decide (value = (Msg.picks ms z.refs).getD (slot - 1).toNat 0) else decide (0 < value) := by unfold Msg.valueB; rw [if_neg h0, Msg.refsAt_some hn]
  rw [hV]
  have hpl := Msg.picks_len ms z.refs
  obtain ⟨q, rfl⟩ : ∃ q : Nat, start = q := ⟨start.toNat, by omega⟩
  have h2 : ms[q]? = some z := h2
  obtain ⟨b, off, cap, rfl, hlt, hlm, hcm, hb, hm⟩ := hS.at2 h2
  obtain ⟨vz, uz, ⟨-, -, -, -, -, -, d6⟩, hL⟩ := hm
  have HIr : Hid (ISlice w uz z.refs) := hL.2
  obtain ⟨-, ⟨ar, cr, rfl, -, -, -⟩⟩ := hL
  obtain ⟨L, hLe⟩ : ∃ L, L = Msg.picks ms z.refs := ⟨_, rfl⟩
  rw [← hLe] at HPk hpl ⊢
  clear hled hS h2 hn hV hLe h0
  obtain ⟨s, rfl⟩ : ∃ s : Nat, slot = (s : Int) + 1 := ⟨(slot - 1).toNat, by omega⟩
  have e9 : IntKind.i64.wrap ((s : Int) + 1 - 1) = (s : Int) := by rw [IntKind.wrap_i64]; omega
  have e8 : IntKind.i64.wrap (s : Int) = (s : Int) := by rw [IntKind.wrap_i64]; omega
  by_cases hle : (s : Int) + 1 ≤ (L.length : Int)
  ·rw [if_pos hle]
   obtain ⟨xv, hxv⟩ : ∃ xv, L[s]? = some xv := ⟨_, List.getElem?_eq_getElem (by omega)⟩
   have HX : Hid (L.getD ((s : Int) + 1 - 1).toNat 0 = xv) := by
    show _ = _
    rw [show ((s : Int) + 1 - 1).toNat = s from by omega, List.getD_eq_getElem?_getD, hxv]; rfl
   rw [HX.out]
   go_enter Tryz.func104, Tryz.ntmps104
   go_wp2_with fail
   refine (HPk.out _ _ (Ext.refl _) HIr.out).mono ?_
   rintro e w2 ⟨v2, g2, rfl, -, hO2, hb2⟩
   have HE2 : Hid (Ext w w2) := hb2
   obtain ⟨a2, c2, rfl, hl2, hm2, hx2⟩ := hO2.slice
   obtain ⟨bl, ol, rfl, hbl, hNl⟩ := hx2 (by omega)
   have pl := hNl s xv hxv
   have hsL : s < L.length := by omega
   unfold maxLen at hm2
   clear hNl hxv hO2 hb2 d6
   go_wp2
   go_ret
   exact ⟨ret_bool (by rw [Bool.eq_iff_iff]; simp), HE2.out⟩
  ·rw [if_neg hle]
   go_enter Tryz.func104, Tryz.ntmps104
   go_wp2_with fail
   refine (HPk.out _ _ (Ext.refl _) HIr.out).mono ?_
   rintro e w2 ⟨v2, g2, rfl, -, hO2, hb2⟩
   have HE2 : Hid (Ext w w2) := hb2
   obtain ⟨a2, c2, rfl, hl2, hm2, hx2⟩ := hO2.slice
   unfold maxLen at hm2
   clear hO2 hb2 d6
   go_wp2
   go_ret
   exact ⟨rfl, HE2.out⟩

set_option maxHeartbeats 4000000 in
set_option maxRecDepth 100000 in
theorem l10Start_any (f : Int) (v : Value) (ms : List Ms) (view start : Int) (w : World) (hS : MSlice w v ms) (hled : Msg.ledger f ms = 0) :
  Calls Tryz.prog 146 #[.int .i64 f, v, .int .i64 view, .int .i64 start] w fun e w' => e = .returned (.bool (Msg.startB f ms view start)) ∧ Ext w w' := by
 have HN : Hid (Calls Tryz.prog 171 #[.int .i64 f, v, .int .i64 start] w fun e w' => e = .returned (.bool (Msg.newAt f ms start)) ∧ Ext w w') := l10New_any f v ms start w hS hled
 have HSl : Hid (MSlice w v ms) := hS
 obtain ⟨a, cap, rfl, -, -, -⟩ := hS
 clear hled
 by_cases h0 : view = 0
 ·subst h0
  rw [Msg.startB_zero]
  have hq : (start == -1) = decide (start = -1) := by by_cases h : start = -1 <;> simp [h]
  generalize decide (start = -1) = bb at *
  clear HN
  go_enter Tryz.func146, Tryz.ntmps146
  go_wp2
  go_ret
  exact ⟨rfl, Ext.refl _⟩
 ·have g0 : (view == 0) = false := by simpa using h0
  cases hnw : Msg.newAt f ms start with
  | false =>
   rw [Msg.startB_no h0 (Or.inl hnw)]
   rw [hnw] at HN
   clear hnw h0
   go_enter Tryz.func146, Tryz.ntmps146
   go_wp2_with fail
   refine HN.out.mono ?_
   rintro e w2 ⟨rfl, hb⟩
   have HE2 : Hid (Ext w w2) := hb
   clear hb
   go_wp2
   go_ret
   exact ⟨rfl, HE2.out⟩
  | true =>
   cases hn : Msg.nth ms start with
   | none => rw [Msg.newAt_none hn] at hnw; cases hnw
   | some z =>
    have hsB : Msg.startB f ms view start = decide (z.view = view) := by
     unfold Msg.startB
     rw [if_neg h0, hnw, Bool.true_and, Msg.viewAt_some hn]
    rw [hsB]
    rw [hnw] at HN
    obtain ⟨h1, h3, h2⟩ := Msg.nth_some hn
    obtain ⟨q, rfl⟩ : ∃ q : Nat, start = q := ⟨start.toNat, by omega⟩
    have h2 : ms[q]? = some z := h2
    have hq : (z.view == view) = decide (z.view = view) := by by_cases h : z.view = view <;> simp [h]
    generalize decide (z.view = view) = bb at *
    clear hnw h0 hn hsB h1 h3
    go_enter Tryz.func146, Tryz.ntmps146
    go_wp2_with fail
    refine HN.out.mono ?_
    rintro e w2 ⟨rfl, hb⟩
    have HE2 : Hid (Ext w w2) := hb
    obtain ⟨b1, off1, cap1, e1, hlt1, hlm1, hcm1, hb1, hm⟩ := (HSl.out.ext hb).at2 h2
    injection e1 with e1 e4 e5
    subst e1 e5
    obtain ⟨vz, uz, ⟨-, d1, -, -, -, -, -⟩, -⟩ := hm
    clear hb h2 e4
    go_wp2
    go_ret
    exact ⟨rfl, HE2.out⟩

set_option linter.unusedSimpArgs false in
set_option maxHeartbeats 8000000 in
set_option maxRecDepth 100000 in
theorem l10Propose_any (f : Int) (v : Value) (ms : List Ms) (x y : Int) (w : World) (hS : MSlice w v ms) (hled : Msg.ledger f ms = 0) :
  Calls Tryz.prog 116 #[.int .i64 f, v, .int .i64 x, .int .i64 y] w fun e w' => e = .returned (.bool (Msg.proposeAt f ms x y)) ∧ Ext w w' := by
 obtain ⟨hf0, hf1, hml⟩ := Msg.ledger_zero hled
 have HI0 : Hid (∀ bb, Msg.kindAt ms x 1 = bb → Calls Tryz.prog 156 #[v, .int .i64 x, .int .i64 1] w fun e w' => e = .returned (.bool bb) ∧ w' = w) := fun bb hh => l10Is_any v ms x 1 bb w hS hh
 cases hk1 : Msg.kindAt ms x 1 with
 | false =>
  rw [Msg.propose_no hk1]
  have HI : Hid (Calls Tryz.prog 156 #[v, .int .i64 x, .int .i64 1] w fun e w' => e = .returned (.bool false) ∧ w' = w) := HI0.out false hk1
  obtain ⟨a, cap, rfl, -, -, -⟩ := hS
  clear hk1 HI0 hled
  go_enter Tryz.func116, Tryz.ntmps116
  go_wp2_with fail
  refine HI.out.mono ?_
  rintro e w9 ⟨rfl, hw⟩
  rw [hw]
  clear hw w9
  go_wp2
  go_ret
  exact ⟨rfl, Ext.refl _⟩
 | true =>
  cases hn : Msg.nth ms x with
  | none => rw [Msg.kindAt_none hn] at hk1; cases hk1
  | some z =>
   have HI1 : Hid (Calls Tryz.prog 156 #[v, .int .i64 x, .int .i64 1] w fun e w' => e = .returned (.bool true) ∧ w' = w) := HI0.out true hk1
   rw [Msg.kindAt_some hn, decide_eq_true_eq] at hk1
   rw [Msg.proposeAt_some hn]
   obtain ⟨h0, h1, h2⟩ := Msg.nth_some hn
   obtain ⟨q, rfl⟩ : ∃ k : Nat, x = k := ⟨x.toNat, by omega⟩
   have h2 : ms[q]? = some z := h2
   have hfa := Msg.ledger_all hled z (List.mem_of_getElem? h2)
   have hvw := Msg.view_in hfa
   have hsl : 1 ≤ z.slot ∧ z.slot ≤ 30 := by
    obtain ⟨-, h2⟩ := Msg.faultM_zero hfa
    unfold Msg.boundsN at h2
    rw [decide_eq_true_eq] at h2
    omega
   have HPm : Hid (∀ wx, Calls Tryz.prog 65 #[.int .i64 f, .int .i64 z.view] wx fun e w' => e = .returned (.int .i64 (Msg.primary f z.view)) ∧ w' = wx) := fun wx => l9Primary_any f z.view wx hf0 hf1 hvw.1 hvw.2
   have HSt0 : Hid (∀ wx, Ext w wx → Calls Tryz.prog 146 #[.int .i64 f, v, .int .i64 z.view, .int .i64 y] wx fun e w' => e = .returned (.bool (Msg.startB f ms z.view y)) ∧ Ext wx w') := fun wx he => l10Start_any f v ms z.view y wx (hS.ext he) hled
   have HVl0 : Hid (y < (ms.length : Int) → ∀ wx, Ext w wx → Calls Tryz.prog 104 #[v, .int .i64 y, .int .i64 z.slot, .int .i64 z.value] wx fun e w' => e = .returned (.bool (Msg.valueB ms y z.slot z.value)) ∧ Ext wx w') := fun hy wx he => l10Value_any f v ms y z.slot z.value wx (hS.ext he) hled hy hsl.1 hsl.2
   have HSL : Hid (Msg.startB f ms z.view y = true → y < (ms.length : Int)) := fun hsb => by
    unfold Msg.startB at hsb
    split at hsb
    ·rw [decide_eq_true_eq] at hsb; omega
    ·rw [Bool.and_eq_true] at hsb
     cases hn2 : Msg.nth ms y with
     | none => rw [Msg.newAt_none hn2] at hsb; exact absurd hsb.1 (by decide)
     | some z2 => exact (Msg.nth_some hn2).2.1
   have HPB : Hid (Msg.proposeB f ms z y = (decide (z.from_ = Msg.primary f z.view) && Msg.startB f ms z.view y && Msg.valueB ms y z.slot z.value)) := by
    show _ = _
    unfold Msg.proposeB
    rw [decide_eq_true hk1, Bool.true_and]
   rw [HPB.out]
   obtain ⟨b, off, cap, rfl, hlt, hlm, hcm, hb, hm⟩ := hS.at2 h2
   obtain ⟨vz, uz, ⟨-, d1, d2, d3, d4, -, -⟩, -⟩ := hm
   have HS : Hid (∀ W', Ext w W' → W'.cell? ⟨b, off + q * 7 + 1, none⟩ = some (.int .i64 z.view) ∧ W'.cell? ⟨b, off + q * 7 + 2, none⟩ = some (.int .i64 z.from_) ∧ W'.cell? ⟨b, off + q * 7 + 3, none⟩ = some (.int .i64 z.slot) ∧ W'.cell? ⟨b, off + q * 7 + 4, none⟩ = some (.int .i64 z.value)) := fun W' he => ⟨((Ext.cell he).1 _ _ hb).trans d1, ((Ext.cell he).1 _ _ hb).trans d2, ((Ext.cell he).1 _ _ hb).trans d3, ((Ext.cell he).1 _ _ hb).trans d4⟩
   have HI : Hid (Calls Tryz.prog 156 #[.slice (some ⟨b, off, none⟩) ms.length cap, .int .i64 (q : Int), .int .i64 1] w fun e w' => e = .returned (.bool true) ∧ w' = w) := HI1.out
   have HSt : Hid (∀ wx, Ext w wx → Calls Tryz.prog 146 #[.int .i64 f, .slice (some ⟨b, off, none⟩) ms.length cap, .int .i64 z.view, .int .i64 y] wx fun e w' => e = .returned (.bool (Msg.startB f ms z.view y)) ∧ Ext wx w') := HSt0.out
   clear hS hn h0 h1 h2 hfa hvw hsl HI0 HI1 hk1 hled d1 d2 d3 d4 HPB HSt0
   by_cases g2 : z.from_ = Msg.primary f z.view
   ·have P10 : Hid ((z.from_ == Msg.primary f z.view) = true) := by show _ = _; simpa using g2
    rw [decide_eq_true g2, Bool.true_and]
    clear g2
    generalize Msg.primary f z.view = pv at *
    cases hsb : Msg.startB f ms z.view y with
    | true =>
     have HVl : Hid (∀ wx, Ext w wx → Calls Tryz.prog 104 #[.slice (some ⟨b, off, none⟩) ms.length cap, .int .i64 y, .int .i64 z.slot, .int .i64 z.value] wx fun e w' => e = .returned (.bool (Msg.valueB ms y z.slot z.value)) ∧ Ext wx w') := HVl0.out (HSL.out hsb)
     rw [hsb] at HSt
     rw [Bool.true_and]
     clear hsb HVl0 HSL
     generalize Msg.valueB ms y z.slot z.value = vb at *
     go_enter Tryz.func116, Tryz.ntmps116
     go_wp2_with fail
     refine HI.out.mono ?_
     rintro e w9 ⟨rfl, hw⟩
     rw [hw]
     clear hw w9
     go_wp2
     refine wp_region_held_drew (S := (fun W' : World => W'.cell? ⟨b, off + q * 7 + 1, none⟩ = some (.int .i64 z.view) ∧ W'.cell? ⟨b, off + q * 7 + 2, none⟩ = some (.int .i64 z.from_) ∧ W'.cell? ⟨b, off + q * 7 + 3, none⟩ = some (.int .i64 z.slot) ∧ W'.cell? ⟨b, off + q * 7 + 4, none⟩ = some (.int .i64 z.value))) (by kernel_rfl) (HS.out _ ((Ext.refl _).drew)) (fun hHeld => ?_)
     refine tk 0 ⟨some 17, .move (.tmp 9), 97, oz204, #[], none⟩ ?_
     refine tk 1 ⟨some 18, .nilCheck (.tmp 17), 0, oz204, #[⟨0, .data⟩], none⟩ ?_
     refine tk 2 ⟨some 19, .fieldAddr 40 (.tmp 18) 2, 0, oz204, #[⟨1, .data⟩], none⟩ ?_
     refine tk 3 ⟨some 20, .load 2 (.tmp 19), 2, oz204, #[⟨2, .data⟩], none⟩ ?_
     refine tk 4 ⟨some 21, .move (.tmp 0), 2, oz204, #[], none⟩ ?_
     refine tk 5 ⟨some 22, .move (.tmp 9), 97, oz204, #[], none⟩ ?_
     refine tk 6 ⟨some 23, .nilCheck (.tmp 22), 0, oz204, #[⟨5, .data⟩], none⟩ ?_
     refine tk 7 ⟨some 24, .fieldAddr 40 (.tmp 23) 1, 0, oz204, #[⟨6, .data⟩], none⟩ ?_
     refine tk 8 ⟨some 25, .load 2 (.tmp 24), 2, oz204, #[⟨7, .data⟩], none⟩ ?_
     refine wpAnyH_ready (rs := [9]) (by kernel_rfl) (by simp) (AllReadyH.cons rfl (fun K hK => ?_) AllReadyH.nil)
     go_simp
     refine (HPm.out _).mono ?_
     rintro e y1 ⟨rfl, hw⟩
     have X1 : Hid (Ext w y1) := by rw [hw]; exact (Ext.refl _).drew
     clear hw
     refine hK.out _ _ (by exact HS.out _ X1.out) (fun hHeld1 => ?_)
     clear hK K
     refine tk 10 ⟨some 27, .binOp .eql 2 (.tmp 20) (.tmp 26) 2, 4, oz204, oy205, none⟩ ?_
     (try rw [P10.out])
     refine tk 11 ⟨some 28, .move (.tmp 27), 4, oz204, oy177, none⟩ ?_
     refine tk 12 ⟨some 29, .move (.tmp 0), 2, oz204, oy178, some (11, true)⟩ ?_
     refine tk 13 ⟨some 30, .move (.tmp 1), 27, oz204, oy178, some (11, true)⟩ ?_
     refine tk 14 ⟨some 31, .move (.tmp 9), 97, oz204, oy178, some (11, true)⟩ ?_
     refine tk 15 ⟨some 32, .nilCheck (.tmp 31), 0, oz204, oy180, some (11, true)⟩ ?_
     refine tk 16 ⟨some 33, .fieldAddr 40 (.tmp 32) 1, 0, oz204, oy181, some (11, true)⟩ ?_
     refine tk 17 ⟨some 34, .load 2 (.tmp 33), 2, oz204, oy206, some (11, true)⟩ ?_
     refine tk 18 ⟨some 35, .move (.tmp 3), 2, oz204, oy178, some (11, true)⟩ ?_
     refine wpAnyH_ready (rs := [19]) (by kernel_rfl) (by simp) (AllReadyH.cons rfl (fun K hK => ?_) AllReadyH.nil)
     go_simp
     refine (HSt.out _ X1.out).mono ?_
     rintro e y2 ⟨rfl, hb⟩
     have X2 : Hid (Ext w y2) := X1.out.trans hb
     clear hb
     refine hK.out _ _ (by exact HS.out _ X2.out) (fun hHeld2 => ?_)
     clear hK K
     refine tk 20 ⟨some 37, .pick (.tmp 28) (.tmp 36) (.const (.bool false)), 4, oz204, oy207, none⟩ ?_
     refine tk 21 ⟨some 38, .move (.tmp 37), 4, oz204, oy208, none⟩ ?_
     refine tk 22 ⟨some 39, .move (.tmp 1), 27, oz204, oy50, some (21, true)⟩ ?_
     refine tk 23 ⟨some 40, .move (.tmp 3), 2, oz204, oy50, some (21, true)⟩ ?_
     refine tk 24 ⟨some 41, .move (.tmp 9), 97, oz204, oy50, some (21, true)⟩ ?_
     refine tk 25 ⟨some 42, .nilCheck (.tmp 41), 0, oz204, oy53, some (21, true)⟩ ?_
     refine tk 26 ⟨some 43, .fieldAddr 40 (.tmp 42) 3, 0, oz204, oy209, some (21, true)⟩ ?_
     refine tk 27 ⟨some 44, .load 2 (.tmp 43), 2, oz204, oy210, some (21, true)⟩ ?_
     refine tk 28 ⟨some 45, .move (.tmp 9), 97, oz204, oy50, some (21, true)⟩ ?_
     refine tk 29 ⟨some 46, .nilCheck (.tmp 45), 0, oz204, oy211, some (21, true)⟩ ?_
     refine tk 30 ⟨some 47, .fieldAddr 40 (.tmp 46) 4, 0, oz204, oy212, some (21, true)⟩ ?_
     refine tk 31 ⟨some 48, .load 2 (.tmp 47), 2, oz204, oy213, some (21, true)⟩ ?_
     refine wpAnyH_ready (rs := [32]) (by kernel_rfl) (by simp) (AllReadyH.cons rfl (fun K hK => ?_) AllReadyH.nil)
     go_simp
     refine (HVl.out _ X2.out).mono ?_
     rintro e y3 ⟨rfl, hb⟩
     have X3 : Hid (Ext w y3) := X2.out.trans hb
     clear hb
     refine hK.out _ _ (by exact HS.out _ X3.out) (fun hHeld3 => ?_)
     clear hK K
     refine tk 33 ⟨some 50, .pick (.tmp 38) (.tmp 49) (.const (.bool false)), 4, oz204, oy214, none⟩ ?_
     refine tk 34 ⟨some 8, .assign (.tmp 50), 4, oz204, oy215, none⟩ ?_
     refine wpAnyH_done (by kernel_rfl) ?_ _
     (try go_wp2)
     go_ret
     exact ⟨rfl, X3.out⟩
    | false =>
     rw [hsb] at HSt
     rw [Bool.false_and]
     clear hsb HVl0 HSL
     go_enter Tryz.func116, Tryz.ntmps116
     go_wp2_with fail
     refine HI.out.mono ?_
     rintro e w9 ⟨rfl, hw⟩
     rw [hw]
     clear hw w9
     go_wp2
     refine wp_region_held_drew (S := (fun W' : World => W'.cell? ⟨b, off + q * 7 + 1, none⟩ = some (.int .i64 z.view) ∧ W'.cell? ⟨b, off + q * 7 + 2, none⟩ = some (.int .i64 z.from_) ∧ W'.cell? ⟨b, off + q * 7 + 3, none⟩ = some (.int .i64 z.slot) ∧ W'.cell? ⟨b, off + q * 7 + 4, none⟩ = some (.int .i64 z.value))) (by kernel_rfl) (HS.out _ ((Ext.refl _).drew)) (fun hHeld => ?_)
     refine tk 0 ⟨some 17, .move (.tmp 9), 97, oz204, #[], none⟩ ?_
     refine tk 1 ⟨some 18, .nilCheck (.tmp 17), 0, oz204, #[⟨0, .data⟩], none⟩ ?_
     refine tk 2 ⟨some 19, .fieldAddr 40 (.tmp 18) 2, 0, oz204, #[⟨1, .data⟩], none⟩ ?_
     refine tk 3 ⟨some 20, .load 2 (.tmp 19), 2, oz204, #[⟨2, .data⟩], none⟩ ?_
     refine tk 4 ⟨some 21, .move (.tmp 0), 2, oz204, #[], none⟩ ?_
     refine tk 5 ⟨some 22, .move (.tmp 9), 97, oz204, #[], none⟩ ?_
     refine tk 6 ⟨some 23, .nilCheck (.tmp 22), 0, oz204, #[⟨5, .data⟩], none⟩ ?_
     refine tk 7 ⟨some 24, .fieldAddr 40 (.tmp 23) 1, 0, oz204, #[⟨6, .data⟩], none⟩ ?_
     refine tk 8 ⟨some 25, .load 2 (.tmp 24), 2, oz204, #[⟨7, .data⟩], none⟩ ?_
     refine wpAnyH_ready (rs := [9]) (by kernel_rfl) (by simp) (AllReadyH.cons rfl (fun K hK => ?_) AllReadyH.nil)
     go_simp
     refine (HPm.out _).mono ?_
     rintro e y1 ⟨rfl, hw⟩
     have X1 : Hid (Ext w y1) := by rw [hw]; exact (Ext.refl _).drew
     clear hw
     refine hK.out _ _ (by exact HS.out _ X1.out) (fun hHeld1 => ?_)
     clear hK K
     refine tk 10 ⟨some 27, .binOp .eql 2 (.tmp 20) (.tmp 26) 2, 4, oz204, oy205, none⟩ ?_
     (try rw [P10.out])
     refine tk 11 ⟨some 28, .move (.tmp 27), 4, oz204, oy177, none⟩ ?_
     refine tk 12 ⟨some 29, .move (.tmp 0), 2, oz204, oy178, some (11, true)⟩ ?_
     refine tk 13 ⟨some 30, .move (.tmp 1), 27, oz204, oy178, some (11, true)⟩ ?_
     refine tk 14 ⟨some 31, .move (.tmp 9), 97, oz204, oy178, some (11, true)⟩ ?_
     refine tk 15 ⟨some 32, .nilCheck (.tmp 31), 0, oz204, oy180, some (11, true)⟩ ?_
     refine tk 16 ⟨some 33, .fieldAddr 40 (.tmp 32) 1, 0, oz204, oy181, some (11, true)⟩ ?_
     refine tk 17 ⟨some 34, .load 2 (.tmp 33), 2, oz204, oy206, some (11, true)⟩ ?_
     refine tk 18 ⟨some 35, .move (.tmp 3), 2, oz204, oy178, some (11, true)⟩ ?_
     refine wpAnyH_ready (rs := [19]) (by kernel_rfl) (by simp) (AllReadyH.cons rfl (fun K hK => ?_) AllReadyH.nil)
     go_simp
     refine (HSt.out _ X1.out).mono ?_
     rintro e y2 ⟨rfl, hb⟩
     have X2 : Hid (Ext w y2) := X1.out.trans hb
     clear hb
     refine hK.out _ _ (by exact HS.out _ X2.out) (fun hHeld2 => ?_)
     clear hK K
     refine tk 20 ⟨some 37, .pick (.tmp 28) (.tmp 36) (.const (.bool false)), 4, oz204, oy207, none⟩ ?_
     refine tk 21 ⟨some 38, .move (.tmp 37), 4, oz204, oy208, none⟩ ?_
     refine tn 22 ⟨some 39, .move (.tmp 1), 27, oz204, oy50, some (21, true)⟩ ?_
     refine tn 23 ⟨some 40, .move (.tmp 3), 2, oz204, oy50, some (21, true)⟩ ?_
     refine tn 24 ⟨some 41, .move (.tmp 9), 97, oz204, oy50, some (21, true)⟩ ?_
     refine tn 25 ⟨some 42, .nilCheck (.tmp 41), 0, oz204, oy53, some (21, true)⟩ ?_
     refine tn 26 ⟨some 43, .fieldAddr 40 (.tmp 42) 3, 0, oz204, oy209, some (21, true)⟩ ?_
     refine tn 27 ⟨some 44, .load 2 (.tmp 43), 2, oz204, oy210, some (21, true)⟩ ?_
     refine tn 28 ⟨some 45, .move (.tmp 9), 97, oz204, oy50, some (21, true)⟩ ?_
     refine tn 29 ⟨some 46, .nilCheck (.tmp 45), 0, oz204, oy211, some (21, true)⟩ ?_
     refine tn 30 ⟨some 47, .fieldAddr 40 (.tmp 46) 4, 0, oz204, oy212, some (21, true)⟩ ?_
     refine tn 31 ⟨some 48, .load 2 (.tmp 47), 2, oz204, oy213, some (21, true)⟩ ?_
     refine tn 32 ⟨some 49, .call { callee := .value (.func 104), args := #[.tmp 39, .tmp 40, .tmp 44, .tmp 48], argTypes := #[27, 2, 2, 2] }, 4, oz204, #[⟨22, .data⟩, ⟨23, .data⟩, ⟨27, .data⟩, ⟨31, .data⟩, ⟨21, .chain⟩, ⟨21, .guard⟩], some (21, true)⟩ ?_
     refine tk 33 ⟨some 50, .pick (.tmp 38) (.tmp 49) (.const (.bool false)), 4, oz204, oy214, none⟩ ?_
     refine tk 34 ⟨some 8, .assign (.tmp 50), 4, oz204, oy215, none⟩ ?_
     refine wpAnyH_done (by kernel_rfl) ?_ _
     (try go_wp2)
     go_ret
     exact ⟨rfl, X2.out⟩
   ·have P10 : Hid ((z.from_ == Msg.primary f z.view) = false) := by show _ = _; simpa using g2
    rw [decide_eq_false g2, Bool.false_and, Bool.false_and]
    clear g2 HVl0 HSL
    generalize Msg.primary f z.view = pv at *
    go_enter Tryz.func116, Tryz.ntmps116
    go_wp2_with fail
    refine HI.out.mono ?_
    rintro e w9 ⟨rfl, hw⟩
    rw [hw]
    clear hw w9
    go_wp2
    refine wp_region_held_drew (S := (fun W' : World => W'.cell? ⟨b, off + q * 7 + 1, none⟩ = some (.int .i64 z.view) ∧ W'.cell? ⟨b, off + q * 7 + 2, none⟩ = some (.int .i64 z.from_) ∧ W'.cell? ⟨b, off + q * 7 + 3, none⟩ = some (.int .i64 z.slot) ∧ W'.cell? ⟨b, off + q * 7 + 4, none⟩ = some (.int .i64 z.value))) (by kernel_rfl) (HS.out _ ((Ext.refl _).drew)) (fun hHeld => ?_)
    refine tk 0 ⟨some 17, .move (.tmp 9), 97, oz204, #[], none⟩ ?_
    refine tk 1 ⟨some 18, .nilCheck (.tmp 17), 0, oz204, #[⟨0, .data⟩], none⟩ ?_
    refine tk 2 ⟨some 19, .fieldAddr 40 (.tmp 18) 2, 0, oz204, #[⟨1, .data⟩], none⟩ ?_
    refine tk 3 ⟨some 20, .load 2 (.tmp 19), 2, oz204, #[⟨2, .data⟩], none⟩ ?_
    refine tk 4 ⟨some 21, .move (.tmp 0), 2, oz204, #[], none⟩ ?_
    refine tk 5 ⟨some 22, .move (.tmp 9), 97, oz204, #[], none⟩ ?_
    refine tk 6 ⟨some 23, .nilCheck (.tmp 22), 0, oz204, #[⟨5, .data⟩], none⟩ ?_
    refine tk 7 ⟨some 24, .fieldAddr 40 (.tmp 23) 1, 0, oz204, #[⟨6, .data⟩], none⟩ ?_
    refine tk 8 ⟨some 25, .load 2 (.tmp 24), 2, oz204, #[⟨7, .data⟩], none⟩ ?_
    refine wpAnyH_ready (rs := [9]) (by kernel_rfl) (by simp) (AllReadyH.cons rfl (fun K hK => ?_) AllReadyH.nil)
    go_simp
    refine (HPm.out _).mono ?_
    rintro e y1 ⟨rfl, hw⟩
    have X1 : Hid (Ext w y1) := by rw [hw]; exact (Ext.refl _).drew
    clear hw
    refine hK.out _ _ (by exact HS.out _ X1.out) (fun hHeld1 => ?_)
    clear hK K
    refine tk 10 ⟨some 27, .binOp .eql 2 (.tmp 20) (.tmp 26) 2, 4, oz204, oy205, none⟩ ?_
    (try rw [P10.out])
    refine tk 11 ⟨some 28, .move (.tmp 27), 4, oz204, oy177, none⟩ ?_
    refine tn 12 ⟨some 29, .move (.tmp 0), 2, oz204, oy178, some (11, true)⟩ ?_
    refine tn 13 ⟨some 30, .move (.tmp 1), 27, oz204, oy178, some (11, true)⟩ ?_
    refine tn 14 ⟨some 31, .move (.tmp 9), 97, oz204, oy178, some (11, true)⟩ ?_
    refine tn 15 ⟨some 32, .nilCheck (.tmp 31), 0, oz204, oy180, some (11, true)⟩ ?_
    refine tn 16 ⟨some 33, .fieldAddr 40 (.tmp 32) 1, 0, oz204, oy181, some (11, true)⟩ ?_
    refine tn 17 ⟨some 34, .load 2 (.tmp 33), 2, oz204, oy206, some (11, true)⟩ ?_
    refine tn 18 ⟨some 35, .move (.tmp 3), 2, oz204, oy178, some (11, true)⟩ ?_
    refine tn 19 ⟨some 36, .call { callee := .value (.func 146), args := #[.tmp 29, .tmp 30, .tmp 34, .tmp 35], argTypes := #[2, 27, 2, 2] }, 4, oz204, #[⟨12, .data⟩, ⟨13, .data⟩, ⟨17, .data⟩, ⟨18, .data⟩, ⟨11, .chain⟩, ⟨11, .guard⟩], some (11, true)⟩ ?_
    refine tk 20 ⟨some 37, .pick (.tmp 28) (.tmp 36) (.const (.bool false)), 4, oz204, oy207, none⟩ ?_
    refine tk 21 ⟨some 38, .move (.tmp 37), 4, oz204, oy208, none⟩ ?_
    refine tn 22 ⟨some 39, .move (.tmp 1), 27, oz204, oy50, some (21, true)⟩ ?_
    refine tn 23 ⟨some 40, .move (.tmp 3), 2, oz204, oy50, some (21, true)⟩ ?_
    refine tn 24 ⟨some 41, .move (.tmp 9), 97, oz204, oy50, some (21, true)⟩ ?_
    refine tn 25 ⟨some 42, .nilCheck (.tmp 41), 0, oz204, oy53, some (21, true)⟩ ?_
    refine tn 26 ⟨some 43, .fieldAddr 40 (.tmp 42) 3, 0, oz204, oy209, some (21, true)⟩ ?_
    refine tn 27 ⟨some 44, .load 2 (.tmp 43), 2, oz204, oy210, some (21, true)⟩ ?_
    refine tn 28 ⟨some 45, .move (.tmp 9), 97, oz204, oy50, some (21, true)⟩ ?_
    refine tn 29 ⟨some 46, .nilCheck (.tmp 45), 0, oz204, oy211, some (21, true)⟩ ?_
    refine tn 30 ⟨some 47, .fieldAddr 40 (.tmp 46) 4, 0, oz204, oy212, some (21, true)⟩ ?_
    refine tn 31 ⟨some 48, .load 2 (.tmp 47), 2, oz204, oy213, some (21, true)⟩ ?_
    refine tn 32 ⟨some 49, .call { callee := .value (.func 104), args := #[.tmp 39, .tmp 40, .tmp 44, .tmp 48], argTypes := #[27, 2, 2, 2] }, 4, oz204, #[⟨22, .data⟩, ⟨23, .data⟩, ⟨27, .data⟩, ⟨31, .data⟩, ⟨21, .chain⟩, ⟨21, .guard⟩], some (21, true)⟩ ?_
    refine tk 33 ⟨some 50, .pick (.tmp 38) (.tmp 49) (.const (.bool false)), 4, oz204, oy214, none⟩ ?_
    refine tk 34 ⟨some 8, .assign (.tmp 50), 4, oz204, oy215, none⟩ ?_
    refine wpAnyH_done (by kernel_rfl) ?_ _
    (try go_wp2)
    go_ret
    exact ⟨rfl, X1.out⟩

end Go.Proofs.YtecgjdgfjgcmdaaGreat
