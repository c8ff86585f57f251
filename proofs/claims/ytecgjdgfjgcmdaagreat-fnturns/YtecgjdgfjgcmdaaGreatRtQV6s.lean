/- what begins a view: the specification's. -/
import Derived.Test.YtecgjdgfjgcmdaaGreatRtQV4
import Derived.Deep.RegionHeld3
import Derived.Test.YtecgjdgfjgcmdaaGreatRtTk
namespace Go.Proofs.YtecgjdgfjgcmdaaGreat
open Go.RowKit
theorem ISlice.takeN {w : World} {a : Option Addr} {n cap : Nat} {l : List Int} (h : ISlice w (.slice a n cap) l) {k : Nat} (hk : k ≤ l.length) : ISlice w (.slice a k cap) (l.take k) := by
 obtain ⟨a0, cap0, h1, h2, h3, h4⟩ := h
 injection h1 with e1 e2 e3
 subst e1 e3
 have hl : (l.take k).length = k := by rw [List.length_take]; omega
 refine ⟨a, cap, by rw [hl], by omega, h3, fun h0 => ?_⟩
 obtain ⟨b, off, e, hb, hN⟩ := h4 (by omega)
 refine ⟨b, off, e, hb, fun i x hx => hN i x ?_⟩
 rw [List.getElem?_take] at hx
 split at hx
 ·exact hx
 ·cases hx
set_option linter.unusedSimpArgs false in
set_option maxHeartbeats 16000000 in
set_option maxRecDepth 100000 in
theorem l10New_any (f : Int) (v : Value) (ms : List Ms) (x : Int) (w : World) (hS : MSlice w v ms) (hled : Msg.ledger f ms = 0) :
  Calls Tryz.prog 171 #[.int .i64 f, v, .int .i64 x] w fun e w' => e = .returned (.bool (Msg.newAt f ms x)) ∧ Ext w w' := by
 obtain ⟨hf0, hf1, hml⟩ := Msg.ledger_zero hled
 have HI0 : Hid (∀ bb, Msg.kindAt ms x 5 = bb → Calls Tryz.prog 156 #[v, .int .i64 x, .int .i64 5] w fun e w' => e = .returned (.bool bb) ∧ w' = w) := fun bb h => l10Is_any v ms x 5 bb w hS h
 cases hk5 : Msg.kindAt ms x 5 with
 | false =>
  have HI : Hid (Calls Tryz.prog 156 #[v, .int .i64 x, .int .i64 5] w fun e w' => e = .returned (.bool false) ∧ w' = w) := HI0.out false hk5
  have HZ : Msg.newAt f ms x = false := by
   cases hn : Msg.nth ms x with
   | none => exact Msg.newAt_none hn
   | some z =>
    rw [Msg.kindAt_some hn, decide_eq_false_iff_not] at hk5
    rw [Msg.newAt_some hn]
    exact Msg.newB_no (fun h => hk5 h.1)
  rw [HZ]
  obtain ⟨a, cap, rfl, -, -, -⟩ := hS
  clear HZ hk5 HI0 hled
  go_enter Tryz.func171, Tryz.ntmps171
  go_wp2_with fail
  refine HI.out.mono ?_
  rintro e w9 ⟨rfl, hw⟩
  rw [hw]
  clear hw w9
  go_wp2
  go_ret
  exact ⟨rfl, Ext.refl _⟩
 | true =>
  have HI1 : Hid (Calls Tryz.prog 156 #[v, .int .i64 x, .int .i64 5] w fun e w' => e = .returned (.bool true) ∧ w' = w) := HI0.out true hk5
  cases hn : Msg.nth ms x with
  | none => rw [Msg.kindAt_none hn] at hk5; cases hk5
  | some z =>
   rw [Msg.kindAt_some hn, decide_eq_true_eq] at hk5
   rw [Msg.newAt_some hn]
   obtain ⟨h0, h1, h2⟩ := Msg.nth_some hn
   obtain ⟨q, rfl⟩ : ∃ k : Nat, x = k := ⟨x.toNat, by omega⟩
   have h2 : ms[q]? = some z := h2
   have hfa := Msg.ledger_all hled z (List.mem_of_getElem? h2)
   have hvw := Msg.view_in hfa
   have hrl := (Msg.lists_zero hfa).2.1
   have HRf : Hid (∀ r ∈ z.refs, 0 ≤ r ∧ r < (ms.length : Int)) := Msg.refs_zero hled h2
   have HCh0 : Hid (∀ (p : Int) (wx : World), Ext w wx → Calls Tryz.prog 120 #[.int .i64 f, v, .int .i64 p] wx fun e w' => e = .returned (.bool (Msg.changeAt f ms p)) ∧ Ext wx w') := fun p wx he => l10Change_any f v ms p wx (hS.ext he) hf0 hf1
   have HFm0 : Hid (∀ (u : Value) (l : List Int) (y : Int) (wx : World), Ext w wx → ISlice wx u l → (∀ p ∈ l, 0 ≤ p ∧ p < (ms.length : Int)) → Calls Tryz.prog 121 #[v, u, .int .i64 y] wx fun e w' => e = .returned (.bool (Msg.fromIn ms l y)) ∧ w' = wx) := fun u l y wx he hi hin => l10From_any v ms u l y wx (hS.ext he) hi hin
   have HPm : Hid (∀ wx, Calls Tryz.prog 65 #[.int .i64 f, .int .i64 z.view] wx fun e w' => e = .returned (.int .i64 (Msg.primary f z.view)) ∧ w' = wx) := fun wx => l9Primary_any f z.view wx hf0 hf1 hvw.1 hvw.2
   have HQ : Hid (∀ wx, Calls Tryz.prog 67 #[.int .i64 f] wx fun e w' => e = .returned (.int .i64 (2 * f + 1)) ∧ w' = wx) := fun wx => l9Need_any f wx hf0 hf1
   have HSl : Hid (MSlice w v ms) := hS
   obtain ⟨b, off, cap, rfl, hlt, hlm, hcm, hb, hm⟩ := hS.at2 h2
   obtain ⟨vz, uz, ⟨-, d1, d2, -, -, -, d6⟩, hL⟩ := hm
   have HIr : Hid (ISlice w uz z.refs) := hL.2
   obtain ⟨-, ⟨ar, cr, rfl, hrc, hrm, hrx⟩⟩ := hL
   have HX : Hid (0 < z.refs.length → ∃ b off, ar = some ⟨b, off, none⟩ ∧ b < w.heap.size ∧ NumsAt w b off z.refs) := hrx
   have HS : Hid (∀ W', Ext w W' → W'.cell? ⟨b, off + q * 7 + 1, none⟩ = some (.int .i64 z.view) ∧ W'.cell? ⟨b, off + q * 7 + 2, none⟩ = some (.int .i64 z.from_) ∧ W'.cell? ⟨b, off + q * 7 + 6, none⟩ = some (.slice ar z.refs.length cr)) := fun W' he => ⟨((Ext.cell he).1 _ _ hb).trans d1, ((Ext.cell he).1 _ _ hb).trans d2, ((Ext.cell he).1 _ _ hb).trans d6⟩
   have HI : Hid (Calls Tryz.prog 156 #[.slice (some ⟨b, off, none⟩) ms.length cap, .int .i64 (q : Int), .int .i64 5] w fun e w' => e = .returned (.bool true) ∧ w' = w) := HI1.out
   unfold maxLen at hrm
   clear hS hn h0 h1 h2 hfa hvw hrx HI0 HI1
   by_cases g1 : 1 ≤ z.view
   ·have P4 : Hid (decide (z.view < 1) = false) := decide_eq_false (by omega)
    by_cases g2 : z.from_ = Msg.primary f z.view
    ·have P16 : Hid ((z.from_ != Msg.primary f z.view) = false) := by show _ = _; simpa using g2
     by_cases g3 : 2 * f + 1 ≤ (z.refs.length : Int)
     ·have P26 : Hid (decide ((z.refs.length : Int) < 2 * f + 1) = false) := decide_eq_false (by omega)
      rw [Msg.newB_is ⟨hk5, g1, g2, g3⟩]
      clear hk5 hled g1 g2 g3
      generalize Msg.primary f z.view = pv at *
      go_enter Tryz.func171, Tryz.ntmps171
      go_wp2_with fail
      refine HI.out.mono ?_
      rintro e w9 ⟨rfl, hw⟩
      rw [hw]
      clear hw w9
      go_wp2
      clear d1 d2 d6
      refine wp_region_held_drew (S := (fun W' : World => W'.cell? ⟨b, off + q * 7 + 1, none⟩ = some (.int .i64 z.view) ∧ W'.cell? ⟨b, off + q * 7 + 2, none⟩ = some (.int .i64 z.from_) ∧ W'.cell? ⟨b, off + q * 7 + 6, none⟩ = some (.slice ar z.refs.length cr))) (by kernel_rfl) (HS.out _ ((Ext.refl _).drew)) (fun hHeld => ?_)
      refine tk 0 ⟨some 16, .move (.tmp 7), 97, oz167, #[], none⟩ ?_
      refine tk 1 ⟨some 17, .nilCheck (.tmp 16), 0, oz167, #[⟨0, .data⟩], none⟩ ?_
      refine tk 2 ⟨some 18, .fieldAddr 40 (.tmp 17) 1, 0, oz167, #[⟨1, .data⟩], none⟩ ?_
      refine tk 3 ⟨some 19, .load 2 (.tmp 18), 2, oz167, #[⟨2, .data⟩], none⟩ ?_
      refine tk 4 ⟨some 20, .binOp .lss 2 (.tmp 19) (.const (.int .i64 1)) 2, 4, oz167, #[⟨3, .data⟩], none⟩ ?_
      (try rw [P4.out])
      refine tk 5 ⟨some 21, .move (.tmp 20), 4, oz167, #[⟨4, .data⟩], none⟩ ?_
      refine tk 6 ⟨some 22, .move (.tmp 7), 97, oz167, #[⟨5, .guard⟩], some (5, false)⟩ ?_
      refine tk 7 ⟨some 23, .nilCheck (.tmp 22), 0, oz167, oy27, some (5, false)⟩ ?_
      refine tk 8 ⟨some 24, .fieldAddr 40 (.tmp 23) 2, 0, oz167, oy28, some (5, false)⟩ ?_
      refine tk 9 ⟨some 25, .load 2 (.tmp 24), 2, oz167, oy29, some (5, false)⟩ ?_
      refine tk 10 ⟨some 26, .move (.tmp 0), 2, oz167, #[⟨5, .guard⟩], some (5, false)⟩ ?_
      refine tk 11 ⟨some 27, .move (.tmp 7), 97, oz167, #[⟨5, .guard⟩], some (5, false)⟩ ?_
      refine tk 12 ⟨some 28, .nilCheck (.tmp 27), 0, oz167, oy168, some (5, false)⟩ ?_
      refine tk 13 ⟨some 29, .fieldAddr 40 (.tmp 28) 1, 0, oz167, oy169, some (5, false)⟩ ?_
      refine tk 14 ⟨some 30, .load 2 (.tmp 29), 2, oz167, oy170, some (5, false)⟩ ?_
      refine wpAnyH_ready (rs := [15]) (by kernel_rfl) (by simp) (AllReadyH.cons rfl (fun K hK => ?_) AllReadyH.nil)
      go_simp
      refine (HPm.out _).mono ?_
      rintro e y1 ⟨rfl, hw⟩
      have X1 : Hid (Ext w y1) := by rw [hw]; exact (Ext.refl _).drew
      clear hw
      refine hK.out _ _ (by exact HS.out _ X1.out) (fun hHeld1 => ?_)
      clear hK K
      refine tk 16 ⟨some 32, .binOp .neq 2 (.tmp 25) (.tmp 31) 2, 4, oz167, oy171, some (5, false)⟩ ?_
      (try rw [P16.out])
      refine tk 17 ⟨some 33, .pick (.tmp 21) (.const (.bool true)) (.tmp 32), 4, oz167, oy172, none⟩ ?_
      refine tk 18 ⟨some 34, .move (.tmp 33), 4, oz167, oy173, none⟩ ?_
      refine tk 19 ⟨some 35, .move (.tmp 7), 97, oz167, oy174, some (18, false)⟩ ?_
      refine tk 20 ⟨some 36, .nilCheck (.tmp 35), 0, oz167, oy175, some (18, false)⟩ ?_
      refine tk 21 ⟨some 37, .fieldAddr 40 (.tmp 36) 6, 0, oz167, oy176, some (18, false)⟩ ?_
      refine tk 22 ⟨some 38, .load 38 (.tmp 37), 38, oz167, oy177, some (18, false)⟩ ?_
      refine tk 23 ⟨some 39, .call { callee := .builtin .len, args := #[.tmp 38], argTypes := #[38] }, 3, oz167, oy178, some (18, false)⟩ ?_
      refine tk 24 ⟨some 40, .move (.tmp 0), 2, oz167, oy174, some (18, false)⟩ ?_
      refine wpAnyH_ready (rs := [25]) (by kernel_rfl) (by simp) (AllReadyH.cons rfl (fun K hK => ?_) AllReadyH.nil)
      go_simp
      refine (HQ.out _).mono ?_
      rintro e y2 ⟨rfl, hw⟩
      have X2 : Hid (Ext w y2) := by rw [hw]; exact X1.out
      clear hw
      refine hK.out _ _ (by exact HS.out _ X2.out) (fun hHeld2 => ?_)
      clear hK K
      refine tk 26 ⟨some 42, .binOp .lss 2 (.tmp 39) (.tmp 41) 2, 4, oz167, oy179, some (18, false)⟩ ?_
      (try rw [P26.out])
      refine tk 27 ⟨some 43, .pick (.tmp 34) (.const (.bool true)) (.tmp 42), 4, oz167, oy180, none⟩ ?_
      refine wpAnyH_done (by kernel_rfl) ?_ _
      (try go_wp2)
      go_loopw [8] (fun i wr => ∃ (k : Nat), k ≤ z.refs.length ∧ i = .int .i64 k ∧ Hid ((Msg.among f ms z.view z.refs k).length = k) ∧ Hid (Ext w wr)) (fun i _ => z.refs.length - (intOf i).toNat)
      case atStart => exact ⟨0, Nat.zero_le _, rfl, rfl, X2.out⟩
      case round =>
       obtain ⟨k, hk, rfl, HA, HE⟩ := hrel
       obtain ⟨q1, q2, q6⟩ := HS.out _ HE.out
       by_cases hlt2 : k < z.refs.length
       ·obtain ⟨pp, hpk⟩ : ∃ p, z.refs[k]? = some p := ⟨_, List.getElem?_eq_getElem hlt2⟩
        have hp := HRf.out pp (List.mem_of_getElem? hpk)
        obtain ⟨y, e2, e3⟩ := Msg.nth_at hp.1 hp.2
        obtain ⟨p, rfl⟩ : ∃ k : Nat, pp = k := ⟨pp.toNat, by omega⟩
        have e2 : ms[p]? = some y := e2
        obtain ⟨br, offr, rfl, hbr, hNr⟩ := HX.out (by omega)
        obtain ⟨b9, off9, cap9, e9, hlt9, -, -, hb9, hm9⟩ := HSl.out.at2 e2
        injection e9 with e9 e8 e7
        injection e9 with e9
        injection e9 with e9 e10
        subst e9 e10 e7
        obtain ⟨vy, uy, ⟨-, u1, u2, -, -, -, -⟩, -⟩ := hm9
        have u0 := hNr k _ hpk
        have HS9 : Hid (∀ W', Ext wr W' → W'.cell? ⟨b, off + q * 7 + 1, none⟩ = some (.int .i64 z.view) ∧ W'.cell? ⟨b, off + q * 7 + 6, none⟩ = some (.slice (some ⟨br, offr, none⟩) z.refs.length cr) ∧ W'.cell? ⟨br, offr + k, none⟩ = some (.int .i64 (p : Int)) ∧ W'.cell? ⟨b, off + p * 7 + 1, none⟩ = some (.int .i64 y.view) ∧ W'.cell? ⟨b, off + p * 7 + 2, none⟩ = some (.int .i64 y.from_)) := fun W' he => by
         have he := HE.out.trans he
         obtain ⟨s1, -, s6⟩ := HS.out W' he
         exact ⟨s1, s6, ((Ext.cell he).1 _ _ hbr).trans u0, ((Ext.cell he).1 _ _ hb).trans u1, ((Ext.cell he).1 _ _ hb).trans u2⟩
        have HZ : Hid (z.refs[k]? = some (p : Int)) := hpk
        have HNt : Hid (Msg.nth ms (p : Int) = some y) := e3
        have HT : Hid (Msg.among f ms z.view z.refs k = z.refs.take k) := Msg.among_full k hk HA.out
        have HFm : Hid (∀ wx, Ext wr wx → Calls Tryz.prog 121 #[.slice (some ⟨b, off, none⟩) ms.length cap, .slice (some ⟨br, offr, none⟩) k cr, .int .i64 y.from_] wx fun e w' => e = .returned (.bool (Msg.fromIn ms (z.refs.take k) y.from_)) ∧ w' = wx) := fun wx he => HFm0.out _ _ _ wx (HE.out.trans he) ((HIr.out.ext (HE.out.trans he)).takeN hk) (fun r hr => HRf.out r (List.mem_of_mem_take hr))
        have hOk : Msg.okP f ms z.view (Msg.among f ms z.view z.refs k) (p : Int) = (decide (y.view = z.view) && Msg.changeAt f ms (p : Int) && !Msg.fromIn ms (z.refs.take k) y.from_) := by unfold Msg.okP; rw [Msg.viewAt_some HNt.out, Msg.fromAt_some HNt.out, HT.out]
        have HOk : Hid (Msg.okP f ms z.view (Msg.among f ms z.view z.refs k) (p : Int) = (decide (y.view = z.view) && Msg.changeAt f ms (p : Int) && !Msg.fromIn ms (z.refs.take k) y.from_)) := hOk
        have HCh1 : Hid (∀ wx, Ext wr wx → Calls Tryz.prog 120 #[.int .i64 f, .slice (some ⟨b, off, none⟩) ms.length cap, .int .i64 (p : Int)] wx fun e w' => e = .returned (.bool (Msg.changeAt f ms (p : Int))) ∧ Ext wx w') := fun wx he => HCh0.out _ wx (HE.out.trans he)
        have hkcr : k ≤ cr := by omega
        clear hpk hp e2 e3 hNr u0 u1 u2 e8 hOk hb9
        cases hc : Msg.changeAt f ms (p : Int) with
        | false =>
         have HCh : Hid (∀ wx, Ext wr wx → Calls Tryz.prog 120 #[.int .i64 f, .slice (some ⟨b, off, none⟩) ms.length cap, .int .i64 (p : Int)] wx fun e w' => e = .returned (.bool false) ∧ Ext wx w') := by rw [← hc]; exact HCh1.out
         have HR : Hid (decide ((Msg.among f ms z.view z.refs z.refs.length).length = z.refs.length) = false) := decide_eq_false (Msg.among_short hlt2 HZ.out (by rw [HOk.out, hc]; simp))
         clear hc
         go_wp2
         clear q1 q2 q6
         refine wp_region_held_drew (S := (fun W' : World => W'.cell? ⟨b, off + q * 7 + 1, none⟩ = some (.int .i64 z.view) ∧ W'.cell? ⟨b, off + q * 7 + 6, none⟩ = some (.slice (some ⟨br, offr, none⟩) z.refs.length cr) ∧ W'.cell? ⟨br, offr + k, none⟩ = some (.int .i64 (p : Int)) ∧ W'.cell? ⟨b, off + p * 7 + 1, none⟩ = some (.int .i64 y.view) ∧ W'.cell? ⟨b, off + p * 7 + 2, none⟩ = some (.int .i64 y.from_))) (by kernel_rfl) (HS9.out _ ((Ext.refl _).drew)) (fun hHeld => ?_)
         refine tk 0 ⟨some 53, .move (.tmp 0), 2, oz181, #[], none⟩ ?_
         refine tk 1 ⟨some 54, .move (.tmp 1), 27, oz181, #[], none⟩ ?_
         refine tk 2 ⟨some 55, .move (.tmp 7), 97, oz181, #[], none⟩ ?_
         refine tk 3 ⟨some 56, .nilCheck (.tmp 55), 0, oz181, #[⟨2, .data⟩], none⟩ ?_
         refine tk 4 ⟨some 57, .fieldAddr 40 (.tmp 56) 6, 0, oz181, #[⟨3, .data⟩], none⟩ ?_
         refine tk 5 ⟨some 58, .load 38 (.tmp 57), 38, oz181, #[⟨4, .data⟩], none⟩ ?_
         refine tk 6 ⟨some 59, .move (.tmp 8), 3, oz181, #[], none⟩ ?_
         refine tk 7 ⟨some 60, .indexAddr 38 (.tmp 58) (.tmp 59), 0, oz181, oy182, none⟩ ?_
         refine tk 8 ⟨some 61, .load 2 (.tmp 60), 2, oz181, #[⟨7, .data⟩], none⟩ ?_
         refine wpAnyH_ready (rs := [9]) (by kernel_rfl) (by simp) (AllReadyH.cons rfl (fun K hK => ?_) AllReadyH.nil)
         go_simp
         refine (HCh.out _ ((Ext.refl _).drew)).mono ?_
         rintro e y1 ⟨rfl, hb⟩
         have Y1 : Hid (Ext wr y1) := ((Ext.refl _).drew).trans hb
         clear hb
         refine hK.out _ _ (by exact HS9.out _ Y1.out) (fun hHeld1 => ?_)
         clear hK K
         refine tk 10 ⟨some 63, .unOp .not 4 (.tmp 62), 4, oz181, #[⟨9, .data⟩], none⟩ ?_
         refine tk 11 ⟨some 64, .move (.tmp 63), 4, oz181, oy183, none⟩ ?_
         refine tn 12 ⟨some 65, .move (.tmp 1), 27, oz181, oy184, some (11, false)⟩ ?_
         refine tn 13 ⟨some 66, .move (.tmp 7), 97, oz181, oy184, some (11, false)⟩ ?_
         refine tn 14 ⟨some 67, .nilCheck (.tmp 66), 0, oz181, oy185, some (11, false)⟩ ?_
         refine tn 15 ⟨some 68, .fieldAddr 40 (.tmp 67) 6, 0, oz181, oy186, some (11, false)⟩ ?_
         refine tn 16 ⟨some 69, .load 38 (.tmp 68), 38, oz181, oy187, some (11, false)⟩ ?_
         refine tn 17 ⟨some 70, .move (.tmp 8), 3, oz181, oy184, some (11, false)⟩ ?_
         refine tn 18 ⟨some 71, .indexAddr 38 (.tmp 69) (.tmp 70), 0, oz181, oy188, some (11, false)⟩ ?_
         refine tn 19 ⟨some 72, .load 2 (.tmp 71), 2, oz181, oy189, some (11, false)⟩ ?_
         refine tn 20 ⟨some 73, .indexAddr 27 (.tmp 65) (.tmp 72), 0, oz181, oy190, some (11, false)⟩ ?_
         refine tn 21 ⟨some 74, .fieldAddr 40 (.tmp 73) 1, 0, oz181, oy191, some (11, false)⟩ ?_
         refine tn 22 ⟨some 75, .load 2 (.tmp 74), 2, oz181, oy192, some (11, false)⟩ ?_
         refine tn 23 ⟨some 76, .move (.tmp 7), 97, oz181, oy184, some (11, false)⟩ ?_
         refine tn 24 ⟨some 77, .nilCheck (.tmp 76), 0, oz181, oy193, some (11, false)⟩ ?_
         refine tn 25 ⟨some 78, .fieldAddr 40 (.tmp 77) 1, 0, oz181, oy194, some (11, false)⟩ ?_
         refine tn 26 ⟨some 79, .load 2 (.tmp 78), 2, oz181, oy195, some (11, false)⟩ ?_
         refine tn 27 ⟨some 80, .binOp .neq 2 (.tmp 75) (.tmp 79) 2, 4, oz181, oy196, some (11, false)⟩ ?_
         refine tk 28 ⟨some 81, .pick (.tmp 64) (.const (.bool true)) (.tmp 80), 4, oz181, oy197, none⟩ ?_
         refine tk 29 ⟨some 82, .move (.tmp 81), 4, oz181, oy198, none⟩ ?_
         refine tn 30 ⟨some 83, .move (.tmp 1), 27, oz181, oy47, some (29, false)⟩ ?_
         refine tn 31 ⟨some 84, .move (.tmp 7), 97, oz181, oy47, some (29, false)⟩ ?_
         refine tn 32 ⟨some 85, .nilCheck (.tmp 84), 0, oz181, oy49, some (29, false)⟩ ?_
         refine tn 33 ⟨some 86, .fieldAddr 40 (.tmp 85) 6, 0, oz181, oy50, some (29, false)⟩ ?_
         refine tn 34 ⟨some 87, .load 38 (.tmp 86), 38, oz181, oy199, some (29, false)⟩ ?_
         refine tn 35 ⟨some 88, .move (.tmp 8), 3, oz181, oy47, some (29, false)⟩ ?_
         refine tn 36 ⟨some 89, .slice 38 (.tmp 87) none (some (.tmp 88)) none, 38, oz181, oy200, some (29, false)⟩ ?_
         refine tn 37 ⟨some 90, .move (.tmp 1), 27, oz181, oy47, some (29, false)⟩ ?_
         refine tn 38 ⟨some 91, .move (.tmp 7), 97, oz181, oy47, some (29, false)⟩ ?_
         refine tn 39 ⟨some 92, .nilCheck (.tmp 91), 0, oz181, oy201, some (29, false)⟩ ?_
         refine tn 40 ⟨some 93, .fieldAddr 40 (.tmp 92) 6, 0, oz181, oy202, some (29, false)⟩ ?_
         refine tn 41 ⟨some 94, .load 38 (.tmp 93), 38, oz181, oy203, some (29, false)⟩ ?_
         refine tn 42 ⟨some 95, .move (.tmp 8), 3, oz181, oy47, some (29, false)⟩ ?_
         refine tn 43 ⟨some 96, .indexAddr 38 (.tmp 94) (.tmp 95), 0, oz181, oy204, some (29, false)⟩ ?_
         refine tn 44 ⟨some 97, .load 2 (.tmp 96), 2, oz181, oy205, some (29, false)⟩ ?_
         refine tn 45 ⟨some 98, .indexAddr 27 (.tmp 90) (.tmp 97), 0, oz181, oy206, some (29, false)⟩ ?_
         refine tn 46 ⟨some 99, .fieldAddr 40 (.tmp 98) 2, 0, oz181, oy207, some (29, false)⟩ ?_
         refine tn 47 ⟨some 100, .load 2 (.tmp 99), 2, oz181, oy208, some (29, false)⟩ ?_
         refine tn 48 ⟨some 101, .call { callee := .value (.func 121), args := #[.tmp 83, .tmp 89, .tmp 100], argTypes := #[27, 38, 2] }, 4, oz181, #[⟨30, .data⟩, ⟨36, .data⟩, ⟨47, .data⟩, ⟨29, .chain⟩, ⟨29, .guard⟩], some (29, false)⟩ ?_
         refine tk 49 ⟨some 102, .pick (.tmp 82) (.const (.bool true)) (.tmp 101), 4, oz181, oy209, none⟩ ?_
         refine wpAnyH_done (by kernel_rfl) ?_ _
         (try go_wp2)
         go_ret
         exact ⟨ret_bool HR.out.symm, HE.out.trans Y1.out⟩
        | true =>
         have HCh : Hid (∀ wx, Ext wr wx → Calls Tryz.prog 120 #[.int .i64 f, .slice (some ⟨b, off, none⟩) ms.length cap, .int .i64 (p : Int)] wx fun e w' => e = .returned (.bool true) ∧ Ext wx w') := by rw [← hc]; exact HCh1.out
         by_cases hv : y.view = z.view
         ·have P27 : Hid ((y.view != z.view) = false) := by show _ = _; simpa using hv
          cases hfr : Msg.fromIn ms (z.refs.take k) y.from_ with
          | true =>
           rw [hfr] at HFm
           have HR : Hid (decide ((Msg.among f ms z.view z.refs z.refs.length).length = z.refs.length) = false) := decide_eq_false (Msg.among_short hlt2 HZ.out (by rw [HOk.out, hfr]; simp))
           clear hc hfr hv
           go_wp2
           clear q1 q2 q6
           refine wp_region_held_drew (S := (fun W' : World => W'.cell? ⟨b, off + q * 7 + 1, none⟩ = some (.int .i64 z.view) ∧ W'.cell? ⟨b, off + q * 7 + 6, none⟩ = some (.slice (some ⟨br, offr, none⟩) z.refs.length cr) ∧ W'.cell? ⟨br, offr + k, none⟩ = some (.int .i64 (p : Int)) ∧ W'.cell? ⟨b, off + p * 7 + 1, none⟩ = some (.int .i64 y.view) ∧ W'.cell? ⟨b, off + p * 7 + 2, none⟩ = some (.int .i64 y.from_))) (by kernel_rfl) (HS9.out _ ((Ext.refl _).drew)) (fun hHeld => ?_)
           refine tk 0 ⟨some 53, .move (.tmp 0), 2, oz181, #[], none⟩ ?_
           refine tk 1 ⟨some 54, .move (.tmp 1), 27, oz181, #[], none⟩ ?_
           refine tk 2 ⟨some 55, .move (.tmp 7), 97, oz181, #[], none⟩ ?_
           refine tk 3 ⟨some 56, .nilCheck (.tmp 55), 0, oz181, #[⟨2, .data⟩], none⟩ ?_
           refine tk 4 ⟨some 57, .fieldAddr 40 (.tmp 56) 6, 0, oz181, #[⟨3, .data⟩], none⟩ ?_
           refine tk 5 ⟨some 58, .load 38 (.tmp 57), 38, oz181, #[⟨4, .data⟩], none⟩ ?_
           refine tk 6 ⟨some 59, .move (.tmp 8), 3, oz181, #[], none⟩ ?_
           refine tk 7 ⟨some 60, .indexAddr 38 (.tmp 58) (.tmp 59), 0, oz181, oy182, none⟩ ?_
           refine tk 8 ⟨some 61, .load 2 (.tmp 60), 2, oz181, #[⟨7, .data⟩], none⟩ ?_
           refine wpAnyH_ready (rs := [9]) (by kernel_rfl) (by simp) (AllReadyH.cons rfl (fun K hK => ?_) AllReadyH.nil)
           go_simp
           refine (HCh.out _ ((Ext.refl _).drew)).mono ?_
           rintro e y1 ⟨rfl, hb⟩
           have Y1 : Hid (Ext wr y1) := ((Ext.refl _).drew).trans hb
           clear hb
           refine hK.out _ _ (by exact HS9.out _ Y1.out) (fun hHeld1 => ?_)
           clear hK K
           refine tk 10 ⟨some 63, .unOp .not 4 (.tmp 62), 4, oz181, #[⟨9, .data⟩], none⟩ ?_
           refine tk 11 ⟨some 64, .move (.tmp 63), 4, oz181, oy183, none⟩ ?_
           refine tk 12 ⟨some 65, .move (.tmp 1), 27, oz181, oy184, some (11, false)⟩ ?_
           refine tk 13 ⟨some 66, .move (.tmp 7), 97, oz181, oy184, some (11, false)⟩ ?_
           refine tk 14 ⟨some 67, .nilCheck (.tmp 66), 0, oz181, oy185, some (11, false)⟩ ?_
           refine tk 15 ⟨some 68, .fieldAddr 40 (.tmp 67) 6, 0, oz181, oy186, some (11, false)⟩ ?_
           refine tk 16 ⟨some 69, .load 38 (.tmp 68), 38, oz181, oy187, some (11, false)⟩ ?_
           refine tk 17 ⟨some 70, .move (.tmp 8), 3, oz181, oy184, some (11, false)⟩ ?_
           refine tk 18 ⟨some 71, .indexAddr 38 (.tmp 69) (.tmp 70), 0, oz181, oy188, some (11, false)⟩ ?_
           refine tk 19 ⟨some 72, .load 2 (.tmp 71), 2, oz181, oy189, some (11, false)⟩ ?_
           refine tk 20 ⟨some 73, .indexAddr 27 (.tmp 65) (.tmp 72), 0, oz181, oy190, some (11, false)⟩ ?_
           refine tk 21 ⟨some 74, .fieldAddr 40 (.tmp 73) 1, 0, oz181, oy191, some (11, false)⟩ ?_
           refine tk 22 ⟨some 75, .load 2 (.tmp 74), 2, oz181, oy192, some (11, false)⟩ ?_
           refine tk 23 ⟨some 76, .move (.tmp 7), 97, oz181, oy184, some (11, false)⟩ ?_
           refine tk 24 ⟨some 77, .nilCheck (.tmp 76), 0, oz181, oy193, some (11, false)⟩ ?_
           refine tk 25 ⟨some 78, .fieldAddr 40 (.tmp 77) 1, 0, oz181, oy194, some (11, false)⟩ ?_
           refine tk 26 ⟨some 79, .load 2 (.tmp 78), 2, oz181, oy195, some (11, false)⟩ ?_
           refine tk 27 ⟨some 80, .binOp .neq 2 (.tmp 75) (.tmp 79) 2, 4, oz181, oy196, some (11, false)⟩ ?_
           (try rw [P27.out])
           refine tk 28 ⟨some 81, .pick (.tmp 64) (.const (.bool true)) (.tmp 80), 4, oz181, oy197, none⟩ ?_
           refine tk 29 ⟨some 82, .move (.tmp 81), 4, oz181, oy198, none⟩ ?_
           refine tk 30 ⟨some 83, .move (.tmp 1), 27, oz181, oy47, some (29, false)⟩ ?_
           refine tk 31 ⟨some 84, .move (.tmp 7), 97, oz181, oy47, some (29, false)⟩ ?_
           refine tk 32 ⟨some 85, .nilCheck (.tmp 84), 0, oz181, oy49, some (29, false)⟩ ?_
           refine tk 33 ⟨some 86, .fieldAddr 40 (.tmp 85) 6, 0, oz181, oy50, some (29, false)⟩ ?_
           refine tk 34 ⟨some 87, .load 38 (.tmp 86), 38, oz181, oy199, some (29, false)⟩ ?_
           refine tk 35 ⟨some 88, .move (.tmp 8), 3, oz181, oy47, some (29, false)⟩ ?_
           refine tk 36 ⟨some 89, .slice 38 (.tmp 87) none (some (.tmp 88)) none, 38, oz181, oy200, some (29, false)⟩ ?_
           refine tk 37 ⟨some 90, .move (.tmp 1), 27, oz181, oy47, some (29, false)⟩ ?_
           refine tk 38 ⟨some 91, .move (.tmp 7), 97, oz181, oy47, some (29, false)⟩ ?_
           refine tk 39 ⟨some 92, .nilCheck (.tmp 91), 0, oz181, oy201, some (29, false)⟩ ?_
           refine tk 40 ⟨some 93, .fieldAddr 40 (.tmp 92) 6, 0, oz181, oy202, some (29, false)⟩ ?_
           refine tk 41 ⟨some 94, .load 38 (.tmp 93), 38, oz181, oy203, some (29, false)⟩ ?_
           refine tk 42 ⟨some 95, .move (.tmp 8), 3, oz181, oy47, some (29, false)⟩ ?_
           refine tk 43 ⟨some 96, .indexAddr 38 (.tmp 94) (.tmp 95), 0, oz181, oy204, some (29, false)⟩ ?_
           refine tk 44 ⟨some 97, .load 2 (.tmp 96), 2, oz181, oy205, some (29, false)⟩ ?_
           refine tk 45 ⟨some 98, .indexAddr 27 (.tmp 90) (.tmp 97), 0, oz181, oy206, some (29, false)⟩ ?_
           refine tk 46 ⟨some 99, .fieldAddr 40 (.tmp 98) 2, 0, oz181, oy207, some (29, false)⟩ ?_
           refine tk 47 ⟨some 100, .load 2 (.tmp 99), 2, oz181, oy208, some (29, false)⟩ ?_
           refine wpAnyH_ready (rs := [48]) (by kernel_rfl) (by simp) (AllReadyH.cons rfl (fun K hK => ?_) AllReadyH.nil)
           go_simp
           refine (HFm.out _ Y1.out).mono ?_
           rintro e y2 ⟨rfl, hw⟩
           have Y2 : Hid (Ext wr y2) := by rw [hw]; exact Y1.out
           clear hw
           refine hK.out _ _ (by exact HS9.out _ Y2.out) (fun hHeld2 => ?_)
           clear hK K
           refine tk 49 ⟨some 102, .pick (.tmp 82) (.const (.bool true)) (.tmp 101), 4, oz181, oy209, none⟩ ?_
           refine wpAnyH_done (by kernel_rfl) ?_ _
           (try go_wp2)
           go_ret
           exact ⟨ret_bool HR.out.symm, HE.out.trans Y2.out⟩
          | false =>
           rw [hfr] at HFm
           have HA2 : Hid ((Msg.among f ms z.view z.refs (k + 1)).length = k + 1) := by
            show _ = _
            rw [Msg.among_yes HZ.out (by rw [HOk.out, hc, hfr, hv]; simp), List.length_append, HA.out]; rfl
           clear hc hfr hv
           go_wp2
           clear q1 q2 q6
           refine wp_region_held_drew (S := (fun W' : World => W'.cell? ⟨b, off + q * 7 + 1, none⟩ = some (.int .i64 z.view) ∧ W'.cell? ⟨b, off + q * 7 + 6, none⟩ = some (.slice (some ⟨br, offr, none⟩) z.refs.length cr) ∧ W'.cell? ⟨br, offr + k, none⟩ = some (.int .i64 (p : Int)) ∧ W'.cell? ⟨b, off + p * 7 + 1, none⟩ = some (.int .i64 y.view) ∧ W'.cell? ⟨b, off + p * 7 + 2, none⟩ = some (.int .i64 y.from_))) (by kernel_rfl) (HS9.out _ ((Ext.refl _).drew)) (fun hHeld => ?_)
           refine tk 0 ⟨some 53, .move (.tmp 0), 2, oz181, #[], none⟩ ?_
           refine tk 1 ⟨some 54, .move (.tmp 1), 27, oz181, #[], none⟩ ?_
           refine tk 2 ⟨some 55, .move (.tmp 7), 97, oz181, #[], none⟩ ?_
           refine tk 3 ⟨some 56, .nilCheck (.tmp 55), 0, oz181, #[⟨2, .data⟩], none⟩ ?_
           refine tk 4 ⟨some 57, .fieldAddr 40 (.tmp 56) 6, 0, oz181, #[⟨3, .data⟩], none⟩ ?_
           refine tk 5 ⟨some 58, .load 38 (.tmp 57), 38, oz181, #[⟨4, .data⟩], none⟩ ?_
           refine tk 6 ⟨some 59, .move (.tmp 8), 3, oz181, #[], none⟩ ?_
           refine tk 7 ⟨some 60, .indexAddr 38 (.tmp 58) (.tmp 59), 0, oz181, oy182, none⟩ ?_
           refine tk 8 ⟨some 61, .load 2 (.tmp 60), 2, oz181, #[⟨7, .data⟩], none⟩ ?_
           refine wpAnyH_ready (rs := [9]) (by kernel_rfl) (by simp) (AllReadyH.cons rfl (fun K hK => ?_) AllReadyH.nil)
           go_simp
           refine (HCh.out _ ((Ext.refl _).drew)).mono ?_
           rintro e y1 ⟨rfl, hb⟩
           have Y1 : Hid (Ext wr y1) := ((Ext.refl _).drew).trans hb
           clear hb
           refine hK.out _ _ (by exact HS9.out _ Y1.out) (fun hHeld1 => ?_)
           clear hK K
           refine tk 10 ⟨some 63, .unOp .not 4 (.tmp 62), 4, oz181, #[⟨9, .data⟩], none⟩ ?_
           refine tk 11 ⟨some 64, .move (.tmp 63), 4, oz181, oy183, none⟩ ?_
           refine tk 12 ⟨some 65, .move (.tmp 1), 27, oz181, oy184, some (11, false)⟩ ?_
           refine tk 13 ⟨some 66, .move (.tmp 7), 97, oz181, oy184, some (11, false)⟩ ?_
           refine tk 14 ⟨some 67, .nilCheck (.tmp 66), 0, oz181, oy185, some (11, false)⟩ ?_
           refine tk 15 ⟨some 68, .fieldAddr 40 (.tmp 67) 6, 0, oz181, oy186, some (11, false)⟩ ?_
           refine tk 16 ⟨some 69, .load 38 (.tmp 68), 38, oz181, oy187, some (11, false)⟩ ?_
           refine tk 17 ⟨some 70, .move (.tmp 8), 3, oz181, oy184, some (11, false)⟩ ?_
           refine tk 18 ⟨some 71, .indexAddr 38 (.tmp 69) (.tmp 70), 0, oz181, oy188, some (11, false)⟩ ?_
           refine tk 19 ⟨some 72, .load 2 (.tmp 71), 2, oz181, oy189, some (11, false)⟩ ?_
           refine tk 20 ⟨some 73, .indexAddr 27 (.tmp 65) (.tmp 72), 0, oz181, oy190, some (11, false)⟩ ?_
           refine tk 21 ⟨some 74, .fieldAddr 40 (.tmp 73) 1, 0, oz181, oy191, some (11, false)⟩ ?_
           refine tk 22 ⟨some 75, .load 2 (.tmp 74), 2, oz181, oy192, some (11, false)⟩ ?_
           refine tk 23 ⟨some 76, .move (.tmp 7), 97, oz181, oy184, some (11, false)⟩ ?_
           refine tk 24 ⟨some 77, .nilCheck (.tmp 76), 0, oz181, oy193, some (11, false)⟩ ?_
           refine tk 25 ⟨some 78, .fieldAddr 40 (.tmp 77) 1, 0, oz181, oy194, some (11, false)⟩ ?_
           refine tk 26 ⟨some 79, .load 2 (.tmp 78), 2, oz181, oy195, some (11, false)⟩ ?_
           refine tk 27 ⟨some 80, .binOp .neq 2 (.tmp 75) (.tmp 79) 2, 4, oz181, oy196, some (11, false)⟩ ?_
           (try rw [P27.out])
           refine tk 28 ⟨some 81, .pick (.tmp 64) (.const (.bool true)) (.tmp 80), 4, oz181, oy197, none⟩ ?_
           refine tk 29 ⟨some 82, .move (.tmp 81), 4, oz181, oy198, none⟩ ?_
           refine tk 30 ⟨some 83, .move (.tmp 1), 27, oz181, oy47, some (29, false)⟩ ?_
           refine tk 31 ⟨some 84, .move (.tmp 7), 97, oz181, oy47, some (29, false)⟩ ?_
           refine tk 32 ⟨some 85, .nilCheck (.tmp 84), 0, oz181, oy49, some (29, false)⟩ ?_
           refine tk 33 ⟨some 86, .fieldAddr 40 (.tmp 85) 6, 0, oz181, oy50, some (29, false)⟩ ?_
           refine tk 34 ⟨some 87, .load 38 (.tmp 86), 38, oz181, oy199, some (29, false)⟩ ?_
           refine tk 35 ⟨some 88, .move (.tmp 8), 3, oz181, oy47, some (29, false)⟩ ?_
           refine tk 36 ⟨some 89, .slice 38 (.tmp 87) none (some (.tmp 88)) none, 38, oz181, oy200, some (29, false)⟩ ?_
           refine tk 37 ⟨some 90, .move (.tmp 1), 27, oz181, oy47, some (29, false)⟩ ?_
           refine tk 38 ⟨some 91, .move (.tmp 7), 97, oz181, oy47, some (29, false)⟩ ?_
           refine tk 39 ⟨some 92, .nilCheck (.tmp 91), 0, oz181, oy201, some (29, false)⟩ ?_
           refine tk 40 ⟨some 93, .fieldAddr 40 (.tmp 92) 6, 0, oz181, oy202, some (29, false)⟩ ?_
           refine tk 41 ⟨some 94, .load 38 (.tmp 93), 38, oz181, oy203, some (29, false)⟩ ?_
           refine tk 42 ⟨some 95, .move (.tmp 8), 3, oz181, oy47, some (29, false)⟩ ?_
           refine tk 43 ⟨some 96, .indexAddr 38 (.tmp 94) (.tmp 95), 0, oz181, oy204, some (29, false)⟩ ?_
           refine tk 44 ⟨some 97, .load 2 (.tmp 96), 2, oz181, oy205, some (29, false)⟩ ?_
           refine tk 45 ⟨some 98, .indexAddr 27 (.tmp 90) (.tmp 97), 0, oz181, oy206, some (29, false)⟩ ?_
           refine tk 46 ⟨some 99, .fieldAddr 40 (.tmp 98) 2, 0, oz181, oy207, some (29, false)⟩ ?_
           refine tk 47 ⟨some 100, .load 2 (.tmp 99), 2, oz181, oy208, some (29, false)⟩ ?_
           refine wpAnyH_ready (rs := [48]) (by kernel_rfl) (by simp) (AllReadyH.cons rfl (fun K hK => ?_) AllReadyH.nil)
           go_simp
           refine (HFm.out _ Y1.out).mono ?_
           rintro e y2 ⟨rfl, hw⟩
           have Y2 : Hid (Ext wr y2) := by rw [hw]; exact Y1.out
           clear hw
           refine hK.out _ _ (by exact HS9.out _ Y2.out) (fun hHeld2 => ?_)
           clear hK K
           refine tk 49 ⟨some 102, .pick (.tmp 82) (.const (.bool true)) (.tmp 101), 4, oz181, oy209, none⟩ ?_
           refine wpAnyH_done (by kernel_rfl) ?_ _
           (try go_wp2)
           exact ⟨⟨k + 1, by omega, by go_num, HA2, HE.out.trans Y2.out⟩, by simp [intOf]; omega⟩
         ·have P27 : Hid ((y.view != z.view) = true) := by show _ = _; simpa using hv
          have HR : Hid (decide ((Msg.among f ms z.view z.refs z.refs.length).length = z.refs.length) = false) := decide_eq_false (Msg.among_short hlt2 HZ.out (by rw [HOk.out, decide_eq_false hv]; rfl))
          clear hc hv
          go_wp2
          clear q1 q2 q6
          refine wp_region_held_drew (S := (fun W' : World => W'.cell? ⟨b, off + q * 7 + 1, none⟩ = some (.int .i64 z.view) ∧ W'.cell? ⟨b, off + q * 7 + 6, none⟩ = some (.slice (some ⟨br, offr, none⟩) z.refs.length cr) ∧ W'.cell? ⟨br, offr + k, none⟩ = some (.int .i64 (p : Int)) ∧ W'.cell? ⟨b, off + p * 7 + 1, none⟩ = some (.int .i64 y.view) ∧ W'.cell? ⟨b, off + p * 7 + 2, none⟩ = some (.int .i64 y.from_))) (by kernel_rfl) (HS9.out _ ((Ext.refl _).drew)) (fun hHeld => ?_)
          refine tk 0 ⟨some 53, .move (.tmp 0), 2, oz181, #[], none⟩ ?_
          refine tk 1 ⟨some 54, .move (.tmp 1), 27, oz181, #[], none⟩ ?_
          refine tk 2 ⟨some 55, .move (.tmp 7), 97, oz181, #[], none⟩ ?_
          refine tk 3 ⟨some 56, .nilCheck (.tmp 55), 0, oz181, #[⟨2, .data⟩], none⟩ ?_
          refine tk 4 ⟨some 57, .fieldAddr 40 (.tmp 56) 6, 0, oz181, #[⟨3, .data⟩], none⟩ ?_
          refine tk 5 ⟨some 58, .load 38 (.tmp 57), 38, oz181, #[⟨4, .data⟩], none⟩ ?_
          refine tk 6 ⟨some 59, .move (.tmp 8), 3, oz181, #[], none⟩ ?_
          refine tk 7 ⟨some 60, .indexAddr 38 (.tmp 58) (.tmp 59), 0, oz181, oy182, none⟩ ?_
          refine tk 8 ⟨some 61, .load 2 (.tmp 60), 2, oz181, #[⟨7, .data⟩], none⟩ ?_
          refine wpAnyH_ready (rs := [9]) (by kernel_rfl) (by simp) (AllReadyH.cons rfl (fun K hK => ?_) AllReadyH.nil)
          go_simp
          refine (HCh.out _ ((Ext.refl _).drew)).mono ?_
          rintro e y1 ⟨rfl, hb⟩
          have Y1 : Hid (Ext wr y1) := ((Ext.refl _).drew).trans hb
          clear hb
          refine hK.out _ _ (by exact HS9.out _ Y1.out) (fun hHeld1 => ?_)
          clear hK K
          refine tk 10 ⟨some 63, .unOp .not 4 (.tmp 62), 4, oz181, #[⟨9, .data⟩], none⟩ ?_
          refine tk 11 ⟨some 64, .move (.tmp 63), 4, oz181, oy183, none⟩ ?_
          refine tk 12 ⟨some 65, .move (.tmp 1), 27, oz181, oy184, some (11, false)⟩ ?_
          refine tk 13 ⟨some 66, .move (.tmp 7), 97, oz181, oy184, some (11, false)⟩ ?_
          refine tk 14 ⟨some 67, .nilCheck (.tmp 66), 0, oz181, oy185, some (11, false)⟩ ?_
          refine tk 15 ⟨some 68, .fieldAddr 40 (.tmp 67) 6, 0, oz181, oy186, some (11, false)⟩ ?_
          refine tk 16 ⟨some 69, .load 38 (.tmp 68), 38, oz181, oy187, some (11, false)⟩ ?_
          refine tk 17 ⟨some 70, .move (.tmp 8), 3, oz181, oy184, some (11, false)⟩ ?_
          refine tk 18 ⟨some 71, .indexAddr 38 (.tmp 69) (.tmp 70), 0, oz181, oy188, some (11, false)⟩ ?_
          refine tk 19 ⟨some 72, .load 2 (.tmp 71), 2, oz181, oy189, some (11, false)⟩ ?_
          refine tk 20 ⟨some 73, .indexAddr 27 (.tmp 65) (.tmp 72), 0, oz181, oy190, some (11, false)⟩ ?_
          refine tk 21 ⟨some 74, .fieldAddr 40 (.tmp 73) 1, 0, oz181, oy191, some (11, false)⟩ ?_
          refine tk 22 ⟨some 75, .load 2 (.tmp 74), 2, oz181, oy192, some (11, false)⟩ ?_
          refine tk 23 ⟨some 76, .move (.tmp 7), 97, oz181, oy184, some (11, false)⟩ ?_
          refine tk 24 ⟨some 77, .nilCheck (.tmp 76), 0, oz181, oy193, some (11, false)⟩ ?_
          refine tk 25 ⟨some 78, .fieldAddr 40 (.tmp 77) 1, 0, oz181, oy194, some (11, false)⟩ ?_
          refine tk 26 ⟨some 79, .load 2 (.tmp 78), 2, oz181, oy195, some (11, false)⟩ ?_
          refine tk 27 ⟨some 80, .binOp .neq 2 (.tmp 75) (.tmp 79) 2, 4, oz181, oy196, some (11, false)⟩ ?_
          (try rw [P27.out])
          refine tk 28 ⟨some 81, .pick (.tmp 64) (.const (.bool true)) (.tmp 80), 4, oz181, oy197, none⟩ ?_
          refine tk 29 ⟨some 82, .move (.tmp 81), 4, oz181, oy198, none⟩ ?_
          refine tn 30 ⟨some 83, .move (.tmp 1), 27, oz181, oy47, some (29, false)⟩ ?_
          refine tn 31 ⟨some 84, .move (.tmp 7), 97, oz181, oy47, some (29, false)⟩ ?_
          refine tn 32 ⟨some 85, .nilCheck (.tmp 84), 0, oz181, oy49, some (29, false)⟩ ?_
          refine tn 33 ⟨some 86, .fieldAddr 40 (.tmp 85) 6, 0, oz181, oy50, some (29, false)⟩ ?_
          refine tn 34 ⟨some 87, .load 38 (.tmp 86), 38, oz181, oy199, some (29, false)⟩ ?_
          refine tn 35 ⟨some 88, .move (.tmp 8), 3, oz181, oy47, some (29, false)⟩ ?_
          refine tn 36 ⟨some 89, .slice 38 (.tmp 87) none (some (.tmp 88)) none, 38, oz181, oy200, some (29, false)⟩ ?_
          refine tn 37 ⟨some 90, .move (.tmp 1), 27, oz181, oy47, some (29, false)⟩ ?_
          refine tn 38 ⟨some 91, .move (.tmp 7), 97, oz181, oy47, some (29, false)⟩ ?_
          refine tn 39 ⟨some 92, .nilCheck (.tmp 91), 0, oz181, oy201, some (29, false)⟩ ?_
          refine tn 40 ⟨some 93, .fieldAddr 40 (.tmp 92) 6, 0, oz181, oy202, some (29, false)⟩ ?_
          refine tn 41 ⟨some 94, .load 38 (.tmp 93), 38, oz181, oy203, some (29, false)⟩ ?_
          refine tn 42 ⟨some 95, .move (.tmp 8), 3, oz181, oy47, some (29, false)⟩ ?_
          refine tn 43 ⟨some 96, .indexAddr 38 (.tmp 94) (.tmp 95), 0, oz181, oy204, some (29, false)⟩ ?_
          refine tn 44 ⟨some 97, .load 2 (.tmp 96), 2, oz181, oy205, some (29, false)⟩ ?_
          refine tn 45 ⟨some 98, .indexAddr 27 (.tmp 90) (.tmp 97), 0, oz181, oy206, some (29, false)⟩ ?_
          refine tn 46 ⟨some 99, .fieldAddr 40 (.tmp 98) 2, 0, oz181, oy207, some (29, false)⟩ ?_
          refine tn 47 ⟨some 100, .load 2 (.tmp 99), 2, oz181, oy208, some (29, false)⟩ ?_
          refine tn 48 ⟨some 101, .call { callee := .value (.func 121), args := #[.tmp 83, .tmp 89, .tmp 100], argTypes := #[27, 38, 2] }, 4, oz181, #[⟨30, .data⟩, ⟨36, .data⟩, ⟨47, .data⟩, ⟨29, .chain⟩, ⟨29, .guard⟩], some (29, false)⟩ ?_
          refine tk 49 ⟨some 102, .pick (.tmp 82) (.const (.bool true)) (.tmp 101), 4, oz181, oy209, none⟩ ?_
          refine wpAnyH_done (by kernel_rfl) ?_ _
          (try go_wp2)
          go_ret
          exact ⟨ret_bool HR.out.symm, HE.out.trans Y1.out⟩
       ·have hke : k = z.refs.length := by omega
        have HR : Hid (decide ((Msg.among f ms z.view z.refs z.refs.length).length = z.refs.length) = true) := decide_eq_true (by have := HA.out; rw [hke] at this; exact this)
        subst hke
        go_wp2
        go_ret
        exact ⟨ret_bool HR.out.symm, HE.out⟩
     ·have P26 : Hid (decide ((z.refs.length : Int) < 2 * f + 1) = true) := decide_eq_true (by omega)
      rw [Msg.newB_no (fun h => g3 h.2.2.2)]
      clear hk5 hled g1 g2 g3
      generalize Msg.primary f z.view = pv at *
      go_enter Tryz.func171, Tryz.ntmps171
      go_wp2_with fail
      refine HI.out.mono ?_
      rintro e w9 ⟨rfl, hw⟩
      rw [hw]
      clear hw w9
      go_wp2
      clear d1 d2 d6
      refine wp_region_held_drew (S := (fun W' : World => W'.cell? ⟨b, off + q * 7 + 1, none⟩ = some (.int .i64 z.view) ∧ W'.cell? ⟨b, off + q * 7 + 2, none⟩ = some (.int .i64 z.from_) ∧ W'.cell? ⟨b, off + q * 7 + 6, none⟩ = some (.slice ar z.refs.length cr))) (by kernel_rfl) (HS.out _ ((Ext.refl _).drew)) (fun hHeld => ?_)
      refine tk 0 ⟨some 16, .move (.tmp 7), 97, oz167, #[], none⟩ ?_
      refine tk 1 ⟨some 17, .nilCheck (.tmp 16), 0, oz167, #[⟨0, .data⟩], none⟩ ?_
      refine tk 2 ⟨some 18, .fieldAddr 40 (.tmp 17) 1, 0, oz167, #[⟨1, .data⟩], none⟩ ?_
      refine tk 3 ⟨some 19, .load 2 (.tmp 18), 2, oz167, #[⟨2, .data⟩], none⟩ ?_
      refine tk 4 ⟨some 20, .binOp .lss 2 (.tmp 19) (.const (.int .i64 1)) 2, 4, oz167, #[⟨3, .data⟩], none⟩ ?_
      (try rw [P4.out])
      refine tk 5 ⟨some 21, .move (.tmp 20), 4, oz167, #[⟨4, .data⟩], none⟩ ?_
      refine tk 6 ⟨some 22, .move (.tmp 7), 97, oz167, #[⟨5, .guard⟩], some (5, false)⟩ ?_
      refine tk 7 ⟨some 23, .nilCheck (.tmp 22), 0, oz167, oy27, some (5, false)⟩ ?_
      refine tk 8 ⟨some 24, .fieldAddr 40 (.tmp 23) 2, 0, oz167, oy28, some (5, false)⟩ ?_
      refine tk 9 ⟨some 25, .load 2 (.tmp 24), 2, oz167, oy29, some (5, false)⟩ ?_
      refine tk 10 ⟨some 26, .move (.tmp 0), 2, oz167, #[⟨5, .guard⟩], some (5, false)⟩ ?_
      refine tk 11 ⟨some 27, .move (.tmp 7), 97, oz167, #[⟨5, .guard⟩], some (5, false)⟩ ?_
      refine tk 12 ⟨some 28, .nilCheck (.tmp 27), 0, oz167, oy168, some (5, false)⟩ ?_
      refine tk 13 ⟨some 29, .fieldAddr 40 (.tmp 28) 1, 0, oz167, oy169, some (5, false)⟩ ?_
      refine tk 14 ⟨some 30, .load 2 (.tmp 29), 2, oz167, oy170, some (5, false)⟩ ?_
      refine wpAnyH_ready (rs := [15]) (by kernel_rfl) (by simp) (AllReadyH.cons rfl (fun K hK => ?_) AllReadyH.nil)
      go_simp
      refine (HPm.out _).mono ?_
      rintro e y1 ⟨rfl, hw⟩
      have X1 : Hid (Ext w y1) := by rw [hw]; exact (Ext.refl _).drew
      clear hw
      refine hK.out _ _ (by exact HS.out _ X1.out) (fun hHeld1 => ?_)
      clear hK K
      refine tk 16 ⟨some 32, .binOp .neq 2 (.tmp 25) (.tmp 31) 2, 4, oz167, oy171, some (5, false)⟩ ?_
      (try rw [P16.out])
      refine tk 17 ⟨some 33, .pick (.tmp 21) (.const (.bool true)) (.tmp 32), 4, oz167, oy172, none⟩ ?_
      refine tk 18 ⟨some 34, .move (.tmp 33), 4, oz167, oy173, none⟩ ?_
      refine tk 19 ⟨some 35, .move (.tmp 7), 97, oz167, oy174, some (18, false)⟩ ?_
      refine tk 20 ⟨some 36, .nilCheck (.tmp 35), 0, oz167, oy175, some (18, false)⟩ ?_
      refine tk 21 ⟨some 37, .fieldAddr 40 (.tmp 36) 6, 0, oz167, oy176, some (18, false)⟩ ?_
      refine tk 22 ⟨some 38, .load 38 (.tmp 37), 38, oz167, oy177, some (18, false)⟩ ?_
      refine tk 23 ⟨some 39, .call { callee := .builtin .len, args := #[.tmp 38], argTypes := #[38] }, 3, oz167, oy178, some (18, false)⟩ ?_
      refine tk 24 ⟨some 40, .move (.tmp 0), 2, oz167, oy174, some (18, false)⟩ ?_
      refine wpAnyH_ready (rs := [25]) (by kernel_rfl) (by simp) (AllReadyH.cons rfl (fun K hK => ?_) AllReadyH.nil)
      go_simp
      refine (HQ.out _).mono ?_
      rintro e y2 ⟨rfl, hw⟩
      have X2 : Hid (Ext w y2) := by rw [hw]; exact X1.out
      clear hw
      refine hK.out _ _ (by exact HS.out _ X2.out) (fun hHeld2 => ?_)
      clear hK K
      refine tk 26 ⟨some 42, .binOp .lss 2 (.tmp 39) (.tmp 41) 2, 4, oz167, oy179, some (18, false)⟩ ?_
      (try rw [P26.out])
      refine tk 27 ⟨some 43, .pick (.tmp 34) (.const (.bool true)) (.tmp 42), 4, oz167, oy180, none⟩ ?_
      refine wpAnyH_done (by kernel_rfl) ?_ _
      (try go_wp2)
      go_ret
      exact ⟨rfl, X2.out⟩
    ·have P16 : Hid ((z.from_ != Msg.primary f z.view) = true) := by show _ = _; simpa using g2
     rw [Msg.newB_no (fun h => g2 h.2.2.1)]
     clear hk5 hled g1 g2
     generalize Msg.primary f z.view = pv at *
     go_enter Tryz.func171, Tryz.ntmps171
     go_wp2_with fail
     refine HI.out.mono ?_
     rintro e w9 ⟨rfl, hw⟩
     rw [hw]
     clear hw w9
     go_wp2
     clear d1 d2 d6
     refine wp_region_held_drew (S := (fun W' : World => W'.cell? ⟨b, off + q * 7 + 1, none⟩ = some (.int .i64 z.view) ∧ W'.cell? ⟨b, off + q * 7 + 2, none⟩ = some (.int .i64 z.from_) ∧ W'.cell? ⟨b, off + q * 7 + 6, none⟩ = some (.slice ar z.refs.length cr))) (by kernel_rfl) (HS.out _ ((Ext.refl _).drew)) (fun hHeld => ?_)
     refine tk 0 ⟨some 16, .move (.tmp 7), 97, oz167, #[], none⟩ ?_
     refine tk 1 ⟨some 17, .nilCheck (.tmp 16), 0, oz167, #[⟨0, .data⟩], none⟩ ?_
     refine tk 2 ⟨some 18, .fieldAddr 40 (.tmp 17) 1, 0, oz167, #[⟨1, .data⟩], none⟩ ?_
     refine tk 3 ⟨some 19, .load 2 (.tmp 18), 2, oz167, #[⟨2, .data⟩], none⟩ ?_
     refine tk 4 ⟨some 20, .binOp .lss 2 (.tmp 19) (.const (.int .i64 1)) 2, 4, oz167, #[⟨3, .data⟩], none⟩ ?_
     (try rw [P4.out])
     refine tk 5 ⟨some 21, .move (.tmp 20), 4, oz167, #[⟨4, .data⟩], none⟩ ?_
     refine tk 6 ⟨some 22, .move (.tmp 7), 97, oz167, #[⟨5, .guard⟩], some (5, false)⟩ ?_
     refine tk 7 ⟨some 23, .nilCheck (.tmp 22), 0, oz167, oy27, some (5, false)⟩ ?_
     refine tk 8 ⟨some 24, .fieldAddr 40 (.tmp 23) 2, 0, oz167, oy28, some (5, false)⟩ ?_
     refine tk 9 ⟨some 25, .load 2 (.tmp 24), 2, oz167, oy29, some (5, false)⟩ ?_
     refine tk 10 ⟨some 26, .move (.tmp 0), 2, oz167, #[⟨5, .guard⟩], some (5, false)⟩ ?_
     refine tk 11 ⟨some 27, .move (.tmp 7), 97, oz167, #[⟨5, .guard⟩], some (5, false)⟩ ?_
     refine tk 12 ⟨some 28, .nilCheck (.tmp 27), 0, oz167, oy168, some (5, false)⟩ ?_
     refine tk 13 ⟨some 29, .fieldAddr 40 (.tmp 28) 1, 0, oz167, oy169, some (5, false)⟩ ?_
     refine tk 14 ⟨some 30, .load 2 (.tmp 29), 2, oz167, oy170, some (5, false)⟩ ?_
     refine wpAnyH_ready (rs := [15]) (by kernel_rfl) (by simp) (AllReadyH.cons rfl (fun K hK => ?_) AllReadyH.nil)
     go_simp
     refine (HPm.out _).mono ?_
     rintro e y1 ⟨rfl, hw⟩
     have X1 : Hid (Ext w y1) := by rw [hw]; exact (Ext.refl _).drew
     clear hw
     refine hK.out _ _ (by exact HS.out _ X1.out) (fun hHeld1 => ?_)
     clear hK K
     refine tk 16 ⟨some 32, .binOp .neq 2 (.tmp 25) (.tmp 31) 2, 4, oz167, oy171, some (5, false)⟩ ?_
     (try rw [P16.out])
     refine tk 17 ⟨some 33, .pick (.tmp 21) (.const (.bool true)) (.tmp 32), 4, oz167, oy172, none⟩ ?_
     refine tk 18 ⟨some 34, .move (.tmp 33), 4, oz167, oy173, none⟩ ?_
     refine tn 19 ⟨some 35, .move (.tmp 7), 97, oz167, oy174, some (18, false)⟩ ?_
     refine tn 20 ⟨some 36, .nilCheck (.tmp 35), 0, oz167, oy175, some (18, false)⟩ ?_
     refine tn 21 ⟨some 37, .fieldAddr 40 (.tmp 36) 6, 0, oz167, oy176, some (18, false)⟩ ?_
     refine tn 22 ⟨some 38, .load 38 (.tmp 37), 38, oz167, oy177, some (18, false)⟩ ?_
     refine tn 23 ⟨some 39, .call { callee := .builtin .len, args := #[.tmp 38], argTypes := #[38] }, 3, oz167, oy178, some (18, false)⟩ ?_
     refine tn 24 ⟨some 40, .move (.tmp 0), 2, oz167, oy174, some (18, false)⟩ ?_
     refine tn 25 ⟨some 41, .call ⟨.value (.func 67), #[.tmp 40], #[2]⟩, 2, oz167, #[⟨24, .data⟩, ⟨18, .chain⟩, ⟨18, .guard⟩], some (18, false)⟩ ?_
     refine tn 26 ⟨some 42, .binOp .lss 2 (.tmp 39) (.tmp 41) 2, 4, oz167, oy179, some (18, false)⟩ ?_
     refine tk 27 ⟨some 43, .pick (.tmp 34) (.const (.bool true)) (.tmp 42), 4, oz167, oy180, none⟩ ?_
     refine wpAnyH_done (by kernel_rfl) ?_ _
     (try go_wp2)
     go_ret
     exact ⟨rfl, X1.out⟩
   ·have P4 : Hid (decide (z.view < 1) = true) := decide_eq_true (by omega)
    rw [Msg.newB_no (fun h => g1 h.2.1)]
    clear hk5 hled g1
    go_enter Tryz.func171, Tryz.ntmps171
    go_wp2_with fail
    refine HI.out.mono ?_
    rintro e w9 ⟨rfl, hw⟩
    rw [hw]
    clear hw w9
    go_wp2
    clear d1 d2 d6
    refine wp_region_held_drew (S := (fun W' : World => W'.cell? ⟨b, off + q * 7 + 1, none⟩ = some (.int .i64 z.view) ∧ W'.cell? ⟨b, off + q * 7 + 2, none⟩ = some (.int .i64 z.from_) ∧ W'.cell? ⟨b, off + q * 7 + 6, none⟩ = some (.slice ar z.refs.length cr))) (by kernel_rfl) (HS.out _ ((Ext.refl _).drew)) (fun hHeld => ?_)
    refine tk 0 ⟨some 16, .move (.tmp 7), 97, oz167, #[], none⟩ ?_
    refine tk 1 ⟨some 17, .nilCheck (.tmp 16), 0, oz167, #[⟨0, .data⟩], none⟩ ?_
    refine tk 2 ⟨some 18, .fieldAddr 40 (.tmp 17) 1, 0, oz167, #[⟨1, .data⟩], none⟩ ?_
    refine tk 3 ⟨some 19, .load 2 (.tmp 18), 2, oz167, #[⟨2, .data⟩], none⟩ ?_
    refine tk 4 ⟨some 20, .binOp .lss 2 (.tmp 19) (.const (.int .i64 1)) 2, 4, oz167, #[⟨3, .data⟩], none⟩ ?_
    (try rw [P4.out])
    refine tk 5 ⟨some 21, .move (.tmp 20), 4, oz167, #[⟨4, .data⟩], none⟩ ?_
    refine tn 6 ⟨some 22, .move (.tmp 7), 97, oz167, #[⟨5, .guard⟩], some (5, false)⟩ ?_
    refine tn 7 ⟨some 23, .nilCheck (.tmp 22), 0, oz167, oy27, some (5, false)⟩ ?_
    refine tn 8 ⟨some 24, .fieldAddr 40 (.tmp 23) 2, 0, oz167, oy28, some (5, false)⟩ ?_
    refine tn 9 ⟨some 25, .load 2 (.tmp 24), 2, oz167, oy29, some (5, false)⟩ ?_
    refine tn 10 ⟨some 26, .move (.tmp 0), 2, oz167, #[⟨5, .guard⟩], some (5, false)⟩ ?_
    refine tn 11 ⟨some 27, .move (.tmp 7), 97, oz167, #[⟨5, .guard⟩], some (5, false)⟩ ?_
    refine tn 12 ⟨some 28, .nilCheck (.tmp 27), 0, oz167, oy168, some (5, false)⟩ ?_
    refine tn 13 ⟨some 29, .fieldAddr 40 (.tmp 28) 1, 0, oz167, oy169, some (5, false)⟩ ?_
    refine tn 14 ⟨some 30, .load 2 (.tmp 29), 2, oz167, oy170, some (5, false)⟩ ?_
    refine tn 15 ⟨some 31, .call ⟨.value (.func 65), #[.tmp 26, .tmp 30], #[2, 2]⟩, 2, oz167, #[⟨10, .data⟩, ⟨14, .data⟩, ⟨5, .chain⟩, ⟨5, .guard⟩], some (5, false)⟩ ?_
    refine tn 16 ⟨some 32, .binOp .neq 2 (.tmp 25) (.tmp 31) 2, 4, oz167, oy171, some (5, false)⟩ ?_
    refine tk 17 ⟨some 33, .pick (.tmp 21) (.const (.bool true)) (.tmp 32), 4, oz167, oy172, none⟩ ?_
    refine tk 18 ⟨some 34, .move (.tmp 33), 4, oz167, oy173, none⟩ ?_
    refine tn 19 ⟨some 35, .move (.tmp 7), 97, oz167, oy174, some (18, false)⟩ ?_
    refine tn 20 ⟨some 36, .nilCheck (.tmp 35), 0, oz167, oy175, some (18, false)⟩ ?_
    refine tn 21 ⟨some 37, .fieldAddr 40 (.tmp 36) 6, 0, oz167, oy176, some (18, false)⟩ ?_
    refine tn 22 ⟨some 38, .load 38 (.tmp 37), 38, oz167, oy177, some (18, false)⟩ ?_
    refine tn 23 ⟨some 39, .call { callee := .builtin .len, args := #[.tmp 38], argTypes := #[38] }, 3, oz167, oy178, some (18, false)⟩ ?_
    refine tn 24 ⟨some 40, .move (.tmp 0), 2, oz167, oy174, some (18, false)⟩ ?_
    refine tn 25 ⟨some 41, .call ⟨.value (.func 67), #[.tmp 40], #[2]⟩, 2, oz167, #[⟨24, .data⟩, ⟨18, .chain⟩, ⟨18, .guard⟩], some (18, false)⟩ ?_
    refine tn 26 ⟨some 42, .binOp .lss 2 (.tmp 39) (.tmp 41) 2, 4, oz167, oy179, some (18, false)⟩ ?_
    refine tk 27 ⟨some 43, .pick (.tmp 34) (.const (.bool true)) (.tmp 42), 4, oz167, oy180, none⟩ ?_
    refine wpAnyH_done (by kernel_rfl) ?_ _
    (try go_wp2)
    go_ret
    exact ⟨rfl, (Ext.refl _).drew⟩

end Go.Proofs.YtecgjdgfjgcmdaaGreat
