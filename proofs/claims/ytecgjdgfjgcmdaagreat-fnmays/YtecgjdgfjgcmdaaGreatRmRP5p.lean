/- propose: what one says who is heard. -/
import Derived.Test.YtecgjdgfjgcmdaaGreatRmRP5
namespace Go.Proofs.YtecgjdgfjgcmdaaGreat
open Go.RowKit
set_option linter.unusedSimpArgs false in
set_option maxHeartbeats 8000000 in
set_option maxRecDepth 100000 in
theorem propose_any (f : Int) (v : Value) (ms : List Ms) (r : Rp) (u : Value) (L : List Int) (slot value : Int) (w : World) (hS : MSlice w v ms) (hI : ISlice w u L) (hL : L = if Msg.inV r = true then Msg.startL ms r.view r.start else []) (hrep : Msg.repC f ms r = 0) :
  Calls Tryz.prog 50 #[sagg r f v (Msg.inV r) u, .int .i64 slot, .int .i64 value] w (Said KT (Msg.propC f ms r slot value) ⟨1, r.view, r.id, slot, value, [], []⟩ w) := by
 have hled := Msg.repC_led hrep
 obtain ⟨hf0, hf1, hml⟩ := Msg.ledger_zero hled
 have hrf := Msg.repF_zero (by rw [← Msg.repC_ok hled]; exact hrep)
 have hvw := hrf.2.1
 clear hrf hrep
 have HI : Hid (ISlice w u L) := hI
 obtain ⟨au, cu, rfl, -, -, -⟩ := hI
 have HG1 : Hid (∀ bb, decide (1 ≤ slot ∧ slot ≤ 30) = bb → ∀ wx, Calls Tryz.prog 107 #[.int .i64 slot] wx fun e w' => e = .returned (.bool bb) ∧ w' = wx) := fun bb h wx => by have q := isSlot_any slot wx; rw [show (decide (1 ≤ slot) && decide (slot ≤ 30)) = bb from by rw [← h, Bool.decide_and]] at q; exact q
 have HG2 : Hid (∀ bb, decide (0 ≤ value ∧ value ≤ 12) = bb → ∀ wx, Calls Tryz.prog 108 #[.int .i64 value] wx fun e w' => e = .returned (.bool bb) ∧ w' = wx) := fun bb h wx => by have q := isValue_any value wx; rw [show (decide (0 ≤ value) && decide (value ≤ 12)) = bb from by rw [← h, Bool.decide_and]] at q; exact q
 have HSe : Hid (∀ bg wx, Ext w wx → Calls Tryz.prog 110 #[sagg r f v bg (.slice au L.length cu), .int .i64 1] wx fun e w' => ∃ vo, e = .returned vo ∧ MSlice w' vo (Msg.saidL ms r 1) ∧ Ext wx w') := fun bg wx he => sent_any r f v ms bg au L.length cu 1 wx (hS.ext he) hml
 have HHa : Hid (∀ bb, Msg.slotB (Msg.saidL ms r 1) slot = bb → ∀ x wx, MSlice wx x (Msg.saidL ms r 1) → Calls Tryz.prog 111 #[x, .int .i64 slot] wx fun e w' => e = .returned (.bool bb) ∧ Ext wx w') := fun bb h x wx hx => by have q := hasSlot_any slot x _ wx hx; rw [h] at q; exact q
 have HHb : Hid (∀ bb, Msg.slotB (Msg.saidL ms r 1) (slot - 1) = bb → ∀ x wx, MSlice wx x (Msg.saidL ms r 1) → Calls Tryz.prog 111 #[x, .int .i64 (slot - 1)] wx fun e w' => e = .returned (.bool bb) ∧ Ext wx w') := fun bb h x wx hx => by have q := hasSlot_any (slot - 1) x _ wx hx; rw [h] at q; exact q
 have HHv : Hid (∀ bb, Msg.valB (Msg.saidL ms r 1) value = bb → ∀ x wx, MSlice wx x (Msg.saidL ms r 1) → Calls Tryz.prog 114 #[x, .int .i64 value] wx fun e w' => e = .returned (.bool bb) ∧ Ext wx w') := fun bb h x wx hx => by have q := hasValue_any value x _ wx hx; rw [h] at q; exact q
 obtain ⟨a, cap, rfl, -, -, -⟩ := hS
 have HV0 : Hid (∀ bg wx, Calls Tryz.prog 115 #[sagg r f (.slice a ms.length cap) bg (.slice au L.length cu), .int .i64 1, .int .i64 slot, .int .i64 value] wx fun e w' => e = .returned (magg ⟨1, r.view, r.id, slot, value, [], []⟩ (.slice none 0 0) (.slice none 0 0)) ∧ Ext wx w') := fun bg wx => vote_any r f a ms.length cap bg au L.length cu 1 slot value wx
 have HP0 : Hid (∀ bb, decide (r.id = Msg.primary f r.view) = bb → ∀ bg wx, Calls Tryz.prog 109 #[sagg r f (.slice a ms.length cap) bg (.slice au L.length cu)] wx fun e w' => e = .returned (.bool bb) ∧ Ext wx w') := fun bb h bg wx => spkPrimary_any r f a ms.length cap bg au L.length cu bb wx hf0 hf1 hvw h
 clear hf0 hf1 hml hled hvw
 unfold sagg at *
 cases h1 : decide (1 ≤ slot ∧ slot ≤ 30) with
 | false =>
  have HR : Hid (Msg.propC f ms r slot value = 3) := by show _ = _; unfold Msg.propC; rw [show Msg.rangeB slot value = false from by unfold Msg.rangeB; rw [h1]; rfl, if_pos rfl]
  have J1 : Hid _ := HG1.out false h1
  generalize Msg.inV r = bg at *
  clear h1 HG1 HG2 HSe HP0 HHa HHb HHv HV0 hL HI
  go_enter Tryz.func50, Tryz.ntmps50
  go_wp2_with fail
  refine (J1.out _).mono ?_
  rintro e w9 ⟨rfl, hw⟩
  rw [hw]
  clear hw w9
  go_wp2_with fail
  refine (refuse_yes _ _).mono ?_
  rintro e w9 ⟨rfl, hw⟩
  unfold refused
  rw [hw]
  clear hw w9
  go_wp2
  exact ⟨rfl, (((Ext.refl _).alloc _).alloc _), Or.inl ⟨by rw [HR.out]; decide, by rw [HR.out]; rfl⟩⟩
 | true =>
  have J1 : Hid _ := HG1.out true h1
  have hsl : 1 ≤ slot ∧ slot ≤ 30 := of_decide_eq_true h1
  have hwr : IntKind.i64.wrap (slot - 1) = slot - 1 := by rw [IntKind.wrap_i64]; omega
  cases h2 : decide (0 ≤ value ∧ value ≤ 12) with
  | false =>
   have HR : Hid (Msg.propC f ms r slot value = 3) := by show _ = _; unfold Msg.propC; rw [show Msg.rangeB slot value = false from by unfold Msg.rangeB; rw [h1, h2]; rfl, if_pos rfl]
   have J2 : Hid _ := HG2.out false h2
   generalize Msg.inV r = bg at *
   clear h1 h2 HG1 HG2 HSe HP0 HHa HHb HHv HV0 hL HI
   go_enter Tryz.func50, Tryz.ntmps50
   go_wp2_with fail
   refine (J1.out _).mono ?_
   rintro e w9 ⟨rfl, hw⟩
   rw [hw]
   clear hw w9
   go_wp2_with fail
   refine (J2.out _).mono ?_
   rintro e w9 ⟨rfl, hw⟩
   rw [hw]
   clear hw w9
   go_wp2_with fail
   refine (refuse_yes _ _).mono ?_
   rintro e w9 ⟨rfl, hw⟩
   unfold refused
   rw [hw]
   clear hw w9
   go_wp2
   exact ⟨rfl, (((Ext.refl _).alloc _).alloc _), Or.inl ⟨by rw [HR.out]; decide, by rw [HR.out]; rfl⟩⟩
  | true =>
   have J2 : Hid _ := HG2.out true h2
   have HRg : Hid (Msg.rangeB slot value = true) := by show _ = _; unfold Msg.rangeB; rw [h1, h2]; rfl
   clear h1 h2 HG1 HG2
   cases h3 : Msg.inV r with
   | false =>
    have HR : Hid (Msg.propC f ms r slot value = 8) := by show _ = _; unfold Msg.propC; rw [HRg.out, if_neg (by decide), if_pos (by rw [h3]; rfl)]
    clear h3 HSe HP0 HHa HHb HHv HV0 hL HI
    go_enter Tryz.func50, Tryz.ntmps50
    go_wp2_with fail
    refine (J1.out _).mono ?_
    rintro e w9 ⟨rfl, hw⟩
    rw [hw]
    clear hw w9
    go_wp2_with fail
    refine (J2.out _).mono ?_
    rintro e w9 ⟨rfl, hw⟩
    rw [hw]
    clear hw w9
    go_wp2_with fail
    refine (refuse_no _ _).mono ?_
    rintro e w9 ⟨rfl, hw⟩
    rw [hw]
    clear hw w9
    go_wp2_with fail
    refine (refuse_yes _ _).mono ?_
    rintro e w9 ⟨rfl, hw⟩
    unfold refused
    rw [hw]
    clear hw w9
    go_wp2
    exact ⟨rfl, (((Ext.refl _).alloc _).alloc _), Or.inl ⟨by rw [HR.out]; decide, by rw [HR.out]; rfl⟩⟩
   | true =>
    have HSe1 : Hid _ := HSe.out true
    have HV : Hid _ := HV0.out true
    rw [h3, if_pos rfl] at hL
    clear HSe HV0
    cases h4 : decide (r.id = Msg.primary f r.view) with
    | false =>
     have HR : Hid (Msg.propC f ms r slot value = 8) := by show _ = _; unfold Msg.propC; rw [HRg.out, if_neg (by decide), if_pos (by rw [h3, h4]; rfl)]
     have HP : Hid _ := HP0.out false h4 true
     clear h3 h4 HP0 HHa HHb HHv HV HSe1 hL HI
     go_enter Tryz.func50, Tryz.ntmps50
     go_wp2_with fail
     refine (J1.out _).mono ?_
     rintro e w9 ⟨rfl, hw⟩
     rw [hw]
     clear hw w9
     go_wp2_with fail
     refine (J2.out _).mono ?_
     rintro e w9 ⟨rfl, hw⟩
     rw [hw]
     clear hw w9
     go_wp2_with fail
     refine (refuse_no _ _).mono ?_
     rintro e w9 ⟨rfl, hw⟩
     rw [hw]
     clear hw w9
     go_wp2_with fail
     refine (HP.out _).mono ?_
     rintro e w1 ⟨rfl, hb⟩
     have HB1 : Hid (SpAt w1 w.heap.size r f (.slice a ms.length cap) true (.slice au L.length cu)) := ((spk_new w r f (.slice a ms.length cap) true (.slice au L.length cu) 76).ext ((Ext.refl _).alloc _)).ext hb
     have hZ0 := (zbox_new (w.alloc (.cells #[.int .i64 r.id, .int .i64 r.view, .int .i64 r.start, .int .i64 r.done, .int .i64 f, .slice a ms.length cap, .bool true, .slice au L.length cu] 76)) [.int .i64 0, .int .i64 0, .int .i64 0, .int .i64 0, .int .i64 0, .slice none 0 0, .slice none 0 0] 40).ext hb
     have HZ1 : Hid (ZBox w1 (w.heap.size + 1) [.int .i64 0, .int .i64 0, .int .i64 0, .int .i64 0, .int .i64 0, .slice none 0 0, .slice none 0 0]) := by (try simp only [World.size_alloc] at hZ0); exact hZ0
     have HE1 : Hid (Ext w w1) := (((Ext.refl _).alloc _).alloc _).trans hb
     clear hZ0
     clear hb
     go_wp2_with fail
     refine (refuse_yes _ _).mono ?_
     rintro e w9 ⟨rfl, hw⟩
     unfold refused
     rw [hw]
     clear hw w9
     go_wp2
     exact ⟨rfl, HE1.out, Or.inl ⟨by rw [HR.out]; decide, by rw [HR.out]; rfl⟩⟩
    | true =>
     have HP : Hid _ := HP0.out true h4 true
     clear HP0
     cases h5 : Msg.slotB (Msg.saidL ms r 1) slot with
     | true =>
      have HR : Hid (Msg.propC f ms r slot value = 6) := by show _ = _; unfold Msg.propC; rw [HRg.out, h3, h4, h5, if_neg (by decide), if_neg (by decide), if_pos rfl]
      have HH : Hid _ := HHa.out true h5
      clear h3 h4 h5 HHa HHb HHv HV hL HI
      go_enter Tryz.func50, Tryz.ntmps50
      go_wp2_with fail
      refine (J1.out _).mono ?_
      rintro e w9 ⟨rfl, hw⟩
      rw [hw]
      clear hw w9
      go_wp2_with fail
      refine (J2.out _).mono ?_
      rintro e w9 ⟨rfl, hw⟩
      rw [hw]
      clear hw w9
      go_wp2_with fail
      refine (refuse_no _ _).mono ?_
      rintro e w9 ⟨rfl, hw⟩
      rw [hw]
      clear hw w9
      go_wp2_with fail
      refine (HP.out _).mono ?_
      rintro e w1 ⟨rfl, hb⟩
      have HB1 : Hid (SpAt w1 w.heap.size r f (.slice a ms.length cap) true (.slice au L.length cu)) := ((spk_new w r f (.slice a ms.length cap) true (.slice au L.length cu) 76).ext ((Ext.refl _).alloc _)).ext hb
      have hZ0 := (zbox_new (w.alloc (.cells #[.int .i64 r.id, .int .i64 r.view, .int .i64 r.start, .int .i64 r.done, .int .i64 f, .slice a ms.length cap, .bool true, .slice au L.length cu] 76)) [.int .i64 0, .int .i64 0, .int .i64 0, .int .i64 0, .int .i64 0, .slice none 0 0, .slice none 0 0] 40).ext hb
      have HZ1 : Hid (ZBox w1 (w.heap.size + 1) [.int .i64 0, .int .i64 0, .int .i64 0, .int .i64 0, .int .i64 0, .slice none 0 0, .slice none 0 0]) := by (try simp only [World.size_alloc] at hZ0); exact hZ0
      have HE1 : Hid (Ext w w1) := (((Ext.refl _).alloc _).alloc _).trans hb
      clear hZ0
      clear hb
      go_wp2_with fail
      refine (refuse_no _ _).mono ?_
      rintro e w9 ⟨rfl, hw⟩
      rw [hw]
      clear hw w9
      obtain ⟨-, x0, x1, x2, x3, x4, x5, x6, x7⟩ := HB1.out
      go_wp2_with fail
      refine (HSe1.out _ HE1.out).mono ?_
      rintro e w2 ⟨vo, rfl, hO, hb⟩
      have HB2 : Hid (SpAt w2 w.heap.size r f (.slice a ms.length cap) true (.slice au L.length cu)) := HB1.out.ext hb
      have HZ2 : Hid (ZBox w2 (w.heap.size + 1) [.int .i64 0, .int .i64 0, .int .i64 0, .int .i64 0, .int .i64 0, .slice none 0 0, .slice none 0 0]) := HZ1.out.ext hb
      have HE2 : Hid (Ext w w2) := HE1.out.trans hb
      have HO2 : Hid (MSlice w2 vo (Msg.saidL ms r 1)) := hO
      obtain ⟨a3, c3, rfl, -⟩ := id hO
      clear hO
      clear hb HB1 HZ1 HE1 x0 x1 x2 x3 x4 x5 x6 x7
      go_wp2_with fail
      refine (HH.out _ _ HO2.out).mono ?_
      rintro e w3 ⟨rfl, hb⟩
      have HB3 : Hid (SpAt w3 w.heap.size r f (.slice a ms.length cap) true (.slice au L.length cu)) := HB2.out.ext hb
      have HZ3 : Hid (ZBox w3 (w.heap.size + 1) [.int .i64 0, .int .i64 0, .int .i64 0, .int .i64 0, .int .i64 0, .slice none 0 0, .slice none 0 0]) := HZ2.out.ext hb
      have HE3 : Hid (Ext w w3) := HE2.out.trans hb
      have HO3 : Hid (MSlice w3 (.slice a3 (Msg.saidL ms r 1).length c3) (Msg.saidL ms r 1)) := HO2.out.ext hb
      clear hb HB2 HZ2 HE2
      go_wp2_with fail
      refine (refuse_yes _ _).mono ?_
      rintro e w9 ⟨rfl, hw⟩
      unfold refused
      rw [hw]
      clear hw w9
      go_wp2
      exact ⟨rfl, HE3.out, Or.inl ⟨by rw [HR.out]; decide, by rw [HR.out]; rfl⟩⟩
     | false =>
      have HH : Hid _ := HHa.out false h5
      clear HHa
      have HT0 : Hid (∀ bb, decide (slot ≤ (L.length : Int)) = bb → ∀ wx, Ext w wx → Calls Tryz.prog 113 #[(.slice au L.length cu), .int .i64 slot] wx fun e w' => e = .returned (.bool bb) ∧ w' = wx) := fun bb h wx he => isTakenOver_any _ L slot bb wx (HI.out.ext he) h
      have HM0 : Hid (∀ bb, Msg.holdB L slot value = bb → ∀ wx, Ext w wx → Calls Tryz.prog 112 #[(.slice au L.length cu), .int .i64 slot, .int .i64 value] wx fun e w' => e = .returned (.bool bb) ∧ w' = wx) := fun bb h wx he => by have q := mayHold_any _ L slot value wx (HI.out.ext he) hsl; rw [h] at q; exact q
      have HL : Hid (L = Msg.startL ms r.view r.start) := hL
      have HPC : Hid (∀ P, ¬ (1 < slot ∧ Msg.slotB (Msg.saidL ms r 1) (slot - 1) = false) → (if Msg.holdB L slot value = false then (1 : Int) else if slot ≤ (L.length : Int) then 0 else if Msg.valB (Msg.saidL ms r 1) value = true then 1 else 0) = P → Msg.propC f ms r slot value = P) := fun P hq he => by
       rw [← he, HL.out]; unfold Msg.propC; rw [HRg.out, h3, h4, h5, if_neg (by decide), if_neg (by decide), if_neg (by decide), if_neg hq]
      clear HI
      by_cases h6 : 1 < slot
      ·have P6 : Hid (decide (1 < slot) = true) := decide_eq_true h6
       cases h7 : Msg.slotB (Msg.saidL ms r 1) (slot - 1) with
       | false =>
        have HR : Hid (Msg.propC f ms r slot value = 4) := by show _ = _; unfold Msg.propC; rw [HRg.out, h3, h4, h5, if_neg (by decide), if_neg (by decide), if_neg (by decide), if_pos ⟨h6, h7⟩]
        have HK : Hid _ := HHb.out false h7
        clear h3 h4 h5 h7 HHb HHv HV HT0 HM0 HPC HL hL hsl
        go_enter Tryz.func50, Tryz.ntmps50
        go_wp2_with fail
        refine (J1.out _).mono ?_
        rintro e w9 ⟨rfl, hw⟩
        rw [hw]
        clear hw w9
        go_wp2_with fail
        refine (J2.out _).mono ?_
        rintro e w9 ⟨rfl, hw⟩
        rw [hw]
        clear hw w9
        go_wp2_with fail
        refine (refuse_no _ _).mono ?_
        rintro e w9 ⟨rfl, hw⟩
        rw [hw]
        clear hw w9
        go_wp2_with fail
        refine (HP.out _).mono ?_
        rintro e w1 ⟨rfl, hb⟩
        have HB1 : Hid (SpAt w1 w.heap.size r f (.slice a ms.length cap) true (.slice au L.length cu)) := ((spk_new w r f (.slice a ms.length cap) true (.slice au L.length cu) 76).ext ((Ext.refl _).alloc _)).ext hb
        have hZ0 := (zbox_new (w.alloc (.cells #[.int .i64 r.id, .int .i64 r.view, .int .i64 r.start, .int .i64 r.done, .int .i64 f, .slice a ms.length cap, .bool true, .slice au L.length cu] 76)) [.int .i64 0, .int .i64 0, .int .i64 0, .int .i64 0, .int .i64 0, .slice none 0 0, .slice none 0 0] 40).ext hb
        have HZ1 : Hid (ZBox w1 (w.heap.size + 1) [.int .i64 0, .int .i64 0, .int .i64 0, .int .i64 0, .int .i64 0, .slice none 0 0, .slice none 0 0]) := by (try simp only [World.size_alloc] at hZ0); exact hZ0
        have HE1 : Hid (Ext w w1) := (((Ext.refl _).alloc _).alloc _).trans hb
        clear hZ0
        clear hb
        go_wp2_with fail
        refine (refuse_no _ _).mono ?_
        rintro e w9 ⟨rfl, hw⟩
        rw [hw]
        clear hw w9
        obtain ⟨-, x0, x1, x2, x3, x4, x5, x6, x7⟩ := HB1.out
        go_wp2_with fail
        refine (HSe1.out _ HE1.out).mono ?_
        rintro e w2 ⟨vo, rfl, hO, hb⟩
        have HB2 : Hid (SpAt w2 w.heap.size r f (.slice a ms.length cap) true (.slice au L.length cu)) := HB1.out.ext hb
        have HZ2 : Hid (ZBox w2 (w.heap.size + 1) [.int .i64 0, .int .i64 0, .int .i64 0, .int .i64 0, .int .i64 0, .slice none 0 0, .slice none 0 0]) := HZ1.out.ext hb
        have HE2 : Hid (Ext w w2) := HE1.out.trans hb
        have HO2 : Hid (MSlice w2 vo (Msg.saidL ms r 1)) := hO
        obtain ⟨a3, c3, rfl, -⟩ := id hO
        clear hO
        clear hb HB1 HZ1 HE1 x0 x1 x2 x3 x4 x5 x6 x7
        go_wp2_with fail
        refine (HH.out _ _ HO2.out).mono ?_
        rintro e w3 ⟨rfl, hb⟩
        have HB3 : Hid (SpAt w3 w.heap.size r f (.slice a ms.length cap) true (.slice au L.length cu)) := HB2.out.ext hb
        have HZ3 : Hid (ZBox w3 (w.heap.size + 1) [.int .i64 0, .int .i64 0, .int .i64 0, .int .i64 0, .int .i64 0, .slice none 0 0, .slice none 0 0]) := HZ2.out.ext hb
        have HE3 : Hid (Ext w w3) := HE2.out.trans hb
        have HO3 : Hid (MSlice w3 (.slice a3 (Msg.saidL ms r 1).length c3) (Msg.saidL ms r 1)) := HO2.out.ext hb
        clear hb HB2 HZ2 HE2
        go_wp2_with fail
        refine (refuse_no _ _).mono ?_
        rintro e w9 ⟨rfl, hw⟩
        rw [hw]
        clear hw w9
        go_wp2_with fail
        refine (HK.out _ _ HO3.out).mono ?_
        rintro e w4 ⟨rfl, hb⟩
        have HB4 : Hid (SpAt w4 w.heap.size r f (.slice a ms.length cap) true (.slice au L.length cu)) := HB3.out.ext hb
        have HZ4 : Hid (ZBox w4 (w.heap.size + 1) [.int .i64 0, .int .i64 0, .int .i64 0, .int .i64 0, .int .i64 0, .slice none 0 0, .slice none 0 0]) := HZ3.out.ext hb
        have HE4 : Hid (Ext w w4) := HE3.out.trans hb
        have HO4 : Hid (MSlice w4 (.slice a3 (Msg.saidL ms r 1).length c3) (Msg.saidL ms r 1)) := HO3.out.ext hb
        clear hb HB3 HZ3 HE3
        go_wp2_with fail
        refine (refuse_yes _ _).mono ?_
        rintro e w9 ⟨rfl, hw⟩
        unfold refused
        rw [hw]
        clear hw w9
        go_wp2
        exact ⟨rfl, HE4.out, Or.inl ⟨by rw [HR.out]; decide, by rw [HR.out]; rfl⟩⟩
       | true =>
        have HK : Hid _ := HHb.out true h7
        have HPD : Hid _ := fun P => HPC.out P (fun h => by have q := h.2; rw [h7] at q; cases q)
        clear h3 h4 h5 h7 HHb HPC hL hsl HL
        cases h8 : Msg.holdB L slot value with
        | false =>
         have HR : Hid (Msg.propC f ms r slot value = 1) := HPD.out 1 (by rw [h8, if_pos rfl])
         have HM : Hid _ := HM0.out false h8
         clear h8 HM0 HT0 HPD HHv HV
         go_enter Tryz.func50, Tryz.ntmps50
         go_wp2_with fail
         refine (J1.out _).mono ?_
         rintro e w9 ⟨rfl, hw⟩
         rw [hw]
         clear hw w9
         go_wp2_with fail
         refine (J2.out _).mono ?_
         rintro e w9 ⟨rfl, hw⟩
         rw [hw]
         clear hw w9
         go_wp2_with fail
         refine (refuse_no _ _).mono ?_
         rintro e w9 ⟨rfl, hw⟩
         rw [hw]
         clear hw w9
         go_wp2_with fail
         refine (HP.out _).mono ?_
         rintro e w1 ⟨rfl, hb⟩
         have HB1 : Hid (SpAt w1 w.heap.size r f (.slice a ms.length cap) true (.slice au L.length cu)) := ((spk_new w r f (.slice a ms.length cap) true (.slice au L.length cu) 76).ext ((Ext.refl _).alloc _)).ext hb
         have hZ0 := (zbox_new (w.alloc (.cells #[.int .i64 r.id, .int .i64 r.view, .int .i64 r.start, .int .i64 r.done, .int .i64 f, .slice a ms.length cap, .bool true, .slice au L.length cu] 76)) [.int .i64 0, .int .i64 0, .int .i64 0, .int .i64 0, .int .i64 0, .slice none 0 0, .slice none 0 0] 40).ext hb
         have HZ1 : Hid (ZBox w1 (w.heap.size + 1) [.int .i64 0, .int .i64 0, .int .i64 0, .int .i64 0, .int .i64 0, .slice none 0 0, .slice none 0 0]) := by (try simp only [World.size_alloc] at hZ0); exact hZ0
         have HE1 : Hid (Ext w w1) := (((Ext.refl _).alloc _).alloc _).trans hb
         clear hZ0
         clear hb
         go_wp2_with fail
         refine (refuse_no _ _).mono ?_
         rintro e w9 ⟨rfl, hw⟩
         rw [hw]
         clear hw w9
         obtain ⟨-, x0, x1, x2, x3, x4, x5, x6, x7⟩ := HB1.out
         go_wp2_with fail
         refine (HSe1.out _ HE1.out).mono ?_
         rintro e w2 ⟨vo, rfl, hO, hb⟩
         have HB2 : Hid (SpAt w2 w.heap.size r f (.slice a ms.length cap) true (.slice au L.length cu)) := HB1.out.ext hb
         have HZ2 : Hid (ZBox w2 (w.heap.size + 1) [.int .i64 0, .int .i64 0, .int .i64 0, .int .i64 0, .int .i64 0, .slice none 0 0, .slice none 0 0]) := HZ1.out.ext hb
         have HE2 : Hid (Ext w w2) := HE1.out.trans hb
         have HO2 : Hid (MSlice w2 vo (Msg.saidL ms r 1)) := hO
         obtain ⟨a3, c3, rfl, -⟩ := id hO
         clear hO
         clear hb HB1 HZ1 HE1 x0 x1 x2 x3 x4 x5 x6 x7
         go_wp2_with fail
         refine (HH.out _ _ HO2.out).mono ?_
         rintro e w3 ⟨rfl, hb⟩
         have HB3 : Hid (SpAt w3 w.heap.size r f (.slice a ms.length cap) true (.slice au L.length cu)) := HB2.out.ext hb
         have HZ3 : Hid (ZBox w3 (w.heap.size + 1) [.int .i64 0, .int .i64 0, .int .i64 0, .int .i64 0, .int .i64 0, .slice none 0 0, .slice none 0 0]) := HZ2.out.ext hb
         have HE3 : Hid (Ext w w3) := HE2.out.trans hb
         have HO3 : Hid (MSlice w3 (.slice a3 (Msg.saidL ms r 1).length c3) (Msg.saidL ms r 1)) := HO2.out.ext hb
         clear hb HB2 HZ2 HE2
         go_wp2_with fail
         refine (refuse_no _ _).mono ?_
         rintro e w9 ⟨rfl, hw⟩
         rw [hw]
         clear hw w9
         go_wp2_with fail
         refine (HK.out _ _ HO3.out).mono ?_
         rintro e w4 ⟨rfl, hb⟩
         have HB4 : Hid (SpAt w4 w.heap.size r f (.slice a ms.length cap) true (.slice au L.length cu)) := HB3.out.ext hb
         have HZ4 : Hid (ZBox w4 (w.heap.size + 1) [.int .i64 0, .int .i64 0, .int .i64 0, .int .i64 0, .int .i64 0, .slice none 0 0, .slice none 0 0]) := HZ3.out.ext hb
         have HE4 : Hid (Ext w w4) := HE3.out.trans hb
         have HO4 : Hid (MSlice w4 (.slice a3 (Msg.saidL ms r 1).length c3) (Msg.saidL ms r 1)) := HO3.out.ext hb
         clear hb HB3 HZ3 HE3
         go_wp2_with fail
         refine (refuse_no _ _).mono ?_
         rintro e w9 ⟨rfl, hw⟩
         rw [hw]
         clear hw w9
         obtain ⟨-, x0, x1, x2, x3, x4, x5, x6, x7⟩ := HB4.out
         go_wp2_with fail
         refine (HM.out _ HE4.out).mono ?_
         rintro e w9 ⟨rfl, hw⟩
         rw [hw]
         clear hw w9 x0 x1 x2 x3 x4 x5 x6 x7
         go_wp2_with fail
         refine (refuse_yes _ _).mono ?_
         rintro e w9 ⟨rfl, hw⟩
         unfold refused
         rw [hw]
         clear hw w9
         go_wp2
         exact ⟨rfl, HE4.out, Or.inl ⟨by rw [HR.out]; decide, by rw [HR.out]; rfl⟩⟩
        | true =>
         have HM : Hid _ := HM0.out true h8
         by_cases h9 : slot ≤ (L.length : Int)
         ·have HR : Hid (Msg.propC f ms r slot value = 0) := HPD.out 0 (by rw [h8, if_neg (by decide), if_pos h9])
          have HT : Hid _ := HT0.out true (decide_eq_true h9)
          clear h8 h9 HM0 HT0 HPD HHv
          go_enter Tryz.func50, Tryz.ntmps50
          go_wp2_with fail
          refine (J1.out _).mono ?_
          rintro e w9 ⟨rfl, hw⟩
          rw [hw]
          clear hw w9
          go_wp2_with fail
          refine (J2.out _).mono ?_
          rintro e w9 ⟨rfl, hw⟩
          rw [hw]
          clear hw w9
          go_wp2_with fail
          refine (refuse_no _ _).mono ?_
          rintro e w9 ⟨rfl, hw⟩
          rw [hw]
          clear hw w9
          go_wp2_with fail
          refine (HP.out _).mono ?_
          rintro e w1 ⟨rfl, hb⟩
          have HB1 : Hid (SpAt w1 w.heap.size r f (.slice a ms.length cap) true (.slice au L.length cu)) := ((spk_new w r f (.slice a ms.length cap) true (.slice au L.length cu) 76).ext ((Ext.refl _).alloc _)).ext hb
          have hZ0 := (zbox_new (w.alloc (.cells #[.int .i64 r.id, .int .i64 r.view, .int .i64 r.start, .int .i64 r.done, .int .i64 f, .slice a ms.length cap, .bool true, .slice au L.length cu] 76)) [.int .i64 0, .int .i64 0, .int .i64 0, .int .i64 0, .int .i64 0, .slice none 0 0, .slice none 0 0] 40).ext hb
          have HZ1 : Hid (ZBox w1 (w.heap.size + 1) [.int .i64 0, .int .i64 0, .int .i64 0, .int .i64 0, .int .i64 0, .slice none 0 0, .slice none 0 0]) := by (try simp only [World.size_alloc] at hZ0); exact hZ0
          have HE1 : Hid (Ext w w1) := (((Ext.refl _).alloc _).alloc _).trans hb
          clear hZ0
          clear hb
          go_wp2_with fail
          refine (refuse_no _ _).mono ?_
          rintro e w9 ⟨rfl, hw⟩
          rw [hw]
          clear hw w9
          obtain ⟨-, x0, x1, x2, x3, x4, x5, x6, x7⟩ := HB1.out
          go_wp2_with fail
          refine (HSe1.out _ HE1.out).mono ?_
          rintro e w2 ⟨vo, rfl, hO, hb⟩
          have HB2 : Hid (SpAt w2 w.heap.size r f (.slice a ms.length cap) true (.slice au L.length cu)) := HB1.out.ext hb
          have HZ2 : Hid (ZBox w2 (w.heap.size + 1) [.int .i64 0, .int .i64 0, .int .i64 0, .int .i64 0, .int .i64 0, .slice none 0 0, .slice none 0 0]) := HZ1.out.ext hb
          have HE2 : Hid (Ext w w2) := HE1.out.trans hb
          have HO2 : Hid (MSlice w2 vo (Msg.saidL ms r 1)) := hO
          obtain ⟨a3, c3, rfl, -⟩ := id hO
          clear hO
          clear hb HB1 HZ1 HE1 x0 x1 x2 x3 x4 x5 x6 x7
          go_wp2_with fail
          refine (HH.out _ _ HO2.out).mono ?_
          rintro e w3 ⟨rfl, hb⟩
          have HB3 : Hid (SpAt w3 w.heap.size r f (.slice a ms.length cap) true (.slice au L.length cu)) := HB2.out.ext hb
          have HZ3 : Hid (ZBox w3 (w.heap.size + 1) [.int .i64 0, .int .i64 0, .int .i64 0, .int .i64 0, .int .i64 0, .slice none 0 0, .slice none 0 0]) := HZ2.out.ext hb
          have HE3 : Hid (Ext w w3) := HE2.out.trans hb
          have HO3 : Hid (MSlice w3 (.slice a3 (Msg.saidL ms r 1).length c3) (Msg.saidL ms r 1)) := HO2.out.ext hb
          clear hb HB2 HZ2 HE2
          go_wp2_with fail
          refine (refuse_no _ _).mono ?_
          rintro e w9 ⟨rfl, hw⟩
          rw [hw]
          clear hw w9
          go_wp2_with fail
          refine (HK.out _ _ HO3.out).mono ?_
          rintro e w4 ⟨rfl, hb⟩
          have HB4 : Hid (SpAt w4 w.heap.size r f (.slice a ms.length cap) true (.slice au L.length cu)) := HB3.out.ext hb
          have HZ4 : Hid (ZBox w4 (w.heap.size + 1) [.int .i64 0, .int .i64 0, .int .i64 0, .int .i64 0, .int .i64 0, .slice none 0 0, .slice none 0 0]) := HZ3.out.ext hb
          have HE4 : Hid (Ext w w4) := HE3.out.trans hb
          have HO4 : Hid (MSlice w4 (.slice a3 (Msg.saidL ms r 1).length c3) (Msg.saidL ms r 1)) := HO3.out.ext hb
          clear hb HB3 HZ3 HE3
          go_wp2_with fail
          refine (refuse_no _ _).mono ?_
          rintro e w9 ⟨rfl, hw⟩
          rw [hw]
          clear hw w9
          obtain ⟨-, x0, x1, x2, x3, x4, x5, x6, x7⟩ := HB4.out
          go_wp2_with fail
          refine (HM.out _ HE4.out).mono ?_
          rintro e w9 ⟨rfl, hw⟩
          rw [hw]
          clear hw w9 x0 x1 x2 x3 x4 x5 x6 x7
          obtain ⟨-, x0, x1, x2, x3, x4, x5, x6, x7⟩ := HB4.out
          go_wp2_with fail
          refine (HT.out _ HE4.out).mono ?_
          rintro e w9 ⟨rfl, hw⟩
          rw [hw]
          clear hw w9 x0 x1 x2 x3 x4 x5 x6 x7
          go_wp2_with fail
          refine (refuse_no _ _).mono ?_
          rintro e w9 ⟨rfl, hw⟩
          rw [hw]
          clear hw w9
          obtain ⟨-, x0, x1, x2, x3, x4, x5, x6, x7⟩ := HB4.out
          go_wp2_with fail
          refine (HV.out _).mono ?_
          rintro e w5 ⟨rfl, hb⟩
          have HZ5 : Hid (ZBox w5 (w.heap.size + 1) [.int .i64 0, .int .i64 0, .int .i64 0, .int .i64 0, .int .i64 0, .slice none 0 0, .slice none 0 0]) := HZ4.out.ext hb
          have HE5 : Hid (Ext w w5) := HE4.out.trans hb
          clear hb HB4 HZ4 HE4 x0 x1 x2 x3 x4 x5 x6 x7
          unfold magg
          obtain ⟨z0, n0⟩ := HZ5.out.2 0 _ rfl
          obtain ⟨z1, n1⟩ := HZ5.out.2 1 _ rfl
          obtain ⟨z2, n2⟩ := HZ5.out.2 2 _ rfl
          obtain ⟨z3, n3⟩ := HZ5.out.2 3 _ rfl
          obtain ⟨z4, n4⟩ := HZ5.out.2 4 _ rfl
          obtain ⟨z5, n5⟩ := HZ5.out.2 5 _ rfl
          obtain ⟨z6, n6⟩ := HZ5.out.2 6 _ rfl
          go_wp2
          refine bodyPost_ret (v := magg ⟨1, r.view, r.id, slot, value, [], []⟩ (.slice none 0 0) (.slice none 0 0)) (by simp [results, Tryz.results50, go_sem, magg, z0, z1, z2, z3, z4, z5, z6]) rfl ?_
          exact ⟨HE5.out.seven _ (by omega) _ _ _ _ _ _ _, Or.inr ⟨HR.out, none, 0, 0, none, 0, 0, rfl, trivial⟩⟩
         ·have HT : Hid _ := HT0.out false (decide_eq_false h9)
          cases h10 : Msg.valB (Msg.saidL ms r 1) value with
          | true =>
           have HR : Hid (Msg.propC f ms r slot value = 1) := HPD.out 1 (by rw [h8, if_neg (by decide), if_neg h9, h10, if_pos rfl])
           have HW : Hid _ := HHv.out true h10
           clear h8 h9 h10 HM0 HT0 HPD HHv HV
           go_enter Tryz.func50, Tryz.ntmps50
           go_wp2_with fail
           refine (J1.out _).mono ?_
           rintro e w9 ⟨rfl, hw⟩
           rw [hw]
           clear hw w9
           go_wp2_with fail
           refine (J2.out _).mono ?_
           rintro e w9 ⟨rfl, hw⟩
           rw [hw]
           clear hw w9
           go_wp2_with fail
           refine (refuse_no _ _).mono ?_
           rintro e w9 ⟨rfl, hw⟩
           rw [hw]
           clear hw w9
           go_wp2_with fail
           refine (HP.out _).mono ?_
           rintro e w1 ⟨rfl, hb⟩
           have HB1 : Hid (SpAt w1 w.heap.size r f (.slice a ms.length cap) true (.slice au L.length cu)) := ((spk_new w r f (.slice a ms.length cap) true (.slice au L.length cu) 76).ext ((Ext.refl _).alloc _)).ext hb
           have hZ0 := (zbox_new (w.alloc (.cells #[.int .i64 r.id, .int .i64 r.view, .int .i64 r.start, .int .i64 r.done, .int .i64 f, .slice a ms.length cap, .bool true, .slice au L.length cu] 76)) [.int .i64 0, .int .i64 0, .int .i64 0, .int .i64 0, .int .i64 0, .slice none 0 0, .slice none 0 0] 40).ext hb
           have HZ1 : Hid (ZBox w1 (w.heap.size + 1) [.int .i64 0, .int .i64 0, .int .i64 0, .int .i64 0, .int .i64 0, .slice none 0 0, .slice none 0 0]) := by (try simp only [World.size_alloc] at hZ0); exact hZ0
           have HE1 : Hid (Ext w w1) := (((Ext.refl _).alloc _).alloc _).trans hb
           clear hZ0
           clear hb
           go_wp2_with fail
           refine (refuse_no _ _).mono ?_
           rintro e w9 ⟨rfl, hw⟩
           rw [hw]
           clear hw w9
           obtain ⟨-, x0, x1, x2, x3, x4, x5, x6, x7⟩ := HB1.out
           go_wp2_with fail
           refine (HSe1.out _ HE1.out).mono ?_
           rintro e w2 ⟨vo, rfl, hO, hb⟩
           have HB2 : Hid (SpAt w2 w.heap.size r f (.slice a ms.length cap) true (.slice au L.length cu)) := HB1.out.ext hb
           have HZ2 : Hid (ZBox w2 (w.heap.size + 1) [.int .i64 0, .int .i64 0, .int .i64 0, .int .i64 0, .int .i64 0, .slice none 0 0, .slice none 0 0]) := HZ1.out.ext hb
           have HE2 : Hid (Ext w w2) := HE1.out.trans hb
           have HO2 : Hid (MSlice w2 vo (Msg.saidL ms r 1)) := hO
           obtain ⟨a3, c3, rfl, -⟩ := id hO
           clear hO
           clear hb HB1 HZ1 HE1 x0 x1 x2 x3 x4 x5 x6 x7
           go_wp2_with fail
           refine (HH.out _ _ HO2.out).mono ?_
           rintro e w3 ⟨rfl, hb⟩
           have HB3 : Hid (SpAt w3 w.heap.size r f (.slice a ms.length cap) true (.slice au L.length cu)) := HB2.out.ext hb
           have HZ3 : Hid (ZBox w3 (w.heap.size + 1) [.int .i64 0, .int .i64 0, .int .i64 0, .int .i64 0, .int .i64 0, .slice none 0 0, .slice none 0 0]) := HZ2.out.ext hb
           have HE3 : Hid (Ext w w3) := HE2.out.trans hb
           have HO3 : Hid (MSlice w3 (.slice a3 (Msg.saidL ms r 1).length c3) (Msg.saidL ms r 1)) := HO2.out.ext hb
           clear hb HB2 HZ2 HE2
           go_wp2_with fail
           refine (refuse_no _ _).mono ?_
           rintro e w9 ⟨rfl, hw⟩
           rw [hw]
           clear hw w9
           go_wp2_with fail
           refine (HK.out _ _ HO3.out).mono ?_
           rintro e w4 ⟨rfl, hb⟩
           have HB4 : Hid (SpAt w4 w.heap.size r f (.slice a ms.length cap) true (.slice au L.length cu)) := HB3.out.ext hb
           have HZ4 : Hid (ZBox w4 (w.heap.size + 1) [.int .i64 0, .int .i64 0, .int .i64 0, .int .i64 0, .int .i64 0, .slice none 0 0, .slice none 0 0]) := HZ3.out.ext hb
           have HE4 : Hid (Ext w w4) := HE3.out.trans hb
           have HO4 : Hid (MSlice w4 (.slice a3 (Msg.saidL ms r 1).length c3) (Msg.saidL ms r 1)) := HO3.out.ext hb
           clear hb HB3 HZ3 HE3
           go_wp2_with fail
           refine (refuse_no _ _).mono ?_
           rintro e w9 ⟨rfl, hw⟩
           rw [hw]
           clear hw w9
           obtain ⟨-, x0, x1, x2, x3, x4, x5, x6, x7⟩ := HB4.out
           go_wp2_with fail
           refine (HM.out _ HE4.out).mono ?_
           rintro e w9 ⟨rfl, hw⟩
           rw [hw]
           clear hw w9 x0 x1 x2 x3 x4 x5 x6 x7
           obtain ⟨-, x0, x1, x2, x3, x4, x5, x6, x7⟩ := HB4.out
           go_wp2_with fail
           refine (HT.out _ HE4.out).mono ?_
           rintro e w9 ⟨rfl, hw⟩
           rw [hw]
           clear hw w9 x0 x1 x2 x3 x4 x5 x6 x7
           go_wp2_with fail
           refine (HW.out _ _ HO4.out).mono ?_
           rintro e w5 ⟨rfl, hb⟩
           have HB5 : Hid (SpAt w5 w.heap.size r f (.slice a ms.length cap) true (.slice au L.length cu)) := HB4.out.ext hb
           have HZ5 : Hid (ZBox w5 (w.heap.size + 1) [.int .i64 0, .int .i64 0, .int .i64 0, .int .i64 0, .int .i64 0, .slice none 0 0, .slice none 0 0]) := HZ4.out.ext hb
           have HE5 : Hid (Ext w w5) := HE4.out.trans hb
           clear hb HB4 HZ4 HE4
           go_wp2_with fail
           refine (refuse_yes _ _).mono ?_
           rintro e w9 ⟨rfl, hw⟩
           unfold refused
           rw [hw]
           clear hw w9
           go_wp2
           exact ⟨rfl, HE5.out, Or.inl ⟨by rw [HR.out]; decide, by rw [HR.out]; rfl⟩⟩
          | false =>
           have HR : Hid (Msg.propC f ms r slot value = 0) := HPD.out 0 (by rw [h8, if_neg (by decide), if_neg h9, h10, if_neg (by decide)])
           have HW : Hid _ := HHv.out false h10
           clear h8 h9 h10 HM0 HT0 HPD HHv
           go_enter Tryz.func50, Tryz.ntmps50
           go_wp2_with fail
           refine (J1.out _).mono ?_
           rintro e w9 ⟨rfl, hw⟩
           rw [hw]
           clear hw w9
           go_wp2_with fail
           refine (J2.out _).mono ?_
           rintro e w9 ⟨rfl, hw⟩
           rw [hw]
           clear hw w9
           go_wp2_with fail
           refine (refuse_no _ _).mono ?_
           rintro e w9 ⟨rfl, hw⟩
           rw [hw]
           clear hw w9
           go_wp2_with fail
           refine (HP.out _).mono ?_
           rintro e w1 ⟨rfl, hb⟩
           have HB1 : Hid (SpAt w1 w.heap.size r f (.slice a ms.length cap) true (.slice au L.length cu)) := ((spk_new w r f (.slice a ms.length cap) true (.slice au L.length cu) 76).ext ((Ext.refl _).alloc _)).ext hb
           have hZ0 := (zbox_new (w.alloc (.cells #[.int .i64 r.id, .int .i64 r.view, .int .i64 r.start, .int .i64 r.done, .int .i64 f, .slice a ms.length cap, .bool true, .slice au L.length cu] 76)) [.int .i64 0, .int .i64 0, .int .i64 0, .int .i64 0, .int .i64 0, .slice none 0 0, .slice none 0 0] 40).ext hb
           have HZ1 : Hid (ZBox w1 (w.heap.size + 1) [.int .i64 0, .int .i64 0, .int .i64 0, .int .i64 0, .int .i64 0, .slice none 0 0, .slice none 0 0]) := by (try simp only [World.size_alloc] at hZ0); exact hZ0
           have HE1 : Hid (Ext w w1) := (((Ext.refl _).alloc _).alloc _).trans hb
           clear hZ0
           clear hb
           go_wp2_with fail
           refine (refuse_no _ _).mono ?_
           rintro e w9 ⟨rfl, hw⟩
           rw [hw]
           clear hw w9
           obtain ⟨-, x0, x1, x2, x3, x4, x5, x6, x7⟩ := HB1.out
           go_wp2_with fail
           refine (HSe1.out _ HE1.out).mono ?_
           rintro e w2 ⟨vo, rfl, hO, hb⟩
           have HB2 : Hid (SpAt w2 w.heap.size r f (.slice a ms.length cap) true (.slice au L.length cu)) := HB1.out.ext hb
           have HZ2 : Hid (ZBox w2 (w.heap.size + 1) [.int .i64 0, .int .i64 0, .int .i64 0, .int .i64 0, .int .i64 0, .slice none 0 0, .slice none 0 0]) := HZ1.out.ext hb
           have HE2 : Hid (Ext w w2) := HE1.out.trans hb
           have HO2 : Hid (MSlice w2 vo (Msg.saidL ms r 1)) := hO
           obtain ⟨a3, c3, rfl, -⟩ := id hO
           clear hO
           clear hb HB1 HZ1 HE1 x0 x1 x2 x3 x4 x5 x6 x7
           go_wp2_with fail
           refine (HH.out _ _ HO2.out).mono ?_
           rintro e w3 ⟨rfl, hb⟩
           have HB3 : Hid (SpAt w3 w.heap.size r f (.slice a ms.length cap) true (.slice au L.length cu)) := HB2.out.ext hb
           have HZ3 : Hid (ZBox w3 (w.heap.size + 1) [.int .i64 0, .int .i64 0, .int .i64 0, .int .i64 0, .int .i64 0, .slice none 0 0, .slice none 0 0]) := HZ2.out.ext hb
           have HE3 : Hid (Ext w w3) := HE2.out.trans hb
           have HO3 : Hid (MSlice w3 (.slice a3 (Msg.saidL ms r 1).length c3) (Msg.saidL ms r 1)) := HO2.out.ext hb
           clear hb HB2 HZ2 HE2
           go_wp2_with fail
           refine (refuse_no _ _).mono ?_
           rintro e w9 ⟨rfl, hw⟩
           rw [hw]
           clear hw w9
           go_wp2_with fail
           refine (HK.out _ _ HO3.out).mono ?_
           rintro e w4 ⟨rfl, hb⟩
           have HB4 : Hid (SpAt w4 w.heap.size r f (.slice a ms.length cap) true (.slice au L.length cu)) := HB3.out.ext hb
           have HZ4 : Hid (ZBox w4 (w.heap.size + 1) [.int .i64 0, .int .i64 0, .int .i64 0, .int .i64 0, .int .i64 0, .slice none 0 0, .slice none 0 0]) := HZ3.out.ext hb
           have HE4 : Hid (Ext w w4) := HE3.out.trans hb
           have HO4 : Hid (MSlice w4 (.slice a3 (Msg.saidL ms r 1).length c3) (Msg.saidL ms r 1)) := HO3.out.ext hb
           clear hb HB3 HZ3 HE3
           go_wp2_with fail
           refine (refuse_no _ _).mono ?_
           rintro e w9 ⟨rfl, hw⟩
           rw [hw]
           clear hw w9
           obtain ⟨-, x0, x1, x2, x3, x4, x5, x6, x7⟩ := HB4.out
           go_wp2_with fail
           refine (HM.out _ HE4.out).mono ?_
           rintro e w9 ⟨rfl, hw⟩
           rw [hw]
           clear hw w9 x0 x1 x2 x3 x4 x5 x6 x7
           obtain ⟨-, x0, x1, x2, x3, x4, x5, x6, x7⟩ := HB4.out
           go_wp2_with fail
           refine (HT.out _ HE4.out).mono ?_
           rintro e w9 ⟨rfl, hw⟩
           rw [hw]
           clear hw w9 x0 x1 x2 x3 x4 x5 x6 x7
           go_wp2_with fail
           refine (HW.out _ _ HO4.out).mono ?_
           rintro e w5 ⟨rfl, hb⟩
           have HB5 : Hid (SpAt w5 w.heap.size r f (.slice a ms.length cap) true (.slice au L.length cu)) := HB4.out.ext hb
           have HZ5 : Hid (ZBox w5 (w.heap.size + 1) [.int .i64 0, .int .i64 0, .int .i64 0, .int .i64 0, .int .i64 0, .slice none 0 0, .slice none 0 0]) := HZ4.out.ext hb
           have HE5 : Hid (Ext w w5) := HE4.out.trans hb
           clear hb HB4 HZ4 HE4
           go_wp2_with fail
           refine (refuse_no _ _).mono ?_
           rintro e w9 ⟨rfl, hw⟩
           rw [hw]
           clear hw w9
           obtain ⟨-, x0, x1, x2, x3, x4, x5, x6, x7⟩ := HB5.out
           go_wp2_with fail
           refine (HV.out _).mono ?_
           rintro e w6 ⟨rfl, hb⟩
           have HZ6 : Hid (ZBox w6 (w.heap.size + 1) [.int .i64 0, .int .i64 0, .int .i64 0, .int .i64 0, .int .i64 0, .slice none 0 0, .slice none 0 0]) := HZ5.out.ext hb
           have HE6 : Hid (Ext w w6) := HE5.out.trans hb
           clear hb HB5 HZ5 HE5 x0 x1 x2 x3 x4 x5 x6 x7
           unfold magg
           obtain ⟨z0, n0⟩ := HZ6.out.2 0 _ rfl
           obtain ⟨z1, n1⟩ := HZ6.out.2 1 _ rfl
           obtain ⟨z2, n2⟩ := HZ6.out.2 2 _ rfl
           obtain ⟨z3, n3⟩ := HZ6.out.2 3 _ rfl
           obtain ⟨z4, n4⟩ := HZ6.out.2 4 _ rfl
           obtain ⟨z5, n5⟩ := HZ6.out.2 5 _ rfl
           obtain ⟨z6, n6⟩ := HZ6.out.2 6 _ rfl
           go_wp2
           refine bodyPost_ret (v := magg ⟨1, r.view, r.id, slot, value, [], []⟩ (.slice none 0 0) (.slice none 0 0)) (by simp [results, Tryz.results50, go_sem, magg, z0, z1, z2, z3, z4, z5, z6]) rfl ?_
           exact ⟨HE6.out.seven _ (by omega) _ _ _ _ _ _ _, Or.inr ⟨HR.out, none, 0, 0, none, 0, 0, rfl, trivial⟩⟩
      ·have P6 : Hid (decide (1 < slot) = false) := decide_eq_false h6
       have HPD : Hid _ := fun P => HPC.out P (fun h => h6 h.1)
       clear h3 h4 h5 HHb HPC hL hsl HL
       cases h8 : Msg.holdB L slot value with
       | false =>
        have HR : Hid (Msg.propC f ms r slot value = 1) := HPD.out 1 (by rw [h8, if_pos rfl])
        have HM : Hid _ := HM0.out false h8
        clear h8 HM0 HT0 HPD HHv HV
        go_enter Tryz.func50, Tryz.ntmps50
        go_wp2_with fail
        refine (J1.out _).mono ?_
        rintro e w9 ⟨rfl, hw⟩
        rw [hw]
        clear hw w9
        go_wp2_with fail
        refine (J2.out _).mono ?_
        rintro e w9 ⟨rfl, hw⟩
        rw [hw]
        clear hw w9
        go_wp2_with fail
        refine (refuse_no _ _).mono ?_
        rintro e w9 ⟨rfl, hw⟩
        rw [hw]
        clear hw w9
        go_wp2_with fail
        refine (HP.out _).mono ?_
        rintro e w1 ⟨rfl, hb⟩
        have HB1 : Hid (SpAt w1 w.heap.size r f (.slice a ms.length cap) true (.slice au L.length cu)) := ((spk_new w r f (.slice a ms.length cap) true (.slice au L.length cu) 76).ext ((Ext.refl _).alloc _)).ext hb
        have hZ0 := (zbox_new (w.alloc (.cells #[.int .i64 r.id, .int .i64 r.view, .int .i64 r.start, .int .i64 r.done, .int .i64 f, .slice a ms.length cap, .bool true, .slice au L.length cu] 76)) [.int .i64 0, .int .i64 0, .int .i64 0, .int .i64 0, .int .i64 0, .slice none 0 0, .slice none 0 0] 40).ext hb
        have HZ1 : Hid (ZBox w1 (w.heap.size + 1) [.int .i64 0, .int .i64 0, .int .i64 0, .int .i64 0, .int .i64 0, .slice none 0 0, .slice none 0 0]) := by (try simp only [World.size_alloc] at hZ0); exact hZ0
        have HE1 : Hid (Ext w w1) := (((Ext.refl _).alloc _).alloc _).trans hb
        clear hZ0
        clear hb
        go_wp2_with fail
        refine (refuse_no _ _).mono ?_
        rintro e w9 ⟨rfl, hw⟩
        rw [hw]
        clear hw w9
        obtain ⟨-, x0, x1, x2, x3, x4, x5, x6, x7⟩ := HB1.out
        go_wp2_with fail
        refine (HSe1.out _ HE1.out).mono ?_
        rintro e w2 ⟨vo, rfl, hO, hb⟩
        have HB2 : Hid (SpAt w2 w.heap.size r f (.slice a ms.length cap) true (.slice au L.length cu)) := HB1.out.ext hb
        have HZ2 : Hid (ZBox w2 (w.heap.size + 1) [.int .i64 0, .int .i64 0, .int .i64 0, .int .i64 0, .int .i64 0, .slice none 0 0, .slice none 0 0]) := HZ1.out.ext hb
        have HE2 : Hid (Ext w w2) := HE1.out.trans hb
        have HO2 : Hid (MSlice w2 vo (Msg.saidL ms r 1)) := hO
        obtain ⟨a3, c3, rfl, -⟩ := id hO
        clear hO
        clear hb HB1 HZ1 HE1 x0 x1 x2 x3 x4 x5 x6 x7
        go_wp2_with fail
        refine (HH.out _ _ HO2.out).mono ?_
        rintro e w3 ⟨rfl, hb⟩
        have HB3 : Hid (SpAt w3 w.heap.size r f (.slice a ms.length cap) true (.slice au L.length cu)) := HB2.out.ext hb
        have HZ3 : Hid (ZBox w3 (w.heap.size + 1) [.int .i64 0, .int .i64 0, .int .i64 0, .int .i64 0, .int .i64 0, .slice none 0 0, .slice none 0 0]) := HZ2.out.ext hb
        have HE3 : Hid (Ext w w3) := HE2.out.trans hb
        have HO3 : Hid (MSlice w3 (.slice a3 (Msg.saidL ms r 1).length c3) (Msg.saidL ms r 1)) := HO2.out.ext hb
        clear hb HB2 HZ2 HE2
        go_wp2_with fail
        refine (refuse_no _ _).mono ?_
        rintro e w9 ⟨rfl, hw⟩
        rw [hw]
        clear hw w9
        go_wp2_with fail
        refine (refuse_no _ _).mono ?_
        rintro e w9 ⟨rfl, hw⟩
        rw [hw]
        clear hw w9
        obtain ⟨-, x0, x1, x2, x3, x4, x5, x6, x7⟩ := HB3.out
        go_wp2_with fail
        refine (HM.out _ HE3.out).mono ?_
        rintro e w9 ⟨rfl, hw⟩
        rw [hw]
        clear hw w9 x0 x1 x2 x3 x4 x5 x6 x7
        go_wp2_with fail
        refine (refuse_yes _ _).mono ?_
        rintro e w9 ⟨rfl, hw⟩
        unfold refused
        rw [hw]
        clear hw w9
        go_wp2
        exact ⟨rfl, HE3.out, Or.inl ⟨by rw [HR.out]; decide, by rw [HR.out]; rfl⟩⟩
       | true =>
        have HM : Hid _ := HM0.out true h8
        by_cases h9 : slot ≤ (L.length : Int)
        ·have HR : Hid (Msg.propC f ms r slot value = 0) := HPD.out 0 (by rw [h8, if_neg (by decide), if_pos h9])
         have HT : Hid _ := HT0.out true (decide_eq_true h9)
         clear h8 h9 HM0 HT0 HPD HHv
         go_enter Tryz.func50, Tryz.ntmps50
         go_wp2_with fail
         refine (J1.out _).mono ?_
         rintro e w9 ⟨rfl, hw⟩
         rw [hw]
         clear hw w9
         go_wp2_with fail
         refine (J2.out _).mono ?_
         rintro e w9 ⟨rfl, hw⟩
         rw [hw]
         clear hw w9
         go_wp2_with fail
         refine (refuse_no _ _).mono ?_
         rintro e w9 ⟨rfl, hw⟩
         rw [hw]
         clear hw w9
         go_wp2_with fail
         refine (HP.out _).mono ?_
         rintro e w1 ⟨rfl, hb⟩
         have HB1 : Hid (SpAt w1 w.heap.size r f (.slice a ms.length cap) true (.slice au L.length cu)) := ((spk_new w r f (.slice a ms.length cap) true (.slice au L.length cu) 76).ext ((Ext.refl _).alloc _)).ext hb
         have hZ0 := (zbox_new (w.alloc (.cells #[.int .i64 r.id, .int .i64 r.view, .int .i64 r.start, .int .i64 r.done, .int .i64 f, .slice a ms.length cap, .bool true, .slice au L.length cu] 76)) [.int .i64 0, .int .i64 0, .int .i64 0, .int .i64 0, .int .i64 0, .slice none 0 0, .slice none 0 0] 40).ext hb
         have HZ1 : Hid (ZBox w1 (w.heap.size + 1) [.int .i64 0, .int .i64 0, .int .i64 0, .int .i64 0, .int .i64 0, .slice none 0 0, .slice none 0 0]) := by (try simp only [World.size_alloc] at hZ0); exact hZ0
         have HE1 : Hid (Ext w w1) := (((Ext.refl _).alloc _).alloc _).trans hb
         clear hZ0
         clear hb
         go_wp2_with fail
         refine (refuse_no _ _).mono ?_
         rintro e w9 ⟨rfl, hw⟩
         rw [hw]
         clear hw w9
         obtain ⟨-, x0, x1, x2, x3, x4, x5, x6, x7⟩ := HB1.out
         go_wp2_with fail
         refine (HSe1.out _ HE1.out).mono ?_
         rintro e w2 ⟨vo, rfl, hO, hb⟩
         have HB2 : Hid (SpAt w2 w.heap.size r f (.slice a ms.length cap) true (.slice au L.length cu)) := HB1.out.ext hb
         have HZ2 : Hid (ZBox w2 (w.heap.size + 1) [.int .i64 0, .int .i64 0, .int .i64 0, .int .i64 0, .int .i64 0, .slice none 0 0, .slice none 0 0]) := HZ1.out.ext hb
         have HE2 : Hid (Ext w w2) := HE1.out.trans hb
         have HO2 : Hid (MSlice w2 vo (Msg.saidL ms r 1)) := hO
         obtain ⟨a3, c3, rfl, -⟩ := id hO
         clear hO
         clear hb HB1 HZ1 HE1 x0 x1 x2 x3 x4 x5 x6 x7
         go_wp2_with fail
         refine (HH.out _ _ HO2.out).mono ?_
         rintro e w3 ⟨rfl, hb⟩
         have HB3 : Hid (SpAt w3 w.heap.size r f (.slice a ms.length cap) true (.slice au L.length cu)) := HB2.out.ext hb
         have HZ3 : Hid (ZBox w3 (w.heap.size + 1) [.int .i64 0, .int .i64 0, .int .i64 0, .int .i64 0, .int .i64 0, .slice none 0 0, .slice none 0 0]) := HZ2.out.ext hb
         have HE3 : Hid (Ext w w3) := HE2.out.trans hb
         have HO3 : Hid (MSlice w3 (.slice a3 (Msg.saidL ms r 1).length c3) (Msg.saidL ms r 1)) := HO2.out.ext hb
         clear hb HB2 HZ2 HE2
         go_wp2_with fail
         refine (refuse_no _ _).mono ?_
         rintro e w9 ⟨rfl, hw⟩
         rw [hw]
         clear hw w9
         go_wp2_with fail
         refine (refuse_no _ _).mono ?_
         rintro e w9 ⟨rfl, hw⟩
         rw [hw]
         clear hw w9
         obtain ⟨-, x0, x1, x2, x3, x4, x5, x6, x7⟩ := HB3.out
         go_wp2_with fail
         refine (HM.out _ HE3.out).mono ?_
         rintro e w9 ⟨rfl, hw⟩
         rw [hw]
         clear hw w9 x0 x1 x2 x3 x4 x5 x6 x7
         obtain ⟨-, x0, x1, x2, x3, x4, x5, x6, x7⟩ := HB3.out
         go_wp2_with fail
         refine (HT.out _ HE3.out).mono ?_
         rintro e w9 ⟨rfl, hw⟩
         rw [hw]
         clear hw w9 x0 x1 x2 x3 x4 x5 x6 x7
         go_wp2_with fail
         refine (refuse_no _ _).mono ?_
         rintro e w9 ⟨rfl, hw⟩
         rw [hw]
         clear hw w9
         obtain ⟨-, x0, x1, x2, x3, x4, x5, x6, x7⟩ := HB3.out
         go_wp2_with fail
         refine (HV.out _).mono ?_
         rintro e w4 ⟨rfl, hb⟩
         have HZ4 : Hid (ZBox w4 (w.heap.size + 1) [.int .i64 0, .int .i64 0, .int .i64 0, .int .i64 0, .int .i64 0, .slice none 0 0, .slice none 0 0]) := HZ3.out.ext hb
         have HE4 : Hid (Ext w w4) := HE3.out.trans hb
         clear hb HB3 HZ3 HE3 x0 x1 x2 x3 x4 x5 x6 x7
         unfold magg
         obtain ⟨z0, n0⟩ := HZ4.out.2 0 _ rfl
         obtain ⟨z1, n1⟩ := HZ4.out.2 1 _ rfl
         obtain ⟨z2, n2⟩ := HZ4.out.2 2 _ rfl
         obtain ⟨z3, n3⟩ := HZ4.out.2 3 _ rfl
         obtain ⟨z4, n4⟩ := HZ4.out.2 4 _ rfl
         obtain ⟨z5, n5⟩ := HZ4.out.2 5 _ rfl
         obtain ⟨z6, n6⟩ := HZ4.out.2 6 _ rfl
         go_wp2
         refine bodyPost_ret (v := magg ⟨1, r.view, r.id, slot, value, [], []⟩ (.slice none 0 0) (.slice none 0 0)) (by simp [results, Tryz.results50, go_sem, magg, z0, z1, z2, z3, z4, z5, z6]) rfl ?_
         exact ⟨HE4.out.seven _ (by omega) _ _ _ _ _ _ _, Or.inr ⟨HR.out, none, 0, 0, none, 0, 0, rfl, trivial⟩⟩
        ·have HT : Hid _ := HT0.out false (decide_eq_false h9)
         cases h10 : Msg.valB (Msg.saidL ms r 1) value with
         | true =>
          have HR : Hid (Msg.propC f ms r slot value = 1) := HPD.out 1 (by rw [h8, if_neg (by decide), if_neg h9, h10, if_pos rfl])
          have HW : Hid _ := HHv.out true h10
          clear h8 h9 h10 HM0 HT0 HPD HHv HV
          go_enter Tryz.func50, Tryz.ntmps50
          go_wp2_with fail
          refine (J1.out _).mono ?_
          rintro e w9 ⟨rfl, hw⟩
          rw [hw]
          clear hw w9
          go_wp2_with fail
          refine (J2.out _).mono ?_
          rintro e w9 ⟨rfl, hw⟩
          rw [hw]
          clear hw w9
          go_wp2_with fail
          refine (refuse_no _ _).mono ?_
          rintro e w9 ⟨rfl, hw⟩
          rw [hw]
          clear hw w9
          go_wp2_with fail
          refine (HP.out _).mono ?_
          rintro e w1 ⟨rfl, hb⟩
          have HB1 : Hid (SpAt w1 w.heap.size r f (.slice a ms.length cap) true (.slice au L.length cu)) := ((spk_new w r f (.slice a ms.length cap) true (.slice au L.length cu) 76).ext ((Ext.refl _).alloc _)).ext hb
          have hZ0 := (zbox_new (w.alloc (.cells #[.int .i64 r.id, .int .i64 r.view, .int .i64 r.start, .int .i64 r.done, .int .i64 f, .slice a ms.length cap, .bool true, .slice au L.length cu] 76)) [.int .i64 0, .int .i64 0, .int .i64 0, .int .i64 0, .int .i64 0, .slice none 0 0, .slice none 0 0] 40).ext hb
          have HZ1 : Hid (ZBox w1 (w.heap.size + 1) [.int .i64 0, .int .i64 0, .int .i64 0, .int .i64 0, .int .i64 0, .slice none 0 0, .slice none 0 0]) := by (try simp only [World.size_alloc] at hZ0); exact hZ0
          have HE1 : Hid (Ext w w1) := (((Ext.refl _).alloc _).alloc _).trans hb
          clear hZ0
          clear hb
          go_wp2_with fail
          refine (refuse_no _ _).mono ?_
          rintro e w9 ⟨rfl, hw⟩
          rw [hw]
          clear hw w9
          obtain ⟨-, x0, x1, x2, x3, x4, x5, x6, x7⟩ := HB1.out
          go_wp2_with fail
          refine (HSe1.out _ HE1.out).mono ?_
          rintro e w2 ⟨vo, rfl, hO, hb⟩
          have HB2 : Hid (SpAt w2 w.heap.size r f (.slice a ms.length cap) true (.slice au L.length cu)) := HB1.out.ext hb
          have HZ2 : Hid (ZBox w2 (w.heap.size + 1) [.int .i64 0, .int .i64 0, .int .i64 0, .int .i64 0, .int .i64 0, .slice none 0 0, .slice none 0 0]) := HZ1.out.ext hb
          have HE2 : Hid (Ext w w2) := HE1.out.trans hb
          have HO2 : Hid (MSlice w2 vo (Msg.saidL ms r 1)) := hO
          obtain ⟨a3, c3, rfl, -⟩ := id hO
          clear hO
          clear hb HB1 HZ1 HE1 x0 x1 x2 x3 x4 x5 x6 x7
          go_wp2_with fail
          refine (HH.out _ _ HO2.out).mono ?_
          rintro e w3 ⟨rfl, hb⟩
          have HB3 : Hid (SpAt w3 w.heap.size r f (.slice a ms.length cap) true (.slice au L.length cu)) := HB2.out.ext hb
          have HZ3 : Hid (ZBox w3 (w.heap.size + 1) [.int .i64 0, .int .i64 0, .int .i64 0, .int .i64 0, .int .i64 0, .slice none 0 0, .slice none 0 0]) := HZ2.out.ext hb
          have HE3 : Hid (Ext w w3) := HE2.out.trans hb
          have HO3 : Hid (MSlice w3 (.slice a3 (Msg.saidL ms r 1).length c3) (Msg.saidL ms r 1)) := HO2.out.ext hb
          clear hb HB2 HZ2 HE2
          go_wp2_with fail
          refine (refuse_no _ _).mono ?_
          rintro e w9 ⟨rfl, hw⟩
          rw [hw]
          clear hw w9
          go_wp2_with fail
          refine (refuse_no _ _).mono ?_
          rintro e w9 ⟨rfl, hw⟩
          rw [hw]
          clear hw w9
          obtain ⟨-, x0, x1, x2, x3, x4, x5, x6, x7⟩ := HB3.out
          go_wp2_with fail
          refine (HM.out _ HE3.out).mono ?_
          rintro e w9 ⟨rfl, hw⟩
          rw [hw]
          clear hw w9 x0 x1 x2 x3 x4 x5 x6 x7
          obtain ⟨-, x0, x1, x2, x3, x4, x5, x6, x7⟩ := HB3.out
          go_wp2_with fail
          refine (HT.out _ HE3.out).mono ?_
          rintro e w9 ⟨rfl, hw⟩
          rw [hw]
          clear hw w9 x0 x1 x2 x3 x4 x5 x6 x7
          go_wp2_with fail
          refine (HW.out _ _ HO3.out).mono ?_
          rintro e w4 ⟨rfl, hb⟩
          have HB4 : Hid (SpAt w4 w.heap.size r f (.slice a ms.length cap) true (.slice au L.length cu)) := HB3.out.ext hb
          have HZ4 : Hid (ZBox w4 (w.heap.size + 1) [.int .i64 0, .int .i64 0, .int .i64 0, .int .i64 0, .int .i64 0, .slice none 0 0, .slice none 0 0]) := HZ3.out.ext hb
          have HE4 : Hid (Ext w w4) := HE3.out.trans hb
          clear hb HB3 HZ3 HE3
          go_wp2_with fail
          refine (refuse_yes _ _).mono ?_
          rintro e w9 ⟨rfl, hw⟩
          unfold refused
          rw [hw]
          clear hw w9
          go_wp2
          exact ⟨rfl, HE4.out, Or.inl ⟨by rw [HR.out]; decide, by rw [HR.out]; rfl⟩⟩
         | false =>
          have HR : Hid (Msg.propC f ms r slot value = 0) := HPD.out 0 (by rw [h8, if_neg (by decide), if_neg h9, h10, if_neg (by decide)])
          have HW : Hid _ := HHv.out false h10
          clear h8 h9 h10 HM0 HT0 HPD HHv
          go_enter Tryz.func50, Tryz.ntmps50
          go_wp2_with fail
          refine (J1.out _).mono ?_
          rintro e w9 ⟨rfl, hw⟩
          rw [hw]
          clear hw w9
          go_wp2_with fail
          refine (J2.out _).mono ?_
          rintro e w9 ⟨rfl, hw⟩
          rw [hw]
          clear hw w9
          go_wp2_with fail
          refine (refuse_no _ _).mono ?_
          rintro e w9 ⟨rfl, hw⟩
          rw [hw]
          clear hw w9
          go_wp2_with fail
          refine (HP.out _).mono ?_
          rintro e w1 ⟨rfl, hb⟩
          have HB1 : Hid (SpAt w1 w.heap.size r f (.slice a ms.length cap) true (.slice au L.length cu)) := ((spk_new w r f (.slice a ms.length cap) true (.slice au L.length cu) 76).ext ((Ext.refl _).alloc _)).ext hb
          have hZ0 := (zbox_new (w.alloc (.cells #[.int .i64 r.id, .int .i64 r.view, .int .i64 r.start, .int .i64 r.done, .int .i64 f, .slice a ms.length cap, .bool true, .slice au L.length cu] 76)) [.int .i64 0, .int .i64 0, .int .i64 0, .int .i64 0, .int .i64 0, .slice none 0 0, .slice none 0 0] 40).ext hb
          have HZ1 : Hid (ZBox w1 (w.heap.size + 1) [.int .i64 0, .int .i64 0, .int .i64 0, .int .i64 0, .int .i64 0, .slice none 0 0, .slice none 0 0]) := by (try simp only [World.size_alloc] at hZ0); exact hZ0
          have HE1 : Hid (Ext w w1) := (((Ext.refl _).alloc _).alloc _).trans hb
          clear hZ0
          clear hb
          go_wp2_with fail
          refine (refuse_no _ _).mono ?_
          rintro e w9 ⟨rfl, hw⟩
          rw [hw]
          clear hw w9
          obtain ⟨-, x0, x1, x2, x3, x4, x5, x6, x7⟩ := HB1.out
          go_wp2_with fail
          refine (HSe1.out _ HE1.out).mono ?_
          rintro e w2 ⟨vo, rfl, hO, hb⟩
          have HB2 : Hid (SpAt w2 w.heap.size r f (.slice a ms.length cap) true (.slice au L.length cu)) := HB1.out.ext hb
          have HZ2 : Hid (ZBox w2 (w.heap.size + 1) [.int .i64 0, .int .i64 0, .int .i64 0, .int .i64 0, .int .i64 0, .slice none 0 0, .slice none 0 0]) := HZ1.out.ext hb
          have HE2 : Hid (Ext w w2) := HE1.out.trans hb
          have HO2 : Hid (MSlice w2 vo (Msg.saidL ms r 1)) := hO
          obtain ⟨a3, c3, rfl, -⟩ := id hO
          clear hO
          clear hb HB1 HZ1 HE1 x0 x1 x2 x3 x4 x5 x6 x7
          go_wp2_with fail
          refine (HH.out _ _ HO2.out).mono ?_
          rintro e w3 ⟨rfl, hb⟩
          have HB3 : Hid (SpAt w3 w.heap.size r f (.slice a ms.length cap) true (.slice au L.length cu)) := HB2.out.ext hb
          have HZ3 : Hid (ZBox w3 (w.heap.size + 1) [.int .i64 0, .int .i64 0, .int .i64 0, .int .i64 0, .int .i64 0, .slice none 0 0, .slice none 0 0]) := HZ2.out.ext hb
          have HE3 : Hid (Ext w w3) := HE2.out.trans hb
          have HO3 : Hid (MSlice w3 (.slice a3 (Msg.saidL ms r 1).length c3) (Msg.saidL ms r 1)) := HO2.out.ext hb
          clear hb HB2 HZ2 HE2
          go_wp2_with fail
          refine (refuse_no _ _).mono ?_
          rintro e w9 ⟨rfl, hw⟩
          rw [hw]
          clear hw w9
          go_wp2_with fail
          refine (refuse_no _ _).mono ?_
          rintro e w9 ⟨rfl, hw⟩
          rw [hw]
          clear hw w9
          obtain ⟨-, x0, x1, x2, x3, x4, x5, x6, x7⟩ := HB3.out
          go_wp2_with fail
          refine (HM.out _ HE3.out).mono ?_
          rintro e w9 ⟨rfl, hw⟩
          rw [hw]
          clear hw w9 x0 x1 x2 x3 x4 x5 x6 x7
          obtain ⟨-, x0, x1, x2, x3, x4, x5, x6, x7⟩ := HB3.out
          go_wp2_with fail
          refine (HT.out _ HE3.out).mono ?_
          rintro e w9 ⟨rfl, hw⟩
          rw [hw]
          clear hw w9 x0 x1 x2 x3 x4 x5 x6 x7
          go_wp2_with fail
          refine (HW.out _ _ HO3.out).mono ?_
          rintro e w4 ⟨rfl, hb⟩
          have HB4 : Hid (SpAt w4 w.heap.size r f (.slice a ms.length cap) true (.slice au L.length cu)) := HB3.out.ext hb
          have HZ4 : Hid (ZBox w4 (w.heap.size + 1) [.int .i64 0, .int .i64 0, .int .i64 0, .int .i64 0, .int .i64 0, .slice none 0 0, .slice none 0 0]) := HZ3.out.ext hb
          have HE4 : Hid (Ext w w4) := HE3.out.trans hb
          clear hb HB3 HZ3 HE3
          go_wp2_with fail
          refine (refuse_no _ _).mono ?_
          rintro e w9 ⟨rfl, hw⟩
          rw [hw]
          clear hw w9
          obtain ⟨-, x0, x1, x2, x3, x4, x5, x6, x7⟩ := HB4.out
          go_wp2_with fail
          refine (HV.out _).mono ?_
          rintro e w5 ⟨rfl, hb⟩
          have HZ5 : Hid (ZBox w5 (w.heap.size + 1) [.int .i64 0, .int .i64 0, .int .i64 0, .int .i64 0, .int .i64 0, .slice none 0 0, .slice none 0 0]) := HZ4.out.ext hb
          have HE5 : Hid (Ext w w5) := HE4.out.trans hb
          clear hb HB4 HZ4 HE4 x0 x1 x2 x3 x4 x5 x6 x7
          unfold magg
          obtain ⟨z0, n0⟩ := HZ5.out.2 0 _ rfl
          obtain ⟨z1, n1⟩ := HZ5.out.2 1 _ rfl
          obtain ⟨z2, n2⟩ := HZ5.out.2 2 _ rfl
          obtain ⟨z3, n3⟩ := HZ5.out.2 3 _ rfl
          obtain ⟨z4, n4⟩ := HZ5.out.2 4 _ rfl
          obtain ⟨z5, n5⟩ := HZ5.out.2 5 _ rfl
          obtain ⟨z6, n6⟩ := HZ5.out.2 6 _ rfl
          go_wp2
          refine bodyPost_ret (v := magg ⟨1, r.view, r.id, slot, value, [], []⟩ (.slice none 0 0) (.slice none 0 0)) (by simp [results, Tryz.results50, go_sem, magg, z0, z1, z2, z3, z4, z5, z6]) rfl ?_
          exact ⟨HE5.out.seven _ (by omega) _ _ _ _ _ _ _, Or.inr ⟨HR.out, none, 0, 0, none, 0, 0, rfl, trivial⟩⟩
end Go.Proofs.YtecgjdgfjgcmdaaGreat
