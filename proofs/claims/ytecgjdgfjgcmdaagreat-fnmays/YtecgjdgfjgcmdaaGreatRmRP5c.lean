/- commit: what one says who is heard. -/
import Derived.Test.YtecgjdgfjgcmdaaGreatRmRP5
namespace Go.Proofs.YtecgjdgfjgcmdaaGreat
open Go.RowKit
set_option linter.unusedSimpArgs false in
set_option maxHeartbeats 8000000 in
set_option maxRecDepth 100000 in
theorem commit_any (f : Int) (v : Value) (ms : List Ms) (r : Rp) (u : Value) (L : List Int) (slot value : Int) (w : World) (hS : MSlice w v ms) (hI : ISlice w u L) (hrep : Msg.repC f ms r = 0) :
  Calls Tryz.prog 56 #[sagg r f v (Msg.inV r) u, .int .i64 slot, .int .i64 value] w (Said KT (Msg.comC f ms r slot value) ⟨3, r.view, r.id, slot, value, [], []⟩ w) := by
 have hled := Msg.repC_led hrep
 obtain ⟨hf0, hf1, hml⟩ := Msg.ledger_zero hled
 have hrf := Msg.repF_zero (by rw [← Msg.repC_ok hled]; exact hrep)
 have hvw := hrf.2.1
 clear hrf hrep
 obtain ⟨au, cu, rfl, -, -, -⟩ := hI
 have HG1 : Hid (∀ bb, decide (1 ≤ slot ∧ slot ≤ 30) = bb → ∀ wx, Calls Tryz.prog 107 #[.int .i64 slot] wx fun e w' => e = .returned (.bool bb) ∧ w' = wx) := fun bb h wx => by have q := isSlot_any slot wx; rw [show (decide (1 ≤ slot) && decide (slot ≤ 30)) = bb from by rw [← h, Bool.decide_and]] at q; exact q
 have HG2 : Hid (∀ bb, decide (0 ≤ value ∧ value ≤ 12) = bb → ∀ wx, Calls Tryz.prog 108 #[.int .i64 value] wx fun e w' => e = .returned (.bool bb) ∧ w' = wx) := fun bb h wx => by have q := isValue_any value wx; rw [show (decide (0 ≤ value) && decide (value ≤ 12)) = bb from by rw [← h, Bool.decide_and]] at q; exact q
 have HSe : Hid (∀ bg wx, Ext w wx → Calls Tryz.prog 110 #[sagg r f v bg (.slice au L.length cu), .int .i64 3] wx fun e w' => ∃ vo, e = .returned vo ∧ MSlice w' vo (Msg.saidL ms r 3) ∧ Ext wx w') := fun bg wx he => sent_any r f v ms bg au L.length cu 3 wx (hS.ext he) hml
 have HP0 : Hid (∀ bb, Msg.enough f ms 2 ⟨slot, r.view, value⟩ = bb → ∀ wx, Ext w wx → Calls Tryz.prog 79 #[.int .i64 f, v, ctagg ⟨slot, r.view, value⟩] wx fun e w' => e = .returned (.bool bb) ∧ Ext wx w') := fun bb h wx he => by have q := hasPrepared_any f v ms ⟨slot, r.view, value⟩ wx (hS.ext he) hled; rw [h] at q; exact q
 have HH0 : Hid (∀ bb, Msg.slotB (Msg.saidL ms r 3) slot = bb → ∀ x wx, MSlice wx x (Msg.saidL ms r 3) → Calls Tryz.prog 111 #[x, .int .i64 slot] wx fun e w' => e = .returned (.bool bb) ∧ Ext wx w') := fun bb h x wx hx => by have q := hasSlot_any slot x _ wx hx; rw [h] at q; exact q
 obtain ⟨a, cap, rfl, -, -, -⟩ := hS
 have HV0 : Hid (∀ bg wx, Calls Tryz.prog 115 #[sagg r f (.slice a ms.length cap) bg (.slice au L.length cu), .int .i64 3, .int .i64 slot, .int .i64 value] wx fun e w' => e = .returned (magg ⟨3, r.view, r.id, slot, value, [], []⟩ (.slice none 0 0) (.slice none 0 0)) ∧ Ext wx w') := fun bg wx => vote_any r f a ms.length cap bg au L.length cu 3 slot value wx
 clear hf0 hf1 hml hled hvw
 unfold sagg ctagg at *
 cases h1 : decide (1 ≤ slot ∧ slot ≤ 30) with
 | false =>
  have HR : Hid (Msg.comC f ms r slot value = 3) := by show _ = _; unfold Msg.comC; rw [show Msg.rangeB slot value = false from by unfold Msg.rangeB; rw [h1]; rfl, if_pos rfl]
  have J1 : Hid _ := HG1.out false h1
  generalize Msg.inV r = bg at *
  clear h1 HG1 HG2 HSe HP0 HH0 HV0
  go_enter Tryz.func56, Tryz.ntmps56
  go_wp2_with fail
  refine (J1.out _).mono ?_
  rintro e w9 ⟨rfl, hw⟩
  rw [hw]
  clear hw w9
  go_wp2_with fail
  refine (refuse_yes _ _).mono ?_
  rintro e w9 ⟨rfl, hw⟩
  unfold refused
  rw [hw]
  clear hw w9
  go_wp2
  exact ⟨rfl, (((Ext.refl _).alloc _).alloc _), Or.inl ⟨by rw [HR.out]; decide, by rw [HR.out]; rfl⟩⟩
 | true =>
  have J1 : Hid _ := HG1.out true h1
  cases h2 : decide (0 ≤ value ∧ value ≤ 12) with
  | false =>
   have HR : Hid (Msg.comC f ms r slot value = 3) := by show _ = _; unfold Msg.comC; rw [show Msg.rangeB slot value = false from by unfold Msg.rangeB; rw [h1, h2]; rfl, if_pos rfl]
   have J2 : Hid _ := HG2.out false h2
   generalize Msg.inV r = bg at *
   clear h1 h2 HG1 HG2 HSe HP0 HH0 HV0
   go_enter Tryz.func56, Tryz.ntmps56
   go_wp2_with fail
   refine (J1.out _).mono ?_
   rintro e w9 ⟨rfl, hw⟩
   rw [hw]
   clear hw w9
   go_wp2_with fail
   refine (J2.out _).mono ?_
   rintro e w9 ⟨rfl, hw⟩
   rw [hw]
   clear hw w9
   go_wp2_with fail
   refine (refuse_yes _ _).mono ?_
   rintro e w9 ⟨rfl, hw⟩
   unfold refused
   rw [hw]
   clear hw w9
   go_wp2
   exact ⟨rfl, (((Ext.refl _).alloc _).alloc _), Or.inl ⟨by rw [HR.out]; decide, by rw [HR.out]; rfl⟩⟩
  | true =>
   have J2 : Hid _ := HG2.out true h2
   have HRg : Hid (Msg.rangeB slot value = true) := by show _ = _; unfold Msg.rangeB; rw [h1, h2]; rfl
   clear h1 h2 HG1 HG2
   cases h3 : Msg.inV r with
   | false =>
    have HR : Hid (Msg.comC f ms r slot value = 8) := by show _ = _; unfold Msg.comC; rw [HRg.out, h3, if_neg (by decide), if_pos rfl]
    clear h3 HSe HP0 HH0 HV0
    go_enter Tryz.func56, Tryz.ntmps56
    go_wp2_with fail
    refine (J1.out _).mono ?_
    rintro e w9 ⟨rfl, hw⟩
    rw [hw]
    clear hw w9
    go_wp2_with fail
    refine (J2.out _).mono ?_
    rintro e w9 ⟨rfl, hw⟩
    rw [hw]
    clear hw w9
    go_wp2_with fail
    refine (refuse_no _ _).mono ?_
    rintro e w9 ⟨rfl, hw⟩
    rw [hw]
    clear hw w9
    go_wp2_with fail
    refine (refuse_yes _ _).mono ?_
    rintro e w9 ⟨rfl, hw⟩
    unfold refused
    rw [hw]
    clear hw w9
    go_wp2
    exact ⟨rfl, (((Ext.refl _).alloc _).alloc _), Or.inl ⟨by rw [HR.out]; decide, by rw [HR.out]; rfl⟩⟩
   | true =>
    have HSe1 : Hid _ := HSe.out true
    have HV : Hid _ := HV0.out true
    clear HSe HV0
    cases h4 : Msg.enough f ms 2 ⟨slot, r.view, value⟩ with
    | false =>
     have HR : Hid (Msg.comC f ms r slot value = 10) := by show _ = _; unfold Msg.comC; rw [HRg.out, h3, h4, if_neg (by decide), if_neg (by decide), if_pos rfl]
     have HP : Hid _ := HP0.out false h4
     clear h3 h4 HP0 HH0 HSe1 HV
     go_enter Tryz.func56, Tryz.ntmps56
     go_wp2_with fail
     refine (J1.out _).mono ?_
     rintro e w9 ⟨rfl, hw⟩
     rw [hw]
     clear hw w9
     go_wp2_with fail
     refine (J2.out _).mono ?_
     rintro e w9 ⟨rfl, hw⟩
     rw [hw]
     clear hw w9
     go_wp2_with fail
     refine (refuse_no _ _).mono ?_
     rintro e w9 ⟨rfl, hw⟩
     rw [hw]
     clear hw w9
     go_wp2_with fail
     refine (refuse_no _ _).mono ?_
     rintro e w9 ⟨rfl, hw⟩
     rw [hw]
     clear hw w9
     go_wp2_with fail
     refine (HP.out _ (((Ext.refl _).alloc _).alloc _)).mono ?_
     rintro e w1 ⟨rfl, hb⟩
     have HB1 : Hid (SpAt w1 w.heap.size r f (.slice a ms.length cap) true (.slice au L.length cu)) := ((spk_new w r f (.slice a ms.length cap) true (.slice au L.length cu) 76).ext ((Ext.refl _).alloc _)).ext hb
     have hZ0 := (zbox_new (w.alloc (.cells #[.int .i64 r.id, .int .i64 r.view, .int .i64 r.start, .int .i64 r.done, .int .i64 f, .slice a ms.length cap, .bool true, .slice au L.length cu] 76)) [.int .i64 0, .int .i64 0, .int .i64 0, .int .i64 0, .int .i64 0, .slice none 0 0, .slice none 0 0] 40).ext hb
     have HZ1 : Hid (ZBox w1 (w.heap.size + 1) [.int .i64 0, .int .i64 0, .int .i64 0, .int .i64 0, .int .i64 0, .slice none 0 0, .slice none 0 0]) := by (try simp only [World.size_alloc] at hZ0); exact hZ0
     have HE1 : Hid (Ext w w1) := (((Ext.refl _).alloc _).alloc _).trans hb
     clear hZ0
     clear hb
     go_wp2_with fail
     refine (refuse_yes _ _).mono ?_
     rintro e w9 ⟨rfl, hw⟩
     unfold refused
     rw [hw]
     clear hw w9
     go_wp2
     exact ⟨rfl, HE1.out, Or.inl ⟨by rw [HR.out]; decide, by rw [HR.out]; rfl⟩⟩
    | true =>
     have HP : Hid _ := HP0.out true h4
     cases h5 : Msg.slotB (Msg.saidL ms r 3) slot with
     | true =>
      have HR : Hid (Msg.comC f ms r slot value = 6) := by show _ = _; unfold Msg.comC; rw [HRg.out, h3, h4, h5, if_neg (by decide), if_neg (by decide), if_neg (by decide), if_pos rfl]
      have HH : Hid _ := HH0.out true h5
      clear h3 h4 h5 HP0 HH0 HV
      go_enter Tryz.func56, Tryz.ntmps56
      go_wp2_with fail
      refine (J1.out _).mono ?_
      rintro e w9 ⟨rfl, hw⟩
      rw [hw]
      clear hw w9
      go_wp2_with fail
      refine (J2.out _).mono ?_
      rintro e w9 ⟨rfl, hw⟩
      rw [hw]
      clear hw w9
      go_wp2_with fail
      refine (refuse_no _ _).mono ?_
      rintro e w9 ⟨rfl, hw⟩
      rw [hw]
      clear hw w9
      go_wp2_with fail
      refine (refuse_no _ _).mono ?_
      rintro e w9 ⟨rfl, hw⟩
      rw [hw]
      clear hw w9
      go_wp2_with fail
      refine (HP.out _ (((Ext.refl _).alloc _).alloc _)).mono ?_
      rintro e w1 ⟨rfl, hb⟩
      have HB1 : Hid (SpAt w1 w.heap.size r f (.slice a ms.length cap) true (.slice au L.length cu)) := ((spk_new w r f (.slice a ms.length cap) true (.slice au L.length cu) 76).ext ((Ext.refl _).alloc _)).ext hb
      have hZ0 := (zbox_new (w.alloc (.cells #[.int .i64 r.id, .int .i64 r.view, .int .i64 r.start, .int .i64 r.done, .int .i64 f, .slice a ms.length cap, .bool true, .slice au L.length cu] 76)) [.int .i64 0, .int .i64 0, .int .i64 0, .int .i64 0, .int .i64 0, .slice none 0 0, .slice none 0 0] 40).ext hb
      have HZ1 : Hid (ZBox w1 (w.heap.size + 1) [.int .i64 0, .int .i64 0, .int .i64 0, .int .i64 0, .int .i64 0, .slice none 0 0, .slice none 0 0]) := by (try simp only [World.size_alloc] at hZ0); exact hZ0
      have HE1 : Hid (Ext w w1) := (((Ext.refl _).alloc _).alloc _).trans hb
      clear hZ0
      clear hb
      go_wp2_with fail
      refine (refuse_no _ _).mono ?_
      rintro e w9 ⟨rfl, hw⟩
      rw [hw]
      clear hw w9
      obtain ⟨-, x0, x1, x2, x3, x4, x5, x6, x7⟩ := HB1.out
      go_wp2_with fail
      refine (HSe1.out _ HE1.out).mono ?_
      rintro e w2 ⟨vo, rfl, hO, hb⟩
      have HB2 : Hid (SpAt w2 w.heap.size r f (.slice a ms.length cap) true (.slice au L.length cu)) := HB1.out.ext hb
      have HZ2 : Hid (ZBox w2 (w.heap.size + 1) [.int .i64 0, .int .i64 0, .int .i64 0, .int .i64 0, .int .i64 0, .slice none 0 0, .slice none 0 0]) := HZ1.out.ext hb
      have HE2 : Hid (Ext w w2) := HE1.out.trans hb
      have HO2 : Hid (MSlice w2 vo (Msg.saidL ms r 3)) := hO
      obtain ⟨a3, c3, rfl, -⟩ := id hO
      clear hO
      clear hb HB1 HZ1 HE1 x0 x1 x2 x3 x4 x5 x6 x7
      go_wp2_with fail
      refine (HH.out _ _ HO2.out).mono ?_
      rintro e w3 ⟨rfl, hb⟩
      have HB3 : Hid (SpAt w3 w.heap.size r f (.slice a ms.length cap) true (.slice au L.length cu)) := HB2.out.ext hb
      have HZ3 : Hid (ZBox w3 (w.heap.size + 1) [.int .i64 0, .int .i64 0, .int .i64 0, .int .i64 0, .int .i64 0, .slice none 0 0, .slice none 0 0]) := HZ2.out.ext hb
      have HE3 : Hid (Ext w w3) := HE2.out.trans hb
      clear hb HB2 HZ2 HE2
      go_wp2_with fail
      refine (refuse_yes _ _).mono ?_
      rintro e w9 ⟨rfl, hw⟩
      unfold refused
      rw [hw]
      clear hw w9
      go_wp2
      exact ⟨rfl, HE3.out, Or.inl ⟨by rw [HR.out]; decide, by rw [HR.out]; rfl⟩⟩
     | false =>
      have HR : Hid (Msg.comC f ms r slot value = 0) := by show _ = _; unfold Msg.comC; rw [HRg.out, h3, h4, h5, if_neg (by decide), if_neg (by decide), if_neg (by decide), if_neg (by decide)]
      have HH : Hid _ := HH0.out false h5
      clear h3 h4 h5 HP0 HH0
      go_enter Tryz.func56, Tryz.ntmps56
      go_wp2_with fail
      refine (J1.out _).mono ?_
      rintro e w9 ⟨rfl, hw⟩
      rw [hw]
      clear hw w9
      go_wp2_with fail
      refine (J2.out _).mono ?_
      rintro e w9 ⟨rfl, hw⟩
      rw [hw]
      clear hw w9
      go_wp2_with fail
      refine (refuse_no _ _).mono ?_
      rintro e w9 ⟨rfl, hw⟩
      rw [hw]
      clear hw w9
      go_wp2_with fail
      refine (refuse_no _ _).mono ?_
      rintro e w9 ⟨rfl, hw⟩
      rw [hw]
      clear hw w9
      go_wp2_with fail
      refine (HP.out _ (((Ext.refl _).alloc _).alloc _)).mono ?_
      rintro e w1 ⟨rfl, hb⟩
      have HB1 : Hid (SpAt w1 w.heap.size r f (.slice a ms.length cap) true (.slice au L.length cu)) := ((spk_new w r f (.slice a ms.length cap) true (.slice au L.length cu) 76).ext ((Ext.refl _).alloc _)).ext hb
      have hZ0 := (zbox_new (w.alloc (.cells #[.int .i64 r.id, .int .i64 r.view, .int .i64 r.start, .int .i64 r.done, .int .i64 f, .slice a ms.length cap, .bool true, .slice au L.length cu] 76)) [.int .i64 0, .int .i64 0, .int .i64 0, .int .i64 0, .int .i64 0, .slice none 0 0, .slice none 0 0] 40).ext hb
      have HZ1 : Hid (ZBox w1 (w.heap.size + 1) [.int .i64 0, .int .i64 0, .int .i64 0, .int .i64 0, .int .i64 0, .slice none 0 0, .slice none 0 0]) := by (try simp only [World.size_alloc] at hZ0); exact hZ0
      have HE1 : Hid (Ext w w1) := (((Ext.refl _).alloc _).alloc _).trans hb
      clear hZ0
      clear hb
      go_wp2_with fail
      refine (refuse_no _ _).mono ?_
      rintro e w9 ⟨rfl, hw⟩
      rw [hw]
      clear hw w9
      obtain ⟨-, x0, x1, x2, x3, x4, x5, x6, x7⟩ := HB1.out
      go_wp2_with fail
      refine (HSe1.out _ HE1.out).mono ?_
      rintro e w2 ⟨vo, rfl, hO, hb⟩
      have HB2 : Hid (SpAt w2 w.heap.size r f (.slice a ms.length cap) true (.slice au L.length cu)) := HB1.out.ext hb
      have HZ2 : Hid (ZBox w2 (w.heap.size + 1) [.int .i64 0, .int .i64 0, .int .i64 0, .int .i64 0, .int .i64 0, .slice none 0 0, .slice none 0 0]) := HZ1.out.ext hb
      have HE2 : Hid (Ext w w2) := HE1.out.trans hb
      have HO2 : Hid (MSlice w2 vo (Msg.saidL ms r 3)) := hO
      obtain ⟨a3, c3, rfl, -⟩ := id hO
      clear hO
      clear hb HB1 HZ1 HE1 x0 x1 x2 x3 x4 x5 x6 x7
      go_wp2_with fail
      refine (HH.out _ _ HO2.out).mono ?_
      rintro e w3 ⟨rfl, hb⟩
      have HB3 : Hid (SpAt w3 w.heap.size r f (.slice a ms.length cap) true (.slice au L.length cu)) := HB2.out.ext hb
      have HZ3 : Hid (ZBox w3 (w.heap.size + 1) [.int .i64 0, .int .i64 0, .int .i64 0, .int .i64 0, .int .i64 0, .slice none 0 0, .slice none 0 0]) := HZ2.out.ext hb
      have HE3 : Hid (Ext w w3) := HE2.out.trans hb
      clear hb HB2 HZ2 HE2
      go_wp2_with fail
      refine (refuse_no _ _).mono ?_
      rintro e w9 ⟨rfl, hw⟩
      rw [hw]
      clear hw w9
      obtain ⟨-, x0, x1, x2, x3, x4, x5, x6, x7⟩ := HB3.out
      go_wp2_with fail
      refine (HV.out _).mono ?_
      rintro e w4 ⟨rfl, hb⟩
      have HZ4 : Hid (ZBox w4 (w.heap.size + 1) [.int .i64 0, .int .i64 0, .int .i64 0, .int .i64 0, .int .i64 0, .slice none 0 0, .slice none 0 0]) := HZ3.out.ext hb
      have HE4 : Hid (Ext w w4) := HE3.out.trans hb
      clear hb HB3 HZ3 HE3 x0 x1 x2 x3 x4 x5 x6 x7
      unfold magg
      obtain ⟨z0, n0⟩ := HZ4.out.2 0 _ rfl
      obtain ⟨z1, n1⟩ := HZ4.out.2 1 _ rfl
      obtain ⟨z2, n2⟩ := HZ4.out.2 2 _ rfl
      obtain ⟨z3, n3⟩ := HZ4.out.2 3 _ rfl
      obtain ⟨z4, n4⟩ := HZ4.out.2 4 _ rfl
      obtain ⟨z5, n5⟩ := HZ4.out.2 5 _ rfl
      obtain ⟨z6, n6⟩ := HZ4.out.2 6 _ rfl
      go_wp2
      refine bodyPost_ret (v := magg ⟨3, r.view, r.id, slot, value, [], []⟩ (.slice none 0 0) (.slice none 0 0)) (by simp [results, Tryz.results56, go_sem, magg, z0, z1, z2, z3, z4, z5, z6]) rfl ?_
      exact ⟨HE4.out.seven _ (by omega) _ _ _ _ _ _ _, Or.inr ⟨HR.out, none, 0, 0, none, 0, 0, rfl, trivial⟩⟩
end Go.Proofs.YtecgjdgfjgcmdaaGreat
