/- one who speaks: speakerOf. -/
import Derived.Test.YtecgjdgfjgcmdaaGreatRtGP
import Derived.Test.YtecgjdgfjgcmdaaGreatRtRP2
import Derived.Test.YtecgjdgfjgcmdaaGreatRtTk
namespace Go.Proofs.YtecgjdgfjgcmdaaGreat
open Go.RowKit
/-- A box that holds l and may be written. -/
def ZBox (w : World) (b : Nat) (l : List Value) : Prop := b < w.heap.size ∧ ∀ j u, l[j]? = some u → w.cell? ⟨b, j, none⟩ = some u ∧ w.frozen? ⟨b, j, none⟩ = false
theorem ZBox.ext {w w' : World} {b : Nat} {l : List Value} (h : ZBox w b l) (he : Ext w w') : ZBox w' b l := by
 obtain ⟨hc, hf⟩ := Ext.cell he
 exact ⟨Nat.lt_of_lt_of_le h.1 he.size, fun j u hj => ⟨(hc _ _ h.1).trans (h.2 j u hj).1, (hf _ _ h.1).trans (h.2 j u hj).2⟩⟩
theorem zbox_new (w : World) (l : List Value) (t : TypeId) : ZBox (w.alloc (.cells l.toArray t)) w.heap.size l := ⟨by simp, fun j u hj => ⟨by simpa using hj, by simp⟩⟩
theorem Ext.eight {w W : World} (h : Ext w W) (b : Nat) (hb : w.heap.size ≤ b) (a0 a1 a2 a3 a4 a5 a6 a7 : Value) : Ext w ((((((((W.setCell ⟨b, 0, none⟩ a0).setCell ⟨b, 1, none⟩ a1).setCell ⟨b, 2, none⟩ a2).setCell ⟨b, 3, none⟩ a3).setCell ⟨b, 4, none⟩ a4).setCell ⟨b, 5, none⟩ a5).setCell ⟨b, 6, none⟩ a6).setCell ⟨b, 7, none⟩ a7) :=
 (((((((h.setCell (p := ⟨b, 0, none⟩) hb _).setCell (p := ⟨b, 1, none⟩) hb _).setCell (p := ⟨b, 2, none⟩) hb _).setCell (p := ⟨b, 3, none⟩) hb _).setCell (p := ⟨b, 4, none⟩) hb _).setCell (p := ⟨b, 5, none⟩) hb _).setCell (p := ⟨b, 6, none⟩) hb _).setCell (p := ⟨b, 7, none⟩) hb _
theorem Upd.eight (W : World) (b : Nat) (a0 a1 a2 a3 a4 a5 a6 a7 : Value) : Upd b W ((((((((W.setCell ⟨b, 0, none⟩ a0).setCell ⟨b, 1, none⟩ a1).setCell ⟨b, 2, none⟩ a2).setCell ⟨b, 3, none⟩ a3).setCell ⟨b, 4, none⟩ a4).setCell ⟨b, 5, none⟩ a5).setCell ⟨b, 6, none⟩ a6).setCell ⟨b, 7, none⟩ a7) :=
 (((((((((Upd.refl b W).setAt _ _).setAt _ _).setAt _ _).setAt _ _).setAt _ _).setAt _ _).setAt _ _).setAt _ _)
namespace Msg
theorem repC_r {f : Int} {ms : List Ms} {r : Rp} (h : ledger f ms = 0) (h2 : repIn f r = false) : repC f ms r = 3 := by rw [repC_ok h]; unfold repF; rw [if_pos h2]
theorem repC_s {f : Int} {ms : List Ms} {r : Rp} (h : ledger f ms = 0) (h2 : repIn f r = true) (h3 : ¬ r.start = -1 ∧ startB f ms r.view r.start = false) : repC f ms r = 1 := by rw [repC_ok h]; unfold repF; rw [if_neg (by simp [h2]), if_pos h3]
theorem repC_d {f : Int} {ms : List Ms} {r : Rp} (h : ledger f ms = 0) (h2 : repIn f r = true) (h3 : ¬ (¬ r.start = -1 ∧ startB f ms r.view r.start = false)) (h4 : ((log f ms).length : Int) < r.done) : repC f ms r = 8 := by rw [repC_ok h]; unfold repF; rw [if_neg (by simp [h2]), if_neg h3, if_pos h4]
theorem repC_z {f : Int} {ms : List Ms} {r : Rp} (h : ledger f ms = 0) (h2 : repIn f r = true) (h3 : ¬ (¬ r.start = -1 ∧ startB f ms r.view r.start = false)) (h4 : ¬ ((log f ms).length : Int) < r.done) : repC f ms r = 0 := by rw [repC_ok h]; unfold repF; rw [if_neg (by simp [h2]), if_neg h3, if_neg h4]
end Msg
/-- What speakerOf answers. -/
def SpRet (w : World) (f : Int) (v : Value) (ms : List Ms) (r : Rp) (e : Ending) (w' : World) : Prop :=
 Ext w w' ∧ ((¬ Msg.repC f ms r = 0 ∧ e = refused (Msg.repC f ms r)) ∨ (Msg.repC f ms r = 0 ∧ ∃ u, e = .returned (sagg r f v (Msg.inV r) u) ∧ ISlice w' u (if Msg.inV r = true then Msg.startL ms r.view r.start else [])))

set_option linter.unusedSimpArgs false in
set_option maxHeartbeats 8000000 in
set_option maxRecDepth 100000 in
theorem speakerOf_any (f : Int) (v : Value) (ms : List Ms) (r : Rp) (w : World) (hS : MSlice w v ms) :
  Calls Tryz.prog 98 #[.int .i64 f, v, ragg r] w (SpRet w f v ms r) := by
 have HF : Hid (∀ wx, Ext w wx → Calls Tryz.prog 74 #[.int .i64 f, v] wx fun e w' => e = .returned (.int .i64 (Msg.ledger f ms)) ∧ Ext wx w') := fun wx he => implLedgerFault_any f v ms wx (hS.ext he)
 have HSt0 : Hid (Msg.ledger f ms = 0 → ∀ wx, Ext w wx → Calls Tryz.prog 129 #[.int .i64 f, v, .int .i64 r.view, .int .i64 r.start] wx fun e w' => ∃ vo g, e = .returned (.tuple #[vo, .bool (Msg.startB f ms r.view r.start)]) ∧ wx.heap.size ≤ g ∧ Led.IOwn w' vo g (if Msg.startB f ms r.view r.start = true then Msg.startL ms r.view r.start else []) ∧ Ext wx w') := fun h wx he => valuesAtStart_any f v ms r.view r.start wx (hS.ext he) h
 have HLg0 : Hid (Msg.ledger f ms = 0 → ∀ wx, Ext w wx → Calls Tryz.prog 149 #[.int .i64 f, v] wx fun e w' => ∃ vo g, e = .returned vo ∧ wx.heap.size ≤ g ∧ Led.IOwn w' vo g (Msg.log f ms) ∧ Ext wx w') := fun h wx he => logIn_any f v ms wx (hS.ext he) h
 obtain ⟨a, cap, rfl, -, -, -⟩ := hS
 unfold ragg
 by_cases hc : Msg.ledger f ms = 0
 ·obtain ⟨hf0, hf1, hml⟩ := Msg.ledger_zero hc
  have HC : Hid (Msg.ledger f ms = 0) := hc
  rw [hc] at HF
  have HLg : Hid _ := HLg0.out hc
  have HSt1 : Hid _ := HSt0.out hc
  clear hc HLg0 HSt0
  have HI1 : Hid (∀ bb, decide (1 ≤ r.id ∧ r.id ≤ 3 * f + 1) = bb → ∀ wx, Calls Tryz.prog 83 #[.int .i64 f, .int .i64 r.id] wx fun e w' => e = .returned (.bool bb) ∧ w' = wx) := fun bb h wx => by have q := isReplica_any f r.id wx hf0 hf1; rw [show (decide (1 ≤ r.id) && decide (r.id ≤ 3 * f + 1)) = bb from by rw [← h, Bool.decide_and]] at q; exact q
  have HI2 : Hid (∀ bb, decide (0 ≤ r.view ∧ r.view ≤ 20) = bb → ∀ wx, Calls Tryz.prog 84 #[.int .i64 r.view, .int .i64 20] wx fun e w' => e = .returned (.bool bb) ∧ w' = wx) := fun bb h wx => by have q := isUpToM_any r.view 20 wx; rw [show (decide (0 ≤ r.view) && decide (r.view ≤ 20)) = bb from by rw [← h, Bool.decide_and]] at q; exact q
  have HI3 : Hid (∀ bb, decide (0 ≤ r.done ∧ r.done ≤ 30) = bb → ∀ wx, Calls Tryz.prog 84 #[.int .i64 r.done, .int .i64 30] wx fun e w' => e = .returned (.bool bb) ∧ w' = wx) := fun bb h wx => by have q := isUpToM_any r.done 30 wx; rw [show (decide (0 ≤ r.done) && decide (r.done ≤ 30)) = bb from by rw [← h, Bool.decide_and]] at q; exact q
  clear hf0 hf1 hml
  cases h1 : decide (1 ≤ r.id ∧ r.id ≤ 3 * f + 1) with
  | false =>
   have HR : Hid (Msg.repC f ms r = 3) := Msg.repC_r HC.out (by unfold Msg.repIn; rw [h1]; rfl)
   have J1 : Hid _ := HI1.out false h1
   clear h1 HI1 HI2 HI3 HSt1 HLg
   go_enter Tryz.func98, Tryz.ntmps98
   go_wp2_with fail
   refine (HF.out _ (((Ext.refl _).alloc _).alloc _)).mono ?_
   rintro e w1 ⟨rfl, hb⟩
   have HR1 : Hid (RpAt w1 w.heap.size r) := ((rbox_new w r 29).ext ((Ext.refl _).alloc _)).ext hb
   have hZ0 := (zbox_new (w.alloc (.cells #[.int .i64 r.id, .int .i64 r.view, .int .i64 r.start, .int .i64 r.done] 29)) [.int .i64 0, .int .i64 0, .int .i64 0, .int .i64 0, .int .i64 0, .slice none 0 0, .bool false, .slice none 0 0] 76).ext hb
   have HZ1 : Hid (ZBox w1 (w.heap.size + 1) [.int .i64 0, .int .i64 0, .int .i64 0, .int .i64 0, .int .i64 0, .slice none 0 0, .bool false, .slice none 0 0]) := by (try simp only [World.size_alloc] at hZ0); exact hZ0
   have HE1 : Hid (Ext w w1) := (((Ext.refl _).alloc _).alloc _).trans hb
   clear hb hZ0
   obtain ⟨-, x0, x1, x2, x3⟩ := HR1.out
   go_wp2_with fail
   refine (refuse_no _ _).mono ?_
   rintro e w9 ⟨rfl, hw⟩
   rw [hw]
   clear hw w9
   go_wp2_with fail
   refine (J1.out _).mono ?_
   rintro e w9 ⟨rfl, hw⟩
   rw [hw]
   clear hw w9
   go_wp2_with fail
   refine (refuse_yes _ _).mono ?_
   rintro e w9 ⟨rfl, hw⟩
   unfold refused
   rw [hw]
   clear hw w9
   go_wp2
   exact ⟨rfl, HE1.out, Or.inl ⟨by rw [HR.out]; decide, by rw [HR.out]; rfl⟩⟩
  | true =>
   have J1 : Hid _ := HI1.out true h1
   cases h2 : decide (0 ≤ r.view ∧ r.view ≤ 20) with
   | false =>
    have HR : Hid (Msg.repC f ms r = 3) := Msg.repC_r HC.out (by unfold Msg.repIn; rw [h1, h2]; rfl)
    have J2 : Hid _ := HI2.out false h2
    clear h1 h2 HI1 HI2 HI3 HSt1 HLg
    go_enter Tryz.func98, Tryz.ntmps98
    go_wp2_with fail
    refine (HF.out _ (((Ext.refl _).alloc _).alloc _)).mono ?_
    rintro e w1 ⟨rfl, hb⟩
    have HR1 : Hid (RpAt w1 w.heap.size r) := ((rbox_new w r 29).ext ((Ext.refl _).alloc _)).ext hb
    have hZ0 := (zbox_new (w.alloc (.cells #[.int .i64 r.id, .int .i64 r.view, .int .i64 r.start, .int .i64 r.done] 29)) [.int .i64 0, .int .i64 0, .int .i64 0, .int .i64 0, .int .i64 0, .slice none 0 0, .bool false, .slice none 0 0] 76).ext hb
    have HZ1 : Hid (ZBox w1 (w.heap.size + 1) [.int .i64 0, .int .i64 0, .int .i64 0, .int .i64 0, .int .i64 0, .slice none 0 0, .bool false, .slice none 0 0]) := by (try simp only [World.size_alloc] at hZ0); exact hZ0
    have HE1 : Hid (Ext w w1) := (((Ext.refl _).alloc _).alloc _).trans hb
    clear hb hZ0
    obtain ⟨-, x0, x1, x2, x3⟩ := HR1.out
    go_wp2_with fail
    refine (refuse_no _ _).mono ?_
    rintro e w9 ⟨rfl, hw⟩
    rw [hw]
    clear hw w9
    go_wp2_with fail
    refine (J1.out _).mono ?_
    rintro e w9 ⟨rfl, hw⟩
    rw [hw]
    clear hw w9
    go_wp2_with fail
    refine (J2.out _).mono ?_
    rintro e w9 ⟨rfl, hw⟩
    rw [hw]
    clear hw w9
    go_wp2_with fail
    refine (refuse_yes _ _).mono ?_
    rintro e w9 ⟨rfl, hw⟩
    unfold refused
    rw [hw]
    clear hw w9
    go_wp2
    exact ⟨rfl, HE1.out, Or.inl ⟨by rw [HR.out]; decide, by rw [HR.out]; rfl⟩⟩
   | true =>
    have J2 : Hid _ := HI2.out true h2
    cases h3 : decide (0 ≤ r.done ∧ r.done ≤ 30) with
    | false =>
     have HR : Hid (Msg.repC f ms r = 3) := Msg.repC_r HC.out (by unfold Msg.repIn; rw [h1, h2, h3]; rfl)
     have J3 : Hid _ := HI3.out false h3
     clear h1 h2 h3 HI1 HI2 HI3 HSt1 HLg
     go_enter Tryz.func98, Tryz.ntmps98
     go_wp2_with fail
     refine (HF.out _ (((Ext.refl _).alloc _).alloc _)).mono ?_
     rintro e w1 ⟨rfl, hb⟩
     have HR1 : Hid (RpAt w1 w.heap.size r) := ((rbox_new w r 29).ext ((Ext.refl _).alloc _)).ext hb
     have hZ0 := (zbox_new (w.alloc (.cells #[.int .i64 r.id, .int .i64 r.view, .int .i64 r.start, .int .i64 r.done] 29)) [.int .i64 0, .int .i64 0, .int .i64 0, .int .i64 0, .int .i64 0, .slice none 0 0, .bool false, .slice none 0 0] 76).ext hb
     have HZ1 : Hid (ZBox w1 (w.heap.size + 1) [.int .i64 0, .int .i64 0, .int .i64 0, .int .i64 0, .int .i64 0, .slice none 0 0, .bool false, .slice none 0 0]) := by (try simp only [World.size_alloc] at hZ0); exact hZ0
     have HE1 : Hid (Ext w w1) := (((Ext.refl _).alloc _).alloc _).trans hb
     clear hb hZ0
     obtain ⟨-, x0, x1, x2, x3⟩ := HR1.out
     go_wp2_with fail
     refine (refuse_no _ _).mono ?_
     rintro e w9 ⟨rfl, hw⟩
     rw [hw]
     clear hw w9
     go_wp2_with fail
     refine (J1.out _).mono ?_
     rintro e w9 ⟨rfl, hw⟩
     rw [hw]
     clear hw w9
     go_wp2_with fail
     refine (J2.out _).mono ?_
     rintro e w9 ⟨rfl, hw⟩
     rw [hw]
     clear hw w9
     go_wp2_with fail
     refine (J3.out _).mono ?_
     rintro e w9 ⟨rfl, hw⟩
     rw [hw]
     clear hw w9
     go_wp2_with fail
     refine (refuse_yes _ _).mono ?_
     rintro e w9 ⟨rfl, hw⟩
     unfold refused
     rw [hw]
     clear hw w9
     go_wp2
     exact ⟨rfl, HE1.out, Or.inl ⟨by rw [HR.out]; decide, by rw [HR.out]; rfl⟩⟩
    | true =>
     have J3 : Hid _ := HI3.out true h3
     have HIn : Hid (Msg.repIn f r = true) := by show _ = _; unfold Msg.repIn; rw [h1, h2, h3]; rfl
     clear h1 h2 h3 HI1 HI2 HI3
     have HVo : Hid (∀ b, Msg.startB f ms r.view r.start = b → (∀ wx, Ext w wx → Calls Tryz.prog 129 #[.int .i64 f, .slice a ms.length cap, .int .i64 r.view, .int .i64 r.start] wx fun e w' => ∃ vo g, e = .returned (.tuple #[vo, .bool b]) ∧ wx.heap.size ≤ g ∧ Led.IOwn w' vo g (if b = true then Msg.startL ms r.view r.start else []) ∧ Ext wx w')) := fun b hb wx he => by have q := HSt1.out wx he; rw [hb] at q; exact q
     clear HSt1
     by_cases h4 : ¬ r.start = -1 ∧ Msg.startB f ms r.view r.start = false
     ·have HR : Hid (Msg.repC f ms r = 1) := Msg.repC_s HC.out HIn.out h4
      have HSt : Hid _ := HVo.out false h4.2
      have g4 : (r.start != -1) = true := by simpa using h4.1
      clear h4 HVo HLg
      go_enter Tryz.func98, Tryz.ntmps98
      go_wp2_with fail
      refine (HF.out _ (((Ext.refl _).alloc _).alloc _)).mono ?_
      rintro e w1 ⟨rfl, hb⟩
      have HR1 : Hid (RpAt w1 w.heap.size r) := ((rbox_new w r 29).ext ((Ext.refl _).alloc _)).ext hb
      have hZ0 := (zbox_new (w.alloc (.cells #[.int .i64 r.id, .int .i64 r.view, .int .i64 r.start, .int .i64 r.done] 29)) [.int .i64 0, .int .i64 0, .int .i64 0, .int .i64 0, .int .i64 0, .slice none 0 0, .bool false, .slice none 0 0] 76).ext hb
      have HZ1 : Hid (ZBox w1 (w.heap.size + 1) [.int .i64 0, .int .i64 0, .int .i64 0, .int .i64 0, .int .i64 0, .slice none 0 0, .bool false, .slice none 0 0]) := by (try simp only [World.size_alloc] at hZ0); exact hZ0
      have HE1 : Hid (Ext w w1) := (((Ext.refl _).alloc _).alloc _).trans hb
      clear hb hZ0
      obtain ⟨-, x0, x1, x2, x3⟩ := HR1.out
      go_wp2_with fail
      refine (refuse_no _ _).mono ?_
      rintro e w9 ⟨rfl, hw⟩
      rw [hw]
      clear hw w9
      go_wp2_with fail
      refine (J1.out _).mono ?_
      rintro e w9 ⟨rfl, hw⟩
      rw [hw]
      clear hw w9
      go_wp2_with fail
      refine (J2.out _).mono ?_
      rintro e w9 ⟨rfl, hw⟩
      rw [hw]
      clear hw w9
      go_wp2_with fail
      refine (J3.out _).mono ?_
      rintro e w9 ⟨rfl, hw⟩
      rw [hw]
      clear hw w9
      go_wp2_with fail
      refine (refuse_no _ _).mono ?_
      rintro e w9 ⟨rfl, hw⟩
      rw [hw]
      clear hw w9
      go_wp2_with fail
      refine (HSt.out _ HE1.out).mono ?_
      rintro e w2 ⟨vo, g2, rfl, hg2, hO2, hb⟩
      have HR2 : Hid (RpAt w2 w.heap.size r) := HR1.out.ext hb
      have HZ2 : Hid (ZBox w2 (w.heap.size + 1) [.int .i64 0, .int .i64 0, .int .i64 0, .int .i64 0, .int .i64 0, .slice none 0 0, .bool false, .slice none 0 0]) := HZ1.out.ext hb
      have HE2 : Hid (Ext w w2) := HE1.out.trans hb
      have HO2 : Hid (Led.IOwn w2 vo g2 (if false = true then Msg.startL ms r.view r.start else []) ∧ w.heap.size + 1 < g2) := ⟨hO2, Nat.lt_of_lt_of_le HZ1.out.1 hg2⟩
      obtain ⟨av, cv, rfl, -⟩ := id hO2
      clear hb hO2 hg2 x0 x1 x2 x3 HR1 HZ1
      obtain ⟨-, x0, x1, x2, x3⟩ := HR2.out
      go_wp2_with fail
      refine (refuse_yes _ _).mono ?_
      rintro e w9 ⟨rfl, hw⟩
      unfold refused
      rw [hw]
      clear hw w9
      go_wp2
      exact ⟨rfl, HE2.out, Or.inl ⟨by rw [HR.out]; decide, by rw [HR.out]; rfl⟩⟩
     ·cases h5 : Msg.startB f ms r.view r.start with
      | false =>
       have h6 : r.start = -1 := by
        by_cases h6 : r.start = -1
        ·exact h6
        ·exact absurd ⟨h6, h5⟩ h4
       have g4 : (r.start != -1) = false := by simpa using h6
       have HSt : Hid _ := HVo.out false h5
       have HL4 : Hid (¬ (¬ r.start = -1 ∧ Msg.startB f ms r.view r.start = false)) := h4
       have H5 : Hid (Msg.startB f ms r.view r.start = false) := h5
       clear HVo h4 h5 h6
       go_enter Tryz.func98, Tryz.ntmps98
       go_wp2_with fail
       refine (HF.out _ (((Ext.refl _).alloc _).alloc _)).mono ?_
       rintro e w1 ⟨rfl, hb⟩
       have HR1 : Hid (RpAt w1 w.heap.size r) := ((rbox_new w r 29).ext ((Ext.refl _).alloc _)).ext hb
       have hZ0 := (zbox_new (w.alloc (.cells #[.int .i64 r.id, .int .i64 r.view, .int .i64 r.start, .int .i64 r.done] 29)) [.int .i64 0, .int .i64 0, .int .i64 0, .int .i64 0, .int .i64 0, .slice none 0 0, .bool false, .slice none 0 0] 76).ext hb
       have HZ1 : Hid (ZBox w1 (w.heap.size + 1) [.int .i64 0, .int .i64 0, .int .i64 0, .int .i64 0, .int .i64 0, .slice none 0 0, .bool false, .slice none 0 0]) := by (try simp only [World.size_alloc] at hZ0); exact hZ0
       have HE1 : Hid (Ext w w1) := (((Ext.refl _).alloc _).alloc _).trans hb
       clear hb hZ0
       obtain ⟨-, x0, x1, x2, x3⟩ := HR1.out
       go_wp2_with fail
       refine (refuse_no _ _).mono ?_
       rintro e w9 ⟨rfl, hw⟩
       rw [hw]
       clear hw w9
       go_wp2_with fail
       refine (J1.out _).mono ?_
       rintro e w9 ⟨rfl, hw⟩
       rw [hw]
       clear hw w9
       go_wp2_with fail
       refine (J2.out _).mono ?_
       rintro e w9 ⟨rfl, hw⟩
       rw [hw]
       clear hw w9
       go_wp2_with fail
       refine (J3.out _).mono ?_
       rintro e w9 ⟨rfl, hw⟩
       rw [hw]
       clear hw w9
       go_wp2_with fail
       refine (refuse_no _ _).mono ?_
       rintro e w9 ⟨rfl, hw⟩
       rw [hw]
       clear hw w9
       go_wp2_with fail
       refine (HSt.out _ HE1.out).mono ?_
       rintro e w2 ⟨vo, g2, rfl, hg2, hO2, hb⟩
       have HR2 : Hid (RpAt w2 w.heap.size r) := HR1.out.ext hb
       have HZ2 : Hid (ZBox w2 (w.heap.size + 1) [.int .i64 0, .int .i64 0, .int .i64 0, .int .i64 0, .int .i64 0, .slice none 0 0, .bool false, .slice none 0 0]) := HZ1.out.ext hb
       have HE2 : Hid (Ext w w2) := HE1.out.trans hb
       have HO2 : Hid (Led.IOwn w2 vo g2 (if false = true then Msg.startL ms r.view r.start else []) ∧ w.heap.size + 1 < g2) := ⟨hO2, Nat.lt_of_lt_of_le HZ1.out.1 hg2⟩
       obtain ⟨av, cv, rfl, -⟩ := id hO2
       clear hb hO2 hg2 x0 x1 x2 x3 HR1 HZ1
       obtain ⟨-, x0, x1, x2, x3⟩ := HR2.out
       go_wp2_with fail
       refine (refuse_no _ _).mono ?_
       rintro e w9 ⟨rfl, hw⟩
       rw [hw]
       clear hw w9
       by_cases h7 : ((Msg.log f ms).length : Int) < r.done
       ·have HR : Hid (Msg.repC f ms r = 8) := Msg.repC_d HC.out HIn.out HL4.out h7
        have P7 : Hid (decide (((Msg.log f ms).length : Int) < r.done) = true) := decide_eq_true h7
        clear h7
        have HS : Hid (∀ W', Ext w2 W' → W'.cell? ⟨w.heap.size, 3, none⟩ = some (.int .i64 r.done)) := fun W' he => (HR2.out.ext he).2.2.2.2
        go_wp2
        clear x0 x1 x2 x3
        refine wp_region_held_drew (S := (fun W' : World => W'.cell? ⟨w.heap.size, 3, none⟩ = some (.int .i64 r.done))) (by kernel_rfl) (HS.out _ ((Ext.refl _).drew)) (fun hHeld => ?_)
        refine tk 0 ⟨some 53, .fieldAddr 29 (.tmp 5) 3, 0, oz211, #[], none⟩ ?_
        refine tk 1 ⟨some 54, .load 2 (.tmp 53), 2, oz211, #[⟨0, .data⟩], none⟩ ?_
        refine tk 2 ⟨some 55, .move (.tmp 0), 2, oz211, #[], none⟩ ?_
        refine tk 3 ⟨some 56, .move (.tmp 1), 27, oz211, #[], none⟩ ?_
        refine wpAnyH_ready (rs := [4]) (by kernel_rfl) (by simp) (AllReadyH.cons rfl (fun K hK => ?_) AllReadyH.nil)
        go_simp
        refine (HLg.out _ HE2.out.drew).mono ?_
        rintro e w3 ⟨v3, g3, rfl, -, hO3, hb⟩
        have X3 : Hid (Ext w2 w3) := ((Ext.refl _).drew).trans hb
        obtain ⟨a3, c3, rfl, -⟩ := id hO3
        clear hb hO3
        refine hK.out _ _ (by exact HS.out _ X3.out) (fun hHeld1 => ?_)
        clear hK K
        refine tk 5 ⟨some 58, .call { callee := .builtin .len, args := #[.tmp 57], argTypes := #[38] }, 3, oz211, #[⟨4, .data⟩], none⟩ ?_
        refine tk 6 ⟨some 59, .binOp .gtr 2 (.tmp 54) (.tmp 58) 2, 4, oz211, oy212, none⟩ ?_
        (try rw [P7.out])
        refine wpAnyH_ready (rs := [7]) (by kernel_rfl) (by simp) (AllReadyH.cons rfl (fun K hK => ?_) AllReadyH.nil)
        go_simp
        refine (refuse_yes _ _).mono ?_
        rintro e w9 ⟨rfl, hw⟩
        rw [hw]
        clear hw w9
        exact ⟨rfl, HE2.out.trans X3.out, Or.inl ⟨by rw [HR.out]; decide, by rw [HR.out]; rfl⟩⟩
       ·have HR : Hid (Msg.repC f ms r = 0) := Msg.repC_z HC.out HIn.out HL4.out h7
        have P7 : Hid (decide (((Msg.log f ms).length : Int) < r.done) = false) := decide_eq_false h7
        clear h7
        have HS : Hid (∀ W', Ext w2 W' → W'.cell? ⟨w.heap.size, 3, none⟩ = some (.int .i64 r.done)) := fun W' he => (HR2.out.ext he).2.2.2.2
        go_wp2
        clear x0 x1 x2 x3
        refine wp_region_held_drew (S := (fun W' : World => W'.cell? ⟨w.heap.size, 3, none⟩ = some (.int .i64 r.done))) (by kernel_rfl) (HS.out _ ((Ext.refl _).drew)) (fun hHeld => ?_)
        refine tk 0 ⟨some 53, .fieldAddr 29 (.tmp 5) 3, 0, oz211, #[], none⟩ ?_
        refine tk 1 ⟨some 54, .load 2 (.tmp 53), 2, oz211, #[⟨0, .data⟩], none⟩ ?_
        refine tk 2 ⟨some 55, .move (.tmp 0), 2, oz211, #[], none⟩ ?_
        refine tk 3 ⟨some 56, .move (.tmp 1), 27, oz211, #[], none⟩ ?_
        refine wpAnyH_ready (rs := [4]) (by kernel_rfl) (by simp) (AllReadyH.cons rfl (fun K hK => ?_) AllReadyH.nil)
        go_simp
        refine (HLg.out _ HE2.out.drew).mono ?_
        rintro e w3 ⟨v3, g3, rfl, -, hO3, hb⟩
        have X3 : Hid (Ext w2 w3) := ((Ext.refl _).drew).trans hb
        obtain ⟨a3, c3, rfl, -⟩ := id hO3
        clear hb hO3
        refine hK.out _ _ (by exact HS.out _ X3.out) (fun hHeld1 => ?_)
        clear hK K
        refine tk 5 ⟨some 58, .call { callee := .builtin .len, args := #[.tmp 57], argTypes := #[38] }, 3, oz211, #[⟨4, .data⟩], none⟩ ?_
        refine tk 6 ⟨some 59, .binOp .gtr 2 (.tmp 54) (.tmp 58) 2, 4, oz211, oy212, none⟩ ?_
        (try rw [P7.out])
        refine wpAnyH_ready (rs := [7]) (by kernel_rfl) (by simp) (AllReadyH.cons rfl (fun K hK => ?_) AllReadyH.nil)
        go_simp
        refine (refuse_no _ _).mono ?_
        rintro e w9 ⟨rfl, hw⟩
        rw [hw]
        clear hw w9
        refine hK.out _ _ (by exact HS.out _ X3.out) (fun hHeld2 => ?_)
        clear hK K
        refine wpAnyH_done (by kernel_rfl) ?_ _
        have HIV : Hid (Msg.inV r = false) := by show _ = _; rw [← Msg.startB_inV (f := f) (ms := ms) (by rw [← Msg.repC_ok HC.out]; exact HR.out)]; exact H5.out
        have HZ3 : Hid (ZBox w3 (w.heap.size + 1) [.int .i64 0, .int .i64 0, .int .i64 0, .int .i64 0, .int .i64 0, .slice none 0 0, .bool false, .slice none 0 0]) := HZ2.out.ext X3.out
        obtain ⟨z0, n0⟩ := HZ3.out.2 0 _ rfl
        obtain ⟨z1, n1⟩ := HZ3.out.2 1 _ rfl
        obtain ⟨z2, n2⟩ := HZ3.out.2 2 _ rfl
        obtain ⟨z3, n3⟩ := HZ3.out.2 3 _ rfl
        obtain ⟨z4, n4⟩ := HZ3.out.2 4 _ rfl
        obtain ⟨z5, n5⟩ := HZ3.out.2 5 _ rfl
        obtain ⟨z6, n6⟩ := HZ3.out.2 6 _ rfl
        obtain ⟨z7, n7⟩ := HZ3.out.2 7 _ rfl
        obtain ⟨-, x0, x1, x2, x3⟩ := HR2.out.ext X3.out
        go_wp2
        refine bodyPost_ret (v := sagg r f (.slice a ms.length cap) false (.slice av 0 cv)) (by simp [results, Tryz.results98, go_sem, sagg, z0, z1, z2, z3, z4, z5, z6, z7]) rfl ?_
        refine ⟨(HE2.out.trans X3.out).eight _ (by omega) _ _ _ _ _ _ _ _, Or.inr ⟨HR.out, _, by rw [HIV.out], ?_⟩⟩
        rw [HIV.out]
        have q := (HO2.out.1.ext X3.out)
        exact (q.upd' (Upd.eight _ _ _ _ _ _ _ _ _ _) (fun _ => by have := HO2.out.2; omega)).slice
      | true =>
       have HSt : Hid _ := HVo.out true h5
       have HL4 : Hid (¬ (¬ r.start = -1 ∧ Msg.startB f ms r.view r.start = false)) := h4
       have H5 : Hid (Msg.startB f ms r.view r.start = true) := h5
       clear HVo h4 h5
       by_cases h6 : r.start = -1
       ·have g4 : (r.start != -1) = false := by simpa using h6
        clear h6
        go_enter Tryz.func98, Tryz.ntmps98
        go_wp2_with fail
        refine (HF.out _ (((Ext.refl _).alloc _).alloc _)).mono ?_
        rintro e w1 ⟨rfl, hb⟩
        have HR1 : Hid (RpAt w1 w.heap.size r) := ((rbox_new w r 29).ext ((Ext.refl _).alloc _)).ext hb
        have hZ0 := (zbox_new (w.alloc (.cells #[.int .i64 r.id, .int .i64 r.view, .int .i64 r.start, .int .i64 r.done] 29)) [.int .i64 0, .int .i64 0, .int .i64 0, .int .i64 0, .int .i64 0, .slice none 0 0, .bool false, .slice none 0 0] 76).ext hb
        have HZ1 : Hid (ZBox w1 (w.heap.size + 1) [.int .i64 0, .int .i64 0, .int .i64 0, .int .i64 0, .int .i64 0, .slice none 0 0, .bool false, .slice none 0 0]) := by (try simp only [World.size_alloc] at hZ0); exact hZ0
        have HE1 : Hid (Ext w w1) := (((Ext.refl _).alloc _).alloc _).trans hb
        clear hb hZ0
        obtain ⟨-, x0, x1, x2, x3⟩ := HR1.out
        go_wp2_with fail
        refine (refuse_no _ _).mono ?_
        rintro e w9 ⟨rfl, hw⟩
        rw [hw]
        clear hw w9
        go_wp2_with fail
        refine (J1.out _).mono ?_
        rintro e w9 ⟨rfl, hw⟩
        rw [hw]
        clear hw w9
        go_wp2_with fail
        refine (J2.out _).mono ?_
        rintro e w9 ⟨rfl, hw⟩
        rw [hw]
        clear hw w9
        go_wp2_with fail
        refine (J3.out _).mono ?_
        rintro e w9 ⟨rfl, hw⟩
        rw [hw]
        clear hw w9
        go_wp2_with fail
        refine (refuse_no _ _).mono ?_
        rintro e w9 ⟨rfl, hw⟩
        rw [hw]
        clear hw w9
        go_wp2_with fail
        refine (HSt.out _ HE1.out).mono ?_
        rintro e w2 ⟨vo, g2, rfl, hg2, hO2, hb⟩
        have HR2 : Hid (RpAt w2 w.heap.size r) := HR1.out.ext hb
        have HZ2 : Hid (ZBox w2 (w.heap.size + 1) [.int .i64 0, .int .i64 0, .int .i64 0, .int .i64 0, .int .i64 0, .slice none 0 0, .bool false, .slice none 0 0]) := HZ1.out.ext hb
        have HE2 : Hid (Ext w w2) := HE1.out.trans hb
        have HO2 : Hid (Led.IOwn w2 vo g2 (if true = true then Msg.startL ms r.view r.start else []) ∧ w.heap.size + 1 < g2) := ⟨hO2, Nat.lt_of_lt_of_le HZ1.out.1 hg2⟩
        obtain ⟨av, cv, rfl, -⟩ := id hO2
        clear hb hO2 hg2 x0 x1 x2 x3 HR1 HZ1
        obtain ⟨-, x0, x1, x2, x3⟩ := HR2.out
        go_wp2_with fail
        refine (refuse_no _ _).mono ?_
        rintro e w9 ⟨rfl, hw⟩
        rw [hw]
        clear hw w9
        by_cases h7 : ((Msg.log f ms).length : Int) < r.done
        ·have HR : Hid (Msg.repC f ms r = 8) := Msg.repC_d HC.out HIn.out HL4.out h7
         have P7 : Hid (decide (((Msg.log f ms).length : Int) < r.done) = true) := decide_eq_true h7
         clear h7
         have HS : Hid (∀ W', Ext w2 W' → W'.cell? ⟨w.heap.size, 3, none⟩ = some (.int .i64 r.done)) := fun W' he => (HR2.out.ext he).2.2.2.2
         go_wp2
         clear x0 x1 x2 x3
         refine wp_region_held_drew (S := (fun W' : World => W'.cell? ⟨w.heap.size, 3, none⟩ = some (.int .i64 r.done))) (by kernel_rfl) (HS.out _ ((Ext.refl _).drew)) (fun hHeld => ?_)
         refine tk 0 ⟨some 53, .fieldAddr 29 (.tmp 5) 3, 0, oz211, #[], none⟩ ?_
         refine tk 1 ⟨some 54, .load 2 (.tmp 53), 2, oz211, #[⟨0, .data⟩], none⟩ ?_
         refine tk 2 ⟨some 55, .move (.tmp 0), 2, oz211, #[], none⟩ ?_
         refine tk 3 ⟨some 56, .move (.tmp 1), 27, oz211, #[], none⟩ ?_
         refine wpAnyH_ready (rs := [4]) (by kernel_rfl) (by simp) (AllReadyH.cons rfl (fun K hK => ?_) AllReadyH.nil)
         go_simp
         refine (HLg.out _ HE2.out.drew).mono ?_
         rintro e w3 ⟨v3, g3, rfl, -, hO3, hb⟩
         have X3 : Hid (Ext w2 w3) := ((Ext.refl _).drew).trans hb
         obtain ⟨a3, c3, rfl, -⟩ := id hO3
         clear hb hO3
         refine hK.out _ _ (by exact HS.out _ X3.out) (fun hHeld1 => ?_)
         clear hK K
         refine tk 5 ⟨some 58, .call { callee := .builtin .len, args := #[.tmp 57], argTypes := #[38] }, 3, oz211, #[⟨4, .data⟩], none⟩ ?_
         refine tk 6 ⟨some 59, .binOp .gtr 2 (.tmp 54) (.tmp 58) 2, 4, oz211, oy212, none⟩ ?_
         (try rw [P7.out])
         refine wpAnyH_ready (rs := [7]) (by kernel_rfl) (by simp) (AllReadyH.cons rfl (fun K hK => ?_) AllReadyH.nil)
         go_simp
         refine (refuse_yes _ _).mono ?_
         rintro e w9 ⟨rfl, hw⟩
         rw [hw]
         clear hw w9
         exact ⟨rfl, HE2.out.trans X3.out, Or.inl ⟨by rw [HR.out]; decide, by rw [HR.out]; rfl⟩⟩
        ·have HR : Hid (Msg.repC f ms r = 0) := Msg.repC_z HC.out HIn.out HL4.out h7
         have P7 : Hid (decide (((Msg.log f ms).length : Int) < r.done) = false) := decide_eq_false h7
         clear h7
         have HS : Hid (∀ W', Ext w2 W' → W'.cell? ⟨w.heap.size, 3, none⟩ = some (.int .i64 r.done)) := fun W' he => (HR2.out.ext he).2.2.2.2
         go_wp2
         clear x0 x1 x2 x3
         refine wp_region_held_drew (S := (fun W' : World => W'.cell? ⟨w.heap.size, 3, none⟩ = some (.int .i64 r.done))) (by kernel_rfl) (HS.out _ ((Ext.refl _).drew)) (fun hHeld => ?_)
         refine tk 0 ⟨some 53, .fieldAddr 29 (.tmp 5) 3, 0, oz211, #[], none⟩ ?_
         refine tk 1 ⟨some 54, .load 2 (.tmp 53), 2, oz211, #[⟨0, .data⟩], none⟩ ?_
         refine tk 2 ⟨some 55, .move (.tmp 0), 2, oz211, #[], none⟩ ?_
         refine tk 3 ⟨some 56, .move (.tmp 1), 27, oz211, #[], none⟩ ?_
         refine wpAnyH_ready (rs := [4]) (by kernel_rfl) (by simp) (AllReadyH.cons rfl (fun K hK => ?_) AllReadyH.nil)
         go_simp
         refine (HLg.out _ HE2.out.drew).mono ?_
         rintro e w3 ⟨v3, g3, rfl, -, hO3, hb⟩
         have X3 : Hid (Ext w2 w3) := ((Ext.refl _).drew).trans hb
         obtain ⟨a3, c3, rfl, -⟩ := id hO3
         clear hb hO3
         refine hK.out _ _ (by exact HS.out _ X3.out) (fun hHeld1 => ?_)
         clear hK K
         refine tk 5 ⟨some 58, .call { callee := .builtin .len, args := #[.tmp 57], argTypes := #[38] }, 3, oz211, #[⟨4, .data⟩], none⟩ ?_
         refine tk 6 ⟨some 59, .binOp .gtr 2 (.tmp 54) (.tmp 58) 2, 4, oz211, oy212, none⟩ ?_
         (try rw [P7.out])
         refine wpAnyH_ready (rs := [7]) (by kernel_rfl) (by simp) (AllReadyH.cons rfl (fun K hK => ?_) AllReadyH.nil)
         go_simp
         refine (refuse_no _ _).mono ?_
         rintro e w9 ⟨rfl, hw⟩
         rw [hw]
         clear hw w9
         refine hK.out _ _ (by exact HS.out _ X3.out) (fun hHeld2 => ?_)
         clear hK K
         refine wpAnyH_done (by kernel_rfl) ?_ _
         have HIV : Hid (Msg.inV r = true) := by show _ = _; rw [← Msg.startB_inV (f := f) (ms := ms) (by rw [← Msg.repC_ok HC.out]; exact HR.out)]; exact H5.out
         have HZ3 : Hid (ZBox w3 (w.heap.size + 1) [.int .i64 0, .int .i64 0, .int .i64 0, .int .i64 0, .int .i64 0, .slice none 0 0, .bool false, .slice none 0 0]) := HZ2.out.ext X3.out
         obtain ⟨z0, n0⟩ := HZ3.out.2 0 _ rfl
         obtain ⟨z1, n1⟩ := HZ3.out.2 1 _ rfl
         obtain ⟨z2, n2⟩ := HZ3.out.2 2 _ rfl
         obtain ⟨z3, n3⟩ := HZ3.out.2 3 _ rfl
         obtain ⟨z4, n4⟩ := HZ3.out.2 4 _ rfl
         obtain ⟨z5, n5⟩ := HZ3.out.2 5 _ rfl
         obtain ⟨z6, n6⟩ := HZ3.out.2 6 _ rfl
         obtain ⟨z7, n7⟩ := HZ3.out.2 7 _ rfl
         obtain ⟨-, x0, x1, x2, x3⟩ := HR2.out.ext X3.out
         go_wp2
         refine bodyPost_ret (v := sagg r f (.slice a ms.length cap) true (.slice av (Msg.startL ms r.view r.start).length cv)) (by simp [results, Tryz.results98, go_sem, sagg, z0, z1, z2, z3, z4, z5, z6, z7]) rfl ?_
         refine ⟨(HE2.out.trans X3.out).eight _ (by omega) _ _ _ _ _ _ _ _, Or.inr ⟨HR.out, _, by rw [HIV.out], ?_⟩⟩
         rw [HIV.out]
         have q := (HO2.out.1.ext X3.out)
         exact (q.upd' (Upd.eight _ _ _ _ _ _ _ _ _ _) (fun _ => by have := HO2.out.2; omega)).slice
       ·have g4 : (r.start != -1) = true := by simpa using h6
        clear h6
        go_enter Tryz.func98, Tryz.ntmps98
        go_wp2_with fail
        refine (HF.out _ (((Ext.refl _).alloc _).alloc _)).mono ?_
        rintro e w1 ⟨rfl, hb⟩
        have HR1 : Hid (RpAt w1 w.heap.size r) := ((rbox_new w r 29).ext ((Ext.refl _).alloc _)).ext hb
        have hZ0 := (zbox_new (w.alloc (.cells #[.int .i64 r.id, .int .i64 r.view, .int .i64 r.start, .int .i64 r.done] 29)) [.int .i64 0, .int .i64 0, .int .i64 0, .int .i64 0, .int .i64 0, .slice none 0 0, .bool false, .slice none 0 0] 76).ext hb
        have HZ1 : Hid (ZBox w1 (w.heap.size + 1) [.int .i64 0, .int .i64 0, .int .i64 0, .int .i64 0, .int .i64 0, .slice none 0 0, .bool false, .slice none 0 0]) := by (try simp only [World.size_alloc] at hZ0); exact hZ0
        have HE1 : Hid (Ext w w1) := (((Ext.refl _).alloc _).alloc _).trans hb
        clear hb hZ0
        obtain ⟨-, x0, x1, x2, x3⟩ := HR1.out
        go_wp2_with fail
        refine (refuse_no _ _).mono ?_
        rintro e w9 ⟨rfl, hw⟩
        rw [hw]
        clear hw w9
        go_wp2_with fail
        refine (J1.out _).mono ?_
        rintro e w9 ⟨rfl, hw⟩
        rw [hw]
        clear hw w9
        go_wp2_with fail
        refine (J2.out _).mono ?_
        rintro e w9 ⟨rfl, hw⟩
        rw [hw]
        clear hw w9
        go_wp2_with fail
        refine (J3.out _).mono ?_
        rintro e w9 ⟨rfl, hw⟩
        rw [hw]
        clear hw w9
        go_wp2_with fail
        refine (refuse_no _ _).mono ?_
        rintro e w9 ⟨rfl, hw⟩
        rw [hw]
        clear hw w9
        go_wp2_with fail
        refine (HSt.out _ HE1.out).mono ?_
        rintro e w2 ⟨vo, g2, rfl, hg2, hO2, hb⟩
        have HR2 : Hid (RpAt w2 w.heap.size r) := HR1.out.ext hb
        have HZ2 : Hid (ZBox w2 (w.heap.size + 1) [.int .i64 0, .int .i64 0, .int .i64 0, .int .i64 0, .int .i64 0, .slice none 0 0, .bool false, .slice none 0 0]) := HZ1.out.ext hb
        have HE2 : Hid (Ext w w2) := HE1.out.trans hb
        have HO2 : Hid (Led.IOwn w2 vo g2 (if true = true then Msg.startL ms r.view r.start else []) ∧ w.heap.size + 1 < g2) := ⟨hO2, Nat.lt_of_lt_of_le HZ1.out.1 hg2⟩
        obtain ⟨av, cv, rfl, -⟩ := id hO2
        clear hb hO2 hg2 x0 x1 x2 x3 HR1 HZ1
        obtain ⟨-, x0, x1, x2, x3⟩ := HR2.out
        go_wp2_with fail
        refine (refuse_no _ _).mono ?_
        rintro e w9 ⟨rfl, hw⟩
        rw [hw]
        clear hw w9
        by_cases h7 : ((Msg.log f ms).length : Int) < r.done
        ·have HR : Hid (Msg.repC f ms r = 8) := Msg.repC_d HC.out HIn.out HL4.out h7
         have P7 : Hid (decide (((Msg.log f ms).length : Int) < r.done) = true) := decide_eq_true h7
         clear h7
         have HS : Hid (∀ W', Ext w2 W' → W'.cell? ⟨w.heap.size, 3, none⟩ = some (.int .i64 r.done)) := fun W' he => (HR2.out.ext he).2.2.2.2
         go_wp2
         clear x0 x1 x2 x3
         refine wp_region_held_drew (S := (fun W' : World => W'.cell? ⟨w.heap.size, 3, none⟩ = some (.int .i64 r.done))) (by kernel_rfl) (HS.out _ ((Ext.refl _).drew)) (fun hHeld => ?_)
         refine tk 0 ⟨some 53, .fieldAddr 29 (.tmp 5) 3, 0, oz211, #[], none⟩ ?_
         refine tk 1 ⟨some 54, .load 2 (.tmp 53), 2, oz211, #[⟨0, .data⟩], none⟩ ?_
         refine tk 2 ⟨some 55, .move (.tmp 0), 2, oz211, #[], none⟩ ?_
         refine tk 3 ⟨some 56, .move (.tmp 1), 27, oz211, #[], none⟩ ?_
         refine wpAnyH_ready (rs := [4]) (by kernel_rfl) (by simp) (AllReadyH.cons rfl (fun K hK => ?_) AllReadyH.nil)
         go_simp
         refine (HLg.out _ HE2.out.drew).mono ?_
         rintro e w3 ⟨v3, g3, rfl, -, hO3, hb⟩
         have X3 : Hid (Ext w2 w3) := ((Ext.refl _).drew).trans hb
         obtain ⟨a3, c3, rfl, -⟩ := id hO3
         clear hb hO3
         refine hK.out _ _ (by exact HS.out _ X3.out) (fun hHeld1 => ?_)
         clear hK K
         refine tk 5 ⟨some 58, .call { callee := .builtin .len, args := #[.tmp 57], argTypes := #[38] }, 3, oz211, #[⟨4, .data⟩], none⟩ ?_
         refine tk 6 ⟨some 59, .binOp .gtr 2 (.tmp 54) (.tmp 58) 2, 4, oz211, oy212, none⟩ ?_
         (try rw [P7.out])
         refine wpAnyH_ready (rs := [7]) (by kernel_rfl) (by simp) (AllReadyH.cons rfl (fun K hK => ?_) AllReadyH.nil)
         go_simp
         refine (refuse_yes _ _).mono ?_
         rintro e w9 ⟨rfl, hw⟩
         rw [hw]
         clear hw w9
         exact ⟨rfl, HE2.out.trans X3.out, Or.inl ⟨by rw [HR.out]; decide, by rw [HR.out]; rfl⟩⟩
        ·have HR : Hid (Msg.repC f ms r = 0) := Msg.repC_z HC.out HIn.out HL4.out h7
         have P7 : Hid (decide (((Msg.log f ms).length : Int) < r.done) = false) := decide_eq_false h7
         clear h7
         have HS : Hid (∀ W', Ext w2 W' → W'.cell? ⟨w.heap.size, 3, none⟩ = some (.int .i64 r.done)) := fun W' he => (HR2.out.ext he).2.2.2.2
         go_wp2
         clear x0 x1 x2 x3
         refine wp_region_held_drew (S := (fun W' : World => W'.cell? ⟨w.heap.size, 3, none⟩ = some (.int .i64 r.done))) (by kernel_rfl) (HS.out _ ((Ext.refl _).drew)) (fun hHeld => ?_)
         refine tk 0 ⟨some 53, .fieldAddr 29 (.tmp 5) 3, 0, oz211, #[], none⟩ ?_
         refine tk 1 ⟨some 54, .load 2 (.tmp 53), 2, oz211, #[⟨0, .data⟩], none⟩ ?_
         refine tk 2 ⟨some 55, .move (.tmp 0), 2, oz211, #[], none⟩ ?_
         refine tk 3 ⟨some 56, .move (.tmp 1), 27, oz211, #[], none⟩ ?_
         refine wpAnyH_ready (rs := [4]) (by kernel_rfl) (by simp) (AllReadyH.cons rfl (fun K hK => ?_) AllReadyH.nil)
         go_simp
         refine (HLg.out _ HE2.out.drew).mono ?_
         rintro e w3 ⟨v3, g3, rfl, -, hO3, hb⟩
         have X3 : Hid (Ext w2 w3) := ((Ext.refl _).drew).trans hb
         obtain ⟨a3, c3, rfl, -⟩ := id hO3
         clear hb hO3
         refine hK.out _ _ (by exact HS.out _ X3.out) (fun hHeld1 => ?_)
         clear hK K
         refine tk 5 ⟨some 58, .call { callee := .builtin .len, args := #[.tmp 57], argTypes := #[38] }, 3, oz211, #[⟨4, .data⟩], none⟩ ?_
         refine tk 6 ⟨some 59, .binOp .gtr 2 (.tmp 54) (.tmp 58) 2, 4, oz211, oy212, none⟩ ?_
         (try rw [P7.out])
         refine wpAnyH_ready (rs := [7]) (by kernel_rfl) (by simp) (AllReadyH.cons rfl (fun K hK => ?_) AllReadyH.nil)
         go_simp
         refine (refuse_no _ _).mono ?_
         rintro e w9 ⟨rfl, hw⟩
         rw [hw]
         clear hw w9
         refine hK.out _ _ (by exact HS.out _ X3.out) (fun hHeld2 => ?_)
         clear hK K
         refine wpAnyH_done (by kernel_rfl) ?_ _
         have HIV : Hid (Msg.inV r = true) := by show _ = _; rw [← Msg.startB_inV (f := f) (ms := ms) (by rw [← Msg.repC_ok HC.out]; exact HR.out)]; exact H5.out
         have HZ3 : Hid (ZBox w3 (w.heap.size + 1) [.int .i64 0, .int .i64 0, .int .i64 0, .int .i64 0, .int .i64 0, .slice none 0 0, .bool false, .slice none 0 0]) := HZ2.out.ext X3.out
         obtain ⟨z0, n0⟩ := HZ3.out.2 0 _ rfl
         obtain ⟨z1, n1⟩ := HZ3.out.2 1 _ rfl
         obtain ⟨z2, n2⟩ := HZ3.out.2 2 _ rfl
         obtain ⟨z3, n3⟩ := HZ3.out.2 3 _ rfl
         obtain ⟨z4, n4⟩ := HZ3.out.2 4 _ rfl
         obtain ⟨z5, n5⟩ := HZ3.out.2 5 _ rfl
         obtain ⟨z6, n6⟩ := HZ3.out.2 6 _ rfl
         obtain ⟨z7, n7⟩ := HZ3.out.2 7 _ rfl
         obtain ⟨-, x0, x1, x2, x3⟩ := HR2.out.ext X3.out
         go_wp2
         refine bodyPost_ret (v := sagg r f (.slice a ms.length cap) true (.slice av (Msg.startL ms r.view r.start).length cv)) (by simp [results, Tryz.results98, go_sem, sagg, z0, z1, z2, z3, z4, z5, z6, z7]) rfl ?_
         refine ⟨(HE2.out.trans X3.out).eight _ (by omega) _ _ _ _ _ _ _ _, Or.inr ⟨HR.out, _, by rw [HIV.out], ?_⟩⟩
         rw [HIV.out]
         have q := (HO2.out.1.ext X3.out)
         exact (q.upd' (Upd.eight _ _ _ _ _ _ _ _ _ _) (fun _ => by have := HO2.out.2; omega)).slice
 ·have HR : Hid (Msg.repC f ms r = Msg.ledger f ms) := Msg.repC_bad hc
  have HC : Hid (¬ Msg.ledger f ms = 0) := hc
  have g2 : (Msg.ledger f ms != 0) = true := by simpa using hc
  clear hc HSt0 HLg0
  generalize Msg.ledger f ms = c at *
  go_enter Tryz.func98, Tryz.ntmps98
  go_wp2_with fail
  refine (HF.out _ (((Ext.refl _).alloc _).alloc _)).mono ?_
  rintro e w1 ⟨rfl, hb⟩
  have HR1 : Hid (RpAt w1 w.heap.size r) := ((rbox_new w r 29).ext ((Ext.refl _).alloc _)).ext hb
  have hZ0 := (zbox_new (w.alloc (.cells #[.int .i64 r.id, .int .i64 r.view, .int .i64 r.start, .int .i64 r.done] 29)) [.int .i64 0, .int .i64 0, .int .i64 0, .int .i64 0, .int .i64 0, .slice none 0 0, .bool false, .slice none 0 0] 76).ext hb
  have HZ1 : Hid (ZBox w1 (w.heap.size + 1) [.int .i64 0, .int .i64 0, .int .i64 0, .int .i64 0, .int .i64 0, .slice none 0 0, .bool false, .slice none 0 0]) := by (try simp only [World.size_alloc] at hZ0); exact hZ0
  have HE1 : Hid (Ext w w1) := (((Ext.refl _).alloc _).alloc _).trans hb
  clear hb hZ0
  obtain ⟨-, x0, x1, x2, x3⟩ := HR1.out
  go_wp2_with fail
  refine (refuse_yes _ _).mono ?_
  rintro e w9 ⟨rfl, hw⟩
  unfold refused
  rw [hw]
  clear hw w9
  go_wp2
  exact ⟨rfl, HE1.out, Or.inl ⟨by rw [HR.out]; exact HC.out, by rw [HR.out]; rfl⟩⟩
end Go.Proofs.YtecgjdgfjgcmdaaGreat
