/- both LedgerFaults. -/
import Derived.Test.YtecgjdgfjgcmdaaGreatRtLG2
import Derived.Test.YtecgjdgfjgcmdaaGreatRtH11
namespace Go.Proofs.YtecgjdgfjgcmdaaGreat
open Go.RowKit
set_option maxHeartbeats 20000000 in
set_option maxRecDepth 100000 in
theorem l8Ledger_any (f : Int) (v : Value) (ms : List Ms) (w : World) (hf0 : 1 ≤ f) (hf1 : f ≤ 2) (hS : MSlice w v ms) :
  Calls Tryz.prog 144 #[.int .i64 f, v] w fun e w' => e = .returned (.int .i64 (Msg.ledgerM f ms)) ∧ Ext w w' := by
 have HS : Hid (MSlice w v ms) := hS
 obtain ⟨a, cap, rfl, hlc, hcm, hx⟩ := hS
 have HX : Hid (0 < ms.length → ∃ b off, a = some ⟨b, off, none⟩ ∧ b < w.heap.size ∧ MsAt w b off ms) := hx
 clear hx
 unfold maxLen at hcm
 by_cases h240 : 240 < ms.length
 ·have HF : Hid (Msg.ledgerM f ms = 2) := Msg.ledgerM_1 h240
  go_enter Tryz.func144, Tryz.ntmps144
  go_wp2
  go_ret
  exact ⟨ret_int HF.out.symm, Ext.refl _⟩
 ·go_enter Tryz.func144, Tryz.ntmps144
  go_wp2
  go_loopw [5] (fun i wr => ∃ (k : Nat), k ≤ ms.length ∧ i = .int .i64 k ∧ Hid (∀ j, j < k → Msg.stepG f ms j = 0) ∧ Hid (Ext w wr)) (fun i _ => ms.length - (intOf i).toNat)
  case atStart => exact ⟨0, Nat.zero_le _, rfl, fun j h => by omega, Ext.refl _⟩
  case round =>
   obtain ⟨k, hk, rfl, HA, HE⟩ := hrel
   by_cases hlt : k < ms.length
   ·obtain ⟨z, hzk⟩ : ∃ z, ms[k]? = some z := ⟨_, List.getElem?_eq_getElem hlt⟩
    obtain ⟨b, off, rfl, hb, hN⟩ := HX.out (by omega)
    have HAt : Hid (∀ wx : World, Ext w wx → b < wx.heap.size ∧ MAt wx b (off + k * 7) z) := fun wx he => ⟨Nat.lt_of_lt_of_le hb he.size, hN.ext hb he k z hzk⟩
    have HM : Hid (∀ wx : World, Ext w wx → Calls Tryz.prog 168 #[.int .i64 f, .pointer (some ⟨b, off + k * 7, none⟩)] wx fun e w' => e = .returned (.int .i64 (Msg.faultM f z)) ∧ Ext wx w') := fun wx he => by
     obtain ⟨hl, vz, uz, hc, hls⟩ := HAt.out wx he
     exact l8Msg_any f z vz uz b _ wx hf0 hf1 hl hc hls
    have HR : Hid (∀ wx : World, Ext w wx → Calls Tryz.prog 169 #[.pointer (some ⟨b, off + k * 7, none⟩), .int .i64 (k : Int)] wx fun e w' => e = .returned (.bool (Msg.refsB z k)) ∧ Ext wx w') := fun wx he => l8Refs_any z k b _ wx (by omega) (HAt.out wx he).1 (HAt.out wx he).2
    have HP : Hid (∀ wx : World, Ext w wx → Calls Tryz.prog 170 #[.slice (some ⟨b, off, none⟩) ms.length cap, .pointer (some ⟨b, off + k * 7, none⟩)] wx fun e w' => e = .returned (.int .i64 (Msg.place ms z)) ∧ Ext wx w') := fun wx he => l8At_any _ ms z b _ wx (HS.out.ext he) (HAt.out wx he).1 (HAt.out wx he).2
    have HZ : Hid (ms[k]? = some z) := hzk
    have HNx : Hid (Msg.stepF f ms k z = 0 → ∀ j, j < k + 1 → Msg.stepG f ms j = 0) := by
     intro h j hj
     by_cases hjk : j = k
     ·subst hjk; rw [Msg.stepG_at hzk]; exact h
     ·exact HA.out j (by omega)
    have HBd : Hid (¬ Msg.stepF f ms k z = 0 → Msg.ledgerM f ms = Msg.stepF f ms k z) := fun h => Msg.ledgerM_2 h240 hzk h HA.out
    clear hzk hN
    go_wp2_with fail
    refine (HM.out _ HE.out).mono ?_
    rintro e w2 ⟨rfl, hb2⟩
    have HE2 : Hid (Ext w w2) := HE.out.trans hb2
    clear hb2
    by_cases hc : Msg.faultM f z = 0
    ·have HC0 : Hid (Msg.faultM f z = 0) := hc
     rw [hc]
     clear hc
     go_wp2_with fail
     refine (HR.out _ HE2.out).mono ?_
     rintro e w3 ⟨rfl, hb3⟩
     have HE3 : Hid (Ext w w3) := HE2.out.trans hb3
     clear hb3
     cases hrb : Msg.refsB z k with
     | false =>
      have HF : Hid (Msg.ledgerM f ms = 4) := by
       have h := Msg.stepF_2 (ms := ms) HC0.out hrb
       have h2 := HBd.out (by rw [h]; omega)
       rw [h] at h2
       exact h2
      clear hrb
      go_wp2
      go_ret
      exact ⟨ret_int HF.out.symm, HE3.out⟩
     | true =>
      have HRb : Hid (Msg.refsB z k = true) := hrb
      clear hrb
      go_wp2_with fail
      refine (HP.out _ HE3.out).mono ?_
      rintro e w4 ⟨rfl, hb4⟩
      have HE4 : Hid (Ext w w4) := HE3.out.trans hb4
      clear hb4
      by_cases hpl : Msg.place ms z = k
      ·have HF : Hid (Msg.stepF f ms k z = 0) := Msg.stepF_4 HC0.out HRb.out ((Msg.place_self HZ.out).1 hpl)
       rw [hpl]
       clear hpl
       go_wp2
       exact ⟨⟨k + 1, by omega, by go_num, HNx.out HF.out, HE4⟩, by simp [intOf]; omega⟩
      ·have HF : Hid (Msg.ledgerM f ms = 6) := by
        have h := Msg.stepF_3 (ms := ms) (k := k) HC0.out HRb.out (Classical.byContradiction fun hn => hpl ((Msg.place_self HZ.out).2 hn))
        have h2 := HBd.out (by rw [h]; omega)
        rw [h] at h2
        exact h2
       have hpb : (Msg.place ms z != (k : Int)) = true := by simpa using hpl
       clear hpl
       go_wp2
       go_ret
       exact ⟨ret_int HF.out.symm, HE4.out⟩
    ·have HF : Hid (Msg.ledgerM f ms = Msg.faultM f z) := by
      have h := Msg.stepF_1 (ms := ms) (k := k) hc
      have h2 := HBd.out (by rw [h]; exact hc)
      rw [h] at h2
      exact h2
     have hcb : (Msg.faultM f z != 0) = true := by simpa using hc
     go_wp2
     go_ret
     exact ⟨ret_int HF.out.symm, HE2.out⟩
   ·have HF : Hid (Msg.ledgerM f ms = 0) := Msg.ledgerM_3 h240 (fun j hj => HA.out j (by omega))
    go_wp2
    go_ret
    exact ⟨ret_int HF.out.symm, HE.out⟩

set_option maxHeartbeats 20000000 in
set_option maxRecDepth 100000 in
theorem implLedgerM_any (f : Int) (v : Value) (ms : List Ms) (w : World) (hf0 : 1 ≤ f) (hf1 : f ≤ 2) (hS : MSlice w v ms) :
  Calls Tryz.prog 74 #[.int .i64 f, v] w fun e w' => e = .returned (.int .i64 (Msg.ledgerM f ms)) ∧ Ext w w' := by
 have HS : Hid (MSlice w v ms) := hS
 obtain ⟨a, cap, rfl, hlc, hcm, hx⟩ := hS
 have HX : Hid (0 < ms.length → ∃ b off, a = some ⟨b, off, none⟩ ∧ b < w.heap.size ∧ MsAt w b off ms) := hx
 clear hx
 unfold maxLen at hcm
 have HFo : Hid (∀ wx : World, Calls Tryz.prog 87 #[.int .i64 f] wx fun e w' => e = .returned (.bool true) ∧ w' = wx) := fun wx => by
  have h := isBadCount_any f wx
  rw [show Msg.fOk f = true from by unfold Msg.fOk; simp; omega] at h
  exact h
 by_cases h240 : 240 < ms.length
 ·have HF : Hid (Msg.ledgerM f ms = 2) := Msg.ledgerM_1 h240
  go_enter Tryz.func74, Tryz.ntmps74
  go_wp2_with fail
  refine (HFo.out _).mono ?_
  rintro e w9 ⟨rfl, hw⟩
  rw [hw]
  clear hw w9
  go_wp2
  go_ret
  exact ⟨ret_int HF.out.symm, Ext.refl _⟩
 ·go_enter Tryz.func74, Tryz.ntmps74
  go_wp2_with fail
  refine (HFo.out _).mono ?_
  rintro e w9 ⟨rfl, hw⟩
  rw [hw]
  clear hw w9
  go_wp2
  go_loopw [16] (fun i wr => ∃ (k : Nat), k ≤ ms.length ∧ i = .int .i64 k ∧ Hid (∀ j, j < k → Msg.stepG f ms j = 0) ∧ Hid (Ext w wr)) (fun i _ => ms.length - (intOf i).toNat)
  case atStart => exact ⟨0, Nat.zero_le _, rfl, fun j h => by omega, Ext.refl _⟩
  case round =>
   obtain ⟨k, hk, rfl, HA, HE⟩ := hrel
   by_cases hlt : k < ms.length
   ·obtain ⟨z, hzk⟩ : ∃ z, ms[k]? = some z := ⟨_, List.getElem?_eq_getElem hlt⟩
    obtain ⟨b, off, rfl, hb, hN⟩ := HX.out (by omega)
    have HAt : Hid (∀ wx : World, Ext w wx → b < wx.heap.size ∧ MAt wx b (off + k * 7) z) := fun wx he => ⟨Nat.lt_of_lt_of_le hb he.size, hN.ext hb he k z hzk⟩
    obtain ⟨vz, uz, ⟨d0, d1, d2, d3, d4, d5, d6⟩, hLs⟩ := (HAt.out _ HE.out).2
    have HM : Hid (∀ wx : World, Ext wr wx → Calls Tryz.prog 40 #[.int .i64 f, magg z vz uz] wx fun e w' => e = .returned (.int .i64 (Msg.faultM f z)) ∧ Ext wx w') := fun wx he => by
     have h := implMsgFault_any f z vz uz wx (hLs.ext he)
     rw [Msg.fault_2 (show Msg.fOk f = true from by unfold Msg.fOk; simp; omega)] at h
     exact h
    have HR : Hid (Msg.rises z.refs = true → ∀ wx : World, Ext w wx → Calls Tryz.prog 127 #[.pointer (some ⟨b, off + k * 7, none⟩), .int .i64 (k : Int)] wx fun e w' => e = .returned (.bool (Msg.refsB z k)) ∧ Ext wx w') := fun hr wx he => refersAhead_any z k b _ wx (by omega) (HAt.out wx he).2 hr
    have HP : Hid (∀ wx : World, Ext w wx → Calls Tryz.prog 128 #[.slice (some ⟨b, off, none⟩) k cap, .pointer (some ⟨b, off + k * 7, none⟩)] wx fun e w' => e = .returned (.int .i64 (Msg.place (ms.take k) z)) ∧ Ext wx w') := fun wx he => placeOfMsg_any _ (ms.take k) z b _ wx ((HS.out.ext he).take (by omega)) (HAt.out wx he).1 (HAt.out wx he).2
    have HZ : Hid (ms[k]? = some z) := hzk
    have HNx : Hid (Msg.stepF f ms k z = 0 → ∀ j, j < k + 1 → Msg.stepG f ms j = 0) := by
     intro h j hj
     by_cases hjk : j = k
     ·subst hjk; rw [Msg.stepG_at hzk]; exact h
     ·exact HA.out j (by omega)
    have HBd : Hid (¬ Msg.stepF f ms k z = 0 → Msg.ledgerM f ms = Msg.stepF f ms k z) := fun h => Msg.ledgerM_2 h240 hzk h HA.out
    obtain ⟨y0, y1, y2, y3, rfl, rfl, -, -, -, -⟩ := hLs.form
    clear hzk hN hLs
    unfold magg at HM
    have hkc : k ≤ cap := by omega
    go_wp2_with fail
    refine (HM.out _ (Ext.refl _)).mono ?_
    rintro e w2 ⟨rfl, hb2⟩
    have HE2 : Hid (Ext w w2) := HE.out.trans hb2
    clear hb2 d0 d1 d2 d3 d4 d5 d6 HM
    by_cases hc : Msg.faultM f z = 0
    ·have HC0 : Hid (Msg.faultM f z = 0) := hc
     have HR2 := HR.out (Msg.faultM_rises hc)
     have HR3 : Hid (∀ wx : World, Ext w wx → Calls Tryz.prog 127 #[.pointer (some ⟨b, off + k * 7, none⟩), .int .i64 (k : Int)] wx fun e w' => e = .returned (.bool (Msg.refsB z k)) ∧ Ext wx w') := HR2
     rw [hc]
     clear hc HR HR2
     go_wp2_with fail
     refine (HR3.out _ HE2.out).mono ?_
     rintro e w3 ⟨rfl, hb3⟩
     have HE3 : Hid (Ext w w3) := HE2.out.trans hb3
     clear hb3
     cases hrb : Msg.refsB z k with
     | false =>
      have HF : Hid (Msg.ledgerM f ms = 4) := by
       have h := Msg.stepF_2 (ms := ms) HC0.out hrb
       have h2 := HBd.out (by rw [h]; omega)
       rw [h] at h2
       exact h2
      clear hrb
      go_wp2
      go_ret
      exact ⟨ret_int HF.out.symm, HE3.out⟩
     | true =>
      have HRb : Hid (Msg.refsB z k = true) := hrb
      clear hrb
      go_wp2_with fail
      refine (HP.out _ HE3.out).mono ?_
      rintro e w4 ⟨rfl, hb4⟩
      have HE4 : Hid (Ext w w4) := HE3.out.trans hb4
      clear hb4
      by_cases hpl : Msg.place (ms.take k) z = -1
      ·have HF : Hid (Msg.stepF f ms k z = 0) := Msg.stepF_4 HC0.out HRb.out (Msg.place_take.1 hpl)
       rw [hpl]
       clear hpl
       go_wp2
       exact ⟨⟨k + 1, by omega, by go_num, HNx.out HF.out, HE4⟩, by simp [intOf]; omega⟩
      ·have HF : Hid (Msg.ledgerM f ms = 6) := by
        have h := Msg.stepF_3 (ms := ms) (k := k) HC0.out HRb.out (Classical.byContradiction fun hn => hpl (Msg.place_take.2 hn))
        have h2 := HBd.out (by rw [h]; omega)
        rw [h] at h2
        exact h2
       have hpb : (Msg.place (ms.take k) z != -1) = true := by simpa using hpl
       clear hpl
       go_wp2
       go_ret
       exact ⟨ret_int HF.out.symm, HE4.out⟩
    ·have HF : Hid (Msg.ledgerM f ms = Msg.faultM f z) := by
      have h := Msg.stepF_1 (ms := ms) (k := k) hc
      have h2 := HBd.out (by rw [h]; exact hc)
      rw [h] at h2
      exact h2
     have hcb : (Msg.faultM f z != 0) = true := by simpa using hc
     go_wp2
     go_ret
     exact ⟨ret_int HF.out.symm, HE2.out⟩
   ·have HF : Hid (Msg.ledgerM f ms = 0) := Msg.ledgerM_3 h240 (fun j hj => HA.out j (by omega))
    go_wp2
    go_ret
    exact ⟨ret_int HF.out.symm, HE.out⟩

set_option maxHeartbeats 2000000 in
theorem l8Asked_any (f : Int) (v : Value) (ms : List Ms) (w : World) (hS : MSlice w v ms) :
  Calls Tryz.prog 93 #[.int .i64 f, v] w fun e w' => e = .returned (.int .i64 (Msg.ledger f ms)) ∧ Ext w w' := by
 have HC : Hid (∀ (wx : World), 1 ≤ f → f ≤ 2 → Ext w wx → Calls Tryz.prog 144 #[.int .i64 f, v] wx fun e w' => e = .returned (.int .i64 (Msg.ledgerM f ms)) ∧ Ext wx w') := fun wx h0 h1 he => l8Ledger_any f v ms wx h0 h1 (hS.ext he)
 obtain ⟨a, cap, rfl, -, -, -⟩ := hS
 have HFo : Hid (∀ wx : World, Calls Tryz.prog 143 #[.int .i64 f] wx fun e w' => e = .returned (.bool (Msg.fOk f)) ∧ w' = wx) := fun wx => l8F_any f wx
 cases hf : Msg.fOk f with
 | false =>
  rw [hf] at HFo
  have HF : Hid (Msg.ledger f ms = 3) := Msg.ledger_1 hf
  clear hf HC
  go_enter Tryz.func93, Tryz.ntmps93
  go_wp2_with fail
  refine (HFo.out _).mono ?_
  rintro e w9 ⟨rfl, hw⟩
  rw [hw]
  clear hw w9
  go_wp2
  go_ret
  exact ⟨ret_int HF.out.symm, Ext.refl _⟩
 | true =>
  rw [hf] at HFo
  have HF : Hid (Msg.ledger f ms = Msg.ledgerM f ms) := Msg.ledger_2 hf
  have h12 : 1 ≤ f ∧ f ≤ 2 := by unfold Msg.fOk at hf; simpa using hf
  clear hf
  go_enter Tryz.func93, Tryz.ntmps93
  go_wp2_with fail
  refine (HFo.out _).mono ?_
  rintro e w9 ⟨rfl, hw⟩
  rw [hw]
  clear hw w9
  go_wp2_with fail
  refine (HC.out _ h12.1 h12.2 (Ext.refl _)).mono ?_
  rintro e w9 ⟨rfl, hb⟩
  have HB9 : Hid (Ext w w9) := hb
  clear hb
  go_wp2
  go_ret
  exact ⟨ret_int HF.out.symm, HB9.out⟩
set_option maxHeartbeats 2000000 in
theorem implLedgerFault_any (f : Int) (v : Value) (ms : List Ms) (w : World) (hS : MSlice w v ms) :
  Calls Tryz.prog 74 #[.int .i64 f, v] w fun e w' => e = .returned (.int .i64 (Msg.ledger f ms)) ∧ Ext w w' := by
 cases hf : Msg.fOk f with
 | true =>
  have h12 : 1 ≤ f ∧ f ≤ 2 := by unfold Msg.fOk at hf; simpa using hf
  rw [Msg.ledger_2 hf]
  exact implLedgerM_any f v ms w h12.1 h12.2 hS
 | false =>
  obtain ⟨a, cap, rfl, -, -, -⟩ := hS
  have HFo : Hid (∀ wx : World, Calls Tryz.prog 87 #[.int .i64 f] wx fun e w' => e = .returned (.bool false) ∧ w' = wx) := fun wx => by
   have h := isBadCount_any f wx
   rw [hf] at h
   exact h
  rw [Msg.ledger_1 hf]
  clear hf
  go_enter Tryz.func74, Tryz.ntmps74
  go_wp2_with fail
  refine (HFo.out _).mono ?_
  rintro e w9 ⟨rfl, hw⟩
  rw [hw]
  clear hw w9
  go_wp2
  go_ret
  exact ⟨rfl, Ext.refl _⟩
end Go.Proofs.YtecgjdgfjgcmdaaGreat
