/- both CertRights. -/
import Derived.Test.YtflojfkalnojbaaQV3
import Derived.Test.YtflojfkalnojbaaQS5
import Derived.Test.YtflojfkalnojbaaH11
namespace Go.Proofs.Ytflojfkalnojbaa
open Go.RowKit Go.Maps

theorem cert_box (w : World) (c : Ct) (t : TypeId) (w' : World) (he : Ext (w.alloc (.cells #[.int .i64 c.slot, .int .i64 c.view, .int .i64 c.value] t)) w') : w'.cell? ⟨w.heap.size, 0, none⟩ = some (.int .i64 c.slot) ∧ w'.cell? ⟨w.heap.size, 1, none⟩ = some (.int .i64 c.view) ∧ w'.cell? ⟨w.heap.size, 2, none⟩ = some (.int .i64 c.value) := by
  have hc := fun k => (Ext.cell he).1 w.heap.size k (by simp)
  exact ⟨(hc 0).trans (by simp), (hc 1).trans (by simp), (hc 2).trans (by simp)⟩
theorem Msg.cert_right {f : Int} {ms : List Ms} {c : Ct} (h : Msg.ledger f ms = 0) (h2 : Msg.certIn c = true) : Msg.certRight f ms c = Msg.enough f ms 2 c := by unfold Msg.certRight; rw [decide_eq_true h, h2]; rfl
theorem Msg.cert_bad {f : Int} {ms : List Ms} {c : Ct} (h : ¬ Msg.ledger f ms = 0) : Msg.certRight f ms c = false := by unfold Msg.certRight; rw [decide_eq_false h]; rfl
theorem Msg.cert_out {f : Int} {ms : List Ms} {c : Ct} (h2 : Msg.certIn c = false) : Msg.certRight f ms c = false := by unfold Msg.certRight; rw [h2, Bool.and_false]; rfl

set_option maxHeartbeats 2000000 in
theorem l9Cert_any (c : Ct) (w : World) : Calls Try.prog 110 #[ctagg c] w fun e w' => e = .returned (.bool (Msg.certIn c)) ∧ Ext w w' := by
  have HI : Hid (∀ (x lo hi : Int) (b : Bool) (wx : World), (decide (lo ≤ x) && decide (x ≤ hi)) = b → Calls Try.prog 84 #[.int .i64 x, .int .i64 lo, .int .i64 hi] wx fun e w' => e = .returned (.bool b) ∧ w' = wx) := fun x lo hi b wx h => l1In_isM x lo hi b wx h
  unfold ctagg
  by_cases h0 : 1 ≤ c.slot ∧ c.slot ≤ 30
  · by_cases h1 : 0 ≤ c.view ∧ c.view ≤ 20
    · by_cases h2 : 0 ≤ c.value ∧ c.value ≤ 12
      · have HR : Msg.certIn c = true := decide_eq_true (by omega)
        rw [HR]
        clear HR
        have q0 : (decide (1 ≤ c.slot) && decide (c.slot ≤ 30)) = true := by simp; omega
        have C0 : Hid (∀ wx : World, Calls Try.prog 84 #[.int .i64 c.slot, .int .i64 1, .int .i64 30] wx fun e w' => e = .returned (.bool true) ∧ w' = wx) := fun wx => HI.out _ _ _ _ wx q0
        have q1 : (decide (0 ≤ c.view) && decide (c.view ≤ 20)) = true := by simp; omega
        have C1 : Hid (∀ wx : World, Calls Try.prog 84 #[.int .i64 c.view, .int .i64 0, .int .i64 20] wx fun e w' => e = .returned (.bool true) ∧ w' = wx) := fun wx => HI.out _ _ _ _ wx q1
        have q2 : (decide (0 ≤ c.value) && decide (c.value ≤ 12)) = true := by simp; omega
        have C2 : Hid (∀ wx : World, Calls Try.prog 84 #[.int .i64 c.value, .int .i64 0, .int .i64 12] wx fun e w' => e = .returned (.bool true) ∧ w' = wx) := fun wx => HI.out _ _ _ _ wx q2
        clear HI q0 q1 q2 h0 h1 h2
        go_enter Try.func110, Try.ntmps110
        go_wp2_with fail
        refine (C0.out _).mono ?_
        rintro e w9 ⟨rfl, hw⟩
        rw [hw]
        clear hw w9
        go_wp2_with fail
        refine (C1.out _).mono ?_
        rintro e w9 ⟨rfl, hw⟩
        rw [hw]
        clear hw w9
        go_wp2_with fail
        refine (C2.out _).mono ?_
        rintro e w9 ⟨rfl, hw⟩
        rw [hw]
        clear hw w9
        go_wp2
        go_ret
        exact ⟨rfl, (Ext.refl _).alloc _⟩
      · have HR : Msg.certIn c = false := decide_eq_false (by omega)
        rw [HR]
        clear HR
        have q0 : (decide (1 ≤ c.slot) && decide (c.slot ≤ 30)) = true := by simp; omega
        have C0 : Hid (∀ wx : World, Calls Try.prog 84 #[.int .i64 c.slot, .int .i64 1, .int .i64 30] wx fun e w' => e = .returned (.bool true) ∧ w' = wx) := fun wx => HI.out _ _ _ _ wx q0
        have q1 : (decide (0 ≤ c.view) && decide (c.view ≤ 20)) = true := by simp; omega
        have C1 : Hid (∀ wx : World, Calls Try.prog 84 #[.int .i64 c.view, .int .i64 0, .int .i64 20] wx fun e w' => e = .returned (.bool true) ∧ w' = wx) := fun wx => HI.out _ _ _ _ wx q1
        have q2 : (decide (0 ≤ c.value) && decide (c.value ≤ 12)) = false := by rw [Bool.and_eq_false_iff]; simp; omega
        have C2 : Hid (∀ wx : World, Calls Try.prog 84 #[.int .i64 c.value, .int .i64 0, .int .i64 12] wx fun e w' => e = .returned (.bool false) ∧ w' = wx) := fun wx => HI.out _ _ _ _ wx q2
        clear HI q0 q1 q2 h0 h1 h2
        go_enter Try.func110, Try.ntmps110
        go_wp2_with fail
        refine (C0.out _).mono ?_
        rintro e w9 ⟨rfl, hw⟩
        rw [hw]
        clear hw w9
        go_wp2_with fail
        refine (C1.out _).mono ?_
        rintro e w9 ⟨rfl, hw⟩
        rw [hw]
        clear hw w9
        go_wp2_with fail
        refine (C2.out _).mono ?_
        rintro e w9 ⟨rfl, hw⟩
        rw [hw]
        clear hw w9
        go_wp2
        go_ret
        exact ⟨rfl, (Ext.refl _).alloc _⟩
    · have HR : Msg.certIn c = false := decide_eq_false (by omega)
      rw [HR]
      clear HR
      have q0 : (decide (1 ≤ c.slot) && decide (c.slot ≤ 30)) = true := by simp; omega
      have C0 : Hid (∀ wx : World, Calls Try.prog 84 #[.int .i64 c.slot, .int .i64 1, .int .i64 30] wx fun e w' => e = .returned (.bool true) ∧ w' = wx) := fun wx => HI.out _ _ _ _ wx q0
      have q1 : (decide (0 ≤ c.view) && decide (c.view ≤ 20)) = false := by rw [Bool.and_eq_false_iff]; simp; omega
      have C1 : Hid (∀ wx : World, Calls Try.prog 84 #[.int .i64 c.view, .int .i64 0, .int .i64 20] wx fun e w' => e = .returned (.bool false) ∧ w' = wx) := fun wx => HI.out _ _ _ _ wx q1
      clear HI q0 q1 h0 h1
      go_enter Try.func110, Try.ntmps110
      go_wp2_with fail
      refine (C0.out _).mono ?_
      rintro e w9 ⟨rfl, hw⟩
      rw [hw]
      clear hw w9
      go_wp2_with fail
      refine (C1.out _).mono ?_
      rintro e w9 ⟨rfl, hw⟩
      rw [hw]
      clear hw w9
      go_wp2
      go_ret
      exact ⟨rfl, (Ext.refl _).alloc _⟩
  · have HR : Msg.certIn c = false := decide_eq_false (by omega)
    rw [HR]
    clear HR
    have q0 : (decide (1 ≤ c.slot) && decide (c.slot ≤ 30)) = false := by rw [Bool.and_eq_false_iff]; simp; omega
    have C0 : Hid (∀ wx : World, Calls Try.prog 84 #[.int .i64 c.slot, .int .i64 1, .int .i64 30] wx fun e w' => e = .returned (.bool false) ∧ w' = wx) := fun wx => HI.out _ _ _ _ wx q0
    clear HI q0 h0
    go_enter Try.func110, Try.ntmps110
    go_wp2_with fail
    refine (C0.out _).mono ?_
    rintro e w9 ⟨rfl, hw⟩
    rw [hw]
    clear hw w9
    go_wp2
    go_ret
    exact ⟨rfl, (Ext.refl _).alloc _⟩

set_option maxHeartbeats 4000000 in
set_option maxRecDepth 100000 in
theorem specCertRight_any (f : Int) (v : Value) (ms : List Ms) (c : Ct) (w : World) (hS : MSlice w v ms) :
    Calls Try.prog 46 #[.int .i64 f, v, ctagg c] w fun e w' => e = .returned (.bool (Msg.certRight f ms c)) ∧ Ext w w' := by
  have HF : Hid (∀ wx, Ext w wx → Calls Try.prog 73 #[.int .i64 f, v] wx fun e w' => e = .returned (.int .i64 (Msg.ledger f ms)) ∧ Ext wx w') := fun wx he => l8Asked_any f v ms wx (hS.ext he)
  have HC : Hid (∀ wx, Calls Try.prog 110 #[ctagg c] wx fun e w' => e = .returned (.bool (Msg.certIn c)) ∧ Ext wx w') := fun wx => l9Cert_any c wx
  have HQ : Hid (1 ≤ f → f ≤ 2 → ∀ wx, Ext w wx → Calls Try.prog 111 #[.int .i64 f, v, .int .i64 2, ctagg c] wx fun e w' => e = .returned (.bool (Msg.enough f ms 2 c)) ∧ Ext wx w') := fun h0 h1 wx he => l9Enough_any f v ms 2 c wx (hS.ext he) h0 h1
  obtain ⟨a, cap, rfl, -, -, -⟩ := hS
  unfold ctagg at *
  by_cases hc : Msg.ledger f ms = 0
  · obtain ⟨hf0, hf1, -⟩ := Msg.ledger_zero hc
    rw [hc] at HF
    cases hi : Msg.certIn c with
    | true =>
      rw [Msg.cert_right hc hi]
      rw [hi] at HC
      clear hc hi
      generalize Msg.enough f ms 2 c = B at *
      go_enter Try.func46, Try.ntmps46
      go_wp2_with fail
      refine (HF.out _ ((Ext.refl _).alloc _)).mono ?_
      rintro e w2 ⟨rfl, hb⟩
      have HE2 : Hid (Ext w w2) := ((Ext.refl _).alloc _).trans hb
      obtain ⟨c0, c1, c2⟩ := cert_box w c _ _ hb
      have hlt2 : w.heap.size < w2.heap.size := by have := hb.size; simp at this; omega
      clear hb
      go_wp2_with fail
      refine (HC.out _).mono ?_
      rintro e w3 ⟨rfl, hb⟩
      have HE3 : Hid (Ext w w3) := HE2.out.trans hb
      have d0 := ((Ext.cell hb).1 _ _ hlt2).trans c0
      have d1 := ((Ext.cell hb).1 _ _ hlt2).trans c1
      have d2 := ((Ext.cell hb).1 _ _ hlt2).trans c2
      clear hb c0 c1 c2
      go_wp2_with fail
      refine (HQ.out hf0 hf1 _ HE3.out).mono ?_
      rintro e w4 ⟨rfl, hb⟩
      have HE4 : Hid (Ext w w4) := HE3.out.trans hb
      clear hb d0 d1 d2
      go_wp2
      go_ret
      exact ⟨rfl, HE4.out⟩
    | false =>
      rw [Msg.cert_out hi]
      rw [hi] at HC
      clear hc hi HQ
      go_enter Try.func46, Try.ntmps46
      go_wp2_with fail
      refine (HF.out _ ((Ext.refl _).alloc _)).mono ?_
      rintro e w2 ⟨rfl, hb⟩
      have HE2 : Hid (Ext w w2) := ((Ext.refl _).alloc _).trans hb
      obtain ⟨c0, c1, c2⟩ := cert_box w c _ _ hb
      clear hb
      go_wp2_with fail
      refine (HC.out _).mono ?_
      rintro e w3 ⟨rfl, hb⟩
      have HE3 : Hid (Ext w w3) := HE2.out.trans hb
      clear hb c0 c1 c2
      go_wp2
      go_ret
      exact ⟨rfl, HE3.out⟩
  · rw [Msg.cert_bad hc]
    have g : (Msg.ledger f ms == 0) = false := by simpa using hc
    clear hc HQ HC
    generalize Msg.ledger f ms = k at *
    go_enter Try.func46, Try.ntmps46
    go_wp2_with fail
    refine (HF.out _ ((Ext.refl _).alloc _)).mono ?_
    rintro e w2 ⟨rfl, hb⟩
    have HE2 : Hid (Ext w w2) := ((Ext.refl _).alloc _).trans hb
    clear hb
    go_wp2
    go_ret
    exact ⟨rfl, HE2.out⟩

theorem Msg.no_lists2 (w : World) (c : Ct) : MLs w (.slice none 0 0) (.slice none 0 0) (Msg.vm 2 c 0) := Msg.no_lists w

set_option maxHeartbeats 4000000 in
set_option maxRecDepth 100000 in
theorem implCertRight_any (f : Int) (v : Value) (ms : List Ms) (c : Ct) (w : World) (hS : MSlice w v ms) :
    Calls Try.prog 19 #[.int .i64 f, v, ctagg c] w fun e w' => e = .returned (.bool (Msg.certRight f ms c)) ∧ Ext w w' := by
  have HF : Hid (∀ wx, Ext w wx → Calls Try.prog 69 #[.int .i64 f, v] wx fun e w' => e = .returned (.int .i64 (Msg.ledger f ms)) ∧ Ext wx w') := fun wx he => implLedgerFault_any f v ms wx (hS.ext he)
  have HCo : Hid (∀ wx : World, Calls Try.prog 78 #[ctagg c] wx fun e w' => e = .returned (.agg #[.int .i64 c.view, .int .i64 c.slot, .int .i64 c.value]) ∧ Ext wx w') := fun wx => certificateOf_any c wx
  have HIn : Hid (∀ wx : World, Calls Try.prog 79 #[.agg #[.int .i64 c.view, .int .i64 c.slot, .int .i64 c.value]] wx fun e w' => e = .returned (.bool (Msg.certIn c)) ∧ Ext wx w') := fun wx => certIn_any c wx
  have HQ0 : Hid (Msg.ledger f ms = 0 → ∀ wx, Ext w wx → Calls Try.prog 80 #[.int .i64 f, v, ctagg c] wx fun e w' => e = .returned (.bool (Msg.enough f ms 2 c)) ∧ Ext wx w') := fun h wx he => hasPrepared_any f v ms c wx (hS.ext he) h
  obtain ⟨a, cap, rfl, -, -, -⟩ := hS
  unfold ctagg at *
  by_cases hc : Msg.ledger f ms = 0
  · have HQ : Hid (∀ wx, Ext w wx → Calls Try.prog 80 #[.int .i64 f, .slice a ms.length cap, .agg #[.int .i64 c.slot, .int .i64 c.view, .int .i64 c.value]] wx fun e w' => e = .returned (.bool (Msg.enough f ms 2 c)) ∧ Ext wx w') := HQ0.out hc
    clear HQ0
    rw [hc] at HF
    cases hi : Msg.certIn c with
    | true =>
      rw [Msg.cert_right hc hi]
      rw [hi] at HIn
      clear hc hi
      generalize Msg.enough f ms 2 c = B at *
      go_enter Try.func19, Try.ntmps19
      go_wp2_with fail
      refine (HF.out _ ((Ext.refl _).alloc _)).mono ?_
      rintro e w2 ⟨rfl, hb⟩
      have HE2 : Hid (Ext w w2) := ((Ext.refl _).alloc _).trans hb
      obtain ⟨c0, c1, c2⟩ := cert_box w c _ _ hb
      have hlt2 : w.heap.size < w2.heap.size := by have := hb.size; simp at this; omega
      clear hb
      go_wp2_with fail
      refine (HCo.out _).mono ?_
      rintro e w3 ⟨rfl, hb⟩
      have HE3 : Hid (Ext w w3) := HE2.out.trans hb
      have HX3 : Hid (Ext w2 w3) := hb
      clear hb
      go_wp2_with fail
      refine (HIn.out _).mono ?_
      rintro e w4 ⟨rfl, hb⟩
      have HE4 : Hid (Ext w w4) := HE3.out.trans hb
      have hb := HX3.out.trans hb
      have d0 := ((Ext.cell hb).1 _ _ hlt2).trans c0
      have d1 := ((Ext.cell hb).1 _ _ hlt2).trans c1
      have d2 := ((Ext.cell hb).1 _ _ hlt2).trans c2
      clear hb c0 c1 c2 HX3
      go_wp2_with fail
      refine (HQ.out _ HE4.out).mono ?_
      rintro e w5 ⟨rfl, hb⟩
      have HE5 : Hid (Ext w w5) := HE4.out.trans hb
      clear hb d0 d1 d2
      go_wp2
      go_ret
      exact ⟨rfl, HE5.out⟩
    | false =>
      rw [Msg.cert_out hi]
      rw [hi] at HIn
      clear hc hi HQ
      go_enter Try.func19, Try.ntmps19
      go_wp2_with fail
      refine (HF.out _ ((Ext.refl _).alloc _)).mono ?_
      rintro e w2 ⟨rfl, hb⟩
      have HE2 : Hid (Ext w w2) := ((Ext.refl _).alloc _).trans hb
      obtain ⟨c0, c1, c2⟩ := cert_box w c _ _ hb
      have hlt2 : w.heap.size < w2.heap.size := by have := hb.size; simp at this; omega
      clear hb
      go_wp2_with fail
      refine (HCo.out _).mono ?_
      rintro e w3 ⟨rfl, hb⟩
      have HE3 : Hid (Ext w w3) := HE2.out.trans hb
      have HX3 : Hid (Ext w2 w3) := hb
      clear hb
      go_wp2_with fail
      refine (HIn.out _).mono ?_
      rintro e w4 ⟨rfl, hb⟩
      have HE4 : Hid (Ext w w4) := HE3.out.trans hb
      have hb := HX3.out.trans hb
      have d0 := ((Ext.cell hb).1 _ _ hlt2).trans c0
      have d1 := ((Ext.cell hb).1 _ _ hlt2).trans c1
      have d2 := ((Ext.cell hb).1 _ _ hlt2).trans c2
      clear hb c0 c1 c2 HX3
      clear d0 d1 d2
      go_wp2
      go_ret
      exact ⟨rfl, HE4.out⟩
  · rw [Msg.cert_bad hc]
    have g : (Msg.ledger f ms == 0) = false := by simpa using hc
    clear hc HQ0 HCo HIn
    generalize Msg.ledger f ms = k at *
    go_enter Try.func19, Try.ntmps19
    go_wp2_with fail
    refine (HF.out _ ((Ext.refl _).alloc _)).mono ?_
    rintro e w2 ⟨rfl, hb⟩
    have HE2 : Hid (Ext w w2) := ((Ext.refl _).alloc _).trans hb
    clear hb
    go_wp2
    go_ret
    exact ⟨rfl, HE2.out⟩
end Go.Proofs.Ytflojfkalnojbaa
