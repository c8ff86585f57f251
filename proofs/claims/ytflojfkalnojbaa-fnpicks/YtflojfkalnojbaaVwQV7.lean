/- PickOf: the program's. -/
import Derived.Test.YtflojfkalnojbaaVwQV7b
namespace Go.Proofs.Ytflojfkalnojbaa
open Go.RowKit
set_option maxHeartbeats 8000000 in
set_option maxRecDepth 100000 in
theorem implPickOf_any (f : Int) (u : Value) (ps : List Int) (v : Value) (ms : List Ms) (w : World) (hS : MSlice w v ms) (hI : ISlice w u ps) :
    Calls Try.prog 25 #[.int .i64 f, v, u] w (Led.JRet w (Msg.pickV f ms ps).1 (Msg.pickV f ms ps).2) := by
  have HF : Hid (∀ wx, Ext w wx → Calls Try.prog 69 #[.int .i64 f, v] wx fun e w' => e = .returned (.int .i64 (Msg.ledger f ms)) ∧ Ext wx w') := fun wx he => implLedgerFault_any f v ms wx (hS.ext he)
  have HV0 : Hid (Msg.ledger f ms = 0 → ps.length ≤ 240 → (∀ p ∈ ps, 0 ≤ p ∧ p < (ms.length : Int)) → ∀ wx, Ext w wx → Calls Try.prog 89 #[v, u] wx fun e w' => ∃ vo g, e = .returned vo ∧ wx.heap.size ≤ g ∧ Led.IOwn w' vo g (Msg.picks ms ps) ∧ Ext wx w') := fun h hl hin wx he => valuesTakenOver_any f v ms u ps wx (hS.ext he) (hI.ext he) h hin hl
  have HQ : Hid (1 ≤ f → f ≤ 2 → ∀ wx, Calls Try.prog 82 #[.int .i64 f] wx fun e w' => e = .returned (.int .i64 (3 * f + 1)) ∧ w' = wx) := fun h0 h1 wx => replicasOf_any f wx h0 h1
  have HNo : Hid (∀ p wx, Ext w wx → Msg.kindAt ms p 4 = false → Calls Try.prog 88 #[v, .int .i64 p, .int .i64 4] wx fun e w' => e = .returned (.pointer none) ∧ w' = wx) := fun p wx he h => findMsg_no v ms p 4 wx (hS.ext he) h
  have HYe : Hid (∀ p wx, Ext w wx → Msg.kindAt ms p 4 = true → Calls Try.prog 88 #[v, .int .i64 p, .int .i64 4] wx fun e w' => ∃ b o, e = .returned (.pointer (some ⟨b, o, none⟩)) ∧ w' = wx) := fun p wx he h => by
    cases hn : Msg.nth ms p with
    | none => rw [Msg.kindAt_none hn] at h; cases h
    | some z =>
      rw [Msg.kindAt_some hn, decide_eq_true_eq] at h
      exact (findMsg_yes v ms p 4 z wx (hS.ext he) hn h).mono fun e w' ⟨b, o, h1, _, _, h2⟩ => ⟨b, o, h1, h2⟩
  obtain ⟨a, cap, rfl, -, -, -⟩ := hS
  obtain ⟨a2, cap2, rfl, hlc, hcm, hx⟩ := hI
  have HX : Hid (0 < ps.length → ∃ b off, a2 = some ⟨b, off, none⟩ ∧ b < w.heap.size ∧ NumsAt w b off ps) := hx
  clear hx
  unfold maxLen at hcm
  by_cases hc : Msg.ledger f ms = 0
  · obtain ⟨hf0, hf1, hml⟩ := Msg.ledger_zero hc
    have HC : Hid (Msg.ledger f ms = 0) := hc
    rw [hc] at HF
    have e1 : IntKind.i64.wrap (3 * f) = 3 * f := by rw [IntKind.wrap_i64]; omega
    have e2 : IntKind.i64.wrap (3 * f + 1) = 3 * f + 1 := by rw [IntKind.wrap_i64]; omega
    by_cases hmany : 3 * f + 1 < (ps.length : Int)
    · rw [Msg.pickV_many hc hmany]
      clear hc HV0
      go_enter Try.func25, Try.ntmps25
      go_wp2_with fail
      refine (HF.out _ ((Ext.refl _).alloc _)).mono ?_
      rintro e w2 ⟨rfl, hb⟩
      have HE2 : Hid (Ext w w2) := ((Ext.refl _).alloc _).trans hb
      have HZ2 : Hid (Led.JZ w2 w.heap.size) := (Led.jz_new w _).ext hb
      clear hb
      obtain ⟨x0, x1, x2, x3, x4⟩ := HZ2.out
      go_wp2_with fail
      refine (HQ.out hf0 hf1 _).mono ?_
      rintro e w9 ⟨rfl, hw⟩
      rw [hw]
      clear hw w9
      go_wp2
      exact bodyPost_ret (v := Led.jr 2 (.slice none 0 0)) (by simp [results, Try.results25, go_sem, Led.jr, x1, x2]) rfl (Led.jret_bad 2 HE2.out)
    · clear hc
      go_enter Try.func25, Try.ntmps25
      go_wp2_with fail
      refine (HF.out _ ((Ext.refl _).alloc _)).mono ?_
      rintro e w2 ⟨rfl, hb⟩
      have HE2 : Hid (Ext w w2) := ((Ext.refl _).alloc _).trans hb
      have HZ2 : Hid (Led.JZ w2 w.heap.size) := (Led.jz_new w _).ext hb
      clear hb
      obtain ⟨x0, x1, x2, x3, x4⟩ := HZ2.out
      go_wp2_with fail
      refine (HQ.out hf0 hf1 _).mono ?_
      rintro e w9 ⟨rfl, hw⟩
      rw [hw]
      clear hw w9
      go_wp2
      go_loopw [25] (fun i wr => ∃ (k : Nat), k ≤ ps.length ∧ i = .int .i64 k ∧ Hid (∀ j, j < k → ∀ p, ps[j]? = some p → Msg.kindAt ms p 4 = true) ∧ Hid (Ext w2 wr)) (fun i _ => ps.length - (intOf i).toNat)
      case atStart => exact ⟨0, Nat.zero_le _, rfl, fun j h => by omega, Ext.refl _⟩
      case round =>
        obtain ⟨k, hk, rfl, HA, HE⟩ := hrel
        clear x0 x1 x2 x3 x4
        by_cases hlt : k < ps.length
        · obtain ⟨p, hpk⟩ : ∃ p, ps[k]? = some p := ⟨_, List.getElem?_eq_getElem hlt⟩
          obtain ⟨b, off, rfl, hb, hN⟩ := HX.out (by omega)
          have d0 := hN.ext hb (HE2.out.trans HE.out) k p hpk
          have HZ : Hid (ps[k]? = some p) := hpk
          have HEw : Hid (Ext w wr) := HE2.out.trans HE.out
          clear hpk hN
          cases hkd : Msg.kindAt ms p 4 with
          | true =>
            have HA2 : Hid (∀ j, j < k + 1 → ∀ p, ps[j]? = some p → Msg.kindAt ms p 4 = true) := fun j hj p' hp' => by
              by_cases hjk : j = k
              · subst hjk; rw [HZ.out] at hp'; cases hp'; exact hkd
              · exact HA.out j (by omega) p' hp'
            go_wp2_with fail
            refine (HYe.out p _ HEw.out hkd).mono ?_
            rintro e w9 ⟨b9, o9, rfl, hw⟩
            rw [hw]
            clear hw w9 hkd
            go_wp2
            exact ⟨⟨k + 1, by omega, by go_num, HA2, HE⟩, by simp [intOf]; omega⟩
          | false =>
            have HPv : Hid (Msg.pickV f ms ps = (4, [])) := Msg.pickV_none HC.out (by omega) HZ.out hkd
            obtain ⟨x0, x1, x2, x3, x4⟩ := HZ2.out.ext HE.out
            go_wp2_with fail
            refine (HNo.out p _ HEw.out hkd).mono ?_
            rintro e w9 ⟨rfl, hw⟩
            rw [hw]
            clear hw w9 hkd
            go_wp2
            refine bodyPost_ret (v := Led.jr 4 (.slice none 0 0)) (by simp [results, Try.results25, go_sem, Led.jr, x1, x2]) rfl ?_
            rw [HPv.out]
            exact Led.jret_bad 4 HEw.out
        · have hke : k = ps.length := by omega
          subst hke
          have HPv : Hid (Msg.pickV f ms ps = (0, Msg.picks ms ps)) := Msg.pickV_ok HC.out (by omega) HA.out
          have HIn : Hid (∀ p ∈ ps, 0 ≤ p ∧ p < (ms.length : Int)) := fun p hp => by
            obtain ⟨j, hj⟩ := List.getElem?_of_mem hp
            have hq := HA.out j (List.getElem?_eq_some_iff.1 hj).1 p hj
            cases hn : Msg.nth ms p with
            | none => rw [Msg.kindAt_none hn] at hq; cases hq
            | some z => have := Msg.nth_some hn; omega
          have hl240 : ps.length ≤ 240 := by omega
          have HV : Hid (∀ wx, Ext w wx → Calls Try.prog 89 #[.slice a ms.length cap, .slice a2 ps.length cap2] wx fun e w' => ∃ vo g, e = .returned vo ∧ wx.heap.size ≤ g ∧ Led.IOwn w' vo g (Msg.picks ms ps) ∧ Ext wx w') := HV0.out HC.out hl240 HIn.out
          obtain ⟨rs, HRs⟩ : ∃ rs, Hid (Msg.picks ms ps = rs) := ⟨_, rfl⟩
          rw [HRs.out] at HV HPv
          clear HV0
          go_wp2_with fail
          refine (HV.out _ (HE2.out.trans HE.out)).mono ?_
          rintro e w5 ⟨v5, g5, rfl, hg5, hO5, hb⟩
          obtain ⟨a5, c5, rfl, -⟩ := id hO5
          have HE5 : Hid (Ext w w5) := (HE2.out.trans HE.out).trans hb
          have HZ5 : Hid (Led.JZ w5 w.heap.size) := (HZ2.out.ext HE.out).ext hb
          have HO5 : Hid (Led.IOwn w5 (.slice a5 rs.length c5) g5 rs ∧ w.heap.size < g5) := ⟨hO5, Nat.lt_of_lt_of_le (HZ2.out.ext HE.out).1 hg5⟩
          clear hb hO5 hg5
          obtain ⟨x0, x1, x2, x3, x4⟩ := HZ5.out
          go_wp2
          refine bodyPost_ret (v := Led.jr 0 (.slice a5 rs.length c5)) (by simp [results, Try.results25, go_sem, Led.jr, x1, x2]) rfl ?_
          rw [HPv.out]
          exact Led.jret_box 0 HE5.out HO5.out.1 HO5.out.2
  · rw [Msg.pickV_bad hc]
    have g2 : (Msg.ledger f ms != 0) = true := by simpa using hc
    clear hc HV0
    generalize Msg.ledger f ms = c at *
    go_enter Try.func25, Try.ntmps25
    go_wp2_with fail
    refine (HF.out _ ((Ext.refl _).alloc _)).mono ?_
    rintro e w2 ⟨rfl, hb⟩
    have HE2 : Hid (Ext w w2) := ((Ext.refl _).alloc _).trans hb
    have HZ2 : Hid (Led.JZ w2 w.heap.size) := (Led.jz_new w _).ext hb
    clear hb
    obtain ⟨x0, x1, x2, x3, x4⟩ := HZ2.out
    go_wp2
    exact bodyPost_ret (v := Led.jr c (.slice none 0 0)) (by simp [results, Try.results25, go_sem, Led.jr, x1, x2]) rfl (Led.jret_bad c HE2.out)
end Go.Proofs.Ytflojfkalnojbaa
