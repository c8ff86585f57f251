/- both VotesFors. -/
import Derived.Test.YthndkilcjgedjaaQS3
import Derived.Test.YthndkilcjgedjaaQS5
namespace Go.Proofs.Ythndkilcjgedjaa
open Go.RowKit Go.Maps
theorem Led.jret_at {w w2 : World} (c : Int) {v : Value} {g : Nat} {rs : List Int} (rb : Nat) (hr : w.heap.size ≤ rb) (hE : Ext w w2) (hO : Led.IOwn w2 v g rs) (hg : rb < g) :
    Led.JRet w c rs (.returned (Led.jr c v)) ((w2.setCell ⟨rb, 0, none⟩ (.int .i64 c)).setCell ⟨rb, 1, none⟩ v) :=
  ⟨v, g, rfl, by omega, hO.upd' (((Upd.refl rb w2).setAt _ _).setAt _ _) (fun _ => by omega), (hE.setCell (p := ⟨rb, 0, none⟩) hr _).setCell (p := ⟨rb, 1, none⟩) hr _⟩
theorem Led.jret_no {w w2 : World} (c : Int) (rb : Nat) (hr : w.heap.size ≤ rb) (hE : Ext w w2) :
    Led.JRet w c [] (.returned (Led.jr c (.slice none 0 0))) ((w2.setCell ⟨rb, 0, none⟩ (.int .i64 c)).setCell ⟨rb, 1, none⟩ (.slice none 0 0)) :=
  Led.jret_at (g := rb + 1) c rb hr hE ⟨none, 0, rfl, Nat.le_refl _, by unfold maxLen; omega, fun h => by simp at h⟩ (by omega)
theorem Msg.fOk_in' {f : Int} (h : Msg.fOk f = true) : 1 ≤ f ∧ f ≤ 2 := by unfold Msg.fOk at h; simpa using h

set_option maxHeartbeats 8000000 in
set_option maxRecDepth 100000 in
theorem implVotesFor_any (f : Int) (v : Value) (ms : List Ms) (m : Ms) (vc uc : Value) (w : World) (hS : MSlice w v ms) (hL : MLs w vc uc m) :
    Calls Try.prog 17 #[.int .i64 f, v, magg m vc uc] w (Led.JRet w (Msg.votesV f ms m).1 (Msg.votesV f ms m).2) := by
  have HF : Hid (∀ wx, Ext w wx → Calls Try.prog 48 #[.int .i64 f, v] wx fun e w' => e = .returned (.int .i64 (Msg.ledger f ms)) ∧ Ext wx w') := fun wx he => implLedgerFault_any f v ms wx (hS.ext he)
  have HM0 : Hid (Msg.fOk f = true → ∀ wx, Ext w wx → Calls Try.prog 46 #[.int .i64 f, magg m vc uc] wx fun e w' => e = .returned (.int .i64 (Msg.faultM f m)) ∧ Ext wx w') := fun hf wx he => by
    have h := implMsgFault_any f m vc uc wx (hL.ext he)
    rw [Msg.fault_2 hf] at h
    exact h
  have HV0 : Hid (Msg.ledger f ms = 0 → m.certs = [] → m.refs = [] → ∀ wx, Ext w wx → Calls Try.prog 63 #[v, magg m vc uc] wx fun e w' => ∃ b n, e = .returned (.map (some b)) ∧ wx.heap.size ≤ b ∧ Nst.SMap w' b n (Msg.votes f ms m.kind ⟨m.slot, m.view, m.value⟩) ∧ Ext wx w') := fun hled h1 h2 wx he => by
    rw [← Msg.voters_votes hled h1 h2]
    obtain ⟨hf0, hf1, hlen⟩ := Msg.ledger_zero hled
    exact votersFor_any v ms m vc uc wx (hS.ext he) (hL.ext he) hlen (fun z hz => by have := Msg.from_in (Msg.ledger_all hled z hz); omega)
  have HR0 : Hid (∀ (rs : List Int), Nst.Ris rs → rs.length ≤ 7 → ∀ (b n : Nat) (wx : World), Nst.SMap wx b n rs → Calls Try.prog 64 #[.map (some b)] wx fun e w' => ∃ v g, e = .returned v ∧ wx.heap.size ≤ g ∧ Led.IOwn w' v g rs ∧ Ext wx w') := fun rs hr hl b n wx h => Nst.rising_any b n rs wx h hr (by omega)
  obtain ⟨a, cap, rfl, -, -, -⟩ := hS
  obtain ⟨a1, k1, a2, k2, rfl, rfl, -, -, -, -⟩ := hL.form
  clear hL
  by_cases hc : Msg.ledger f ms = 0
  · obtain ⟨hf0, hf1, hlen⟩ := Msg.ledger_zero hc
    rw [hc] at HF
    have HM : Hid _ := HM0.out (by unfold Msg.fOk; simp; omega)
    clear HM0
    by_cases hm : Msg.faultM f m = 0
    · rw [hm] at HM
      by_cases hk : m.kind = 2 ∨ m.kind = 3
      · rw [Msg.votesV_ok hc hm hk]
        have hsl := Msg.of_slot hm hk
        have HV : Hid (∀ wx, Ext w wx → Calls Try.prog 63 #[.slice a ms.length cap, magg m (.slice a1 m.certs.length k1) (.slice a2 m.refs.length k2)] wx fun e w' => ∃ b n, e = .returned (.map (some b)) ∧ wx.heap.size ≤ b ∧ Nst.SMap w' b n (Msg.votes f ms m.kind ⟨m.slot, m.view, m.value⟩) ∧ Ext wx w') := HV0.out hc hsl.1 hsl.2.1
        have HR : Hid (∀ (b n : Nat) (wx : World), Nst.SMap wx b n (Msg.votes f ms m.kind ⟨m.slot, m.view, m.value⟩) → Calls Try.prog 64 #[.map (some b)] wx fun e w' => ∃ v g, e = .returned v ∧ wx.heap.size ≤ g ∧ Led.IOwn w' v g (Msg.votes f ms m.kind ⟨m.slot, m.view, m.value⟩) ∧ Ext wx w') := HR0.out _ (Msg.votesK_ris _ _ _ _) (Msg.votes_len hf0 hf1)
        clear HV0 HR0
        generalize Msg.votes f ms m.kind ⟨m.slot, m.view, m.value⟩ = rs at *
        unfold magg at *
        clear hc hm hsl
        by_cases h2 : m.kind = 2
        · have g2 : (m.kind != 2) = false := by simp [h2]
          clear hk h2
          go_enter Try.func17, Try.ntmps17
          go_wp2_with fail
          refine (HF.out _ (((Ext.refl _).alloc _).alloc _)).mono ?_
          rintro e w2 ⟨rfl, hb⟩
          have HE2 : Hid (Ext w w2) := (((Ext.refl _).alloc _).alloc _).trans hb
          have HB2 : Hid (MBoxAt w2 w.heap.size m (.slice a1 m.certs.length k1) (.slice a2 m.refs.length k2)) := ((mbox_new w m _ _ _).ext ((Ext.refl _).alloc _)).ext hb
          have HZ2 : Hid (Led.JZ w2 (w.heap.size + 1)) := by have h := (Led.jz_new (w.alloc (.cells #[.int .i64 m.kind, .int .i64 m.view, .int .i64 m.from_, .int .i64 m.slot, .int .i64 m.value, .slice a1 m.certs.length k1, .slice a2 m.refs.length k2] 28)) 32).ext hb; simp only [World.size_alloc] at h; exact h
          clear hb
          obtain ⟨-, ⟨p0, p1, p2, p3, p4, p5, p6⟩, -⟩ := HB2.out
          go_wp2_with fail
          refine (HM.out _ HE2.out).mono ?_
          rintro e w3 ⟨rfl, hb⟩
          have HE3 : Hid (Ext w w3) := HE2.out.trans hb
          have HB3 : Hid (MBoxAt w3 w.heap.size m (.slice a1 m.certs.length k1) (.slice a2 m.refs.length k2)) := HB2.out.ext hb
          have HZ3 : Hid (Led.JZ w3 (w.heap.size + 1)) := HZ2.out.ext hb
          clear hb p0 p1 p2 p3 p4 p5 p6
          obtain ⟨-, ⟨p0, p1, p2, p3, p4, p5, p6⟩, -⟩ := HB3.out
          go_wp2_with fail
          refine (HV.out _ HE3.out).mono ?_
          rintro e w4 ⟨b, n, rfl, -, hM4, hb⟩
          have HE4 : Hid (Ext w w4) := HE3.out.trans hb
          have HZ4 : Hid (Led.JZ w4 (w.heap.size + 1)) := HZ3.out.ext hb
          have HM4 : Hid (Nst.SMap w4 b n rs) := hM4
          clear hb hM4
          go_wp2_with fail
          refine (HR.out _ _ _ HM4.out).mono ?_
          rintro e w5 ⟨v5, g5, rfl, hg5, hO5, hb⟩
          obtain ⟨a5, c5, rfl, -⟩ := id hO5
          have HE5 : Hid (Ext w w5) := HE4.out.trans hb
          have HZ5 : Hid (Led.JZ w5 (w.heap.size + 1)) := HZ4.out.ext hb
          have HO5 : Hid (Led.IOwn w5 (.slice a5 rs.length c5) g5 rs ∧ w.heap.size + 1 < g5) := ⟨hO5, Nat.lt_of_lt_of_le HZ4.out.1 hg5⟩
          clear hb hO5 hg5
          obtain ⟨x0, x1, x2, x3, x4⟩ := HZ5.out
          go_wp2
          exact bodyPost_ret (v := Led.jr 0 (.slice a5 rs.length c5)) (by simp [results, Try.results17, go_sem, Led.jr, x1, x2]) rfl (Led.jret_at 0 _ (by omega) HE5.out HO5.out.1 HO5.out.2)
        · have g2 : (m.kind != 2) = true := by simp [h2]
          have g3 : (m.kind != 3) = false := by simp; omega
          clear hk h2
          go_enter Try.func17, Try.ntmps17
          go_wp2_with fail
          refine (HF.out _ (((Ext.refl _).alloc _).alloc _)).mono ?_
          rintro e w2 ⟨rfl, hb⟩
          have HE2 : Hid (Ext w w2) := (((Ext.refl _).alloc _).alloc _).trans hb
          have HB2 : Hid (MBoxAt w2 w.heap.size m (.slice a1 m.certs.length k1) (.slice a2 m.refs.length k2)) := ((mbox_new w m _ _ _).ext ((Ext.refl _).alloc _)).ext hb
          have HZ2 : Hid (Led.JZ w2 (w.heap.size + 1)) := by have h := (Led.jz_new (w.alloc (.cells #[.int .i64 m.kind, .int .i64 m.view, .int .i64 m.from_, .int .i64 m.slot, .int .i64 m.value, .slice a1 m.certs.length k1, .slice a2 m.refs.length k2] 28)) 32).ext hb; simp only [World.size_alloc] at h; exact h
          clear hb
          obtain ⟨-, ⟨p0, p1, p2, p3, p4, p5, p6⟩, -⟩ := HB2.out
          go_wp2_with fail
          refine (HM.out _ HE2.out).mono ?_
          rintro e w3 ⟨rfl, hb⟩
          have HE3 : Hid (Ext w w3) := HE2.out.trans hb
          have HB3 : Hid (MBoxAt w3 w.heap.size m (.slice a1 m.certs.length k1) (.slice a2 m.refs.length k2)) := HB2.out.ext hb
          have HZ3 : Hid (Led.JZ w3 (w.heap.size + 1)) := HZ2.out.ext hb
          clear hb p0 p1 p2 p3 p4 p5 p6
          obtain ⟨-, ⟨p0, p1, p2, p3, p4, p5, p6⟩, -⟩ := HB3.out
          go_wp2_with fail
          refine (HV.out _ HE3.out).mono ?_
          rintro e w4 ⟨b, n, rfl, -, hM4, hb⟩
          have HE4 : Hid (Ext w w4) := HE3.out.trans hb
          have HZ4 : Hid (Led.JZ w4 (w.heap.size + 1)) := HZ3.out.ext hb
          have HM4 : Hid (Nst.SMap w4 b n rs) := hM4
          clear hb hM4
          go_wp2_with fail
          refine (HR.out _ _ _ HM4.out).mono ?_
          rintro e w5 ⟨v5, g5, rfl, hg5, hO5, hb⟩
          obtain ⟨a5, c5, rfl, -⟩ := id hO5
          have HE5 : Hid (Ext w w5) := HE4.out.trans hb
          have HZ5 : Hid (Led.JZ w5 (w.heap.size + 1)) := HZ4.out.ext hb
          have HO5 : Hid (Led.IOwn w5 (.slice a5 rs.length c5) g5 rs ∧ w.heap.size + 1 < g5) := ⟨hO5, Nat.lt_of_lt_of_le HZ4.out.1 hg5⟩
          clear hb hO5 hg5
          obtain ⟨x0, x1, x2, x3, x4⟩ := HZ5.out
          go_wp2
          exact bodyPost_ret (v := Led.jr 0 (.slice a5 rs.length c5)) (by simp [results, Try.results17, go_sem, Led.jr, x1, x2]) rfl (Led.jret_at 0 _ (by omega) HE5.out HO5.out.1 HO5.out.2)
      · rw [Msg.votesV_kind hc hm hk]
        have g2 : (m.kind != 2) = true := by simp; omega
        have g3 : (m.kind != 3) = true := by simp; omega
        clear HV0 HR0
        unfold magg at *
        clear hc hm hk
        go_enter Try.func17, Try.ntmps17
        go_wp2_with fail
        refine (HF.out _ (((Ext.refl _).alloc _).alloc _)).mono ?_
        rintro e w2 ⟨rfl, hb⟩
        have HE2 : Hid (Ext w w2) := (((Ext.refl _).alloc _).alloc _).trans hb
        have HB2 : Hid (MBoxAt w2 w.heap.size m (.slice a1 m.certs.length k1) (.slice a2 m.refs.length k2)) := ((mbox_new w m _ _ _).ext ((Ext.refl _).alloc _)).ext hb
        have HZ2 : Hid (Led.JZ w2 (w.heap.size + 1)) := by have h := (Led.jz_new (w.alloc (.cells #[.int .i64 m.kind, .int .i64 m.view, .int .i64 m.from_, .int .i64 m.slot, .int .i64 m.value, .slice a1 m.certs.length k1, .slice a2 m.refs.length k2] 28)) 32).ext hb; simp only [World.size_alloc] at h; exact h
        clear hb
        obtain ⟨-, ⟨p0, p1, p2, p3, p4, p5, p6⟩, -⟩ := HB2.out
        go_wp2_with fail
        refine (HM.out _ HE2.out).mono ?_
        rintro e w3 ⟨rfl, hb⟩
        have HE3 : Hid (Ext w w3) := HE2.out.trans hb
        have HB3 : Hid (MBoxAt w3 w.heap.size m (.slice a1 m.certs.length k1) (.slice a2 m.refs.length k2)) := HB2.out.ext hb
        have HZ3 : Hid (Led.JZ w3 (w.heap.size + 1)) := HZ2.out.ext hb
        clear hb p0 p1 p2 p3 p4 p5 p6
        obtain ⟨-, ⟨p0, p1, p2, p3, p4, p5, p6⟩, -⟩ := HB3.out
        obtain ⟨x0, x1, x2, x3, x4⟩ := HZ3.out
        go_wp2
        exact bodyPost_ret (v := Led.jr 1 (.slice none 0 0)) (by simp [results, Try.results17, go_sem, Led.jr, x1, x2]) rfl (Led.jret_no 1 _ (by omega) HE3.out)
    · rw [Msg.votesV_msg hc hm]
      clear HV0 HR0
      unfold magg at *
      have g2 : (Msg.faultM f m != 0) = true := by simpa using hm
      clear hc hm
      generalize Msg.faultM f m = c at *
      go_enter Try.func17, Try.ntmps17
      go_wp2_with fail
      refine (HF.out _ (((Ext.refl _).alloc _).alloc _)).mono ?_
      rintro e w2 ⟨rfl, hb⟩
      have HE2 : Hid (Ext w w2) := (((Ext.refl _).alloc _).alloc _).trans hb
      have HB2 : Hid (MBoxAt w2 w.heap.size m (.slice a1 m.certs.length k1) (.slice a2 m.refs.length k2)) := ((mbox_new w m _ _ _).ext ((Ext.refl _).alloc _)).ext hb
      have HZ2 : Hid (Led.JZ w2 (w.heap.size + 1)) := by have h := (Led.jz_new (w.alloc (.cells #[.int .i64 m.kind, .int .i64 m.view, .int .i64 m.from_, .int .i64 m.slot, .int .i64 m.value, .slice a1 m.certs.length k1, .slice a2 m.refs.length k2] 28)) 32).ext hb; simp only [World.size_alloc] at h; exact h
      clear hb
      obtain ⟨-, ⟨p0, p1, p2, p3, p4, p5, p6⟩, -⟩ := HB2.out
      go_wp2_with fail
      refine (HM.out _ HE2.out).mono ?_
      rintro e w3 ⟨rfl, hb⟩
      have HE3 : Hid (Ext w w3) := HE2.out.trans hb
      have HB3 : Hid (MBoxAt w3 w.heap.size m (.slice a1 m.certs.length k1) (.slice a2 m.refs.length k2)) := HB2.out.ext hb
      have HZ3 : Hid (Led.JZ w3 (w.heap.size + 1)) := HZ2.out.ext hb
      clear hb p0 p1 p2 p3 p4 p5 p6
      obtain ⟨-, ⟨p0, p1, p2, p3, p4, p5, p6⟩, -⟩ := HB3.out
      obtain ⟨x0, x1, x2, x3, x4⟩ := HZ3.out
      go_wp2
      exact bodyPost_ret (v := Led.jr c (.slice none 0 0)) (by simp [results, Try.results17, go_sem, Led.jr, x1, x2]) rfl (Led.jret_no c _ (by omega) HE3.out)
  · rw [Msg.votesV_bad hc]
    clear HV0 HR0
    unfold magg at *
    have g2 : (Msg.ledger f ms != 0) = true := by simpa using hc
    clear hc HM0
    generalize Msg.ledger f ms = c at *
    go_enter Try.func17, Try.ntmps17
    go_wp2_with fail
    refine (HF.out _ (((Ext.refl _).alloc _).alloc _)).mono ?_
    rintro e w2 ⟨rfl, hb⟩
    have HE2 : Hid (Ext w w2) := (((Ext.refl _).alloc _).alloc _).trans hb
    have HB2 : Hid (MBoxAt w2 w.heap.size m (.slice a1 m.certs.length k1) (.slice a2 m.refs.length k2)) := ((mbox_new w m _ _ _).ext ((Ext.refl _).alloc _)).ext hb
    have HZ2 : Hid (Led.JZ w2 (w.heap.size + 1)) := by have h := (Led.jz_new (w.alloc (.cells #[.int .i64 m.kind, .int .i64 m.view, .int .i64 m.from_, .int .i64 m.slot, .int .i64 m.value, .slice a1 m.certs.length k1, .slice a2 m.refs.length k2] 28)) 32).ext hb; simp only [World.size_alloc] at h; exact h
    clear hb
    obtain ⟨-, ⟨p0, p1, p2, p3, p4, p5, p6⟩, -⟩ := HB2.out
    obtain ⟨x0, x1, x2, x3, x4⟩ := HZ2.out
    go_wp2
    exact bodyPost_ret (v := Led.jr c (.slice none 0 0)) (by simp [results, Try.results17, go_sem, Led.jr, x1, x2]) rfl (Led.jret_no c _ (by omega) HE2.out)

set_option maxHeartbeats 8000000 in
set_option maxRecDepth 100000 in
theorem specVotesFor_any (f : Int) (v : Value) (ms : List Ms) (m : Ms) (vc uc : Value) (w : World) (hS : MSlice w v ms) (hL : MLs w vc uc m) :
    Calls Try.prog 18 #[.int .i64 f, v, magg m vc uc] w (Led.JRet w (Msg.votesV f ms m).1 (Msg.votesV f ms m).2) := by
  have HF : Hid (∀ wx, Ext w wx → Calls Try.prog 65 #[.int .i64 f, v] wx fun e w' => e = .returned (.int .i64 (Msg.ledger f ms)) ∧ Ext wx w') := fun wx he => l8Asked_any f v ms wx (hS.ext he)
  have HM0 : Hid (Msg.fOk f = true → ∀ wx, Ext w wx → ∀ b, MBoxAt wx b m vc uc → Calls Try.prog 66 #[.int .i64 f, .pointer (some ⟨b, 0, none⟩)] wx fun e w' => e = .returned (.int .i64 (Msg.faultM f m)) ∧ Ext wx w') := fun hf wx he b hB => l8Msg_any f m vc uc b 0 wx (Msg.fOk_in' hf).1 (Msg.fOk_in' hf).2 hB.1 hB.cs (hL.ext he)
  have HV0 : Hid (1 ≤ f → f ≤ 2 → ∀ wx, Ext w wx → Calls Try.prog 67 #[.int .i64 f, v, .int .i64 m.kind, ctagg ⟨m.slot, m.view, m.value⟩] wx fun e w' => ∃ vo g, e = .returned vo ∧ wx.heap.size ≤ g ∧ Led.IOwn w' vo g (Msg.votes f ms m.kind ⟨m.slot, m.view, m.value⟩) ∧ Ext wx w') := fun h0 h1 wx he => l9Votes_any f v ms m.kind _ wx (hS.ext he) h0 h1
  obtain ⟨a, cap, rfl, -, -, -⟩ := hS
  obtain ⟨a1, k1, a2, k2, rfl, rfl, -, -, -, -⟩ := hL.form
  clear hL
  by_cases hc : Msg.ledger f ms = 0
  · obtain ⟨hf0, hf1, hlen⟩ := Msg.ledger_zero hc
    rw [hc] at HF
    have HM : Hid _ := HM0.out (by unfold Msg.fOk; simp; omega)
    clear HM0
    by_cases hm : Msg.faultM f m = 0
    · rw [hm] at HM
      by_cases hk : m.kind = 2 ∨ m.kind = 3
      · rw [Msg.votesV_ok hc hm hk]
        have hsl := Msg.of_slot hm hk
        have HV : Hid (∀ wx, Ext w wx → Calls Try.prog 67 #[.int .i64 f, .slice a ms.length cap, .int .i64 m.kind, .agg #[.int .i64 m.slot, .int .i64 m.view, .int .i64 m.value]] wx fun e w' => ∃ vo g, e = .returned vo ∧ wx.heap.size ≤ g ∧ Led.IOwn w' vo g (Msg.votes f ms m.kind ⟨m.slot, m.view, m.value⟩) ∧ Ext wx w') := HV0.out hf0 hf1
        clear HV0
        generalize Msg.votes f ms m.kind ⟨m.slot, m.view, m.value⟩ = rs at *
        unfold magg at *
        clear hc hm hsl
        by_cases h2 : m.kind = 2
        · have g2 : (m.kind != 2) = false := by simp [h2]
          clear hk h2
          go_enter Try.func18, Try.ntmps18
          go_wp2_with fail
          refine (HF.out _ (((Ext.refl _).alloc _).alloc _)).mono ?_
          rintro e w2 ⟨rfl, hb⟩
          have HE2 : Hid (Ext w w2) := (((Ext.refl _).alloc _).alloc _).trans hb
          have HB2 : Hid (MBoxAt w2 w.heap.size m (.slice a1 m.certs.length k1) (.slice a2 m.refs.length k2)) := ((mbox_new w m _ _ _).ext ((Ext.refl _).alloc _)).ext hb
          have HZ2 : Hid (Led.JZ w2 (w.heap.size + 1)) := by have h := (Led.jz_new (w.alloc (.cells #[.int .i64 m.kind, .int .i64 m.view, .int .i64 m.from_, .int .i64 m.slot, .int .i64 m.value, .slice a1 m.certs.length k1, .slice a2 m.refs.length k2] 28)) 32).ext hb; simp only [World.size_alloc] at h; exact h
          clear hb
          obtain ⟨-, ⟨p0, p1, p2, p3, p4, p5, p6⟩, -⟩ := HB2.out
          go_wp2_with fail
          refine (HM.out _ HE2.out _ HB2.out).mono ?_
          rintro e w3 ⟨rfl, hb⟩
          have HE3 : Hid (Ext w w3) := HE2.out.trans hb
          have HB3 : Hid (MBoxAt w3 w.heap.size m (.slice a1 m.certs.length k1) (.slice a2 m.refs.length k2)) := HB2.out.ext hb
          have HZ3 : Hid (Led.JZ w3 (w.heap.size + 1)) := HZ2.out.ext hb
          clear hb p0 p1 p2 p3 p4 p5 p6
          obtain ⟨-, ⟨p0, p1, p2, p3, p4, p5, p6⟩, -⟩ := HB3.out
          go_wp2_with fail
          refine (HV.out _ HE3.out).mono ?_
          rintro e w5 ⟨v5, g5, rfl, hg5, hO5, hb⟩
          obtain ⟨a5, c5, rfl, -⟩ := id hO5
          have HE5 : Hid (Ext w w5) := HE3.out.trans hb
          have HZ5 : Hid (Led.JZ w5 (w.heap.size + 1)) := HZ3.out.ext hb
          have HO5 : Hid (Led.IOwn w5 (.slice a5 rs.length c5) g5 rs ∧ w.heap.size + 1 < g5) := ⟨hO5, Nat.lt_of_lt_of_le HZ3.out.1 hg5⟩
          clear hb hO5 hg5 p0 p1 p2 p3 p4 p5 p6
          obtain ⟨x0, x1, x2, x3, x4⟩ := HZ5.out
          go_wp2
          exact bodyPost_ret (v := Led.jr 0 (.slice a5 rs.length c5)) (by simp [results, Try.results18, go_sem, Led.jr, x1, x2]) rfl (Led.jret_at 0 _ (by omega) HE5.out HO5.out.1 HO5.out.2)
        · have g2 : (m.kind != 2) = true := by simp [h2]
          have g3 : (m.kind != 3) = false := by simp; omega
          clear hk h2
          go_enter Try.func18, Try.ntmps18
          go_wp2_with fail
          refine (HF.out _ (((Ext.refl _).alloc _).alloc _)).mono ?_
          rintro e w2 ⟨rfl, hb⟩
          have HE2 : Hid (Ext w w2) := (((Ext.refl _).alloc _).alloc _).trans hb
          have HB2 : Hid (MBoxAt w2 w.heap.size m (.slice a1 m.certs.length k1) (.slice a2 m.refs.length k2)) := ((mbox_new w m _ _ _).ext ((Ext.refl _).alloc _)).ext hb
          have HZ2 : Hid (Led.JZ w2 (w.heap.size + 1)) := by have h := (Led.jz_new (w.alloc (.cells #[.int .i64 m.kind, .int .i64 m.view, .int .i64 m.from_, .int .i64 m.slot, .int .i64 m.value, .slice a1 m.certs.length k1, .slice a2 m.refs.length k2] 28)) 32).ext hb; simp only [World.size_alloc] at h; exact h
          clear hb
          obtain ⟨-, ⟨p0, p1, p2, p3, p4, p5, p6⟩, -⟩ := HB2.out
          go_wp2_with fail
          refine (HM.out _ HE2.out _ HB2.out).mono ?_
          rintro e w3 ⟨rfl, hb⟩
          have HE3 : Hid (Ext w w3) := HE2.out.trans hb
          have HB3 : Hid (MBoxAt w3 w.heap.size m (.slice a1 m.certs.length k1) (.slice a2 m.refs.length k2)) := HB2.out.ext hb
          have HZ3 : Hid (Led.JZ w3 (w.heap.size + 1)) := HZ2.out.ext hb
          clear hb p0 p1 p2 p3 p4 p5 p6
          obtain ⟨-, ⟨p0, p1, p2, p3, p4, p5, p6⟩, -⟩ := HB3.out
          go_wp2_with fail
          refine (HV.out _ HE3.out).mono ?_
          rintro e w5 ⟨v5, g5, rfl, hg5, hO5, hb⟩
          obtain ⟨a5, c5, rfl, -⟩ := id hO5
          have HE5 : Hid (Ext w w5) := HE3.out.trans hb
          have HZ5 : Hid (Led.JZ w5 (w.heap.size + 1)) := HZ3.out.ext hb
          have HO5 : Hid (Led.IOwn w5 (.slice a5 rs.length c5) g5 rs ∧ w.heap.size + 1 < g5) := ⟨hO5, Nat.lt_of_lt_of_le HZ3.out.1 hg5⟩
          clear hb hO5 hg5 p0 p1 p2 p3 p4 p5 p6
          obtain ⟨x0, x1, x2, x3, x4⟩ := HZ5.out
          go_wp2
          exact bodyPost_ret (v := Led.jr 0 (.slice a5 rs.length c5)) (by simp [results, Try.results18, go_sem, Led.jr, x1, x2]) rfl (Led.jret_at 0 _ (by omega) HE5.out HO5.out.1 HO5.out.2)
      · rw [Msg.votesV_kind hc hm hk]
        have g2 : (m.kind != 2) = true := by simp; omega
        have g3 : (m.kind != 3) = true := by simp; omega
        clear HV0
        unfold magg at *
        clear hc hm hk
        go_enter Try.func18, Try.ntmps18
        go_wp2_with fail
        refine (HF.out _ (((Ext.refl _).alloc _).alloc _)).mono ?_
        rintro e w2 ⟨rfl, hb⟩
        have HE2 : Hid (Ext w w2) := (((Ext.refl _).alloc _).alloc _).trans hb
        have HB2 : Hid (MBoxAt w2 w.heap.size m (.slice a1 m.certs.length k1) (.slice a2 m.refs.length k2)) := ((mbox_new w m _ _ _).ext ((Ext.refl _).alloc _)).ext hb
        have HZ2 : Hid (Led.JZ w2 (w.heap.size + 1)) := by have h := (Led.jz_new (w.alloc (.cells #[.int .i64 m.kind, .int .i64 m.view, .int .i64 m.from_, .int .i64 m.slot, .int .i64 m.value, .slice a1 m.certs.length k1, .slice a2 m.refs.length k2] 28)) 32).ext hb; simp only [World.size_alloc] at h; exact h
        clear hb
        obtain ⟨-, ⟨p0, p1, p2, p3, p4, p5, p6⟩, -⟩ := HB2.out
        go_wp2_with fail
        refine (HM.out _ HE2.out _ HB2.out).mono ?_
        rintro e w3 ⟨rfl, hb⟩
        have HE3 : Hid (Ext w w3) := HE2.out.trans hb
        have HB3 : Hid (MBoxAt w3 w.heap.size m (.slice a1 m.certs.length k1) (.slice a2 m.refs.length k2)) := HB2.out.ext hb
        have HZ3 : Hid (Led.JZ w3 (w.heap.size + 1)) := HZ2.out.ext hb
        clear hb p0 p1 p2 p3 p4 p5 p6
        obtain ⟨-, ⟨p0, p1, p2, p3, p4, p5, p6⟩, -⟩ := HB3.out
        obtain ⟨x0, x1, x2, x3, x4⟩ := HZ3.out
        go_wp2
        exact bodyPost_ret (v := Led.jr 1 (.slice none 0 0)) (by simp [results, Try.results18, go_sem, Led.jr, x1, x2]) rfl (Led.jret_no 1 _ (by omega) HE3.out)
    · rw [Msg.votesV_msg hc hm]
      clear HV0
      unfold magg at *
      have g2 : (Msg.faultM f m != 0) = true := by simpa using hm
      clear hc hm
      generalize Msg.faultM f m = c at *
      go_enter Try.func18, Try.ntmps18
      go_wp2_with fail
      refine (HF.out _ (((Ext.refl _).alloc _).alloc _)).mono ?_
      rintro e w2 ⟨rfl, hb⟩
      have HE2 : Hid (Ext w w2) := (((Ext.refl _).alloc _).alloc _).trans hb
      have HB2 : Hid (MBoxAt w2 w.heap.size m (.slice a1 m.certs.length k1) (.slice a2 m.refs.length k2)) := ((mbox_new w m _ _ _).ext ((Ext.refl _).alloc _)).ext hb
      have HZ2 : Hid (Led.JZ w2 (w.heap.size + 1)) := by have h := (Led.jz_new (w.alloc (.cells #[.int .i64 m.kind, .int .i64 m.view, .int .i64 m.from_, .int .i64 m.slot, .int .i64 m.value, .slice a1 m.certs.length k1, .slice a2 m.refs.length k2] 28)) 32).ext hb; simp only [World.size_alloc] at h; exact h
      clear hb
      obtain ⟨-, ⟨p0, p1, p2, p3, p4, p5, p6⟩, -⟩ := HB2.out
      go_wp2_with fail
      refine (HM.out _ HE2.out _ HB2.out).mono ?_
      rintro e w3 ⟨rfl, hb⟩
      have HE3 : Hid (Ext w w3) := HE2.out.trans hb
      have HB3 : Hid (MBoxAt w3 w.heap.size m (.slice a1 m.certs.length k1) (.slice a2 m.refs.length k2)) := HB2.out.ext hb
      have HZ3 : Hid (Led.JZ w3 (w.heap.size + 1)) := HZ2.out.ext hb
      clear hb p0 p1 p2 p3 p4 p5 p6
      obtain ⟨-, ⟨p0, p1, p2, p3, p4, p5, p6⟩, -⟩ := HB3.out
      obtain ⟨x0, x1, x2, x3, x4⟩ := HZ3.out
      go_wp2
      exact bodyPost_ret (v := Led.jr c (.slice none 0 0)) (by simp [results, Try.results18, go_sem, Led.jr, x1, x2]) rfl (Led.jret_no c _ (by omega) HE3.out)
  · rw [Msg.votesV_bad hc]
    clear HV0
    unfold magg at *
    have g2 : (Msg.ledger f ms != 0) = true := by simpa using hc
    clear hc HM0
    generalize Msg.ledger f ms = c at *
    go_enter Try.func18, Try.ntmps18
    go_wp2_with fail
    refine (HF.out _ (((Ext.refl _).alloc _).alloc _)).mono ?_
    rintro e w2 ⟨rfl, hb⟩
    have HE2 : Hid (Ext w w2) := (((Ext.refl _).alloc _).alloc _).trans hb
    have HB2 : Hid (MBoxAt w2 w.heap.size m (.slice a1 m.certs.length k1) (.slice a2 m.refs.length k2)) := ((mbox_new w m _ _ _).ext ((Ext.refl _).alloc _)).ext hb
    have HZ2 : Hid (Led.JZ w2 (w.heap.size + 1)) := by have h := (Led.jz_new (w.alloc (.cells #[.int .i64 m.kind, .int .i64 m.view, .int .i64 m.from_, .int .i64 m.slot, .int .i64 m.value, .slice a1 m.certs.length k1, .slice a2 m.refs.length k2] 28)) 32).ext hb; simp only [World.size_alloc] at h; exact h
    clear hb
    obtain ⟨-, ⟨p0, p1, p2, p3, p4, p5, p6⟩, -⟩ := HB2.out
    obtain ⟨x0, x1, x2, x3, x4⟩ := HZ2.out
    go_wp2
    exact bodyPost_ret (v := Led.jr c (.slice none 0 0)) (by simp [results, Try.results18, go_sem, Led.jr, x1, x2]) rfl (Led.jret_no c _ (by omega) HE2.out)
end Go.Proofs.Ythndkilcjgedjaa
