/- QS6, QS7, LQ0, LQuorums, in one text. -/
import Derived.Test.YtflojfkalnojbaaQS3
import Derived.Test.YtflojfkalnojbaaQS5
import Derived.Test.YtflojfkalnojbaaQV3
import Derived.Test.YtflojfkalnojbaaH11
import Derived.Test.YtflojfkalnojbaaQV7b
import Derived.Test.YtflojfkalnojbaaMQ1
import Derived.Deep.RegionHeld3
/- both VotesFors. -/
namespace Go.Proofs.Ytflojfkalnojbaa
open Go.RowKit Go.Maps
theorem Led.jret_at {w w2 : World} (c : Int) {v : Value} {g : Nat} {rs : List Int} (rb : Nat) (hr : w.heap.size ≤ rb) (hE : Ext w w2) (hO : Led.IOwn w2 v g rs) (hg : rb < g) :
    Led.JRet w c rs (.returned (Led.jr c v)) ((w2.setCell ⟨rb, 0, none⟩ (.int .i64 c)).setCell ⟨rb, 1, none⟩ v) :=
  ⟨v, g, rfl, by omega, hO.upd' (((Upd.refl rb w2).setAt _ _).setAt _ _) (fun _ => by omega), (hE.setCell (p := ⟨rb, 0, none⟩) hr _).setCell (p := ⟨rb, 1, none⟩) hr _⟩
theorem Led.jret_no {w w2 : World} (c : Int) (rb : Nat) (hr : w.heap.size ≤ rb) (hE : Ext w w2) :
    Led.JRet w c [] (.returned (Led.jr c (.slice none 0 0))) ((w2.setCell ⟨rb, 0, none⟩ (.int .i64 c)).setCell ⟨rb, 1, none⟩ (.slice none 0 0)) :=
  Led.jret_at (g := rb + 1) c rb hr hE ⟨none, 0, rfl, Nat.le_refl _, by unfold maxLen; omega, fun h => by simp at h⟩ (by omega)
theorem Msg.fOk_in' {f : Int} (h : Msg.fOk f = true) : 1 ≤ f ∧ f ≤ 2 := by unfold Msg.fOk at h; simpa using h

set_option maxHeartbeats 8000000 in
set_option maxRecDepth 100000 in
theorem implVotesFor_any (f : Int) (v : Value) (ms : List Ms) (m : Ms) (vc uc : Value) (w : World) (hS : MSlice w v ms) (hL : MLs w vc uc m) :
    Calls Try.prog 16 #[.int .i64 f, v, magg m vc uc] w (Led.JRet w (Msg.votesV f ms m).1 (Msg.votesV f ms m).2) := by
  have HF : Hid (∀ wx, Ext w wx → Calls Try.prog 69 #[.int .i64 f, v] wx fun e w' => e = .returned (.int .i64 (Msg.ledger f ms)) ∧ Ext wx w') := fun wx he => implLedgerFault_any f v ms wx (hS.ext he)
  have HM0 : Hid (Msg.fOk f = true → ∀ wx, Ext w wx → Calls Try.prog 70 #[.int .i64 f, magg m vc uc] wx fun e w' => e = .returned (.int .i64 (Msg.faultM f m)) ∧ Ext wx w') := fun hf wx he => by
    have h := implMsgFault_any f m vc uc wx (hL.ext he)
    rw [Msg.fault_2 hf] at h
    exact h
  have HV0 : Hid (Msg.ledger f ms = 0 → m.certs = [] → m.refs = [] → ∀ wx, Ext w wx → Calls Try.prog 71 #[v, magg m vc uc] wx fun e w' => ∃ b n, e = .returned (.map (some b)) ∧ wx.heap.size ≤ b ∧ Nst.SMap w' b n (Msg.votes f ms m.kind ⟨m.slot, m.view, m.value⟩) ∧ Ext wx w') := fun hled h1 h2 wx he => by
    rw [← Msg.voters_votes hled h1 h2]
    obtain ⟨hf0, hf1, hlen⟩ := Msg.ledger_zero hled
    exact votersFor_any v ms m vc uc wx (hS.ext he) (hL.ext he) hlen (fun z hz => by have := Msg.from_in (Msg.ledger_all hled z hz); omega)
  have HR0 : Hid (∀ (rs : List Int), Nst.Ris rs → rs.length ≤ 7 → ∀ (b n : Nat) (wx : World), Nst.SMap wx b n rs → Calls Try.prog 72 #[.map (some b)] wx fun e w' => ∃ v g, e = .returned v ∧ wx.heap.size ≤ g ∧ Led.IOwn w' v g rs ∧ Ext wx w') := fun rs hr hl b n wx h => Nst.rising_any b n rs wx h hr (by omega)
  obtain ⟨a, cap, rfl, -, -, -⟩ := hS
  obtain ⟨a1, k1, a2, k2, rfl, rfl, -, -, -, -⟩ := hL.form
  clear hL
  by_cases hc : Msg.ledger f ms = 0
  · obtain ⟨hf0, hf1, hlen⟩ := Msg.ledger_zero hc
    rw [hc] at HF
    have HM : Hid _ := HM0.out (by unfold Msg.fOk; simp; omega)
    clear HM0
    by_cases hm : Msg.faultM f m = 0
    · rw [hm] at HM
      by_cases hk : m.kind = 2 ∨ m.kind = 3
      · rw [Msg.votesV_ok hc hm hk]
        have hsl := Msg.of_slot hm hk
        have HV : Hid (∀ wx, Ext w wx → Calls Try.prog 71 #[.slice a ms.length cap, magg m (.slice a1 m.certs.length k1) (.slice a2 m.refs.length k2)] wx fun e w' => ∃ b n, e = .returned (.map (some b)) ∧ wx.heap.size ≤ b ∧ Nst.SMap w' b n (Msg.votes f ms m.kind ⟨m.slot, m.view, m.value⟩) ∧ Ext wx w') := HV0.out hc hsl.1 hsl.2.1
        have HR : Hid (∀ (b n : Nat) (wx : World), Nst.SMap wx b n (Msg.votes f ms m.kind ⟨m.slot, m.view, m.value⟩) → Calls Try.prog 72 #[.map (some b)] wx fun e w' => ∃ v g, e = .returned v ∧ wx.heap.size ≤ g ∧ Led.IOwn w' v g (Msg.votes f ms m.kind ⟨m.slot, m.view, m.value⟩) ∧ Ext wx w') := HR0.out _ (Msg.votesK_ris _ _ _ _) (Msg.votes_len hf0 hf1)
        clear HV0 HR0
        generalize Msg.votes f ms m.kind ⟨m.slot, m.view, m.value⟩ = rs at *
        unfold magg at *
        clear hc hm hsl
        by_cases h2 : m.kind = 2
        · have g2 : (m.kind != 2) = false := by simp [h2]
          clear hk h2
          go_enter Try.func16, Try.ntmps16
          go_wp2_with fail
          refine (HF.out _ (((Ext.refl _).alloc _).alloc _)).mono ?_
          rintro e w2 ⟨rfl, hb⟩
          have HE2 : Hid (Ext w w2) := (((Ext.refl _).alloc _).alloc _).trans hb
          have HB2 : Hid (MBoxAt w2 w.heap.size m (.slice a1 m.certs.length k1) (.slice a2 m.refs.length k2)) := ((mbox_new w m _ _ _).ext ((Ext.refl _).alloc _)).ext hb
          have HZ2 : Hid (Led.JZ w2 (w.heap.size + 1)) := by have h := (Led.jz_new (w.alloc (.cells #[.int .i64 m.kind, .int .i64 m.view, .int .i64 m.from_, .int .i64 m.slot, .int .i64 m.value, .slice a1 m.certs.length k1, .slice a2 m.refs.length k2] 28)) 32).ext hb; simp only [World.size_alloc] at h; exact h
          clear hb
          obtain ⟨-, ⟨p0, p1, p2, p3, p4, p5, p6⟩, -⟩ := HB2.out
          go_wp2_with fail
          refine (HM.out _ HE2.out).mono ?_
          rintro e w3 ⟨rfl, hb⟩
          have HE3 : Hid (Ext w w3) := HE2.out.trans hb
          have HB3 : Hid (MBoxAt w3 w.heap.size m (.slice a1 m.certs.length k1) (.slice a2 m.refs.length k2)) := HB2.out.ext hb
          have HZ3 : Hid (Led.JZ w3 (w.heap.size + 1)) := HZ2.out.ext hb
          clear hb p0 p1 p2 p3 p4 p5 p6
          obtain ⟨-, ⟨p0, p1, p2, p3, p4, p5, p6⟩, -⟩ := HB3.out
          go_wp2_with fail
          refine (HV.out _ HE3.out).mono ?_
          rintro e w4 ⟨b, n, rfl, -, hM4, hb⟩
          have HE4 : Hid (Ext w w4) := HE3.out.trans hb
          have HZ4 : Hid (Led.JZ w4 (w.heap.size + 1)) := HZ3.out.ext hb
          have HM4 : Hid (Nst.SMap w4 b n rs) := hM4
          clear hb hM4
          go_wp2_with fail
          refine (HR.out _ _ _ HM4.out).mono ?_
          rintro e w5 ⟨v5, g5, rfl, hg5, hO5, hb⟩
          obtain ⟨a5, c5, rfl, -⟩ := id hO5
          have HE5 : Hid (Ext w w5) := HE4.out.trans hb
          have HZ5 : Hid (Led.JZ w5 (w.heap.size + 1)) := HZ4.out.ext hb
          have HO5 : Hid (Led.IOwn w5 (.slice a5 rs.length c5) g5 rs ∧ w.heap.size + 1 < g5) := ⟨hO5, Nat.lt_of_lt_of_le HZ4.out.1 hg5⟩
          clear hb hO5 hg5
          obtain ⟨x0, x1, x2, x3, x4⟩ := HZ5.out
          go_wp2
          exact bodyPost_ret (v := Led.jr 0 (.slice a5 rs.length c5)) (by simp [results, Try.results16, go_sem, Led.jr, x1, x2]) rfl (Led.jret_at 0 _ (by omega) HE5.out HO5.out.1 HO5.out.2)
        · have g2 : (m.kind != 2) = true := by simp [h2]
          have g3 : (m.kind != 3) = false := by simp; omega
          clear hk h2
          go_enter Try.func16, Try.ntmps16
          go_wp2_with fail
          refine (HF.out _ (((Ext.refl _).alloc _).alloc _)).mono ?_
          rintro e w2 ⟨rfl, hb⟩
          have HE2 : Hid (Ext w w2) := (((Ext.refl _).alloc _).alloc _).trans hb
          have HB2 : Hid (MBoxAt w2 w.heap.size m (.slice a1 m.certs.length k1) (.slice a2 m.refs.length k2)) := ((mbox_new w m _ _ _).ext ((Ext.refl _).alloc _)).ext hb
          have HZ2 : Hid (Led.JZ w2 (w.heap.size + 1)) := by have h := (Led.jz_new (w.alloc (.cells #[.int .i64 m.kind, .int .i64 m.view, .int .i64 m.from_, .int .i64 m.slot, .int .i64 m.value, .slice a1 m.certs.length k1, .slice a2 m.refs.length k2] 28)) 32).ext hb; simp only [World.size_alloc] at h; exact h
          clear hb
          obtain ⟨-, ⟨p0, p1, p2, p3, p4, p5, p6⟩, -⟩ := HB2.out
          go_wp2_with fail
          refine (HM.out _ HE2.out).mono ?_
          rintro e w3 ⟨rfl, hb⟩
          have HE3 : Hid (Ext w w3) := HE2.out.trans hb
          have HB3 : Hid (MBoxAt w3 w.heap.size m (.slice a1 m.certs.length k1) (.slice a2 m.refs.length k2)) := HB2.out.ext hb
          have HZ3 : Hid (Led.JZ w3 (w.heap.size + 1)) := HZ2.out.ext hb
          clear hb p0 p1 p2 p3 p4 p5 p6
          obtain ⟨-, ⟨p0, p1, p2, p3, p4, p5, p6⟩, -⟩ := HB3.out
          go_wp2_with fail
          refine (HV.out _ HE3.out).mono ?_
          rintro e w4 ⟨b, n, rfl, -, hM4, hb⟩
          have HE4 : Hid (Ext w w4) := HE3.out.trans hb
          have HZ4 : Hid (Led.JZ w4 (w.heap.size + 1)) := HZ3.out.ext hb
          have HM4 : Hid (Nst.SMap w4 b n rs) := hM4
          clear hb hM4
          go_wp2_with fail
          refine (HR.out _ _ _ HM4.out).mono ?_
          rintro e w5 ⟨v5, g5, rfl, hg5, hO5, hb⟩
          obtain ⟨a5, c5, rfl, -⟩ := id hO5
          have HE5 : Hid (Ext w w5) := HE4.out.trans hb
          have HZ5 : Hid (Led.JZ w5 (w.heap.size + 1)) := HZ4.out.ext hb
          have HO5 : Hid (Led.IOwn w5 (.slice a5 rs.length c5) g5 rs ∧ w.heap.size + 1 < g5) := ⟨hO5, Nat.lt_of_lt_of_le HZ4.out.1 hg5⟩
          clear hb hO5 hg5
          obtain ⟨x0, x1, x2, x3, x4⟩ := HZ5.out
          go_wp2
          exact bodyPost_ret (v := Led.jr 0 (.slice a5 rs.length c5)) (by simp [results, Try.results16, go_sem, Led.jr, x1, x2]) rfl (Led.jret_at 0 _ (by omega) HE5.out HO5.out.1 HO5.out.2)
      · rw [Msg.votesV_kind hc hm hk]
        have g2 : (m.kind != 2) = true := by simp; omega
        have g3 : (m.kind != 3) = true := by simp; omega
        clear HV0 HR0
        unfold magg at *
        clear hc hm hk
        go_enter Try.func16, Try.ntmps16
        go_wp2_with fail
        refine (HF.out _ (((Ext.refl _).alloc _).alloc _)).mono ?_
        rintro e w2 ⟨rfl, hb⟩
        have HE2 : Hid (Ext w w2) := (((Ext.refl _).alloc _).alloc _).trans hb
        have HB2 : Hid (MBoxAt w2 w.heap.size m (.slice a1 m.certs.length k1) (.slice a2 m.refs.length k2)) := ((mbox_new w m _ _ _).ext ((Ext.refl _).alloc _)).ext hb
        have HZ2 : Hid (Led.JZ w2 (w.heap.size + 1)) := by have h := (Led.jz_new (w.alloc (.cells #[.int .i64 m.kind, .int .i64 m.view, .int .i64 m.from_, .int .i64 m.slot, .int .i64 m.value, .slice a1 m.certs.length k1, .slice a2 m.refs.length k2] 28)) 32).ext hb; simp only [World.size_alloc] at h; exact h
        clear hb
        obtain ⟨-, ⟨p0, p1, p2, p3, p4, p5, p6⟩, -⟩ := HB2.out
        go_wp2_with fail
        refine (HM.out _ HE2.out).mono ?_
        rintro e w3 ⟨rfl, hb⟩
        have HE3 : Hid (Ext w w3) := HE2.out.trans hb
        have HB3 : Hid (MBoxAt w3 w.heap.size m (.slice a1 m.certs.length k1) (.slice a2 m.refs.length k2)) := HB2.out.ext hb
        have HZ3 : Hid (Led.JZ w3 (w.heap.size + 1)) := HZ2.out.ext hb
        clear hb p0 p1 p2 p3 p4 p5 p6
        obtain ⟨-, ⟨p0, p1, p2, p3, p4, p5, p6⟩, -⟩ := HB3.out
        obtain ⟨x0, x1, x2, x3, x4⟩ := HZ3.out
        go_wp2
        exact bodyPost_ret (v := Led.jr 1 (.slice none 0 0)) (by simp [results, Try.results16, go_sem, Led.jr, x1, x2]) rfl (Led.jret_no 1 _ (by omega) HE3.out)
    · rw [Msg.votesV_msg hc hm]
      clear HV0 HR0
      unfold magg at *
      have g2 : (Msg.faultM f m != 0) = true := by simpa using hm
      clear hc hm
      generalize Msg.faultM f m = c at *
      go_enter Try.func16, Try.ntmps16
      go_wp2_with fail
      refine (HF.out _ (((Ext.refl _).alloc _).alloc _)).mono ?_
      rintro e w2 ⟨rfl, hb⟩
      have HE2 : Hid (Ext w w2) := (((Ext.refl _).alloc _).alloc _).trans hb
      have HB2 : Hid (MBoxAt w2 w.heap.size m (.slice a1 m.certs.length k1) (.slice a2 m.refs.length k2)) := ((mbox_new w m _ _ _).ext ((Ext.refl _).alloc _)).ext hb
      have HZ2 : Hid (Led.JZ w2 (w.heap.size + 1)) := by have h := (Led.jz_new (w.alloc (.cells #[.int .i64 m.kind, .int .i64 m.view, .int .i64 m.from_, .int .i64 m.slot, .int .i64 m.value, .slice a1 m.certs.length k1, .slice a2 m.refs.length k2] 28)) 32).ext hb; simp only [World.size_alloc] at h; exact h
      clear hb
      obtain ⟨-, ⟨p0, p1, p2, p3, p4, p5, p6⟩, -⟩ := HB2.out
      go_wp2_with fail
      refine (HM.out _ HE2.out).mono ?_
      rintro e w3 ⟨rfl, hb⟩
      have HE3 : Hid (Ext w w3) := HE2.out.trans hb
      have HB3 : Hid (MBoxAt w3 w.heap.size m (.slice a1 m.certs.length k1) (.slice a2 m.refs.length k2)) := HB2.out.ext hb
      have HZ3 : Hid (Led.JZ w3 (w.heap.size + 1)) := HZ2.out.ext hb
      clear hb p0 p1 p2 p3 p4 p5 p6
      obtain ⟨-, ⟨p0, p1, p2, p3, p4, p5, p6⟩, -⟩ := HB3.out
      obtain ⟨x0, x1, x2, x3, x4⟩ := HZ3.out
      go_wp2
      exact bodyPost_ret (v := Led.jr c (.slice none 0 0)) (by simp [results, Try.results16, go_sem, Led.jr, x1, x2]) rfl (Led.jret_no c _ (by omega) HE3.out)
  · rw [Msg.votesV_bad hc]
    clear HV0 HR0
    unfold magg at *
    have g2 : (Msg.ledger f ms != 0) = true := by simpa using hc
    clear hc HM0
    generalize Msg.ledger f ms = c at *
    go_enter Try.func16, Try.ntmps16
    go_wp2_with fail
    refine (HF.out _ (((Ext.refl _).alloc _).alloc _)).mono ?_
    rintro e w2 ⟨rfl, hb⟩
    have HE2 : Hid (Ext w w2) := (((Ext.refl _).alloc _).alloc _).trans hb
    have HB2 : Hid (MBoxAt w2 w.heap.size m (.slice a1 m.certs.length k1) (.slice a2 m.refs.length k2)) := ((mbox_new w m _ _ _).ext ((Ext.refl _).alloc _)).ext hb
    have HZ2 : Hid (Led.JZ w2 (w.heap.size + 1)) := by have h := (Led.jz_new (w.alloc (.cells #[.int .i64 m.kind, .int .i64 m.view, .int .i64 m.from_, .int .i64 m.slot, .int .i64 m.value, .slice a1 m.certs.length k1, .slice a2 m.refs.length k2] 28)) 32).ext hb; simp only [World.size_alloc] at h; exact h
    clear hb
    obtain ⟨-, ⟨p0, p1, p2, p3, p4, p5, p6⟩, -⟩ := HB2.out
    obtain ⟨x0, x1, x2, x3, x4⟩ := HZ2.out
    go_wp2
    exact bodyPost_ret (v := Led.jr c (.slice none 0 0)) (by simp [results, Try.results16, go_sem, Led.jr, x1, x2]) rfl (Led.jret_no c _ (by omega) HE2.out)

set_option maxHeartbeats 8000000 in
set_option maxRecDepth 100000 in
theorem specVotesFor_any (f : Int) (v : Value) (ms : List Ms) (m : Ms) (vc uc : Value) (w : World) (hS : MSlice w v ms) (hL : MLs w vc uc m) :
    Calls Try.prog 17 #[.int .i64 f, v, magg m vc uc] w (Led.JRet w (Msg.votesV f ms m).1 (Msg.votesV f ms m).2) := by
  have HF : Hid (∀ wx, Ext w wx → Calls Try.prog 73 #[.int .i64 f, v] wx fun e w' => e = .returned (.int .i64 (Msg.ledger f ms)) ∧ Ext wx w') := fun wx he => l8Asked_any f v ms wx (hS.ext he)
  have HM0 : Hid (Msg.fOk f = true → ∀ wx, Ext w wx → ∀ b, MBoxAt wx b m vc uc → Calls Try.prog 74 #[.int .i64 f, .pointer (some ⟨b, 0, none⟩)] wx fun e w' => e = .returned (.int .i64 (Msg.faultM f m)) ∧ Ext wx w') := fun hf wx he b hB => l8Msg_any f m vc uc b 0 wx (Msg.fOk_in' hf).1 (Msg.fOk_in' hf).2 hB.1 hB.cs (hL.ext he)
  have HV0 : Hid (1 ≤ f → f ≤ 2 → ∀ wx, Ext w wx → Calls Try.prog 75 #[.int .i64 f, v, .int .i64 m.kind, ctagg ⟨m.slot, m.view, m.value⟩] wx fun e w' => ∃ vo g, e = .returned vo ∧ wx.heap.size ≤ g ∧ Led.IOwn w' vo g (Msg.votes f ms m.kind ⟨m.slot, m.view, m.value⟩) ∧ Ext wx w') := fun h0 h1 wx he => l9Votes_any f v ms m.kind _ wx (hS.ext he) h0 h1
  obtain ⟨a, cap, rfl, -, -, -⟩ := hS
  obtain ⟨a1, k1, a2, k2, rfl, rfl, -, -, -, -⟩ := hL.form
  clear hL
  by_cases hc : Msg.ledger f ms = 0
  · obtain ⟨hf0, hf1, hlen⟩ := Msg.ledger_zero hc
    rw [hc] at HF
    have HM : Hid _ := HM0.out (by unfold Msg.fOk; simp; omega)
    clear HM0
    by_cases hm : Msg.faultM f m = 0
    · rw [hm] at HM
      by_cases hk : m.kind = 2 ∨ m.kind = 3
      · rw [Msg.votesV_ok hc hm hk]
        have hsl := Msg.of_slot hm hk
        have HV : Hid (∀ wx, Ext w wx → Calls Try.prog 75 #[.int .i64 f, .slice a ms.length cap, .int .i64 m.kind, .agg #[.int .i64 m.slot, .int .i64 m.view, .int .i64 m.value]] wx fun e w' => ∃ vo g, e = .returned vo ∧ wx.heap.size ≤ g ∧ Led.IOwn w' vo g (Msg.votes f ms m.kind ⟨m.slot, m.view, m.value⟩) ∧ Ext wx w') := HV0.out hf0 hf1
        clear HV0
        generalize Msg.votes f ms m.kind ⟨m.slot, m.view, m.value⟩ = rs at *
        unfold magg at *
        clear hc hm hsl
        by_cases h2 : m.kind = 2
        · have g2 : (m.kind != 2) = false := by simp [h2]
          clear hk h2
          go_enter Try.func17, Try.ntmps17
          go_wp2_with fail
          refine (HF.out _ (((Ext.refl _).alloc _).alloc _)).mono ?_
          rintro e w2 ⟨rfl, hb⟩
          have HE2 : Hid (Ext w w2) := (((Ext.refl _).alloc _).alloc _).trans hb
          have HB2 : Hid (MBoxAt w2 w.heap.size m (.slice a1 m.certs.length k1) (.slice a2 m.refs.length k2)) := ((mbox_new w m _ _ _).ext ((Ext.refl _).alloc _)).ext hb
          have HZ2 : Hid (Led.JZ w2 (w.heap.size + 1)) := by have h := (Led.jz_new (w.alloc (.cells #[.int .i64 m.kind, .int .i64 m.view, .int .i64 m.from_, .int .i64 m.slot, .int .i64 m.value, .slice a1 m.certs.length k1, .slice a2 m.refs.length k2] 28)) 32).ext hb; simp only [World.size_alloc] at h; exact h
          clear hb
          obtain ⟨-, ⟨p0, p1, p2, p3, p4, p5, p6⟩, -⟩ := HB2.out
          go_wp2_with fail
          refine (HM.out _ HE2.out _ HB2.out).mono ?_
          rintro e w3 ⟨rfl, hb⟩
          have HE3 : Hid (Ext w w3) := HE2.out.trans hb
          have HB3 : Hid (MBoxAt w3 w.heap.size m (.slice a1 m.certs.length k1) (.slice a2 m.refs.length k2)) := HB2.out.ext hb
          have HZ3 : Hid (Led.JZ w3 (w.heap.size + 1)) := HZ2.out.ext hb
          clear hb p0 p1 p2 p3 p4 p5 p6
          obtain ⟨-, ⟨p0, p1, p2, p3, p4, p5, p6⟩, -⟩ := HB3.out
          go_wp2_with fail
          refine (HV.out _ HE3.out).mono ?_
          rintro e w5 ⟨v5, g5, rfl, hg5, hO5, hb⟩
          obtain ⟨a5, c5, rfl, -⟩ := id hO5
          have HE5 : Hid (Ext w w5) := HE3.out.trans hb
          have HZ5 : Hid (Led.JZ w5 (w.heap.size + 1)) := HZ3.out.ext hb
          have HO5 : Hid (Led.IOwn w5 (.slice a5 rs.length c5) g5 rs ∧ w.heap.size + 1 < g5) := ⟨hO5, Nat.lt_of_lt_of_le HZ3.out.1 hg5⟩
          clear hb hO5 hg5 p0 p1 p2 p3 p4 p5 p6
          obtain ⟨x0, x1, x2, x3, x4⟩ := HZ5.out
          go_wp2
          exact bodyPost_ret (v := Led.jr 0 (.slice a5 rs.length c5)) (by simp [results, Try.results17, go_sem, Led.jr, x1, x2]) rfl (Led.jret_at 0 _ (by omega) HE5.out HO5.out.1 HO5.out.2)
        · have g2 : (m.kind != 2) = true := by simp [h2]
          have g3 : (m.kind != 3) = false := by simp; omega
          clear hk h2
          go_enter Try.func17, Try.ntmps17
          go_wp2_with fail
          refine (HF.out _ (((Ext.refl _).alloc _).alloc _)).mono ?_
          rintro e w2 ⟨rfl, hb⟩
          have HE2 : Hid (Ext w w2) := (((Ext.refl _).alloc _).alloc _).trans hb
          have HB2 : Hid (MBoxAt w2 w.heap.size m (.slice a1 m.certs.length k1) (.slice a2 m.refs.length k2)) := ((mbox_new w m _ _ _).ext ((Ext.refl _).alloc _)).ext hb
          have HZ2 : Hid (Led.JZ w2 (w.heap.size + 1)) := by have h := (Led.jz_new (w.alloc (.cells #[.int .i64 m.kind, .int .i64 m.view, .int .i64 m.from_, .int .i64 m.slot, .int .i64 m.value, .slice a1 m.certs.length k1, .slice a2 m.refs.length k2] 28)) 32).ext hb; simp only [World.size_alloc] at h; exact h
          clear hb
          obtain ⟨-, ⟨p0, p1, p2, p3, p4, p5, p6⟩, -⟩ := HB2.out
          go_wp2_with fail
          refine (HM.out _ HE2.out _ HB2.out).mono ?_
          rintro e w3 ⟨rfl, hb⟩
          have HE3 : Hid (Ext w w3) := HE2.out.trans hb
          have HB3 : Hid (MBoxAt w3 w.heap.size m (.slice a1 m.certs.length k1) (.slice a2 m.refs.length k2)) := HB2.out.ext hb
          have HZ3 : Hid (Led.JZ w3 (w.heap.size + 1)) := HZ2.out.ext hb
          clear hb p0 p1 p2 p3 p4 p5 p6
          obtain ⟨-, ⟨p0, p1, p2, p3, p4, p5, p6⟩, -⟩ := HB3.out
          go_wp2_with fail
          refine (HV.out _ HE3.out).mono ?_
          rintro e w5 ⟨v5, g5, rfl, hg5, hO5, hb⟩
          obtain ⟨a5, c5, rfl, -⟩ := id hO5
          have HE5 : Hid (Ext w w5) := HE3.out.trans hb
          have HZ5 : Hid (Led.JZ w5 (w.heap.size + 1)) := HZ3.out.ext hb
          have HO5 : Hid (Led.IOwn w5 (.slice a5 rs.length c5) g5 rs ∧ w.heap.size + 1 < g5) := ⟨hO5, Nat.lt_of_lt_of_le HZ3.out.1 hg5⟩
          clear hb hO5 hg5 p0 p1 p2 p3 p4 p5 p6
          obtain ⟨x0, x1, x2, x3, x4⟩ := HZ5.out
          go_wp2
          exact bodyPost_ret (v := Led.jr 0 (.slice a5 rs.length c5)) (by simp [results, Try.results17, go_sem, Led.jr, x1, x2]) rfl (Led.jret_at 0 _ (by omega) HE5.out HO5.out.1 HO5.out.2)
      · rw [Msg.votesV_kind hc hm hk]
        have g2 : (m.kind != 2) = true := by simp; omega
        have g3 : (m.kind != 3) = true := by simp; omega
        clear HV0
        unfold magg at *
        clear hc hm hk
        go_enter Try.func17, Try.ntmps17
        go_wp2_with fail
        refine (HF.out _ (((Ext.refl _).alloc _).alloc _)).mono ?_
        rintro e w2 ⟨rfl, hb⟩
        have HE2 : Hid (Ext w w2) := (((Ext.refl _).alloc _).alloc _).trans hb
        have HB2 : Hid (MBoxAt w2 w.heap.size m (.slice a1 m.certs.length k1) (.slice a2 m.refs.length k2)) := ((mbox_new w m _ _ _).ext ((Ext.refl _).alloc _)).ext hb
        have HZ2 : Hid (Led.JZ w2 (w.heap.size + 1)) := by have h := (Led.jz_new (w.alloc (.cells #[.int .i64 m.kind, .int .i64 m.view, .int .i64 m.from_, .int .i64 m.slot, .int .i64 m.value, .slice a1 m.certs.length k1, .slice a2 m.refs.length k2] 28)) 32).ext hb; simp only [World.size_alloc] at h; exact h
        clear hb
        obtain ⟨-, ⟨p0, p1, p2, p3, p4, p5, p6⟩, -⟩ := HB2.out
        go_wp2_with fail
        refine (HM.out _ HE2.out _ HB2.out).mono ?_
        rintro e w3 ⟨rfl, hb⟩
        have HE3 : Hid (Ext w w3) := HE2.out.trans hb
        have HB3 : Hid (MBoxAt w3 w.heap.size m (.slice a1 m.certs.length k1) (.slice a2 m.refs.length k2)) := HB2.out.ext hb
        have HZ3 : Hid (Led.JZ w3 (w.heap.size + 1)) := HZ2.out.ext hb
        clear hb p0 p1 p2 p3 p4 p5 p6
        obtain ⟨-, ⟨p0, p1, p2, p3, p4, p5, p6⟩, -⟩ := HB3.out
        obtain ⟨x0, x1, x2, x3, x4⟩ := HZ3.out
        go_wp2
        exact bodyPost_ret (v := Led.jr 1 (.slice none 0 0)) (by simp [results, Try.results17, go_sem, Led.jr, x1, x2]) rfl (Led.jret_no 1 _ (by omega) HE3.out)
    · rw [Msg.votesV_msg hc hm]
      clear HV0
      unfold magg at *
      have g2 : (Msg.faultM f m != 0) = true := by simpa using hm
      clear hc hm
      generalize Msg.faultM f m = c at *
      go_enter Try.func17, Try.ntmps17
      go_wp2_with fail
      refine (HF.out _ (((Ext.refl _).alloc _).alloc _)).mono ?_
      rintro e w2 ⟨rfl, hb⟩
      have HE2 : Hid (Ext w w2) := (((Ext.refl _).alloc _).alloc _).trans hb
      have HB2 : Hid (MBoxAt w2 w.heap.size m (.slice a1 m.certs.length k1) (.slice a2 m.refs.length k2)) := ((mbox_new w m _ _ _).ext ((Ext.refl _).alloc _)).ext hb
      have HZ2 : Hid (Led.JZ w2 (w.heap.size + 1)) := by have h := (Led.jz_new (w.alloc (.cells #[.int .i64 m.kind, .int .i64 m.view, .int .i64 m.from_, .int .i64 m.slot, .int .i64 m.value, .slice a1 m.certs.length k1, .slice a2 m.refs.length k2] 28)) 32).ext hb; simp only [World.size_alloc] at h; exact h
      clear hb
      obtain ⟨-, ⟨p0, p1, p2, p3, p4, p5, p6⟩, -⟩ := HB2.out
      go_wp2_with fail
      refine (HM.out _ HE2.out _ HB2.out).mono ?_
      rintro e w3 ⟨rfl, hb⟩
      have HE3 : Hid (Ext w w3) := HE2.out.trans hb
      have HB3 : Hid (MBoxAt w3 w.heap.size m (.slice a1 m.certs.length k1) (.slice a2 m.refs.length k2)) := HB2.out.ext hb
      have HZ3 : Hid (Led.JZ w3 (w.heap.size + 1)) := HZ2.out.ext hb
      clear hb p0 p1 p2 p3 p4 p5 p6
      obtain ⟨-, ⟨p0, p1, p2, p3, p4, p5, p6⟩, -⟩ := HB3.out
      obtain ⟨x0, x1, x2, x3, x4⟩ := HZ3.out
      go_wp2
      exact bodyPost_ret (v := Led.jr c (.slice none 0 0)) (by simp [results, Try.results17, go_sem, Led.jr, x1, x2]) rfl (Led.jret_no c _ (by omega) HE3.out)
  · rw [Msg.votesV_bad hc]
    clear HV0
    unfold magg at *
    have g2 : (Msg.ledger f ms != 0) = true := by simpa using hc
    clear hc HM0
    generalize Msg.ledger f ms = c at *
    go_enter Try.func17, Try.ntmps17
    go_wp2_with fail
    refine (HF.out _ (((Ext.refl _).alloc _).alloc _)).mono ?_
    rintro e w2 ⟨rfl, hb⟩
    have HE2 : Hid (Ext w w2) := (((Ext.refl _).alloc _).alloc _).trans hb
    have HB2 : Hid (MBoxAt w2 w.heap.size m (.slice a1 m.certs.length k1) (.slice a2 m.refs.length k2)) := ((mbox_new w m _ _ _).ext ((Ext.refl _).alloc _)).ext hb
    have HZ2 : Hid (Led.JZ w2 (w.heap.size + 1)) := by have h := (Led.jz_new (w.alloc (.cells #[.int .i64 m.kind, .int .i64 m.view, .int .i64 m.from_, .int .i64 m.slot, .int .i64 m.value, .slice a1 m.certs.length k1, .slice a2 m.refs.length k2] 28)) 32).ext hb; simp only [World.size_alloc] at h; exact h
    clear hb
    obtain ⟨-, ⟨p0, p1, p2, p3, p4, p5, p6⟩, -⟩ := HB2.out
    obtain ⟨x0, x1, x2, x3, x4⟩ := HZ2.out
    go_wp2
    exact bodyPost_ret (v := Led.jr c (.slice none 0 0)) (by simp [results, Try.results17, go_sem, Led.jr, x1, x2]) rfl (Led.jret_no c _ (by omega) HE2.out)
end Go.Proofs.Ytflojfkalnojbaa

/- both CertRights. -/
namespace Go.Proofs.Ytflojfkalnojbaa
open Go.RowKit Go.Maps

theorem cert_box (w : World) (c : Ct) (t : TypeId) (w' : World) (he : Ext (w.alloc (.cells #[.int .i64 c.slot, .int .i64 c.view, .int .i64 c.value] t)) w') : w'.cell? ⟨w.heap.size, 0, none⟩ = some (.int .i64 c.slot) ∧ w'.cell? ⟨w.heap.size, 1, none⟩ = some (.int .i64 c.view) ∧ w'.cell? ⟨w.heap.size, 2, none⟩ = some (.int .i64 c.value) := by
  have hc := fun k => (Ext.cell he).1 w.heap.size k (by simp)
  exact ⟨(hc 0).trans (by simp), (hc 1).trans (by simp), (hc 2).trans (by simp)⟩
theorem Msg.cert_right {f : Int} {ms : List Ms} {c : Ct} (h : Msg.ledger f ms = 0) (h2 : Msg.certIn c = true) : Msg.certRight f ms c = Msg.enough f ms 2 c := by unfold Msg.certRight; rw [decide_eq_true h, h2]; rfl
theorem Msg.cert_bad {f : Int} {ms : List Ms} {c : Ct} (h : ¬ Msg.ledger f ms = 0) : Msg.certRight f ms c = false := by unfold Msg.certRight; rw [decide_eq_false h]; rfl
theorem Msg.cert_out {f : Int} {ms : List Ms} {c : Ct} (h2 : Msg.certIn c = false) : Msg.certRight f ms c = false := by unfold Msg.certRight; rw [h2, Bool.and_false]; rfl

set_option maxHeartbeats 2000000 in
theorem l9Cert_any (c : Ct) (w : World) : Calls Try.prog 110 #[ctagg c] w fun e w' => e = .returned (.bool (Msg.certIn c)) ∧ Ext w w' := by
  have HI : Hid (∀ (x lo hi : Int) (b : Bool) (wx : World), (decide (lo ≤ x) && decide (x ≤ hi)) = b → Calls Try.prog 84 #[.int .i64 x, .int .i64 lo, .int .i64 hi] wx fun e w' => e = .returned (.bool b) ∧ w' = wx) := fun x lo hi b wx h => l1In_isM x lo hi b wx h
  unfold ctagg
  by_cases h0 : 1 ≤ c.slot ∧ c.slot ≤ 30
  · by_cases h1 : 0 ≤ c.view ∧ c.view ≤ 20
    · by_cases h2 : 0 ≤ c.value ∧ c.value ≤ 12
      · have HR : Msg.certIn c = true := decide_eq_true (by omega)
        rw [HR]
        clear HR
        have q0 : (decide (1 ≤ c.slot) && decide (c.slot ≤ 30)) = true := by simp; omega
        have C0 : Hid (∀ wx : World, Calls Try.prog 84 #[.int .i64 c.slot, .int .i64 1, .int .i64 30] wx fun e w' => e = .returned (.bool true) ∧ w' = wx) := fun wx => HI.out _ _ _ _ wx q0
        have q1 : (decide (0 ≤ c.view) && decide (c.view ≤ 20)) = true := by simp; omega
        have C1 : Hid (∀ wx : World, Calls Try.prog 84 #[.int .i64 c.view, .int .i64 0, .int .i64 20] wx fun e w' => e = .returned (.bool true) ∧ w' = wx) := fun wx => HI.out _ _ _ _ wx q1
        have q2 : (decide (0 ≤ c.value) && decide (c.value ≤ 12)) = true := by simp; omega
        have C2 : Hid (∀ wx : World, Calls Try.prog 84 #[.int .i64 c.value, .int .i64 0, .int .i64 12] wx fun e w' => e = .returned (.bool true) ∧ w' = wx) := fun wx => HI.out _ _ _ _ wx q2
        clear HI q0 q1 q2 h0 h1 h2
        go_enter Try.func110, Try.ntmps110
        go_wp2_with fail
        refine (C0.out _).mono ?_
        rintro e w9 ⟨rfl, hw⟩
        rw [hw]
        clear hw w9
        go_wp2_with fail
        refine (C1.out _).mono ?_
        rintro e w9 ⟨rfl, hw⟩
        rw [hw]
        clear hw w9
        go_wp2_with fail
        refine (C2.out _).mono ?_
        rintro e w9 ⟨rfl, hw⟩
        rw [hw]
        clear hw w9
        go_wp2
        go_ret
        exact ⟨rfl, (Ext.refl _).alloc _⟩
      · have HR : Msg.certIn c = false := decide_eq_false (by omega)
        rw [HR]
        clear HR
        have q0 : (decide (1 ≤ c.slot) && decide (c.slot ≤ 30)) = true := by simp; omega
        have C0 : Hid (∀ wx : World, Calls Try.prog 84 #[.int .i64 c.slot, .int .i64 1, .int .i64 30] wx fun e w' => e = .returned (.bool true) ∧ w' = wx) := fun wx => HI.out _ _ _ _ wx q0
        have q1 : (decide (0 ≤ c.view) && decide (c.view ≤ 20)) = true := by simp; omega
        have C1 : Hid (∀ wx : World, Calls Try.prog 84 #[.int .i64 c.view, .int .i64 0, .int .i64 20] wx fun e w' => e = .returned (.bool true) ∧ w' = wx) := fun wx => HI.out _ _ _ _ wx q1
        have q2 : (decide (0 ≤ c.value) && decide (c.value ≤ 12)) = false := by rw [Bool.and_eq_false_iff]; simp; omega
        have C2 : Hid (∀ wx : World, Calls Try.prog 84 #[.int .i64 c.value, .int .i64 0, .int .i64 12] wx fun e w' => e = .returned (.bool false) ∧ w' = wx) := fun wx => HI.out _ _ _ _ wx q2
        clear HI q0 q1 q2 h0 h1 h2
        go_enter Try.func110, Try.ntmps110
        go_wp2_with fail
        refine (C0.out _).mono ?_
        rintro e w9 ⟨rfl, hw⟩
        rw [hw]
        clear hw w9
        go_wp2_with fail
        refine (C1.out _).mono ?_
        rintro e w9 ⟨rfl, hw⟩
        rw [hw]
        clear hw w9
        go_wp2_with fail
        refine (C2.out _).mono ?_
        rintro e w9 ⟨rfl, hw⟩
        rw [hw]
        clear hw w9
        go_wp2
        go_ret
        exact ⟨rfl, (Ext.refl _).alloc _⟩
    · have HR : Msg.certIn c = false := decide_eq_false (by omega)
      rw [HR]
      clear HR
      have q0 : (decide (1 ≤ c.slot) && decide (c.slot ≤ 30)) = true := by simp; omega
      have C0 : Hid (∀ wx : World, Calls Try.prog 84 #[.int .i64 c.slot, .int .i64 1, .int .i64 30] wx fun e w' => e = .returned (.bool true) ∧ w' = wx) := fun wx => HI.out _ _ _ _ wx q0
      have q1 : (decide (0 ≤ c.view) && decide (c.view ≤ 20)) = false := by rw [Bool.and_eq_false_iff]; simp; omega
      have C1 : Hid (∀ wx : World, Calls Try.prog 84 #[.int .i64 c.view, .int .i64 0, .int .i64 20] wx fun e w' => e = .returned (.bool false) ∧ w' = wx) := fun wx => HI.out _ _ _ _ wx q1
      clear HI q0 q1 h0 h1
      go_enter Try.func110, Try.ntmps110
      go_wp2_with fail
      refine (C0.out _).mono ?_
      rintro e w9 ⟨rfl, hw⟩
      rw [hw]
      clear hw w9
      go_wp2_with fail
      refine (C1.out _).mono ?_
      rintro e w9 ⟨rfl, hw⟩
      rw [hw]
      clear hw w9
      go_wp2
      go_ret
      exact ⟨rfl, (Ext.refl _).alloc _⟩
  · have HR : Msg.certIn c = false := decide_eq_false (by omega)
    rw [HR]
    clear HR
    have q0 : (decide (1 ≤ c.slot) && decide (c.slot ≤ 30)) = false := by rw [Bool.and_eq_false_iff]; simp; omega
    have C0 : Hid (∀ wx : World, Calls Try.prog 84 #[.int .i64 c.slot, .int .i64 1, .int .i64 30] wx fun e w' => e = .returned (.bool false) ∧ w' = wx) := fun wx => HI.out _ _ _ _ wx q0
    clear HI q0 h0
    go_enter Try.func110, Try.ntmps110
    go_wp2_with fail
    refine (C0.out _).mono ?_
    rintro e w9 ⟨rfl, hw⟩
    rw [hw]
    clear hw w9
    go_wp2
    go_ret
    exact ⟨rfl, (Ext.refl _).alloc _⟩

set_option maxHeartbeats 4000000 in
set_option maxRecDepth 100000 in
theorem specCertRight_any (f : Int) (v : Value) (ms : List Ms) (c : Ct) (w : World) (hS : MSlice w v ms) :
    Calls Try.prog 46 #[.int .i64 f, v, ctagg c] w fun e w' => e = .returned (.bool (Msg.certRight f ms c)) ∧ Ext w w' := by
  have HF : Hid (∀ wx, Ext w wx → Calls Try.prog 73 #[.int .i64 f, v] wx fun e w' => e = .returned (.int .i64 (Msg.ledger f ms)) ∧ Ext wx w') := fun wx he => l8Asked_any f v ms wx (hS.ext he)
  have HC : Hid (∀ wx, Calls Try.prog 110 #[ctagg c] wx fun e w' => e = .returned (.bool (Msg.certIn c)) ∧ Ext wx w') := fun wx => l9Cert_any c wx
  have HQ : Hid (1 ≤ f → f ≤ 2 → ∀ wx, Ext w wx → Calls Try.prog 111 #[.int .i64 f, v, .int .i64 2, ctagg c] wx fun e w' => e = .returned (.bool (Msg.enough f ms 2 c)) ∧ Ext wx w') := fun h0 h1 wx he => l9Enough_any f v ms 2 c wx (hS.ext he) h0 h1
  obtain ⟨a, cap, rfl, -, -, -⟩ := hS
  unfold ctagg at *
  by_cases hc : Msg.ledger f ms = 0
  · obtain ⟨hf0, hf1, -⟩ := Msg.ledger_zero hc
    rw [hc] at HF
    cases hi : Msg.certIn c with
    | true =>
      rw [Msg.cert_right hc hi]
      rw [hi] at HC
      clear hc hi
      generalize Msg.enough f ms 2 c = B at *
      go_enter Try.func46, Try.ntmps46
      go_wp2_with fail
      refine (HF.out _ ((Ext.refl _).alloc _)).mono ?_
      rintro e w2 ⟨rfl, hb⟩
      have HE2 : Hid (Ext w w2) := ((Ext.refl _).alloc _).trans hb
      obtain ⟨c0, c1, c2⟩ := cert_box w c _ _ hb
      have hlt2 : w.heap.size < w2.heap.size := by have := hb.size; simp at this; omega
      clear hb
      go_wp2_with fail
      refine (HC.out _).mono ?_
      rintro e w3 ⟨rfl, hb⟩
      have HE3 : Hid (Ext w w3) := HE2.out.trans hb
      have d0 := ((Ext.cell hb).1 _ _ hlt2).trans c0
      have d1 := ((Ext.cell hb).1 _ _ hlt2).trans c1
      have d2 := ((Ext.cell hb).1 _ _ hlt2).trans c2
      clear hb c0 c1 c2
      go_wp2_with fail
      refine (HQ.out hf0 hf1 _ HE3.out).mono ?_
      rintro e w4 ⟨rfl, hb⟩
      have HE4 : Hid (Ext w w4) := HE3.out.trans hb
      clear hb d0 d1 d2
      go_wp2
      go_ret
      exact ⟨rfl, HE4.out⟩
    | false =>
      rw [Msg.cert_out hi]
      rw [hi] at HC
      clear hc hi HQ
      go_enter Try.func46, Try.ntmps46
      go_wp2_with fail
      refine (HF.out _ ((Ext.refl _).alloc _)).mono ?_
      rintro e w2 ⟨rfl, hb⟩
      have HE2 : Hid (Ext w w2) := ((Ext.refl _).alloc _).trans hb
      obtain ⟨c0, c1, c2⟩ := cert_box w c _ _ hb
      clear hb
      go_wp2_with fail
      refine (HC.out _).mono ?_
      rintro e w3 ⟨rfl, hb⟩
      have HE3 : Hid (Ext w w3) := HE2.out.trans hb
      clear hb c0 c1 c2
      go_wp2
      go_ret
      exact ⟨rfl, HE3.out⟩
  · rw [Msg.cert_bad hc]
    have g : (Msg.ledger f ms == 0) = false := by simpa using hc
    clear hc HQ HC
    generalize Msg.ledger f ms = k at *
    go_enter Try.func46, Try.ntmps46
    go_wp2_with fail
    refine (HF.out _ ((Ext.refl _).alloc _)).mono ?_
    rintro e w2 ⟨rfl, hb⟩
    have HE2 : Hid (Ext w w2) := ((Ext.refl _).alloc _).trans hb
    clear hb
    go_wp2
    go_ret
    exact ⟨rfl, HE2.out⟩

theorem Msg.no_lists2 (w : World) (c : Ct) : MLs w (.slice none 0 0) (.slice none 0 0) (Msg.vm 2 c 0) := Msg.no_lists w

set_option maxHeartbeats 4000000 in
set_option maxRecDepth 100000 in
theorem implCertRight_any (f : Int) (v : Value) (ms : List Ms) (c : Ct) (w : World) (hS : MSlice w v ms) :
    Calls Try.prog 19 #[.int .i64 f, v, ctagg c] w fun e w' => e = .returned (.bool (Msg.certRight f ms c)) ∧ Ext w w' := by
  have HF : Hid (∀ wx, Ext w wx → Calls Try.prog 69 #[.int .i64 f, v] wx fun e w' => e = .returned (.int .i64 (Msg.ledger f ms)) ∧ Ext wx w') := fun wx he => implLedgerFault_any f v ms wx (hS.ext he)
  have HCo : Hid (∀ wx : World, Calls Try.prog 78 #[ctagg c] wx fun e w' => e = .returned (.agg #[.int .i64 c.view, .int .i64 c.slot, .int .i64 c.value]) ∧ Ext wx w') := fun wx => certificateOf_any c wx
  have HIn : Hid (∀ wx : World, Calls Try.prog 79 #[.agg #[.int .i64 c.view, .int .i64 c.slot, .int .i64 c.value]] wx fun e w' => e = .returned (.bool (Msg.certIn c)) ∧ Ext wx w') := fun wx => certIn_any c wx
  have HQ0 : Hid (Msg.ledger f ms = 0 → ∀ wx, Ext w wx → Calls Try.prog 80 #[.int .i64 f, v, ctagg c] wx fun e w' => e = .returned (.bool (Msg.enough f ms 2 c)) ∧ Ext wx w') := fun h wx he => hasPrepared_any f v ms c wx (hS.ext he) h
  obtain ⟨a, cap, rfl, -, -, -⟩ := hS
  unfold ctagg at *
  by_cases hc : Msg.ledger f ms = 0
  · have HQ : Hid (∀ wx, Ext w wx → Calls Try.prog 80 #[.int .i64 f, .slice a ms.length cap, .agg #[.int .i64 c.slot, .int .i64 c.view, .int .i64 c.value]] wx fun e w' => e = .returned (.bool (Msg.enough f ms 2 c)) ∧ Ext wx w') := HQ0.out hc
    clear HQ0
    rw [hc] at HF
    cases hi : Msg.certIn c with
    | true =>
      rw [Msg.cert_right hc hi]
      rw [hi] at HIn
      clear hc hi
      generalize Msg.enough f ms 2 c = B at *
      go_enter Try.func19, Try.ntmps19
      go_wp2_with fail
      refine (HF.out _ ((Ext.refl _).alloc _)).mono ?_
      rintro e w2 ⟨rfl, hb⟩
      have HE2 : Hid (Ext w w2) := ((Ext.refl _).alloc _).trans hb
      obtain ⟨c0, c1, c2⟩ := cert_box w c _ _ hb
      have hlt2 : w.heap.size < w2.heap.size := by have := hb.size; simp at this; omega
      clear hb
      go_wp2_with fail
      refine (HCo.out _).mono ?_
      rintro e w3 ⟨rfl, hb⟩
      have HE3 : Hid (Ext w w3) := HE2.out.trans hb
      have HX3 : Hid (Ext w2 w3) := hb
      clear hb
      go_wp2_with fail
      refine (HIn.out _).mono ?_
      rintro e w4 ⟨rfl, hb⟩
      have HE4 : Hid (Ext w w4) := HE3.out.trans hb
      have hb := HX3.out.trans hb
      have d0 := ((Ext.cell hb).1 _ _ hlt2).trans c0
      have d1 := ((Ext.cell hb).1 _ _ hlt2).trans c1
      have d2 := ((Ext.cell hb).1 _ _ hlt2).trans c2
      clear hb c0 c1 c2 HX3
      go_wp2_with fail
      refine (HQ.out _ HE4.out).mono ?_
      rintro e w5 ⟨rfl, hb⟩
      have HE5 : Hid (Ext w w5) := HE4.out.trans hb
      clear hb d0 d1 d2
      go_wp2
      go_ret
      exact ⟨rfl, HE5.out⟩
    | false =>
      rw [Msg.cert_out hi]
      rw [hi] at HIn
      clear hc hi HQ
      go_enter Try.func19, Try.ntmps19
      go_wp2_with fail
      refine (HF.out _ ((Ext.refl _).alloc _)).mono ?_
      rintro e w2 ⟨rfl, hb⟩
      have HE2 : Hid (Ext w w2) := ((Ext.refl _).alloc _).trans hb
      obtain ⟨c0, c1, c2⟩ := cert_box w c _ _ hb
      have hlt2 : w.heap.size < w2.heap.size := by have := hb.size; simp at this; omega
      clear hb
      go_wp2_with fail
      refine (HCo.out _).mono ?_
      rintro e w3 ⟨rfl, hb⟩
      have HE3 : Hid (Ext w w3) := HE2.out.trans hb
      have HX3 : Hid (Ext w2 w3) := hb
      clear hb
      go_wp2_with fail
      refine (HIn.out _).mono ?_
      rintro e w4 ⟨rfl, hb⟩
      have HE4 : Hid (Ext w w4) := HE3.out.trans hb
      have hb := HX3.out.trans hb
      have d0 := ((Ext.cell hb).1 _ _ hlt2).trans c0
      have d1 := ((Ext.cell hb).1 _ _ hlt2).trans c1
      have d2 := ((Ext.cell hb).1 _ _ hlt2).trans c2
      clear hb c0 c1 c2 HX3
      clear d0 d1 d2
      go_wp2
      go_ret
      exact ⟨rfl, HE4.out⟩
  · rw [Msg.cert_bad hc]
    have g : (Msg.ledger f ms == 0) = false := by simpa using hc
    clear hc HQ0 HCo HIn
    generalize Msg.ledger f ms = k at *
    go_enter Try.func19, Try.ntmps19
    go_wp2_with fail
    refine (HF.out _ ((Ext.refl _).alloc _)).mono ?_
    rintro e w2 ⟨rfl, hb⟩
    have HE2 : Hid (Ext w w2) := ((Ext.refl _).alloc _).trans hb
    clear hb
    go_wp2
    go_ret
    exact ⟨rfl, HE2.out⟩
end Go.Proofs.Ytflojfkalnojbaa

/- what FnQuorums leans on: a copy of a message, its draw. -/
namespace Go.Proofs.Ytflojfkalnojbaa
open Go.RowKit

theorem append_certs {w : World} {ops : Array Oper} {rest : List Oper} {o : Oper} {a : Act} {Q : Exit → Act → World → Prop} (hgd : o.guard = none) (s x : Operand)
    (ho : o.op = .call { callee := .builtin .append, args := #[s, x], argTypes := #[25, 25] })
    (base : Nat) (i : TypeInfo) (hi : Try.prog.info? 38 = some i) (hz : i.zero = some (.agg #[.int .i64 0, .int .i64 0, .int .i64 0])) (hsize : i.size = 3) (hby : i.bytes = 24)
    (v0 : Value) (hs : a.eval s = v0) (hown : w.ownsRow base 38 3 v0 0 []) (xv : Value) (hx : a.eval x = xv) (cs : List Ct) (hC : CtSlice w xv cs) (hl : cs.length ≤ 1048576) (hbase : base ≤ w.heap.size)
    (h : ∀ v' w', w'.ownsRow base 38 3 v' cs.length (cellsCt cs) → w.grownBy w' v0.ownBlock → wpList Try.prog ops Q rest (a.put o.dst v') w') : wpList Try.prog ops Q (o :: rest) a w := by
  obtain ⟨ad, cap, rfl, -, -, hcx⟩ := hC
  cases ad with
  | none =>
    have h0 : cs = [] := by
      by_cases h0 : 0 < cs.length
      · obtain ⟨b9, o9, e9, -⟩ := hcx h0; cases e9
      · exact List.eq_nil_of_length_eq_zero (by omega)
    subst h0
    exact append_none_cap hgd s x _ ho base _ i 3 Try.underlying25 hi v0 0 [] hs hown cap hx (h v0 w hown (World.grownBy.refl _ _))
  | some ad =>
    have hn : ∀ j u, (cellsCt cs)[j]? = some u → w.cell? (ad.add j) = some u := by
      by_cases h0 : 0 < cs.length
      · obtain ⟨b9, o9, e9, hb9, hC9⟩ := hcx h0
        cases e9
        exact hC9.news
      · intro j u hj
        rw [List.eq_nil_of_length_eq_zero (show cs.length = 0 by omega)] at hj
        simp [cellsCt] at hj
    refine wpList_append_own _ hgd s x _ ho base 38 i (.agg #[.int .i64 0, .int .i64 0, .int .i64 0]) 3 24 Try.underlying25 hi hz hsize hby rfl (by decide) v0 0 [] hs hown ad cs.length cap (cellsCt cs) hx (cellsCt_len _) hn (cellsCt_one _) (by unfold maxLen; omega) (by omega) hbase ?_
    intro v' w' h1 h2 _
    rw [Nat.zero_add, List.nil_append] at h1
    exact h v' w' h1 h2

theorem append_ints {w : World} {ops : Array Oper} {rest : List Oper} {o : Oper} {a : Act} {Q : Exit → Act → World → Prop} (hgd : o.guard = none) (s x : Operand)
    (ho : o.op = .call { callee := .builtin .append, args := #[s, x], argTypes := #[26, 26] })
    (base : Nat) (i : TypeInfo) (hi : Try.prog.info? 2 = some i) (hz : i.zero = some (.int .i64 0)) (hsize : i.size = 1) (hby : i.bytes = 8)
    (v0 : Value) (hs : a.eval s = v0) (hown : w.ownsRow base 2 1 v0 0 []) (xv : Value) (hx : a.eval x = xv) (cs : List Int) (hC : ISlice w xv cs) (hl : cs.length ≤ 1048576) (hbase : base ≤ w.heap.size)
    (h : ∀ v' w', w'.ownsRow base 2 1 v' cs.length (cs.map (Value.int .i64)) → w.grownBy w' v0.ownBlock → wpList Try.prog ops Q rest (a.put o.dst v') w') : wpList Try.prog ops Q (o :: rest) a w := by
  obtain ⟨ad, cap, rfl, -, -, hcx⟩ := hC
  cases ad with
  | none =>
    have h0 : cs = [] := by
      by_cases h0 : 0 < cs.length
      · obtain ⟨b9, o9, e9, -⟩ := hcx h0; cases e9
      · exact List.eq_nil_of_length_eq_zero (by omega)
    subst h0
    exact append_none_cap hgd s x _ ho base _ i 1 Try.underlying26 hi v0 0 [] hs hown cap hx (h v0 w hown (World.grownBy.refl _ _))
  | some ad =>
    have hn : ∀ j u, (cs.map (Value.int .i64))[j]? = some u → w.cell? (ad.add j) = some u := by
      by_cases h0 : 0 < cs.length
      · obtain ⟨b9, o9, e9, hb9, hC9⟩ := hcx h0
        cases e9
        exact hC9.news
      · intro j u hj
        rw [List.eq_nil_of_length_eq_zero (show cs.length = 0 by omega)] at hj
        simp at hj
    refine wpList_append_own _ hgd s x _ ho base 2 i (.int .i64 0) 1 8 Try.underlying26 hi hz hsize hby rfl (by decide) v0 0 [] hs hown ad cs.length cap (cs.map (Value.int .i64)) hx (by simp) hn (ints_oneCell .i64 cs) (by unfold maxLen; omega) (by omega) hbase ?_
    intro v' w' h1 h2 _
    rw [Nat.zero_add, List.nil_append] at h1
    exact h v' w' h1 h2
set_option maxHeartbeats 4000000 in
set_option maxRecDepth 100000 in
theorem copyOneW (m : Ms) (v u : Value) (w : World) (hL : MLs w v u m) (hl1 : m.certs.length ≤ 1048576) (hl2 : m.refs.length ≤ 1048576) :
    Calls Try.prog 66 #[magg m v u] w (MCopy w m) := by
  obtain ⟨h1, h2⟩ := hL
  obtain ⟨x1, y1, e1, -, -, -⟩ := _root_.id h1
  obtain ⟨x2, y2, e2, -, -, -⟩ := _root_.id h2
  subst e1 e2
  have hi9 : (Try.prog.info? 38).map (fun i => (i.zero, i.size, i.bytes)) = some (some (.agg #[.int .i64 0, .int .i64 0, .int .i64 0]), 3, 24) := by kernel_rfl
  obtain ⟨ti, hti, hxx⟩ := Option.map_eq_some_iff.1 hi9
  simp only [Prod.mk.injEq] at hxx
  obtain ⟨hz0, hz1, hz2⟩ := hxx
  clear hi9
  have hi9 : (Try.prog.info? 2).map (fun i => (i.zero, i.size, i.bytes)) = some (some (.int .i64 0), 1, 8) := by kernel_rfl
  obtain ⟨ui, hui, hxx⟩ := Option.map_eq_some_iff.1 hi9
  simp only [Prod.mk.injEq] at hxx
  obtain ⟨hy0, hy1, hy2⟩ := hxx
  clear hi9
  have HBx : Hid (∀ wx : World, Below (w.heap.size + 2) ((w.alloc (.cells #[.int .i64 m.kind, .int .i64 m.view, .int .i64 m.from_, .int .i64 m.slot, .int .i64 m.value, .slice x1 m.certs.length y1, .slice x2 m.refs.length y2] 28)).alloc (.cells #[.int .i64 0, .int .i64 0, .int .i64 0, .int .i64 0, .int .i64 0, .slice none 0 0, .slice none 0 0] 28)) wx → MBoxAt wx w.heap.size m (.slice x1 m.certs.length y1) (.slice x2 m.refs.length y2) ∧ MBoxAt wx (w.heap.size + 1) ⟨0, 0, 0, 0, 0, [], []⟩ (.slice none 0 0) (.slice none 0 0) ∧ Ext w wx ∧ CtSlice wx (.slice x1 m.certs.length y1) m.certs ∧ ISlice wx (.slice x2 m.refs.length y2) m.refs) := fun wx he => by
    have he' : Ext ((w.alloc (.cells #[.int .i64 m.kind, .int .i64 m.view, .int .i64 m.from_, .int .i64 m.slot, .int .i64 m.value, .slice x1 m.certs.length y1, .slice x2 m.refs.length y2] 28)).alloc (.cells #[.int .i64 0, .int .i64 0, .int .i64 0, .int .i64 0, .int .i64 0, .slice none 0 0, .slice none 0 0] 28)) wx := by have h := he; unfold Ext; simpa using h
    have hE : Ext w wx := (((Ext.refl _).alloc _).alloc _).trans he'
    have hz := (mbox_new (w.alloc (.cells #[.int .i64 m.kind, .int .i64 m.view, .int .i64 m.from_, .int .i64 m.slot, .int .i64 m.value, .slice x1 m.certs.length y1, .slice x2 m.refs.length y2] 28)) ⟨0, 0, 0, 0, 0, [], []⟩ (.slice none 0 0) (.slice none 0 0) 28).ext he'
    rw [World.size_alloc] at hz
    exact ⟨((mbox_new w m _ _ _).ext ((Ext.refl _).alloc _)).ext he', hz, hE, h1.ext hE, h2.ext hE⟩
  have HW0 : Hid (CtSlice (((w.alloc (.cells #[.int .i64 m.kind, .int .i64 m.view, .int .i64 m.from_, .int .i64 m.slot, .int .i64 m.value, .slice x1 m.certs.length y1, .slice x2 m.refs.length y2] 28)).alloc (.cells #[.int .i64 0, .int .i64 0, .int .i64 0, .int .i64 0, .int .i64 0, .slice none 0 0, .slice none 0 0] 28)).alloc (.cells #[] 38)) (.slice x1 m.certs.length y1) m.certs) := (HBx.out _ ((Below.refl _ _).alloc (by simp) _)).2.2.2.1
  have HO0 : Hid ((((w.alloc (.cells #[.int .i64 m.kind, .int .i64 m.view, .int .i64 m.from_, .int .i64 m.slot, .int .i64 m.value, .slice x1 m.certs.length y1, .slice x2 m.refs.length y2] 28)).alloc (.cells #[.int .i64 0, .int .i64 0, .int .i64 0, .int .i64 0, .int .i64 0, .slice none 0 0, .slice none 0 0] 28)).alloc (.cells #[] 38)).ownsRow (w.heap.size + 2) 38 3 (.slice (some ⟨w.heap.size + 1 + 1, 0, none⟩) 0 0) 0 []) := by
    have h := World.ownsRow_made (base := w.heap.size + 2) (e := 38) (size := 3) ((w.alloc (.cells #[.int .i64 m.kind, .int .i64 m.view, .int .i64 m.from_, .int .i64 m.slot, .int .i64 m.value, .slice x1 m.certs.length y1, .slice x2 m.refs.length y2] 28)).alloc (.cells #[.int .i64 0, .int .i64 0, .int .i64 0, .int .i64 0, .int .i64 0, .slice none 0 0, .slice none 0 0] 28)) #[] 0 (by simp) (by unfold maxLen; omega) rfl
    simp only [World.size_alloc] at h
    exact h
  clear h1
  unfold magg
  go_enter Try.func66, Try.ntmps66
  go_wp2_with (first
    | (at_builtin; refine append_certs rfl _ _ rfl (w.heap.size + 2) ti hti hz0 hz1 hz2 _ rfl HO0.out _ rfl m.certs HW0.out hl1 (by simp <;> omega) ?_; intro v3 w3 hown3 hgrow3; obtain ⟨a3, c3, rfl⟩ := owns_form6 hown3; have hbl3 : Below (w.heap.size + 2) ((w.alloc (.cells #[.int .i64 m.kind, .int .i64 m.view, .int .i64 m.from_, .int .i64 m.slot, .int .i64 m.value, .slice x1 m.certs.length y1, .slice x2 m.refs.length y2] 28)).alloc (.cells #[.int .i64 0, .int .i64 0, .int .i64 0, .int .i64 0, .int .i64 0, .slice none 0 0, .slice none 0 0] 28)) w3 := Below.grown ((Below.refl _ _).alloc (by simp) _) hgrow3 (by simp <;> omega) (fun q hq => (HO0.out.lt q hq).1); have hs3 : w.heap.size + 2 ≤ w3.heap.size := (by have := Below.size hbl3; simpa using this); have HB3 : Hid (MBoxAt w3 w.heap.size m (.slice x1 m.certs.length y1) (.slice x2 m.refs.length y2) ∧ MBoxAt w3 (w.heap.size + 1) ⟨0, 0, 0, 0, 0, [], []⟩ (.slice none 0 0) (.slice none 0 0) ∧ Ext w w3 ∧ CtSlice w3 (.slice x1 m.certs.length y1) m.certs ∧ ISlice w3 (.slice x2 m.refs.length y2) m.refs) := HBx.out _ hbl3; have HO3 : Hid (w3.ownsRow (w.heap.size + 2) 38 3 (.slice a3 m.certs.length c3) m.certs.length (cellsCt m.certs)) := hown3; have HW3 : Hid (ISlice ((w3.setCell ⟨w.heap.size, 5, none⟩ (.slice a3 m.certs.length c3)).alloc (.cells #[] 2)) (.slice x2 m.refs.length y2) m.refs) := h2.ext ((HB3.out.2.2.1.setCell (p := ⟨w.heap.size, 5, none⟩) (Nat.le_refl _) _).alloc _); have HO1 : Hid (((w3.setCell ⟨w.heap.size, 5, none⟩ (.slice a3 m.certs.length c3)).alloc (.cells #[] 2)).ownsRow w3.heap.size 2 1 (.slice (some ⟨w3.heap.size, 0, none⟩) 0 0) 0 []) := (by have h := World.ownsRow_made (base := w3.heap.size) (e := 2) (size := 1) (w3.setCell ⟨w.heap.size, 5, none⟩ (.slice a3 m.certs.length c3)) #[] 0 (by simp) (by unfold maxLen; omega) rfl; simp only [World.size_setCell] at h; exact h); have q6 : ((w3.setCell ⟨w.heap.size, 5, none⟩ (.slice a3 m.certs.length c3)).alloc (.cells #[] 2)).cell? ⟨w.heap.size, 6, none⟩ = some (.slice x2 m.refs.length y2) := (alloc_cell _ _ _ _ (by rw [World.size_setCell]; omega)).trans (by rw [iset_ne _ _ _ _ _ _ (by omega)]; exact HB3.out.1.2.1.2.2.2.2.2.2); clear hown3 hgrow3 hbl3; obtain ⟨-, ⟨p0, p1, p2, p3, p4, p5, p6⟩, f0, f1, f2, f3, f4, f5, f6⟩ := HB3.out.1)
    | (at_builtin; refine append_ints rfl _ _ rfl w3.heap.size ui hui hy0 hy1 hy2 _ rfl HO1.out _ rfl m.refs HW3.out hl2 (by simp) ?_; intro v4 w4 hown4 hgrow4; obtain ⟨a4, c4, rfl⟩ := owns_form6 hown4; have hbl4 : Below w3.heap.size (w3.setCell ⟨w.heap.size, 5, none⟩ (.slice a3 m.certs.length c3)) w4 := Below.grown ((Below.refl _ _).alloc (by simp) _) hgrow4 (by simp) (fun q hq => (HO1.out.lt q hq).1); have hs4 : w3.heap.size ≤ w4.heap.size := (by have := Below.size hbl4; simpa using this); have he4 : Ext (w3.setCell ⟨w.heap.size, 5, none⟩ (.slice a3 m.certs.length c3)) w4 := (by unfold Ext; simpa using hbl4); have HA4 : Hid (MBoxAt w4 w.heap.size m (.slice a3 m.certs.length c3) (.slice x2 m.refs.length y2) ∧ MBoxAt w4 (w.heap.size + 1) ⟨0, 0, 0, 0, 0, [], []⟩ (.slice none 0 0) (.slice none 0 0) ∧ Ext w w4) := ⟨HB3.out.1.set5.ext he4, (HB3.out.2.1.set_ne (by omega)).ext he4, (HB3.out.2.2.1.setCell (p := ⟨w.heap.size, 5, none⟩) (Nat.le_refl _) _).trans he4⟩; have HO4 : Hid (w4.ownsRow (w.heap.size + 2) 38 3 (.slice a3 m.certs.length c3) m.certs.length (cellsCt m.certs) ∧ w4.ownsRow w3.heap.size 2 1 (.slice a4 m.refs.length c4) m.refs.length (m.refs.map (Value.int .i64)) ∧ (∀ q, (Value.slice a3 m.certs.length c3).ownBlock = some q → q < w3.heap.size)) := ⟨owns_ext6 (ownsRow_setCell_below HO3.out (a := ⟨w.heap.size, 5, none⟩) (by show w.heap.size < w.heap.size + 2; omega) _) he4, hown4, fun q hq => (HO3.out.lt q hq).2⟩; clear hown4 hgrow4 hbl4 he4 p0 p1 p2 p3 p4 p5 p6 f0 f1 f2 f3 f4 f5 f6; obtain ⟨-, ⟨p0, p1, p2, p3, p4, p5, p6⟩, f0, f1, f2, f3, f4, f5, f6⟩ := HA4.out.1; obtain ⟨-, ⟨r0, r1, r2, r3, r4, r5, r6⟩, g0, g1, g2, g3, g4, g5, g6⟩ := HA4.out.2.1))
  obtain ⟨g, hg, hg3, hC⟩ : ∃ g, w.heap.size ≤ g ∧ g < w3.heap.size ∧ (g ≠ w.heap.size ∧ g ≠ w.heap.size + 1 ∨ ¬ 0 < m.certs.length) ∧ CtOwn w4 (.slice a3 m.certs.length c3) g m.certs := by
    obtain ⟨g, hg, hC⟩ := ctown_of_owns HO4.out.1
    by_cases h0 : 0 < m.certs.length
    · obtain ⟨a0, cap0, e, -, -, h4⟩ := id hC
      obtain ⟨off, ha, -, -⟩ := h4 h0
      injection e with e1 _ _
      rw [ha] at e1
      exact ⟨g, by omega, HO4.out.2.2 g (by rw [e1]; rfl), Or.inl ⟨by omega, by omega⟩, hC⟩
    · exact ⟨w.heap.size, Nat.le_refl _, by omega, Or.inr h0, hC.nil h0⟩
  obtain ⟨hne, hC⟩ := hC
  obtain ⟨h, hh1, hh2, hI⟩ : ∃ h, w3.heap.size ≤ h ∧ h ≤ w4.heap.size ∧ Led.IOwn w4 (.slice a4 m.refs.length c4) h m.refs := by
    obtain ⟨h, hh1, hh2, hI⟩ := Led.iown_of_owns HO4.out.2.1
    by_cases h0 : 0 < m.refs.length
    · exact ⟨h, hh1, Nat.le_of_lt (hh2 h0), hI⟩
    · exact ⟨w3.heap.size, Nat.le_refl _, hs4, hI.nil h0⟩
  refine bodyPost_ret (v := magg m (.slice a3 m.certs.length c3) (.slice a4 m.refs.length c4)) (by simp [results, Try.results66, go_sem, magg, *]) rfl ⟨_, _, g, h, rfl, hg, by omega, by simpa using hh2, ?_, ?_, ?_⟩
  · refine (hC.upd' ((Upd.refl w.heap.size w4).setAt 6 _) (fun h0 => ?_)).upd' ((((((((Upd.refl (w.heap.size + 1) _).setAt _ _).setAt _ _).setAt _ _).setAt _ _).setAt _ _).setAt _ _).setAt _ _) (fun h0 => ?_)
    · rcases hne with h | h
      · exact h.1
      · exact absurd h0 h
    · rcases hne with h | h
      · exact h.2
      · exact absurd h0 h
  · exact (hI.upd' ((Upd.refl w.heap.size w4).setAt 6 _) (fun _ => by omega)).upd' ((((((((Upd.refl (w.heap.size + 1) _).setAt _ _).setAt _ _).setAt _ _).setAt _ _).setAt _ _).setAt _ _).setAt _ _) (fun _ => by omega)
  · iterate 7 (refine Ext.setCell ?_ (by show w.heap.size ≤ w.heap.size + 1; omega) _)
    exact HA4.out.2.2.setCell (p := ⟨w.heap.size, 6, none⟩) (Nat.le_refl _) _
set_option maxHeartbeats 400000 in
theorem lwBigL_any (ad : Option Addr) (len cap : Nat) (w : World) :
    Calls Try.prog 14 #[.slice ad len cap] w fun e w' => e = .returned (.bool (decide (1048576 < len))) ∧ w' = w := by
  go_enter Try.func14, Try.ntmps14
  go_wp2
  go_ret
  exact ⟨ret_bool (by rw [Bool.eq_iff_iff]; simp; omega), rfl⟩
set_option maxHeartbeats 1000000 in
set_option maxRecDepth 100000 in
theorem lwNums_same (v v' : Value) (l : List Int) (w : World) (hS : ISlice w v l) (hS' : ISlice w v' l) :
    Calls Try.prog 21 #[v, v'] w fun e w' => e = .returned (.bool true) ∧ Ext w w' := by
  obtain ⟨a, cap, rfl, hlc, hcm, hx⟩ := hS
  obtain ⟨a', cap', rfl, hlc', hcm', hx'⟩ := hS'
  have HX : Hid (0 < l.length → ∃ b off, a = some ⟨b, off, none⟩ ∧ b < w.heap.size ∧ NumsAt w b off l) := hx
  have HX' : Hid (0 < l.length → ∃ b off, a' = some ⟨b, off, none⟩ ∧ b < w.heap.size ∧ NumsAt w b off l) := hx'
  clear hx hx'
  unfold maxLen at hcm
  go_enter Try.func21, Try.ntmps21
  go_wp2
  go_loopw [5] (fun i wr => ∃ (k : Nat), k ≤ l.length ∧ i = .int .i64 k ∧ Hid (Ext w wr)) (fun i _ => l.length - (intOf i).toNat)
  case atStart => exact ⟨0, Nat.zero_le _, rfl, Ext.refl _⟩
  case round =>
    obtain ⟨k, hk, rfl, HE⟩ := hrel
    by_cases hlt : k < l.length
    · obtain ⟨z, hzk⟩ : ∃ z, l[k]? = some z := ⟨_, List.getElem?_eq_getElem hlt⟩
      obtain ⟨b, off, rfl, hb, hN⟩ := HX.out (by omega)
      obtain ⟨b', off', rfl, hb', hN'⟩ := HX'.out (by omega)
      have d0 := hN.ext hb HE.out k z hzk
      have d1 := hN'.ext hb' HE.out k z hzk
      clear hzk hN hN'
      go_wp2
      go_region
      all_goals
        go_wp2
        exact ⟨⟨k + 1, by omega, by go_num, HE.out.drew⟩, by simp [intOf]; omega⟩
    · go_wp2
      go_ret
      exact ⟨rfl, HE.out⟩
theorem Dr.Tick.to_ext {w w' : World} {o : Obj} {a : Nat} {cv : Value} (h : Dr.Tick w.heap.size a cv (w.alloc o) w') : Ext w w' := Below.trans ((Below.refl _ _).alloc (Nat.le_refl _) _) h.2.1

set_option maxHeartbeats 1000000 in
set_option maxRecDepth 100000 in
theorem lwHas_any (v : Value) (l : List Int) (x : Int) (w : World) (hS : ISlice w v l) : Calls Try.prog 20 #[v, .int .i64 x] w fun e w' => e = .returned (.bool (decide (x ∈ l))) ∧ w' = w := by
  obtain ⟨a, cap, rfl, hlc, hcm, hx⟩ := hS
  have HX : Hid (0 < l.length → ∃ b off, a = some ⟨b, off, none⟩ ∧ b < w.heap.size ∧ NumsAt w b off l) := hx
  clear hx
  unfold maxLen at hcm
  go_enter Try.func20, Try.ntmps20
  go_wp2
  go_loopw [5] (fun i wr => ∃ (k : Nat), k ≤ l.length ∧ i = .int .i64 k ∧ Hid (¬ x ∈ l.take k) ∧ Hid (wr = w)) (fun i _ => l.length - (intOf i).toNat)
  case atStart => exact ⟨0, Nat.zero_le _, rfl, by show ¬ _; simp, rfl⟩
  case round =>
    obtain ⟨k, hk, rfl, HA, HW⟩ := hrel
    obtain rfl : wr = w := HW.out
    by_cases hlt : k < l.length
    · obtain ⟨y, hy⟩ : ∃ y, l[k]? = some y := ⟨_, List.getElem?_eq_getElem hlt⟩
      obtain ⟨b, off, rfl, hb, hN⟩ := HX.out (by omega)
      have d0 := hN k y hy
      have HZ : Hid (l[k]? = some y) := hy
      clear hy hN
      by_cases hq : y = x
      · have g : (y == x) = true := by simpa using hq
        have HR : Hid (decide (x ∈ l) = true) := decide_eq_true (by rw [← hq]; exact List.mem_of_getElem? HZ.out)
        clear hq
        go_wp2
        go_ret
        exact ⟨ret_bool HR.out.symm, rfl⟩
      · have g : (y == x) = false := by simpa using hq
        have HA2 : Hid (¬ x ∈ l.take (k + 1)) := by
          show ¬ _
          obtain ⟨hk', rfl⟩ := List.getElem?_eq_some_iff.1 HZ.out
          rw [List.take_succ_eq_append_getElem hk', List.mem_append, List.mem_singleton]
          rintro (h | h)
          · exact HA.out h
          · exact hq h.symm
        clear hq
        go_wp2
        exact ⟨⟨k + 1, by omega, by go_num, HA2, by first | exact rfl | exact (trivial : True)⟩, by simp [intOf]; omega⟩
    · have hke : k = l.length := by omega
      have HR : Hid (decide (x ∈ l) = false) := decide_eq_false (by have := HA.out; rw [hke, List.take_length] at this; exact this)
      subst hke
      go_wp2
      go_ret
      exact ⟨ret_bool HR.out.symm, rfl⟩

theorem MLs.kp {w w' : World} {v u : Value} {m : Ms} {base : Nat} (h1 : w.ownsRow base 38 3 v m.certs.length (cellsCt m.certs)) (h2 : w.ownsRow base 2 1 u m.refs.length (m.refs.map (Value.int .i64))) (he : Ext w w') : MLs w' v u m := by
  obtain ⟨g, -, hC⟩ := ctown_of_owns (owns_ext6 h1 he)
  obtain ⟨g2, -, -, hI⟩ := Led.iown_of_owns (owns_ext6 h2 he)
  exact ⟨hC.slice, hI.slice⟩
/-- What DrawVotesFor leaves. -/
def Dr.Votes (w : World) (e : Ending) (w' : World) : Prop := ∃ (f : Int) (ov : Value) (ms : List Ms) (m : Ms) (v u : Value), e = .returned (.tuple #[.int .i64 f, ov, magg m v u]) ∧ MSlice w' ov ms ∧ MLs w' v u m ∧ Ext w w'
theorem Dr.box_tick {w w' : World} {b a R : Nat} {cv : Value} {m : Ms} {v u : Value} (h : MBoxAt w R m v u) (ht : Dr.Tick b a cv w w') (hne : R ≠ b) : MBoxAt w' R m v u := h.upd ht.upd hne
theorem Dr.put7_ext {w W : World} {m : Ms} {v u : Value} (h : Ext w W) : Ext w (Dr.put7 W w.heap.size m v u) := by
  unfold Dr.put7
  iterate 7 (refine Ext.setCell ?_ (Nat.le_refl _) _)
  exact h

theorem Dr.kb_set {base : Nat} {W W' : World} {R : Nat} (h : Dr.Kb base W W') (hR : R < base) (o : Nat) (x : Value) : Dr.Kb base W (W'.setCell ⟨R, o, none⟩ x) :=
  h.trans ⟨by simp, fun g hb _ => Below.heap_setCell _ _ _ _ (by show g ≠ R; omega)⟩
theorem Dr.kb_put7 {base : Nat} {W : World} {R : Nat} {m : Ms} {v u : Value} (hR : R < base) : Dr.Kb base W (Dr.put7 W R m v u) := by
  unfold Dr.put7
  iterate 7 (refine Dr.kb_set ?_ hR _ _)
  exact Dr.Kb.refl _ _
theorem Dr.mls_kb {base : Nat} {w w' : World} {v u : Value} {m : Ms} (h1 : w.ownsRow base 38 3 v m.certs.length (cellsCt m.certs)) (h2 : w.ownsRow base 2 1 u m.refs.length (m.refs.map (Value.int .i64))) (hk : Dr.Kb base w w') : MLs w' v u m := by
  obtain ⟨g, -, hC⟩ := ctown_of_owns (hk.own h1)
  obtain ⟨g2, -, -, hI⟩ := Led.iown_of_owns (hk.own h2)
  exact ⟨hC.slice, hI.slice⟩

theorem Dr.upd_put7 {R : Nat} (W : World) (m : Ms) {v u : Value} : Upd R W (Dr.put7 W R m v u) := by
  unfold Dr.put7
  exact (((((((Upd.refl R W).setAt _ _).setAt _ _).setAt _ _).setAt _ _).setAt _ _).setAt _ _).setAt _ _
set_option maxHeartbeats 4000000 in
set_option maxRecDepth 100000 in
theorem drawVotesFor_any (cv : Value) (w : World) (hc : CodeOk w w.heap.size cv) :
    Calls Try.prog 15 #[cv] w (Dr.Votes w) := by
  have hcz : CodeOk (w.alloc (.cells #[.int .i64 0, .int .i64 0, .int .i64 0, .int .i64 0, .int .i64 0, .slice none 0 0, .slice none 0 0] 28)) (w.alloc (.cells #[.int .i64 0, .int .i64 0, .int .i64 0, .int .i64 0, .int .i64 0, .slice none 0 0, .slice none 0 0] 28)).heap.size cv := hc.rise ((Below.refl _ _).alloc (Nat.le_refl _) _) (by simp)
  have HS : Hid (SrcAt ((w.alloc (.cells #[.int .i64 0, .int .i64 0, .int .i64 0, .int .i64 0, .int .i64 0, .slice none 0 0, .slice none 0 0] 28)).alloc (.cells #[cv, .int .i64 0] 137)) (w.alloc (.cells #[.int .i64 0, .int .i64 0, .int .i64 0, .int .i64 0, .int .i64 0, .slice none 0 0, .slice none 0 0] 28)).heap.size 0 cv) := src_new hcz
  have hbz : (w.alloc (.cells #[.int .i64 0, .int .i64 0, .int .i64 0, .int .i64 0, .int .i64 0, .slice none 0 0, .slice none 0 0] 28)).heap.size = w.heap.size + 1 := by simp
  have HR0 : Hid (MBoxAt ((w.alloc (.cells #[.int .i64 0, .int .i64 0, .int .i64 0, .int .i64 0, .int .i64 0, .slice none 0 0, .slice none 0 0] 28)).alloc (.cells #[cv, .int .i64 0] 137)) w.heap.size ⟨0, 0, 0, 0, 0, [], []⟩ (.slice none 0 0) (.slice none 0 0)) := (mbox_new w ⟨0, 0, 0, 0, 0, [], []⟩ (.slice none 0 0) (.slice none 0 0) _).ext ((Ext.refl _).alloc _)
  have DF : Hid (∀ (a : Nat) (wx : World), SrcAt wx (w.heap.size + 1) a cv → a ≤ 900 → Calls Try.prog 65 #[.pointer (some ⟨w.heap.size + 1, 0, none⟩)] wx fun e w' => ∃ x : Int, e = .returned (.int .i64 x) ∧ Dr.Tick (w.heap.size + 1) (a + 1) cv wx w') := fun a wx h1 h2 => l8DrawF_any (w.heap.size + 1) a cv wx h1 h2
  have WO : Hid (∀ (a : Nat) (wx : World), SrcAt wx (w.heap.size + 1) a cv → a ≤ 100 → Calls Try.prog 63 #[.pointer (some ⟨w.heap.size + 1, 0, none⟩)] wx (Dr.Ledger 600 wx (w.heap.size + 1) a cv)) := fun a wx h1 h2 => l9World_any (w.heap.size + 1) a cv wx h1 h2
  have CH : Hid (∀ (a' : Nat) (k : Int) (wx : World), SrcAt wx (w.heap.size + 1) a' cv → 1 ≤ k → k ≤ 200 → a' ≤ 1000 → Calls Try.prog 64 #[.pointer (some ⟨w.heap.size + 1, 0, none⟩), .int .i64 k] wx fun e w' => ∃ r : Bool, e = .returned (.bool r) ∧ Dr.Tick (w.heap.size + 1) (a' + 1) cv wx w') := fun a' k wx h1 h2 h3 h4 => Dr.chance (w.heap.size + 1) a' cv k wx h1 h2 h3 h4
  have NX : Hid (∀ (a' : Nat) (k : Int) (wx : World), SrcAt wx (w.heap.size + 1) a' cv → 1 ≤ k → k ≤ 300 → a' ≤ 1000 → Calls Try.prog 67 #[.pointer (some ⟨w.heap.size + 1, 0, none⟩), .int .i64 k] wx fun e w' => ∃ r : Int, e = .returned (.int .i64 r) ∧ 0 ≤ r ∧ r < k ∧ Dr.Tick (w.heap.size + 1) (a' + 1) cv wx w') := fun a' k wx h1 h2 h3 h4 => Dr.nextB (w.heap.size + 1) a' cv k wx h1 h2 h3 h4
  have BT : Hid (∀ (a' : Nat) (wx : World), SrcAt wx (w.heap.size + 1) a' cv → a' ≤ 900 → Calls Try.prog 68 #[.pointer (some ⟨w.heap.size + 1, 0, none⟩)] wx fun e w' => ∃ m v u, e = .returned (magg m v u) ∧ Dr.Got (wx.heap.size + 1) wx (w.heap.size + 1) (a' + 30) cv m v u w') := fun a' wx h1 h2 => l8Bent_any (w.heap.size + 1) a' cv wx h1 h2
  obtain ⟨ad, len, cap, hcv, -⟩ := hc
  have HC := source_any cv (w.alloc (.cells #[.int .i64 0, .int .i64 0, .int .i64 0, .int .i64 0, .int .i64 0, .slice none 0 0, .slice none 0 0] 28)) ad len cap hcv
  rw [hbz] at HS HC
  clear hcv hcz hbz
  go_enter Try.func15, Try.ntmps15
  go_wp2_with fail
  refine HC.mono ?_
  rintro e w1 ⟨rfl, hw⟩
  have HS1 : Hid (SrcAt w1 (w.heap.size + 1) 0 cv) := by rw [hw]; exact HS.out
  have HR1 : Hid (MBoxAt w1 w.heap.size ⟨0, 0, 0, 0, 0, [], []⟩ (.slice none 0 0) (.slice none 0 0)) := by rw [hw]; exact HR0.out
  have HE1 : Hid (Ext w w1) := by rw [hw]; exact ((Ext.refl _).alloc _).alloc _
  have hsz1 : w1.heap.size = w.heap.size + 2 := by rw [hw]; simp
  clear HC HS HR0 hw
  go_wp2_with fail
  refine (WO.out 0 _ HS1.out (by omega)).mono ?_
  rintro e w2 ⟨ov, ms, a2, rfl, hM, ⟨hml, hsm⟩, ha2, ht⟩
  obtain ⟨ad9, cp9, rfl, -⟩ := hM _ (Dr.Kb.refl _ _)
  have HM : Hid (∀ W', Dr.Kb (w.heap.size + 2) w2 W' → MSlice W' (.slice ad9 ms.length cp9) ms) := by rw [← hsz1]; exact hM
  have HSm : Hid (∀ m ∈ ms, SmallM m) := hsm
  have HT2 : Hid (Dr.Tick (w.heap.size + 1) a2 cv w1 w2) := ht
  have HU2 : Hid (Dr.Tick (w.heap.size + 1) a2 cv w2 w2) := ⟨ht.1, Below.refl _ _, Dr.Kp.refl _ _⟩
  clear ht hM hsm HS1 WO
  by_cases hl0 : 0 < ms.length
  · go_wp2_with fail
    refine (CH.out a2 4 _ HT2.out.1 (by omega) (by omega) (by omega)).mono ?_
    rintro e w3 ⟨ch, rfl, ht⟩
    have HT3 : Hid (Dr.Tick (w.heap.size + 1) (a2 + 1) cv w1 w3) := HT2.out.trans ht
    have HU3 : Hid (Dr.Tick (w.heap.size + 1) (a2 + 1) cv w2 w3) := HU2.out.trans ht
    clear ht
    cases ch with
    | true =>
      go_wp2_with fail
      refine (DF.out (a2 + 1) _ HT3.out.1 (by omega)).mono ?_
      rintro e w4 ⟨f, rfl, ht⟩
      have HT4 : Hid (Dr.Tick (w.heap.size + 1) (a2 + 1 + 1) cv w1 w4) := HT3.out.trans ht
      have HU4 : Hid (Dr.Tick (w.heap.size + 1) (a2 + 1 + 1) cv w2 w4) := HU3.out.trans ht
      clear ht
      go_wp2_with fail
      refine (BT.out (a2 + 1 + 1) _ HT4.out.1 (by omega)).mono ?_
      rintro e w5 ⟨m, v, u, rfl, hG⟩
      obtain ⟨a5, ha5, htk⟩ := hG.2.2.2.2
      have hsz4 : w1.heap.size ≤ w4.heap.size := HT4.out.2.2.1
      have HT5 : Hid (Dr.Tick (w.heap.size + 1) a5 cv w1 w5) := HT4.out.trans htk
      have HU5 : Hid (Dr.Tick (w.heap.size + 1) a5 cv w2 w5) := HU4.out.trans htk
      have HR9 : Hid (MBoxAt w5 w.heap.size ⟨0, 0, 0, 0, 0, [], []⟩ (.slice none 0 0) (.slice none 0 0)) := Dr.box_tick HR1.out HT5.out (by omega)
      have HEx9 : Hid (Ext w w5) := Below.trans HE1.out (Below.mono HT5.out.2.1 (by omega))
      have HM9 : Hid (∀ W', Dr.Kb (w.heap.size + 2) w5 W' → MSlice W' (.slice ad9 ms.length cp9) ms) := fun W' hk => HM.out W' ((Dr.Kb.of_kp HU5.out.2.2 (by omega)).trans hk)
      obtain ⟨av, cpv, rfl⟩ := Led.owns_form hG.1
      obtain ⟨au, cpu, rfl⟩ := Led.owns_form hG.2.1
      have HML9 : Hid (MLs (Dr.put7 w5 w.heap.size m (.slice av m.certs.length cpv) (.slice au m.refs.length cpu)) (.slice av m.certs.length cpv) (.slice au m.refs.length cpu) m) := Dr.mls_kb hG.1 hG.2.1 (Dr.kb_put7 (by omega))
      clear hG htk HT4 HU4 HM
      unfold magg
      obtain ⟨rl, ⟨R0, R1, R2, R3, R4, R5, R6⟩, F0, F1, F2, F3, F4, F5, F6⟩ := HR9.out
      have HMS9 : Hid (MSlice (Dr.put7 w5 w.heap.size m (.slice av m.certs.length cpv) (.slice au m.refs.length cpu)) (.slice ad9 ms.length cp9) ms) := HM9.out _ (Dr.kb_put7 (by omega))
      have HE9 : Hid (Ext w (Dr.put7 w5 w.heap.size m (.slice av m.certs.length cpv) (.slice au m.refs.length cpu))) := Dr.put7_ext HEx9.out
      go_wp2
      exact bodyPost_ret (v := .tuple #[.int .i64 f, .slice ad9 ms.length cp9, magg m (.slice av m.certs.length cpv) (.slice au m.refs.length cpu)]) (by simp [results, Try.results15, go_sem, magg, *]) rfl ⟨f, _, ms, m, (.slice av m.certs.length cpv), (.slice au m.refs.length cpu), rfl, HMS9.out, HML9.out, HE9.out⟩
    | false =>
      go_wp2_with fail
      refine (DF.out (a2 + 1) _ HT3.out.1 (by omega)).mono ?_
      rintro e w4 ⟨f, rfl, ht⟩
      have HT4 : Hid (Dr.Tick (w.heap.size + 1) (a2 + 1 + 1) cv w1 w4) := HT3.out.trans ht
      have HU4 : Hid (Dr.Tick (w.heap.size + 1) (a2 + 1 + 1) cv w2 w4) := HU3.out.trans ht
      clear ht
      go_wp2_with fail
      refine (NX.out (a2 + 1 + 1) (ms.length : Int) _ HT4.out.1 (by omega) (by omega) (by omega)).mono ?_
      rintro e w5 ⟨r, rfl, hr0, hr1, ht⟩
      have HT5 : Hid (Dr.Tick (w.heap.size + 1) (a2 + 1 + 1 + 1) cv w1 w5) := HT4.out.trans ht
      have HU5 : Hid (Dr.Tick (w.heap.size + 1) (a2 + 1 + 1 + 1) cv w2 w5) := HU4.out.trans ht
      clear ht
      obtain ⟨q, rfl⟩ : ∃ q : Nat, r = q := ⟨r.toNat, by omega⟩
      obtain ⟨z, h2⟩ : ∃ z, ms[q]? = some z := ⟨_, List.getElem?_eq_getElem (by omega)⟩
      have hSl := HM.out w5 (Dr.Kb.of_kp HU5.out.2.2 (by omega))
      obtain ⟨b1, off1, cap1, e1, hlt1, hlm1, hcm1, hb1, hm⟩ := hSl.at2 h2
      injection e1 with e1 e4 e5
      subst e1 e5
      obtain ⟨vz, uz, ⟨d0, d1, d2, d3, d4, d5, d6⟩, hLz⟩ := hm
      have HLz : Hid (MLs w5 vz uz z) := hLz
      obtain ⟨y0, y1, y2, y3, rfl, rfl, -, -, -, -⟩ := hLz.form
      have hsm := HSm.out z (List.mem_of_getElem? h2)
      have HCP : Hid (Calls Try.prog 66 #[.agg #[.int .i64 z.kind, .int .i64 z.view, .int .i64 z.from_, .int .i64 z.slot, .int .i64 z.value, .slice y0 z.certs.length y1, .slice y2 z.refs.length y3]] w5 (MCopy w5 z)) := copyOneW z _ _ w5 HLz.out hsm.1 hsm.2
      clear hSl h2 e4 hLz
      go_wp2_with fail
      refine HCP.out.mono ?_
      rintro e w6 ⟨x, y, g, h, rfl, hg, hgh, hh, hC, hI, hb6⟩
      have hs5 : w1.heap.size ≤ w5.heap.size := HT5.out.2.2.1
      have HR9 : Hid (MBoxAt w6 w.heap.size ⟨0, 0, 0, 0, 0, [], []⟩ (.slice none 0 0) (.slice none 0 0)) := (Dr.box_tick HR1.out HT5.out (by omega)).ext hb6
      have HEx9 : Hid (Ext w w6) := (show Ext w w5 from Below.trans HE1.out (Below.mono HT5.out.2.1 (by omega))).trans hb6
      have HM9 : Hid (∀ W', Dr.Kb (w.heap.size + 2) w6 W' → MSlice W' (.slice (some ⟨b1, off1, none⟩) ms.length cp9) ms) := fun W' hk => HM.out W' (((Dr.Kb.of_kp HU5.out.2.2 (by omega)).trans (Dr.Kb.of_ext hb6)).trans hk)
      have HML9 : Hid (MLs (Dr.put7 w6 w.heap.size z x y) x y z) := ⟨(hC.upd' (Dr.upd_put7 _ _) (fun _ => by omega)).slice, (hI.upd' (Dr.upd_put7 _ _) (fun _ => by omega)).slice⟩
      obtain ⟨xa, xc, rfl, -⟩ := _root_.id hC
      obtain ⟨ya, yc, rfl, -⟩ := _root_.id hI
      clear hC hI hb6 HM HCP d0 d1 d2 d3 d4 d5 d6
      unfold magg
      obtain ⟨rl, ⟨R0, R1, R2, R3, R4, R5, R6⟩, F0, F1, F2, F3, F4, F5, F6⟩ := HR9.out
      have HMS9 : Hid (MSlice (Dr.put7 w6 w.heap.size z (.slice xa z.certs.length xc) (.slice ya z.refs.length yc)) (.slice (some ⟨b1, off1, none⟩) ms.length cp9) ms) := HM9.out _ (Dr.kb_put7 (by omega))
      have HE9 : Hid (Ext w (Dr.put7 w6 w.heap.size z (.slice xa z.certs.length xc) (.slice ya z.refs.length yc))) := Dr.put7_ext HEx9.out
      go_wp2
      exact bodyPost_ret (v := .tuple #[.int .i64 f, .slice (some ⟨b1, off1, none⟩) ms.length cp9, magg z (.slice xa z.certs.length xc) (.slice ya z.refs.length yc)]) (by simp [results, Try.results15, go_sem, magg, *]) rfl ⟨f, _, ms, z, (.slice xa z.certs.length xc), (.slice ya z.refs.length yc), rfl, HMS9.out, HML9.out, HE9.out⟩
  · have hl1 : ms.length = 0 := by omega
    go_wp2_with fail
    refine (DF.out (a2) _ HT2.out.1 (by omega)).mono ?_
    rintro e w4 ⟨f, rfl, ht⟩
    have HT4 : Hid (Dr.Tick (w.heap.size + 1) (a2 + 1) cv w1 w4) := HT2.out.trans ht
    have HU4 : Hid (Dr.Tick (w.heap.size + 1) (a2 + 1) cv w2 w4) := HU2.out.trans ht
    clear ht
    go_wp2_with fail
    refine (BT.out (a2 + 1) _ HT4.out.1 (by omega)).mono ?_
    rintro e w5 ⟨m, v, u, rfl, hG⟩
    obtain ⟨a5, ha5, htk⟩ := hG.2.2.2.2
    have hsz4 : w1.heap.size ≤ w4.heap.size := HT4.out.2.2.1
    have HT5 : Hid (Dr.Tick (w.heap.size + 1) a5 cv w1 w5) := HT4.out.trans htk
    have HU5 : Hid (Dr.Tick (w.heap.size + 1) a5 cv w2 w5) := HU4.out.trans htk
    have HR9 : Hid (MBoxAt w5 w.heap.size ⟨0, 0, 0, 0, 0, [], []⟩ (.slice none 0 0) (.slice none 0 0)) := Dr.box_tick HR1.out HT5.out (by omega)
    have HEx9 : Hid (Ext w w5) := Below.trans HE1.out (Below.mono HT5.out.2.1 (by omega))
    have HM9 : Hid (∀ W', Dr.Kb (w.heap.size + 2) w5 W' → MSlice W' (.slice ad9 ms.length cp9) ms) := fun W' hk => HM.out W' ((Dr.Kb.of_kp HU5.out.2.2 (by omega)).trans hk)
    obtain ⟨av, cpv, rfl⟩ := Led.owns_form hG.1
    obtain ⟨au, cpu, rfl⟩ := Led.owns_form hG.2.1
    have HML9 : Hid (MLs (Dr.put7 w5 w.heap.size m (.slice av m.certs.length cpv) (.slice au m.refs.length cpu)) (.slice av m.certs.length cpv) (.slice au m.refs.length cpu) m) := Dr.mls_kb hG.1 hG.2.1 (Dr.kb_put7 (by omega))
    clear hG htk HT4 HU4 HM
    unfold magg
    obtain ⟨rl, ⟨R0, R1, R2, R3, R4, R5, R6⟩, F0, F1, F2, F3, F4, F5, F6⟩ := HR9.out
    have HMS9 : Hid (MSlice (Dr.put7 w5 w.heap.size m (.slice av m.certs.length cpv) (.slice au m.refs.length cpu)) (.slice ad9 ms.length cp9) ms) := HM9.out _ (Dr.kb_put7 (by omega))
    have HE9 : Hid (Ext w (Dr.put7 w5 w.heap.size m (.slice av m.certs.length cpv) (.slice au m.refs.length cpu))) := Dr.put7_ext HEx9.out
    go_wp2
    exact bodyPost_ret (v := .tuple #[.int .i64 f, .slice ad9 ms.length cp9, magg m (.slice av m.certs.length cpv) (.slice au m.refs.length cpu)]) (by simp [results, Try.results15, go_sem, magg, *]) rfl ⟨f, _, ms, m, (.slice av m.certs.length cpv), (.slice au m.refs.length cpu), rfl, HMS9.out, HML9.out, HE9.out⟩
end Go.Proofs.Ytflojfkalnojbaa

/- laws.FnQuorums, walked: it answers true at every code. -/
namespace Go.Proofs.Ytflojfkalnojbaa
open Go.RowKit
theorem Nst.upper {rs : List Int} {f : Int} (hr : Nst.Ris rs) (hf : 0 ≤ f) (hin : ∀ x ∈ rs, 1 ≤ x ∧ x ≤ 3 * f + 1) (hl : 2 * f + 1 ≤ (rs.length : Int)) : f < (((Nst.upto (f + 1) (2 * f + 1).toNat).filter (fun x => decide (x ∈ rs))).length : Int) := by
  have e : (Nst.upto (f + 1) (2 * f + 1).toNat).filter (fun x => decide (x ∈ rs)) = rs.filter (fun x => decide (f < x)) := by
    refine Nst.Ris.ext ((Nst.ris_upto _ _).filter _) (hr.filter _) fun x => ?_
    rw [List.mem_filter, List.mem_filter, Nst.mem_upto, decide_eq_true_eq, decide_eq_true_eq]
    constructor
    · rintro ⟨h1, h2⟩; exact ⟨h2, by omega⟩
    · rintro ⟨h1, h2⟩; exact ⟨by have := hin x h1; omega, h1⟩
  have h1 : (rs.filter (fun x => decide (x ≤ f))).length ≤ f.toNat := by
    refine Nst.Ris.len (lo := 1) (hr.filter _) fun x hx => ?_
    have h2 := List.mem_filter.1 hx
    have h3 := hin x h2.1
    have h4 : x ≤ f := by simpa using h2.2
    omega
  have h2 : ∀ l : List Int, l.length = (l.filter (fun x => decide (f < x))).length + (l.filter (fun x => decide (x ≤ f))).length := by
    intro l
    induction l with
    | nil => rfl
    | cons a r ih =>
      by_cases h : f < a
      · rw [List.filter_cons_of_pos (by simpa using h), List.filter_cons_of_neg (by simp; omega)]; simp; omega
      · rw [List.filter_cons_of_neg (by simpa using h), List.filter_cons_of_pos (by simp; omega)]; simp; omega
  have h3 := h2 rs
  rw [e]
  omega
def Nst.cnt (rs : List Int) (lo : Int) (k : Nat) : Nat := ((Nst.upto lo k).filter (fun x => decide (x ∈ rs))).length
theorem Nst.cnt_yes {rs : List Int} {lo : Int} {k : Nat} (h : lo + k ∈ rs) : Nst.cnt rs lo (k + 1) = Nst.cnt rs lo k + 1 := by
  unfold Nst.cnt
  rw [Nst.upto, List.filter_append, List.filter_cons_of_pos (by simpa using h), List.length_append]; rfl
theorem Nst.cnt_no {rs : List Int} {lo : Int} {k : Nat} (h : ¬ lo + k ∈ rs) : Nst.cnt rs lo (k + 1) = Nst.cnt rs lo k := by
  unfold Nst.cnt
  rw [Nst.upto, List.filter_append, List.filter_cons_of_neg (by simpa using h), List.length_append]; rfl
theorem Nst.cnt_le (rs : List Int) (lo : Int) (k : Nat) : Nst.cnt rs lo k ≤ k := by
  unfold Nst.cnt
  have := List.length_filter_le (fun x => decide (x ∈ rs)) (Nst.upto lo k)
  rw [Nst.len_upto] at this
  exact this
theorem Msg.cert_in {f : Int} {m : Ms} (h : Msg.faultM f m = 0) (hk : m.kind = 2 ∨ m.kind = 3) : Msg.certIn ⟨m.slot, m.view, m.value⟩ = true := by
  obtain ⟨-, -, h1, h2, h3, h4, h5, h6, -⟩ := Msg.of_slot h hk
  exact decide_eq_true (by show 1 ≤ m.slot ∧ m.slot ≤ 30 ∧ 0 ≤ m.view ∧ m.view ≤ 20 ∧ 0 ≤ m.value ∧ m.value ≤ 12; omega)
set_option maxHeartbeats 400000 in
theorem lawQuorums_big (ad : Option Addr) (len cap : Nat) (w : World) (hl : 1048576 < len) :
    Calls Try.prog 3 #[.slice ad len cap] w fun e w' => e = .returned (.bool true) ∧ Ext w w' := by
  have hbig : decide (1048576 < len) = true := by simpa using hl
  have hB := lwBigL_any ad len cap w
  rw [hbig] at hB
  clear hbig
  go_enter Try.func3, Try.ntmps3
  go_wp2_with fail
  refine hB.mono ?_
  rintro e w0 ⟨rfl, hw⟩
  subst hw
  clear hB
  go_wp2
  go_ret
  exact ⟨rfl, Ext.refl _⟩
set_option linter.unusedSimpArgs false in
set_option maxHeartbeats 16000000 in
set_option maxRecDepth 100000 in
theorem lawQuorums (cv : Value) (w : World) (hc : CodeOk w w.heap.size cv) :
    Calls Try.prog 3 #[cv] w fun e w' => e = .returned (.bool true) ∧ Ext w w' := by
  have hc' := hc
  obtain ⟨ad, len, cap0, rfl, hl, -⟩ := hc'
  have HC : Hid (CodeOk w w.heap.size (.slice ad len cap0)) := hc
  have hbig : decide (1048576 < len) = false := by simpa using hl
  have hB := lwBigL_any ad len cap0 w
  rw [hbig] at hB
  clear hc hbig hl
  have hf0 : ∀ (x : Int) (s : Value) (W : World), (Instr.field 32 (.agg #[.int .i64 x, s]) 0).run Try.prog W = .ok (.int .i64 x) W := fun _ _ _ => by kernel_rfl
  have hf1 : ∀ (x : Int) (a : Option Addr) (n c : Nat) (W : World), (Instr.field 32 (.agg #[.int .i64 x, .slice a n c]) 1).run Try.prog W = .ok (.slice a n c) W := fun _ _ _ _ _ => by kernel_rfl
  have hf2 : ∀ (x y : Int) (W : World), (Instr.field 35 (.agg #[.int .i64 x, .int .i64 y]) 1).run Try.prog W = .ok (.int .i64 y) W := fun _ _ _ => by kernel_rfl
  go_enter Try.func3, Try.ntmps3
  go_wp2_with fail
  refine hB.mono ?_
  rintro e w0 ⟨rfl, hw⟩
  rw [hw]
  clear hB hw w0
  go_wp2_with fail
  refine (drawVotesFor_any _ _ HC.out).mono ?_
  rintro e w1 ⟨f, ov, ms, m, v, u, rfl, hM, hL, hE⟩
  obtain ⟨a, cap, rfl, -⟩ := id hM
  obtain ⟨y0, y1, y2, y3, rfl, rfl, -, -, -, -⟩ := hL.form
  have M1 : Hid (MSlice w1 (.slice a ms.length cap) ms) := hM
  have L1 : Hid (MLs w1 (.slice y0 m.certs.length y1) (.slice y2 m.refs.length y3) m) := hL
  have E1 : Hid (Ext w w1) := hE
  clear hM hL hE HC
  unfold magg
  obtain ⟨c, hcd⟩ : ∃ c, c = (Msg.votesV f ms m).1 := ⟨_, rfl⟩
  obtain ⟨rs, hrs⟩ : ∃ rs, rs = (Msg.votesV f ms m).2 := ⟨_, rfl⟩
  have HSp : Hid (∀ (wx : World), MSlice wx (.slice a ms.length cap) ms → MLs wx (.slice y0 m.certs.length y1) (.slice y2 m.refs.length y3) m → Calls Try.prog 17 #[.int .i64 f, .slice a ms.length cap, .agg #[.int .i64 m.kind, .int .i64 m.view, .int .i64 m.from_, .int .i64 m.slot, .int .i64 m.value, .slice y0 m.certs.length y1, .slice y2 m.refs.length y3]] wx (Led.JRet wx c rs)) := by rw [hcd, hrs]; exact fun wx h h2 => specVotesFor_any f _ ms m _ _ wx h h2
  have HIm : Hid (∀ (wx : World), MSlice wx (.slice a ms.length cap) ms → MLs wx (.slice y0 m.certs.length y1) (.slice y2 m.refs.length y3) m → Calls Try.prog 16 #[.int .i64 f, .slice a ms.length cap, .agg #[.int .i64 m.kind, .int .i64 m.view, .int .i64 m.from_, .int .i64 m.slot, .int .i64 m.value, .slice y0 m.certs.length y1, .slice y2 m.refs.length y3]] wx (Led.JRet wx c rs)) := by rw [hcd, hrs]; exact fun wx h h2 => implVotesFor_any f _ ms m _ _ wx h h2
  have HV : Hid (c = 0 ∧ Msg.ledger f ms = 0 ∧ Msg.faultM f m = 0 ∧ (m.kind = 2 ∨ m.kind = 3) ∧ rs = Msg.votes f ms m.kind ⟨m.slot, m.view, m.value⟩ ∨ ¬ c = 0) := by
    by_cases h1 : Msg.ledger f ms = 0
    · by_cases h2 : Msg.faultM f m = 0
      · by_cases h3 : m.kind = 2 ∨ m.kind = 3
        · refine Or.inl ⟨?_, h1, h2, h3, ?_⟩
          · rw [hcd]; simp only [Msg.votesV_ok h1 h2 h3]
          · rw [hrs]; simp only [Msg.votesV_ok h1 h2 h3]
        · refine Or.inr ?_
          rw [hcd]; simp only [Msg.votesV_kind h1 h2 h3]; decide
      · refine Or.inr ?_
        rw [hcd]; simp only [Msg.votesV_msg h1 h2]; exact h2
    · refine Or.inr ?_
      rw [hcd]; simp only [Msg.votesV_bad h1]; exact h1
  clear hcd hrs
  go_wp2_with fail
  refine (HIm.out _ (M1.out.ext ((Ext.refl _).alloc _)) (L1.out.ext ((Ext.refl _).alloc _))).mono ?_
  rintro e w2 ⟨v2, g2, rfl, hg2, hO2, hb⟩
  obtain ⟨a2, cap2, rfl, -⟩ := id hO2
  unfold Led.jr
  obtain ⟨w3, hw3⟩ : ∃ w3, w3 = w2.alloc (.cells #[.int .i64 c, (.slice a2 rs.length cap2)] 32) := ⟨_, rfl⟩
  have X3 : Ext w1 w3 := by rw [hw3]; exact (((Ext.refl _).alloc _).trans hb).alloc _
  have E3 : Hid (Ext w w3) := E1.out.trans X3
  have M3 : Hid (MSlice w3 (.slice a ms.length cap) ms) := M1.out.ext X3
  have L3 : Hid (MLs w3 (.slice y0 m.certs.length y1) (.slice y2 m.refs.length y3) m) := L1.out.ext X3
  have BM : Hid (MBoxAt w3 w1.heap.size m (.slice y0 m.certs.length y1) (.slice y2 m.refs.length y3)) := by rw [hw3]; exact ((mbox_new w1 m (.slice y0 m.certs.length y1) (.slice y2 m.refs.length y3) _).ext hb).ext ((Ext.refl _).alloc _)
  have BL : Hid (Led.JBoxAt w3 w2.heap.size c (.slice a2 rs.length cap2)) := by rw [hw3]; exact Led.jbox_new w2 c _ _
  have O3 : Hid (ISlice w3 (.slice a2 rs.length cap2) rs) := by rw [hw3]; exact (hO2.ext ((Ext.refl _).alloc _)).slice
  clear hb hO2 hg2 X3 M1 L1 E1 HIm
  rcases HV.out with ⟨hc0, hled, hfm, hkd, hrs⟩ | hcn
  · have HLog : Hid (Msg.ledger f ms = 0 ∧ Msg.faultM f m = 0 ∧ (m.kind = 2 ∨ m.kind = 3) ∧ rs = Msg.votes f ms m.kind ⟨m.slot, m.view, m.value⟩) := ⟨hled, hfm, hkd, hrs⟩
    obtain ⟨hf01, hf02, -⟩ := Msg.ledger_zero hled
    have hrl : rs.length ≤ 7 := by rw [hrs]; exact Msg.votes_len hf01 hf02
    have hvw := Msg.view_in hfm
    subst hc0
    have HUp : Hid (2 * f + 1 ≤ (rs.length : Int) → f < (Nst.cnt rs (f + 1) (2 * f + 1).toNat : Int)) := fun h => by
      refine Nst.upper ?_ (by omega) ?_ h
      · rw [hrs]; exact Msg.votesK_ris _ _ _ _
      · intro x hx
        rw [hrs] at hx
        exact ((Msg.mem_votes (by omega)).1 hx).1
    have HRt : Hid (m.kind = 2 → Msg.certRight f ms ⟨m.slot, m.view, m.value⟩ = decide (2 * f + 1 ≤ (rs.length : Int))) := fun h => by
      rw [Msg.cert_right hled (Msg.cert_in hfm hkd), hrs, h]
      rfl
    have HNd : Hid (∀ wx, Calls Try.prog 18 #[.int .i64 f] wx fun e w' => e = .returned (.agg #[.int .i64 0, .int .i64 (2 * f + 1)]) ∧ Ext wx w') := fun wx => by
      have q := implNeedOf_any f wx
      have e : Msg.needV f = (0, 2 * f + 1) := by unfold Msg.needV; rw [if_neg (by unfold Msg.fOk; simp; omega)]
      rw [e] at q
      exact q
    have HCr : Hid (∀ wx, MSlice wx (.slice a ms.length cap) ms → Calls Try.prog 19 #[.int .i64 f, .slice a ms.length cap, .agg #[.int .i64 m.slot, .int .i64 m.view, .int .i64 m.value]] wx fun e w' => e = .returned (.bool (Msg.certRight f ms ⟨m.slot, m.view, m.value⟩)) ∧ Ext wx w') := fun wx h => implCertRight_any f _ ms ⟨m.slot, m.view, m.value⟩ wx h
    have hpr : Msg.primV f m.view = (0, Msg.primary f m.view) := by
      unfold Msg.primV
      rw [show Msg.fOk f = true from by unfold Msg.fOk; simp; omega, if_neg (by decide), if_neg (by simp; omega)]
    have HPi : Hid (∀ wx, Calls Try.prog 22 #[.int .i64 f, .int .i64 m.view] wx fun e w' => e = .returned (.agg #[.int .i64 0, .int .i64 (Msg.primary f m.view)]) ∧ Ext wx w') := fun wx => by have q := implPrimaryOf_any f m.view wx; rw [hpr] at q; exact q
    have HPs : Hid (∀ wx, Calls Try.prog 23 #[.int .i64 f, .int .i64 m.view] wx fun e w' => e = .returned (.agg #[.int .i64 0, .int .i64 (Msg.primary f m.view)]) ∧ Ext wx w') := fun wx => by have q := specPrimaryOf_any f m.view wx; rw [hpr] at q; exact q
    have HNu : Hid (∀ (x y : Value) (wx : World), ISlice wx x rs → ISlice wx y rs → Calls Try.prog 21 #[x, y] wx fun e w' => e = .returned (.bool true) ∧ Ext wx w') := fun x y wx h1 h2 => lwNums_same x y rs wx h1 h2
    have HHas : Hid (∀ (x : Int) (wx : World), ISlice wx (.slice a2 rs.length cap2) rs → Calls Try.prog 20 #[.slice a2 rs.length cap2, .int .i64 x] wx fun e w' => e = .returned (.bool (decide (x ∈ rs))) ∧ w' = wx) := fun x wx h => lwHas_any _ rs x wx h
    generalize Msg.primary f m.view = pv at *
    have P5 : Hid (((2 * f + 1 : Int) == 2 * f + 1) = true) := by show _ = _; simp
    have e1 : IntKind.i64.wrap (2 * f) = 2 * f := by rw [IntKind.wrap_i64]; omega
    have e2 : IntKind.i64.wrap (2 * f + 1) = 2 * f + 1 := by rw [IntKind.wrap_i64]; omega
    have e3 : IntKind.i64.wrap (3 * f) = 3 * f := by rw [IntKind.wrap_i64]; omega
    have e4 : IntKind.i64.wrap (3 * f + 1) = 3 * f + 1 := by rw [IntKind.wrap_i64]; omega
    have e5 : IntKind.i64.wrap (f + 1) = f + 1 := by rw [IntKind.wrap_i64]; omega
    clear HV hled hfm hkd hrs hpr
    go_wp2_with fail
    rw [← hw3]
    refine (HNd.out _).mono ?_
    rintro e w4 ⟨rfl, hb⟩
    have E4 : Hid (Ext w w4) := E3.out.trans hb
    have M4 : Hid (MSlice w4 (.slice a ms.length cap) ms) := M3.out.ext hb
    have L4 : Hid (MLs w4 (.slice y0 m.certs.length y1) (.slice y2 m.refs.length y3) m) := L3.out.ext hb
    have BM4 : Hid (MBoxAt w4 w1.heap.size m (.slice y0 m.certs.length y1) (.slice y2 m.refs.length y3)) := BM.out.ext hb
    have BL4 : Hid (Led.JBoxAt w4 w2.heap.size 0 (.slice a2 rs.length cap2)) := BL.out.ext hb
    have O4 : Hid (ISlice w4 (.slice a2 rs.length cap2) rs) := O3.out.ext hb
    clear hb E3 M3 L3 BM BL O3 hw3 w3
    generalize w2.heap.size = L at *
    generalize w1.heap.size = M at *
    obtain ⟨q, ⟨q0, q1, q2, q3, q4, q5, q6⟩, -⟩ := BM4.out
    have hal := alloc_cell
    go_wp2_with fail
    refine (HCr.out _ (M4.out.ext (((Ext.refl _).alloc _).alloc _))).mono ?_
    rintro e wB ⟨rfl, hb⟩
    have XB : Hid (Ext w4 wB) := (((Ext.refl _).alloc _).alloc _).trans hb
    have EB : Hid (Ext w wB) := E4.out.trans XB.out
    have MB : Hid (MSlice wB (.slice a ms.length cap) ms) := M4.out.ext XB.out
    have LB : Hid (MLs wB (.slice y0 m.certs.length y1) (.slice y2 m.refs.length y3) m) := L4.out.ext XB.out
    have BMB : Hid (MBoxAt wB M m (.slice y0 m.certs.length y1) (.slice y2 m.refs.length y3)) := BM4.out.ext XB.out
    have BLB : Hid (Led.JBoxAt wB L 0 (.slice a2 rs.length cap2)) := BL4.out.ext XB.out
    have OB : Hid (ISlice wB (.slice a2 rs.length cap2) rs) := O4.out.ext XB.out
    have hN1 : wB.cell? ⟨w4.heap.size, 1, none⟩ = some (.int .i64 (2 * f + 1)) := ((Ext.cell hb).1 _ _ (by simp; omega)).trans (by rw [alloc_cell _ _ _ _ (by simp)]; simp)
    have hNl : w4.heap.size < wB.heap.size := by have := hb.size; simp at this; omega
    generalize w4.heap.size = N at *
    have HS21 : Hid (∀ W', Ext wB W' → W'.cell? ⟨N, 1, none⟩ = some (.int .i64 (2 * f + 1)) ∧ W'.cell? ⟨L, 1, none⟩ = some (.slice a2 rs.length cap2) ∧ W'.cell? ⟨M, 0, none⟩ = some (.int .i64 m.kind) ∧ W'.cell? ⟨M, 1, none⟩ = some (.int .i64 m.view) ∧ W'.cell? ⟨M, 2, none⟩ = some (.int .i64 m.from_) ∧ W'.cell? ⟨M, 3, none⟩ = some (.int .i64 m.slot) ∧ W'.cell? ⟨M, 4, none⟩ = some (.int .i64 m.value) ∧ W'.cell? ⟨M, 5, none⟩ = some (.slice y0 m.certs.length y1) ∧ W'.cell? ⟨M, 6, none⟩ = some (.slice y2 m.refs.length y3)) := fun W' he => by
      obtain ⟨-, ⟨r0, r1, r2, r3, r4, r5, r6⟩, -⟩ := BMB.out.ext he
      exact ⟨((Ext.cell he).1 _ _ hNl).trans hN1, (BLB.out.ext he).2.2, r0, r1, r2, r3, r4, r5, r6⟩
    clear hb XB E4 M4 L4 BM4 BL4 O4 q q0 q1 q2 q3 q4 q5 q6 hal HNd HCr BMB BLB hN1 hNl
    obtain ⟨sN, sL, s0, s1, s2, s3, s4, s5, s6⟩ := HS21.out _ (Ext.refl _)
    obtain ⟨R, hR⟩ : ∃ R, R = Msg.certRight f ms ⟨m.slot, m.view, m.value⟩ := ⟨_, rfl⟩
    rw [← hR] at HRt ⊢
    clear hR
    by_cases hk2 : m.kind = 2
    · have g2 : (m.kind == 2) = true := by simpa using hk2
      have hRR := HRt.out hk2
      subst hRR
      clear HRt hk2
      by_cases hq : 2 * f + 1 ≤ (rs.length : Int)
      · rw [decide_eq_true hq]
        have HCn : Hid (f < (Nst.cnt rs (f + 1) (2 * f + 1).toNat : Int)) := HUp.out hq
        go_wp2
        skip
        go_loopw [10, 11] (fun cv iv wr => ∃ (j : Nat), j ≤ (2 * f + 1).toNat ∧ iv = .int .i64 (f + 1 + (j : Int)) ∧ cv = .int .i64 ((Nst.cnt rs (f + 1) j : Nat) : Int) ∧ Hid (wr = wB)) (fun _ iv _ => (3 * f + 2 - intOf iv).toNat)
        case atStart => exact ⟨0, Nat.zero_le _, by simp, rfl, rfl⟩
        case round =>
          obtain ⟨j, hj, rfl, rfl, HWB⟩ := hrel
          have hww : wB = wr := HWB.out.symm
          subst hww
          have hcl := Nst.cnt_le rs (f + 1) j
          by_cases hlt : (j : Int) < 2 * f + 1
          · have hle : f + 1 + (j : Int) ≤ 3 * f + 1 := by omega
            obtain ⟨sN, sL, -⟩ := HS21.out _ (Ext.refl _)
            go_wp2_with fail
            refine (HHas.out _ _ OB.out).mono ?_
            rintro e w9 ⟨rfl, hw9⟩
            rw [hw9]
            clear hw9 w9
            by_cases hm9 : f + 1 + (j : Int) ∈ rs
            · rw [decide_eq_true hm9]
              have HK : Hid (Nst.cnt rs (f + 1) (j + 1) = Nst.cnt rs (f + 1) j + 1) := Nst.cnt_yes hm9
              clear hm9
              go_wp2
              exact ⟨⟨j + 1, by omega, by exact congrArg (Value.int .i64) (by omega), by rw [HK.out]; exact congrArg (Value.int .i64) (by omega), by first | exact rfl | exact (trivial : True)⟩, by simp [intOf]; omega⟩
            · rw [decide_eq_false hm9]
              have HK : Hid (Nst.cnt rs (f + 1) (j + 1) = Nst.cnt rs (f + 1) j) := Nst.cnt_no hm9
              clear hm9
              go_wp2
              exact ⟨⟨j + 1, by omega, by exact congrArg (Value.int .i64) (by omega), by rw [HK.out], by first | exact rfl | exact (trivial : True)⟩, by simp [intOf]; omega⟩
          · have hje : j = (2 * f + 1).toNat := by omega
            have hgt : ¬ f + 1 + (j : Int) ≤ 3 * f + 1 := by omega
            have hcn : ¬ ((Nst.cnt rs (f + 1) j : Nat) : Int) ≤ f := by rw [hje]; have := HCn.out; omega
            clear hje
            go_wp2
            skip
            refine wp_region_held_drew (S := (fun W' : World => W'.cell? ⟨N, 1, none⟩ = some (.int .i64 (2 * f + 1)) ∧ W'.cell? ⟨L, 1, none⟩ = some (.slice a2 rs.length cap2) ∧ W'.cell? ⟨M, 0, none⟩ = some (.int .i64 m.kind) ∧ W'.cell? ⟨M, 1, none⟩ = some (.int .i64 m.view) ∧ W'.cell? ⟨M, 2, none⟩ = some (.int .i64 m.from_) ∧ W'.cell? ⟨M, 3, none⟩ = some (.int .i64 m.slot) ∧ W'.cell? ⟨M, 4, none⟩ = some (.int .i64 m.value) ∧ W'.cell? ⟨M, 5, none⟩ = some (.slice y0 m.certs.length y1) ∧ W'.cell? ⟨M, 6, none⟩ = some (.slice y2 m.refs.length y3))) (by kernel_rfl) (HS21.out _ ((Ext.refl _).drew)) (fun hHeld => ?_)
            refine wpAnyH_take (i := 0) (oi := { dst := some 85, op := Op.fieldAddr 35 (Operand.tmp 7) 1, type := 0, pos := "laws.go:418", after := #[], guard := none }) (v := ?_) rfl (by kernel_rfl) (by kernel_rfl) (by kernel_rfl) (fun _ _ _ h => h) (Or.inl ⟨by rfl, ?_⟩) (by assumption) ?_
            rotate_left
            · intro w' hSw; (try dsimp only at hSw); go_simp; try with_reducible rfl
            (try simp only [Act.put, List.setIfInBounds_toArray, List.set_cons_zero, List.set_cons_succ])
            refine wpAnyH_take (i := 1) (oi := { dst := some 86, op := Op.load 2 (Operand.tmp 85), type := 2, pos := "laws.go:418", after := #[{ on := 0, ground := Ground.data }], guard := none }) (v := ?_) rfl (by kernel_rfl) (by kernel_rfl) (by kernel_rfl) (fun _ _ _ h => h) (Or.inl ⟨by rfl, ?_⟩) (by assumption) ?_
            rotate_left
            · intro w' hSw; (try dsimp only at hSw); go_simp; try with_reducible rfl
            (try simp only [Act.put, List.setIfInBounds_toArray, List.set_cons_zero, List.set_cons_succ])
            refine wpAnyH_take (i := 2) (oi := { dst := some 87, op := Op.move (Operand.tmp 3), type := 2, pos := "laws.go:418", after := #[], guard := none }) (v := ?_) rfl (by kernel_rfl) (by kernel_rfl) (by kernel_rfl) (fun _ _ _ h => h) (Or.inl ⟨by rfl, ?_⟩) (by assumption) ?_
            rotate_left
            · intro w' hSw; (try dsimp only at hSw); go_simp; try with_reducible rfl
            (try simp only [Act.put, List.setIfInBounds_toArray, List.set_cons_zero, List.set_cons_succ])
            refine wpAnyH_take (i := 3) (oi := { dst := some 88, op := Op.binOp BinOp.mul 2 (Operand.const (Value.int IntKind.i64 2)) (Operand.tmp 87) 2, type := 2, pos := "laws.go:418", after := #[{ on := 2, ground := Ground.data }], guard := none }) (v := ?_) rfl (by kernel_rfl) (by kernel_rfl) (by kernel_rfl) (fun _ _ _ h => h) (Or.inl ⟨by rfl, ?_⟩) (by assumption) ?_
            rotate_left
            · intro w' hSw; (try dsimp only at hSw); go_simp; try with_reducible rfl
            (try simp only [Act.put, List.setIfInBounds_toArray, List.set_cons_zero, List.set_cons_succ])
            refine wpAnyH_take (i := 4) (oi := { dst := some 89, op := Op.binOp BinOp.add 2 (Operand.tmp 88) (Operand.const (Value.int IntKind.i64 1)) 2, type := 2, pos := "laws.go:418", after := #[{ on := 3, ground := Ground.data }], guard := none }) (v := ?_) rfl (by kernel_rfl) (by kernel_rfl) (by kernel_rfl) (fun _ _ _ h => h) (Or.inl ⟨by rfl, ?_⟩) (by assumption) ?_
            rotate_left
            · intro w' hSw; (try dsimp only at hSw); go_simp; try with_reducible rfl
            (try simp only [Act.put, List.setIfInBounds_toArray, List.set_cons_zero, List.set_cons_succ])
            refine wpAnyH_take (i := 5) (oi := { dst := some 90, op := Op.binOp BinOp.eql 2 (Operand.tmp 86) (Operand.tmp 89) 2, type := 4, pos := "laws.go:418", after := #[{ on := 1, ground := Ground.data }, { on := 4, ground := Ground.data }], guard := none }) (v := ?_) rfl (by kernel_rfl) (by kernel_rfl) (by kernel_rfl) (fun _ _ _ h => h) (Or.inl ⟨by rfl, ?_⟩) (by assumption) ?_
            rotate_left
            · intro w' hSw; (try dsimp only at hSw); go_simp; try with_reducible rfl
            (try simp only [Act.put, List.setIfInBounds_toArray, List.set_cons_zero, List.set_cons_succ])
            (try rw [P5.out])
            refine wpAnyH_take (i := 6) (oi := { dst := some 91, op := Op.move (Operand.tmp 90), type := 4, pos := "laws.go:418", after := #[{ on := 5, ground := Ground.data }], guard := none }) (v := ?_) rfl (by kernel_rfl) (by kernel_rfl) (by kernel_rfl) (fun _ _ _ h => h) (Or.inl ⟨by rfl, ?_⟩) (by assumption) ?_
            rotate_left
            · intro w' hSw; (try dsimp only at hSw); go_simp; try with_reducible rfl
            (try simp only [Act.put, List.setIfInBounds_toArray, List.set_cons_zero, List.set_cons_succ])
            refine wpAnyH_take (i := 7) (oi := { dst := some 92, op := Op.fieldAddr 32 (Operand.tmp 6) 1, type := 0, pos := "laws.go:418", after := #[{ on := 6, ground := Ground.guard }], guard := some (6, true) }) (v := ?_) rfl (by kernel_rfl) (by kernel_rfl) (by kernel_rfl) (fun _ _ _ h => h) (Or.inl ⟨by rfl, ?_⟩) (by assumption) ?_
            rotate_left
            · intro w' hSw; (try dsimp only at hSw); go_simp; try with_reducible rfl
            (try simp only [Act.put, List.setIfInBounds_toArray, List.set_cons_zero, List.set_cons_succ])
            refine wpAnyH_take (i := 8) (oi := { dst := some 93, op := Op.load 26 (Operand.tmp 92), type := 26, pos := "laws.go:418", after := #[{ on := 7, ground := Ground.data }, { on := 6, ground := Ground.guard }], guard := some (6, true) }) (v := ?_) rfl (by kernel_rfl) (by kernel_rfl) (by kernel_rfl) (fun _ _ _ h => h) (Or.inl ⟨by rfl, ?_⟩) (by assumption) ?_
            rotate_left
            · intro w' hSw; (try dsimp only at hSw); go_simp; try with_reducible rfl
            (try simp only [Act.put, List.setIfInBounds_toArray, List.set_cons_zero, List.set_cons_succ])
            refine wpAnyH_take (i := 9) (oi := { dst := some 94, op := Op.move (Operand.tmp 3), type := 2, pos := "laws.go:418", after := #[{ on := 6, ground := Ground.guard }], guard := some (6, true) }) (v := ?_) rfl (by kernel_rfl) (by kernel_rfl) (by kernel_rfl) (fun _ _ _ h => h) (Or.inl ⟨by rfl, ?_⟩) (by assumption) ?_
            rotate_left
            · intro w' hSw; (try dsimp only at hSw); go_simp; try with_reducible rfl
            (try simp only [Act.put, List.setIfInBounds_toArray, List.set_cons_zero, List.set_cons_succ])
            refine wpAnyH_take (i := 10) (oi := { dst := some 95, op := Op.move (Operand.tmp 4), type := 24, pos := "laws.go:418", after := #[{ on := 6, ground := Ground.guard }], guard := some (6, true) }) (v := ?_) rfl (by kernel_rfl) (by kernel_rfl) (by kernel_rfl) (fun _ _ _ h => h) (Or.inl ⟨by rfl, ?_⟩) (by assumption) ?_
            rotate_left
            · intro w' hSw; (try dsimp only at hSw); go_simp; try with_reducible rfl
            (try simp only [Act.put, List.setIfInBounds_toArray, List.set_cons_zero, List.set_cons_succ])
            refine wpAnyH_take (i := 11) (oi := { dst := some 96, op := Op.load 28 (Operand.tmp 5), type := 28, pos := "laws.go:418", after := #[{ on := 6, ground := Ground.guard }], guard := some (6, true) }) (v := ?_) rfl (by kernel_rfl) (by kernel_rfl) (by kernel_rfl) (fun _ _ _ h => h) (Or.inl ⟨by rfl, ?_⟩) (by assumption) ?_
            rotate_left
            · intro w' hSw; (try dsimp only at hSw); go_simp; try with_reducible rfl
            (try simp only [Act.put, List.setIfInBounds_toArray, List.set_cons_zero, List.set_cons_succ])
            refine wpAnyH_ready (rs := [12]) (by kernel_rfl) (by simp) (AllReadyH.cons rfl (fun K hK => ?_) AllReadyH.nil)
            go_simp
            refine (HSp.out _ (MB.out.ext ((Ext.refl wB).drew)) (LB.out.ext ((Ext.refl wB).drew))).mono ?_
            rintro e z1 ⟨v9, g9, rfl, -, hO9, hb⟩
            obtain ⟨a9, c9, rfl, -⟩ := id hO9
            unfold Led.jr
            have Yz1 : Hid (Ext wB z1) := (((Ext.refl wB).drew)).trans hb
            have O9 : Hid (ISlice z1 (.slice a9 rs.length c9) rs) := hO9.slice
            clear hb hO9
            refine hK.out _ _ (by exact HS21.out _ Yz1.out) (fun hHeldz1 => ?_)
            clear hK K
            refine wpAnyH_take (i := 13) (oi := { dst := some 98, op := Op.field 32 (Operand.tmp 97) 1, type := 26, pos := "laws.go:418", after := #[{ on := 12, ground := Ground.data }, { on := 6, ground := Ground.guard }], guard := some (6, true) }) (v := ?_) rfl (by kernel_rfl) (by kernel_rfl) (by kernel_rfl) (fun _ _ _ h => h) (Or.inl ⟨by rfl, ?_⟩) (by assumption) ?_
            rotate_left
            · intro w' hSw; (try dsimp only at hSw); go_simp; try with_reducible rfl
            (try simp only [Act.put, List.setIfInBounds_toArray, List.set_cons_zero, List.set_cons_succ])
            refine wpAnyH_ready (rs := [14]) (by kernel_rfl) (by simp) (AllReadyH.cons rfl (fun K hK => ?_) AllReadyH.nil)
            go_simp
            refine (HNu.out _ _ _ (OB.out.ext Yz1.out) O9.out).mono ?_
            rintro e z2 ⟨rfl, hb⟩
            have Yz2 : Hid (Ext wB z2) := (Yz1.out).trans hb
            clear hb
            refine hK.out _ _ (by exact HS21.out _ Yz2.out) (fun hHeldz2 => ?_)
            clear hK K
            refine wpAnyH_take (i := 15) (oi := { dst := some 100, op := Op.pick (Operand.tmp 91) (Operand.tmp 99) (Operand.const (Value.bool false)), type := 4, pos := "laws.go:418", after := #[{ on := 6, ground := Ground.data }, { on := 14, ground := Ground.data }], guard := none }) (v := ?_) rfl (by kernel_rfl) (by kernel_rfl) (by kernel_rfl) (fun _ _ _ h => h) (Or.inl ⟨by rfl, ?_⟩) (by assumption) ?_
            rotate_left
            · intro w' hSw; (try dsimp only at hSw); go_simp; try with_reducible rfl
            (try simp only [Act.put, List.setIfInBounds_toArray, List.set_cons_zero, List.set_cons_succ])
            refine wpAnyH_take (i := 16) (oi := { dst := some 101, op := Op.move (Operand.tmp 100), type := 4, pos := "laws.go:418", after := #[{ on := 15, ground := Ground.data }, { on := 14, ground := Ground.chain }], guard := none }) (v := ?_) rfl (by kernel_rfl) (by kernel_rfl) (by kernel_rfl) (fun _ _ _ h => h) (Or.inl ⟨by rfl, ?_⟩) (by assumption) ?_
            rotate_left
            · intro w' hSw; (try dsimp only at hSw); go_simp; try with_reducible rfl
            (try simp only [Act.put, List.setIfInBounds_toArray, List.set_cons_zero, List.set_cons_succ])
            refine wpAnyH_take (i := 17) (oi := { dst := some 102, op := Op.move (Operand.tmp 3), type := 2, pos := "laws.go:418", after := #[{ on := 16, ground := Ground.guard }], guard := some (16, true) }) (v := ?_) rfl (by kernel_rfl) (by kernel_rfl) (by kernel_rfl) (fun _ _ _ h => h) (Or.inl ⟨by rfl, ?_⟩) (by assumption) ?_
            rotate_left
            · intro w' hSw; (try dsimp only at hSw); go_simp; try with_reducible rfl
            (try simp only [Act.put, List.setIfInBounds_toArray, List.set_cons_zero, List.set_cons_succ])
            refine wpAnyH_take (i := 18) (oi := { dst := some 103, op := Op.fieldAddr 28 (Operand.tmp 5) 1, type := 0, pos := "laws.go:418", after := #[{ on := 16, ground := Ground.guard }], guard := some (16, true) }) (v := ?_) rfl (by kernel_rfl) (by kernel_rfl) (by kernel_rfl) (fun _ _ _ h => h) (Or.inl ⟨by rfl, ?_⟩) (by assumption) ?_
            rotate_left
            · intro w' hSw; (try dsimp only at hSw); go_simp; try with_reducible rfl
            (try simp only [Act.put, List.setIfInBounds_toArray, List.set_cons_zero, List.set_cons_succ])
            refine wpAnyH_take (i := 19) (oi := { dst := some 104, op := Op.load 2 (Operand.tmp 103), type := 2, pos := "laws.go:418", after := #[{ on := 18, ground := Ground.data }, { on := 16, ground := Ground.guard }], guard := some (16, true) }) (v := ?_) rfl (by kernel_rfl) (by kernel_rfl) (by kernel_rfl) (fun _ _ _ h => h) (Or.inl ⟨by rfl, ?_⟩) (by assumption) ?_
            rotate_left
            · intro w' hSw; (try dsimp only at hSw); go_simp; try with_reducible rfl
            (try simp only [Act.put, List.setIfInBounds_toArray, List.set_cons_zero, List.set_cons_succ])
            refine wpAnyH_take (i := 22) (oi := { dst := some 107, op := Op.fieldAddr 28 (Operand.tmp 5) 2, type := 0, pos := "laws.go:418", after := #[{ on := 16, ground := Ground.guard }], guard := some (16, true) }) (v := ?_) rfl (by kernel_rfl) (by kernel_rfl) (by kernel_rfl) (fun _ _ _ h => h) (Or.inl ⟨by rfl, ?_⟩) (by assumption) ?_
            rotate_left
            · intro w' hSw; (try dsimp only at hSw); go_simp; try with_reducible rfl
            (try simp only [Act.put, List.setIfInBounds_toArray, List.set_cons_zero, List.set_cons_succ])
            refine wpAnyH_take (i := 23) (oi := { dst := some 108, op := Op.load 2 (Operand.tmp 107), type := 2, pos := "laws.go:418", after := #[{ on := 22, ground := Ground.data }, { on := 16, ground := Ground.guard }], guard := some (16, true) }) (v := ?_) rfl (by kernel_rfl) (by kernel_rfl) (by kernel_rfl) (fun _ _ _ h => h) (Or.inl ⟨by rfl, ?_⟩) (by assumption) ?_
            rotate_left
            · intro w' hSw; (try dsimp only at hSw); go_simp; try with_reducible rfl
            (try simp only [Act.put, List.setIfInBounds_toArray, List.set_cons_zero, List.set_cons_succ])
            refine wpAnyH_take (i := 25) (oi := { dst := some 110, op := Op.move (Operand.tmp 3), type := 2, pos := "laws.go:418", after := #[{ on := 16, ground := Ground.guard }], guard := some (16, true) }) (v := ?_) rfl (by kernel_rfl) (by kernel_rfl) (by kernel_rfl) (fun _ _ _ h => h) (Or.inl ⟨by rfl, ?_⟩) (by assumption) ?_
            rotate_left
            · intro w' hSw; (try dsimp only at hSw); go_simp; try with_reducible rfl
            (try simp only [Act.put, List.setIfInBounds_toArray, List.set_cons_zero, List.set_cons_succ])
            refine wpAnyH_take (i := 26) (oi := { dst := some 111, op := Op.fieldAddr 28 (Operand.tmp 5) 1, type := 0, pos := "laws.go:418", after := #[{ on := 16, ground := Ground.guard }], guard := some (16, true) }) (v := ?_) rfl (by kernel_rfl) (by kernel_rfl) (by kernel_rfl) (fun _ _ _ h => h) (Or.inl ⟨by rfl, ?_⟩) (by assumption) ?_
            rotate_left
            · intro w' hSw; (try dsimp only at hSw); go_simp; try with_reducible rfl
            (try simp only [Act.put, List.setIfInBounds_toArray, List.set_cons_zero, List.set_cons_succ])
            refine wpAnyH_take (i := 27) (oi := { dst := some 112, op := Op.load 2 (Operand.tmp 111), type := 2, pos := "laws.go:418", after := #[{ on := 26, ground := Ground.data }, { on := 16, ground := Ground.guard }], guard := some (16, true) }) (v := ?_) rfl (by kernel_rfl) (by kernel_rfl) (by kernel_rfl) (fun _ _ _ h => h) (Or.inl ⟨by rfl, ?_⟩) (by assumption) ?_
            rotate_left
            · intro w' hSw; (try dsimp only at hSw); go_simp; try with_reducible rfl
            (try simp only [Act.put, List.setIfInBounds_toArray, List.set_cons_zero, List.set_cons_succ])
            refine wpAnyH_take (i := 30) (oi := { dst := some 115, op := Op.fieldAddr 28 (Operand.tmp 5) 2, type := 0, pos := "laws.go:418", after := #[{ on := 16, ground := Ground.guard }], guard := some (16, true) }) (v := ?_) rfl (by kernel_rfl) (by kernel_rfl) (by kernel_rfl) (fun _ _ _ h => h) (Or.inl ⟨by rfl, ?_⟩) (by assumption) ?_
            rotate_left
            · intro w' hSw; (try dsimp only at hSw); go_simp; try with_reducible rfl
            (try simp only [Act.put, List.setIfInBounds_toArray, List.set_cons_zero, List.set_cons_succ])
            refine wpAnyH_take (i := 31) (oi := { dst := some 116, op := Op.load 2 (Operand.tmp 115), type := 2, pos := "laws.go:418", after := #[{ on := 30, ground := Ground.data }, { on := 16, ground := Ground.guard }], guard := some (16, true) }) (v := ?_) rfl (by kernel_rfl) (by kernel_rfl) (by kernel_rfl) (fun _ _ _ h => h) (Or.inl ⟨by rfl, ?_⟩) (by assumption) ?_
            rotate_left
            · intro w' hSw; (try dsimp only at hSw); go_simp; try with_reducible rfl
            (try simp only [Act.put, List.setIfInBounds_toArray, List.set_cons_zero, List.set_cons_succ])
            refine wpAnyH_ready (rs := [20]) (by kernel_rfl) (by simp) (AllReadyH.cons rfl (fun K hK => ?_) AllReadyH.nil)
            go_simp
            refine (HPi.out _).mono ?_
            rintro e z3 ⟨rfl, hb⟩
            have Yz3 : Hid (Ext wB z3) := (Yz2.out).trans hb
            clear hb
            refine hK.out _ _ (by exact HS21.out _ Yz3.out) (fun hHeldz3 => ?_)
            clear hK K
            refine wpAnyH_take (i := 21) (oi := { dst := some 106, op := Op.field 35 (Operand.tmp 105) 1, type := 2, pos := "laws.go:418", after := #[{ on := 20, ground := Ground.data }, { on := 16, ground := Ground.guard }], guard := some (16, true) }) (v := ?_) rfl (by kernel_rfl) (by kernel_rfl) (by kernel_rfl) (fun _ _ _ h => h) (Or.inl ⟨by rfl, ?_⟩) (by assumption) ?_
            rotate_left
            · intro w' hSw; (try dsimp only at hSw); go_simp; try with_reducible rfl
            (try simp only [Act.put, List.setIfInBounds_toArray, List.set_cons_zero, List.set_cons_succ])
            refine wpAnyH_take (i := 24) (oi := { dst := some 109, op := Op.binOp BinOp.eql 2 (Operand.tmp 106) (Operand.tmp 108) 2, type := 4, pos := "laws.go:418", after := #[{ on := 21, ground := Ground.data }, { on := 23, ground := Ground.data }, { on := 16, ground := Ground.guard }], guard := some (16, true) }) (v := ?_) rfl (by kernel_rfl) (by kernel_rfl) (by kernel_rfl) (fun _ _ _ h => h) (Or.inl ⟨by rfl, ?_⟩) (by assumption) ?_
            rotate_left
            · intro w' hSw; (try dsimp only at hSw); go_simp; try with_reducible rfl
            (try simp only [Act.put, List.setIfInBounds_toArray, List.set_cons_zero, List.set_cons_succ])
            refine wpAnyH_ready (rs := [28]) (by kernel_rfl) (by simp) (AllReadyH.cons rfl (fun K hK => ?_) AllReadyH.nil)
            go_simp
            refine (HPs.out _).mono ?_
            rintro e z4 ⟨rfl, hb⟩
            have Yz4 : Hid (Ext wB z4) := (Yz3.out).trans hb
            clear hb
            refine hK.out _ _ (by exact HS21.out _ Yz4.out) (fun hHeldz4 => ?_)
            clear hK K
            refine wpAnyH_take (i := 29) (oi := { dst := some 114, op := Op.field 35 (Operand.tmp 113) 1, type := 2, pos := "laws.go:418", after := #[{ on := 28, ground := Ground.data }, { on := 16, ground := Ground.guard }], guard := some (16, true) }) (v := ?_) rfl (by kernel_rfl) (by kernel_rfl) (by kernel_rfl) (fun _ _ _ h => h) (Or.inl ⟨by rfl, ?_⟩) (by assumption) ?_
            rotate_left
            · intro w' hSw; (try dsimp only at hSw); go_simp; try with_reducible rfl
            (try simp only [Act.put, List.setIfInBounds_toArray, List.set_cons_zero, List.set_cons_succ])
            refine wpAnyH_take (i := 32) (oi := { dst := some 117, op := Op.binOp BinOp.eql 2 (Operand.tmp 114) (Operand.tmp 116) 2, type := 4, pos := "laws.go:418", after := #[{ on := 29, ground := Ground.data }, { on := 31, ground := Ground.data }, { on := 16, ground := Ground.guard }], guard := some (16, true) }) (v := ?_) rfl (by kernel_rfl) (by kernel_rfl) (by kernel_rfl) (fun _ _ _ h => h) (Or.inl ⟨by rfl, ?_⟩) (by assumption) ?_
            rotate_left
            · intro w' hSw; (try dsimp only at hSw); go_simp; try with_reducible rfl
            (try simp only [Act.put, List.setIfInBounds_toArray, List.set_cons_zero, List.set_cons_succ])
            refine wpAnyH_take (i := 33) (oi := { dst := some 118, op := Op.binOp BinOp.eql 4 (Operand.tmp 109) (Operand.tmp 117) 4, type := 4, pos := "laws.go:418", after := #[{ on := 24, ground := Ground.data }, { on := 32, ground := Ground.data }, { on := 16, ground := Ground.guard }], guard := some (16, true) }) (v := ?_) rfl (by kernel_rfl) (by kernel_rfl) (by kernel_rfl) (fun _ _ _ h => h) (Or.inl ⟨by rfl, ?_⟩) (by assumption) ?_
            rotate_left
            · intro w' hSw; (try dsimp only at hSw); go_simp; try with_reducible rfl
            (try simp only [Act.put, List.setIfInBounds_toArray, List.set_cons_zero, List.set_cons_succ])
            refine wpAnyH_take (i := 34) (oi := { dst := some 119, op := Op.pick (Operand.tmp 101) (Operand.tmp 118) (Operand.const (Value.bool false)), type := 4, pos := "laws.go:418", after := #[{ on := 16, ground := Ground.data }, { on := 33, ground := Ground.data }], guard := none }) (v := ?_) rfl (by kernel_rfl) (by kernel_rfl) (by kernel_rfl) (fun _ _ _ h => h) (Or.inl ⟨by rfl, ?_⟩) (by assumption) ?_
            rotate_left
            · intro w' hSw; (try dsimp only at hSw); go_simp; try with_reducible rfl
            (try simp only [Act.put, List.setIfInBounds_toArray, List.set_cons_zero, List.set_cons_succ])
            refine wpAnyH_take (i := 35) (oi := { dst := some 2, op := Op.assign (Operand.tmp 119), type := 4, pos := "laws.go:418", after := #[{ on := 34, ground := Ground.data }, { on := 28, ground := Ground.chain }, { on := 0, ground := Ground.phase }, { on := 1, ground := Ground.phase }, { on := 2, ground := Ground.phase }, { on := 3, ground := Ground.phase }, { on := 4, ground := Ground.phase }, { on := 5, ground := Ground.phase }, { on := 6, ground := Ground.phase }, { on := 7, ground := Ground.phase }, { on := 8, ground := Ground.phase }, { on := 9, ground := Ground.phase }, { on := 10, ground := Ground.phase }, { on := 11, ground := Ground.phase }, { on := 12, ground := Ground.phase }, { on := 13, ground := Ground.phase }, { on := 14, ground := Ground.phase }, { on := 15, ground := Ground.phase }, { on := 16, ground := Ground.phase }, { on := 17, ground := Ground.phase }, { on := 18, ground := Ground.phase }, { on := 19, ground := Ground.phase }, { on := 20, ground := Ground.phase }, { on := 21, ground := Ground.phase }, { on := 22, ground := Ground.phase }, { on := 23, ground := Ground.phase }, { on := 24, ground := Ground.phase }, { on := 25, ground := Ground.phase }, { on := 26, ground := Ground.phase }, { on := 27, ground := Ground.phase }, { on := 28, ground := Ground.phase }, { on := 29, ground := Ground.phase }, { on := 30, ground := Ground.phase }, { on := 31, ground := Ground.phase }, { on := 32, ground := Ground.phase }, { on := 33, ground := Ground.phase }, { on := 34, ground := Ground.phase }], guard := none }) (v := ?_) rfl (by kernel_rfl) (by kernel_rfl) (by kernel_rfl) (fun _ _ _ h => h) (Or.inl ⟨by rfl, ?_⟩) (by assumption) ?_
            rotate_left
            · intro w' hSw; (try dsimp only at hSw); go_simp; try with_reducible rfl
            (try simp only [Act.put, List.setIfInBounds_toArray, List.set_cons_zero, List.set_cons_succ])
            refine wpAnyH_done (by kernel_rfl) ?_ _
            (try go_wp2)
            go_ret
            exact ⟨ret_bool (by simp), EB.out.trans Yz4.out⟩
      · rw [decide_eq_false hq]
        go_wp2
        skip
        skip
        refine wp_region_held_drew (S := (fun W' : World => W'.cell? ⟨N, 1, none⟩ = some (.int .i64 (2 * f + 1)) ∧ W'.cell? ⟨L, 1, none⟩ = some (.slice a2 rs.length cap2) ∧ W'.cell? ⟨M, 0, none⟩ = some (.int .i64 m.kind) ∧ W'.cell? ⟨M, 1, none⟩ = some (.int .i64 m.view) ∧ W'.cell? ⟨M, 2, none⟩ = some (.int .i64 m.from_) ∧ W'.cell? ⟨M, 3, none⟩ = some (.int .i64 m.slot) ∧ W'.cell? ⟨M, 4, none⟩ = some (.int .i64 m.value) ∧ W'.cell? ⟨M, 5, none⟩ = some (.slice y0 m.certs.length y1) ∧ W'.cell? ⟨M, 6, none⟩ = some (.slice y2 m.refs.length y3))) (by kernel_rfl) (HS21.out _ ((Ext.refl _).drew)) (fun hHeld => ?_)
        refine wpAnyH_take (i := 0) (oi := { dst := some 85, op := Op.fieldAddr 35 (Operand.tmp 7) 1, type := 0, pos := "laws.go:418", after := #[], guard := none }) (v := ?_) rfl (by kernel_rfl) (by kernel_rfl) (by kernel_rfl) (fun _ _ _ h => h) (Or.inl ⟨by rfl, ?_⟩) (by assumption) ?_
        rotate_left
        · intro w' hSw; (try dsimp only at hSw); go_simp; try with_reducible rfl
        (try simp only [Act.put, List.setIfInBounds_toArray, List.set_cons_zero, List.set_cons_succ])
        refine wpAnyH_take (i := 1) (oi := { dst := some 86, op := Op.load 2 (Operand.tmp 85), type := 2, pos := "laws.go:418", after := #[{ on := 0, ground := Ground.data }], guard := none }) (v := ?_) rfl (by kernel_rfl) (by kernel_rfl) (by kernel_rfl) (fun _ _ _ h => h) (Or.inl ⟨by rfl, ?_⟩) (by assumption) ?_
        rotate_left
        · intro w' hSw; (try dsimp only at hSw); go_simp; try with_reducible rfl
        (try simp only [Act.put, List.setIfInBounds_toArray, List.set_cons_zero, List.set_cons_succ])
        refine wpAnyH_take (i := 2) (oi := { dst := some 87, op := Op.move (Operand.tmp 3), type := 2, pos := "laws.go:418", after := #[], guard := none }) (v := ?_) rfl (by kernel_rfl) (by kernel_rfl) (by kernel_rfl) (fun _ _ _ h => h) (Or.inl ⟨by rfl, ?_⟩) (by assumption) ?_
        rotate_left
        · intro w' hSw; (try dsimp only at hSw); go_simp; try with_reducible rfl
        (try simp only [Act.put, List.setIfInBounds_toArray, List.set_cons_zero, List.set_cons_succ])
        refine wpAnyH_take (i := 3) (oi := { dst := some 88, op := Op.binOp BinOp.mul 2 (Operand.const (Value.int IntKind.i64 2)) (Operand.tmp 87) 2, type := 2, pos := "laws.go:418", after := #[{ on := 2, ground := Ground.data }], guard := none }) (v := ?_) rfl (by kernel_rfl) (by kernel_rfl) (by kernel_rfl) (fun _ _ _ h => h) (Or.inl ⟨by rfl, ?_⟩) (by assumption) ?_
        rotate_left
        · intro w' hSw; (try dsimp only at hSw); go_simp; try with_reducible rfl
        (try simp only [Act.put, List.setIfInBounds_toArray, List.set_cons_zero, List.set_cons_succ])
        refine wpAnyH_take (i := 4) (oi := { dst := some 89, op := Op.binOp BinOp.add 2 (Operand.tmp 88) (Operand.const (Value.int IntKind.i64 1)) 2, type := 2, pos := "laws.go:418", after := #[{ on := 3, ground := Ground.data }], guard := none }) (v := ?_) rfl (by kernel_rfl) (by kernel_rfl) (by kernel_rfl) (fun _ _ _ h => h) (Or.inl ⟨by rfl, ?_⟩) (by assumption) ?_
        rotate_left
        · intro w' hSw; (try dsimp only at hSw); go_simp; try with_reducible rfl
        (try simp only [Act.put, List.setIfInBounds_toArray, List.set_cons_zero, List.set_cons_succ])
        refine wpAnyH_take (i := 5) (oi := { dst := some 90, op := Op.binOp BinOp.eql 2 (Operand.tmp 86) (Operand.tmp 89) 2, type := 4, pos := "laws.go:418", after := #[{ on := 1, ground := Ground.data }, { on := 4, ground := Ground.data }], guard := none }) (v := ?_) rfl (by kernel_rfl) (by kernel_rfl) (by kernel_rfl) (fun _ _ _ h => h) (Or.inl ⟨by rfl, ?_⟩) (by assumption) ?_
        rotate_left
        · intro w' hSw; (try dsimp only at hSw); go_simp; try with_reducible rfl
        (try simp only [Act.put, List.setIfInBounds_toArray, List.set_cons_zero, List.set_cons_succ])
        (try rw [P5.out])
        refine wpAnyH_take (i := 6) (oi := { dst := some 91, op := Op.move (Operand.tmp 90), type := 4, pos := "laws.go:418", after := #[{ on := 5, ground := Ground.data }], guard := none }) (v := ?_) rfl (by kernel_rfl) (by kernel_rfl) (by kernel_rfl) (fun _ _ _ h => h) (Or.inl ⟨by rfl, ?_⟩) (by assumption) ?_
        rotate_left
        · intro w' hSw; (try dsimp only at hSw); go_simp; try with_reducible rfl
        (try simp only [Act.put, List.setIfInBounds_toArray, List.set_cons_zero, List.set_cons_succ])
        refine wpAnyH_take (i := 7) (oi := { dst := some 92, op := Op.fieldAddr 32 (Operand.tmp 6) 1, type := 0, pos := "laws.go:418", after := #[{ on := 6, ground := Ground.guard }], guard := some (6, true) }) (v := ?_) rfl (by kernel_rfl) (by kernel_rfl) (by kernel_rfl) (fun _ _ _ h => h) (Or.inl ⟨by rfl, ?_⟩) (by assumption) ?_
        rotate_left
        · intro w' hSw; (try dsimp only at hSw); go_simp; try with_reducible rfl
        (try simp only [Act.put, List.setIfInBounds_toArray, List.set_cons_zero, List.set_cons_succ])
        refine wpAnyH_take (i := 8) (oi := { dst := some 93, op := Op.load 26 (Operand.tmp 92), type := 26, pos := "laws.go:418", after := #[{ on := 7, ground := Ground.data }, { on := 6, ground := Ground.guard }], guard := some (6, true) }) (v := ?_) rfl (by kernel_rfl) (by kernel_rfl) (by kernel_rfl) (fun _ _ _ h => h) (Or.inl ⟨by rfl, ?_⟩) (by assumption) ?_
        rotate_left
        · intro w' hSw; (try dsimp only at hSw); go_simp; try with_reducible rfl
        (try simp only [Act.put, List.setIfInBounds_toArray, List.set_cons_zero, List.set_cons_succ])
        refine wpAnyH_take (i := 9) (oi := { dst := some 94, op := Op.move (Operand.tmp 3), type := 2, pos := "laws.go:418", after := #[{ on := 6, ground := Ground.guard }], guard := some (6, true) }) (v := ?_) rfl (by kernel_rfl) (by kernel_rfl) (by kernel_rfl) (fun _ _ _ h => h) (Or.inl ⟨by rfl, ?_⟩) (by assumption) ?_
        rotate_left
        · intro w' hSw; (try dsimp only at hSw); go_simp; try with_reducible rfl
        (try simp only [Act.put, List.setIfInBounds_toArray, List.set_cons_zero, List.set_cons_succ])
        refine wpAnyH_take (i := 10) (oi := { dst := some 95, op := Op.move (Operand.tmp 4), type := 24, pos := "laws.go:418", after := #[{ on := 6, ground := Ground.guard }], guard := some (6, true) }) (v := ?_) rfl (by kernel_rfl) (by kernel_rfl) (by kernel_rfl) (fun _ _ _ h => h) (Or.inl ⟨by rfl, ?_⟩) (by assumption) ?_
        rotate_left
        · intro w' hSw; (try dsimp only at hSw); go_simp; try with_reducible rfl
        (try simp only [Act.put, List.setIfInBounds_toArray, List.set_cons_zero, List.set_cons_succ])
        refine wpAnyH_take (i := 11) (oi := { dst := some 96, op := Op.load 28 (Operand.tmp 5), type := 28, pos := "laws.go:418", after := #[{ on := 6, ground := Ground.guard }], guard := some (6, true) }) (v := ?_) rfl (by kernel_rfl) (by kernel_rfl) (by kernel_rfl) (fun _ _ _ h => h) (Or.inl ⟨by rfl, ?_⟩) (by assumption) ?_
        rotate_left
        · intro w' hSw; (try dsimp only at hSw); go_simp; try with_reducible rfl
        (try simp only [Act.put, List.setIfInBounds_toArray, List.set_cons_zero, List.set_cons_succ])
        refine wpAnyH_ready (rs := [12]) (by kernel_rfl) (by simp) (AllReadyH.cons rfl (fun K hK => ?_) AllReadyH.nil)
        go_simp
        refine (HSp.out _ (MB.out.ext ((Ext.refl wB).drew)) (LB.out.ext ((Ext.refl wB).drew))).mono ?_
        rintro e z5 ⟨v9, g9, rfl, -, hO9, hb⟩
        obtain ⟨a9, c9, rfl, -⟩ := id hO9
        unfold Led.jr
        have Yz5 : Hid (Ext wB z5) := (((Ext.refl wB).drew)).trans hb
        have O9 : Hid (ISlice z5 (.slice a9 rs.length c9) rs) := hO9.slice
        clear hb hO9
        refine hK.out _ _ (by exact HS21.out _ Yz5.out) (fun hHeldz5 => ?_)
        clear hK K
        refine wpAnyH_take (i := 13) (oi := { dst := some 98, op := Op.field 32 (Operand.tmp 97) 1, type := 26, pos := "laws.go:418", after := #[{ on := 12, ground := Ground.data }, { on := 6, ground := Ground.guard }], guard := some (6, true) }) (v := ?_) rfl (by kernel_rfl) (by kernel_rfl) (by kernel_rfl) (fun _ _ _ h => h) (Or.inl ⟨by rfl, ?_⟩) (by assumption) ?_
        rotate_left
        · intro w' hSw; (try dsimp only at hSw); go_simp; try with_reducible rfl
        (try simp only [Act.put, List.setIfInBounds_toArray, List.set_cons_zero, List.set_cons_succ])
        refine wpAnyH_ready (rs := [14]) (by kernel_rfl) (by simp) (AllReadyH.cons rfl (fun K hK => ?_) AllReadyH.nil)
        go_simp
        refine (HNu.out _ _ _ (OB.out.ext Yz5.out) O9.out).mono ?_
        rintro e z6 ⟨rfl, hb⟩
        have Yz6 : Hid (Ext wB z6) := (Yz5.out).trans hb
        clear hb
        refine hK.out _ _ (by exact HS21.out _ Yz6.out) (fun hHeldz6 => ?_)
        clear hK K
        refine wpAnyH_take (i := 15) (oi := { dst := some 100, op := Op.pick (Operand.tmp 91) (Operand.tmp 99) (Operand.const (Value.bool false)), type := 4, pos := "laws.go:418", after := #[{ on := 6, ground := Ground.data }, { on := 14, ground := Ground.data }], guard := none }) (v := ?_) rfl (by kernel_rfl) (by kernel_rfl) (by kernel_rfl) (fun _ _ _ h => h) (Or.inl ⟨by rfl, ?_⟩) (by assumption) ?_
        rotate_left
        · intro w' hSw; (try dsimp only at hSw); go_simp; try with_reducible rfl
        (try simp only [Act.put, List.setIfInBounds_toArray, List.set_cons_zero, List.set_cons_succ])
        refine wpAnyH_take (i := 16) (oi := { dst := some 101, op := Op.move (Operand.tmp 100), type := 4, pos := "laws.go:418", after := #[{ on := 15, ground := Ground.data }, { on := 14, ground := Ground.chain }], guard := none }) (v := ?_) rfl (by kernel_rfl) (by kernel_rfl) (by kernel_rfl) (fun _ _ _ h => h) (Or.inl ⟨by rfl, ?_⟩) (by assumption) ?_
        rotate_left
        · intro w' hSw; (try dsimp only at hSw); go_simp; try with_reducible rfl
        (try simp only [Act.put, List.setIfInBounds_toArray, List.set_cons_zero, List.set_cons_succ])
        refine wpAnyH_take (i := 17) (oi := { dst := some 102, op := Op.move (Operand.tmp 3), type := 2, pos := "laws.go:418", after := #[{ on := 16, ground := Ground.guard }], guard := some (16, true) }) (v := ?_) rfl (by kernel_rfl) (by kernel_rfl) (by kernel_rfl) (fun _ _ _ h => h) (Or.inl ⟨by rfl, ?_⟩) (by assumption) ?_
        rotate_left
        · intro w' hSw; (try dsimp only at hSw); go_simp; try with_reducible rfl
        (try simp only [Act.put, List.setIfInBounds_toArray, List.set_cons_zero, List.set_cons_succ])
        refine wpAnyH_take (i := 18) (oi := { dst := some 103, op := Op.fieldAddr 28 (Operand.tmp 5) 1, type := 0, pos := "laws.go:418", after := #[{ on := 16, ground := Ground.guard }], guard := some (16, true) }) (v := ?_) rfl (by kernel_rfl) (by kernel_rfl) (by kernel_rfl) (fun _ _ _ h => h) (Or.inl ⟨by rfl, ?_⟩) (by assumption) ?_
        rotate_left
        · intro w' hSw; (try dsimp only at hSw); go_simp; try with_reducible rfl
        (try simp only [Act.put, List.setIfInBounds_toArray, List.set_cons_zero, List.set_cons_succ])
        refine wpAnyH_take (i := 19) (oi := { dst := some 104, op := Op.load 2 (Operand.tmp 103), type := 2, pos := "laws.go:418", after := #[{ on := 18, ground := Ground.data }, { on := 16, ground := Ground.guard }], guard := some (16, true) }) (v := ?_) rfl (by kernel_rfl) (by kernel_rfl) (by kernel_rfl) (fun _ _ _ h => h) (Or.inl ⟨by rfl, ?_⟩) (by assumption) ?_
        rotate_left
        · intro w' hSw; (try dsimp only at hSw); go_simp; try with_reducible rfl
        (try simp only [Act.put, List.setIfInBounds_toArray, List.set_cons_zero, List.set_cons_succ])
        refine wpAnyH_take (i := 22) (oi := { dst := some 107, op := Op.fieldAddr 28 (Operand.tmp 5) 2, type := 0, pos := "laws.go:418", after := #[{ on := 16, ground := Ground.guard }], guard := some (16, true) }) (v := ?_) rfl (by kernel_rfl) (by kernel_rfl) (by kernel_rfl) (fun _ _ _ h => h) (Or.inl ⟨by rfl, ?_⟩) (by assumption) ?_
        rotate_left
        · intro w' hSw; (try dsimp only at hSw); go_simp; try with_reducible rfl
        (try simp only [Act.put, List.setIfInBounds_toArray, List.set_cons_zero, List.set_cons_succ])
        refine wpAnyH_take (i := 23) (oi := { dst := some 108, op := Op.load 2 (Operand.tmp 107), type := 2, pos := "laws.go:418", after := #[{ on := 22, ground := Ground.data }, { on := 16, ground := Ground.guard }], guard := some (16, true) }) (v := ?_) rfl (by kernel_rfl) (by kernel_rfl) (by kernel_rfl) (fun _ _ _ h => h) (Or.inl ⟨by rfl, ?_⟩) (by assumption) ?_
        rotate_left
        · intro w' hSw; (try dsimp only at hSw); go_simp; try with_reducible rfl
        (try simp only [Act.put, List.setIfInBounds_toArray, List.set_cons_zero, List.set_cons_succ])
        refine wpAnyH_take (i := 25) (oi := { dst := some 110, op := Op.move (Operand.tmp 3), type := 2, pos := "laws.go:418", after := #[{ on := 16, ground := Ground.guard }], guard := some (16, true) }) (v := ?_) rfl (by kernel_rfl) (by kernel_rfl) (by kernel_rfl) (fun _ _ _ h => h) (Or.inl ⟨by rfl, ?_⟩) (by assumption) ?_
        rotate_left
        · intro w' hSw; (try dsimp only at hSw); go_simp; try with_reducible rfl
        (try simp only [Act.put, List.setIfInBounds_toArray, List.set_cons_zero, List.set_cons_succ])
        refine wpAnyH_take (i := 26) (oi := { dst := some 111, op := Op.fieldAddr 28 (Operand.tmp 5) 1, type := 0, pos := "laws.go:418", after := #[{ on := 16, ground := Ground.guard }], guard := some (16, true) }) (v := ?_) rfl (by kernel_rfl) (by kernel_rfl) (by kernel_rfl) (fun _ _ _ h => h) (Or.inl ⟨by rfl, ?_⟩) (by assumption) ?_
        rotate_left
        · intro w' hSw; (try dsimp only at hSw); go_simp; try with_reducible rfl
        (try simp only [Act.put, List.setIfInBounds_toArray, List.set_cons_zero, List.set_cons_succ])
        refine wpAnyH_take (i := 27) (oi := { dst := some 112, op := Op.load 2 (Operand.tmp 111), type := 2, pos := "laws.go:418", after := #[{ on := 26, ground := Ground.data }, { on := 16, ground := Ground.guard }], guard := some (16, true) }) (v := ?_) rfl (by kernel_rfl) (by kernel_rfl) (by kernel_rfl) (fun _ _ _ h => h) (Or.inl ⟨by rfl, ?_⟩) (by assumption) ?_
        rotate_left
        · intro w' hSw; (try dsimp only at hSw); go_simp; try with_reducible rfl
        (try simp only [Act.put, List.setIfInBounds_toArray, List.set_cons_zero, List.set_cons_succ])
        refine wpAnyH_take (i := 30) (oi := { dst := some 115, op := Op.fieldAddr 28 (Operand.tmp 5) 2, type := 0, pos := "laws.go:418", after := #[{ on := 16, ground := Ground.guard }], guard := some (16, true) }) (v := ?_) rfl (by kernel_rfl) (by kernel_rfl) (by kernel_rfl) (fun _ _ _ h => h) (Or.inl ⟨by rfl, ?_⟩) (by assumption) ?_
        rotate_left
        · intro w' hSw; (try dsimp only at hSw); go_simp; try with_reducible rfl
        (try simp only [Act.put, List.setIfInBounds_toArray, List.set_cons_zero, List.set_cons_succ])
        refine wpAnyH_take (i := 31) (oi := { dst := some 116, op := Op.load 2 (Operand.tmp 115), type := 2, pos := "laws.go:418", after := #[{ on := 30, ground := Ground.data }, { on := 16, ground := Ground.guard }], guard := some (16, true) }) (v := ?_) rfl (by kernel_rfl) (by kernel_rfl) (by kernel_rfl) (fun _ _ _ h => h) (Or.inl ⟨by rfl, ?_⟩) (by assumption) ?_
        rotate_left
        · intro w' hSw; (try dsimp only at hSw); go_simp; try with_reducible rfl
        (try simp only [Act.put, List.setIfInBounds_toArray, List.set_cons_zero, List.set_cons_succ])
        refine wpAnyH_ready (rs := [20]) (by kernel_rfl) (by simp) (AllReadyH.cons rfl (fun K hK => ?_) AllReadyH.nil)
        go_simp
        refine (HPi.out _).mono ?_
        rintro e z7 ⟨rfl, hb⟩
        have Yz7 : Hid (Ext wB z7) := (Yz6.out).trans hb
        clear hb
        refine hK.out _ _ (by exact HS21.out _ Yz7.out) (fun hHeldz7 => ?_)
        clear hK K
        refine wpAnyH_take (i := 21) (oi := { dst := some 106, op := Op.field 35 (Operand.tmp 105) 1, type := 2, pos := "laws.go:418", after := #[{ on := 20, ground := Ground.data }, { on := 16, ground := Ground.guard }], guard := some (16, true) }) (v := ?_) rfl (by kernel_rfl) (by kernel_rfl) (by kernel_rfl) (fun _ _ _ h => h) (Or.inl ⟨by rfl, ?_⟩) (by assumption) ?_
        rotate_left
        · intro w' hSw; (try dsimp only at hSw); go_simp; try with_reducible rfl
        (try simp only [Act.put, List.setIfInBounds_toArray, List.set_cons_zero, List.set_cons_succ])
        refine wpAnyH_take (i := 24) (oi := { dst := some 109, op := Op.binOp BinOp.eql 2 (Operand.tmp 106) (Operand.tmp 108) 2, type := 4, pos := "laws.go:418", after := #[{ on := 21, ground := Ground.data }, { on := 23, ground := Ground.data }, { on := 16, ground := Ground.guard }], guard := some (16, true) }) (v := ?_) rfl (by kernel_rfl) (by kernel_rfl) (by kernel_rfl) (fun _ _ _ h => h) (Or.inl ⟨by rfl, ?_⟩) (by assumption) ?_
        rotate_left
        · intro w' hSw; (try dsimp only at hSw); go_simp; try with_reducible rfl
        (try simp only [Act.put, List.setIfInBounds_toArray, List.set_cons_zero, List.set_cons_succ])
        refine wpAnyH_ready (rs := [28]) (by kernel_rfl) (by simp) (AllReadyH.cons rfl (fun K hK => ?_) AllReadyH.nil)
        go_simp
        refine (HPs.out _).mono ?_
        rintro e z8 ⟨rfl, hb⟩
        have Yz8 : Hid (Ext wB z8) := (Yz7.out).trans hb
        clear hb
        refine hK.out _ _ (by exact HS21.out _ Yz8.out) (fun hHeldz8 => ?_)
        clear hK K
        refine wpAnyH_take (i := 29) (oi := { dst := some 114, op := Op.field 35 (Operand.tmp 113) 1, type := 2, pos := "laws.go:418", after := #[{ on := 28, ground := Ground.data }, { on := 16, ground := Ground.guard }], guard := some (16, true) }) (v := ?_) rfl (by kernel_rfl) (by kernel_rfl) (by kernel_rfl) (fun _ _ _ h => h) (Or.inl ⟨by rfl, ?_⟩) (by assumption) ?_
        rotate_left
        · intro w' hSw; (try dsimp only at hSw); go_simp; try with_reducible rfl
        (try simp only [Act.put, List.setIfInBounds_toArray, List.set_cons_zero, List.set_cons_succ])
        refine wpAnyH_take (i := 32) (oi := { dst := some 117, op := Op.binOp BinOp.eql 2 (Operand.tmp 114) (Operand.tmp 116) 2, type := 4, pos := "laws.go:418", after := #[{ on := 29, ground := Ground.data }, { on := 31, ground := Ground.data }, { on := 16, ground := Ground.guard }], guard := some (16, true) }) (v := ?_) rfl (by kernel_rfl) (by kernel_rfl) (by kernel_rfl) (fun _ _ _ h => h) (Or.inl ⟨by rfl, ?_⟩) (by assumption) ?_
        rotate_left
        · intro w' hSw; (try dsimp only at hSw); go_simp; try with_reducible rfl
        (try simp only [Act.put, List.setIfInBounds_toArray, List.set_cons_zero, List.set_cons_succ])
        refine wpAnyH_take (i := 33) (oi := { dst := some 118, op := Op.binOp BinOp.eql 4 (Operand.tmp 109) (Operand.tmp 117) 4, type := 4, pos := "laws.go:418", after := #[{ on := 24, ground := Ground.data }, { on := 32, ground := Ground.data }, { on := 16, ground := Ground.guard }], guard := some (16, true) }) (v := ?_) rfl (by kernel_rfl) (by kernel_rfl) (by kernel_rfl) (fun _ _ _ h => h) (Or.inl ⟨by rfl, ?_⟩) (by assumption) ?_
        rotate_left
        · intro w' hSw; (try dsimp only at hSw); go_simp; try with_reducible rfl
        (try simp only [Act.put, List.setIfInBounds_toArray, List.set_cons_zero, List.set_cons_succ])
        refine wpAnyH_take (i := 34) (oi := { dst := some 119, op := Op.pick (Operand.tmp 101) (Operand.tmp 118) (Operand.const (Value.bool false)), type := 4, pos := "laws.go:418", after := #[{ on := 16, ground := Ground.data }, { on := 33, ground := Ground.data }], guard := none }) (v := ?_) rfl (by kernel_rfl) (by kernel_rfl) (by kernel_rfl) (fun _ _ _ h => h) (Or.inl ⟨by rfl, ?_⟩) (by assumption) ?_
        rotate_left
        · intro w' hSw; (try dsimp only at hSw); go_simp; try with_reducible rfl
        (try simp only [Act.put, List.setIfInBounds_toArray, List.set_cons_zero, List.set_cons_succ])
        refine wpAnyH_take (i := 35) (oi := { dst := some 2, op := Op.assign (Operand.tmp 119), type := 4, pos := "laws.go:418", after := #[{ on := 34, ground := Ground.data }, { on := 28, ground := Ground.chain }, { on := 0, ground := Ground.phase }, { on := 1, ground := Ground.phase }, { on := 2, ground := Ground.phase }, { on := 3, ground := Ground.phase }, { on := 4, ground := Ground.phase }, { on := 5, ground := Ground.phase }, { on := 6, ground := Ground.phase }, { on := 7, ground := Ground.phase }, { on := 8, ground := Ground.phase }, { on := 9, ground := Ground.phase }, { on := 10, ground := Ground.phase }, { on := 11, ground := Ground.phase }, { on := 12, ground := Ground.phase }, { on := 13, ground := Ground.phase }, { on := 14, ground := Ground.phase }, { on := 15, ground := Ground.phase }, { on := 16, ground := Ground.phase }, { on := 17, ground := Ground.phase }, { on := 18, ground := Ground.phase }, { on := 19, ground := Ground.phase }, { on := 20, ground := Ground.phase }, { on := 21, ground := Ground.phase }, { on := 22, ground := Ground.phase }, { on := 23, ground := Ground.phase }, { on := 24, ground := Ground.phase }, { on := 25, ground := Ground.phase }, { on := 26, ground := Ground.phase }, { on := 27, ground := Ground.phase }, { on := 28, ground := Ground.phase }, { on := 29, ground := Ground.phase }, { on := 30, ground := Ground.phase }, { on := 31, ground := Ground.phase }, { on := 32, ground := Ground.phase }, { on := 33, ground := Ground.phase }, { on := 34, ground := Ground.phase }], guard := none }) (v := ?_) rfl (by kernel_rfl) (by kernel_rfl) (by kernel_rfl) (fun _ _ _ h => h) (Or.inl ⟨by rfl, ?_⟩) (by assumption) ?_
        rotate_left
        · intro w' hSw; (try dsimp only at hSw); go_simp; try with_reducible rfl
        (try simp only [Act.put, List.setIfInBounds_toArray, List.set_cons_zero, List.set_cons_succ])
        refine wpAnyH_done (by kernel_rfl) ?_ _
        (try go_wp2)
        go_ret
        exact ⟨ret_bool (by simp), EB.out.trans Yz8.out⟩
    · have g2 : (m.kind == 2) = false := by simpa using hk2
      clear HRt hk2
      by_cases hq : 2 * f + 1 ≤ (rs.length : Int)
      · have HCn : Hid (f < (Nst.cnt rs (f + 1) (2 * f + 1).toNat : Int)) := HUp.out hq
        go_wp2
        skip
        go_loopw [10, 11] (fun cv iv wr => ∃ (j : Nat), j ≤ (2 * f + 1).toNat ∧ iv = .int .i64 (f + 1 + (j : Int)) ∧ cv = .int .i64 ((Nst.cnt rs (f + 1) j : Nat) : Int) ∧ Hid (wr = wB)) (fun _ iv _ => (3 * f + 2 - intOf iv).toNat)
        case atStart => exact ⟨0, Nat.zero_le _, by simp, rfl, rfl⟩
        case round =>
          obtain ⟨j, hj, rfl, rfl, HWB⟩ := hrel
          have hww : wB = wr := HWB.out.symm
          subst hww
          have hcl := Nst.cnt_le rs (f + 1) j
          by_cases hlt : (j : Int) < 2 * f + 1
          · have hle : f + 1 + (j : Int) ≤ 3 * f + 1 := by omega
            obtain ⟨sN, sL, -⟩ := HS21.out _ (Ext.refl _)
            go_wp2_with fail
            refine (HHas.out _ _ OB.out).mono ?_
            rintro e w9 ⟨rfl, hw9⟩
            rw [hw9]
            clear hw9 w9
            by_cases hm9 : f + 1 + (j : Int) ∈ rs
            · rw [decide_eq_true hm9]
              have HK : Hid (Nst.cnt rs (f + 1) (j + 1) = Nst.cnt rs (f + 1) j + 1) := Nst.cnt_yes hm9
              clear hm9
              go_wp2
              exact ⟨⟨j + 1, by omega, by exact congrArg (Value.int .i64) (by omega), by rw [HK.out]; exact congrArg (Value.int .i64) (by omega), by first | exact rfl | exact (trivial : True)⟩, by simp [intOf]; omega⟩
            · rw [decide_eq_false hm9]
              have HK : Hid (Nst.cnt rs (f + 1) (j + 1) = Nst.cnt rs (f + 1) j) := Nst.cnt_no hm9
              clear hm9
              go_wp2
              exact ⟨⟨j + 1, by omega, by exact congrArg (Value.int .i64) (by omega), by rw [HK.out], by first | exact rfl | exact (trivial : True)⟩, by simp [intOf]; omega⟩
          · have hje : j = (2 * f + 1).toNat := by omega
            have hgt : ¬ f + 1 + (j : Int) ≤ 3 * f + 1 := by omega
            have hcn : ¬ ((Nst.cnt rs (f + 1) j : Nat) : Int) ≤ f := by rw [hje]; have := HCn.out; omega
            clear hje
            go_wp2
            skip
            refine wp_region_held_drew (S := (fun W' : World => W'.cell? ⟨N, 1, none⟩ = some (.int .i64 (2 * f + 1)) ∧ W'.cell? ⟨L, 1, none⟩ = some (.slice a2 rs.length cap2) ∧ W'.cell? ⟨M, 0, none⟩ = some (.int .i64 m.kind) ∧ W'.cell? ⟨M, 1, none⟩ = some (.int .i64 m.view) ∧ W'.cell? ⟨M, 2, none⟩ = some (.int .i64 m.from_) ∧ W'.cell? ⟨M, 3, none⟩ = some (.int .i64 m.slot) ∧ W'.cell? ⟨M, 4, none⟩ = some (.int .i64 m.value) ∧ W'.cell? ⟨M, 5, none⟩ = some (.slice y0 m.certs.length y1) ∧ W'.cell? ⟨M, 6, none⟩ = some (.slice y2 m.refs.length y3))) (by kernel_rfl) (HS21.out _ ((Ext.refl _).drew)) (fun hHeld => ?_)
            refine wpAnyH_take (i := 0) (oi := { dst := some 85, op := Op.fieldAddr 35 (Operand.tmp 7) 1, type := 0, pos := "laws.go:418", after := #[], guard := none }) (v := ?_) rfl (by kernel_rfl) (by kernel_rfl) (by kernel_rfl) (fun _ _ _ h => h) (Or.inl ⟨by rfl, ?_⟩) (by assumption) ?_
            rotate_left
            · intro w' hSw; (try dsimp only at hSw); go_simp; try with_reducible rfl
            (try simp only [Act.put, List.setIfInBounds_toArray, List.set_cons_zero, List.set_cons_succ])
            refine wpAnyH_take (i := 1) (oi := { dst := some 86, op := Op.load 2 (Operand.tmp 85), type := 2, pos := "laws.go:418", after := #[{ on := 0, ground := Ground.data }], guard := none }) (v := ?_) rfl (by kernel_rfl) (by kernel_rfl) (by kernel_rfl) (fun _ _ _ h => h) (Or.inl ⟨by rfl, ?_⟩) (by assumption) ?_
            rotate_left
            · intro w' hSw; (try dsimp only at hSw); go_simp; try with_reducible rfl
            (try simp only [Act.put, List.setIfInBounds_toArray, List.set_cons_zero, List.set_cons_succ])
            refine wpAnyH_take (i := 2) (oi := { dst := some 87, op := Op.move (Operand.tmp 3), type := 2, pos := "laws.go:418", after := #[], guard := none }) (v := ?_) rfl (by kernel_rfl) (by kernel_rfl) (by kernel_rfl) (fun _ _ _ h => h) (Or.inl ⟨by rfl, ?_⟩) (by assumption) ?_
            rotate_left
            · intro w' hSw; (try dsimp only at hSw); go_simp; try with_reducible rfl
            (try simp only [Act.put, List.setIfInBounds_toArray, List.set_cons_zero, List.set_cons_succ])
            refine wpAnyH_take (i := 3) (oi := { dst := some 88, op := Op.binOp BinOp.mul 2 (Operand.const (Value.int IntKind.i64 2)) (Operand.tmp 87) 2, type := 2, pos := "laws.go:418", after := #[{ on := 2, ground := Ground.data }], guard := none }) (v := ?_) rfl (by kernel_rfl) (by kernel_rfl) (by kernel_rfl) (fun _ _ _ h => h) (Or.inl ⟨by rfl, ?_⟩) (by assumption) ?_
            rotate_left
            · intro w' hSw; (try dsimp only at hSw); go_simp; try with_reducible rfl
            (try simp only [Act.put, List.setIfInBounds_toArray, List.set_cons_zero, List.set_cons_succ])
            refine wpAnyH_take (i := 4) (oi := { dst := some 89, op := Op.binOp BinOp.add 2 (Operand.tmp 88) (Operand.const (Value.int IntKind.i64 1)) 2, type := 2, pos := "laws.go:418", after := #[{ on := 3, ground := Ground.data }], guard := none }) (v := ?_) rfl (by kernel_rfl) (by kernel_rfl) (by kernel_rfl) (fun _ _ _ h => h) (Or.inl ⟨by rfl, ?_⟩) (by assumption) ?_
            rotate_left
            · intro w' hSw; (try dsimp only at hSw); go_simp; try with_reducible rfl
            (try simp only [Act.put, List.setIfInBounds_toArray, List.set_cons_zero, List.set_cons_succ])
            refine wpAnyH_take (i := 5) (oi := { dst := some 90, op := Op.binOp BinOp.eql 2 (Operand.tmp 86) (Operand.tmp 89) 2, type := 4, pos := "laws.go:418", after := #[{ on := 1, ground := Ground.data }, { on := 4, ground := Ground.data }], guard := none }) (v := ?_) rfl (by kernel_rfl) (by kernel_rfl) (by kernel_rfl) (fun _ _ _ h => h) (Or.inl ⟨by rfl, ?_⟩) (by assumption) ?_
            rotate_left
            · intro w' hSw; (try dsimp only at hSw); go_simp; try with_reducible rfl
            (try simp only [Act.put, List.setIfInBounds_toArray, List.set_cons_zero, List.set_cons_succ])
            (try rw [P5.out])
            refine wpAnyH_take (i := 6) (oi := { dst := some 91, op := Op.move (Operand.tmp 90), type := 4, pos := "laws.go:418", after := #[{ on := 5, ground := Ground.data }], guard := none }) (v := ?_) rfl (by kernel_rfl) (by kernel_rfl) (by kernel_rfl) (fun _ _ _ h => h) (Or.inl ⟨by rfl, ?_⟩) (by assumption) ?_
            rotate_left
            · intro w' hSw; (try dsimp only at hSw); go_simp; try with_reducible rfl
            (try simp only [Act.put, List.setIfInBounds_toArray, List.set_cons_zero, List.set_cons_succ])
            refine wpAnyH_take (i := 7) (oi := { dst := some 92, op := Op.fieldAddr 32 (Operand.tmp 6) 1, type := 0, pos := "laws.go:418", after := #[{ on := 6, ground := Ground.guard }], guard := some (6, true) }) (v := ?_) rfl (by kernel_rfl) (by kernel_rfl) (by kernel_rfl) (fun _ _ _ h => h) (Or.inl ⟨by rfl, ?_⟩) (by assumption) ?_
            rotate_left
            · intro w' hSw; (try dsimp only at hSw); go_simp; try with_reducible rfl
            (try simp only [Act.put, List.setIfInBounds_toArray, List.set_cons_zero, List.set_cons_succ])
            refine wpAnyH_take (i := 8) (oi := { dst := some 93, op := Op.load 26 (Operand.tmp 92), type := 26, pos := "laws.go:418", after := #[{ on := 7, ground := Ground.data }, { on := 6, ground := Ground.guard }], guard := some (6, true) }) (v := ?_) rfl (by kernel_rfl) (by kernel_rfl) (by kernel_rfl) (fun _ _ _ h => h) (Or.inl ⟨by rfl, ?_⟩) (by assumption) ?_
            rotate_left
            · intro w' hSw; (try dsimp only at hSw); go_simp; try with_reducible rfl
            (try simp only [Act.put, List.setIfInBounds_toArray, List.set_cons_zero, List.set_cons_succ])
            refine wpAnyH_take (i := 9) (oi := { dst := some 94, op := Op.move (Operand.tmp 3), type := 2, pos := "laws.go:418", after := #[{ on := 6, ground := Ground.guard }], guard := some (6, true) }) (v := ?_) rfl (by kernel_rfl) (by kernel_rfl) (by kernel_rfl) (fun _ _ _ h => h) (Or.inl ⟨by rfl, ?_⟩) (by assumption) ?_
            rotate_left
            · intro w' hSw; (try dsimp only at hSw); go_simp; try with_reducible rfl
            (try simp only [Act.put, List.setIfInBounds_toArray, List.set_cons_zero, List.set_cons_succ])
            refine wpAnyH_take (i := 10) (oi := { dst := some 95, op := Op.move (Operand.tmp 4), type := 24, pos := "laws.go:418", after := #[{ on := 6, ground := Ground.guard }], guard := some (6, true) }) (v := ?_) rfl (by kernel_rfl) (by kernel_rfl) (by kernel_rfl) (fun _ _ _ h => h) (Or.inl ⟨by rfl, ?_⟩) (by assumption) ?_
            rotate_left
            · intro w' hSw; (try dsimp only at hSw); go_simp; try with_reducible rfl
            (try simp only [Act.put, List.setIfInBounds_toArray, List.set_cons_zero, List.set_cons_succ])
            refine wpAnyH_take (i := 11) (oi := { dst := some 96, op := Op.load 28 (Operand.tmp 5), type := 28, pos := "laws.go:418", after := #[{ on := 6, ground := Ground.guard }], guard := some (6, true) }) (v := ?_) rfl (by kernel_rfl) (by kernel_rfl) (by kernel_rfl) (fun _ _ _ h => h) (Or.inl ⟨by rfl, ?_⟩) (by assumption) ?_
            rotate_left
            · intro w' hSw; (try dsimp only at hSw); go_simp; try with_reducible rfl
            (try simp only [Act.put, List.setIfInBounds_toArray, List.set_cons_zero, List.set_cons_succ])
            refine wpAnyH_ready (rs := [12]) (by kernel_rfl) (by simp) (AllReadyH.cons rfl (fun K hK => ?_) AllReadyH.nil)
            go_simp
            refine (HSp.out _ (MB.out.ext ((Ext.refl wB).drew)) (LB.out.ext ((Ext.refl wB).drew))).mono ?_
            rintro e z9 ⟨v9, g9, rfl, -, hO9, hb⟩
            obtain ⟨a9, c9, rfl, -⟩ := id hO9
            unfold Led.jr
            have Yz9 : Hid (Ext wB z9) := (((Ext.refl wB).drew)).trans hb
            have O9 : Hid (ISlice z9 (.slice a9 rs.length c9) rs) := hO9.slice
            clear hb hO9
            refine hK.out _ _ (by exact HS21.out _ Yz9.out) (fun hHeldz9 => ?_)
            clear hK K
            refine wpAnyH_take (i := 13) (oi := { dst := some 98, op := Op.field 32 (Operand.tmp 97) 1, type := 26, pos := "laws.go:418", after := #[{ on := 12, ground := Ground.data }, { on := 6, ground := Ground.guard }], guard := some (6, true) }) (v := ?_) rfl (by kernel_rfl) (by kernel_rfl) (by kernel_rfl) (fun _ _ _ h => h) (Or.inl ⟨by rfl, ?_⟩) (by assumption) ?_
            rotate_left
            · intro w' hSw; (try dsimp only at hSw); go_simp; try with_reducible rfl
            (try simp only [Act.put, List.setIfInBounds_toArray, List.set_cons_zero, List.set_cons_succ])
            refine wpAnyH_ready (rs := [14]) (by kernel_rfl) (by simp) (AllReadyH.cons rfl (fun K hK => ?_) AllReadyH.nil)
            go_simp
            refine (HNu.out _ _ _ (OB.out.ext Yz9.out) O9.out).mono ?_
            rintro e z10 ⟨rfl, hb⟩
            have Yz10 : Hid (Ext wB z10) := (Yz9.out).trans hb
            clear hb
            refine hK.out _ _ (by exact HS21.out _ Yz10.out) (fun hHeldz10 => ?_)
            clear hK K
            refine wpAnyH_take (i := 15) (oi := { dst := some 100, op := Op.pick (Operand.tmp 91) (Operand.tmp 99) (Operand.const (Value.bool false)), type := 4, pos := "laws.go:418", after := #[{ on := 6, ground := Ground.data }, { on := 14, ground := Ground.data }], guard := none }) (v := ?_) rfl (by kernel_rfl) (by kernel_rfl) (by kernel_rfl) (fun _ _ _ h => h) (Or.inl ⟨by rfl, ?_⟩) (by assumption) ?_
            rotate_left
            · intro w' hSw; (try dsimp only at hSw); go_simp; try with_reducible rfl
            (try simp only [Act.put, List.setIfInBounds_toArray, List.set_cons_zero, List.set_cons_succ])
            refine wpAnyH_take (i := 16) (oi := { dst := some 101, op := Op.move (Operand.tmp 100), type := 4, pos := "laws.go:418", after := #[{ on := 15, ground := Ground.data }, { on := 14, ground := Ground.chain }], guard := none }) (v := ?_) rfl (by kernel_rfl) (by kernel_rfl) (by kernel_rfl) (fun _ _ _ h => h) (Or.inl ⟨by rfl, ?_⟩) (by assumption) ?_
            rotate_left
            · intro w' hSw; (try dsimp only at hSw); go_simp; try with_reducible rfl
            (try simp only [Act.put, List.setIfInBounds_toArray, List.set_cons_zero, List.set_cons_succ])
            refine wpAnyH_take (i := 17) (oi := { dst := some 102, op := Op.move (Operand.tmp 3), type := 2, pos := "laws.go:418", after := #[{ on := 16, ground := Ground.guard }], guard := some (16, true) }) (v := ?_) rfl (by kernel_rfl) (by kernel_rfl) (by kernel_rfl) (fun _ _ _ h => h) (Or.inl ⟨by rfl, ?_⟩) (by assumption) ?_
            rotate_left
            · intro w' hSw; (try dsimp only at hSw); go_simp; try with_reducible rfl
            (try simp only [Act.put, List.setIfInBounds_toArray, List.set_cons_zero, List.set_cons_succ])
            refine wpAnyH_take (i := 18) (oi := { dst := some 103, op := Op.fieldAddr 28 (Operand.tmp 5) 1, type := 0, pos := "laws.go:418", after := #[{ on := 16, ground := Ground.guard }], guard := some (16, true) }) (v := ?_) rfl (by kernel_rfl) (by kernel_rfl) (by kernel_rfl) (fun _ _ _ h => h) (Or.inl ⟨by rfl, ?_⟩) (by assumption) ?_
            rotate_left
            · intro w' hSw; (try dsimp only at hSw); go_simp; try with_reducible rfl
            (try simp only [Act.put, List.setIfInBounds_toArray, List.set_cons_zero, List.set_cons_succ])
            refine wpAnyH_take (i := 19) (oi := { dst := some 104, op := Op.load 2 (Operand.tmp 103), type := 2, pos := "laws.go:418", after := #[{ on := 18, ground := Ground.data }, { on := 16, ground := Ground.guard }], guard := some (16, true) }) (v := ?_) rfl (by kernel_rfl) (by kernel_rfl) (by kernel_rfl) (fun _ _ _ h => h) (Or.inl ⟨by rfl, ?_⟩) (by assumption) ?_
            rotate_left
            · intro w' hSw; (try dsimp only at hSw); go_simp; try with_reducible rfl
            (try simp only [Act.put, List.setIfInBounds_toArray, List.set_cons_zero, List.set_cons_succ])
            refine wpAnyH_take (i := 22) (oi := { dst := some 107, op := Op.fieldAddr 28 (Operand.tmp 5) 2, type := 0, pos := "laws.go:418", after := #[{ on := 16, ground := Ground.guard }], guard := some (16, true) }) (v := ?_) rfl (by kernel_rfl) (by kernel_rfl) (by kernel_rfl) (fun _ _ _ h => h) (Or.inl ⟨by rfl, ?_⟩) (by assumption) ?_
            rotate_left
            · intro w' hSw; (try dsimp only at hSw); go_simp; try with_reducible rfl
            (try simp only [Act.put, List.setIfInBounds_toArray, List.set_cons_zero, List.set_cons_succ])
            refine wpAnyH_take (i := 23) (oi := { dst := some 108, op := Op.load 2 (Operand.tmp 107), type := 2, pos := "laws.go:418", after := #[{ on := 22, ground := Ground.data }, { on := 16, ground := Ground.guard }], guard := some (16, true) }) (v := ?_) rfl (by kernel_rfl) (by kernel_rfl) (by kernel_rfl) (fun _ _ _ h => h) (Or.inl ⟨by rfl, ?_⟩) (by assumption) ?_
            rotate_left
            · intro w' hSw; (try dsimp only at hSw); go_simp; try with_reducible rfl
            (try simp only [Act.put, List.setIfInBounds_toArray, List.set_cons_zero, List.set_cons_succ])
            refine wpAnyH_take (i := 25) (oi := { dst := some 110, op := Op.move (Operand.tmp 3), type := 2, pos := "laws.go:418", after := #[{ on := 16, ground := Ground.guard }], guard := some (16, true) }) (v := ?_) rfl (by kernel_rfl) (by kernel_rfl) (by kernel_rfl) (fun _ _ _ h => h) (Or.inl ⟨by rfl, ?_⟩) (by assumption) ?_
            rotate_left
            · intro w' hSw; (try dsimp only at hSw); go_simp; try with_reducible rfl
            (try simp only [Act.put, List.setIfInBounds_toArray, List.set_cons_zero, List.set_cons_succ])
            refine wpAnyH_take (i := 26) (oi := { dst := some 111, op := Op.fieldAddr 28 (Operand.tmp 5) 1, type := 0, pos := "laws.go:418", after := #[{ on := 16, ground := Ground.guard }], guard := some (16, true) }) (v := ?_) rfl (by kernel_rfl) (by kernel_rfl) (by kernel_rfl) (fun _ _ _ h => h) (Or.inl ⟨by rfl, ?_⟩) (by assumption) ?_
            rotate_left
            · intro w' hSw; (try dsimp only at hSw); go_simp; try with_reducible rfl
            (try simp only [Act.put, List.setIfInBounds_toArray, List.set_cons_zero, List.set_cons_succ])
            refine wpAnyH_take (i := 27) (oi := { dst := some 112, op := Op.load 2 (Operand.tmp 111), type := 2, pos := "laws.go:418", after := #[{ on := 26, ground := Ground.data }, { on := 16, ground := Ground.guard }], guard := some (16, true) }) (v := ?_) rfl (by kernel_rfl) (by kernel_rfl) (by kernel_rfl) (fun _ _ _ h => h) (Or.inl ⟨by rfl, ?_⟩) (by assumption) ?_
            rotate_left
            · intro w' hSw; (try dsimp only at hSw); go_simp; try with_reducible rfl
            (try simp only [Act.put, List.setIfInBounds_toArray, List.set_cons_zero, List.set_cons_succ])
            refine wpAnyH_take (i := 30) (oi := { dst := some 115, op := Op.fieldAddr 28 (Operand.tmp 5) 2, type := 0, pos := "laws.go:418", after := #[{ on := 16, ground := Ground.guard }], guard := some (16, true) }) (v := ?_) rfl (by kernel_rfl) (by kernel_rfl) (by kernel_rfl) (fun _ _ _ h => h) (Or.inl ⟨by rfl, ?_⟩) (by assumption) ?_
            rotate_left
            · intro w' hSw; (try dsimp only at hSw); go_simp; try with_reducible rfl
            (try simp only [Act.put, List.setIfInBounds_toArray, List.set_cons_zero, List.set_cons_succ])
            refine wpAnyH_take (i := 31) (oi := { dst := some 116, op := Op.load 2 (Operand.tmp 115), type := 2, pos := "laws.go:418", after := #[{ on := 30, ground := Ground.data }, { on := 16, ground := Ground.guard }], guard := some (16, true) }) (v := ?_) rfl (by kernel_rfl) (by kernel_rfl) (by kernel_rfl) (fun _ _ _ h => h) (Or.inl ⟨by rfl, ?_⟩) (by assumption) ?_
            rotate_left
            · intro w' hSw; (try dsimp only at hSw); go_simp; try with_reducible rfl
            (try simp only [Act.put, List.setIfInBounds_toArray, List.set_cons_zero, List.set_cons_succ])
            refine wpAnyH_ready (rs := [20]) (by kernel_rfl) (by simp) (AllReadyH.cons rfl (fun K hK => ?_) AllReadyH.nil)
            go_simp
            refine (HPi.out _).mono ?_
            rintro e z11 ⟨rfl, hb⟩
            have Yz11 : Hid (Ext wB z11) := (Yz10.out).trans hb
            clear hb
            refine hK.out _ _ (by exact HS21.out _ Yz11.out) (fun hHeldz11 => ?_)
            clear hK K
            refine wpAnyH_take (i := 21) (oi := { dst := some 106, op := Op.field 35 (Operand.tmp 105) 1, type := 2, pos := "laws.go:418", after := #[{ on := 20, ground := Ground.data }, { on := 16, ground := Ground.guard }], guard := some (16, true) }) (v := ?_) rfl (by kernel_rfl) (by kernel_rfl) (by kernel_rfl) (fun _ _ _ h => h) (Or.inl ⟨by rfl, ?_⟩) (by assumption) ?_
            rotate_left
            · intro w' hSw; (try dsimp only at hSw); go_simp; try with_reducible rfl
            (try simp only [Act.put, List.setIfInBounds_toArray, List.set_cons_zero, List.set_cons_succ])
            refine wpAnyH_take (i := 24) (oi := { dst := some 109, op := Op.binOp BinOp.eql 2 (Operand.tmp 106) (Operand.tmp 108) 2, type := 4, pos := "laws.go:418", after := #[{ on := 21, ground := Ground.data }, { on := 23, ground := Ground.data }, { on := 16, ground := Ground.guard }], guard := some (16, true) }) (v := ?_) rfl (by kernel_rfl) (by kernel_rfl) (by kernel_rfl) (fun _ _ _ h => h) (Or.inl ⟨by rfl, ?_⟩) (by assumption) ?_
            rotate_left
            · intro w' hSw; (try dsimp only at hSw); go_simp; try with_reducible rfl
            (try simp only [Act.put, List.setIfInBounds_toArray, List.set_cons_zero, List.set_cons_succ])
            refine wpAnyH_ready (rs := [28]) (by kernel_rfl) (by simp) (AllReadyH.cons rfl (fun K hK => ?_) AllReadyH.nil)
            go_simp
            refine (HPs.out _).mono ?_
            rintro e z12 ⟨rfl, hb⟩
            have Yz12 : Hid (Ext wB z12) := (Yz11.out).trans hb
            clear hb
            refine hK.out _ _ (by exact HS21.out _ Yz12.out) (fun hHeldz12 => ?_)
            clear hK K
            refine wpAnyH_take (i := 29) (oi := { dst := some 114, op := Op.field 35 (Operand.tmp 113) 1, type := 2, pos := "laws.go:418", after := #[{ on := 28, ground := Ground.data }, { on := 16, ground := Ground.guard }], guard := some (16, true) }) (v := ?_) rfl (by kernel_rfl) (by kernel_rfl) (by kernel_rfl) (fun _ _ _ h => h) (Or.inl ⟨by rfl, ?_⟩) (by assumption) ?_
            rotate_left
            · intro w' hSw; (try dsimp only at hSw); go_simp; try with_reducible rfl
            (try simp only [Act.put, List.setIfInBounds_toArray, List.set_cons_zero, List.set_cons_succ])
            refine wpAnyH_take (i := 32) (oi := { dst := some 117, op := Op.binOp BinOp.eql 2 (Operand.tmp 114) (Operand.tmp 116) 2, type := 4, pos := "laws.go:418", after := #[{ on := 29, ground := Ground.data }, { on := 31, ground := Ground.data }, { on := 16, ground := Ground.guard }], guard := some (16, true) }) (v := ?_) rfl (by kernel_rfl) (by kernel_rfl) (by kernel_rfl) (fun _ _ _ h => h) (Or.inl ⟨by rfl, ?_⟩) (by assumption) ?_
            rotate_left
            · intro w' hSw; (try dsimp only at hSw); go_simp; try with_reducible rfl
            (try simp only [Act.put, List.setIfInBounds_toArray, List.set_cons_zero, List.set_cons_succ])
            refine wpAnyH_take (i := 33) (oi := { dst := some 118, op := Op.binOp BinOp.eql 4 (Operand.tmp 109) (Operand.tmp 117) 4, type := 4, pos := "laws.go:418", after := #[{ on := 24, ground := Ground.data }, { on := 32, ground := Ground.data }, { on := 16, ground := Ground.guard }], guard := some (16, true) }) (v := ?_) rfl (by kernel_rfl) (by kernel_rfl) (by kernel_rfl) (fun _ _ _ h => h) (Or.inl ⟨by rfl, ?_⟩) (by assumption) ?_
            rotate_left
            · intro w' hSw; (try dsimp only at hSw); go_simp; try with_reducible rfl
            (try simp only [Act.put, List.setIfInBounds_toArray, List.set_cons_zero, List.set_cons_succ])
            refine wpAnyH_take (i := 34) (oi := { dst := some 119, op := Op.pick (Operand.tmp 101) (Operand.tmp 118) (Operand.const (Value.bool false)), type := 4, pos := "laws.go:418", after := #[{ on := 16, ground := Ground.data }, { on := 33, ground := Ground.data }], guard := none }) (v := ?_) rfl (by kernel_rfl) (by kernel_rfl) (by kernel_rfl) (fun _ _ _ h => h) (Or.inl ⟨by rfl, ?_⟩) (by assumption) ?_
            rotate_left
            · intro w' hSw; (try dsimp only at hSw); go_simp; try with_reducible rfl
            (try simp only [Act.put, List.setIfInBounds_toArray, List.set_cons_zero, List.set_cons_succ])
            refine wpAnyH_take (i := 35) (oi := { dst := some 2, op := Op.assign (Operand.tmp 119), type := 4, pos := "laws.go:418", after := #[{ on := 34, ground := Ground.data }, { on := 28, ground := Ground.chain }, { on := 0, ground := Ground.phase }, { on := 1, ground := Ground.phase }, { on := 2, ground := Ground.phase }, { on := 3, ground := Ground.phase }, { on := 4, ground := Ground.phase }, { on := 5, ground := Ground.phase }, { on := 6, ground := Ground.phase }, { on := 7, ground := Ground.phase }, { on := 8, ground := Ground.phase }, { on := 9, ground := Ground.phase }, { on := 10, ground := Ground.phase }, { on := 11, ground := Ground.phase }, { on := 12, ground := Ground.phase }, { on := 13, ground := Ground.phase }, { on := 14, ground := Ground.phase }, { on := 15, ground := Ground.phase }, { on := 16, ground := Ground.phase }, { on := 17, ground := Ground.phase }, { on := 18, ground := Ground.phase }, { on := 19, ground := Ground.phase }, { on := 20, ground := Ground.phase }, { on := 21, ground := Ground.phase }, { on := 22, ground := Ground.phase }, { on := 23, ground := Ground.phase }, { on := 24, ground := Ground.phase }, { on := 25, ground := Ground.phase }, { on := 26, ground := Ground.phase }, { on := 27, ground := Ground.phase }, { on := 28, ground := Ground.phase }, { on := 29, ground := Ground.phase }, { on := 30, ground := Ground.phase }, { on := 31, ground := Ground.phase }, { on := 32, ground := Ground.phase }, { on := 33, ground := Ground.phase }, { on := 34, ground := Ground.phase }], guard := none }) (v := ?_) rfl (by kernel_rfl) (by kernel_rfl) (by kernel_rfl) (fun _ _ _ h => h) (Or.inl ⟨by rfl, ?_⟩) (by assumption) ?_
            rotate_left
            · intro w' hSw; (try dsimp only at hSw); go_simp; try with_reducible rfl
            (try simp only [Act.put, List.setIfInBounds_toArray, List.set_cons_zero, List.set_cons_succ])
            refine wpAnyH_done (by kernel_rfl) ?_ _
            (try go_wp2)
            go_ret
            exact ⟨ret_bool (by simp), EB.out.trans Yz12.out⟩
      · go_wp2
        skip
        skip
        refine wp_region_held_drew (S := (fun W' : World => W'.cell? ⟨N, 1, none⟩ = some (.int .i64 (2 * f + 1)) ∧ W'.cell? ⟨L, 1, none⟩ = some (.slice a2 rs.length cap2) ∧ W'.cell? ⟨M, 0, none⟩ = some (.int .i64 m.kind) ∧ W'.cell? ⟨M, 1, none⟩ = some (.int .i64 m.view) ∧ W'.cell? ⟨M, 2, none⟩ = some (.int .i64 m.from_) ∧ W'.cell? ⟨M, 3, none⟩ = some (.int .i64 m.slot) ∧ W'.cell? ⟨M, 4, none⟩ = some (.int .i64 m.value) ∧ W'.cell? ⟨M, 5, none⟩ = some (.slice y0 m.certs.length y1) ∧ W'.cell? ⟨M, 6, none⟩ = some (.slice y2 m.refs.length y3))) (by kernel_rfl) (HS21.out _ ((Ext.refl _).drew)) (fun hHeld => ?_)
        refine wpAnyH_take (i := 0) (oi := { dst := some 85, op := Op.fieldAddr 35 (Operand.tmp 7) 1, type := 0, pos := "laws.go:418", after := #[], guard := none }) (v := ?_) rfl (by kernel_rfl) (by kernel_rfl) (by kernel_rfl) (fun _ _ _ h => h) (Or.inl ⟨by rfl, ?_⟩) (by assumption) ?_
        rotate_left
        · intro w' hSw; (try dsimp only at hSw); go_simp; try with_reducible rfl
        (try simp only [Act.put, List.setIfInBounds_toArray, List.set_cons_zero, List.set_cons_succ])
        refine wpAnyH_take (i := 1) (oi := { dst := some 86, op := Op.load 2 (Operand.tmp 85), type := 2, pos := "laws.go:418", after := #[{ on := 0, ground := Ground.data }], guard := none }) (v := ?_) rfl (by kernel_rfl) (by kernel_rfl) (by kernel_rfl) (fun _ _ _ h => h) (Or.inl ⟨by rfl, ?_⟩) (by assumption) ?_
        rotate_left
        · intro w' hSw; (try dsimp only at hSw); go_simp; try with_reducible rfl
        (try simp only [Act.put, List.setIfInBounds_toArray, List.set_cons_zero, List.set_cons_succ])
        refine wpAnyH_take (i := 2) (oi := { dst := some 87, op := Op.move (Operand.tmp 3), type := 2, pos := "laws.go:418", after := #[], guard := none }) (v := ?_) rfl (by kernel_rfl) (by kernel_rfl) (by kernel_rfl) (fun _ _ _ h => h) (Or.inl ⟨by rfl, ?_⟩) (by assumption) ?_
        rotate_left
        · intro w' hSw; (try dsimp only at hSw); go_simp; try with_reducible rfl
        (try simp only [Act.put, List.setIfInBounds_toArray, List.set_cons_zero, List.set_cons_succ])
        refine wpAnyH_take (i := 3) (oi := { dst := some 88, op := Op.binOp BinOp.mul 2 (Operand.const (Value.int IntKind.i64 2)) (Operand.tmp 87) 2, type := 2, pos := "laws.go:418", after := #[{ on := 2, ground := Ground.data }], guard := none }) (v := ?_) rfl (by kernel_rfl) (by kernel_rfl) (by kernel_rfl) (fun _ _ _ h => h) (Or.inl ⟨by rfl, ?_⟩) (by assumption) ?_
        rotate_left
        · intro w' hSw; (try dsimp only at hSw); go_simp; try with_reducible rfl
        (try simp only [Act.put, List.setIfInBounds_toArray, List.set_cons_zero, List.set_cons_succ])
        refine wpAnyH_take (i := 4) (oi := { dst := some 89, op := Op.binOp BinOp.add 2 (Operand.tmp 88) (Operand.const (Value.int IntKind.i64 1)) 2, type := 2, pos := "laws.go:418", after := #[{ on := 3, ground := Ground.data }], guard := none }) (v := ?_) rfl (by kernel_rfl) (by kernel_rfl) (by kernel_rfl) (fun _ _ _ h => h) (Or.inl ⟨by rfl, ?_⟩) (by assumption) ?_
        rotate_left
        · intro w' hSw; (try dsimp only at hSw); go_simp; try with_reducible rfl
        (try simp only [Act.put, List.setIfInBounds_toArray, List.set_cons_zero, List.set_cons_succ])
        refine wpAnyH_take (i := 5) (oi := { dst := some 90, op := Op.binOp BinOp.eql 2 (Operand.tmp 86) (Operand.tmp 89) 2, type := 4, pos := "laws.go:418", after := #[{ on := 1, ground := Ground.data }, { on := 4, ground := Ground.data }], guard := none }) (v := ?_) rfl (by kernel_rfl) (by kernel_rfl) (by kernel_rfl) (fun _ _ _ h => h) (Or.inl ⟨by rfl, ?_⟩) (by assumption) ?_
        rotate_left
        · intro w' hSw; (try dsimp only at hSw); go_simp; try with_reducible rfl
        (try simp only [Act.put, List.setIfInBounds_toArray, List.set_cons_zero, List.set_cons_succ])
        (try rw [P5.out])
        refine wpAnyH_take (i := 6) (oi := { dst := some 91, op := Op.move (Operand.tmp 90), type := 4, pos := "laws.go:418", after := #[{ on := 5, ground := Ground.data }], guard := none }) (v := ?_) rfl (by kernel_rfl) (by kernel_rfl) (by kernel_rfl) (fun _ _ _ h => h) (Or.inl ⟨by rfl, ?_⟩) (by assumption) ?_
        rotate_left
        · intro w' hSw; (try dsimp only at hSw); go_simp; try with_reducible rfl
        (try simp only [Act.put, List.setIfInBounds_toArray, List.set_cons_zero, List.set_cons_succ])
        refine wpAnyH_take (i := 7) (oi := { dst := some 92, op := Op.fieldAddr 32 (Operand.tmp 6) 1, type := 0, pos := "laws.go:418", after := #[{ on := 6, ground := Ground.guard }], guard := some (6, true) }) (v := ?_) rfl (by kernel_rfl) (by kernel_rfl) (by kernel_rfl) (fun _ _ _ h => h) (Or.inl ⟨by rfl, ?_⟩) (by assumption) ?_
        rotate_left
        · intro w' hSw; (try dsimp only at hSw); go_simp; try with_reducible rfl
        (try simp only [Act.put, List.setIfInBounds_toArray, List.set_cons_zero, List.set_cons_succ])
        refine wpAnyH_take (i := 8) (oi := { dst := some 93, op := Op.load 26 (Operand.tmp 92), type := 26, pos := "laws.go:418", after := #[{ on := 7, ground := Ground.data }, { on := 6, ground := Ground.guard }], guard := some (6, true) }) (v := ?_) rfl (by kernel_rfl) (by kernel_rfl) (by kernel_rfl) (fun _ _ _ h => h) (Or.inl ⟨by rfl, ?_⟩) (by assumption) ?_
        rotate_left
        · intro w' hSw; (try dsimp only at hSw); go_simp; try with_reducible rfl
        (try simp only [Act.put, List.setIfInBounds_toArray, List.set_cons_zero, List.set_cons_succ])
        refine wpAnyH_take (i := 9) (oi := { dst := some 94, op := Op.move (Operand.tmp 3), type := 2, pos := "laws.go:418", after := #[{ on := 6, ground := Ground.guard }], guard := some (6, true) }) (v := ?_) rfl (by kernel_rfl) (by kernel_rfl) (by kernel_rfl) (fun _ _ _ h => h) (Or.inl ⟨by rfl, ?_⟩) (by assumption) ?_
        rotate_left
        · intro w' hSw; (try dsimp only at hSw); go_simp; try with_reducible rfl
        (try simp only [Act.put, List.setIfInBounds_toArray, List.set_cons_zero, List.set_cons_succ])
        refine wpAnyH_take (i := 10) (oi := { dst := some 95, op := Op.move (Operand.tmp 4), type := 24, pos := "laws.go:418", after := #[{ on := 6, ground := Ground.guard }], guard := some (6, true) }) (v := ?_) rfl (by kernel_rfl) (by kernel_rfl) (by kernel_rfl) (fun _ _ _ h => h) (Or.inl ⟨by rfl, ?_⟩) (by assumption) ?_
        rotate_left
        · intro w' hSw; (try dsimp only at hSw); go_simp; try with_reducible rfl
        (try simp only [Act.put, List.setIfInBounds_toArray, List.set_cons_zero, List.set_cons_succ])
        refine wpAnyH_take (i := 11) (oi := { dst := some 96, op := Op.load 28 (Operand.tmp 5), type := 28, pos := "laws.go:418", after := #[{ on := 6, ground := Ground.guard }], guard := some (6, true) }) (v := ?_) rfl (by kernel_rfl) (by kernel_rfl) (by kernel_rfl) (fun _ _ _ h => h) (Or.inl ⟨by rfl, ?_⟩) (by assumption) ?_
        rotate_left
        · intro w' hSw; (try dsimp only at hSw); go_simp; try with_reducible rfl
        (try simp only [Act.put, List.setIfInBounds_toArray, List.set_cons_zero, List.set_cons_succ])
        refine wpAnyH_ready (rs := [12]) (by kernel_rfl) (by simp) (AllReadyH.cons rfl (fun K hK => ?_) AllReadyH.nil)
        go_simp
        refine (HSp.out _ (MB.out.ext ((Ext.refl wB).drew)) (LB.out.ext ((Ext.refl wB).drew))).mono ?_
        rintro e z13 ⟨v9, g9, rfl, -, hO9, hb⟩
        obtain ⟨a9, c9, rfl, -⟩ := id hO9
        unfold Led.jr
        have Yz13 : Hid (Ext wB z13) := (((Ext.refl wB).drew)).trans hb
        have O9 : Hid (ISlice z13 (.slice a9 rs.length c9) rs) := hO9.slice
        clear hb hO9
        refine hK.out _ _ (by exact HS21.out _ Yz13.out) (fun hHeldz13 => ?_)
        clear hK K
        refine wpAnyH_take (i := 13) (oi := { dst := some 98, op := Op.field 32 (Operand.tmp 97) 1, type := 26, pos := "laws.go:418", after := #[{ on := 12, ground := Ground.data }, { on := 6, ground := Ground.guard }], guard := some (6, true) }) (v := ?_) rfl (by kernel_rfl) (by kernel_rfl) (by kernel_rfl) (fun _ _ _ h => h) (Or.inl ⟨by rfl, ?_⟩) (by assumption) ?_
        rotate_left
        · intro w' hSw; (try dsimp only at hSw); go_simp; try with_reducible rfl
        (try simp only [Act.put, List.setIfInBounds_toArray, List.set_cons_zero, List.set_cons_succ])
        refine wpAnyH_ready (rs := [14]) (by kernel_rfl) (by simp) (AllReadyH.cons rfl (fun K hK => ?_) AllReadyH.nil)
        go_simp
        refine (HNu.out _ _ _ (OB.out.ext Yz13.out) O9.out).mono ?_
        rintro e z14 ⟨rfl, hb⟩
        have Yz14 : Hid (Ext wB z14) := (Yz13.out).trans hb
        clear hb
        refine hK.out _ _ (by exact HS21.out _ Yz14.out) (fun hHeldz14 => ?_)
        clear hK K
        refine wpAnyH_take (i := 15) (oi := { dst := some 100, op := Op.pick (Operand.tmp 91) (Operand.tmp 99) (Operand.const (Value.bool false)), type := 4, pos := "laws.go:418", after := #[{ on := 6, ground := Ground.data }, { on := 14, ground := Ground.data }], guard := none }) (v := ?_) rfl (by kernel_rfl) (by kernel_rfl) (by kernel_rfl) (fun _ _ _ h => h) (Or.inl ⟨by rfl, ?_⟩) (by assumption) ?_
        rotate_left
        · intro w' hSw; (try dsimp only at hSw); go_simp; try with_reducible rfl
        (try simp only [Act.put, List.setIfInBounds_toArray, List.set_cons_zero, List.set_cons_succ])
        refine wpAnyH_take (i := 16) (oi := { dst := some 101, op := Op.move (Operand.tmp 100), type := 4, pos := "laws.go:418", after := #[{ on := 15, ground := Ground.data }, { on := 14, ground := Ground.chain }], guard := none }) (v := ?_) rfl (by kernel_rfl) (by kernel_rfl) (by kernel_rfl) (fun _ _ _ h => h) (Or.inl ⟨by rfl, ?_⟩) (by assumption) ?_
        rotate_left
        · intro w' hSw; (try dsimp only at hSw); go_simp; try with_reducible rfl
        (try simp only [Act.put, List.setIfInBounds_toArray, List.set_cons_zero, List.set_cons_succ])
        refine wpAnyH_take (i := 17) (oi := { dst := some 102, op := Op.move (Operand.tmp 3), type := 2, pos := "laws.go:418", after := #[{ on := 16, ground := Ground.guard }], guard := some (16, true) }) (v := ?_) rfl (by kernel_rfl) (by kernel_rfl) (by kernel_rfl) (fun _ _ _ h => h) (Or.inl ⟨by rfl, ?_⟩) (by assumption) ?_
        rotate_left
        · intro w' hSw; (try dsimp only at hSw); go_simp; try with_reducible rfl
        (try simp only [Act.put, List.setIfInBounds_toArray, List.set_cons_zero, List.set_cons_succ])
        refine wpAnyH_take (i := 18) (oi := { dst := some 103, op := Op.fieldAddr 28 (Operand.tmp 5) 1, type := 0, pos := "laws.go:418", after := #[{ on := 16, ground := Ground.guard }], guard := some (16, true) }) (v := ?_) rfl (by kernel_rfl) (by kernel_rfl) (by kernel_rfl) (fun _ _ _ h => h) (Or.inl ⟨by rfl, ?_⟩) (by assumption) ?_
        rotate_left
        · intro w' hSw; (try dsimp only at hSw); go_simp; try with_reducible rfl
        (try simp only [Act.put, List.setIfInBounds_toArray, List.set_cons_zero, List.set_cons_succ])
        refine wpAnyH_take (i := 19) (oi := { dst := some 104, op := Op.load 2 (Operand.tmp 103), type := 2, pos := "laws.go:418", after := #[{ on := 18, ground := Ground.data }, { on := 16, ground := Ground.guard }], guard := some (16, true) }) (v := ?_) rfl (by kernel_rfl) (by kernel_rfl) (by kernel_rfl) (fun _ _ _ h => h) (Or.inl ⟨by rfl, ?_⟩) (by assumption) ?_
        rotate_left
        · intro w' hSw; (try dsimp only at hSw); go_simp; try with_reducible rfl
        (try simp only [Act.put, List.setIfInBounds_toArray, List.set_cons_zero, List.set_cons_succ])
        refine wpAnyH_take (i := 22) (oi := { dst := some 107, op := Op.fieldAddr 28 (Operand.tmp 5) 2, type := 0, pos := "laws.go:418", after := #[{ on := 16, ground := Ground.guard }], guard := some (16, true) }) (v := ?_) rfl (by kernel_rfl) (by kernel_rfl) (by kernel_rfl) (fun _ _ _ h => h) (Or.inl ⟨by rfl, ?_⟩) (by assumption) ?_
        rotate_left
        · intro w' hSw; (try dsimp only at hSw); go_simp; try with_reducible rfl
        (try simp only [Act.put, List.setIfInBounds_toArray, List.set_cons_zero, List.set_cons_succ])
        refine wpAnyH_take (i := 23) (oi := { dst := some 108, op := Op.load 2 (Operand.tmp 107), type := 2, pos := "laws.go:418", after := #[{ on := 22, ground := Ground.data }, { on := 16, ground := Ground.guard }], guard := some (16, true) }) (v := ?_) rfl (by kernel_rfl) (by kernel_rfl) (by kernel_rfl) (fun _ _ _ h => h) (Or.inl ⟨by rfl, ?_⟩) (by assumption) ?_
        rotate_left
        · intro w' hSw; (try dsimp only at hSw); go_simp; try with_reducible rfl
        (try simp only [Act.put, List.setIfInBounds_toArray, List.set_cons_zero, List.set_cons_succ])
        refine wpAnyH_take (i := 25) (oi := { dst := some 110, op := Op.move (Operand.tmp 3), type := 2, pos := "laws.go:418", after := #[{ on := 16, ground := Ground.guard }], guard := some (16, true) }) (v := ?_) rfl (by kernel_rfl) (by kernel_rfl) (by kernel_rfl) (fun _ _ _ h => h) (Or.inl ⟨by rfl, ?_⟩) (by assumption) ?_
        rotate_left
        · intro w' hSw; (try dsimp only at hSw); go_simp; try with_reducible rfl
        (try simp only [Act.put, List.setIfInBounds_toArray, List.set_cons_zero, List.set_cons_succ])
        refine wpAnyH_take (i := 26) (oi := { dst := some 111, op := Op.fieldAddr 28 (Operand.tmp 5) 1, type := 0, pos := "laws.go:418", after := #[{ on := 16, ground := Ground.guard }], guard := some (16, true) }) (v := ?_) rfl (by kernel_rfl) (by kernel_rfl) (by kernel_rfl) (fun _ _ _ h => h) (Or.inl ⟨by rfl, ?_⟩) (by assumption) ?_
        rotate_left
        · intro w' hSw; (try dsimp only at hSw); go_simp; try with_reducible rfl
        (try simp only [Act.put, List.setIfInBounds_toArray, List.set_cons_zero, List.set_cons_succ])
        refine wpAnyH_take (i := 27) (oi := { dst := some 112, op := Op.load 2 (Operand.tmp 111), type := 2, pos := "laws.go:418", after := #[{ on := 26, ground := Ground.data }, { on := 16, ground := Ground.guard }], guard := some (16, true) }) (v := ?_) rfl (by kernel_rfl) (by kernel_rfl) (by kernel_rfl) (fun _ _ _ h => h) (Or.inl ⟨by rfl, ?_⟩) (by assumption) ?_
        rotate_left
        · intro w' hSw; (try dsimp only at hSw); go_simp; try with_reducible rfl
        (try simp only [Act.put, List.setIfInBounds_toArray, List.set_cons_zero, List.set_cons_succ])
        refine wpAnyH_take (i := 30) (oi := { dst := some 115, op := Op.fieldAddr 28 (Operand.tmp 5) 2, type := 0, pos := "laws.go:418", after := #[{ on := 16, ground := Ground.guard }], guard := some (16, true) }) (v := ?_) rfl (by kernel_rfl) (by kernel_rfl) (by kernel_rfl) (fun _ _ _ h => h) (Or.inl ⟨by rfl, ?_⟩) (by assumption) ?_
        rotate_left
        · intro w' hSw; (try dsimp only at hSw); go_simp; try with_reducible rfl
        (try simp only [Act.put, List.setIfInBounds_toArray, List.set_cons_zero, List.set_cons_succ])
        refine wpAnyH_take (i := 31) (oi := { dst := some 116, op := Op.load 2 (Operand.tmp 115), type := 2, pos := "laws.go:418", after := #[{ on := 30, ground := Ground.data }, { on := 16, ground := Ground.guard }], guard := some (16, true) }) (v := ?_) rfl (by kernel_rfl) (by kernel_rfl) (by kernel_rfl) (fun _ _ _ h => h) (Or.inl ⟨by rfl, ?_⟩) (by assumption) ?_
        rotate_left
        · intro w' hSw; (try dsimp only at hSw); go_simp; try with_reducible rfl
        (try simp only [Act.put, List.setIfInBounds_toArray, List.set_cons_zero, List.set_cons_succ])
        refine wpAnyH_ready (rs := [20]) (by kernel_rfl) (by simp) (AllReadyH.cons rfl (fun K hK => ?_) AllReadyH.nil)
        go_simp
        refine (HPi.out _).mono ?_
        rintro e z15 ⟨rfl, hb⟩
        have Yz15 : Hid (Ext wB z15) := (Yz14.out).trans hb
        clear hb
        refine hK.out _ _ (by exact HS21.out _ Yz15.out) (fun hHeldz15 => ?_)
        clear hK K
        refine wpAnyH_take (i := 21) (oi := { dst := some 106, op := Op.field 35 (Operand.tmp 105) 1, type := 2, pos := "laws.go:418", after := #[{ on := 20, ground := Ground.data }, { on := 16, ground := Ground.guard }], guard := some (16, true) }) (v := ?_) rfl (by kernel_rfl) (by kernel_rfl) (by kernel_rfl) (fun _ _ _ h => h) (Or.inl ⟨by rfl, ?_⟩) (by assumption) ?_
        rotate_left
        · intro w' hSw; (try dsimp only at hSw); go_simp; try with_reducible rfl
        (try simp only [Act.put, List.setIfInBounds_toArray, List.set_cons_zero, List.set_cons_succ])
        refine wpAnyH_take (i := 24) (oi := { dst := some 109, op := Op.binOp BinOp.eql 2 (Operand.tmp 106) (Operand.tmp 108) 2, type := 4, pos := "laws.go:418", after := #[{ on := 21, ground := Ground.data }, { on := 23, ground := Ground.data }, { on := 16, ground := Ground.guard }], guard := some (16, true) }) (v := ?_) rfl (by kernel_rfl) (by kernel_rfl) (by kernel_rfl) (fun _ _ _ h => h) (Or.inl ⟨by rfl, ?_⟩) (by assumption) ?_
        rotate_left
        · intro w' hSw; (try dsimp only at hSw); go_simp; try with_reducible rfl
        (try simp only [Act.put, List.setIfInBounds_toArray, List.set_cons_zero, List.set_cons_succ])
        refine wpAnyH_ready (rs := [28]) (by kernel_rfl) (by simp) (AllReadyH.cons rfl (fun K hK => ?_) AllReadyH.nil)
        go_simp
        refine (HPs.out _).mono ?_
        rintro e z16 ⟨rfl, hb⟩
        have Yz16 : Hid (Ext wB z16) := (Yz15.out).trans hb
        clear hb
        refine hK.out _ _ (by exact HS21.out _ Yz16.out) (fun hHeldz16 => ?_)
        clear hK K
        refine wpAnyH_take (i := 29) (oi := { dst := some 114, op := Op.field 35 (Operand.tmp 113) 1, type := 2, pos := "laws.go:418", after := #[{ on := 28, ground := Ground.data }, { on := 16, ground := Ground.guard }], guard := some (16, true) }) (v := ?_) rfl (by kernel_rfl) (by kernel_rfl) (by kernel_rfl) (fun _ _ _ h => h) (Or.inl ⟨by rfl, ?_⟩) (by assumption) ?_
        rotate_left
        · intro w' hSw; (try dsimp only at hSw); go_simp; try with_reducible rfl
        (try simp only [Act.put, List.setIfInBounds_toArray, List.set_cons_zero, List.set_cons_succ])
        refine wpAnyH_take (i := 32) (oi := { dst := some 117, op := Op.binOp BinOp.eql 2 (Operand.tmp 114) (Operand.tmp 116) 2, type := 4, pos := "laws.go:418", after := #[{ on := 29, ground := Ground.data }, { on := 31, ground := Ground.data }, { on := 16, ground := Ground.guard }], guard := some (16, true) }) (v := ?_) rfl (by kernel_rfl) (by kernel_rfl) (by kernel_rfl) (fun _ _ _ h => h) (Or.inl ⟨by rfl, ?_⟩) (by assumption) ?_
        rotate_left
        · intro w' hSw; (try dsimp only at hSw); go_simp; try with_reducible rfl
        (try simp only [Act.put, List.setIfInBounds_toArray, List.set_cons_zero, List.set_cons_succ])
        refine wpAnyH_take (i := 33) (oi := { dst := some 118, op := Op.binOp BinOp.eql 4 (Operand.tmp 109) (Operand.tmp 117) 4, type := 4, pos := "laws.go:418", after := #[{ on := 24, ground := Ground.data }, { on := 32, ground := Ground.data }, { on := 16, ground := Ground.guard }], guard := some (16, true) }) (v := ?_) rfl (by kernel_rfl) (by kernel_rfl) (by kernel_rfl) (fun _ _ _ h => h) (Or.inl ⟨by rfl, ?_⟩) (by assumption) ?_
        rotate_left
        · intro w' hSw; (try dsimp only at hSw); go_simp; try with_reducible rfl
        (try simp only [Act.put, List.setIfInBounds_toArray, List.set_cons_zero, List.set_cons_succ])
        refine wpAnyH_take (i := 34) (oi := { dst := some 119, op := Op.pick (Operand.tmp 101) (Operand.tmp 118) (Operand.const (Value.bool false)), type := 4, pos := "laws.go:418", after := #[{ on := 16, ground := Ground.data }, { on := 33, ground := Ground.data }], guard := none }) (v := ?_) rfl (by kernel_rfl) (by kernel_rfl) (by kernel_rfl) (fun _ _ _ h => h) (Or.inl ⟨by rfl, ?_⟩) (by assumption) ?_
        rotate_left
        · intro w' hSw; (try dsimp only at hSw); go_simp; try with_reducible rfl
        (try simp only [Act.put, List.setIfInBounds_toArray, List.set_cons_zero, List.set_cons_succ])
        refine wpAnyH_take (i := 35) (oi := { dst := some 2, op := Op.assign (Operand.tmp 119), type := 4, pos := "laws.go:418", after := #[{ on := 34, ground := Ground.data }, { on := 28, ground := Ground.chain }, { on := 0, ground := Ground.phase }, { on := 1, ground := Ground.phase }, { on := 2, ground := Ground.phase }, { on := 3, ground := Ground.phase }, { on := 4, ground := Ground.phase }, { on := 5, ground := Ground.phase }, { on := 6, ground := Ground.phase }, { on := 7, ground := Ground.phase }, { on := 8, ground := Ground.phase }, { on := 9, ground := Ground.phase }, { on := 10, ground := Ground.phase }, { on := 11, ground := Ground.phase }, { on := 12, ground := Ground.phase }, { on := 13, ground := Ground.phase }, { on := 14, ground := Ground.phase }, { on := 15, ground := Ground.phase }, { on := 16, ground := Ground.phase }, { on := 17, ground := Ground.phase }, { on := 18, ground := Ground.phase }, { on := 19, ground := Ground.phase }, { on := 20, ground := Ground.phase }, { on := 21, ground := Ground.phase }, { on := 22, ground := Ground.phase }, { on := 23, ground := Ground.phase }, { on := 24, ground := Ground.phase }, { on := 25, ground := Ground.phase }, { on := 26, ground := Ground.phase }, { on := 27, ground := Ground.phase }, { on := 28, ground := Ground.phase }, { on := 29, ground := Ground.phase }, { on := 30, ground := Ground.phase }, { on := 31, ground := Ground.phase }, { on := 32, ground := Ground.phase }, { on := 33, ground := Ground.phase }, { on := 34, ground := Ground.phase }], guard := none }) (v := ?_) rfl (by kernel_rfl) (by kernel_rfl) (by kernel_rfl) (fun _ _ _ h => h) (Or.inl ⟨by rfl, ?_⟩) (by assumption) ?_
        rotate_left
        · intro w' hSw; (try dsimp only at hSw); go_simp; try with_reducible rfl
        (try simp only [Act.put, List.setIfInBounds_toArray, List.set_cons_zero, List.set_cons_succ])
        refine wpAnyH_done (by kernel_rfl) ?_ _
        (try go_wp2)
        go_ret
        exact ⟨ret_bool (by simp), EB.out.trans Yz16.out⟩
  · have g1 : (c != 0) = true := by simpa using hcn
    have g2' : (c == c) = true := by simp
    clear HV hcn
    go_wp2
    rw [← hw3]
    generalize w2.heap.size = L at *
    generalize w1.heap.size = M at *
    clear hw3
    have HS6 : Hid (∀ W', Ext w3 W' → W'.cell? ⟨L, 0, none⟩ = some (.int .i64 c) ∧ W'.cell? ⟨M, 0, none⟩ = some (.int .i64 m.kind) ∧ W'.cell? ⟨M, 1, none⟩ = some (.int .i64 m.view) ∧ W'.cell? ⟨M, 2, none⟩ = some (.int .i64 m.from_) ∧ W'.cell? ⟨M, 3, none⟩ = some (.int .i64 m.slot) ∧ W'.cell? ⟨M, 4, none⟩ = some (.int .i64 m.value) ∧ W'.cell? ⟨M, 5, none⟩ = some (.slice y0 m.certs.length y1) ∧ W'.cell? ⟨M, 6, none⟩ = some (.slice y2 m.refs.length y3)) := fun W' he => by
      obtain ⟨-, ⟨q0, q1, q2, q3, q4, q5, q6⟩, -⟩ := BM.out.ext he
      exact ⟨(BL.out.ext he).2.1, q0, q1, q2, q3, q4, q5, q6⟩
    refine wp_region_held_drew (S := (fun W' : World => W'.cell? ⟨L, 0, none⟩ = some (.int .i64 c) ∧ W'.cell? ⟨M, 0, none⟩ = some (.int .i64 m.kind) ∧ W'.cell? ⟨M, 1, none⟩ = some (.int .i64 m.view) ∧ W'.cell? ⟨M, 2, none⟩ = some (.int .i64 m.from_) ∧ W'.cell? ⟨M, 3, none⟩ = some (.int .i64 m.slot) ∧ W'.cell? ⟨M, 4, none⟩ = some (.int .i64 m.value) ∧ W'.cell? ⟨M, 5, none⟩ = some (.slice y0 m.certs.length y1) ∧ W'.cell? ⟨M, 6, none⟩ = some (.slice y2 m.refs.length y3))) (by kernel_rfl) (HS6.out _ ((Ext.refl _).drew)) (fun hHeld => ?_)
    refine wpAnyH_take (i := 0) (oi := { dst := some 27, op := Op.move (Operand.tmp 3), type := 2, pos := "laws.go:399", after := #[], guard := none }) (v := ?_) rfl (by kernel_rfl) (by kernel_rfl) (by kernel_rfl) (fun _ _ _ h => h) (Or.inl ⟨by rfl, ?_⟩) (by assumption) ?_
    rotate_left
    · intro w' hSw; (try dsimp only at hSw); go_simp; try with_reducible rfl
    (try simp only [Act.put, List.setIfInBounds_toArray, List.set_cons_zero, List.set_cons_succ])
    refine wpAnyH_take (i := 1) (oi := { dst := some 28, op := Op.move (Operand.tmp 4), type := 24, pos := "laws.go:399", after := #[], guard := none }) (v := ?_) rfl (by kernel_rfl) (by kernel_rfl) (by kernel_rfl) (fun _ _ _ h => h) (Or.inl ⟨by rfl, ?_⟩) (by assumption) ?_
    rotate_left
    · intro w' hSw; (try dsimp only at hSw); go_simp; try with_reducible rfl
    (try simp only [Act.put, List.setIfInBounds_toArray, List.set_cons_zero, List.set_cons_succ])
    refine wpAnyH_take (i := 2) (oi := { dst := some 29, op := Op.load 28 (Operand.tmp 5), type := 28, pos := "laws.go:399", after := #[], guard := none }) (v := ?_) rfl (by kernel_rfl) (by kernel_rfl) (by kernel_rfl) (fun _ _ _ h => h) (Or.inl ⟨by rfl, ?_⟩) (by assumption) ?_
    rotate_left
    · intro w' hSw; (try dsimp only at hSw); go_simp; try with_reducible rfl
    (try simp only [Act.put, List.setIfInBounds_toArray, List.set_cons_zero, List.set_cons_succ])
    refine wpAnyH_take (i := 5) (oi := { dst := some 32, op := Op.fieldAddr 32 (Operand.tmp 6) 0, type := 0, pos := "laws.go:399", after := #[], guard := none }) (v := ?_) rfl (by kernel_rfl) (by kernel_rfl) (by kernel_rfl) (fun _ _ _ h => h) (Or.inl ⟨by rfl, ?_⟩) (by assumption) ?_
    rotate_left
    · intro w' hSw; (try dsimp only at hSw); go_simp; try with_reducible rfl
    (try simp only [Act.put, List.setIfInBounds_toArray, List.set_cons_zero, List.set_cons_succ])
    refine wpAnyH_take (i := 6) (oi := { dst := some 33, op := Op.load 2 (Operand.tmp 32), type := 2, pos := "laws.go:399", after := #[{ on := 5, ground := Ground.data }], guard := none }) (v := ?_) rfl (by kernel_rfl) (by kernel_rfl) (by kernel_rfl) (fun _ _ _ h => h) (Or.inl ⟨by rfl, ?_⟩) (by assumption) ?_
    rotate_left
    · intro w' hSw; (try dsimp only at hSw); go_simp; try with_reducible rfl
    (try simp only [Act.put, List.setIfInBounds_toArray, List.set_cons_zero, List.set_cons_succ])
    refine wpAnyH_ready (rs := [3]) (by kernel_rfl) (by simp) (AllReadyH.cons rfl (fun K hK => ?_) AllReadyH.nil)
    go_simp
    refine (HSp.out _ (M3.out.ext (Ext.refl _).drew) (L3.out.ext (Ext.refl _).drew)).mono ?_
    rintro e y1' ⟨v9, g9, rfl, -, hO9, hb⟩
    obtain ⟨a9, c9, rfl, -⟩ := id hO9
    unfold Led.jr
    have E4 : Hid (Ext w y1') := E3.out.trans (((Ext.refl _).drew).trans hb)
    have SV : Hid (y1'.cell? ⟨L, 0, none⟩ = some (.int .i64 c) ∧ y1'.cell? ⟨M, 0, none⟩ = some (.int .i64 m.kind) ∧ y1'.cell? ⟨M, 1, none⟩ = some (.int .i64 m.view) ∧ y1'.cell? ⟨M, 2, none⟩ = some (.int .i64 m.from_) ∧ y1'.cell? ⟨M, 3, none⟩ = some (.int .i64 m.slot) ∧ y1'.cell? ⟨M, 4, none⟩ = some (.int .i64 m.value) ∧ y1'.cell? ⟨M, 5, none⟩ = some (.slice y0 m.certs.length y1) ∧ y1'.cell? ⟨M, 6, none⟩ = some (.slice y2 m.refs.length y3)) := HS6.out _ (((Ext.refl _).drew).trans hb)
    clear hb hO9
    refine hK.out _ _ (by exact SV.out) (fun hHeld1 => ?_)
    clear hK K
    refine wpAnyH_take (i := 4) (oi := { dst := some 31, op := Op.field 32 (Operand.tmp 30) 0, type := 2, pos := "laws.go:399", after := #[{ on := 3, ground := Ground.data }], guard := none }) (v := ?_) rfl (by kernel_rfl) (by kernel_rfl) (by kernel_rfl) (fun _ _ _ h => h) (Or.inl ⟨by rfl, ?_⟩) (by assumption) ?_
    rotate_left
    · intro w' hSw; (try dsimp only at hSw); go_simp; try with_reducible rfl
    (try simp only [Act.put, List.setIfInBounds_toArray, List.set_cons_zero, List.set_cons_succ])
    refine wpAnyH_take (i := 7) (oi := { dst := some 34, op := Op.binOp BinOp.eql 2 (Operand.tmp 31) (Operand.tmp 33) 2, type := 4, pos := "laws.go:399", after := #[{ on := 4, ground := Ground.data }, { on := 6, ground := Ground.data }], guard := none }) (v := ?_) rfl (by kernel_rfl) (by kernel_rfl) (by kernel_rfl) (fun _ _ _ h => h) (Or.inl ⟨by rfl, ?_⟩) (by assumption) ?_
    rotate_left
    · intro w' hSw; (try dsimp only at hSw); go_simp; try with_reducible rfl
    (try simp only [Act.put, List.setIfInBounds_toArray, List.set_cons_zero, List.set_cons_succ])
    refine wpAnyH_take (i := 8) (oi := { dst := some 2, op := Op.assign (Operand.tmp 34), type := 4, pos := "laws.go:399", after := #[{ on := 7, ground := Ground.data }, { on := 3, ground := Ground.chain }, { on := 0, ground := Ground.phase }, { on := 1, ground := Ground.phase }, { on := 2, ground := Ground.phase }, { on := 3, ground := Ground.phase }, { on := 4, ground := Ground.phase }, { on := 5, ground := Ground.phase }, { on := 6, ground := Ground.phase }, { on := 7, ground := Ground.phase }], guard := none }) (v := ?_) rfl (by kernel_rfl) (by kernel_rfl) (by kernel_rfl) (fun _ _ _ h => h) (Or.inl ⟨by rfl, ?_⟩) (by assumption) ?_
    rotate_left
    · intro w' hSw; (try dsimp only at hSw); go_simp; try with_reducible rfl
    (try simp only [Act.put, List.setIfInBounds_toArray, List.set_cons_zero, List.set_cons_succ])
    refine wpAnyH_done (by kernel_rfl) ?_ _
    (try go_wp2)
    go_ret
    exact ⟨ret_bool (by simp), E4.out⟩
theorem lawQuorums_all (v : Value) (w : World) (h : ∃ ad len cap, v = .slice ad len cap ∧ (len ≤ 1048576 → CodeOk w w.heap.size v)) :
    Calls Try.prog 3 #[v] w fun e w' => e = .returned (.bool true) ∧ Ext w w' := by
  obtain ⟨ad, len, cap, rfl, hc⟩ := h
  by_cases hl : 1048576 < len
  · exact lawQuorums_big ad len cap w hl
  · exact lawQuorums _ w (hc (by omega))
end Go.Proofs.Ytflojfkalnojbaa
