/- what is decided, the log: the program's, and the specification's answers. -/
import Derived.Test.YtecgjdgfjgcmdaaGreatRcG3
import Derived.Test.YtecgjdgfjgcmdaaGreatRcQS5
namespace Go.Proofs.YtecgjdgfjgcmdaaGreat
open Go.RowKit Go.Maps
set_option maxHeartbeats 8000000 in
set_option maxRecDepth 100000 in
theorem decidedIn_any (f : Int) (v : Value) (ms : List Ms) (slot : Int) (w : World) (hS : MSlice w v ms) (hled : Msg.ledger f ms = 0) :
    Calls Tryz.prog 173 #[.int .i64 f, v, .int .i64 slot] w fun e w' => ∃ vo g, e = .returned vo ∧ w.heap.size ≤ g ∧ Led.IOwn w' vo g (Msg.decided f ms slot) ∧ Ext w w' := by
  obtain ⟨hf0, hf1, hlen⟩ := Msg.ledger_zero hled
  have HQ : Hid (∀ (z : Ms) (vz uz : Value) (wx : World), Ext w wx → z ∈ ms → z.kind = 3 → MLs wx vz uz z → Calls Tryz.prog 132 #[.int .i64 f, v, magg z vz uz] wx fun e w' => e = .returned (.bool (Msg.enough f ms 3 ⟨z.slot, z.view, z.value⟩)) ∧ Ext wx w') := fun z vz uz wx he hz hk hL => by
    have hsl := Msg.of_slot (Msg.ledger_all hled z hz) (Or.inr hk)
    have h := hasQuorum_any f v ms z vz uz wx (hS.ext he) hL hled hsl.1 hsl.2.1
    rw [hk] at h
    exact h
  have HV : Hid (∀ z ∈ ms, z.kind = 3 → 0 ≤ z.value ∧ z.value ≤ 12) := fun z hz hk => by
    obtain ⟨-, -, -, -, -, -, v1, v2, -⟩ := Msg.of_slot (Msg.ledger_all hled z hz) (Or.inr hk)
    exact ⟨v1, v2⟩
  have HD : Hid (Msg.dset f ms slot ms.length = Msg.decided f ms slot) := Msg.dset_decided hled
  have HR0 : Hid (∀ (b n : Nat) (wx : World), Nst.SMap wx b n (Msg.decided f ms slot) → Calls Tryz.prog 186 #[.map (some b)] wx fun e w' => ∃ v g, e = .returned v ∧ wx.heap.size ≤ g ∧ Led.IOwn w' v g (Msg.decided f ms slot) ∧ Ext wx w') := fun b n wx h => Nst.rising_any b n _ wx h (Msg.decidedK_ris _ _ _ _) (by have := Msg.decidedK_len f ms slot 13; unfold Msg.decided; omega)
  obtain ⟨a, cap, rfl, hlc, hcm, hx⟩ := hS
  have HX : Hid (0 < ms.length → ∃ b off, a = some ⟨b, off, none⟩ ∧ b < w.heap.size ∧ MsAt w b off ms) := hx
  clear hx hled
  unfold maxLen at hcm
  have hmk := Nst.make_set
  go_enter Tryz.func173, Tryz.ntmps173
  go_wp2
  go_loopw [13] (fun i wr => ∃ (k n : Nat), k ≤ ms.length ∧ i = .int .i64 k ∧ n ≤ k ∧ Hid (Nst.SMap wr w.heap.size n (Msg.dset f ms slot k)) ∧ Hid (Ext w wr)) (fun i _ => ms.length - (intOf i).toNat)
  case atStart => exact ⟨0, 0, Nat.zero_le _, rfl, Nat.le_refl _, Nst.SMap.made w, (Ext.refl _).alloc _⟩
  case round =>
    obtain ⟨k, n, hk, rfl, hn, HM, HE⟩ := hrel
    by_cases hlt : k < ms.length
    · obtain ⟨z, hzk⟩ : ∃ z, ms[k]? = some z := ⟨_, List.getElem?_eq_getElem hlt⟩
      obtain ⟨b, off, rfl, hb, hN⟩ := HX.out (by omega)
      obtain ⟨vz, uz, ⟨d0, d1, d2, d3, d4, d5, d6⟩, hLz⟩ := hN.ext hb HE.out k z hzk
      have HLz : Hid (MLs wr vz uz z) := hLz
      have HZ : Hid (ms[k]? = some z) := hzk
      have HZm : Hid (z ∈ ms) := List.mem_of_getElem? hzk
      obtain ⟨y0, y1, y2, y3, rfl, rfl, -, -, -, -⟩ := hLz.form
      clear hzk hN hLz
      by_cases h1 : z.kind = 3
      · by_cases h2 : z.slot = slot
        · have HC : Hid (Calls Tryz.prog 132 #[.int .i64 f, .slice (some ⟨b, off, none⟩) ms.length cap, magg z (.slice y0 z.certs.length y1) (.slice y2 z.refs.length y3)] (wr.alloc (.cells #[.int .i64 z.kind, .int .i64 z.view, .int .i64 z.from_, .int .i64 z.slot, .int .i64 z.value, .slice y0 z.certs.length y1, .slice y2 z.refs.length y3] 40)) fun e w' => e = .returned (.bool (Msg.enough f ms 3 ⟨z.slot, z.view, z.value⟩)) ∧ Ext (wr.alloc (.cells #[.int .i64 z.kind, .int .i64 z.view, .int .i64 z.from_, .int .i64 z.slot, .int .i64 z.value, .slice y0 z.certs.length y1, .slice y2 z.refs.length y3] 40)) w') := HQ.out z _ _ _ (HE.out.alloc _) HZm.out h1 (HLz.out.ext ((Ext.refl _).alloc _))
          unfold magg at HC
          have g1 : (z.kind == 3) = true := by simpa using h1
          have g2 : (z.slot == slot) = true := by simpa using h2
          have HK : Hid (z.kind = 3 ∧ z.slot = slot) := ⟨h1, h2⟩
          clear h1 h2
          go_wp2_with fail
          refine HC.out.mono ?_
          rintro e w2 ⟨rfl, hb2⟩
          have HE2 : Hid (Ext w w2) := (HE.out.alloc _).trans hb2
          have HM2 : Hid (Nst.SMap w2 w.heap.size n (Msg.dset f ms slot k)) := HM.out.ext (((Ext.refl _).alloc _).trans hb2)
          obtain ⟨-, ⟨p0, p1, p2, p3, p4, p5, p6⟩, -⟩ := (mbox_new wr z (.slice y0 z.certs.length y1) (.slice y2 z.refs.length y3) 40).ext hb2
          clear hb2 d0 d1 d2 d3 d4 d5 d6 HC
          cases hq : Msg.enough f ms 3 ⟨z.slot, z.view, z.value⟩ with
          | true =>
            have hv := HV.out z HZm.out HK.out.1
            have HK2 : Hid (Msg.dset f ms slot (k + 1) = Nst.put z.value (Msg.dset f ms slot k)) := Msg.dset_yes HZ.out ⟨HK.out.1, HK.out.2, hq⟩
            have HA : Hid (Calls Tryz.prog 177 #[.map (some w.heap.size), .int .i64 z.value] w2 fun e w' => e = .returned (.tuple #[]) ∧ Nst.SMap w' w.heap.size (n + 1) (Nst.put z.value (Msg.dset f ms slot k)) ∧ Upd w.heap.size w2 w') := Nst.add_any _ _ _ _ _ HM2.out (Msg.dset_ris _ _ _ _) (by omega) (by omega)
            clear hq
            go_wp2_with fail
            refine HA.out.mono ?_
            rintro e w3 ⟨rfl, hM3, hu3⟩
            have HE3 : Hid (Ext w w3) := hu3.to_ext HE2.out (Nat.le_refl _)
            have HM3 : Hid (Nst.SMap w3 w.heap.size (n + 1) (Msg.dset f ms slot (k + 1))) := by rw [HK2.out]; exact hM3
            clear hM3 hu3
            go_wp2
            exact ⟨⟨k + 1, n + 1, by omega, by go_num, by omega, HM3, HE3⟩, by simp [intOf]; omega⟩
          | false =>
            have HK2 : Hid (Msg.dset f ms slot (k + 1) = Msg.dset f ms slot k) := Msg.dset_no HZ.out (fun h => by rw [hq] at h; exact absurd h.2.2 (by decide))
            have HM3 : Hid (Nst.SMap w2 w.heap.size n (Msg.dset f ms slot (k + 1))) := by rw [HK2.out]; exact HM2.out
            clear hq
            go_wp2
            exact ⟨⟨k + 1, n, by omega, by go_num, by omega, HM3, HE2⟩, by simp [intOf]; omega⟩
        · have g1 : (z.kind == 3) = true := by simpa using h1
          have g2 : (z.slot == slot) = false := by simpa using h2
          have HK2 : Hid (Msg.dset f ms slot (k + 1) = Msg.dset f ms slot k) := Msg.dset_no HZ.out (fun h => h2 h.2.1)
          have HM3 : Hid (∀ o, Nst.SMap (wr.alloc o) w.heap.size n (Msg.dset f ms slot (k + 1))) := fun o => by rw [HK2.out]; exact HM.out.ext ((Ext.refl _).alloc _)
          clear h1 h2
          go_wp2
          exact ⟨⟨k + 1, n, by omega, by go_num, by omega, HM3.out _, HE.out.alloc _⟩, by simp [intOf]; omega⟩
      · have g1 : (z.kind == 3) = false := by simpa using h1
        have HK2 : Hid (Msg.dset f ms slot (k + 1) = Msg.dset f ms slot k) := Msg.dset_no HZ.out (fun h => h1 h.1)
        have HM3 : Hid (∀ o, Nst.SMap (wr.alloc o) w.heap.size n (Msg.dset f ms slot (k + 1))) := fun o => by rw [HK2.out]; exact HM.out.ext ((Ext.refl _).alloc _)
        clear h1
        go_wp2
        exact ⟨⟨k + 1, n, by omega, by go_num, by omega, HM3.out _, HE.out.alloc _⟩, by simp [intOf]; omega⟩
    · have hke : k = ms.length := by omega
      have HM3 : Hid (Nst.SMap wr w.heap.size n (Msg.decided f ms slot)) := by rw [← HD.out, ← hke]; exact HM.out
      clear HM
      subst hke
      go_wp2_with fail
      refine (HR0.out _ _ _ HM3.out).mono ?_
      rintro e w5 ⟨v5, g5, rfl, hg5, hO5, hb⟩
      obtain ⟨a5, c5, rfl, -⟩ := id hO5
      have HE5 : Hid (Ext w w5) := HE.out.trans hb
      have HO5 : Hid (Led.IOwn w5 (.slice a5 (Msg.decided f ms slot).length c5) g5 (Msg.decided f ms slot) ∧ w.heap.size ≤ g5) := ⟨hO5, Nat.le_trans HE.out.size hg5⟩
      clear hb hO5 hg5
      go_wp2
      go_ret
      exact ⟨_, g5, rfl, HO5.out.2, HO5.out.1, HE5.out⟩

set_option maxHeartbeats 8000000 in
set_option maxRecDepth 100000 in
theorem logIn_any (f : Int) (v : Value) (ms : List Ms) (w : World) (hS : MSlice w v ms) (hled : Msg.ledger f ms = 0) :
    Calls Tryz.prog 149 #[.int .i64 f, v] w fun e w' => ∃ vo g, e = .returned vo ∧ w.heap.size ≤ g ∧ Led.IOwn w' vo g (Msg.log f ms) ∧ Ext w w' := by
  have hi9 : (Tryz.prog.info? 2).map (fun i => (i.zero, i.size, i.bytes)) = some (some (.int .i64 0), 1, 8) := by kernel_rfl
  obtain ⟨ti, hti, hxx⟩ := Option.map_eq_some_iff.1 hi9
  simp only [Prod.mk.injEq] at hxx
  obtain ⟨hz0, hz1, hz2⟩ := hxx
  clear hi9
  have HV : Hid (∀ (x : Int) (wx : World), Ext w wx → Calls Tryz.prog 173 #[.int .i64 f, v, .int .i64 x] wx fun e w' => ∃ vo g, e = .returned vo ∧ wx.heap.size ≤ g ∧ Led.IOwn w' vo g (Msg.decided f ms x) ∧ Ext wx w') := fun x wx he => decidedIn_any f v ms x wx (hS.ext he) hled
  obtain ⟨a, cap, rfl, -, -, -⟩ := hS
  clear hled
  go_enter Tryz.func149, Tryz.ntmps149
  go_wp2
  go_loopw [5, 8] (fun ov i wr => ∃ (k : Nat), k ≤ 30 ∧ i = .int .i64 (k : Int) ∧ Hid (∀ j, j < k → ¬ Msg.decided f ms ((j : Int) + 1) = []) ∧ Hid (wr.ownsRow w.heap.size 2 1 ov k ((Msg.heads f ms k).map (Value.int .i64))) ∧ Hid (Ext w wr)) (fun _ i _ => 30 - (intOf i).toNat)
  case atStart => exact ⟨0, Nat.zero_le _, rfl, fun j h => by omega, World.ownsRow_nil _ _ _ _, Ext.refl _⟩
  case round =>
    obtain ⟨k, hk, rfl, HH, HO, HE⟩ := hrel
    by_cases hlt : k < 30
    · have hkk : (k : Int) < 30 := by omega
      have hwk : IntKind.i64.wrap ((k : Int) + 1) = (k : Int) + 1 := by rw [IntKind.wrap_i64]; omega
      go_wp2_with fail
      refine (HV.out _ _ (HE.out)).mono ?_
      rintro e w3 ⟨vo, g, rfl, hg, hO, hb⟩
      obtain ⟨a8, c8, rfl, -⟩ := id hO
      have HO2 : Hid (w3.ownsRow w.heap.size 2 1 u5 k ((Msg.heads f ms k).map (Value.int .i64))) := Led.own_ext HO.out hb
      have HE2 : Hid (Ext w w3) := HE.out.trans hb
      have hws2 : w.heap.size ≤ w3.heap.size := HE2.out.size
      clear hb HO HE
      by_cases hd : Msg.decided f ms ((k : Int) + 1) = []
      · have HFl : Hid (Msg.log f ms = Msg.heads f ms k) := Msg.log_stop HH.out hd (by omega)
        rw [hd]
        clear hO hd hwk
        have hlk : Hid ((Msg.heads f ms k).length = k) := Msg.heads_len f ms k
        obtain ⟨g3, hg1, hg2, hT⟩ := Led.iown_of_owns (l := Msg.heads f ms k) (by rw [hlk.out]; exact HO2.out)
        obtain ⟨a9, c9, rfl, -⟩ := id hT
        have HT : Hid (w.heap.size ≤ g3 ∧ Led.IOwn w3 (.slice a9 (Msg.heads f ms k).length c9) g3 (Msg.heads f ms k)) := ⟨by omega, hT⟩
        clear hT hg1 hg2
        go_wp2
        go_ret
        rw [HFl.out]
        exact ⟨_, g3, rfl, HT.out.1, HT.out.2, HE2.out⟩
      · have HH2 : Hid (∀ j, j < k + 1 → ¬ Msg.decided f ms ((j : Int) + 1) = []) := fun j hj => by
          by_cases hjk : j = k
          · subst hjk; exact hd
          · exact HH.out j (by omega)
        obtain ⟨off, rfl, d0, hl0, hl1⟩ := Msg.head_at hO hd
        have HK2 : Hid (Msg.heads f ms (k + 1) = Msg.heads f ms k ++ [(Msg.decided f ms ((k : Int) + 1)).headD 0]) := rfl
        clear hO hd hwk
        generalize (Msg.decided f ms ((k : Int) + 1)).headD 0 = x at *
        generalize (Msg.decided f ms ((k : Int) + 1)).length = n at *
        go_wp2_with (at_builtin; go_must (refine wpList_append_own _ rfl _ _ 38 rfl w.heap.size 2 ti (.int .i64 0) 1 8 Tryz.underlying38 hti hz0 hz1 hz2 rfl (by decide) _ _ _ rfl (HO2.out.alloc _) ⟨w3.heap.size, 0, none⟩ 1 1 [.int .i64 (x)] rfl rfl (cellM_one _ _ _ _ rfl) (ints_oneCell .i64 [(x)]) (by unfold maxLen; omega) (by omega) (by simp; omega) ?_; intro v6 w6 hown6 hgrow6 hnil6))
        refine ⟨⟨k + 1, by omega, by go_num, HH2, ?_, Below.grown (HE2.out.alloc _) hgrow6 (by simp; omega) (fun q hq => by have := (HO2.out.lt q hq).1; simpa using this)⟩, by simp [intOf]; omega⟩
        show w6.ownsRow _ _ _ _ _ _
        rw [HK2.out, List.map_append]
        exact hown6
    · have hke : k = 30 := by omega
      subst hke
      have HFl : Hid (Msg.log f ms = Msg.heads f ms 30) := Msg.log_full HH.out
      have hlk : Hid ((Msg.heads f ms 30).length = 30) := Msg.heads_len f ms 30
      obtain ⟨g3, hg1, hg2, hT⟩ := Led.iown_of_owns (l := Msg.heads f ms 30) (by rw [hlk.out]; exact HO.out)
      obtain ⟨a9, c9, rfl, -⟩ := id hT
      have HT : Hid (w.heap.size ≤ g3 ∧ Led.IOwn wr (.slice a9 (Msg.heads f ms 30).length c9) g3 (Msg.heads f ms 30)) := ⟨by omega, hT⟩
      clear hT hg1 hg2
      go_wp2
      go_ret
      rw [HFl.out]
      exact ⟨_, g3, rfl, HT.out.1, HT.out.2, HE.out⟩

end Go.Proofs.YtecgjdgfjgcmdaaGreat
