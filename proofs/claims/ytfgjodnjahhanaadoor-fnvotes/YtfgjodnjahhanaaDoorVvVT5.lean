/- votes: both VotersFors, both AcceptOfs. -/
import Derived.Test.YtfgjodnjahhanaaDoorVvVT4
import Derived.Test.YtfgjodnjahhanaaDoorVvJ24
import Derived.Test.YtfgjodnjahhanaaDoorVvJ26
namespace Go.Proofs.YtfgjodnjahhanaaDoor
open Go.RowKit Go.Maps
namespace Vot
theorem jret_at {w w2 : World} (c : Int) {v : Value} {g : Nat} {rs : List Int} (rb : Nat) (hr : w.heap.size ≤ rb) (hE : Ext w w2) (hO : Led.IOwn w2 v g rs) (hg : rb < g) :
    Led.JRet w c rs (.returned (Led.jr c v)) ((w2.setCell ⟨rb, 0, none⟩ (.int .i64 c)).setCell ⟨rb, 1, none⟩ v) :=
  ⟨v, g, rfl, by omega, hO.upd' (((Upd.refl rb w2).setAt _ _).setAt _ _) (fun _ => by omega), (hE.setCell (p := ⟨rb, 0, none⟩) hr _).setCell (p := ⟨rb, 1, none⟩) hr _⟩
theorem jret_no {w w2 : World} (c : Int) (rb : Nat) (hr : w.heap.size ≤ rb) (hE : Ext w w2) :
    Led.JRet w c [] (.returned (Led.jr c (.slice none 0 0))) ((w2.setCell ⟨rb, 0, none⟩ (.int .i64 c)).setCell ⟨rb, 1, none⟩ (.slice none 0 0)) :=
  jret_at (g := rb + 1) c rb hr hE ⟨none, 0, rfl, Nat.le_refl _, by unfold maxLen; omega, fun h => by simp at h⟩ (by omega)
/-- Four values in a box of their own. -/
def Y4 (w : World) (b : Nat) (v0 v1 v2 v3 : Value) : Prop := b < w.heap.size ∧ (w.cell? ⟨b, 0, none⟩ = some v0 ∧ w.cell? ⟨b, 1, none⟩ = some v1 ∧ w.cell? ⟨b, 2, none⟩ = some v2 ∧ w.cell? ⟨b, 3, none⟩ = some v3) ∧ w.frozen? ⟨b, 0, none⟩ = false ∧ w.frozen? ⟨b, 1, none⟩ = false ∧ w.frozen? ⟨b, 2, none⟩ = false ∧ w.frozen? ⟨b, 3, none⟩ = false
theorem Y4.ext {w w' : World} {b : Nat} {v0 v1 v2 v3 : Value} (h : Y4 w b v0 v1 v2 v3) (he : Ext w w') : Y4 w' b v0 v1 v2 v3 := by
  obtain ⟨hc, hf⟩ := Ext.cell he
  obtain ⟨hb, ⟨c0, c1, c2, c3⟩, f0, f1, f2, f3⟩ := h
  exact ⟨Nat.lt_of_lt_of_le hb he.size, ⟨(hc _ _ hb).trans c0, (hc _ _ hb).trans c1, (hc _ _ hb).trans c2, (hc _ _ hb).trans c3⟩, (hf _ _ hb).trans f0, (hf _ _ hb).trans f1, (hf _ _ hb).trans f2, (hf _ _ hb).trans f3⟩
theorem y4_new (w : World) (v0 v1 v2 v3 : Value) (t : TypeId) : Y4 (w.alloc (.cells #[v0, v1, v2, v3] t)) w.heap.size v0 v1 v2 v3 := ⟨by simp, ⟨by simp, by simp, by simp, by simp⟩, by simp, by simp, by simp, by simp⟩
theorem four0 {w w2 : World} (h : Ext w w2) (a b c d : Value) : Ext w ((((w2.setCell ⟨w.heap.size, 0, none⟩ a).setCell ⟨w.heap.size, 1, none⟩ b).setCell ⟨w.heap.size, 2, none⟩ c).setCell ⟨w.heap.size, 3, none⟩ d) :=
  (((h.setCell (p := ⟨w.heap.size, 0, none⟩) (Nat.le_refl _) _).setCell (p := ⟨w.heap.size, 1, none⟩) (Nat.le_refl _) _).setCell (p := ⟨w.heap.size, 2, none⟩) (Nat.le_refl _) _).setCell (p := ⟨w.heap.size, 3, none⟩) (Nat.le_refl _) _

set_option maxHeartbeats 8000000 in
set_option maxRecDepth 100000 in
theorem implVotersFor_any (f c r : Int) (p : ByteArray) (v : Value) (zs : List Vt) (w : World) (hS : VtSlice w v zs) (hz : ∀ z ∈ zs, z.path.size ≤ maxLen) :
    Calls Tryd.prog 16 #[.int .i64 f, v, yagg c r p] w (Led.JRet w (votersV f zs c r p).1 (votersV f zs c r p).2) := by
  have HF : Hid (∀ wx, Ext w wx → Calls Tryd.prog 14 #[.int .i64 f, v] wx fun e w' => e = .returned (.int .i64 (fault f zs)) ∧ Ext wx w') := fun wx he => implVotesFault_any f v zs wx (hS.ext he) hz
  have HV0 : Hid (fault f zs = 0 → ∀ wx, Ext w wx → Calls Tryd.prog 28 #[yagg c r p, v] wx fun e w' => ∃ b n, e = .returned (.map (some b)) ∧ wx.heap.size ≤ b ∧ Nst.SMap w' b n (voters f zs c r p) ∧ Ext wx w') := fun h0 wx he => by
    rw [← vset_voters c r p h0]
    obtain ⟨hf0, hf1, hlen, ha⟩ := fault_zero h0
    exact votersOf_any c r p v zs wx (hS.ext he) hlen (fun z hm => by have := (ha z hm).1; omega)
  have HR0 : Hid (∀ (rs : List Int), Nst.Ris rs → rs.length ≤ 7 → ∀ (b n : Nat) (wx : World), Nst.SMap wx b n rs → Calls Tryd.prog 29 #[.map (some b)] wx fun e w' => ∃ v g, e = .returned v ∧ wx.heap.size ≤ g ∧ Led.IOwn w' v g rs ∧ Ext wx w') := fun rs hr hl b n wx h => Nst.rising_any b n rs wx h hr (by omega)
  obtain ⟨a, cap, rfl, -, -, -⟩ := hS
  unfold yagg at *
  by_cases hc : fault f zs = 0
  · rw [votersV_ok hc]
    obtain ⟨hf0, hf1, hlen, -⟩ := fault_zero hc
    rw [hc] at HF
    have HV : Hid _ := HV0.out hc
    have HR : Hid (∀ (b n : Nat) (wx : World), Nst.SMap wx b n (voters f zs c r p) → Calls Tryd.prog 29 #[.map (some b)] wx fun e w' => ∃ v g, e = .returned v ∧ wx.heap.size ≤ g ∧ Led.IOwn w' v g (voters f zs c r p) ∧ Ext wx w') := HR0.out _ (votersK_ris _ _ _ _ _) (voters_len hf1)
    clear HV0 HR0 hc
    generalize voters f zs c r p = rs at *
    go_enter Tryd.func16, Tryd.ntmps16
    go_wp2_with fail
    refine (HF.out _ (((Ext.refl _).alloc _).alloc _)).mono ?_
    rintro e w2 ⟨rfl, hb⟩
    have HE2 : Hid (Ext w w2) := (((Ext.refl _).alloc _).alloc _).trans hb
    have HB2 : Hid (RyAt w2 w.heap.size (.int .i64 c) (.int .i64 r) (.string p)) := ((ry_new w _ _ _ _).ext ((Ext.refl _).alloc _)).ext hb
    have HZ2 : Hid (Led.JZ w2 (w.heap.size + 1)) := by have h := (Led.jz_new (w.alloc (.cells #[.int .i64 c, .int .i64 r, .string p] 28)) 43).ext hb; simp only [World.size_alloc] at h; exact h
    clear hb
    obtain ⟨-, ⟨p0, p1, p2⟩, -⟩ := HB2.out
    go_wp2_with fail
    refine (HV.out _ HE2.out).mono ?_
    rintro e w4 ⟨b, n, rfl, -, hM4, hb⟩
    have HE4 : Hid (Ext w w4) := HE2.out.trans hb
    have HZ4 : Hid (Led.JZ w4 (w.heap.size + 1)) := HZ2.out.ext hb
    have HM4 : Hid (Nst.SMap w4 b n rs) := hM4
    clear hb hM4 p0 p1 p2
    go_wp2_with fail
    refine (HR.out _ _ _ HM4.out).mono ?_
    rintro e w5 ⟨v5, g5, rfl, hg5, hO5, hb⟩
    obtain ⟨a5, c5, rfl, -⟩ := id hO5
    have HE5 : Hid (Ext w w5) := HE4.out.trans hb
    have HZ5 : Hid (Led.JZ w5 (w.heap.size + 1)) := HZ4.out.ext hb
    have HO5 : Hid (Led.IOwn w5 (.slice a5 rs.length c5) g5 rs ∧ w.heap.size + 1 < g5) := ⟨hO5, Nat.lt_of_lt_of_le HZ4.out.1 hg5⟩
    clear hb hO5 hg5
    obtain ⟨x0, x1, x2, x3, x4⟩ := HZ5.out
    go_wp2
    exact bodyPost_ret (v := Led.jr 0 (.slice a5 rs.length c5)) (by simp [results, Tryd.results16, go_sem, Led.jr, x1, x2]) rfl (jret_at 0 _ (by omega) HE5.out HO5.out.1 HO5.out.2)
  · rw [votersV_bad rfl hc]
    clear HV0 HR0
    have g2 : (fault f zs != 0) = true := by simpa using hc
    clear hc
    generalize fault f zs = k at *
    go_enter Tryd.func16, Tryd.ntmps16
    go_wp2_with fail
    refine (HF.out _ (((Ext.refl _).alloc _).alloc _)).mono ?_
    rintro e w2 ⟨rfl, hb⟩
    have HE2 : Hid (Ext w w2) := (((Ext.refl _).alloc _).alloc _).trans hb
    have HZ2 : Hid (Led.JZ w2 (w.heap.size + 1)) := by have h := (Led.jz_new (w.alloc (.cells #[.int .i64 c, .int .i64 r, .string p] 28)) 43).ext hb; simp only [World.size_alloc] at h; exact h
    clear hb
    obtain ⟨x0, x1, x2, x3, x4⟩ := HZ2.out
    go_wp2
    exact bodyPost_ret (v := Led.jr k (.slice none 0 0)) (by simp [results, Tryd.results16, go_sem, Led.jr, x1, x2]) rfl (jret_no k _ (by omega) HE2.out)

set_option maxHeartbeats 8000000 in
set_option maxRecDepth 100000 in
theorem believe_any (f : Int) (v : Value) (zs : List Vt) (w : World) (hS : VtSlice w v zs) (hz : ∀ z ∈ zs, z.path.size ≤ maxLen) :
    Calls Tryd.prog 23 #[.int .i64 f, v] w fun e w' => e = .returned (yrT (believe f zs)) ∧ Ext w w' := by
  have HF : Hid (∀ wx, Ext w wx → Calls Tryd.prog 14 #[.int .i64 f, v] wx fun e w' => e = .returned (.int .i64 (fault f zs)) ∧ Ext wx w') := fun wx he => implVotesFault_any f v zs wx (hS.ext he) hz
  have HV0 : Hid (fault f zs = 0 → ∀ (c r : Int) (p : ByteArray) wx, Ext w wx → Calls Tryd.prog 28 #[yagg c r p, v] wx fun e w' => ∃ b n, e = .returned (.map (some b)) ∧ wx.heap.size ≤ b ∧ Nst.SMap w' b n (voters f zs c r p) ∧ Ext wx w') := fun h0 c r p wx he => by
    rw [← vset_voters c r p h0]
    obtain ⟨hf0, hf1, hlen, ha⟩ := fault_zero h0
    exact votersOf_any c r p v zs wx (hS.ext he) hlen (fun z hm => by have := (ha z hm).1; omega)
  have HC : Hid (∀ (c r : Int) (p : ByteArray) wx, p.size ≤ 24 → Calls Tryd.prog 41 #[yagg c r p] wx fun e w' => e = .returned (yagg c r p) ∧ Ext wx w') := fun c r p wx hp => copyReply_any c r p wx (by omega)
  obtain ⟨a, cap, rfl, hlc, hcm, hx⟩ := hS
  have HX : Hid (0 < zs.length → ∃ b off, a = some ⟨b, off, none⟩ ∧ b < w.heap.size ∧ VtsAt w b off zs) := hx
  clear hx
  unfold maxLen at hcm
  unfold yagg at *
  by_cases hc : fault f zs = 0
  · rw [believe_ok hc]
    obtain ⟨hf0, hf1, hlen, ha⟩ := fault_zero hc
    have HP : Hid (∀ z ∈ zs, z.path.size ≤ 24) := fun z hm => okY_path (ha z hm).2
    rw [hc] at HF
    have HV : Hid _ := HV0.out hc
    clear HV0 hc ha hz
    obtain ⟨R, hR⟩ : ∃ R, R = believeK f zs zs := ⟨_, rfl⟩
    rw [← hR]
    have HR0 : Hid (believeK f zs (zs.drop 0) = R) := by rw [hR]; rfl
    clear hR
    go_enter Tryd.func23, Tryd.ntmps23
    go_wp2_with fail
    refine (HF.out _ ((Ext.refl _).alloc _)).mono ?_
    rintro e w2 ⟨rfl, hb⟩
    have HE2 : Hid (Ext w w2) := ((Ext.refl _).alloc _).trans hb
    have HZ2 : Hid (Y4 w2 w.heap.size (.int .i64 0) (.int .i64 0) (.int .i64 0) (.string ByteArray.empty)) := (y4_new w _ _ _ _ _).ext hb
    clear hb
    go_wp2
    go_loopw [17] (fun i wr => ∃ (k : Nat), k ≤ zs.length ∧ i = .int .i64 k ∧ Hid (believeK f zs (zs.drop k) = R) ∧ Hid (Y4 wr w.heap.size (.int .i64 0) (.int .i64 0) (.int .i64 0) (.string ByteArray.empty)) ∧ Hid (Ext w wr)) (fun i _ => zs.length - (intOf i).toNat)
    case atStart => exact ⟨0, Nat.zero_le _, rfl, HR0, HZ2, HE2⟩
    case round =>
      obtain ⟨k, hk, rfl, HRk, HB, HE⟩ := hrel
      by_cases hlt : k < zs.length
      · obtain ⟨z, hzk⟩ : ∃ z, zs[k]? = some z := ⟨_, List.getElem?_eq_getElem hlt⟩
        obtain ⟨b, off, rfl, hb, hN⟩ := HX.out (by omega)
        obtain ⟨d0, d1, d2, d3⟩ := hN.ext hb HE.out k z hzk
        have HZ : Hid (zs[k]? = some z) := hzk
        have hpz : z.path.size ≤ 24 := HP.out z (List.mem_of_getElem? hzk)
        have HPz : Hid (z.path.size ≤ 24) := hpz
        have hvl := @voters_len f zs z.code z.value z.path hf1
        obtain ⟨l, hl⟩ : ∃ l, l = voters f zs z.code z.value z.path := ⟨_, rfl⟩
        have HVz : Hid (∀ wx, Ext w wx → Calls Tryd.prog 28 #[.agg #[.int .i64 z.code, .int .i64 z.value, .string z.path], .slice (some ⟨b, off, none⟩) zs.length cap] wx fun e w' => ∃ b n, e = .returned (.map (some b)) ∧ wx.heap.size ≤ b ∧ Nst.SMap w' b n l ∧ Ext wx w') := by rw [hl]; exact fun wx he => HV.out _ _ _ wx he
        have HL : Hid (l = voters f zs z.code z.value z.path) := hl
        rw [← hl] at hvl
        have hsz : Maps.size (Nst.map l) = l.length := Nst.map_size l
        have HBt : Hid (∀ t, Y4 (wr.alloc t) w.heap.size (.int .i64 0) (.int .i64 0) (.int .i64 0) (.string ByteArray.empty)) := fun t => HB.out.ext ((Ext.refl _).alloc _)
        have HEt : Hid (∀ t, Ext w (wr.alloc t)) := fun t => HE.out.alloc _
        have HVt : Hid (VtBoxAt (wr.alloc (.cells #[.int .i64 z.frm, .int .i64 z.code, .int .i64 z.value, .string z.path] 46)) wr.heap.size z) := vtbox_new wr z _
        clear hzk hN hpz hl HV
        go_wp2_with fail
        refine (HVz.out _ (HEt.out _)).mono ?_
        rintro e w3 ⟨b3, n3, rfl, -, hM, hb3⟩
        have HM : Hid (Nst.SMap w3 b3 n3 l) := hM
        have HE3 : Hid (Ext w w3) := (HEt.out _).trans hb3
        have HB3 : Hid (Y4 w3 w.heap.size (.int .i64 0) (.int .i64 0) (.int .i64 0) (.string ByteArray.empty)) := (HBt.out _).ext hb3
        have HV3 : Hid (VtBoxAt w3 wr.heap.size z) := HVt.out.ext hb3
        clear hb3 hM d0 d1 d2 d3 HB HE HBt HEt HVt HVz
        obtain ⟨vl, ⟨v0, v1, v2, v3⟩, -⟩ := HV3.out
        by_cases hq : f < (l.length : Int)
        · have HRz : Hid ((0, z.code, z.value, z.path) = R) := by show _ = _; rw [← HRk.out, believeK_yes HZ.out (by rw [← HL.out]; exact hq)]
          have HCz : Hid (∀ wx, Calls Tryd.prog 41 #[.agg #[.int .i64 z.code, .int .i64 z.value, .string z.path]] wx fun e w' => e = .returned (.agg #[.int .i64 z.code, .int .i64 z.value, .string z.path]) ∧ Ext wx w') := fun wx => HC.out _ _ _ wx HPz.out
          go_wp2_with (at_len; refine wpList_len_own _ rfl _ 59 rfl 2 84 Tryd.underlying59 _ b3 n3 _ rfl HM.out ?_; rw [hsz])
          refine (HCz.out _).mono ?_
          rintro e w4 ⟨rfl, hb4⟩
          have HE4 : Hid (Ext w w4) := HE3.out.trans hb4
          obtain ⟨x, ⟨x0, x1, x2, x3⟩, y0, y1, y2, y3⟩ := HB3.out.ext hb4
          clear hb4 vl v0 v1 v2 v3 HV3 HB3
          go_wp2
          exact bodyPost_ret (v := yr 0 z.code z.value z.path) (by simp [results, Tryd.results23, go_sem, yr, x0, x1, x2, x3]) rfl ⟨by rw [← HRz.out]; rfl, four0 HE4.out _ _ _ _⟩
        · have HRz : Hid (believeK f zs (zs.drop (k + 1)) = R) := by show _ = _; rw [← HRk.out, believeK_no HZ.out (by rw [← HL.out]; exact hq)]
          go_wp2_with (at_len; refine wpList_len_own _ rfl _ 59 rfl 2 84 Tryd.underlying59 _ b3 n3 _ rfl HM.out ?_; rw [hsz])
          exact ⟨⟨k + 1, by omega, by go_num, HRz, HB3, HE3⟩, by simp [intOf]; omega⟩
      · have HRz : Hid ((10, 0, 0, ⟨#[]⟩) = R) := by show _ = _; rw [← HRk.out, believeK_end (by omega)]
        obtain ⟨x, ⟨x0, x1, x2, x3⟩, y0, y1, y2, y3⟩ := HB.out
        go_wp2
        exact bodyPost_ret (v := yr 10 0 0 ⟨#[]⟩) (by simp [results, Tryd.results23, go_sem, yr, x0, x1, x2, x3]) rfl ⟨by rw [← HRz.out]; rfl, four0 HE.out _ _ _ _⟩
  · rw [believe_bad rfl hc]
    clear HV0
    have g2 : (fault f zs != 0) = true := by simpa using hc
    clear hc
    generalize fault f zs = k at *
    go_enter Tryd.func23, Tryd.ntmps23
    go_wp2_with fail
    refine (HF.out _ ((Ext.refl _).alloc _)).mono ?_
    rintro e w2 ⟨rfl, hb⟩
    have HE2 : Hid (Ext w w2) := ((Ext.refl _).alloc _).trans hb
    obtain ⟨x, ⟨x0, x1, x2, x3⟩, y0, y1, y2, y3⟩ := (y4_new w (.int .i64 0) (.int .i64 0) (.int .i64 0) (.string ByteArray.empty) _).ext hb
    clear hb
    go_wp2
    exact bodyPost_ret (v := yr k 0 0 ⟨#[]⟩) (by simp [results, Tryd.results23, go_sem, yr, x0, x1, x2, x3]) rfl ⟨rfl, four0 HE2.out _ _ _ _⟩

set_option maxHeartbeats 2000000 in
set_option maxRecDepth 100000 in
theorem implAcceptOf_any (f : Int) (v : Value) (zs : List Vt) (w : World) (hS : VtSlice w v zs) (hz : ∀ z ∈ zs, z.path.size ≤ maxLen) :
    Calls Tryd.prog 12 #[.int .i64 f, v] w fun e w' => e = .returned (yrT (believe f zs)) ∧ Ext w w' := by
  have HF : Hid (∀ wx, Ext w wx → Calls Tryd.prog 23 #[.int .i64 f, v] wx fun e w' => e = .returned (yrT (believe f zs)) ∧ Ext wx w') := fun wx he => believe_any f v zs wx (hS.ext he) hz
  obtain ⟨a, cap, rfl, -, -, -⟩ := hS
  clear hz
  generalize believe f zs = R at *
  obtain ⟨c, d, n, p⟩ := R
  unfold yrT yr at *
  go_enter Tryd.func12, Tryd.ntmps12
  go_wp2_with fail
  refine (HF.out _ ((Ext.refl _).alloc _)).mono ?_
  rintro e w2 ⟨rfl, hb⟩
  have HE2 : Hid (Ext w w2) := ((Ext.refl _).alloc _).trans hb
  obtain ⟨x, ⟨x0, x1, x2, x3⟩, y0, y1, y2, y3⟩ := (y4_new w (.int .i64 0) (.int .i64 0) (.int .i64 0) (.string ByteArray.empty) _).ext hb
  clear hb
  go_wp2
  exact bodyPost_ret (v := .agg #[.int .i64 c, .int .i64 d, .int .i64 n, .string p]) (by simp [results, Tryd.results12, go_sem, x0, x1, x2, x3]) rfl ⟨rfl, four0 HE2.out _ _ _ _⟩

set_option maxHeartbeats 8000000 in
set_option maxRecDepth 100000 in
theorem specAcceptOf_any (f : Int) (v : Value) (zs : List Vt) (w : World) (hS : VtSlice w v zs) (hz : ∀ z ∈ zs, z.path.size ≤ maxLen) :
    Calls Tryd.prog 13 #[.int .i64 f, v] w fun e w' => e = .returned (yrT (believe f zs)) ∧ Ext w w' := by
  have HF : Hid (∀ wx, Ext w wx → Calls Tryd.prog 24 #[.int .i64 f, v] wx fun e w' => e = .returned (.int .i64 (fault f zs)) ∧ Ext wx w') := fun wx he => l14Fault_any f v zs wx (hS.ext he) hz
  have HV0 : Hid (1 ≤ f → f ≤ 2 → zs.length ≤ 40 → ∀ (c r : Int) (p : ByteArray) wx, Ext w wx → Calls Tryd.prog 25 #[.int .i64 f, v, yagg c r p] wx fun e w' => ∃ vo g, e = .returned vo ∧ wx.heap.size ≤ g ∧ Led.IOwn w' vo g (voters f zs c r p) ∧ Ext wx w') := fun h0 h1 h2 c r p wx he => l14Voters_any f c r p v zs wx (hS.ext he) h0 h1 h2
  obtain ⟨a, cap, rfl, hlc, hcm, hx⟩ := hS
  have HX : Hid (0 < zs.length → ∃ b off, a = some ⟨b, off, none⟩ ∧ b < w.heap.size ∧ VtsAt w b off zs) := hx
  clear hx
  unfold maxLen at hcm
  unfold yagg at *
  by_cases hc : fault f zs = 0
  · rw [believe_ok hc]
    obtain ⟨hf0, hf1, hlen, ha⟩ := fault_zero hc
    rw [hc] at HF
    have HV : Hid _ := HV0.out hf0 hf1 hlen
    clear HV0 hc ha hz
    obtain ⟨R, hR⟩ : ∃ R, R = believeK f zs zs := ⟨_, rfl⟩
    rw [← hR]
    have HR0 : Hid (believeK f zs (zs.drop 0) = R) := by rw [hR]; rfl
    clear hR
    go_enter Tryd.func13, Tryd.ntmps13
    go_wp2_with fail
    refine (HF.out _ ((Ext.refl _).alloc _)).mono ?_
    rintro e w2 ⟨rfl, hb⟩
    have HE2 : Hid (Ext w w2) := ((Ext.refl _).alloc _).trans hb
    have HZ2 : Hid (Y4 w2 w.heap.size (.int .i64 0) (.int .i64 0) (.int .i64 0) (.string ByteArray.empty)) := (y4_new w _ _ _ _ _).ext hb
    clear hb
    go_wp2
    go_loopw [6] (fun i wr => ∃ (k : Nat), k ≤ zs.length ∧ i = .int .i64 k ∧ Hid (believeK f zs (zs.drop k) = R) ∧ Hid (Y4 wr w.heap.size (.int .i64 0) (.int .i64 0) (.int .i64 0) (.string ByteArray.empty)) ∧ Hid (Ext w wr)) (fun i _ => zs.length - (intOf i).toNat)
    case atStart => exact ⟨0, Nat.zero_le _, rfl, HR0, HZ2, HE2⟩
    case round =>
      obtain ⟨k, hk, rfl, HRk, HB, HE⟩ := hrel
      by_cases hlt : k < zs.length
      · obtain ⟨z, hzk⟩ : ∃ z, zs[k]? = some z := ⟨_, List.getElem?_eq_getElem hlt⟩
        obtain ⟨b, off, rfl, hb, hN⟩ := HX.out (by omega)
        have HNt : Hid (∀ wx, Ext w wx → VtAt wx b (off + k * 4) z) := fun wx he => hN.ext hb he k z hzk
        obtain ⟨d0, d1, d2, d3⟩ := HNt.out _ HE.out
        have HZ : Hid (zs[k]? = some z) := hzk
        have hvl := @voters_len f zs z.code z.value z.path hf1
        obtain ⟨l, hl⟩ : ∃ l, l = voters f zs z.code z.value z.path := ⟨_, rfl⟩
        have HVz : Hid (∀ wx, Ext w wx → Calls Tryd.prog 25 #[.int .i64 f, .slice (some ⟨b, off, none⟩) zs.length cap, .agg #[.int .i64 z.code, .int .i64 z.value, .string z.path]] wx fun e w' => ∃ vo g, e = .returned vo ∧ wx.heap.size ≤ g ∧ Led.IOwn w' vo g l ∧ Ext wx w') := by rw [hl]; exact fun wx he => HV.out _ _ _ wx he
        have HL : Hid (l = voters f zs z.code z.value z.path) := hl
        rw [← hl] at hvl
        clear hzk hN hl HV
        go_wp2_with fail
        refine (HVz.out _ HE.out).mono ?_
        rintro e w3 ⟨vo, g3, rfl, -, hO, hb3⟩
        obtain ⟨a8, c8, rfl, -⟩ := id hO
        have HE3 : Hid (Ext w w3) := HE.out.trans hb3
        obtain ⟨d0, d1, d2, d3⟩ := HNt.out _ HE3.out
        have HB3 : Hid (Y4 w3 w.heap.size (.int .i64 0) (.int .i64 0) (.int .i64 0) (.string ByteArray.empty)) := HB.out.ext hb3
        clear hb3 hO HB HE HVz
        by_cases hq : f < (l.length : Int)
        · have HRz : Hid ((0, z.code, z.value, z.path) = R) := by show _ = _; rw [← HRk.out, believeK_yes HZ.out (by rw [← HL.out]; exact hq)]
          obtain ⟨x, ⟨x0, x1, x2, x3⟩, y0, y1, y2, y3⟩ := HB3.out
          go_wp2
          exact bodyPost_ret (v := yr 0 z.code z.value z.path) (by simp [results, Tryd.results13, go_sem, yr, x0, x1, x2, x3]) rfl ⟨by rw [← HRz.out]; rfl, four0 HE3.out _ _ _ _⟩
        · have HRz : Hid (believeK f zs (zs.drop (k + 1)) = R) := by show _ = _; rw [← HRk.out, believeK_no HZ.out (by rw [← HL.out]; exact hq)]
          go_wp2
          exact ⟨⟨k + 1, by omega, by go_num, HRz, HB3, HE3⟩, by simp [intOf]; omega⟩
      · have HRz : Hid ((10, 0, 0, ⟨#[]⟩) = R) := by show _ = _; rw [← HRk.out, believeK_end (by omega)]
        obtain ⟨x, ⟨x0, x1, x2, x3⟩, y0, y1, y2, y3⟩ := HB.out
        go_wp2
        exact bodyPost_ret (v := yr 10 0 0 ⟨#[]⟩) (by simp [results, Tryd.results13, go_sem, yr, x0, x1, x2, x3]) rfl ⟨by rw [← HRz.out]; rfl, four0 HE.out _ _ _ _⟩
  · rw [believe_bad rfl hc]
    clear HV0
    have g2 : (fault f zs != 0) = true := by simpa using hc
    clear hc
    generalize fault f zs = k at *
    go_enter Tryd.func13, Tryd.ntmps13
    go_wp2_with fail
    refine (HF.out _ ((Ext.refl _).alloc _)).mono ?_
    rintro e w2 ⟨rfl, hb⟩
    have HE2 : Hid (Ext w w2) := ((Ext.refl _).alloc _).trans hb
    obtain ⟨x, ⟨x0, x1, x2, x3⟩, y0, y1, y2, y3⟩ := (y4_new w (.int .i64 0) (.int .i64 0) (.int .i64 0) (.string ByteArray.empty) _).ext hb
    clear hb
    go_wp2
    exact bodyPost_ret (v := yr k 0 0 ⟨#[]⟩) (by simp [results, Tryd.results13, go_sem, yr, x0, x1, x2, x3]) rfl ⟨rfl, four0 HE2.out _ _ _ _⟩
end Vot
end Go.Proofs.YtfgjodnjahhanaaDoor
