/- the program's markFault, StateFault. -/
import Derived.Test.YtdjnkchaapcjpaaGreatDoorN3
import Derived.Deep.RegionHeld3
namespace Go.Proofs.YtdjnkchaapcjpaaGreatDoor
open Go.RowKit
theorem okM_0 {m : Mk} (h : Ses.idOk m.client = false) : okM m = false := by unfold okM; rw [h]; rfl
theorem okM_1 {m : Mk} (h : okNum m.number = false) : okM m = false := by unfold okM; rw [h]; simp
theorem okM_2 {m : Mk} (h : okY m.code m.value m.path = false) : okM m = false := by unfold okM; rw [h]; simp
theorem okM_3 {m : Mk} (h0 : Ses.idOk m.client = true) (h1 : okNum m.number = true) (h2 : okY m.code m.value m.path = true) : okM m = true := by unfold okM; rw [h0, h1, h2]; rfl
/-- The code of one mark behind those ahead. -/
def markC (m : Mk) (ah : List Mk) : Int := if okM m = false then 3 else if ah.any (keyM m.client m.number) = true then 6 else 0

set_option maxHeartbeats 2000000 in
set_option maxRecDepth 100000 in
theorem markFault_any (z : Mk) (v : Value) (l : List Mk) (w : World) (hp : z.path.size ≤ maxLen) (hS : MSlice w v l) :
    Calls Tryz.prog 50 #[magg z, v] w fun e w' => e = .returned (.int .i64 (markC z l)) ∧ Ext w w' := by
  have HC : Hid (∀ wx : World, Calls Tryz.prog 74 #[.int .i64 z.client, .int .i64 1, .int .i64 9] wx fun e w' => e = .returned (.bool (Ses.idOk z.client)) ∧ w' = wx) := fun wx => within_any _ _ _ _
  have HN : Hid (∀ wx : World, Calls Tryz.prog 74 #[.int .i64 z.number, .int .i64 1, .int .i64 99] wx fun e w' => e = .returned (.bool (okNum z.number)) ∧ w' = wx) := fun wx => within_any _ _ _ _
  have HY : Hid (∀ wx : World, Calls Tryz.prog 109 #[.agg #[.int .i64 z.code, .int .i64 z.value, .string z.path]] wx fun e w' => e = .returned (.bool (okY z.code z.value z.path)) ∧ Ext wx w') := fun wx => isReply_any z.code z.value z.path wx hp
  have HM : Hid (∀ wx : World, Ext w wx → Calls Tryz.prog 54 #[v, .int .i64 z.client, .int .i64 z.number] wx fun e w' => ∃ p, e = .returned (.pointer p) ∧ FoundM wx l z.client z.number p ∧ Ext wx w') := fun wx he => findMark_any v l z.client z.number wx (hS.ext he)
  obtain ⟨a, cap, rfl, -⟩ := hS
  obtain ⟨R, hR⟩ : ∃ R, R = markC z l := ⟨_, rfl⟩
  have HR : Hid (R = markC z l) := hR
  rw [← hR]
  clear hR
  cases hc : Ses.idOk z.client with
  | false =>
    have HF : Hid (R = 3) := by show _ = _; rw [HR.out, markC, if_pos (okM_0 hc)]
    rw [hc] at HC
    clear hc HR
    unfold magg
    go_enter Tryz.func50, Tryz.ntmps50
    go_wp2_with fail
    refine (HC.out _).mono ?_
    rintro e w1 ⟨rfl, hw⟩
    rw [hw]
    clear hw w1
    go_wp2
    go_ret
    exact ⟨ret_int HF.out.symm, (Ext.refl _).alloc _⟩
  | true =>
  cases hn : okNum z.number with
  | false =>
    have HF : Hid (R = 3) := by show _ = _; rw [HR.out, markC, if_pos (okM_1 hn)]
    rw [hc] at HC
    rw [hn] at HN
    clear hc hn HR
    unfold magg
    go_enter Tryz.func50, Tryz.ntmps50
    go_wp2_with fail
    refine (HC.out _).mono ?_
    rintro e w1 ⟨rfl, hw⟩
    rw [hw]
    clear hw w1
    go_wp2_with fail
    refine (HN.out _).mono ?_
    rintro e w1 ⟨rfl, hw⟩
    rw [hw]
    clear hw w1
    go_wp2
    go_ret
    exact ⟨ret_int HF.out.symm, (Ext.refl _).alloc _⟩
  | true =>
  cases hy : okY z.code z.value z.path with
  | false =>
    have HF : Hid (R = 3) := by show _ = _; rw [HR.out, markC, if_pos (okM_2 hy)]
    rw [hc] at HC
    rw [hn] at HN
    rw [hy] at HY
    clear hc hn hy HR
    unfold magg
    go_enter Tryz.func50, Tryz.ntmps50
    go_wp2_with fail
    refine (HC.out _).mono ?_
    rintro e w1 ⟨rfl, hw⟩
    rw [hw]
    clear hw w1
    go_wp2_with fail
    refine (HN.out _).mono ?_
    rintro e w1 ⟨rfl, hw⟩
    rw [hw]
    clear hw w1
    go_wp2_with fail
    refine (HY.out _).mono ?_
    rintro e w1 ⟨rfl, hb⟩
    have HB : Hid (Ext w w1) := ((Ext.refl _).alloc _).trans hb
    clear hb
    go_wp2
    go_ret
    exact ⟨ret_int HF.out.symm, HB.out⟩
  | true =>
    have HD : Hid (R = if l.any (keyM z.client z.number) = true then 6 else 0) := by show _ = _; rw [HR.out, markC, if_neg (by rw [okM_3 hc hn hy]; decide)]
    rw [hc] at HC
    rw [hn] at HN
    rw [hy] at HY
    clear hc hn hy HR
    unfold magg
    go_enter Tryz.func50, Tryz.ntmps50
    go_wp2_with fail
    refine (HC.out _).mono ?_
    rintro e w1 ⟨rfl, hw⟩
    rw [hw]
    clear hw w1
    go_wp2_with fail
    refine (HN.out _).mono ?_
    rintro e w1 ⟨rfl, hw⟩
    rw [hw]
    clear hw w1
    go_wp2_with fail
    refine (HY.out _).mono ?_
    rintro e w1 ⟨rfl, hb⟩
    have HB : Hid (Ext w w1) := ((Ext.refl _).alloc _).trans hb
    obtain ⟨q, ⟨q0, q1, q2, q3, q4⟩, -⟩ := (mbox_new w z _).ext hb
    clear hb
    go_wp2_with fail
    refine (HM.out _ HB.out).mono ?_
    rintro e w2 ⟨p, rfl, hp2, hb⟩
    have HB2 : Hid (Ext w w2) := HB.out.trans hb
    clear hb q0 q1 q2 q3 q4 q
    rcases hp2 with ⟨rfl, -, h0⟩ | ⟨b, o, k, y, rfl, -, -, -, -, h1⟩
    · have HF : Hid (R = 0) := by show _ = _; rw [HD.out, if_neg (by rw [h0]; decide)]
      clear h0 HD
      go_wp2
      go_ret
      exact ⟨ret_int HF.out.symm, HB2.out⟩
    · have HF : Hid (R = 6) := by show _ = _; rw [HD.out, if_pos h1]
      clear h1 HD
      go_wp2
      go_ret
      exact ⟨ret_int HF.out.symm, HB2.out⟩

theorem MSlice.take {w : World} {a : Option Addr} {cap : Nat} {l : List Mk} (h : MSlice w (.slice a l.length cap) l) (k : Nat) (hk : k ≤ l.length) : MSlice w (.slice a k cap) (l.take k) := by
  obtain ⟨a', cap', e, h2, h3, h4⟩ := h
  injection e with e1 e2 e3
  subst e1 e3
  have hlen : (l.take k).length = k := by simp; omega
  refine ⟨a, cap, by rw [hlen], by rw [hlen]; omega, h3, fun h0 => ?_⟩
  obtain ⟨b, off, e, hb, hN⟩ := h4 (by omega)
  refine ⟨b, off, e, hb, fun i z hz => hN i z ?_⟩
  rw [List.getElem?_take] at hz
  split at hz
  · exact hz
  · cases hz

set_option maxHeartbeats 4000000 in
set_option maxRecDepth 100000 in
theorem implStateFault_any (s : Stt) (vn vs vm : Value) (w : World) (hg : Gd w) (hz : s.fits) (hS : SSlice w vn vs vm s) :
    Calls Tryz.prog 12 #[sagg vn vs s.now vm] w fun e w' => e = .returned (.int .i64 (Sta.fault s)) ∧ Ext w w' := by
  have HT : Hid (∀ wx : World, Ext w wx → Calls Tryz.prog 47 #[vn] wx fun e w' => e = .returned (.int .i64 (Tre.fault s.nodes)) ∧ Ext wx w') := fun wx he => implTreeFault_any vn s.nodes wx (hg.ext he) (hS.1.ext he)
  have HE : Hid (∀ wx : World, Ext w wx → Calls Tryz.prog 48 #[vs] wx fun e w' => e = .returned (.int .i64 (Ses.fault s.ses)) ∧ Ext wx w') := fun wx he => implSessionsFault_any vs s.ses wx (hS.2.1.ext he)
  have HU : Hid (∀ wx : World, Calls Tryz.prog 49 #[.int .i64 s.now, .int .i64 9000] wx fun e w' => e = .returned (.bool (Ses.nowOk s.now)) ∧ w' = wx) := fun wx => upTo_any _ _ _
  have HS : Hid (SSlice w vn vs vm s) := hS
  have HZ : Hid s.fits := hz
  obtain ⟨⟨an, cn, rfl, -⟩, ⟨ae, cs, rfl, -⟩, ⟨am, cm, rfl, hml, hmm, hmx⟩⟩ := hS
  have HX : Hid (0 < s.marks.length → ∃ b off, am = some ⟨b, off, none⟩ ∧ b < w.heap.size ∧ MksAt w b off s.marks) := hmx
  clear hmx hz hg
  unfold maxLen at hmm
  obtain ⟨R, hR⟩ : ∃ R, R = Sta.fault s := ⟨_, rfl⟩
  have HR : Hid (R = Sta.fault s) := hR
  rw [← hR]
  clear hR
  generalize ht : Tre.fault s.nodes = ct at *
  generalize hs : Ses.fault s.ses = ce at *
  generalize hn : Ses.nowOk s.now = cn0 at *
  have T0 : Hid (Tre.fault s.nodes = ct) := ht
  have T1 : Hid (Ses.fault s.ses = ce) := hs
  have T2 : Hid (Ses.nowOk s.now = cn0) := hn
  clear ht hs hn
  unfold sagg
  go_enter Tryz.func12, Tryz.ntmps12
  go_wp2_with fail
  refine (HT.out _ ((Ext.refl _).alloc _)).mono ?_
  rintro e w1 ⟨rfl, hb⟩
  have HB : Hid (Ext w w1) := ((Ext.refl _).alloc _).trans hb
  have XB : Hid (SBoxAt w1 w.heap.size (.slice an s.nodes.length cn) (.slice ae s.ses.length cs) (.int .i64 s.now) (.slice am s.marks.length cm)) := (sbox_new _ _ _ _ _ _).ext hb
  clear hb
  obtain ⟨q0, ⟨c0, c1, c2, c3⟩, -, -, -, -⟩ := XB.out
  by_cases h0 : ct = 0
  rotate_left
  · have HF : Hid (R = ct) := by show _ = _; rw [HR.out, Sta.fault_t (by rw [T0.out]; exact h0), T0.out]
    go_wp2
    go_ret
    exact ⟨ret_int HF.out.symm, HB.out⟩
  subst h0
  go_wp2_with fail
  refine (HE.out _ HB.out).mono ?_
  rintro e w2 ⟨rfl, hb⟩
  have HB2 : Hid (Ext w w2) := HB.out.trans hb
  have XB2 : Hid (SBoxAt w2 w.heap.size (.slice an s.nodes.length cn) (.slice ae s.ses.length cs) (.int .i64 s.now) (.slice am s.marks.length cm)) := XB.out.ext hb
  clear hb XB HB q0 c0 c1 c2 c3
  obtain ⟨q0, ⟨c0, c1, c2, c3⟩, -, -, -, -⟩ := XB2.out
  by_cases h1 : ce = 0
  rotate_left
  · have HF : Hid (R = ce) := by show _ = _; rw [HR.out, Sta.fault_e T0.out (by rw [T1.out]; exact h1), T1.out]
    go_wp2
    go_ret
    exact ⟨ret_int HF.out.symm, HB2.out⟩
  subst h1
  go_wp2_with fail
  refine (HU.out _).mono ?_
  rintro e w3 ⟨rfl, hw⟩
  rw [hw]
  clear hw w3
  cases cn0 with
  | false =>
    have HF : Hid (R = 3) := by show _ = _; rw [HR.out, Sta.fault_n T0.out T1.out T2.out]
    go_wp2
    go_ret
    exact ⟨ret_int HF.out.symm, HB2.out⟩
  | true =>
  by_cases h40 : 40 < s.marks.length
  · have HF : Hid (R = 2) := by show _ = _; rw [HR.out, Sta.fault_m T0.out T1.out T2.out h40]
    go_wp2
    go_ret
    exact ⟨ret_int HF.out.symm, HB2.out⟩
  have HF : Hid (markFrom [] s.marks = R) := by show _ = _; rw [HR.out, Sta.fault_r T0.out T1.out T2.out h40]
  clear HR T0 T1 T2 HT HE HU
  have HK : Hid (∀ (z : Mk) (k : Nat) (wx : World), Ext w wx → z ∈ s.marks → k ≤ s.marks.length → Calls Tryz.prog 50 #[magg z, .slice am k cm] wx fun e w' => e = .returned (.int .i64 (markC z (s.marks.take k))) ∧ Ext wx w') := fun z k wx he hzm hk => markFault_any z _ _ wx (HZ.out.2 z hzm) ((HS.out.2.2.ext he).take k hk)
  go_wp2
  go_loopw [31] (fun i wr => ∃ (k : Nat), k ≤ s.marks.length ∧ i = .int .i64 k ∧ Hid (markFrom (s.marks.take k) (s.marks.drop k) = R) ∧ Hid (SBoxAt wr w.heap.size (.slice an s.nodes.length cn) (.slice ae s.ses.length cs) (.int .i64 s.now) (.slice am s.marks.length cm)) ∧ Hid (Ext w wr)) (fun i _ => s.marks.length - (intOf i).toNat)
  case atStart => exact ⟨0, Nat.zero_le _, rfl, HF.out, XB2.out, HB2.out⟩
  clear XB2 HB2 q0 c0 c1 c2 c3
  obtain ⟨k, hk, rfl, HA, XB, HB⟩ := hrel
  obtain ⟨q0, ⟨c0, c1, c2, c3⟩, -, -, -, -⟩ := XB.out
  by_cases hlt : k < s.marks.length
  · obtain ⟨z, hzk⟩ : ∃ z, s.marks[k]? = some z := ⟨_, List.getElem?_eq_getElem hlt⟩
    obtain ⟨b, off, rfl, hb, hN⟩ := HX.out (by omega)
    obtain ⟨d0, d1, d2, d3, d4⟩ := hN.ext hb HB.out k z hzk
    have hat := markFrom_at hzk
    have HC : Hid (∀ wx : World, Ext w wx → Calls Tryz.prog 50 #[magg z, .slice (some ⟨b, off, none⟩) k cm] wx fun e w' => e = .returned (.int .i64 (markC z (s.marks.take k))) ∧ Ext wx w') := fun wx he => HK.out z k wx he (List.mem_of_getElem? hzk) hk
    unfold magg at HC
    obtain ⟨C, hC⟩ : ∃ C, C = markC z (s.marks.take k) := ⟨_, rfl⟩
    have HCC : Hid (C = markC z (s.marks.take k)) := hC
    rw [← hC] at HC
    have HAT : Hid (C ≠ 0 → R = C) := fun h => by
      rw [← HA.out, hat, HCC.out]
      rw [HCC.out] at h
      unfold markC at h ⊢
      split <;> rename_i g
      · rfl
      · rw [if_neg g] at h
        split <;> rename_i g2
        · rfl
        · rw [if_neg g2] at h; exact absurd rfl h
    have HAZ : Hid (C = 0 → markFrom (s.marks.take (k + 1)) (s.marks.drop (k + 1)) = R) := fun h => by
      rw [← HA.out, hat]
      rw [HCC.out] at h
      unfold markC at h
      split at h <;> rename_i g
      · cases h
      · split at h <;> rename_i g2
        · cases h
        · rw [if_neg g, if_neg g2]
    clear hat hC HCC hzk hN
    go_wp2
    have mb := mbox_new wr z 89
    have xb : SBoxAt (wr.alloc (Obj.cells #[.int .i64 z.client, .int .i64 z.number, .int .i64 z.code, .int .i64 z.value, .string z.path] 89)) w.heap.size (.slice an s.nodes.length cn) (.slice ae s.ses.length cs) (.int .i64 s.now) (.slice (some ⟨b, off, none⟩) s.marks.length cm) := XB.out.ext ((Ext.refl wr).alloc _)
    have eb : Ext w (wr.alloc (Obj.cells #[.int .i64 z.client, .int .i64 z.number, .int .i64 z.code, .int .i64 z.value, .string z.path] 89)) := HB.out.alloc _
    generalize wr.alloc (Obj.cells #[.int .i64 z.client, .int .i64 z.number, .int .i64 z.code, .int .i64 z.value, .string z.path] 89) = W1 at *
    have EB : Hid (Ext w W1) := eb
    have XC : Hid (SBoxAt W1 w.heap.size (.slice an s.nodes.length cn) (.slice ae s.ses.length cs) (.int .i64 s.now) (.slice (some ⟨b, off, none⟩) s.marks.length cm)) := xb
    have MB : Hid (MBoxAt W1 wr.heap.size z) := mb
    obtain ⟨ml, ⟨m0, m1, m2, m3, m4⟩, -⟩ := mb
    have i0 : (0 : Int) ≤ (k : Int) := by omega
    have i1 : (k : Int) ≤ (cm : Int) := by omega
    obtain ⟨xl, ⟨x0, x1, x2, x3⟩, -⟩ := xb
    clear eb XB HB q0 c0 c1 c2 c3 d0 d1 d2 d3 d4
    go_region_held3 (fun W => W.cell? ⟨wr.heap.size, 0, none⟩ = some (.int .i64 z.client) ∧ W.cell? ⟨wr.heap.size, 1, none⟩ = some (.int .i64 z.number) ∧ W.cell? ⟨wr.heap.size, 2, none⟩ = some (.int .i64 z.code) ∧ W.cell? ⟨wr.heap.size, 3, none⟩ = some (.int .i64 z.value) ∧ W.cell? ⟨wr.heap.size, 4, none⟩ = some (.string z.path) ∧ W.cell? ⟨w.heap.size, 3, none⟩ = some (.slice (some ⟨b, off, none⟩) s.marks.length cm)) (first | exact ⟨m0, m1, m2, m3, m4, x3⟩ | exact ⟨n0, n1, n2, n3, n4, y3⟩ | go_keep) (first | (have tk := EB; clear tk; go_at_call 50; refine (HC.out _ (by first | exact EB.out.drew | exact EB.out)).mono ?_; rintro e w3 ⟨rfl, hb3⟩; have hb4 : Hid (Ext W1 w3) := (by first | exact ((Ext.refl _).drew).trans hb3 | exact hb3); have HB3 : Hid (Ext w w3) := EB.out.trans hb4.out; have XB3 : Hid (SBoxAt w3 w.heap.size (.slice an s.nodes.length cn) (.slice ae s.ses.length cs) (.int .i64 s.now) (.slice (some ⟨b, off, none⟩) s.marks.length cm)) := XC.out.ext hb4.out; obtain ⟨nl, ⟨n0, n1, n2, n3, n4⟩, -⟩ := MB.out.ext hb4.out; obtain ⟨yl, ⟨y0, y1, y2, y3⟩, -⟩ := XB3.out; clear hb3 hb4 EB XC MB m0 m1 m2 m3 m4 x0 x1 x2 x3))
    by_cases h0 : C = 0
    · have HA2 : Hid _ := HAZ.out h0
      subst h0
      go_wp2
      exact ⟨⟨k + 1, by omega, by go_num, HA2, XB3, HB3⟩, by simp [intOf]; omega⟩
    · have HG : Hid (R = C) := HAT.out h0
      go_wp2
      go_ret
      exact ⟨ret_int HG.out.symm, HB3.out⟩
  · have HG : Hid (R = 0) := by show _ = _; rw [← HA.out, List.drop_of_length_le (by omega), markFrom]
    go_wp2
    go_ret
    exact ⟨ret_int HG.out.symm, HB.out⟩
end Go.Proofs.YtdjnkchaapcjpaaGreatDoor
