/- the specification's l6Mark, l6Reply, l6Fault, StateFault. -/
import Derived.Test.YtdjnkchaapcjpaaGreatDoorN0
import Derived.Test.YtdjnkchaapcjpaaGreatDoorE4
namespace Go.Proofs.YtdjnkchaapcjpaaGreatDoor
open Go.RowKit
set_option maxHeartbeats 2000000 in
set_option maxRecDepth 100000 in
theorem l6Mark_any (B : Nat) (am : Option Addr) (cm : Nat) (l : List Mk) (c n : Int) (w : World) (hc : w.cell? ⟨B, 3, none⟩ = some (.slice am l.length cm)) (hS : MSlice w (.slice am l.length cm) l) :
    Calls Tryz.prog 53 #[.pointer (some ⟨B, 0, none⟩), .int .i64 c, .int .i64 n] w fun e w' => e = .returned (.int .i64 (idxM c n 0 l)) ∧ Ext w w' := by
  obtain ⟨a, cap, e, hlc, hcm, hx⟩ := hS
  injection e with e1 e2 e3
  subst e1 e3
  have HX : Hid (0 < l.length → ∃ b off, am = some ⟨b, off, none⟩ ∧ b < w.heap.size ∧ MksAt w b off l) := hx
  have hB := World.block_lt_of_cell? w _ hc
  have HB0 : Hid (∀ wx : World, Ext w wx → wx.cell? ⟨B, 3, none⟩ = some (.slice am l.length cm)) := fun wx he => ((Ext.cell he).1 _ _ hB).trans hc
  clear hx e2
  unfold maxLen at hcm
  go_enter Tryz.func53, Tryz.ntmps53
  go_wp2
  go_loopw [7] (fun i wr => ∃ (k : Nat), k ≤ l.length ∧ i = .int .i64 k ∧ Hid (idxM c n k (l.drop k) = idxM c n 0 l) ∧ Hid (Ext w wr)) (fun i _ => l.length - (intOf i).toNat)
  case atStart => exact ⟨0, Nat.zero_le _, rfl, rfl, Ext.refl _⟩
  clear hc
  obtain ⟨k, hk, rfl, HA, HE⟩ := hrel
  have hc := HB0.out _ HE.out
  by_cases hlt : k < l.length
  · obtain ⟨z, hzk⟩ : ∃ z, l[k]? = some z := ⟨_, List.getElem?_eq_getElem hlt⟩
    obtain ⟨b, off, rfl, hb, hN⟩ := HX.out (by omega)
    obtain ⟨d0, d1, d2, d3, d4⟩ := hN.ext hb HE.out k z hzk
    have hat := idxM_at (c := c) (n := n) hzk
    clear hzk hN
    by_cases g0 : z.client = c
    · by_cases g1 : z.number = n
      · have HF : Hid (idxM c n 0 l = k) := by show _ = _; rw [← HA.out, hat, if_pos (by simp [keyM, g0, g1])]
        clear hat
        go_wp2
        try go_region
        all_goals
          go_wp2
          go_ret
          first | exact ⟨ret_int HF.out.symm, HE.out⟩ | exact ⟨ret_int HF.out.symm, HE.out.drew⟩
      · have HA2 : Hid (idxM c n (k + 1) (l.drop (k + 1)) = idxM c n 0 l) := by show _ = _; rw [← HA.out, hat, if_neg (by simp [keyM, g1])]
        clear hat
        go_wp2
        try go_region
        all_goals
          go_wp2
          first | exact ⟨⟨k + 1, by omega, by go_num, HA2, HE⟩, by simp [intOf]; omega⟩ | exact ⟨⟨k + 1, by omega, by go_num, HA2, HE.out.drew⟩, by simp [intOf]; omega⟩
    · have HA2 : Hid (idxM c n (k + 1) (l.drop (k + 1)) = idxM c n 0 l) := by show _ = _; rw [← HA.out, hat, if_neg (by simp [keyM, g0])]
      clear hat
      go_wp2
      try go_region
      all_goals
        go_wp2
        first | exact ⟨⟨k + 1, by omega, by go_num, HA2, HE⟩, by simp [intOf]; omega⟩ | exact ⟨⟨k + 1, by omega, by go_num, HA2, HE.out.drew⟩, by simp [intOf]; omega⟩
  · have HF : Hid (idxM c n 0 l = -1) := by show _ = _; rw [← HA.out, List.drop_of_length_le (by omega), idxM]
    go_wp2
    go_ret
    exact ⟨ret_int HF.out.symm, HE.out⟩

set_option maxHeartbeats 1000000 in
set_option maxRecDepth 100000 in
theorem l6Reply_any (b o : Nat) (c v : Int) (p : ByteArray) (w : World) (h0 : w.cell? ⟨b, o, none⟩ = some (.int .i64 c)) (h1 : w.cell? ⟨b, o + 1, none⟩ = some (.int .i64 v)) (h2 : w.cell? ⟨b, o + 2, none⟩ = some (.string p)) (hp : p.size ≤ maxLen) :
    Calls Tryz.prog 103 #[.pointer (some ⟨b, o, none⟩)] w fun e w' => e = .returned (.bool (okY c v p)) ∧ w' = w := by
  unfold maxLen at hp
  have HU : Hid (∀ wx : World, Calls Tryz.prog 102 #[.int .i64 c, .int .i64 0, .int .i64 10] wx fun e w' => e = .returned (.bool (decide (0 ≤ c) && decide (c ≤ 10))) ∧ w' = wx) := fun wx => l1In_any _ _ _ _
  have HW : Hid (∀ wx : World, Calls Tryz.prog 102 #[.int .i64 v, .int .i64 (-1), .int .i64 9999] wx fun e w' => e = .returned (.bool (decide (-1 ≤ v) && decide (v ≤ 9999))) ∧ w' = wx) := fun wx => l1In_any _ _ _ _
  have HD : Hid (okY c v p = ((decide (0 ≤ c) && decide (c ≤ 10)) && ((decide (-1 ≤ v) && decide (v ≤ 9999)) && decide (p.size ≤ 24)))) := rfl
  generalize okY c v p = R at *
  generalize (decide (0 ≤ c) && decide (c ≤ 10)) = b1 at *
  generalize (decide (-1 ≤ v) && decide (v ≤ 9999)) = b2 at *
  cases b1 with
  | false =>
    have HF : Hid (R = false) := HD.out
    go_enter Tryz.func103, Tryz.ntmps103
    go_wp2_with fail
    refine (HU.out _).mono ?_
    rintro e w1 ⟨rfl, hw⟩
    rw [hw]
    clear hw w1
    go_wp2
    go_ret
    exact ⟨ret_bool HF.out.symm, rfl⟩
  | true =>
  cases b2 with
  | false =>
    have HF : Hid (R = false) := HD.out
    go_enter Tryz.func103, Tryz.ntmps103
    go_wp2_with fail
    refine (HU.out _).mono ?_
    rintro e w1 ⟨rfl, hw⟩
    rw [hw]
    clear hw w1
    go_wp2_with fail
    refine (HW.out _).mono ?_
    rintro e w1 ⟨rfl, hw⟩
    rw [hw]
    clear hw w1
    go_wp2
    go_ret
    exact ⟨ret_bool HF.out.symm, rfl⟩
  | true =>
    have HF : Hid (R = decide (p.size ≤ 24)) := by show _ = _; rw [HD.out]; simp
    go_enter Tryz.func103, Tryz.ntmps103
    go_wp2_with fail
    refine (HU.out _).mono ?_
    rintro e w1 ⟨rfl, hw⟩
    rw [hw]
    clear hw w1
    go_wp2_with fail
    refine (HW.out _).mono ?_
    rintro e w1 ⟨rfl, hw⟩
    rw [hw]
    clear hw w1
    go_wp2
    go_ret
    exact ⟨ret_bool (by rw [HF.out]; congr 1; simp; omega), rfl⟩

set_option maxHeartbeats 4000000 in
set_option maxRecDepth 100000 in
theorem l6Fault_any (B : Nat) (s : Stt) (an ae am : Option Addr) (cn cs cm : Nat) (w : World) (hb0 : SBoxAt w B (.slice an s.nodes.length cn) (.slice ae s.ses.length cs) (.int .i64 s.now) (.slice am s.marks.length cm)) (hz : s.fits) (hS : SSlice w (.slice an s.nodes.length cn) (.slice ae s.ses.length cs) (.slice am s.marks.length cm) s) :
    Calls Tryz.prog 44 #[.pointer (some ⟨B, 0, none⟩)] w fun e w' => e = .returned (.int .i64 (Sta.fault s)) ∧ Ext w w' := by
  have HT : Hid (∀ wx : World, Ext w wx → Calls Tryz.prog 98 #[.slice an s.nodes.length cn] wx fun e w' => e = .returned (.int .i64 (Tre.fault s.nodes)) ∧ Ext wx w') := fun wx he => l2Fault_any _ s.nodes wx (hS.1.ext he)
  have HE : Hid (∀ wx : World, Ext w wx → Calls Tryz.prog 99 #[.slice ae s.ses.length cs] wx fun e w' => e = .returned (.int .i64 (Ses.fault s.ses)) ∧ Ext wx w') := fun wx he => l4Fault_any _ s.ses wx (hS.2.1.ext he)
  have HU : Hid (∀ wx : World, Calls Tryz.prog 100 #[.int .i64 s.now] wx fun e w' => e = .returned (.bool (Ses.nowOk s.now)) ∧ w' = wx) := fun wx => l4Now_any _ _
  have HS : Hid (SSlice w (.slice an s.nodes.length cn) (.slice ae s.ses.length cs) (.slice am s.marks.length cm) s) := hS
  have HZ : Hid s.fits := hz
  have XB : Hid (SBoxAt w B (.slice an s.nodes.length cn) (.slice ae s.ses.length cs) (.int .i64 s.now) (.slice am s.marks.length cm)) := hb0
  obtain ⟨am', cm', e, hml, hmm, hmx⟩ := hS.2.2
  injection e with e1 e2 e3
  subst e1 e3
  have HX : Hid (0 < s.marks.length → ∃ b off, am = some ⟨b, off, none⟩ ∧ b < w.heap.size ∧ MksAt w b off s.marks) := hmx
  clear hmx hz hS hb0 e2
  unfold maxLen at hmm
  obtain ⟨R, hR⟩ : ∃ R, R = Sta.fault s := ⟨_, rfl⟩
  have HR : Hid (R = Sta.fault s) := hR
  rw [← hR]
  clear hR
  generalize ht : Tre.fault s.nodes = ct at *
  generalize hs : Ses.fault s.ses = ce at *
  generalize hn : Ses.nowOk s.now = cn0 at *
  have T0 : Hid (Tre.fault s.nodes = ct) := ht
  have T1 : Hid (Ses.fault s.ses = ce) := hs
  have T2 : Hid (Ses.nowOk s.now = cn0) := hn
  clear ht hs hn
  obtain ⟨q0, ⟨c0, c1, c2, c3⟩, -, -, -, -⟩ := XB.out
  go_enter Tryz.func44, Tryz.ntmps44
  go_wp2_with fail
  refine (HT.out _ (Ext.refl _)).mono ?_
  rintro e w1 ⟨rfl, hb⟩
  have HB : Hid (Ext w w1) := hb
  have XN : Hid (SBoxAt w1 B (.slice an s.nodes.length cn) (.slice ae s.ses.length cs) (.int .i64 s.now) (.slice am s.marks.length cm)) := XB.out.ext hb
  clear hb XB q0 c0 c1 c2 c3
  have XB := XN; clear XN
  obtain ⟨q0, ⟨c0, c1, c2, c3⟩, -, -, -, -⟩ := XB.out
  by_cases h0 : ct = 0
  rotate_left
  · have HF : Hid (R = ct) := by show _ = _; rw [HR.out, Sta.fault_t (by rw [T0.out]; exact h0), T0.out]
    go_wp2
    go_ret
    exact ⟨ret_int HF.out.symm, HB.out⟩
  subst h0
  go_wp2_with fail
  refine (HE.out _ HB.out).mono ?_
  rintro e w2 ⟨rfl, hb⟩
  have HB2 : Hid (Ext w w2) := HB.out.trans hb
  have XB2 : Hid (SBoxAt w2 B (.slice an s.nodes.length cn) (.slice ae s.ses.length cs) (.int .i64 s.now) (.slice am s.marks.length cm)) := XB.out.ext hb
  clear hb XB HB q0 c0 c1 c2 c3
  obtain ⟨q0, ⟨c0, c1, c2, c3⟩, -, -, -, -⟩ := XB2.out
  by_cases h1 : ce = 0
  rotate_left
  · have HF : Hid (R = ce) := by show _ = _; rw [HR.out, Sta.fault_e T0.out (by rw [T1.out]; exact h1), T1.out]
    go_wp2
    go_ret
    exact ⟨ret_int HF.out.symm, HB2.out⟩
  subst h1
  go_wp2_with fail
  refine (HU.out _).mono ?_
  rintro e w3 ⟨rfl, hw⟩
  rw [hw]
  clear hw w3
  cases cn0 with
  | false =>
    have HF : Hid (R = 3) := by show _ = _; rw [HR.out, Sta.fault_n T0.out T1.out T2.out]
    go_wp2
    go_ret
    exact ⟨ret_int HF.out.symm, HB2.out⟩
  | true =>
  by_cases h40 : 40 < s.marks.length
  · have HF : Hid (R = 2) := by show _ = _; rw [HR.out, Sta.fault_m T0.out T1.out T2.out h40]
    go_wp2
    go_ret
    exact ⟨ret_int HF.out.symm, HB2.out⟩
  have HF : Hid (markFrom [] s.marks = R) := by show _ = _; rw [HR.out, Sta.fault_r T0.out T1.out T2.out h40]
  clear HR T0 T1 T2 HT HE HU
  have HK : Hid (∀ (c n : Int) (wx : World), Ext w wx → wx.cell? ⟨B, 3, none⟩ = some (.slice am s.marks.length cm) → Calls Tryz.prog 53 #[.pointer (some ⟨B, 0, none⟩), .int .i64 c, .int .i64 n] wx fun e w' => e = .returned (.int .i64 (idxM c n 0 s.marks)) ∧ Ext wx w') := fun c n wx he h => l6Mark_any B am cm s.marks c n wx h (HS.out.2.2.ext he)
  go_wp2
  go_loopw [5] (fun i wr => ∃ (k : Nat), k ≤ s.marks.length ∧ i = .int .i64 k ∧ Hid (markFrom (s.marks.take k) (s.marks.drop k) = R) ∧ Hid (SBoxAt wr B (.slice an s.nodes.length cn) (.slice ae s.ses.length cs) (.int .i64 s.now) (.slice am s.marks.length cm)) ∧ Hid (Ext w wr)) (fun i _ => s.marks.length - (intOf i).toNat)
  case atStart => exact ⟨0, Nat.zero_le _, rfl, HF.out, XB2.out, HB2.out⟩
  clear XB2 HB2 q0 c0 c1 c2 c3
  obtain ⟨k, hk, rfl, HA, XB, HB⟩ := hrel
  obtain ⟨q0, ⟨c0, c1, c2, c3⟩, -, -, -, -⟩ := XB.out
  by_cases hlt : k < s.marks.length
  rotate_left
  · have HG : Hid (R = 0) := by show _ = _; rw [← HA.out, List.drop_of_length_le (by omega), markFrom]
    go_wp2
    go_ret
    exact ⟨ret_int HG.out.symm, HB.out⟩
  obtain ⟨z, hzk⟩ : ∃ z, s.marks[k]? = some z := ⟨_, List.getElem?_eq_getElem hlt⟩
  have hzp := HZ.out.2 z (List.mem_of_getElem? hzk)
  obtain ⟨b, off, rfl, hb, hN⟩ := HX.out (by omega)
  obtain ⟨d0, d1, d2, d3, d4⟩ := hN.ext hb HB.out k z hzk
  have hat := markFrom_at hzk
  have HI : Hid (∀ wx : World, Calls Tryz.prog 101 #[.int .i64 z.client] wx fun e w' => e = .returned (.bool (Ses.idOk z.client)) ∧ w' = wx) := fun wx => l4Id_any _ _
  have HJ : Hid (∀ wx : World, Calls Tryz.prog 102 #[.int .i64 z.number, .int .i64 1, .int .i64 99] wx fun e w' => e = .returned (.bool (okNum z.number)) ∧ w' = wx) := fun wx => l1In_any _ _ _ _
  have HY : Hid (Calls Tryz.prog 103 #[.pointer (some ⟨b, off + k * 5 + 2, none⟩)] wr fun e w' => e = .returned (.bool (okY z.code z.value z.path)) ∧ w' = wr) := l6Reply_any b _ _ _ _ wr d2 d3 d4 hzp
  have HO : Hid _ := idxM_own hzk
  have HAT : Hid _ := hat
  have HMK : Hid (∀ wx : World, Ext wr wx → Calls Tryz.prog 53 #[.pointer (some ⟨B, 0, none⟩), .int .i64 z.client, .int .i64 z.number] wx fun e w' => e = .returned (.int .i64 (idxM z.client z.number 0 s.marks)) ∧ Ext wx w') := fun wx he => HK.out z.client z.number wx (HB.out.trans he) (XB.out.ext he).2.1.2.2.2
  clear hat hzk hN HK hzp
  have HBad : Hid (okM z = false → R = 3) := fun h => by rw [← HA.out, HAT.out, if_pos h]
  cases hc : Ses.idOk z.client with
  | false =>
    have HG : Hid (R = 3) := HBad.out (by unfold okM; rw [hc]; rfl)
    rw [hc] at HI
    clear hc
    go_wp2_with fail
    refine (HI.out _).mono ?_
    rintro e w3 ⟨rfl, hw⟩
    rw [hw]
    clear hw w3
    go_wp2
    go_ret
    exact ⟨ret_int HG.out.symm, HB.out⟩
  | true =>
  cases hn : okNum z.number with
  | false =>
    have HG : Hid (R = 3) := HBad.out (by unfold okM; rw [hn]; simp)
    rw [hc] at HI
    rw [hn] at HJ
    clear hc hn
    go_wp2_with fail
    refine (HI.out _).mono ?_
    rintro e w3 ⟨rfl, hw⟩
    rw [hw]
    clear hw w3
    go_wp2_with fail
    refine (HJ.out _).mono ?_
    rintro e w3 ⟨rfl, hw⟩
    rw [hw]
    clear hw w3
    go_wp2
    go_ret
    exact ⟨ret_int HG.out.symm, HB.out⟩
  | true =>
  cases hy : okY z.code z.value z.path with
  | false =>
    have HG : Hid (R = 3) := HBad.out (by unfold okM; rw [hy]; simp)
    rw [hc] at HI
    rw [hn] at HJ
    rw [hy] at HY
    clear hc hn hy
    go_wp2_with fail
    refine (HI.out _).mono ?_
    rintro e w3 ⟨rfl, hw⟩
    rw [hw]
    clear hw w3
    go_wp2_with fail
    refine (HJ.out _).mono ?_
    rintro e w3 ⟨rfl, hw⟩
    rw [hw]
    clear hw w3
    go_wp2_with fail
    refine (HY.out).mono ?_
    rintro e w3 ⟨rfl, hw⟩
    rw [hw]
    clear hw w3
    go_wp2
    go_ret
    exact ⟨ret_int HG.out.symm, HB.out⟩
  | true =>
    have HG : Hid (okM z = true) := by show _ = _; unfold okM; rw [hc, hn, hy]; rfl
    rw [hc] at HI
    rw [hn] at HJ
    rw [hy] at HY
    clear hc hn hy HBad
    rcases HO.out with ⟨g1, g2⟩ | ⟨g1, g2⟩
    · have HA2 : Hid (markFrom (s.marks.take (k + 1)) (s.marks.drop (k + 1)) = R) := by show _ = _; rw [← HA.out, HAT.out, if_neg (by rw [HG.out]; decide), if_neg (by rw [g2]; decide)]
      rw [g1] at HMK
      clear g1 g2 HO
      go_wp2_with fail
      refine (HI.out _).mono ?_
      rintro e w3 ⟨rfl, hw⟩
      rw [hw]
      clear hw w3
      go_wp2_with fail
      refine (HJ.out _).mono ?_
      rintro e w3 ⟨rfl, hw⟩
      rw [hw]
      clear hw w3
      go_wp2_with fail
      refine (HY.out).mono ?_
      rintro e w3 ⟨rfl, hw⟩
      rw [hw]
      clear hw w3
      go_wp2
      go_region_with (go_at_call 53; refine (HMK.out _ (by first | exact (Ext.refl _).drew | exact Ext.refl _)).mono ?_; rintro e w4 ⟨rfl, hb4⟩)
      all_goals
        have hb5 : Ext wr w4 := by first | exact ((Ext.refl _).drew).trans hb4 | exact hb4
        have HB4 : Hid (Ext w w4) := HB.out.trans hb5
        have XB4 : Hid (SBoxAt w4 B (.slice an s.nodes.length cn) (.slice ae s.ses.length cs) (.int .i64 s.now) (.slice (some ⟨b, off, none⟩) s.marks.length cm)) := XB.out.ext hb5
        clear hb4 hb5
        go_wp2
        exact ⟨⟨k + 1, by omega, by go_num, HA2, XB4, HB4⟩, by simp [intOf]; omega⟩
    · have HF6 : Hid (R = 6) := by show _ = _; rw [← HA.out, HAT.out, if_neg (by rw [HG.out]; decide), if_pos g2]
      generalize idxM z.client z.number 0 s.marks = I at *
      have hI : (I != (k : Int)) = true := by simpa using g1
      clear g2 HO
      go_wp2_with fail
      refine (HI.out _).mono ?_
      rintro e w3 ⟨rfl, hw⟩
      rw [hw]
      clear hw w3
      go_wp2_with fail
      refine (HJ.out _).mono ?_
      rintro e w3 ⟨rfl, hw⟩
      rw [hw]
      clear hw w3
      go_wp2_with fail
      refine (HY.out).mono ?_
      rintro e w3 ⟨rfl, hw⟩
      rw [hw]
      clear hw w3
      go_wp2
      go_region_with (go_at_call 53; refine (HMK.out _ (by first | exact (Ext.refl _).drew | exact Ext.refl _)).mono ?_; rintro e w4 ⟨rfl, hb4⟩)
      all_goals
        have hb5 : Ext wr w4 := by first | exact ((Ext.refl _).drew).trans hb4 | exact hb4
        have HB4 : Hid (Ext w w4) := HB.out.trans hb5
        clear hb4 hb5
        go_wp2
        go_ret
        exact ⟨ret_int HF6.out.symm, HB4.out⟩

set_option maxHeartbeats 1000000 in
theorem specStateFault_any (s : Stt) (vn vs vm : Value) (w : World) (hz : s.fits) (hS : SSlice w vn vs vm s) :
    Calls Tryz.prog 10 #[sagg vn vs s.now vm] w fun e w' => e = .returned (.int .i64 (Sta.fault s)) ∧ Ext w w' := by
  have HS : Hid (SSlice w vn vs vm s) := hS
  obtain ⟨⟨an, cn, rfl, -⟩, ⟨ae, cs, rfl, -⟩, ⟨am, cm, rfl, -⟩⟩ := hS
  have HL : Hid (∀ wx : World, Ext w wx → SBoxAt wx w.heap.size (.slice an s.nodes.length cn) (.slice ae s.ses.length cs) (.int .i64 s.now) (.slice am s.marks.length cm) → Calls Tryz.prog 44 #[.pointer (some ⟨w.heap.size, 0, none⟩)] wx fun e w' => e = .returned (.int .i64 (Sta.fault s)) ∧ Ext wx w') := fun wx he h => l6Fault_any _ s an ae am cn cs cm wx h hz (HS.out.ext he)
  clear HS hz
  generalize Sta.fault s = R at *
  unfold sagg
  go_enter Tryz.func10, Tryz.ntmps10
  go_wp2_with fail
  refine (HL.out _ ((Ext.refl _).alloc _) (sbox_new w _ _ _ _ _)).mono ?_
  rintro e w1 ⟨rfl, hb⟩
  have HB : Hid (Ext w w1) := ((Ext.refl _).alloc _).trans hb
  clear hb
  go_wp2
  go_ret
  exact ⟨rfl, HB.out⟩
end Go.Proofs.YtdjnkchaapcjpaaGreatDoor
