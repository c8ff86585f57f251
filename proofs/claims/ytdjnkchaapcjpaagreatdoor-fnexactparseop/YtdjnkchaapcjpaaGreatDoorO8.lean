/- requests: the specification's RequestFault; the program's, with slices.ContainsFunc at operations. -/
import Derived.Test.YtdjnkchaapcjpaaGreatDoorO7
namespace Go.Proofs.YtdjnkchaapcjpaaGreatDoor
open Go.RowKit
set_option maxHeartbeats 2000000 in
set_option maxRecDepth 100000 in
theorem indexFunc_any (v : Value) (zs : List Opn) (w : World) (hS : OSlice w v zs) (hl : zs.length ≤ 3) :
    Calls Tryz.prog 143 #[v, .func (.func 76) #[] #[]] w fun e w' => ∃ n : Int, e = .returned (.int .i64 n) ∧ decide (0 ≤ n) = zs.any Opr.session ∧ Ext w w' := by
  obtain ⟨a, cap, rfl, hlc, hcm, hx⟩ := hS
  have HX : Hid (0 < zs.length → ∃ b off, a = some ⟨b, off, none⟩ ∧ b < w.heap.size ∧ OpsAt w b off zs) := hx
  clear hx
  unfold maxLen at hcm
  go_enter Tryz.func143, Tryz.ntmps143
  go_wp2
  go_loopw [8] (fun i wr => ∃ (k : Nat), k ≤ zs.length ∧ i = .int .i64 k ∧ Hid (∀ (j : Nat) z, j < k → zs[j]? = some z → Opr.session z = false) ∧ Hid (Ext w wr)) (fun i _ => zs.length - (intOf i).toNat)
  case atStart => exact ⟨0, Nat.zero_le _, rfl, fun j z h => by omega, Ext.refl _⟩
  case round =>
    obtain ⟨k, hk, rfl, HA, HE⟩ := hrel
    by_cases hlt : k < zs.length
    · obtain ⟨z, hzk⟩ : ∃ z, zs[k]? = some z := ⟨_, List.getElem?_eq_getElem hlt⟩
      obtain ⟨b, off, rfl, hb, hN⟩ := HX.out (by omega)
      obtain ⟨d0, d1, d2, d3, d4, d5⟩ := hN.ext hb HE.out k z hzk
      have HZ : Hid (zs[k]? = some z) := hzk
      have HS : Hid (∀ wx : World, Calls Tryz.prog 76 #[oagg z] wx fun e w' => e = .returned (.bool (Opr.session z)) ∧ Ext wx w') := isOfSession_any z
      unfold oagg at HS
      clear hzk hN
      cases hs : Opr.session z with
      | true =>
        have HF : Hid (zs.any Opr.session = true) := Opr.any_hit HZ.out hs
        rw [hs] at HS
        clear hs
        go_wp2_with fail
        refine (HS.out _).mono ?_
        rintro e w2 ⟨rfl, hb2⟩
        have HE2 : Hid (Ext w w2) := HE.out.trans hb2
        clear hb2 d0 d1 d2 d3 d4 d5
        go_wp2
        go_ret
        exact ⟨_, rfl, by rw [HF.out]; simp, HE2.out⟩
      | false =>
        have HA2 : Hid (∀ (j : Nat) z, j < k + 1 → zs[j]? = some z → Opr.session z = false) := by
          intro j z' hj hz'
          by_cases hjk : j = k
          · subst hjk; rw [HZ.out] at hz'; cases hz'; exact hs
          · exact HA.out j z' (by omega) hz'
        rw [hs] at HS
        clear hs
        go_wp2_with fail
        refine (HS.out _).mono ?_
        rintro e w2 ⟨rfl, hb2⟩
        have HE2 : Hid (Ext w w2) := HE.out.trans hb2
        clear hb2 d0 d1 d2 d3 d4 d5
        go_wp2
        exact ⟨⟨k + 1, by omega, by go_num, HA2, HE2⟩, by simp [intOf]; omega⟩
    · have HF : Hid (zs.any Opr.session = false) := Opr.any_none (fun j z hz => HA.out j z (by have := (List.getElem?_eq_some_iff.1 hz).1; omega) hz)
      go_wp2
      go_ret
      exact ⟨_, rfl, by rw [HF.out]; decide, HE.out⟩

set_option maxHeartbeats 1000000 in
theorem containsFunc_any (v : Value) (zs : List Opn) (w : World) (hS : OSlice w v zs) (hl : zs.length ≤ 3) :
    Calls Tryz.prog 79 #[v, .func (.func 76) #[] #[]] w fun e w' => e = .returned (.bool (zs.any Opr.session)) ∧ Ext w w' := by
  have HI : Hid (∀ wx : World, Ext w wx → Calls Tryz.prog 143 #[v, .func (.func 76) #[] #[]] wx fun e w' => ∃ n : Int, e = .returned (.int .i64 n) ∧ decide (0 ≤ n) = zs.any Opr.session ∧ Ext wx w') := fun wx he => indexFunc_any v zs wx (hS.ext he) hl
  obtain ⟨a, cap, rfl, -, -, -⟩ := hS
  generalize zs.any Opr.session = B at *
  go_enter Tryz.func79, Tryz.ntmps79
  go_wp2_with fail
  refine (HI.out _ (Ext.refl _)).mono ?_
  rintro e w1 ⟨n, rfl, hn, hb⟩
  have HN : Hid (decide (0 ≤ n) = B) := hn
  have HB : Hid (Ext w w1) := hb
  clear hb hn
  go_wp2
  go_ret
  exact ⟨ret_bool HN.out, HB.out⟩

set_option maxHeartbeats 4000000 in
set_option maxRecDepth 100000 in
theorem implRequestFault_any (r : Rq) (v : Value) (w : World) (hg : Gd w) (hS : OSlice w v r.ops) :
    Calls Tryz.prog 30 #[ragg r v] w fun e w' => e = .returned (.int .i64 (Opr.faultR r)) ∧ Ext w w' := by
  obtain ⟨a, cap, rfl, hlc, hcm, hx⟩ := hS
  have HX : Hid (0 < r.ops.length → ∃ b off, a = some ⟨b, off, none⟩ ∧ b < w.heap.size ∧ OpsAt w b off r.ops) := hx
  clear hx
  have HG : Hid (Gd w) := hg
  clear hg
  unfold maxLen at hcm
  obtain ⟨R, hRR⟩ : ∃ R, R = Opr.faultR r := ⟨_, rfl⟩
  have HR : Hid (R = Opr.faultR r) := hRR
  rw [← hRR]
  clear hRR
  have HId : Hid (∀ wx : World, Calls Tryz.prog 74 #[.int .i64 r.client, .int .i64 1, .int .i64 9] wx fun e w' => e = .returned (.bool (decide (1 ≤ r.client) && decide (r.client ≤ 9))) ∧ w' = wx) := isWithin_any r.client 1 9
  have HNu : Hid (∀ wx : World, Calls Tryz.prog 74 #[.int .i64 r.number, .int .i64 1, .int .i64 99] wx fun e w' => e = .returned (.bool (decide (1 ≤ r.number) && decide (r.number ≤ 99))) ∧ w' = wx) := isWithin_any r.number 1 99
  have HTi : Hid (∀ wx : World, Calls Tryz.prog 49 #[.int .i64 r.time, .int .i64 9000] wx fun e w' => e = .returned (.bool (decide (0 ≤ r.time) && decide (r.time ≤ 9000))) ∧ w' = wx) := isUpToO_any r.time 9000
  unfold ragg
  cases h1 : (decide (1 ≤ r.client) && decide (r.client ≤ 9)) with
  | false =>
    have HF : Hid (R = 3) := HR.out.trans (Opr.faultR_c h1)
    rw [h1] at HId
    clear h1
    go_enter Tryz.func30, Tryz.ntmps30
    go_wp2_with (first | (go_at_call 74; refine (HId.out _).mono ?_; rintro e w9 ⟨rfl, hw9⟩; rw [hw9]; clear hw9 w9))
    go_ret
    exact ⟨ret_int HF.out.symm, (Ext.refl _).alloc _⟩
  | true =>
  cases h2 : (decide (1 ≤ r.number) && decide (r.number ≤ 99)) with
  | false =>
    have HF : Hid (R = 3) := HR.out.trans (Opr.faultR_n h1 h2)
    rw [h1] at HId
    rw [h2] at HNu
    clear h1 h2
    go_enter Tryz.func30, Tryz.ntmps30
    have TK : True := trivial
    go_wp2_with (first | (go_at_call 74; clear TK; refine (HId.out _).mono ?_; rintro e w9 ⟨rfl, hw9⟩; rw [hw9]; clear hw9 w9) | (go_at_call 74; refine (HNu.out _).mono ?_; rintro e w9 ⟨rfl, hw9⟩; rw [hw9]; clear hw9 w9))
    go_ret
    exact ⟨ret_int HF.out.symm, (Ext.refl _).alloc _⟩
  | true =>
  cases h3 : (decide (0 ≤ r.time) && decide (r.time ≤ 9000)) with
  | false =>
    have HF : Hid (R = 3) := HR.out.trans (Opr.faultR_t h1 h2 h3)
    rw [h1] at HId
    rw [h2] at HNu
    rw [h3] at HTi
    clear h1 h2 h3
    go_enter Tryz.func30, Tryz.ntmps30
    have TK : True := trivial
    go_wp2_with (first | (go_at_call 74; clear TK; refine (HId.out _).mono ?_; rintro e w9 ⟨rfl, hw9⟩; rw [hw9]; clear hw9 w9) | (go_at_call 74; refine (HNu.out _).mono ?_; rintro e w9 ⟨rfl, hw9⟩; rw [hw9]; clear hw9 w9) | (go_at_call 49; refine (HTi.out _).mono ?_; rintro e w9 ⟨rfl, hw9⟩; rw [hw9]; clear hw9 w9))
    go_ret
    exact ⟨ret_int HF.out.symm, (Ext.refl _).alloc _⟩
  | true =>
  have HH : Hid (Opr.okHead r) := ⟨h1, h2, h3⟩
  rw [h1] at HId
  rw [h2] at HNu
  rw [h3] at HTi
  clear h1 h2 h3
  have TK : True := trivial
  by_cases hm1 : r.ops.length = 0
  · have HF : Hid (R = 2) := HR.out.trans (Opr.faultR_m HH.out (Or.inl (by omega)))
    go_enter Tryz.func30, Tryz.ntmps30
    go_wp2_with (first | (go_at_call 74; clear TK; refine (HId.out _).mono ?_; rintro e w9 ⟨rfl, hw9⟩; rw [hw9]; clear hw9 w9) | (go_at_call 74; refine (HNu.out _).mono ?_; rintro e w9 ⟨rfl, hw9⟩; rw [hw9]; clear hw9 w9) | (go_at_call 49; refine (HTi.out _).mono ?_; rintro e w9 ⟨rfl, hw9⟩; rw [hw9]; clear hw9 w9))
    go_ret
    exact ⟨ret_int HF.out.symm, (Ext.refl _).alloc _⟩
  by_cases hm2 : 3 < r.ops.length
  · have HF : Hid (R = 2) := HR.out.trans (Opr.faultR_m HH.out (Or.inr hm2))
    have hne : ((r.ops.length : Int) == 0) = false := by simp; intro h; rw [h] at hm2; simp at hm2
    go_enter Tryz.func30, Tryz.ntmps30
    go_wp2_with (first | (go_at_call 74; clear TK; refine (HId.out _).mono ?_; rintro e w9 ⟨rfl, hw9⟩; rw [hw9]; clear hw9 w9) | (go_at_call 74; refine (HNu.out _).mono ?_; rintro e w9 ⟨rfl, hw9⟩; rw [hw9]; clear hw9 w9) | (go_at_call 49; refine (HTi.out _).mono ?_; rintro e w9 ⟨rfl, hw9⟩; rw [hw9]; clear hw9 w9))
    go_ret
    exact ⟨ret_int HF.out.symm, (Ext.refl _).alloc _⟩
  have HM : Hid (¬ (r.ops.length < 1 ∨ 3 < r.ops.length)) := (by omega : ¬ (r.ops.length < 1 ∨ 3 < r.ops.length))
  have hne : ((r.ops.length : Int) == 0) = false := by simp; intro h; apply hm1; rw [h]; rfl
  go_enter Tryz.func30, Tryz.ntmps30
  go_wp2_with (first | (go_at_call 74; clear TK; refine (HId.out _).mono ?_; rintro e w9 ⟨rfl, hw9⟩; rw [hw9]; clear hw9 w9) | (go_at_call 74; refine (HNu.out _).mono ?_; rintro e w9 ⟨rfl, hw9⟩; rw [hw9]; clear hw9 w9) | (go_at_call 49; refine (HTi.out _).mono ?_; rintro e w9 ⟨rfl, hw9⟩; rw [hw9]; clear hw9 w9))
  go_loopw [35] (fun i wr => ∃ (k : Nat), k ≤ r.ops.length ∧ i = .int .i64 k ∧ Hid (∀ j, j < k → ∀ z, r.ops[j]? = some z → Opr.fault z = 0) ∧ Hid (RBoxAt wr w.heap.size r (.slice a r.ops.length cap)) ∧ Hid (Ext w wr)) (fun i _ => r.ops.length - (intOf i).toNat)
  case atStart => exact ⟨0, Nat.zero_le _, rfl, fun j h => by omega, rbox_new w r _ _, (Ext.refl _).alloc _⟩
  case round =>
    obtain ⟨k, hk, rfl, HA, HBx, HE⟩ := hrel
    by_cases hlt : k < r.ops.length
    · obtain ⟨z, hzk⟩ : ∃ z, r.ops[k]? = some z := ⟨_, List.getElem?_eq_getElem hlt⟩
      obtain ⟨b', off', rfl, hb', hN'⟩ := HX.out (by omega)
      obtain ⟨d0, d1, d2, d3, d4, d5⟩ := hN'.ext hb' HE.out k z hzk
      have hlt' : b' < wr.heap.size := Nat.lt_of_lt_of_le hb' HE.out.size
      have HOF : Hid (∀ wx : World, Ext w wx → Calls Tryz.prog 28 #[oagg z] wx fun e w' => e = .returned (.int .i64 (Opr.fault z)) ∧ Ext wx w') := fun wx he => implOpFault_any z wx (HG.out.ext he)
      have HZ : Hid (r.ops[k]? = some z) := hzk
      obtain ⟨c, hc⟩ : ∃ c, c = Opr.fault z := ⟨_, rfl⟩
      have HC : Hid (Opr.fault z = c) := hc.symm
      rw [← hc] at HOF
      unfold oagg at HOF
      clear hzk hN' hc
      have hal := alloc_cell
      by_cases h0 : c = 0
      · subst h0
        have HA2 : Hid (∀ j, j < k + 1 → ∀ z, r.ops[j]? = some z → Opr.fault z = 0) := by
          intro j hj z' hz'
          by_cases hjk : j = k
          · subst hjk; rw [HZ.out] at hz'; cases hz'; exact HC.out
          · exact HA.out j (by omega) z' hz'
        go_wp2_with fail
        refine (HOF.out _ (HE.out.alloc _)).mono ?_
        rintro e w2 ⟨rfl, hb2⟩
        have HE2 : Hid (Ext w w2) := (HE.out.alloc _).trans hb2
        have HBx2 : Hid (RBoxAt w2 w.heap.size r (.slice (some ⟨b', off', none⟩) r.ops.length cap)) := HBx.out.ext (((Ext.refl _).alloc _).trans hb2)
        clear hb2 hal d0 d1 d2 d3 d4 d5
        go_wp2
        exact ⟨⟨k + 1, by omega, by go_num, HA2, HBx2, HE2⟩, by simp [intOf]; omega⟩
      · have HF : Hid (R = c) := HR.out.trans (Opr.faultR_f HH.out HM.out (Opr.firstF_hit HZ.out HC.out h0 HA.out) h0)
        have h0b : (c != 0) = true := by simpa using h0
        go_wp2_with fail
        refine (HOF.out _ (HE.out.alloc _)).mono ?_
        rintro e w2 ⟨rfl, hb2⟩
        have HE2 : Hid (Ext w w2) := (HE.out.alloc _).trans hb2
        clear hb2 hal d0 d1 d2 d3 d4 d5
        go_wp2
        go_ret
        exact ⟨ret_int HF.out.symm, HE2.out⟩
    · have HA0 : Hid (∀ (j : Nat) z, r.ops[j]? = some z → Opr.fault z = 0) := fun j z hz => HA.out j (by have := (List.getElem?_eq_some_iff.1 hz).1; omega) z hz
      have HCF : Hid (Calls Tryz.prog 79 #[.slice a r.ops.length cap, .func (.func 76) #[] #[]] wr fun e w' => e = .returned (.bool (r.ops.any Opr.session)) ∧ Ext wr w') := containsFunc_any _ r.ops wr (by
        refine ⟨a, cap, rfl, hlc, by unfold maxLen; omega, fun h0 => ?_⟩
        obtain ⟨b', off', rfl, hb', hN'⟩ := HX.out h0
        exact ⟨b', off', rfl, Nat.lt_of_lt_of_le hb' HE.out.size, hN'.ext hb' HE.out⟩) (by have := HM.out; omega)
      obtain ⟨q, ⟨-, -, -, q3⟩, -, -, -, -⟩ := HBx.out
      by_cases h1 : 1 < r.ops.length
      · have HQ : Hid (∀ B, r.ops.any Opr.session = B → R = if B then 1 else 0) := by
          intro B hB
          cases B with
          | true => exact HR.out.trans (Opr.faultR_s HH.out HM.out (Opr.firstF_none HA0.out) h1 hB)
          | false => exact HR.out.trans (Opr.faultR_o HH.out HM.out (Opr.firstF_none HA0.out) (by rintro ⟨-, h⟩; rw [hB] at h; cases h))
        cases hB : r.ops.any Opr.session with
        | true =>
          have HF : Hid (R = 1) := HQ.out _ hB
          rw [hB] at HCF
          clear hB HQ
          go_wp2_with fail
          refine HCF.out.mono ?_
          rintro e w2 ⟨rfl, hb2⟩
          have HE2 : Hid (Ext w w2) := HE.out.trans hb2
          clear hb2 q q3
          go_wp2
          go_ret
          exact ⟨ret_int HF.out.symm, HE2.out⟩
        | false =>
          have HF : Hid (R = 0) := HQ.out _ hB
          rw [hB] at HCF
          clear hB HQ
          go_wp2_with fail
          refine HCF.out.mono ?_
          rintro e w2 ⟨rfl, hb2⟩
          have HE2 : Hid (Ext w w2) := HE.out.trans hb2
          clear hb2 q q3
          go_wp2
          go_ret
          exact ⟨ret_int HF.out.symm, HE2.out⟩
      · have HF : Hid (R = 0) := HR.out.trans (Opr.faultR_o HH.out HM.out (Opr.firstF_none HA0.out) (fun h => h1 h.1))
        go_wp2
        go_ret
        exact ⟨ret_int HF.out.symm, HE.out⟩
end Go.Proofs.YtdjnkchaapcjpaaGreatDoor
