/- requests: what is a fault of one; the specification's RequestFault. -/
import Derived.Test.YtdjnkchaapcjpaaGreatDoorO6
namespace Go.Proofs.YtdjnkchaapcjpaaGreatDoor
open Go.RowKit
namespace Opr
def firstF : List Opn → Int
  | [] => 0
  | o :: t => if fault o ≠ 0 then fault o else firstF t
def session (o : Opn) : Bool := decide (o.kind = 1) || decide (o.kind = 2)
def faultR (r : Rq) : Int :=
  if (decide (1 ≤ r.client) && decide (r.client ≤ 9)) = false then 3
  else if (decide (1 ≤ r.number) && decide (r.number ≤ 99)) = false then 3
  else if (decide (0 ≤ r.time) && decide (r.time ≤ 9000)) = false then 3
  else if r.ops.length < 1 ∨ 3 < r.ops.length then 2
  else if firstF r.ops ≠ 0 then firstF r.ops
  else if 1 < r.ops.length ∧ r.ops.any session = true then 1 else 0
theorem faultR_c {r : Rq} (h : (decide (1 ≤ r.client) && decide (r.client ≤ 9)) = false) : faultR r = 3 := by unfold faultR; rw [if_pos h]
theorem faultR_n {r : Rq} (h : (decide (1 ≤ r.client) && decide (r.client ≤ 9)) = true) (h2 : (decide (1 ≤ r.number) && decide (r.number ≤ 99)) = false) : faultR r = 3 := by unfold faultR; rw [if_neg (by rw [h]; decide), if_pos h2]
theorem faultR_t {r : Rq} (h : (decide (1 ≤ r.client) && decide (r.client ≤ 9)) = true) (h2 : (decide (1 ≤ r.number) && decide (r.number ≤ 99)) = true) (h3 : (decide (0 ≤ r.time) && decide (r.time ≤ 9000)) = false) : faultR r = 3 := by
  unfold faultR; rw [if_neg (by rw [h]; decide), if_neg (by rw [h2]; decide), if_pos h3]
def okHead (r : Rq) : Prop := (decide (1 ≤ r.client) && decide (r.client ≤ 9)) = true ∧ (decide (1 ≤ r.number) && decide (r.number ≤ 99)) = true ∧ (decide (0 ≤ r.time) && decide (r.time ≤ 9000)) = true
theorem faultR_m {r : Rq} (h : okHead r) (hm : r.ops.length < 1 ∨ 3 < r.ops.length) : faultR r = 2 := by
  unfold faultR; rw [if_neg (by rw [h.1]; decide), if_neg (by rw [h.2.1]; decide), if_neg (by rw [h.2.2]; decide), if_pos hm]
theorem faultR_f {r : Rq} {c : Int} (h : okHead r) (hm : ¬ (r.ops.length < 1 ∨ 3 < r.ops.length)) (hc : firstF r.ops = c) (h0 : c ≠ 0) : faultR r = c := by
  subst hc
  unfold faultR; rw [if_neg (by rw [h.1]; decide), if_neg (by rw [h.2.1]; decide), if_neg (by rw [h.2.2]; decide), if_neg hm, if_pos h0]
theorem faultR_s {r : Rq} (h : okHead r) (hm : ¬ (r.ops.length < 1 ∨ 3 < r.ops.length)) (hc : firstF r.ops = 0) (h1 : 1 < r.ops.length) (hs : r.ops.any session = true) : faultR r = 1 := by
  unfold faultR; rw [if_neg (by rw [h.1]; decide), if_neg (by rw [h.2.1]; decide), if_neg (by rw [h.2.2]; decide), if_neg hm, if_neg (by rw [hc]; decide), if_pos ⟨h1, hs⟩]
theorem faultR_o {r : Rq} (h : okHead r) (hm : ¬ (r.ops.length < 1 ∨ 3 < r.ops.length)) (hc : firstF r.ops = 0) (h1 : ¬ (1 < r.ops.length ∧ r.ops.any session = true)) : faultR r = 0 := by
  unfold faultR; rw [if_neg (by rw [h.1]; decide), if_neg (by rw [h.2.1]; decide), if_neg (by rw [h.2.2]; decide), if_neg hm, if_neg (by rw [hc]; decide), if_neg h1]
theorem firstF_hit {l : List Opn} {k : Nat} {o : Opn} {c : Int} (hk : l[k]? = some o) (hc : fault o = c) (h0 : c ≠ 0) (ha : ∀ j, j < k → ∀ z, l[j]? = some z → fault z = 0) : firstF l = c := by
  induction l generalizing k with
  | nil => simp at hk
  | cons x t ih =>
    cases k with
    | zero => simp at hk; subst hk; unfold firstF; rw [if_pos (by rw [hc]; exact h0), hc]
    | succ k =>
      have hx := ha 0 (by omega) x rfl
      unfold firstF; rw [if_neg (by rw [hx]; decide)]
      exact ih (k := k) (by simpa using hk) (fun j hj z hz => ha (j + 1) (by omega) z (by simpa using hz))
theorem firstF_none {l : List Opn} (ha : ∀ (j : Nat) z, l[j]? = some z → fault z = 0) : firstF l = 0 := by
  induction l with
  | nil => rfl
  | cons x t ih =>
    have hx := ha 0 x rfl
    unfold firstF; rw [if_neg (by rw [hx]; decide)]
    exact ih (fun j z hz => ha (j + 1) z (by simpa using hz))
theorem any_hit {l : List Opn} {k : Nat} {o : Opn} (hk : l[k]? = some o) (h : session o = true) : l.any session = true := List.any_eq_true.2 ⟨o, List.mem_of_getElem? hk, h⟩
theorem any_none {l : List Opn} (ha : ∀ (j : Nat) z, l[j]? = some z → session z = false) : l.any session = false := by
  rw [List.any_eq_false]
  intro x hx
  obtain ⟨j, hj⟩ := List.getElem?_of_mem hx
  simp [ha j x hj]
theorem fault_zero_kind {o : Opn} (h : fault o = 0) : 1 ≤ o.kind ∧ o.kind ≤ 8 := by
  refine Classical.byContradiction fun hn => ?_
  rw [fault_kind (by omega)] at h; cases h
theorem session_le {o : Opn} (h : fault o = 0) : session o = decide (o.kind ≤ 2) := by
  have := fault_zero_kind h
  unfold session
  rw [Bool.eq_iff_iff]; simp; omega
end Opr
set_option maxHeartbeats 1000000 in
theorem l4IdO_any (k : Int) (w : World) : Calls Tryz.prog 101 #[.int .i64 k] w fun e w' => e = .returned (.bool (decide (1 ≤ k) && decide (k ≤ 9))) ∧ w' = w := by
  go_enter Tryz.func101, Tryz.ntmps101
  go_wp2_with fail
  refine (l1In_any k 1 9 _).mono ?_
  rintro e w1 ⟨rfl, rfl⟩
  go_wp2
  go_ret
  exact ⟨rfl, rfl⟩
set_option maxHeartbeats 1000000 in
theorem l4NowO_any (k : Int) (w : World) : Calls Tryz.prog 100 #[.int .i64 k] w fun e w' => e = .returned (.bool (decide (0 ≤ k) && decide (k ≤ 9000))) ∧ w' = w := by
  go_enter Tryz.func100, Tryz.ntmps100
  go_wp2_with fail
  refine (l1In_any k 0 9000 _).mono ?_
  rintro e w1 ⟨rfl, rfl⟩
  go_wp2
  go_ret
  exact ⟨rfl, rfl⟩
/-- A request at an address. -/
def RAt (w : World) (b o : Nat) (r : Rq) (v : Value) : Prop := b < w.heap.size ∧ w.cell? ⟨b, o, none⟩ = some (.int .i64 r.client) ∧ w.cell? ⟨b, o + 1, none⟩ = some (.int .i64 r.number) ∧ w.cell? ⟨b, o + 2, none⟩ = some (.int .i64 r.time) ∧ w.cell? ⟨b, o + 3, none⟩ = some v
theorem RAt.ext {w w' : World} {b o : Nat} {r : Rq} {v : Value} (h : RAt w b o r v) (he : Ext w w') : RAt w' b o r v := by
  obtain ⟨hc, _⟩ := Ext.cell he
  exact ⟨Nat.lt_of_lt_of_le h.1 he.size, (hc _ _ h.1).trans h.2.1, (hc _ _ h.1).trans h.2.2.1, (hc _ _ h.1).trans h.2.2.2.1, (hc _ _ h.1).trans h.2.2.2.2⟩

set_option maxHeartbeats 4000000 in
set_option maxRecDepth 100000 in
theorem l5Request_any (b o : Nat) (r : Rq) (v : Value) (w : World) (hR : RAt w b o r v) (hS : OSlice w v r.ops) :
    Calls Tryz.prog 81 #[.pointer (some ⟨b, o, none⟩)] w fun e w' => e = .returned (.int .i64 (Opr.faultR r)) ∧ Ext w w' := by
  obtain ⟨a, cap, rfl, hlc, hcm, hx⟩ := hS
  have HX : Hid (0 < r.ops.length → ∃ b off, a = some ⟨b, off, none⟩ ∧ b < w.heap.size ∧ OpsAt w b off r.ops) := hx
  clear hx
  unfold maxLen at hcm
  have HRA : Hid (RAt w b o r (.slice a r.ops.length cap)) := hR
  obtain ⟨-, c0, c1, c2, c3⟩ := hR
  obtain ⟨R, hRR⟩ : ∃ R, R = Opr.faultR r := ⟨_, rfl⟩
  have HR : Hid (R = Opr.faultR r) := hRR
  rw [← hRR]
  clear hRR
  have HId : Hid (∀ wx : World, Calls Tryz.prog 101 #[.int .i64 r.client] wx fun e w' => e = .returned (.bool (decide (1 ≤ r.client) && decide (r.client ≤ 9))) ∧ w' = wx) := l4IdO_any r.client
  have HNu : Hid (∀ wx : World, Calls Tryz.prog 102 #[.int .i64 r.number, .int .i64 1, .int .i64 99] wx fun e w' => e = .returned (.bool (decide (1 ≤ r.number) && decide (r.number ≤ 99))) ∧ w' = wx) := l1In_any r.number 1 99
  have HTi : Hid (∀ wx : World, Calls Tryz.prog 100 #[.int .i64 r.time] wx fun e w' => e = .returned (.bool (decide (0 ≤ r.time) && decide (r.time ≤ 9000))) ∧ w' = wx) := l4NowO_any r.time
  cases h1 : (decide (1 ≤ r.client) && decide (r.client ≤ 9)) with
  | false =>
    have HF : Hid (R = 3) := HR.out.trans (Opr.faultR_c h1)
    rw [h1] at HId
    clear h1
    go_enter Tryz.func81, Tryz.ntmps81
    go_wp2_with (first | (go_at_call 101; refine (HId.out _).mono ?_; rintro e w9 ⟨rfl, hw9⟩; rw [hw9]; clear hw9 w9))
    go_ret
    exact ⟨ret_int HF.out.symm, Ext.refl _⟩
  | true =>
  cases h2 : (decide (1 ≤ r.number) && decide (r.number ≤ 99)) with
  | false =>
    have HF : Hid (R = 3) := HR.out.trans (Opr.faultR_n h1 h2)
    rw [h1] at HId
    rw [h2] at HNu
    clear h1 h2
    go_enter Tryz.func81, Tryz.ntmps81
    go_wp2_with (first | (go_at_call 101; refine (HId.out _).mono ?_; rintro e w9 ⟨rfl, hw9⟩; rw [hw9]; clear hw9 w9) | (go_at_call 102; refine (HNu.out _).mono ?_; rintro e w9 ⟨rfl, hw9⟩; rw [hw9]; clear hw9 w9))
    go_ret
    exact ⟨ret_int HF.out.symm, Ext.refl _⟩
  | true =>
  cases h3 : (decide (0 ≤ r.time) && decide (r.time ≤ 9000)) with
  | false =>
    have HF : Hid (R = 3) := HR.out.trans (Opr.faultR_t h1 h2 h3)
    rw [h1] at HId
    rw [h2] at HNu
    rw [h3] at HTi
    clear h1 h2 h3
    go_enter Tryz.func81, Tryz.ntmps81
    go_wp2_with (first | (go_at_call 101; refine (HId.out _).mono ?_; rintro e w9 ⟨rfl, hw9⟩; rw [hw9]; clear hw9 w9) | (go_at_call 102; refine (HNu.out _).mono ?_; rintro e w9 ⟨rfl, hw9⟩; rw [hw9]; clear hw9 w9) | (go_at_call 100; refine (HTi.out _).mono ?_; rintro e w9 ⟨rfl, hw9⟩; rw [hw9]; clear hw9 w9))
    go_ret
    exact ⟨ret_int HF.out.symm, Ext.refl _⟩
  | true =>
  have HH : Hid (Opr.okHead r) := ⟨h1, h2, h3⟩
  rw [h1] at HId
  rw [h2] at HNu
  rw [h3] at HTi
  clear h1 h2 h3
  by_cases hm1 : r.ops.length < 1
  · have HF : Hid (R = 2) := HR.out.trans (Opr.faultR_m HH.out (Or.inl hm1))
    go_enter Tryz.func81, Tryz.ntmps81
    go_wp2_with (first | (go_at_call 101; refine (HId.out _).mono ?_; rintro e w9 ⟨rfl, hw9⟩; rw [hw9]; clear hw9 w9) | (go_at_call 102; refine (HNu.out _).mono ?_; rintro e w9 ⟨rfl, hw9⟩; rw [hw9]; clear hw9 w9) | (go_at_call 100; refine (HTi.out _).mono ?_; rintro e w9 ⟨rfl, hw9⟩; rw [hw9]; clear hw9 w9))
    go_ret
    exact ⟨ret_int HF.out.symm, Ext.refl _⟩
  by_cases hm2 : 3 < r.ops.length
  · have HF : Hid (R = 2) := HR.out.trans (Opr.faultR_m HH.out (Or.inr hm2))
    go_enter Tryz.func81, Tryz.ntmps81
    go_wp2_with (first | (go_at_call 101; refine (HId.out _).mono ?_; rintro e w9 ⟨rfl, hw9⟩; rw [hw9]; clear hw9 w9) | (go_at_call 102; refine (HNu.out _).mono ?_; rintro e w9 ⟨rfl, hw9⟩; rw [hw9]; clear hw9 w9) | (go_at_call 100; refine (HTi.out _).mono ?_; rintro e w9 ⟨rfl, hw9⟩; rw [hw9]; clear hw9 w9))
    go_ret
    exact ⟨ret_int HF.out.symm, Ext.refl _⟩
  have HM : Hid (¬ (r.ops.length < 1 ∨ 3 < r.ops.length)) := (by omega : ¬ (r.ops.length < 1 ∨ 3 < r.ops.length))
  go_enter Tryz.func81, Tryz.ntmps81
  go_wp2_with (first | (go_at_call 101; refine (HId.out _).mono ?_; rintro e w9 ⟨rfl, hw9⟩; rw [hw9]; clear hw9 w9) | (go_at_call 102; refine (HNu.out _).mono ?_; rintro e w9 ⟨rfl, hw9⟩; rw [hw9]; clear hw9 w9) | (go_at_call 100; refine (HTi.out _).mono ?_; rintro e w9 ⟨rfl, hw9⟩; rw [hw9]; clear hw9 w9))
  clear c0 c1 c2 c3
  go_loopw [3] (fun i wr => ∃ (k : Nat), k ≤ r.ops.length ∧ i = .int .i64 k ∧ Hid (∀ j, j < k → ∀ z, r.ops[j]? = some z → Opr.fault z = 0) ∧ Hid (Ext w wr)) (fun i _ => r.ops.length - (intOf i).toNat)
  case atStart => exact ⟨0, Nat.zero_le _, rfl, fun j h => by omega, Ext.refl _⟩
  case round =>
    obtain ⟨k, hk, rfl, HA, HE⟩ := hrel
    have c3 := (HRA.out.ext HE.out).2.2.2.2
    by_cases hlt : k < r.ops.length
    · obtain ⟨z, hzk⟩ : ∃ z, r.ops[k]? = some z := ⟨_, List.getElem?_eq_getElem hlt⟩
      obtain ⟨b', off', rfl, hb', hN'⟩ := HX.out (by omega)
      have HL : Hid (Calls Tryz.prog 73 #[.pointer (some ⟨b', off' + k * 6, none⟩)] wr fun e w' => e = .returned (.int .i64 (Opr.fault z)) ∧ Ext wr w') := l5Op_any b' (off' + k * 6) z wr (Nat.lt_of_lt_of_le hb' HE.out.size) (hN'.ext hb' HE.out k z hzk)
      have HZ : Hid (r.ops[k]? = some z) := hzk
      obtain ⟨c, hc⟩ : ∃ c, c = Opr.fault z := ⟨_, rfl⟩
      have HC : Hid (Opr.fault z = c) := hc.symm
      rw [← hc] at HL
      clear hzk hN' hc
      by_cases h0 : c = 0
      · subst h0
        have HA2 : Hid (∀ j, j < k + 1 → ∀ z, r.ops[j]? = some z → Opr.fault z = 0) := by
          intro j hj z' hz'
          by_cases hjk : j = k
          · subst hjk; rw [HZ.out] at hz'; cases hz'; exact HC.out
          · exact HA.out j (by omega) z' hz'
        go_wp2_with fail
        refine HL.out.mono ?_
        rintro e w2 ⟨rfl, hb2⟩
        have HE2 : Hid (Ext w w2) := HE.out.trans hb2
        clear hb2
        go_wp2
        exact ⟨⟨k + 1, by omega, by go_num, HA2, HE2⟩, by simp [intOf]; omega⟩
      · have HF : Hid (R = c) := HR.out.trans (Opr.faultR_f HH.out HM.out (Opr.firstF_hit HZ.out HC.out h0 HA.out) h0)
        have h0b : (c != 0) = true := by simpa using h0
        go_wp2_with fail
        refine HL.out.mono ?_
        rintro e w2 ⟨rfl, hb2⟩
        have HE2 : Hid (Ext w w2) := HE.out.trans hb2
        clear hb2
        go_wp2
        go_ret
        exact ⟨ret_int HF.out.symm, HE2.out⟩
    · have HA0 : Hid (∀ (j : Nat) z, r.ops[j]? = some z → Opr.fault z = 0) := fun j z hz => HA.out j (by have := (List.getElem?_eq_some_iff.1 hz).1; omega) z hz
      go_wp2
      clear c3
      have hE0 : Hid (Ext w wr) := HE
      go_loopw [5] (fun i wr => ∃ (k : Nat), k ≤ r.ops.length ∧ i = .int .i64 k ∧ Hid (∀ (j : Nat) z, j < k → r.ops[j]? = some z → Opr.session z = false) ∧ Hid (Ext w wr)) (fun i _ => r.ops.length - (intOf i).toNat)
      case atStart => exact ⟨0, Nat.zero_le _, rfl, fun j z h => by omega, hE0.out⟩
      case round =>
        obtain ⟨m, hm, rfl, HB, HE1⟩ := hrel
        have c3 := (HRA.out.ext HE1.out).2.2.2.2
        by_cases h1 : 1 < r.ops.length
        · by_cases hlt2 : m < r.ops.length
          · obtain ⟨z, hzk⟩ : ∃ z, r.ops[m]? = some z := ⟨_, List.getElem?_eq_getElem hlt2⟩
            obtain ⟨b', off', rfl, hb', hN'⟩ := HX.out (by omega)
            have d0 := (hN'.ext hb' HE1.out m z hzk).1
            have HZ : Hid (r.ops[m]? = some z) := hzk
            have HSs : Hid (Opr.session z = decide (z.kind ≤ 2)) := Opr.session_le (HA0.out m z hzk)
            clear hzk hN'
            by_cases h2 : z.kind ≤ 2
            · have HF : Hid (R = 1) := HR.out.trans (Opr.faultR_s HH.out HM.out (Opr.firstF_none HA0.out) h1 (Opr.any_hit HZ.out (by rw [HSs.out]; simpa using h2)))
              go_wp2
              go_ret
              exact ⟨ret_int HF.out.symm, HE1.out⟩
            · have HB2 : Hid (∀ (j : Nat) z, j < m + 1 → r.ops[j]? = some z → Opr.session z = false) := by
                intro j z' hj hz'
                by_cases hjk : j = m
                · subst hjk; rw [HZ.out] at hz'; cases hz'; rw [HSs.out]; simpa using h2
                · exact HB.out j z' (by omega) hz'
              go_wp2
              exact ⟨⟨m + 1, by omega, by go_num, HB2, HE1⟩, by simp [intOf]; omega⟩
          · have HF : Hid (R = 0) := HR.out.trans (Opr.faultR_o HH.out HM.out (Opr.firstF_none HA0.out) (by
              rintro ⟨-, h⟩
              rw [Opr.any_none (fun j z hz => HB.out j z (by have := (List.getElem?_eq_some_iff.1 hz).1; omega) hz)] at h; cases h))
            go_wp2
            go_ret
            exact ⟨ret_int HF.out.symm, HE1.out⟩
        · have HF : Hid (R = 0) := HR.out.trans (Opr.faultR_o HH.out HM.out (Opr.firstF_none HA0.out) (fun h => h1 h.1))
          have hl1 : r.ops.length = 1 := by omega
          by_cases hlt2 : m < r.ops.length
          · go_wp2
            go_ret
            exact ⟨ret_int HF.out.symm, HE1.out⟩
          · go_wp2
            go_ret
            exact ⟨ret_int HF.out.symm, HE1.out⟩
end Go.Proofs.YtdjnkchaapcjpaaGreatDoor
