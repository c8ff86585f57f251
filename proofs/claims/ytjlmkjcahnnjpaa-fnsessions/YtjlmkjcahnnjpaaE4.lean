/- the specification's functions over sessions that are asked first: SessionsFault, l4At, l4Asked, LiveSession. -/
import Derived.Test.YtjlmkjcahnnjpaaE1
import Derived.Test.YtjlmkjcahnnjpaaS1
namespace Go.Proofs.Ytjlmkjcahnnjpaa
open Go.RowKit

set_option maxHeartbeats 1000000 in
theorem l4Id_any (n : Int) (w : World) : Calls Try.prog 58 #[.int .i64 n] w fun e w' => e = .returned (.bool (Ses.idOk n)) ∧ w' = w := by
  go_enter Try.func58, Try.ntmps58
  go_wp2_with fail
  refine (l1In_any _ _ _ _).mono ?_
  rintro e w' ⟨rfl, rfl⟩
  go_wp2
  go_ret
  exact ⟨rfl, rfl⟩
set_option maxHeartbeats 1000000 in
theorem l4Now_any (n : Int) (w : World) : Calls Try.prog 59 #[.int .i64 n] w fun e w' => e = .returned (.bool (Ses.nowOk n)) ∧ w' = w := by
  go_enter Try.func59, Try.ntmps59
  go_wp2_with fail
  refine (l1In_any _ _ _ _).mono ?_
  rintro e w' ⟨rfl, rfl⟩
  go_wp2
  go_ret
  exact ⟨rfl, rfl⟩
def Ses.tilOk (n : Int) : Bool := decide (0 ≤ n) && decide (n ≤ 9999)
theorem Ses.ok_eq (s : Se) : Ses.ok s = (Ses.idOk s.id && Ses.tilOk s.til) := rfl
def Ses.pre (l : List Se) (k : Nat) : Int := if k = 0 then 0 else ((l[k - 1]?).map (·.id)).getD 0
theorem Ses.pre_succ {l : List Se} {k : Nat} {s : Se} (h : l[k]? = some s) : Ses.pre l (k + 1) = s.id := by unfold Ses.pre; simp [h]
theorem Ses.idOk_pos {i : Int} (h : Ses.idOk i = true) : 1 ≤ i ∧ i ≤ 9 := by unfold Ses.idOk at h; simpa using h

set_option maxHeartbeats 2000000 in
set_option maxRecDepth 100000 in
theorem l4Fault_any (v : Value) (l : List Se) (w : World) (hS : ESlice w v l) :
    Calls Try.prog 43 #[v] w fun e w' => e = .returned (.int .i64 (Ses.fault l)) ∧ Ext w w' := by
  obtain ⟨a, cap, rfl, hlc, hcm, hx⟩ := hS
  have HX : Hid (0 < l.length → ∃ b off, a = some ⟨b, off, none⟩ ∧ b < w.heap.size ∧ SesAt w b off l) := hx
  clear hx
  unfold maxLen at hcm
  by_cases h6 : 6 < l.length
  · have HF : Hid (Ses.fault l = 2) := by show _ = _; unfold Ses.fault; rw [if_pos h6]
    go_enter Try.func43, Try.ntmps43
    go_wp2
    go_ret
    exact ⟨ret_int HF.out.symm, Ext.refl _⟩
  · have HF : Hid (Ses.fault l = Ses.from 0 l) := by show _ = _; unfold Ses.fault; rw [if_neg h6]
    go_enter Try.func43, Try.ntmps43
    go_wp2
    go_loopw [3] (fun i wr => ∃ (k : Nat), k ≤ l.length ∧ i = .int .i64 k ∧ Hid (Ses.from (Ses.pre l k) (l.drop k) = Ses.from 0 l) ∧ Hid (Ext w wr)) (fun i _ => l.length - (intOf i).toNat)
    case atStart => exact ⟨0, Nat.zero_le _, rfl, rfl, Ext.refl _⟩
    case round =>
      obtain ⟨k, hk, rfl, HA, HE⟩ := hrel
      by_cases hlt : k < l.length
      · obtain ⟨s, hsk⟩ : ∃ s, l[k]? = some s := ⟨_, List.getElem?_eq_getElem hlt⟩
        obtain ⟨b, off, rfl, hb, hN⟩ := HX.out (by omega)
        obtain ⟨d0, d1⟩ := hN.ext hb HE.out k s hsk
        have hat := Ses.from_at (Ses.pre l k) hsk
        have HI : Hid (∀ wx : World, Calls Try.prog 58 #[.int .i64 s.id] wx fun e w' => e = .returned (.bool (Ses.idOk s.id)) ∧ w' = wx) := l4Id_any s.id
        have HT : Hid (∀ wx : World, Calls Try.prog 61 #[.int .i64 s.til, .int .i64 0, .int .i64 9999] wx fun e w' => e = .returned (.bool (Ses.tilOk s.til)) ∧ w' = wx) := fun wx => l1In_any _ _ _ _
        cases hi : Ses.idOk s.id with
        | false =>
          have HR : Hid (Ses.fault l = 3) := by show _ = _; rw [HF.out, ← HA.out, hat, if_pos (by rw [Ses.ok_eq, hi]; rfl)]
          rw [hi] at HI
          clear hat hi hN hsk
          go_wp2_with fail
          refine (HI.out _).mono ?_
          rintro e w' ⟨rfl, rfl⟩
          go_wp2
          go_ret
          exact ⟨ret_int HR.out.symm, by first | exact HE.out | exact HE.out.drew⟩
        | true =>
          cases ht : Ses.tilOk s.til with
          | false =>
            have HR : Hid (Ses.fault l = 3) := by show _ = _; rw [HF.out, ← HA.out, hat, if_pos (by rw [Ses.ok_eq, hi, ht]; rfl)]
            rw [hi] at HI
            rw [ht] at HT
            clear hat hi ht hN hsk
            go_wp2_with fail
            refine (HI.out _).mono ?_
            rintro e w' ⟨rfl, rfl⟩
            go_wp2_with fail
            refine (HT.out _).mono ?_
            rintro e w' ⟨rfl, rfl⟩
            go_wp2
            go_ret
            exact ⟨ret_int HR.out.symm, by first | exact HE.out | exact HE.out.drew⟩
          | true =>
            rw [if_neg (by rw [Ses.ok_eq, hi, ht]; simp)] at hat
            have hps := Ses.pre_succ hsk
            obtain ⟨hi1, hi9⟩ := Ses.idOk_pos hi
            rw [hi] at HI
            rw [ht] at HT
            cases k with
            | zero =>
              have HA2 : Hid (Ses.from (Ses.pre l (0 + 1)) (l.drop (0 + 1)) = Ses.from 0 l) := by
                show _ = _
                rw [hps, ← HA.out, hat, if_neg (show ¬ s.id ≤ Ses.pre l 0 by show ¬ s.id ≤ 0; omega)]
              clear hat hi ht hN hsk hps
              simp only [Nat.zero_mul, Nat.add_zero] at d0 d1
              go_wp2_with fail
              refine (HI.out _).mono ?_
              rintro e w' ⟨rfl, rfl⟩
              go_wp2_with fail
              refine (HT.out _).mono ?_
              rintro e w' ⟨rfl, rfl⟩
              go_wp2
              go_region
              all_goals
                go_wp2
                exact ⟨⟨0 + 1, by omega, by go_num, HA2, HE.out.drew⟩, by simp [intOf]; omega⟩
            | succ j =>
              obtain ⟨t, htk⟩ : ∃ t, l[j]? = some t := ⟨_, List.getElem?_eq_getElem (by omega)⟩
              obtain ⟨e0, e1⟩ := hN.ext hb HE.out j t htk
              have hpj := Ses.pre_succ htk
              rw [hpj] at hat
              have hidx : ((j + 1 : Nat) : Int) - 1 = (j : Int) := by omega
              by_cases hle : s.id ≤ t.id
              · have HR : Hid (Ses.fault l = 1) := by show _ = _; rw [HF.out, ← HA.out, hpj, hat, if_pos hle]
                clear hat hi ht hN hsk hps htk hpj
                go_wp2_with fail
                refine (HI.out _).mono ?_
                rintro e w' ⟨rfl, rfl⟩
                go_wp2_with fail
                refine (HT.out _).mono ?_
                rintro e w' ⟨rfl, rfl⟩
                go_wp2
                go_region
                all_goals
                  go_wp2
                  go_ret
                  exact ⟨ret_int HR.out.symm, HE.out.drew⟩
              · have HA2 : Hid (Ses.from (Ses.pre l (j + 1 + 1)) (l.drop (j + 1 + 1)) = Ses.from 0 l) := by show _ = _; rw [hps, ← HA.out, hpj, hat, if_neg hle]
                clear hat hi ht hN hsk hps htk hpj
                go_wp2_with fail
                refine (HI.out _).mono ?_
                rintro e w' ⟨rfl, rfl⟩
                go_wp2_with fail
                refine (HT.out _).mono ?_
                rintro e w' ⟨rfl, rfl⟩
                go_wp2
                go_region
                all_goals
                  go_wp2
                  exact ⟨⟨j + 1 + 1, by omega, by go_num, HA2, HE.out.drew⟩, by simp [intOf]; omega⟩
      · have HR : Hid (Ses.fault l = 0) := by
          show _ = _
          rw [HF.out, ← HA.out, List.drop_of_length_le (by omega), Ses.from]
        go_wp2
        go_ret
        exact ⟨ret_int HR.out.symm, by first | exact HE.out | exact HE.out.drew⟩

set_option maxHeartbeats 1000000 in
theorem specSessionsFault_any (v : Value) (l : List Se) (w : World) (hS : ESlice w v l) :
    Calls Try.prog 20 #[v] w fun e w' => e = .returned (.int .i64 (Ses.fault l)) ∧ Ext w w' := by
  have H := l4Fault_any v l w hS
  obtain ⟨a, cap, rfl, -⟩ := hS
  generalize Ses.fault l = c at *
  go_enter Try.func20, Try.ntmps20
  go_wp2_with fail
  refine H.mono ?_
  rintro e w2 ⟨rfl, hb⟩
  have HB : Hid (Ext w w2) := hb
  clear hb
  go_wp2
  go_ret
  exact ⟨rfl, HB.out⟩

/-- Where an Id stands, or -1. -/
def Ses.atF (i : Int) : Nat → List Se → Int
  | _, [] => -1
  | k, s :: r => if s.id = i then (k : Int) else Ses.atF i (k + 1) r
theorem Ses.atF_at {l : List Se} {k : Nat} {s : Se} (i : Int) (h : l[k]? = some s) : Ses.atF i k (l.drop k) = if s.id = i then (k : Int) else Ses.atF i (k + 1) (l.drop (k + 1)) := by
  obtain ⟨hk, rfl⟩ := List.getElem?_eq_some_iff.1 h
  rw [List.drop_eq_getElem_cons hk, Ses.atF]
theorem Ses.atF_is (i : Int) : ∀ (l : List Se) (k : Nat), (Ses.atF i k l = -1 ∧ hasE l i = false) ∨ ∃ j s, l[j]? = some s ∧ Ses.atF i k l = ((k + j : Nat) : Int) ∧ s.id = i ∧ hasE l i = true ∧ tilE l i = s.til
  | [], k => Or.inl ⟨rfl, rfl⟩
  | s :: r, k => by
    rw [Ses.atF]
    by_cases h : s.id = i
    · refine Or.inr ⟨0, s, rfl, by rw [if_pos h]; rfl, h, ?_, ?_⟩
      · unfold hasE; simp [h]
      · unfold tilE; rw [List.find?_cons_of_pos (by simp [h])]
    · rw [if_neg h]
      have e1 : hasE (s :: r) i = hasE r i := by unfold hasE; rw [List.any_cons]; simp [h]
      have e2 : tilE (s :: r) i = tilE r i := by unfold tilE; rw [List.find?_cons_of_neg (by simp [h])]
      rcases Ses.atF_is i r (k + 1) with ⟨q1, q2⟩ | ⟨j, t, q1, q2, q3, q4, q5⟩
      · exact Or.inl ⟨q1, by rw [e1]; exact q2⟩
      · exact Or.inr ⟨j + 1, t, by simpa using q1, by rw [q2]; omega, q3, by rw [e1]; exact q4, by rw [e2]; exact q5⟩

set_option maxHeartbeats 1000000 in
theorem l4At_any (v : Value) (l : List Se) (i : Int) (w : World) (hS : ESlice w v l) :
    Calls Try.prog 60 #[v, .int .i64 i] w fun e w' => e = .returned (.int .i64 (Ses.atF i 0 l)) ∧ w' = w := by
  obtain ⟨a, cap, rfl, hlc, hcm, hx⟩ := hS
  have HX : Hid (0 < l.length → ∃ b off, a = some ⟨b, off, none⟩ ∧ b < w.heap.size ∧ SesAt w b off l) := hx
  clear hx
  unfold maxLen at hcm
  go_enter Try.func60, Try.ntmps60
  go_wp2
  go_loop [5] (fun iv => ∃ (k : Nat), k ≤ l.length ∧ iv = .int .i64 k ∧ Hid (Ses.atF i k (l.drop k) = Ses.atF i 0 l)) (fun iv => l.length - (intOf iv).toNat)
  case atStart => exact ⟨0, Nat.zero_le _, rfl, rfl⟩
  case round =>
    obtain ⟨k, hk, rfl, HA⟩ := hrel
    by_cases hlt : k < l.length
    · obtain ⟨s, hsk⟩ : ∃ s, l[k]? = some s := ⟨_, List.getElem?_eq_getElem hlt⟩
      obtain ⟨b, off, rfl, hb, hN⟩ := HX.out (by omega)
      obtain ⟨d0, d1⟩ := hN k s hsk
      have hat := Ses.atF_at i hsk
      by_cases he : s.id = i
      · have HR : Hid (Ses.atF i 0 l = k) := by show _ = _; rw [← HA.out, hat, if_pos he]
        clear hat hN hsk
        go_wp2
        go_ret
        exact ⟨ret_int HR.out.symm, rfl⟩
      · have HA2 : Hid (Ses.atF i (k + 1) (l.drop (k + 1)) = Ses.atF i 0 l) := by show _ = _; rw [← HA.out, hat, if_neg he]
        clear hat hN hsk
        go_wp2
        exact ⟨⟨k + 1, by omega, by go_num, HA2⟩, by simp [intOf]; omega⟩
    · have HR : Hid (Ses.atF i 0 l = -1) := by show _ = _; rw [← HA.out, List.drop_of_length_le (by omega), Ses.atF]
      go_wp2
      go_ret
      exact ⟨ret_int HR.out.symm, rfl⟩

set_option maxHeartbeats 1000000 in
theorem l4Asked_any (v : Value) (l : List Se) (i n : Int) (w : World) (hS : ESlice w v l) :
    Calls Try.prog 37 #[v, .int .i64 i, .int .i64 n] w fun e w' => e = .returned (.int .i64 (Ses.asked l i n)) ∧ Ext w w' := by
  have HF : Hid (Calls Try.prog 43 #[v] w fun e w' => e = .returned (.int .i64 (Ses.fault l)) ∧ Ext w w') := l4Fault_any v l w hS
  obtain ⟨a, cap, rfl, -⟩ := hS
  have HI : Hid (∀ wx : World, Calls Try.prog 58 #[.int .i64 i] wx fun e w' => e = .returned (.bool (Ses.idOk i)) ∧ w' = wx) := l4Id_any i
  have HN : Hid (∀ wx : World, Calls Try.prog 59 #[.int .i64 n] wx fun e w' => e = .returned (.bool (Ses.nowOk n)) ∧ w' = wx) := l4Now_any n
  unfold Ses.asked
  by_cases hc : Ses.fault l ≠ 0
  · rw [if_pos hc]
    generalize Ses.fault l = c at *
    go_enter Try.func37, Try.ntmps37
    go_wp2_with fail
    refine HF.out.mono ?_
    rintro e w2 ⟨rfl, hb⟩
    have HB : Hid (Ext w w2) := hb
    clear hb
    go_wp2
    go_ret
    exact ⟨rfl, HB.out⟩
  · rw [if_neg hc]
    have hc0 : Ses.fault l = 0 := by omega
    rw [hc0] at HF
    clear hc hc0
    cases hi : Ses.idOk i with
    | false =>
      rw [hi] at HI
      rw [if_neg (by simp)]
      clear hi
      go_enter Try.func37, Try.ntmps37
      go_wp2_with fail
      refine HF.out.mono ?_
      rintro e w2 ⟨rfl, hb⟩
      have HB : Hid (Ext w w2) := hb
      clear hb
      go_wp2_with fail
      refine (HI.out _).mono ?_
      rintro e w' ⟨rfl, rfl⟩
      go_wp2
      go_ret
      exact ⟨rfl, HB.out⟩
    | true =>
      rw [hi] at HI
      clear hi
      cases hn : Ses.nowOk n with
      | false =>
        rw [hn] at HN
        rw [if_neg (by simp)]
        clear hn
        go_enter Try.func37, Try.ntmps37
        go_wp2_with fail
        refine HF.out.mono ?_
        rintro e w2 ⟨rfl, hb⟩
        have HB : Hid (Ext w w2) := hb
        clear hb
        go_wp2_with fail
        refine (HI.out _).mono ?_
        rintro e w' ⟨rfl, rfl⟩
        go_wp2_with fail
        refine (HN.out _).mono ?_
        rintro e w' ⟨rfl, rfl⟩
        go_wp2
        go_ret
        exact ⟨rfl, HB.out⟩
      | true =>
        rw [hn] at HN
        rw [if_pos (show (true && true) = true from rfl)]
        clear hn
        go_enter Try.func37, Try.ntmps37
        go_wp2_with fail
        refine HF.out.mono ?_
        rintro e w2 ⟨rfl, hb⟩
        have HB : Hid (Ext w w2) := hb
        clear hb
        go_wp2_with fail
        refine (HI.out _).mono ?_
        rintro e w' ⟨rfl, rfl⟩
        go_wp2_with fail
        refine (HN.out _).mono ?_
        rintro e w' ⟨rfl, rfl⟩
        go_wp2
        go_ret
        exact ⟨rfl, HB.out⟩

set_option maxHeartbeats 1000000 in
theorem l4Live_any (v : Value) (l : List Se) (i n : Int) (w : World) (hS : ESlice w v l) :
    Calls Try.prog 47 #[v, .int .i64 i, .int .i64 n] w fun e w' => e = .returned (.bool (Ses.live l i n)) ∧ w' = w := by
  have HF : Hid (Calls Try.prog 60 #[v, .int .i64 i] w fun e w' => e = .returned (.int .i64 (Ses.atF i 0 l)) ∧ w' = w) := l4At_any v l i w hS
  obtain ⟨a, cap, rfl, hlc, hcm, hx⟩ := hS
  unfold maxLen at hcm
  unfold Ses.live
  rcases Ses.atF_is i l 0 with ⟨q1, q2⟩ | ⟨j, s, q1, q2, q3, q4, q5⟩
  · rw [q2, Bool.false_and]
    rw [q1] at HF
    clear q1 q2 hx
    go_enter Try.func47, Try.ntmps47
    go_wp2_with fail
    refine HF.out.mono ?_
    rintro e w' ⟨rfl, rfl⟩
    go_wp2
    go_ret
    exact ⟨rfl, rfl⟩
  · rw [q4, q5, Bool.true_and]
    have hjl := (List.getElem?_eq_some_iff.1 q1).1
    obtain ⟨b, off, rfl, hb, hN⟩ := hx (by omega)
    obtain ⟨d0, d1⟩ := hN j s q1
    rw [q2, Nat.zero_add] at HF
    clear q1 q2 q3 q4 q5 hN hx
    go_enter Try.func47, Try.ntmps47
    go_wp2_with fail
    refine HF.out.mono ?_
    rintro e w' ⟨rfl, rfl⟩
    go_wp2
    go_ret
    exact ⟨rfl, rfl⟩

set_option maxHeartbeats 1000000 in
theorem specLiveSession_any (v : Value) (l : List Se) (i n : Int) (w : World) (hS : ESlice w v l) :
    Calls Try.prog 27 #[v, .int .i64 i, .int .i64 n] w fun e w' => e = .returned (.bool (Ses.liveV l i n)) ∧ Ext w w' := by
  have HF : Hid (Calls Try.prog 37 #[v, .int .i64 i, .int .i64 n] w fun e w' => e = .returned (.int .i64 (Ses.asked l i n)) ∧ Ext w w') := l4Asked_any v l i n w hS
  have HL : Hid (∀ wx, Ext w wx → Calls Try.prog 47 #[v, .int .i64 i, .int .i64 n] wx fun e w' => e = .returned (.bool (Ses.live l i n)) ∧ w' = wx) := fun wx he => l4Live_any v l i n wx (hS.ext he)
  obtain ⟨a, cap, rfl, -⟩ := hS
  unfold Ses.liveV
  by_cases hc : Ses.asked l i n = 0
  · rw [hc] at HF ⊢
    rw [decide_eq_true rfl, Bool.true_and]
    clear hc
    generalize Ses.live l i n = B at *
    go_enter Try.func27, Try.ntmps27
    go_wp2_with fail
    refine HF.out.mono ?_
    rintro e w2 ⟨rfl, hb⟩
    have HB : Hid (Ext w w2) := hb
    clear hb
    go_wp2_with fail
    refine (HL.out _ HB.out).mono ?_
    rintro e w' ⟨rfl, rfl⟩
    go_wp2
    go_ret
    exact ⟨rfl, HB.out⟩
  · rw [decide_eq_false hc, Bool.false_and]
    generalize Ses.asked l i n = c at *
    go_enter Try.func27, Try.ntmps27
    go_wp2_with fail
    refine HF.out.mono ?_
    rintro e w2 ⟨rfl, hb⟩
    have HB : Hid (Ext w w2) := hb
    clear hb
    go_wp2
    go_ret
    exact ⟨rfl, HB.out⟩
end Go.Proofs.Ytjlmkjcahnnjpaa
