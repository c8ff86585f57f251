/- the specification's functions over sessions that are asked first: SessionsFault, l4At, l4Asked, LiveSession. -/
import Derived.Test.YtdjnkchaapcjpaaGreatDoorE1
import Derived.Test.YtdjnkchaapcjpaaGreatDoorS1
namespace Go.Proofs.YtdjnkchaapcjpaaGreatDoor
open Go.RowKit

set_option maxHeartbeats 1000000 in
theorem l4Id_any (n : Int) (w : World) : Calls Tryz.prog 101 #[.int .i64 n] w fun e w' => e = .returned (.bool (Ses.idOk n)) ∧ w' = w := by
  go_enter Tryz.func101, Tryz.ntmps101
  go_wp2_with fail
  refine (l1In_any _ _ _ _).mono ?_
  rintro e w' ⟨rfl, rfl⟩
  go_wp2
  go_ret
  exact ⟨rfl, rfl⟩
set_option maxHeartbeats 1000000 in
theorem l4Now_any (n : Int) (w : World) : Calls Tryz.prog 100 #[.int .i64 n] w fun e w' => e = .returned (.bool (Ses.nowOk n)) ∧ w' = w := by
  go_enter Tryz.func100, Tryz.ntmps100
  go_wp2_with fail
  refine (l1In_any _ _ _ _).mono ?_
  rintro e w' ⟨rfl, rfl⟩
  go_wp2
  go_ret
  exact ⟨rfl, rfl⟩
def Ses.tilOk (n : Int) : Bool := decide (0 ≤ n) && decide (n ≤ 9999)
theorem Ses.ok_eq (s : Se) : Ses.ok s = (Ses.idOk s.id && Ses.tilOk s.til) := rfl
def Ses.pre (l : List Se) (k : Nat) : Int := if k = 0 then 0 else ((l[k - 1]?).map (·.id)).getD 0
theorem Ses.pre_succ {l : List Se} {k : Nat} {s : Se} (h : l[k]? = some s) : Ses.pre l (k + 1) = s.id := by unfold Ses.pre; simp [h]
theorem Ses.idOk_pos {i : Int} (h : Ses.idOk i = true) : 1 ≤ i ∧ i ≤ 9 := by unfold Ses.idOk at h; simpa using h

set_option maxHeartbeats 2000000 in
set_option maxRecDepth 100000 in
theorem l4Fault_any (v : Value) (l : List Se) (w : World) (hS : ESlice w v l) :
    Calls Tryz.prog 99 #[v] w fun e w' => e = .returned (.int .i64 (Ses.fault l)) ∧ Ext w w' := by
  obtain ⟨a, cap, rfl, hlc, hcm, hx⟩ := hS
  have HX : Hid (0 < l.length → ∃ b off, a = some ⟨b, off, none⟩ ∧ b < w.heap.size ∧ SesAt w b off l) := hx
  clear hx
  unfold maxLen at hcm
  by_cases h6 : 6 < l.length
  · have HF : Hid (Ses.fault l = 2) := by show _ = _; unfold Ses.fault; rw [if_pos h6]
    go_enter Tryz.func99, Tryz.ntmps99
    go_wp2
    go_ret
    exact ⟨ret_int HF.out.symm, Ext.refl _⟩
  · have HF : Hid (Ses.fault l = Ses.from 0 l) := by show _ = _; unfold Ses.fault; rw [if_neg h6]
    go_enter Tryz.func99, Tryz.ntmps99
    go_wp2
    go_loopw [3] (fun i wr => ∃ (k : Nat), k ≤ l.length ∧ i = .int .i64 k ∧ Hid (Ses.from (Ses.pre l k) (l.drop k) = Ses.from 0 l) ∧ Hid (Ext w wr)) (fun i _ => l.length - (intOf i).toNat)
    case atStart => exact ⟨0, Nat.zero_le _, rfl, rfl, Ext.refl _⟩
    case round =>
      obtain ⟨k, hk, rfl, HA, HE⟩ := hrel
      by_cases hlt : k < l.length
      · obtain ⟨s, hsk⟩ : ∃ s, l[k]? = some s := ⟨_, List.getElem?_eq_getElem hlt⟩
        obtain ⟨b, off, rfl, hb, hN⟩ := HX.out (by omega)
        obtain ⟨d0, d1⟩ := hN.ext hb HE.out k s hsk
        have hat := Ses.from_at (Ses.pre l k) hsk
        have HI : Hid (∀ wx : World, Calls Tryz.prog 101 #[.int .i64 s.id] wx fun e w' => e = .returned (.bool (Ses.idOk s.id)) ∧ w' = wx) := l4Id_any s.id
        have HT : Hid (∀ wx : World, Calls Tryz.prog 102 #[.int .i64 s.til, .int .i64 0, .int .i64 9999] wx fun e w' => e = .returned (.bool (Ses.tilOk s.til)) ∧ w' = wx) := fun wx => l1In_any _ _ _ _
        cases hi : Ses.idOk s.id with
        | false =>
          have HR : Hid (Ses.fault l = 3) := by show _ = _; rw [HF.out, ← HA.out, hat, if_pos (by rw [Ses.ok_eq, hi]; rfl)]
          rw [hi] at HI
          clear hat hi hN hsk
          go_wp2_with fail
          refine (HI.out _).mono ?_
          rintro e w' ⟨rfl, rfl⟩
          go_wp2
          go_ret
          exact ⟨ret_int HR.out.symm, by first | exact HE.out | exact HE.out.drew⟩
        | true =>
          cases ht : Ses.tilOk s.til with
          | false =>
            have HR : Hid (Ses.fault l = 3) := by show _ = _; rw [HF.out, ← HA.out, hat, if_pos (by rw [Ses.ok_eq, hi, ht]; rfl)]
            rw [hi] at HI
            rw [ht] at HT
            clear hat hi ht hN hsk
            go_wp2_with fail
            refine (HI.out _).mono ?_
            rintro e w' ⟨rfl, rfl⟩
            go_wp2_with fail
            refine (HT.out _).mono ?_
            rintro e w' ⟨rfl, rfl⟩
            go_wp2
            go_ret
            exact ⟨ret_int HR.out.symm, by first | exact HE.out | exact HE.out.drew⟩
          | true =>
            rw [if_neg (by rw [Ses.ok_eq, hi, ht]; simp)] at hat
            have hps := Ses.pre_succ hsk
            obtain ⟨hi1, hi9⟩ := Ses.idOk_pos hi
            rw [hi] at HI
            rw [ht] at HT
            cases k with
            | zero =>
              have HA2 : Hid (Ses.from (Ses.pre l (0 + 1)) (l.drop (0 + 1)) = Ses.from 0 l) := by
                show _ = _
                rw [hps, ← HA.out, hat, if_neg (show ¬ s.id ≤ Ses.pre l 0 by show ¬ s.id ≤ 0; omega)]
              clear hat hi ht hN hsk hps
              simp only [Nat.zero_mul, Nat.add_zero] at d0 d1
              go_wp2_with fail
              refine (HI.out _).mono ?_
              rintro e w' ⟨rfl, rfl⟩
              go_wp2_with fail
              refine (HT.out _).mono ?_
              rintro e w' ⟨rfl, rfl⟩
              go_wp2
              go_region
              all_goals
                go_wp2
                exact ⟨⟨0 + 1, by omega, by go_num, HA2, HE.out.drew⟩, by simp [intOf]; omega⟩
            | succ j =>
              obtain ⟨t, htk⟩ : ∃ t, l[j]? = some t := ⟨_, List.getElem?_eq_getElem (by omega)⟩
              obtain ⟨e0, e1⟩ := hN.ext hb HE.out j t htk
              have hpj := Ses.pre_succ htk
              rw [hpj] at hat
              have hidx : ((j + 1 : Nat) : Int) - 1 = (j : Int) := by omega
              by_cases hle : s.id ≤ t.id
              · have HR : Hid (Ses.fault l = 1) := by show _ = _; rw [HF.out, ← HA.out, hpj, hat, if_pos hle]
                clear hat hi ht hN hsk hps htk hpj
                go_wp2_with fail
                refine (HI.out _).mono ?_
                rintro e w' ⟨rfl, rfl⟩
                go_wp2_with fail
                refine (HT.out _).mono ?_
                rintro e w' ⟨rfl, rfl⟩
                go_wp2
                go_region
                all_goals
                  go_wp2
                  go_ret
                  exact ⟨ret_int HR.out.symm, HE.out.drew⟩
              · have HA2 : Hid (Ses.from (Ses.pre l (j + 1 + 1)) (l.drop (j + 1 + 1)) = Ses.from 0 l) := by show _ = _; rw [hps, ← HA.out, hpj, hat, if_neg hle]
                clear hat hi ht hN hsk hps htk hpj
                go_wp2_with fail
                refine (HI.out _).mono ?_
                rintro e w' ⟨rfl, rfl⟩
                go_wp2_with fail
                refine (HT.out _).mono ?_
                rintro e w' ⟨rfl, rfl⟩
                go_wp2
                go_region
                all_goals
                  go_wp2
                  exact ⟨⟨j + 1 + 1, by omega, by go_num, HA2, HE.out.drew⟩, by simp [intOf]; omega⟩
      · have HR : Hid (Ses.fault l = 0) := by
          show _ = _
          rw [HF.out, ← HA.out, List.drop_of_length_le (by omega), Ses.from]
        go_wp2
        go_ret
        exact ⟨ret_int HR.out.symm, by first | exact HE.out | exact HE.out.drew⟩

/-- Where an Id stands, or -1. -/
def Ses.atF (i : Int) : Nat → List Se → Int
  | _, [] => -1
  | k, s :: r => if s.id = i then (k : Int) else Ses.atF i (k + 1) r
theorem Ses.atF_at {l : List Se} {k : Nat} {s : Se} (i : Int) (h : l[k]? = some s) : Ses.atF i k (l.drop k) = if s.id = i then (k : Int) else Ses.atF i (k + 1) (l.drop (k + 1)) := by
  obtain ⟨hk, rfl⟩ := List.getElem?_eq_some_iff.1 h
  rw [List.drop_eq_getElem_cons hk, Ses.atF]
theorem Ses.atF_is (i : Int) : ∀ (l : List Se) (k : Nat), (Ses.atF i k l = -1 ∧ hasE l i = false) ∨ ∃ j s, l[j]? = some s ∧ Ses.atF i k l = ((k + j : Nat) : Int) ∧ s.id = i ∧ hasE l i = true ∧ tilE l i = s.til
  | [], k => Or.inl ⟨rfl, rfl⟩
  | s :: r, k => by
    rw [Ses.atF]
    by_cases h : s.id = i
    · refine Or.inr ⟨0, s, rfl, by rw [if_pos h]; rfl, h, ?_, ?_⟩
      · unfold hasE; simp [h]
      · unfold tilE; rw [List.find?_cons_of_pos (by simp [h])]
    · rw [if_neg h]
      have e1 : hasE (s :: r) i = hasE r i := by unfold hasE; rw [List.any_cons]; simp [h]
      have e2 : tilE (s :: r) i = tilE r i := by unfold tilE; rw [List.find?_cons_of_neg (by simp [h])]
      rcases Ses.atF_is i r (k + 1) with ⟨q1, q2⟩ | ⟨j, t, q1, q2, q3, q4, q5⟩
      · exact Or.inl ⟨q1, by rw [e1]; exact q2⟩
      · exact Or.inr ⟨j + 1, t, by simpa using q1, by rw [q2]; omega, q3, by rw [e1]; exact q4, by rw [e2]; exact q5⟩

end Go.Proofs.YtdjnkchaapcjpaaGreatDoor
