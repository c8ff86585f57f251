/- the program's functions over sessions that are asked first: SessionsFault, momentFault, sessionFault. -/
import Derived.Test.YtdjnkchaapcjpaaGreatDoorE4
namespace Go.Proofs.YtdjnkchaapcjpaaGreatDoor
open Go.RowKit

set_option maxHeartbeats 1000000 in
theorem upTo_any (n m : Int) (w : World) : Calls Tryz.prog 49 #[.int .i64 n, .int .i64 m] w fun e w' => e = .returned (.bool (decide (0 ≤ n) && decide (n ≤ m))) ∧ w' = w := by
  by_cases h0 : 0 ≤ n
  · by_cases h1 : n ≤ m
    · go_enter Tryz.func49, Tryz.ntmps49
      go_wp2
      go_ret
      exact ⟨by simp [h0, h1], rfl⟩
    · go_enter Tryz.func49, Tryz.ntmps49
      go_wp2
      go_ret
      exact ⟨by simp [h1], rfl⟩
  · go_enter Tryz.func49, Tryz.ntmps49
    go_wp2
    go_ret
    exact ⟨by simp; omega, rfl⟩
set_option maxHeartbeats 1000000 in
theorem isSessionId_any (n : Int) (w : World) : Calls Tryz.prog 108 #[.int .i64 n] w fun e w' => e = .returned (.bool (Ses.idOk n)) ∧ w' = w := by
  by_cases h0 : n = 0
  · subst h0
    go_enter Tryz.func108, Tryz.ntmps108
    go_wp2
    go_ret
    exact ⟨rfl, rfl⟩
  · have HU : Hid (∀ wx : World, Calls Tryz.prog 49 #[.int .i64 n, .int .i64 9] wx fun e w' => e = .returned (.bool (Ses.idOk n)) ∧ w' = wx) := fun wx => by
      have h := upTo_any n 9 wx
      rw [show (decide (0 ≤ n) && decide (n ≤ 9)) = Ses.idOk n from by unfold Ses.idOk; rw [show decide (0 ≤ n) = decide (1 ≤ n) from by congr 1; simp; omega]] at h
      exact h
    go_enter Tryz.func108, Tryz.ntmps108
    go_wp2_with fail
    refine (HU.out _).mono ?_
    rintro e w' ⟨rfl, rfl⟩
    go_wp2
    go_ret
    exact ⟨ret_bool (by simp [h0]), rfl⟩

set_option maxHeartbeats 2000000 in
set_option maxRecDepth 100000 in
theorem implSessionsFault_any (v : Value) (l : List Se) (w : World) (hS : ESlice w v l) :
    Calls Tryz.prog 48 #[v] w fun e w' => e = .returned (.int .i64 (Ses.fault l)) ∧ Ext w w' := by
  obtain ⟨a, cap, rfl, hlc, hcm, hx⟩ := hS
  have HX : Hid (0 < l.length → ∃ b off, a = some ⟨b, off, none⟩ ∧ b < w.heap.size ∧ SesAt w b off l) := hx
  clear hx
  unfold maxLen at hcm
  by_cases h6 : 6 < l.length
  · have HF : Hid (Ses.fault l = 2) := by show _ = _; unfold Ses.fault; rw [if_pos h6]
    go_enter Tryz.func48, Tryz.ntmps48
    go_wp2
    go_ret
    exact ⟨ret_int HF.out.symm, Ext.refl _⟩
  · have HF : Hid (Ses.fault l = Ses.from 0 l) := by show _ = _; unfold Ses.fault; rw [if_neg h6]
    go_enter Tryz.func48, Tryz.ntmps48
    go_wp2
    go_loopw [3, 11] (fun av i wr => ∃ (k : Nat) (p : Int), k ≤ l.length ∧ i = .int .i64 k ∧ av = .int .i64 p ∧ Hid (Ses.from p (l.drop k) = Ses.from 0 l) ∧ Hid (Ext w wr)) (fun _ i _ => l.length - (intOf i).toNat)
    case atStart => exact ⟨0, 0, Nat.zero_le _, rfl, rfl, rfl, Ext.refl _⟩
    case round =>
      obtain ⟨k, p, hk, rfl, rfl, HA, HE⟩ := hrel
      by_cases hlt : k < l.length
      · obtain ⟨s, hsk⟩ : ∃ s, l[k]? = some s := ⟨_, List.getElem?_eq_getElem hlt⟩
        obtain ⟨b, off, rfl, hb, hN⟩ := HX.out (by omega)
        obtain ⟨d0, d1⟩ := hN.ext hb HE.out k s hsk
        have hat := Ses.from_at p hsk
        have HI : Hid (∀ wx : World, Calls Tryz.prog 108 #[.int .i64 s.id] wx fun e w' => e = .returned (.bool (Ses.idOk s.id)) ∧ w' = wx) := isSessionId_any s.id
        have HT : Hid (∀ wx : World, Calls Tryz.prog 49 #[.int .i64 s.til, .int .i64 9999] wx fun e w' => e = .returned (.bool (Ses.tilOk s.til)) ∧ w' = wx) := fun wx => upTo_any _ _ _
        cases hi : Ses.idOk s.id with
        | false =>
          have HR : Hid (Ses.fault l = 3) := by show _ = _; rw [HF.out, ← HA.out, hat, if_pos (by rw [Ses.ok_eq, hi]; rfl)]
          rw [hi] at HI
          clear hat hi hN hsk
          go_wp2_with fail
          refine (HI.out _).mono ?_
          rintro e w' ⟨rfl, rfl⟩
          go_wp2
          go_ret
          exact ⟨ret_int HR.out.symm, by first | exact HE.out | exact HE.out.alloc _⟩
        | true =>
          rw [hi] at HI
          cases ht : Ses.tilOk s.til with
          | false =>
            have HR : Hid (Ses.fault l = 3) := by show _ = _; rw [HF.out, ← HA.out, hat, if_pos (by rw [Ses.ok_eq, hi, ht]; rfl)]
            rw [ht] at HT
            clear hat hi ht hN hsk
            go_wp2_with fail
            refine (HI.out _).mono ?_
            rintro e w' ⟨rfl, rfl⟩
            go_wp2_with fail
            refine (HT.out _).mono ?_
            rintro e w' ⟨rfl, rfl⟩
            go_wp2
            go_ret
            exact ⟨ret_int HR.out.symm, by first | exact HE.out | exact HE.out.alloc _⟩
          | true =>
            rw [if_neg (by rw [Ses.ok_eq, hi, ht]; simp)] at hat
            rw [ht] at HT
            by_cases hle : s.id ≤ p
            · have HR : Hid (Ses.fault l = 1) := by show _ = _; rw [HF.out, ← HA.out, hat, if_pos hle]
              clear hat hi ht hN hsk
              go_wp2_with fail
              refine (HI.out _).mono ?_
              rintro e w' ⟨rfl, rfl⟩
              go_wp2_with fail
              refine (HT.out _).mono ?_
              rintro e w' ⟨rfl, rfl⟩
              go_wp2
              go_ret
              exact ⟨ret_int HR.out.symm, by first | exact HE.out | exact HE.out.alloc _⟩
            · have HA2 : Hid (Ses.from s.id (l.drop (k + 1)) = Ses.from 0 l) := by show _ = _; rw [← HA.out, hat, if_neg hle]
              clear hat hi ht hN hsk
              go_wp2_with fail
              refine (HI.out _).mono ?_
              rintro e w' ⟨rfl, rfl⟩
              go_wp2_with fail
              refine (HT.out _).mono ?_
              rintro e w' ⟨rfl, rfl⟩
              go_wp2
              exact ⟨⟨k + 1, s.id, by omega, by go_num, rfl, HA2, by first | exact HE.out | exact HE.out.alloc _⟩, by simp [intOf]; omega⟩
      · have HR : Hid (Ses.fault l = 0) := by
          show _ = _
          rw [HF.out, ← HA.out, List.drop_of_length_le (by omega), Ses.from]
        go_wp2
        go_ret
        exact ⟨ret_int HR.out.symm, HE.out⟩

/-- The code of a moment. -/
def Ses.moment (l : List Se) (n : Int) : Int := if Ses.fault l ≠ 0 then Ses.fault l else if Ses.nowOk n = true then 0 else 3
theorem Ses.asked_moment (l : List Se) (i n : Int) : Ses.asked l i n = if Ses.moment l n ≠ 0 then Ses.moment l n else if Ses.idOk i = true then 0 else 3 := by
  unfold Ses.asked Ses.moment
  by_cases h : Ses.fault l ≠ 0
  · rw [if_pos h, if_pos h, if_pos h]
  · rw [if_neg h, if_neg h]
    cases Ses.nowOk n <;> cases Ses.idOk i <;> simp

end Go.Proofs.YtdjnkchaapcjpaaGreatDoor
