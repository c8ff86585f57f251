/- the specification's ParentOf, NameIn, DeepIn and what they call: what they answer; the laws' comparisons. -/
import Derived.Test.YtmiffefnpendoaaGreatDoorS2
namespace Go.Proofs.YtmiffefnpendoaaGreatDoor
open Go.RowKit

theorem last_on (s : ByteArray) (k a : Nat) (h : k < s.size) : Pth.lastSl (s.data.toList.drop k) k a = Pth.lastSl (s.data.toList.drop (k + 1)) (k + 1) (if s[k] = 47 then k else a) := by
  rw [drop_at s k h, Pth.lastSl]
  split <;> rfl

set_option maxHeartbeats 1000000 in
theorem l1Last_any (s : ByteArray) (w : World) (hs : s.size ≤ 24) :
    Calls Tryz.prog 110 #[.string s] w fun e w' => e = .returned (.int .i64 (Pth.lastSl s.data.toList 0 0 : Nat)) ∧ w' = w := by
  go_enter Tryz.func110, Tryz.ntmps110
  go_wp2
  go_loop [3, 4] (fun at_ i => ∃ k a : Nat, k ≤ s.size ∧ i = .int .i64 k ∧ at_ = .int .i64 a ∧ Hid (Pth.lastSl (s.data.toList.drop k) k a = Pth.lastSl s.data.toList 0 0)) (fun _ i => s.size - (intOf i).toNat)
  case atStart => exact ⟨0, 0, Nat.zero_le _, rfl, rfl, rfl⟩
  case round =>
    obtain ⟨k, a, hk, rfl, rfl, HA⟩ := hrel
    by_cases hlt : k < s.size
    · have hon := last_on s k a hlt
      by_cases h47 : s[k] = 47
      · have HB : Hid (Pth.lastSl (s.data.toList.drop (k + 1)) (k + 1) k = Pth.lastSl s.data.toList 0 0) := by
          show _ = _; rw [← HA.out, hon, if_pos h47]
        clear hon
        go_wp2
        exact ⟨⟨k + 1, k, by omega, by go_num, rfl, HB⟩, by simp [intOf]; omega⟩
      · have HB : Hid (Pth.lastSl (s.data.toList.drop (k + 1)) (k + 1) a = Pth.lastSl s.data.toList 0 0) := by
          show _ = _; rw [← HA.out, hon, if_neg h47]
        have e4 : ((s[k].toNat : Int) == 47) = false := by
          rw [beq_eq_false_iff_ne]; intro x; apply h47; apply UInt8.toNat_inj.1; show s[k].toNat = 47; omega
        clear hon
        go_wp2
        exact ⟨⟨k + 1, a, by omega, by go_num, rfl, HB⟩, by simp [intOf]; omega⟩
    · have HB : Hid (a = Pth.lastSl s.data.toList 0 0) := by
        show _ = _; rw [← HA.out, List.drop_of_length_le (by rw [len_eq]; omega)]; rfl
      go_wp2
      go_ret
      exact ⟨ret_int (by rw [← HB.out]), rfl⟩

theorem lastSl_le (l : List UInt8) : Pth.lastSl l 0 0 ≤ l.length := by
  rcases Pth.lastSl_lt l 0 0 with h | h <;> omega

set_option maxHeartbeats 1000000 in
theorem l1Parent_any (s : ByteArray) (w : World) (hs : s.size ≤ 24) :
    Calls Tryz.prog 108 #[.string s] w fun e w' => e = .returned (.string (mkB (if Pth.lastSl s.data.toList 0 0 = 0 then [47] else s.data.toList.take (Pth.lastSl s.data.toList 0 0)))) ∧ w' = w := by
  have hle := lastSl_le s.data.toList
  rw [len_eq] at hle
  have hx : s.extract 0 (Pth.lastSl s.data.toList 0 0) = mkB (s.data.toList.take (Pth.lastSl s.data.toList 0 0)) := eq_mkB (by rw [extract_list]; simp)
  have hl := l1Last_any s
  generalize Pth.lastSl s.data.toList 0 0 = a at *
  have HX : Hid (s.extract 0 a = mkB (s.data.toList.take a)) := hx
  clear hx
  have HL : Hid (∀ w : World, s.size ≤ 24 → Calls Tryz.prog 110 #[.string s] w fun e w' => e = .returned (.int .i64 (a : Nat)) ∧ w' = w) := hl
  clear hl
  by_cases h : a = 0
  · subst h
    go_enter Tryz.func108, Tryz.ntmps108
    go_wp2_with (go_at_call 110; refine (HL.out _ hs).mono ?_; rintro e w' ⟨rfl, rfl⟩)
    go_ret
    exact ⟨rfl, rfl⟩
  · have e1 : ((a : Int) == 0) = false := by simp; omega
    rw [if_neg h]
    go_enter Tryz.func108, Tryz.ntmps108
    go_wp2_with (go_at_call 110; refine (HL.out _ hs).mono ?_; rintro e w' ⟨rfl, rfl⟩)
    go_ret
    refine ⟨?_, rfl⟩
    rw [← HX.out]
    rfl
end Go.Proofs.YtmiffefnpendoaaGreatDoor
