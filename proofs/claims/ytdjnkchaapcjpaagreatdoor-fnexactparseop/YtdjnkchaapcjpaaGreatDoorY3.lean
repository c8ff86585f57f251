/- the specification's l5Number. -/
import Derived.Test.YtdjnkchaapcjpaaGreatDoorY2
namespace Go.Proofs.YtdjnkchaapcjpaaGreatDoor
open Go.RowKit
namespace Opr
def dgt (c : UInt8) : Bool := decide (48 ≤ c.toNat) && decide (c.toNat ≤ 57)
def valD (l : List UInt8) : Nat := l.foldl (fun a c => a * 10 + (c.toNat - 48)) 0
def numV (l : List UInt8) : Int × Bool :=
  if l = [97, 110, 121] then (-1, true) else
  if l.length < 1 ∨ 4 < l.length ∨ (1 < l.length ∧ l[0]? = some 48) then (0, false) else
  if l.all dgt then (((valD l : Nat) : Int), true) else (0, false)
theorem dgt_yes {c : UInt8} (h1 : 48 ≤ c.toNat) (h2 : c.toNat ≤ 57) : dgt c = true := by unfold dgt; simp [h1, h2]
theorem dgt_no {c : UInt8} (h : c.toNat < 48 ∨ 57 < c.toNat) : dgt c = false := by
  unfold dgt
  rw [Bool.and_eq_false_iff, decide_eq_false_iff_not, decide_eq_false_iff_not]; omega
theorem snoc (s : ByteArray) (k : Nat) (h : k < s.size) : s.data.toList.take (k + 1) = s.data.toList.take k ++ [s[k]] := by
  rw [List.take_succ_eq_append_getElem (by rw [len_eq]; exact h)]; rfl
theorem valD_snoc (s : ByteArray) (k : Nat) (h : k < s.size) : valD (s.data.toList.take (k + 1)) = valD (s.data.toList.take k) * 10 + (s[k].toNat - 48) := by
  rw [snoc s k h]; unfold valD; rw [List.foldl_append]; rfl
theorem dgt_snoc (s : ByteArray) (k : Nat) (h : k < s.size) : (s.data.toList.take (k + 1)).all dgt = ((s.data.toList.take k).all dgt && dgt s[k]) := by
  rw [snoc s k h, List.all_append]; simp
theorem not_all (s : ByteArray) (k : Nat) (h : k < s.size) (hd : dgt s[k] = false) : s.data.toList.all dgt = false := by
  rw [← List.take_append_drop k s.data.toList, List.all_append, drop_at s k h, List.all_cons, hd]; simp
theorem numV_any {l : List UInt8} (h : l = [97, 110, 121]) : numV l = (-1, true) := by unfold numV; rw [if_pos h]
theorem numV_bad {l : List UInt8} (h : l ≠ [97, 110, 121]) (h2 : l.length < 1 ∨ 4 < l.length ∨ (1 < l.length ∧ l[0]? = some 48)) : numV l = (0, false) := by unfold numV; rw [if_neg h, if_pos h2]
theorem numV_not {l : List UInt8} (h : l ≠ [97, 110, 121]) (h2 : l.all dgt = false) : numV l = (0, false) := by
  unfold numV; rw [if_neg h]; split
  · rfl
  · rw [h2]; rfl
theorem numV_good {l : List UInt8} (h : l ≠ [97, 110, 121]) (h2 : ¬ (l.length < 1 ∨ 4 < l.length ∨ (1 < l.length ∧ l[0]? = some 48))) (h3 : l.all dgt = true) : numV l = (((valD l : Nat) : Int), true) := by
  unfold numV; rw [if_neg h, if_neg h2, h3]; rfl
theorem first {s : ByteArray} (h : 0 < s.size) : s.data.toList[0]? = some s[0] := by
  have e := drop_at s 0 h
  rw [List.drop_zero] at e
  rw [e]; rfl
end Opr
set_option maxHeartbeats 4000000 in
set_option maxRecDepth 100000 in
theorem l5Number_any (s : ByteArray) (w : World) (hs : s.size ≤ 1048576) : Calls Tryz.prog 120 #[.string s] w fun e w' => e = .returned (.tuple #[.int .i64 (Opr.numV s.data.toList).1, .bool (Opr.numV s.data.toList).2]) ∧ w' = w := by
  have hlen := len_eq s
  go_enter Tryz.func120, Tryz.ntmps120
  by_cases hA : s.data.toList = [97, 110, 121]
  · have hq : (s.toList == [97, 110, 121]) = true := by rw [show ([97, 110, 121] : List UInt8) = (⟨#[97, 110, 121]⟩ : ByteArray).toList from by rw [Lib.toList_data], beq_val, decide_eq_true_eq]; exact hA
    have HN : Hid (Opr.numV s.data.toList = (-1, true)) := Opr.numV_any hA
    clear hA hlen
    go_wp2
    go_ret2
    exact ⟨by rw [HN.out]; rfl, rfl⟩
  · have hq : (s.toList == [97, 110, 121]) = false := by rw [show ([97, 110, 121] : List UInt8) = (⟨#[97, 110, 121]⟩ : ByteArray).toList from by rw [Lib.toList_data], beq_val, decide_eq_false_iff_not]; exact hA
    have HB : Hid (∀ (k : Nat) (h : k < s.size), Opr.dgt s[k] = false → Opr.numV s.data.toList = (0, false)) := fun k h hd => Opr.numV_not hA (Opr.not_all s k h hd)
    by_cases h0 : s.size = 0
    · have HN : Hid (Opr.numV s.data.toList = (0, false)) := Opr.numV_bad hA (Or.inl (by omega))
      clear hA hlen HB
      go_wp2
      go_ret2
      exact ⟨by rw [HN.out]; rfl, rfl⟩
    by_cases h4 : 4 < s.size
    · have HN : Hid (Opr.numV s.data.toList = (0, false)) := Opr.numV_bad hA (Or.inr (Or.inl (by omega)))
      clear hA hlen HB
      go_wp2
      go_ret2
      exact ⟨by rw [HN.out]; rfl, rfl⟩
    by_cases h1 : s.size = 1
    · have HG : Hid (s.data.toList.all Opr.dgt = true → Opr.numV s.data.toList = (((Opr.valD s.data.toList : Nat) : Int), true)) := Opr.numV_good hA (by omega)
      clear hA hlen
      go_wp2
      go_loop [4, 5] (fun v i => ∃ k : Nat, k ≤ s.size ∧ i = .int .i64 k ∧ v = .int .i64 (Opr.valD (s.data.toList.take k) : Nat) ∧ Hid ((s.data.toList.take k).all Opr.dgt = true) ∧ Hid (Opr.valD (s.data.toList.take k) < 10 ^ k)) (fun _ i => s.size - (intOf i).toNat)
      case atStart => exact ⟨0, Nat.zero_le _, rfl, rfl, rfl, (by show Opr.valD [] < 1; decide)⟩
      case round =>
        obtain ⟨k, hk, rfl, rfl, HA, HP⟩ := hrel
        by_cases hlt : k < s.size
        · have hv : Opr.valD (s.data.toList.take k) < 10000 := Nat.lt_of_lt_of_le HP.out (Nat.pow_le_pow_right (n := 10) (i := k) (j := 4) (by decide) (by omega))
          by_cases hx : (48 : Int) ≤ s[k].toNat
          · by_cases hy : (s[k].toNat : Int) ≤ 57
            · have HS : Hid (Opr.valD (s.data.toList.take (k + 1)) = Opr.valD (s.data.toList.take k) * 10 + (s[k].toNat - 48)) := Opr.valD_snoc s k hlt
              have HA2 : Hid ((s.data.toList.take (k + 1)).all Opr.dgt = true) := by
                refine (Opr.dgt_snoc s k hlt).trans ?_
                rw [HA.out, Bool.true_and]; exact Opr.dgt_yes (by omega) (by omega)
              have HP2 : Hid (Opr.valD (s.data.toList.take (k + 1)) < 10 ^ (k + 1)) := by
                have h := HP.out
                show _ < _
                rw [HS.out, Nat.pow_succ]; omega
              generalize Opr.valD (s.data.toList.take k) = V at *
              go_wp2
              refine ⟨⟨k + 1, by omega, by go_num, ?_, HA2, HP2⟩, by simp [intOf]; omega⟩
              rw [HS.out]
              go_num
            · have HN : Hid (Opr.numV s.data.toList = (0, false)) := HB.out k hlt (Opr.dgt_no (by omega))
              go_wp2
              go_ret2
              exact ⟨by rw [HN.out]; rfl, rfl⟩
          · have HN : Hid (Opr.numV s.data.toList = (0, false)) := HB.out k hlt (Opr.dgt_no (by omega))
            go_wp2
            go_ret2
            exact ⟨by rw [HN.out]; rfl, rfl⟩
        · have hk' : k = s.size := by omega
          subst hk'
          have e : s.data.toList.take s.size = s.data.toList := List.take_of_length_le (by rw [len_eq]; exact Nat.le_refl _)
          have HN : Hid (Opr.numV s.data.toList = (((Opr.valD s.data.toList : Nat) : Int), true)) := HG.out (by rw [← e]; exact HA.out)
          rw [e]
          clear e
          go_wp2
          go_ret2
          exact ⟨by rw [HN.out]; rfl, rfl⟩
    · have h00 : 0 < s.size := by omega
      have HL : Hid (s.data.toList.length = s.size) := hlen
      clear hlen
      have hf := Opr.first h00
      by_cases hz : s[0] = 48
      · have HN : Hid (Opr.numV s.data.toList = (0, false)) := Opr.numV_bad hA (Or.inr (Or.inr ⟨by have := HL.out; omega, by rw [hf, hz]⟩))
        have e4 : ((s[0].toNat : Int) == 48) = true := by rw [hz]; decide
        clear hA HB hf
        go_wp2
        go_ret2
        exact ⟨by rw [HN.out]; rfl, rfl⟩
      · have e4 : ((s[0].toNat : Int) == 48) = false := by
          rw [beq_eq_false_iff_ne]; intro x; apply hz; apply UInt8.toNat_inj.1; show s[0].toNat = 48; omega
        have HG : Hid (s.data.toList.all Opr.dgt = true → Opr.numV s.data.toList = (((Opr.valD s.data.toList : Nat) : Int), true)) := Opr.numV_good hA (by
          rintro (h | h | ⟨-, h⟩)
          · have := HL.out; omega
          · have := HL.out; omega
          · rw [hf] at h; exact hz (Option.some.inj h))
        clear hA hf hz
        go_wp2
        go_loop [4, 5] (fun v i => ∃ k : Nat, k ≤ s.size ∧ i = .int .i64 k ∧ v = .int .i64 (Opr.valD (s.data.toList.take k) : Nat) ∧ Hid ((s.data.toList.take k).all Opr.dgt = true) ∧ Hid (Opr.valD (s.data.toList.take k) < 10 ^ k)) (fun _ i => s.size - (intOf i).toNat)
        case atStart => exact ⟨0, Nat.zero_le _, rfl, rfl, rfl, (by show Opr.valD [] < 1; decide)⟩
        case round =>
          obtain ⟨k, hk, rfl, rfl, HA, HP⟩ := hrel
          by_cases hlt : k < s.size
          · have hv : Opr.valD (s.data.toList.take k) < 10000 := Nat.lt_of_lt_of_le HP.out (Nat.pow_le_pow_right (n := 10) (i := k) (j := 4) (by decide) (by omega))
            by_cases hx : (48 : Int) ≤ s[k].toNat
            · by_cases hy : (s[k].toNat : Int) ≤ 57
              · have HS : Hid (Opr.valD (s.data.toList.take (k + 1)) = Opr.valD (s.data.toList.take k) * 10 + (s[k].toNat - 48)) := Opr.valD_snoc s k hlt
                have HA2 : Hid ((s.data.toList.take (k + 1)).all Opr.dgt = true) := by
                  refine (Opr.dgt_snoc s k hlt).trans ?_
                  rw [HA.out, Bool.true_and]; exact Opr.dgt_yes (by omega) (by omega)
                have HP2 : Hid (Opr.valD (s.data.toList.take (k + 1)) < 10 ^ (k + 1)) := by
                  have h := HP.out
                  show _ < _
                  rw [HS.out, Nat.pow_succ]; omega
                generalize Opr.valD (s.data.toList.take k) = V at *
                go_wp2
                refine ⟨⟨k + 1, by omega, by go_num, ?_, HA2, HP2⟩, by simp [intOf]; omega⟩
                rw [HS.out]
                go_num
              · have HN : Hid (Opr.numV s.data.toList = (0, false)) := HB.out k hlt (Opr.dgt_no (by omega))
                go_wp2
                go_ret2
                exact ⟨by rw [HN.out]; rfl, rfl⟩
            · have HN : Hid (Opr.numV s.data.toList = (0, false)) := HB.out k hlt (Opr.dgt_no (by omega))
              go_wp2
              go_ret2
              exact ⟨by rw [HN.out]; rfl, rfl⟩
          · have hk' : k = s.size := by omega
            subst hk'
            have e : s.data.toList.take s.size = s.data.toList := List.take_of_length_le (by rw [len_eq]; exact Nat.le_refl _)
            have HN : Hid (Opr.numV s.data.toList = (((Opr.valD s.data.toList : Nat) : Int), true)) := HG.out (by rw [← e]; exact HA.out)
            rw [e]
            clear e
            go_wp2
            go_ret2
            exact ⟨by rw [HN.out]; rfl, rfl⟩
end Go.Proofs.YtdjnkchaapcjpaaGreatDoor
