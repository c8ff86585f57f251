/- S4, T1, in one text. -/
import Derived.Test.YtilinjjimiiplaaGreatDoorKqJ3
import Derived.Test.YtilinjjimiiplaaGreatDoorKqJ1
namespace Go.Proofs.YtilinjjimiiplaaGreatDoor
open Go.RowKit
theorem l1FaultI_any (s : ByteArray) (w : World) :
    Calls Tryz.prog 47 #[.string s] w fun e w' => e = .returned (.int .i64 (Pth.faultI s.data.toList)) ∧ Ext w w' := by
  rw [Pth.fault_eq]; exact l1Fault_any s w
theorem few_of_ok {s : ByteArray} (h : Pth.faultI s.data.toList = 0) : s.size ≤ 24 := by
  rcases Pth.fault_cases s.data.toList with ⟨_, h2⟩ | ⟨_, _, h2⟩ | ⟨hm, _⟩
  · rw [h] at h2; cases h2
  · rw [h] at h2; cases h2
  · unfold Pth.many at hm
    simp only [Bool.or_eq_false_iff, decide_eq_false_iff_not, len_eq] at hm
    omega
theorem lastSl_le2 (s : ByteArray) (h : Pth.faultI s.data.toList = 0) (h0 : (s.toList == [47]) = false) : Pth.lastSl s.data.toList 0 0 + 1 ≤ s.size := by
  rcases Pth.fault_cases s.data.toList with ⟨_, h2⟩ | ⟨_, _, h2⟩ | ⟨hm, _, n, la, hr⟩
  · rw [h] at h2; cases h2
  · rw [h] at h2; cases h2
  · rcases Pth.rd_top _ _ _ hr with ⟨h1, _⟩ | ⟨_, _, _, h4, _, h5⟩
    · rw [Lib.toList_data, h1] at h0; cases h0
    · rw [h4, len_eq] at h5; exact h5

end Go.Proofs.YtilinjjimiiplaaGreatDoor
namespace Go.Proofs.YtilinjjimiiplaaGreatDoor
open Go.RowKit
namespace Tre
def isAt (p : ByteArray) (z : Zn) : Bool := z.path.toList == p.toList
/-- The place of the first node of path p, or -1. -/
def atI (zs : List Zn) (p : ByteArray) : Int := match zs.findIdx? (isAt p) with | some i => i | none => -1
theorem atI_hit {zs : List Zn} {p : ByteArray} {k : Nat} {z : Zn} (hz : zs[k]? = some z) (h : isAt p z = true) (ha : ∀ (j : Nat) y, j < k → zs[j]? = some y → isAt p y = false) : atI zs p = k := by
  have : zs.findIdx? (isAt p) = some k := by
    rw [List.findIdx?_eq_some_iff_getElem]
    obtain ⟨hk, he⟩ := List.getElem?_eq_some_iff.1 hz
    refine ⟨hk, by rw [he]; exact h, fun j hj => ?_⟩
    rw [ha j _ hj (List.getElem?_eq_getElem _)]; decide
  unfold atI; rw [this]
theorem atI_miss {zs : List Zn} {p : ByteArray} (ha : ∀ (j : Nat) y, zs[j]? = some y → isAt p y = false) : atI zs p = -1 := by
  have : zs.findIdx? (isAt p) = none := by
    rw [List.findIdx?_eq_none_iff]
    intro x hx
    obtain ⟨j, hj⟩ := List.getElem?_of_mem hx
    exact ha j x hj
  unfold atI; rw [this]
theorem atI_range (zs : List Zn) (p : ByteArray) : (atI zs p = -1 ∧ ∀ y ∈ zs, isAt p y = false) ∨ ∃ (k : Nat) (z : Zn), atI zs p = k ∧ k < zs.length ∧ zs[k]? = some z ∧ isAt p z = true := by
  unfold atI
  cases h : zs.findIdx? (isAt p) with
  | none => left; exact ⟨rfl, by rw [List.findIdx?_eq_none_iff] at h; exact h⟩
  | some k =>
    right
    rw [List.findIdx?_eq_some_iff_getElem] at h
    obtain ⟨hk, h1, _⟩ := h
    exact ⟨k, zs[k], rfl, hk, List.getElem?_eq_getElem hk, h1⟩
/-- The first of f 0 .. f (n-1) that is not 0, or 0. -/
def first (f : Nat → Int) : Nat → Int
  | 0 => 0
  | n + 1 => if first f n ≠ 0 then first f n else f n
theorem first_none {f : Nat → Int} {n : Nat} (h : ∀ j, j < n → f j = 0) : first f n = 0 := by
  induction n with
  | zero => rfl
  | succ n ih => rw [first, ih (fun j hj => h j (by omega)), if_neg (by simp), h n (by omega)]
theorem first_hit {f : Nat → Int} {n k : Nat} (hk : k < n) (h : ∀ j, j < k → f j = 0) (h0 : f k ≠ 0) : first f n = f k := by
  induction n with
  | zero => omega
  | succ n ih =>
    by_cases hkn : k = n
    · subst hkn; rw [first, first_none h, if_neg (by simp)]
    · have := ih (by omega)
      rw [first, this, if_pos h0]
theorem first_zero {f : Nat → Int} {n : Nat} (h : first f n = 0) : ∀ j, j < n → f j = 0 := by
  induction n with
  | zero => intro j hj; omega
  | succ n ih =>
    rw [first] at h
    split at h
    · rename_i h1; exact absurd h h1
    · rename_i h1
      intro j hj
      by_cases hjn : j = n
      · subst hjn; exact h
      · exact ih (by simpa using h1) j (by omega)
end Tre
set_option maxHeartbeats 1000000 in
set_option maxRecDepth 100000 in
theorem l2At_any (v : Value) (zs : List Zn) (p : ByteArray) (w : World) (hS : NSlice w v zs) :
    Calls Tryz.prog 21 #[v, .string p] w fun e w' => e = .returned (.int .i64 (Tre.atI zs p)) ∧ w' = w := by
  obtain ⟨a, cap, rfl, hlc, hcm, hx⟩ := hS
  have HX : Hid (0 < zs.length → ∃ b off, a = some ⟨b, off, none⟩ ∧ b < w.heap.size ∧ NodesAt w b off zs) := hx
  clear hx
  unfold maxLen at hcm
  go_enter Tryz.func21, Tryz.ntmps21
  go_wp2
  go_loopw [5] (fun i wr => ∃ (k : Nat), k ≤ zs.length ∧ i = .int .i64 k ∧ Hid (∀ (j : Nat) y, j < k → zs[j]? = some y → Tre.isAt p y = false) ∧ wr = w) (fun i _ => zs.length - (intOf i).toNat)
  case atStart => exact ⟨0, Nat.zero_le _, rfl, fun j y h => by omega, rfl⟩
  case round =>
    obtain ⟨k, hk, rfl, HA, rfl⟩ := hrel
    by_cases hlt : k < zs.length
    · obtain ⟨z, hzk⟩ : ∃ z, zs[k]? = some z := ⟨_, List.getElem?_eq_getElem hlt⟩
      obtain ⟨b, off, rfl, hb, hN⟩ := HX.out (by omega)
      obtain ⟨d0, d1, d2, d3, d4⟩ := hN k z hzk
      have HZ : Hid (zs[k]? = some z) := hzk
      clear hzk hN
      by_cases he : (z.path.toList == p.toList) = true
      · go_wp2
        go_ret
        exact ⟨ret_int (Tre.atI_hit HZ.out he HA.out).symm, rfl⟩
      · have he' : (z.path.toList == p.toList) = false := by simpa using he
        clear he
        have HA2 : Hid (∀ (j : Nat) y, j < k + 1 → zs[j]? = some y → Tre.isAt p y = false) := by
          intro j y hj hy
          by_cases hjk : j = k
          · subst hjk; rw [HZ.out] at hy; cases hy; exact he'
          · exact HA.out j y (by omega) hy
        go_wp2
        exact ⟨⟨k + 1, by omega, by go_num, HA2, trivial⟩, by simp [intOf]; omega⟩
    · have HM : Hid (Tre.atI zs p = -1) := Tre.atI_miss (fun j y hy => HA.out j y (by have := (List.getElem?_eq_some_iff.1 hy).1; omega) hy)
      go_wp2
      go_ret
      exact ⟨ret_int HM.out.symm, rfl⟩

set_option maxHeartbeats 1000000 in
theorem l2Data_any (d : Int) (w : World) : Calls Tryz.prog 64 #[.int .i64 d] w fun e w' => e = .returned (.bool (decide (0 ≤ d) && decide (d ≤ 9999))) ∧ w' = w := by
  go_enter Tryz.func64, Tryz.ntmps64
  go_wp2_with fail
  refine (l1In_any _ _ _ _).mono ?_
  rintro e w2 ⟨rfl, rfl⟩
  go_wp2
  go_ret
  exact ⟨rfl, rfl⟩
set_option maxHeartbeats 1000000 in
theorem l2Owner_any (d : Int) (w : World) : Calls Tryz.prog 66 #[.int .i64 d] w fun e w' => e = .returned (.bool (decide (0 ≤ d) && decide (d ≤ 9))) ∧ w' = w := by
  go_enter Tryz.func66, Tryz.ntmps66
  go_wp2_with fail
  refine (l1In_any _ _ _ _).mono ?_
  rintro e w2 ⟨rfl, rfl⟩
  go_wp2
  go_ret
  exact ⟨rfl, rfl⟩
end Go.Proofs.YtilinjjimiiplaaGreatDoor
