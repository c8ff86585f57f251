/- the specification's l1In, l1Name, l1Cut: what they answer. -/
import Derived.Test.YtfgjodnjahhanaaDoorProg
import Derived.Test.YtfgjodnjahhanaaDoorBase
namespace Go.Proofs.YtfgjodnjahhanaaDoor
open Go.RowKit

set_option maxHeartbeats 400000 in
theorem l1In_any (v lo hi : Int) (w : World) :
    Calls Tryd.prog 30 #[.int .i64 v, .int .i64 lo, .int .i64 hi] w fun e w' => e = .returned (.bool (decide (lo ≤ v) && decide (v ≤ hi))) ∧ w' = w := by
  by_cases h : lo ≤ v
  · go_enter Tryd.func30, Tryd.ntmps30
    go_wp2
    go_ret
    exact ⟨ret_bool (by simp [h]), rfl⟩
  · have h2 : decide (lo ≤ v) = false := by simpa using h
    go_enter Tryd.func30, Tryd.ntmps30
    go_wp2
    go_ret
    exact ⟨ret_bool (by simp), rfl⟩

theorem nbI_true {n : Int} (h : nbI n = true) : (97 ≤ n ∧ n ≤ 122) ∨ (48 ≤ n ∧ n ≤ 57) := by
  unfold nbI at h; simpa using h
theorem nbI_false {n : Int} (h : nbI n = false) : n < 48 ∨ (57 < n ∧ n < 97) ∨ 122 < n := by
  unfold nbI at h; simp at h; omega

theorem all_snoc (s : ByteArray) (k : Nat) (h : k < s.size) (ha : (s.data.toList.take k).all Pth.nb = true) (hb : nbI (s[k].toNat : Int) = true) : (s.data.toList.take (k + 1)).all Pth.nb = true := by
  rw [take_snoc s k h, List.all_append, ha]
  rw [nbI_eq] at hb
  simp [hb]
theorem not_name (s : ByteArray) (k : Nat) (h : k < s.size) (hb : nbI (s[k].toNat : Int) = false) : Pth.okName s.data.toList = false := by
  unfold Pth.okName
  have : s.data.toList.all Pth.nb = false := by
    rw [List.all_eq_false]
    refine ⟨s[k], ?_, ?_⟩
    · have := drop_at s k h
      exact List.mem_of_mem_drop (i := k) (by rw [this]; simp)
    · rw [nbI_eq] at hb; simp [hb]
  rw [this]; rfl
theorem okName_val (s : ByteArray) (ha : (s.data.toList.take s.size).all Pth.nb = true) : (decide ((1 : Int) ≤ (s.size : Int)) && decide ((s.size : Int) ≤ 8)) = Pth.okName s.data.toList := by
  rw [List.take_of_length_le (by rw [len_eq]; omega)] at ha
  unfold Pth.okName
  rw [ha, len_eq, Bool.true_and, Bool.eq_iff_iff]
  simp
  omega

/-! ### l1Cut -/
/-- Where the pieces stand behind a round. -/
def CutAt (l : List UInt8) (ps : List ByteArray) (f k : Nat) : Prop :=
  f ≤ k ∧ ps.length ≤ k ∧ ps.map (·.data.toList) ++ (if k ≤ l.length then Pth.cut ((l.drop f).take (k - f)) (l.drop k) else []) = Pth.cut [] l
theorem cutAt_start (l : List UInt8) : CutAt l [] 0 0 := ⟨by omega, by simp, by simp⟩
theorem cutAt_on (s : ByteArray) (ps : List ByteArray) (f k : Nat) (h : k < s.size) (hne : ¬ s[k] = 47) (hc : CutAt s.data.toList ps f k) : CutAt s.data.toList ps f (k + 1) := by
  obtain ⟨a, b, c⟩ := hc
  refine ⟨by omega, by omega, ?_⟩
  rw [← c, if_pos (by rw [len_eq]; omega), if_pos (by rw [len_eq]; omega), drop_at s k h, Pth.cut_ne _ _ _ hne]
  congr 2
  have e : k + 1 - f = (k - f) + 1 := by omega
  rw [e, List.take_succ_eq_append_getElem (by simp; omega)]
  congr 1
  simp only [List.getElem_drop]
  congr 1
  have : f + (k - f) = k := by omega
  simp only [this]
  rfl
theorem cutAt_piece (s : ByteArray) (ps : List ByteArray) (f k : Nat) (h : k < s.size) (h47 : s[k] = 47) (hc : CutAt s.data.toList ps f k) : CutAt s.data.toList (ps ++ [s.extract f k]) (k + 1) (k + 1) := by
  obtain ⟨a, b, c⟩ := hc
  refine ⟨by omega, by simp; omega, ?_⟩
  rw [← c, if_pos (by rw [len_eq]; omega), if_pos (by rw [len_eq]; omega), drop_at s k h, h47, Pth.cut_sl, Nat.sub_self]
  simp
theorem cutAt_last (s : ByteArray) (ps : List ByteArray) (f : Nat) (hc : CutAt s.data.toList ps f s.size) : CutAt s.data.toList (ps ++ [s.extract f s.size]) (s.size + 1) (s.size + 1) := by
  obtain ⟨a, b, c⟩ := hc
  refine ⟨by omega, by simp; omega, ?_⟩
  rw [← c, if_neg (by rw [len_eq]; omega), if_pos (by rw [len_eq]; omega), List.drop_of_length_le (i := s.size) (by rw [len_eq]; omega), Pth.cut]
  simp
theorem cutAt_end (s : ByteArray) (ps : List ByteArray) (f : Nat) (hc : CutAt s.data.toList ps f (s.size + 1)) : ps.map (·.data.toList) = Pth.cut [] s.data.toList := by
  obtain ⟨a, b, c⟩ := hc
  rw [← c, if_neg (by rw [len_eq]; omega)]
  simp
end Go.Proofs.YtfgjodnjahhanaaDoor
