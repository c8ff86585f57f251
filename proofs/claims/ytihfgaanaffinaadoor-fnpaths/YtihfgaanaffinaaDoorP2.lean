/- plain mathematics of the promise on paths: a path that is joined of a path and a name is its parent and its last name. -/
import Derived.Test.YtihfgaanaffinaaDoorPure
namespace Go.Proofs.YtihfgaanaffinaaDoor
namespace Pth

theorem okName_count {n : List UInt8} (h : okName n = true) : n.count 47 = 0 := by
  unfold okName at h
  simp only [Bool.and_eq_true] at h
  rw [List.count_eq_zero]
  intro hm
  have := List.all_eq_true.1 h.1 47 hm
  revert this; decide

theorem lastSl_app (l n : List UInt8) (hn : n.count 47 = 0) : ∀ i a, lastSl (l ++ 47 :: n) i a = i + l.length := by
  induction l with
  | nil => intro i a; simp only [List.nil_append, lastSl, if_true]; rw [count_lastSl n _ _ hn]; simp
  | cons c r ih =>
    intro i a
    simp only [List.cons_append, lastSl, List.length_cons]
    split
    · rw [ih]; omega
    · rw [ih]; omega

theorem joined_form (p n : List UInt8) (hp : p ≠ []) : (p = [47] ∧ joined p n = [] ++ 47 :: n) ∨ (p ≠ [47] ∧ p ≠ [] ∧ joined p n = p ++ 47 :: n) := by
  unfold joined
  by_cases h : p = [47]
  · left; exact ⟨h, by rw [if_pos h]; rfl⟩
  · right; exact ⟨h, hp, by rw [if_neg h]⟩

theorem path_ne {p : List UInt8} (h : faultI p = 0) : p ≠ [] := by
  rintro rfl; revert h; decide

theorem joined_ne_top {p n : List UInt8} (hp : faultI p = 0) (hn : okName n = true) : joined p n ≠ [47] := by
  have hne : n ≠ [] := by rintro rfl; revert hn; decide
  rcases joined_form p n (path_ne hp) with ⟨_, h⟩ | ⟨_, h1, h⟩
  · rw [h]; simpa using hne
  · rw [h]
    intro e
    have := congrArg List.length e
    have hl : 0 < n.length := List.length_pos_iff.2 hne
    simp at this
    omega
theorem parent_joined {p n : List UInt8} (hp : faultI p = 0) (hn : okName n = true) (hj : faultI (joined p n) = 0) : parentV (joined p n) = (0, p) := by
  unfold parentV
  rw [hj, if_neg (by decide), if_neg (joined_ne_top hp hn)]
  have hc := okName_count hn
  rcases joined_form p n (path_ne hp) with ⟨h1, h⟩ | ⟨h1, h2, h⟩
  · rw [h, lastSl_app [] n hc, if_pos (by simp), h1]
  · rw [h, lastSl_app p n hc, if_neg, Nat.zero_add, List.take_left]
    have : p.length ≠ 0 := fun e => h2 (List.eq_nil_of_length_eq_zero e)
    omega
theorem name_joined {p n : List UInt8} (hp : faultI p = 0) (hn : okName n = true) (hj : faultI (joined p n) = 0) : nameV (joined p n) = (0, n) := by
  unfold nameV
  rw [hj, if_neg (by decide), if_neg (joined_ne_top hp hn)]
  have hc := okName_count hn
  have key : ∀ l : List UInt8, (l ++ 47 :: n).drop (0 + l.length + 1) = n := by
    intro l
    rw [show l ++ 47 :: n = (l ++ [47]) ++ n from by simp, List.drop_left' (by simp)]
  rcases joined_form p n (path_ne hp) with ⟨h1, h⟩ | ⟨h1, h2, h⟩
  · rw [h, lastSl_app [] n hc, key]
  · rw [h, lastSl_app p n hc, key]
theorem under_joined {p n : List UInt8} (hp : faultI p = 0) (hj : faultI (joined p n) = 0) : underV (joined p n) p = true := by
  unfold underV under
  rw [hp, hj]
  rcases joined_form p n (path_ne hp) with ⟨h1, h⟩ | ⟨h1, h2, h⟩
  · simp [h1]
  · have : (p ++ [47]).isPrefixOf (joined p n) = true := by
      rw [List.isPrefixOf_iff_prefix, h]
      exact ⟨n, by simp⟩
    simp [this]
theorem joined_longer {p n : List UInt8} (hp : faultI p = 0) (hn : okName n = true) : p.length < (joined p n).length := by
  have hne : n ≠ [] := by rintro rfl; revert hn; decide
  have hl : 0 < n.length := List.length_pos_iff.2 hne
  rcases joined_form p n (path_ne hp) with ⟨h1, h⟩ | ⟨h1, h2, h⟩
  · rw [h, h1]; simp; omega
  · rw [h]; simp
theorem not_under_joined {p n : List UInt8} (hp : faultI p = 0) (hn : okName n = true) (hj : faultI (joined p n) = 0) : underV p (joined p n) = false := by
  have hlt := joined_longer hp hn
  unfold underV under
  rw [hp, hj]
  have h1 : ¬ p = joined p n := fun e => by rw [← e] at hlt; omega
  have h3 : (joined p n ++ [47]).isPrefixOf p = false := by
    rw [← Bool.not_eq_true, List.isPrefixOf_iff_prefix]
    intro x
    have := x.length_le
    simp at this
    omega
  have h2 := joined_ne_top hp hn
  rw [h3]
  simp [h1, h2]
theorem under_top_joined {p n : List UInt8} (hj : faultI (joined p n) = 0) : underV (joined p n) [47] = true := by
  unfold underV under
  rw [hj]
  have : faultI [47] = 0 := by decide
  rw [this]
  simp
theorem deep_joined {p n : List UInt8} (hp : faultI p = 0) (hn : okName n = true) (hj : faultI (joined p n) = 0) : ∃ d : Int, 0 ≤ d ∧ d ≤ (p.length : Int) ∧ deepV p = (0, d) ∧ deepV (joined p n) = (0, d + 1) := by
  have hc := okName_count hn
  unfold deepV
  rw [hp, hj, if_neg (by decide : ¬ (0 : Int) ≠ 0), if_neg (by decide : ¬ (0 : Int) ≠ 0), if_neg (joined_ne_top hp hn)]
  rcases joined_form p n (path_ne hp) with ⟨h1, h⟩ | ⟨h1, h2, h⟩
  · refine ⟨0, by omega, by omega, by rw [if_pos h1], ?_⟩
    rw [h]; simp [hc]
  · refine ⟨(p.count 47 : Nat), by omega, ?_, by rw [if_neg h1], ?_⟩
    · have := List.count_le_length (a := (47 : UInt8)) (l := p); omega
    · rw [h]; simp [List.count_append, hc]
theorem joinV_cases (p n : List UInt8) : (∃ c, joinV p n = (c, []) ∧ c ≠ 0) ∨ (joinV p n = (0, joined p n) ∧ faultI p = 0 ∧ okName n = true ∧ faultI (joined p n) = 0) := by
  unfold joinV
  by_cases h1 : faultI p = 0
  · rw [h1, if_neg (by decide)]
    cases h2 : okName n
    · left; exact ⟨5, by simp, by decide⟩
    · by_cases h3 : faultI (joined p n) = 0
      · right; rw [if_neg (by decide), h3, if_neg (by decide)]; exact ⟨rfl, rfl, rfl, rfl⟩
      · left; rw [if_neg (by decide), if_pos h3]; exact ⟨_, rfl, h3⟩
  · left; rw [if_pos h1]; exact ⟨_, rfl, h1⟩
end Pth
end Go.Proofs.YtihfgaanaffinaaDoor
