/- sets of numbers: rising lists; such lists as maps. -/
import Derived.Lib.SlKeysI
import Derived.Maps.Views
namespace Go.Proofs.YtfgjodnjahhanaaDoor
open Go.Maps
namespace Nst
def kv (x : Int) : Lit × DataW Unit := (.int .i64 x, .agg [])
def map (l : List Int) : DataW Unit := .map (l.map kv)
def Ris (l : List Int) : Prop := l.Pairwise fun a b => a < b
/-- x put among l. -/
def put (x : Int) (l : List Int) : List Int := l.filter (fun t => decide (t < x)) ++ x :: l.filter (fun t => decide (x < t))
theorem mem_put {x y : Int} {l : List Int} : y ∈ put x l ↔ y = x ∨ y ∈ l := by
  unfold put
  rw [List.mem_append, List.mem_cons, List.mem_filter, List.mem_filter, decide_eq_true_eq, decide_eq_true_eq]
  constructor
  · rintro (⟨h, -⟩ | h | ⟨h, -⟩)
    · exact Or.inr h
    · exact Or.inl h
    · exact Or.inr h
  · rintro (h | h)
    · exact Or.inr (Or.inl h)
    · rcases Int.lt_trichotomy y x with h1 | h1 | h1
      · exact Or.inl ⟨h, h1⟩
      · exact Or.inr (Or.inl h1)
      · exact Or.inr (Or.inr ⟨h, h1⟩)
theorem Ris.put {l : List Int} (h : Ris l) (s : Int) : Ris (put s l) := by
  unfold Nst.put
  refine List.pairwise_append.2 ⟨h.filter _, List.pairwise_cons.2 ⟨fun b hb => by have := (List.mem_filter.1 hb).2; simpa using this, h.filter _⟩, fun a ha b hb => ?_⟩
  have h1 : a < s := by have := (List.mem_filter.1 ha).2; simpa using this
  rcases List.mem_cons.1 hb with rfl | hb
  · exact h1
  · have h2 : s < b := by have := (List.mem_filter.1 hb).2; simpa using this
    omega
/-- Rising lists with the same members are one. -/
theorem Ris.ext : ∀ {l m : List Int}, Ris l → Ris m → (∀ x, x ∈ l ↔ x ∈ m) → l = m
  | [], [], _, _, _ => rfl
  | [], y :: r, _, _, h => absurd ((h y).2 (by simp)) (by simp)
  | x :: r, [], _, _, h => absurd ((h x).1 (by simp)) (by simp)
  | x :: r, y :: s, h1, h2, h => by
    have g1 := List.pairwise_cons.1 h1
    have g2 := List.pairwise_cons.1 h2
    have e : x = y := by
      rcases List.mem_cons.1 ((h x).1 (by simp)) with e | hx
      · exact e
      · rcases List.mem_cons.1 ((h y).2 (by simp)) with e | hy
        · exact e.symm
        · have a := g1.1 y hy
          have b := g2.1 x hx
          omega
    subst e
    congr 1
    refine Ris.ext g1.2 g2.2 fun z => ?_
    have hz := h z
    rw [List.mem_cons, List.mem_cons] at hz
    constructor
    · intro hm
      rcases hz.1 (Or.inr hm) with rfl | hh
      · exact absurd (g1.1 _ hm) (by omega)
      · exact hh
    · intro hm
      rcases hz.2 (Or.inr hm) with rfl | hh
      · exact absurd (g2.1 _ hm) (by omega)
      · exact hh
theorem insert_map (s : Int) : ∀ (l : List Int), (∀ t ∈ l, t ≠ s) → Ris l → DataW.insert (kv s) (l.map kv) = (put s l).map kv
  | [], _, _ => rfl
  | t :: r, hn, hr => by
    have h1 := hn t (by simp)
    have hr' := List.pairwise_cons.1 hr
    rw [List.map_cons, DataW.insert]
    by_cases h : s < t
    · rw [if_pos (by simp [kv, Lit.before, h])]
      have e1 : (t :: r).filter (fun u => decide (u < s)) = [] := by
        rw [List.filter_eq_nil_iff]; intro u hu
        rcases List.mem_cons.1 hu with rfl | hu
        · simp; omega
        · have := hr'.1 u hu; simp; omega
      have e2 : (t :: r).filter (fun u => decide (s < u)) = t :: r := by
        rw [List.filter_eq_self]; intro u hu
        rcases List.mem_cons.1 hu with rfl | hu
        · simp; omega
        · have := hr'.1 u hu; simp; omega
      rw [put, e1, e2]; rfl
    · rw [if_neg (by simp [kv, Lit.before]; omega), insert_map s r (fun u hu => hn u (by simp [hu])) hr'.2]
      rw [put, put, List.filter_cons_of_pos (by simp; omega), List.filter_cons_of_neg (by simp; omega)]
      rfl
theorem kv_same (t : Int) (i : Int) : (kv t).1.sameKey (.int .i64 i) = (t == i) := by
  simp only [kv, Lit.sameKey, true_and]
  by_cases h : t = i <;> simp [h]
theorem filter_kv (l : List Int) (i : Int) : (l.map kv).filter (fun p => !p.1.sameKey (.int .i64 i)) = (l.filter fun t => t != i).map kv := by
  rw [List.filter_map]
  congr 1
  apply List.filter_congr
  intro t _
  simp only [Function.comp, kv_same]
  rfl
theorem map_put (s : Int) (l : List Int) (h : Ris l) : (map l).put (.int .i64 s) (.agg []) = map (put s l) := by
  show DataW.map (DataW.insert (kv s) _) = DataW.map _
  rw [filter_kv, insert_map s _ (fun t ht => by have := (List.mem_filter.1 ht).2; simpa using this) (h.filter _)]
  congr 2
  unfold put
  rw [List.filter_filter, List.filter_filter]
  congr 1
  · apply List.filter_congr; intro t _
    by_cases h : t < s <;> simp [h]; omega
  · congr 1
    apply List.filter_congr; intro t _
    by_cases h : s < t <;> simp [h]; omega
theorem map_size (l : List Int) : Maps.size (map l) = l.length := by
  show (l.map kv).length = _
  simp
theorem map_keys (l : List Int) : intKeys (map l) = l := by
  show (l.map kv).map (fun p => intOf p.1) = _
  rw [List.map_map]
  exact List.map_id' l
theorem sorted_keys {l : List Int} {ss : List Int} (h : ss.Perm (intKeys (map l))) (hr : Ris l) : ss.mergeSort (fun x y => decide (x ≤ y)) = l := by
  rw [map_keys] at h
  rw [mergeSort_of_perm_i h]
  apply List.mergeSort_of_pairwise
  exact List.Pairwise.imp (fun {a b} hab => by simp; omega) hr
/-- The numbers lo, lo + 1, .., n of them. -/
def upto (lo : Int) : Nat → List Int
  | 0 => []
  | n + 1 => upto lo n ++ [lo + n]
theorem mem_upto {lo x : Int} : ∀ {n : Nat}, x ∈ upto lo n ↔ lo ≤ x ∧ x < lo + n
  | 0 => by simp [upto]
  | n + 1 => by rw [upto, List.mem_append, mem_upto, List.mem_singleton]; omega
theorem ris_upto (lo : Int) : ∀ n : Nat, Ris (upto lo n)
  | 0 => List.Pairwise.nil
  | n + 1 => List.pairwise_append.2 ⟨ris_upto lo n, List.pairwise_singleton _ _, fun a ha b hb => by
      have := mem_upto.1 ha
      rw [List.mem_singleton] at hb
      omega⟩
theorem len_upto (lo : Int) : ∀ n : Nat, (upto lo n).length = n
  | 0 => rfl
  | n + 1 => by rw [upto, List.length_append, len_upto]; rfl
theorem Ris.len {l : List Int} (h : Ris l) {lo : Int} {n : Nat} (hm : ∀ x ∈ l, lo ≤ x ∧ x < lo + n) : l.length ≤ n := by
  have e : l = (upto lo n).filter (fun x => decide (x ∈ l)) := by
    refine h.ext ((ris_upto lo n).filter _) fun x => ?_
    rw [List.mem_filter, mem_upto, decide_eq_true_eq]
    exact ⟨fun hx => ⟨hm x hx, hx⟩, fun hx => hx.2⟩
  rw [e]
  have := List.length_filter_le (fun x => decide (x ∈ l)) (upto lo n)
  rw [len_upto] at this
  exact this
end Nst
end Go.Proofs.YtfgjodnjahhanaaDoor
