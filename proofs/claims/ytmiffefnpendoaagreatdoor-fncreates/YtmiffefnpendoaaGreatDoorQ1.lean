/- Nodes that rise: where a path stands among them, and what a tree without fault is. -/
import Derived.Test.YtmiffefnpendoaaGreatDoorQ0
import Derived.Test.YtmiffefnpendoaaGreatDoorT4
namespace Go.Proofs.YtmiffefnpendoaaGreatDoor
open Go.RowKit
namespace Tre
def key (z : Zn) : List UInt8 := z.path.data.toList
theorem isAt_iff {p : ByteArray} {z : Zn} : isAt p z = true ↔ key z = p.data.toList := by
  unfold isAt key; rw [beq_val]; simp
theorem notUp_iff {z y : Zn} : notUp z y = false ↔ key y < key z := by
  unfold notUp key
  rw [beq_val, less_eq, Lib.toList_data, Lib.toList_data]
  simp only [Bool.or_eq_false_iff, decide_eq_false_iff_not]
  constructor
  · rintro ⟨h1, h2⟩; exact lt_tot h1 h2
  · intro h; exact ⟨lt_asym h, fun e => lt_ne h e.symm⟩
/-- Each path is greater than the one ahead of it. -/
def Up (zs : List Zn) : Prop := ∀ (i : Nat) y z, zs[i]? = some y → zs[i + 1]? = some z → key y < key z
theorem up_lt {zs : List Zn} (h : Up zs) : ∀ (d i : Nat) y z, zs[i]? = some y → zs[i + d + 1]? = some z → key y < key z := by
  intro d
  induction d with
  | zero => intro i y z hy hz; exact h i y z hy hz
  | succ d ih =>
    intro i y z hy hz
    have hl := (List.getElem?_eq_some_iff.1 hz).1
    obtain ⟨x, hx⟩ : ∃ x, zs[i + d + 1]? = some x := ⟨_, List.getElem?_eq_getElem (by omega)⟩
    exact lt_tr (ih i y x hy hx) (h (i + d + 1) x z hx hz)
theorem up_lt' {zs : List Zn} (h : Up zs) {i j : Nat} {y z : Zn} (hij : i < j) (hy : zs[i]? = some y) (hz : zs[j]? = some z) : key y < key z :=
  up_lt h (j - i - 1) i y z hy (by rw [show i + (j - i - 1) + 1 = j from by omega]; exact hz)
theorem up_of_nodes {zs : List Zn} (h : ∀ j, j < zs.length → nodeC zs j = 0) : Up zs := by
  intro i y z hy hz
  have h1 := h (i + 1) (List.getElem?_eq_some_iff.1 hz).1
  obtain ⟨hc, hn⟩ := nodeC_ok hz h1
  rw [nodeC_succ hz hy hc.symm hn] at h1
  split at h1
  · cases h1
  · rename_i h2; exact notUp_iff.1 (by simpa using h2)
/-- How many paths there are ahead of p. -/
def cut (zs : List Zn) (p : List UInt8) : Nat := zs.findIdx (fun z => !decide (key z < p))
theorem cut_le (zs : List Zn) (p : List UInt8) : cut zs p ≤ zs.length := List.findIdx_le_length
theorem cut_eq {zs : List Zn} {p : List UInt8} {i : Nat} (hi : i ≤ zs.length) (h1 : ∀ (t : Nat) y, t < i → zs[t]? = some y → key y < p) (h2 : ∀ y, zs[i]? = some y → ¬ key y < p) : cut zs p = i := by
  unfold cut
  by_cases hl : i < zs.length
  · rw [List.findIdx_eq hl]
    refine ⟨by simpa using h2 _ (List.getElem?_eq_getElem hl), fun j hj => by simpa using h1 j _ hj (List.getElem?_eq_getElem _)⟩
  · have : i = zs.length := by omega
    subst this
    rw [List.findIdx_eq_length]
    intro x hx
    obtain ⟨j, hj⟩ := List.getElem?_of_mem hx
    simpa using h1 j x (List.getElem?_eq_some_iff.1 hj).1 hj
theorem cut_lt {zs : List Zn} {p : List UInt8} {t : Nat} {y : Zn} (ht : t < cut zs p) (hy : zs[t]? = some y) : key y < p := by
  have h := List.not_of_lt_findIdx ht
  obtain ⟨hl, he⟩ := List.getElem?_eq_some_iff.1 hy
  rw [he] at h
  simpa using h
theorem cut_ge {zs : List Zn} {p : List UInt8} (hu : Up zs) {t : Nat} {y : Zn} (ht : cut zs p ≤ t) (hy : zs[t]? = some y) : ¬ key y < p := by
  have hl := (List.getElem?_eq_some_iff.1 hy).1
  have hc : cut zs p < zs.length := by omega
  have h0 : ¬ key zs[cut zs p] < p := by
    have := List.findIdx_getElem (p := fun z => !decide (key z < p)) (xs := zs) (w := hc)
    unfold cut
    simpa using this
  rcases Nat.lt_or_ge (cut zs p) t with h | h
  · exact fun hlt => h0 (lt_tr (up_lt' hu h (List.getElem?_eq_getElem hc) hy) hlt)
  · have : cut zs p = t := by omega
    subst this
    rw [List.getElem?_eq_getElem hc] at hy; cases hy; exact h0
def has (zs : List Zn) (p : ByteArray) : Bool := decide (0 ≤ atI zs p)
theorem has_iff {zs : List Zn} {p : ByteArray} (hu : Up zs) {i : Nat} (hi : cut zs p.data.toList = i) : has zs p = true ↔ ∃ z, zs[i]? = some z ∧ key z = p.data.toList := by
  subst hi
  constructor
  · intro h
    have h0 : 0 ≤ atI zs p := by simpa [has] using h
    rcases atI_range zs p with ⟨hm, -⟩ | ⟨k, z, hk, hkl, hz, ha⟩
    · omega
    · have hz2 := isAt_iff.1 ha
      have hkc : k = cut zs p.data.toList := by
        rcases Nat.lt_or_ge k (cut zs p.data.toList) with hlt | hge
        · exact absurd hz2 (lt_ne (cut_lt hlt hz))
        · rcases Nat.lt_or_ge (cut zs p.data.toList) k with hgt | hge2
          · obtain ⟨x, hx⟩ : ∃ x, zs[cut zs p.data.toList]? = some x := ⟨_, List.getElem?_eq_getElem (by omega)⟩
            have h1 := up_lt' hu hgt hx hz
            rw [hz2] at h1
            exact absurd h1 (cut_ge hu (Nat.le_refl _) hx)
          · omega
      subst hkc
      exact ⟨z, hz, hz2⟩
  · rintro ⟨z, hz, hk⟩
    have : atI zs p = (cut zs p.data.toList : Nat) := atI_hit hz (isAt_iff.2 hk) (fun j y hj hy => by
      have h1 := lt_ne (cut_lt hj hy)
      rw [← isAt_iff] at h1
      simpa using h1)
    simp [has, this]
theorem has_at {zs : List Zn} {p : ByteArray} (hu : Up zs) (h : has zs p = true) : ∃ z, atI zs p = (cut zs p.data.toList : Nat) ∧ zs[cut zs p.data.toList]? = some z ∧ key z = p.data.toList := by
  obtain ⟨z, hz, hk⟩ := (has_iff hu rfl).1 h
  refine ⟨z, atI_hit hz (isAt_iff.2 hk) (fun j y hj hy => ?_), hz, hk⟩
  have h1 := lt_ne (cut_lt hj hy)
  rw [← isAt_iff] at h1
  simpa using h1
theorem has_not {zs : List Zn} {p : ByteArray} (h : has zs p = false) : atI zs p < 0 := by
  have : ¬ 0 ≤ atI zs p := by simpa [has] using h
  omega
theorem fault_up {zs : List Zn} (h : fault zs = 0) : Up zs := up_of_nodes (fault_nodes h).2
theorem fault_hang {zs : List Zn} (h : fault zs = 0) : 0 ≤ atI zs top ∧ (∀ j, j < zs.length → parC zs j = 0) ∧ ∀ j, j < zs.length → ownC zs j = 0 := by
  have h20 : ¬ 20 < zs.length := by have := (fault_nodes h).1; omega
  have h1 := first_none (fault_nodes h).2
  by_cases h2 : atI zs top < 0
  · rw [fault_top h20 h1 h2] at h; cases h
  by_cases h3 : first (parC zs) zs.length = 0
  · by_cases h4 : first (ownC zs) zs.length = 0
    · exact ⟨by omega, first_zero h3, first_zero h4⟩
    · rw [fault_own h20 h1 h2 h3 rfl] at h; exact absurd h h4
  · rw [fault_par h20 h1 h2 rfl h3] at h; exact absurd h h3
end Tre
end Go.Proofs.YtmiffefnpendoaaGreatDoor
