/- what the specification says of a tree: its mathematics, and the small functions l2At, l2Data, l2Owner. -/
import Derived.Test.YtdjnkchaapcjpaaZ1
import Derived.Test.YtdjnkchaapcjpaaS4
namespace Go.Proofs.Ytdjnkchaapcjpaa
open Go.RowKit
namespace Tre

def isAt (p : ByteArray) (z : Zn) : Bool := z.path.toList == p.toList
/-- The place of the first node of path p, or -1. -/
def atI (zs : List Zn) (p : ByteArray) : Int := match zs.findIdx? (isAt p) with | some i => i | none => -1
theorem atI_hit {zs : List Zn} {p : ByteArray} {k : Nat} {z : Zn} (hz : zs[k]? = some z) (h : isAt p z = true) (ha : ∀ (j : Nat) y, j < k → zs[j]? = some y → isAt p y = false) : atI zs p = k := by
  have : zs.findIdx? (isAt p) = some k := by
    rw [List.findIdx?_eq_some_iff_getElem]
    obtain ⟨hk, he⟩ := List.getElem?_eq_some_iff.1 hz
    refine ⟨hk, by rw [he]; exact h, fun j hj => ?_⟩
    rw [ha j _ hj (List.getElem?_eq_getElem _)]; decide
  unfold atI; rw [this]
theorem atI_miss {zs : List Zn} {p : ByteArray} (ha : ∀ (j : Nat) y, zs[j]? = some y → isAt p y = false) : atI zs p = -1 := by
  have : zs.findIdx? (isAt p) = none := by
    rw [List.findIdx?_eq_none_iff]
    intro x hx
    obtain ⟨j, hj⟩ := List.getElem?_of_mem hx
    exact ha j x hj
  unfold atI; rw [this]
theorem atI_range (zs : List Zn) (p : ByteArray) : (atI zs p = -1 ∧ ∀ y ∈ zs, isAt p y = false) ∨ ∃ (k : Nat) (z : Zn), atI zs p = k ∧ k < zs.length ∧ zs[k]? = some z ∧ isAt p z = true := by
  unfold atI
  cases h : zs.findIdx? (isAt p) with
  | none => left; exact ⟨rfl, by rw [List.findIdx?_eq_none_iff] at h; exact h⟩
  | some k =>
    right
    rw [List.findIdx?_eq_some_iff_getElem] at h
    obtain ⟨hk, h1, _⟩ := h
    exact ⟨k, zs[k], rfl, hk, List.getElem?_eq_getElem hk, h1⟩
/-- The first of f 0 .. f (n-1) that is not 0, or 0. -/
def first (f : Nat → Int) : Nat → Int
  | 0 => 0
  | n + 1 => if first f n ≠ 0 then first f n else f n
theorem first_none {f : Nat → Int} {n : Nat} (h : ∀ j, j < n → f j = 0) : first f n = 0 := by
  induction n with
  | zero => rfl
  | succ n ih => rw [first, ih (fun j hj => h j (by omega)), if_neg (by simp), h n (by omega)]
theorem first_hit {f : Nat → Int} {n k : Nat} (hk : k < n) (h : ∀ j, j < k → f j = 0) (h0 : f k ≠ 0) : first f n = f k := by
  induction n with
  | zero => omega
  | succ n ih =>
    by_cases hkn : k = n
    · subst hkn; rw [first, first_none h, if_neg (by simp)]
    · have := ih (by omega)
      rw [first, this, if_pos h0]
theorem first_zero {f : Nat → Int} {n : Nat} (h : first f n = 0) : ∀ j, j < n → f j = 0 := by
  induction n with
  | zero => intro j hj; omega
  | succ n ih =>
    rw [first] at h
    split at h
    · rename_i h1; exact absurd h h1
    · rename_i h1
      intro j hj
      by_cases hjn : j = n
      · subst hjn; exact h
      · exact ih (by simpa using h1) j (by omega)
end Tre

end Go.Proofs.Ytdjnkchaapcjpaa
