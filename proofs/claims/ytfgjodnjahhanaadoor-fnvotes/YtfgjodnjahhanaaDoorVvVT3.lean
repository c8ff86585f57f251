/- votes: who has voted for a reply (mathematics). -/
import Derived.Test.YtfgjodnjahhanaaDoorVvVT2
import Derived.Test.YtfgjodnjahhanaaDoorVvQS0
namespace Go.Proofs.YtfgjodnjahhanaaDoor
namespace Vot
/-- The vote z is for the reply c, r, p. -/
def isR (c r : Int) (p : ByteArray) (z : Vt) : Prop := z.code = c ∧ z.value = r ∧ z.path = p
instance (c r : Int) (p : ByteArray) (z : Vt) : Decidable (isR c r p z) := by unfold isR; infer_instance
theorem isR_of {c r : Int} {p : ByteArray} {z : Vt} (h0 : z.code = c) (h1 : z.value = r) (h2 : z.path.toList = p.toList) : isR c r p z := by
  refine ⟨h0, h1, ?_⟩
  rw [Lib.toList_data, Lib.toList_data] at h2
  exact ba_eq h2
/-- id has a vote for the reply among the first k. -/
def hasV (zs : List Vt) (c r : Int) (p : ByteArray) (id : Int) (k : Nat) : Bool := (zs.take k).any (fun z => decide (z.frm = id) && decide (isR c r p z))
theorem hasV_succ {zs : List Vt} {c r : Int} {p : ByteArray} {id : Int} {k : Nat} {z : Vt} (h : zs[k]? = some z) : hasV zs c r p id (k + 1) = (hasV zs c r p id k || (decide (z.frm = id) && decide (isR c r p z))) := by
  unfold hasV
  rw [List.take_add_one, h, List.any_append]
  simp
theorem hasV_yes {zs : List Vt} {c r : Int} {p : ByteArray} {id : Int} {k : Nat} {z : Vt} (h : zs[k]? = some z) (h1 : z.frm = id) (h2 : isR c r p z) : hasV zs c r p id (k + 1) = true := by
  rw [hasV_succ h]; simp [h1, h2]
theorem hasV_was {zs : List Vt} {c r : Int} {p : ByteArray} {id : Int} {k : Nat} {z : Vt} (h : zs[k]? = some z) (h1 : hasV zs c r p id k = true) : hasV zs c r p id (k + 1) = true := by
  rw [hasV_succ h, h1]; rfl
theorem hasV_id {zs : List Vt} {c r : Int} {p : ByteArray} {id : Int} {k : Nat} {z : Vt} {b : Bool} (h : zs[k]? = some z) (h0 : hasV zs c r p id k = b) (h1 : ¬ z.frm = id) : hasV zs c r p id (k + 1) = b := by
  rw [hasV_succ h, h0]; simp [h1]
theorem hasV_no {zs : List Vt} {c r : Int} {p : ByteArray} {id : Int} {k : Nat} {z : Vt} {b : Bool} (h : zs[k]? = some z) (h0 : hasV zs c r p id k = b) (h1 : ¬ isR c r p z) : hasV zs c r p id (k + 1) = b := by
  rw [hasV_succ h, h0]; simp [h1]
theorem hasV_iff {zs : List Vt} {c r : Int} {p : ByteArray} {id : Int} : hasV zs c r p id zs.length = true ↔ ∃ z ∈ zs, z.frm = id ∧ isR c r p z := by
  unfold hasV
  rw [List.take_length, List.any_eq_true]
  simp
def votersK (zs : List Vt) (c r : Int) (p : ByteArray) (n : Nat) : List Int := (Nst.upto 1 n).filter (fun id => hasV zs c r p id zs.length)
/-- Who has a vote for the reply, rising. -/
def voters (f : Int) (zs : List Vt) (c r : Int) (p : ByteArray) : List Int := votersK zs c r p (3 * f + 1).toNat
theorem votersK_yes {zs : List Vt} {c r : Int} {p : ByteArray} {n : Nat} (h : hasV zs c r p (1 + n) zs.length = true) : votersK zs c r p (n + 1) = votersK zs c r p n ++ [1 + (n : Int)] := by
  unfold votersK
  rw [Nst.upto, List.filter_append, List.filter_cons_of_pos (by simpa using h)]
  rfl
theorem votersK_no {zs : List Vt} {c r : Int} {p : ByteArray} {n : Nat} (h : hasV zs c r p (1 + n) zs.length = false) : votersK zs c r p (n + 1) = votersK zs c r p n := by
  unfold votersK
  rw [Nst.upto, List.filter_append, List.filter_cons_of_neg (by simp [h])]
  simp
theorem votersK_ris (zs : List Vt) (c r : Int) (p : ByteArray) (n : Nat) : Nst.Ris (votersK zs c r p n) := (Nst.ris_upto 1 n).filter _
theorem votersK_len (zs : List Vt) (c r : Int) (p : ByteArray) (n : Nat) : (votersK zs c r p n).length ≤ n := by
  have := List.length_filter_le (fun id => hasV zs c r p id zs.length) (Nst.upto 1 n)
  rw [Nst.len_upto] at this
  exact this
theorem voters_len {f : Int} {zs : List Vt} {c r : Int} {p : ByteArray} (h1 : f ≤ 2) : (voters f zs c r p).length ≤ 7 := by
  have := votersK_len zs c r p (3 * f + 1).toNat
  unfold voters
  omega
theorem mem_voters {f : Int} {zs : List Vt} {c r : Int} {p : ByteArray} {x : Int} (hf : 0 ≤ f) : x ∈ voters f zs c r p ↔ (1 ≤ x ∧ x ≤ 3 * f + 1) ∧ ∃ z ∈ zs, z.frm = x ∧ isR c r p z := by
  unfold voters votersK
  rw [List.mem_filter, Nst.mem_upto, hasV_iff]
  constructor
  · rintro ⟨h1, h2⟩; exact ⟨by omega, h2⟩
  · rintro ⟨h1, h2⟩; exact ⟨by omega, h2⟩
/-- The program's set: who of the first k votes is for the reply. -/
def vset (zs : List Vt) (c r : Int) (p : ByteArray) : Nat → List Int
  | 0 => []
  | k + 1 => match zs[k]? with
    | some z => if isR c r p z then Nst.put z.frm (vset zs c r p k) else vset zs c r p k
    | none => vset zs c r p k
theorem vset_yes {zs : List Vt} {c r : Int} {p : ByteArray} {z : Vt} {k : Nat} (h : zs[k]? = some z) (h2 : isR c r p z) : vset zs c r p (k + 1) = Nst.put z.frm (vset zs c r p k) := by
  rw [vset, h]; simp only; rw [if_pos h2]
theorem vset_no {zs : List Vt} {c r : Int} {p : ByteArray} {z : Vt} {k : Nat} (h : zs[k]? = some z) (h2 : ¬ isR c r p z) : vset zs c r p (k + 1) = vset zs c r p k := by
  rw [vset, h]; simp only; rw [if_neg h2]
theorem vset_ris (zs : List Vt) (c r : Int) (p : ByteArray) (k : Nat) : Nst.Ris (vset zs c r p k) := by
  induction k with
  | zero => exact List.Pairwise.nil
  | succ k ih =>
    cases h : zs[k]? with
    | none => rw [vset, h]; exact ih
    | some z =>
      by_cases h2 : isR c r p z
      · rw [vset_yes h h2]; exact ih.put _
      · rw [vset_no h h2]; exact ih
theorem mem_vset {zs : List Vt} {c r : Int} {p : ByteArray} {x : Int} (k : Nat) (hk : k ≤ zs.length) : x ∈ vset zs c r p k ↔ ∃ z ∈ zs.take k, z.frm = x ∧ isR c r p z := by
  induction k with
  | zero => simp [vset]
  | succ k ih =>
    have ih := ih (by omega)
    obtain ⟨z, h⟩ : ∃ z, zs[k]? = some z := ⟨_, List.getElem?_eq_getElem (by omega)⟩
    have ht : zs.take (k + 1) = zs.take k ++ [z] := by rw [List.take_add_one, h]; rfl
    rw [ht]
    by_cases h2 : isR c r p z
    · rw [vset_yes h h2, Nst.mem_put, ih]
      constructor
      · rintro (e | ⟨y, hy, e⟩)
        · exact ⟨z, by simp, e.symm, h2⟩
        · exact ⟨y, List.mem_append_left _ hy, e⟩
      · rintro ⟨y, hy, e1, e2⟩
        rcases List.mem_append.1 hy with hy | hy
        · exact Or.inr ⟨y, hy, e1, e2⟩
        · rw [List.mem_singleton] at hy
          subst hy
          exact Or.inl e1.symm
    · rw [vset_no h h2, ih]
      constructor
      · rintro ⟨y, hy, e⟩
        exact ⟨y, List.mem_append_left _ hy, e⟩
      · rintro ⟨y, hy, e1, e2⟩
        rcases List.mem_append.1 hy with hy | hy
        · exact ⟨y, hy, e1, e2⟩
        · rw [List.mem_singleton] at hy
          subst hy
          exact absurd e2 h2
theorem vset_voters {f : Int} {zs : List Vt} (c r : Int) (p : ByteArray) (h : fault f zs = 0) : vset zs c r p zs.length = voters f zs c r p := by
  obtain ⟨h0, h1, -, ha⟩ := fault_zero h
  refine Nst.Ris.ext (vset_ris _ _ _ _ _) (votersK_ris _ _ _ _ _) (fun x => ?_)
  rw [mem_vset _ (Nat.le_refl _), List.take_length]
  show _ ↔ x ∈ voters f zs c r p
  rw [mem_voters (by omega)]
  constructor
  · rintro ⟨z, hz, e1, e2⟩
    have := (ha z hz).1
    exact ⟨by omega, z, hz, e1, e2⟩
  · rintro ⟨-, h⟩
    exact h
/-- What VotersFor answers. -/
def votersV (f : Int) (zs : List Vt) (c r : Int) (p : ByteArray) : Int × List Int := if fault f zs ≠ 0 then (fault f zs, []) else (0, voters f zs c r p)
theorem votersV_bad {f k : Int} {zs : List Vt} {c r : Int} {p : ByteArray} (h : fault f zs = k) (hk : k ≠ 0) : votersV f zs c r p = (k, []) := by unfold votersV; rw [h, if_pos hk]
theorem votersV_ok {f : Int} {zs : List Vt} {c r : Int} {p : ByteArray} (h : fault f zs = 0) : votersV f zs c r p = (0, voters f zs c r p) := by unfold votersV; rw [h, if_neg (by decide)]
/-- The reply c, r, p has more than f voters. -/
def many (f : Int) (zs : List Vt) (z : Vt) : Bool := decide (f < ((voters f zs z.code z.value z.path).length : Int))
/-- What AcceptOf answers: code; the reply's code, value, path. -/
def believeK (f : Int) (zs : List Vt) (l : List Vt) : Int × Int × Int × ByteArray := match l.find? (many f zs) with
  | some z => (0, z.code, z.value, z.path)
  | none => (10, 0, 0, ⟨#[]⟩)
def believe (f : Int) (zs : List Vt) : Int × Int × Int × ByteArray := if fault f zs ≠ 0 then (fault f zs, 0, 0, ⟨#[]⟩) else believeK f zs zs
theorem believe_bad {f k : Int} {zs : List Vt} (h : fault f zs = k) (hk : k ≠ 0) : believe f zs = (k, 0, 0, ⟨#[]⟩) := by unfold believe; rw [h, if_pos hk]
theorem believe_ok {f : Int} {zs : List Vt} (h : fault f zs = 0) : believe f zs = believeK f zs zs := by unfold believe; rw [h, if_neg (by decide)]
theorem believeK_at {f : Int} {zs : List Vt} {k : Nat} {z : Vt} (h : zs[k]? = some z) : believeK f zs (zs.drop k) = if many f zs z = true then (0, z.code, z.value, z.path) else believeK f zs (zs.drop (k + 1)) := by
  obtain ⟨hk, rfl⟩ := List.getElem?_eq_some_iff.1 h
  rw [List.drop_eq_getElem_cons hk]
  unfold believeK
  by_cases hm : many f zs zs[k] = true
  · rw [List.find?_cons_of_pos hm, if_pos hm]
  · rw [List.find?_cons_of_neg hm, if_neg hm]
theorem believeK_yes {f : Int} {zs : List Vt} {k : Nat} {z : Vt} (h : zs[k]? = some z) (hm : f < ((voters f zs z.code z.value z.path).length : Int)) : believeK f zs (zs.drop k) = (0, z.code, z.value, z.path) := by
  rw [believeK_at h, if_pos (by unfold many; exact decide_eq_true hm)]
theorem believeK_no {f : Int} {zs : List Vt} {k : Nat} {z : Vt} (h : zs[k]? = some z) (hm : ¬ f < ((voters f zs z.code z.value z.path).length : Int)) : believeK f zs (zs.drop k) = believeK f zs (zs.drop (k + 1)) := by
  rw [believeK_at h, if_neg (by unfold many; simpa using hm)]
theorem believeK_end {f : Int} {zs : List Vt} {k : Nat} (h : zs.length ≤ k) : believeK f zs (zs.drop k) = (10, 0, 0, ⟨#[]⟩) := by
  rw [List.drop_of_length_le h]; rfl
end Vot
end Go.Proofs.YtfgjodnjahhanaaDoor
