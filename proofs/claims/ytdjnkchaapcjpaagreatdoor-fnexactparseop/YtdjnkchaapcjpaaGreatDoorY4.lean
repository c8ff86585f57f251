/- what the specification's l5Parse makes of an operation's words (mathematics). -/
import Derived.Test.YtdjnkchaapcjpaaGreatDoorY3
import Derived.Test.YtdjnkchaapcjpaaGreatDoorX4
namespace Go.Proofs.YtdjnkchaapcjpaaGreatDoor
open Go.RowKit
namespace Opr
theorem valD_snoc1 (l : List UInt8) (c : UInt8) : valD (l ++ [c]) = valD l * 10 + (c.toNat - 48) := by
  unfold valD; rw [List.foldl_append]; rfl
theorem valD_dec (n : Nat) : valD (Lib.decDigits n) = n := by
  induction n using Nat.strongRecOn with
  | _ n ih =>
    rw [Lib.decDigits]
    split
    · rename_i h10
      have e : (UInt8.ofNat (48 + n)).toNat = 48 + n := by rw [UInt8.toNat_ofNat']; omega
      show 0 * 10 + ((UInt8.ofNat (48 + n)).toNat - 48) = n
      rw [e]; omega
    · rename_i h10
      have e : (UInt8.ofNat (48 + n % 10)).toNat = 48 + n % 10 := by rw [UInt8.toNat_ofNat']; omega
      rw [valD_snoc1, ih (n / 10) (by omega), e]; omega
theorem dec_len4 : ∀ (k n : Nat), n < 10 ^ (k + 1) → (Lib.decDigits n).length ≤ k + 1 := by
  intro k
  induction k with
  | zero => intro n h; rw [Lib.decDigits_one (by omega)]; exact Nat.le_refl _
  | succ k ih =>
    intro n h
    rw [Lib.decDigits]
    split
    · simp
    · rw [List.length_append, List.length_singleton]
      have := ih (n / 10) (by rw [Nat.pow_succ] at h; omega)
      omega
theorem dec_head (n : Nat) (h : 0 < n) : (Lib.decDigits n)[0]? ≠ some 48 := by
  induction n using Nat.strongRecOn with
  | _ n ih =>
    rw [Lib.decDigits]
    split
    · rename_i h10
      have e : (UInt8.ofNat (48 + n)).toNat = 48 + n := by rw [UInt8.toNat_ofNat']; omega
      intro hc
      have h2 : UInt8.ofNat (48 + n) = 48 := Option.some.inj hc
      rw [h2] at e
      have h3 : (48 : UInt8).toNat = 48 := rfl
      omega
    · rename_i h10
      rw [List.getElem?_append_left (by have := List.length_pos_iff.2 (dec_ne (n / 10)); omega)]
      exact ih (n / 10) (by omega) (by omega)
theorem numV_itoa {n : Int} (h0 : 0 ≤ n) (h1 : n ≤ 9999) : numV (Lib.itoa n) = (n, true) := by
  obtain ⟨m, rfl⟩ : ∃ m : Nat, n = (m : Int) := ⟨n.toNat, by omega⟩
  rw [Lib.itoa_nonneg]
  have hr := dec_range m
  have hl := dec_len4 3 m (by omega)
  have hp := List.length_pos_iff.2 (dec_ne m)
  have hd := valD_dec m
  have hh := dec_head m
  refine (numV_good ?_ ?_ ?_).trans (by rw [hd])
  · intro e
    have := hr 97 (by rw [e]; simp)
    have h3 : (97 : UInt8).toNat = 97 := rfl
    omega
  · rintro (h | h | ⟨h, h2⟩)
    · omega
    · omega
    · refine hh ?_ h2
      rcases Nat.eq_zero_or_pos m with h3 | h3
      · subst h3; rw [Lib.decDigits_one (by decide)] at h; simp at h
      · exact h3
  · rw [List.all_eq_true]
    intro c hc
    exact dgt_yes (hr c hc).1 (hr c hc).2
theorem numV_verT {v : Int} (h0 : -1 ≤ v) (h1 : v ≤ 999) : numV (verT v) = (v, true) := by
  unfold verT
  split
  · rw [numV_any rfl, show v = -1 from by omega]
  · exact numV_itoa (by omega) (by omega)
theorem numV_seq : numV seqW = (0, false) := by decide
theorem numV_own : numV ownW = (0, false) := by decide
def nums (l : List ByteArray) : List Int := l.filterMap (fun x => if (numV x.data.toList).2 = true then some (numV x.data.toList).1 else none)
def has (l : List ByteArray) (x : List UInt8) : Bool := l.any (fun b => decide (b.data.toList = x))
/-- What l5Parse makes of the pieces. -/
def guessP (ps : List ByteArray) : Opn :=
  ⟨kindW (ps.getD 0 ⟨#[]⟩).data.toList, ps.getD 1 ⟨#[]⟩, if hasData (kindW (ps.getD 0 ⟨#[]⟩).data.toList) = true then (nums (ps.drop 2)).headD 0 else 0,
    if hasVer (kindW (ps.getD 0 ⟨#[]⟩).data.toList) = true then (if hasData (kindW (ps.getD 0 ⟨#[]⟩).data.toList) = true then (nums (ps.drop 2)).tail else nums (ps.drop 2)).headD 0 else 0,
    has (ps.drop 2) seqW, has (ps.drop 2) ownW⟩
theorem nums_nil : nums [] = [] := rfl
theorem nums_yes {x : List UInt8} {n : Int} (h : numV x = (n, true)) (l : List ByteArray) : nums (mkB x :: l) = n :: nums l := by
  unfold nums; rw [List.filterMap_cons, mkB_list, h]; rfl
theorem nums_no {x : List UInt8} (h : numV x = (0, false)) (l : List ByteArray) : nums (mkB x :: l) = nums l := by
  unfold nums; rw [List.filterMap_cons, mkB_list, h]; rfl
theorem has_cons (x y : List UInt8) (l : List ByteArray) : has (mkB x :: l) y = (decide (x = y) || has l y) := by
  unfold has; rw [List.any_cons, mkB_list]
theorem no_word {x y : List UInt8} {n : Int} (h : numV x = (n, true)) (hy : numV y = (0, false)) : decide (x = y) = false := by
  rw [decide_eq_false_iff_not]; intro e; rw [e, hy] at h; exact Bool.noConfusion (congrArg Prod.snd h)
theorem pieces_of {ps : List ByteArray} {ws : List (List UInt8)} (h : ps.map (·.data.toList) = ws) : ps = ws.map mkB := by
  rw [← h, List.map_map]
  induction ps generalizing ws with
  | nil => rfl
  | cons x t ih => rw [List.map_cons, ← ih rfl]; congr 1
theorem guessP_words {z : Opn} (hf : fault z = 0) {ps : List ByteArray} (h : ps.map (·.data.toList) = words z) : guessP ps = z := by
  have hp := pieces_of h
  subst hp
  clear h
  have hk := fault_zero_kind hf
  have hb := bounds hf
  obtain ⟨hz1, hz2, hz3⟩ := zeros hf
  obtain ⟨k, p, d, v, s, q⟩ := z
  simp only at hk hb hz1 hz2 hz3
  have n1 := numV_itoa hb.1 hb.2.1
  have n2 := numV_verT hb.2.2.1 hb.2.2.2
  have a1 := no_word n1 numV_seq
  have a2 := no_word n1 numV_own
  have a3 := no_word n2 numV_seq
  have a4 := no_word n2 numV_own
  have ep : mkB p.data.toList = p := ba_eq (mkB_list _)
  have w1 := kindW_word hk.1 hk.2
  rcases kinds8 hk.1 hk.2 with h | h | h | h | h | h | h | h <;> subst h
  · obtain ⟨rfl, rfl⟩ := noExtra hf (by decide)
    obtain rfl := hz1 rfl; obtain rfl := hz2 rfl; obtain rfl := hz3 rfl
    rfl
  · obtain ⟨rfl, rfl⟩ := noExtra hf (by decide)
    obtain rfl := hz1 rfl; obtain rfl := hz2 rfl; obtain rfl := hz3 rfl
    rfl
  · obtain rfl := hz3 rfl
    show Opn.mk 3 (mkB p.data.toList) ((nums (mkB (Lib.itoa d) :: ((if s then [seqW] else []) ++ (if q then [ownW] else [])).map mkB)).headD 0) 0 (has (mkB (Lib.itoa d) :: ((if s then [seqW] else []) ++ (if q then [ownW] else [])).map mkB) seqW) (has (mkB (Lib.itoa d) :: ((if s then [seqW] else []) ++ (if q then [ownW] else [])).map mkB) ownW) = _
    rw [nums_yes n1, has_cons, has_cons, a1, a2, ep]
    cases s <;> cases q <;> rfl
  · obtain ⟨rfl, rfl⟩ := noExtra hf (by decide)
    obtain rfl := hz2 rfl
    show Opn.mk 4 (mkB p.data.toList) 0 ((nums [mkB (verT v)]).headD 0) (has [mkB (verT v)] seqW) (has [mkB (verT v)] ownW) = _
    rw [nums_yes n2, has_cons, has_cons, a3, a4, ep]; rfl
  · obtain ⟨rfl, rfl⟩ := noExtra hf (by decide)
    show Opn.mk 5 (mkB p.data.toList) ((nums [mkB (Lib.itoa d), mkB (verT v)]).headD 0) ((nums [mkB (Lib.itoa d), mkB (verT v)]).tail.headD 0) (has [mkB (Lib.itoa d), mkB (verT v)] seqW) (has [mkB (Lib.itoa d), mkB (verT v)] ownW) = _
    rw [nums_yes n1, nums_yes n2, has_cons, has_cons, has_cons, has_cons, a1, a2, a3, a4, ep]; rfl
  · obtain ⟨rfl, rfl⟩ := noExtra hf (by decide)
    obtain rfl := hz2 rfl; obtain rfl := hz3 rfl
    show Opn.mk 6 (mkB p.data.toList) 0 0 false false = _
    rw [ep]
  · obtain ⟨rfl, rfl⟩ := noExtra hf (by decide)
    obtain rfl := hz2 rfl; obtain rfl := hz3 rfl
    show Opn.mk 7 (mkB p.data.toList) 0 0 false false = _
    rw [ep]
  · obtain ⟨rfl, rfl⟩ := noExtra hf (by decide)
    obtain rfl := hz2 rfl
    show Opn.mk 8 (mkB p.data.toList) 0 ((nums [mkB (verT v)]).headD 0) (has [mkB (verT v)] seqW) (has [mkB (verT v)] ownW) = _
    rw [nums_yes n2, has_cons, has_cons, a3, a4, ep]; rfl
end Opr
end Go.Proofs.YtdjnkchaapcjpaaGreatDoor
