/- an operation is read back from its text: the mathematics. -/
import Derived.Test.YtdjnkchaapcjpaaGreatDoorU1
import Derived.Lib.SplitLaws
import Derived.Lib.IndexBytes
import Derived.Lib.IndexLaws
import Derived.Lib.ParseIntB
namespace Go.Proofs.YtdjnkchaapcjpaaGreatDoor
open Go.RowKit
namespace Opr
theorem ixb_none (c : UInt8) : ∀ l : List UInt8, c ∉ l → Lib.indexByte l c = -1
  | [], _ => rfl
  | b :: l, h => by
    have h1 : (b == c) = false := by simp; rintro rfl; exact h (List.mem_cons_self)
    unfold Lib.indexByte
    rw [h1, ixb_none c l (fun hm => h (List.mem_cons_of_mem _ hm))]
    rfl
theorem ixb_at (c : UInt8) (r : List UInt8) : ∀ x : List UInt8, c ∉ x → Lib.indexByte (x ++ c :: r) c = (x.length : Int)
  | [], _ => by unfold Lib.indexByte; simp
  | b :: l, h => by
    have h1 : (b == c) = false := by simp; rintro rfl; exact h (List.mem_cons_self)
    have h2 := ixb_at c r l (fun hm => h (List.mem_cons_of_mem _ hm))
    rw [List.cons_append]
    unfold Lib.indexByte
    rw [h1, h2]
    have h3 : ((l.length : Int) == -1) = false := by simp
    rw [h3]
    simp
theorem join_two (x y : List UInt8) (t : List (List UInt8)) : Lib.join (x :: y :: t) [32] = x ++ 32 :: Lib.join (y :: t) [32] := by
  rw [Lib.join_cons, Lib.join_cons]; simp [Lib.joinTail]
theorem splitK_words : ∀ (ws : List (List UInt8)) (k : Nat), ws ≠ [] → (∀ x ∈ ws, (32 : UInt8) ∉ x) → ws.length ≤ k + 1 → Lib.splitK [32] 0 k (Lib.join ws [32]) = ws := by
  intro ws
  induction ws with
  | nil => intro k h; exact absurd rfl h
  | cons x t ih =>
    intro k _ hx hl
    cases t with
    | nil =>
      rw [Lib.join_one]
      cases k with
      | zero => rfl
      | succ k => unfold Lib.splitK; rw [Lib.index_one, ixb_none 32 x (hx x (List.mem_cons_self))]; rfl
    | cons y t =>
      cases k with
      | zero => simp at hl
      | succ k =>
        rw [join_two]
        unfold Lib.splitK
        rw [Lib.index_one, ixb_at 32 _ x (hx x (List.mem_cons_self)), if_neg (by simp)]
        simp only [Int.toNat_natCast, Nat.add_zero, List.length_cons, List.length_nil, Nat.zero_add]
        rw [List.take_left' rfl, List.drop_append, List.drop_eq_nil_of_le (by omega), show x.length + 1 - x.length = 1 from by omega]
        simp only [List.nil_append, List.drop_succ_cons, List.drop_zero]
        rw [ih k (by simp) (fun z hz => hx z (List.mem_cons_of_mem _ hz)) (by simp at hl ⊢; omega)]
theorem dec_range (n : Nat) : ∀ c ∈ Lib.decDigits n, 48 ≤ c.toNat ∧ c.toNat ≤ 57 := by
  induction n using Nat.strongRecOn with
  | _ n ih =>
    intro c hc
    rw [Lib.decDigits] at hc
    split at hc
    · simp only [List.mem_singleton] at hc; subst hc
      rw [UInt8.toNat_ofNat']; omega
    · rcases List.mem_append.1 hc with h | h
      · exact ih (n / 10) (by omega) c h
      · simp only [List.mem_singleton] at h; subst h
        rw [UInt8.toNat_ofNat']; omega
theorem dec_ne (n : Nat) : Lib.decDigits n ≠ [] := by
  rw [Lib.decDigits]; split <;> simp
theorem itoa_blank {n : Int} (h : 0 ≤ n) : (32 : UInt8) ∉ Lib.itoa n := by
  obtain ⟨m, rfl⟩ : ∃ m : Nat, n = (m : Int) := ⟨n.toNat, by omega⟩
  rw [Lib.itoa_nonneg]
  intro hc
  have := dec_range m 32 hc
  exact absurd this.1 (by decide)
theorem mem_cut (c : UInt8) (hc : c ≠ 47) : ∀ (l cur : List UInt8), c ∈ cur ∨ c ∈ l → ∃ x ∈ Pth.cut cur l, c ∈ x := by
  intro l
  induction l with
  | nil => intro cur h; exact ⟨cur, by simp [Pth.cut], h.elim id (fun h => by cases h)⟩
  | cons d r ih =>
    intro cur h
    by_cases hd : d = 47
    · subst hd
      rw [Pth.cut_sl]
      rcases h with h | h
      · exact ⟨cur, List.mem_cons_self, h⟩
      · rcases List.mem_cons.1 h with h | h
        · exact absurd h hc
        · obtain ⟨x, hx, hcx⟩ := ih [] (Or.inr h); exact ⟨x, List.mem_cons_of_mem _ hx, hcx⟩
    · rw [Pth.cut_ne _ _ _ hd]
      refine ih _ ?_
      rcases h with h | h
      · exact Or.inl (List.mem_append_left _ h)
      · rcases List.mem_cons.1 h with h | h
        · exact Or.inl (List.mem_append_right _ (by simp [h]))
        · exact Or.inr h
theorem path_blank {l : List UInt8} (h : Pth.faultI l = 0) : (32 : UInt8) ∉ l := by
  obtain ⟨ns, hns, -⟩ := names_of_ok h
  intro hm
  unfold Pth.namesS at hns
  split at hns
  · rename_i he; rw [he] at hm; simp at hm
  · obtain ⟨x, hx, hcx⟩ := mem_cut 32 (by decide) l [] (Or.inr hm)
    split at hns
    · cases hns
    · rename_i hne hcut
      split at hns
      · rename_i hall
        have hh : (Pth.cut [] l).head? = some [] := by
          refine Classical.byContradiction fun hn => hcut (Or.inr hn)
        cases hq : Pth.cut [] l with
        | nil => rw [hq] at hx; cases hx
        | cons a t =>
          rw [hq] at hh hall hx
          simp only [List.head?_cons, Option.some.injEq] at hh
          rcases List.mem_cons.1 hx with hx | hx
          · rw [hx, hh] at hcx; cases hcx
          · have h4 := List.all_eq_true.1 hall x hx
            unfold Pth.okName at h4
            simp only [Bool.and_eq_true] at h4
            have h5 := List.all_eq_true.1 h4.1 32 hcx
            exact absurd h5 (by decide)
      · cases hns
theorem words_blank {z : Opn} (hf : fault z = 0) : ∀ x ∈ words z, (32 : UInt8) ∉ x := by
  have hb := Opr.bounds hf
  have hp := (Opr.fault_zero hf).2.2
  intro x hx
  unfold words at hx
  simp only [List.mem_cons, List.mem_append] at hx
  rcases hx with rfl | hx | hx | hx | hx | hx
  · unfold word; split <;> (try split) <;> (try split) <;> (try split) <;> (try split) <;> (try split) <;> (try split) <;> decide
  · split at hx
    · simp only [List.mem_singleton] at hx; subst hx; exact path_blank (hp (by assumption))
    · cases hx
  · split at hx
    · simp only [List.mem_singleton] at hx; subst hx; exact itoa_blank hb.1
    · cases hx
  · split at hx
    · simp only [List.mem_singleton] at hx; subst hx
      unfold verT; split
      · decide
      · exact itoa_blank (by omega)
    · cases hx
  · split at hx
    · simp only [List.mem_singleton] at hx; subst hx; decide
    · cases hx
  · split at hx
    · simp only [List.mem_singleton] at hx; subst hx; decide
    · cases hx
theorem words_ne (z : Opn) : words z ≠ [] := by unfold words; simp
theorem join_ge (ws : List (List UInt8)) : ws.length ≤ (Lib.join ws [32]).length + 1 := by
  cases ws with
  | nil => simp
  | cons x t =>
    rw [Lib.join_cons, List.length_append]
    have : ∀ t : List (List UInt8), t.length ≤ (Lib.joinTail [32] t).length := by
      intro t; induction t with
      | nil => simp
      | cons y t ih => simp only [Lib.joinTail, List.map_cons, List.flatten_cons, List.length_append, List.length_cons, List.length_nil] at ih ⊢; omega
    have := this t
    simp only [List.length_cons]; omega
theorem words_len {z : Opn} (hf : fault z = 0) : (words z).length ≤ 5 := by
  obtain ⟨k, p, d, v, s, q⟩ := z
  have hk := fault_zero_kind hf
  simp only at hk
  rcases kinds8 hk.1 hk.2 with h | h | h | h | h | h | h | h <;> subst h
  · obtain ⟨rfl, rfl⟩ := noExtra hf (by decide); exact Nat.le_of_ble_eq_true rfl
  · obtain ⟨rfl, rfl⟩ := noExtra hf (by decide); exact Nat.le_of_ble_eq_true rfl
  · cases s <;> cases q <;> exact Nat.le_of_ble_eq_true rfl
  · obtain ⟨rfl, rfl⟩ := noExtra hf (by decide); exact Nat.le_of_ble_eq_true rfl
  · obtain ⟨rfl, rfl⟩ := noExtra hf (by decide); exact Nat.le_of_ble_eq_true rfl
  · obtain ⟨rfl, rfl⟩ := noExtra hf (by decide); exact Nat.le_of_ble_eq_true rfl
  · obtain ⟨rfl, rfl⟩ := noExtra hf (by decide); exact Nat.le_of_ble_eq_true rfl
  · obtain ⟨rfl, rfl⟩ := noExtra hf (by decide); exact Nat.le_of_ble_eq_true rfl
theorem split_text {z : Opn} (hf : fault z = 0) {s : ByteArray} (hs : s.data.toList = text z) : (Lib.splitB ⟨#[32]⟩ 0 (min 5 (s.size + 1) - 1) s).map (·.data.toList) = words z := by
  rw [Lib.splitB_data, hs]
  refine splitK_words _ _ (words_ne z) (words_blank hf) ?_
  have h1 := words_len hf
  have h2 := join_ge (words z)
  have h3 : s.size = (text z).length := by rw [← len_eq, hs]
  unfold text at h3
  omega
def kindW (l : List UInt8) : Int :=
  if l = word 1 then 1 else if l = word 2 then 2 else if l = word 3 then 3 else if l = word 4 then 4 else if l = word 5 then 5 else if l = word 6 then 6 else if l = word 7 then 7 else if l = word 8 then 8 else 0
theorem kindW_word {k : Int} (h1 : 1 ≤ k) (h8 : k ≤ 8) : kindW (word k) = k := by
  rcases kinds8 h1 h8 with h | h | h | h | h | h | h | h <;> subst h <;> decide
theorem parse_dec (M : Nat) : ∀ (n acc : Nat) (r : List UInt8), (acc = 0) → n ≤ 99999 → 99999 ≤ M → Lib.parseUintM M acc (Lib.decDigits n ++ r) = Lib.parseUintM M n r := by
  intro n
  induction n using Nat.strongRecOn with
  | _ n ih =>
    intro acc r ha hn hM
    subst ha
    rw [Lib.decDigits]
    split
    · rename_i h10
      rw [List.singleton_append]
      have e : (UInt8.ofNat (48 + n)).toNat = 48 + n := by rw [UInt8.toNat_ofNat']; omega
      rw [Lib.parseUintM, e, if_pos (by omega), if_neg (by omega), if_neg (by omega)]
      congr 1; omega
    · rename_i h10
      rw [List.append_assoc, ih (n / 10) (by omega) 0 _ rfl (by omega) hM, List.singleton_append]
      have e : (UInt8.ofNat (48 + n % 10)).toNat = 48 + n % 10 := by rw [UInt8.toNat_ofNat']; omega
      rw [Lib.parseUintM, e, if_pos (by omega), if_neg (by omega), if_neg (by omega)]
      congr 1; omega
theorem parse_itoa {n : Int} (h0 : 0 ≤ n) (h1 : n ≤ 99999) : Lib.parseIntB 64 (Lib.itoa n) = .ok n := by
  obtain ⟨m, rfl⟩ : ∃ m : Nat, n = (m : Int) := ⟨n.toNat, by omega⟩
  rw [Lib.itoa_nonneg]
  have hp := parse_dec (2 ^ 64 - 1) m 0 [] rfl (by omega) (by decide)
  rw [List.append_nil] at hp
  cases hd : Lib.decDigits m with
  | nil => exact absurd hd (dec_ne m)
  | cons c r =>
    have hc := dec_range m c (by rw [hd]; exact List.mem_cons_self)
    have hne : ¬ (c.toNat = 43 ∨ c.toNat = 45) := by omega
    have hu : Lib.parseUintB 64 (c :: r) = .ok m := by
      unfold Lib.parseUintB; rw [if_neg (by simp), ← hd, hp]; rfl
    unfold Lib.parseIntB
    simp only [if_neg hne, hu]
    rw [if_neg (by rintro ⟨-, h⟩; have : (2:Nat) ^ (64 - 1) ≤ 99999 := by omega
                   exact absurd this (by decide)), if_neg (by rintro ⟨h, -⟩; omega), if_neg (by omega)]
end Opr
end Go.Proofs.YtdjnkchaapcjpaaGreatDoor
