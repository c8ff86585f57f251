/- the specification's l1Under, IsUnder, l1Join: what they answer. -/
import Derived.Test.YtflojfkalnojbaaS4
namespace Go.Proofs.Ytflojfkalnojbaa
open Go.RowKit

theorem pre_iff (p t : ByteArray) : (t.data.toList ++ [47]).isPrefixOf p.data.toList = true ↔ ∃ h : t.size < p.size, p.data.toList.take t.size = t.data.toList ∧ p[t.size] = 47 := by
  rw [List.isPrefixOf_iff_prefix, List.prefix_iff_eq_take]
  have hl : (t.data.toList ++ [47]).length = t.size + 1 := by rw [List.length_append, len_eq]; rfl
  rw [hl]
  constructor
  · intro h
    have hlen := congrArg List.length h
    rw [hl, List.length_take, len_eq] at hlen
    have hlt : t.size < p.size := by omega
    refine ⟨hlt, ?_, ?_⟩
    · have h2 := congrArg (List.take t.size) h
      rw [List.take_left' (by rw [len_eq]), List.take_take, Nat.min_eq_left (by omega)] at h2
      exact h2.symm
    · rw [take_snoc p t.size hlt] at h
      have := (List.append_inj' h rfl).2
      simp only [List.cons.injEq, and_true] at this
      exact this.symm
  · rintro ⟨hlt, h1, h2⟩
    rw [take_snoc p t.size hlt, h1, h2]

theorem join_list (p n : ByteArray) : (if p.data.toList = [47] then (⟨#[47]⟩ : ByteArray) ++ n else p ++ (⟨#[47]⟩ : ByteArray) ++ n).data.toList = Pth.joined p.data.toList n.data.toList := by
  unfold Pth.joined
  split <;> simp [ByteArray.data_append]

end Go.Proofs.Ytflojfkalnojbaa
