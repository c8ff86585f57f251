/- the draws of paths and names: spec.l1DrawName, l1Draw, l1Bent, DrawJoinPath, DrawIsUnder: texts of at most 30 bytes; nothing that was there turns. -/
import Derived.Test.YtflojfkalnojbaaD1
import Derived.Test.YtflojfkalnojbaaS5
import Derived.Deep.RegionWith
namespace Go.Proofs.Ytflojfkalnojbaa
open Go.RowKit

/-- What a draw of a text leaves. -/
def Drawn (b a k : Nat) (cv : Value) (m : Nat) (w : World) (e : Ending) (w' : World) : Prop :=
  ∃ (t : ByteArray) (a' : Nat), e = .returned (.string t) ∧ t.size ≤ m ∧ a' ≤ a + k ∧ SrcAt w' b a' cv ∧ Upd b w w'

theorem join_short (t c : ByteArray) (hc : c.size = 1) : ∃ t', t' = mkB (Pth.joined t.data.toList c.data.toList) ∧ t'.size ≤ t.size + 2 := by
  refine ⟨_, rfl, ?_⟩
  rw [← len_eq, mkB_list]
  unfold Pth.joined
  split
  · rename_i h
    have h1 := len_eq t
    rw [h] at h1
    simp only [List.length_cons, len_eq, hc]
    simp at h1
    omega
  · simp only [List.length_append, List.length_cons, len_eq, hc]
    omega

theorem Drawn.of_upd {b a k k2 a1 m m2 : Nat} {cv : Value} {w w1 : World} {e : Ending} {w' : World} (hu : Upd b w w1) (ha : a1 + k2 ≤ a + k) (hm : m2 ≤ m) (h : Drawn b a1 k2 cv m2 w1 e w') : Drawn b a k cv m w e w' := by
  obtain ⟨t, a', h1, h2, h3, h4, h5⟩ := h
  exact ⟨t, a', h1, by omega, by omega, h4, hu.trans h5⟩

end Go.Proofs.Ytflojfkalnojbaa
