/- the specification's ParentOf, NameIn, DeepIn: what they answer; the laws' comparisons. -/
import Derived.Test.YtfgjodnjahhanaaDoorS3
namespace Go.Proofs.YtfgjodnjahhanaaDoor
open Go.RowKit

theorem few_of_ok {s : ByteArray} (h : Pth.faultI s.data.toList = 0) : s.size ≤ 24 := by
  rcases Pth.fault_cases s.data.toList with ⟨_, h2⟩ | ⟨_, _, h2⟩ | ⟨hm, _⟩
  · rw [h] at h2; cases h2
  · rw [h] at h2; cases h2
  · unfold Pth.many at hm
    simp only [Bool.or_eq_false_iff, decide_eq_false_iff_not, len_eq] at hm
    omega
theorem names_of_ok {l : List UInt8} (h : Pth.faultI l = 0) : ∃ ns, Pth.namesS l = some ns ∧ (if l = [47] then (0 : Int) else (l.count 47 : Nat)) = (ns.length : Int) := by
  rcases Pth.fault_cases l with ⟨_, h2⟩ | ⟨_, _, h2⟩ | ⟨hm, _, n, la, hr⟩
  · rw [h] at h2; cases h2
  · rw [h] at h2; cases h2
  · have hs := Pth.rd_isSome l
    rw [hr] at hs
    obtain ⟨ns, hns⟩ := Option.isSome_iff_exists.1 hs.symm
    refine ⟨ns, hns, ?_⟩
    by_cases hl : l = [47]
    · subst hl
      have : Pth.namesS [47] = some [] := rfl
      rw [this] at hns
      cases hns
      rfl
    · rw [if_neg hl, Pth.namesS_length l ns hns hl]
theorem lastSl_le2 (s : ByteArray) (h : Pth.faultI s.data.toList = 0) (h0 : (s.toList == [47]) = false) : Pth.lastSl s.data.toList 0 0 + 1 ≤ s.size := by
  rcases Pth.fault_cases s.data.toList with ⟨_, h2⟩ | ⟨_, _, h2⟩ | ⟨hm, _, n, la, hr⟩
  · rw [h] at h2; cases h2
  · rw [h] at h2; cases h2
  · rcases Pth.rd_top _ _ _ hr with ⟨h1, _⟩ | ⟨_, _, _, h4, _, h5⟩
    · rw [Lib.toList_data, h1] at h0; cases h0
    · rw [h4, len_eq] at h5; exact h5

set_option maxHeartbeats 400000 in
theorem eqText_any (x : Int × List UInt8) (w : World) :
    Calls Tryd.prog 9 #[tr x, tr x] w fun e w' => e = .returned (.bool true) ∧ Ext w w' := by
  obtain ⟨c, t⟩ := x
  unfold tr
  go_enter Tryd.func9, Tryd.ntmps9
  go_wp2
  go_ret
  exact ⟨rfl, ((Ext.refl _).alloc _).alloc _⟩
end Go.Proofs.YtfgjodnjahhanaaDoor
