/- the program's NewTree, SameTrees: what they answer. -/
import Derived.Test.YtgfoliafpjhjcaaGreatDoorT4
namespace Go.Proofs.YtgfoliafpjhjcaaGreatDoor
open Go.RowKit

set_option maxHeartbeats 1000000 in
theorem isUpTo_any (n m : Int) (w : World) : Calls Tryz.prog 40 #[.int .i64 n, .int .i64 m] w fun e w' => e = .returned (.bool (decide (0 ≤ n) && decide (n ≤ m))) ∧ w' = w := by
  by_cases h0 : 0 ≤ n
  · by_cases h1 : n ≤ m
    · go_enter Tryz.func40, Tryz.ntmps40
      go_wp2
      go_ret
      exact ⟨by simp [h0, h1], rfl⟩
    · go_enter Tryz.func40, Tryz.ntmps40
      go_wp2
      go_ret
      exact ⟨by simp [h1], rfl⟩
  · go_enter Tryz.func40, Tryz.ntmps40
    go_wp2
    go_ret
    exact ⟨by simp; omega, rfl⟩

set_option maxHeartbeats 2000000 in
set_option maxRecDepth 100000 in
theorem implSameTrees_any (v v' : Value) (zs ys : List Zn) (w : World) (hS : NSlice w v zs) (hS' : NSlice w v' ys) :
    Calls Tryz.prog 21 #[v, v'] w fun e w' => e = .returned (.bool (Tre.same zs ys)) ∧ Ext w w' := by
  obtain ⟨a, cap, rfl, hlc, hcm, hx⟩ := hS
  obtain ⟨a', cap', rfl, hlc', hcm', hx'⟩ := hS'
  have HX : Hid (0 < zs.length → ∃ b off, a = some ⟨b, off, none⟩ ∧ b < w.heap.size ∧ NodesAt w b off zs) := hx
  have HX' : Hid (0 < ys.length → ∃ b off, a' = some ⟨b, off, none⟩ ∧ b < w.heap.size ∧ NodesAt w b off ys) := hx'
  clear hx hx'
  unfold maxLen at hcm hcm'
  by_cases hl : zs.length = ys.length
  · have e0 : ((zs.length : Int) != (ys.length : Int)) = false := by rw [hl]; simp
    have HL : Hid (zs.length = ys.length) := hl
    go_enter Tryz.func21, Tryz.ntmps21
    go_wp2
    go_loopw [15] (fun i wr => ∃ (k : Nat), k ≤ zs.length ∧ i = .int .i64 k ∧ Hid (∀ j, j < k → zs[j]? = ys[j]?) ∧ Hid (Ext w wr)) (fun i _ => zs.length - (intOf i).toNat)
    case atStart => exact ⟨0, Nat.zero_le _, rfl, fun j h => by omega, Ext.refl _⟩
    case round =>
      obtain ⟨k, hk, rfl, HA, HE⟩ := hrel
      by_cases hlt : k < zs.length
      · obtain ⟨z, hzk⟩ : ∃ z, zs[k]? = some z := ⟨_, List.getElem?_eq_getElem hlt⟩
        obtain ⟨y, hyk⟩ : ∃ y, ys[k]? = some y := ⟨_, List.getElem?_eq_getElem (by omega)⟩
        obtain ⟨b, off, rfl, hb, hN⟩ := HX.out (by omega)
        obtain ⟨b', off', rfl, hb', hN'⟩ := HX'.out (by omega)
        obtain ⟨d0, d1, d2, d3, d4⟩ := hN.ext hb HE.out k z hzk
        obtain ⟨e0, e1, e2, e3, e4⟩ := hN'.ext hb' HE.out k y hyk
        have hky : k < ys.length := by omega
        have HZ : Hid (zs[k]? = some z ∧ ys[k]? = some y) := ⟨hzk, hyk⟩
        clear hzk hyk hN hN'
        by_cases g0 : z.path.toList = y.path.toList
        · by_cases g1 : z.data = y.data
          · by_cases g2 : z.version = y.version
            · by_cases g3 : z.owner = y.owner
              · by_cases g4 : z.next = y.next
                · have HA2 : Hid (∀ j, j < k + 1 → zs[j]? = ys[j]?) := by
                    intro j hj
                    by_cases hjk : j = k
                    · subst hjk; rw [HZ.out.1, HZ.out.2, Tre.zn_eq g0 g1 g2 g3 g4]
                    · exact HA.out j (by omega)
                  go_wp2
                  go_region
                  all_goals go_wp2
                  all_goals go_region
                  all_goals
                    go_wp2
                    exact ⟨⟨k + 1, by omega, by go_num, HA2, HE.out.drew.drew⟩, by simp [intOf]; omega⟩
                · have HF : Hid (Tre.same zs ys = false) := Tre.same_ne HZ.out.1 HZ.out.2 (by rintro rfl; exact g4 rfl)
                  go_wp2
                  go_region
                  all_goals go_wp2
                  all_goals go_region
                  all_goals
                    go_wp2
                    go_ret
                    exact ⟨ret_bool HF.out.symm, HE.out.drew.drew⟩
              · have HF : Hid (Tre.same zs ys = false) := Tre.same_ne HZ.out.1 HZ.out.2 (by rintro rfl; exact g3 rfl)
                go_wp2
                go_region
                all_goals go_wp2
                all_goals go_region
                all_goals
                  go_wp2
                  go_ret
                  exact ⟨ret_bool HF.out.symm, HE.out.drew.drew⟩
            · have HF : Hid (Tre.same zs ys = false) := Tre.same_ne HZ.out.1 HZ.out.2 (by rintro rfl; exact g2 rfl)
              go_wp2
              go_region
              all_goals go_wp2
              all_goals go_region
              all_goals
                go_wp2
                go_ret
                exact ⟨ret_bool HF.out.symm, HE.out.drew.drew⟩
          · have HF : Hid (Tre.same zs ys = false) := Tre.same_ne HZ.out.1 HZ.out.2 (by rintro rfl; exact g1 rfl)
            go_wp2
            go_region
            all_goals go_wp2
            all_goals go_region
            all_goals
              go_wp2
              go_ret
              exact ⟨ret_bool HF.out.symm, HE.out.drew.drew⟩
        · have HF : Hid (Tre.same zs ys = false) := Tre.same_ne HZ.out.1 HZ.out.2 (by rintro rfl; exact g0 rfl)
          go_wp2
          go_region
          all_goals go_wp2
          all_goals go_region
          all_goals
            go_wp2
            go_ret
            exact ⟨ret_bool HF.out.symm, HE.out.drew.drew⟩
      · have HF : Hid (Tre.same zs ys = true) := Tre.same_all HL.out (fun j hj => HA.out j (by omega))
        go_wp2
        go_ret
        exact ⟨ret_bool HF.out.symm, HE.out⟩
  · have e0 : ((zs.length : Int) != (ys.length : Int)) = true := by simp; omega
    have HF : Hid (Tre.same zs ys = false) := Tre.same_len hl
    clear hl
    go_enter Tryz.func21, Tryz.ntmps21
    go_wp2
    go_ret
    exact ⟨ret_bool HF.out.symm, Ext.refl _⟩
end Go.Proofs.YtgfoliafpjhjcaaGreatDoor
