/- the specification's l1Under, IsUnder, l1Join: what they answer. -/
import Derived.Test.YtihfgaanaffinaaDoorS4
namespace Go.Proofs.YtihfgaanaffinaaDoor
open Go.RowKit

theorem pre_iff (p t : ByteArray) : (t.data.toList ++ [47]).isPrefixOf p.data.toList = true ↔ ∃ h : t.size < p.size, p.data.toList.take t.size = t.data.toList ∧ p[t.size] = 47 := by
  rw [List.isPrefixOf_iff_prefix, List.prefix_iff_eq_take]
  have hl : (t.data.toList ++ [47]).length = t.size + 1 := by rw [List.length_append, len_eq]; rfl
  rw [hl]
  constructor
  · intro h
    have hlen := congrArg List.length h
    rw [hl, List.length_take, len_eq] at hlen
    have hlt : t.size < p.size := by omega
    refine ⟨hlt, ?_, ?_⟩
    · have h2 := congrArg (List.take t.size) h
      rw [List.take_left' (by rw [len_eq]), List.take_take, Nat.min_eq_left (by omega)] at h2
      exact h2.symm
    · rw [take_snoc p t.size hlt] at h
      have := (List.append_inj' h rfl).2
      simp only [List.cons.injEq, and_true] at this
      exact this.symm
  · rintro ⟨hlt, h1, h2⟩
    rw [take_snoc p t.size hlt, h1, h2]

set_option maxHeartbeats 1000000 in
theorem l1Under_any (p t : ByteArray) (w : World) (ht : t.size ≤ 1048576) :
    Calls Tryd.prog 69 #[.string p, .string t] w fun e w' => e = .returned (.bool (Pth.under p.data.toList t.data.toList)) ∧ w' = w := by
  by_cases h1 : p.data.toList = t.data.toList
  · rw [under_eq h1]
    have b1 : (p.toList == t.toList) = true := by rw [beq_val]; simpa using h1
    clear h1
    go_enter Tryd.func69, Tryd.ntmps69
    go_wp2
    go_ret
    exact ⟨rfl, rfl⟩
  · by_cases h2 : t.data.toList = [47]
    · rw [under_top h2]
      have b1 : (p.toList == t.toList) = false := by rw [beq_val]; simpa using h1
      have b2 : (t.toList == [47]) = true := by rw [beq_top]; simpa using h2
      clear h1 h2
      go_enter Tryd.func69, Tryd.ntmps69
      go_wp2
      go_ret
      exact ⟨rfl, rfl⟩
    · rw [under_else h1 h2]
      have b1 : (p.toList == t.toList) = false := by rw [beq_val]; simpa using h1
      have b2 : (t.toList == [47]) = false := by rw [beq_top]; simpa using h2
      clear h1 h2
      have hpi := pre_iff p t
      by_cases hlt : t.size < p.size
      · by_cases hx : p.data.toList.take t.size = t.data.toList
        · have b3 : ((p.extract 0 t.size).toList == t.toList) = true := by
            rw [beq_val, extract_list]; simpa using hx
          by_cases h47 : p[t.size] = 47
          · have hv : (t.data.toList ++ [47]).isPrefixOf p.data.toList = true := hpi.2 ⟨hlt, hx, h47⟩
            rw [hv]
            clear hpi hx hv
            go_enter Tryd.func69, Tryd.ntmps69
            go_wp2
            go_ret
            exact ⟨rfl, rfl⟩
          · have e4 : ((p[t.size].toNat : Int) == 47) = false := by
              rw [beq_eq_false_iff_ne]; intro x; apply h47; apply UInt8.toNat_inj.1; show p[t.size].toNat = 47; omega
            have hv : (t.data.toList ++ [47]).isPrefixOf p.data.toList = false := by
              rw [← Bool.not_eq_true, hpi]; rintro ⟨_, _, x⟩; exact h47 x
            rw [hv]
            clear hpi hx hv
            go_enter Tryd.func69, Tryd.ntmps69
            go_wp2
            go_ret
            exact ⟨rfl, rfl⟩
        · have b3 : ((p.extract 0 t.size).toList == t.toList) = false := by
            rw [beq_val, extract_list]; simpa using hx
          have hv : (t.data.toList ++ [47]).isPrefixOf p.data.toList = false := by
            rw [← Bool.not_eq_true, hpi]; rintro ⟨_, x, _⟩; exact hx x
          rw [hv]
          clear hpi hx hv
          go_enter Tryd.func69, Tryd.ntmps69
          go_wp2
          go_ret
          exact ⟨rfl, rfl⟩
      · have hv : (t.data.toList ++ [47]).isPrefixOf p.data.toList = false := by
          rw [← Bool.not_eq_true, hpi]; rintro ⟨x, _⟩; exact hlt x
        rw [hv]
        clear hpi hv
        go_enter Tryd.func69, Tryd.ntmps69
        go_wp2
        go_ret
        exact ⟨ret_bool (by simp), rfl⟩

set_option maxHeartbeats 1000000 in
theorem specIsUnder_any (p t : ByteArray) (w : World) (ht : t.size ≤ 1048576) :
    Calls Tryd.prog 23 #[.string p, .string t] w fun e w' => e = .returned (.bool (Pth.underV p.data.toList t.data.toList)) ∧ Ext w w' := by
  by_cases f1 : Pth.faultI p.data.toList = 0
  · have e1 : (Pth.faultI p.data.toList == 0) = true := by simp [f1]
    by_cases f2 : Pth.faultI t.data.toList = 0
    · have e2 : (Pth.faultI t.data.toList == 0) = true := by simp [f2]
      have hv : Pth.underV p.data.toList t.data.toList = Pth.under p.data.toList t.data.toList := by unfold Pth.underV; simp [f1, f2]
      rw [hv]
      clear hv f1 f2
      go_enter Tryd.func23, Tryd.ntmps23
      go_wp2_with fail
      refine (l1FaultI_any p _).mono ?_
      rintro e w1 ⟨rfl, hb1⟩
      have HB : Hid (Ext w w1) := hb1
      clear hb1
      go_wp2_with fail
      refine (l1FaultI_any t _).mono ?_
      rintro e w2 ⟨rfl, hb2⟩
      have HB2 : Hid (Ext w1 w2) := hb2
      clear hb2
      go_wp2_with fail
      refine (l1Under_any p t _ ht).mono ?_
      rintro e w3 ⟨rfl, rfl⟩
      go_wp2
      go_ret
      exact ⟨rfl, HB.out.trans HB2.out⟩
    · have e2 : (Pth.faultI t.data.toList == 0) = false := by simp [f2]
      have hv : Pth.underV p.data.toList t.data.toList = false := by unfold Pth.underV; simp [f2]
      rw [hv]
      clear hv f1 f2
      go_enter Tryd.func23, Tryd.ntmps23
      go_wp2_with fail
      refine (l1FaultI_any p _).mono ?_
      rintro e w1 ⟨rfl, hb1⟩
      have HB : Hid (Ext w w1) := hb1
      clear hb1
      go_wp2_with fail
      refine (l1FaultI_any t _).mono ?_
      rintro e w2 ⟨rfl, hb2⟩
      have HB2 : Hid (Ext w1 w2) := hb2
      clear hb2
      go_wp2
      go_ret
      exact ⟨rfl, HB.out.trans HB2.out⟩
  · have e1 : (Pth.faultI p.data.toList == 0) = false := by simp [f1]
    have hv : Pth.underV p.data.toList t.data.toList = false := by unfold Pth.underV; simp [f1]
    rw [hv]
    clear hv f1
    go_enter Tryd.func23, Tryd.ntmps23
    go_wp2_with fail
    refine (l1FaultI_any p _).mono ?_
    rintro e w1 ⟨rfl, hb1⟩
    have HB : Hid (Ext w w1) := hb1
    clear hb1
    go_wp2
    go_ret
    exact ⟨rfl, HB.out⟩

theorem join_list (p n : ByteArray) : (if p.data.toList = [47] then (⟨#[47]⟩ : ByteArray) ++ n else p ++ (⟨#[47]⟩ : ByteArray) ++ n).data.toList = Pth.joined p.data.toList n.data.toList := by
  unfold Pth.joined
  split <;> simp [ByteArray.data_append]

set_option maxHeartbeats 1000000 in
theorem l1Join_any (p n : ByteArray) (w : World) (hp : p.size ≤ 1048576) (hn : n.size ≤ 1048576) :
    Calls Tryd.prog 67 #[.string p, .string n] w fun e w' => e = .returned (.string (mkB (Pth.joined p.data.toList n.data.toList))) ∧ w' = w := by
  have hj := eq_mkB (join_list p n)
  rw [← hj]
  clear hj
  by_cases h : p.data.toList = [47]
  · rw [if_pos h]
    have b : (p.toList == [47]) = true := by rw [beq_top]; simpa using h
    clear h
    go_enter Tryd.func67, Tryd.ntmps67
    go_wp2
    go_ret
    exact ⟨rfl, rfl⟩
  · rw [if_neg h]
    have b : (p.toList == [47]) = false := by rw [beq_top]; simpa using h
    clear h
    go_enter Tryd.func67, Tryd.ntmps67
    go_wp2
    go_ret
    exact ⟨rfl, rfl⟩
end Go.Proofs.YtihfgaanaffinaaDoor
