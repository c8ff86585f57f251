/- impl.isName, strings.HasPrefix, impl.IsUnder and the specification's l1Under, IsUnder: what they answer. -/
import Derived.Test.YtihfgaanaffinaaDoorW5
import Derived.Test.YtihfgaanaffinaaDoorS5
namespace Go.Proofs.YtihfgaanaffinaaDoor
open Go.RowKit

set_option maxHeartbeats 1000000 in
theorem isName_any (s : ByteArray) (w : World) (hs : s.size ≤ 1048576) :
    Calls Tryd.prog 64 #[.string s] w fun e w' => e = .returned (.bool (Pth.okName s.data.toList)) ∧ Ext w w' := by
  rw [← Pth.isName_eq, ← slash_cat]
  obtain ⟨t, ht⟩ : ∃ t, (⟨#[47]⟩ : ByteArray) ++ s = t := ⟨_, rfl⟩
  rw [ht]
  cases hm : Pth.many t.data.toList
  · cases hr : Pth.rd t.data.toList with
    | none =>
      go_enter Tryd.func64, Tryd.ntmps64
      go_wp2_with fail
      refine (rp_none t _ hm hr).mono ?_
      rintro e w1 ⟨rfl, hb⟩
      have HB : Hid (Ext w w1) := hb
      clear hb
      unfold rpText
      go_wp2
      go_ret
      exact ⟨rfl, HB.out.alloc _⟩
    | some x =>
      obtain ⟨n, la⟩ := x
      have HV : Hid ((((n : Int) == 1) : Bool) = (!false && (Option.map (fun x : Nat × Nat => x.1) (some (n, la)) == some 1))) := by
        show _ = _
        rw [Bool.eq_iff_iff]; simp; omega
      go_enter Tryd.func64, Tryd.ntmps64
      go_wp2_with fail
      refine (rp_some t _ n la hm hr).mono ?_
      rintro e w1 ⟨rfl, hb⟩
      have HB : Hid (Ext w w1) := hb
      clear hb
      unfold rpShape
      go_wp2
      go_ret
      exact ⟨ret_bool HV.out, HB.out.alloc _⟩
  · go_enter Tryd.func64, Tryd.ntmps64
    go_wp2_with fail
    refine (rp_many t _ hm).mono ?_
    rintro e w1 ⟨rfl, hb⟩
    have HB : Hid (Ext w w1) := hb
    clear hb
    unfold rpMany
    go_wp2
    go_ret
    exact ⟨rfl, HB.out.alloc _⟩

theorem prefix_val (s p : ByteArray) : ((s.extract 0 p.size).toList == p.toList) = p.data.toList.isPrefixOf s.data.toList := by
  rw [Lib.toList_data, Lib.toList_data, extract_list, Bool.eq_iff_iff, List.isPrefixOf_iff_prefix, List.prefix_iff_eq_take, len_eq]
  simp
  exact eq_comm
theorem prefix_long (s p : ByteArray) (h : ¬ p.size ≤ s.size) : p.data.toList.isPrefixOf s.data.toList = false := by
  rw [← Bool.not_eq_true, List.isPrefixOf_iff_prefix]
  intro x
  have := x.length_le
  rw [len_eq, len_eq] at this
  exact h this

set_option maxHeartbeats 1000000 in
theorem hasPrefix_any (s p : ByteArray) (w : World) :
    Calls Tryd.prog 68 #[.string s, .string p] w fun e w' => e = .returned (.bool (p.data.toList.isPrefixOf s.data.toList)) ∧ w' = w := by
  by_cases h : p.size ≤ s.size
  · have HV : Hid (((s.extract 0 p.size).toList == p.toList) = p.data.toList.isPrefixOf s.data.toList) := prefix_val s p
    go_enter Tryd.func68, Tryd.ntmps68
    go_wp2
    go_ret
    exact ⟨ret_bool HV.out, rfl⟩
  · rw [prefix_long s p h]
    go_enter Tryd.func68, Tryd.ntmps68
    go_wp2
    go_ret
    exact ⟨ret_bool (by simp), rfl⟩

set_option maxHeartbeats 1000000 in
theorem isUnder_any (p t : ByteArray) (w : World) (hg : Gd w) (ht : t.size ≤ 1048576) :
    Calls Tryd.prog 22 #[.string p, .string t] w fun e w' => e = .returned (.bool (Pth.underV p.data.toList t.data.toList)) ∧ Ext w w' := by
  have HG : Hid (Gd w) := hg
  clear hg
  by_cases f1 : Pth.faultI p.data.toList = 0
  · have e1 : (Pth.faultI p.data.toList != 0) = false := by simp [f1]
    by_cases f2 : Pth.faultI t.data.toList = 0
    · have e2 : (Pth.faultI t.data.toList != 0) = false := by simp [f2]
      have hv : Pth.underV p.data.toList t.data.toList = Pth.under p.data.toList t.data.toList := by unfold Pth.underV; simp [f1, f2]
      rw [hv]
      clear hv f1 f2
      by_cases h1 : p.data.toList = t.data.toList
      · rw [under_eq h1]
        have b1 : (p.toList == t.toList) = true := by rw [beq_val]; simpa using h1
        clear h1
        go_enter Tryd.func22, Tryd.ntmps22
        go_wp2_with fail
        refine (pathFault_any p _ HG.out).mono ?_
        rintro e w1 ⟨rfl, hb1⟩
        have HB : Hid (Ext w w1) := hb1
        clear hb1
        go_wp2_with fail
        refine (pathFault_any t _ (HG.out.ext HB.out)).mono ?_
        rintro e w2 ⟨rfl, hb2⟩
        have HB2 : Hid (Ext w1 w2) := hb2
        clear hb2
        go_wp2
        go_ret
        exact ⟨rfl, HB.out.trans HB2.out⟩
      · by_cases h2 : t.data.toList = [47]
        · rw [under_top h2]
          have b1 : (p.toList == t.toList) = false := by rw [beq_val]; simpa using h1
          have b2 : (t.toList == [47]) = true := by rw [beq_top]; simpa using h2
          clear h1 h2
          go_enter Tryd.func22, Tryd.ntmps22
          go_wp2_with fail
          refine (pathFault_any p _ HG.out).mono ?_
          rintro e w1 ⟨rfl, hb1⟩
          have HB : Hid (Ext w w1) := hb1
          clear hb1
          go_wp2_with fail
          refine (pathFault_any t _ (HG.out.ext HB.out)).mono ?_
          rintro e w2 ⟨rfl, hb2⟩
          have HB2 : Hid (Ext w1 w2) := hb2
          clear hb2
          go_wp2
          go_ret
          exact ⟨rfl, HB.out.trans HB2.out⟩
        · rw [under_else h1 h2]
          have b1 : (p.toList == t.toList) = false := by rw [beq_val]; simpa using h1
          have b2 : (t.toList == [47]) = false := by rw [beq_top]; simpa using h2
          clear h1 h2
          go_enter Tryd.func22, Tryd.ntmps22
          go_wp2_with fail
          refine (pathFault_any p _ HG.out).mono ?_
          rintro e w1 ⟨rfl, hb1⟩
          have HB : Hid (Ext w w1) := hb1
          clear hb1
          go_wp2_with fail
          refine (pathFault_any t _ (HG.out.ext HB.out)).mono ?_
          rintro e w2 ⟨rfl, hb2⟩
          have HB2 : Hid (Ext w1 w2) := hb2
          clear hb2
          go_wp2_with (go_at_call 68; refine (hasPrefix_any _ _ _).mono ?_; rintro e w' ⟨rfl, rfl⟩)
          go_ret
          exact ⟨ret_bool rfl, HB.out.trans HB2.out⟩
    · have e2 : (Pth.faultI t.data.toList != 0) = true := by simp [f2]
      have hv : Pth.underV p.data.toList t.data.toList = false := by unfold Pth.underV; simp [f2]
      rw [hv]
      clear hv f1 f2
      go_enter Tryd.func22, Tryd.ntmps22
      go_wp2_with fail
      refine (pathFault_any p _ HG.out).mono ?_
      rintro e w1 ⟨rfl, hb1⟩
      have HB : Hid (Ext w w1) := hb1
      clear hb1
      go_wp2_with fail
      refine (pathFault_any t _ (HG.out.ext HB.out)).mono ?_
      rintro e w2 ⟨rfl, hb2⟩
      have HB2 : Hid (Ext w1 w2) := hb2
      clear hb2
      go_wp2
      go_ret
      exact ⟨rfl, HB.out.trans HB2.out⟩
  · have e1 : (Pth.faultI p.data.toList != 0) = true := by simp [f1]
    have hv : Pth.underV p.data.toList t.data.toList = false := by unfold Pth.underV; simp [f1]
    rw [hv]
    clear hv f1
    go_enter Tryd.func22, Tryd.ntmps22
    go_wp2_with fail
    refine (pathFault_any p _ HG.out).mono ?_
    rintro e w1 ⟨rfl, hb1⟩
    have HB : Hid (Ext w w1) := hb1
    clear hb1
    go_wp2
    go_ret
    exact ⟨rfl, HB.out⟩
end Go.Proofs.YtihfgaanaffinaaDoor
