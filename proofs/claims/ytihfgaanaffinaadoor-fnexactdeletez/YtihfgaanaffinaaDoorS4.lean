/- the specification's ParentOf, NameIn, DeepIn: what they answer; the laws' comparisons. -/
import Derived.Test.YtihfgaanaffinaaDoorS3
namespace Go.Proofs.YtihfgaanaffinaaDoor
open Go.RowKit

theorem l1FaultI_any (s : ByteArray) (w : World) :
    Calls Tryd.prog 65 #[.string s] w fun e w' => e = .returned (.int .i64 (Pth.faultI s.data.toList)) ∧ Ext w w' := by
  rw [Pth.fault_eq]; exact l1Fault_any s w
theorem few_of_ok {s : ByteArray} (h : Pth.faultI s.data.toList = 0) : s.size ≤ 24 := by
  rcases Pth.fault_cases s.data.toList with ⟨_, h2⟩ | ⟨_, _, h2⟩ | ⟨hm, _⟩
  · rw [h] at h2; cases h2
  · rw [h] at h2; cases h2
  · unfold Pth.many at hm
    simp only [Bool.or_eq_false_iff, decide_eq_false_iff_not, len_eq] at hm
    omega
theorem names_of_ok {l : List UInt8} (h : Pth.faultI l = 0) : ∃ ns, Pth.namesS l = some ns ∧ (if l = [47] then (0 : Int) else (l.count 47 : Nat)) = (ns.length : Int) := by
  rcases Pth.fault_cases l with ⟨_, h2⟩ | ⟨_, _, h2⟩ | ⟨hm, _, n, la, hr⟩
  · rw [h] at h2; cases h2
  · rw [h] at h2; cases h2
  · have hs := Pth.rd_isSome l
    rw [hr] at hs
    obtain ⟨ns, hns⟩ := Option.isSome_iff_exists.1 hs.symm
    refine ⟨ns, hns, ?_⟩
    by_cases hl : l = [47]
    · subst hl
      have : Pth.namesS [47] = some [] := rfl
      rw [this] at hns
      cases hns
      rfl
    · rw [if_neg hl, Pth.namesS_length l ns hns hl]
theorem lastSl_le2 (s : ByteArray) (h : Pth.faultI s.data.toList = 0) (h0 : (s.toList == [47]) = false) : Pth.lastSl s.data.toList 0 0 + 1 ≤ s.size := by
  rcases Pth.fault_cases s.data.toList with ⟨_, h2⟩ | ⟨_, _, h2⟩ | ⟨hm, _, n, la, hr⟩
  · rw [h] at h2; cases h2
  · rw [h] at h2; cases h2
  · rcases Pth.rd_top _ _ _ hr with ⟨h1, _⟩ | ⟨_, _, _, h4, _, h5⟩
    · rw [Lib.toList_data, h1] at h0; cases h0
    · rw [h4, len_eq] at h5; exact h5

set_option maxHeartbeats 400000 in
theorem eqText_any (x : Int × List UInt8) (w : World) :
    Calls Tryd.prog 35 #[tr x, tr x] w fun e w' => e = .returned (.bool true) ∧ Ext w w' := by
  obtain ⟨c, t⟩ := x
  unfold tr
  go_enter Tryd.func35, Tryd.ntmps35
  go_wp2
  go_ret
  exact ⟨rfl, ((Ext.refl _).alloc _).alloc _⟩
set_option maxHeartbeats 400000 in
theorem eqInt_any (x : Int × Int) (w : World) :
    Calls Tryd.prog 38 #[ir x, ir x] w fun e w' => e = .returned (.bool true) ∧ Ext w w' := by
  obtain ⟨c, t⟩ := x
  unfold ir
  go_enter Tryd.func38, Tryd.ntmps38
  go_wp2
  go_ret
  exact ⟨rfl, ((Ext.refl _).alloc _).alloc _⟩

set_option maxHeartbeats 2000000 in
theorem specParentOf_any (s : ByteArray) (w : World) :
    Calls Tryd.prog 34 #[.string s] w fun e w' => e = .returned (tr (Pth.parentV s.data.toList)) ∧ Ext w w' := by
  by_cases hc0 : Pth.faultI s.data.toList = 0
  · have h24 := few_of_ok hc0
    have HC : Hid (Pth.faultI s.data.toList = 0) := hc0
    by_cases ht : s.data.toList = [47]
    · have e0 : (s.toList == [47]) = true := by rw [Lib.toList_data, ht]; rfl
      have hv : Pth.parentV s.data.toList = (4, []) := by unfold Pth.parentV; rw [hc0, if_neg (by decide), if_pos ht]
      rw [hv]
      clear hv ht hc0
      go_enter Tryd.func34, Tryd.ntmps34
      go_wp2_with fail
      refine (l1FaultI_any s _).mono ?_
      rintro e w1 ⟨rfl, hb⟩
      rw [HC.out]
      have hlt : w.heap.size < w1.heap.size := by have := hb.size; simp at this; omega
      have HB : Hid (Ext (w.alloc (.cells #[.int .i64 0, .string ByteArray.empty] 27)) w1) := hb
      obtain ⟨hc, hf⟩ := Ext.cell hb
      clear hb
      go_wp2
      exact bodyPost_ret (v := tr (4, [])) (by simp [results, Tryd.results34, go_sem, tr, hc, mkB]) rfl ⟨rfl, ((((Ext.refl w).alloc _).trans HB.out).setCell (Nat.le_refl _) _).setCell (Nat.le_refl _) _⟩
    · have e0 : (s.toList == [47]) = false := by rw [Lib.toList_data]; simpa using ht
      have hv : Pth.parentV s.data.toList = (0, if Pth.lastSl s.data.toList 0 0 = 0 then [47] else s.data.toList.take (Pth.lastSl s.data.toList 0 0)) := by unfold Pth.parentV; rw [hc0, if_neg (by decide), if_neg ht]
      rw [hv]
      clear hv ht hc0
      have hP := l1Parent_any s
      generalize (if Pth.lastSl s.data.toList 0 0 = 0 then [47] else s.data.toList.take (Pth.lastSl s.data.toList 0 0)) = t at *
      have HP : Hid (∀ w : World, s.size ≤ 24 → Calls Tryd.prog 85 #[.string s] w fun e w' => e = .returned (.string (mkB t)) ∧ w' = w) := hP
      clear hP
      go_enter Tryd.func34, Tryd.ntmps34
      go_wp2_with fail
      refine (l1FaultI_any s _).mono ?_
      rintro e w1 ⟨rfl, hb⟩
      rw [HC.out]
      have hlt : w.heap.size < w1.heap.size := by have := hb.size; simp at this; omega
      have HB : Hid (Ext (w.alloc (.cells #[.int .i64 0, .string ByteArray.empty] 27)) w1) := hb
      obtain ⟨hc, hf⟩ := Ext.cell hb
      clear hb
      go_wp2_with fail
      refine (HP.out _ h24).mono ?_
      rintro e w2 ⟨rfl, rfl⟩
      go_wp2
      exact bodyPost_ret (v := tr (0, t)) (by simp [results, Tryd.results34, go_sem, tr, hc]) rfl ⟨rfl, ((((Ext.refl w).alloc _).trans HB.out).setCell (Nat.le_refl _) _).setCell (Nat.le_refl _) _⟩
  · obtain ⟨c, hcc⟩ : ∃ c, Pth.faultI s.data.toList = c := ⟨_, rfl⟩
    rw [parentV_bad hcc (by rw [← hcc]; exact hc0)]
    have hc1 : (c != 0) = true := by rw [bne_iff_ne, ← hcc]; exact hc0
    have HC : Hid (Pth.faultI s.data.toList = c) := hcc
    clear hcc hc0
    go_enter Tryd.func34, Tryd.ntmps34
    go_wp2_with fail
    refine (l1FaultI_any s _).mono ?_
    rintro e w1 ⟨rfl, hb⟩
    rw [HC.out]
    have hlt : w.heap.size < w1.heap.size := by have := hb.size; simp at this; omega
    have HB : Hid (Ext (w.alloc (.cells #[.int .i64 0, .string ByteArray.empty] 27)) w1) := hb
    obtain ⟨hc, hf⟩ := Ext.cell hb
    clear hb
    go_wp2
    exact bodyPost_ret (v := tr (c, [])) (by simp [results, Tryd.results34, go_sem, tr, hc, mkB]) rfl ⟨rfl, ((((Ext.refl w).alloc _).trans HB.out).setCell (Nat.le_refl _) _).setCell (Nat.le_refl _) _⟩

set_option maxHeartbeats 2000000 in
theorem specNameIn_any (s : ByteArray) (w : World) :
    Calls Tryd.prog 36 #[.string s] w fun e w' => e = .returned (tr (Pth.nameV s.data.toList)) ∧ Ext w w' := by
  by_cases hc0 : Pth.faultI s.data.toList = 0
  · have h24 := few_of_ok hc0
    have HC : Hid (Pth.faultI s.data.toList = 0) := hc0
    by_cases ht : s.data.toList = [47]
    · have e0 : (s.toList == [47]) = true := by rw [Lib.toList_data, ht]; rfl
      have hv : Pth.nameV s.data.toList = (4, []) := by unfold Pth.nameV; rw [hc0, if_neg (by decide), if_pos ht]
      rw [hv]
      clear hv ht hc0
      go_enter Tryd.func36, Tryd.ntmps36
      go_wp2_with fail
      refine (l1FaultI_any s _).mono ?_
      rintro e w1 ⟨rfl, hb⟩
      rw [HC.out]
      have hlt : w.heap.size < w1.heap.size := by have := hb.size; simp at this; omega
      have HB : Hid (Ext (w.alloc (.cells #[.int .i64 0, .string ByteArray.empty] 27)) w1) := hb
      obtain ⟨hc, hf⟩ := Ext.cell hb
      clear hb
      go_wp2
      exact bodyPost_ret (v := tr (4, [])) (by simp [results, Tryd.results36, go_sem, tr, hc, mkB]) rfl ⟨rfl, ((((Ext.refl w).alloc _).trans HB.out).setCell (Nat.le_refl _) _).setCell (Nat.le_refl _) _⟩
    · have e0 : (s.toList == [47]) = false := by rw [Lib.toList_data]; simpa using ht
      have hv : Pth.nameV s.data.toList = (0, s.data.toList.drop (Pth.lastSl s.data.toList 0 0 + 1)) := by unfold Pth.nameV; rw [hc0, if_neg (by decide), if_neg ht]
      rw [hv]
      clear hv ht hc0
      have hle := lastSl_le2 s HC.out e0
      have hx : s.extract (Pth.lastSl s.data.toList 0 0 + 1) s.size = mkB (s.data.toList.drop (Pth.lastSl s.data.toList 0 0 + 1)) := eq_mkB (by
        rw [extract_list, List.take_of_length_le]; rw [List.length_drop, len_eq]; omega)
      have hl := l1Last_any s
      generalize Pth.lastSl s.data.toList 0 0 = a at *
      have HX : Hid (s.extract (a + 1) s.size = mkB (s.data.toList.drop (a + 1))) := hx
      clear hx
      have HL : Hid (∀ w : World, s.size ≤ 24 → Calls Tryd.prog 86 #[.string s] w fun e w' => e = .returned (.int .i64 (a : Nat)) ∧ w' = w) := hl
      clear hl
      go_enter Tryd.func36, Tryd.ntmps36
      go_wp2_with fail
      refine (l1FaultI_any s _).mono ?_
      rintro e w1 ⟨rfl, hb⟩
      rw [HC.out]
      have hlt : w.heap.size < w1.heap.size := by have := hb.size; simp at this; omega
      have HB : Hid (Ext (w.alloc (.cells #[.int .i64 0, .string ByteArray.empty] 27)) w1) := hb
      obtain ⟨hc, hf⟩ := Ext.cell hb
      clear hb
      go_wp2_with fail
      refine (HL.out _ h24).mono ?_
      rintro e w2 ⟨rfl, rfl⟩
      go_wp2
      exact bodyPost_ret (v := .agg #[.int .i64 0, .string (s.extract (a + 1) s.size)]) (by simp [results, Tryd.results36, go_sem, hc]) rfl ⟨by rw [HX.out]; rfl, ((((Ext.refl w).alloc _).trans HB.out).setCell (Nat.le_refl _) _).setCell (Nat.le_refl _) _⟩
  · obtain ⟨c, hcc⟩ : ∃ c, Pth.faultI s.data.toList = c := ⟨_, rfl⟩
    rw [nameV_bad hcc (by rw [← hcc]; exact hc0)]
    have hc1 : (c != 0) = true := by rw [bne_iff_ne, ← hcc]; exact hc0
    have HC : Hid (Pth.faultI s.data.toList = c) := hcc
    clear hcc hc0
    go_enter Tryd.func36, Tryd.ntmps36
    go_wp2_with fail
    refine (l1FaultI_any s _).mono ?_
    rintro e w1 ⟨rfl, hb⟩
    rw [HC.out]
    have hlt : w.heap.size < w1.heap.size := by have := hb.size; simp at this; omega
    have HB : Hid (Ext (w.alloc (.cells #[.int .i64 0, .string ByteArray.empty] 27)) w1) := hb
    obtain ⟨hc, hf⟩ := Ext.cell hb
    clear hb
    go_wp2
    exact bodyPost_ret (v := tr (c, [])) (by simp [results, Tryd.results36, go_sem, tr, hc, mkB]) rfl ⟨rfl, ((((Ext.refl w).alloc _).trans HB.out).setCell (Nat.le_refl _) _).setCell (Nat.le_refl _) _⟩

set_option maxHeartbeats 2000000 in
theorem specDeepIn_any (s : ByteArray) (w : World) :
    Calls Tryd.prog 37 #[.string s] w fun e w' => e = .returned (ir (Pth.deepV s.data.toList)) ∧ Ext w w' := by
  by_cases hc0 : Pth.faultI s.data.toList = 0
  · have h24 := few_of_ok hc0
    have HC : Hid (Pth.faultI s.data.toList = 0) := hc0
    obtain ⟨ns, hns, hnl⟩ := names_of_ok hc0
    have hv : Pth.deepV s.data.toList = (0, (ns.length : Int)) := by
      unfold Pth.deepV; rw [hc0, if_neg (by decide), hnl]
    rw [hv]
    have HN : Hid (Pth.namesS s.data.toList = some ns) := hns
    clear hv hc0 hns hnl
    go_enter Tryd.func37, Tryd.ntmps37
    go_wp2_with fail
    refine (l1FaultI_any s _).mono ?_
    rintro e w1 ⟨rfl, hb⟩
    rw [HC.out]
    have hlt : w.heap.size < w1.heap.size := by have := hb.size; simp at this; omega
    have HB : Hid (Ext (w.alloc (.cells #[.int .i64 0, .int .i64 0] 33)) w1) := hb
    obtain ⟨hc, hf⟩ := Ext.cell hb
    clear hb
    go_wp2_with fail
    refine (l1Names_any s _ h24).mono ?_
    rintro e w2 ⟨v, rfl, hsl, hb⟩
    obtain ⟨a, cap, rfl⟩ := hsl ns HN.out
    rw [HN.out, Option.isSome_some]
    have HB2 : Hid (Ext (w.alloc (.cells #[.int .i64 0, .int .i64 0] 33)) w2) := HB.out.trans hb
    clear hb hsl hc hf
    obtain ⟨hc, hf⟩ := Ext.cell HB2.out
    go_wp2
    exact bodyPost_ret (v := ir (0, (ns.length : Int))) (by simp [results, Tryd.results37, go_sem, ir, hc]) rfl ⟨rfl, ((((Ext.refl w).alloc _).trans HB2.out).setCell (Nat.le_refl _) _).setCell (Nat.le_refl _) _⟩
  · obtain ⟨c, hcc⟩ : ∃ c, Pth.faultI s.data.toList = c := ⟨_, rfl⟩
    rw [deepV_bad hcc (by rw [← hcc]; exact hc0)]
    have hc1 : (c != 0) = true := by rw [bne_iff_ne, ← hcc]; exact hc0
    have HC : Hid (Pth.faultI s.data.toList = c) := hcc
    clear hcc hc0
    go_enter Tryd.func37, Tryd.ntmps37
    go_wp2_with fail
    refine (l1FaultI_any s _).mono ?_
    rintro e w1 ⟨rfl, hb⟩
    rw [HC.out]
    have hlt : w.heap.size < w1.heap.size := by have := hb.size; simp at this; omega
    have HB : Hid (Ext (w.alloc (.cells #[.int .i64 0, .int .i64 0] 33)) w1) := hb
    obtain ⟨hc, hf⟩ := Ext.cell hb
    clear hb
    go_wp2
    exact bodyPost_ret (v := ir (c, 0)) (by simp [results, Tryd.results37, go_sem, ir, hc]) rfl ⟨rfl, ((((Ext.refl w).alloc _).trans HB.out).setCell (Nat.le_refl _) _).setCell (Nat.le_refl _) _⟩
end Go.Proofs.YtihfgaanaffinaaDoor
