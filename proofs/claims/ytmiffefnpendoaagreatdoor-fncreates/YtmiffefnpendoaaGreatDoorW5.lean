/- impl.DeepIn, NameIn, ParentOf: what they answer at every text. -/
import Derived.Test.YtmiffefnpendoaaGreatDoorClone
namespace Go.Proofs.YtmiffefnpendoaaGreatDoor
open Go.RowKit

set_option maxHeartbeats 2000000 in
theorem nameIn_any (s : ByteArray) (w : World) (hg : Gd w) :
    Calls Tryz.prog 98 #[.string s] w fun e w' => e = .returned (tr (Pth.nameV s.data.toList)) ∧ Ext w w' := by
  have HG : Hid (Gd w) := hg
  clear hg
  rcases Pth.fault_cases s.data.toList with ⟨hm, hf⟩ | ⟨hm, hr, hf⟩ | ⟨hm, hf, n, la, hr⟩
  · rw [nameV_bad hf (by decide)]
    clear hf
    go_enter Tryz.func98, Tryz.ntmps98
    go_wp2_with fail
    refine (rp_many s _ hm).mono ?_
    rintro e w1 ⟨rfl, hb⟩
    have hz : w.heap.size + 1 ≤ w1.heap.size := by have := hb.size; simpa using this
    have HB : Hid (Ext (w.alloc (.cells #[.int .i64 0, .string ByteArray.empty] 36)) w1) := hb
    clear hb
    unfold rpMany
    go_wp2_with fail
    refine (code_err 2 _ (by exact ((HG.out.alloc _).ext HB.out).alloc _)).mono ?_
    rintro e w2 ⟨rfl, hb⟩
    have HB2 : Hid (Ext (w.alloc (.cells #[.int .i64 0, .string ByteArray.empty] 36)) w2) := (HB.out.alloc _).trans hb
    clear hb
    obtain ⟨hc, hf⟩ := Ext.cell HB2.out
    go_wp2
    exact bodyPost_ret (v := tr (2, [])) (by simp [results, Tryz.results98, go_sem, tr, hc, mkB]) rfl ⟨rfl, ((((Ext.refl w).alloc _).trans HB2.out).setCell (Nat.le_refl _) _).setCell (Nat.le_refl _) _⟩
  · rw [nameV_bad hf (by decide)]
    clear hf
    go_enter Tryz.func98, Tryz.ntmps98
    go_wp2_with fail
    refine (rp_none s _ hm hr).mono ?_
    rintro e w1 ⟨rfl, hb⟩
    have hz : w.heap.size + 1 ≤ w1.heap.size := by have := hb.size; simpa using this
    have HB : Hid (Ext (w.alloc (.cells #[.int .i64 0, .string ByteArray.empty] 36)) w1) := hb
    clear hb
    unfold rpText
    go_wp2_with fail
    refine (code_err 5 _ (by exact ((HG.out.alloc _).ext HB.out).alloc _)).mono ?_
    rintro e w2 ⟨rfl, hb⟩
    have HB2 : Hid (Ext (w.alloc (.cells #[.int .i64 0, .string ByteArray.empty] 36)) w2) := (HB.out.alloc _).trans hb
    clear hb
    obtain ⟨hc, hf⟩ := Ext.cell HB2.out
    go_wp2
    exact bodyPost_ret (v := tr (5, [])) (by simp [results, Tryz.results98, go_sem, tr, hc, mkB]) rfl ⟨rfl, ((((Ext.refl w).alloc _).trans HB2.out).setCell (Nat.le_refl _) _).setCell (Nat.le_refl _) _⟩
  · rcases Pth.rd_top _ _ _ hr with ⟨h1, h2, _⟩ | ⟨h1, h2, h3, h4, _, h5⟩
    · have hv : Pth.nameV s.data.toList = (4, []) := by
        unfold Pth.nameV
        rw [hf, if_neg (by decide), if_pos h1]
      rw [hv]
      subst h2
      clear hv hf h1
      go_enter Tryz.func98, Tryz.ntmps98
      go_wp2_with fail
      refine (rp_some s _ 0 la hm hr).mono ?_
      rintro e w1 ⟨rfl, hb⟩
      have hz : w.heap.size + 1 ≤ w1.heap.size := by have := hb.size; simpa using this
      have HB : Hid (Ext (w.alloc (.cells #[.int .i64 0, .string ByteArray.empty] 36)) w1) := hb
      clear hb hr hm
      unfold rpShape
      obtain ⟨hc, hf⟩ := Ext.cell HB.out
      have hlt : w.heap.size < w1.heap.size := by omega
      have hal := alloc_cell
      have hfl := alloc_frozen
      go_wp2
      exact bodyPost_ret (v := tr (4, [])) (by simp [results, Tryz.results98, go_sem, tr, hc, mkB, hlt, hal]) rfl ⟨rfl, (((((Ext.refl w).alloc _).trans HB.out).setCell (Nat.le_refl _) _).setCell (Nat.le_refl _) _).alloc _⟩
    · have hv : Pth.nameV s.data.toList = (0, s.data.toList.drop la) := by
        unfold Pth.nameV
        rw [hf, if_neg (by decide), if_neg h1, h4]
      have hx : s.extract la s.size = mkB (s.data.toList.drop la) := eq_mkB (by
        rw [extract_list, List.take_of_length_le]; rw [List.length_drop, len_eq]; omega)
      rw [hv]
      have HX : Hid (s.extract la s.size = mkB (s.data.toList.drop la)) := hx
      have hla : la ≤ s.size := h5
      have hn : ((n : Int) == 0) = false := by simp; omega
      have h24 : s.size ≤ 24 := by
        unfold Pth.many at hm
        simp only [Bool.or_eq_false_iff, decide_eq_false_iff_not, len_eq] at hm
        omega
      have hxs : (s.extract la s.size).size ≤ 1048576 := by simp [ByteArray.size_extract]; omega
      clear hv hf h1 h2 h4 h5 hx
      go_enter Tryz.func98, Tryz.ntmps98
      go_wp2_with fail
      refine (rp_some s _ n la hm hr).mono ?_
      rintro e w1 ⟨rfl, hb⟩
      have hz : w.heap.size + 1 ≤ w1.heap.size := by have := hb.size; simpa using this
      have HB : Hid (Ext (w.alloc (.cells #[.int .i64 0, .string ByteArray.empty] 36)) w1) := hb
      clear hb hr hm
      unfold rpShape
      obtain ⟨hc, hf⟩ := Ext.cell HB.out
      have hlt : w.heap.size < w1.heap.size := by omega
      have hal := alloc_cell
      have hfl := alloc_frozen
      go_wp2_with fail
      refine (clone_any (s.extract la s.size) _ hxs).mono ?_
      rintro e w2 ⟨rfl, hb⟩
      have HB2 : Hid (Ext (w.alloc (.cells #[.int .i64 0, .string ByteArray.empty] 36)) w2) := (HB.out.alloc _).trans hb
      clear hb hc hf
      rw [HX.out]
      obtain ⟨hc, hf⟩ := Ext.cell HB2.out
      go_wp2
      exact bodyPost_ret (v := tr (0, s.data.toList.drop la)) (by simp [results, Tryz.results98, go_sem, tr, hc]) rfl ⟨rfl, ((((Ext.refl w).alloc _).trans HB2.out).setCell (Nat.le_refl _) _).setCell (Nat.le_refl _) _⟩

set_option maxHeartbeats 2000000 in
theorem parentOf_any (s : ByteArray) (w : World) (hg : Gd w) :
    Calls Tryz.prog 12 #[.string s] w fun e w' => e = .returned (tr (Pth.parentV s.data.toList)) ∧ Ext w w' := by
  have HG : Hid (Gd w) := hg
  clear hg
  rcases Pth.fault_cases s.data.toList with ⟨hm, hf⟩ | ⟨hm, hr, hf⟩ | ⟨hm, hf, n, la, hr⟩
  · rw [parentV_bad hf (by decide)]
    clear hf
    go_enter Tryz.func12, Tryz.ntmps12
    go_wp2_with fail
    refine (rp_many s _ hm).mono ?_
    rintro e w1 ⟨rfl, hb⟩
    have hz : w.heap.size + 1 ≤ w1.heap.size := by have := hb.size; simpa using this
    have HB : Hid (Ext (w.alloc (.cells #[.int .i64 0, .string ByteArray.empty] 36)) w1) := hb
    clear hb
    unfold rpMany
    go_wp2_with fail
    refine (code_err 2 _ (by exact ((HG.out.alloc _).ext HB.out).alloc _)).mono ?_
    rintro e w2 ⟨rfl, hb⟩
    have HB2 : Hid (Ext (w.alloc (.cells #[.int .i64 0, .string ByteArray.empty] 36)) w2) := (HB.out.alloc _).trans hb
    clear hb
    obtain ⟨hc, hf⟩ := Ext.cell HB2.out
    go_wp2
    exact bodyPost_ret (v := tr (2, [])) (by simp [results, Tryz.results12, go_sem, tr, hc, mkB]) rfl ⟨rfl, ((((Ext.refl w).alloc _).trans HB2.out).setCell (Nat.le_refl _) _).setCell (Nat.le_refl _) _⟩
  · rw [parentV_bad hf (by decide)]
    clear hf
    go_enter Tryz.func12, Tryz.ntmps12
    go_wp2_with fail
    refine (rp_none s _ hm hr).mono ?_
    rintro e w1 ⟨rfl, hb⟩
    have hz : w.heap.size + 1 ≤ w1.heap.size := by have := hb.size; simpa using this
    have HB : Hid (Ext (w.alloc (.cells #[.int .i64 0, .string ByteArray.empty] 36)) w1) := hb
    clear hb
    unfold rpText
    go_wp2_with fail
    refine (code_err 5 _ (by exact ((HG.out.alloc _).ext HB.out).alloc _)).mono ?_
    rintro e w2 ⟨rfl, hb⟩
    have HB2 : Hid (Ext (w.alloc (.cells #[.int .i64 0, .string ByteArray.empty] 36)) w2) := (HB.out.alloc _).trans hb
    clear hb
    obtain ⟨hc, hf⟩ := Ext.cell HB2.out
    go_wp2
    exact bodyPost_ret (v := tr (5, [])) (by simp [results, Tryz.results12, go_sem, tr, hc, mkB]) rfl ⟨rfl, ((((Ext.refl w).alloc _).trans HB2.out).setCell (Nat.le_refl _) _).setCell (Nat.le_refl _) _⟩
  · rcases Pth.rd_top _ _ _ hr with ⟨h1, h2, _⟩ | ⟨h1, h2, h3, h4, h6, h5⟩
    · have hv : Pth.parentV s.data.toList = (4, []) := by
        unfold Pth.parentV
        rw [hf, if_neg (by decide), if_pos h1]
      rw [hv]
      subst h2
      clear hv hf h1
      go_enter Tryz.func12, Tryz.ntmps12
      go_wp2_with fail
      refine (rp_some s _ 0 la hm hr).mono ?_
      rintro e w1 ⟨rfl, hb⟩
      have hz : w.heap.size + 1 ≤ w1.heap.size := by have := hb.size; simpa using this
      have HB : Hid (Ext (w.alloc (.cells #[.int .i64 0, .string ByteArray.empty] 36)) w1) := hb
      clear hb hr hm
      unfold rpShape
      obtain ⟨hc, hf⟩ := Ext.cell HB.out
      have hlt : w.heap.size < w1.heap.size := by omega
      have hal := alloc_cell
      have hfl := alloc_frozen
      go_wp2
      exact bodyPost_ret (v := tr (4, [])) (by simp [results, Tryz.results12, go_sem, tr, hc, mkB, hlt, hal]) rfl ⟨rfl, (((((Ext.refl w).alloc _).trans HB.out).setCell (Nat.le_refl _) _).setCell (Nat.le_refl _) _).alloc _⟩
    · by_cases h7 : n = 1
      · have hv : Pth.parentV s.data.toList = (0, [47]) := by
          unfold Pth.parentV
          rw [hf, if_neg (by decide), if_neg h1, if_pos (h6.1 h7)]
        rw [hv]
        subst h7
        clear hv hf h1 h2 h4 h5 h6
        go_enter Tryz.func12, Tryz.ntmps12
        go_wp2_with fail
        refine (rp_some s _ 1 la hm hr).mono ?_
        rintro e w1 ⟨rfl, hb⟩
        have hz : w.heap.size + 1 ≤ w1.heap.size := by have := hb.size; simpa using this
        have HB : Hid (Ext (w.alloc (.cells #[.int .i64 0, .string ByteArray.empty] 36)) w1) := hb
        clear hb hr hm
        unfold rpShape
        obtain ⟨hc, hf⟩ := Ext.cell HB.out
        have hlt : w.heap.size < w1.heap.size := by omega
        have hal := alloc_cell
        have hfl := alloc_frozen
        go_wp2
        exact bodyPost_ret (v := tr (0, [47])) (by simp [results, Tryz.results12, go_sem, tr, hc, mkB, hlt, hal]) rfl ⟨rfl, (((((Ext.refl w).alloc _).trans HB.out).setCell (Nat.le_refl _) _).setCell (Nat.le_refl _) _).alloc _⟩
      · have h8 : ¬ Pth.lastSl s.data.toList 0 0 = 0 := fun x => h7 (h6.2 x)
        have hv : Pth.parentV s.data.toList = (0, s.data.toList.take (la - 1)) := by
          unfold Pth.parentV
          rw [hf, if_neg (by decide), if_neg h1, if_neg h8, h4]
          simp
        have hx : s.extract 0 (la - 1) = mkB (s.data.toList.take (la - 1)) := eq_mkB (by
          rw [extract_list]; simp)
        rw [hv]
        have HX : Hid (s.extract 0 (la - 1) = mkB (s.data.toList.take (la - 1))) := hx
        have hla : la ≤ s.size := h5
        have hla1 : 1 ≤ la := by omega
        have hn : ((n : Int) == 0) = false := by simp; omega
        have hn1 : ((n : Int) == 1) = false := by simp; omega
        have h24 : s.size ≤ 24 := by
          unfold Pth.many at hm
          simp only [Bool.or_eq_false_iff, decide_eq_false_iff_not, len_eq] at hm
          omega
        have hxs : (s.extract 0 (la - 1)).size ≤ 1048576 := by simp [ByteArray.size_extract]; omega
        clear hv hf h1 h2 h4 h5 h6 h8 hx
        go_enter Tryz.func12, Tryz.ntmps12
        go_wp2_with fail
        refine (rp_some s _ n la hm hr).mono ?_
        rintro e w1 ⟨rfl, hb⟩
        have hz : w.heap.size + 1 ≤ w1.heap.size := by have := hb.size; simpa using this
        have HB : Hid (Ext (w.alloc (.cells #[.int .i64 0, .string ByteArray.empty] 36)) w1) := hb
        clear hb hr hm
        unfold rpShape
        obtain ⟨hc, hf⟩ := Ext.cell HB.out
        have hlt : w.heap.size < w1.heap.size := by omega
        have hal := alloc_cell
        have hfl := alloc_frozen
        go_wp2_with fail
        refine (clone_any (s.extract 0 (la - 1)) _ hxs).mono ?_
        rintro e w2 ⟨rfl, hb⟩
        have HB2 : Hid (Ext (w.alloc (.cells #[.int .i64 0, .string ByteArray.empty] 36)) w2) := (HB.out.alloc _).trans hb
        clear hb hc hf
        rw [HX.out]
        obtain ⟨hc, hf⟩ := Ext.cell HB2.out
        go_wp2
        exact bodyPost_ret (v := tr (0, s.data.toList.take (la - 1))) (by simp [results, Tryz.results12, go_sem, tr, hc]) rfl ⟨rfl, ((((Ext.refl w).alloc _).trans HB2.out).setCell (Nat.le_refl _) _).setCell (Nat.le_refl _) _⟩
end Go.Proofs.YtmiffefnpendoaaGreatDoor
