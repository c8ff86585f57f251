/- impl.JoinPath and the specification's: what they answer. -/
import Derived.Test.YtihfgaanaffinaaDoorW6
namespace Go.Proofs.YtihfgaanaffinaaDoor
open Go.RowKit

theorem joined_top {p m : ByteArray} (h : p.data.toList = [47]) : ((⟨#[47]⟩ : ByteArray) ++ m).data.toList = Pth.joined p.data.toList m.data.toList := by
  have := join_list p m; rw [if_pos h] at this; exact this
theorem joined_not {p m : ByteArray} (h : ¬ p.data.toList = [47]) : (p ++ (⟨#[47]⟩ : ByteArray) ++ m).data.toList = Pth.joined p.data.toList m.data.toList := by
  have := join_list p m; rw [if_neg h] at this; exact this

set_option maxHeartbeats 2000000 in
theorem joinPath_top (p m : ByteArray) (w : World) (hg : Gd w) (hp24 : p.size ≤ 24) (hms : m.size ≤ 1048576) (la : Nat) (h1 : p.data.toList = [47]) (hm : Pth.many p.data.toList = false) (hr : Pth.rd p.data.toList = some (0, la)) (hf : Pth.faultI p.data.toList = 0) (hok : Pth.okName m.data.toList = true) :
    Calls Tryd.prog 19 #[.string p, .string m] w fun e w' => e = .returned (tr (Pth.joinV p.data.toList m.data.toList)) ∧ Ext w w' := by
  have HG : Hid (Gd w) := hg
  clear hg
  obtain ⟨J, hJ⟩ : ∃ J, (⟨#[47]⟩ : ByteArray) ++ m = J := ⟨_, rfl⟩
  have hJl : Pth.joined p.data.toList m.data.toList = J.data.toList := by rw [← hJ]; exact (joined_top h1).symm
  clear h1
  by_cases h0 : Pth.faultI J.data.toList = 0
  · rw [joinV_ok hf hok hJl h0]
    have HCJ : Hid (Pth.faultI J.data.toList = 0) := h0
    have HJM : Hid (J = mkB J.data.toList) := eq_mkB rfl
    clear h0 hJl hf
    go_enter Tryd.func19, Tryd.ntmps19
    go_wp2_with fail
    refine (rp_some p _ 0 la hm hr).mono ?_
    rintro e w1 ⟨rfl, hb⟩
    have hlt : w.heap.size < w1.heap.size := by have := hb.size; simp at this; omega
    have HB : Hid (Ext (w.alloc (.cells #[.int .i64 0, .string ByteArray.empty] 27)) w1) := hb
    clear hb hr hm
    unfold rpShape
    go_wp2_with fail
    refine (isName_any m _ hms).mono ?_
    rintro e w2 ⟨rfl, hb⟩
    rw [hok]
    have HB2 : Hid (Ext (w.alloc (.cells #[.int .i64 0, .string ByteArray.empty] 27)) w2) := (HB.out.alloc _).trans hb
    obtain ⟨hc, hf⟩ := Ext.cell hb
    have hlt2 : w1.heap.size < w2.heap.size := by have := hb.size; simp at this; omega
    clear hb hok
    go_wp2_with fail
    refine (pathFault_any J _ (by exact (HG.out.alloc _).ext HB2.out)).mono ?_
    rintro e w3 ⟨rfl, hb⟩
    rw [HCJ.out]
    have HB3 : Hid (Ext (w.alloc (.cells #[.int .i64 0, .string ByteArray.empty] 27)) w3) := HB2.out.trans hb
    clear hb hc hf
    obtain ⟨hc, hf⟩ := Ext.cell HB3.out
    go_wp2
    exact bodyPost_ret (v := .agg #[.int .i64 0, .string J]) (by simp [results, Tryd.results19, go_sem, hc]) rfl ⟨(by unfold tr; rw [← HJM.out]), ((((Ext.refl w).alloc _).trans HB3.out).setCell (Nat.le_refl _) _).setCell (Nat.le_refl _) _⟩
  · obtain ⟨c, hc0⟩ : ∃ c, Pth.faultI J.data.toList = c := ⟨_, rfl⟩
    rw [joinV_long hf hok hJl hc0 (by rw [← hc0]; exact h0)]
    have hcn : (c != 0) = true := by rw [bne_iff_ne, ← hc0]; exact h0
    have HCJ : Hid (Pth.faultI J.data.toList = c) := hc0
    clear h0 hJl hf hc0
    go_enter Tryd.func19, Tryd.ntmps19
    go_wp2_with fail
    refine (rp_some p _ 0 la hm hr).mono ?_
    rintro e w1 ⟨rfl, hb⟩
    have hlt : w.heap.size < w1.heap.size := by have := hb.size; simp at this; omega
    have HB : Hid (Ext (w.alloc (.cells #[.int .i64 0, .string ByteArray.empty] 27)) w1) := hb
    clear hb hr hm
    unfold rpShape
    go_wp2_with fail
    refine (isName_any m _ hms).mono ?_
    rintro e w2 ⟨rfl, hb⟩
    rw [hok]
    have HB2 : Hid (Ext (w.alloc (.cells #[.int .i64 0, .string ByteArray.empty] 27)) w2) := (HB.out.alloc _).trans hb
    obtain ⟨hc, hf⟩ := Ext.cell hb
    have hlt2 : w1.heap.size < w2.heap.size := by have := hb.size; simp at this; omega
    clear hb hok
    go_wp2_with fail
    refine (pathFault_any J _ (by exact (HG.out.alloc _).ext HB2.out)).mono ?_
    rintro e w3 ⟨rfl, hb⟩
    rw [HCJ.out]
    have HB3 : Hid (Ext (w.alloc (.cells #[.int .i64 0, .string ByteArray.empty] 27)) w3) := HB2.out.trans hb
    clear hb hc hf
    obtain ⟨hc, hf⟩ := Ext.cell HB3.out
    go_wp2
    exact bodyPost_ret (v := tr (c, [])) (by simp [results, Tryd.results19, go_sem, tr, hc, mkB]) rfl ⟨rfl, ((((Ext.refl w).alloc _).trans HB3.out).setCell (Nat.le_refl _) _).setCell (Nat.le_refl _) _⟩

set_option maxHeartbeats 2000000 in
theorem joinPath_sub (p m : ByteArray) (w : World) (hg : Gd w) (hp24 : p.size ≤ 24) (hms : m.size ≤ 1048576) (la : Nat) (h1 : ¬ p.data.toList = [47]) (n : Nat) (hn : 1 ≤ n) (hm : Pth.many p.data.toList = false) (hr : Pth.rd p.data.toList = some (n, la)) (hf : Pth.faultI p.data.toList = 0) (hok : Pth.okName m.data.toList = true) :
    Calls Tryd.prog 19 #[.string p, .string m] w fun e w' => e = .returned (tr (Pth.joinV p.data.toList m.data.toList)) ∧ Ext w w' := by
  have HG : Hid (Gd w) := hg
  clear hg
  obtain ⟨J, hJ⟩ : ∃ J, p ++ (⟨#[47]⟩ : ByteArray) ++ m = J := ⟨_, rfl⟩
  have hJl : Pth.joined p.data.toList m.data.toList = J.data.toList := by rw [← hJ]; exact (joined_not h1).symm
  have hn0 : ((n : Int) == 0) = false := by simp; omega
  clear h1
  by_cases h0 : Pth.faultI J.data.toList = 0
  · rw [joinV_ok hf hok hJl h0]
    have HCJ : Hid (Pth.faultI J.data.toList = 0) := h0
    have HJM : Hid (J = mkB J.data.toList) := eq_mkB rfl
    clear h0 hJl hf
    go_enter Tryd.func19, Tryd.ntmps19
    go_wp2_with fail
    refine (rp_some p _ n la hm hr).mono ?_
    rintro e w1 ⟨rfl, hb⟩
    have hlt : w.heap.size < w1.heap.size := by have := hb.size; simp at this; omega
    have HB : Hid (Ext (w.alloc (.cells #[.int .i64 0, .string ByteArray.empty] 27)) w1) := hb
    clear hb hr hm
    unfold rpShape
    go_wp2_with fail
    refine (isName_any m _ hms).mono ?_
    rintro e w2 ⟨rfl, hb⟩
    rw [hok]
    have HB2 : Hid (Ext (w.alloc (.cells #[.int .i64 0, .string ByteArray.empty] 27)) w2) := (HB.out.alloc _).trans hb
    obtain ⟨hc, hf⟩ := Ext.cell hb
    have hlt2 : w1.heap.size < w2.heap.size := by have := hb.size; simp at this; omega
    clear hb hok
    go_wp2_with fail
    refine (pathFault_any J _ (by exact (HG.out.alloc _).ext HB2.out)).mono ?_
    rintro e w3 ⟨rfl, hb⟩
    rw [HCJ.out]
    have HB3 : Hid (Ext (w.alloc (.cells #[.int .i64 0, .string ByteArray.empty] 27)) w3) := HB2.out.trans hb
    clear hb hc hf
    obtain ⟨hc, hf⟩ := Ext.cell HB3.out
    go_wp2
    exact bodyPost_ret (v := .agg #[.int .i64 0, .string J]) (by simp [results, Tryd.results19, go_sem, hc]) rfl ⟨(by unfold tr; rw [← HJM.out]), ((((Ext.refl w).alloc _).trans HB3.out).setCell (Nat.le_refl _) _).setCell (Nat.le_refl _) _⟩
  · obtain ⟨c, hc0⟩ : ∃ c, Pth.faultI J.data.toList = c := ⟨_, rfl⟩
    rw [joinV_long hf hok hJl hc0 (by rw [← hc0]; exact h0)]
    have hcn : (c != 0) = true := by rw [bne_iff_ne, ← hc0]; exact h0
    have HCJ : Hid (Pth.faultI J.data.toList = c) := hc0
    clear h0 hJl hf hc0
    go_enter Tryd.func19, Tryd.ntmps19
    go_wp2_with fail
    refine (rp_some p _ n la hm hr).mono ?_
    rintro e w1 ⟨rfl, hb⟩
    have hlt : w.heap.size < w1.heap.size := by have := hb.size; simp at this; omega
    have HB : Hid (Ext (w.alloc (.cells #[.int .i64 0, .string ByteArray.empty] 27)) w1) := hb
    clear hb hr hm
    unfold rpShape
    go_wp2_with fail
    refine (isName_any m _ hms).mono ?_
    rintro e w2 ⟨rfl, hb⟩
    rw [hok]
    have HB2 : Hid (Ext (w.alloc (.cells #[.int .i64 0, .string ByteArray.empty] 27)) w2) := (HB.out.alloc _).trans hb
    obtain ⟨hc, hf⟩ := Ext.cell hb
    have hlt2 : w1.heap.size < w2.heap.size := by have := hb.size; simp at this; omega
    clear hb hok
    go_wp2_with fail
    refine (pathFault_any J _ (by exact (HG.out.alloc _).ext HB2.out)).mono ?_
    rintro e w3 ⟨rfl, hb⟩
    rw [HCJ.out]
    have HB3 : Hid (Ext (w.alloc (.cells #[.int .i64 0, .string ByteArray.empty] 27)) w3) := HB2.out.trans hb
    clear hb hc hf
    obtain ⟨hc, hf⟩ := Ext.cell HB3.out
    go_wp2
    exact bodyPost_ret (v := tr (c, [])) (by simp [results, Tryd.results19, go_sem, tr, hc, mkB]) rfl ⟨rfl, ((((Ext.refl w).alloc _).trans HB3.out).setCell (Nat.le_refl _) _).setCell (Nat.le_refl _) _⟩

set_option maxHeartbeats 2000000 in
theorem joinPath_any (p m : ByteArray) (w : World) (hg : Gd w) (hms : m.size ≤ 1048576) :
    Calls Tryd.prog 19 #[.string p, .string m] w fun e w' => e = .returned (tr (Pth.joinV p.data.toList m.data.toList)) ∧ Ext w w' := by
  have HG : Hid (Gd w) := hg
  clear hg
  rcases Pth.fault_cases p.data.toList with ⟨hm, hf⟩ | ⟨hm, hr, hf⟩ | ⟨hm, hf, n, la, hr⟩
  · rw [joinV_bad hf (by decide)]
    clear hf
    go_enter Tryd.func19, Tryd.ntmps19
    go_wp2_with fail
    refine (rp_many p _ hm).mono ?_
    rintro e w1 ⟨rfl, hb⟩
    have hz : w.heap.size + 1 ≤ w1.heap.size := by have := hb.size; simpa using this
    have HB : Hid (Ext (w.alloc (.cells #[.int .i64 0, .string ByteArray.empty] 27)) w1) := hb
    clear hb
    unfold rpMany
    go_wp2_with fail
    refine (code_err 2 _ (by exact ((HG.out.alloc _).ext HB.out).alloc _)).mono ?_
    rintro e w2 ⟨rfl, hb⟩
    have HB2 : Hid (Ext (w.alloc (.cells #[.int .i64 0, .string ByteArray.empty] 27)) w2) := (HB.out.alloc _).trans hb
    clear hb
    obtain ⟨hc, hf⟩ := Ext.cell HB2.out
    go_wp2
    exact bodyPost_ret (v := tr (2, [])) (by simp [results, Tryd.results19, go_sem, tr, hc, mkB]) rfl ⟨rfl, ((((Ext.refl w).alloc _).trans HB2.out).setCell (Nat.le_refl _) _).setCell (Nat.le_refl _) _⟩
  · rw [joinV_bad hf (by decide)]
    clear hf
    go_enter Tryd.func19, Tryd.ntmps19
    go_wp2_with fail
    refine (rp_none p _ hm hr).mono ?_
    rintro e w1 ⟨rfl, hb⟩
    have hz : w.heap.size + 1 ≤ w1.heap.size := by have := hb.size; simpa using this
    have HB : Hid (Ext (w.alloc (.cells #[.int .i64 0, .string ByteArray.empty] 27)) w1) := hb
    clear hb
    unfold rpText
    go_wp2_with fail
    refine (code_err 5 _ (by exact ((HG.out.alloc _).ext HB.out).alloc _)).mono ?_
    rintro e w2 ⟨rfl, hb⟩
    have HB2 : Hid (Ext (w.alloc (.cells #[.int .i64 0, .string ByteArray.empty] 27)) w2) := (HB.out.alloc _).trans hb
    clear hb
    obtain ⟨hc, hf⟩ := Ext.cell HB2.out
    go_wp2
    exact bodyPost_ret (v := tr (5, [])) (by simp [results, Tryd.results19, go_sem, tr, hc, mkB]) rfl ⟨rfl, ((((Ext.refl w).alloc _).trans HB2.out).setCell (Nat.le_refl _) _).setCell (Nat.le_refl _) _⟩
  · cases hok : Pth.okName m.data.toList
    · rw [joinV_name hf hok]
      clear hf
      go_enter Tryd.func19, Tryd.ntmps19
      go_wp2_with fail
      refine (rp_some p _ n la hm hr).mono ?_
      rintro e w1 ⟨rfl, hb⟩
      have hlt : w.heap.size < w1.heap.size := by have := hb.size; simp at this; omega
      have HB : Hid (Ext (w.alloc (.cells #[.int .i64 0, .string ByteArray.empty] 27)) w1) := hb
      clear hb hr hm
      unfold rpShape
      go_wp2_with fail
      refine (isName_any m _ hms).mono ?_
      rintro e w2 ⟨rfl, hb⟩
      have HB2 : Hid (Ext (w.alloc (.cells #[.int .i64 0, .string ByteArray.empty] 27)) w2) := (HB.out.alloc _).trans hb
      obtain ⟨hc, hf⟩ := Ext.cell hb
      clear hb
      have HB3 : Hid (Ext (w.alloc (.cells #[.int .i64 0, .string ByteArray.empty] 27)) w2) := HB2
      clear hc hf
      obtain ⟨hc, hf⟩ := Ext.cell HB2.out
      go_wp2
      exact bodyPost_ret (v := tr (5, [])) (by simp [results, Tryd.results19, go_sem, tr, hc, mkB]) rfl ⟨rfl, ((((Ext.refl w).alloc _).trans HB2.out).setCell (Nat.le_refl _) _).setCell (Nat.le_refl _) _⟩
    · rcases Pth.rd_top _ _ _ hr with ⟨h1, h2, _⟩ | ⟨h1, h2, h3, _⟩
      · subst h2
        exact joinPath_top p m w HG.out (few_of_ok hf) hms la h1 hm hr hf hok
      · exact joinPath_sub p m w HG.out (few_of_ok hf) hms la h1 n h3 hm hr hf hok

set_option maxHeartbeats 2000000 in
theorem specJoinPath_any (p m : ByteArray) (w : World) (hms : m.size ≤ 1048576) :
    Calls Tryd.prog 20 #[.string p, .string m] w fun e w' => e = .returned (tr (Pth.joinV p.data.toList m.data.toList)) ∧ Ext w w' := by
  by_cases hf : Pth.faultI p.data.toList = 0
  · have hp24 := few_of_ok hf
    have HC : Hid (Pth.faultI p.data.toList = 0) := hf
    have hmm : m.size ≤ maxLen := by unfold maxLen; omega
    cases hok : Pth.okName m.data.toList
    · rw [joinV_name hf hok]
      clear hf
      go_enter Tryd.func20, Tryd.ntmps20
      go_wp2_with fail
      refine (l1FaultI_any p _).mono ?_
      rintro e w1 ⟨rfl, hb⟩
      rw [HC.out]
      have HB : Hid (Ext (w.alloc (.cells #[.int .i64 0, .string ByteArray.empty] 27)) w1) := hb
      clear hb
      go_wp2_with fail
      refine (l1Name_any m _ hmm).mono ?_
      rintro e w2 ⟨rfl, rfl⟩
      rw [hok]
      obtain ⟨hc, hf⟩ := Ext.cell HB.out
      go_wp2
      exact bodyPost_ret (v := tr (5, [])) (by simp [results, Tryd.results20, go_sem, tr, hc, mkB]) rfl ⟨rfl, ((((Ext.refl w).alloc _).trans HB.out).setCell (Nat.le_refl _) _).setCell (Nat.le_refl _) _⟩
    · obtain ⟨j, hj⟩ : ∃ j, Pth.joined p.data.toList m.data.toList = j := ⟨_, rfl⟩
      have hL := fun wx => l1Join_any p m wx (by omega) hms
      rw [hj] at hL
      have HL : Hid (∀ wx : World, Calls Tryd.prog 67 #[.string p, .string m] wx fun e w' => e = .returned (.string (mkB j)) ∧ w' = wx) := hL
      obtain ⟨c, hc0⟩ : ∃ c, Pth.faultI j = c := ⟨_, rfl⟩
      have hcm : Pth.faultI (mkB j).data.toList = c := by rw [mkB_list]; exact hc0
      have HCM : Hid (Pth.faultI (mkB j).data.toList = c) := hcm
      by_cases h0 : c = 0
      · rw [joinV_ok hf hok hj (by rw [hc0]; exact h0)]
        subst h0
        clear hf hL hj hc0 hcm
        go_enter Tryd.func20, Tryd.ntmps20
        go_wp2_with fail
        refine (l1FaultI_any p _).mono ?_
        rintro e w1 ⟨rfl, hb⟩
        rw [HC.out]
        have HB : Hid (Ext (w.alloc (.cells #[.int .i64 0, .string ByteArray.empty] 27)) w1) := hb
        clear hb
        go_wp2_with fail
        refine (l1Name_any m _ hmm).mono ?_
        rintro e w2 ⟨rfl, rfl⟩
        rw [hok]
        clear hok
        go_wp2_with fail
        refine (HL.out _).mono ?_
        rintro e w3 ⟨rfl, rfl⟩
        go_wp2_with fail
        refine (l1FaultI_any (mkB j) _).mono ?_
        rintro e w4 ⟨rfl, hb⟩
        rw [HCM.out]
        have HB3 : Hid (Ext (w.alloc (.cells #[.int .i64 0, .string ByteArray.empty] 27)) w4) := HB.out.trans hb
        clear hb
        obtain ⟨hc, hf⟩ := Ext.cell HB3.out
        go_wp2
        exact bodyPost_ret (v := tr (0, j)) (by simp [results, Tryd.results20, go_sem, tr, hc]) rfl ⟨rfl, ((((Ext.refl w).alloc _).trans HB3.out).setCell (Nat.le_refl _) _).setCell (Nat.le_refl _) _⟩
      · rw [joinV_long hf hok hj hc0 h0]
        have hcn : (c != 0) = true := by rw [bne_iff_ne]; exact h0
        clear hf hL hj hc0 hcm h0
        go_enter Tryd.func20, Tryd.ntmps20
        go_wp2_with fail
        refine (l1FaultI_any p _).mono ?_
        rintro e w1 ⟨rfl, hb⟩
        rw [HC.out]
        have HB : Hid (Ext (w.alloc (.cells #[.int .i64 0, .string ByteArray.empty] 27)) w1) := hb
        clear hb
        go_wp2_with fail
        refine (l1Name_any m _ hmm).mono ?_
        rintro e w2 ⟨rfl, rfl⟩
        rw [hok]
        clear hok
        go_wp2_with fail
        refine (HL.out _).mono ?_
        rintro e w3 ⟨rfl, rfl⟩
        go_wp2_with fail
        refine (l1FaultI_any (mkB j) _).mono ?_
        rintro e w4 ⟨rfl, hb⟩
        rw [HCM.out]
        have HB3 : Hid (Ext (w.alloc (.cells #[.int .i64 0, .string ByteArray.empty] 27)) w4) := HB.out.trans hb
        clear hb
        obtain ⟨hc, hf⟩ := Ext.cell HB3.out
        go_wp2
        exact bodyPost_ret (v := tr (c, [])) (by simp [results, Tryd.results20, go_sem, tr, hc, mkB]) rfl ⟨rfl, ((((Ext.refl w).alloc _).trans HB3.out).setCell (Nat.le_refl _) _).setCell (Nat.le_refl _) _⟩
  · obtain ⟨c, hcc⟩ : ∃ c, Pth.faultI p.data.toList = c := ⟨_, rfl⟩
    rw [joinV_bad hcc (by rw [← hcc]; exact hf)]
    have hc1 : (c != 0) = true := by rw [bne_iff_ne, ← hcc]; exact hf
    have HC : Hid (Pth.faultI p.data.toList = c) := hcc
    clear hcc hf
    go_enter Tryd.func20, Tryd.ntmps20
    go_wp2_with fail
    refine (l1FaultI_any p _).mono ?_
    rintro e w1 ⟨rfl, hb⟩
    rw [HC.out]
    have HB : Hid (Ext (w.alloc (.cells #[.int .i64 0, .string ByteArray.empty] 27)) w1) := hb
    clear hb
    obtain ⟨hc, hf⟩ := Ext.cell HB.out
    go_wp2
    exact bodyPost_ret (v := tr (c, [])) (by simp [results, Tryd.results20, go_sem, tr, hc, mkB]) rfl ⟨rfl, ((((Ext.refl w).alloc _).trans HB.out).setCell (Nat.le_refl _) _).setCell (Nat.le_refl _) _⟩
end Go.Proofs.YtihfgaanaffinaaDoor
