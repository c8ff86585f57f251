/- impl.SeqName and the specification's: what they answer. -/
import Derived.Test.YtihfgaanaffinaaDoorW8
namespace Go.Proofs.YtihfgaanaffinaaDoor
open Go.RowKit

theorem seqV_name {l : List UInt8} {n : Int} (h : Pth.okName l = false) : Pth.seqV l n = (5, []) := by
  unfold Pth.seqV; rw [if_pos h]
theorem seqV_range {l : List UInt8} {n : Int} (h : Pth.okName l = true) (hr : n < 0 ∨ 99 < n) : Pth.seqV l n = (3, []) := by
  unfold Pth.seqV; rw [if_neg (by rw [h]; decide), if_pos hr]
theorem seqV_long {l j : List UInt8} {n : Int} (h : Pth.okName l = true) (hr : ¬ (n < 0 ∨ 99 < n)) (hj : Pth.seqd l n.toNat = j) (h2 : Pth.okName j = false) : Pth.seqV l n = (5, []) := by
  unfold Pth.seqV; rw [if_neg (by rw [h]; decide), if_neg hr, hj, if_pos h2]
theorem seqV_ok {l j : List UInt8} {n : Int} (h : Pth.okName l = true) (hr : ¬ (n < 0 ∨ 99 < n)) (hj : Pth.seqd l n.toNat = j) (h2 : Pth.okName j = true) : Pth.seqV l n = (0, j) := by
  unfold Pth.seqV; rw [if_neg (by rw [h]; decide), if_neg hr, hj, if_neg (by rw [h2]; decide)]
theorem l1In_is (v lo hi : Int) (b : Bool) (w : World) (h : (decide (lo ≤ v) && decide (v ≤ hi)) = b) :
    Calls Tryd.prog 88 #[.int .i64 v, .int .i64 lo, .int .i64 hi] w fun e w' => e = .returned (.bool b) ∧ w' = w := by
  rw [← h]; exact l1In_any v lo hi w
theorem okName_len {s : ByteArray} (h : Pth.okName s.data.toList = true) : s.size ≤ 8 := by
  unfold Pth.okName at h
  simp only [Bool.and_eq_true, decide_eq_true_eq, len_eq] at h
  exact h.2.2

set_option maxHeartbeats 2000000 in
theorem seqName_any (s : ByteArray) (n : Int) (w : World) (hs : s.size ≤ 1048576) :
    Calls Tryd.prog 40 #[.string s, .int .i64 n] w fun e w' => e = .returned (tr (Pth.seqV s.data.toList n)) ∧ Ext w w' := by
  cases hok : Pth.okName s.data.toList
  · rw [seqV_name hok]
    go_enter Tryd.func40, Tryd.ntmps40
    go_wp2_with fail
    refine (isName_any s _ hs).mono ?_
    rintro e w1 ⟨rfl, hb⟩
    rw [hok]
    have HB : Hid (Ext (w.alloc (.cells #[.int .i64 0, .string ByteArray.empty] 27)) w1) := hb
    clear hb hok
    obtain ⟨hc, hf⟩ := Ext.cell HB.out
    go_wp2
    exact bodyPost_ret (v := tr (5, [])) (by simp [results, Tryd.results40, go_sem, tr, hc, mkB]) rfl ⟨rfl, ((((Ext.refl w).alloc _).trans HB.out).setCell (Nat.le_refl _) _).setCell (Nat.le_refl _) _⟩
  · by_cases hr : n < 0 ∨ 99 < n
    · rw [seqV_range hok hr]
      rcases hr with hr | hr
      · go_enter Tryd.func40, Tryd.ntmps40
        go_wp2_with fail
        refine (isName_any s _ hs).mono ?_
        rintro e w1 ⟨rfl, hb⟩
        rw [hok]
        have HB : Hid (Ext (w.alloc (.cells #[.int .i64 0, .string ByteArray.empty] 27)) w1) := hb
        clear hb hok
        obtain ⟨hc, hf⟩ := Ext.cell HB.out
        go_wp2
        exact bodyPost_ret (v := tr (3, [])) (by simp [results, Tryd.results40, go_sem, tr, hc, mkB]) rfl ⟨rfl, ((((Ext.refl w).alloc _).trans HB.out).setCell (Nat.le_refl _) _).setCell (Nat.le_refl _) _⟩
      · go_enter Tryd.func40, Tryd.ntmps40
        go_wp2_with fail
        refine (isName_any s _ hs).mono ?_
        rintro e w1 ⟨rfl, hb⟩
        rw [hok]
        have HB : Hid (Ext (w.alloc (.cells #[.int .i64 0, .string ByteArray.empty] 27)) w1) := hb
        clear hb hok
        obtain ⟨hc, hf⟩ := Ext.cell HB.out
        go_wp2
        exact bodyPost_ret (v := tr (3, [])) (by simp [results, Tryd.results40, go_sem, tr, hc, mkB]) rfl ⟨rfl, ((((Ext.refl w).alloc _).trans HB.out).setCell (Nat.le_refl _) _).setCell (Nat.le_refl _) _⟩
    · have h0 : 0 ≤ n := by omega
      have h9 : n ≤ 99 := by omega
      obtain ⟨J, hJ⟩ : ∃ J, s ++ dig (n / 10) ++ dig (n % 10) = J := ⟨_, rfl⟩
      have hJl : Pth.seqd s.data.toList n.toNat = J.data.toList := by rw [← hJ]; exact (seq_list s n h0).symm
      have z1 := dig_size (n / 10)
      have z2 := dig_size (n % 10)
      have hJz : J.size = s.size + 1 + 1 := by rw [← hJ, ByteArray.size_append, ByteArray.size_append, z1, z2]
      have hs8 := okName_len hok
      have hJs : J.size ≤ 1048576 := by omega
      clear hJz
      cases hok2 : Pth.okName J.data.toList
      · rw [seqV_long hok hr hJl hok2]
        clear hJl hr
        go_enter Tryd.func40, Tryd.ntmps40
        go_wp2_with fail
        refine (isName_any s _ hs).mono ?_
        rintro e w1 ⟨rfl, hb⟩
        rw [hok]
        have HB : Hid (Ext (w.alloc (.cells #[.int .i64 0, .string ByteArray.empty] 27)) w1) := hb
        clear hb hok
        go_wp2_with fail
        refine (formatInt_digit (n / 10) _ (by omega) (by omega)).mono ?_
        rintro e w2 ⟨rfl, rfl⟩
        go_wp2_with fail
        refine (formatInt_digit (n % 10) _ (by omega) (by omega)).mono ?_
        rintro e w3 ⟨rfl, rfl⟩
        go_wp2_with fail
        refine (isName_any J _ hJs).mono ?_
        rintro e w4 ⟨rfl, hb⟩
        rw [hok2]
        have HB3 : Hid (Ext (w.alloc (.cells #[.int .i64 0, .string ByteArray.empty] 27)) w4) := HB.out.trans hb
        clear hb hok2
        obtain ⟨hc, hf⟩ := Ext.cell HB3.out
        go_wp2
        exact bodyPost_ret (v := tr (5, [])) (by simp [results, Tryd.results40, go_sem, tr, hc, mkB]) rfl ⟨rfl, ((((Ext.refl w).alloc _).trans HB3.out).setCell (Nat.le_refl _) _).setCell (Nat.le_refl _) _⟩
      · rw [seqV_ok hok hr hJl hok2]
        have HJM : Hid (J = mkB J.data.toList) := eq_mkB rfl
        clear hJl hr
        go_enter Tryd.func40, Tryd.ntmps40
        go_wp2_with fail
        refine (isName_any s _ hs).mono ?_
        rintro e w1 ⟨rfl, hb⟩
        rw [hok]
        have HB : Hid (Ext (w.alloc (.cells #[.int .i64 0, .string ByteArray.empty] 27)) w1) := hb
        clear hb hok
        go_wp2_with fail
        refine (formatInt_digit (n / 10) _ (by omega) (by omega)).mono ?_
        rintro e w2 ⟨rfl, rfl⟩
        go_wp2_with fail
        refine (formatInt_digit (n % 10) _ (by omega) (by omega)).mono ?_
        rintro e w3 ⟨rfl, rfl⟩
        go_wp2_with fail
        refine (isName_any J _ hJs).mono ?_
        rintro e w4 ⟨rfl, hb⟩
        rw [hok2]
        have HB3 : Hid (Ext (w.alloc (.cells #[.int .i64 0, .string ByteArray.empty] 27)) w4) := HB.out.trans hb
        clear hb hok2
        obtain ⟨hc, hf⟩ := Ext.cell HB3.out
        go_wp2
        exact bodyPost_ret (v := .agg #[.int .i64 0, .string J]) (by simp [results, Tryd.results40, go_sem, hc]) rfl ⟨(by unfold tr; rw [← HJM.out]), ((((Ext.refl w).alloc _).trans HB3.out).setCell (Nat.le_refl _) _).setCell (Nat.le_refl _) _⟩

set_option maxHeartbeats 2000000 in
theorem specSeqName_any (s : ByteArray) (n : Int) (w : World) (hs : s.size ≤ 1048576) :
    Calls Tryd.prog 39 #[.string s, .int .i64 n] w fun e w' => e = .returned (tr (Pth.seqV s.data.toList n)) ∧ Ext w w' := by
  have hsm : s.size ≤ maxLen := by unfold maxLen; omega
  cases hok : Pth.okName s.data.toList
  · rw [seqV_name hok]
    go_enter Tryd.func39, Tryd.ntmps39
    go_wp2_with fail
    refine (l1Name_any s _ hsm).mono ?_
    rintro e w1 ⟨rfl, rfl⟩
    rw [hok]
    have HB : Hid (Ext (w.alloc (.cells #[.int .i64 0, .string ByteArray.empty] 27)) (w.alloc (.cells #[.int .i64 0, .string ByteArray.empty] 27))) := Ext.refl _
    clear hok
    go_wp2
    exact bodyPost_ret (v := tr (5, [])) (by simp [results, Tryd.results39, go_sem, tr, mkB]) rfl ⟨rfl, (Ext.refl w).alloc _⟩
  · by_cases hr : n < 0 ∨ 99 < n
    · rw [seqV_range hok hr]
      rcases hr with hr | hr
      · go_enter Tryd.func39, Tryd.ntmps39
        go_wp2_with fail
        refine (l1Name_any s _ hsm).mono ?_
        rintro e w1 ⟨rfl, rfl⟩
        rw [hok]
        have HB : Hid (Ext (w.alloc (.cells #[.int .i64 0, .string ByteArray.empty] 27)) (w.alloc (.cells #[.int .i64 0, .string ByteArray.empty] 27))) := Ext.refl _
        clear hok
        go_wp2_with fail
        refine (l1In_is n 0 99 false _ (by simp; omega)).mono ?_
        rintro e w2 ⟨rfl, rfl⟩
        go_wp2
        exact bodyPost_ret (v := tr (3, [])) (by simp [results, Tryd.results39, go_sem, tr, mkB]) rfl ⟨rfl, (Ext.refl w).alloc _⟩
      · go_enter Tryd.func39, Tryd.ntmps39
        go_wp2_with fail
        refine (l1Name_any s _ hsm).mono ?_
        rintro e w1 ⟨rfl, rfl⟩
        rw [hok]
        have HB : Hid (Ext (w.alloc (.cells #[.int .i64 0, .string ByteArray.empty] 27)) (w.alloc (.cells #[.int .i64 0, .string ByteArray.empty] 27))) := Ext.refl _
        clear hok
        go_wp2_with fail
        refine (l1In_is n 0 99 false _ (by simp; omega)).mono ?_
        rintro e w2 ⟨rfl, rfl⟩
        go_wp2
        exact bodyPost_ret (v := tr (3, [])) (by simp [results, Tryd.results39, go_sem, tr, mkB]) rfl ⟨rfl, (Ext.refl w).alloc _⟩
    · have h0 : 0 ≤ n := by omega
      have h9 : n ≤ 99 := by omega
      obtain ⟨J, hJ⟩ : ∃ J, s ++ dig (n / 10) ++ dig (n % 10) = J := ⟨_, rfl⟩
      have hJl : Pth.seqd s.data.toList n.toNat = J.data.toList := by rw [← hJ]; exact (seq_list s n h0).symm
      have z1 := dig_size (n / 10)
      have z2 := dig_size (n % 10)
      have hJz : J.size = s.size + 1 + 1 := by rw [← hJ, ByteArray.size_append, ByteArray.size_append, z1, z2]
      have hs8 := okName_len hok
      have hJs : J.size ≤ 1048576 := by omega
      have hJm : J.size ≤ maxLen := by unfold maxLen; omega
      clear hJz
      cases hok2 : Pth.okName J.data.toList
      · rw [seqV_long hok hr hJl hok2]
        clear hJl hr
        go_enter Tryd.func39, Tryd.ntmps39
        go_wp2_with fail
        refine (l1Name_any s _ hsm).mono ?_
        rintro e w1 ⟨rfl, rfl⟩
        rw [hok]
        have HB : Hid (Ext (w.alloc (.cells #[.int .i64 0, .string ByteArray.empty] 27)) (w.alloc (.cells #[.int .i64 0, .string ByteArray.empty] 27))) := Ext.refl _
        clear hok
        go_wp2_with fail
        refine (l1In_is n 0 99 true _ (by simp; omega)).mono ?_
        rintro e w2 ⟨rfl, rfl⟩
        go_wp2_with fail
        refine (l1Seq_any s n _ hs h0 h9).mono ?_
        rintro e w2 ⟨rfl, hb⟩
        rw [hJ]
        have HB2 : Hid (Ext (w.alloc (.cells #[.int .i64 0, .string ByteArray.empty] 27)) w2) := hb
        clear hb
        go_wp2_with fail
        refine (l1Name_any J _ hJm).mono ?_
        rintro e w4 ⟨rfl, rfl⟩
        rw [hok2]
        have HB3 : Hid (Ext (w.alloc (.cells #[.int .i64 0, .string ByteArray.empty] 27)) w4) := HB2
        clear hok2
        obtain ⟨hc, hf⟩ := Ext.cell HB3.out
        go_wp2
        exact bodyPost_ret (v := tr (5, [])) (by simp [results, Tryd.results39, go_sem, tr, hc, mkB]) rfl ⟨rfl, ((((Ext.refl w).alloc _).trans HB3.out).setCell (Nat.le_refl _) _).setCell (Nat.le_refl _) _⟩
      · rw [seqV_ok hok hr hJl hok2]
        have HJM : Hid (J = mkB J.data.toList) := eq_mkB rfl
        clear hJl hr
        go_enter Tryd.func39, Tryd.ntmps39
        go_wp2_with fail
        refine (l1Name_any s _ hsm).mono ?_
        rintro e w1 ⟨rfl, rfl⟩
        rw [hok]
        have HB : Hid (Ext (w.alloc (.cells #[.int .i64 0, .string ByteArray.empty] 27)) (w.alloc (.cells #[.int .i64 0, .string ByteArray.empty] 27))) := Ext.refl _
        clear hok
        go_wp2_with fail
        refine (l1In_is n 0 99 true _ (by simp; omega)).mono ?_
        rintro e w2 ⟨rfl, rfl⟩
        go_wp2_with fail
        refine (l1Seq_any s n _ hs h0 h9).mono ?_
        rintro e w2 ⟨rfl, hb⟩
        rw [hJ]
        have HB2 : Hid (Ext (w.alloc (.cells #[.int .i64 0, .string ByteArray.empty] 27)) w2) := hb
        clear hb
        go_wp2_with fail
        refine (l1Name_any J _ hJm).mono ?_
        rintro e w4 ⟨rfl, rfl⟩
        rw [hok2]
        have HB3 : Hid (Ext (w.alloc (.cells #[.int .i64 0, .string ByteArray.empty] 27)) w4) := HB2
        clear hok2
        obtain ⟨hc, hf⟩ := Ext.cell HB3.out
        go_wp2
        exact bodyPost_ret (v := .agg #[.int .i64 0, .string J]) (by simp [results, Tryd.results39, go_sem, hc]) rfl ⟨(by unfold tr; rw [← HJM.out]), ((((Ext.refl w).alloc _).trans HB3.out).setCell (Nat.le_refl _) _).setCell (Nat.le_refl _) _⟩
end Go.Proofs.YtihfgaanaffinaaDoor
