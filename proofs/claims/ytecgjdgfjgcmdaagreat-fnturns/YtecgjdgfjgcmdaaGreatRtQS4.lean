/- both NeedOfs, both PrimaryOfs; their laws. -/
import Derived.Test.YtecgjdgfjgcmdaaGreatRtG3
import Derived.Test.YtecgjdgfjgcmdaaGreatRtQS5
import Derived.Test.YtecgjdgfjgcmdaaGreatRtLSumOf
namespace Go.Proofs.YtecgjdgfjgcmdaaGreat
open Go.RowKit
def Msg.needV (f : Int) : Int × Int := if Msg.fOk f = false then (3, 0) else (0, 2 * f + 1)
def Msg.primary (f view : Int) : Int := 1 + view % (3 * f + 1)
def Msg.primV (f view : Int) : Int × Int := if Msg.fOk f = false then (3, 0) else if (decide (0 ≤ view) && decide (view ≤ 20)) = false then (3, 0) else (0, Msg.primary f view)
theorem Msg.fOk_in {f : Int} (h : Msg.fOk f = true) : 1 ≤ f ∧ f ≤ 2 := by unfold Msg.fOk at h; simpa using h

set_option maxHeartbeats 2000000 in
theorem implNeedOf_any (f : Int) (w : World) : Calls Tryz.prog 41 #[.int .i64 f] w fun e w' => e = .returned (ir (Msg.needV f)) ∧ Ext w w' := by
 have HF : Hid (∀ wx : World, Calls Tryz.prog 87 #[.int .i64 f] wx fun e w' => e = .returned (.bool (Msg.fOk f)) ∧ w' = wx) := fun wx => isBadCount_any f wx
 unfold Msg.needV
 cases hf : Msg.fOk f with
 | false =>
  rw [hf] at HF
  rw [if_pos rfl]
  clear hf
  go_enter Tryz.func41, Tryz.ntmps41
  go_wp2_with fail
  refine (HF.out _).mono ?_
  rintro e w9 ⟨rfl, hw⟩
  rw [hw]
  clear hw w9
  go_wp2
  exact bodyPost_ret (v := ir (3, 0)) (by simp [results, Tryz.results41, go_sem, ir]) rfl ⟨rfl, (Ext.refl _).alloc _⟩
 | true =>
  rw [hf] at HF
  rw [if_neg (by decide)]
  obtain ⟨hf0, hf1⟩ := Msg.fOk_in hf
  have HQ : Hid (∀ wx, Calls Tryz.prog 90 #[.int .i64 f] wx fun e w' => e = .returned (.int .i64 (2 * f + 1)) ∧ w' = wx) := fun wx => quorumOf_any f wx hf0 hf1
  clear hf
  go_enter Tryz.func41, Tryz.ntmps41
  go_wp2_with fail
  refine (HF.out _).mono ?_
  rintro e w9 ⟨rfl, hw⟩
  rw [hw]
  clear hw w9
  go_wp2_with fail
  refine (HQ.out _).mono ?_
  rintro e w9 ⟨rfl, hw⟩
  rw [hw]
  clear hw w9
  go_wp2
  exact bodyPost_ret (v := ir (0, 2 * f + 1)) (by simp [results, Tryz.results41, go_sem, ir]) rfl ⟨rfl, (Ext.refl _).alloc _⟩

set_option maxHeartbeats 2000000 in
theorem l9Primary_any (f view : Int) (w : World) (hf0 : 1 ≤ f) (hf1 : f ≤ 2) (hv0 : 0 ≤ view) (hv1 : view ≤ 20) : Calls Tryz.prog 65 #[.int .i64 f, .int .i64 view] w fun e w' => e = .returned (.int .i64 (Msg.primary f view)) ∧ w' = w := by
 have hh : f = 1 ∨ f = 2 := by omega
 unfold Msg.primary
 rcases hh with rfl | rfl
 all_goals
  clear hf0 hf1
  go_enter Tryz.func65, Tryz.ntmps65
  go_wp2
  go_ret
  exact ⟨ret_int (by omega), rfl⟩

set_option maxHeartbeats 4000000 in
theorem implPrimaryOf_any (f view : Int) (w : World) : Calls Tryz.prog 152 #[.int .i64 f, .int .i64 view] w fun e w' => e = .returned (ir (Msg.primV f view)) ∧ Ext w w' := by
 have HF : Hid (∀ wx : World, Calls Tryz.prog 87 #[.int .i64 f] wx fun e w' => e = .returned (.bool (Msg.fOk f)) ∧ w' = wx) := fun wx => isBadCount_any f wx
 have HV : Hid (∀ wx : World, Calls Tryz.prog 84 #[.int .i64 view, .int .i64 20] wx fun e w' => e = .returned (.bool (decide (0 ≤ view) && decide (view ≤ 20))) ∧ w' = wx) := fun wx => isUpToM_any view 20 wx
 unfold Msg.primV
 cases hf : Msg.fOk f with
 | false =>
  rw [hf] at HF
  rw [if_pos rfl]
  clear hf HV
  go_enter Tryz.func152, Tryz.ntmps152
  go_wp2_with fail
  refine (HF.out _).mono ?_
  rintro e w9 ⟨rfl, hw⟩
  rw [hw]
  clear hw w9
  go_wp2
  exact bodyPost_ret (v := ir (3, 0)) (by simp [results, Tryz.results152, go_sem, ir]) rfl ⟨rfl, (Ext.refl _).alloc _⟩
 | true =>
  rw [hf] at HF
  rw [if_neg (by decide)]
  obtain ⟨hf0, hf1⟩ := Msg.fOk_in hf
  clear hf
  cases hv : (decide (0 ≤ view) && decide (view ≤ 20)) with
  | false =>
   rw [hv] at HV
   rw [if_pos rfl]
   clear hv
   go_enter Tryz.func152, Tryz.ntmps152
   go_wp2_with fail
   refine (HF.out _).mono ?_
   rintro e w9 ⟨rfl, hw⟩
   rw [hw]
   clear hw w9
   go_wp2_with fail
   refine (HV.out _).mono ?_
   rintro e w9 ⟨rfl, hw⟩
   rw [hw]
   clear hw w9
   go_wp2
   exact bodyPost_ret (v := ir (3, 0)) (by simp [results, Tryz.results152, go_sem, ir]) rfl ⟨rfl, (Ext.refl _).alloc _⟩
  | true =>
   rw [hv] at HV
   rw [if_neg (by decide)]
   have hv0 : 0 ≤ view := by simp at hv; omega
   have hv1 : view ≤ 20 := by simp at hv; omega
   clear hv
   have HR : Hid (∀ wx, Calls Tryz.prog 134 #[.int .i64 f] wx fun e w' => e = .returned (.int .i64 (3 * f + 1)) ∧ w' = wx) := fun wx => replicasOf_any f wx hf0 hf1
   unfold Msg.primary
   have hh : f = 1 ∨ f = 2 := by omega
   rcases hh with rfl | rfl
   ·clear hf0 hf1
    go_enter Tryz.func152, Tryz.ntmps152
    go_wp2_with fail
    refine (HF.out _).mono ?_
    rintro e w9 ⟨rfl, hw⟩
    rw [hw]
    clear hw w9
    go_wp2_with fail
    refine (HV.out _).mono ?_
    rintro e w9 ⟨rfl, hw⟩
    rw [hw]
    clear hw w9
    go_wp2_with fail
    refine (HR.out _).mono ?_
    rintro e w9 ⟨rfl, hw⟩
    rw [hw]
    clear hw w9
    go_wp2
    exact bodyPost_ret (v := ir (0, 1 + view % (3 * 1 + 1))) (by simp [results, Tryz.results152, go_sem, ir]) rfl ⟨rfl, (Ext.refl _).alloc _⟩
   ·clear hf0 hf1
    go_enter Tryz.func152, Tryz.ntmps152
    go_wp2_with fail
    refine (HF.out _).mono ?_
    rintro e w9 ⟨rfl, hw⟩
    rw [hw]
    clear hw w9
    go_wp2_with fail
    refine (HV.out _).mono ?_
    rintro e w9 ⟨rfl, hw⟩
    rw [hw]
    clear hw w9
    go_wp2_with fail
    refine (HR.out _).mono ?_
    rintro e w9 ⟨rfl, hw⟩
    rw [hw]
    clear hw w9
    go_wp2
    exact bodyPost_ret (v := ir (0, 1 + view % (3 * 2 + 1))) (by simp [results, Tryz.results152, go_sem, ir]) rfl ⟨rfl, (Ext.refl _).alloc _⟩

end Go.Proofs.YtecgjdgfjgcmdaaGreat
