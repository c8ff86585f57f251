/- who is in a view; slots: the specification's. -/
import Derived.Test.YtecgjdgfjgcmdaaGreatRbRP5
import Derived.Test.YtecgjdgfjgcmdaaGreatRbRP6
namespace Go.Proofs.YtecgjdgfjgcmdaaGreat
open Go.RowKit
theorem box1 (W : World) (x : Value) (t : TypeId) (n : Nat) (h : W.heap.size = n) : (W.alloc (.cells #[x] t)).cell? ⟨n, 0, none⟩ = some x := by subst h; simp
set_option linter.unusedSimpArgs false in
set_option maxHeartbeats 2000000 in
theorem l11In_any (r : Rp) (b : Nat) (bb : Bool) (w : World) (hR : RpAt w b r) (hbb : Msg.inV r = bb) : Calls Tryz.prog 102 #[.pointer (some ⟨b, 0, none⟩)] w fun e w' => e = .returned (.bool bb) ∧ w' = w := by
  obtain ⟨hbl, x0, x1, x2, x3⟩ := hR
  unfold Msg.inV at hbb
  by_cases h0 : r.view = 0
  · have g1 : (r.view == 0) = true := by simpa using h0
    have HR : Hid (true = bb) := by show _ = _; rw [← hbb]; simp [h0]
    clear h0 hbb
    go_enter Tryz.func102, Tryz.ntmps102
    go_wp2
    go_ret
    exact ⟨ret_bool HR.out, rfl⟩
  · have g1 : (r.view == 0) = false := by simpa using h0
    have HR : Hid ((r.start != -1) = bb) := by
      show _ = _
      rw [← hbb, Bool.eq_iff_iff]
      simp [h0]
    clear h0 hbb
    go_enter Tryz.func102, Tryz.ntmps102
    go_wp2
    go_ret
    exact ⟨ret_bool HR.out, rfl⟩
set_option linter.unusedSimpArgs false in
set_option maxHeartbeats 2000000 in
theorem l11Slot_any (slot value : Int) (w : World) : Calls Tryz.prog 101 #[.int .i64 slot, .int .i64 value] w fun e w' => e = .returned (.bool (Msg.rangeB slot value)) ∧ w' = w := by
  have HG1 : Hid (∀ bb, decide (1 ≤ slot ∧ slot ≤ 30) = bb → ∀ wx, Calls Tryz.prog 57 #[.int .i64 slot, .int .i64 1, .int .i64 30] wx fun e w' => e = .returned (.bool bb) ∧ w' = wx) := fun bb h wx => l1In_isM slot 1 30 bb wx (by rw [← h, Bool.decide_and])
  have HG2 : Hid (∀ bb, decide (0 ≤ value ∧ value ≤ 12) = bb → ∀ wx, Calls Tryz.prog 57 #[.int .i64 value, .int .i64 0, .int .i64 12] wx fun e w' => e = .returned (.bool bb) ∧ w' = wx) := fun bb h wx => l1In_isM value 0 12 bb wx (by rw [← h, Bool.decide_and])
  unfold Msg.rangeB
  cases h1 : decide (1 ≤ slot ∧ slot ≤ 30) with
  | false =>
    have J1 : Hid _ := HG1.out false h1
    clear h1 HG1 HG2
    go_enter Tryz.func101, Tryz.ntmps101
    go_wp2_with fail
    refine (J1.out _).mono ?_
    rintro e w9 ⟨rfl, hw⟩
    rw [hw]
    go_wp2
    go_ret
    exact ⟨rfl, rfl⟩
  | true =>
    have J1 : Hid _ := HG1.out true h1
    have J2 : Hid _ := HG2.out _ rfl
    clear h1 HG1 HG2
    generalize decide (0 ≤ value ∧ value ≤ 12) = bb at *
    go_enter Tryz.func101, Tryz.ntmps101
    go_wp2_with fail
    refine (J1.out _).mono ?_
    rintro e w9 ⟨rfl, hw⟩
    rw [hw]
    clear hw w9
    go_wp2_with fail
    refine (J2.out _).mono ?_
    rintro e w9 ⟨rfl, hw⟩
    rw [hw]
    go_wp2
    go_ret
    exact ⟨by simp, rfl⟩
end Go.Proofs.YtecgjdgfjgcmdaaGreat
