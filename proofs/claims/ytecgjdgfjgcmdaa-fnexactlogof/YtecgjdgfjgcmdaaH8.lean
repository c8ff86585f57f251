/- the program's small functions over messages. -/
import Derived.Test.YtecgjdgfjgcmdaaH7
import Derived.Test.YtecgjdgfjgcmdaaB1
namespace Go.Proofs.Ytecgjdgfjgcmdaa
open Go.RowKit
/-- The program's own form of a message. -/
def pagg (m : Ms) (v u : Value) : Value := .agg #[.int .i64 m.view, .int .i64 m.kind, .int .i64 m.from_, .int .i64 m.slot, .int .i64 m.value, v, u]
theorem isUpToM_any (n m : Int) (w : World) : Calls Try.prog 39 #[.int .i64 n, .int .i64 m] w fun e w' => e = .returned (.bool (decide (0 ≤ n) && decide (n ≤ m))) ∧ w' = w := by
  by_cases h0 : 0 ≤ n
  · by_cases h1 : n ≤ m
    · go_enter Try.func39, Try.ntmps39
      go_wp2
      go_ret
      exact ⟨by simp [h0, h1], rfl⟩
    · go_enter Try.func39, Try.ntmps39
      go_wp2
      go_ret
      exact ⟨by simp [h1], rfl⟩
  · go_enter Try.func39, Try.ntmps39
    go_wp2
    go_ret
    exact ⟨by rw [show decide (0 ≤ n) = false from by simpa using h0]; rfl, rfl⟩

set_option maxHeartbeats 1000000 in
theorem isBadCount_any (f : Int) (w : World) : Calls Try.prog 49 #[.int .i64 f] w fun e w' => e = .returned (.bool (Msg.fOk f)) ∧ w' = w := by
  have HB : Hid (∀ wx : World, Calls Try.prog 81 #[.int .i64 f, .int .i64 1, .int .i64 2] wx fun e w' => e = .returned (.bool (Msg.fOk f)) ∧ w' = wx) := fun wx => isWithin_any f 1 2 wx
  generalize (Msg.fOk f) = bb at *
  go_enter Try.func49, Try.ntmps49
  go_wp2_with fail
  refine (HB.out _).mono ?_
  rintro e w9 ⟨rfl, hw⟩
  rw [hw]
  clear hw w9
  go_wp2
  go_ret
  exact ⟨rfl, rfl⟩

set_option maxHeartbeats 1000000 in
theorem isSlot_any (s : Int) (w : World) : Calls Try.prog 47 #[.int .i64 s] w fun e w' => e = .returned (.bool (decide (1 ≤ s) && decide (s ≤ 30))) ∧ w' = w := by
  have HB : Hid (∀ wx : World, Calls Try.prog 81 #[.int .i64 s, .int .i64 1, .int .i64 30] wx fun e w' => e = .returned (.bool (decide (1 ≤ s) && decide (s ≤ 30))) ∧ w' = wx) := fun wx => isWithin_any s 1 30 wx
  generalize (decide (1 ≤ s) && decide (s ≤ 30)) = bb at *
  go_enter Try.func47, Try.ntmps47
  go_wp2_with fail
  refine (HB.out _).mono ?_
  rintro e w9 ⟨rfl, hw⟩
  rw [hw]
  clear hw w9
  go_wp2
  go_ret
  exact ⟨rfl, rfl⟩

set_option maxHeartbeats 1000000 in
theorem isValue_any (s : Int) (w : World) : Calls Try.prog 124 #[.int .i64 s] w fun e w' => e = .returned (.bool (decide (0 ≤ s) && decide (s ≤ 12))) ∧ w' = w := by
  have HB : Hid (∀ wx : World, Calls Try.prog 39 #[.int .i64 s, .int .i64 12] wx fun e w' => e = .returned (.bool (decide (0 ≤ s) && decide (s ≤ 12))) ∧ w' = wx) := fun wx => isUpToM_any s 12 wx
  generalize (decide (0 ≤ s) && decide (s ≤ 12)) = bb at *
  go_enter Try.func124, Try.ntmps124
  go_wp2_with fail
  refine (HB.out _).mono ?_
  rintro e w9 ⟨rfl, hw⟩
  rw [hw]
  clear hw w9
  go_wp2
  go_ret
  exact ⟨rfl, rfl⟩

set_option maxHeartbeats 1000000 in
theorem hasView_any (s : Int) (w : World) : Calls Try.prog 125 #[.agg #[.int .i64 s]] w fun e w' => e = .returned (.bool (decide (0 ≤ s) && decide (s ≤ 20))) ∧ Ext w w' := by
  have HB : Hid (∀ wx : World, Calls Try.prog 39 #[.int .i64 s, .int .i64 20] wx fun e w' => e = .returned (.bool (decide (0 ≤ s) && decide (s ≤ 20))) ∧ w' = wx) := fun wx => isUpToM_any s 20 wx
  generalize (decide (0 ≤ s) && decide (s ≤ 20)) = bb at *
  go_enter Try.func125, Try.ntmps125
  go_wp2_with fail
  refine (HB.out _).mono ?_
  rintro e w9 ⟨rfl, hw⟩
  rw [hw]
  clear hw w9
  go_wp2
  go_ret
  exact ⟨rfl, (Ext.refl _).alloc _⟩

set_option maxHeartbeats 1000000 in
theorem isOfSlot_any (m : Ms) (a a' : Option Addr) (n n' c c' : Nat) (w : World) : Calls Try.prog 123 #[pagg m (.slice a n c) (.slice a' n' c')] w fun e w' => e = .returned (.bool (decide (1 ≤ m.kind) && decide (m.kind ≤ 3))) ∧ Ext w w' := by
  have HB : Hid (∀ wx : World, Calls Try.prog 81 #[.int .i64 m.kind, .int .i64 1, .int .i64 3] wx fun e w' => e = .returned (.bool (decide (1 ≤ m.kind) && decide (m.kind ≤ 3))) ∧ w' = wx) := fun wx => isWithin_any m.kind 1 3 wx
  generalize (decide (1 ≤ m.kind) && decide (m.kind ≤ 3)) = bb at *
  unfold pagg
  go_enter Try.func123, Try.ntmps123
  go_wp2_with fail
  refine (HB.out _).mono ?_
  rintro e w9 ⟨rfl, hw⟩
  rw [hw]
  clear hw w9
  go_wp2
  go_ret
  exact ⟨rfl, (Ext.refl _).alloc _⟩

set_option maxHeartbeats 1000000 in
theorem replicasOf_any (f : Int) (w : World) (h0 : 1 ≤ f) (h1 : f ≤ 2) : Calls Try.prog 50 #[.int .i64 f] w fun e w' => e = .returned (.int .i64 (3 * f + 1)) ∧ w' = w := by
  have e1 : IntKind.i64.wrap (3 * f) = 3 * f := by rw [IntKind.wrap_i64]; omega
  have e2 : IntKind.i64.wrap (3 * f + 1) = 3 * f + 1 := by rw [IntKind.wrap_i64]; omega
  go_enter Try.func50, Try.ntmps50
  go_wp2
  go_ret
  exact ⟨rfl, rfl⟩
set_option maxHeartbeats 1000000 in
theorem isReplica_any (f id : Int) (w : World) (h0 : 1 ≤ f) (h1 : f ≤ 2) : Calls Try.prog 126 #[.int .i64 f, .int .i64 id] w fun e w' => e = .returned (.bool (decide (1 ≤ id) && decide (id ≤ 3 * f + 1))) ∧ w' = w := by
  have HB := isWithin_any id 1 (3 * f + 1) w
  generalize (decide (1 ≤ id) && decide (id ≤ 3 * f + 1)) = bb at *
  go_enter Try.func126, Try.ntmps126
  go_wp2_with fail
  refine (replicasOf_any f w h0 h1).mono ?_
  rintro e w9 ⟨rfl, hw⟩
  rw [hw]
  clear hw w9
  go_wp2_with fail
  refine HB.mono ?_
  rintro e w9 ⟨rfl, hw⟩
  rw [hw]
  clear hw w9
  go_wp2
  go_ret
  exact ⟨rfl, rfl⟩
set_option maxHeartbeats 1000000 in
theorem isBelow_any (x y : Int) (w : World) : Calls Try.prog 136 #[.agg #[.int .i64 x], .agg #[.int .i64 y]] w fun e w' => e = .returned (.bool (decide (x < y))) ∧ Ext w w' := by
  go_enter Try.func136, Try.ntmps136
  go_wp2
  go_ret
  exact ⟨rfl, ((Ext.refl _).alloc _).alloc _⟩
set_option maxHeartbeats 2000000 in
theorem messageOf_any (m : Ms) (a a' : Option Addr) (n n' c c' : Nat) (w : World) : Calls Try.prog 89 #[magg m (.slice a n c) (.slice a' n' c')] w fun e w' => e = .returned (pagg m (.slice a n c) (.slice a' n' c')) ∧ Ext w w' := by
  unfold magg
  go_enter Try.func89, Try.ntmps89
  go_wp2
  exact bodyPost_ret (v := pagg m (.slice a n c) (.slice a' n' c')) (by simp [results, Try.results89, go_sem, pagg]) rfl ⟨rfl, ((Ext.refl _).alloc _).alloc _⟩
set_option maxHeartbeats 2000000 in
theorem certificateOf_any (z : Ct) (w : World) : Calls Try.prog 134 #[ctagg z] w fun e w' => e = .returned (.agg #[.int .i64 z.view, .int .i64 z.slot, .int .i64 z.value]) ∧ Ext w w' := by
  unfold ctagg
  go_enter Try.func134, Try.ntmps134
  go_wp2
  exact bodyPost_ret (v := .agg #[.int .i64 z.view, .int .i64 z.slot, .int .i64 z.value]) (by simp [results, Try.results134, go_sem]) rfl ⟨rfl, ((Ext.refl _).alloc _).alloc _⟩
end Go.Proofs.Ytecgjdgfjgcmdaa
