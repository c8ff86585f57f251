/- B1, H8, in one text. -/
import Derived.Test.YtecgjdgfjgcmdaaGreatRtA1
import Derived.Test.YtecgjdgfjgcmdaaGreatRtG5
namespace Go.Proofs.YtecgjdgfjgcmdaaGreat
open Go.RowKit
set_option maxHeartbeats 1000000 in
theorem isWithin_any (n l m : Int) (w : World) : Calls Tryz.prog 133 #[.int .i64 n, .int .i64 l, .int .i64 m] w fun e w' => e = .returned (.bool (decide (l ≤ n) && decide (n ≤ m))) ∧ w' = w := by
 by_cases h0 : l ≤ n
 ·by_cases h1 : n ≤ m
  ·go_enter Tryz.func133, Tryz.ntmps133
   go_wp2
   go_ret
   exact ⟨by simp [h0, h1], rfl⟩
  ·go_enter Tryz.func133, Tryz.ntmps133
   go_wp2
   go_ret
   exact ⟨by simp [h1], rfl⟩
 ·go_enter Tryz.func133, Tryz.ntmps133
  go_wp2
  go_ret
  exact ⟨by simp; omega, rfl⟩
end Go.Proofs.YtecgjdgfjgcmdaaGreat
namespace Go.Proofs.YtecgjdgfjgcmdaaGreat
open Go.RowKit
/-- The program's own form of a message. -/
def pagg (m : Ms) (v u : Value) : Value := .agg #[.int .i64 m.view, .int .i64 m.kind, .int .i64 m.from_, .int .i64 m.slot, .int .i64 m.value, v, u]
theorem isUpToM_any (n m : Int) (w : World) : Calls Tryz.prog 84 #[.int .i64 n, .int .i64 m] w fun e w' => e = .returned (.bool (decide (0 ≤ n) && decide (n ≤ m))) ∧ w' = w := by
 by_cases h0 : 0 ≤ n
 ·by_cases h1 : n ≤ m
  ·go_enter Tryz.func84, Tryz.ntmps84
   go_wp2
   go_ret
   exact ⟨by simp [h0, h1], rfl⟩
  ·go_enter Tryz.func84, Tryz.ntmps84
   go_wp2
   go_ret
   exact ⟨by simp [h1], rfl⟩
 ·go_enter Tryz.func84, Tryz.ntmps84
  go_wp2
  go_ret
  exact ⟨by rw [show decide (0 ≤ n) = false from by simpa using h0]; rfl, rfl⟩

set_option maxHeartbeats 1000000 in
theorem isBadCount_any (f : Int) (w : World) : Calls Tryz.prog 87 #[.int .i64 f] w fun e w' => e = .returned (.bool (Msg.fOk f)) ∧ w' = w := by
 have HB : Hid (∀ wx : World, Calls Tryz.prog 133 #[.int .i64 f, .int .i64 1, .int .i64 2] wx fun e w' => e = .returned (.bool (Msg.fOk f)) ∧ w' = wx) := fun wx => isWithin_any f 1 2 wx
 generalize (Msg.fOk f) = bb at *
 go_enter Tryz.func87, Tryz.ntmps87
 go_wp2_with fail
 refine (HB.out _).mono ?_
 rintro e w9 ⟨rfl, hw⟩
 rw [hw]
 clear hw w9
 go_wp2
 go_ret
 exact ⟨rfl, rfl⟩

set_option maxHeartbeats 1000000 in
theorem isSlot_any (s : Int) (w : World) : Calls Tryz.prog 107 #[.int .i64 s] w fun e w' => e = .returned (.bool (decide (1 ≤ s) && decide (s ≤ 30))) ∧ w' = w := by
 have HB : Hid (∀ wx : World, Calls Tryz.prog 133 #[.int .i64 s, .int .i64 1, .int .i64 30] wx fun e w' => e = .returned (.bool (decide (1 ≤ s) && decide (s ≤ 30))) ∧ w' = wx) := fun wx => isWithin_any s 1 30 wx
 generalize (decide (1 ≤ s) && decide (s ≤ 30)) = bb at *
 go_enter Tryz.func107, Tryz.ntmps107
 go_wp2_with fail
 refine (HB.out _).mono ?_
 rintro e w9 ⟨rfl, hw⟩
 rw [hw]
 clear hw w9
 go_wp2
 go_ret
 exact ⟨rfl, rfl⟩

set_option maxHeartbeats 1000000 in
theorem isValue_any (s : Int) (w : World) : Calls Tryz.prog 108 #[.int .i64 s] w fun e w' => e = .returned (.bool (decide (0 ≤ s) && decide (s ≤ 12))) ∧ w' = w := by
 have HB : Hid (∀ wx : World, Calls Tryz.prog 84 #[.int .i64 s, .int .i64 12] wx fun e w' => e = .returned (.bool (decide (0 ≤ s) && decide (s ≤ 12))) ∧ w' = wx) := fun wx => isUpToM_any s 12 wx
 generalize (decide (0 ≤ s) && decide (s ≤ 12)) = bb at *
 go_enter Tryz.func108, Tryz.ntmps108
 go_wp2_with fail
 refine (HB.out _).mono ?_
 rintro e w9 ⟨rfl, hw⟩
 rw [hw]
 clear hw w9
 go_wp2
 go_ret
 exact ⟨rfl, rfl⟩

set_option maxHeartbeats 1000000 in
theorem hasView_any (s : Int) (w : World) : Calls Tryz.prog 131 #[.agg #[.int .i64 s]] w fun e w' => e = .returned (.bool (decide (0 ≤ s) && decide (s ≤ 20))) ∧ Ext w w' := by
 have HB : Hid (∀ wx : World, Calls Tryz.prog 84 #[.int .i64 s, .int .i64 20] wx fun e w' => e = .returned (.bool (decide (0 ≤ s) && decide (s ≤ 20))) ∧ w' = wx) := fun wx => isUpToM_any s 20 wx
 generalize (decide (0 ≤ s) && decide (s ≤ 20)) = bb at *
 go_enter Tryz.func131, Tryz.ntmps131
 go_wp2_with fail
 refine (HB.out _).mono ?_
 rintro e w9 ⟨rfl, hw⟩
 rw [hw]
 clear hw w9
 go_wp2
 go_ret
 exact ⟨rfl, (Ext.refl _).alloc _⟩

set_option maxHeartbeats 1000000 in
theorem isOfSlot_any (m : Ms) (a a' : Option Addr) (n n' c c' : Nat) (w : World) : Calls Tryz.prog 166 #[pagg m (.slice a n c) (.slice a' n' c')] w fun e w' => e = .returned (.bool (decide (1 ≤ m.kind) && decide (m.kind ≤ 3))) ∧ Ext w w' := by
 have HB : Hid (∀ wx : World, Calls Tryz.prog 133 #[.int .i64 m.kind, .int .i64 1, .int .i64 3] wx fun e w' => e = .returned (.bool (decide (1 ≤ m.kind) && decide (m.kind ≤ 3))) ∧ w' = wx) := fun wx => isWithin_any m.kind 1 3 wx
 generalize (decide (1 ≤ m.kind) && decide (m.kind ≤ 3)) = bb at *
 unfold pagg
 go_enter Tryz.func166, Tryz.ntmps166
 go_wp2_with fail
 refine (HB.out _).mono ?_
 rintro e w9 ⟨rfl, hw⟩
 rw [hw]
 clear hw w9
 go_wp2
 go_ret
 exact ⟨rfl, (Ext.refl _).alloc _⟩

set_option maxHeartbeats 1000000 in
theorem replicasOf_any (f : Int) (w : World) (h0 : 1 ≤ f) (h1 : f ≤ 2) : Calls Tryz.prog 134 #[.int .i64 f] w fun e w' => e = .returned (.int .i64 (3 * f + 1)) ∧ w' = w := by
 have e1 : IntKind.i64.wrap (3 * f) = 3 * f := by rw [IntKind.wrap_i64]; omega
 have e2 : IntKind.i64.wrap (3 * f + 1) = 3 * f + 1 := by rw [IntKind.wrap_i64]; omega
 go_enter Tryz.func134, Tryz.ntmps134
 go_wp2
 go_ret
 exact ⟨rfl, rfl⟩
set_option maxHeartbeats 1000000 in
theorem isReplica_any (f id : Int) (w : World) (h0 : 1 ≤ f) (h1 : f ≤ 2) : Calls Tryz.prog 83 #[.int .i64 f, .int .i64 id] w fun e w' => e = .returned (.bool (decide (1 ≤ id) && decide (id ≤ 3 * f + 1))) ∧ w' = w := by
 have HB := isWithin_any id 1 (3 * f + 1) w
 generalize (decide (1 ≤ id) && decide (id ≤ 3 * f + 1)) = bb at *
 go_enter Tryz.func83, Tryz.ntmps83
 go_wp2_with fail
 refine (replicasOf_any f w h0 h1).mono ?_
 rintro e w9 ⟨rfl, hw⟩
 rw [hw]
 clear hw w9
 go_wp2_with fail
 refine HB.mono ?_
 rintro e w9 ⟨rfl, hw⟩
 rw [hw]
 clear hw w9
 go_wp2
 go_ret
 exact ⟨rfl, rfl⟩
set_option maxHeartbeats 1000000 in
theorem isBelow_any (x y : Int) (w : World) : Calls Tryz.prog 182 #[.agg #[.int .i64 x], .agg #[.int .i64 y]] w fun e w' => e = .returned (.bool (decide (x < y))) ∧ Ext w w' := by
 go_enter Tryz.func182, Tryz.ntmps182
 go_wp2
 go_ret
 exact ⟨rfl, ((Ext.refl _).alloc _).alloc _⟩
set_option maxHeartbeats 2000000 in
theorem messageOf_any (m : Ms) (a a' : Option Addr) (n n' c c' : Nat) (w : World) : Calls Tryz.prog 88 #[magg m (.slice a n c) (.slice a' n' c')] w fun e w' => e = .returned (pagg m (.slice a n c) (.slice a' n' c')) ∧ Ext w w' := by
 unfold magg
 go_enter Tryz.func88, Tryz.ntmps88
 go_wp2
 exact bodyPost_ret (v := pagg m (.slice a n c) (.slice a' n' c')) (by simp [results, Tryz.results88, go_sem, pagg]) rfl ⟨rfl, ((Ext.refl _).alloc _).alloc _⟩
set_option maxHeartbeats 2000000 in
theorem certificateOf_any (z : Ct) (w : World) : Calls Tryz.prog 77 #[ctagg z] w fun e w' => e = .returned (.agg #[.int .i64 z.view, .int .i64 z.slot, .int .i64 z.value]) ∧ Ext w w' := by
 unfold ctagg
 go_enter Tryz.func77, Tryz.ntmps77
 go_wp2
 exact bodyPost_ret (v := .agg #[.int .i64 z.view, .int .i64 z.slot, .int .i64 z.value]) (by simp [results, Tryz.results77, go_sem]) rfl ⟨rfl, ((Ext.refl _).alloc _).alloc _⟩
end Go.Proofs.YtecgjdgfjgcmdaaGreat
