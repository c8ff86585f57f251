/- laws.FnExactWatchesFault answers true at every slice of watches. -/
import Derived.Test.YtgofggmgnodplaaDoorK4
namespace Go.Proofs.YtgofggmgnodplaaDoor
open Go.RowKit
set_option maxHeartbeats 2000000 in
set_option maxRecDepth 100000 in
theorem lawWatchesFault (v : Value) (l : List Wt) (w : World) (hg : Gd w) (hS : WtSlice w v l) (hz : ∀ z ∈ l, z.path.size ≤ maxLen) :
    Calls Tryd.prog 3 #[v] w fun e w' => e = .returned (.bool true) ∧ Ext w w' := by
  have HA : Hid (WtSlice w v l) := hS
  have HSz : Hid (Calls Tryd.prog 6 #[v, .int .i64 1048576] w fun e w' => ∃ r : Int, e = .returned (.int .i64 r) ∧ -1 ≤ r ∧ r ≤ 1048576 ∧ (0 ≤ r → l.length ≤ 1048576 ∧ ∀ z ∈ l, z.path.size ≤ 1048576) ∧ Ext w w') := szWatchS_le v l 1048576 w (by omega) (by omega) hS hz
  have HT : Hid (l.length ≤ 1048576 → ∀ wx : World, Ext w wx → Calls Tryd.prog 8 #[v] wx fun e w' => ∃ v', e = .returned v' ∧ WtSlice w' v' l ∧ Ext wx w') := fun hl wx h => (toWatchS_at v l wx (HA.out.ext h) hl).mono fun _ _ ⟨he, hr, hN, hE⟩ => ⟨_, he, WtSlice.of hr.1 hN (Nat.le_refl _) (by unfold maxLen; omega), hE⟩
  have HSp : Hid (∀ (wx : World) (vx : Value), WtSlice wx vx l → Calls Tryd.prog 7 #[vx] wx fun e w' => e = .returned (.int .i64 (Wch.fault l)) ∧ Ext wx w') := fun wx vx h => specWatchesFault_any vx l wx h
  have HIm : Hid (∀ (wx : World) (vx : Value), Ext w wx → WtSlice wx vx l → Calls Tryd.prog 9 #[vx] wx fun e w' => e = .returned (.int .i64 (Wch.fault l)) ∧ Ext wx w') := fun wx vx he h => implWatchesFault_any vx l wx (hg.ext he) h
  have HE : Hid (∀ (wx : World) (vx ux : Value), WtSlice wx vx l → WtSlice wx ux l → Calls Tryd.prog 10 #[vx, ux] wx fun e w' => e = .returned (.bool true) ∧ Ext wx w') := fun wx vx ux h1 h2 => eqWatchS_same vx ux l wx h1 h2
  obtain ⟨a, cap, rfl, -⟩ := hS
  clear hg hz
  generalize Wch.fault l = R at *
  have uu : (R != R) = false := by simp
  go_enter Tryd.func3, Tryd.ntmps3
  go_wp2_with fail
  refine HSz.out.mono ?_
  rintro e w1 ⟨sz, rfl, -, -, hsz, hb⟩
  have HB1 : Hid (Ext w w1) := hb
  have HZ1 : Hid (0 ≤ sz → l.length ≤ 1048576) := fun h => (hsz h).1
  clear hb hsz
  by_cases h0 : sz < 0
  · go_wp2
    go_ret
    exact ⟨rfl, HB1.out⟩
  have HTa : Hid (∀ wx : World, Ext w wx → Calls Tryd.prog 8 #[.slice a l.length cap] wx fun e w' => ∃ v', e = .returned v' ∧ WtSlice w' v' l ∧ Ext wx w') := HT.out (HZ1.out (by omega))
  clear HT
  go_wp2_with fail
  refine (HTa.out _ HB1.out).mono ?_
  rintro e w2 ⟨v2, rfl, h2, hb⟩
  have H2 : Hid (WtSlice w2 v2 l) := h2
  have HB2 : Hid (Ext w w2) := HB1.out.trans hb
  clear h2 hb
  go_wp2_with fail
  refine (HSp.out _ _ H2.out).mono ?_
  rintro e w3 ⟨rfl, hb⟩
  have HB3 : Hid (Ext w w3) := HB2.out.trans hb
  clear hb
  go_wp2_with fail
  refine (HTa.out _ HB3.out).mono ?_
  rintro e w4 ⟨v4, rfl, h4, hb⟩
  have H4 : Hid (WtSlice w4 v4 l) := h4
  have HB4 : Hid (Ext w w4) := HB3.out.trans hb
  clear h4 hb
  go_wp2_with fail
  refine (HIm.out _ _ HB4.out H4.out).mono ?_
  rintro e w5 ⟨rfl, hb⟩
  have H5 : Hid (WtSlice w5 v4 l) := H4.out.ext hb
  have HB5 : Hid (Ext w w5) := HB4.out.trans hb
  clear hb
  go_wp2_with fail
  refine (HTa.out _ HB5.out).mono ?_
  rintro e w7 ⟨v7, rfl, h7, hb⟩
  have H7 : Hid (WtSlice w7 v7 l) := h7
  have H7' : Hid (WtSlice w7 v4 l) := H5.out.ext hb
  have HB7 : Hid (Ext w w7) := HB5.out.trans hb
  clear h7 hb
  go_wp2_with fail
  refine (HE.out _ _ _ H7'.out H7.out).mono ?_
  rintro e w8 ⟨rfl, hb⟩
  have HB8 : Hid (Ext w w8) := HB7.out.trans hb
  clear hb
  go_wp2
  go_ret
  exact ⟨rfl, HB8.out⟩
end Go.Proofs.YtgofggmgnodplaaDoor
