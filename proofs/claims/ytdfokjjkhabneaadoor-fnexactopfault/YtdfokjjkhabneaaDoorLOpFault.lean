/- laws.FnExactOpFault answers true at every operation. -/
import Derived.Test.YtdfokjjkhabneaaDoorO6
namespace Go.Proofs.YtdfokjjkhabneaaDoor
open Go.RowKit
set_option maxHeartbeats 4000000 in
set_option maxRecDepth 100000 in
theorem lawOpFault (z : Opn) (w : World) (hg : Gd w) (hz : z.path.size ≤ maxLen) :
    Calls Tryd.prog 3 #[oagg z] w fun e w' => e = .returned (.bool true) ∧ Ext w w' := by
  have hS := fun wx => szOp_any z 1048576 wx (by omega) (by omega) hz
  have HT : Hid (∀ wx : World, Calls Tryd.prog 8 #[oagg z] wx fun e w' => e = .returned (oagg z) ∧ Ext wx w') := toOp_any z
  have HS : Hid (∀ wx : World, Calls Tryd.prog 7 #[oagg z] wx fun e w' => e = .returned (.int .i64 (Opr.fault z)) ∧ Ext wx w') := fun wx => specOpFault_any z wx
  have HI : Hid (∀ wx : World, Ext w wx → Calls Tryd.prog 9 #[oagg z] wx fun e w' => e = .returned (.int .i64 (Opr.fault z)) ∧ Ext wx w') := fun wx h => implOpFault_any z wx (hg.ext h)
  clear hg hz
  generalize Opr.fault z = c at *
  have hcc : (c != c) = false := by simp
  unfold oagg at *
  by_cases h : (1048576 : Int) < z.path.size
  · simp only [if_pos h] at hS
    go_enter Tryd.func3, Tryd.ntmps3
    go_wp2_with fail
    refine (hS _).mono ?_
    rintro e w1 ⟨rfl, hb⟩
    have HB1 : Hid (Ext w w1) := ((Ext.refl _).alloc _).trans hb
    clear hb hS
    go_wp2
    go_ret
    exact ⟨rfl, HB1.out⟩
  simp only [if_neg h] at hS
  have HSz : Hid _ := hS
  clear hS
  go_enter Tryd.func3, Tryd.ntmps3
  go_wp2_with fail
  refine (HSz.out _).mono ?_
  rintro e w1 ⟨rfl, hb⟩
  have E1 : Hid (Ext w w1) := ((Ext.refl _).alloc _).trans hb
  have AN0 := (obox_new w z _).ext hb
  have AN : Hid (OBoxAt w1 w.heap.size z) := by (try simp only [World.size_alloc] at AN0); exact AN0
  clear AN0
  clear hb 
  have AB := AN; clear AN
  obtain ⟨Alt, Ac0, Ac1, Ac2, Ac3, Ac4, Ac5⟩ := AB.out
  go_wp2_with fail
  refine (HT.out _).mono ?_
  rintro e w2 ⟨rfl, hb⟩
  have E2 : Hid (Ext w w2) := E1.out.trans hb
  have AN : Hid (OBoxAt w2 w.heap.size z) := AB.out.ext hb
  clear hb AB E1 Alt Ac0 Ac1 Ac2 Ac3 Ac4 Ac5
  have AB := AN; clear AN
  go_wp2_with fail
  refine (HS.out _).mono ?_
  rintro e w3 ⟨rfl, hb⟩
  have E3 : Hid (Ext w w3) := E2.out.trans hb
  have AN : Hid (OBoxAt w3 w.heap.size z) := AB.out.ext hb
  clear hb AB E2
  have AB := AN; clear AN
  obtain ⟨Alt, Ac0, Ac1, Ac2, Ac3, Ac4, Ac5⟩ := AB.out
  go_wp2_with fail
  refine (HT.out _).mono ?_
  rintro e w4 ⟨rfl, hb⟩
  have E4 : Hid (Ext w w4) := E3.out.trans hb
  have AN : Hid (OBoxAt w4 w.heap.size z) := AB.out.ext hb
  clear hb AB E3 Alt Ac0 Ac1 Ac2 Ac3 Ac4 Ac5
  have AB := AN; clear AN
  go_wp2_with fail
  refine (HI.out _ E4.out).mono ?_
  rintro e w5 ⟨rfl, hb⟩
  have E5 : Hid (Ext w w5) := E4.out.trans hb
  have AN : Hid (OBoxAt w5 w.heap.size z) := AB.out.ext hb
  clear hb AB E4
  have AB := AN; clear AN
  go_wp2
  go_ret
  exact ⟨rfl, E5.out⟩
end Go.Proofs.YtdfokjjkhabneaaDoor
