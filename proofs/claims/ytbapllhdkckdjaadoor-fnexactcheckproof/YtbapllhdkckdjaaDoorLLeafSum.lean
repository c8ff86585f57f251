/- laws.FnExactLeafSum answers true at every node. -/
import Derived.Test.YtbapllhdkckdjaaDoorV5
import Derived.Test.YtbapllhdkckdjaaDoorLSumOf
namespace Go.Proofs.YtbapllhdkckdjaaDoor
open Go.RowKit
theorem ZAt.flat {w : World} {b : Nat} {z : Zn} (h : ZAt w b 0 z) : w.cell? ⟨b, 0, none⟩ = some (.string z.path) ∧ w.cell? ⟨b, 1, none⟩ = some (.int .i64 z.data) ∧ w.cell? ⟨b, 2, none⟩ = some (.int .i64 z.version) ∧ w.cell? ⟨b, 3, none⟩ = some (.int .i64 z.owner) ∧ w.cell? ⟨b, 4, none⟩ = some (.int .i64 z.next) := h.2
set_option maxHeartbeats 2000000 in
set_option maxRecDepth 100000 in
theorem lawLeafSum (z : Zn) (w : World) (hg : Gd w) (hz : z.path.size ≤ maxLen) :
    Calls Tryd.prog 4 #[zagg z] w fun e w' => e = .returned (.bool true) ∧ Ext w w' := by
  have hS := fun wx => szZnode_any z 1048576 wx (by omega) (by omega) hz
  have HT : Hid (∀ wx : World, Calls Tryd.prog 16 #[zagg z] wx fun e w' => e = .returned (zagg z) ∧ Ext wx w') := toZnode_any z
  have HS : Hid (∀ wx : World, Calls Tryd.prog 15 #[zagg z] wx fun e w' => e = .returned (ir (Sm.leafV z)) ∧ Ext wx w') := fun wx => specLeafSum_any z wx
  have HI : Hid (∀ wx : World, Ext w wx → Calls Tryd.prog 17 #[zagg z] wx fun e w' => e = .returned (ir (Sm.leafV z)) ∧ Ext wx w') := fun wx h => implLeafSum_any z wx (hg.ext h)
  clear hg hz
  generalize Sm.leafV z = r at *
  obtain ⟨c, n⟩ := r
  have HQ : Hid (∀ w : World, Calls Tryd.prog 18 #[ir (c, n), ir (c, n)] w fun e w' => e = .returned (.bool true) ∧ Ext w w') := eqIntR_same c n
  unfold ir at HS HI HQ
  unfold zagg at hS HT HS HI ⊢
  by_cases h : (1048576 : Int) < z.path.size
  · simp only [if_pos h] at hS
    go_enter Tryd.func4, Tryd.ntmps4
    go_wp2_with fail
    refine (hS _).mono ?_
    rintro e w1 ⟨rfl, hb⟩
    have HB1 : Hid (Ext w w1) := ((Ext.refl _).alloc _).trans hb
    clear hb hS
    go_wp2
    go_ret
    exact ⟨rfl, HB1.out⟩
  · simp only [if_neg h] at hS
    go_enter Tryd.func4, Tryd.ntmps4
    go_wp2_with fail
    refine (hS _).mono ?_
    rintro e w1 ⟨rfl, hb⟩
    have HB1 : Hid (Ext w w1) := ((Ext.refl _).alloc _).trans hb
    have HZ1 : Hid (ZAt w1 w.heap.size 0 z) := (ZAt.new w z _).ext hb
    clear hb hS
    obtain ⟨d0, d1, d2, d3, d4⟩ := HZ1.out.flat
    go_wp2_with fail
    refine (HT.out _).mono ?_
    rintro e w2 ⟨rfl, hb⟩
    have HB2 : Hid (Ext w w2) := HB1.out.trans hb
    have HZ2 : Hid (ZAt w2 w.heap.size 0 z) := HZ1.out.ext hb
    clear hb d0 d1 d2 d3 d4
    go_wp2_with fail
    refine (HS.out _).mono ?_
    rintro e w3 ⟨rfl, hb⟩
    have HB3 : Hid (Ext w w3) := HB2.out.trans hb
    have HZ3 : Hid (ZAt w3 w.heap.size 0 z) := HZ2.out.ext hb
    clear hb
    obtain ⟨d0, d1, d2, d3, d4⟩ := HZ3.out.flat
    have hz3 : w.heap.size < w3.heap.size := HZ3.out.1
    have hal := alloc_cell
    go_wp2_with fail
    refine (HT.out _).mono ?_
    rintro e w4 ⟨rfl, hb⟩
    have HB4 : Hid (Ext w w4) := (HB3.out.alloc _).trans hb
    have HX4 : Hid (IBoxAt w4 w3.heap.size c n) := (ibox_new w3 c n _).ext hb
    clear hb hal d0 d1 d2 d3 d4
    go_wp2_with fail
    refine (HI.out _ HB4.out).mono ?_
    rintro e w5 ⟨rfl, hb⟩
    have HB5 : Hid (Ext w w5) := HB4.out.trans hb
    obtain ⟨q, q0, q1⟩ := HX4.out.ext hb
    clear hb
    have hal := alloc_cell
    go_wp2_with fail
    refine (HQ.out _).mono ?_
    rintro e w6 ⟨rfl, hb⟩
    have HB6 : Hid (Ext w w6) := (HB5.out.alloc _).trans hb
    clear hb hal q q0 q1
    go_wp2
    go_ret
    exact ⟨rfl, HB6.out⟩
end Go.Proofs.YtbapllhdkckdjaaDoor
