/- laws.FnExactRootOf answers true at every slice of nodes. -/
import Derived.Test.YtbapllhdkckdjaaDoorV12
import Derived.Test.YtbapllhdkckdjaaDoorLSumOf
namespace Go.Proofs.YtbapllhdkckdjaaDoor
open Go.RowKit
set_option maxHeartbeats 4000000 in
set_option maxRecDepth 100000 in
theorem lawRootOf (v : Value) (zs : List Zn) (w : World) (hg : Gd w) (hS : NSlice w v zs) (hz : ∀ z ∈ zs, z.path.size ≤ maxLen) :
    Calls Tryd.prog 5 #[v] w fun e w' => e = .returned (.bool true) ∧ Ext w w' := by
  have HA : Hid (NSlice w v zs) := hS
  have HSz : Hid (Calls Tryd.prog 19 #[v, .int .i64 1048576] w fun e w' => ∃ r : Int, e = .returned (.int .i64 r) ∧ (0 ≤ r → zs.length ≤ 1048576 ∧ ∀ z ∈ zs, z.path.size ≤ 1048576) ∧ Ext w w') := szZnodeS_any v zs 1048576 w (by omega) (by omega) hS hz
  have HT : Hid (zs.length ≤ 1048576 → ∀ wx : World, Ext w wx → Calls Tryd.prog 21 #[v] wx fun e w' => ∃ v', e = .returned v' ∧ Own w' v' wx.heap.size zs ∧ Ext wx w') := fun hl wx h => toZnodeS_any v zs wx (HA.out.ext h) hl
  have HSp : Hid (∀ (wx : World) (vx : Value), NSlice wx vx zs → Calls Tryd.prog 20 #[vx] wx fun e w' => e = .returned (ir (Sm.rootV zs)) ∧ Ext wx w') := fun wx vx h => specRootOf_any vx zs wx h
  have HIm : Hid (∀ (wx : World) (vx : Value), Ext w wx → NSlice wx vx zs → Calls Tryd.prog 22 #[vx] wx fun e w' => e = .returned (ir (Sm.rootV zs)) ∧ Ext wx w') := fun wx vx he h => implRootOf_any vx zs wx (hg.ext he) h
  have HE : Hid (∀ (wx : World) (vx ux : Value), NSlice wx vx zs → NSlice wx ux zs → Calls Tryd.prog 23 #[vx, ux] wx fun e w' => e = .returned (.bool true) ∧ Ext wx w') := fun wx vx ux h1 h2 => eqZnodeS_same vx ux zs wx h1 h2
  obtain ⟨a, cap, rfl, -⟩ := hS
  clear hg hz
  generalize Sm.rootV zs = r at *
  obtain ⟨c, n⟩ := r
  have HQ : Hid (∀ w : World, Calls Tryd.prog 18 #[ir (c, n), ir (c, n)] w fun e w' => e = .returned (.bool true) ∧ Ext w w') := eqIntR_same c n
  unfold ir at HSp HIm HQ
  go_enter Tryd.func5, Tryd.ntmps5
  go_wp2_with fail
  refine HSz.out.mono ?_
  rintro e w1 ⟨sz, rfl, hsz, hb⟩
  have HB1 : Hid (Ext w w1) := hb
  have HZ1 : Hid (0 ≤ sz → zs.length ≤ 1048576) := fun h => (hsz h).1
  clear hb hsz
  by_cases h0 : sz < 0
  · go_wp2
    go_ret
    exact ⟨rfl, HB1.out⟩
  · have HT' : Hid (∀ wx : World, Ext w wx → Calls Tryd.prog 21 #[.slice a zs.length cap] wx fun e w' => ∃ v', e = .returned v' ∧ Own w' v' wx.heap.size zs ∧ Ext wx w') := HT.out (HZ1.out (by omega))
    clear HT
    go_wp2_with fail
    refine (HT'.out _ HB1.out).mono ?_
    rintro e w2 ⟨v2, rfl, h2, hb⟩
    have H2 : Hid (NSlice w2 v2 zs) := h2.slice
    have HB2 : Hid (Ext w w2) := HB1.out.trans hb
    clear h2 hb
    go_wp2_with fail
    refine (HSp.out _ _ H2.out).mono ?_
    rintro e w3 ⟨rfl, hb⟩
    have HB3 : Hid (Ext w w3) := HB2.out.trans hb
    clear hb
    go_wp2_with fail
    refine (HT'.out _ (HB3.out.alloc _)).mono ?_
    rintro e w4 ⟨v4, rfl, h4, hb⟩
    have H4 : Hid (NSlice w4 v4 zs) := h4.slice
    have HB4 : Hid (Ext w w4) := (HB3.out.alloc _).trans hb
    have HX4 : Hid (IBoxAt w4 w3.heap.size c n) := (ibox_new w3 c n _).ext hb
    clear h4 hb
    go_wp2_with fail
    refine (HIm.out _ _ HB4.out H4.out).mono ?_
    rintro e w5 ⟨rfl, hb⟩
    have H5 : Hid (NSlice w5 v4 zs) := H4.out.ext hb
    have HB5 : Hid (Ext w w5) := HB4.out.trans hb
    obtain ⟨q, q0, q1⟩ := HX4.out.ext hb
    clear hb
    have hal := alloc_cell
    go_wp2_with fail
    refine (HQ.out _).mono ?_
    rintro e w6 ⟨rfl, hb⟩
    have H6 : Hid (NSlice w6 v4 zs) := (H5.out.ext ((Ext.refl _).alloc _)).ext hb
    have HB6 : Hid (Ext w w6) := (HB5.out.alloc _).trans hb
    clear hb hal q q0 q1
    go_wp2_with fail
    refine (HT'.out _ HB6.out).mono ?_
    rintro e w7 ⟨v7, rfl, h7, hb⟩
    have H7 : Hid (NSlice w7 v7 zs) := h7.slice
    have H7' : Hid (NSlice w7 v4 zs) := H6.out.ext hb
    have HB7 : Hid (Ext w w7) := HB6.out.trans hb
    clear h7 hb
    go_wp2_with fail
    refine (HE.out _ _ _ H7'.out H7.out).mono ?_
    rintro e w8 ⟨rfl, hb⟩
    have HB8 : Hid (Ext w w8) := HB7.out.trans hb
    clear hb
    go_wp2
    go_ret
    exact ⟨rfl, HB8.out⟩
end Go.Proofs.YtbapllhdkckdjaaDoor
