/- laws.FnExactChangeOf answers true at every argument. -/
import Derived.Test.YtgofggmgnodplaaDoorK6
import Derived.Test.YtgofggmgnodplaaDoorLSumOf
namespace Go.Proofs.YtgofggmgnodplaaDoor
open Go.RowKit
set_option maxHeartbeats 4000000 in
set_option maxRecDepth 100000 in
theorem lawChangeOf (v : Value) (zs : List Zn) (v' : Value) (ys : List Zn) (s : ByteArray) (w : World) (hg : Gd w) (hS : NSlice w v zs) (hz : ∀ z ∈ zs, z.path.size ≤ maxLen) (hS' : NSlice w v' ys) (hy : ∀ z ∈ ys, z.path.size ≤ maxLen) :
    Calls Tryd.prog 4 #[v, v', .string s] w fun e w' => e = .returned (.bool true) ∧ Ext w w' := by
  have HA : Hid (NSlice w v zs) := hS
  have HA' : Hid (NSlice w v' ys) := hS'
  have HSz : Hid (Calls Tryd.prog 11 #[v, .int .i64 1048576] w fun e w' => ∃ r : Int, e = .returned (.int .i64 r) ∧ r ≤ 1048576 ∧ (0 ≤ r → zs.length ≤ 1048576 ∧ ∀ z ∈ zs, z.path.size ≤ 1048576) ∧ Ext w w') := szZnodeS_le v zs 1048576 w (by omega) (by omega) hS hz
  have HSz' : Hid (∀ (r : Int) (wx : World), 0 ≤ r → r ≤ 1048576 → Ext w wx → Calls Tryd.prog 11 #[v', .int .i64 r] wx fun e w' => ∃ r : Int, e = .returned (.int .i64 r) ∧ r ≤ 1048576 ∧ (0 ≤ r → ys.length ≤ 1048576 ∧ ∀ z ∈ ys, z.path.size ≤ 1048576) ∧ Ext wx w') := fun r wx h0 h1 h => szZnodeS_le v' ys r wx h0 h1 (hS'.ext h) hy
  have HT : Hid (zs.length ≤ 1048576 → ∀ wx : World, Ext w wx → Calls Tryd.prog 13 #[v] wx fun e w' => ∃ v', e = .returned v' ∧ Own w' v' wx.heap.size zs ∧ Ext wx w') := fun hl wx h => toZnodeS_any v zs wx (HA.out.ext h) hl
  have HT' : Hid (ys.length ≤ 1048576 → ∀ wx : World, Ext w wx → Calls Tryd.prog 13 #[v'] wx fun e w' => ∃ v', e = .returned v' ∧ Own w' v' wx.heap.size ys ∧ Ext wx w') := fun hl wx h => toZnodeS_any v' ys wx (HA'.out.ext h) hl
  have HSp : Hid (∀ (wx : World) (vx ux : Value), NSlice wx vx zs → NSlice wx ux ys → Calls Tryd.prog 12 #[vx, ux, .string s] wx fun e w' => e = .returned (ir (Wch.changeV zs ys s)) ∧ Ext wx w') := fun wx vx ux h h' => specChangeOf_any vx ux zs ys s wx h h'
  have HIm : Hid (∀ (wx : World) (vx ux : Value), Ext w wx → NSlice wx vx zs → NSlice wx ux ys → Calls Tryd.prog 14 #[vx, ux, .string s] wx fun e w' => e = .returned (ir (Wch.changeV zs ys s)) ∧ Ext wx w') := fun wx vx ux he h h' => implChangeOf_any vx ux zs ys s wx (hg.ext he) h h'
  have HE : Hid (∀ (wx : World) (vx ux : Value), NSlice wx vx zs → NSlice wx ux zs → Calls Tryd.prog 16 #[vx, ux] wx fun e w' => e = .returned (.bool true) ∧ Ext wx w') := fun wx vx ux h1 h2 => eqZnodeS_same vx ux zs wx h1 h2
  have HE' : Hid (∀ (wx : World) (vx ux : Value), NSlice wx vx ys → NSlice wx ux ys → Calls Tryd.prog 16 #[vx, ux] wx fun e w' => e = .returned (.bool true) ∧ Ext wx w') := fun wx vx ux h1 h2 => eqZnodeS_same vx ux ys wx h1 h2
  obtain ⟨a, cap, rfl, -⟩ := hS
  obtain ⟨a', cap', rfl, -⟩ := hS'
  clear hg hz hy
  generalize Wch.changeV zs ys s = r at *
  obtain ⟨c, n⟩ := r
  have HQ : Hid (∀ w : World, Calls Tryd.prog 15 #[ir (c, n), ir (c, n)] w fun e w' => e = .returned (.bool true) ∧ Ext w w') := eqIntR_same c n
  unfold ir at HSp HIm HQ
  by_cases hxs : 1048576 < s.size
  · go_enter Tryd.func4, Tryd.ntmps4
    go_wp2
    go_ret
    exact ⟨rfl, Ext.refl _⟩
  go_enter Tryd.func4, Tryd.ntmps4
  go_wp2_with fail
  refine HSz.out.mono ?_
  rintro e w1 ⟨sz, rfl, hsz1, hsz, hb⟩
  have HB1 : Hid (Ext w w1) := hb
  have HZ1 : Hid (0 ≤ sz → zs.length ≤ 1048576) := fun h => (hsz h).1
  clear hb hsz HSz
  by_cases h0 : sz < 0
  · go_wp2
    go_ret
    exact ⟨rfl, HB1.out⟩
  have HTa : Hid (∀ wx : World, Ext w wx → Calls Tryd.prog 13 #[.slice a zs.length cap] wx fun e w' => ∃ v', e = .returned v' ∧ Own w' v' wx.heap.size zs ∧ Ext wx w') := HT.out (HZ1.out (by omega))
  clear HT
  go_wp2_with fail
  refine (HSz'.out _ _ (by omega) (by omega) HB1.out).mono ?_
  rintro e w1a ⟨sz', rfl, hsz1', hsz', hb⟩
  have HB1a : Hid (Ext w w1a) := HB1.out.trans hb
  have HZ1' : Hid (0 ≤ sz' → ys.length ≤ 1048576) := fun h => (hsz' h).1
  clear hb hsz' HSz'
  by_cases h0' : sz' < 0
  · go_wp2
    go_ret
    exact ⟨rfl, HB1a.out⟩
  have HTb : Hid (∀ wx : World, Ext w wx → Calls Tryd.prog 13 #[.slice a' ys.length cap'] wx fun e w' => ∃ v', e = .returned v' ∧ Own w' v' wx.heap.size ys ∧ Ext wx w') := HT'.out (HZ1'.out (by omega))
  clear HT'
  go_wp2_with fail
  refine (HTa.out _ HB1a.out).mono ?_
  rintro e w2 ⟨v2, rfl, h2, hb⟩
  have H2 : Hid (NSlice w2 v2 zs) := h2.slice
  have HB2 : Hid (Ext w w2) := HB1a.out.trans hb
  clear h2 hb
  go_wp2_with fail
  refine (HTb.out _ HB2.out).mono ?_
  rintro e w2a ⟨v2a, rfl, h2, hb⟩
  have H2a : Hid (NSlice w2a v2a ys) := h2.slice
  have H2' : Hid (NSlice w2a v2 zs) := H2.out.ext hb
  have HB2a : Hid (Ext w w2a) := HB2.out.trans hb
  clear h2 hb
  go_wp2_with fail
  refine (HSp.out _ _ _ H2'.out H2a.out).mono ?_
  rintro e w3 ⟨rfl, hb⟩
  have HB3 : Hid (Ext w w3) := HB2a.out.trans hb
  clear hb
  go_wp2_with fail
  refine (HTa.out _ (HB3.out.alloc _)).mono ?_
  rintro e w4 ⟨v4, rfl, h4, hb⟩
  have H4 : Hid (NSlice w4 v4 zs) := h4.slice
  have HB4 : Hid (Ext w w4) := (HB3.out.alloc _).trans hb
  have HX4 : Hid (IBoxAt w4 w3.heap.size c n) := (ibox_new w3 c n _).ext hb
  clear h4 hb
  go_wp2_with fail
  refine (HTb.out _ HB4.out).mono ?_
  rintro e w4a ⟨v4a, rfl, h4, hb⟩
  have H4a : Hid (NSlice w4a v4a ys) := h4.slice
  have H4' : Hid (NSlice w4a v4 zs) := H4.out.ext hb
  have HB4a : Hid (Ext w w4a) := HB4.out.trans hb
  have HX4a : Hid (IBoxAt w4a w3.heap.size c n) := HX4.out.ext hb
  clear h4 hb
  go_wp2_with fail
  refine (HIm.out _ _ _ HB4a.out H4'.out H4a.out).mono ?_
  rintro e w5 ⟨rfl, hb⟩
  have H5 : Hid (NSlice w5 v4 zs ∧ NSlice w5 v4a ys) := ⟨H4'.out.ext hb, H4a.out.ext hb⟩
  have HB5 : Hid (Ext w w5) := HB4a.out.trans hb
  obtain ⟨q, q0, q1⟩ := HX4a.out.ext hb
  clear hb
  have hal := alloc_cell
  go_wp2_with fail
  refine (HQ.out _).mono ?_
  rintro e w6 ⟨rfl, hb⟩
  have H6 : Hid (NSlice w6 v4 zs ∧ NSlice w6 v4a ys) := ⟨(H5.out.1.ext ((Ext.refl _).alloc _)).ext hb, (H5.out.2.ext ((Ext.refl _).alloc _)).ext hb⟩
  have HB6 : Hid (Ext w w6) := (HB5.out.alloc _).trans hb
  clear hb hal q q0 q1
  go_wp2_with fail
  refine (HTa.out _ HB6.out).mono ?_
  rintro e w7 ⟨v7, rfl, h7, hb⟩
  have H7 : Hid (NSlice w7 v7 zs) := h7.slice
  have H7' : Hid (NSlice w7 v4 zs ∧ NSlice w7 v4a ys) := ⟨H6.out.1.ext hb, H6.out.2.ext hb⟩
  have HB7 : Hid (Ext w w7) := HB6.out.trans hb
  clear h7 hb
  go_wp2_with fail
  refine (HE.out _ _ _ H7'.out.1 H7.out).mono ?_
  rintro e w8 ⟨rfl, hb⟩
  have HB8 : Hid (Ext w w8) := HB7.out.trans hb
  have H8 : Hid (NSlice w8 v4a ys) := H7'.out.2.ext hb
  clear hb
  go_wp2_with fail
  refine (HTb.out _ HB8.out).mono ?_
  rintro e w9 ⟨v9, rfl, h9, hb⟩
  have H9 : Hid (NSlice w9 v9 ys) := h9.slice
  have H9' : Hid (NSlice w9 v4a ys) := H8.out.ext hb
  have HB9 : Hid (Ext w w9) := HB8.out.trans hb
  clear h9 hb
  go_wp2_with fail
  refine (HE'.out _ _ _ H9'.out H9.out).mono ?_
  rintro e w10 ⟨rfl, hb⟩
  have HB10 : Hid (Ext w w10) := HB9.out.trans hb
  clear hb
  go_wp2
  go_ret
  exact ⟨rfl, HB10.out⟩
end Go.Proofs.YtgofggmgnodplaaDoor
