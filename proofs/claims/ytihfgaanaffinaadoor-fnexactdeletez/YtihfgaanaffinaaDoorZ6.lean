/- the exact laws TreeFault, SameTrees and NewTree, walked, out of what the function and its specification answer. -/
import Derived.Test.YtihfgaanaffinaaDoorZ5
namespace Go.Proofs.YtihfgaanaffinaaDoor
open Go.RowKit

set_option maxHeartbeats 4000000 in
set_option maxRecDepth 100000 in
theorem lawTreeFault_of (v : Value) (zs : List Zn) (w : World) (c : Int) (hS : NSlice w v zs) (hz : ∀ z ∈ zs, z.path.size ≤ maxLen)
    (hSp : zs.length ≤ 1048576 → (∀ z ∈ zs, z.path.size ≤ 1048576) → ∀ (wx : World) (vx : Value), Ext w wx → NSlice wx vx zs → Calls Tryd.prog 42 #[vx] wx fun e w' => e = .returned (.int .i64 c) ∧ Ext wx w')
    (hIm : zs.length ≤ 1048576 → (∀ z ∈ zs, z.path.size ≤ 1048576) → ∀ (wx : World) (vx : Value), Ext w wx → NSlice wx vx zs → Calls Tryd.prog 32 #[vx] wx fun e w' => e = .returned (.int .i64 c) ∧ Ext wx w') :
    Calls Tryd.prog 12 #[v] w fun e w' => e = .returned (.bool true) ∧ Ext w w' := by
  have HA : Hid (NSlice w v zs) := hS
  have HSp : Hid (zs.length ≤ 1048576 → (∀ z ∈ zs, z.path.size ≤ 1048576) → ∀ (wx : World) (vx : Value), Ext w wx → NSlice wx vx zs → Calls Tryd.prog 42 #[vx] wx fun e w' => e = .returned (.int .i64 c) ∧ Ext wx w') := hSp
  have HIm : Hid (zs.length ≤ 1048576 → (∀ z ∈ zs, z.path.size ≤ 1048576) → ∀ (wx : World) (vx : Value), Ext w wx → NSlice wx vx zs → Calls Tryd.prog 32 #[vx] wx fun e w' => e = .returned (.int .i64 c) ∧ Ext wx w') := hIm
  have HSz : Hid (Calls Tryd.prog 41 #[v, .int .i64 1048576] w fun e w' => ∃ r : Int, e = .returned (.int .i64 r) ∧ (0 ≤ r → zs.length ≤ 1048576 ∧ ∀ z ∈ zs, z.path.size ≤ 1048576) ∧ Ext w w') := szZnodeS_any v zs 1048576 w (by omega) (by omega) hS hz
  clear hSp hIm hz hS
  go_enter Tryd.func12, Tryd.ntmps12
  go_wp2_with fail
  refine HSz.out.mono ?_
  rintro e w1 ⟨r, rfl, hr, hb⟩
  have E1 : Hid (Ext w w1) := hb
  clear HSz hb
  by_cases hr0 : r < 0
  · go_wp2
    go_ret
    exact ⟨rfl, E1.out⟩
  · obtain ⟨hl, hp⟩ := hr (by omega)
    have S1 : Hid (∀ (wx : World) (vx : Value), Ext w wx → NSlice wx vx zs → Calls Tryd.prog 42 #[vx] wx fun e w' => e = .returned (.int .i64 c) ∧ Ext wx w') := HSp.out hl hp
    have I1 : Hid (∀ (wx : World) (vx : Value), Ext w wx → NSlice wx vx zs → Calls Tryd.prog 32 #[vx] wx fun e w' => e = .returned (.int .i64 c) ∧ Ext wx w') := HIm.out hl hp
    clear HSp HIm hr hp
    go_wp2_with fail
    refine (toZnodeS_any _ zs _ (by exact HA.out.ext E1.out) hl).mono ?_
    rintro e w2 ⟨v2, rfl, hO, hb⟩
    have E2 : Hid (Ext w w2) := E1.out.trans hb
    have O2 : Hid (NSlice w2 v2 zs) := hO.slice
    clear hb hO
    go_wp2_with fail
    refine (S1.out _ _ E2.out O2.out).mono ?_
    rintro e w3 ⟨rfl, hb⟩
    have E3 : Hid (Ext w w3) := E2.out.trans hb
    clear hb O2 S1 E2
    go_wp2_with fail
    refine (toZnodeS_any _ zs _ (by exact HA.out.ext E3.out) hl).mono ?_
    rintro e w4 ⟨v4, rfl, hO, hb⟩
    have E4 : Hid (Ext w w4) := E3.out.trans hb
    have X4 : Hid (NSlice w4 v4 zs) := hO.slice
    clear hb hO
    go_wp2_with fail
    refine (I1.out _ _ E4.out X4.out).mono ?_
    rintro e w5 ⟨rfl, hb⟩
    have E5 : Hid (Ext w w5) := E4.out.trans hb
    have X5 : Hid (NSlice w5 v4 zs) := X4.out.ext hb
    clear hb
    go_wp2_with fail
    refine (toZnodeS_any _ zs _ (by exact HA.out.ext E5.out) hl).mono ?_
    rintro e w6 ⟨v6, rfl, hO, hb⟩
    have E6 : Hid (Ext w w6) := E5.out.trans hb
    have X6 : Hid (NSlice w6 v4 zs) := X5.out.ext hb
    have Y6 : Hid (NSlice w6 v6 zs) := hO.slice
    clear hb hO
    go_wp2_with fail
    refine (eqZnodeS_same _ _ zs _ X6.out Y6.out).mono ?_
    rintro e w7 ⟨rfl, hb⟩
    have E7 : Hid (Ext w w7) := E6.out.trans hb
    clear hb
    go_wp2
    go_ret
    exact ⟨rfl, E7.out⟩

end Go.Proofs.YtihfgaanaffinaaDoor
