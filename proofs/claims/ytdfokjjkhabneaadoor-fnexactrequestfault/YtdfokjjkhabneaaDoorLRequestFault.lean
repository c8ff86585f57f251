/- laws.FnExactRequestFault answers true at every request. -/
import Derived.Test.YtdfokjjkhabneaaDoorO8
import Derived.Deep.RegionHeld3
namespace Go.Proofs.YtdfokjjkhabneaaDoor
open Go.RowKit
set_option maxHeartbeats 4000000 in
set_option maxRecDepth 100000 in
theorem lawRequestFault (r : Rq) (v : Value) (w : World) (hg : Gd w) (hS : OSlice w v r.ops) (hz : ∀ z ∈ r.ops, z.path.size ≤ maxLen) :
    Calls Tryd.prog 5 #[ragg r v] w fun e w' => e = .returned (.bool true) ∧ Ext w w' := by
  have HA : Hid (OSlice w v r.ops) := hS
  have HSz : Hid (∀ wx : World, Ext w wx → Calls Tryd.prog 13 #[ragg r v, .int .i64 1048576] wx fun e w' => ∃ p : Int, e = .returned (.int .i64 p) ∧ -1 ≤ p ∧ p ≤ 1048576 ∧ (0 ≤ p → r.ops.length ≤ 1048576 ∧ ∀ z ∈ r.ops, z.path.size ≤ 1048576) ∧ Ext wx w') := fun wx he => szRequest_le r v 1048576 wx (by omega) (by omega) (hS.ext he) hz
  have HTA : Hid (r.ops.length ≤ 1048576 → ∀ wx : World, Ext w wx → Calls Tryd.prog 15 #[ragg r v] wx fun e w' => ∃ a, e = .returned (ragg r (.slice a r.ops.length r.ops.length)) ∧ OSlice w' (.slice a r.ops.length r.ops.length) r.ops ∧ Ext wx w') := fun hl wx he => toRequest_any r v wx (HA.out.ext he) hl
  have HSp : Hid (∀ (vx : Value) (wx : World), OSlice wx vx r.ops → Calls Tryd.prog 14 #[ragg r vx] wx fun e w' => e = .returned (.int .i64 (Opr.faultR r)) ∧ Ext wx w') := fun vx wx h1 => specRequestFault_any r vx wx h1
  have HIm : Hid (∀ (vx : Value) (wx : World), Ext w wx → OSlice wx vx r.ops → Calls Tryd.prog 16 #[ragg r vx] wx fun e w' => e = .returned (.int .i64 (Opr.faultR r)) ∧ Ext wx w') := fun vx wx he h1 => implRequestFault_any r vx wx (hg.ext he) h1
  have HEA : Hid (∀ (vx ux : Value) (wx : World), OSlice wx vx r.ops → OSlice wx ux r.ops → Calls Tryd.prog 17 #[ragg r vx, ragg r ux] wx fun e w' => e = .returned (.bool true) ∧ Ext wx w') := fun vx ux wx h1 h2 => eqRequest_same r vx ux wx h1 h2
  obtain ⟨a, cap, rfl, -, -, -⟩ := hS
  clear hz hg
  generalize Opr.faultR r = c at *
  have hcc : (c != c) = false := by simp
  unfold ragg at *
  go_enter Tryd.func5, Tryd.ntmps5
  go_wp2_with fail
  refine (HSz.out _ ((Ext.refl _).alloc _)).mono ?_
  rintro e w1 ⟨p, rfl, hp0, hp1, hp2, hb⟩
  have E1 : Hid (Ext w w1) := ((Ext.refl _).alloc _).trans hb
  have AN0 := (rbox_new w r (.slice a r.ops.length cap) _).ext hb
  have AN : Hid (RBoxAt w1 w.heap.size r (.slice a r.ops.length cap)) := by (try simp only [World.size_alloc] at AN0); exact AN0
  clear AN0
  clear hb 
  have AB := AN; clear AN
  have HP2 : Hid _ := hp2
  clear hp2
  by_cases hn : p < 0
  · go_wp2
    go_ret
    exact ⟨rfl, E1.out⟩
  obtain ⟨hl, -⟩ := HP2.out (by omega)
  have TA : Hid _ := HTA.out hl
  clear HTA HP2 hl
  obtain ⟨Alt, ⟨Ac0, Ac1, Ac2, Ac3⟩, -, -, -, -⟩ := AB.out
  go_wp2_with fail
  refine (TA.out _ E1.out).mono ?_
  rintro e w2 ⟨a3, rfl, hO, hb⟩
  have E2 : Hid (Ext w w2) := E1.out.trans hb
  have AN : Hid (RBoxAt w2 w.heap.size r (.slice a r.ops.length cap)) := AB.out.ext hb
  clear hb AB E1 Alt Ac0 Ac1 Ac2 Ac3
  have AB := AN; clear AN
  have PH : Hid (OSlice w2 (.slice a3 r.ops.length r.ops.length) r.ops) := hO
  clear hO
  go_wp2_with fail
  refine (HSp.out _ _ PH.out).mono ?_
  rintro e w3 ⟨rfl, hb⟩
  have E3 : Hid (Ext w w3) := E2.out.trans hb
  have AN : Hid (RBoxAt w3 w.heap.size r (.slice a r.ops.length cap)) := AB.out.ext hb
  have PN : Hid (OSlice w3 (.slice a3 r.ops.length r.ops.length) r.ops) := PH.out.ext hb
  clear hb AB PH E2
  have AB := AN; clear AN
  have PH := PN; clear PN
  clear PH
  obtain ⟨Alt, ⟨Ac0, Ac1, Ac2, Ac3⟩, -, -, -, -⟩ := AB.out
  go_wp2_with fail
  refine (TA.out _ E3.out).mono ?_
  rintro e w4 ⟨a6, rfl, hO, hb⟩
  have E4 : Hid (Ext w w4) := E3.out.trans hb
  have AN : Hid (RBoxAt w4 w.heap.size r (.slice a r.ops.length cap)) := AB.out.ext hb
  clear hb AB E3 Alt Ac0 Ac1 Ac2 Ac3
  have AB := AN; clear AN
  have PH : Hid (OSlice w4 (.slice a6 r.ops.length r.ops.length) r.ops) := hO
  clear hO
  have hal := alloc_cell
  go_wp2_with fail
  refine (HIm.out _ _ (E4.out.alloc _) (PH.out.ext ((Ext.refl _).alloc _))).mono ?_
  rintro e w5 ⟨rfl, hb⟩
  have E5 : Hid (Ext w w5) := (E4.out.alloc _).trans hb
  have AN : Hid (RBoxAt w5 w.heap.size r (.slice a r.ops.length cap)) := AB.out.ext (((Ext.refl _).alloc _).trans hb)
  have PN : Hid (OSlice w5 (.slice a6 r.ops.length r.ops.length) r.ops) := PH.out.ext (((Ext.refl _).alloc _).trans hb)
  have XN0 := (rbox_new w4 r (.slice a6 r.ops.length r.ops.length) _).ext hb
  have XN : Hid (RBoxAt w5 w4.heap.size r (.slice a6 r.ops.length r.ops.length)) := by (try simp only [World.size_alloc] at XN0); exact XN0
  clear XN0
  clear hb AB PH E4 hal
  have AB := AN; clear AN
  have XB := XN; clear XN
  have PH := PN; clear PN
  obtain ⟨Altw5, ⟨Ac0w5, Ac1w5, Ac2w5, Ac3w5⟩, -, -, -, -⟩ := AB.out
  obtain ⟨Xltw5, ⟨Xc0w5, Xc1w5, Xc2w5, Xc3w5⟩, -, -, -, -⟩ := XB.out
  go_wp2
  go_region_held3 (fun W => W.cell? ⟨w.heap.size, 0, none⟩ = some (.int .i64 r.client) ∧ W.cell? ⟨w.heap.size, 1, none⟩ = some (.int .i64 r.number) ∧ W.cell? ⟨w.heap.size, 2, none⟩ = some (.int .i64 r.time) ∧ W.cell? ⟨w.heap.size, 3, none⟩ = some ((.slice a r.ops.length cap)) ∧ W.cell? ⟨w4.heap.size, 0, none⟩ = some (.int .i64 r.client) ∧ W.cell? ⟨w4.heap.size, 1, none⟩ = some (.int .i64 r.number) ∧ W.cell? ⟨w4.heap.size, 2, none⟩ = some (.int .i64 r.time) ∧ W.cell? ⟨w4.heap.size, 3, none⟩ = some ((.slice a6 r.ops.length r.ops.length))) (first | exact ⟨Ac0w5, Ac1w5, Ac2w5, Ac3w5, Xc0w5, Xc1w5, Xc2w5, Xc3w5⟩ | exact ⟨Ac0w6, Ac1w6, Ac2w6, Ac3w6, Xc0w6, Xc1w6, Xc2w6, Xc3w6⟩ | exact ⟨Ac0w7, Ac1w7, Ac2w7, Ac3w7, Xc0w7, Xc1w7, Xc2w7, Xc3w7⟩ | go_keep) (first | (have tk6 := E5; clear tk6; go_at_call 15; refine (TA.out _ (by first | exact E5.out.drew | exact E5.out)).mono ?_; rintro e w6 ⟨a9, rfl, hO, hb⟩; have X6 : Hid (Ext w5 w6) := (by first | exact ((Ext.refl _).drew).trans hb | exact hb); have E6 : Hid (Ext w w6) := E5.out.trans X6.out; have AN : Hid (RBoxAt w6 w.heap.size r (.slice a r.ops.length cap)) := AB.out.ext X6.out; have XN : Hid (RBoxAt w6 w4.heap.size r (.slice a6 r.ops.length r.ops.length)) := XB.out.ext X6.out; have PN : Hid (OSlice w6 (.slice a6 r.ops.length r.ops.length) r.ops) := PH.out.ext X6.out; have ZN : Hid (OSlice w6 (.slice a9 r.ops.length r.ops.length) r.ops) := hO; clear hO; clear hb X6 E5 AB XB PH Altw5 Xltw5 Ac0w5 Ac1w5 Ac2w5 Ac3w5 Xc0w5 Xc1w5 Xc2w5 Xc3w5; have AB := AN; clear AN; have XB := XN; clear XN; have PH := PN; clear PN; have ZH := ZN; clear ZN; obtain ⟨Altw6, ⟨Ac0w6, Ac1w6, Ac2w6, Ac3w6⟩, -, -, -, -⟩ := AB.out; obtain ⟨Xltw6, ⟨Xc0w6, Xc1w6, Xc2w6, Xc3w6⟩, -, -, -, -⟩ := XB.out) | (have tk7 := E6; clear tk7; go_at_call 17; refine (HEA.out _ _ _ (PH.out.ext (by first | exact (Ext.refl _).drew | exact Ext.refl _)) (ZH.out.ext (by first | exact (Ext.refl _).drew | exact Ext.refl _))).mono ?_; rintro e w7 ⟨rfl, hb⟩; have X7 : Hid (Ext w6 w7) := (by first | exact ((Ext.refl _).drew).trans hb | exact hb); have E7 : Hid (Ext w w7) := E6.out.trans X7.out; have AN : Hid (RBoxAt w7 w.heap.size r (.slice a r.ops.length cap)) := AB.out.ext X7.out; have XN : Hid (RBoxAt w7 w4.heap.size r (.slice a6 r.ops.length r.ops.length)) := XB.out.ext X7.out; clear PH; clear ZH; clear hb X7 E6 AB XB Altw6 Xltw6 Ac0w6 Ac1w6 Ac2w6 Ac3w6 Xc0w6 Xc1w6 Xc2w6 Xc3w6; have AB := AN; clear AN; have XB := XN; clear XN; obtain ⟨Altw7, ⟨Ac0w7, Ac1w7, Ac2w7, Ac3w7⟩, -, -, -, -⟩ := AB.out; obtain ⟨Xltw7, ⟨Xc0w7, Xc1w7, Xc2w7, Xc3w7⟩, -, -, -, -⟩ := XB.out))
  go_wp2
  go_ret
  exact ⟨rfl, E7.out⟩
end Go.Proofs.YtdfokjjkhabneaaDoor
