/- laws.FnExactRequestText answers true at every request. -/
import Derived.Test.YtdfokjjkhabneaaGreatDoorU3
import Derived.Deep.RegionHeld3
namespace Go.Proofs.YtdfokjjkhabneaaGreatDoor
open Go.RowKit
set_option maxHeartbeats 4000000 in
set_option maxRecDepth 100000 in
theorem lawRequestText (r : Rq) (v : Value) (w : World) (hg : Gd w) (ht : Tb w) (hS : OSlice w v r.ops) (hz : ∀ z ∈ r.ops, z.path.size ≤ maxLen) :
    Calls Tryz.prog 5 #[ragg r v] w fun e w' => e = .returned (.bool true) ∧ Ext w w' := by
  have HA : Hid (OSlice w v r.ops) := hS
  have HSz : Hid (∀ wx : World, Ext w wx → Calls Tryz.prog 19 #[ragg r v, .int .i64 1048576] wx fun e w' => ∃ p : Int, e = .returned (.int .i64 p) ∧ -1 ≤ p ∧ p ≤ 1048576 ∧ (0 ≤ p → r.ops.length ≤ 1048576 ∧ ∀ z ∈ r.ops, z.path.size ≤ 1048576) ∧ Ext wx w') := fun wx he => szRequest_le r v 1048576 wx (by omega) (by omega) (hS.ext he) hz
  have HTA : Hid (r.ops.length ≤ 1048576 → ∀ wx : World, Ext w wx → Calls Tryz.prog 20 #[ragg r v] wx fun e w' => ∃ a, e = .returned (ragg r (.slice a r.ops.length r.ops.length)) ∧ OSlice w' (.slice a r.ops.length r.ops.length) r.ops ∧ Ext wx w') := fun hl wx he => toRequest_any r v wx (HA.out.ext he) hl
  have HSp : Hid (∀ (vx : Value) (wx : World), OSlice wx vx r.ops → Calls Tryz.prog 17 #[ragg r vx] wx fun e w' => e = .returned (tr (Opr.textRV r)) ∧ Ext wx w') := fun vx wx h1 => specRequestText_any r vx wx h1
  have HIm : Hid (∀ (vx : Value) (wx : World), Ext w wx → OSlice wx vx r.ops → Calls Tryz.prog 14 #[ragg r vx] wx fun e w' => e = .returned (tr (Opr.textRV r)) ∧ Ext wx w') := fun vx wx he h1 => implRequestText_any r vx wx (hg.ext he) (ht.ext he) h1
  have HEA : Hid (∀ (vx ux : Value) (wx : World), OSlice wx vx r.ops → OSlice wx ux r.ops → Calls Tryz.prog 22 #[ragg r vx, ragg r ux] wx fun e w' => e = .returned (.bool true) ∧ Ext wx w') := fun vx ux wx h1 h2 => eqRequest_same r vx ux wx h1 h2
  have HQ : Hid (∀ wx : World, Calls Tryz.prog 21 #[tr (Opr.textRV r), tr (Opr.textRV r)] wx fun e w' => e = .returned (.bool true) ∧ Ext wx w') := eqText_any (Opr.textRV r)
  obtain ⟨a, cap, rfl, -, -, -⟩ := hS
  clear hz hg ht
  generalize Opr.textRV r = x at *
  obtain ⟨c, l⟩ := x
  unfold tr at *
  unfold ragg at *
  simp only at *
  generalize mkB l = sx at *
  go_enter Tryz.func5, Tryz.ntmps5
  go_wp2_with fail
  refine (HSz.out _ ((Ext.refl _).alloc _)).mono ?_
  rintro e w1 ⟨p, rfl, hp0, hp1, hp2, hb⟩
  have E1 : Hid (Ext w w1) := ((Ext.refl _).alloc _).trans hb
  have AN0 := (rbox_new w r (.slice a r.ops.length cap) _).ext hb
  have AN : Hid (RBoxAt w1 w.heap.size r (.slice a r.ops.length cap)) := by (try simp only [World.size_alloc] at AN0); exact AN0
  clear AN0
  clear hb 
  have AB := AN; clear AN
  have HP2 : Hid _ := hp2
  clear hp2
  by_cases hn : p < 0
  · go_wp2
    go_ret
    exact ⟨rfl, E1.out⟩
  obtain ⟨hl, -⟩ := HP2.out (by omega)
  have TA : Hid _ := HTA.out hl
  clear HTA HP2 hl
  obtain ⟨Alt, ⟨Ac0, Ac1, Ac2, Ac3⟩, -, -, -, -⟩ := AB.out
  go_wp2_with fail
  refine (TA.out _ E1.out).mono ?_
  rintro e w2 ⟨a3, rfl, hO, hb⟩
  have E2 : Hid (Ext w w2) := E1.out.trans hb
  have AN : Hid (RBoxAt w2 w.heap.size r (.slice a r.ops.length cap)) := AB.out.ext hb
  clear hb AB E1 Alt Ac0 Ac1 Ac2 Ac3
  have AB := AN; clear AN
  have PH : Hid (OSlice w2 (.slice a3 r.ops.length r.ops.length) r.ops) := hO
  clear hO
  go_wp2_with fail
  refine (HSp.out _ _ PH.out).mono ?_
  rintro e w3 ⟨rfl, hb⟩
  have E3 : Hid (Ext w w3) := E2.out.trans hb
  have AN : Hid (RBoxAt w3 w.heap.size r (.slice a r.ops.length cap)) := AB.out.ext hb
  have PN : Hid (OSlice w3 (.slice a3 r.ops.length r.ops.length) r.ops) := PH.out.ext hb
  clear hb AB PH E2
  have AB := AN; clear AN
  have PH := PN; clear PN
  clear PH
  obtain ⟨Alt, ⟨Ac0, Ac1, Ac2, Ac3⟩, -, -, -, -⟩ := AB.out
  have hal := alloc_cell
  go_wp2_with fail
  refine (TA.out _ (E3.out.alloc _)).mono ?_
  rintro e w4 ⟨a6, rfl, hO, hb⟩
  have E4 : Hid (Ext w w4) := (E3.out.alloc _).trans hb
  have AN : Hid (RBoxAt w4 w.heap.size r (.slice a r.ops.length cap)) := AB.out.ext (((Ext.refl _).alloc _).trans hb)
  have VN0 := (tbox_new w3 c sx _).ext hb
  have VN : Hid (TBoxAt w4 w3.heap.size c sx) := by (try simp only [World.size_alloc] at VN0); exact VN0
  clear VN0
  clear hb AB E3 Alt Ac0 Ac1 Ac2 Ac3 hal
  have AB := AN; clear AN
  have VB := VN; clear VN
  have PH : Hid (OSlice w4 (.slice a6 r.ops.length r.ops.length) r.ops) := hO
  clear hO
  have hal := alloc_cell
  go_wp2_with fail
  refine (HIm.out _ _ (E4.out.alloc _) (PH.out.ext ((Ext.refl _).alloc _))).mono ?_
  rintro e w5 ⟨rfl, hb⟩
  have E5 : Hid (Ext w w5) := (E4.out.alloc _).trans hb
  have AN : Hid (RBoxAt w5 w.heap.size r (.slice a r.ops.length cap)) := AB.out.ext (((Ext.refl _).alloc _).trans hb)
  have VN : Hid (TBoxAt w5 w3.heap.size c sx) := VB.out.ext (((Ext.refl _).alloc _).trans hb)
  have PN : Hid (OSlice w5 (.slice a6 r.ops.length r.ops.length) r.ops) := PH.out.ext (((Ext.refl _).alloc _).trans hb)
  have XN0 := (rbox_new w4 r (.slice a6 r.ops.length r.ops.length) _).ext hb
  have XN : Hid (RBoxAt w5 w4.heap.size r (.slice a6 r.ops.length r.ops.length)) := by (try simp only [World.size_alloc] at XN0); exact XN0
  clear XN0
  clear hb AB VB PH E4 hal
  have AB := AN; clear AN
  have VB := VN; clear VN
  have XB := XN; clear XN
  have PH := PN; clear PN
  obtain ⟨Vlt, Vc0, Vc1, -, -⟩ := VB.out
  have hal := alloc_cell
  go_wp2_with fail
  refine (HQ.out _).mono ?_
  rintro e w6 ⟨rfl, hb⟩
  have E6 : Hid (Ext w w6) := (E5.out.alloc _).trans hb
  have AN : Hid (RBoxAt w6 w.heap.size r (.slice a r.ops.length cap)) := AB.out.ext (((Ext.refl _).alloc _).trans hb)
  have VN : Hid (TBoxAt w6 w3.heap.size c sx) := VB.out.ext (((Ext.refl _).alloc _).trans hb)
  have XN : Hid (RBoxAt w6 w4.heap.size r (.slice a6 r.ops.length r.ops.length)) := XB.out.ext (((Ext.refl _).alloc _).trans hb)
  have PN : Hid (OSlice w6 (.slice a6 r.ops.length r.ops.length) r.ops) := PH.out.ext (((Ext.refl _).alloc _).trans hb)
  have YN0 := (tbox_new w5 c sx _).ext hb
  have YN : Hid (TBoxAt w6 w5.heap.size c sx) := by (try simp only [World.size_alloc] at YN0); exact YN0
  clear YN0
  clear hb AB VB XB PH E5 Vlt Vc0 Vc1 hal
  have AB := AN; clear AN
  have VB := VN; clear VN
  have XB := XN; clear XN
  have YB := YN; clear YN
  have PH := PN; clear PN
  obtain ⟨Altw6, ⟨Ac0w6, Ac1w6, Ac2w6, Ac3w6⟩, -, -, -, -⟩ := AB.out
  obtain ⟨Xltw6, ⟨Xc0w6, Xc1w6, Xc2w6, Xc3w6⟩, -, -, -, -⟩ := XB.out
  go_wp2
  go_region_held3 (fun W => W.cell? ⟨w.heap.size, 0, none⟩ = some (.int .i64 r.client) ∧ W.cell? ⟨w.heap.size, 1, none⟩ = some (.int .i64 r.number) ∧ W.cell? ⟨w.heap.size, 2, none⟩ = some (.int .i64 r.time) ∧ W.cell? ⟨w.heap.size, 3, none⟩ = some ((.slice a r.ops.length cap)) ∧ W.cell? ⟨w4.heap.size, 0, none⟩ = some (.int .i64 r.client) ∧ W.cell? ⟨w4.heap.size, 1, none⟩ = some (.int .i64 r.number) ∧ W.cell? ⟨w4.heap.size, 2, none⟩ = some (.int .i64 r.time) ∧ W.cell? ⟨w4.heap.size, 3, none⟩ = some ((.slice a6 r.ops.length r.ops.length))) (first | exact ⟨Ac0w6, Ac1w6, Ac2w6, Ac3w6, Xc0w6, Xc1w6, Xc2w6, Xc3w6⟩ | exact ⟨Ac0w7, Ac1w7, Ac2w7, Ac3w7, Xc0w7, Xc1w7, Xc2w7, Xc3w7⟩ | exact ⟨Ac0w8, Ac1w8, Ac2w8, Ac3w8, Xc0w8, Xc1w8, Xc2w8, Xc3w8⟩ | go_keep) (first | (have tk7 := E6; clear tk7; go_at_call 20; refine (TA.out _ (by first | exact E6.out.drew | exact E6.out)).mono ?_; rintro e w7 ⟨a9, rfl, hO, hb⟩; have X7 : Hid (Ext w6 w7) := (by first | exact ((Ext.refl _).drew).trans hb | exact hb); have E7 : Hid (Ext w w7) := E6.out.trans X7.out; have AN : Hid (RBoxAt w7 w.heap.size r (.slice a r.ops.length cap)) := AB.out.ext X7.out; have VN : Hid (TBoxAt w7 w3.heap.size c sx) := VB.out.ext X7.out; have XN : Hid (RBoxAt w7 w4.heap.size r (.slice a6 r.ops.length r.ops.length)) := XB.out.ext X7.out; have YN : Hid (TBoxAt w7 w5.heap.size c sx) := YB.out.ext X7.out; have PN : Hid (OSlice w7 (.slice a6 r.ops.length r.ops.length) r.ops) := PH.out.ext X7.out; have ZN : Hid (OSlice w7 (.slice a9 r.ops.length r.ops.length) r.ops) := hO; clear hO; clear hb X7 E6 AB VB XB YB PH Altw6 Xltw6 Ac0w6 Ac1w6 Ac2w6 Ac3w6 Xc0w6 Xc1w6 Xc2w6 Xc3w6; have AB := AN; clear AN; have VB := VN; clear VN; have XB := XN; clear XN; have YB := YN; clear YN; have PH := PN; clear PN; have ZH := ZN; clear ZN; obtain ⟨Altw7, ⟨Ac0w7, Ac1w7, Ac2w7, Ac3w7⟩, -, -, -, -⟩ := AB.out; obtain ⟨Xltw7, ⟨Xc0w7, Xc1w7, Xc2w7, Xc3w7⟩, -, -, -, -⟩ := XB.out) | (have tk8 := E7; clear tk8; go_at_call 22; refine (HEA.out _ _ _ (PH.out.ext (by first | exact (Ext.refl _).drew | exact Ext.refl _)) (ZH.out.ext (by first | exact (Ext.refl _).drew | exact Ext.refl _))).mono ?_; rintro e w8 ⟨rfl, hb⟩; have X8 : Hid (Ext w7 w8) := (by first | exact ((Ext.refl _).drew).trans hb | exact hb); have E8 : Hid (Ext w w8) := E7.out.trans X8.out; have AN : Hid (RBoxAt w8 w.heap.size r (.slice a r.ops.length cap)) := AB.out.ext X8.out; have VN : Hid (TBoxAt w8 w3.heap.size c sx) := VB.out.ext X8.out; have XN : Hid (RBoxAt w8 w4.heap.size r (.slice a6 r.ops.length r.ops.length)) := XB.out.ext X8.out; have YN : Hid (TBoxAt w8 w5.heap.size c sx) := YB.out.ext X8.out; clear PH; clear ZH; clear hb X8 E7 AB VB XB YB Altw7 Xltw7 Ac0w7 Ac1w7 Ac2w7 Ac3w7 Xc0w7 Xc1w7 Xc2w7 Xc3w7; have AB := AN; clear AN; have VB := VN; clear VN; have XB := XN; clear XN; have YB := YN; clear YN; obtain ⟨Altw8, ⟨Ac0w8, Ac1w8, Ac2w8, Ac3w8⟩, -, -, -, -⟩ := AB.out; obtain ⟨Xltw8, ⟨Xc0w8, Xc1w8, Xc2w8, Xc3w8⟩, -, -, -, -⟩ := XB.out))
  go_wp2
  go_ret
  exact ⟨rfl, E8.out⟩
end Go.Proofs.YtdfokjjkhabneaaGreatDoor
