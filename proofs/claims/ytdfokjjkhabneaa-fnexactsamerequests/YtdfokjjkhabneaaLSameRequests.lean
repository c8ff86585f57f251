/- laws.FnExactSameRequests answers true at every two requests. -/
import Derived.Test.YtdfokjjkhabneaaO2
import Derived.Deep.RegionHeld3
import Derived.Deep.RegionHeld3
namespace Go.Proofs.Ytdfokjjkhabneaa
open Go.RowKit
set_option maxHeartbeats 4000000 in
set_option maxRecDepth 100000 in
theorem lawSameRequests (r : Rq) (v : Value) (q : Rq) (u : Value) (w : World) (hS : OSlice w v r.ops) (hz : ∀ z ∈ r.ops, z.path.size ≤ maxLen) (hT : OSlice w u q.ops) (hy : ∀ z ∈ q.ops, z.path.size ≤ maxLen) :
    Calls Try.prog 3 #[ragg r v, ragg q u] w fun e w' => e = .returned (.bool true) ∧ Ext w w' := by
  have HA : Hid (OSlice w v r.ops) := hS
  have HB : Hid (OSlice w u q.ops) := hT
  have HSz : Hid (∀ wx : World, Ext w wx → Calls Try.prog 4 #[ragg r v, .int .i64 1048576] wx fun e w' => ∃ p : Int, e = .returned (.int .i64 p) ∧ -1 ≤ p ∧ p ≤ 1048576 ∧ (0 ≤ p → r.ops.length ≤ 1048576 ∧ ∀ z ∈ r.ops, z.path.size ≤ 1048576) ∧ Ext wx w') := fun wx he => szRequest_le r v 1048576 wx (by omega) (by omega) (hS.ext he) hz
  have HSy : Hid (∀ (p : Int) (wx : World), 0 ≤ p → p ≤ 1048576 → Ext w wx → Calls Try.prog 4 #[ragg q u, .int .i64 p] wx fun e w' => ∃ p : Int, e = .returned (.int .i64 p) ∧ -1 ≤ p ∧ p ≤ 1048576 ∧ (0 ≤ p → q.ops.length ≤ 1048576 ∧ ∀ z ∈ q.ops, z.path.size ≤ 1048576) ∧ Ext wx w') := fun p wx h0 h1 he => szRequest_le q u p wx h0 h1 (hT.ext he) hy
  have HTA : Hid (r.ops.length ≤ 1048576 → ∀ wx : World, Ext w wx → Calls Try.prog 6 #[ragg r v] wx fun e w' => ∃ a, e = .returned (ragg r (.slice a r.ops.length r.ops.length)) ∧ OSlice w' (.slice a r.ops.length r.ops.length) r.ops ∧ Ext wx w') := fun hl wx he => toRequest_any r v wx (HA.out.ext he) hl
  have HTB : Hid (q.ops.length ≤ 1048576 → ∀ wx : World, Ext w wx → Calls Try.prog 6 #[ragg q u] wx fun e w' => ∃ a, e = .returned (ragg q (.slice a q.ops.length q.ops.length)) ∧ OSlice w' (.slice a q.ops.length q.ops.length) q.ops ∧ Ext wx w') := fun hl wx he => toRequest_any q u wx (HB.out.ext he) hl
  have HSp : Hid (∀ (vx ux : Value) (wx : World), OSlice wx vx r.ops → OSlice wx ux q.ops → Calls Try.prog 5 #[ragg r vx, ragg q ux] wx fun e w' => e = .returned (.bool (Opr.sameR r q)) ∧ Ext wx w') := fun vx ux wx h1 h2 => specSameRequests_any r q vx ux wx h1 h2
  have HIm : Hid (∀ (vx ux : Value) (wx : World), OSlice wx vx r.ops → OSlice wx ux q.ops → Calls Try.prog 7 #[ragg r vx, ragg q ux] wx fun e w' => e = .returned (.bool (Opr.sameR r q)) ∧ Ext wx w') := fun vx ux wx h1 h2 => implSameRequests_any r q vx ux wx h1 h2
  have HEA : Hid (∀ (vx ux : Value) (wx : World), OSlice wx vx r.ops → OSlice wx ux r.ops → Calls Try.prog 8 #[ragg r vx, ragg r ux] wx fun e w' => e = .returned (.bool true) ∧ Ext wx w') := fun vx ux wx h1 h2 => eqRequest_same r vx ux wx h1 h2
  have HEB : Hid (∀ (vx ux : Value) (wx : World), OSlice wx vx q.ops → OSlice wx ux q.ops → Calls Try.prog 8 #[ragg q vx, ragg q ux] wx fun e w' => e = .returned (.bool true) ∧ Ext wx w') := fun vx ux wx h1 h2 => eqRequest_same q vx ux wx h1 h2
  obtain ⟨a, cap, rfl, -, -, -⟩ := hS
  obtain ⟨b, cbp, rfl, -, -, -⟩ := hT
  clear hz hy
  generalize Opr.sameR r q = c at *
  unfold ragg at *
  go_enter Try.func3, Try.ntmps3
  go_wp2_with fail
  refine (HSz.out _ (((Ext.refl _).alloc _).alloc _)).mono ?_
  rintro e w1 ⟨p, rfl, hp0, hp1, hp2, hb⟩
  have E1 : Hid (Ext w w1) := (((Ext.refl _).alloc _).alloc _).trans hb
  have AN0 := (rbox_new w r (.slice a r.ops.length cap) _).ext (((Ext.refl _).alloc _).trans hb)
  have AN : Hid (RBoxAt w1 w.heap.size r (.slice a r.ops.length cap)) := by (try simp only [World.size_alloc] at AN0); exact AN0
  clear AN0
  have BN0 := (rbox_new (w.alloc _) q (.slice b q.ops.length cbp) _).ext hb
  have BN : Hid (RBoxAt w1 (w.heap.size + 1) q (.slice b q.ops.length cbp)) := by (try simp only [World.size_alloc] at BN0); exact BN0
  clear BN0
  clear hb 
  have AB := AN; clear AN
  have BB := BN; clear BN
  have HP2 : Hid _ := hp2
  clear hp2
  by_cases hn : p < 0
  · go_wp2
    go_ret
    exact ⟨rfl, E1.out⟩
  obtain ⟨hl, -⟩ := HP2.out (by omega)
  have TA : Hid _ := HTA.out hl
  clear HTA HP2
  obtain ⟨Blt, ⟨Bc0, Bc1, Bc2, Bc3⟩, -, -, -, -⟩ := BB.out
  go_wp2_with fail
  refine (HSy.out _ _ (by omega) (by omega) E1.out).mono ?_
  rintro e w2 ⟨p2, rfl, hp20, hp21, hp22, hb⟩
  have E2 : Hid (Ext w w2) := E1.out.trans hb
  have AN : Hid (RBoxAt w2 w.heap.size r (.slice a r.ops.length cap)) := AB.out.ext hb
  have BN : Hid (RBoxAt w2 (w.heap.size + 1) q (.slice b q.ops.length cbp)) := BB.out.ext hb
  clear hb AB BB E1 Blt Bc0 Bc1 Bc2 Bc3
  have AB := AN; clear AN
  have BB := BN; clear BN
  have HP2 : Hid _ := hp22
  clear hp22
  by_cases hn2 : p2 < 0
  · go_wp2
    go_ret
    exact ⟨rfl, E2.out⟩
  obtain ⟨hl2, -⟩ := HP2.out (by omega)
  have TB : Hid _ := HTB.out hl2
  clear HTB HP2 hl hl2
  obtain ⟨Altw2, ⟨Ac0w2, Ac1w2, Ac2w2, Ac3w2⟩, -, -, -, -⟩ := AB.out
  obtain ⟨Bltw2, ⟨Bc0w2, Bc1w2, Bc2w2, Bc3w2⟩, -, -, -, -⟩ := BB.out
  go_wp2
  go_region_held3 (fun W => W.cell? ⟨w.heap.size, 0, none⟩ = some (.int .i64 r.client) ∧ W.cell? ⟨w.heap.size, 1, none⟩ = some (.int .i64 r.number) ∧ W.cell? ⟨w.heap.size, 2, none⟩ = some (.int .i64 r.time) ∧ W.cell? ⟨w.heap.size, 3, none⟩ = some ((.slice a r.ops.length cap)) ∧ W.cell? ⟨(w.heap.size + 1), 0, none⟩ = some (.int .i64 q.client) ∧ W.cell? ⟨(w.heap.size + 1), 1, none⟩ = some (.int .i64 q.number) ∧ W.cell? ⟨(w.heap.size + 1), 2, none⟩ = some (.int .i64 q.time) ∧ W.cell? ⟨(w.heap.size + 1), 3, none⟩ = some ((.slice b q.ops.length cbp))) (first | exact ⟨Ac0w2, Ac1w2, Ac2w2, Ac3w2, Bc0w2, Bc1w2, Bc2w2, Bc3w2⟩ | exact ⟨Ac0w3, Ac1w3, Ac2w3, Ac3w3, Bc0w3, Bc1w3, Bc2w3, Bc3w3⟩ | exact ⟨Ac0w4, Ac1w4, Ac2w4, Ac3w4, Bc0w4, Bc1w4, Bc2w4, Bc3w4⟩ | exact ⟨Ac0w5, Ac1w5, Ac2w5, Ac3w5, Bc0w5, Bc1w5, Bc2w5, Bc3w5⟩ | go_keep) (first | (have tk3 := E2; clear tk3; go_at_call 6; refine (TA.out _ (by first | exact E2.out.drew | exact E2.out)).mono ?_; rintro e w3 ⟨a3, rfl, hO, hb⟩; have X3 : Hid (Ext w2 w3) := (by first | exact ((Ext.refl _).drew).trans hb | exact hb); have E3 : Hid (Ext w w3) := E2.out.trans X3.out; have AN : Hid (RBoxAt w3 w.heap.size r (.slice a r.ops.length cap)) := AB.out.ext X3.out; have BN : Hid (RBoxAt w3 (w.heap.size + 1) q (.slice b q.ops.length cbp)) := BB.out.ext X3.out; have PN : Hid (OSlice w3 (.slice a3 r.ops.length r.ops.length) r.ops) := hO; clear hO; clear hb X3 E2 AB BB Altw2 Bltw2 Ac0w2 Ac1w2 Ac2w2 Ac3w2 Bc0w2 Bc1w2 Bc2w2 Bc3w2; have AB := AN; clear AN; have BB := BN; clear BN; have PH := PN; clear PN; obtain ⟨Altw3, ⟨Ac0w3, Ac1w3, Ac2w3, Ac3w3⟩, -, -, -, -⟩ := AB.out; obtain ⟨Bltw3, ⟨Bc0w3, Bc1w3, Bc2w3, Bc3w3⟩, -, -, -, -⟩ := BB.out) | (have tk4 := E3; clear tk4; go_at_call 6; refine (TB.out _ (by first | exact E3.out.drew | exact E3.out)).mono ?_; rintro e w4 ⟨a4, rfl, hO, hb⟩; have X4 : Hid (Ext w3 w4) := (by first | exact ((Ext.refl _).drew).trans hb | exact hb); have E4 : Hid (Ext w w4) := E3.out.trans X4.out; have AN : Hid (RBoxAt w4 w.heap.size r (.slice a r.ops.length cap)) := AB.out.ext X4.out; have BN : Hid (RBoxAt w4 (w.heap.size + 1) q (.slice b q.ops.length cbp)) := BB.out.ext X4.out; have PN : Hid (OSlice w4 (.slice a3 r.ops.length r.ops.length) r.ops) := PH.out.ext X4.out; have QN : Hid (OSlice w4 (.slice a4 q.ops.length q.ops.length) q.ops) := hO; clear hO; clear hb X4 E3 AB BB PH Altw3 Bltw3 Ac0w3 Ac1w3 Ac2w3 Ac3w3 Bc0w3 Bc1w3 Bc2w3 Bc3w3; have AB := AN; clear AN; have BB := BN; clear BN; have PH := PN; clear PN; have QH := QN; clear QN; obtain ⟨Altw4, ⟨Ac0w4, Ac1w4, Ac2w4, Ac3w4⟩, -, -, -, -⟩ := AB.out; obtain ⟨Bltw4, ⟨Bc0w4, Bc1w4, Bc2w4, Bc3w4⟩, -, -, -, -⟩ := BB.out) | (have tk5 := E4; clear tk5; go_at_call 5; refine (HSp.out _ _ _ (PH.out.ext (by first | exact (Ext.refl _).drew | exact Ext.refl _)) (QH.out.ext (by first | exact (Ext.refl _).drew | exact Ext.refl _))).mono ?_; rintro e w5 ⟨rfl, hb⟩; have X5 : Hid (Ext w4 w5) := (by first | exact ((Ext.refl _).drew).trans hb | exact hb); have E5 : Hid (Ext w w5) := E4.out.trans X5.out; have AN : Hid (RBoxAt w5 w.heap.size r (.slice a r.ops.length cap)) := AB.out.ext X5.out; have BN : Hid (RBoxAt w5 (w.heap.size + 1) q (.slice b q.ops.length cbp)) := BB.out.ext X5.out; clear PH; clear QH; clear hb X5 E4 AB BB Altw4 Bltw4 Ac0w4 Ac1w4 Ac2w4 Ac3w4 Bc0w4 Bc1w4 Bc2w4 Bc3w4; have AB := AN; clear AN; have BB := BN; clear BN; obtain ⟨Altw5, ⟨Ac0w5, Ac1w5, Ac2w5, Ac3w5⟩, -, -, -, -⟩ := AB.out; obtain ⟨Bltw5, ⟨Bc0w5, Bc1w5, Bc2w5, Bc3w5⟩, -, -, -, -⟩ := BB.out))
  obtain ⟨Alt, ⟨Ac0, Ac1, Ac2, Ac3⟩, -, -, -, -⟩ := AB.out
  go_wp2_with fail
  refine (TA.out _ E5.out).mono ?_
  rintro e w6 ⟨a6, rfl, hO, hb⟩
  have E6 : Hid (Ext w w6) := E5.out.trans hb
  have AN : Hid (RBoxAt w6 w.heap.size r (.slice a r.ops.length cap)) := AB.out.ext hb
  have BN : Hid (RBoxAt w6 (w.heap.size + 1) q (.slice b q.ops.length cbp)) := BB.out.ext hb
  clear hb AB BB E5 Alt Ac0 Ac1 Ac2 Ac3
  have AB := AN; clear AN
  have BB := BN; clear BN
  have PH : Hid (OSlice w6 (.slice a6 r.ops.length r.ops.length) r.ops) := hO
  clear hO
  obtain ⟨Blt, ⟨Bc0, Bc1, Bc2, Bc3⟩, -, -, -, -⟩ := BB.out
  have hal := alloc_cell
  go_wp2_with fail
  refine (TB.out _ (E6.out.alloc _)).mono ?_
  rintro e w7 ⟨a7, rfl, hO, hb⟩
  have E7 : Hid (Ext w w7) := (E6.out.alloc _).trans hb
  have AN : Hid (RBoxAt w7 w.heap.size r (.slice a r.ops.length cap)) := AB.out.ext (((Ext.refl _).alloc _).trans hb)
  have BN : Hid (RBoxAt w7 (w.heap.size + 1) q (.slice b q.ops.length cbp)) := BB.out.ext (((Ext.refl _).alloc _).trans hb)
  have PN : Hid (OSlice w7 (.slice a6 r.ops.length r.ops.length) r.ops) := PH.out.ext (((Ext.refl _).alloc _).trans hb)
  have XN0 := (rbox_new w6 r (.slice a6 r.ops.length r.ops.length) _).ext hb
  have XN : Hid (RBoxAt w7 w6.heap.size r (.slice a6 r.ops.length r.ops.length)) := by (try simp only [World.size_alloc] at XN0); exact XN0
  clear XN0
  clear hb AB BB PH E6 Blt Bc0 Bc1 Bc2 Bc3 hal
  have AB := AN; clear AN
  have BB := BN; clear BN
  have XB := XN; clear XN
  have PH := PN; clear PN
  have QH : Hid (OSlice w7 (.slice a7 q.ops.length q.ops.length) q.ops) := hO
  clear hO
  obtain ⟨Xlt, ⟨Xc0, Xc1, Xc2, Xc3⟩, -, -, -, -⟩ := XB.out
  have hal := alloc_cell
  go_wp2_with fail
  refine (HIm.out _ _ _ (PH.out.ext ((Ext.refl _).alloc _)) (QH.out.ext ((Ext.refl _).alloc _))).mono ?_
  rintro e w8 ⟨rfl, hb⟩
  have E8 : Hid (Ext w w8) := (E7.out.alloc _).trans hb
  have AN : Hid (RBoxAt w8 w.heap.size r (.slice a r.ops.length cap)) := AB.out.ext (((Ext.refl _).alloc _).trans hb)
  have BN : Hid (RBoxAt w8 (w.heap.size + 1) q (.slice b q.ops.length cbp)) := BB.out.ext (((Ext.refl _).alloc _).trans hb)
  have XN : Hid (RBoxAt w8 w6.heap.size r (.slice a6 r.ops.length r.ops.length)) := XB.out.ext (((Ext.refl _).alloc _).trans hb)
  have PN : Hid (OSlice w8 (.slice a6 r.ops.length r.ops.length) r.ops) := PH.out.ext (((Ext.refl _).alloc _).trans hb)
  have QN : Hid (OSlice w8 (.slice a7 q.ops.length q.ops.length) q.ops) := QH.out.ext (((Ext.refl _).alloc _).trans hb)
  have YN0 := (rbox_new w7 q (.slice a7 q.ops.length q.ops.length) _).ext hb
  have YN : Hid (RBoxAt w8 w7.heap.size q (.slice a7 q.ops.length q.ops.length)) := by (try simp only [World.size_alloc] at YN0); exact YN0
  clear YN0
  clear hb AB BB XB PH QH E7 Xlt Xc0 Xc1 Xc2 Xc3 hal
  have AB := AN; clear AN
  have BB := BN; clear BN
  have XB := XN; clear XN
  have YB := YN; clear YN
  have PH := PN; clear PN
  have QH := QN; clear QN
  have hcc : (c != c) = false := by cases c <;> rfl
  obtain ⟨Altw8, ⟨Ac0w8, Ac1w8, Ac2w8, Ac3w8⟩, -, -, -, -⟩ := AB.out
  obtain ⟨Xltw8, ⟨Xc0w8, Xc1w8, Xc2w8, Xc3w8⟩, -, -, -, -⟩ := XB.out
  go_wp2
  go_region_held3 (fun W => W.cell? ⟨w.heap.size, 0, none⟩ = some (.int .i64 r.client) ∧ W.cell? ⟨w.heap.size, 1, none⟩ = some (.int .i64 r.number) ∧ W.cell? ⟨w.heap.size, 2, none⟩ = some (.int .i64 r.time) ∧ W.cell? ⟨w.heap.size, 3, none⟩ = some ((.slice a r.ops.length cap)) ∧ W.cell? ⟨w6.heap.size, 0, none⟩ = some (.int .i64 r.client) ∧ W.cell? ⟨w6.heap.size, 1, none⟩ = some (.int .i64 r.number) ∧ W.cell? ⟨w6.heap.size, 2, none⟩ = some (.int .i64 r.time) ∧ W.cell? ⟨w6.heap.size, 3, none⟩ = some ((.slice a6 r.ops.length r.ops.length))) (first | exact ⟨Ac0w8, Ac1w8, Ac2w8, Ac3w8, Xc0w8, Xc1w8, Xc2w8, Xc3w8⟩ | exact ⟨Ac0w9, Ac1w9, Ac2w9, Ac3w9, Xc0w9, Xc1w9, Xc2w9, Xc3w9⟩ | exact ⟨Ac0w10, Ac1w10, Ac2w10, Ac3w10, Xc0w10, Xc1w10, Xc2w10, Xc3w10⟩ | go_keep) (first | (have tk9 := E8; clear tk9; go_at_call 6; refine (TA.out _ (by first | exact E8.out.drew | exact E8.out)).mono ?_; rintro e w9 ⟨a9, rfl, hO, hb⟩; have X9 : Hid (Ext w8 w9) := (by first | exact ((Ext.refl _).drew).trans hb | exact hb); have E9 : Hid (Ext w w9) := E8.out.trans X9.out; have AN : Hid (RBoxAt w9 w.heap.size r (.slice a r.ops.length cap)) := AB.out.ext X9.out; have BN : Hid (RBoxAt w9 (w.heap.size + 1) q (.slice b q.ops.length cbp)) := BB.out.ext X9.out; have XN : Hid (RBoxAt w9 w6.heap.size r (.slice a6 r.ops.length r.ops.length)) := XB.out.ext X9.out; have YN : Hid (RBoxAt w9 w7.heap.size q (.slice a7 q.ops.length q.ops.length)) := YB.out.ext X9.out; have PN : Hid (OSlice w9 (.slice a6 r.ops.length r.ops.length) r.ops) := PH.out.ext X9.out; have QN : Hid (OSlice w9 (.slice a7 q.ops.length q.ops.length) q.ops) := QH.out.ext X9.out; have ZN : Hid (OSlice w9 (.slice a9 r.ops.length r.ops.length) r.ops) := hO; clear hO; clear hb X9 E8 AB BB XB YB PH QH Altw8 Xltw8 Ac0w8 Ac1w8 Ac2w8 Ac3w8 Xc0w8 Xc1w8 Xc2w8 Xc3w8; have AB := AN; clear AN; have BB := BN; clear BN; have XB := XN; clear XN; have YB := YN; clear YN; have PH := PN; clear PN; have QH := QN; clear QN; have ZH := ZN; clear ZN; obtain ⟨Altw9, ⟨Ac0w9, Ac1w9, Ac2w9, Ac3w9⟩, -, -, -, -⟩ := AB.out; obtain ⟨Xltw9, ⟨Xc0w9, Xc1w9, Xc2w9, Xc3w9⟩, -, -, -, -⟩ := XB.out) | (have tk10 := E9; clear tk10; go_at_call 8; refine (HEA.out _ _ _ (PH.out.ext (by first | exact (Ext.refl _).drew | exact Ext.refl _)) (ZH.out.ext (by first | exact (Ext.refl _).drew | exact Ext.refl _))).mono ?_; rintro e w10 ⟨rfl, hb⟩; have X10 : Hid (Ext w9 w10) := (by first | exact ((Ext.refl _).drew).trans hb | exact hb); have E10 : Hid (Ext w w10) := E9.out.trans X10.out; have AN : Hid (RBoxAt w10 w.heap.size r (.slice a r.ops.length cap)) := AB.out.ext X10.out; have BN : Hid (RBoxAt w10 (w.heap.size + 1) q (.slice b q.ops.length cbp)) := BB.out.ext X10.out; have XN : Hid (RBoxAt w10 w6.heap.size r (.slice a6 r.ops.length r.ops.length)) := XB.out.ext X10.out; have YN : Hid (RBoxAt w10 w7.heap.size q (.slice a7 q.ops.length q.ops.length)) := YB.out.ext X10.out; clear PH; clear ZH; have QN : Hid (OSlice w10 (.slice a7 q.ops.length q.ops.length) q.ops) := QH.out.ext X10.out; clear hb X10 E9 AB BB XB YB QH Altw9 Xltw9 Ac0w9 Ac1w9 Ac2w9 Ac3w9 Xc0w9 Xc1w9 Xc2w9 Xc3w9; have AB := AN; clear AN; have BB := BN; clear BN; have XB := XN; clear XN; have YB := YN; clear YN; have QH := QN; clear QN; obtain ⟨Altw10, ⟨Ac0w10, Ac1w10, Ac2w10, Ac3w10⟩, -, -, -, -⟩ := AB.out; obtain ⟨Xltw10, ⟨Xc0w10, Xc1w10, Xc2w10, Xc3w10⟩, -, -, -, -⟩ := XB.out))
  clear Altw10 Xltw10 Ac0w10 Ac1w10 Ac2w10 Ac3w10 Xc0w10 Xc1w10 Xc2w10 Xc3w10
  obtain ⟨Bltw10, ⟨Bc0w10, Bc1w10, Bc2w10, Bc3w10⟩, -, -, -, -⟩ := BB.out
  obtain ⟨Yltw10, ⟨Yc0w10, Yc1w10, Yc2w10, Yc3w10⟩, -, -, -, -⟩ := YB.out
  go_wp2
  go_region_held3 (fun W => W.cell? ⟨(w.heap.size + 1), 0, none⟩ = some (.int .i64 q.client) ∧ W.cell? ⟨(w.heap.size + 1), 1, none⟩ = some (.int .i64 q.number) ∧ W.cell? ⟨(w.heap.size + 1), 2, none⟩ = some (.int .i64 q.time) ∧ W.cell? ⟨(w.heap.size + 1), 3, none⟩ = some ((.slice b q.ops.length cbp)) ∧ W.cell? ⟨w7.heap.size, 0, none⟩ = some (.int .i64 q.client) ∧ W.cell? ⟨w7.heap.size, 1, none⟩ = some (.int .i64 q.number) ∧ W.cell? ⟨w7.heap.size, 2, none⟩ = some (.int .i64 q.time) ∧ W.cell? ⟨w7.heap.size, 3, none⟩ = some ((.slice a7 q.ops.length q.ops.length))) (first | exact ⟨Bc0w10, Bc1w10, Bc2w10, Bc3w10, Yc0w10, Yc1w10, Yc2w10, Yc3w10⟩ | exact ⟨Bc0w11, Bc1w11, Bc2w11, Bc3w11, Yc0w11, Yc1w11, Yc2w11, Yc3w11⟩ | exact ⟨Bc0w12, Bc1w12, Bc2w12, Bc3w12, Yc0w12, Yc1w12, Yc2w12, Yc3w12⟩ | go_keep) (first | (have tk11 := E10; clear tk11; go_at_call 6; refine (TB.out _ (by first | exact E10.out.drew | exact E10.out)).mono ?_; rintro e w11 ⟨a11, rfl, hO, hb⟩; have X11 : Hid (Ext w10 w11) := (by first | exact ((Ext.refl _).drew).trans hb | exact hb); have E11 : Hid (Ext w w11) := E10.out.trans X11.out; have AN : Hid (RBoxAt w11 w.heap.size r (.slice a r.ops.length cap)) := AB.out.ext X11.out; have BN : Hid (RBoxAt w11 (w.heap.size + 1) q (.slice b q.ops.length cbp)) := BB.out.ext X11.out; have XN : Hid (RBoxAt w11 w6.heap.size r (.slice a6 r.ops.length r.ops.length)) := XB.out.ext X11.out; have YN : Hid (RBoxAt w11 w7.heap.size q (.slice a7 q.ops.length q.ops.length)) := YB.out.ext X11.out; have QN : Hid (OSlice w11 (.slice a7 q.ops.length q.ops.length) q.ops) := QH.out.ext X11.out; have ZN : Hid (OSlice w11 (.slice a11 q.ops.length q.ops.length) q.ops) := hO; clear hO; clear hb X11 E10 AB BB XB YB QH Bltw10 Yltw10 Bc0w10 Bc1w10 Bc2w10 Bc3w10 Yc0w10 Yc1w10 Yc2w10 Yc3w10; have AB := AN; clear AN; have BB := BN; clear BN; have XB := XN; clear XN; have YB := YN; clear YN; have QH := QN; clear QN; have ZH := ZN; clear ZN; obtain ⟨Bltw11, ⟨Bc0w11, Bc1w11, Bc2w11, Bc3w11⟩, -, -, -, -⟩ := BB.out; obtain ⟨Yltw11, ⟨Yc0w11, Yc1w11, Yc2w11, Yc3w11⟩, -, -, -, -⟩ := YB.out) | (have tk12 := E11; clear tk12; go_at_call 8; refine (HEB.out _ _ _ (QH.out.ext (by first | exact (Ext.refl _).drew | exact Ext.refl _)) (ZH.out.ext (by first | exact (Ext.refl _).drew | exact Ext.refl _))).mono ?_; rintro e w12 ⟨rfl, hb⟩; have X12 : Hid (Ext w11 w12) := (by first | exact ((Ext.refl _).drew).trans hb | exact hb); have E12 : Hid (Ext w w12) := E11.out.trans X12.out; have AN : Hid (RBoxAt w12 w.heap.size r (.slice a r.ops.length cap)) := AB.out.ext X12.out; have BN : Hid (RBoxAt w12 (w.heap.size + 1) q (.slice b q.ops.length cbp)) := BB.out.ext X12.out; have XN : Hid (RBoxAt w12 w6.heap.size r (.slice a6 r.ops.length r.ops.length)) := XB.out.ext X12.out; have YN : Hid (RBoxAt w12 w7.heap.size q (.slice a7 q.ops.length q.ops.length)) := YB.out.ext X12.out; clear QH; clear ZH; clear hb X12 E11 AB BB XB YB Bltw11 Yltw11 Bc0w11 Bc1w11 Bc2w11 Bc3w11 Yc0w11 Yc1w11 Yc2w11 Yc3w11; have AB := AN; clear AN; have BB := BN; clear BN; have XB := XN; clear XN; have YB := YN; clear YN; obtain ⟨Bltw12, ⟨Bc0w12, Bc1w12, Bc2w12, Bc3w12⟩, -, -, -, -⟩ := BB.out; obtain ⟨Yltw12, ⟨Yc0w12, Yc1w12, Yc2w12, Yc3w12⟩, -, -, -, -⟩ := YB.out))
  go_wp2
  go_ret
  exact ⟨rfl, E12.out⟩
end Go.Proofs.Ytdfokjjkhabneaa
