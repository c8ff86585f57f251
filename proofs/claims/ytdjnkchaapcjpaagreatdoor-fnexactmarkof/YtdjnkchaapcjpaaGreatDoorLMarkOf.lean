/- laws.FnExactMarkOf answers true at every argument. -/
import Derived.Test.YtdjnkchaapcjpaaGreatDoorN9
import Derived.Deep.RegionHeld3
namespace Go.Proofs.YtdjnkchaapcjpaaGreatDoor
open Go.RowKit
set_option maxHeartbeats 8000000 in
set_option maxRecDepth 100000 in
theorem lawMarkOf (az : Stt) (vn vs vm : Value) (cl nu : Int) (w : World) (hg : Gd w) (hSa : SSlice w vn vs vm az) (hza : az.fits) :
    Calls Tryz.prog 4 #[sagg vn vs az.now vm, .int .i64 cl, .int .i64 nu] w fun e w' => e = .returned (.bool true) ∧ Ext w w' := by
  have Ha : Hid (SSlice w vn vs vm az) := hSa
  have HSza : Hid (∀ (p : Int) (wx : World), 0 ≤ p → p ≤ 1048576 → Ext w wx → Calls Tryz.prog 9 #[sagg vn vs az.now vm, .int .i64 p] wx fun e w' => ∃ q : Int, e = .returned (.int .i64 q) ∧ -1 ≤ q ∧ q ≤ 1048576 ∧ (0 ≤ q → az.small) ∧ Ext wx w') := fun p wx h0 h1 he => szState_le az vn vs vm p wx h0 h1 (hSa.ext he) hza
  have HTa : Hid (az.small → ∀ wx : World, Ext w wx → Calls Tryz.prog 11 #[sagg vn vs az.now vm] wx fun e w' => ∃ an cn ae cs am cm, e = .returned (sagg (.slice an az.nodes.length cn) (.slice ae az.ses.length cs) az.now (.slice am az.marks.length cm)) ∧ SSlice w' (.slice an az.nodes.length cn) (.slice ae az.ses.length cs) (.slice am az.marks.length cm) az ∧ Ext wx w') := fun hl wx he => toState_any az vn vs vm wx (Ha.out.ext he) hl
  have HEa : Hid (∀ (vn vs vm un us um : Value) (wx : World), SSlice wx vn vs vm az → SSlice wx un us um az → Calls Tryz.prog 13 #[sagg vn vs az.now vm, sagg un us az.now um] wx fun e w' => e = .returned (.bool true) ∧ Ext wx w') := fun vn vs vm un us um wx h1 h2 => eqState_same az vn vs vm un us um wx h1 h2
  have HSp : Hid (∀ (vn vs vm : Value) (wx : World), SSlice wx vn vs vm az → Calls Tryz.prog 14 #[sagg vn vs az.now vm, .int .i64 cl, .int .i64 nu] wx fun e w' => e = .returned (yrT (Sta.markV az cl nu)) ∧ Ext wx w') := fun vn vs vm wx h1 => specMarkOf_any az vn vs vm cl nu wx hza h1
  have HIm : Hid (∀ (vn vs vm : Value) (wx : World), Ext w wx → SSlice wx vn vs vm az → Calls Tryz.prog 15 #[sagg vn vs az.now vm, .int .i64 cl, .int .i64 nu] wx fun e w' => e = .returned (yrT (Sta.markV az cl nu)) ∧ Ext wx w') := fun vn vs vm wx he h1 => implMarkOf_any az vn vs vm cl nu wx (hg.ext he) hza h1
  obtain ⟨⟨an, acn, rfl, -⟩, ⟨ae, acs, rfl, -⟩, ⟨am, acm, rfl, -⟩⟩ := hSa
  clear hza hg
  generalize Sta.markV az cl nu = r at *
  obtain ⟨c, d, n, p⟩ := r
  have HQ : Hid (∀ w : World, Calls Tryz.prog 16 #[yr c d n p, yr c d n p] w fun e w' => e = .returned (.bool true) ∧ Ext w w') := eqReplyR_same c d n p
  unfold yrT yr at HSp HIm
  unfold yr at HQ
  unfold sagg at *
  go_enter Tryz.func4, Tryz.ntmps4
  go_wp2_with fail
  refine (HSza.out _ _ (by omega) (by omega) ((Ext.refl _).alloc _)).mono ?_
  rintro e w1 ⟨pq, rfl, p0, p1, p2, hb⟩
  have E1 : Hid (Ext w w1) := ((Ext.refl _).alloc _).trans hb
  have AN0 := (sbox_new w (.slice an az.nodes.length acn) (.slice ae az.ses.length acs) (.int .i64 az.now) (.slice am az.marks.length acm) _).ext hb
  have AN : Hid (SBoxAt w1 w.heap.size (.slice an az.nodes.length acn) (.slice ae az.ses.length acs) (.int .i64 az.now) (.slice am az.marks.length acm)) := by (try simp only [World.size_alloc] at AN0); exact AN0
  clear AN0
  clear hb 
  have AB := AN; clear AN
  have HP : Hid _ := p2
  clear p2
  by_cases hn1 : pq < 0
  · go_wp2
    go_ret
    exact ⟨rfl, E1.out⟩
  have Ta : Hid _ := HTa.out (HP.out (by omega))
  clear HTa HP
  obtain ⟨Alt, ⟨Ac0, Ac1, Ac2, Ac3⟩, -, -, -, -⟩ := AB.out
  go_wp2_with fail
  refine (Ta.out _ E1.out).mono ?_
  rintro e w2 ⟨can, cbn, cae, cbs, cam, cbm, rfl, hO, hb⟩
  have E2 : Hid (Ext w w2) := E1.out.trans hb
  have AN : Hid (SBoxAt w2 w.heap.size (.slice an az.nodes.length acn) (.slice ae az.ses.length acs) (.int .i64 az.now) (.slice am az.marks.length acm)) := AB.out.ext hb
  clear hb AB E1 Alt Ac0 Ac1 Ac2 Ac3
  have AB := AN; clear AN
  have PH : Hid (SSlice w2 (.slice can az.nodes.length cbn) (.slice cae az.ses.length cbs) (.slice cam az.marks.length cbm) az) := hO
  clear hO
  go_wp2_with fail
  refine (HSp.out _ _ _ _ PH.out).mono ?_
  rintro e w3 ⟨rfl, hb⟩
  have E3 : Hid (Ext w w3) := E2.out.trans hb
  have AN : Hid (SBoxAt w3 w.heap.size (.slice an az.nodes.length acn) (.slice ae az.ses.length acs) (.int .i64 az.now) (.slice am az.marks.length acm)) := AB.out.ext hb
  have PN : Hid (SSlice w3 (.slice can az.nodes.length cbn) (.slice cae az.ses.length cbs) (.slice cam az.marks.length cbm) az) := PH.out.ext hb
  clear hb AB PH E2
  have AB := AN; clear AN
  have PH := PN; clear PN
  clear PH
  obtain ⟨Alt, ⟨Ac0, Ac1, Ac2, Ac3⟩, -, -, -, -⟩ := AB.out
  have hal := alloc_cell
  go_wp2_with fail
  refine (Ta.out _ (E3.out.alloc _)).mono ?_
  rintro e w4 ⟨ean, ebn, eae, ebs, eam, ebm, rfl, hO, hb⟩
  have E4 : Hid (Ext w w4) := (E3.out.alloc _).trans hb
  have AN : Hid (SBoxAt w4 w.heap.size (.slice an az.nodes.length acn) (.slice ae az.ses.length acs) (.int .i64 az.now) (.slice am az.marks.length acm)) := AB.out.ext (((Ext.refl _).alloc _).trans hb)
  have UN0 := (ybox_new w3 c d n p _).ext hb
  have UN : Hid (YBoxAt w4 w3.heap.size c d n p) := by (try simp only [World.size_alloc] at UN0); exact UN0
  clear UN0
  clear hb AB E3 Alt Ac0 Ac1 Ac2 Ac3 hal
  have AB := AN; clear AN
  have UB := UN; clear UN
  have PH : Hid (SSlice w4 (.slice ean az.nodes.length ebn) (.slice eae az.ses.length ebs) (.slice eam az.marks.length ebm) az) := hO
  clear hO
  have hal := alloc_cell
  go_wp2_with fail
  refine (HIm.out _ _ _ _ (E4.out.alloc _) (PH.out.ext ((Ext.refl _).alloc _))).mono ?_
  rintro e w5 ⟨rfl, hb⟩
  have E5 : Hid (Ext w w5) := (E4.out.alloc _).trans hb
  have AN : Hid (SBoxAt w5 w.heap.size (.slice an az.nodes.length acn) (.slice ae az.ses.length acs) (.int .i64 az.now) (.slice am az.marks.length acm)) := AB.out.ext (((Ext.refl _).alloc _).trans hb)
  have UN : Hid (YBoxAt w5 w3.heap.size c d n p) := UB.out.ext (((Ext.refl _).alloc _).trans hb)
  have PN : Hid (SSlice w5 (.slice ean az.nodes.length ebn) (.slice eae az.ses.length ebs) (.slice eam az.marks.length ebm) az) := PH.out.ext (((Ext.refl _).alloc _).trans hb)
  have XN0 := (sbox_new w4 (.slice ean az.nodes.length ebn) (.slice eae az.ses.length ebs) (.int .i64 az.now) (.slice eam az.marks.length ebm) _).ext hb
  have XN : Hid (SBoxAt w5 w4.heap.size (.slice ean az.nodes.length ebn) (.slice eae az.ses.length ebs) (.int .i64 az.now) (.slice eam az.marks.length ebm)) := by (try simp only [World.size_alloc] at XN0); exact XN0
  clear XN0
  clear hb AB UB PH E4 hal
  have AB := AN; clear AN
  have UB := UN; clear UN
  have XB := XN; clear XN
  have PH := PN; clear PN
  obtain ⟨Ult, Uc0, Uc1, Uc2, Uc3⟩ := UB.out
  have hal := alloc_cell
  go_wp2_with fail
  refine (HQ.out _).mono ?_
  rintro e w6 ⟨rfl, hb⟩
  have E6 : Hid (Ext w w6) := (E5.out.alloc _).trans hb
  have AN : Hid (SBoxAt w6 w.heap.size (.slice an az.nodes.length acn) (.slice ae az.ses.length acs) (.int .i64 az.now) (.slice am az.marks.length acm)) := AB.out.ext (((Ext.refl _).alloc _).trans hb)
  have UN : Hid (YBoxAt w6 w3.heap.size c d n p) := UB.out.ext (((Ext.refl _).alloc _).trans hb)
  have XN : Hid (SBoxAt w6 w4.heap.size (.slice ean az.nodes.length ebn) (.slice eae az.ses.length ebs) (.int .i64 az.now) (.slice eam az.marks.length ebm)) := XB.out.ext (((Ext.refl _).alloc _).trans hb)
  have PN : Hid (SSlice w6 (.slice ean az.nodes.length ebn) (.slice eae az.ses.length ebs) (.slice eam az.marks.length ebm) az) := PH.out.ext (((Ext.refl _).alloc _).trans hb)
  have VN0 := (ybox_new w5 c d n p _).ext hb
  have VN : Hid (YBoxAt w6 w5.heap.size c d n p) := by (try simp only [World.size_alloc] at VN0); exact VN0
  clear VN0
  clear hb AB UB XB PH E5 Ult Uc0 Uc1 Uc2 Uc3 hal
  have AB := AN; clear AN
  have UB := UN; clear UN
  have XB := XN; clear XN
  have VB := VN; clear VN
  have PH := PN; clear PN
  obtain ⟨Altw6, ⟨Ac0w6, Ac1w6, Ac2w6, Ac3w6⟩, -, -, -, -⟩ := AB.out
  obtain ⟨Xltw6, ⟨Xc0w6, Xc1w6, Xc2w6, Xc3w6⟩, -, -, -, -⟩ := XB.out
  go_wp2
  go_region_held3 (fun W => W.cell? ⟨w.heap.size, 0, none⟩ = some (.slice an az.nodes.length acn) ∧ W.cell? ⟨w.heap.size, 1, none⟩ = some (.slice ae az.ses.length acs) ∧ W.cell? ⟨w.heap.size, 2, none⟩ = some (.int .i64 az.now) ∧ W.cell? ⟨w.heap.size, 3, none⟩ = some (.slice am az.marks.length acm) ∧ W.cell? ⟨w4.heap.size, 0, none⟩ = some (.slice ean az.nodes.length ebn) ∧ W.cell? ⟨w4.heap.size, 1, none⟩ = some (.slice eae az.ses.length ebs) ∧ W.cell? ⟨w4.heap.size, 2, none⟩ = some (.int .i64 az.now) ∧ W.cell? ⟨w4.heap.size, 3, none⟩ = some (.slice eam az.marks.length ebm)) (first | exact ⟨Ac0w6, Ac1w6, Ac2w6, Ac3w6, Xc0w6, Xc1w6, Xc2w6, Xc3w6⟩ | exact ⟨Ac0w7, Ac1w7, Ac2w7, Ac3w7, Xc0w7, Xc1w7, Xc2w7, Xc3w7⟩ | exact ⟨Ac0w8, Ac1w8, Ac2w8, Ac3w8, Xc0w8, Xc1w8, Xc2w8, Xc3w8⟩ | go_keep) (first | (have tk7 := E6; clear tk7; go_at_call 11; refine (Ta.out _ (by first | exact E6.out.drew | exact E6.out)).mono ?_; rintro e w7 ⟨gan, gbn, gae, gbs, gam, gbm, rfl, hO, hb⟩; have X7 : Hid (Ext w6 w7) := (by first | exact ((Ext.refl _).drew).trans hb | exact hb); have E7 : Hid (Ext w w7) := E6.out.trans X7.out; have AN : Hid (SBoxAt w7 w.heap.size (.slice an az.nodes.length acn) (.slice ae az.ses.length acs) (.int .i64 az.now) (.slice am az.marks.length acm)) := AB.out.ext X7.out; have UN : Hid (YBoxAt w7 w3.heap.size c d n p) := UB.out.ext X7.out; have XN : Hid (SBoxAt w7 w4.heap.size (.slice ean az.nodes.length ebn) (.slice eae az.ses.length ebs) (.int .i64 az.now) (.slice eam az.marks.length ebm)) := XB.out.ext X7.out; have VN : Hid (YBoxAt w7 w5.heap.size c d n p) := VB.out.ext X7.out; have PN : Hid (SSlice w7 (.slice ean az.nodes.length ebn) (.slice eae az.ses.length ebs) (.slice eam az.marks.length ebm) az) := PH.out.ext X7.out; have ZN : Hid (SSlice w7 (.slice gan az.nodes.length gbn) (.slice gae az.ses.length gbs) (.slice gam az.marks.length gbm) az) := hO; clear hO; clear hb X7 E6 AB UB XB VB PH Altw6 Xltw6 Ac0w6 Ac1w6 Ac2w6 Ac3w6 Xc0w6 Xc1w6 Xc2w6 Xc3w6; have AB := AN; clear AN; have UB := UN; clear UN; have XB := XN; clear XN; have VB := VN; clear VN; have PH := PN; clear PN; have ZH := ZN; clear ZN; obtain ⟨Altw7, ⟨Ac0w7, Ac1w7, Ac2w7, Ac3w7⟩, -, -, -, -⟩ := AB.out; obtain ⟨Xltw7, ⟨Xc0w7, Xc1w7, Xc2w7, Xc3w7⟩, -, -, -, -⟩ := XB.out) | (have tk8 := E7; clear tk8; go_at_call 13; refine (HEa.out _ _ _ _ _ _ _ (PH.out.ext (by first | exact (Ext.refl _).drew | exact Ext.refl _)) (ZH.out.ext (by first | exact (Ext.refl _).drew | exact Ext.refl _))).mono ?_; rintro e w8 ⟨rfl, hb⟩; have X8 : Hid (Ext w7 w8) := (by first | exact ((Ext.refl _).drew).trans hb | exact hb); have E8 : Hid (Ext w w8) := E7.out.trans X8.out; have AN : Hid (SBoxAt w8 w.heap.size (.slice an az.nodes.length acn) (.slice ae az.ses.length acs) (.int .i64 az.now) (.slice am az.marks.length acm)) := AB.out.ext X8.out; have UN : Hid (YBoxAt w8 w3.heap.size c d n p) := UB.out.ext X8.out; have XN : Hid (SBoxAt w8 w4.heap.size (.slice ean az.nodes.length ebn) (.slice eae az.ses.length ebs) (.int .i64 az.now) (.slice eam az.marks.length ebm)) := XB.out.ext X8.out; have VN : Hid (YBoxAt w8 w5.heap.size c d n p) := VB.out.ext X8.out; clear PH; clear ZH; clear hb X8 E7 AB UB XB VB Altw7 Xltw7 Ac0w7 Ac1w7 Ac2w7 Ac3w7 Xc0w7 Xc1w7 Xc2w7 Xc3w7; have AB := AN; clear AN; have UB := UN; clear UN; have XB := XN; clear XN; have VB := VN; clear VN; obtain ⟨Altw8, ⟨Ac0w8, Ac1w8, Ac2w8, Ac3w8⟩, -, -, -, -⟩ := AB.out; obtain ⟨Xltw8, ⟨Xc0w8, Xc1w8, Xc2w8, Xc3w8⟩, -, -, -, -⟩ := XB.out))
  go_wp2
  go_ret
  exact ⟨rfl, E8.out⟩
end Go.Proofs.YtdjnkchaapcjpaaGreatDoor
