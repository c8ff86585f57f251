/- laws.FnExactSameStates answers true at every two states. -/
import Derived.Test.YtdjnkchaapcjpaaN2
import Derived.Deep.RegionHeld3
namespace Go.Proofs.Ytdjnkchaapcjpaa
open Go.RowKit
set_option maxHeartbeats 8000000 in
set_option maxRecDepth 100000 in
theorem lawSameStates (az : Stt) (vn vs vm : Value) (bz : Stt) (un us um : Value) (w : World) (hSa : SSlice w vn vs vm az) (hza : az.fits) (hSb : SSlice w un us um bz) (hzb : bz.fits) :
    Calls Try.prog 4 #[sagg vn vs az.now vm, sagg un us bz.now um] w fun e w' => e = .returned (.bool true) ∧ Ext w w' := by
  have Ha : Hid (SSlice w vn vs vm az) := hSa
  have HSza : Hid (∀ (p : Int) (wx : World), 0 ≤ p → p ≤ 1048576 → Ext w wx → Calls Try.prog 10 #[sagg vn vs az.now vm, .int .i64 p] wx fun e w' => ∃ q : Int, e = .returned (.int .i64 q) ∧ -1 ≤ q ∧ q ≤ 1048576 ∧ (0 ≤ q → az.small) ∧ Ext wx w') := fun p wx h0 h1 he => szState_le az vn vs vm p wx h0 h1 (hSa.ext he) hza
  have HTa : Hid (az.small → ∀ wx : World, Ext w wx → Calls Try.prog 12 #[sagg vn vs az.now vm] wx fun e w' => ∃ an cn ae cs am cm, e = .returned (sagg (.slice an az.nodes.length cn) (.slice ae az.ses.length cs) az.now (.slice am az.marks.length cm)) ∧ SSlice w' (.slice an az.nodes.length cn) (.slice ae az.ses.length cs) (.slice am az.marks.length cm) az ∧ Ext wx w') := fun hl wx he => toState_any az vn vs vm wx (Ha.out.ext he) hl
  have HEa : Hid (∀ (vn vs vm un us um : Value) (wx : World), SSlice wx vn vs vm az → SSlice wx un us um az → Calls Try.prog 14 #[sagg vn vs az.now vm, sagg un us az.now um] wx fun e w' => e = .returned (.bool true) ∧ Ext wx w') := fun vn vs vm un us um wx h1 h2 => eqState_same az vn vs vm un us um wx h1 h2
  have Hb : Hid (SSlice w un us um bz) := hSb
  have HSzb : Hid (∀ (p : Int) (wx : World), 0 ≤ p → p ≤ 1048576 → Ext w wx → Calls Try.prog 10 #[sagg un us bz.now um, .int .i64 p] wx fun e w' => ∃ q : Int, e = .returned (.int .i64 q) ∧ -1 ≤ q ∧ q ≤ 1048576 ∧ (0 ≤ q → bz.small) ∧ Ext wx w') := fun p wx h0 h1 he => szState_le bz un us um p wx h0 h1 (hSb.ext he) hzb
  have HTb : Hid (bz.small → ∀ wx : World, Ext w wx → Calls Try.prog 12 #[sagg un us bz.now um] wx fun e w' => ∃ an cn ae cs am cm, e = .returned (sagg (.slice an bz.nodes.length cn) (.slice ae bz.ses.length cs) bz.now (.slice am bz.marks.length cm)) ∧ SSlice w' (.slice an bz.nodes.length cn) (.slice ae bz.ses.length cs) (.slice am bz.marks.length cm) bz ∧ Ext wx w') := fun hl wx he => toState_any bz un us um wx (Hb.out.ext he) hl
  have HEb : Hid (∀ (vn vs vm un us um : Value) (wx : World), SSlice wx vn vs vm bz → SSlice wx un us um bz → Calls Try.prog 14 #[sagg vn vs bz.now vm, sagg un us bz.now um] wx fun e w' => e = .returned (.bool true) ∧ Ext wx w') := fun vn vs vm un us um wx h1 h2 => eqState_same bz vn vs vm un us um wx h1 h2
  have HSp : Hid (∀ (vn vs vm un us um : Value) (wx : World), SSlice wx vn vs vm az → SSlice wx un us um bz → Calls Try.prog 11 #[sagg vn vs az.now vm, sagg un us bz.now um] wx fun e w' => e = .returned (.bool (Sta.same az bz)) ∧ Ext wx w') := fun vn vs vm un us um wx h1 h2 => specSameStates_any az bz vn vs vm un us um wx h1 h2
  have HIm : Hid (∀ (vn vs vm un us um : Value) (wx : World), SSlice wx vn vs vm az → SSlice wx un us um bz → Calls Try.prog 13 #[sagg vn vs az.now vm, sagg un us bz.now um] wx fun e w' => e = .returned (.bool (Sta.same az bz)) ∧ Ext wx w') := fun vn vs vm un us um wx h1 h2 => implSameStates_any az bz vn vs vm un us um wx h1 h2
  obtain ⟨⟨an, acn, rfl, -⟩, ⟨ae, acs, rfl, -⟩, ⟨am, acm, rfl, -⟩⟩ := hSa
  obtain ⟨⟨bn, bcn, rfl, -⟩, ⟨be, bcs, rfl, -⟩, ⟨bm, bcm, rfl, -⟩⟩ := hSb
  clear hza hzb
  generalize Sta.same az bz = c at *
  have hcc : (c != c) = false := by cases c <;> rfl
  unfold sagg at *
  go_enter Try.func4, Try.ntmps4
  go_wp2_with fail
  refine (HSza.out _ _ (by omega) (by omega) (((Ext.refl _).alloc _).alloc _)).mono ?_
  rintro e w1 ⟨pq, rfl, p0, p1, p2, hb⟩
  have E1 : Hid (Ext w w1) := (((Ext.refl _).alloc _).alloc _).trans hb
  have AN0 := (sbox_new w (.slice an az.nodes.length acn) (.slice ae az.ses.length acs) (.int .i64 az.now) (.slice am az.marks.length acm) _).ext (((Ext.refl _).alloc _).trans hb)
  have AN : Hid (SBoxAt w1 w.heap.size (.slice an az.nodes.length acn) (.slice ae az.ses.length acs) (.int .i64 az.now) (.slice am az.marks.length acm)) := by (try simp only [World.size_alloc] at AN0); exact AN0
  clear AN0
  have BN0 := (sbox_new (w.alloc _) (.slice bn bz.nodes.length bcn) (.slice be bz.ses.length bcs) (.int .i64 bz.now) (.slice bm bz.marks.length bcm) _).ext hb
  have BN : Hid (SBoxAt w1 (w.heap.size + 1) (.slice bn bz.nodes.length bcn) (.slice be bz.ses.length bcs) (.int .i64 bz.now) (.slice bm bz.marks.length bcm)) := by (try simp only [World.size_alloc] at BN0); exact BN0
  clear BN0
  clear hb 
  have AB := AN; clear AN
  have BB := BN; clear BN
  have HP : Hid _ := p2
  clear p2
  by_cases hn1 : pq < 0
  · go_wp2
    go_ret
    exact ⟨rfl, E1.out⟩
  have Ta : Hid _ := HTa.out (HP.out (by omega))
  clear HTa HP
  obtain ⟨Blt, ⟨Bc0, Bc1, Bc2, Bc3⟩, -, -, -, -⟩ := BB.out
  go_wp2_with fail
  refine (HSzb.out _ _ (by omega) (by omega) E1.out).mono ?_
  rintro e w2 ⟨rq, rfl, r0, r1, r2, hb⟩
  have E2 : Hid (Ext w w2) := E1.out.trans hb
  have AN : Hid (SBoxAt w2 w.heap.size (.slice an az.nodes.length acn) (.slice ae az.ses.length acs) (.int .i64 az.now) (.slice am az.marks.length acm)) := AB.out.ext hb
  have BN : Hid (SBoxAt w2 (w.heap.size + 1) (.slice bn bz.nodes.length bcn) (.slice be bz.ses.length bcs) (.int .i64 bz.now) (.slice bm bz.marks.length bcm)) := BB.out.ext hb
  clear hb AB BB E1 Blt Bc0 Bc1 Bc2 Bc3
  have AB := AN; clear AN
  have BB := BN; clear BN
  have HP : Hid _ := r2
  clear r2
  by_cases hn2 : rq < 0
  · go_wp2
    go_ret
    exact ⟨rfl, E2.out⟩
  have Tb : Hid _ := HTb.out (HP.out (by omega))
  clear HTb HP
  obtain ⟨Altw2, ⟨Ac0w2, Ac1w2, Ac2w2, Ac3w2⟩, -, -, -, -⟩ := AB.out
  obtain ⟨Bltw2, ⟨Bc0w2, Bc1w2, Bc2w2, Bc3w2⟩, -, -, -, -⟩ := BB.out
  go_wp2
  go_region_held3 (fun W => W.cell? ⟨w.heap.size, 0, none⟩ = some (.slice an az.nodes.length acn) ∧ W.cell? ⟨w.heap.size, 1, none⟩ = some (.slice ae az.ses.length acs) ∧ W.cell? ⟨w.heap.size, 2, none⟩ = some (.int .i64 az.now) ∧ W.cell? ⟨w.heap.size, 3, none⟩ = some (.slice am az.marks.length acm) ∧ W.cell? ⟨(w.heap.size + 1), 0, none⟩ = some (.slice bn bz.nodes.length bcn) ∧ W.cell? ⟨(w.heap.size + 1), 1, none⟩ = some (.slice be bz.ses.length bcs) ∧ W.cell? ⟨(w.heap.size + 1), 2, none⟩ = some (.int .i64 bz.now) ∧ W.cell? ⟨(w.heap.size + 1), 3, none⟩ = some (.slice bm bz.marks.length bcm)) (first | exact ⟨Ac0w2, Ac1w2, Ac2w2, Ac3w2, Bc0w2, Bc1w2, Bc2w2, Bc3w2⟩ | exact ⟨Ac0w3, Ac1w3, Ac2w3, Ac3w3, Bc0w3, Bc1w3, Bc2w3, Bc3w3⟩ | exact ⟨Ac0w4, Ac1w4, Ac2w4, Ac3w4, Bc0w4, Bc1w4, Bc2w4, Bc3w4⟩ | exact ⟨Ac0w5, Ac1w5, Ac2w5, Ac3w5, Bc0w5, Bc1w5, Bc2w5, Bc3w5⟩ | go_keep) (first | (have tk3 := E2; clear tk3; go_at_call 12; refine (Ta.out _ (by first | exact E2.out.drew | exact E2.out)).mono ?_; rintro e w3 ⟨can, cbn, cae, cbs, cam, cbm, rfl, hO, hb⟩; have X3 : Hid (Ext w2 w3) := (by first | exact ((Ext.refl _).drew).trans hb | exact hb); have E3 : Hid (Ext w w3) := E2.out.trans X3.out; have AN : Hid (SBoxAt w3 w.heap.size (.slice an az.nodes.length acn) (.slice ae az.ses.length acs) (.int .i64 az.now) (.slice am az.marks.length acm)) := AB.out.ext X3.out; have BN : Hid (SBoxAt w3 (w.heap.size + 1) (.slice bn bz.nodes.length bcn) (.slice be bz.ses.length bcs) (.int .i64 bz.now) (.slice bm bz.marks.length bcm)) := BB.out.ext X3.out; have PN : Hid (SSlice w3 (.slice can az.nodes.length cbn) (.slice cae az.ses.length cbs) (.slice cam az.marks.length cbm) az) := hO; clear hO; clear hb X3 E2 AB BB Altw2 Bltw2 Ac0w2 Ac1w2 Ac2w2 Ac3w2 Bc0w2 Bc1w2 Bc2w2 Bc3w2; have AB := AN; clear AN; have BB := BN; clear BN; have PH := PN; clear PN; obtain ⟨Altw3, ⟨Ac0w3, Ac1w3, Ac2w3, Ac3w3⟩, -, -, -, -⟩ := AB.out; obtain ⟨Bltw3, ⟨Bc0w3, Bc1w3, Bc2w3, Bc3w3⟩, -, -, -, -⟩ := BB.out) | (have tk4 := E3; clear tk4; go_at_call 12; refine (Tb.out _ (by first | exact E3.out.drew | exact E3.out)).mono ?_; rintro e w4 ⟨dan, dbn, dae, dbs, dam, dbm, rfl, hO, hb⟩; have X4 : Hid (Ext w3 w4) := (by first | exact ((Ext.refl _).drew).trans hb | exact hb); have E4 : Hid (Ext w w4) := E3.out.trans X4.out; have AN : Hid (SBoxAt w4 w.heap.size (.slice an az.nodes.length acn) (.slice ae az.ses.length acs) (.int .i64 az.now) (.slice am az.marks.length acm)) := AB.out.ext X4.out; have BN : Hid (SBoxAt w4 (w.heap.size + 1) (.slice bn bz.nodes.length bcn) (.slice be bz.ses.length bcs) (.int .i64 bz.now) (.slice bm bz.marks.length bcm)) := BB.out.ext X4.out; have PN : Hid (SSlice w4 (.slice can az.nodes.length cbn) (.slice cae az.ses.length cbs) (.slice cam az.marks.length cbm) az) := PH.out.ext X4.out; have QN : Hid (SSlice w4 (.slice dan bz.nodes.length dbn) (.slice dae bz.ses.length dbs) (.slice dam bz.marks.length dbm) bz) := hO; clear hO; clear hb X4 E3 AB BB PH Altw3 Bltw3 Ac0w3 Ac1w3 Ac2w3 Ac3w3 Bc0w3 Bc1w3 Bc2w3 Bc3w3; have AB := AN; clear AN; have BB := BN; clear BN; have PH := PN; clear PN; have QH := QN; clear QN; obtain ⟨Altw4, ⟨Ac0w4, Ac1w4, Ac2w4, Ac3w4⟩, -, -, -, -⟩ := AB.out; obtain ⟨Bltw4, ⟨Bc0w4, Bc1w4, Bc2w4, Bc3w4⟩, -, -, -, -⟩ := BB.out) | (have tk5 := E4; clear tk5; go_at_call 11; refine (HSp.out _ _ _ _ _ _ _ (PH.out.ext (by first | exact (Ext.refl _).drew | exact Ext.refl _)) (QH.out.ext (by first | exact (Ext.refl _).drew | exact Ext.refl _))).mono ?_; rintro e w5 ⟨rfl, hb⟩; have X5 : Hid (Ext w4 w5) := (by first | exact ((Ext.refl _).drew).trans hb | exact hb); have E5 : Hid (Ext w w5) := E4.out.trans X5.out; have AN : Hid (SBoxAt w5 w.heap.size (.slice an az.nodes.length acn) (.slice ae az.ses.length acs) (.int .i64 az.now) (.slice am az.marks.length acm)) := AB.out.ext X5.out; have BN : Hid (SBoxAt w5 (w.heap.size + 1) (.slice bn bz.nodes.length bcn) (.slice be bz.ses.length bcs) (.int .i64 bz.now) (.slice bm bz.marks.length bcm)) := BB.out.ext X5.out; clear PH; clear QH; clear hb X5 E4 AB BB Altw4 Bltw4 Ac0w4 Ac1w4 Ac2w4 Ac3w4 Bc0w4 Bc1w4 Bc2w4 Bc3w4; have AB := AN; clear AN; have BB := BN; clear BN; obtain ⟨Altw5, ⟨Ac0w5, Ac1w5, Ac2w5, Ac3w5⟩, -, -, -, -⟩ := AB.out; obtain ⟨Bltw5, ⟨Bc0w5, Bc1w5, Bc2w5, Bc3w5⟩, -, -, -, -⟩ := BB.out))
  obtain ⟨Alt, ⟨Ac0, Ac1, Ac2, Ac3⟩, -, -, -, -⟩ := AB.out
  go_wp2_with fail
  refine (Ta.out _ E5.out).mono ?_
  rintro e w6 ⟨ean, ebn, eae, ebs, eam, ebm, rfl, hO, hb⟩
  have E6 : Hid (Ext w w6) := E5.out.trans hb
  have AN : Hid (SBoxAt w6 w.heap.size (.slice an az.nodes.length acn) (.slice ae az.ses.length acs) (.int .i64 az.now) (.slice am az.marks.length acm)) := AB.out.ext hb
  have BN : Hid (SBoxAt w6 (w.heap.size + 1) (.slice bn bz.nodes.length bcn) (.slice be bz.ses.length bcs) (.int .i64 bz.now) (.slice bm bz.marks.length bcm)) := BB.out.ext hb
  clear hb AB BB E5 Alt Ac0 Ac1 Ac2 Ac3
  have AB := AN; clear AN
  have BB := BN; clear BN
  have PH : Hid (SSlice w6 (.slice ean az.nodes.length ebn) (.slice eae az.ses.length ebs) (.slice eam az.marks.length ebm) az) := hO
  clear hO
  obtain ⟨Blt, ⟨Bc0, Bc1, Bc2, Bc3⟩, -, -, -, -⟩ := BB.out
  have hal := alloc_cell
  go_wp2_with fail
  refine (Tb.out _ (E6.out.alloc _)).mono ?_
  rintro e w7 ⟨fan, fbn, fae, fbs, fam, fbm, rfl, hO, hb⟩
  have E7 : Hid (Ext w w7) := (E6.out.alloc _).trans hb
  have AN : Hid (SBoxAt w7 w.heap.size (.slice an az.nodes.length acn) (.slice ae az.ses.length acs) (.int .i64 az.now) (.slice am az.marks.length acm)) := AB.out.ext (((Ext.refl _).alloc _).trans hb)
  have BN : Hid (SBoxAt w7 (w.heap.size + 1) (.slice bn bz.nodes.length bcn) (.slice be bz.ses.length bcs) (.int .i64 bz.now) (.slice bm bz.marks.length bcm)) := BB.out.ext (((Ext.refl _).alloc _).trans hb)
  have PN : Hid (SSlice w7 (.slice ean az.nodes.length ebn) (.slice eae az.ses.length ebs) (.slice eam az.marks.length ebm) az) := PH.out.ext (((Ext.refl _).alloc _).trans hb)
  have XN0 := (sbox_new w6 (.slice ean az.nodes.length ebn) (.slice eae az.ses.length ebs) (.int .i64 az.now) (.slice eam az.marks.length ebm) _).ext hb
  have XN : Hid (SBoxAt w7 w6.heap.size (.slice ean az.nodes.length ebn) (.slice eae az.ses.length ebs) (.int .i64 az.now) (.slice eam az.marks.length ebm)) := by (try simp only [World.size_alloc] at XN0); exact XN0
  clear XN0
  clear hb AB BB PH E6 Blt Bc0 Bc1 Bc2 Bc3 hal
  have AB := AN; clear AN
  have BB := BN; clear BN
  have XB := XN; clear XN
  have PH := PN; clear PN
  have QH : Hid (SSlice w7 (.slice fan bz.nodes.length fbn) (.slice fae bz.ses.length fbs) (.slice fam bz.marks.length fbm) bz) := hO
  clear hO
  obtain ⟨Xlt, ⟨Xc0, Xc1, Xc2, Xc3⟩, -, -, -, -⟩ := XB.out
  have hal := alloc_cell
  go_wp2_with fail
  refine (HIm.out _ _ _ _ _ _ _ (PH.out.ext ((Ext.refl _).alloc _)) (QH.out.ext ((Ext.refl _).alloc _))).mono ?_
  rintro e w8 ⟨rfl, hb⟩
  have E8 : Hid (Ext w w8) := (E7.out.alloc _).trans hb
  have AN : Hid (SBoxAt w8 w.heap.size (.slice an az.nodes.length acn) (.slice ae az.ses.length acs) (.int .i64 az.now) (.slice am az.marks.length acm)) := AB.out.ext (((Ext.refl _).alloc _).trans hb)
  have BN : Hid (SBoxAt w8 (w.heap.size + 1) (.slice bn bz.nodes.length bcn) (.slice be bz.ses.length bcs) (.int .i64 bz.now) (.slice bm bz.marks.length bcm)) := BB.out.ext (((Ext.refl _).alloc _).trans hb)
  have XN : Hid (SBoxAt w8 w6.heap.size (.slice ean az.nodes.length ebn) (.slice eae az.ses.length ebs) (.int .i64 az.now) (.slice eam az.marks.length ebm)) := XB.out.ext (((Ext.refl _).alloc _).trans hb)
  have PN : Hid (SSlice w8 (.slice ean az.nodes.length ebn) (.slice eae az.ses.length ebs) (.slice eam az.marks.length ebm) az) := PH.out.ext (((Ext.refl _).alloc _).trans hb)
  have QN : Hid (SSlice w8 (.slice fan bz.nodes.length fbn) (.slice fae bz.ses.length fbs) (.slice fam bz.marks.length fbm) bz) := QH.out.ext (((Ext.refl _).alloc _).trans hb)
  have YN0 := (sbox_new w7 (.slice fan bz.nodes.length fbn) (.slice fae bz.ses.length fbs) (.int .i64 bz.now) (.slice fam bz.marks.length fbm) _).ext hb
  have YN : Hid (SBoxAt w8 w7.heap.size (.slice fan bz.nodes.length fbn) (.slice fae bz.ses.length fbs) (.int .i64 bz.now) (.slice fam bz.marks.length fbm)) := by (try simp only [World.size_alloc] at YN0); exact YN0
  clear YN0
  clear hb AB BB XB PH QH E7 Xlt Xc0 Xc1 Xc2 Xc3 hal
  have AB := AN; clear AN
  have BB := BN; clear BN
  have XB := XN; clear XN
  have YB := YN; clear YN
  have PH := PN; clear PN
  have QH := QN; clear QN
  obtain ⟨Altw8, ⟨Ac0w8, Ac1w8, Ac2w8, Ac3w8⟩, -, -, -, -⟩ := AB.out
  obtain ⟨Xltw8, ⟨Xc0w8, Xc1w8, Xc2w8, Xc3w8⟩, -, -, -, -⟩ := XB.out
  go_wp2
  go_region_held3 (fun W => W.cell? ⟨w.heap.size, 0, none⟩ = some (.slice an az.nodes.length acn) ∧ W.cell? ⟨w.heap.size, 1, none⟩ = some (.slice ae az.ses.length acs) ∧ W.cell? ⟨w.heap.size, 2, none⟩ = some (.int .i64 az.now) ∧ W.cell? ⟨w.heap.size, 3, none⟩ = some (.slice am az.marks.length acm) ∧ W.cell? ⟨w6.heap.size, 0, none⟩ = some (.slice ean az.nodes.length ebn) ∧ W.cell? ⟨w6.heap.size, 1, none⟩ = some (.slice eae az.ses.length ebs) ∧ W.cell? ⟨w6.heap.size, 2, none⟩ = some (.int .i64 az.now) ∧ W.cell? ⟨w6.heap.size, 3, none⟩ = some (.slice eam az.marks.length ebm)) (first | exact ⟨Ac0w8, Ac1w8, Ac2w8, Ac3w8, Xc0w8, Xc1w8, Xc2w8, Xc3w8⟩ | exact ⟨Ac0w9, Ac1w9, Ac2w9, Ac3w9, Xc0w9, Xc1w9, Xc2w9, Xc3w9⟩ | exact ⟨Ac0w10, Ac1w10, Ac2w10, Ac3w10, Xc0w10, Xc1w10, Xc2w10, Xc3w10⟩ | go_keep) (first | (have tk9 := E8; clear tk9; go_at_call 12; refine (Ta.out _ (by first | exact E8.out.drew | exact E8.out)).mono ?_; rintro e w9 ⟨gan, gbn, gae, gbs, gam, gbm, rfl, hO, hb⟩; have X9 : Hid (Ext w8 w9) := (by first | exact ((Ext.refl _).drew).trans hb | exact hb); have E9 : Hid (Ext w w9) := E8.out.trans X9.out; have AN : Hid (SBoxAt w9 w.heap.size (.slice an az.nodes.length acn) (.slice ae az.ses.length acs) (.int .i64 az.now) (.slice am az.marks.length acm)) := AB.out.ext X9.out; have BN : Hid (SBoxAt w9 (w.heap.size + 1) (.slice bn bz.nodes.length bcn) (.slice be bz.ses.length bcs) (.int .i64 bz.now) (.slice bm bz.marks.length bcm)) := BB.out.ext X9.out; have XN : Hid (SBoxAt w9 w6.heap.size (.slice ean az.nodes.length ebn) (.slice eae az.ses.length ebs) (.int .i64 az.now) (.slice eam az.marks.length ebm)) := XB.out.ext X9.out; have YN : Hid (SBoxAt w9 w7.heap.size (.slice fan bz.nodes.length fbn) (.slice fae bz.ses.length fbs) (.int .i64 bz.now) (.slice fam bz.marks.length fbm)) := YB.out.ext X9.out; have PN : Hid (SSlice w9 (.slice ean az.nodes.length ebn) (.slice eae az.ses.length ebs) (.slice eam az.marks.length ebm) az) := PH.out.ext X9.out; have QN : Hid (SSlice w9 (.slice fan bz.nodes.length fbn) (.slice fae bz.ses.length fbs) (.slice fam bz.marks.length fbm) bz) := QH.out.ext X9.out; have ZN : Hid (SSlice w9 (.slice gan az.nodes.length gbn) (.slice gae az.ses.length gbs) (.slice gam az.marks.length gbm) az) := hO; clear hO; clear hb X9 E8 AB BB XB YB PH QH Altw8 Xltw8 Ac0w8 Ac1w8 Ac2w8 Ac3w8 Xc0w8 Xc1w8 Xc2w8 Xc3w8; have AB := AN; clear AN; have BB := BN; clear BN; have XB := XN; clear XN; have YB := YN; clear YN; have PH := PN; clear PN; have QH := QN; clear QN; have ZH := ZN; clear ZN; obtain ⟨Altw9, ⟨Ac0w9, Ac1w9, Ac2w9, Ac3w9⟩, -, -, -, -⟩ := AB.out; obtain ⟨Xltw9, ⟨Xc0w9, Xc1w9, Xc2w9, Xc3w9⟩, -, -, -, -⟩ := XB.out) | (have tk10 := E9; clear tk10; go_at_call 14; refine (HEa.out _ _ _ _ _ _ _ (PH.out.ext (by first | exact (Ext.refl _).drew | exact Ext.refl _)) (ZH.out.ext (by first | exact (Ext.refl _).drew | exact Ext.refl _))).mono ?_; rintro e w10 ⟨rfl, hb⟩; have X10 : Hid (Ext w9 w10) := (by first | exact ((Ext.refl _).drew).trans hb | exact hb); have E10 : Hid (Ext w w10) := E9.out.trans X10.out; have AN : Hid (SBoxAt w10 w.heap.size (.slice an az.nodes.length acn) (.slice ae az.ses.length acs) (.int .i64 az.now) (.slice am az.marks.length acm)) := AB.out.ext X10.out; have BN : Hid (SBoxAt w10 (w.heap.size + 1) (.slice bn bz.nodes.length bcn) (.slice be bz.ses.length bcs) (.int .i64 bz.now) (.slice bm bz.marks.length bcm)) := BB.out.ext X10.out; have XN : Hid (SBoxAt w10 w6.heap.size (.slice ean az.nodes.length ebn) (.slice eae az.ses.length ebs) (.int .i64 az.now) (.slice eam az.marks.length ebm)) := XB.out.ext X10.out; have YN : Hid (SBoxAt w10 w7.heap.size (.slice fan bz.nodes.length fbn) (.slice fae bz.ses.length fbs) (.int .i64 bz.now) (.slice fam bz.marks.length fbm)) := YB.out.ext X10.out; clear PH; clear ZH; have QN : Hid (SSlice w10 (.slice fan bz.nodes.length fbn) (.slice fae bz.ses.length fbs) (.slice fam bz.marks.length fbm) bz) := QH.out.ext X10.out; clear hb X10 E9 AB BB XB YB QH Altw9 Xltw9 Ac0w9 Ac1w9 Ac2w9 Ac3w9 Xc0w9 Xc1w9 Xc2w9 Xc3w9; have AB := AN; clear AN; have BB := BN; clear BN; have XB := XN; clear XN; have YB := YN; clear YN; have QH := QN; clear QN; obtain ⟨Altw10, ⟨Ac0w10, Ac1w10, Ac2w10, Ac3w10⟩, -, -, -, -⟩ := AB.out; obtain ⟨Xltw10, ⟨Xc0w10, Xc1w10, Xc2w10, Xc3w10⟩, -, -, -, -⟩ := XB.out))
  clear Altw10 Xltw10 Ac0w10 Ac1w10 Ac2w10 Ac3w10 Xc0w10 Xc1w10 Xc2w10 Xc3w10
  obtain ⟨Bltw10, ⟨Bc0w10, Bc1w10, Bc2w10, Bc3w10⟩, -, -, -, -⟩ := BB.out
  obtain ⟨Yltw10, ⟨Yc0w10, Yc1w10, Yc2w10, Yc3w10⟩, -, -, -, -⟩ := YB.out
  go_wp2
  go_region_held3 (fun W => W.cell? ⟨(w.heap.size + 1), 0, none⟩ = some (.slice bn bz.nodes.length bcn) ∧ W.cell? ⟨(w.heap.size + 1), 1, none⟩ = some (.slice be bz.ses.length bcs) ∧ W.cell? ⟨(w.heap.size + 1), 2, none⟩ = some (.int .i64 bz.now) ∧ W.cell? ⟨(w.heap.size + 1), 3, none⟩ = some (.slice bm bz.marks.length bcm) ∧ W.cell? ⟨w7.heap.size, 0, none⟩ = some (.slice fan bz.nodes.length fbn) ∧ W.cell? ⟨w7.heap.size, 1, none⟩ = some (.slice fae bz.ses.length fbs) ∧ W.cell? ⟨w7.heap.size, 2, none⟩ = some (.int .i64 bz.now) ∧ W.cell? ⟨w7.heap.size, 3, none⟩ = some (.slice fam bz.marks.length fbm)) (first | exact ⟨Bc0w10, Bc1w10, Bc2w10, Bc3w10, Yc0w10, Yc1w10, Yc2w10, Yc3w10⟩ | exact ⟨Bc0w11, Bc1w11, Bc2w11, Bc3w11, Yc0w11, Yc1w11, Yc2w11, Yc3w11⟩ | exact ⟨Bc0w12, Bc1w12, Bc2w12, Bc3w12, Yc0w12, Yc1w12, Yc2w12, Yc3w12⟩ | go_keep) (first | (have tk11 := E10; clear tk11; go_at_call 12; refine (Tb.out _ (by first | exact E10.out.drew | exact E10.out)).mono ?_; rintro e w11 ⟨han, hcn, hae, hcs, ham, hcm, rfl, hO, hb⟩; have X11 : Hid (Ext w10 w11) := (by first | exact ((Ext.refl _).drew).trans hb | exact hb); have E11 : Hid (Ext w w11) := E10.out.trans X11.out; have AN : Hid (SBoxAt w11 w.heap.size (.slice an az.nodes.length acn) (.slice ae az.ses.length acs) (.int .i64 az.now) (.slice am az.marks.length acm)) := AB.out.ext X11.out; have BN : Hid (SBoxAt w11 (w.heap.size + 1) (.slice bn bz.nodes.length bcn) (.slice be bz.ses.length bcs) (.int .i64 bz.now) (.slice bm bz.marks.length bcm)) := BB.out.ext X11.out; have XN : Hid (SBoxAt w11 w6.heap.size (.slice ean az.nodes.length ebn) (.slice eae az.ses.length ebs) (.int .i64 az.now) (.slice eam az.marks.length ebm)) := XB.out.ext X11.out; have YN : Hid (SBoxAt w11 w7.heap.size (.slice fan bz.nodes.length fbn) (.slice fae bz.ses.length fbs) (.int .i64 bz.now) (.slice fam bz.marks.length fbm)) := YB.out.ext X11.out; have QN : Hid (SSlice w11 (.slice fan bz.nodes.length fbn) (.slice fae bz.ses.length fbs) (.slice fam bz.marks.length fbm) bz) := QH.out.ext X11.out; have ZN : Hid (SSlice w11 (.slice han bz.nodes.length hcn) (.slice hae bz.ses.length hcs) (.slice ham bz.marks.length hcm) bz) := hO; clear hO; clear hb X11 E10 AB BB XB YB QH Bltw10 Yltw10 Bc0w10 Bc1w10 Bc2w10 Bc3w10 Yc0w10 Yc1w10 Yc2w10 Yc3w10; have AB := AN; clear AN; have BB := BN; clear BN; have XB := XN; clear XN; have YB := YN; clear YN; have QH := QN; clear QN; have ZH := ZN; clear ZN; obtain ⟨Bltw11, ⟨Bc0w11, Bc1w11, Bc2w11, Bc3w11⟩, -, -, -, -⟩ := BB.out; obtain ⟨Yltw11, ⟨Yc0w11, Yc1w11, Yc2w11, Yc3w11⟩, -, -, -, -⟩ := YB.out) | (have tk12 := E11; clear tk12; go_at_call 14; refine (HEb.out _ _ _ _ _ _ _ (QH.out.ext (by first | exact (Ext.refl _).drew | exact Ext.refl _)) (ZH.out.ext (by first | exact (Ext.refl _).drew | exact Ext.refl _))).mono ?_; rintro e w12 ⟨rfl, hb⟩; have X12 : Hid (Ext w11 w12) := (by first | exact ((Ext.refl _).drew).trans hb | exact hb); have E12 : Hid (Ext w w12) := E11.out.trans X12.out; have AN : Hid (SBoxAt w12 w.heap.size (.slice an az.nodes.length acn) (.slice ae az.ses.length acs) (.int .i64 az.now) (.slice am az.marks.length acm)) := AB.out.ext X12.out; have BN : Hid (SBoxAt w12 (w.heap.size + 1) (.slice bn bz.nodes.length bcn) (.slice be bz.ses.length bcs) (.int .i64 bz.now) (.slice bm bz.marks.length bcm)) := BB.out.ext X12.out; have XN : Hid (SBoxAt w12 w6.heap.size (.slice ean az.nodes.length ebn) (.slice eae az.ses.length ebs) (.int .i64 az.now) (.slice eam az.marks.length ebm)) := XB.out.ext X12.out; have YN : Hid (SBoxAt w12 w7.heap.size (.slice fan bz.nodes.length fbn) (.slice fae bz.ses.length fbs) (.int .i64 bz.now) (.slice fam bz.marks.length fbm)) := YB.out.ext X12.out; clear QH; clear ZH; clear hb X12 E11 AB BB XB YB Bltw11 Yltw11 Bc0w11 Bc1w11 Bc2w11 Bc3w11 Yc0w11 Yc1w11 Yc2w11 Yc3w11; have AB := AN; clear AN; have BB := BN; clear BN; have XB := XN; clear XN; have YB := YN; clear YN; obtain ⟨Bltw12, ⟨Bc0w12, Bc1w12, Bc2w12, Bc3w12⟩, -, -, -, -⟩ := BB.out; obtain ⟨Yltw12, ⟨Yc0w12, Yc1w12, Yc2w12, Yc3w12⟩, -, -, -, -⟩ := YB.out))
  go_wp2
  go_ret
  exact ⟨rfl, E12.out⟩
end Go.Proofs.Ytdjnkchaapcjpaa
