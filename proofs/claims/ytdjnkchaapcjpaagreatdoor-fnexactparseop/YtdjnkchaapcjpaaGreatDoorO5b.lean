/- operations: the program's OpFault, kind by kind (5, 6, 7, 8). -/
import Derived.Test.YtdjnkchaapcjpaaGreatDoorO4
import Derived.Deep.RegionHeld3
namespace Go.Proofs.YtdjnkchaapcjpaaGreatDoor
open Go.RowKit

set_option maxHeartbeats 4000000 in
set_option maxRecDepth 100000 in
theorem implOpFault_5 (p : ByteArray) (d v : Int) (s q : Bool) (w : World) (hg : Gd w) :
    Calls Tryz.prog 28 #[oagg ⟨5, p, d, v, s, q⟩] w fun e w' => e = .returned (.int .i64 (Opr.fault ⟨5, p, d, v, s, q⟩)) ∧ Ext w w' := by
  obtain ⟨R, hR⟩ : ∃ R, R = Opr.fault ⟨5, p, d, v, s, q⟩ := ⟨_, rfl⟩
  have HR : Hid (R = Opr.fault ⟨5, p, d, v, s, q⟩) := hR
  rw [← hR]
  clear hR
  have HG : Hid (Gd w) := hg
  clear hg
  cases hs : s with
  | false =>
    subst hs
    cases hq : q with
    | false =>
      subst hq
      obtain ⟨c, hc⟩ : ∃ c, c = Pth.faultI p.data.toList := ⟨_, rfl⟩
      have HC : Hid (c = Pth.faultI p.data.toList) := hc
      have HPF : Hid (∀ wx : World, Ext w wx → Calls Tryz.prog 77 #[.string p] wx fun e w' => e = .returned (.int .i64 c) ∧ Ext wx w') := by rw [hc]; exact fun wx he => pathFault_any p wx (HG.out.ext he)
      clear hc
      by_cases hc0 : c ≠ 0
      · have hcb : (c != 0) = true := by simpa using hc0
        have HF : Hid (R = c) := HR.out.trans (Opr.fault_path (o := ⟨5, p, d, v, false, false⟩) (by show (1 : Int) ≤ 5; decide) (by show (5 : Int) ≤ 8; decide) (by simp [Opr.extra, Opr.hasPath, Opr.hasData, Opr.hasVer]) rfl HC.out hc0)
        have HBK : Hid (∀ wx : World, Calls Tryz.prog 75 #[oagg ⟨5, p, d, v, false, false⟩] wx fun e w' => e = .returned (oagg ⟨5, ⟨#[]⟩, 0, 0, false, false⟩) ∧ Ext wx w') := beyondKind_5 p d v false false
        have HOS : Hid (∀ wx : World, Calls Tryz.prog 76 #[oagg ⟨5, p, d, v, false, false⟩] wx fun e w' => e = .returned (.bool false) ∧ Ext wx w') := isOfSession_any ⟨5, p, d, v, false, false⟩
        have CW : Hid (∀ wx : World, Calls Tryz.prog 74 #[.int .i64 5, .int .i64 1, .int .i64 8] wx fun e w' => e = .returned (.bool true) ∧ w' = wx) := isWithin_any 5 1 8
        have HX1 : Hid (OBoxAt (w.alloc (.cells #[.int .i64 5, .string p, .int .i64 d, .int .i64 v, .bool false, .bool false] 49)) w.heap.size ⟨5, p, d, v, false, false⟩) := obox_new w ⟨5, p, d, v, false, false⟩ _
        have HB1 : Hid (Ext w (w.alloc (.cells #[.int .i64 5, .string p, .int .i64 d, .int .i64 v, .bool false, .bool false] 49))) := (Ext.refl _).alloc _
        unfold oagg at HBK HOS ⊢
        go_enter Tryz.func28, Tryz.ntmps28
        go_wp2
        generalize w.alloc (.cells #[.int .i64 5, .string p, .int .i64 d, .int .i64 v, .bool false, .bool false] 49) = w1 at *
        obtain ⟨x1, z0, z1, z2, z3, z4, z5⟩ := HX1.out
        generalize w.heap.size = bx at *
        go_region_held3 (fun W => W.cell? ⟨bx, 0, none⟩ = some (.int .i64 5) ∧ W.cell? ⟨bx, 1, none⟩ = some (.string p) ∧ W.cell? ⟨bx, 2, none⟩ = some (.int .i64 d) ∧ W.cell? ⟨bx, 3, none⟩ = some (.int .i64 v) ∧ W.cell? ⟨bx, 4, none⟩ = some (.bool false) ∧ W.cell? ⟨bx, 5, none⟩ = some (.bool false)) (first | exact ⟨z0, z1, z2, z3, z4, z5⟩ | exact ⟨y0, y1, y2, y3, y4, y5⟩ | go_keep) (first | (go_at_call 74; refine (CW.out _).mono ?_; rintro e w9 ⟨rfl, hw9⟩; rw [hw9]; clear hw9 w9; (try rw [HBd.out]); (try rw [HBv.out])) | (go_at_call 75; refine (HBK.out _).mono ?_; rintro e w2 ⟨rfl, hb2⟩; have X2 : Hid (Ext w1 w2) := (by first | exact ((Ext.refl _).drew).trans hb2 | exact hb2); have HB2 : Hid (Ext w w2) := HB1.out.trans X2.out; have HX2 : Hid (OBoxAt w2 bx ⟨5, p, d, v, false, false⟩) := HX1.out.ext X2.out; clear hb2 X2 HX1 HB1 x1 z0 z1 z2 z3 z4 z5; obtain ⟨x2, y0, y1, y2, y3, y4, y5⟩ := HX2.out))
        go_wp2_with fail
        refine (HOS.out _).mono ?_
        rintro e w3 ⟨rfl, hb3⟩
        have HB3 : Hid (Ext w w3) := HB2.out.trans hb3
        have HX3 : Hid (OBoxAt w3 bx ⟨5, p, d, v, false, false⟩) := HX2.out.ext hb3
        clear hb3 HX2 HB2 x2 y0 y1 y2 y3 y4 y5
        obtain ⟨x3, y0, y1, y2, y3, y4, y5⟩ := HX3.out
        go_wp2_with fail
        refine (HPF.out _ HB3.out).mono ?_
        rintro e w4 ⟨rfl, hb4⟩
        have HB4 : Hid (Ext w w4) := HB3.out.trans hb4
        have HX4 : Hid (OBoxAt w4 bx ⟨5, p, d, v, false, false⟩) := HX3.out.ext hb4
        clear hb4 HX3 HB3 x3 y0 y1 y2 y3 y4 y5
        go_wp2
        go_ret
        exact ⟨ret_int HF.out.symm, HB4.out⟩
      have hc1 : c = 0 := by omega
      subst hc1
      clear hc0
      by_cases ld : d < 0
      · have HF : Hid (R = 3) := HR.out.trans (Opr.fault_range (o := ⟨5, p, d, v, false, false⟩) (by show (1 : Int) ≤ 5; decide) (by show (5 : Int) ≤ 8; decide) (by simp [Opr.extra, Opr.hasPath, Opr.hasData, Opr.hasVer]) (Or.inr HC.out.symm) (by simp [Opr.inR]; try omega))
        have HBd : Hid ((decide (0 ≤ d) && decide (d ≤ 9999)) = false) := by unfold Hid; simp; omega
        have HBK : Hid (∀ wx : World, Calls Tryz.prog 75 #[oagg ⟨5, p, d, v, false, false⟩] wx fun e w' => e = .returned (oagg ⟨5, ⟨#[]⟩, 0, 0, false, false⟩) ∧ Ext wx w') := beyondKind_5 p d v false false
        have HOS : Hid (∀ wx : World, Calls Tryz.prog 76 #[oagg ⟨5, p, d, v, false, false⟩] wx fun e w' => e = .returned (.bool false) ∧ Ext wx w') := isOfSession_any ⟨5, p, d, v, false, false⟩
        have CW : Hid (∀ wx : World, Calls Tryz.prog 74 #[.int .i64 5, .int .i64 1, .int .i64 8] wx fun e w' => e = .returned (.bool true) ∧ w' = wx) := isWithin_any 5 1 8
        have HX1 : Hid (OBoxAt (w.alloc (.cells #[.int .i64 5, .string p, .int .i64 d, .int .i64 v, .bool false, .bool false] 49)) w.heap.size ⟨5, p, d, v, false, false⟩) := obox_new w ⟨5, p, d, v, false, false⟩ _
        have HB1 : Hid (Ext w (w.alloc (.cells #[.int .i64 5, .string p, .int .i64 d, .int .i64 v, .bool false, .bool false] 49))) := (Ext.refl _).alloc _
        unfold oagg at HBK HOS ⊢
        go_enter Tryz.func28, Tryz.ntmps28
        go_wp2
        generalize w.alloc (.cells #[.int .i64 5, .string p, .int .i64 d, .int .i64 v, .bool false, .bool false] 49) = w1 at *
        obtain ⟨x1, z0, z1, z2, z3, z4, z5⟩ := HX1.out
        generalize w.heap.size = bx at *
        go_region_held3 (fun W => W.cell? ⟨bx, 0, none⟩ = some (.int .i64 5) ∧ W.cell? ⟨bx, 1, none⟩ = some (.string p) ∧ W.cell? ⟨bx, 2, none⟩ = some (.int .i64 d) ∧ W.cell? ⟨bx, 3, none⟩ = some (.int .i64 v) ∧ W.cell? ⟨bx, 4, none⟩ = some (.bool false) ∧ W.cell? ⟨bx, 5, none⟩ = some (.bool false)) (first | exact ⟨z0, z1, z2, z3, z4, z5⟩ | exact ⟨y0, y1, y2, y3, y4, y5⟩ | go_keep) (first | (go_at_call 74; refine (CW.out _).mono ?_; rintro e w9 ⟨rfl, hw9⟩; rw [hw9]; clear hw9 w9; (try rw [HBd.out]); (try rw [HBv.out])) | (go_at_call 75; refine (HBK.out _).mono ?_; rintro e w2 ⟨rfl, hb2⟩; have X2 : Hid (Ext w1 w2) := (by first | exact ((Ext.refl _).drew).trans hb2 | exact hb2); have HB2 : Hid (Ext w w2) := HB1.out.trans X2.out; have HX2 : Hid (OBoxAt w2 bx ⟨5, p, d, v, false, false⟩) := HX1.out.ext X2.out; clear hb2 X2 HX1 HB1 x1 z0 z1 z2 z3 z4 z5; obtain ⟨x2, y0, y1, y2, y3, y4, y5⟩ := HX2.out))
        go_wp2_with fail
        refine (HOS.out _).mono ?_
        rintro e w3 ⟨rfl, hb3⟩
        have HB3 : Hid (Ext w w3) := HB2.out.trans hb3
        have HX3 : Hid (OBoxAt w3 bx ⟨5, p, d, v, false, false⟩) := HX2.out.ext hb3
        clear hb3 HX2 HB2 x2 y0 y1 y2 y3 y4 y5
        obtain ⟨x3, y0, y1, y2, y3, y4, y5⟩ := HX3.out
        go_wp2_with fail
        refine (HPF.out _ HB3.out).mono ?_
        rintro e w4 ⟨rfl, hb4⟩
        have HB4 : Hid (Ext w w4) := HB3.out.trans hb4
        have HX4 : Hid (OBoxAt w4 bx ⟨5, p, d, v, false, false⟩) := HX3.out.ext hb4
        clear hb4 HX3 HB3 x3 y0 y1 y2 y3 y4 y5
        obtain ⟨x4, y0, y1, y2, y3, y4, y5⟩ := HX4.out
        go_wp2_with (first | (go_at_call 74; refine (isWithin_any _ _ _ _).mono ?_; rintro e w9 ⟨rfl, hw9⟩; rw [hw9]; clear hw9 w9; (try rw [HBd.out]); (try rw [HBv.out])) | (go_at_call 49; refine (isUpToO_any _ _ _).mono ?_; rintro e w9 ⟨rfl, hw9⟩; rw [hw9]; clear hw9 w9; (try rw [HBd.out]); (try rw [HBv.out])))
        go_ret
        exact ⟨ret_int HF.out.symm, HB4.out⟩
      by_cases gd : 9999 < d
      · have HF : Hid (R = 3) := HR.out.trans (Opr.fault_range (o := ⟨5, p, d, v, false, false⟩) (by show (1 : Int) ≤ 5; decide) (by show (5 : Int) ≤ 8; decide) (by simp [Opr.extra, Opr.hasPath, Opr.hasData, Opr.hasVer]) (Or.inr HC.out.symm) (by simp [Opr.inR]; try omega))
        have HBd : Hid ((decide (0 ≤ d) && decide (d ≤ 9999)) = false) := by unfold Hid; simp; omega
        have HBK : Hid (∀ wx : World, Calls Tryz.prog 75 #[oagg ⟨5, p, d, v, false, false⟩] wx fun e w' => e = .returned (oagg ⟨5, ⟨#[]⟩, 0, 0, false, false⟩) ∧ Ext wx w') := beyondKind_5 p d v false false
        have HOS : Hid (∀ wx : World, Calls Tryz.prog 76 #[oagg ⟨5, p, d, v, false, false⟩] wx fun e w' => e = .returned (.bool false) ∧ Ext wx w') := isOfSession_any ⟨5, p, d, v, false, false⟩
        have CW : Hid (∀ wx : World, Calls Tryz.prog 74 #[.int .i64 5, .int .i64 1, .int .i64 8] wx fun e w' => e = .returned (.bool true) ∧ w' = wx) := isWithin_any 5 1 8
        have HX1 : Hid (OBoxAt (w.alloc (.cells #[.int .i64 5, .string p, .int .i64 d, .int .i64 v, .bool false, .bool false] 49)) w.heap.size ⟨5, p, d, v, false, false⟩) := obox_new w ⟨5, p, d, v, false, false⟩ _
        have HB1 : Hid (Ext w (w.alloc (.cells #[.int .i64 5, .string p, .int .i64 d, .int .i64 v, .bool false, .bool false] 49))) := (Ext.refl _).alloc _
        unfold oagg at HBK HOS ⊢
        go_enter Tryz.func28, Tryz.ntmps28
        go_wp2
        generalize w.alloc (.cells #[.int .i64 5, .string p, .int .i64 d, .int .i64 v, .bool false, .bool false] 49) = w1 at *
        obtain ⟨x1, z0, z1, z2, z3, z4, z5⟩ := HX1.out
        generalize w.heap.size = bx at *
        go_region_held3 (fun W => W.cell? ⟨bx, 0, none⟩ = some (.int .i64 5) ∧ W.cell? ⟨bx, 1, none⟩ = some (.string p) ∧ W.cell? ⟨bx, 2, none⟩ = some (.int .i64 d) ∧ W.cell? ⟨bx, 3, none⟩ = some (.int .i64 v) ∧ W.cell? ⟨bx, 4, none⟩ = some (.bool false) ∧ W.cell? ⟨bx, 5, none⟩ = some (.bool false)) (first | exact ⟨z0, z1, z2, z3, z4, z5⟩ | exact ⟨y0, y1, y2, y3, y4, y5⟩ | go_keep) (first | (go_at_call 74; refine (CW.out _).mono ?_; rintro e w9 ⟨rfl, hw9⟩; rw [hw9]; clear hw9 w9; (try rw [HBd.out]); (try rw [HBv.out])) | (go_at_call 75; refine (HBK.out _).mono ?_; rintro e w2 ⟨rfl, hb2⟩; have X2 : Hid (Ext w1 w2) := (by first | exact ((Ext.refl _).drew).trans hb2 | exact hb2); have HB2 : Hid (Ext w w2) := HB1.out.trans X2.out; have HX2 : Hid (OBoxAt w2 bx ⟨5, p, d, v, false, false⟩) := HX1.out.ext X2.out; clear hb2 X2 HX1 HB1 x1 z0 z1 z2 z3 z4 z5; obtain ⟨x2, y0, y1, y2, y3, y4, y5⟩ := HX2.out))
        go_wp2_with fail
        refine (HOS.out _).mono ?_
        rintro e w3 ⟨rfl, hb3⟩
        have HB3 : Hid (Ext w w3) := HB2.out.trans hb3
        have HX3 : Hid (OBoxAt w3 bx ⟨5, p, d, v, false, false⟩) := HX2.out.ext hb3
        clear hb3 HX2 HB2 x2 y0 y1 y2 y3 y4 y5
        obtain ⟨x3, y0, y1, y2, y3, y4, y5⟩ := HX3.out
        go_wp2_with fail
        refine (HPF.out _ HB3.out).mono ?_
        rintro e w4 ⟨rfl, hb4⟩
        have HB4 : Hid (Ext w w4) := HB3.out.trans hb4
        have HX4 : Hid (OBoxAt w4 bx ⟨5, p, d, v, false, false⟩) := HX3.out.ext hb4
        clear hb4 HX3 HB3 x3 y0 y1 y2 y3 y4 y5
        obtain ⟨x4, y0, y1, y2, y3, y4, y5⟩ := HX4.out
        go_wp2_with (first | (go_at_call 74; refine (isWithin_any _ _ _ _).mono ?_; rintro e w9 ⟨rfl, hw9⟩; rw [hw9]; clear hw9 w9; (try rw [HBd.out]); (try rw [HBv.out])) | (go_at_call 49; refine (isUpToO_any _ _ _).mono ?_; rintro e w9 ⟨rfl, hw9⟩; rw [hw9]; clear hw9 w9; (try rw [HBd.out]); (try rw [HBv.out])))
        go_ret
        exact ⟨ret_int HF.out.symm, HB4.out⟩
      have ld' : 0 ≤ d := by omega
      have gd' : d ≤ 9999 := by omega
      by_cases lv : v < -1
      · have HF : Hid (R = 3) := HR.out.trans (Opr.fault_range (o := ⟨5, p, d, v, false, false⟩) (by show (1 : Int) ≤ 5; decide) (by show (5 : Int) ≤ 8; decide) (by simp [Opr.extra, Opr.hasPath, Opr.hasData, Opr.hasVer]) (Or.inr HC.out.symm) (by simp [Opr.inR]; try omega))
        have HBd : Hid ((decide (0 ≤ d) && decide (d ≤ 9999)) = true) := by unfold Hid; simp; omega
        clear ld' gd'
        have HBv : Hid ((decide (-1 ≤ v) && decide (v ≤ 999)) = false) := by unfold Hid; simp; omega
        have HBK : Hid (∀ wx : World, Calls Tryz.prog 75 #[oagg ⟨5, p, d, v, false, false⟩] wx fun e w' => e = .returned (oagg ⟨5, ⟨#[]⟩, 0, 0, false, false⟩) ∧ Ext wx w') := beyondKind_5 p d v false false
        have HOS : Hid (∀ wx : World, Calls Tryz.prog 76 #[oagg ⟨5, p, d, v, false, false⟩] wx fun e w' => e = .returned (.bool false) ∧ Ext wx w') := isOfSession_any ⟨5, p, d, v, false, false⟩
        have CW : Hid (∀ wx : World, Calls Tryz.prog 74 #[.int .i64 5, .int .i64 1, .int .i64 8] wx fun e w' => e = .returned (.bool true) ∧ w' = wx) := isWithin_any 5 1 8
        have HX1 : Hid (OBoxAt (w.alloc (.cells #[.int .i64 5, .string p, .int .i64 d, .int .i64 v, .bool false, .bool false] 49)) w.heap.size ⟨5, p, d, v, false, false⟩) := obox_new w ⟨5, p, d, v, false, false⟩ _
        have HB1 : Hid (Ext w (w.alloc (.cells #[.int .i64 5, .string p, .int .i64 d, .int .i64 v, .bool false, .bool false] 49))) := (Ext.refl _).alloc _
        unfold oagg at HBK HOS ⊢
        go_enter Tryz.func28, Tryz.ntmps28
        go_wp2
        generalize w.alloc (.cells #[.int .i64 5, .string p, .int .i64 d, .int .i64 v, .bool false, .bool false] 49) = w1 at *
        obtain ⟨x1, z0, z1, z2, z3, z4, z5⟩ := HX1.out
        generalize w.heap.size = bx at *
        go_region_held3 (fun W => W.cell? ⟨bx, 0, none⟩ = some (.int .i64 5) ∧ W.cell? ⟨bx, 1, none⟩ = some (.string p) ∧ W.cell? ⟨bx, 2, none⟩ = some (.int .i64 d) ∧ W.cell? ⟨bx, 3, none⟩ = some (.int .i64 v) ∧ W.cell? ⟨bx, 4, none⟩ = some (.bool false) ∧ W.cell? ⟨bx, 5, none⟩ = some (.bool false)) (first | exact ⟨z0, z1, z2, z3, z4, z5⟩ | exact ⟨y0, y1, y2, y3, y4, y5⟩ | go_keep) (first | (go_at_call 74; refine (CW.out _).mono ?_; rintro e w9 ⟨rfl, hw9⟩; rw [hw9]; clear hw9 w9; (try rw [HBd.out]); (try rw [HBv.out])) | (go_at_call 75; refine (HBK.out _).mono ?_; rintro e w2 ⟨rfl, hb2⟩; have X2 : Hid (Ext w1 w2) := (by first | exact ((Ext.refl _).drew).trans hb2 | exact hb2); have HB2 : Hid (Ext w w2) := HB1.out.trans X2.out; have HX2 : Hid (OBoxAt w2 bx ⟨5, p, d, v, false, false⟩) := HX1.out.ext X2.out; clear hb2 X2 HX1 HB1 x1 z0 z1 z2 z3 z4 z5; obtain ⟨x2, y0, y1, y2, y3, y4, y5⟩ := HX2.out))
        go_wp2_with fail
        refine (HOS.out _).mono ?_
        rintro e w3 ⟨rfl, hb3⟩
        have HB3 : Hid (Ext w w3) := HB2.out.trans hb3
        have HX3 : Hid (OBoxAt w3 bx ⟨5, p, d, v, false, false⟩) := HX2.out.ext hb3
        clear hb3 HX2 HB2 x2 y0 y1 y2 y3 y4 y5
        obtain ⟨x3, y0, y1, y2, y3, y4, y5⟩ := HX3.out
        go_wp2_with fail
        refine (HPF.out _ HB3.out).mono ?_
        rintro e w4 ⟨rfl, hb4⟩
        have HB4 : Hid (Ext w w4) := HB3.out.trans hb4
        have HX4 : Hid (OBoxAt w4 bx ⟨5, p, d, v, false, false⟩) := HX3.out.ext hb4
        clear hb4 HX3 HB3 x3 y0 y1 y2 y3 y4 y5
        obtain ⟨x4, y0, y1, y2, y3, y4, y5⟩ := HX4.out
        go_wp2_with (first | (go_at_call 74; refine (isWithin_any _ _ _ _).mono ?_; rintro e w9 ⟨rfl, hw9⟩; rw [hw9]; clear hw9 w9; (try rw [HBd.out]); (try rw [HBv.out])) | (go_at_call 49; refine (isUpToO_any _ _ _).mono ?_; rintro e w9 ⟨rfl, hw9⟩; rw [hw9]; clear hw9 w9; (try rw [HBd.out]); (try rw [HBv.out])))
        go_ret
        exact ⟨ret_int HF.out.symm, HB4.out⟩
      by_cases gv : 999 < v
      · have HF : Hid (R = 3) := HR.out.trans (Opr.fault_range (o := ⟨5, p, d, v, false, false⟩) (by show (1 : Int) ≤ 5; decide) (by show (5 : Int) ≤ 8; decide) (by simp [Opr.extra, Opr.hasPath, Opr.hasData, Opr.hasVer]) (Or.inr HC.out.symm) (by simp [Opr.inR]; try omega))
        have HBd : Hid ((decide (0 ≤ d) && decide (d ≤ 9999)) = true) := by unfold Hid; simp; omega
        clear ld' gd'
        have HBv : Hid ((decide (-1 ≤ v) && decide (v ≤ 999)) = false) := by unfold Hid; simp; omega
        have HBK : Hid (∀ wx : World, Calls Tryz.prog 75 #[oagg ⟨5, p, d, v, false, false⟩] wx fun e w' => e = .returned (oagg ⟨5, ⟨#[]⟩, 0, 0, false, false⟩) ∧ Ext wx w') := beyondKind_5 p d v false false
        have HOS : Hid (∀ wx : World, Calls Tryz.prog 76 #[oagg ⟨5, p, d, v, false, false⟩] wx fun e w' => e = .returned (.bool false) ∧ Ext wx w') := isOfSession_any ⟨5, p, d, v, false, false⟩
        have CW : Hid (∀ wx : World, Calls Tryz.prog 74 #[.int .i64 5, .int .i64 1, .int .i64 8] wx fun e w' => e = .returned (.bool true) ∧ w' = wx) := isWithin_any 5 1 8
        have HX1 : Hid (OBoxAt (w.alloc (.cells #[.int .i64 5, .string p, .int .i64 d, .int .i64 v, .bool false, .bool false] 49)) w.heap.size ⟨5, p, d, v, false, false⟩) := obox_new w ⟨5, p, d, v, false, false⟩ _
        have HB1 : Hid (Ext w (w.alloc (.cells #[.int .i64 5, .string p, .int .i64 d, .int .i64 v, .bool false, .bool false] 49))) := (Ext.refl _).alloc _
        unfold oagg at HBK HOS ⊢
        go_enter Tryz.func28, Tryz.ntmps28
        go_wp2
        generalize w.alloc (.cells #[.int .i64 5, .string p, .int .i64 d, .int .i64 v, .bool false, .bool false] 49) = w1 at *
        obtain ⟨x1, z0, z1, z2, z3, z4, z5⟩ := HX1.out
        generalize w.heap.size = bx at *
        go_region_held3 (fun W => W.cell? ⟨bx, 0, none⟩ = some (.int .i64 5) ∧ W.cell? ⟨bx, 1, none⟩ = some (.string p) ∧ W.cell? ⟨bx, 2, none⟩ = some (.int .i64 d) ∧ W.cell? ⟨bx, 3, none⟩ = some (.int .i64 v) ∧ W.cell? ⟨bx, 4, none⟩ = some (.bool false) ∧ W.cell? ⟨bx, 5, none⟩ = some (.bool false)) (first | exact ⟨z0, z1, z2, z3, z4, z5⟩ | exact ⟨y0, y1, y2, y3, y4, y5⟩ | go_keep) (first | (go_at_call 74; refine (CW.out _).mono ?_; rintro e w9 ⟨rfl, hw9⟩; rw [hw9]; clear hw9 w9; (try rw [HBd.out]); (try rw [HBv.out])) | (go_at_call 75; refine (HBK.out _).mono ?_; rintro e w2 ⟨rfl, hb2⟩; have X2 : Hid (Ext w1 w2) := (by first | exact ((Ext.refl _).drew).trans hb2 | exact hb2); have HB2 : Hid (Ext w w2) := HB1.out.trans X2.out; have HX2 : Hid (OBoxAt w2 bx ⟨5, p, d, v, false, false⟩) := HX1.out.ext X2.out; clear hb2 X2 HX1 HB1 x1 z0 z1 z2 z3 z4 z5; obtain ⟨x2, y0, y1, y2, y3, y4, y5⟩ := HX2.out))
        go_wp2_with fail
        refine (HOS.out _).mono ?_
        rintro e w3 ⟨rfl, hb3⟩
        have HB3 : Hid (Ext w w3) := HB2.out.trans hb3
        have HX3 : Hid (OBoxAt w3 bx ⟨5, p, d, v, false, false⟩) := HX2.out.ext hb3
        clear hb3 HX2 HB2 x2 y0 y1 y2 y3 y4 y5
        obtain ⟨x3, y0, y1, y2, y3, y4, y5⟩ := HX3.out
        go_wp2_with fail
        refine (HPF.out _ HB3.out).mono ?_
        rintro e w4 ⟨rfl, hb4⟩
        have HB4 : Hid (Ext w w4) := HB3.out.trans hb4
        have HX4 : Hid (OBoxAt w4 bx ⟨5, p, d, v, false, false⟩) := HX3.out.ext hb4
        clear hb4 HX3 HB3 x3 y0 y1 y2 y3 y4 y5
        obtain ⟨x4, y0, y1, y2, y3, y4, y5⟩ := HX4.out
        go_wp2_with (first | (go_at_call 74; refine (isWithin_any _ _ _ _).mono ?_; rintro e w9 ⟨rfl, hw9⟩; rw [hw9]; clear hw9 w9; (try rw [HBd.out]); (try rw [HBv.out])) | (go_at_call 49; refine (isUpToO_any _ _ _).mono ?_; rintro e w9 ⟨rfl, hw9⟩; rw [hw9]; clear hw9 w9; (try rw [HBd.out]); (try rw [HBv.out])))
        go_ret
        exact ⟨ret_int HF.out.symm, HB4.out⟩
      have lv' : -1 ≤ v := by omega
      have gv' : v ≤ 999 := by omega
      have HF : Hid (R = 0) := HR.out.trans (Opr.fault_ok (o := ⟨5, p, d, v, false, false⟩) (by show (1 : Int) ≤ 5; decide) (by show (5 : Int) ≤ 8; decide) (by simp [Opr.extra, Opr.hasPath, Opr.hasData, Opr.hasVer]) (Or.inr HC.out.symm) (by simp [Opr.inR]; try omega))
      have HBd : Hid ((decide (0 ≤ d) && decide (d ≤ 9999)) = true) := by unfold Hid; simp; omega
      clear ld' gd'
      have HBv : Hid ((decide (-1 ≤ v) && decide (v ≤ 999)) = true) := by unfold Hid; simp; omega
      clear lv' gv'
      have HBK : Hid (∀ wx : World, Calls Tryz.prog 75 #[oagg ⟨5, p, d, v, false, false⟩] wx fun e w' => e = .returned (oagg ⟨5, ⟨#[]⟩, 0, 0, false, false⟩) ∧ Ext wx w') := beyondKind_5 p d v false false
      have HOS : Hid (∀ wx : World, Calls Tryz.prog 76 #[oagg ⟨5, p, d, v, false, false⟩] wx fun e w' => e = .returned (.bool false) ∧ Ext wx w') := isOfSession_any ⟨5, p, d, v, false, false⟩
      have CW : Hid (∀ wx : World, Calls Tryz.prog 74 #[.int .i64 5, .int .i64 1, .int .i64 8] wx fun e w' => e = .returned (.bool true) ∧ w' = wx) := isWithin_any 5 1 8
      have HX1 : Hid (OBoxAt (w.alloc (.cells #[.int .i64 5, .string p, .int .i64 d, .int .i64 v, .bool false, .bool false] 49)) w.heap.size ⟨5, p, d, v, false, false⟩) := obox_new w ⟨5, p, d, v, false, false⟩ _
      have HB1 : Hid (Ext w (w.alloc (.cells #[.int .i64 5, .string p, .int .i64 d, .int .i64 v, .bool false, .bool false] 49))) := (Ext.refl _).alloc _
      unfold oagg at HBK HOS ⊢
      go_enter Tryz.func28, Tryz.ntmps28
      go_wp2
      generalize w.alloc (.cells #[.int .i64 5, .string p, .int .i64 d, .int .i64 v, .bool false, .bool false] 49) = w1 at *
      obtain ⟨x1, z0, z1, z2, z3, z4, z5⟩ := HX1.out
      generalize w.heap.size = bx at *
      go_region_held3 (fun W => W.cell? ⟨bx, 0, none⟩ = some (.int .i64 5) ∧ W.cell? ⟨bx, 1, none⟩ = some (.string p) ∧ W.cell? ⟨bx, 2, none⟩ = some (.int .i64 d) ∧ W.cell? ⟨bx, 3, none⟩ = some (.int .i64 v) ∧ W.cell? ⟨bx, 4, none⟩ = some (.bool false) ∧ W.cell? ⟨bx, 5, none⟩ = some (.bool false)) (first | exact ⟨z0, z1, z2, z3, z4, z5⟩ | exact ⟨y0, y1, y2, y3, y4, y5⟩ | go_keep) (first | (go_at_call 74; refine (CW.out _).mono ?_; rintro e w9 ⟨rfl, hw9⟩; rw [hw9]; clear hw9 w9; (try rw [HBd.out]); (try rw [HBv.out])) | (go_at_call 75; refine (HBK.out _).mono ?_; rintro e w2 ⟨rfl, hb2⟩; have X2 : Hid (Ext w1 w2) := (by first | exact ((Ext.refl _).drew).trans hb2 | exact hb2); have HB2 : Hid (Ext w w2) := HB1.out.trans X2.out; have HX2 : Hid (OBoxAt w2 bx ⟨5, p, d, v, false, false⟩) := HX1.out.ext X2.out; clear hb2 X2 HX1 HB1 x1 z0 z1 z2 z3 z4 z5; obtain ⟨x2, y0, y1, y2, y3, y4, y5⟩ := HX2.out))
      go_wp2_with fail
      refine (HOS.out _).mono ?_
      rintro e w3 ⟨rfl, hb3⟩
      have HB3 : Hid (Ext w w3) := HB2.out.trans hb3
      have HX3 : Hid (OBoxAt w3 bx ⟨5, p, d, v, false, false⟩) := HX2.out.ext hb3
      clear hb3 HX2 HB2 x2 y0 y1 y2 y3 y4 y5
      obtain ⟨x3, y0, y1, y2, y3, y4, y5⟩ := HX3.out
      go_wp2_with fail
      refine (HPF.out _ HB3.out).mono ?_
      rintro e w4 ⟨rfl, hb4⟩
      have HB4 : Hid (Ext w w4) := HB3.out.trans hb4
      have HX4 : Hid (OBoxAt w4 bx ⟨5, p, d, v, false, false⟩) := HX3.out.ext hb4
      clear hb4 HX3 HB3 x3 y0 y1 y2 y3 y4 y5
      obtain ⟨x4, y0, y1, y2, y3, y4, y5⟩ := HX4.out
      go_wp2_with (first | (go_at_call 74; refine (isWithin_any _ _ _ _).mono ?_; rintro e w9 ⟨rfl, hw9⟩; rw [hw9]; clear hw9 w9; (try rw [HBd.out]); (try rw [HBv.out])) | (go_at_call 49; refine (isUpToO_any _ _ _).mono ?_; rintro e w9 ⟨rfl, hw9⟩; rw [hw9]; clear hw9 w9; (try rw [HBd.out]); (try rw [HBv.out])))
      go_ret
      exact ⟨ret_int HF.out.symm, HB4.out⟩
    | true =>
      subst hq
      have HF : Hid (R = 1) := HR.out.trans (Opr.fault_extra (o := ⟨5, p, d, v, false, true⟩) (by simp [Opr.extra, Opr.hasPath, Opr.hasData, Opr.hasVer]))
      have HBK : Hid (∀ wx : World, Calls Tryz.prog 75 #[oagg ⟨5, p, d, v, false, true⟩] wx fun e w' => e = .returned (oagg ⟨5, ⟨#[]⟩, 0, 0, false, true⟩) ∧ Ext wx w') := beyondKind_5 p d v false true
      have HOS : Hid (∀ wx : World, Calls Tryz.prog 76 #[oagg ⟨5, p, d, v, false, true⟩] wx fun e w' => e = .returned (.bool false) ∧ Ext wx w') := isOfSession_any ⟨5, p, d, v, false, true⟩
      have CW : Hid (∀ wx : World, Calls Tryz.prog 74 #[.int .i64 5, .int .i64 1, .int .i64 8] wx fun e w' => e = .returned (.bool true) ∧ w' = wx) := isWithin_any 5 1 8
      have HX1 : Hid (OBoxAt (w.alloc (.cells #[.int .i64 5, .string p, .int .i64 d, .int .i64 v, .bool false, .bool true] 49)) w.heap.size ⟨5, p, d, v, false, true⟩) := obox_new w ⟨5, p, d, v, false, true⟩ _
      have HB1 : Hid (Ext w (w.alloc (.cells #[.int .i64 5, .string p, .int .i64 d, .int .i64 v, .bool false, .bool true] 49))) := (Ext.refl _).alloc _
      unfold oagg at HBK HOS ⊢
      go_enter Tryz.func28, Tryz.ntmps28
      go_wp2
      generalize w.alloc (.cells #[.int .i64 5, .string p, .int .i64 d, .int .i64 v, .bool false, .bool true] 49) = w1 at *
      obtain ⟨x1, z0, z1, z2, z3, z4, z5⟩ := HX1.out
      generalize w.heap.size = bx at *
      go_region_held3 (fun W => W.cell? ⟨bx, 0, none⟩ = some (.int .i64 5) ∧ W.cell? ⟨bx, 1, none⟩ = some (.string p) ∧ W.cell? ⟨bx, 2, none⟩ = some (.int .i64 d) ∧ W.cell? ⟨bx, 3, none⟩ = some (.int .i64 v) ∧ W.cell? ⟨bx, 4, none⟩ = some (.bool false) ∧ W.cell? ⟨bx, 5, none⟩ = some (.bool true)) (first | exact ⟨z0, z1, z2, z3, z4, z5⟩ | exact ⟨y0, y1, y2, y3, y4, y5⟩ | go_keep) (first | (go_at_call 74; refine (CW.out _).mono ?_; rintro e w9 ⟨rfl, hw9⟩; rw [hw9]; clear hw9 w9; (try rw [HBd.out]); (try rw [HBv.out])) | (go_at_call 75; refine (HBK.out _).mono ?_; rintro e w2 ⟨rfl, hb2⟩; have X2 : Hid (Ext w1 w2) := (by first | exact ((Ext.refl _).drew).trans hb2 | exact hb2); have HB2 : Hid (Ext w w2) := HB1.out.trans X2.out; have HX2 : Hid (OBoxAt w2 bx ⟨5, p, d, v, false, true⟩) := HX1.out.ext X2.out; clear hb2 X2 HX1 HB1 x1 z0 z1 z2 z3 z4 z5; obtain ⟨x2, y0, y1, y2, y3, y4, y5⟩ := HX2.out))
      all_goals
        go_wp2
        go_ret
        exact ⟨ret_int HF.out.symm, HB2.out⟩
  | true =>
    subst hs
    have HF : Hid (R = 1) := HR.out.trans (Opr.fault_extra (o := ⟨5, p, d, v, true, q⟩) (by simp [Opr.extra, Opr.hasPath, Opr.hasData, Opr.hasVer]))
    have HBK : Hid (∀ wx : World, Calls Tryz.prog 75 #[oagg ⟨5, p, d, v, true, q⟩] wx fun e w' => e = .returned (oagg ⟨5, ⟨#[]⟩, 0, 0, true, q⟩) ∧ Ext wx w') := beyondKind_5 p d v true q
    have HOS : Hid (∀ wx : World, Calls Tryz.prog 76 #[oagg ⟨5, p, d, v, true, q⟩] wx fun e w' => e = .returned (.bool false) ∧ Ext wx w') := isOfSession_any ⟨5, p, d, v, true, q⟩
    have CW : Hid (∀ wx : World, Calls Tryz.prog 74 #[.int .i64 5, .int .i64 1, .int .i64 8] wx fun e w' => e = .returned (.bool true) ∧ w' = wx) := isWithin_any 5 1 8
    have HX1 : Hid (OBoxAt (w.alloc (.cells #[.int .i64 5, .string p, .int .i64 d, .int .i64 v, .bool true, .bool q] 49)) w.heap.size ⟨5, p, d, v, true, q⟩) := obox_new w ⟨5, p, d, v, true, q⟩ _
    have HB1 : Hid (Ext w (w.alloc (.cells #[.int .i64 5, .string p, .int .i64 d, .int .i64 v, .bool true, .bool q] 49))) := (Ext.refl _).alloc _
    unfold oagg at HBK HOS ⊢
    go_enter Tryz.func28, Tryz.ntmps28
    go_wp2
    generalize w.alloc (.cells #[.int .i64 5, .string p, .int .i64 d, .int .i64 v, .bool true, .bool q] 49) = w1 at *
    obtain ⟨x1, z0, z1, z2, z3, z4, z5⟩ := HX1.out
    generalize w.heap.size = bx at *
    go_region_held3 (fun W => W.cell? ⟨bx, 0, none⟩ = some (.int .i64 5) ∧ W.cell? ⟨bx, 1, none⟩ = some (.string p) ∧ W.cell? ⟨bx, 2, none⟩ = some (.int .i64 d) ∧ W.cell? ⟨bx, 3, none⟩ = some (.int .i64 v) ∧ W.cell? ⟨bx, 4, none⟩ = some (.bool true) ∧ W.cell? ⟨bx, 5, none⟩ = some (.bool q)) (first | exact ⟨z0, z1, z2, z3, z4, z5⟩ | exact ⟨y0, y1, y2, y3, y4, y5⟩ | go_keep) (first | (go_at_call 74; refine (CW.out _).mono ?_; rintro e w9 ⟨rfl, hw9⟩; rw [hw9]; clear hw9 w9; (try rw [HBd.out]); (try rw [HBv.out])) | (go_at_call 75; refine (HBK.out _).mono ?_; rintro e w2 ⟨rfl, hb2⟩; have X2 : Hid (Ext w1 w2) := (by first | exact ((Ext.refl _).drew).trans hb2 | exact hb2); have HB2 : Hid (Ext w w2) := HB1.out.trans X2.out; have HX2 : Hid (OBoxAt w2 bx ⟨5, p, d, v, true, q⟩) := HX1.out.ext X2.out; clear hb2 X2 HX1 HB1 x1 z0 z1 z2 z3 z4 z5; obtain ⟨x2, y0, y1, y2, y3, y4, y5⟩ := HX2.out))
    all_goals
      go_wp2
      go_ret
      exact ⟨ret_int HF.out.symm, HB2.out⟩

set_option maxHeartbeats 4000000 in
set_option maxRecDepth 100000 in
theorem implOpFault_6 (p : ByteArray) (d v : Int) (s q : Bool) (w : World) (hg : Gd w) :
    Calls Tryz.prog 28 #[oagg ⟨6, p, d, v, s, q⟩] w fun e w' => e = .returned (.int .i64 (Opr.fault ⟨6, p, d, v, s, q⟩)) ∧ Ext w w' := by
  obtain ⟨R, hR⟩ : ∃ R, R = Opr.fault ⟨6, p, d, v, s, q⟩ := ⟨_, rfl⟩
  have HR : Hid (R = Opr.fault ⟨6, p, d, v, s, q⟩) := hR
  rw [← hR]
  clear hR
  have HG : Hid (Gd w) := hg
  clear hg
  by_cases hd : d = 0
  · subst hd
    by_cases hv : v = 0
    · subst hv
      cases hs : s with
      | false =>
        subst hs
        cases hq : q with
        | false =>
          subst hq
          obtain ⟨c, hc⟩ : ∃ c, c = Pth.faultI p.data.toList := ⟨_, rfl⟩
          have HC : Hid (c = Pth.faultI p.data.toList) := hc
          have HPF : Hid (∀ wx : World, Ext w wx → Calls Tryz.prog 77 #[.string p] wx fun e w' => e = .returned (.int .i64 c) ∧ Ext wx w') := by rw [hc]; exact fun wx he => pathFault_any p wx (HG.out.ext he)
          clear hc
          by_cases hc0 : c ≠ 0
          · have hcb : (c != 0) = true := by simpa using hc0
            have HF : Hid (R = c) := HR.out.trans (Opr.fault_path (o := ⟨6, p, 0, 0, false, false⟩) (by show (1 : Int) ≤ 6; decide) (by show (6 : Int) ≤ 8; decide) (by simp [Opr.extra, Opr.hasPath, Opr.hasData, Opr.hasVer]) rfl HC.out hc0)
            have HBK : Hid (∀ wx : World, Calls Tryz.prog 75 #[oagg ⟨6, p, 0, 0, false, false⟩] wx fun e w' => e = .returned (oagg ⟨6, ⟨#[]⟩, 0, 0, false, false⟩) ∧ Ext wx w') := beyondKind_6 p 0 0 false false
            have HOS : Hid (∀ wx : World, Calls Tryz.prog 76 #[oagg ⟨6, p, 0, 0, false, false⟩] wx fun e w' => e = .returned (.bool false) ∧ Ext wx w') := isOfSession_any ⟨6, p, 0, 0, false, false⟩
            have CW : Hid (∀ wx : World, Calls Tryz.prog 74 #[.int .i64 6, .int .i64 1, .int .i64 8] wx fun e w' => e = .returned (.bool true) ∧ w' = wx) := isWithin_any 6 1 8
            have HX1 : Hid (OBoxAt (w.alloc (.cells #[.int .i64 6, .string p, .int .i64 0, .int .i64 0, .bool false, .bool false] 49)) w.heap.size ⟨6, p, 0, 0, false, false⟩) := obox_new w ⟨6, p, 0, 0, false, false⟩ _
            have HB1 : Hid (Ext w (w.alloc (.cells #[.int .i64 6, .string p, .int .i64 0, .int .i64 0, .bool false, .bool false] 49))) := (Ext.refl _).alloc _
            unfold oagg at HBK HOS ⊢
            go_enter Tryz.func28, Tryz.ntmps28
            go_wp2
            generalize w.alloc (.cells #[.int .i64 6, .string p, .int .i64 0, .int .i64 0, .bool false, .bool false] 49) = w1 at *
            obtain ⟨x1, z0, z1, z2, z3, z4, z5⟩ := HX1.out
            generalize w.heap.size = bx at *
            go_region_held3 (fun W => W.cell? ⟨bx, 0, none⟩ = some (.int .i64 6) ∧ W.cell? ⟨bx, 1, none⟩ = some (.string p) ∧ W.cell? ⟨bx, 2, none⟩ = some (.int .i64 0) ∧ W.cell? ⟨bx, 3, none⟩ = some (.int .i64 0) ∧ W.cell? ⟨bx, 4, none⟩ = some (.bool false) ∧ W.cell? ⟨bx, 5, none⟩ = some (.bool false)) (first | exact ⟨z0, z1, z2, z3, z4, z5⟩ | exact ⟨y0, y1, y2, y3, y4, y5⟩ | go_keep) (first | (go_at_call 74; refine (CW.out _).mono ?_; rintro e w9 ⟨rfl, hw9⟩; rw [hw9]; clear hw9 w9; (try rw [HBd.out]); (try rw [HBv.out])) | (go_at_call 75; refine (HBK.out _).mono ?_; rintro e w2 ⟨rfl, hb2⟩; have X2 : Hid (Ext w1 w2) := (by first | exact ((Ext.refl _).drew).trans hb2 | exact hb2); have HB2 : Hid (Ext w w2) := HB1.out.trans X2.out; have HX2 : Hid (OBoxAt w2 bx ⟨6, p, 0, 0, false, false⟩) := HX1.out.ext X2.out; clear hb2 X2 HX1 HB1 x1 z0 z1 z2 z3 z4 z5; obtain ⟨x2, y0, y1, y2, y3, y4, y5⟩ := HX2.out))
            go_wp2_with fail
            refine (HOS.out _).mono ?_
            rintro e w3 ⟨rfl, hb3⟩
            have HB3 : Hid (Ext w w3) := HB2.out.trans hb3
            have HX3 : Hid (OBoxAt w3 bx ⟨6, p, 0, 0, false, false⟩) := HX2.out.ext hb3
            clear hb3 HX2 HB2 x2 y0 y1 y2 y3 y4 y5
            obtain ⟨x3, y0, y1, y2, y3, y4, y5⟩ := HX3.out
            go_wp2_with fail
            refine (HPF.out _ HB3.out).mono ?_
            rintro e w4 ⟨rfl, hb4⟩
            have HB4 : Hid (Ext w w4) := HB3.out.trans hb4
            have HX4 : Hid (OBoxAt w4 bx ⟨6, p, 0, 0, false, false⟩) := HX3.out.ext hb4
            clear hb4 HX3 HB3 x3 y0 y1 y2 y3 y4 y5
            go_wp2
            go_ret
            exact ⟨ret_int HF.out.symm, HB4.out⟩
          have hc1 : c = 0 := by omega
          subst hc1
          clear hc0
          have HF : Hid (R = 0) := HR.out.trans (Opr.fault_ok (o := ⟨6, p, 0, 0, false, false⟩) (by show (1 : Int) ≤ 6; decide) (by show (6 : Int) ≤ 8; decide) (by simp [Opr.extra, Opr.hasPath, Opr.hasData, Opr.hasVer]) (Or.inr HC.out.symm) (by simp [Opr.inR]; try omega))
          have HBK : Hid (∀ wx : World, Calls Tryz.prog 75 #[oagg ⟨6, p, 0, 0, false, false⟩] wx fun e w' => e = .returned (oagg ⟨6, ⟨#[]⟩, 0, 0, false, false⟩) ∧ Ext wx w') := beyondKind_6 p 0 0 false false
          have HOS : Hid (∀ wx : World, Calls Tryz.prog 76 #[oagg ⟨6, p, 0, 0, false, false⟩] wx fun e w' => e = .returned (.bool false) ∧ Ext wx w') := isOfSession_any ⟨6, p, 0, 0, false, false⟩
          have CW : Hid (∀ wx : World, Calls Tryz.prog 74 #[.int .i64 6, .int .i64 1, .int .i64 8] wx fun e w' => e = .returned (.bool true) ∧ w' = wx) := isWithin_any 6 1 8
          have HX1 : Hid (OBoxAt (w.alloc (.cells #[.int .i64 6, .string p, .int .i64 0, .int .i64 0, .bool false, .bool false] 49)) w.heap.size ⟨6, p, 0, 0, false, false⟩) := obox_new w ⟨6, p, 0, 0, false, false⟩ _
          have HB1 : Hid (Ext w (w.alloc (.cells #[.int .i64 6, .string p, .int .i64 0, .int .i64 0, .bool false, .bool false] 49))) := (Ext.refl _).alloc _
          unfold oagg at HBK HOS ⊢
          go_enter Tryz.func28, Tryz.ntmps28
          go_wp2
          generalize w.alloc (.cells #[.int .i64 6, .string p, .int .i64 0, .int .i64 0, .bool false, .bool false] 49) = w1 at *
          obtain ⟨x1, z0, z1, z2, z3, z4, z5⟩ := HX1.out
          generalize w.heap.size = bx at *
          go_region_held3 (fun W => W.cell? ⟨bx, 0, none⟩ = some (.int .i64 6) ∧ W.cell? ⟨bx, 1, none⟩ = some (.string p) ∧ W.cell? ⟨bx, 2, none⟩ = some (.int .i64 0) ∧ W.cell? ⟨bx, 3, none⟩ = some (.int .i64 0) ∧ W.cell? ⟨bx, 4, none⟩ = some (.bool false) ∧ W.cell? ⟨bx, 5, none⟩ = some (.bool false)) (first | exact ⟨z0, z1, z2, z3, z4, z5⟩ | exact ⟨y0, y1, y2, y3, y4, y5⟩ | go_keep) (first | (go_at_call 74; refine (CW.out _).mono ?_; rintro e w9 ⟨rfl, hw9⟩; rw [hw9]; clear hw9 w9; (try rw [HBd.out]); (try rw [HBv.out])) | (go_at_call 75; refine (HBK.out _).mono ?_; rintro e w2 ⟨rfl, hb2⟩; have X2 : Hid (Ext w1 w2) := (by first | exact ((Ext.refl _).drew).trans hb2 | exact hb2); have HB2 : Hid (Ext w w2) := HB1.out.trans X2.out; have HX2 : Hid (OBoxAt w2 bx ⟨6, p, 0, 0, false, false⟩) := HX1.out.ext X2.out; clear hb2 X2 HX1 HB1 x1 z0 z1 z2 z3 z4 z5; obtain ⟨x2, y0, y1, y2, y3, y4, y5⟩ := HX2.out))
          go_wp2_with fail
          refine (HOS.out _).mono ?_
          rintro e w3 ⟨rfl, hb3⟩
          have HB3 : Hid (Ext w w3) := HB2.out.trans hb3
          have HX3 : Hid (OBoxAt w3 bx ⟨6, p, 0, 0, false, false⟩) := HX2.out.ext hb3
          clear hb3 HX2 HB2 x2 y0 y1 y2 y3 y4 y5
          obtain ⟨x3, y0, y1, y2, y3, y4, y5⟩ := HX3.out
          go_wp2_with fail
          refine (HPF.out _ HB3.out).mono ?_
          rintro e w4 ⟨rfl, hb4⟩
          have HB4 : Hid (Ext w w4) := HB3.out.trans hb4
          have HX4 : Hid (OBoxAt w4 bx ⟨6, p, 0, 0, false, false⟩) := HX3.out.ext hb4
          clear hb4 HX3 HB3 x3 y0 y1 y2 y3 y4 y5
          obtain ⟨x4, y0, y1, y2, y3, y4, y5⟩ := HX4.out
          go_wp2_with (first | (go_at_call 74; refine (isWithin_any _ _ _ _).mono ?_; rintro e w9 ⟨rfl, hw9⟩; rw [hw9]; clear hw9 w9; (try rw [HBd.out]); (try rw [HBv.out])) | (go_at_call 49; refine (isUpToO_any _ _ _).mono ?_; rintro e w9 ⟨rfl, hw9⟩; rw [hw9]; clear hw9 w9; (try rw [HBd.out]); (try rw [HBv.out])))
          go_ret
          exact ⟨ret_int HF.out.symm, HB4.out⟩
        | true =>
          subst hq
          have HF : Hid (R = 1) := HR.out.trans (Opr.fault_extra (o := ⟨6, p, 0, 0, false, true⟩) (by simp [Opr.extra, Opr.hasPath, Opr.hasData, Opr.hasVer]))
          have HBK : Hid (∀ wx : World, Calls Tryz.prog 75 #[oagg ⟨6, p, 0, 0, false, true⟩] wx fun e w' => e = .returned (oagg ⟨6, ⟨#[]⟩, 0, 0, false, true⟩) ∧ Ext wx w') := beyondKind_6 p 0 0 false true
          have HOS : Hid (∀ wx : World, Calls Tryz.prog 76 #[oagg ⟨6, p, 0, 0, false, true⟩] wx fun e w' => e = .returned (.bool false) ∧ Ext wx w') := isOfSession_any ⟨6, p, 0, 0, false, true⟩
          have CW : Hid (∀ wx : World, Calls Tryz.prog 74 #[.int .i64 6, .int .i64 1, .int .i64 8] wx fun e w' => e = .returned (.bool true) ∧ w' = wx) := isWithin_any 6 1 8
          have HX1 : Hid (OBoxAt (w.alloc (.cells #[.int .i64 6, .string p, .int .i64 0, .int .i64 0, .bool false, .bool true] 49)) w.heap.size ⟨6, p, 0, 0, false, true⟩) := obox_new w ⟨6, p, 0, 0, false, true⟩ _
          have HB1 : Hid (Ext w (w.alloc (.cells #[.int .i64 6, .string p, .int .i64 0, .int .i64 0, .bool false, .bool true] 49))) := (Ext.refl _).alloc _
          unfold oagg at HBK HOS ⊢
          go_enter Tryz.func28, Tryz.ntmps28
          go_wp2
          generalize w.alloc (.cells #[.int .i64 6, .string p, .int .i64 0, .int .i64 0, .bool false, .bool true] 49) = w1 at *
          obtain ⟨x1, z0, z1, z2, z3, z4, z5⟩ := HX1.out
          generalize w.heap.size = bx at *
          go_region_held3 (fun W => W.cell? ⟨bx, 0, none⟩ = some (.int .i64 6) ∧ W.cell? ⟨bx, 1, none⟩ = some (.string p) ∧ W.cell? ⟨bx, 2, none⟩ = some (.int .i64 0) ∧ W.cell? ⟨bx, 3, none⟩ = some (.int .i64 0) ∧ W.cell? ⟨bx, 4, none⟩ = some (.bool false) ∧ W.cell? ⟨bx, 5, none⟩ = some (.bool true)) (first | exact ⟨z0, z1, z2, z3, z4, z5⟩ | exact ⟨y0, y1, y2, y3, y4, y5⟩ | go_keep) (first | (go_at_call 74; refine (CW.out _).mono ?_; rintro e w9 ⟨rfl, hw9⟩; rw [hw9]; clear hw9 w9; (try rw [HBd.out]); (try rw [HBv.out])) | (go_at_call 75; refine (HBK.out _).mono ?_; rintro e w2 ⟨rfl, hb2⟩; have X2 : Hid (Ext w1 w2) := (by first | exact ((Ext.refl _).drew).trans hb2 | exact hb2); have HB2 : Hid (Ext w w2) := HB1.out.trans X2.out; have HX2 : Hid (OBoxAt w2 bx ⟨6, p, 0, 0, false, true⟩) := HX1.out.ext X2.out; clear hb2 X2 HX1 HB1 x1 z0 z1 z2 z3 z4 z5; obtain ⟨x2, y0, y1, y2, y3, y4, y5⟩ := HX2.out))
          all_goals
            go_wp2
            go_ret
            exact ⟨ret_int HF.out.symm, HB2.out⟩
      | true =>
        subst hs
        have HF : Hid (R = 1) := HR.out.trans (Opr.fault_extra (o := ⟨6, p, 0, 0, true, q⟩) (by simp [Opr.extra, Opr.hasPath, Opr.hasData, Opr.hasVer]))
        have HBK : Hid (∀ wx : World, Calls Tryz.prog 75 #[oagg ⟨6, p, 0, 0, true, q⟩] wx fun e w' => e = .returned (oagg ⟨6, ⟨#[]⟩, 0, 0, true, q⟩) ∧ Ext wx w') := beyondKind_6 p 0 0 true q
        have HOS : Hid (∀ wx : World, Calls Tryz.prog 76 #[oagg ⟨6, p, 0, 0, true, q⟩] wx fun e w' => e = .returned (.bool false) ∧ Ext wx w') := isOfSession_any ⟨6, p, 0, 0, true, q⟩
        have CW : Hid (∀ wx : World, Calls Tryz.prog 74 #[.int .i64 6, .int .i64 1, .int .i64 8] wx fun e w' => e = .returned (.bool true) ∧ w' = wx) := isWithin_any 6 1 8
        have HX1 : Hid (OBoxAt (w.alloc (.cells #[.int .i64 6, .string p, .int .i64 0, .int .i64 0, .bool true, .bool q] 49)) w.heap.size ⟨6, p, 0, 0, true, q⟩) := obox_new w ⟨6, p, 0, 0, true, q⟩ _
        have HB1 : Hid (Ext w (w.alloc (.cells #[.int .i64 6, .string p, .int .i64 0, .int .i64 0, .bool true, .bool q] 49))) := (Ext.refl _).alloc _
        unfold oagg at HBK HOS ⊢
        go_enter Tryz.func28, Tryz.ntmps28
        go_wp2
        generalize w.alloc (.cells #[.int .i64 6, .string p, .int .i64 0, .int .i64 0, .bool true, .bool q] 49) = w1 at *
        obtain ⟨x1, z0, z1, z2, z3, z4, z5⟩ := HX1.out
        generalize w.heap.size = bx at *
        go_region_held3 (fun W => W.cell? ⟨bx, 0, none⟩ = some (.int .i64 6) ∧ W.cell? ⟨bx, 1, none⟩ = some (.string p) ∧ W.cell? ⟨bx, 2, none⟩ = some (.int .i64 0) ∧ W.cell? ⟨bx, 3, none⟩ = some (.int .i64 0) ∧ W.cell? ⟨bx, 4, none⟩ = some (.bool true) ∧ W.cell? ⟨bx, 5, none⟩ = some (.bool q)) (first | exact ⟨z0, z1, z2, z3, z4, z5⟩ | exact ⟨y0, y1, y2, y3, y4, y5⟩ | go_keep) (first | (go_at_call 74; refine (CW.out _).mono ?_; rintro e w9 ⟨rfl, hw9⟩; rw [hw9]; clear hw9 w9; (try rw [HBd.out]); (try rw [HBv.out])) | (go_at_call 75; refine (HBK.out _).mono ?_; rintro e w2 ⟨rfl, hb2⟩; have X2 : Hid (Ext w1 w2) := (by first | exact ((Ext.refl _).drew).trans hb2 | exact hb2); have HB2 : Hid (Ext w w2) := HB1.out.trans X2.out; have HX2 : Hid (OBoxAt w2 bx ⟨6, p, 0, 0, true, q⟩) := HX1.out.ext X2.out; clear hb2 X2 HX1 HB1 x1 z0 z1 z2 z3 z4 z5; obtain ⟨x2, y0, y1, y2, y3, y4, y5⟩ := HX2.out))
        all_goals
          go_wp2
          go_ret
          exact ⟨ret_int HF.out.symm, HB2.out⟩
    · have hvb : (v == 0) = false := by simpa using hv
      have HF : Hid (R = 1) := HR.out.trans (Opr.fault_extra (o := ⟨6, p, 0, v, s, q⟩) (by simp [Opr.extra, Opr.hasPath, Opr.hasData, Opr.hasVer, hv]))
      have HBK : Hid (∀ wx : World, Calls Tryz.prog 75 #[oagg ⟨6, p, 0, v, s, q⟩] wx fun e w' => e = .returned (oagg ⟨6, ⟨#[]⟩, 0, v, s, q⟩) ∧ Ext wx w') := beyondKind_6 p 0 v s q
      have HOS : Hid (∀ wx : World, Calls Tryz.prog 76 #[oagg ⟨6, p, 0, v, s, q⟩] wx fun e w' => e = .returned (.bool false) ∧ Ext wx w') := isOfSession_any ⟨6, p, 0, v, s, q⟩
      have CW : Hid (∀ wx : World, Calls Tryz.prog 74 #[.int .i64 6, .int .i64 1, .int .i64 8] wx fun e w' => e = .returned (.bool true) ∧ w' = wx) := isWithin_any 6 1 8
      have HX1 : Hid (OBoxAt (w.alloc (.cells #[.int .i64 6, .string p, .int .i64 0, .int .i64 v, .bool s, .bool q] 49)) w.heap.size ⟨6, p, 0, v, s, q⟩) := obox_new w ⟨6, p, 0, v, s, q⟩ _
      have HB1 : Hid (Ext w (w.alloc (.cells #[.int .i64 6, .string p, .int .i64 0, .int .i64 v, .bool s, .bool q] 49))) := (Ext.refl _).alloc _
      unfold oagg at HBK HOS ⊢
      go_enter Tryz.func28, Tryz.ntmps28
      go_wp2
      generalize w.alloc (.cells #[.int .i64 6, .string p, .int .i64 0, .int .i64 v, .bool s, .bool q] 49) = w1 at *
      obtain ⟨x1, z0, z1, z2, z3, z4, z5⟩ := HX1.out
      generalize w.heap.size = bx at *
      go_region_held3 (fun W => W.cell? ⟨bx, 0, none⟩ = some (.int .i64 6) ∧ W.cell? ⟨bx, 1, none⟩ = some (.string p) ∧ W.cell? ⟨bx, 2, none⟩ = some (.int .i64 0) ∧ W.cell? ⟨bx, 3, none⟩ = some (.int .i64 v) ∧ W.cell? ⟨bx, 4, none⟩ = some (.bool s) ∧ W.cell? ⟨bx, 5, none⟩ = some (.bool q)) (first | exact ⟨z0, z1, z2, z3, z4, z5⟩ | exact ⟨y0, y1, y2, y3, y4, y5⟩ | go_keep) (first | (go_at_call 74; refine (CW.out _).mono ?_; rintro e w9 ⟨rfl, hw9⟩; rw [hw9]; clear hw9 w9; (try rw [HBd.out]); (try rw [HBv.out])) | (go_at_call 75; refine (HBK.out _).mono ?_; rintro e w2 ⟨rfl, hb2⟩; have X2 : Hid (Ext w1 w2) := (by first | exact ((Ext.refl _).drew).trans hb2 | exact hb2); have HB2 : Hid (Ext w w2) := HB1.out.trans X2.out; have HX2 : Hid (OBoxAt w2 bx ⟨6, p, 0, v, s, q⟩) := HX1.out.ext X2.out; clear hb2 X2 HX1 HB1 x1 z0 z1 z2 z3 z4 z5; obtain ⟨x2, y0, y1, y2, y3, y4, y5⟩ := HX2.out))
      all_goals
        go_wp2
        go_ret
        exact ⟨ret_int HF.out.symm, HB2.out⟩
  · have hdb : (d == 0) = false := by simpa using hd
    have HF : Hid (R = 1) := HR.out.trans (Opr.fault_extra (o := ⟨6, p, d, v, s, q⟩) (by simp [Opr.extra, Opr.hasPath, Opr.hasData, Opr.hasVer, hd]))
    have HBK : Hid (∀ wx : World, Calls Tryz.prog 75 #[oagg ⟨6, p, d, v, s, q⟩] wx fun e w' => e = .returned (oagg ⟨6, ⟨#[]⟩, d, v, s, q⟩) ∧ Ext wx w') := beyondKind_6 p d v s q
    have HOS : Hid (∀ wx : World, Calls Tryz.prog 76 #[oagg ⟨6, p, d, v, s, q⟩] wx fun e w' => e = .returned (.bool false) ∧ Ext wx w') := isOfSession_any ⟨6, p, d, v, s, q⟩
    have CW : Hid (∀ wx : World, Calls Tryz.prog 74 #[.int .i64 6, .int .i64 1, .int .i64 8] wx fun e w' => e = .returned (.bool true) ∧ w' = wx) := isWithin_any 6 1 8
    have HX1 : Hid (OBoxAt (w.alloc (.cells #[.int .i64 6, .string p, .int .i64 d, .int .i64 v, .bool s, .bool q] 49)) w.heap.size ⟨6, p, d, v, s, q⟩) := obox_new w ⟨6, p, d, v, s, q⟩ _
    have HB1 : Hid (Ext w (w.alloc (.cells #[.int .i64 6, .string p, .int .i64 d, .int .i64 v, .bool s, .bool q] 49))) := (Ext.refl _).alloc _
    unfold oagg at HBK HOS ⊢
    go_enter Tryz.func28, Tryz.ntmps28
    go_wp2
    generalize w.alloc (.cells #[.int .i64 6, .string p, .int .i64 d, .int .i64 v, .bool s, .bool q] 49) = w1 at *
    obtain ⟨x1, z0, z1, z2, z3, z4, z5⟩ := HX1.out
    generalize w.heap.size = bx at *
    go_region_held3 (fun W => W.cell? ⟨bx, 0, none⟩ = some (.int .i64 6) ∧ W.cell? ⟨bx, 1, none⟩ = some (.string p) ∧ W.cell? ⟨bx, 2, none⟩ = some (.int .i64 d) ∧ W.cell? ⟨bx, 3, none⟩ = some (.int .i64 v) ∧ W.cell? ⟨bx, 4, none⟩ = some (.bool s) ∧ W.cell? ⟨bx, 5, none⟩ = some (.bool q)) (first | exact ⟨z0, z1, z2, z3, z4, z5⟩ | exact ⟨y0, y1, y2, y3, y4, y5⟩ | go_keep) (first | (go_at_call 74; refine (CW.out _).mono ?_; rintro e w9 ⟨rfl, hw9⟩; rw [hw9]; clear hw9 w9; (try rw [HBd.out]); (try rw [HBv.out])) | (go_at_call 75; refine (HBK.out _).mono ?_; rintro e w2 ⟨rfl, hb2⟩; have X2 : Hid (Ext w1 w2) := (by first | exact ((Ext.refl _).drew).trans hb2 | exact hb2); have HB2 : Hid (Ext w w2) := HB1.out.trans X2.out; have HX2 : Hid (OBoxAt w2 bx ⟨6, p, d, v, s, q⟩) := HX1.out.ext X2.out; clear hb2 X2 HX1 HB1 x1 z0 z1 z2 z3 z4 z5; obtain ⟨x2, y0, y1, y2, y3, y4, y5⟩ := HX2.out))
    all_goals
      go_wp2
      go_ret
      exact ⟨ret_int HF.out.symm, HB2.out⟩

set_option maxHeartbeats 4000000 in
set_option maxRecDepth 100000 in
theorem implOpFault_7 (p : ByteArray) (d v : Int) (s q : Bool) (w : World) (hg : Gd w) :
    Calls Tryz.prog 28 #[oagg ⟨7, p, d, v, s, q⟩] w fun e w' => e = .returned (.int .i64 (Opr.fault ⟨7, p, d, v, s, q⟩)) ∧ Ext w w' := by
  obtain ⟨R, hR⟩ : ∃ R, R = Opr.fault ⟨7, p, d, v, s, q⟩ := ⟨_, rfl⟩
  have HR : Hid (R = Opr.fault ⟨7, p, d, v, s, q⟩) := hR
  rw [← hR]
  clear hR
  have HG : Hid (Gd w) := hg
  clear hg
  by_cases hd : d = 0
  · subst hd
    by_cases hv : v = 0
    · subst hv
      cases hs : s with
      | false =>
        subst hs
        cases hq : q with
        | false =>
          subst hq
          obtain ⟨c, hc⟩ : ∃ c, c = Pth.faultI p.data.toList := ⟨_, rfl⟩
          have HC : Hid (c = Pth.faultI p.data.toList) := hc
          have HPF : Hid (∀ wx : World, Ext w wx → Calls Tryz.prog 77 #[.string p] wx fun e w' => e = .returned (.int .i64 c) ∧ Ext wx w') := by rw [hc]; exact fun wx he => pathFault_any p wx (HG.out.ext he)
          clear hc
          by_cases hc0 : c ≠ 0
          · have hcb : (c != 0) = true := by simpa using hc0
            have HF : Hid (R = c) := HR.out.trans (Opr.fault_path (o := ⟨7, p, 0, 0, false, false⟩) (by show (1 : Int) ≤ 7; decide) (by show (7 : Int) ≤ 8; decide) (by simp [Opr.extra, Opr.hasPath, Opr.hasData, Opr.hasVer]) rfl HC.out hc0)
            have HBK : Hid (∀ wx : World, Calls Tryz.prog 75 #[oagg ⟨7, p, 0, 0, false, false⟩] wx fun e w' => e = .returned (oagg ⟨7, ⟨#[]⟩, 0, 0, false, false⟩) ∧ Ext wx w') := beyondKind_7 p 0 0 false false
            have HOS : Hid (∀ wx : World, Calls Tryz.prog 76 #[oagg ⟨7, p, 0, 0, false, false⟩] wx fun e w' => e = .returned (.bool false) ∧ Ext wx w') := isOfSession_any ⟨7, p, 0, 0, false, false⟩
            have CW : Hid (∀ wx : World, Calls Tryz.prog 74 #[.int .i64 7, .int .i64 1, .int .i64 8] wx fun e w' => e = .returned (.bool true) ∧ w' = wx) := isWithin_any 7 1 8
            have HX1 : Hid (OBoxAt (w.alloc (.cells #[.int .i64 7, .string p, .int .i64 0, .int .i64 0, .bool false, .bool false] 49)) w.heap.size ⟨7, p, 0, 0, false, false⟩) := obox_new w ⟨7, p, 0, 0, false, false⟩ _
            have HB1 : Hid (Ext w (w.alloc (.cells #[.int .i64 7, .string p, .int .i64 0, .int .i64 0, .bool false, .bool false] 49))) := (Ext.refl _).alloc _
            unfold oagg at HBK HOS ⊢
            go_enter Tryz.func28, Tryz.ntmps28
            go_wp2
            generalize w.alloc (.cells #[.int .i64 7, .string p, .int .i64 0, .int .i64 0, .bool false, .bool false] 49) = w1 at *
            obtain ⟨x1, z0, z1, z2, z3, z4, z5⟩ := HX1.out
            generalize w.heap.size = bx at *
            go_region_held3 (fun W => W.cell? ⟨bx, 0, none⟩ = some (.int .i64 7) ∧ W.cell? ⟨bx, 1, none⟩ = some (.string p) ∧ W.cell? ⟨bx, 2, none⟩ = some (.int .i64 0) ∧ W.cell? ⟨bx, 3, none⟩ = some (.int .i64 0) ∧ W.cell? ⟨bx, 4, none⟩ = some (.bool false) ∧ W.cell? ⟨bx, 5, none⟩ = some (.bool false)) (first | exact ⟨z0, z1, z2, z3, z4, z5⟩ | exact ⟨y0, y1, y2, y3, y4, y5⟩ | go_keep) (first | (go_at_call 74; refine (CW.out _).mono ?_; rintro e w9 ⟨rfl, hw9⟩; rw [hw9]; clear hw9 w9; (try rw [HBd.out]); (try rw [HBv.out])) | (go_at_call 75; refine (HBK.out _).mono ?_; rintro e w2 ⟨rfl, hb2⟩; have X2 : Hid (Ext w1 w2) := (by first | exact ((Ext.refl _).drew).trans hb2 | exact hb2); have HB2 : Hid (Ext w w2) := HB1.out.trans X2.out; have HX2 : Hid (OBoxAt w2 bx ⟨7, p, 0, 0, false, false⟩) := HX1.out.ext X2.out; clear hb2 X2 HX1 HB1 x1 z0 z1 z2 z3 z4 z5; obtain ⟨x2, y0, y1, y2, y3, y4, y5⟩ := HX2.out))
            go_wp2_with fail
            refine (HOS.out _).mono ?_
            rintro e w3 ⟨rfl, hb3⟩
            have HB3 : Hid (Ext w w3) := HB2.out.trans hb3
            have HX3 : Hid (OBoxAt w3 bx ⟨7, p, 0, 0, false, false⟩) := HX2.out.ext hb3
            clear hb3 HX2 HB2 x2 y0 y1 y2 y3 y4 y5
            obtain ⟨x3, y0, y1, y2, y3, y4, y5⟩ := HX3.out
            go_wp2_with fail
            refine (HPF.out _ HB3.out).mono ?_
            rintro e w4 ⟨rfl, hb4⟩
            have HB4 : Hid (Ext w w4) := HB3.out.trans hb4
            have HX4 : Hid (OBoxAt w4 bx ⟨7, p, 0, 0, false, false⟩) := HX3.out.ext hb4
            clear hb4 HX3 HB3 x3 y0 y1 y2 y3 y4 y5
            go_wp2
            go_ret
            exact ⟨ret_int HF.out.symm, HB4.out⟩
          have hc1 : c = 0 := by omega
          subst hc1
          clear hc0
          have HF : Hid (R = 0) := HR.out.trans (Opr.fault_ok (o := ⟨7, p, 0, 0, false, false⟩) (by show (1 : Int) ≤ 7; decide) (by show (7 : Int) ≤ 8; decide) (by simp [Opr.extra, Opr.hasPath, Opr.hasData, Opr.hasVer]) (Or.inr HC.out.symm) (by simp [Opr.inR]; try omega))
          have HBK : Hid (∀ wx : World, Calls Tryz.prog 75 #[oagg ⟨7, p, 0, 0, false, false⟩] wx fun e w' => e = .returned (oagg ⟨7, ⟨#[]⟩, 0, 0, false, false⟩) ∧ Ext wx w') := beyondKind_7 p 0 0 false false
          have HOS : Hid (∀ wx : World, Calls Tryz.prog 76 #[oagg ⟨7, p, 0, 0, false, false⟩] wx fun e w' => e = .returned (.bool false) ∧ Ext wx w') := isOfSession_any ⟨7, p, 0, 0, false, false⟩
          have CW : Hid (∀ wx : World, Calls Tryz.prog 74 #[.int .i64 7, .int .i64 1, .int .i64 8] wx fun e w' => e = .returned (.bool true) ∧ w' = wx) := isWithin_any 7 1 8
          have HX1 : Hid (OBoxAt (w.alloc (.cells #[.int .i64 7, .string p, .int .i64 0, .int .i64 0, .bool false, .bool false] 49)) w.heap.size ⟨7, p, 0, 0, false, false⟩) := obox_new w ⟨7, p, 0, 0, false, false⟩ _
          have HB1 : Hid (Ext w (w.alloc (.cells #[.int .i64 7, .string p, .int .i64 0, .int .i64 0, .bool false, .bool false] 49))) := (Ext.refl _).alloc _
          unfold oagg at HBK HOS ⊢
          go_enter Tryz.func28, Tryz.ntmps28
          go_wp2
          generalize w.alloc (.cells #[.int .i64 7, .string p, .int .i64 0, .int .i64 0, .bool false, .bool false] 49) = w1 at *
          obtain ⟨x1, z0, z1, z2, z3, z4, z5⟩ := HX1.out
          generalize w.heap.size = bx at *
          go_region_held3 (fun W => W.cell? ⟨bx, 0, none⟩ = some (.int .i64 7) ∧ W.cell? ⟨bx, 1, none⟩ = some (.string p) ∧ W.cell? ⟨bx, 2, none⟩ = some (.int .i64 0) ∧ W.cell? ⟨bx, 3, none⟩ = some (.int .i64 0) ∧ W.cell? ⟨bx, 4, none⟩ = some (.bool false) ∧ W.cell? ⟨bx, 5, none⟩ = some (.bool false)) (first | exact ⟨z0, z1, z2, z3, z4, z5⟩ | exact ⟨y0, y1, y2, y3, y4, y5⟩ | go_keep) (first | (go_at_call 74; refine (CW.out _).mono ?_; rintro e w9 ⟨rfl, hw9⟩; rw [hw9]; clear hw9 w9; (try rw [HBd.out]); (try rw [HBv.out])) | (go_at_call 75; refine (HBK.out _).mono ?_; rintro e w2 ⟨rfl, hb2⟩; have X2 : Hid (Ext w1 w2) := (by first | exact ((Ext.refl _).drew).trans hb2 | exact hb2); have HB2 : Hid (Ext w w2) := HB1.out.trans X2.out; have HX2 : Hid (OBoxAt w2 bx ⟨7, p, 0, 0, false, false⟩) := HX1.out.ext X2.out; clear hb2 X2 HX1 HB1 x1 z0 z1 z2 z3 z4 z5; obtain ⟨x2, y0, y1, y2, y3, y4, y5⟩ := HX2.out))
          go_wp2_with fail
          refine (HOS.out _).mono ?_
          rintro e w3 ⟨rfl, hb3⟩
          have HB3 : Hid (Ext w w3) := HB2.out.trans hb3
          have HX3 : Hid (OBoxAt w3 bx ⟨7, p, 0, 0, false, false⟩) := HX2.out.ext hb3
          clear hb3 HX2 HB2 x2 y0 y1 y2 y3 y4 y5
          obtain ⟨x3, y0, y1, y2, y3, y4, y5⟩ := HX3.out
          go_wp2_with fail
          refine (HPF.out _ HB3.out).mono ?_
          rintro e w4 ⟨rfl, hb4⟩
          have HB4 : Hid (Ext w w4) := HB3.out.trans hb4
          have HX4 : Hid (OBoxAt w4 bx ⟨7, p, 0, 0, false, false⟩) := HX3.out.ext hb4
          clear hb4 HX3 HB3 x3 y0 y1 y2 y3 y4 y5
          obtain ⟨x4, y0, y1, y2, y3, y4, y5⟩ := HX4.out
          go_wp2_with (first | (go_at_call 74; refine (isWithin_any _ _ _ _).mono ?_; rintro e w9 ⟨rfl, hw9⟩; rw [hw9]; clear hw9 w9; (try rw [HBd.out]); (try rw [HBv.out])) | (go_at_call 49; refine (isUpToO_any _ _ _).mono ?_; rintro e w9 ⟨rfl, hw9⟩; rw [hw9]; clear hw9 w9; (try rw [HBd.out]); (try rw [HBv.out])))
          go_ret
          exact ⟨ret_int HF.out.symm, HB4.out⟩
        | true =>
          subst hq
          have HF : Hid (R = 1) := HR.out.trans (Opr.fault_extra (o := ⟨7, p, 0, 0, false, true⟩) (by simp [Opr.extra, Opr.hasPath, Opr.hasData, Opr.hasVer]))
          have HBK : Hid (∀ wx : World, Calls Tryz.prog 75 #[oagg ⟨7, p, 0, 0, false, true⟩] wx fun e w' => e = .returned (oagg ⟨7, ⟨#[]⟩, 0, 0, false, true⟩) ∧ Ext wx w') := beyondKind_7 p 0 0 false true
          have HOS : Hid (∀ wx : World, Calls Tryz.prog 76 #[oagg ⟨7, p, 0, 0, false, true⟩] wx fun e w' => e = .returned (.bool false) ∧ Ext wx w') := isOfSession_any ⟨7, p, 0, 0, false, true⟩
          have CW : Hid (∀ wx : World, Calls Tryz.prog 74 #[.int .i64 7, .int .i64 1, .int .i64 8] wx fun e w' => e = .returned (.bool true) ∧ w' = wx) := isWithin_any 7 1 8
          have HX1 : Hid (OBoxAt (w.alloc (.cells #[.int .i64 7, .string p, .int .i64 0, .int .i64 0, .bool false, .bool true] 49)) w.heap.size ⟨7, p, 0, 0, false, true⟩) := obox_new w ⟨7, p, 0, 0, false, true⟩ _
          have HB1 : Hid (Ext w (w.alloc (.cells #[.int .i64 7, .string p, .int .i64 0, .int .i64 0, .bool false, .bool true] 49))) := (Ext.refl _).alloc _
          unfold oagg at HBK HOS ⊢
          go_enter Tryz.func28, Tryz.ntmps28
          go_wp2
          generalize w.alloc (.cells #[.int .i64 7, .string p, .int .i64 0, .int .i64 0, .bool false, .bool true] 49) = w1 at *
          obtain ⟨x1, z0, z1, z2, z3, z4, z5⟩ := HX1.out
          generalize w.heap.size = bx at *
          go_region_held3 (fun W => W.cell? ⟨bx, 0, none⟩ = some (.int .i64 7) ∧ W.cell? ⟨bx, 1, none⟩ = some (.string p) ∧ W.cell? ⟨bx, 2, none⟩ = some (.int .i64 0) ∧ W.cell? ⟨bx, 3, none⟩ = some (.int .i64 0) ∧ W.cell? ⟨bx, 4, none⟩ = some (.bool false) ∧ W.cell? ⟨bx, 5, none⟩ = some (.bool true)) (first | exact ⟨z0, z1, z2, z3, z4, z5⟩ | exact ⟨y0, y1, y2, y3, y4, y5⟩ | go_keep) (first | (go_at_call 74; refine (CW.out _).mono ?_; rintro e w9 ⟨rfl, hw9⟩; rw [hw9]; clear hw9 w9; (try rw [HBd.out]); (try rw [HBv.out])) | (go_at_call 75; refine (HBK.out _).mono ?_; rintro e w2 ⟨rfl, hb2⟩; have X2 : Hid (Ext w1 w2) := (by first | exact ((Ext.refl _).drew).trans hb2 | exact hb2); have HB2 : Hid (Ext w w2) := HB1.out.trans X2.out; have HX2 : Hid (OBoxAt w2 bx ⟨7, p, 0, 0, false, true⟩) := HX1.out.ext X2.out; clear hb2 X2 HX1 HB1 x1 z0 z1 z2 z3 z4 z5; obtain ⟨x2, y0, y1, y2, y3, y4, y5⟩ := HX2.out))
          all_goals
            go_wp2
            go_ret
            exact ⟨ret_int HF.out.symm, HB2.out⟩
      | true =>
        subst hs
        have HF : Hid (R = 1) := HR.out.trans (Opr.fault_extra (o := ⟨7, p, 0, 0, true, q⟩) (by simp [Opr.extra, Opr.hasPath, Opr.hasData, Opr.hasVer]))
        have HBK : Hid (∀ wx : World, Calls Tryz.prog 75 #[oagg ⟨7, p, 0, 0, true, q⟩] wx fun e w' => e = .returned (oagg ⟨7, ⟨#[]⟩, 0, 0, true, q⟩) ∧ Ext wx w') := beyondKind_7 p 0 0 true q
        have HOS : Hid (∀ wx : World, Calls Tryz.prog 76 #[oagg ⟨7, p, 0, 0, true, q⟩] wx fun e w' => e = .returned (.bool false) ∧ Ext wx w') := isOfSession_any ⟨7, p, 0, 0, true, q⟩
        have CW : Hid (∀ wx : World, Calls Tryz.prog 74 #[.int .i64 7, .int .i64 1, .int .i64 8] wx fun e w' => e = .returned (.bool true) ∧ w' = wx) := isWithin_any 7 1 8
        have HX1 : Hid (OBoxAt (w.alloc (.cells #[.int .i64 7, .string p, .int .i64 0, .int .i64 0, .bool true, .bool q] 49)) w.heap.size ⟨7, p, 0, 0, true, q⟩) := obox_new w ⟨7, p, 0, 0, true, q⟩ _
        have HB1 : Hid (Ext w (w.alloc (.cells #[.int .i64 7, .string p, .int .i64 0, .int .i64 0, .bool true, .bool q] 49))) := (Ext.refl _).alloc _
        unfold oagg at HBK HOS ⊢
        go_enter Tryz.func28, Tryz.ntmps28
        go_wp2
        generalize w.alloc (.cells #[.int .i64 7, .string p, .int .i64 0, .int .i64 0, .bool true, .bool q] 49) = w1 at *
        obtain ⟨x1, z0, z1, z2, z3, z4, z5⟩ := HX1.out
        generalize w.heap.size = bx at *
        go_region_held3 (fun W => W.cell? ⟨bx, 0, none⟩ = some (.int .i64 7) ∧ W.cell? ⟨bx, 1, none⟩ = some (.string p) ∧ W.cell? ⟨bx, 2, none⟩ = some (.int .i64 0) ∧ W.cell? ⟨bx, 3, none⟩ = some (.int .i64 0) ∧ W.cell? ⟨bx, 4, none⟩ = some (.bool true) ∧ W.cell? ⟨bx, 5, none⟩ = some (.bool q)) (first | exact ⟨z0, z1, z2, z3, z4, z5⟩ | exact ⟨y0, y1, y2, y3, y4, y5⟩ | go_keep) (first | (go_at_call 74; refine (CW.out _).mono ?_; rintro e w9 ⟨rfl, hw9⟩; rw [hw9]; clear hw9 w9; (try rw [HBd.out]); (try rw [HBv.out])) | (go_at_call 75; refine (HBK.out _).mono ?_; rintro e w2 ⟨rfl, hb2⟩; have X2 : Hid (Ext w1 w2) := (by first | exact ((Ext.refl _).drew).trans hb2 | exact hb2); have HB2 : Hid (Ext w w2) := HB1.out.trans X2.out; have HX2 : Hid (OBoxAt w2 bx ⟨7, p, 0, 0, true, q⟩) := HX1.out.ext X2.out; clear hb2 X2 HX1 HB1 x1 z0 z1 z2 z3 z4 z5; obtain ⟨x2, y0, y1, y2, y3, y4, y5⟩ := HX2.out))
        all_goals
          go_wp2
          go_ret
          exact ⟨ret_int HF.out.symm, HB2.out⟩
    · have hvb : (v == 0) = false := by simpa using hv
      have HF : Hid (R = 1) := HR.out.trans (Opr.fault_extra (o := ⟨7, p, 0, v, s, q⟩) (by simp [Opr.extra, Opr.hasPath, Opr.hasData, Opr.hasVer, hv]))
      have HBK : Hid (∀ wx : World, Calls Tryz.prog 75 #[oagg ⟨7, p, 0, v, s, q⟩] wx fun e w' => e = .returned (oagg ⟨7, ⟨#[]⟩, 0, v, s, q⟩) ∧ Ext wx w') := beyondKind_7 p 0 v s q
      have HOS : Hid (∀ wx : World, Calls Tryz.prog 76 #[oagg ⟨7, p, 0, v, s, q⟩] wx fun e w' => e = .returned (.bool false) ∧ Ext wx w') := isOfSession_any ⟨7, p, 0, v, s, q⟩
      have CW : Hid (∀ wx : World, Calls Tryz.prog 74 #[.int .i64 7, .int .i64 1, .int .i64 8] wx fun e w' => e = .returned (.bool true) ∧ w' = wx) := isWithin_any 7 1 8
      have HX1 : Hid (OBoxAt (w.alloc (.cells #[.int .i64 7, .string p, .int .i64 0, .int .i64 v, .bool s, .bool q] 49)) w.heap.size ⟨7, p, 0, v, s, q⟩) := obox_new w ⟨7, p, 0, v, s, q⟩ _
      have HB1 : Hid (Ext w (w.alloc (.cells #[.int .i64 7, .string p, .int .i64 0, .int .i64 v, .bool s, .bool q] 49))) := (Ext.refl _).alloc _
      unfold oagg at HBK HOS ⊢
      go_enter Tryz.func28, Tryz.ntmps28
      go_wp2
      generalize w.alloc (.cells #[.int .i64 7, .string p, .int .i64 0, .int .i64 v, .bool s, .bool q] 49) = w1 at *
      obtain ⟨x1, z0, z1, z2, z3, z4, z5⟩ := HX1.out
      generalize w.heap.size = bx at *
      go_region_held3 (fun W => W.cell? ⟨bx, 0, none⟩ = some (.int .i64 7) ∧ W.cell? ⟨bx, 1, none⟩ = some (.string p) ∧ W.cell? ⟨bx, 2, none⟩ = some (.int .i64 0) ∧ W.cell? ⟨bx, 3, none⟩ = some (.int .i64 v) ∧ W.cell? ⟨bx, 4, none⟩ = some (.bool s) ∧ W.cell? ⟨bx, 5, none⟩ = some (.bool q)) (first | exact ⟨z0, z1, z2, z3, z4, z5⟩ | exact ⟨y0, y1, y2, y3, y4, y5⟩ | go_keep) (first | (go_at_call 74; refine (CW.out _).mono ?_; rintro e w9 ⟨rfl, hw9⟩; rw [hw9]; clear hw9 w9; (try rw [HBd.out]); (try rw [HBv.out])) | (go_at_call 75; refine (HBK.out _).mono ?_; rintro e w2 ⟨rfl, hb2⟩; have X2 : Hid (Ext w1 w2) := (by first | exact ((Ext.refl _).drew).trans hb2 | exact hb2); have HB2 : Hid (Ext w w2) := HB1.out.trans X2.out; have HX2 : Hid (OBoxAt w2 bx ⟨7, p, 0, v, s, q⟩) := HX1.out.ext X2.out; clear hb2 X2 HX1 HB1 x1 z0 z1 z2 z3 z4 z5; obtain ⟨x2, y0, y1, y2, y3, y4, y5⟩ := HX2.out))
      all_goals
        go_wp2
        go_ret
        exact ⟨ret_int HF.out.symm, HB2.out⟩
  · have hdb : (d == 0) = false := by simpa using hd
    have HF : Hid (R = 1) := HR.out.trans (Opr.fault_extra (o := ⟨7, p, d, v, s, q⟩) (by simp [Opr.extra, Opr.hasPath, Opr.hasData, Opr.hasVer, hd]))
    have HBK : Hid (∀ wx : World, Calls Tryz.prog 75 #[oagg ⟨7, p, d, v, s, q⟩] wx fun e w' => e = .returned (oagg ⟨7, ⟨#[]⟩, d, v, s, q⟩) ∧ Ext wx w') := beyondKind_7 p d v s q
    have HOS : Hid (∀ wx : World, Calls Tryz.prog 76 #[oagg ⟨7, p, d, v, s, q⟩] wx fun e w' => e = .returned (.bool false) ∧ Ext wx w') := isOfSession_any ⟨7, p, d, v, s, q⟩
    have CW : Hid (∀ wx : World, Calls Tryz.prog 74 #[.int .i64 7, .int .i64 1, .int .i64 8] wx fun e w' => e = .returned (.bool true) ∧ w' = wx) := isWithin_any 7 1 8
    have HX1 : Hid (OBoxAt (w.alloc (.cells #[.int .i64 7, .string p, .int .i64 d, .int .i64 v, .bool s, .bool q] 49)) w.heap.size ⟨7, p, d, v, s, q⟩) := obox_new w ⟨7, p, d, v, s, q⟩ _
    have HB1 : Hid (Ext w (w.alloc (.cells #[.int .i64 7, .string p, .int .i64 d, .int .i64 v, .bool s, .bool q] 49))) := (Ext.refl _).alloc _
    unfold oagg at HBK HOS ⊢
    go_enter Tryz.func28, Tryz.ntmps28
    go_wp2
    generalize w.alloc (.cells #[.int .i64 7, .string p, .int .i64 d, .int .i64 v, .bool s, .bool q] 49) = w1 at *
    obtain ⟨x1, z0, z1, z2, z3, z4, z5⟩ := HX1.out
    generalize w.heap.size = bx at *
    go_region_held3 (fun W => W.cell? ⟨bx, 0, none⟩ = some (.int .i64 7) ∧ W.cell? ⟨bx, 1, none⟩ = some (.string p) ∧ W.cell? ⟨bx, 2, none⟩ = some (.int .i64 d) ∧ W.cell? ⟨bx, 3, none⟩ = some (.int .i64 v) ∧ W.cell? ⟨bx, 4, none⟩ = some (.bool s) ∧ W.cell? ⟨bx, 5, none⟩ = some (.bool q)) (first | exact ⟨z0, z1, z2, z3, z4, z5⟩ | exact ⟨y0, y1, y2, y3, y4, y5⟩ | go_keep) (first | (go_at_call 74; refine (CW.out _).mono ?_; rintro e w9 ⟨rfl, hw9⟩; rw [hw9]; clear hw9 w9; (try rw [HBd.out]); (try rw [HBv.out])) | (go_at_call 75; refine (HBK.out _).mono ?_; rintro e w2 ⟨rfl, hb2⟩; have X2 : Hid (Ext w1 w2) := (by first | exact ((Ext.refl _).drew).trans hb2 | exact hb2); have HB2 : Hid (Ext w w2) := HB1.out.trans X2.out; have HX2 : Hid (OBoxAt w2 bx ⟨7, p, d, v, s, q⟩) := HX1.out.ext X2.out; clear hb2 X2 HX1 HB1 x1 z0 z1 z2 z3 z4 z5; obtain ⟨x2, y0, y1, y2, y3, y4, y5⟩ := HX2.out))
    all_goals
      go_wp2
      go_ret
      exact ⟨ret_int HF.out.symm, HB2.out⟩

set_option maxHeartbeats 4000000 in
set_option maxRecDepth 100000 in
theorem implOpFault_8 (p : ByteArray) (d v : Int) (s q : Bool) (w : World) (hg : Gd w) :
    Calls Tryz.prog 28 #[oagg ⟨8, p, d, v, s, q⟩] w fun e w' => e = .returned (.int .i64 (Opr.fault ⟨8, p, d, v, s, q⟩)) ∧ Ext w w' := by
  obtain ⟨R, hR⟩ : ∃ R, R = Opr.fault ⟨8, p, d, v, s, q⟩ := ⟨_, rfl⟩
  have HR : Hid (R = Opr.fault ⟨8, p, d, v, s, q⟩) := hR
  rw [← hR]
  clear hR
  have HG : Hid (Gd w) := hg
  clear hg
  by_cases hd : d = 0
  · subst hd
    cases hs : s with
    | false =>
      subst hs
      cases hq : q with
      | false =>
        subst hq
        obtain ⟨c, hc⟩ : ∃ c, c = Pth.faultI p.data.toList := ⟨_, rfl⟩
        have HC : Hid (c = Pth.faultI p.data.toList) := hc
        have HPF : Hid (∀ wx : World, Ext w wx → Calls Tryz.prog 77 #[.string p] wx fun e w' => e = .returned (.int .i64 c) ∧ Ext wx w') := by rw [hc]; exact fun wx he => pathFault_any p wx (HG.out.ext he)
        clear hc
        by_cases hc0 : c ≠ 0
        · have hcb : (c != 0) = true := by simpa using hc0
          have HF : Hid (R = c) := HR.out.trans (Opr.fault_path (o := ⟨8, p, 0, v, false, false⟩) (by show (1 : Int) ≤ 8; decide) (by show (8 : Int) ≤ 8; decide) (by simp [Opr.extra, Opr.hasPath, Opr.hasData, Opr.hasVer]) rfl HC.out hc0)
          have HBK : Hid (∀ wx : World, Calls Tryz.prog 75 #[oagg ⟨8, p, 0, v, false, false⟩] wx fun e w' => e = .returned (oagg ⟨8, ⟨#[]⟩, 0, 0, false, false⟩) ∧ Ext wx w') := beyondKind_8 p 0 v false false
          have HOS : Hid (∀ wx : World, Calls Tryz.prog 76 #[oagg ⟨8, p, 0, v, false, false⟩] wx fun e w' => e = .returned (.bool false) ∧ Ext wx w') := isOfSession_any ⟨8, p, 0, v, false, false⟩
          have CW : Hid (∀ wx : World, Calls Tryz.prog 74 #[.int .i64 8, .int .i64 1, .int .i64 8] wx fun e w' => e = .returned (.bool true) ∧ w' = wx) := isWithin_any 8 1 8
          have HX1 : Hid (OBoxAt (w.alloc (.cells #[.int .i64 8, .string p, .int .i64 0, .int .i64 v, .bool false, .bool false] 49)) w.heap.size ⟨8, p, 0, v, false, false⟩) := obox_new w ⟨8, p, 0, v, false, false⟩ _
          have HB1 : Hid (Ext w (w.alloc (.cells #[.int .i64 8, .string p, .int .i64 0, .int .i64 v, .bool false, .bool false] 49))) := (Ext.refl _).alloc _
          unfold oagg at HBK HOS ⊢
          go_enter Tryz.func28, Tryz.ntmps28
          go_wp2
          generalize w.alloc (.cells #[.int .i64 8, .string p, .int .i64 0, .int .i64 v, .bool false, .bool false] 49) = w1 at *
          obtain ⟨x1, z0, z1, z2, z3, z4, z5⟩ := HX1.out
          generalize w.heap.size = bx at *
          go_region_held3 (fun W => W.cell? ⟨bx, 0, none⟩ = some (.int .i64 8) ∧ W.cell? ⟨bx, 1, none⟩ = some (.string p) ∧ W.cell? ⟨bx, 2, none⟩ = some (.int .i64 0) ∧ W.cell? ⟨bx, 3, none⟩ = some (.int .i64 v) ∧ W.cell? ⟨bx, 4, none⟩ = some (.bool false) ∧ W.cell? ⟨bx, 5, none⟩ = some (.bool false)) (first | exact ⟨z0, z1, z2, z3, z4, z5⟩ | exact ⟨y0, y1, y2, y3, y4, y5⟩ | go_keep) (first | (go_at_call 74; refine (CW.out _).mono ?_; rintro e w9 ⟨rfl, hw9⟩; rw [hw9]; clear hw9 w9; (try rw [HBd.out]); (try rw [HBv.out])) | (go_at_call 75; refine (HBK.out _).mono ?_; rintro e w2 ⟨rfl, hb2⟩; have X2 : Hid (Ext w1 w2) := (by first | exact ((Ext.refl _).drew).trans hb2 | exact hb2); have HB2 : Hid (Ext w w2) := HB1.out.trans X2.out; have HX2 : Hid (OBoxAt w2 bx ⟨8, p, 0, v, false, false⟩) := HX1.out.ext X2.out; clear hb2 X2 HX1 HB1 x1 z0 z1 z2 z3 z4 z5; obtain ⟨x2, y0, y1, y2, y3, y4, y5⟩ := HX2.out))
          go_wp2_with fail
          refine (HOS.out _).mono ?_
          rintro e w3 ⟨rfl, hb3⟩
          have HB3 : Hid (Ext w w3) := HB2.out.trans hb3
          have HX3 : Hid (OBoxAt w3 bx ⟨8, p, 0, v, false, false⟩) := HX2.out.ext hb3
          clear hb3 HX2 HB2 x2 y0 y1 y2 y3 y4 y5
          obtain ⟨x3, y0, y1, y2, y3, y4, y5⟩ := HX3.out
          go_wp2_with fail
          refine (HPF.out _ HB3.out).mono ?_
          rintro e w4 ⟨rfl, hb4⟩
          have HB4 : Hid (Ext w w4) := HB3.out.trans hb4
          have HX4 : Hid (OBoxAt w4 bx ⟨8, p, 0, v, false, false⟩) := HX3.out.ext hb4
          clear hb4 HX3 HB3 x3 y0 y1 y2 y3 y4 y5
          go_wp2
          go_ret
          exact ⟨ret_int HF.out.symm, HB4.out⟩
        have hc1 : c = 0 := by omega
        subst hc1
        clear hc0
        by_cases lv : v < -1
        · have HF : Hid (R = 3) := HR.out.trans (Opr.fault_range (o := ⟨8, p, 0, v, false, false⟩) (by show (1 : Int) ≤ 8; decide) (by show (8 : Int) ≤ 8; decide) (by simp [Opr.extra, Opr.hasPath, Opr.hasData, Opr.hasVer]) (Or.inr HC.out.symm) (by simp [Opr.inR]; try omega))
          have HBv : Hid ((decide (-1 ≤ v) && decide (v ≤ 999)) = false) := by unfold Hid; simp; omega
          have HBK : Hid (∀ wx : World, Calls Tryz.prog 75 #[oagg ⟨8, p, 0, v, false, false⟩] wx fun e w' => e = .returned (oagg ⟨8, ⟨#[]⟩, 0, 0, false, false⟩) ∧ Ext wx w') := beyondKind_8 p 0 v false false
          have HOS : Hid (∀ wx : World, Calls Tryz.prog 76 #[oagg ⟨8, p, 0, v, false, false⟩] wx fun e w' => e = .returned (.bool false) ∧ Ext wx w') := isOfSession_any ⟨8, p, 0, v, false, false⟩
          have CW : Hid (∀ wx : World, Calls Tryz.prog 74 #[.int .i64 8, .int .i64 1, .int .i64 8] wx fun e w' => e = .returned (.bool true) ∧ w' = wx) := isWithin_any 8 1 8
          have HX1 : Hid (OBoxAt (w.alloc (.cells #[.int .i64 8, .string p, .int .i64 0, .int .i64 v, .bool false, .bool false] 49)) w.heap.size ⟨8, p, 0, v, false, false⟩) := obox_new w ⟨8, p, 0, v, false, false⟩ _
          have HB1 : Hid (Ext w (w.alloc (.cells #[.int .i64 8, .string p, .int .i64 0, .int .i64 v, .bool false, .bool false] 49))) := (Ext.refl _).alloc _
          unfold oagg at HBK HOS ⊢
          go_enter Tryz.func28, Tryz.ntmps28
          go_wp2
          generalize w.alloc (.cells #[.int .i64 8, .string p, .int .i64 0, .int .i64 v, .bool false, .bool false] 49) = w1 at *
          obtain ⟨x1, z0, z1, z2, z3, z4, z5⟩ := HX1.out
          generalize w.heap.size = bx at *
          go_region_held3 (fun W => W.cell? ⟨bx, 0, none⟩ = some (.int .i64 8) ∧ W.cell? ⟨bx, 1, none⟩ = some (.string p) ∧ W.cell? ⟨bx, 2, none⟩ = some (.int .i64 0) ∧ W.cell? ⟨bx, 3, none⟩ = some (.int .i64 v) ∧ W.cell? ⟨bx, 4, none⟩ = some (.bool false) ∧ W.cell? ⟨bx, 5, none⟩ = some (.bool false)) (first | exact ⟨z0, z1, z2, z3, z4, z5⟩ | exact ⟨y0, y1, y2, y3, y4, y5⟩ | go_keep) (first | (go_at_call 74; refine (CW.out _).mono ?_; rintro e w9 ⟨rfl, hw9⟩; rw [hw9]; clear hw9 w9; (try rw [HBd.out]); (try rw [HBv.out])) | (go_at_call 75; refine (HBK.out _).mono ?_; rintro e w2 ⟨rfl, hb2⟩; have X2 : Hid (Ext w1 w2) := (by first | exact ((Ext.refl _).drew).trans hb2 | exact hb2); have HB2 : Hid (Ext w w2) := HB1.out.trans X2.out; have HX2 : Hid (OBoxAt w2 bx ⟨8, p, 0, v, false, false⟩) := HX1.out.ext X2.out; clear hb2 X2 HX1 HB1 x1 z0 z1 z2 z3 z4 z5; obtain ⟨x2, y0, y1, y2, y3, y4, y5⟩ := HX2.out))
          go_wp2_with fail
          refine (HOS.out _).mono ?_
          rintro e w3 ⟨rfl, hb3⟩
          have HB3 : Hid (Ext w w3) := HB2.out.trans hb3
          have HX3 : Hid (OBoxAt w3 bx ⟨8, p, 0, v, false, false⟩) := HX2.out.ext hb3
          clear hb3 HX2 HB2 x2 y0 y1 y2 y3 y4 y5
          obtain ⟨x3, y0, y1, y2, y3, y4, y5⟩ := HX3.out
          go_wp2_with fail
          refine (HPF.out _ HB3.out).mono ?_
          rintro e w4 ⟨rfl, hb4⟩
          have HB4 : Hid (Ext w w4) := HB3.out.trans hb4
          have HX4 : Hid (OBoxAt w4 bx ⟨8, p, 0, v, false, false⟩) := HX3.out.ext hb4
          clear hb4 HX3 HB3 x3 y0 y1 y2 y3 y4 y5
          obtain ⟨x4, y0, y1, y2, y3, y4, y5⟩ := HX4.out
          go_wp2_with (first | (go_at_call 74; refine (isWithin_any _ _ _ _).mono ?_; rintro e w9 ⟨rfl, hw9⟩; rw [hw9]; clear hw9 w9; (try rw [HBd.out]); (try rw [HBv.out])) | (go_at_call 49; refine (isUpToO_any _ _ _).mono ?_; rintro e w9 ⟨rfl, hw9⟩; rw [hw9]; clear hw9 w9; (try rw [HBd.out]); (try rw [HBv.out])))
          go_ret
          exact ⟨ret_int HF.out.symm, HB4.out⟩
        by_cases gv : 999 < v
        · have HF : Hid (R = 3) := HR.out.trans (Opr.fault_range (o := ⟨8, p, 0, v, false, false⟩) (by show (1 : Int) ≤ 8; decide) (by show (8 : Int) ≤ 8; decide) (by simp [Opr.extra, Opr.hasPath, Opr.hasData, Opr.hasVer]) (Or.inr HC.out.symm) (by simp [Opr.inR]; try omega))
          have HBv : Hid ((decide (-1 ≤ v) && decide (v ≤ 999)) = false) := by unfold Hid; simp; omega
          have HBK : Hid (∀ wx : World, Calls Tryz.prog 75 #[oagg ⟨8, p, 0, v, false, false⟩] wx fun e w' => e = .returned (oagg ⟨8, ⟨#[]⟩, 0, 0, false, false⟩) ∧ Ext wx w') := beyondKind_8 p 0 v false false
          have HOS : Hid (∀ wx : World, Calls Tryz.prog 76 #[oagg ⟨8, p, 0, v, false, false⟩] wx fun e w' => e = .returned (.bool false) ∧ Ext wx w') := isOfSession_any ⟨8, p, 0, v, false, false⟩
          have CW : Hid (∀ wx : World, Calls Tryz.prog 74 #[.int .i64 8, .int .i64 1, .int .i64 8] wx fun e w' => e = .returned (.bool true) ∧ w' = wx) := isWithin_any 8 1 8
          have HX1 : Hid (OBoxAt (w.alloc (.cells #[.int .i64 8, .string p, .int .i64 0, .int .i64 v, .bool false, .bool false] 49)) w.heap.size ⟨8, p, 0, v, false, false⟩) := obox_new w ⟨8, p, 0, v, false, false⟩ _
          have HB1 : Hid (Ext w (w.alloc (.cells #[.int .i64 8, .string p, .int .i64 0, .int .i64 v, .bool false, .bool false] 49))) := (Ext.refl _).alloc _
          unfold oagg at HBK HOS ⊢
          go_enter Tryz.func28, Tryz.ntmps28
          go_wp2
          generalize w.alloc (.cells #[.int .i64 8, .string p, .int .i64 0, .int .i64 v, .bool false, .bool false] 49) = w1 at *
          obtain ⟨x1, z0, z1, z2, z3, z4, z5⟩ := HX1.out
          generalize w.heap.size = bx at *
          go_region_held3 (fun W => W.cell? ⟨bx, 0, none⟩ = some (.int .i64 8) ∧ W.cell? ⟨bx, 1, none⟩ = some (.string p) ∧ W.cell? ⟨bx, 2, none⟩ = some (.int .i64 0) ∧ W.cell? ⟨bx, 3, none⟩ = some (.int .i64 v) ∧ W.cell? ⟨bx, 4, none⟩ = some (.bool false) ∧ W.cell? ⟨bx, 5, none⟩ = some (.bool false)) (first | exact ⟨z0, z1, z2, z3, z4, z5⟩ | exact ⟨y0, y1, y2, y3, y4, y5⟩ | go_keep) (first | (go_at_call 74; refine (CW.out _).mono ?_; rintro e w9 ⟨rfl, hw9⟩; rw [hw9]; clear hw9 w9; (try rw [HBd.out]); (try rw [HBv.out])) | (go_at_call 75; refine (HBK.out _).mono ?_; rintro e w2 ⟨rfl, hb2⟩; have X2 : Hid (Ext w1 w2) := (by first | exact ((Ext.refl _).drew).trans hb2 | exact hb2); have HB2 : Hid (Ext w w2) := HB1.out.trans X2.out; have HX2 : Hid (OBoxAt w2 bx ⟨8, p, 0, v, false, false⟩) := HX1.out.ext X2.out; clear hb2 X2 HX1 HB1 x1 z0 z1 z2 z3 z4 z5; obtain ⟨x2, y0, y1, y2, y3, y4, y5⟩ := HX2.out))
          go_wp2_with fail
          refine (HOS.out _).mono ?_
          rintro e w3 ⟨rfl, hb3⟩
          have HB3 : Hid (Ext w w3) := HB2.out.trans hb3
          have HX3 : Hid (OBoxAt w3 bx ⟨8, p, 0, v, false, false⟩) := HX2.out.ext hb3
          clear hb3 HX2 HB2 x2 y0 y1 y2 y3 y4 y5
          obtain ⟨x3, y0, y1, y2, y3, y4, y5⟩ := HX3.out
          go_wp2_with fail
          refine (HPF.out _ HB3.out).mono ?_
          rintro e w4 ⟨rfl, hb4⟩
          have HB4 : Hid (Ext w w4) := HB3.out.trans hb4
          have HX4 : Hid (OBoxAt w4 bx ⟨8, p, 0, v, false, false⟩) := HX3.out.ext hb4
          clear hb4 HX3 HB3 x3 y0 y1 y2 y3 y4 y5
          obtain ⟨x4, y0, y1, y2, y3, y4, y5⟩ := HX4.out
          go_wp2_with (first | (go_at_call 74; refine (isWithin_any _ _ _ _).mono ?_; rintro e w9 ⟨rfl, hw9⟩; rw [hw9]; clear hw9 w9; (try rw [HBd.out]); (try rw [HBv.out])) | (go_at_call 49; refine (isUpToO_any _ _ _).mono ?_; rintro e w9 ⟨rfl, hw9⟩; rw [hw9]; clear hw9 w9; (try rw [HBd.out]); (try rw [HBv.out])))
          go_ret
          exact ⟨ret_int HF.out.symm, HB4.out⟩
        have lv' : -1 ≤ v := by omega
        have gv' : v ≤ 999 := by omega
        have HF : Hid (R = 0) := HR.out.trans (Opr.fault_ok (o := ⟨8, p, 0, v, false, false⟩) (by show (1 : Int) ≤ 8; decide) (by show (8 : Int) ≤ 8; decide) (by simp [Opr.extra, Opr.hasPath, Opr.hasData, Opr.hasVer]) (Or.inr HC.out.symm) (by simp [Opr.inR]; try omega))
        have HBv : Hid ((decide (-1 ≤ v) && decide (v ≤ 999)) = true) := by unfold Hid; simp; omega
        clear lv' gv'
        have HBK : Hid (∀ wx : World, Calls Tryz.prog 75 #[oagg ⟨8, p, 0, v, false, false⟩] wx fun e w' => e = .returned (oagg ⟨8, ⟨#[]⟩, 0, 0, false, false⟩) ∧ Ext wx w') := beyondKind_8 p 0 v false false
        have HOS : Hid (∀ wx : World, Calls Tryz.prog 76 #[oagg ⟨8, p, 0, v, false, false⟩] wx fun e w' => e = .returned (.bool false) ∧ Ext wx w') := isOfSession_any ⟨8, p, 0, v, false, false⟩
        have CW : Hid (∀ wx : World, Calls Tryz.prog 74 #[.int .i64 8, .int .i64 1, .int .i64 8] wx fun e w' => e = .returned (.bool true) ∧ w' = wx) := isWithin_any 8 1 8
        have HX1 : Hid (OBoxAt (w.alloc (.cells #[.int .i64 8, .string p, .int .i64 0, .int .i64 v, .bool false, .bool false] 49)) w.heap.size ⟨8, p, 0, v, false, false⟩) := obox_new w ⟨8, p, 0, v, false, false⟩ _
        have HB1 : Hid (Ext w (w.alloc (.cells #[.int .i64 8, .string p, .int .i64 0, .int .i64 v, .bool false, .bool false] 49))) := (Ext.refl _).alloc _
        unfold oagg at HBK HOS ⊢
        go_enter Tryz.func28, Tryz.ntmps28
        go_wp2
        generalize w.alloc (.cells #[.int .i64 8, .string p, .int .i64 0, .int .i64 v, .bool false, .bool false] 49) = w1 at *
        obtain ⟨x1, z0, z1, z2, z3, z4, z5⟩ := HX1.out
        generalize w.heap.size = bx at *
        go_region_held3 (fun W => W.cell? ⟨bx, 0, none⟩ = some (.int .i64 8) ∧ W.cell? ⟨bx, 1, none⟩ = some (.string p) ∧ W.cell? ⟨bx, 2, none⟩ = some (.int .i64 0) ∧ W.cell? ⟨bx, 3, none⟩ = some (.int .i64 v) ∧ W.cell? ⟨bx, 4, none⟩ = some (.bool false) ∧ W.cell? ⟨bx, 5, none⟩ = some (.bool false)) (first | exact ⟨z0, z1, z2, z3, z4, z5⟩ | exact ⟨y0, y1, y2, y3, y4, y5⟩ | go_keep) (first | (go_at_call 74; refine (CW.out _).mono ?_; rintro e w9 ⟨rfl, hw9⟩; rw [hw9]; clear hw9 w9; (try rw [HBd.out]); (try rw [HBv.out])) | (go_at_call 75; refine (HBK.out _).mono ?_; rintro e w2 ⟨rfl, hb2⟩; have X2 : Hid (Ext w1 w2) := (by first | exact ((Ext.refl _).drew).trans hb2 | exact hb2); have HB2 : Hid (Ext w w2) := HB1.out.trans X2.out; have HX2 : Hid (OBoxAt w2 bx ⟨8, p, 0, v, false, false⟩) := HX1.out.ext X2.out; clear hb2 X2 HX1 HB1 x1 z0 z1 z2 z3 z4 z5; obtain ⟨x2, y0, y1, y2, y3, y4, y5⟩ := HX2.out))
        go_wp2_with fail
        refine (HOS.out _).mono ?_
        rintro e w3 ⟨rfl, hb3⟩
        have HB3 : Hid (Ext w w3) := HB2.out.trans hb3
        have HX3 : Hid (OBoxAt w3 bx ⟨8, p, 0, v, false, false⟩) := HX2.out.ext hb3
        clear hb3 HX2 HB2 x2 y0 y1 y2 y3 y4 y5
        obtain ⟨x3, y0, y1, y2, y3, y4, y5⟩ := HX3.out
        go_wp2_with fail
        refine (HPF.out _ HB3.out).mono ?_
        rintro e w4 ⟨rfl, hb4⟩
        have HB4 : Hid (Ext w w4) := HB3.out.trans hb4
        have HX4 : Hid (OBoxAt w4 bx ⟨8, p, 0, v, false, false⟩) := HX3.out.ext hb4
        clear hb4 HX3 HB3 x3 y0 y1 y2 y3 y4 y5
        obtain ⟨x4, y0, y1, y2, y3, y4, y5⟩ := HX4.out
        go_wp2_with (first | (go_at_call 74; refine (isWithin_any _ _ _ _).mono ?_; rintro e w9 ⟨rfl, hw9⟩; rw [hw9]; clear hw9 w9; (try rw [HBd.out]); (try rw [HBv.out])) | (go_at_call 49; refine (isUpToO_any _ _ _).mono ?_; rintro e w9 ⟨rfl, hw9⟩; rw [hw9]; clear hw9 w9; (try rw [HBd.out]); (try rw [HBv.out])))
        go_ret
        exact ⟨ret_int HF.out.symm, HB4.out⟩
      | true =>
        subst hq
        have HF : Hid (R = 1) := HR.out.trans (Opr.fault_extra (o := ⟨8, p, 0, v, false, true⟩) (by simp [Opr.extra, Opr.hasPath, Opr.hasData, Opr.hasVer]))
        have HBK : Hid (∀ wx : World, Calls Tryz.prog 75 #[oagg ⟨8, p, 0, v, false, true⟩] wx fun e w' => e = .returned (oagg ⟨8, ⟨#[]⟩, 0, 0, false, true⟩) ∧ Ext wx w') := beyondKind_8 p 0 v false true
        have HOS : Hid (∀ wx : World, Calls Tryz.prog 76 #[oagg ⟨8, p, 0, v, false, true⟩] wx fun e w' => e = .returned (.bool false) ∧ Ext wx w') := isOfSession_any ⟨8, p, 0, v, false, true⟩
        have CW : Hid (∀ wx : World, Calls Tryz.prog 74 #[.int .i64 8, .int .i64 1, .int .i64 8] wx fun e w' => e = .returned (.bool true) ∧ w' = wx) := isWithin_any 8 1 8
        have HX1 : Hid (OBoxAt (w.alloc (.cells #[.int .i64 8, .string p, .int .i64 0, .int .i64 v, .bool false, .bool true] 49)) w.heap.size ⟨8, p, 0, v, false, true⟩) := obox_new w ⟨8, p, 0, v, false, true⟩ _
        have HB1 : Hid (Ext w (w.alloc (.cells #[.int .i64 8, .string p, .int .i64 0, .int .i64 v, .bool false, .bool true] 49))) := (Ext.refl _).alloc _
        unfold oagg at HBK HOS ⊢
        go_enter Tryz.func28, Tryz.ntmps28
        go_wp2
        generalize w.alloc (.cells #[.int .i64 8, .string p, .int .i64 0, .int .i64 v, .bool false, .bool true] 49) = w1 at *
        obtain ⟨x1, z0, z1, z2, z3, z4, z5⟩ := HX1.out
        generalize w.heap.size = bx at *
        go_region_held3 (fun W => W.cell? ⟨bx, 0, none⟩ = some (.int .i64 8) ∧ W.cell? ⟨bx, 1, none⟩ = some (.string p) ∧ W.cell? ⟨bx, 2, none⟩ = some (.int .i64 0) ∧ W.cell? ⟨bx, 3, none⟩ = some (.int .i64 v) ∧ W.cell? ⟨bx, 4, none⟩ = some (.bool false) ∧ W.cell? ⟨bx, 5, none⟩ = some (.bool true)) (first | exact ⟨z0, z1, z2, z3, z4, z5⟩ | exact ⟨y0, y1, y2, y3, y4, y5⟩ | go_keep) (first | (go_at_call 74; refine (CW.out _).mono ?_; rintro e w9 ⟨rfl, hw9⟩; rw [hw9]; clear hw9 w9; (try rw [HBd.out]); (try rw [HBv.out])) | (go_at_call 75; refine (HBK.out _).mono ?_; rintro e w2 ⟨rfl, hb2⟩; have X2 : Hid (Ext w1 w2) := (by first | exact ((Ext.refl _).drew).trans hb2 | exact hb2); have HB2 : Hid (Ext w w2) := HB1.out.trans X2.out; have HX2 : Hid (OBoxAt w2 bx ⟨8, p, 0, v, false, true⟩) := HX1.out.ext X2.out; clear hb2 X2 HX1 HB1 x1 z0 z1 z2 z3 z4 z5; obtain ⟨x2, y0, y1, y2, y3, y4, y5⟩ := HX2.out))
        all_goals
          go_wp2
          go_ret
          exact ⟨ret_int HF.out.symm, HB2.out⟩
    | true =>
      subst hs
      have HF : Hid (R = 1) := HR.out.trans (Opr.fault_extra (o := ⟨8, p, 0, v, true, q⟩) (by simp [Opr.extra, Opr.hasPath, Opr.hasData, Opr.hasVer]))
      have HBK : Hid (∀ wx : World, Calls Tryz.prog 75 #[oagg ⟨8, p, 0, v, true, q⟩] wx fun e w' => e = .returned (oagg ⟨8, ⟨#[]⟩, 0, 0, true, q⟩) ∧ Ext wx w') := beyondKind_8 p 0 v true q
      have HOS : Hid (∀ wx : World, Calls Tryz.prog 76 #[oagg ⟨8, p, 0, v, true, q⟩] wx fun e w' => e = .returned (.bool false) ∧ Ext wx w') := isOfSession_any ⟨8, p, 0, v, true, q⟩
      have CW : Hid (∀ wx : World, Calls Tryz.prog 74 #[.int .i64 8, .int .i64 1, .int .i64 8] wx fun e w' => e = .returned (.bool true) ∧ w' = wx) := isWithin_any 8 1 8
      have HX1 : Hid (OBoxAt (w.alloc (.cells #[.int .i64 8, .string p, .int .i64 0, .int .i64 v, .bool true, .bool q] 49)) w.heap.size ⟨8, p, 0, v, true, q⟩) := obox_new w ⟨8, p, 0, v, true, q⟩ _
      have HB1 : Hid (Ext w (w.alloc (.cells #[.int .i64 8, .string p, .int .i64 0, .int .i64 v, .bool true, .bool q] 49))) := (Ext.refl _).alloc _
      unfold oagg at HBK HOS ⊢
      go_enter Tryz.func28, Tryz.ntmps28
      go_wp2
      generalize w.alloc (.cells #[.int .i64 8, .string p, .int .i64 0, .int .i64 v, .bool true, .bool q] 49) = w1 at *
      obtain ⟨x1, z0, z1, z2, z3, z4, z5⟩ := HX1.out
      generalize w.heap.size = bx at *
      go_region_held3 (fun W => W.cell? ⟨bx, 0, none⟩ = some (.int .i64 8) ∧ W.cell? ⟨bx, 1, none⟩ = some (.string p) ∧ W.cell? ⟨bx, 2, none⟩ = some (.int .i64 0) ∧ W.cell? ⟨bx, 3, none⟩ = some (.int .i64 v) ∧ W.cell? ⟨bx, 4, none⟩ = some (.bool true) ∧ W.cell? ⟨bx, 5, none⟩ = some (.bool q)) (first | exact ⟨z0, z1, z2, z3, z4, z5⟩ | exact ⟨y0, y1, y2, y3, y4, y5⟩ | go_keep) (first | (go_at_call 74; refine (CW.out _).mono ?_; rintro e w9 ⟨rfl, hw9⟩; rw [hw9]; clear hw9 w9; (try rw [HBd.out]); (try rw [HBv.out])) | (go_at_call 75; refine (HBK.out _).mono ?_; rintro e w2 ⟨rfl, hb2⟩; have X2 : Hid (Ext w1 w2) := (by first | exact ((Ext.refl _).drew).trans hb2 | exact hb2); have HB2 : Hid (Ext w w2) := HB1.out.trans X2.out; have HX2 : Hid (OBoxAt w2 bx ⟨8, p, 0, v, true, q⟩) := HX1.out.ext X2.out; clear hb2 X2 HX1 HB1 x1 z0 z1 z2 z3 z4 z5; obtain ⟨x2, y0, y1, y2, y3, y4, y5⟩ := HX2.out))
      all_goals
        go_wp2
        go_ret
        exact ⟨ret_int HF.out.symm, HB2.out⟩
  · have hdb : (d == 0) = false := by simpa using hd
    have HF : Hid (R = 1) := HR.out.trans (Opr.fault_extra (o := ⟨8, p, d, v, s, q⟩) (by simp [Opr.extra, Opr.hasPath, Opr.hasData, Opr.hasVer, hd]))
    have HBK : Hid (∀ wx : World, Calls Tryz.prog 75 #[oagg ⟨8, p, d, v, s, q⟩] wx fun e w' => e = .returned (oagg ⟨8, ⟨#[]⟩, d, 0, s, q⟩) ∧ Ext wx w') := beyondKind_8 p d v s q
    have HOS : Hid (∀ wx : World, Calls Tryz.prog 76 #[oagg ⟨8, p, d, v, s, q⟩] wx fun e w' => e = .returned (.bool false) ∧ Ext wx w') := isOfSession_any ⟨8, p, d, v, s, q⟩
    have CW : Hid (∀ wx : World, Calls Tryz.prog 74 #[.int .i64 8, .int .i64 1, .int .i64 8] wx fun e w' => e = .returned (.bool true) ∧ w' = wx) := isWithin_any 8 1 8
    have HX1 : Hid (OBoxAt (w.alloc (.cells #[.int .i64 8, .string p, .int .i64 d, .int .i64 v, .bool s, .bool q] 49)) w.heap.size ⟨8, p, d, v, s, q⟩) := obox_new w ⟨8, p, d, v, s, q⟩ _
    have HB1 : Hid (Ext w (w.alloc (.cells #[.int .i64 8, .string p, .int .i64 d, .int .i64 v, .bool s, .bool q] 49))) := (Ext.refl _).alloc _
    unfold oagg at HBK HOS ⊢
    go_enter Tryz.func28, Tryz.ntmps28
    go_wp2
    generalize w.alloc (.cells #[.int .i64 8, .string p, .int .i64 d, .int .i64 v, .bool s, .bool q] 49) = w1 at *
    obtain ⟨x1, z0, z1, z2, z3, z4, z5⟩ := HX1.out
    generalize w.heap.size = bx at *
    go_region_held3 (fun W => W.cell? ⟨bx, 0, none⟩ = some (.int .i64 8) ∧ W.cell? ⟨bx, 1, none⟩ = some (.string p) ∧ W.cell? ⟨bx, 2, none⟩ = some (.int .i64 d) ∧ W.cell? ⟨bx, 3, none⟩ = some (.int .i64 v) ∧ W.cell? ⟨bx, 4, none⟩ = some (.bool s) ∧ W.cell? ⟨bx, 5, none⟩ = some (.bool q)) (first | exact ⟨z0, z1, z2, z3, z4, z5⟩ | exact ⟨y0, y1, y2, y3, y4, y5⟩ | go_keep) (first | (go_at_call 74; refine (CW.out _).mono ?_; rintro e w9 ⟨rfl, hw9⟩; rw [hw9]; clear hw9 w9; (try rw [HBd.out]); (try rw [HBv.out])) | (go_at_call 75; refine (HBK.out _).mono ?_; rintro e w2 ⟨rfl, hb2⟩; have X2 : Hid (Ext w1 w2) := (by first | exact ((Ext.refl _).drew).trans hb2 | exact hb2); have HB2 : Hid (Ext w w2) := HB1.out.trans X2.out; have HX2 : Hid (OBoxAt w2 bx ⟨8, p, d, v, s, q⟩) := HX1.out.ext X2.out; clear hb2 X2 HX1 HB1 x1 z0 z1 z2 z3 z4 z5; obtain ⟨x2, y0, y1, y2, y3, y4, y5⟩ := HX2.out))
    all_goals
      go_wp2
      go_ret
      exact ⟨ret_int HF.out.symm, HB2.out⟩
end Go.Proofs.YtdjnkchaapcjpaaGreatDoor
