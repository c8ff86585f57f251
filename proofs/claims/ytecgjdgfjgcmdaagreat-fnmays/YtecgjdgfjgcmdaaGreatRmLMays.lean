/- laws.FnMays answers true at every code. -/
import Derived.Test.YtecgjdgfjgcmdaaGreatRmGE
import Derived.Test.YtecgjdgfjgcmdaaGreatRmGF
import Derived.Test.YtecgjdgfjgcmdaaGreatRmRP7r
import Derived.Test.YtecgjdgfjgcmdaaGreatRmRP7p
import Derived.Test.YtecgjdgfjgcmdaaGreatRmRP7q
import Derived.Test.YtecgjdgfjgcmdaaGreatRmQS7
import Derived.Test.YtecgjdgfjgcmdaaGreatRmLRp
import Derived.Deep.RegionHeld3
import Derived.Test.YtecgjdgfjgcmdaaGreatRmTk
namespace Go.Proofs.YtecgjdgfjgcmdaaGreat
open Go.RowKit
set_option maxHeartbeats 1000000 in
theorem lwBigR_any (ad : Option Addr) (len cap : Nat) (w : World) :
  Calls Tryz.prog 31 #[.slice ad len cap] w fun e w' => e = .returned (.bool (decide (1048576 < len))) ∧ w' = w := by
 go_enter Tryz.func31, Tryz.ntmps31
 go_wp2
 go_ret
 exact ⟨ret_bool (by rw [Bool.eq_iff_iff]; simp; omega), rfl⟩
set_option maxHeartbeats 1000000 in
set_option maxRecDepth 100000 in
theorem lawMays_big (ad : Option Addr) (len cap : Nat) (w : World) (hl : 1048576 < len) :
  Calls Tryz.prog 9 #[.slice ad len cap] w fun e w' => e = .returned (.bool true) ∧ Ext w w' := by
 have hbig : decide (1048576 < len) = true := by simpa using hl
 have hB := lwBigR_any ad len cap w
 rw [hbig] at hB
 clear hbig
 go_enter Tryz.func9, Tryz.ntmps9
 go_wp2_with fail
 refine hB.mono ?_
 rintro e w1 ⟨rfl, hw⟩
 rw [hw]
 clear hw hB
 go_wp2
 go_ret
 exact ⟨rfl, Ext.refl _⟩
set_option linter.unusedSimpArgs false in
set_option maxHeartbeats 16000000 in
set_option maxRecDepth 100000 in
theorem lawMays (cv : Value) (w : World) (hc : CodeOk w w.heap.size cv) :
  Calls Tryz.prog 9 #[cv] w fun e w' => e = .returned (.bool true) ∧ Ext w w' := by
 have hc' := hc
 have HD1 : Hid (∀ wx, Ext w wx → Calls Tryz.prog 32 #[cv] wx (Dr.R4 wx)) := fun wx he => drawMayPrepare_any cv wx (hc.later he)
 have HD2 : Hid (∀ wx, Ext w wx → Calls Tryz.prog 33 #[cv] wx (Dr.R5 wx)) := fun wx he => drawMayCommit_any cv wx (hc.later he)
 have HD3 : Hid (∀ wx, Ext w wx → Calls Tryz.prog 36 #[cv] wx (Dr.R5 wx)) := fun wx he => drawMayPropose_any cv wx (hc.later he)
 obtain ⟨ad, len, cap0, rfl, hl, -⟩ := hc'
 have hbig : decide (1048576 < len) = false := by simpa using hl
 have hB := lwBigR_any ad len cap0 w
 rw [hbig] at hB
 clear hc hbig hl
 go_enter Tryz.func9, Tryz.ntmps9
 go_wp2_with fail
 refine hB.mono ?_
 rintro e w9 ⟨rfl, hw⟩
 rw [hw]
 clear hw hB w9
 go_wp2_with fail
 refine (HD1.out _ (Ext.refl _)).mono ?_
 rintro e w1 ⟨f, ov, ms, rp, place, rfl, hM, -, hb⟩
 obtain ⟨a1, c1, rfl, hlc, hcm, hx9⟩ := id hM
 have MA1 : Hid (MSlice w1 (.slice a1 ms.length c1) ms) := hM
 have HX9 : Hid (0 < ms.length → ∃ b off, a1 = some ⟨b, off, none⟩ ∧ b < w1.heap.size ∧ MsAt w1 b off ms) := hx9
 have X1 : Hid (Ext w w1) := hb
 clear hb hM hx9 HD1
 unfold maxLen at hcm
 obtain ⟨k, hk⟩ : ∃ k, k = Msg.askC f ms rp (Msg.prepC f ms rp place) := ⟨_, rfl⟩
 have HKp : Hid (k = 0 → Msg.proposeRight f ms place rp.start = true ∧ Msg.repC f ms rp = 0 ∧ ∃ kz z, place = ((kz : Nat) : Int) ∧ ms[kz]? = some z ∧ z.view = rp.view) := fun h => Msg.may_prepare (by rw [← hk]; exact h)
 have HPi : Hid (∀ (wx : World), MSlice wx (.slice a1 ms.length c1) ms → Calls Tryz.prog 20 #[.int .i64 f, (.slice a1 ms.length c1), .agg #[.int .i64 rp.id, .int .i64 rp.view, .int .i64 rp.start, .int .i64 rp.done], .int .i64 place] wx fun e w' => e = .returned (.int .i64 k) ∧ Ext wx w') := by rw [hk]; exact fun wx h => implMayPrepare_any f _ ms rp place wx h
 have HPs : Hid (∀ (wx : World), MSlice wx (.slice a1 ms.length c1) ms → Calls Tryz.prog 19 #[.int .i64 f, (.slice a1 ms.length c1), .agg #[.int .i64 rp.id, .int .i64 rp.view, .int .i64 rp.start, .int .i64 rp.done], .int .i64 place] wx fun e w' => e = .returned (.int .i64 k) ∧ Ext wx w') := by rw [hk]; exact fun wx h => specMayPrepare_any f _ ms rp place wx h
 have HPr0 : Hid (∀ (wx : World), MSlice wx (.slice a1 ms.length c1) ms → Calls Tryz.prog 34 #[.int .i64 f, (.slice a1 ms.length c1), .int .i64 place, .int .i64 rp.start] wx fun e w' => e = .returned (.bool (Msg.proposeRight f ms place rp.start)) ∧ Ext wx w') := fun wx h => implProposeRight_any f place rp.start _ ms wx h
 have HRf0 : Hid (∀ (wx : World), MSlice wx (.slice a1 ms.length c1) ms → Calls Tryz.prog 15 #[.int .i64 f, (.slice a1 ms.length c1), .agg #[.int .i64 rp.id, .int .i64 rp.view, .int .i64 rp.start, .int .i64 rp.done]] wx fun e w' => e = .returned (.int .i64 (Msg.repC f ms rp)) ∧ Ext wx w') := fun wx h => implReplicaFault_any f _ ms rp wx h
 clear hk
 have e1 : (k != k) = false := by simp
 unfold ragg
 go_wp2_with fail
 refine (HPi.out _ (MA1.out.ext ((Ext.refl _).alloc _))).mono ?_
 rintro e w2 ⟨rfl, hb⟩
 have QA2 : Hid (QBoxAt w2 w1.heap.size rp) := (qbox_new w1 rp _).ext hb
 have Y2 : Hid (Ext w1 w2) := ((Ext.refl _).alloc _).trans hb
 have X2 : Hid (Ext w w2) := X1.out.trans Y2.out
 clear hb HPi
 go_wp2_with fail
 refine (HD2.out _ X2.out).mono ?_
 rintro e w3 ⟨g, ov2, m2, rq, slot, value, rfl, hM, -, hb⟩
 obtain ⟨a2, c2, rfl, -⟩ := id hM
 have MB3 : Hid (MSlice w3 (.slice a2 m2.length c2) m2) := hM
 have Y3 : Hid (Ext w1 w3) := Y2.out.trans hb
 have X3 : Hid (Ext w w3) := X2.out.trans hb
 have QA3 : Hid (QBoxAt w3 w1.heap.size rp) := QA2.out.ext hb
 clear hb hM HD2 QA2 Y2 X2
 obtain ⟨c, hcq⟩ : ∃ c, c = Msg.askC g m2 rq (Msg.comC g m2 rq slot value) := ⟨_, rfl⟩
 have HCr : Hid (c = 0 → Msg.certRight g m2 ⟨slot, rq.view, value⟩ = true) := fun h => Msg.may_commit (by rw [← hcq]; exact h)
 have HCi : Hid (∀ (wx : World), MSlice wx (.slice a2 m2.length c2) m2 → Calls Tryz.prog 22 #[.int .i64 g, (.slice a2 m2.length c2), .agg #[.int .i64 rq.id, .int .i64 rq.view, .int .i64 rq.start, .int .i64 rq.done], .int .i64 slot, .int .i64 value] wx fun e w' => e = .returned (.int .i64 c) ∧ Ext wx w') := by rw [hcq]; exact fun wx h => implMayCommit_any g _ m2 rq slot value wx h
 have HCs : Hid (∀ (wx : World), MSlice wx (.slice a2 m2.length c2) m2 → Calls Tryz.prog 21 #[.int .i64 g, (.slice a2 m2.length c2), .agg #[.int .i64 rq.id, .int .i64 rq.view, .int .i64 rq.start, .int .i64 rq.done], .int .i64 slot, .int .i64 value] wx fun e w' => e = .returned (.int .i64 c) ∧ Ext wx w') := by rw [hcq]; exact fun wx h => specMayCommit_any g _ m2 rq slot value wx h
 clear hcq
 have e2 : (c != c) = false := by simp
 unfold ragg
 go_wp2_with fail
 refine (HCi.out _ (MB3.out.ext ((Ext.refl _).alloc _))).mono ?_
 rintro e q3 ⟨rfl, hb⟩
 have Z3 : Hid (Ext w3 q3) := ((Ext.refl _).alloc _).trans hb
 have QBq : Hid (QBoxAt q3 w3.heap.size rq) := (qbox_new w3 rq _).ext hb
 have QAq : Hid (QBoxAt q3 w1.heap.size rp) := QA3.out.ext Z3.out
 obtain ⟨-, p0, p1, p2, p3⟩ := QAq.out
 clear hb HCi
 go_wp2_with fail
 refine (HPs.out _ (MA1.out.ext (Y3.out.trans Z3.out))).mono ?_
 rintro e q4 ⟨rfl, hb⟩
 have Z4 : Hid (Ext w3 q4) := Z3.out.trans hb
 have QB4 : Hid (QBoxAt q4 w3.heap.size rq) := QBq.out.ext hb
 clear hb HPs p0 p1 p2 p3 QAq QBq Z3
 obtain ⟨-, p0, p1, p2, p3⟩ := QB4.out
 go_wp2_with fail
 refine (HCs.out _ (MB3.out.ext Z4.out)).mono ?_
 rintro e w4 ⟨rfl, hb⟩
 have Z5 : Hid (Ext w3 w4) := Z4.out.trans hb
 have QB : Hid (QBoxAt w4 w3.heap.size rq) := QB4.out.ext hb
 have QA : Hid (QBoxAt w4 w1.heap.size rp) := QA3.out.ext Z5.out
 have MB : Hid (MSlice w4 (.slice a2 m2.length c2) m2) := MB3.out.ext Z5.out
 have MA : Hid (MSlice w4 (.slice a1 ms.length c1) ms) := MA1.out.ext (Y3.out.trans Z5.out)
 have X4 : Hid (Ext w w4) := X3.out.trans Z5.out
 have Y4 : Hid (Ext w1 w4) := Y3.out.trans Z5.out
 clear hb HCs p0 p1 p2 p3 QB4 QA3 Z4 Z5 X3 Y3 MB3 MA1 X1
 obtain ⟨R1, hR1⟩ : ∃ R1, R1 = w1.heap.size := ⟨_, rfl⟩
 by_cases hk0 : k = 0
 ·obtain ⟨hp1, hp2, kz, z, rfl, hz, hzv⟩ := HKp.out hk0
  have HPr : Hid _ := HPr0.out
  have HRf : Hid _ := HRf0.out
  rw [hp1] at HPr
  rw [hp2] at HRf
  have hkl : kz < ms.length := (List.getElem?_eq_some_iff.1 hz).1
  obtain ⟨b1, o1, rfl, hb1, hN⟩ := HX9.out (by omega)
  have HMz : Hid (b1 < w4.heap.size ∧ MAt w4 b1 (o1 + kz * 7) z) := ⟨Nat.lt_of_lt_of_le hb1 Y4.out.size, (hN kz z hz).ext hb1 Y4.out⟩
  have HVz : Hid (z.view = rp.view) := hzv
  have e3 : (rp.view != rp.view) = false := by simp
  clear HKp HPr0 HRf0 HX9 hp1 hp2 hz hzv hb1 hN Y4
  subst hk0
  go_wp2
  rw [← hR1] at QA ⊢
  clear hR1
  have HS : Hid (∀ W', Ext w4 W' → W'.cell? ⟨R1, 0, none⟩ = some (.int .i64 rp.id) ∧ W'.cell? ⟨R1, 1, none⟩ = some (.int .i64 rp.view) ∧ W'.cell? ⟨R1, 2, none⟩ = some (.int .i64 rp.start) ∧ W'.cell? ⟨R1, 3, none⟩ = some (.int .i64 rp.done) ∧ W'.cell? ⟨b1, o1 + kz * 7 + 1, none⟩ = some (.int .i64 rp.view)) := fun W' he => by
   obtain ⟨-, q0, q1, q2, q3⟩ := QA.out.ext he
   obtain ⟨vz, uz, ⟨-, m1, -, -, -, -, -⟩, -⟩ := HMz.out.2.ext HMz.out.1 he
   exact ⟨q0, q1, q2, q3, by rw [← HVz.out]; exact m1⟩
  refine wp_region_held_drew (S := (fun W' : World => W'.cell? ⟨R1, 0, none⟩ = some (.int .i64 rp.id) ∧ W'.cell? ⟨R1, 1, none⟩ = some (.int .i64 rp.view) ∧ W'.cell? ⟨R1, 2, none⟩ = some (.int .i64 rp.start) ∧ W'.cell? ⟨R1, 3, none⟩ = some (.int .i64 rp.done) ∧ W'.cell? ⟨b1, o1 + kz * 7 + 1, none⟩ = some (.int .i64 rp.view))) (by kernel_rfl) (HS.out _ ((Ext.refl _).drew)) (fun hHeld => ?_)
  refine tk 0 ⟨some 64, .move (.tmp 7), 2, oz156, #[], none⟩ ?_
  refine tk 1 ⟨some 65, .binOp .eql 2 (.tmp 64) (.const (.int .i64 0)) 2, 4, oz156, #[⟨0, .data⟩], none⟩ ?_
  refine tk 2 ⟨some 66, .move (.tmp 65), 4, oz156, #[⟨1, .data⟩], none⟩ ?_
  refine tk 3 ⟨some 67, .move (.tmp 3), 2, oz156, #[⟨2, .guard⟩], some (2, true)⟩ ?_
  refine tk 4 ⟨some 68, .move (.tmp 4), 27, oz156, #[⟨2, .guard⟩], some (2, true)⟩ ?_
  refine tk 5 ⟨some 69, .move (.tmp 6), 2, oz156, #[⟨2, .guard⟩], some (2, true)⟩ ?_
  refine tk 6 ⟨some 70, .fieldAddr 29 (.tmp 5) 2, 0, oz156, #[⟨2, .guard⟩], some (2, true)⟩ ?_
  refine tk 7 ⟨some 71, .load 2 (.tmp 70), 2, oz156, #[⟨6, .data⟩, ⟨2, .guard⟩], some (2, true)⟩ ?_
  refine wpAnyH_ready (rs := [8]) (by kernel_rfl) (by simp) (AllReadyH.cons rfl (fun K hK => ?_) AllReadyH.nil)
  go_simp
  refine (HPr.out _ (MA.out.ext ((Ext.refl _).drew))).mono ?_
  rintro e y1 ⟨rfl, hb⟩
  have X1 : Hid (Ext w4 y1) := ((Ext.refl _).drew).trans hb
  clear hb
  refine hK.out _ _ (by exact HS.out _ X1.out) (fun hHeldX1 => ?_)
  clear hK K
  refine tk 9 ⟨some 73, .unOp .not 4 (.tmp 72), 4, oz156, oy157, some (2, true)⟩ ?_
  refine tk 10 ⟨some 74, .move (.tmp 73), 4, oz156, #[⟨9, .data⟩, ⟨8, .chain⟩, ⟨2, .guard⟩], some (2, true)⟩ ?_
  refine tk 11 ⟨some 75, .move (.tmp 4), 27, oz156, oy158, some (10, false)⟩ ?_
  refine tk 12 ⟨some 76, .move (.tmp 6), 2, oz156, oy158, some (10, false)⟩ ?_
  refine tk 13 ⟨some 77, .indexAddr 27 (.tmp 75) (.tmp 76), 0, oz156, #[⟨11, .data⟩, ⟨12, .data⟩, ⟨10, .guard⟩], some (10, false)⟩ ?_
  refine tk 14 ⟨some 78, .fieldAddr 40 (.tmp 77) 1, 0, oz156, #[⟨13, .data⟩, ⟨10, .guard⟩], some (10, false)⟩ ?_
  refine tk 15 ⟨some 79, .load 2 (.tmp 78), 2, oz156, #[⟨14, .data⟩, ⟨10, .guard⟩], some (10, false)⟩ ?_
  refine tk 16 ⟨some 80, .fieldAddr 29 (.tmp 5) 1, 0, oz156, oy158, some (10, false)⟩ ?_
  refine tk 17 ⟨some 81, .load 2 (.tmp 80), 2, oz156, #[⟨16, .data⟩, ⟨10, .guard⟩], some (10, false)⟩ ?_
  refine tk 18 ⟨some 82, .binOp .neq 2 (.tmp 79) (.tmp 81) 2, 4, oz156, #[⟨15, .data⟩, ⟨17, .data⟩, ⟨10, .guard⟩], some (10, false)⟩ ?_
  refine tk 19 ⟨some 83, .pick (.tmp 74) (.const (.bool true)) (.tmp 82), 4, oz156, #[⟨10, .data⟩, ⟨18, .data⟩, ⟨2, .guard⟩], some (2, true)⟩ ?_
  refine tk 20 ⟨some 84, .move (.tmp 83), 4, oz156, #[⟨19, .data⟩, ⟨10, .chain⟩, ⟨2, .guard⟩], some (2, true)⟩ ?_
  refine tk 21 ⟨some 85, .move (.tmp 3), 2, oz156, oy87, some (20, false)⟩ ?_
  refine tk 22 ⟨some 86, .move (.tmp 4), 27, oz156, oy87, some (20, false)⟩ ?_
  refine tk 23 ⟨some 87, .load 29 (.tmp 5), 29, oz156, oy87, some (20, false)⟩ ?_
  refine wpAnyH_ready (rs := [24]) (by kernel_rfl) (by simp) (AllReadyH.cons rfl (fun K hK => ?_) AllReadyH.nil)
  go_simp
  refine (HRf.out _ (MA.out.ext X1.out)).mono ?_
  rintro e y2 ⟨rfl, hb⟩
  have X2 : Hid (Ext w4 y2) := X1.out.trans hb
  clear hb
  refine hK.out _ _ (by exact HS.out _ X2.out) (fun hHeldX2 => ?_)
  clear hK K
  refine tk 25 ⟨some 89, .binOp .neq 2 (.tmp 88) (.const (.int .i64 0)) 2, 4, oz156, #[⟨24, .data⟩, ⟨20, .guard⟩], some (20, false)⟩ ?_
  refine tk 26 ⟨some 90, .pick (.tmp 84) (.const (.bool true)) (.tmp 89), 4, oz156, #[⟨20, .data⟩, ⟨25, .data⟩, ⟨2, .guard⟩], some (2, true)⟩ ?_
  refine tk 27 ⟨some 91, .pick (.tmp 66) (.tmp 90) (.const (.bool false)), 4, oz156, #[⟨2, .data⟩, ⟨26, .data⟩], none⟩ ?_
  refine wpAnyH_done (by kernel_rfl) ?_ _
  have X5 : Hid (Ext w y2) := X4.out.trans X2.out
  have MB5 : Hid (MSlice y2 (.slice a2 m2.length c2) m2) := MB.out.ext X2.out
  have QB5 : Hid (QBoxAt y2 w3.heap.size rq) := QB.out.ext X2.out
  clear HS X1 X2 X4 MA MB QA QB HMz HVz HPr HRf
  have MB := MB5
  have QB := QB5
  clear MB5 QB5
  by_cases hc0 : c = 0
  ·have HCr1 := HCr.out hc0
   have HCe : Hid (∀ (wx : World), MSlice wx (.slice a2 m2.length c2) m2 → Calls Tryz.prog 35 #[.int .i64 g, (.slice a2 m2.length c2), .agg #[.int .i64 slot, .int .i64 rq.view, .int .i64 value]] wx fun e w' => e = .returned (.bool true) ∧ Ext wx w') := fun wx h => by have q := implCertRight_any g _ m2 ⟨slot, rq.view, value⟩ wx h; rw [HCr1] at q; exact q
   have e8 : (c == 0) = true := by simpa using hc0
   clear HCr HCr1 hc0
   obtain ⟨-, q0, q1, q2, q3⟩ := QB.out
   go_wp2_with fail
   refine (HCe.out _ MB.out).mono ?_
   rintro e w6 ⟨rfl, hb⟩
   have X6 : Hid (Ext w w6) := X5.out.trans hb
   clear hb q0 q1 q2 q3 MB QB X5 HCe
   go_wp2_with fail
   refine (HD3.out _ X6.out).mono ?_
   rintro e w7 ⟨f3, ov3, m3, rs, s3, v3, rfl, hM, -, hb⟩
   obtain ⟨a3, c3, rfl, -⟩ := id hM
   have MC : Hid (MSlice (w7.alloc (.cells #[.int .i64 rs.id, .int .i64 rs.view, .int .i64 rs.start, .int .i64 rs.done] 29)) (.slice a3 m3.length c3) m3) := hM.ext ((Ext.refl _).alloc _)
   have XC : Hid (Ext w (w7.alloc (.cells #[.int .i64 rs.id, .int .i64 rs.view, .int .i64 rs.start, .int .i64 rs.done] 29))) := ((X6.out.trans hb)).alloc _
   have QC : Hid (QBoxAt (w7.alloc (.cells #[.int .i64 rs.id, .int .i64 rs.view, .int .i64 rs.start, .int .i64 rs.done] 29)) w7.heap.size rs) := qbox_new w7 rs _
   clear hb hM
   obtain ⟨A9, hA9⟩ : ∃ A9, A9 = Msg.askC f3 m3 rs (Msg.propC f3 m3 rs s3 v3) := ⟨_, rfl⟩
   have HQi : Hid (∀ (wx : World), MSlice wx (.slice a3 m3.length c3) m3 → Calls Tryz.prog 18 #[.int .i64 f3, (.slice a3 m3.length c3), .agg #[.int .i64 rs.id, .int .i64 rs.view, .int .i64 rs.start, .int .i64 rs.done], .int .i64 s3, .int .i64 v3] wx fun e w' => e = .returned (.int .i64 A9) ∧ Ext wx w') := by rw [hA9]; exact fun wx h => implMayPropose_any f3 _ m3 rs s3 v3 wx h
   have HQs : Hid (∀ (wx : World), MSlice wx (.slice a3 m3.length c3) m3 → Calls Tryz.prog 17 #[.int .i64 f3, (.slice a3 m3.length c3), .agg #[.int .i64 rs.id, .int .i64 rs.view, .int .i64 rs.start, .int .i64 rs.done], .int .i64 s3, .int .i64 v3] wx fun e w' => e = .returned (.int .i64 A9) ∧ Ext wx w') := by rw [hA9]; exact fun wx h => specMayPropose_any f3 _ m3 rs s3 v3 wx h
   clear hA9
   obtain ⟨R3, hR3⟩ : ∃ R3, R3 = w7.heap.size := ⟨_, rfl⟩
   unfold ragg
   go_wp2
   rw [← hR3] at QC ⊢
   clear hR3
   generalize w7.alloc (.cells #[.int .i64 rs.id, .int .i64 rs.view, .int .i64 rs.start, .int .i64 rs.done] 29) = v7 at *
   have HS : Hid (∀ W', Ext v7 W' → W'.cell? ⟨R3, 0, none⟩ = some (.int .i64 rs.id) ∧ W'.cell? ⟨R3, 1, none⟩ = some (.int .i64 rs.view) ∧ W'.cell? ⟨R3, 2, none⟩ = some (.int .i64 rs.start) ∧ W'.cell? ⟨R3, 3, none⟩ = some (.int .i64 rs.done)) := fun W' he => (QC.out.ext he).2
   have e9 : (A9 == A9) = true := by simp
   refine wp_region_held_drew (S := (fun W' : World => W'.cell? ⟨R3, 0, none⟩ = some (.int .i64 rs.id) ∧ W'.cell? ⟨R3, 1, none⟩ = some (.int .i64 rs.view) ∧ W'.cell? ⟨R3, 2, none⟩ = some (.int .i64 rs.start) ∧ W'.cell? ⟨R3, 3, none⟩ = some (.int .i64 rs.done))) (by kernel_rfl) (HS.out _ ((Ext.refl _).drew)) (fun hHeld => ?_)
   refine tk 0 ⟨some 113, .move (.tmp 14), 2, oz159, #[], none⟩ ?_
   refine tk 1 ⟨some 114, .move (.tmp 15), 27, oz159, #[], none⟩ ?_
   refine tk 2 ⟨some 115, .load 29 (.tmp 16), 29, oz159, #[], none⟩ ?_
   refine tk 3 ⟨some 116, .move (.tmp 17), 2, oz159, #[], none⟩ ?_
   refine tk 4 ⟨some 117, .move (.tmp 18), 2, oz159, #[], none⟩ ?_
   refine tk 6 ⟨some 119, .move (.tmp 14), 2, oz159, #[], none⟩ ?_
   refine tk 7 ⟨some 120, .move (.tmp 15), 27, oz159, #[], none⟩ ?_
   refine tk 8 ⟨some 121, .load 29 (.tmp 16), 29, oz159, #[], none⟩ ?_
   refine tk 9 ⟨some 122, .move (.tmp 17), 2, oz159, #[], none⟩ ?_
   refine tk 10 ⟨some 123, .move (.tmp 18), 2, oz159, #[], none⟩ ?_
   refine wpAnyH_ready (rs := [5]) (by kernel_rfl) (by simp) (AllReadyH.cons rfl (fun K hK => ?_) AllReadyH.nil)
   go_simp
   refine (HQi.out _ (MC.out.ext ((Ext.refl _).drew))).mono ?_
   rintro e y8 ⟨rfl, hb⟩
   have X8 : Hid (Ext v7 y8) := ((Ext.refl _).drew).trans hb
   clear hb
   refine hK.out _ _ (by exact HS.out _ X8.out) (fun hHeldX8 => ?_)
   clear hK K
   refine wpAnyH_ready (rs := [11]) (by kernel_rfl) (by simp) (AllReadyH.cons rfl (fun K hK => ?_) AllReadyH.nil)
   go_simp
   refine (HQs.out _ (MC.out.ext X8.out)).mono ?_
   rintro e y9 ⟨rfl, hb⟩
   have X9 : Hid (Ext v7 y9) := X8.out.trans hb
   clear hb
   refine hK.out _ _ (by exact HS.out _ X9.out) (fun hHeldX9 => ?_)
   clear hK K
   refine tk 12 ⟨some 125, .binOp .eql 2 (.tmp 118) (.tmp 124) 2, 4, oz159, oy41, none⟩ ?_
   refine tk 13 ⟨some 2, .assign (.tmp 125), 4, oz159, oy160, none⟩ ?_
   refine wpAnyH_done (by kernel_rfl) ?_ _
   go_wp2
   go_ret
   exact ⟨rfl, XC.out.trans X9.out⟩
  ·have e8 : (c == 0) = false := by simpa using hc0
   clear HCr hc0
   clear MB QB
   go_wp2_with fail
   refine (HD3.out _ X5.out).mono ?_
   rintro e w7 ⟨f3, ov3, m3, rs, s3, v3, rfl, hM, -, hb⟩
   obtain ⟨a3, c3, rfl, -⟩ := id hM
   have MC : Hid (MSlice (w7.alloc (.cells #[.int .i64 rs.id, .int .i64 rs.view, .int .i64 rs.start, .int .i64 rs.done] 29)) (.slice a3 m3.length c3) m3) := hM.ext ((Ext.refl _).alloc _)
   have XC : Hid (Ext w (w7.alloc (.cells #[.int .i64 rs.id, .int .i64 rs.view, .int .i64 rs.start, .int .i64 rs.done] 29))) := ((X5.out.trans hb)).alloc _
   have QC : Hid (QBoxAt (w7.alloc (.cells #[.int .i64 rs.id, .int .i64 rs.view, .int .i64 rs.start, .int .i64 rs.done] 29)) w7.heap.size rs) := qbox_new w7 rs _
   clear hb hM
   obtain ⟨A9, hA9⟩ : ∃ A9, A9 = Msg.askC f3 m3 rs (Msg.propC f3 m3 rs s3 v3) := ⟨_, rfl⟩
   have HQi : Hid (∀ (wx : World), MSlice wx (.slice a3 m3.length c3) m3 → Calls Tryz.prog 18 #[.int .i64 f3, (.slice a3 m3.length c3), .agg #[.int .i64 rs.id, .int .i64 rs.view, .int .i64 rs.start, .int .i64 rs.done], .int .i64 s3, .int .i64 v3] wx fun e w' => e = .returned (.int .i64 A9) ∧ Ext wx w') := by rw [hA9]; exact fun wx h => implMayPropose_any f3 _ m3 rs s3 v3 wx h
   have HQs : Hid (∀ (wx : World), MSlice wx (.slice a3 m3.length c3) m3 → Calls Tryz.prog 17 #[.int .i64 f3, (.slice a3 m3.length c3), .agg #[.int .i64 rs.id, .int .i64 rs.view, .int .i64 rs.start, .int .i64 rs.done], .int .i64 s3, .int .i64 v3] wx fun e w' => e = .returned (.int .i64 A9) ∧ Ext wx w') := by rw [hA9]; exact fun wx h => specMayPropose_any f3 _ m3 rs s3 v3 wx h
   clear hA9
   obtain ⟨R3, hR3⟩ : ∃ R3, R3 = w7.heap.size := ⟨_, rfl⟩
   unfold ragg
   go_wp2
   rw [← hR3] at QC ⊢
   clear hR3
   generalize w7.alloc (.cells #[.int .i64 rs.id, .int .i64 rs.view, .int .i64 rs.start, .int .i64 rs.done] 29) = v7 at *
   have HS : Hid (∀ W', Ext v7 W' → W'.cell? ⟨R3, 0, none⟩ = some (.int .i64 rs.id) ∧ W'.cell? ⟨R3, 1, none⟩ = some (.int .i64 rs.view) ∧ W'.cell? ⟨R3, 2, none⟩ = some (.int .i64 rs.start) ∧ W'.cell? ⟨R3, 3, none⟩ = some (.int .i64 rs.done)) := fun W' he => (QC.out.ext he).2
   have e9 : (A9 == A9) = true := by simp
   refine wp_region_held_drew (S := (fun W' : World => W'.cell? ⟨R3, 0, none⟩ = some (.int .i64 rs.id) ∧ W'.cell? ⟨R3, 1, none⟩ = some (.int .i64 rs.view) ∧ W'.cell? ⟨R3, 2, none⟩ = some (.int .i64 rs.start) ∧ W'.cell? ⟨R3, 3, none⟩ = some (.int .i64 rs.done))) (by kernel_rfl) (HS.out _ ((Ext.refl _).drew)) (fun hHeld => ?_)
   refine tk 0 ⟨some 113, .move (.tmp 14), 2, oz159, #[], none⟩ ?_
   refine tk 1 ⟨some 114, .move (.tmp 15), 27, oz159, #[], none⟩ ?_
   refine tk 2 ⟨some 115, .load 29 (.tmp 16), 29, oz159, #[], none⟩ ?_
   refine tk 3 ⟨some 116, .move (.tmp 17), 2, oz159, #[], none⟩ ?_
   refine tk 4 ⟨some 117, .move (.tmp 18), 2, oz159, #[], none⟩ ?_
   refine tk 6 ⟨some 119, .move (.tmp 14), 2, oz159, #[], none⟩ ?_
   refine tk 7 ⟨some 120, .move (.tmp 15), 27, oz159, #[], none⟩ ?_
   refine tk 8 ⟨some 121, .load 29 (.tmp 16), 29, oz159, #[], none⟩ ?_
   refine tk 9 ⟨some 122, .move (.tmp 17), 2, oz159, #[], none⟩ ?_
   refine tk 10 ⟨some 123, .move (.tmp 18), 2, oz159, #[], none⟩ ?_
   refine wpAnyH_ready (rs := [5]) (by kernel_rfl) (by simp) (AllReadyH.cons rfl (fun K hK => ?_) AllReadyH.nil)
   go_simp
   refine (HQi.out _ (MC.out.ext ((Ext.refl _).drew))).mono ?_
   rintro e y8 ⟨rfl, hb⟩
   have X8 : Hid (Ext v7 y8) := ((Ext.refl _).drew).trans hb
   clear hb
   refine hK.out _ _ (by exact HS.out _ X8.out) (fun hHeldX8 => ?_)
   clear hK K
   refine wpAnyH_ready (rs := [11]) (by kernel_rfl) (by simp) (AllReadyH.cons rfl (fun K hK => ?_) AllReadyH.nil)
   go_simp
   refine (HQs.out _ (MC.out.ext X8.out)).mono ?_
   rintro e y9 ⟨rfl, hb⟩
   have X9 : Hid (Ext v7 y9) := X8.out.trans hb
   clear hb
   refine hK.out _ _ (by exact HS.out _ X9.out) (fun hHeldX9 => ?_)
   clear hK K
   refine tk 12 ⟨some 125, .binOp .eql 2 (.tmp 118) (.tmp 124) 2, 4, oz159, oy41, none⟩ ?_
   refine tk 13 ⟨some 2, .assign (.tmp 125), 4, oz159, oy160, none⟩ ?_
   refine wpAnyH_done (by kernel_rfl) ?_ _
   go_wp2
   go_ret
   exact ⟨rfl, XC.out.trans X9.out⟩
 ·have e3 : (k == 0) = false := by simpa using hk0
  clear HKp HPr0 HRf0 HX9 hk0 Y4
  go_wp2
  rw [← hR1] at QA ⊢
  clear hR1
  have HS : Hid (∀ W', Ext w4 W' → W'.cell? ⟨R1, 0, none⟩ = some (.int .i64 rp.id) ∧ W'.cell? ⟨R1, 1, none⟩ = some (.int .i64 rp.view) ∧ W'.cell? ⟨R1, 2, none⟩ = some (.int .i64 rp.start) ∧ W'.cell? ⟨R1, 3, none⟩ = some (.int .i64 rp.done)) := fun W' he => (QA.out.ext he).2
  refine wp_region_held_drew (S := (fun W' : World => W'.cell? ⟨R1, 0, none⟩ = some (.int .i64 rp.id) ∧ W'.cell? ⟨R1, 1, none⟩ = some (.int .i64 rp.view) ∧ W'.cell? ⟨R1, 2, none⟩ = some (.int .i64 rp.start) ∧ W'.cell? ⟨R1, 3, none⟩ = some (.int .i64 rp.done))) (by kernel_rfl) (HS.out _ ((Ext.refl _).drew)) (fun hHeld => ?_)
  refine tk 0 ⟨some 64, .move (.tmp 7), 2, oz156, #[], none⟩ ?_
  refine tk 1 ⟨some 65, .binOp .eql 2 (.tmp 64) (.const (.int .i64 0)) 2, 4, oz156, #[⟨0, .data⟩], none⟩ ?_
  refine tk 2 ⟨some 66, .move (.tmp 65), 4, oz156, #[⟨1, .data⟩], none⟩ ?_
  refine tn 3 ⟨some 67, .move (.tmp 3), 2, oz156, #[⟨2, .guard⟩], some (2, true)⟩ ?_
  refine tn 4 ⟨some 68, .move (.tmp 4), 27, oz156, #[⟨2, .guard⟩], some (2, true)⟩ ?_
  refine tn 5 ⟨some 69, .move (.tmp 6), 2, oz156, #[⟨2, .guard⟩], some (2, true)⟩ ?_
  refine tn 6 ⟨some 70, .fieldAddr 29 (.tmp 5) 2, 0, oz156, #[⟨2, .guard⟩], some (2, true)⟩ ?_
  refine tn 7 ⟨some 71, .load 2 (.tmp 70), 2, oz156, #[⟨6, .data⟩, ⟨2, .guard⟩], some (2, true)⟩ ?_
  refine tn 8 ⟨some 72, .call { callee := .value (.func 34), args := #[.tmp 67, .tmp 68, .tmp 69, .tmp 71], argTypes := #[2, 27, 2, 2] }, 4, oz156, #[⟨3, .data⟩, ⟨4, .data⟩, ⟨5, .data⟩, ⟨7, .data⟩, ⟨2, .chain⟩, ⟨2, .guard⟩], some (2, true)⟩ ?_
  refine tn 9 ⟨some 73, .unOp .not 4 (.tmp 72), 4, oz156, oy157, some (2, true)⟩ ?_
  refine tn 10 ⟨some 74, .move (.tmp 73), 4, oz156, #[⟨9, .data⟩, ⟨8, .chain⟩, ⟨2, .guard⟩], some (2, true)⟩ ?_
  refine tn 11 ⟨some 75, .move (.tmp 4), 27, oz156, oy158, some (10, false)⟩ ?_
  refine tn 12 ⟨some 76, .move (.tmp 6), 2, oz156, oy158, some (10, false)⟩ ?_
  refine tn 13 ⟨some 77, .indexAddr 27 (.tmp 75) (.tmp 76), 0, oz156, #[⟨11, .data⟩, ⟨12, .data⟩, ⟨10, .guard⟩], some (10, false)⟩ ?_
  refine tn 14 ⟨some 78, .fieldAddr 40 (.tmp 77) 1, 0, oz156, #[⟨13, .data⟩, ⟨10, .guard⟩], some (10, false)⟩ ?_
  refine tn 15 ⟨some 79, .load 2 (.tmp 78), 2, oz156, #[⟨14, .data⟩, ⟨10, .guard⟩], some (10, false)⟩ ?_
  refine tn 16 ⟨some 80, .fieldAddr 29 (.tmp 5) 1, 0, oz156, oy158, some (10, false)⟩ ?_
  refine tn 17 ⟨some 81, .load 2 (.tmp 80), 2, oz156, #[⟨16, .data⟩, ⟨10, .guard⟩], some (10, false)⟩ ?_
  refine tn 18 ⟨some 82, .binOp .neq 2 (.tmp 79) (.tmp 81) 2, 4, oz156, #[⟨15, .data⟩, ⟨17, .data⟩, ⟨10, .guard⟩], some (10, false)⟩ ?_
  refine tn 19 ⟨some 83, .pick (.tmp 74) (.const (.bool true)) (.tmp 82), 4, oz156, #[⟨10, .data⟩, ⟨18, .data⟩, ⟨2, .guard⟩], some (2, true)⟩ ?_
  refine tn 20 ⟨some 84, .move (.tmp 83), 4, oz156, #[⟨19, .data⟩, ⟨10, .chain⟩, ⟨2, .guard⟩], some (2, true)⟩ ?_
  refine tn 21 ⟨some 85, .move (.tmp 3), 2, oz156, oy87, some (20, false)⟩ ?_
  refine tn 22 ⟨some 86, .move (.tmp 4), 27, oz156, oy87, some (20, false)⟩ ?_
  refine tn 23 ⟨some 87, .load 29 (.tmp 5), 29, oz156, oy87, some (20, false)⟩ ?_
  refine tn 24 ⟨some 88, .call { callee := .value (.func 15), args := #[.tmp 85, .tmp 86, .tmp 87], argTypes := #[2, 27, 29] }, 2, oz156, #[⟨21, .data⟩, ⟨22, .data⟩, ⟨23, .data⟩, ⟨20, .chain⟩, ⟨20, .guard⟩], some (20, false)⟩ ?_
  refine tn 25 ⟨some 89, .binOp .neq 2 (.tmp 88) (.const (.int .i64 0)) 2, 4, oz156, #[⟨24, .data⟩, ⟨20, .guard⟩], some (20, false)⟩ ?_
  refine tn 26 ⟨some 90, .pick (.tmp 84) (.const (.bool true)) (.tmp 89), 4, oz156, #[⟨20, .data⟩, ⟨25, .data⟩, ⟨2, .guard⟩], some (2, true)⟩ ?_
  refine tk 27 ⟨some 91, .pick (.tmp 66) (.tmp 90) (.const (.bool false)), 4, oz156, #[⟨2, .data⟩, ⟨26, .data⟩], none⟩ ?_
  refine wpAnyH_done (by kernel_rfl) ?_ _
  have X5 : Hid (Ext w w4.drew) := X4.out.drew
  have MB5 : Hid (MSlice w4.drew (.slice a2 m2.length c2) m2) := MB.out.ext ((Ext.refl _).drew)
  have QB5 : Hid (QBoxAt w4.drew w3.heap.size rq) := QB.out.ext ((Ext.refl _).drew)
  clear HS X4 MA MB QA QB
  generalize w4.drew = w5 at *
  have MB := MB5
  have QB := QB5
  clear MB5 QB5
  by_cases hc0 : c = 0
  ·have HCr1 := HCr.out hc0
   have HCe : Hid (∀ (wx : World), MSlice wx (.slice a2 m2.length c2) m2 → Calls Tryz.prog 35 #[.int .i64 g, (.slice a2 m2.length c2), .agg #[.int .i64 slot, .int .i64 rq.view, .int .i64 value]] wx fun e w' => e = .returned (.bool true) ∧ Ext wx w') := fun wx h => by have q := implCertRight_any g _ m2 ⟨slot, rq.view, value⟩ wx h; rw [HCr1] at q; exact q
   have e8 : (c == 0) = true := by simpa using hc0
   clear HCr HCr1 hc0
   obtain ⟨-, q0, q1, q2, q3⟩ := QB.out
   go_wp2_with fail
   refine (HCe.out _ MB.out).mono ?_
   rintro e w6 ⟨rfl, hb⟩
   have X6 : Hid (Ext w w6) := X5.out.trans hb
   clear hb q0 q1 q2 q3 MB QB X5 HCe
   go_wp2_with fail
   refine (HD3.out _ X6.out).mono ?_
   rintro e w7 ⟨f3, ov3, m3, rs, s3, v3, rfl, hM, -, hb⟩
   obtain ⟨a3, c3, rfl, -⟩ := id hM
   have MC : Hid (MSlice (w7.alloc (.cells #[.int .i64 rs.id, .int .i64 rs.view, .int .i64 rs.start, .int .i64 rs.done] 29)) (.slice a3 m3.length c3) m3) := hM.ext ((Ext.refl _).alloc _)
   have XC : Hid (Ext w (w7.alloc (.cells #[.int .i64 rs.id, .int .i64 rs.view, .int .i64 rs.start, .int .i64 rs.done] 29))) := ((X6.out.trans hb)).alloc _
   have QC : Hid (QBoxAt (w7.alloc (.cells #[.int .i64 rs.id, .int .i64 rs.view, .int .i64 rs.start, .int .i64 rs.done] 29)) w7.heap.size rs) := qbox_new w7 rs _
   clear hb hM
   obtain ⟨A9, hA9⟩ : ∃ A9, A9 = Msg.askC f3 m3 rs (Msg.propC f3 m3 rs s3 v3) := ⟨_, rfl⟩
   have HQi : Hid (∀ (wx : World), MSlice wx (.slice a3 m3.length c3) m3 → Calls Tryz.prog 18 #[.int .i64 f3, (.slice a3 m3.length c3), .agg #[.int .i64 rs.id, .int .i64 rs.view, .int .i64 rs.start, .int .i64 rs.done], .int .i64 s3, .int .i64 v3] wx fun e w' => e = .returned (.int .i64 A9) ∧ Ext wx w') := by rw [hA9]; exact fun wx h => implMayPropose_any f3 _ m3 rs s3 v3 wx h
   have HQs : Hid (∀ (wx : World), MSlice wx (.slice a3 m3.length c3) m3 → Calls Tryz.prog 17 #[.int .i64 f3, (.slice a3 m3.length c3), .agg #[.int .i64 rs.id, .int .i64 rs.view, .int .i64 rs.start, .int .i64 rs.done], .int .i64 s3, .int .i64 v3] wx fun e w' => e = .returned (.int .i64 A9) ∧ Ext wx w') := by rw [hA9]; exact fun wx h => specMayPropose_any f3 _ m3 rs s3 v3 wx h
   clear hA9
   obtain ⟨R3, hR3⟩ : ∃ R3, R3 = w7.heap.size := ⟨_, rfl⟩
   unfold ragg
   go_wp2
   rw [← hR3] at QC ⊢
   clear hR3
   generalize w7.alloc (.cells #[.int .i64 rs.id, .int .i64 rs.view, .int .i64 rs.start, .int .i64 rs.done] 29) = v7 at *
   have HS : Hid (∀ W', Ext v7 W' → W'.cell? ⟨R3, 0, none⟩ = some (.int .i64 rs.id) ∧ W'.cell? ⟨R3, 1, none⟩ = some (.int .i64 rs.view) ∧ W'.cell? ⟨R3, 2, none⟩ = some (.int .i64 rs.start) ∧ W'.cell? ⟨R3, 3, none⟩ = some (.int .i64 rs.done)) := fun W' he => (QC.out.ext he).2
   have e9 : (A9 == A9) = true := by simp
   refine wp_region_held_drew (S := (fun W' : World => W'.cell? ⟨R3, 0, none⟩ = some (.int .i64 rs.id) ∧ W'.cell? ⟨R3, 1, none⟩ = some (.int .i64 rs.view) ∧ W'.cell? ⟨R3, 2, none⟩ = some (.int .i64 rs.start) ∧ W'.cell? ⟨R3, 3, none⟩ = some (.int .i64 rs.done))) (by kernel_rfl) (HS.out _ ((Ext.refl _).drew)) (fun hHeld => ?_)
   refine tk 0 ⟨some 113, .move (.tmp 14), 2, oz159, #[], none⟩ ?_
   refine tk 1 ⟨some 114, .move (.tmp 15), 27, oz159, #[], none⟩ ?_
   refine tk 2 ⟨some 115, .load 29 (.tmp 16), 29, oz159, #[], none⟩ ?_
   refine tk 3 ⟨some 116, .move (.tmp 17), 2, oz159, #[], none⟩ ?_
   refine tk 4 ⟨some 117, .move (.tmp 18), 2, oz159, #[], none⟩ ?_
   refine tk 6 ⟨some 119, .move (.tmp 14), 2, oz159, #[], none⟩ ?_
   refine tk 7 ⟨some 120, .move (.tmp 15), 27, oz159, #[], none⟩ ?_
   refine tk 8 ⟨some 121, .load 29 (.tmp 16), 29, oz159, #[], none⟩ ?_
   refine tk 9 ⟨some 122, .move (.tmp 17), 2, oz159, #[], none⟩ ?_
   refine tk 10 ⟨some 123, .move (.tmp 18), 2, oz159, #[], none⟩ ?_
   refine wpAnyH_ready (rs := [5]) (by kernel_rfl) (by simp) (AllReadyH.cons rfl (fun K hK => ?_) AllReadyH.nil)
   go_simp
   refine (HQi.out _ (MC.out.ext ((Ext.refl _).drew))).mono ?_
   rintro e y8 ⟨rfl, hb⟩
   have X8 : Hid (Ext v7 y8) := ((Ext.refl _).drew).trans hb
   clear hb
   refine hK.out _ _ (by exact HS.out _ X8.out) (fun hHeldX8 => ?_)
   clear hK K
   refine wpAnyH_ready (rs := [11]) (by kernel_rfl) (by simp) (AllReadyH.cons rfl (fun K hK => ?_) AllReadyH.nil)
   go_simp
   refine (HQs.out _ (MC.out.ext X8.out)).mono ?_
   rintro e y9 ⟨rfl, hb⟩
   have X9 : Hid (Ext v7 y9) := X8.out.trans hb
   clear hb
   refine hK.out _ _ (by exact HS.out _ X9.out) (fun hHeldX9 => ?_)
   clear hK K
   refine tk 12 ⟨some 125, .binOp .eql 2 (.tmp 118) (.tmp 124) 2, 4, oz159, oy41, none⟩ ?_
   refine tk 13 ⟨some 2, .assign (.tmp 125), 4, oz159, oy160, none⟩ ?_
   refine wpAnyH_done (by kernel_rfl) ?_ _
   go_wp2
   go_ret
   exact ⟨rfl, XC.out.trans X9.out⟩
  ·have e8 : (c == 0) = false := by simpa using hc0
   clear HCr hc0
   clear MB QB
   go_wp2_with fail
   refine (HD3.out _ X5.out).mono ?_
   rintro e w7 ⟨f3, ov3, m3, rs, s3, v3, rfl, hM, -, hb⟩
   obtain ⟨a3, c3, rfl, -⟩ := id hM
   have MC : Hid (MSlice (w7.alloc (.cells #[.int .i64 rs.id, .int .i64 rs.view, .int .i64 rs.start, .int .i64 rs.done] 29)) (.slice a3 m3.length c3) m3) := hM.ext ((Ext.refl _).alloc _)
   have XC : Hid (Ext w (w7.alloc (.cells #[.int .i64 rs.id, .int .i64 rs.view, .int .i64 rs.start, .int .i64 rs.done] 29))) := ((X5.out.trans hb)).alloc _
   have QC : Hid (QBoxAt (w7.alloc (.cells #[.int .i64 rs.id, .int .i64 rs.view, .int .i64 rs.start, .int .i64 rs.done] 29)) w7.heap.size rs) := qbox_new w7 rs _
   clear hb hM
   obtain ⟨A9, hA9⟩ : ∃ A9, A9 = Msg.askC f3 m3 rs (Msg.propC f3 m3 rs s3 v3) := ⟨_, rfl⟩
   have HQi : Hid (∀ (wx : World), MSlice wx (.slice a3 m3.length c3) m3 → Calls Tryz.prog 18 #[.int .i64 f3, (.slice a3 m3.length c3), .agg #[.int .i64 rs.id, .int .i64 rs.view, .int .i64 rs.start, .int .i64 rs.done], .int .i64 s3, .int .i64 v3] wx fun e w' => e = .returned (.int .i64 A9) ∧ Ext wx w') := by rw [hA9]; exact fun wx h => implMayPropose_any f3 _ m3 rs s3 v3 wx h
   have HQs : Hid (∀ (wx : World), MSlice wx (.slice a3 m3.length c3) m3 → Calls Tryz.prog 17 #[.int .i64 f3, (.slice a3 m3.length c3), .agg #[.int .i64 rs.id, .int .i64 rs.view, .int .i64 rs.start, .int .i64 rs.done], .int .i64 s3, .int .i64 v3] wx fun e w' => e = .returned (.int .i64 A9) ∧ Ext wx w') := by rw [hA9]; exact fun wx h => specMayPropose_any f3 _ m3 rs s3 v3 wx h
   clear hA9
   obtain ⟨R3, hR3⟩ : ∃ R3, R3 = w7.heap.size := ⟨_, rfl⟩
   unfold ragg
   go_wp2
   rw [← hR3] at QC ⊢
   clear hR3
   generalize w7.alloc (.cells #[.int .i64 rs.id, .int .i64 rs.view, .int .i64 rs.start, .int .i64 rs.done] 29) = v7 at *
   have HS : Hid (∀ W', Ext v7 W' → W'.cell? ⟨R3, 0, none⟩ = some (.int .i64 rs.id) ∧ W'.cell? ⟨R3, 1, none⟩ = some (.int .i64 rs.view) ∧ W'.cell? ⟨R3, 2, none⟩ = some (.int .i64 rs.start) ∧ W'.cell? ⟨R3, 3, none⟩ = some (.int .i64 rs.done)) := fun W' he => (QC.out.ext he).2
   have e9 : (A9 == A9) = true := by simp
   refine wp_region_held_drew (S := (fun W' : World => W'.cell? ⟨R3, 0, none⟩ = some (.int .i64 rs.id) ∧ W'.cell? ⟨R3, 1, none⟩ = some (.int .i64 rs.view) ∧ W'.cell? ⟨R3, 2, none⟩ = some (.int .i64 rs.start) ∧ W'.cell? ⟨R3, 3, none⟩ = some (.int .i64 rs.done))) (by kernel_rfl) (HS.out _ ((Ext.refl _).drew)) (fun hHeld => ?_)
   refine tk 0 ⟨some 113, .move (.tmp 14), 2, oz159, #[], none⟩ ?_
   refine tk 1 ⟨some 114, .move (.tmp 15), 27, oz159, #[], none⟩ ?_
   refine tk 2 ⟨some 115, .load 29 (.tmp 16), 29, oz159, #[], none⟩ ?_
   refine tk 3 ⟨some 116, .move (.tmp 17), 2, oz159, #[], none⟩ ?_
   refine tk 4 ⟨some 117, .move (.tmp 18), 2, oz159, #[], none⟩ ?_
   refine tk 6 ⟨some 119, .move (.tmp 14), 2, oz159, #[], none⟩ ?_
   refine tk 7 ⟨some 120, .move (.tmp 15), 27, oz159, #[], none⟩ ?_
   refine tk 8 ⟨some 121, .load 29 (.tmp 16), 29, oz159, #[], none⟩ ?_
   refine tk 9 ⟨some 122, .move (.tmp 17), 2, oz159, #[], none⟩ ?_
   refine tk 10 ⟨some 123, .move (.tmp 18), 2, oz159, #[], none⟩ ?_
   refine wpAnyH_ready (rs := [5]) (by kernel_rfl) (by simp) (AllReadyH.cons rfl (fun K hK => ?_) AllReadyH.nil)
   go_simp
   refine (HQi.out _ (MC.out.ext ((Ext.refl _).drew))).mono ?_
   rintro e y8 ⟨rfl, hb⟩
   have X8 : Hid (Ext v7 y8) := ((Ext.refl _).drew).trans hb
   clear hb
   refine hK.out _ _ (by exact HS.out _ X8.out) (fun hHeldX8 => ?_)
   clear hK K
   refine wpAnyH_ready (rs := [11]) (by kernel_rfl) (by simp) (AllReadyH.cons rfl (fun K hK => ?_) AllReadyH.nil)
   go_simp
   refine (HQs.out _ (MC.out.ext X8.out)).mono ?_
   rintro e y9 ⟨rfl, hb⟩
   have X9 : Hid (Ext v7 y9) := X8.out.trans hb
   clear hb
   refine hK.out _ _ (by exact HS.out _ X9.out) (fun hHeldX9 => ?_)
   clear hK K
   refine tk 12 ⟨some 125, .binOp .eql 2 (.tmp 118) (.tmp 124) 2, 4, oz159, oy41, none⟩ ?_
   refine tk 13 ⟨some 2, .assign (.tmp 125), 4, oz159, oy160, none⟩ ?_
   refine wpAnyH_done (by kernel_rfl) ?_ _
   go_wp2
   go_ret
   exact ⟨rfl, XC.out.trans X9.out⟩
theorem lawMays_all (v : Value) (w : World) (h : ∃ ad len cap, v = .slice ad len cap ∧ (len ≤ 1048576 → CodeOk w w.heap.size v)) :
  Calls Tryz.prog 9 #[v] w fun e w' => e = .returned (.bool true) ∧ Ext w w' := by
 obtain ⟨ad, len, cap, rfl, hc⟩ := h
 by_cases hl : 1048576 < len
 ·exact lawMays_big ad len cap w hl
 ·exact lawMays _ w (hc (by omega))
end Go.Proofs.YtecgjdgfjgcmdaaGreat
