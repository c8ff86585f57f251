/- laws.FnLedgers, walked: it answers true at every code. -/
import Derived.Test.YtpncnfodgfldlaaDoorLxLD1
import Derived.Test.YtpncnfodgfldlaaDoorLxLM0
import Derived.Test.YtpncnfodgfldlaaDoorLxLG5
import Derived.Test.YtpncnfodgfldlaaDoorLxTX3
import Derived.Test.YtpncnfodgfldlaaDoorLxTX5
import Derived.Test.YtpncnfodgfldlaaDoorLxTk
import Derived.Deep.RegionHeld3
namespace Go.Proofs.YtpncnfodgfldlaaDoor
open Go.RowKit
set_option maxHeartbeats 400000 in
theorem lwBigE_any (ad : Option Addr) (len cap : Nat) (w : World) :
    Calls Tryd.prog 4 #[.slice ad len cap] w fun e w' => e = .returned (.bool (decide (1048576 < len))) ∧ w' = w := by
  go_enter Tryd.func4, Tryd.ntmps4
  go_wp2
  go_ret
  exact ⟨ret_bool (by rw [Bool.eq_iff_iff]; simp; omega), rfl⟩
set_option maxHeartbeats 400000 in
set_option maxRecDepth 100000 in
theorem lawLedgers_big (ad : Option Addr) (len cap : Nat) (w : World) (hl : 1048576 < len) :
    Calls Tryd.prog 3 #[.slice ad len cap] w fun e w' => e = .returned (.bool true) ∧ Ext w w' := by
  have hbig : decide (1048576 < len) = true := by simpa using hl
  have hB := lwBigE_any ad len cap w
  rw [hbig] at hB
  clear hbig
  go_enter Tryd.func3, Tryd.ntmps3
  go_wp2_with fail
  refine hB.mono ?_
  rintro e w0 ⟨rfl, hw⟩
  subst hw
  clear hB
  go_wp2
  go_ret
  exact ⟨rfl, Ext.refl _⟩
theorem Dr.to_slice {w w' : World} {c : Int} {rs : List Ms} {e : Ending} (h : LRet w c rs e w') : ∃ a cap, e = .returned (Led.jr c (.slice a rs.length cap)) ∧ MSlice w' (.slice a rs.length cap) rs ∧ Ext w w' := by
  obtain ⟨vo, ps, h1, h2, -, h4, h5⟩ := h
  have hs := h2.slice
  rw [h4] at hs
  obtain ⟨a, cap, hv, -⟩ := id hs
  exact ⟨a, cap, by rw [h1, hv], by rw [← hv]; exact hs, h5⟩
set_option linter.unusedSimpArgs false in
set_option maxHeartbeats 16000000 in
set_option maxRecDepth 100000 in
theorem lawLedgers (cv : Value) (w : World) (hc : CodeOk w w.heap.size cv) (ht : Tb w) :
    Calls Tryd.prog 3 #[cv] w fun e w' => e = .returned (.bool true) ∧ Ext w w' := by
  have hc' := hc
  obtain ⟨ad, len, cap0, rfl, hl, -⟩ := hc'
  have HC : Hid (CodeOk w w.heap.size (.slice ad len cap0)) := hc
  have HTb : Hid (Tb w) := ht
  have hbig : decide (1048576 < len) = false := by simpa using hl
  have hB := lwBigE_any ad len cap0 w
  rw [hbig] at hB
  clear hc hbig hl ht
  have hf0 : ∀ (x : Int) (s : Value) (W : World), (Instr.field 32 (.agg #[.int .i64 x, s]) 0).run Tryd.prog W = .ok (.int .i64 x) W := fun _ _ _ => by kernel_rfl
  have hf1 : ∀ (x : Int) (s : ByteArray) (W : World), (Instr.field 39 (.agg #[.int .i64 x, .string s]) 1).run Tryd.prog W = .ok (.string s) W := fun _ _ _ => by kernel_rfl
  go_enter Tryd.func3, Tryd.ntmps3
  go_wp2_with fail
  refine hB.mono ?_
  rintro e w0 ⟨rfl, hw⟩
  rw [hw]
  clear hB hw w0
  go_wp2_with fail
  refine (drawPutMsg_any _ _ HC.out).mono ?_
  rintro e w1 ⟨f, ov, ms, m, v, u, rfl, hM, hml, hL, hE⟩
  obtain ⟨a, cap, rfl, -⟩ := id hM
  obtain ⟨y0, y1, y2, y3, rfl, rfl, -, -, -, -⟩ := hL.form
  have M1 : Hid (MSlice w1 (.slice a ms.length cap) ms) := hM
  have L1 : Hid (MLs w1 (.slice y0 m.certs.length y1) (.slice y2 m.refs.length y3) m) := hL
  have E1 : Hid (Ext w w1) := hE
  clear hM hL hE HC
  unfold magg
  obtain ⟨c, hcd⟩ : ∃ c, c = (Msg.putV f ms m).1 := ⟨_, rfl⟩
  obtain ⟨rs, hrs⟩ : ∃ rs, rs = (Msg.putV f ms m).2 := ⟨_, rfl⟩
  have HSp : Hid (∀ (wx : World), MSlice wx (.slice a ms.length cap) ms → MLs wx (.slice y0 m.certs.length y1) (.slice y2 m.refs.length y3) m → Calls Tryd.prog 7 #[.int .i64 f, .slice a ms.length cap, .agg #[.int .i64 m.kind, .int .i64 m.view, .int .i64 m.from_, .int .i64 m.slot, .int .i64 m.value, .slice y0 m.certs.length y1, .slice y2 m.refs.length y3]] wx fun e w' => ∃ a cap, e = .returned (Led.jr c (.slice a rs.length cap)) ∧ MSlice w' (.slice a rs.length cap) rs ∧ Ext wx w') := by rw [hcd, hrs]; exact fun wx h h2 => (specPutMsg_any f _ ms m _ _ wx h h2).mono fun e w' h => Dr.to_slice h
  have HIm : Hid (∀ (wx : World), MSlice wx (.slice a ms.length cap) ms → MLs wx (.slice y0 m.certs.length y1) (.slice y2 m.refs.length y3) m → Calls Tryd.prog 6 #[.int .i64 f, .slice a ms.length cap, .agg #[.int .i64 m.kind, .int .i64 m.view, .int .i64 m.from_, .int .i64 m.slot, .int .i64 m.value, .slice y0 m.certs.length y1, .slice y2 m.refs.length y3]] wx fun e w' => ∃ a cap, e = .returned (Led.jr c (.slice a rs.length cap)) ∧ MSlice w' (.slice a rs.length cap) rs ∧ Ext wx w') := by rw [hcd, hrs]; exact fun wx h h2 => (implPutMsg_any f _ ms m _ _ wx h h2).mono fun e w' h => Dr.to_slice h
  have HV : Hid (c = 0 → Msg.ledger f ms = 0 ∧ Msg.faultM f m = 0 ∧ Msg.ledger f rs = 0 ∧ m ∈ rs ∧ (∀ (i : Nat) z, ms[i]? = some z → rs[i]? = some z) ∧ ms.length ≤ rs.length ∧ rs.length ≤ ms.length + 1 ∧ Msg.putV f rs m = (0, rs)) := fun h => by rw [hcd] at h; rw [hrs]; exact Msg.put_facts h
  clear hcd hrs
  go_wp2_with fail
  refine (HIm.out _ (M1.out.ext ((Ext.refl _).alloc _)) (L1.out.ext ((Ext.refl _).alloc _))).mono ?_
  rintro e w2 ⟨a2, cap2, rfl, hM2, hb⟩
  unfold Led.jr
  obtain ⟨w3, hw3⟩ : ∃ w3, w3 = w2.alloc (.cells #[.int .i64 c, .slice a2 rs.length cap2] 32) := ⟨_, rfl⟩
  have X3 : Ext w1 w3 := by rw [hw3]; exact (((Ext.refl _).alloc _).trans hb).alloc _
  have E3 : Hid (Ext w w3) := E1.out.trans X3
  have M3 : Hid (MSlice w3 (.slice a ms.length cap) ms) := M1.out.ext X3
  have L3 : Hid (MLs w3 (.slice y0 m.certs.length y1) (.slice y2 m.refs.length y3) m) := L1.out.ext X3
  have BM2 : Hid (MBoxAt w2 w1.heap.size m (.slice y0 m.certs.length y1) (.slice y2 m.refs.length y3)) := (mbox_new w1 m (.slice y0 m.certs.length y1) (.slice y2 m.refs.length y3) _).ext hb
  have BM : Hid (MBoxAt w3 w1.heap.size m (.slice y0 m.certs.length y1) (.slice y2 m.refs.length y3)) := by rw [hw3]; exact ((mbox_new w1 m (.slice y0 m.certs.length y1) (.slice y2 m.refs.length y3) _).ext hb).ext ((Ext.refl _).alloc _)
  have BL : Hid (Led.JBoxAt w3 w2.heap.size c (.slice a2 rs.length cap2)) := by rw [hw3]; exact Led.jbox_new w2 c _ _
  have R3 : Hid (MSlice w3 (.slice a2 rs.length cap2) rs) := by rw [hw3]; exact hM2.ext ((Ext.refl _).alloc _)
  clear hb hM2 X3 M1 L1 E1 HIm
  by_cases hc0 : c = 0
  · obtain ⟨hled, hfm, hlr, hmem, hpre, hl1, hl2, hag⟩ := HV.out hc0
    obtain ⟨hf01, hf02, hml9⟩ := Msg.ledger_zero hlr
    have HPf : Hid (∀ (i : Nat) z, ms[i]? = some z → rs[i]? = some z) := hpre
    have HOne : Hid (Msg.cntM rs m rs.length = 1) := Msg.cntM_one hlr hmem
    have HAg : Hid (∀ wx, MSlice wx (.slice a2 rs.length cap2) rs → MLs wx (.slice y0 m.certs.length y1) (.slice y2 m.refs.length y3) m → Calls Tryd.prog 6 #[.int .i64 f, .slice a2 rs.length cap2, .agg #[.int .i64 m.kind, .int .i64 m.view, .int .i64 m.from_, .int .i64 m.slot, .int .i64 m.value, .slice y0 m.certs.length y1, .slice y2 m.refs.length y3]] wx fun e w' => ∃ a cap, e = .returned (Led.jr 0 (.slice a rs.length cap)) ∧ MSlice w' (.slice a rs.length cap) rs ∧ Ext wx w') := fun wx h1 h2 => (implPutMsg_any f _ rs m _ _ wx h1 h2).mono fun e w' h => by rw [hag] at h; exact Dr.to_slice h
    have HLf : Hid (∀ wx, MSlice wx (.slice a2 rs.length cap2) rs → Calls Tryd.prog 11 #[.int .i64 f, .slice a2 rs.length cap2] wx fun e w' => e = .returned (.int .i64 0) ∧ Ext wx w') := fun wx h => by have q := implLedgerFault_any f _ rs wx h; rw [hlr] at q; exact q
    have hfo : Msg.fault f m = 0 := by rw [Msg.fault_2 (by unfold Msg.fOk; simp; omega)]; exact hfm
    have HMf : Hid (∀ wx, MLs wx (.slice y0 m.certs.length y1) (.slice y2 m.refs.length y3) m → Calls Tryd.prog 13 #[.int .i64 f, .agg #[.int .i64 m.kind, .int .i64 m.view, .int .i64 m.from_, .int .i64 m.slot, .int .i64 m.value, .slice y0 m.certs.length y1, .slice y2 m.refs.length y3]] wx fun e w' => e = .returned (.int .i64 0) ∧ Ext wx w') := fun wx h => by have q := implMsgFault_any f m _ _ wx h; rw [hfo] at q; exact q
    obtain ⟨tx, htx⟩ : ∃ tx, tx = mkB (Lib.join (Msg.msgW m) [32]) := ⟨_, rfl⟩
    have HTx : Hid (∀ wx, Ext w wx → MLs wx (.slice y0 m.certs.length y1) (.slice y2 m.refs.length y3) m → Calls Tryd.prog 10 #[.int .i64 f, .agg #[.int .i64 m.kind, .int .i64 m.view, .int .i64 m.from_, .int .i64 m.slot, .int .i64 m.value, .slice y0 m.certs.length y1, .slice y2 m.refs.length y3]] wx fun e w' => e = .returned (.agg #[.int .i64 0, .string tx]) ∧ Ext wx w') := fun wx he h => by have q := implMsgText_any f m _ _ wx h (HTb.out.ext he); rw [Msg.textV_ok hfo] at q; rw [htx]; exact q
    have HTs : Hid (∀ wx, MLs wx (.slice y0 m.certs.length y1) (.slice y2 m.refs.length y3) m → Calls Tryd.prog 12 #[.int .i64 f, .agg #[.int .i64 m.kind, .int .i64 m.view, .int .i64 m.from_, .int .i64 m.slot, .int .i64 m.value, .slice y0 m.certs.length y1, .slice y2 m.refs.length y3]] wx fun e w' => e = .returned (.agg #[.int .i64 0, .string tx]) ∧ Ext wx w') := fun wx h => by have q := specMsgText_any f m _ _ wx h; rw [Msg.textV_ok hfo] at q; rw [htx]; exact q
    obtain ⟨l, hl⟩ : ∃ l, l = (Msg.sentV f rs m.from_).2 := ⟨_, rfl⟩
    obtain ⟨hs0, hs1⟩ := Msg.sentV_mem hlr hmem
    have HSe : Hid (∀ wx, MSlice wx (.slice a2 rs.length cap2) rs → Calls Tryd.prog 9 #[.int .i64 f, .slice a2 rs.length cap2, .int .i64 m.from_] wx (Led.JRet wx 0 l)) := fun wx h => by have q := implSentBy_any f m.from_ _ rs wx h; rw [hs0, ← hl] at q; exact q
    rw [← hl] at hs1
    have HSm : Hid (∀ (z : Ms) (n : Ms) (x y x' y' : Value) (wx : World), MLs wx x y z → MLs wx x' y' n → Calls Tryd.prog 8 #[magg z x y, magg n x' y'] wx fun e w' => e = .returned (.bool (Msg.sameM z n)) ∧ Ext wx w') := fun z n x y x' y' wx h1 h2 => implSameMsgs_any z n x y x' y' wx h1 h2
    have HSz : Hid (∀ (z : Ms) (x y x' y' : Value) (wx : World), MLs wx x y z → MLs wx x' y' z → Calls Tryd.prog 8 #[magg z x y, magg z x' y'] wx fun e w' => e = .returned (.bool true) ∧ Ext wx w') := fun z x y x' y' wx h1 h2 => by have q := implSameMsgs_any z z x y x' y' wx h1 h2; rw [show Msg.sameM z z = true from by simp [Msg.sameM]] at q; exact q
    unfold magg at HSm HSz
    have P1 : Hid (((1 : Int) == 1) = true) := by show _ = _; rfl
    have P2 : Hid (((0 : Int) == 0) = true) := by show _ = _; rfl
    have P3 : Hid (((rs.length : Int) == (rs.length : Int)) = true) := by show _ = _; simp
    have P4 : Hid (decide ((0 : Int) < (l.length : Int)) = true) := by show _ = _; simpa using hs1
    have P6 : Hid (decide ((rs.length : Int) - (ms.length : Int) ≤ 1) = true) := by show _ = _; exact decide_eq_true (by omega)
    have e1 : IntKind.i64.wrap ((rs.length : Int) - (ms.length : Int)) = (rs.length : Int) - (ms.length : Int) := by rw [IntKind.wrap_i64]; omega
    subst hc0
    clear HV hled hfm hlr hmem hpre hag hfo hs0 hl htx
    obtain ⟨pl, ⟨p0, p1, p2, p3, p4, p5, p6⟩, -⟩ := BM2.out
    have hal := alloc_cell
    go_wp2_with fail
    rw [← hw3]
    refine (HAg.out _ R3.out L3.out).mono ?_
    rintro e w4 ⟨a4, cap4, rfl, hM4, hb⟩
    unfold Led.jr
    clear hM4 pl p0 p1 p2 p3 p4 p5 p6 hal BM2
    obtain ⟨w5, hw5⟩ : ∃ w5, w5 = w4.alloc (.cells #[.int .i64 0, .slice a4 rs.length cap4] 32) := ⟨_, rfl⟩
    have X5 : Ext w3 w5 := by rw [hw5]; exact hb.alloc _
    have E5 : Hid (Ext w w5) := E3.out.trans X5
    have M5 : Hid (MSlice w5 (.slice a ms.length cap) ms) := M3.out.ext X5
    have L5 : Hid (MLs w5 (.slice y0 m.certs.length y1) (.slice y2 m.refs.length y3) m) := L3.out.ext X5
    have R5 : Hid (MSlice w5 (.slice a2 rs.length cap2) rs) := R3.out.ext X5
    have BM5 : Hid (MBoxAt w5 w1.heap.size m (.slice y0 m.certs.length y1) (.slice y2 m.refs.length y3)) := BM.out.ext X5
    have BL5 : Hid (Led.JBoxAt w5 w2.heap.size 0 (.slice a2 rs.length cap2)) := BL.out.ext X5
    have BA5 : Hid (Led.JBoxAt w5 w4.heap.size 0 (.slice a4 rs.length cap4)) := by rw [hw5]; exact Led.jbox_new w4 0 _ _
    clear hb X5 E3 M3 L3 R3 BM BL hw3 HAg HSp
    go_wp2
    rw [← hw5]
    generalize w2.heap.size = L at *
    generalize w1.heap.size = M at *
    generalize w4.heap.size = A at *
    clear hw5
    go_loopw [8, 9] (fun fv iv wr => ∃ (i : Nat), i ≤ rs.length ∧ iv = .int .i64 (i : Int) ∧ fv = .int .i64 ((Msg.cntM rs m i : Nat) : Int) ∧ Hid (Ext w5 wr)) (fun _ iv _ => rs.length - (intOf iv).toNat)
    case atStart => exact ⟨0, Nat.zero_le _, rfl, rfl, Ext.refl _⟩
    case round =>
      obtain ⟨i, hi, rfl, rfl, HE⟩ := hrel
      obtain ⟨wq, hwq⟩ : ∃ wq, wq = wr := ⟨_, rfl⟩
      subst hwq
      have E6 : Hid (Ext w wq) := E5.out.trans HE.out
      have M6 : Hid (MSlice wq (.slice a ms.length cap) ms) := M5.out.ext HE.out
      have L6 : Hid (MLs wq (.slice y0 m.certs.length y1) (.slice y2 m.refs.length y3) m) := L5.out.ext HE.out
      have R6 : Hid (MSlice wq (.slice a2 rs.length cap2) rs) := R5.out.ext HE.out
      have BM6 : Hid (MBoxAt wq M m (.slice y0 m.certs.length y1) (.slice y2 m.refs.length y3)) := BM5.out.ext HE.out
      have BL6 : Hid (Led.JBoxAt wq L 0 (.slice a2 rs.length cap2)) := BL5.out.ext HE.out
      have cL := BL6.out.2.2
      have hcn := Msg.cntM_le rs m i
      by_cases hlt : i < rs.length
      · obtain ⟨z, hz⟩ : ∃ z, rs[i]? = some z := ⟨_, List.getElem?_eq_getElem hlt⟩
        obtain ⟨b1, off1, cap1, e1, hlt1, hlm1, hcm1, hb1, hm⟩ := R6.out.at2 hz
        injection e1 with e1 e4 e5
        subst e1 e5
        obtain ⟨vz, uz, hcs, hls⟩ := hm
        obtain ⟨z0, z1, z2, z3, rfl, rfl, -, -, -, -⟩ := hls.form
        have LZ : Hid (MLs wq (.slice z0 z.certs.length z1) (.slice z2 z.refs.length z3) z) := hls
        have CZ : Hid (MCs wq b1 (off1 + i * 7) z (.slice z0 z.certs.length z1) (.slice z2 z.refs.length z3)) := hcs
        have HZ : Hid (rs[i]? = some z) := hz
        have HS12 : Hid (∀ W', Ext wq W' → W'.cell? ⟨L, 1, none⟩ = some (.slice (some ⟨b1, off1, none⟩) rs.length cap2) ∧ W'.cell? ⟨b1, off1 + i * 7, none⟩ = some (.int .i64 z.kind) ∧ W'.cell? ⟨b1, off1 + i * 7 + 1, none⟩ = some (.int .i64 z.view) ∧ W'.cell? ⟨b1, off1 + i * 7 + 2, none⟩ = some (.int .i64 z.from_) ∧ W'.cell? ⟨b1, off1 + i * 7 + 3, none⟩ = some (.int .i64 z.slot) ∧ W'.cell? ⟨b1, off1 + i * 7 + 4, none⟩ = some (.int .i64 z.value) ∧ W'.cell? ⟨b1, off1 + i * 7 + 5, none⟩ = some (.slice z0 z.certs.length z1) ∧ W'.cell? ⟨b1, off1 + i * 7 + 6, none⟩ = some (.slice z2 z.refs.length z3) ∧ W'.cell? ⟨M, 0, none⟩ = some (.int .i64 m.kind) ∧ W'.cell? ⟨M, 1, none⟩ = some (.int .i64 m.view) ∧ W'.cell? ⟨M, 2, none⟩ = some (.int .i64 m.from_) ∧ W'.cell? ⟨M, 3, none⟩ = some (.int .i64 m.slot) ∧ W'.cell? ⟨M, 4, none⟩ = some (.int .i64 m.value) ∧ W'.cell? ⟨M, 5, none⟩ = some (.slice y0 m.certs.length y1) ∧ W'.cell? ⟨M, 6, none⟩ = some (.slice y2 m.refs.length y3)) := fun W' he => by
          obtain ⟨-, ⟨r0, r1, r2, r3, r4, r5, r6⟩, -⟩ := BM6.out.ext he
          obtain ⟨c0, c1, c2, c3, c4, c5, c6⟩ := CZ.out.ext hb1 he
          exact ⟨(BL6.out.ext he).2.2, c0, c1, c2, c3, c4, c5, c6, r0, r1, r2, r3, r4, r5, r6⟩
        have HPre : Hid (i < ms.length → ms[i]? = some z) := fun h => by
          obtain ⟨z9, h9⟩ : ∃ z9, ms[i]? = some z9 := ⟨_, List.getElem?_eq_getElem h⟩
          rw [h9, ← HZ.out, HPf.out i z9 h9]
        have HCn : Hid (Msg.cntM rs m (i + 1) = Msg.cntM rs m i + if Msg.sameM z m = true then 1 else 0) := by
          show _ = _
          cases hs : Msg.sameM z m with
          | true => rw [Msg.cntM_yes HZ.out hs, if_pos rfl]
          | false => rw [Msg.cntM_no HZ.out hs]; simp
        generalize Msg.cntM rs m i = cn at *
        clear hls hcs hz e4
        go_wp2
        refine wp_region_held_drew (S := (fun W' : World => W'.cell? ⟨L, 1, none⟩ = some (.slice (some ⟨b1, off1, none⟩) rs.length cap2) ∧ W'.cell? ⟨b1, off1 + i * 7, none⟩ = some (.int .i64 z.kind) ∧ W'.cell? ⟨b1, off1 + i * 7 + 1, none⟩ = some (.int .i64 z.view) ∧ W'.cell? ⟨b1, off1 + i * 7 + 2, none⟩ = some (.int .i64 z.from_) ∧ W'.cell? ⟨b1, off1 + i * 7 + 3, none⟩ = some (.int .i64 z.slot) ∧ W'.cell? ⟨b1, off1 + i * 7 + 4, none⟩ = some (.int .i64 z.value) ∧ W'.cell? ⟨b1, off1 + i * 7 + 5, none⟩ = some (.slice z0 z.certs.length z1) ∧ W'.cell? ⟨b1, off1 + i * 7 + 6, none⟩ = some (.slice z2 z.refs.length z3) ∧ W'.cell? ⟨M, 0, none⟩ = some (.int .i64 m.kind) ∧ W'.cell? ⟨M, 1, none⟩ = some (.int .i64 m.view) ∧ W'.cell? ⟨M, 2, none⟩ = some (.int .i64 m.from_) ∧ W'.cell? ⟨M, 3, none⟩ = some (.int .i64 m.slot) ∧ W'.cell? ⟨M, 4, none⟩ = some (.int .i64 m.value) ∧ W'.cell? ⟨M, 5, none⟩ = some (.slice y0 m.certs.length y1) ∧ W'.cell? ⟨M, 6, none⟩ = some (.slice y2 m.refs.length y3))) (by kernel_rfl) (HS12.out _ ((Ext.refl _).drew)) (fun hHeld => ?_)
        refine tk 0 { dst := some 47, op := Op.fieldAddr 32 (.tmp 6) 1, type := 0, pos := "laws.go:379", after := #[], guard := none } ?_
        refine tk 1 { dst := some 48, op := Op.load 24 (.tmp 47), type := 24, pos := "laws.go:379", after := #[⟨0, .data⟩], guard := none } ?_
        refine tk 2 { dst := some 49, op := Op.move (.tmp 9), type := 3, pos := "laws.go:379", after := #[], guard := none } ?_
        refine tk 3 { dst := some 50, op := Op.indexAddr 24 (.tmp 48) (.tmp 49), type := 0, pos := "laws.go:379", after := #[⟨1, .data⟩, ⟨2, .data⟩], guard := none } ?_
        refine tk 4 { dst := some 51, op := Op.load 28 (.tmp 50), type := 28, pos := "laws.go:379", after := #[⟨3, .data⟩], guard := none } ?_
        refine tk 5 { dst := some 52, op := Op.load 28 (.tmp 5), type := 28, pos := "laws.go:379", after := #[], guard := none } ?_
        refine wpAnyH_ready (rs := [6]) (by kernel_rfl) (by simp) (AllReadyH.cons rfl (fun K hK => ?_) AllReadyH.nil)
        go_simp
        refine (HSm.out _ _ _ _ _ _ _ (LZ.out.ext (Ext.refl _).drew) (L6.out.ext (Ext.refl _).drew)).mono ?_
        rintro e y1' ⟨rfl, hb⟩
        have X1 : Hid (Ext wq y1') := ((Ext.refl _).drew).trans hb
        clear hb
        refine hK.out _ _ (by exact HS12.out _ X1.out) (fun hHeld1 => ?_)
        clear hK K
        refine wpAnyH_done (by kernel_rfl) ?_ _
        have E7' : Hid (Ext wq y1') := X1
        obtain ⟨w7, hw7⟩ : ∃ w7, w7 = y1' := ⟨_, rfl⟩
        rw [← hw7] at E7' ⊢
        clear hw7 X1
        have cL7 : w7.cell? ⟨L, 1, none⟩ = some (.slice (some ⟨b1, off1, none⟩) rs.length cap2) := (BL6.out.ext E7'.out).2.2
        have HE7 : Hid (Ext w5 w7) := HE.out.trans E7'.out
        have LZ7 : Hid (MLs w7 (.slice z0 z.certs.length z1) (.slice z2 z.refs.length z3) z) := LZ.out.ext E7'.out
        by_cases hlm : i < ms.length
        · obtain ⟨b2, off2, cap3, e1, hlt2, hlm2, hcm2, hb2, hm⟩ := (M6.out.ext E7'.out).at2 (HPre.out hlm)
          injection e1 with e1 e4 e5
          subst e1 e5
          obtain ⟨vz, uz, hcs, hls⟩ := hm
          obtain ⟨q0, q1, q2, q3, rfl, rfl, -, -, -, -⟩ := hls.form
          have LQ7 : Hid (MLs w7 (.slice q0 z.certs.length q1) (.slice q2 z.refs.length q3) z) := hls
          have CQ : Hid (MCs w7 b2 (off2 + i * 7) z (.slice q0 z.certs.length q1) (.slice q2 z.refs.length q3)) := hcs
          have HS14 : Hid (∀ W', Ext w7 W' → W'.cell? ⟨L, 1, none⟩ = some (.slice (some ⟨b1, off1, none⟩) rs.length cap2) ∧ W'.cell? ⟨b1, off1 + i * 7, none⟩ = some (.int .i64 z.kind) ∧ W'.cell? ⟨b1, off1 + i * 7 + 1, none⟩ = some (.int .i64 z.view) ∧ W'.cell? ⟨b1, off1 + i * 7 + 2, none⟩ = some (.int .i64 z.from_) ∧ W'.cell? ⟨b1, off1 + i * 7 + 3, none⟩ = some (.int .i64 z.slot) ∧ W'.cell? ⟨b1, off1 + i * 7 + 4, none⟩ = some (.int .i64 z.value) ∧ W'.cell? ⟨b1, off1 + i * 7 + 5, none⟩ = some (.slice z0 z.certs.length z1) ∧ W'.cell? ⟨b1, off1 + i * 7 + 6, none⟩ = some (.slice z2 z.refs.length z3) ∧ W'.cell? ⟨b2, off2 + i * 7, none⟩ = some (.int .i64 z.kind) ∧ W'.cell? ⟨b2, off2 + i * 7 + 1, none⟩ = some (.int .i64 z.view) ∧ W'.cell? ⟨b2, off2 + i * 7 + 2, none⟩ = some (.int .i64 z.from_) ∧ W'.cell? ⟨b2, off2 + i * 7 + 3, none⟩ = some (.int .i64 z.slot) ∧ W'.cell? ⟨b2, off2 + i * 7 + 4, none⟩ = some (.int .i64 z.value) ∧ W'.cell? ⟨b2, off2 + i * 7 + 5, none⟩ = some (.slice q0 z.certs.length q1) ∧ W'.cell? ⟨b2, off2 + i * 7 + 6, none⟩ = some (.slice q2 z.refs.length q3)) := fun W' he => by
            obtain ⟨c0, c1, c2, c3, c4, c5, c6⟩ := CZ.out.ext hb1 (E7'.out.trans he)
            obtain ⟨d0, d1, d2, d3, d4, d5, d6⟩ := CQ.out.ext hb2 he
            exact ⟨(BL6.out.ext (E7'.out.trans he)).2.2, c0, c1, c2, c3, c4, c5, c6, d0, d1, d2, d3, d4, d5, d6⟩
          have gl : decide ((i : Int) < (ms.length : Int)) = true := by simpa using hlm
          clear hls hcs e4
          cases hsm : Msg.sameM z m with
          | true =>
            rw [hsm] at HCn
            go_wp2
            refine wp_region_held_drew (S := (fun W' : World => W'.cell? ⟨L, 1, none⟩ = some (.slice (some ⟨b1, off1, none⟩) rs.length cap2) ∧ W'.cell? ⟨b1, off1 + i * 7, none⟩ = some (.int .i64 z.kind) ∧ W'.cell? ⟨b1, off1 + i * 7 + 1, none⟩ = some (.int .i64 z.view) ∧ W'.cell? ⟨b1, off1 + i * 7 + 2, none⟩ = some (.int .i64 z.from_) ∧ W'.cell? ⟨b1, off1 + i * 7 + 3, none⟩ = some (.int .i64 z.slot) ∧ W'.cell? ⟨b1, off1 + i * 7 + 4, none⟩ = some (.int .i64 z.value) ∧ W'.cell? ⟨b1, off1 + i * 7 + 5, none⟩ = some (.slice z0 z.certs.length z1) ∧ W'.cell? ⟨b1, off1 + i * 7 + 6, none⟩ = some (.slice z2 z.refs.length z3) ∧ W'.cell? ⟨b2, off2 + i * 7, none⟩ = some (.int .i64 z.kind) ∧ W'.cell? ⟨b2, off2 + i * 7 + 1, none⟩ = some (.int .i64 z.view) ∧ W'.cell? ⟨b2, off2 + i * 7 + 2, none⟩ = some (.int .i64 z.from_) ∧ W'.cell? ⟨b2, off2 + i * 7 + 3, none⟩ = some (.int .i64 z.slot) ∧ W'.cell? ⟨b2, off2 + i * 7 + 4, none⟩ = some (.int .i64 z.value) ∧ W'.cell? ⟨b2, off2 + i * 7 + 5, none⟩ = some (.slice q0 z.certs.length q1) ∧ W'.cell? ⟨b2, off2 + i * 7 + 6, none⟩ = some (.slice q2 z.refs.length q3))) (by kernel_rfl) (HS14.out _ ((Ext.refl _).drew)) (fun hHeld => ?_)
            refine tk 0 { dst := some 56, op := Op.move (.tmp 9), type := 3, pos := "laws.go:382", after := #[], guard := none } ?_
            refine tk 1 { dst := some 57, op := Op.move (.tmp 4), type := 24, pos := "laws.go:382", after := #[], guard := none } ?_
            refine tk 2 { dst := some 58, op := Op.call { callee := Callee.builtin Builtin.len, args := #[.tmp 57], argTypes := #[24] }, type := 3, pos := "laws.go:382", after := #[⟨1, .data⟩], guard := none } ?_
            refine tk 3 { dst := some 59, op := Op.binOp BinOp.lss 3 (.tmp 56) (.tmp 58) 3, type := 4, pos := "laws.go:382", after := #[⟨0, .data⟩, ⟨2, .data⟩], guard := none } ?_
            (try rw [gl])
            refine tk 4 { dst := some 60, op := Op.move (.tmp 59), type := 4, pos := "laws.go:382", after := #[⟨3, .data⟩], guard := none } ?_
            refine tk 5 { dst := some 61, op := Op.fieldAddr 32 (.tmp 6) 1, type := 0, pos := "laws.go:382", after := #[⟨4, .guard⟩], guard := some (4, true) } ?_
            refine tk 6 { dst := some 62, op := Op.load 24 (.tmp 61), type := 24, pos := "laws.go:382", after := #[⟨5, .data⟩, ⟨4, .guard⟩], guard := some (4, true) } ?_
            refine tk 7 { dst := some 63, op := Op.move (.tmp 9), type := 3, pos := "laws.go:382", after := #[⟨4, .guard⟩], guard := some (4, true) } ?_
            refine tk 8 { dst := some 64, op := Op.indexAddr 24 (.tmp 62) (.tmp 63), type := 0, pos := "laws.go:382", after := #[⟨6, .data⟩, ⟨7, .data⟩, ⟨4, .guard⟩], guard := some (4, true) } ?_
            refine tk 9 { dst := some 65, op := Op.load 28 (.tmp 64), type := 28, pos := "laws.go:382", after := #[⟨8, .data⟩, ⟨4, .guard⟩], guard := some (4, true) } ?_
            refine tk 10 { dst := some 66, op := Op.move (.tmp 4), type := 24, pos := "laws.go:382", after := #[⟨4, .guard⟩], guard := some (4, true) } ?_
            refine tk 11 { dst := some 67, op := Op.move (.tmp 9), type := 3, pos := "laws.go:382", after := #[⟨4, .guard⟩], guard := some (4, true) } ?_
            refine tk 12 { dst := some 68, op := Op.indexAddr 24 (.tmp 66) (.tmp 67), type := 0, pos := "laws.go:382", after := #[⟨10, .data⟩, ⟨11, .data⟩, ⟨4, .guard⟩], guard := some (4, true) } ?_
            refine tk 13 { dst := some 69, op := Op.load 28 (.tmp 68), type := 28, pos := "laws.go:382", after := #[⟨12, .data⟩, ⟨4, .guard⟩], guard := some (4, true) } ?_
            refine wpAnyH_ready (rs := [14]) (by kernel_rfl) (by simp) (AllReadyH.cons rfl (fun K hK => ?_) AllReadyH.nil)
            go_simp
            refine (HSz.out _ _ _ _ _ _ (LZ7.out.ext (Ext.refl _).drew) (LQ7.out.ext (Ext.refl _).drew)).mono ?_
            rintro e y2' ⟨rfl, hb⟩
            have X2 : Hid (Ext w7 y2') := ((Ext.refl _).drew).trans hb
            clear hb
            refine hK.out _ _ (by exact HS14.out _ X2.out) (fun hHeld2 => ?_)
            clear hK K
            refine tk 15 { dst := some 71, op := Op.unOp UnOp.not 4 (.tmp 70), type := 4, pos := "laws.go:382", after := #[⟨14, .data⟩, ⟨4, .guard⟩], guard := some (4, true) } ?_
            refine tk 16 { dst := some 72, op := Op.pick (.tmp 60) (.tmp 71) (Operand.const (Value.bool false)), type := 4, pos := "laws.go:382", after := #[⟨4, .data⟩, ⟨15, .data⟩], guard := none } ?_
            refine wpAnyH_done (by kernel_rfl) ?_ _
            go_wp2
            exact ⟨⟨i + 1, by omega, by go_num, by rw [HCn.out]; exact congrArg (Value.int .i64) (by simp), HE7.out.trans X2.out⟩, by simp [intOf]; omega⟩
          | false =>
            rw [hsm] at HCn
            go_wp2
            refine wp_region_held_drew (S := (fun W' : World => W'.cell? ⟨L, 1, none⟩ = some (.slice (some ⟨b1, off1, none⟩) rs.length cap2) ∧ W'.cell? ⟨b1, off1 + i * 7, none⟩ = some (.int .i64 z.kind) ∧ W'.cell? ⟨b1, off1 + i * 7 + 1, none⟩ = some (.int .i64 z.view) ∧ W'.cell? ⟨b1, off1 + i * 7 + 2, none⟩ = some (.int .i64 z.from_) ∧ W'.cell? ⟨b1, off1 + i * 7 + 3, none⟩ = some (.int .i64 z.slot) ∧ W'.cell? ⟨b1, off1 + i * 7 + 4, none⟩ = some (.int .i64 z.value) ∧ W'.cell? ⟨b1, off1 + i * 7 + 5, none⟩ = some (.slice z0 z.certs.length z1) ∧ W'.cell? ⟨b1, off1 + i * 7 + 6, none⟩ = some (.slice z2 z.refs.length z3) ∧ W'.cell? ⟨b2, off2 + i * 7, none⟩ = some (.int .i64 z.kind) ∧ W'.cell? ⟨b2, off2 + i * 7 + 1, none⟩ = some (.int .i64 z.view) ∧ W'.cell? ⟨b2, off2 + i * 7 + 2, none⟩ = some (.int .i64 z.from_) ∧ W'.cell? ⟨b2, off2 + i * 7 + 3, none⟩ = some (.int .i64 z.slot) ∧ W'.cell? ⟨b2, off2 + i * 7 + 4, none⟩ = some (.int .i64 z.value) ∧ W'.cell? ⟨b2, off2 + i * 7 + 5, none⟩ = some (.slice q0 z.certs.length q1) ∧ W'.cell? ⟨b2, off2 + i * 7 + 6, none⟩ = some (.slice q2 z.refs.length q3))) (by kernel_rfl) (HS14.out _ ((Ext.refl _).drew)) (fun hHeld => ?_)
            refine tk 0 { dst := some 56, op := Op.move (.tmp 9), type := 3, pos := "laws.go:382", after := #[], guard := none } ?_
            refine tk 1 { dst := some 57, op := Op.move (.tmp 4), type := 24, pos := "laws.go:382", after := #[], guard := none } ?_
            refine tk 2 { dst := some 58, op := Op.call { callee := Callee.builtin Builtin.len, args := #[.tmp 57], argTypes := #[24] }, type := 3, pos := "laws.go:382", after := #[⟨1, .data⟩], guard := none } ?_
            refine tk 3 { dst := some 59, op := Op.binOp BinOp.lss 3 (.tmp 56) (.tmp 58) 3, type := 4, pos := "laws.go:382", after := #[⟨0, .data⟩, ⟨2, .data⟩], guard := none } ?_
            (try rw [gl])
            refine tk 4 { dst := some 60, op := Op.move (.tmp 59), type := 4, pos := "laws.go:382", after := #[⟨3, .data⟩], guard := none } ?_
            refine tk 5 { dst := some 61, op := Op.fieldAddr 32 (.tmp 6) 1, type := 0, pos := "laws.go:382", after := #[⟨4, .guard⟩], guard := some (4, true) } ?_
            refine tk 6 { dst := some 62, op := Op.load 24 (.tmp 61), type := 24, pos := "laws.go:382", after := #[⟨5, .data⟩, ⟨4, .guard⟩], guard := some (4, true) } ?_
            refine tk 7 { dst := some 63, op := Op.move (.tmp 9), type := 3, pos := "laws.go:382", after := #[⟨4, .guard⟩], guard := some (4, true) } ?_
            refine tk 8 { dst := some 64, op := Op.indexAddr 24 (.tmp 62) (.tmp 63), type := 0, pos := "laws.go:382", after := #[⟨6, .data⟩, ⟨7, .data⟩, ⟨4, .guard⟩], guard := some (4, true) } ?_
            refine tk 9 { dst := some 65, op := Op.load 28 (.tmp 64), type := 28, pos := "laws.go:382", after := #[⟨8, .data⟩, ⟨4, .guard⟩], guard := some (4, true) } ?_
            refine tk 10 { dst := some 66, op := Op.move (.tmp 4), type := 24, pos := "laws.go:382", after := #[⟨4, .guard⟩], guard := some (4, true) } ?_
            refine tk 11 { dst := some 67, op := Op.move (.tmp 9), type := 3, pos := "laws.go:382", after := #[⟨4, .guard⟩], guard := some (4, true) } ?_
            refine tk 12 { dst := some 68, op := Op.indexAddr 24 (.tmp 66) (.tmp 67), type := 0, pos := "laws.go:382", after := #[⟨10, .data⟩, ⟨11, .data⟩, ⟨4, .guard⟩], guard := some (4, true) } ?_
            refine tk 13 { dst := some 69, op := Op.load 28 (.tmp 68), type := 28, pos := "laws.go:382", after := #[⟨12, .data⟩, ⟨4, .guard⟩], guard := some (4, true) } ?_
            refine wpAnyH_ready (rs := [14]) (by kernel_rfl) (by simp) (AllReadyH.cons rfl (fun K hK => ?_) AllReadyH.nil)
            go_simp
            refine (HSz.out _ _ _ _ _ _ (LZ7.out.ext (Ext.refl _).drew) (LQ7.out.ext (Ext.refl _).drew)).mono ?_
            rintro e y2' ⟨rfl, hb⟩
            have X2 : Hid (Ext w7 y2') := ((Ext.refl _).drew).trans hb
            clear hb
            refine hK.out _ _ (by exact HS14.out _ X2.out) (fun hHeld2 => ?_)
            clear hK K
            refine tk 15 { dst := some 71, op := Op.unOp UnOp.not 4 (.tmp 70), type := 4, pos := "laws.go:382", after := #[⟨14, .data⟩, ⟨4, .guard⟩], guard := some (4, true) } ?_
            refine tk 16 { dst := some 72, op := Op.pick (.tmp 60) (.tmp 71) (Operand.const (Value.bool false)), type := 4, pos := "laws.go:382", after := #[⟨4, .data⟩, ⟨15, .data⟩], guard := none } ?_
            refine wpAnyH_done (by kernel_rfl) ?_ _
            go_wp2
            exact ⟨⟨i + 1, by omega, by go_num, by rw [HCn.out]; exact congrArg (Value.int .i64) (by simp), HE7.out.trans X2.out⟩, by simp [intOf]; omega⟩
        · have gl : decide ((i : Int) < (ms.length : Int)) = false := by simpa using hlm
          cases hsm : Msg.sameM z m with
          | true =>
            rw [hsm] at HCn
            go_wp2
            refine wp_region_held_drew (S := (fun _ : World => True)) (by kernel_rfl) trivial (fun hHeld => ?_)
            refine tk 0 { dst := some 56, op := Op.move (.tmp 9), type := 3, pos := "laws.go:382", after := #[], guard := none } ?_
            refine tk 1 { dst := some 57, op := Op.move (.tmp 4), type := 24, pos := "laws.go:382", after := #[], guard := none } ?_
            refine tk 2 { dst := some 58, op := Op.call { callee := Callee.builtin Builtin.len, args := #[.tmp 57], argTypes := #[24] }, type := 3, pos := "laws.go:382", after := #[⟨1, .data⟩], guard := none } ?_
            refine tk 3 { dst := some 59, op := Op.binOp BinOp.lss 3 (.tmp 56) (.tmp 58) 3, type := 4, pos := "laws.go:382", after := #[⟨0, .data⟩, ⟨2, .data⟩], guard := none } ?_
            (try rw [gl])
            refine tk 4 { dst := some 60, op := Op.move (.tmp 59), type := 4, pos := "laws.go:382", after := #[⟨3, .data⟩], guard := none } ?_
            refine tn 5 { dst := some 61, op := Op.fieldAddr 32 (.tmp 6) 1, type := 0, pos := "laws.go:382", after := #[⟨4, .guard⟩], guard := some (4, true) } ?_
            refine tn 6 { dst := some 62, op := Op.load 24 (.tmp 61), type := 24, pos := "laws.go:382", after := #[⟨5, .data⟩, ⟨4, .guard⟩], guard := some (4, true) } ?_
            refine tn 7 { dst := some 63, op := Op.move (.tmp 9), type := 3, pos := "laws.go:382", after := #[⟨4, .guard⟩], guard := some (4, true) } ?_
            refine tn 8 { dst := some 64, op := Op.indexAddr 24 (.tmp 62) (.tmp 63), type := 0, pos := "laws.go:382", after := #[⟨6, .data⟩, ⟨7, .data⟩, ⟨4, .guard⟩], guard := some (4, true) } ?_
            refine tn 9 { dst := some 65, op := Op.load 28 (.tmp 64), type := 28, pos := "laws.go:382", after := #[⟨8, .data⟩, ⟨4, .guard⟩], guard := some (4, true) } ?_
            refine tn 10 { dst := some 66, op := Op.move (.tmp 4), type := 24, pos := "laws.go:382", after := #[⟨4, .guard⟩], guard := some (4, true) } ?_
            refine tn 11 { dst := some 67, op := Op.move (.tmp 9), type := 3, pos := "laws.go:382", after := #[⟨4, .guard⟩], guard := some (4, true) } ?_
            refine tn 12 { dst := some 68, op := Op.indexAddr 24 (.tmp 66) (.tmp 67), type := 0, pos := "laws.go:382", after := #[⟨10, .data⟩, ⟨11, .data⟩, ⟨4, .guard⟩], guard := some (4, true) } ?_
            refine tn 13 { dst := some 69, op := Op.load 28 (.tmp 68), type := 28, pos := "laws.go:382", after := #[⟨12, .data⟩, ⟨4, .guard⟩], guard := some (4, true) } ?_
            refine tn 14 { dst := some 70, op := Op.call { callee := Callee.value (Operand.func 8), args := #[.tmp 65, .tmp 69], argTypes := #[28, 28] }, type := 4, pos := "laws.go:382", after := #[⟨9, .data⟩, ⟨13, .data⟩, ⟨4, .chain⟩, ⟨4, .guard⟩], guard := some (4, true) } ?_
            refine tn 15 { dst := some 71, op := Op.unOp UnOp.not 4 (.tmp 70), type := 4, pos := "laws.go:382", after := #[⟨14, .data⟩, ⟨4, .guard⟩], guard := some (4, true) } ?_
            refine tk 16 { dst := some 72, op := Op.pick (.tmp 60) (.tmp 71) (Operand.const (Value.bool false)), type := 4, pos := "laws.go:382", after := #[⟨4, .data⟩, ⟨15, .data⟩], guard := none } ?_
            refine wpAnyH_done (by kernel_rfl) ?_ _
            go_wp2
            exact ⟨⟨i + 1, by omega, by go_num, by rw [HCn.out]; exact congrArg (Value.int .i64) (by simp), HE7.out.drew⟩, by simp [intOf]; omega⟩
          | false =>
            rw [hsm] at HCn
            go_wp2
            refine wp_region_held_drew (S := (fun _ : World => True)) (by kernel_rfl) trivial (fun hHeld => ?_)
            refine tk 0 { dst := some 56, op := Op.move (.tmp 9), type := 3, pos := "laws.go:382", after := #[], guard := none } ?_
            refine tk 1 { dst := some 57, op := Op.move (.tmp 4), type := 24, pos := "laws.go:382", after := #[], guard := none } ?_
            refine tk 2 { dst := some 58, op := Op.call { callee := Callee.builtin Builtin.len, args := #[.tmp 57], argTypes := #[24] }, type := 3, pos := "laws.go:382", after := #[⟨1, .data⟩], guard := none } ?_
            refine tk 3 { dst := some 59, op := Op.binOp BinOp.lss 3 (.tmp 56) (.tmp 58) 3, type := 4, pos := "laws.go:382", after := #[⟨0, .data⟩, ⟨2, .data⟩], guard := none } ?_
            (try rw [gl])
            refine tk 4 { dst := some 60, op := Op.move (.tmp 59), type := 4, pos := "laws.go:382", after := #[⟨3, .data⟩], guard := none } ?_
            refine tn 5 { dst := some 61, op := Op.fieldAddr 32 (.tmp 6) 1, type := 0, pos := "laws.go:382", after := #[⟨4, .guard⟩], guard := some (4, true) } ?_
            refine tn 6 { dst := some 62, op := Op.load 24 (.tmp 61), type := 24, pos := "laws.go:382", after := #[⟨5, .data⟩, ⟨4, .guard⟩], guard := some (4, true) } ?_
            refine tn 7 { dst := some 63, op := Op.move (.tmp 9), type := 3, pos := "laws.go:382", after := #[⟨4, .guard⟩], guard := some (4, true) } ?_
            refine tn 8 { dst := some 64, op := Op.indexAddr 24 (.tmp 62) (.tmp 63), type := 0, pos := "laws.go:382", after := #[⟨6, .data⟩, ⟨7, .data⟩, ⟨4, .guard⟩], guard := some (4, true) } ?_
            refine tn 9 { dst := some 65, op := Op.load 28 (.tmp 64), type := 28, pos := "laws.go:382", after := #[⟨8, .data⟩, ⟨4, .guard⟩], guard := some (4, true) } ?_
            refine tn 10 { dst := some 66, op := Op.move (.tmp 4), type := 24, pos := "laws.go:382", after := #[⟨4, .guard⟩], guard := some (4, true) } ?_
            refine tn 11 { dst := some 67, op := Op.move (.tmp 9), type := 3, pos := "laws.go:382", after := #[⟨4, .guard⟩], guard := some (4, true) } ?_
            refine tn 12 { dst := some 68, op := Op.indexAddr 24 (.tmp 66) (.tmp 67), type := 0, pos := "laws.go:382", after := #[⟨10, .data⟩, ⟨11, .data⟩, ⟨4, .guard⟩], guard := some (4, true) } ?_
            refine tn 13 { dst := some 69, op := Op.load 28 (.tmp 68), type := 28, pos := "laws.go:382", after := #[⟨12, .data⟩, ⟨4, .guard⟩], guard := some (4, true) } ?_
            refine tn 14 { dst := some 70, op := Op.call { callee := Callee.value (Operand.func 8), args := #[.tmp 65, .tmp 69], argTypes := #[28, 28] }, type := 4, pos := "laws.go:382", after := #[⟨9, .data⟩, ⟨13, .data⟩, ⟨4, .chain⟩, ⟨4, .guard⟩], guard := some (4, true) } ?_
            refine tn 15 { dst := some 71, op := Op.unOp UnOp.not 4 (.tmp 70), type := 4, pos := "laws.go:382", after := #[⟨14, .data⟩, ⟨4, .guard⟩], guard := some (4, true) } ?_
            refine tk 16 { dst := some 72, op := Op.pick (.tmp 60) (.tmp 71) (Operand.const (Value.bool false)), type := 4, pos := "laws.go:382", after := #[⟨4, .data⟩, ⟨15, .data⟩], guard := none } ?_
            refine wpAnyH_done (by kernel_rfl) ?_ _
            go_wp2
            exact ⟨⟨i + 1, by omega, by go_num, by rw [HCn.out]; exact congrArg (Value.int .i64) (by simp), HE7.out.drew⟩, by simp [intOf]; omega⟩
      · have hie : i = rs.length := by omega
        have hltI : ¬ (i : Int) < (rs.length : Int) := by omega
        have hc1 : Msg.cntM rs m i = 1 := by rw [hie]; exact HOne.out
        rw [hc1]
        clear hie hc1 hcn
        obtain ⟨-, ⟨p0, p1, p2, p3, p4, p5, p6⟩, -⟩ := BM6.out
        have BA6 : Hid (Led.JBoxAt wq A 0 (.slice a4 rs.length cap4)) := BA5.out.ext HE.out
        go_wp2_with fail
        refine (HSe.out _ R6.out).mono ?_
        rintro e w8 ⟨v8, g8, rfl, -, hO8, hb⟩
        obtain ⟨a5, cap5, rfl, -⟩ := id hO8
        unfold Led.jr
        clear hO8 p0 p1 p2 p3 p4 p5 p6
        obtain ⟨w9, hw9⟩ : ∃ w9, w9 = w8.alloc (.cells #[.int .i64 0, .slice a5 l.length cap5] 36) := ⟨_, rfl⟩
        have X9 : Ext wq w9 := by rw [hw9]; exact hb.alloc _
        have BN9 : Hid (Led.JBoxAt w9 w8.heap.size 0 (.slice a5 l.length cap5)) := by rw [hw9]; exact Led.jbox_new w8 0 _ _
        have E9 : Hid (Ext w w9) := E6.out.trans X9
        have L9 : Hid (MLs w9 (.slice y0 m.certs.length y1) (.slice y2 m.refs.length y3) m) := L6.out.ext X9
        have R9 : Hid (MSlice w9 (.slice a2 rs.length cap2) rs) := R6.out.ext X9
        have BM9 : Hid (MBoxAt w9 M m (.slice y0 m.certs.length y1) (.slice y2 m.refs.length y3)) := BM6.out.ext X9
        have BL9 : Hid (Led.JBoxAt w9 L 0 (.slice a2 rs.length cap2)) := BL6.out.ext X9
        have BA9 : Hid (Led.JBoxAt w9 A 0 (.slice a4 rs.length cap4)) := BA6.out.ext X9
        have BM8 : Hid (MBoxAt w8 M m (.slice y0 m.certs.length y1) (.slice y2 m.refs.length y3)) := BM6.out.ext hb
        obtain ⟨pl, ⟨p0, p1, p2, p3, p4, p5, p6⟩, -⟩ := BM8.out
        have hal := alloc_cell
        clear hb X9 BM6 BL6 BA6 R6 L6 E6
        go_wp2_with fail
        rw [← hw9]
        refine (HTx.out _ E9.out L9.out).mono ?_
        rintro e w10 ⟨rfl, hb⟩
        obtain ⟨w11, hw11⟩ : ∃ w11, w11 = w10.alloc (.cells #[.int .i64 0, .string tx] 39) := ⟨_, rfl⟩
        have X11 : Ext w9 w11 := by rw [hw11]; exact hb.alloc _
        have BX11 : Hid (w10.heap.size < w11.heap.size ∧ w11.cell? ⟨w10.heap.size, 0, none⟩ = some (.int .i64 0) ∧ w11.cell? ⟨w10.heap.size, 1, none⟩ = some (.string tx)) := by rw [hw11]; exact ⟨by simp, by simp, by simp⟩
        have E11 : Hid (Ext w w11) := E9.out.trans X11
        have L11 : Hid (MLs w11 (.slice y0 m.certs.length y1) (.slice y2 m.refs.length y3) m) := L9.out.ext X11
        have R11 : Hid (MSlice w11 (.slice a2 rs.length cap2) rs) := R9.out.ext X11
        have BM11 : Hid (MBoxAt w11 M m (.slice y0 m.certs.length y1) (.slice y2 m.refs.length y3)) := BM9.out.ext X11
        have BL11 : Hid (Led.JBoxAt w11 L 0 (.slice a2 rs.length cap2)) := BL9.out.ext X11
        have BA11 : Hid (Led.JBoxAt w11 A 0 (.slice a4 rs.length cap4)) := BA9.out.ext X11
        have BN11 : Hid (Led.JBoxAt w11 w8.heap.size 0 (.slice a5 l.length cap5)) := BN9.out.ext X11
        clear hb X11 pl p0 p1 p2 p3 p4 p5 p6 hal BM8 BM9 BL9 BA9 BN9 R9 L9 E9 hw9
        go_wp2
        rw [← hw11]
        generalize w8.heap.size = N at *
        generalize w10.heap.size = X at *
        clear hw11
        have HS18 : Hid (∀ W', Ext w11 W' → W'.cell? ⟨L, 1, none⟩ = some (.slice a2 rs.length cap2) ∧ W'.cell? ⟨A, 1, none⟩ = some (.slice a4 rs.length cap4) ∧ W'.cell? ⟨N, 0, none⟩ = some (.int .i64 0) ∧ W'.cell? ⟨N, 1, none⟩ = some (.slice a5 l.length cap5) ∧ W'.cell? ⟨X, 0, none⟩ = some (.int .i64 0) ∧ W'.cell? ⟨X, 1, none⟩ = some (.string tx) ∧ W'.cell? ⟨M, 0, none⟩ = some (.int .i64 m.kind) ∧ W'.cell? ⟨M, 1, none⟩ = some (.int .i64 m.view) ∧ W'.cell? ⟨M, 2, none⟩ = some (.int .i64 m.from_) ∧ W'.cell? ⟨M, 3, none⟩ = some (.int .i64 m.slot) ∧ W'.cell? ⟨M, 4, none⟩ = some (.int .i64 m.value) ∧ W'.cell? ⟨M, 5, none⟩ = some (.slice y0 m.certs.length y1) ∧ W'.cell? ⟨M, 6, none⟩ = some (.slice y2 m.refs.length y3)) := fun W' he => by
          obtain ⟨-, ⟨r0, r1, r2, r3, r4, r5, r6⟩, -⟩ := BM11.out.ext he
          have hc := (Ext.cell he).1
          exact ⟨(BL11.out.ext he).2.2, (BA11.out.ext he).2.2, (BN11.out.ext he).2.1, (BN11.out.ext he).2.2, (hc _ _ BX11.out.1).trans BX11.out.2.1, (hc _ _ BX11.out.1).trans BX11.out.2.2, r0, r1, r2, r3, r4, r5, r6⟩
        refine wp_region_held_drew (S := (fun W' : World => W'.cell? ⟨L, 1, none⟩ = some (.slice a2 rs.length cap2) ∧ W'.cell? ⟨A, 1, none⟩ = some (.slice a4 rs.length cap4) ∧ W'.cell? ⟨N, 0, none⟩ = some (.int .i64 0) ∧ W'.cell? ⟨N, 1, none⟩ = some (.slice a5 l.length cap5) ∧ W'.cell? ⟨X, 0, none⟩ = some (.int .i64 0) ∧ W'.cell? ⟨X, 1, none⟩ = some (.string tx) ∧ W'.cell? ⟨M, 0, none⟩ = some (.int .i64 m.kind) ∧ W'.cell? ⟨M, 1, none⟩ = some (.int .i64 m.view) ∧ W'.cell? ⟨M, 2, none⟩ = some (.int .i64 m.from_) ∧ W'.cell? ⟨M, 3, none⟩ = some (.int .i64 m.slot) ∧ W'.cell? ⟨M, 4, none⟩ = some (.int .i64 m.value) ∧ W'.cell? ⟨M, 5, none⟩ = some (.slice y0 m.certs.length y1) ∧ W'.cell? ⟨M, 6, none⟩ = some (.slice y2 m.refs.length y3))) (by kernel_rfl) (HS18.out _ ((Ext.refl _).drew)) (fun hHeld => ?_)
        refine tk 0 { dst := some 82, op := Op.move (.tmp 8), type := 3, pos := "laws.go:388", after := #[], guard := none } ?_
        refine tk 1 { dst := some 83, op := Op.binOp BinOp.eql 3 (.tmp 82) (Operand.const (Value.int IntKind.i64 1)) 3, type := 4, pos := "laws.go:388", after := #[⟨0, .data⟩], guard := none } ?_
        (try rw [P1.out])
        refine tk 2 { dst := some 84, op := Op.move (.tmp 83), type := 4, pos := "laws.go:388", after := #[⟨1, .data⟩], guard := none } ?_
        refine tk 3 { dst := some 85, op := Op.move (.tmp 3), type := 2, pos := "laws.go:388", after := #[⟨2, .guard⟩], guard := some (2, true) } ?_
        refine tk 4 { dst := some 86, op := Op.fieldAddr 32 (.tmp 6) 1, type := 0, pos := "laws.go:388", after := #[⟨2, .guard⟩], guard := some (2, true) } ?_
        refine tk 5 { dst := some 87, op := Op.load 24 (.tmp 86), type := 24, pos := "laws.go:388", after := #[⟨4, .data⟩, ⟨2, .guard⟩], guard := some (2, true) } ?_
        refine wpAnyH_ready (rs := [6]) (by kernel_rfl) (by simp) (AllReadyH.cons rfl (fun K hK => ?_) AllReadyH.nil)
        go_simp
        refine (HLf.out _ (R11.out.ext (((Ext.refl w11).drew)))).mono ?_
        rintro e y1' ⟨rfl, hb⟩
        have X1 : Hid (Ext w11 y1') := (((Ext.refl w11).drew)).trans hb
        clear hb
        refine hK.out _ _ (by exact HS18.out _ X1.out) (fun hHeld1 => ?_)
        clear hK K
        refine tk 7 { dst := some 89, op := Op.binOp BinOp.eql 2 (.tmp 88) (Operand.const (Value.int IntKind.i64 0)) 2, type := 4, pos := "laws.go:388", after := #[⟨6, .data⟩, ⟨2, .guard⟩], guard := some (2, true) } ?_
        (try rw [P2.out])
        refine tk 8 { dst := some 90, op := Op.pick (.tmp 84) (.tmp 89) (Operand.const (Value.bool false)), type := 4, pos := "laws.go:388", after := #[⟨2, .data⟩, ⟨7, .data⟩], guard := none } ?_
        refine tk 9 { dst := some 91, op := Op.move (.tmp 90), type := 4, pos := "laws.go:388", after := #[⟨8, .data⟩, ⟨6, .chain⟩], guard := none } ?_
        refine tk 10 { dst := some 92, op := Op.fieldAddr 32 (.tmp 7) 1, type := 0, pos := "laws.go:388", after := #[⟨9, .guard⟩], guard := some (9, true) } ?_
        refine tk 11 { dst := some 93, op := Op.load 24 (.tmp 92), type := 24, pos := "laws.go:388", after := #[⟨10, .data⟩, ⟨9, .guard⟩], guard := some (9, true) } ?_
        refine tk 12 { dst := some 94, op := Op.call { callee := Callee.builtin Builtin.len, args := #[.tmp 93], argTypes := #[24] }, type := 3, pos := "laws.go:388", after := #[⟨11, .data⟩, ⟨9, .guard⟩], guard := some (9, true) } ?_
        refine tk 13 { dst := some 95, op := Op.fieldAddr 32 (.tmp 6) 1, type := 0, pos := "laws.go:388", after := #[⟨9, .guard⟩], guard := some (9, true) } ?_
        refine tk 14 { dst := some 96, op := Op.load 24 (.tmp 95), type := 24, pos := "laws.go:388", after := #[⟨13, .data⟩, ⟨9, .guard⟩], guard := some (9, true) } ?_
        refine tk 15 { dst := some 97, op := Op.call { callee := Callee.builtin Builtin.len, args := #[.tmp 96], argTypes := #[24] }, type := 3, pos := "laws.go:388", after := #[⟨14, .data⟩, ⟨9, .guard⟩], guard := some (9, true) } ?_
        refine tk 16 { dst := some 98, op := Op.binOp BinOp.eql 3 (.tmp 94) (.tmp 97) 3, type := 4, pos := "laws.go:388", after := #[⟨12, .data⟩, ⟨15, .data⟩, ⟨9, .guard⟩], guard := some (9, true) } ?_
        (try rw [P3.out])
        refine tk 17 { dst := some 99, op := Op.pick (.tmp 91) (.tmp 98) (Operand.const (Value.bool false)), type := 4, pos := "laws.go:388", after := #[⟨9, .data⟩, ⟨16, .data⟩], guard := none } ?_
        refine tk 18 { dst := some 100, op := Op.move (.tmp 99), type := 4, pos := "laws.go:388", after := #[⟨17, .data⟩, ⟨9, .chain⟩], guard := none } ?_
        refine tk 19 { dst := some 101, op := Op.fieldAddr 36 (.tmp 10) 0, type := 0, pos := "laws.go:388", after := #[⟨18, .guard⟩], guard := some (18, true) } ?_
        refine tk 20 { dst := some 102, op := Op.load 2 (.tmp 101), type := 2, pos := "laws.go:388", after := #[⟨19, .data⟩, ⟨18, .guard⟩], guard := some (18, true) } ?_
        refine tk 21 { dst := some 103, op := Op.binOp BinOp.eql 2 (.tmp 102) (Operand.const (Value.int IntKind.i64 0)) 2, type := 4, pos := "laws.go:388", after := #[⟨20, .data⟩, ⟨18, .guard⟩], guard := some (18, true) } ?_
        (try rw [P2.out])
        refine tk 22 { dst := some 104, op := Op.pick (.tmp 100) (.tmp 103) (Operand.const (Value.bool false)), type := 4, pos := "laws.go:388", after := #[⟨18, .data⟩, ⟨21, .data⟩], guard := none } ?_
        refine tk 23 { dst := some 105, op := Op.move (.tmp 104), type := 4, pos := "laws.go:388", after := #[⟨22, .data⟩, ⟨18, .chain⟩], guard := none } ?_
        refine tk 24 { dst := some 106, op := Op.fieldAddr 36 (.tmp 10) 1, type := 0, pos := "laws.go:388", after := #[⟨23, .guard⟩], guard := some (23, true) } ?_
        refine tk 25 { dst := some 107, op := Op.load 26 (.tmp 106), type := 26, pos := "laws.go:388", after := #[⟨24, .data⟩, ⟨23, .guard⟩], guard := some (23, true) } ?_
        refine tk 26 { dst := some 108, op := Op.call { callee := Callee.builtin Builtin.len, args := #[.tmp 107], argTypes := #[26] }, type := 3, pos := "laws.go:388", after := #[⟨25, .data⟩, ⟨23, .guard⟩], guard := some (23, true) } ?_
        refine tk 27 { dst := some 109, op := Op.binOp BinOp.gtr 3 (.tmp 108) (Operand.const (Value.int IntKind.i64 0)) 3, type := 4, pos := "laws.go:388", after := #[⟨26, .data⟩, ⟨23, .guard⟩], guard := some (23, true) } ?_
        (try rw [P4.out])
        refine tk 28 { dst := some 110, op := Op.pick (.tmp 105) (.tmp 109) (Operand.const (Value.bool false)), type := 4, pos := "laws.go:388", after := #[⟨23, .data⟩, ⟨27, .data⟩], guard := none } ?_
        refine tk 29 { dst := some 111, op := Op.move (.tmp 110), type := 4, pos := "laws.go:388", after := #[⟨28, .data⟩, ⟨23, .chain⟩], guard := none } ?_
        refine tk 30 { dst := some 112, op := Op.fieldAddr 39 (.tmp 11) 0, type := 0, pos := "laws.go:388", after := #[⟨29, .guard⟩], guard := some (29, true) } ?_
        refine tk 31 { dst := some 113, op := Op.load 2 (.tmp 112), type := 2, pos := "laws.go:388", after := #[⟨30, .data⟩, ⟨29, .guard⟩], guard := some (29, true) } ?_
        refine tk 32 { dst := some 114, op := Op.binOp BinOp.eql 2 (.tmp 113) (Operand.const (Value.int IntKind.i64 0)) 2, type := 4, pos := "laws.go:388", after := #[⟨31, .data⟩, ⟨29, .guard⟩], guard := some (29, true) } ?_
        (try rw [P2.out])
        refine tk 33 { dst := some 115, op := Op.pick (.tmp 111) (.tmp 114) (Operand.const (Value.bool false)), type := 4, pos := "laws.go:388", after := #[⟨29, .data⟩, ⟨32, .data⟩], guard := none } ?_
        refine tk 34 { dst := some 116, op := Op.move (.tmp 115), type := 4, pos := "laws.go:388", after := #[⟨33, .data⟩, ⟨29, .chain⟩], guard := none } ?_
        refine tk 35 { dst := some 117, op := Op.fieldAddr 39 (.tmp 11) 1, type := 0, pos := "laws.go:388", after := #[⟨34, .guard⟩], guard := some (34, true) } ?_
        refine tk 36 { dst := some 118, op := Op.load 9 (.tmp 117), type := 9, pos := "laws.go:388", after := #[⟨35, .data⟩, ⟨34, .guard⟩], guard := some (34, true) } ?_
        refine tk 37 { dst := some 119, op := Op.move (.tmp 3), type := 2, pos := "laws.go:388", after := #[⟨34, .guard⟩], guard := some (34, true) } ?_
        refine tk 38 { dst := some 120, op := Op.load 28 (.tmp 5), type := 28, pos := "laws.go:388", after := #[⟨34, .guard⟩], guard := some (34, true) } ?_
        refine wpAnyH_ready (rs := [39]) (by kernel_rfl) (by simp) (AllReadyH.cons rfl (fun K hK => ?_) AllReadyH.nil)
        go_simp
        refine (HTs.out _ (L11.out.ext (X1.out))).mono ?_
        rintro e y2' ⟨rfl, hb⟩
        have X2 : Hid (Ext w11 y2') := (X1.out).trans hb
        clear hb
        refine hK.out _ _ (by exact HS18.out _ X2.out) (fun hHeld2 => ?_)
        clear hK K
        refine tk 40 { dst := some 122, op := Op.field 39 (.tmp 121) 1, type := 9, pos := "laws.go:388", after := #[⟨39, .data⟩, ⟨34, .guard⟩], guard := some (34, true) } ?_
        refine tk 41 { dst := some 123, op := Op.binOp BinOp.eql 9 (.tmp 118) (.tmp 122) 9, type := 4, pos := "laws.go:388", after := #[⟨36, .data⟩, ⟨40, .data⟩, ⟨34, .guard⟩], guard := some (34, true) } ?_
        refine tk 42 { dst := some 124, op := Op.pick (.tmp 116) (.tmp 123) (Operand.const (Value.bool false)), type := 4, pos := "laws.go:388", after := #[⟨34, .data⟩, ⟨41, .data⟩], guard := none } ?_
        refine tk 43 { dst := some 125, op := Op.move (.tmp 124), type := 4, pos := "laws.go:388", after := #[⟨42, .data⟩, ⟨39, .chain⟩], guard := none } ?_
        refine tk 44 { dst := some 126, op := Op.move (.tmp 3), type := 2, pos := "laws.go:388", after := #[⟨43, .guard⟩], guard := some (43, true) } ?_
        refine tk 45 { dst := some 127, op := Op.load 28 (.tmp 5), type := 28, pos := "laws.go:388", after := #[⟨43, .guard⟩], guard := some (43, true) } ?_
        refine wpAnyH_ready (rs := [46]) (by kernel_rfl) (by simp) (AllReadyH.cons rfl (fun K hK => ?_) AllReadyH.nil)
        go_simp
        refine (HMf.out _ (L11.out.ext (X2.out))).mono ?_
        rintro e y3' ⟨rfl, hb⟩
        have X3 : Hid (Ext w11 y3') := (X2.out).trans hb
        clear hb
        refine hK.out _ _ (by exact HS18.out _ X3.out) (fun hHeld3 => ?_)
        clear hK K
        refine tk 47 { dst := some 129, op := Op.binOp BinOp.eql 2 (.tmp 128) (Operand.const (Value.int IntKind.i64 0)) 2, type := 4, pos := "laws.go:388", after := #[⟨46, .data⟩, ⟨43, .guard⟩], guard := some (43, true) } ?_
        (try rw [P2.out])
        refine tk 48 { dst := some 130, op := Op.pick (.tmp 125) (.tmp 129) (Operand.const (Value.bool false)), type := 4, pos := "laws.go:388", after := #[⟨43, .data⟩, ⟨47, .data⟩], guard := none } ?_
        refine tk 49 { dst := some 131, op := Op.move (.tmp 130), type := 4, pos := "laws.go:388", after := #[⟨48, .data⟩, ⟨46, .chain⟩], guard := none } ?_
        refine tk 50 { dst := some 132, op := Op.fieldAddr 32 (.tmp 6) 1, type := 0, pos := "laws.go:388", after := #[⟨49, .guard⟩], guard := some (49, true) } ?_
        refine tk 51 { dst := some 133, op := Op.load 24 (.tmp 132), type := 24, pos := "laws.go:388", after := #[⟨50, .data⟩, ⟨49, .guard⟩], guard := some (49, true) } ?_
        refine tk 52 { dst := some 134, op := Op.call { callee := Callee.builtin Builtin.len, args := #[.tmp 133], argTypes := #[24] }, type := 3, pos := "laws.go:388", after := #[⟨51, .data⟩, ⟨49, .guard⟩], guard := some (49, true) } ?_
        refine tk 53 { dst := some 135, op := Op.move (.tmp 4), type := 24, pos := "laws.go:388", after := #[⟨49, .guard⟩], guard := some (49, true) } ?_
        refine tk 54 { dst := some 136, op := Op.call { callee := Callee.builtin Builtin.len, args := #[.tmp 135], argTypes := #[24] }, type := 3, pos := "laws.go:388", after := #[⟨53, .data⟩, ⟨49, .guard⟩], guard := some (49, true) } ?_
        refine tk 55 { dst := some 137, op := Op.binOp BinOp.sub 3 (.tmp 134) (.tmp 136) 3, type := 3, pos := "laws.go:388", after := #[⟨52, .data⟩, ⟨54, .data⟩, ⟨49, .guard⟩], guard := some (49, true) } ?_
        refine tk 56 { dst := some 138, op := Op.binOp BinOp.leq 3 (.tmp 137) (Operand.const (Value.int IntKind.i64 1)) 3, type := 4, pos := "laws.go:388", after := #[⟨55, .data⟩, ⟨49, .guard⟩], guard := some (49, true) } ?_
        (try rw [P6.out])
        refine tk 57 { dst := some 139, op := Op.pick (.tmp 131) (.tmp 138) (Operand.const (Value.bool false)), type := 4, pos := "laws.go:388", after := #[⟨49, .data⟩, ⟨56, .data⟩], guard := none } ?_
        refine tk 58 { dst := some 2, op := Op.assign (.tmp 139), type := 4, pos := "laws.go:388", after := #[⟨57, .data⟩, ⟨49, .chain⟩, ⟨0, .phase⟩, ⟨1, .phase⟩, ⟨2, .phase⟩, ⟨3, .phase⟩, ⟨4, .phase⟩, ⟨5, .phase⟩, ⟨6, .phase⟩, ⟨7, .phase⟩, ⟨8, .phase⟩, ⟨9, .phase⟩, ⟨10, .phase⟩, ⟨11, .phase⟩, ⟨12, .phase⟩, ⟨13, .phase⟩, ⟨14, .phase⟩, ⟨15, .phase⟩, ⟨16, .phase⟩, ⟨17, .phase⟩, ⟨18, .phase⟩, ⟨19, .phase⟩, ⟨20, .phase⟩, ⟨21, .phase⟩, ⟨22, .phase⟩, ⟨23, .phase⟩, ⟨24, .phase⟩, ⟨25, .phase⟩, ⟨26, .phase⟩, ⟨27, .phase⟩, ⟨28, .phase⟩, ⟨29, .phase⟩, ⟨30, .phase⟩, ⟨31, .phase⟩, ⟨32, .phase⟩, ⟨33, .phase⟩, ⟨34, .phase⟩, ⟨35, .phase⟩, ⟨36, .phase⟩, ⟨37, .phase⟩, ⟨38, .phase⟩, ⟨39, .phase⟩, ⟨40, .phase⟩, ⟨41, .phase⟩, ⟨42, .phase⟩, ⟨43, .phase⟩, ⟨44, .phase⟩, ⟨45, .phase⟩, ⟨46, .phase⟩, ⟨47, .phase⟩, ⟨48, .phase⟩, ⟨49, .phase⟩, ⟨50, .phase⟩, ⟨51, .phase⟩, ⟨52, .phase⟩, ⟨53, .phase⟩, ⟨54, .phase⟩, ⟨55, .phase⟩, ⟨56, .phase⟩, ⟨57, .phase⟩], guard := none } ?_
        refine wpAnyH_done (by kernel_rfl) ?_ _
        (try go_wp2)
        go_ret
        exact ⟨ret_bool (by simp), E11.out.trans X3.out⟩
  · have g1 : (c != 0) = true := by simpa using hc0
    have P7 : Hid ((c == c) = true) := by show _ = _; simp
    clear HV hc0 BM2
    go_wp2
    rw [← hw3]
    generalize w2.heap.size = L at *
    generalize w1.heap.size = M at *
    clear hw3
    have HS6 : Hid (∀ W', Ext w3 W' → W'.cell? ⟨L, 0, none⟩ = some (.int .i64 c) ∧ W'.cell? ⟨M, 0, none⟩ = some (.int .i64 m.kind) ∧ W'.cell? ⟨M, 1, none⟩ = some (.int .i64 m.view) ∧ W'.cell? ⟨M, 2, none⟩ = some (.int .i64 m.from_) ∧ W'.cell? ⟨M, 3, none⟩ = some (.int .i64 m.slot) ∧ W'.cell? ⟨M, 4, none⟩ = some (.int .i64 m.value) ∧ W'.cell? ⟨M, 5, none⟩ = some (.slice y0 m.certs.length y1) ∧ W'.cell? ⟨M, 6, none⟩ = some (.slice y2 m.refs.length y3)) := fun W' he => by
      obtain ⟨-, ⟨q0, q1, q2, q3, q4, q5, q6⟩, -⟩ := BM.out.ext he
      exact ⟨(BL.out.ext he).2.1, q0, q1, q2, q3, q4, q5, q6⟩
    refine wp_region_held_drew (S := (fun W' : World => W'.cell? ⟨L, 0, none⟩ = some (.int .i64 c) ∧ W'.cell? ⟨M, 0, none⟩ = some (.int .i64 m.kind) ∧ W'.cell? ⟨M, 1, none⟩ = some (.int .i64 m.view) ∧ W'.cell? ⟨M, 2, none⟩ = some (.int .i64 m.from_) ∧ W'.cell? ⟨M, 3, none⟩ = some (.int .i64 m.slot) ∧ W'.cell? ⟨M, 4, none⟩ = some (.int .i64 m.value) ∧ W'.cell? ⟨M, 5, none⟩ = some (.slice y0 m.certs.length y1) ∧ W'.cell? ⟨M, 6, none⟩ = some (.slice y2 m.refs.length y3))) (by kernel_rfl) (HS6.out _ ((Ext.refl _).drew)) (fun hHeld => ?_)
    refine tk 0 { dst := some 27, op := Op.move (.tmp 3), type := 2, pos := "laws.go:374", after := #[], guard := none } ?_
    refine tk 1 { dst := some 28, op := Op.move (.tmp 4), type := 24, pos := "laws.go:374", after := #[], guard := none } ?_
    refine tk 2 { dst := some 29, op := Op.load 28 (.tmp 5), type := 28, pos := "laws.go:374", after := #[], guard := none } ?_
    refine tk 5 { dst := some 32, op := Op.fieldAddr 32 (.tmp 6) 0, type := 0, pos := "laws.go:374", after := #[], guard := none } ?_
    refine tk 6 { dst := some 33, op := Op.load 2 (.tmp 32), type := 2, pos := "laws.go:374", after := #[⟨5, .data⟩], guard := none } ?_
    refine wpAnyH_ready (rs := [3]) (by kernel_rfl) (by simp) (AllReadyH.cons rfl (fun K hK => ?_) AllReadyH.nil)
    go_simp
    refine (HSp.out _ (M3.out.ext (Ext.refl _).drew) (L3.out.ext (Ext.refl _).drew)).mono ?_
    rintro e y1' ⟨a9, c9, rfl, -, hb⟩
    unfold Led.jr
    have X1 : Hid (Ext w3 y1') := ((Ext.refl _).drew).trans hb
    clear hb
    refine hK.out _ _ (by exact HS6.out _ X1.out) (fun hHeld1 => ?_)
    clear hK K
    refine tk 4 { dst := some 31, op := Op.field 32 (.tmp 30) 0, type := 2, pos := "laws.go:374", after := #[⟨3, .data⟩], guard := none } ?_
    refine tk 7 { dst := some 34, op := Op.binOp BinOp.eql 2 (.tmp 31) (.tmp 33) 2, type := 4, pos := "laws.go:374", after := #[⟨4, .data⟩, ⟨6, .data⟩], guard := none } ?_
    (try rw [P7.out])
    refine tk 8 { dst := some 2, op := Op.assign (.tmp 34), type := 4, pos := "laws.go:374", after := #[⟨7, .data⟩, ⟨3, .chain⟩, ⟨0, .phase⟩, ⟨1, .phase⟩, ⟨2, .phase⟩, ⟨3, .phase⟩, ⟨4, .phase⟩, ⟨5, .phase⟩, ⟨6, .phase⟩, ⟨7, .phase⟩], guard := none } ?_
    refine wpAnyH_done (by kernel_rfl) ?_ _
    (try go_wp2)
    go_ret
    exact ⟨ret_bool (by simp), E3.out.trans X1.out⟩
theorem lawLedgers_all (v : Value) (w : World) (h : ∃ ad len cap, v = .slice ad len cap ∧ (len ≤ 1048576 → CodeOk w w.heap.size v)) (ht : Tb w) :
    Calls Tryd.prog 3 #[v] w fun e w' => e = .returned (.bool true) ∧ Ext w w' := by
  obtain ⟨ad, len, cap, rfl, hc⟩ := h
  by_cases hl : 1048576 < len
  · exact lawLedgers_big ad len cap w hl
  · exact lawLedgers _ w (hc (by omega)) ht
end Go.Proofs.YtpncnfodgfldlaaDoor
