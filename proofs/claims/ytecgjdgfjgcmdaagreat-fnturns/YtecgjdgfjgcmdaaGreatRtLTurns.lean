/- laws.FnTurns answers true at every code. -/
import Derived.Test.YtecgjdgfjgcmdaaGreatRtGE
import Derived.Test.YtecgjdgfjgcmdaaGreatRtRP8n
import Derived.Test.YtecgjdgfjgcmdaaGreatRtLMr
import Derived.Deep.RegionHeld3
import Derived.Test.YtecgjdgfjgcmdaaGreatRtTk
namespace Go.Proofs.YtecgjdgfjgcmdaaGreat
open Go.RowKit
def Msg.anyB (z : Ms) (l : List Ct) : Bool := l.any (fun d => decide (d.slot = z.slot) && decide (z.view ≤ d.view))
theorem Msg.anyB_snoc {z : Ms} {l : List Ct} {j : Nat} {d : Ct} (h : l[j]? = some d) : Msg.anyB z (l.take (j + 1)) = (Msg.anyB z (l.take j) || (decide (d.slot = z.slot) && decide (z.view ≤ d.view))) := by
 obtain ⟨hj, rfl⟩ := List.getElem?_eq_some_iff.1 h
 unfold Msg.anyB
 rw [List.take_add_one, List.getElem?_eq_getElem hj, List.any_append]
 simp
theorem Msg.anyB_all {z : Ms} {l : List Ct} (h : ∃ d ∈ l, d.slot = z.slot ∧ z.view ≤ d.view) : Msg.anyB z l = true := by
 obtain ⟨d, h1, h2, h3⟩ := h
 exact List.any_eq_true.2 ⟨d, h1, by simp [h2, h3]⟩
set_option maxHeartbeats 1000000 in
theorem lwBigT_any (ad : Option Addr) (len cap : Nat) (w : World) :
  Calls Tryz.prog 31 #[.slice ad len cap] w fun e w' => e = .returned (.bool (decide (1048576 < len))) ∧ w' = w := by
 go_enter Tryz.func31, Tryz.ntmps31
 go_wp2
 go_ret
 exact ⟨ret_bool (by rw [Bool.eq_iff_iff]; simp; omega), rfl⟩
set_option maxHeartbeats 1000000 in
set_option maxRecDepth 100000 in
theorem lawTurns_big (ad : Option Addr) (len cap : Nat) (w : World) (hl : 1048576 < len) :
  Calls Tryz.prog 10 #[.slice ad len cap] w fun e w' => e = .returned (.bool true) ∧ Ext w w' := by
 have hbig : decide (1048576 < len) = true := by simpa using hl
 have hB := lwBigT_any ad len cap w
 rw [hbig] at hB
 clear hbig
 go_enter Tryz.func10, Tryz.ntmps10
 go_wp2_with fail
 refine hB.mono ?_
 rintro e w1 ⟨rfl, hw⟩
 rw [hw]
 clear hw hB
 go_wp2
 go_ret
 exact ⟨rfl, Ext.refl _⟩
set_option linter.unusedSimpArgs false in
set_option maxHeartbeats 16000000 in
set_option maxRecDepth 100000 in
theorem lawTurns (cv : Value) (w : World) (hc : CodeOk w w.heap.size cv) :
  Calls Tryz.prog 10 #[cv] w fun e w' => e = .returned (.bool true) ∧ Ext w w' := by
 have hc' := hc
 have HD1 : Hid (∀ wx, Ext w wx → Calls Tryz.prog 37 #[cv] wx (Dr.R4 wx)) := fun wx he => drawChangeMsg_any cv wx (hc.later he)
 have HD2 : Hid (∀ wx, Ext w wx → Calls Tryz.prog 39 #[cv] wx (Dr.R3m wx)) := fun wx he => drawNewMsg_any cv wx (hc.later he)
 have hf0 : ∀ (c0 c1 c2 c3 c4 c5 c6 c7 : Value) (W : World), (Instr.field 42 (.agg #[c0, c1, c2, c3, c4, c5, c6, c7]) 0).run Tryz.prog W = .ok c0 W := fun _ _ _ _ _ _ _ _ _ => by kernel_rfl
 have hf2 : ∀ (x y : Int) (W : World), (Instr.field 65 (.agg #[.int .i64 x, .int .i64 y]) 1).run Tryz.prog W = .ok (.int .i64 y) W := fun _ _ _ => by kernel_rfl
 obtain ⟨ad, len, cap0, rfl, hl, -⟩ := hc'
 have hbig : decide (1048576 < len) = false := by simpa using hl
 have hB := lwBigT_any ad len cap0 w
 rw [hbig] at hB
 clear hc hbig hl
 go_enter Tryz.func10, Tryz.ntmps10
 go_wp2_with fail
 refine hB.mono ?_
 rintro e w9 ⟨rfl, hw⟩
 rw [hw]
 clear hw hB w9
 go_wp2_with fail
 refine (HD1.out _ (Ext.refl _)).mono ?_
 rintro e w1 ⟨f, ov, ms, rp, view, rfl, hM, hml, hb⟩
 obtain ⟨a1, c1, rfl, hlc, hcm, hx9⟩ := id hM
 have MS1 : Hid (MSlice w1 (.slice a1 ms.length c1) ms) := hM
 have HX9 : Hid (0 < ms.length → ∃ b off, a1 = some ⟨b, off, none⟩ ∧ b < w1.heap.size ∧ MsAt w1 b off ms) := hx9
 have X1 : Hid (Ext w w1) := hb
 clear hb hM hx9 HD1
 unfold maxLen at hcm
 obtain ⟨cc, hcc⟩ : ∃ cc, cc = Msg.askC f ms rp (Msg.chC rp view) := ⟨_, rfl⟩
 obtain ⟨m, hm⟩ : ∃ m, m = ansM cc (Msg.chM ms rp view) := ⟨_, rfl⟩
 have HIm : Hid (∀ (wx : World), MSlice wx (.slice a1 ms.length c1) ms → Calls Tryz.prog 24 #[.int .i64 f, (.slice a1 ms.length c1), .agg #[.int .i64 rp.id, .int .i64 rp.view, .int .i64 rp.start, .int .i64 rp.done], .int .i64 view] wx (MgRet wx cc m)) := by rw [hm, hcc]; exact fun wx h => implChangeMsg_any f _ ms rp view wx h
 have HSp : Hid (∀ (wx : World), MSlice wx (.slice a1 ms.length c1) ms → Calls Tryz.prog 23 #[.int .i64 f, (.slice a1 ms.length c1), .agg #[.int .i64 rp.id, .int .i64 rp.view, .int .i64 rp.start, .int .i64 rp.done], .int .i64 view] wx (MgRet wx cc m)) := by rw [hm, hcc]; exact fun wx h => specChangeMsg_any f _ ms rp view wx h
 have HZe : Hid (cc = 0 → m = Msg.chM ms rp view ∧ Msg.repC f ms rp = 0 ∧ (0 ≤ view ∧ view ≤ 20)) := fun h => by
  have h1 := Msg.askC_zero (by rw [← hcc]; exact h)
  exact ⟨by rw [hm, h, ansM_ok], h1.1, (Msg.chC_zero h1.2).1⟩
 clear hcc hm
 unfold ragg
 go_wp2_with fail
 refine (HIm.out _ (MS1.out.ext ((Ext.refl _).alloc _))).mono ?_
 rintro e w2 ⟨xm, ym, rfl, hkm, hb⟩
 obtain ⟨g1, g2, -, -, -, k1, k2⟩ := hkm
 obtain ⟨am, cm, rfl, hlm, hcm2, hxm⟩ := id k1
 obtain ⟨bm, dm, rfl, -⟩ := id k2
 have ML2 : Hid (MLs w2 (.slice am m.certs.length cm) (.slice bm m.refs.length dm) m) := ⟨k1.slice, k2.slice⟩
 have Y2 : Hid (Ext w1 w2) := ((Ext.refl _).alloc _).trans hb
 have QA2 : Hid (QBoxAt w2 w1.heap.size rp) := (qbox_new w1 rp _).ext hb
 have hZ : Ext w2 (w2.alloc (.cells #[.int .i64 cc, .int .i64 m.kind, .int .i64 m.view, .int .i64 m.from_, .int .i64 m.slot, .int .i64 m.value, (.slice am m.certs.length cm), (.slice bm m.refs.length dm)] 42)) := (Ext.refl _).alloc _
 have MS : Hid (MSlice (w2.alloc (.cells #[.int .i64 cc, .int .i64 m.kind, .int .i64 m.view, .int .i64 m.from_, .int .i64 m.slot, .int .i64 m.value, (.slice am m.certs.length cm), (.slice bm m.refs.length dm)] 42)) (.slice a1 ms.length c1) ms) := MS1.out.ext (Y2.out.trans hZ)
 have Y3 : Hid (Ext w1 (w2.alloc (.cells #[.int .i64 cc, .int .i64 m.kind, .int .i64 m.view, .int .i64 m.from_, .int .i64 m.slot, .int .i64 m.value, (.slice am m.certs.length cm), (.slice bm m.refs.length dm)] 42))) := Y2.out.trans hZ
 have X3 : Hid (Ext w (w2.alloc (.cells #[.int .i64 cc, .int .i64 m.kind, .int .i64 m.view, .int .i64 m.from_, .int .i64 m.slot, .int .i64 m.value, (.slice am m.certs.length cm), (.slice bm m.refs.length dm)] 42))) := X1.out.trans Y3.out
 have QA3 : Hid (QBoxAt (w2.alloc (.cells #[.int .i64 cc, .int .i64 m.kind, .int .i64 m.view, .int .i64 m.from_, .int .i64 m.slot, .int .i64 m.value, (.slice am m.certs.length cm), (.slice bm m.refs.length dm)] 42)) w1.heap.size rp) := QA2.out.ext hZ
 have BM3 : Hid (MrBox (w2.alloc (.cells #[.int .i64 cc, .int .i64 m.kind, .int .i64 m.view, .int .i64 m.from_, .int .i64 m.slot, .int .i64 m.value, (.slice am m.certs.length cm), (.slice bm m.refs.length dm)] 42)) w2.heap.size cc m (.slice am m.certs.length cm) (.slice bm m.refs.length dm)) := mrbox_new w2 cc m _ _ _
 have ML3 : Hid (MLs (w2.alloc (.cells #[.int .i64 cc, .int .i64 m.kind, .int .i64 m.view, .int .i64 m.from_, .int .i64 m.slot, .int .i64 m.value, (.slice am m.certs.length cm), (.slice bm m.refs.length dm)] 42)) (.slice am m.certs.length cm) (.slice bm m.refs.length dm) m) := ML2.out.ext hZ
 clear hb k1 k2 hZ hxm ML2 Y2 QA2 MS1 X1 HIm
 unfold maxLen at hcm2
 obtain ⟨R1, hR1⟩ : ∃ R1, R1 = w1.heap.size := ⟨_, rfl⟩
 obtain ⟨R2, hR2⟩ : ∃ R2, R2 = w2.heap.size := ⟨_, rfl⟩
 by_cases hz : cc = 0
 ·obtain ⟨hm1, hm2, hm3⟩ := HZe.out hz
  have hled := Msg.repC_led hm2
  have hrf := Msg.repF_zero (by rw [← Msg.repC_ok hled]; exact hm2)
  have HTell : Hid (∀ z ∈ ms, (z.kind = 3 ∧ z.from_ = rp.id ∧ z.view < view) → Msg.anyB z m.certs = true) := fun z h1 h2 => by rw [hm1]; exact Msg.anyB_all (Msg.ch_tells hled h1 h2)
  have HMf : Hid (∀ wx, MLs wx (.slice am m.certs.length cm) (.slice bm m.refs.length dm) m → Calls Tryz.prog 40 #[.int .i64 f, magg m (.slice am m.certs.length cm) (.slice bm m.refs.length dm)] wx fun e w' => e = .returned (.int .i64 0) ∧ Ext wx w') := fun wx h => by have q := implMsgFault_any f m _ _ wx h; rw [show Msg.fault f m = 0 from by rw [hm1]; exact Msg.ch_fault hm2 hm3] at q; exact q
  have HCo : Hid (∀ wx, MSlice wx (.slice a1 ms.length c1) ms → Calls Tryz.prog 38 #[.int .i64 f, (.slice a1 ms.length c1), .int .i64 rp.id, .int .i64 view] wx (Led.KRet wx 0 m.certs)) := fun wx h => by
   have q := implCertsOf_any f rp.id view _ ms wx h
   rw [Msg.certsV_ok hled hrf.1 hm3] at q
   rw [hm1]; exact q
  have HVw : Hid (m.view = view ∧ m.from_ = rp.id) := by rw [hm1]; exact ⟨rfl, rfl⟩
  have HXc : Hid (0 < m.certs.length → ∃ b off, am = some ⟨b, off, none⟩ ∧ b < (w2.alloc (.cells #[.int .i64 cc, .int .i64 m.kind, .int .i64 m.view, .int .i64 m.from_, .int .i64 m.slot, .int .i64 m.value, (.slice am m.certs.length cm), (.slice bm m.refs.length dm)] 42)).heap.size ∧ CtsAt (w2.alloc (.cells #[.int .i64 cc, .int .i64 m.kind, .int .i64 m.view, .int .i64 m.from_, .int .i64 m.slot, .int .i64 m.value, (.slice am m.certs.length cm), (.slice bm m.refs.length dm)] 42)) b off m.certs) := by
   obtain ⟨a9, c9, e9, -, -, h9⟩ := ML3.out.1
   injection e9 with e9 _ _
   subst e9
   exact h9
  have hml2 : m.certs.length ≤ 30 := by rw [hm1]; exact Msg.ns_len _ _
  clear HZe hm1 hm2 hm3 hled hrf HSp
  subst hz
  unfold magg at HMf
  unfold mres
  obtain ⟨-, q0, q1, q2, q3⟩ := QA3.out
  go_wp2_with fail
  rw [← hR1] at QA3 ⊢
  rw [← hR2] at BM3 ⊢
  clear q0 q1 q2 q3 hR1 hR2
  generalize w2.alloc (.cells #[.int .i64 0, .int .i64 m.kind, .int .i64 m.view, .int .i64 m.from_, .int .i64 m.slot, .int .i64 m.value, (.slice am m.certs.length cm), (.slice bm m.refs.length dm)] 42) = w3 at *
  refine (HCo.out _ MS.out).mono ?_
  rintro e w4 ⟨v4, g4, rfl, -, hO, hb⟩
  obtain ⟨a3, c3, rfl, -⟩ := id hO
  unfold Led.jr
  have hZ : Ext w3 (w4.alloc (.cells #[.int .i64 0, .slice a3 m.certs.length c3] 59)) := hb.alloc _
  have X4 : Hid (Ext w w3) := X3.out
  have Z5 : Hid (Ext w3 (w4.alloc (.cells #[.int .i64 0, .slice a3 m.certs.length c3] 59))) := hZ
  have Y5 : Hid (Ext w1 (w4.alloc (.cells #[.int .i64 0, .slice a3 m.certs.length c3] 59))) := Y3.out.trans hZ
  have QA5 : Hid (QBoxAt (w4.alloc (.cells #[.int .i64 0, .slice a3 m.certs.length c3] 59)) R1 rp) := QA3.out.ext hZ
  have BM5 : Hid (MrBox (w4.alloc (.cells #[.int .i64 0, .slice a3 m.certs.length c3] 59)) R2 0 m (.slice am m.certs.length cm) (.slice bm m.refs.length dm)) := BM3.out.ext hZ
  have ML5 : Hid (MLs (w4.alloc (.cells #[.int .i64 0, .slice a3 m.certs.length c3] 59)) (.slice am m.certs.length cm) (.slice bm m.refs.length dm) m) := ML3.out.ext hZ
  have BJ5 : Hid (Led.JBoxAt (w4.alloc (.cells #[.int .i64 0, .slice a3 m.certs.length c3] 59)) w4.heap.size 0 (.slice a3 m.certs.length c3)) := Led.jbox_new w4 0 _ _
  have HXd : Hid (0 < m.certs.length → ∃ b off, am = some ⟨b, off, none⟩ ∧ b < (w4.alloc (.cells #[.int .i64 0, .slice a3 m.certs.length c3] 59)).heap.size ∧ CtsAt (w4.alloc (.cells #[.int .i64 0, .slice a3 m.certs.length c3] 59)) b off m.certs) := fun h => by
   obtain ⟨b, off, e, h1, h2⟩ := HXc.out h
   exact ⟨b, off, e, Nat.lt_of_lt_of_le h1 hZ.size, h2.ext h1 hZ⟩
  clear hb hO hZ QA3 BM3 ML3 HXc MS X3 Y3 HCo
  have HXc := HXd
  clear HXd
  obtain ⟨R3, hR3⟩ : ∃ R3, R3 = w4.heap.size := ⟨_, rfl⟩
  rw [← hR3] at BJ5
  go_wp2_with fail
  rw [← hR3]
  clear hR3
  generalize w4.alloc (.cells #[.int .i64 0, .slice a3 m.certs.length c3] 59) = w5 at *
  go_loopw [9] (fun i wr => ∃ (k : Nat), k ≤ ms.length ∧ i = .int .i64 k ∧ Hid (Ext w5 wr)) (fun i _ => ms.length - (intOf i).toNat)
  case atStart => exact ⟨0, Nat.zero_le _, rfl, Ext.refl _⟩
  case round =>
   obtain ⟨k, hk, rfl, HE⟩ := hrel
   by_cases hlt : k < ms.length
   ·obtain ⟨z, hz9⟩ : ∃ z, ms[k]? = some z := ⟨_, List.getElem?_eq_getElem hlt⟩
    have hz := List.mem_of_getElem? hz9
    obtain ⟨b1, o1, rfl, hb1, hN⟩ := HX9.out (by omega)
    obtain ⟨vz, uz, ⟨zc0, zc1, zc2, zc3, zc4, zc5, zc6⟩, hL⟩ := (hN k z hz9).ext hb1 (Y5.out.trans HE.out)
    obtain ⟨av, cz, au, du, rfl, rfl, -⟩ := hL.form
    obtain ⟨hlR, q0, q1, q2, q3⟩ := QA5.out.ext HE.out
    have hal := alloc_cell
    have hwk : IntKind.i64.wrap ((k : Int) + 1) = (k : Int) + 1 := by rw [IntKind.wrap_i64]; omega
    clear hz9 hN hL hb1 HX9
    by_cases h3 : z.kind = 3
    ·have e3 : (z.kind != 3) = false := by simpa using h3
     by_cases h4 : z.from_ = rp.id
     ·have e4 : (z.from_ != rp.id) = false := by simpa using h4
      by_cases h5 : z.view < view
      ·have P5 : Hid (decide (view ≤ z.view) = false) := decide_eq_false (by omega)
       have H3 : Hid (z.kind = 3 ∧ z.from_ = rp.id) := ⟨h3, h4⟩
       clear h3 h4
       go_wp2
       obtain ⟨xb, hxb⟩ : ∃ xb, xb = wr.heap.size := ⟨_, rfl⟩
       have BX : Hid (MBoxAt (wr.alloc (.cells #[.int .i64 z.kind, .int .i64 z.view, .int .i64 z.from_, .int .i64 z.slot, .int .i64 z.value, .slice av z.certs.length cz, .slice au z.refs.length du] 40)) wr.heap.size z (.slice av z.certs.length cz) (.slice au z.refs.length du)) := mbox_new wr z _ _ _
       have HEx : Hid (Ext w5 (wr.alloc (.cells #[.int .i64 z.kind, .int .i64 z.view, .int .i64 z.from_, .int .i64 z.slot, .int .i64 z.value, .slice av z.certs.length cz, .slice au z.refs.length du] 40))) := HE.out.alloc _
       rw [← hxb] at BX ⊢
       clear hxb zc0 zc1 zc2 zc3 zc4 zc5 zc6 q0 q1 q2 q3 HE hal hlR
       generalize wr.alloc (.cells #[.int .i64 z.kind, .int .i64 z.view, .int .i64 z.from_, .int .i64 z.slot, .int .i64 z.value, .slice av z.certs.length cz, .slice au z.refs.length du] 40) = wx at *
       go_loopw [11, 12] (fun fo kv ws => ∃ (j : Nat), j ≤ m.certs.length ∧ kv = .int .i64 j ∧ fo = .bool (Msg.anyB z (m.certs.take j)) ∧ Hid (Ext wx ws)) (fun _ kv _ => m.certs.length - (intOf kv).toNat)
       case atStart => exact ⟨0, Nat.zero_le _, rfl, by simp [Msg.anyB], Ext.refl _⟩
       case round =>
        obtain ⟨j, hj, rfl, rfl, HF⟩ := hrel
        obtain ⟨ws, hws⟩ : ∃ ws, ws = wr := ⟨_, rfl⟩
        rw [← hws] at HF ⊢
        clear hws wr
        obtain ⟨-, s0, s1, s2, s3, s4, s5, s6, s7⟩ := BM5.out.ext (HEx.out.trans HF.out)
        by_cases hjl : j < m.certs.length
        ·obtain ⟨d, hd⟩ : ∃ d, m.certs[j]? = some d := ⟨_, List.getElem?_eq_getElem hjl⟩
         obtain ⟨bc, oc, rfl, hbc, hCt⟩ := HXc.out (by omega)
         have HD : Hid (∀ W', Ext ws W' → W'.cell? ⟨R2, 6, none⟩ = some (.slice (some ⟨bc, oc, none⟩) m.certs.length cm) ∧ W'.cell? ⟨xb, 3, none⟩ = some (.int .i64 z.slot) ∧ W'.cell? ⟨xb, 1, none⟩ = some (.int .i64 z.view) ∧ W'.cell? ⟨bc, oc + j * 3, none⟩ = some (.int .i64 d.slot) ∧ W'.cell? ⟨bc, oc + j * 3 + 1, none⟩ = some (.int .i64 d.view)) := fun W' he => by
          obtain ⟨-, s0, s1, s2, s3, s4, s5, s6, s7⟩ := BM5.out.ext ((HEx.out.trans HF.out).trans he)
          obtain ⟨-, ⟨x0, x1, x2, x3, x4, x5, x6⟩, -⟩ := BX.out.ext (HF.out.trans he)
          obtain ⟨d0, d1, d2⟩ := hCt.ext hbc ((HEx.out.trans HF.out).trans he) j d hd
          exact ⟨s6, x3, x1, d0, d1⟩
         have HAn : Hid (Msg.anyB z (m.certs.take (j + 1)) = (Msg.anyB z (m.certs.take j) || (decide (d.slot = z.slot) && decide (z.view ≤ d.view)))) := Msg.anyB_snoc hd
         clear hd hCt hbc HXc
         have hwj : IntKind.i64.wrap ((j : Int) + 1) = (j : Int) + 1 := by rw [IntKind.wrap_i64]; omega
         cases hfo : Msg.anyB z (m.certs.take j) with
         | true =>
          have HAf : Hid (Msg.anyB z (m.certs.take (j + 1)) = true) := by show _ = _; rw [HAn.out, hfo]; rfl
          have HS : Hid (∀ W', Ext ws W' → W'.cell? ⟨xb, 3, none⟩ = some (.int .i64 z.slot) ∧ W'.cell? ⟨xb, 1, none⟩ = some (.int .i64 z.view)) := fun W' he => ⟨(HD.out W' he).2.1, (HD.out W' he).2.2.1⟩
          clear HD HAn hfo
          go_wp2
          refine wp_region_held_drew (S := (fun W' : World => W'.cell? ⟨xb, 3, none⟩ = some (.int .i64 z.slot) ∧ W'.cell? ⟨xb, 1, none⟩ = some (.int .i64 z.view))) (by kernel_rfl) (HS.out _ ((Ext.refl _).drew)) (fun hHeld => ?_)
          refine tk 0 ⟨some 83, .move (.tmp 11), 4, oz140, #[], none⟩ ?_
          refine tk 1 ⟨some 84, .move (.tmp 83), 4, oz140, #[⟨0, .data⟩], none⟩ ?_
          refine tn 2 ⟨some 85, .fieldAddr 42 (.tmp 7) 1, 0, oz140, #[⟨1, .guard⟩], some (1, false)⟩ ?_
          refine tn 3 ⟨some 86, .fieldAddr 40 (.tmp 85) 5, 0, oz140, oy141, some (1, false)⟩ ?_
          refine tn 4 ⟨some 87, .load 37 (.tmp 86), 37, oz140, oy142, some (1, false)⟩ ?_
          refine tn 5 ⟨some 88, .move (.tmp 12), 3, oz140, #[⟨1, .guard⟩], some (1, false)⟩ ?_
          refine tn 6 ⟨some 89, .indexAddr 37 (.tmp 87) (.tmp 88), 0, oz140, oy143, some (1, false)⟩ ?_
          refine tn 7 ⟨some 90, .fieldAddr 57 (.tmp 89) 0, 0, oz140, oy144, some (1, false)⟩ ?_
          refine tn 8 ⟨some 91, .load 2 (.tmp 90), 2, oz140, oy145, some (1, false)⟩ ?_
          refine tn 9 ⟨some 92, .fieldAddr 40 (.tmp 10) 3, 0, oz140, #[⟨1, .guard⟩], some (1, false)⟩ ?_
          refine tn 10 ⟨some 93, .load 2 (.tmp 92), 2, oz140, oy146, some (1, false)⟩ ?_
          refine tn 11 ⟨some 94, .binOp .eql 2 (.tmp 91) (.tmp 93) 2, 4, oz140, oy147, some (1, false)⟩ ?_
          refine tn 12 ⟨some 95, .move (.tmp 94), 4, oz140, oy148, some (1, false)⟩ ?_
          refine tn 13 ⟨some 96, .fieldAddr 42 (.tmp 7) 1, 0, oz140, oy149, some (12, true)⟩ ?_
          refine tn 14 ⟨some 97, .fieldAddr 40 (.tmp 96) 5, 0, oz140, oy150, some (12, true)⟩ ?_
          refine tn 15 ⟨some 98, .load 37 (.tmp 97), 37, oz140, oy151, some (12, true)⟩ ?_
          refine tn 16 ⟨some 99, .move (.tmp 12), 3, oz140, oy149, some (12, true)⟩ ?_
          refine tn 17 ⟨some 100, .indexAddr 37 (.tmp 98) (.tmp 99), 0, oz140, oy152, some (12, true)⟩ ?_
          refine tn 18 ⟨some 101, .fieldAddr 57 (.tmp 100) 1, 0, oz140, oy153, some (12, true)⟩ ?_
          refine tn 19 ⟨some 102, .load 2 (.tmp 101), 2, oz140, oy154, some (12, true)⟩ ?_
          refine tn 20 ⟨some 103, .fieldAddr 40 (.tmp 10) 1, 0, oz140, oy149, some (12, true)⟩ ?_
          refine tn 21 ⟨some 104, .load 2 (.tmp 103), 2, oz140, oy155, some (12, true)⟩ ?_
          refine tn 22 ⟨some 105, .binOp .geq 2 (.tmp 102) (.tmp 104) 2, 4, oz140, oy156, some (12, true)⟩ ?_
          refine tn 23 ⟨some 106, .pick (.tmp 95) (.tmp 105) (.const (.bool false)), 4, oz140, oy157, some (1, false)⟩ ?_
          refine tk 24 ⟨some 107, .pick (.tmp 84) (.const (.bool true)) (.tmp 106), 4, oz140, oy158, none⟩ ?_
          refine tk 25 ⟨some 11, .assign (.tmp 107), 4, oz140, oy159, none⟩ ?_
          refine wpAnyH_done (by kernel_rfl) ?_ _
          go_wp2
          exact ⟨⟨j + 1, by omega, by go_num, by rw [HAf.out], HF.out.drew⟩, by simp [intOf]; omega⟩
         | false =>
          have HS := HD
          clear HD
          by_cases hs1 : d.slot = z.slot
          ·have e1 : (d.slot == z.slot) = true := by simpa using hs1
           by_cases hv1 : z.view ≤ d.view
           ·have HAf : Hid (Msg.anyB z (m.certs.take (j + 1)) = true) := by show _ = _; rw [HAn.out, hfo, decide_eq_true hs1, decide_eq_true hv1]; rfl
            have P1 : Hid (decide (z.view ≤ d.view) = true) := decide_eq_true hv1
            clear HAn hfo hs1
            go_wp2
            refine wp_region_held_drew (S := (fun W' : World => W'.cell? ⟨R2, 6, none⟩ = some (.slice (some ⟨bc, oc, none⟩) m.certs.length cm) ∧ W'.cell? ⟨xb, 3, none⟩ = some (.int .i64 z.slot) ∧ W'.cell? ⟨xb, 1, none⟩ = some (.int .i64 z.view) ∧ W'.cell? ⟨bc, oc + j * 3, none⟩ = some (.int .i64 d.slot) ∧ W'.cell? ⟨bc, oc + j * 3 + 1, none⟩ = some (.int .i64 d.view))) (by kernel_rfl) (HS.out _ ((Ext.refl _).drew)) (fun hHeld => ?_)
            refine tk 0 ⟨some 83, .move (.tmp 11), 4, oz140, #[], none⟩ ?_
            refine tk 1 ⟨some 84, .move (.tmp 83), 4, oz140, #[⟨0, .data⟩], none⟩ ?_
            refine tk 2 ⟨some 85, .fieldAddr 42 (.tmp 7) 1, 0, oz140, #[⟨1, .guard⟩], some (1, false)⟩ ?_
            refine tk 3 ⟨some 86, .fieldAddr 40 (.tmp 85) 5, 0, oz140, oy141, some (1, false)⟩ ?_
            refine tk 4 ⟨some 87, .load 37 (.tmp 86), 37, oz140, oy142, some (1, false)⟩ ?_
            refine tk 5 ⟨some 88, .move (.tmp 12), 3, oz140, #[⟨1, .guard⟩], some (1, false)⟩ ?_
            refine tk 6 ⟨some 89, .indexAddr 37 (.tmp 87) (.tmp 88), 0, oz140, oy143, some (1, false)⟩ ?_
            refine tk 7 ⟨some 90, .fieldAddr 57 (.tmp 89) 0, 0, oz140, oy144, some (1, false)⟩ ?_
            refine tk 8 ⟨some 91, .load 2 (.tmp 90), 2, oz140, oy145, some (1, false)⟩ ?_
            refine tk 9 ⟨some 92, .fieldAddr 40 (.tmp 10) 3, 0, oz140, #[⟨1, .guard⟩], some (1, false)⟩ ?_
            refine tk 10 ⟨some 93, .load 2 (.tmp 92), 2, oz140, oy146, some (1, false)⟩ ?_
            refine tk 11 ⟨some 94, .binOp .eql 2 (.tmp 91) (.tmp 93) 2, 4, oz140, oy147, some (1, false)⟩ ?_
            refine tk 12 ⟨some 95, .move (.tmp 94), 4, oz140, oy148, some (1, false)⟩ ?_
            refine tk 13 ⟨some 96, .fieldAddr 42 (.tmp 7) 1, 0, oz140, oy149, some (12, true)⟩ ?_
            refine tk 14 ⟨some 97, .fieldAddr 40 (.tmp 96) 5, 0, oz140, oy150, some (12, true)⟩ ?_
            refine tk 15 ⟨some 98, .load 37 (.tmp 97), 37, oz140, oy151, some (12, true)⟩ ?_
            refine tk 16 ⟨some 99, .move (.tmp 12), 3, oz140, oy149, some (12, true)⟩ ?_
            refine tk 17 ⟨some 100, .indexAddr 37 (.tmp 98) (.tmp 99), 0, oz140, oy152, some (12, true)⟩ ?_
            refine tk 18 ⟨some 101, .fieldAddr 57 (.tmp 100) 1, 0, oz140, oy153, some (12, true)⟩ ?_
            refine tk 19 ⟨some 102, .load 2 (.tmp 101), 2, oz140, oy154, some (12, true)⟩ ?_
            refine tk 20 ⟨some 103, .fieldAddr 40 (.tmp 10) 1, 0, oz140, oy149, some (12, true)⟩ ?_
            refine tk 21 ⟨some 104, .load 2 (.tmp 103), 2, oz140, oy155, some (12, true)⟩ ?_
            refine tk 22 ⟨some 105, .binOp .geq 2 (.tmp 102) (.tmp 104) 2, 4, oz140, oy156, some (12, true)⟩ ?_
            refine tk 23 ⟨some 106, .pick (.tmp 95) (.tmp 105) (.const (.bool false)), 4, oz140, oy157, some (1, false)⟩ ?_
            refine tk 24 ⟨some 107, .pick (.tmp 84) (.const (.bool true)) (.tmp 106), 4, oz140, oy158, none⟩ ?_
            refine tk 25 ⟨some 11, .assign (.tmp 107), 4, oz140, oy159, none⟩ ?_
            refine wpAnyH_done (by kernel_rfl) ?_ _
            go_wp2
            exact ⟨⟨j + 1, by omega, by go_num, by rw [HAf.out], HF.out.drew⟩, by simp [intOf]; omega⟩
           ·have HAf : Hid (Msg.anyB z (m.certs.take (j + 1)) = false) := by show _ = _; rw [HAn.out, hfo, decide_eq_false hv1, Bool.and_false]; rfl
            clear HAn hfo hs1
            go_wp2
            refine wp_region_held_drew (S := (fun W' : World => W'.cell? ⟨R2, 6, none⟩ = some (.slice (some ⟨bc, oc, none⟩) m.certs.length cm) ∧ W'.cell? ⟨xb, 3, none⟩ = some (.int .i64 z.slot) ∧ W'.cell? ⟨xb, 1, none⟩ = some (.int .i64 z.view) ∧ W'.cell? ⟨bc, oc + j * 3, none⟩ = some (.int .i64 d.slot) ∧ W'.cell? ⟨bc, oc + j * 3 + 1, none⟩ = some (.int .i64 d.view))) (by kernel_rfl) (HS.out _ ((Ext.refl _).drew)) (fun hHeld => ?_)
            refine tk 0 ⟨some 83, .move (.tmp 11), 4, oz140, #[], none⟩ ?_
            refine tk 1 ⟨some 84, .move (.tmp 83), 4, oz140, #[⟨0, .data⟩], none⟩ ?_
            refine tk 2 ⟨some 85, .fieldAddr 42 (.tmp 7) 1, 0, oz140, #[⟨1, .guard⟩], some (1, false)⟩ ?_
            refine tk 3 ⟨some 86, .fieldAddr 40 (.tmp 85) 5, 0, oz140, oy141, some (1, false)⟩ ?_
            refine tk 4 ⟨some 87, .load 37 (.tmp 86), 37, oz140, oy142, some (1, false)⟩ ?_
            refine tk 5 ⟨some 88, .move (.tmp 12), 3, oz140, #[⟨1, .guard⟩], some (1, false)⟩ ?_
            refine tk 6 ⟨some 89, .indexAddr 37 (.tmp 87) (.tmp 88), 0, oz140, oy143, some (1, false)⟩ ?_
            refine tk 7 ⟨some 90, .fieldAddr 57 (.tmp 89) 0, 0, oz140, oy144, some (1, false)⟩ ?_
            refine tk 8 ⟨some 91, .load 2 (.tmp 90), 2, oz140, oy145, some (1, false)⟩ ?_
            refine tk 9 ⟨some 92, .fieldAddr 40 (.tmp 10) 3, 0, oz140, #[⟨1, .guard⟩], some (1, false)⟩ ?_
            refine tk 10 ⟨some 93, .load 2 (.tmp 92), 2, oz140, oy146, some (1, false)⟩ ?_
            refine tk 11 ⟨some 94, .binOp .eql 2 (.tmp 91) (.tmp 93) 2, 4, oz140, oy147, some (1, false)⟩ ?_
            refine tk 12 ⟨some 95, .move (.tmp 94), 4, oz140, oy148, some (1, false)⟩ ?_
            refine tk 13 ⟨some 96, .fieldAddr 42 (.tmp 7) 1, 0, oz140, oy149, some (12, true)⟩ ?_
            refine tk 14 ⟨some 97, .fieldAddr 40 (.tmp 96) 5, 0, oz140, oy150, some (12, true)⟩ ?_
            refine tk 15 ⟨some 98, .load 37 (.tmp 97), 37, oz140, oy151, some (12, true)⟩ ?_
            refine tk 16 ⟨some 99, .move (.tmp 12), 3, oz140, oy149, some (12, true)⟩ ?_
            refine tk 17 ⟨some 100, .indexAddr 37 (.tmp 98) (.tmp 99), 0, oz140, oy152, some (12, true)⟩ ?_
            refine tk 18 ⟨some 101, .fieldAddr 57 (.tmp 100) 1, 0, oz140, oy153, some (12, true)⟩ ?_
            refine tk 19 ⟨some 102, .load 2 (.tmp 101), 2, oz140, oy154, some (12, true)⟩ ?_
            refine tk 20 ⟨some 103, .fieldAddr 40 (.tmp 10) 1, 0, oz140, oy149, some (12, true)⟩ ?_
            refine tk 21 ⟨some 104, .load 2 (.tmp 103), 2, oz140, oy155, some (12, true)⟩ ?_
            refine tk 22 ⟨some 105, .binOp .geq 2 (.tmp 102) (.tmp 104) 2, 4, oz140, oy156, some (12, true)⟩ ?_
            refine tk 23 ⟨some 106, .pick (.tmp 95) (.tmp 105) (.const (.bool false)), 4, oz140, oy157, some (1, false)⟩ ?_
            refine tk 24 ⟨some 107, .pick (.tmp 84) (.const (.bool true)) (.tmp 106), 4, oz140, oy158, none⟩ ?_
            refine tk 25 ⟨some 11, .assign (.tmp 107), 4, oz140, oy159, none⟩ ?_
            refine wpAnyH_done (by kernel_rfl) ?_ _
            go_wp2
            exact ⟨⟨j + 1, by omega, by go_num, by rw [HAf.out]; first | rfl | exact congrArg Value.bool (decide_eq_false (by omega)), HF.out.drew⟩, by simp [intOf]; omega⟩
          ·have e1 : (d.slot == z.slot) = false := by simpa using hs1
           have HAf : Hid (Msg.anyB z (m.certs.take (j + 1)) = false) := by show _ = _; rw [HAn.out, hfo, decide_eq_false hs1]; rfl
           clear HAn hfo hs1
           go_wp2
           refine wp_region_held_drew (S := (fun W' : World => W'.cell? ⟨R2, 6, none⟩ = some (.slice (some ⟨bc, oc, none⟩) m.certs.length cm) ∧ W'.cell? ⟨xb, 3, none⟩ = some (.int .i64 z.slot) ∧ W'.cell? ⟨xb, 1, none⟩ = some (.int .i64 z.view) ∧ W'.cell? ⟨bc, oc + j * 3, none⟩ = some (.int .i64 d.slot) ∧ W'.cell? ⟨bc, oc + j * 3 + 1, none⟩ = some (.int .i64 d.view))) (by kernel_rfl) (HS.out _ ((Ext.refl _).drew)) (fun hHeld => ?_)
           refine tk 0 ⟨some 83, .move (.tmp 11), 4, oz140, #[], none⟩ ?_
           refine tk 1 ⟨some 84, .move (.tmp 83), 4, oz140, #[⟨0, .data⟩], none⟩ ?_
           refine tk 2 ⟨some 85, .fieldAddr 42 (.tmp 7) 1, 0, oz140, #[⟨1, .guard⟩], some (1, false)⟩ ?_
           refine tk 3 ⟨some 86, .fieldAddr 40 (.tmp 85) 5, 0, oz140, oy141, some (1, false)⟩ ?_
           refine tk 4 ⟨some 87, .load 37 (.tmp 86), 37, oz140, oy142, some (1, false)⟩ ?_
           refine tk 5 ⟨some 88, .move (.tmp 12), 3, oz140, #[⟨1, .guard⟩], some (1, false)⟩ ?_
           refine tk 6 ⟨some 89, .indexAddr 37 (.tmp 87) (.tmp 88), 0, oz140, oy143, some (1, false)⟩ ?_
           refine tk 7 ⟨some 90, .fieldAddr 57 (.tmp 89) 0, 0, oz140, oy144, some (1, false)⟩ ?_
           refine tk 8 ⟨some 91, .load 2 (.tmp 90), 2, oz140, oy145, some (1, false)⟩ ?_
           refine tk 9 ⟨some 92, .fieldAddr 40 (.tmp 10) 3, 0, oz140, #[⟨1, .guard⟩], some (1, false)⟩ ?_
           refine tk 10 ⟨some 93, .load 2 (.tmp 92), 2, oz140, oy146, some (1, false)⟩ ?_
           refine tk 11 ⟨some 94, .binOp .eql 2 (.tmp 91) (.tmp 93) 2, 4, oz140, oy147, some (1, false)⟩ ?_
           refine tk 12 ⟨some 95, .move (.tmp 94), 4, oz140, oy148, some (1, false)⟩ ?_
           refine tn 13 ⟨some 96, .fieldAddr 42 (.tmp 7) 1, 0, oz140, oy149, some (12, true)⟩ ?_
           refine tn 14 ⟨some 97, .fieldAddr 40 (.tmp 96) 5, 0, oz140, oy150, some (12, true)⟩ ?_
           refine tn 15 ⟨some 98, .load 37 (.tmp 97), 37, oz140, oy151, some (12, true)⟩ ?_
           refine tn 16 ⟨some 99, .move (.tmp 12), 3, oz140, oy149, some (12, true)⟩ ?_
           refine tn 17 ⟨some 100, .indexAddr 37 (.tmp 98) (.tmp 99), 0, oz140, oy152, some (12, true)⟩ ?_
           refine tn 18 ⟨some 101, .fieldAddr 57 (.tmp 100) 1, 0, oz140, oy153, some (12, true)⟩ ?_
           refine tn 19 ⟨some 102, .load 2 (.tmp 101), 2, oz140, oy154, some (12, true)⟩ ?_
           refine tn 20 ⟨some 103, .fieldAddr 40 (.tmp 10) 1, 0, oz140, oy149, some (12, true)⟩ ?_
           refine tn 21 ⟨some 104, .load 2 (.tmp 103), 2, oz140, oy155, some (12, true)⟩ ?_
           refine tn 22 ⟨some 105, .binOp .geq 2 (.tmp 102) (.tmp 104) 2, 4, oz140, oy156, some (12, true)⟩ ?_
           refine tk 23 ⟨some 106, .pick (.tmp 95) (.tmp 105) (.const (.bool false)), 4, oz140, oy157, some (1, false)⟩ ?_
           refine tk 24 ⟨some 107, .pick (.tmp 84) (.const (.bool true)) (.tmp 106), 4, oz140, oy158, none⟩ ?_
           refine tk 25 ⟨some 11, .assign (.tmp 107), 4, oz140, oy159, none⟩ ?_
           refine wpAnyH_done (by kernel_rfl) ?_ _
           go_wp2
           exact ⟨⟨j + 1, by omega, by go_num, by rw [HAf.out], HF.out.drew⟩, by simp [intOf]; omega⟩
        ·have hje : j = m.certs.length := by omega
         have hall : Msg.anyB z (m.certs.take j) = true := by rw [hje, List.take_length]; exact HTell.out z hz ⟨H3.out.1, H3.out.2, h5⟩
         rw [hall]
         clear hall
         go_wp2
         exact ⟨⟨k + 1, by omega, by go_num, HEx.out.trans HF.out⟩, by simp [intOf]; omega⟩
      ·clear h3 h4
       go_wp2
       exact ⟨⟨k + 1, by omega, by go_num, HE.out.alloc _⟩, by simp [intOf]; omega⟩
     ·have e4 : (z.from_ != rp.id) = true := by simpa using h4
      clear h3 h4
      go_wp2
      exact ⟨⟨k + 1, by omega, by go_num, HE.out.alloc _⟩, by simp [intOf]; omega⟩
    ·have e3 : (z.kind != 3) = true := by simpa using h3
     clear h3
     go_wp2
     exact ⟨⟨k + 1, by omega, by go_num, HE.out.alloc _⟩, by simp [intOf]; omega⟩
   ·have hke : k = ms.length := by omega
    have X5 : Hid (Ext w wr) := X4.out.trans (Z5.out.trans HE.out)
    have QA : Hid (QBoxAt wr R1 rp) := QA5.out.ext HE.out
    have BM : Hid (MrBox wr R2 0 m (.slice am m.certs.length cm) (.slice bm m.refs.length dm)) := BM5.out.ext HE.out
    have BJ : Hid (Led.JBoxAt wr R3 0 (.slice a3 m.certs.length c3)) := BJ5.out.ext HE.out
    have ML : Hid (MLs wr (.slice am m.certs.length cm) (.slice bm m.refs.length dm) m) := ML5.out.ext HE.out
    clear HE QA5 BM5 BJ5 ML5 HX9 HXc HTell Z5 X4 Y5
    go_wp2_with fail
    refine (HD2.out _ X5.out).mono ?_
    rintro e w6 ⟨nf, ov2, m2, rq, rfl, hM, -, hb⟩
    obtain ⟨a2, c2, rfl, -⟩ := id hM
    have MT6 : Hid (MSlice w6 (.slice a2 m2.length c2) m2) := hM
    obtain ⟨cq, hcq⟩ : ∃ cq, cq = Msg.askC nf m2 rq (Msg.newC nf m2 rq) := ⟨_, rfl⟩
    obtain ⟨mn, hmn⟩ : ∃ mn, mn = ansM cq (Msg.nwM nf m2 rq) := ⟨_, rfl⟩
    have HNi : Hid (∀ (wx : World), MSlice wx (.slice a2 m2.length c2) m2 → Calls Tryz.prog 30 #[.int .i64 nf, (.slice a2 m2.length c2), .agg #[.int .i64 rq.id, .int .i64 rq.view, .int .i64 rq.start, .int .i64 rq.done]] wx (MgRet wx cq mn)) := by rw [hmn, hcq]; exact fun wx h => implNewMsg_any nf _ m2 rq wx h
    have HNs : Hid (∀ (wx : World), MSlice wx (.slice a2 m2.length c2) m2 → Calls Tryz.prog 29 #[.int .i64 nf, (.slice a2 m2.length c2), .agg #[.int .i64 rq.id, .int .i64 rq.view, .int .i64 rq.start, .int .i64 rq.done]] wx (MgRet wx cq mn)) := by rw [hmn, hcq]; exact fun wx h => specNewMsg_any nf _ m2 rq wx h
    have HLn : Hid (cq = 0 → ((mn.refs.length : Nat) : Int) = 2 * nf + 1 ∧ Msg.needV nf = (0, 2 * nf + 1)) := fun h => by
     have h1 := Msg.askC_zero (by rw [← hcq]; exact h)
     obtain ⟨hf0, hf1, -⟩ := Msg.ledger_zero (Msg.repC_led h1.1)
     refine ⟨?_, ?_⟩
     ·rw [hmn, h, ansM_ok]; exact Msg.newC_zero hf0 h1.2
     ·unfold Msg.needV; rw [if_neg (by unfold Msg.fOk; simp [hf0, hf1])]
    have X6 : Hid (Ext w w6) := X5.out.trans hb
    have QA6 : Hid (QBoxAt w6 R1 rp) := QA.out.ext hb
    have BM6 : Hid (MrBox w6 R2 0 m (.slice am m.certs.length cm) (.slice bm m.refs.length dm)) := BM.out.ext hb
    have BJ6 : Hid (Led.JBoxAt w6 R3 0 (.slice a3 m.certs.length c3)) := BJ.out.ext hb
    have ML6 : Hid (MLs w6 (.slice am m.certs.length cm) (.slice bm m.refs.length dm) m) := ML.out.ext hb
    clear hb hM hcq hmn X5 QA BM BJ ML HD2
    unfold ragg
    go_wp2_with fail
    refine (HNi.out _ (MT6.out.ext ((Ext.refl _).alloc _))).mono ?_
    rintro e v6 ⟨xn, yn, rfl, hkm, hb⟩
    obtain ⟨g1, g2, -, -, -, k1, k2⟩ := hkm
    obtain ⟨an, cn, rfl, -⟩ := id k1
    obtain ⟨bn, dn, rfl, -⟩ := id k2
    have Y6 : Hid (Ext w6 v6) := ((Ext.refl _).alloc _).trans hb
    have QB6 : Hid (QBoxAt v6 w6.heap.size rq) := (qbox_new w6 rq _).ext hb
    clear hb k1 k2 HNi
    have hZ : Ext w6 (v6.alloc (.cells #[.int .i64 cq, .int .i64 mn.kind, .int .i64 mn.view, .int .i64 mn.from_, .int .i64 mn.slot, .int .i64 mn.value, (.slice an mn.certs.length cn), (.slice bn mn.refs.length dn)] 42)) := Y6.out.alloc _
    have X7 : Hid (Ext w (v6.alloc (.cells #[.int .i64 cq, .int .i64 mn.kind, .int .i64 mn.view, .int .i64 mn.from_, .int .i64 mn.slot, .int .i64 mn.value, (.slice an mn.certs.length cn), (.slice bn mn.refs.length dn)] 42))) := X6.out.trans hZ
    have QA : Hid (QBoxAt (v6.alloc (.cells #[.int .i64 cq, .int .i64 mn.kind, .int .i64 mn.view, .int .i64 mn.from_, .int .i64 mn.slot, .int .i64 mn.value, (.slice an mn.certs.length cn), (.slice bn mn.refs.length dn)] 42)) R1 rp) := QA6.out.ext hZ
    have BM : Hid (MrBox (v6.alloc (.cells #[.int .i64 cq, .int .i64 mn.kind, .int .i64 mn.view, .int .i64 mn.from_, .int .i64 mn.slot, .int .i64 mn.value, (.slice an mn.certs.length cn), (.slice bn mn.refs.length dn)] 42)) R2 0 m (.slice am m.certs.length cm) (.slice bm m.refs.length dm)) := BM6.out.ext hZ
    have BJ : Hid (Led.JBoxAt (v6.alloc (.cells #[.int .i64 cq, .int .i64 mn.kind, .int .i64 mn.view, .int .i64 mn.from_, .int .i64 mn.slot, .int .i64 mn.value, (.slice an mn.certs.length cn), (.slice bn mn.refs.length dn)] 42)) R3 0 (.slice a3 m.certs.length c3)) := BJ6.out.ext hZ
    have ML : Hid (MLs (v6.alloc (.cells #[.int .i64 cq, .int .i64 mn.kind, .int .i64 mn.view, .int .i64 mn.from_, .int .i64 mn.slot, .int .i64 mn.value, (.slice an mn.certs.length cn), (.slice bn mn.refs.length dn)] 42)) (.slice am m.certs.length cm) (.slice bm m.refs.length dm) m) := ML6.out.ext hZ
    have MT : Hid (MSlice (v6.alloc (.cells #[.int .i64 cq, .int .i64 mn.kind, .int .i64 mn.view, .int .i64 mn.from_, .int .i64 mn.slot, .int .i64 mn.value, (.slice an mn.certs.length cn), (.slice bn mn.refs.length dn)] 42)) (.slice a2 m2.length c2) m2) := MT6.out.ext hZ
    have QB : Hid (QBoxAt (v6.alloc (.cells #[.int .i64 cq, .int .i64 mn.kind, .int .i64 mn.view, .int .i64 mn.from_, .int .i64 mn.slot, .int .i64 mn.value, (.slice an mn.certs.length cn), (.slice bn mn.refs.length dn)] 42)) w6.heap.size rq) := QB6.out.ext ((Ext.refl _).alloc _)
    have BN : Hid (MrBox (v6.alloc (.cells #[.int .i64 cq, .int .i64 mn.kind, .int .i64 mn.view, .int .i64 mn.from_, .int .i64 mn.slot, .int .i64 mn.value, (.slice an mn.certs.length cn), (.slice bn mn.refs.length dn)] 42)) v6.heap.size cq mn (.slice an mn.certs.length cn) (.slice bn mn.refs.length dn)) := mrbox_new v6 cq mn _ _ _
    clear hZ X6 QA6 BM6 BJ6 ML6 MT6 QB6 Y6
    obtain ⟨R4, hR4⟩ : ∃ R4, R4 = w6.heap.size := ⟨_, rfl⟩
    obtain ⟨R5, hR5⟩ : ∃ R5, R5 = v6.heap.size := ⟨_, rfl⟩
    unfold mres
    go_wp2
    rw [← hR4] at QB ⊢
    rw [← hR5] at BN ⊢
    clear hR4 hR5
    generalize v6.alloc (.cells #[.int .i64 cq, .int .i64 mn.kind, .int .i64 mn.view, .int .i64 mn.from_, .int .i64 mn.slot, .int .i64 mn.value, (.slice an mn.certs.length cn), (.slice bn mn.refs.length dn)] 42) = w7 at *
    have e1 : (((m.certs.length : Nat) : Int) == ((m.certs.length : Nat) : Int)) = true := by simp
    have e2 : (cq == cq) = true := by simp
    have e3 : (m.view == view) = true := by simpa using HVw.out.1
    have e4 : (m.from_ == rp.id) = true := by simpa using HVw.out.2
    by_cases hq : cq = 0
    ·obtain ⟨hl1, hl2⟩ := HLn.out hq
     have HNo : Hid (∀ wx, Calls Tryz.prog 41 #[.int .i64 nf] wx fun e w' => e = .returned (ir (0, 2 * nf + 1)) ∧ Ext wx w') := fun wx => by have q := implNeedOf_any nf wx; rw [hl2] at q; exact q
     have e5 : (((mn.refs.length : Nat) : Int) == 2 * nf + 1) = true := by simpa using hl1
     clear hl1 hl2 HLn
     subst hq
     have HS : Hid (∀ W', Ext w7 W' → W'.cell? ⟨R3, 0, none⟩ = some (.int .i64 0) ∧ W'.cell? ⟨R3, 1, none⟩ = some (.slice a3 m.certs.length c3) ∧ W'.cell? ⟨R2, 0, none⟩ = some (.int .i64 0) ∧ W'.cell? ⟨R2, 1, none⟩ = some (.int .i64 m.kind) ∧ W'.cell? ⟨R2, 2, none⟩ = some (.int .i64 m.view) ∧ W'.cell? ⟨R2, 3, none⟩ = some (.int .i64 m.from_) ∧ W'.cell? ⟨R2, 4, none⟩ = some (.int .i64 m.slot) ∧ W'.cell? ⟨R2, 5, none⟩ = some (.int .i64 m.value) ∧ W'.cell? ⟨R2, 6, none⟩ = some (.slice am m.certs.length cm) ∧ W'.cell? ⟨R2, 7, none⟩ = some (.slice bm m.refs.length dm) ∧ W'.cell? ⟨R1, 0, none⟩ = some (.int .i64 rp.id) ∧ W'.cell? ⟨R4, 0, none⟩ = some (.int .i64 rq.id) ∧ W'.cell? ⟨R4, 1, none⟩ = some (.int .i64 rq.view) ∧ W'.cell? ⟨R4, 2, none⟩ = some (.int .i64 rq.start) ∧ W'.cell? ⟨R4, 3, none⟩ = some (.int .i64 rq.done) ∧ W'.cell? ⟨R5, 0, none⟩ = some (.int .i64 0) ∧ W'.cell? ⟨R5, 1, none⟩ = some (.int .i64 mn.kind) ∧ W'.cell? ⟨R5, 2, none⟩ = some (.int .i64 mn.view) ∧ W'.cell? ⟨R5, 3, none⟩ = some (.int .i64 mn.from_) ∧ W'.cell? ⟨R5, 4, none⟩ = some (.int .i64 mn.slot) ∧ W'.cell? ⟨R5, 5, none⟩ = some (.int .i64 mn.value) ∧ W'.cell? ⟨R5, 6, none⟩ = some (.slice an mn.certs.length cn) ∧ W'.cell? ⟨R5, 7, none⟩ = some (.slice bn mn.refs.length dn)) := fun W' he => by
      obtain ⟨-, j0, j1⟩ := BJ.out.ext he
      obtain ⟨-, s0, s1, s2, s3, s4, s5, s6, s7⟩ := BM.out.ext he
      obtain ⟨-, q0, q1, q2, q3⟩ := QA.out.ext he
      obtain ⟨-, u0, u1, u2, u3⟩ := QB.out.ext he
      obtain ⟨-, t0, t1, t2, t3, t4, t5, t6, t7⟩ := BN.out.ext he
      exact ⟨j0, j1, s0, s1, s2, s3, s4, s5, s6, s7, q0, u0, u1, u2, u3, t0, t1, t2, t3, t4, t5, t6, t7⟩
     refine wp_region_held_drew (S := (fun W' : World => W'.cell? ⟨R3, 0, none⟩ = some (.int .i64 0) ∧ W'.cell? ⟨R3, 1, none⟩ = some (.slice a3 m.certs.length c3) ∧ W'.cell? ⟨R2, 0, none⟩ = some (.int .i64 0) ∧ W'.cell? ⟨R2, 1, none⟩ = some (.int .i64 m.kind) ∧ W'.cell? ⟨R2, 2, none⟩ = some (.int .i64 m.view) ∧ W'.cell? ⟨R2, 3, none⟩ = some (.int .i64 m.from_) ∧ W'.cell? ⟨R2, 4, none⟩ = some (.int .i64 m.slot) ∧ W'.cell? ⟨R2, 5, none⟩ = some (.int .i64 m.value) ∧ W'.cell? ⟨R2, 6, none⟩ = some (.slice am m.certs.length cm) ∧ W'.cell? ⟨R2, 7, none⟩ = some (.slice bm m.refs.length dm) ∧ W'.cell? ⟨R1, 0, none⟩ = some (.int .i64 rp.id) ∧ W'.cell? ⟨R4, 0, none⟩ = some (.int .i64 rq.id) ∧ W'.cell? ⟨R4, 1, none⟩ = some (.int .i64 rq.view) ∧ W'.cell? ⟨R4, 2, none⟩ = some (.int .i64 rq.start) ∧ W'.cell? ⟨R4, 3, none⟩ = some (.int .i64 rq.done) ∧ W'.cell? ⟨R5, 0, none⟩ = some (.int .i64 0) ∧ W'.cell? ⟨R5, 1, none⟩ = some (.int .i64 mn.kind) ∧ W'.cell? ⟨R5, 2, none⟩ = some (.int .i64 mn.view) ∧ W'.cell? ⟨R5, 3, none⟩ = some (.int .i64 mn.from_) ∧ W'.cell? ⟨R5, 4, none⟩ = some (.int .i64 mn.slot) ∧ W'.cell? ⟨R5, 5, none⟩ = some (.int .i64 mn.value) ∧ W'.cell? ⟨R5, 6, none⟩ = some (.slice an mn.certs.length cn) ∧ W'.cell? ⟨R5, 7, none⟩ = some (.slice bn mn.refs.length dn))) (by kernel_rfl) (HS.out _ ((Ext.refl _).drew)) (fun hHeld => ?_)
     refine tk 0 ⟨some 120, .fieldAddr 59 (.tmp 8) 0, 0, oz160, #[], none⟩ ?_
     refine tk 1 ⟨some 121, .load 2 (.tmp 120), 2, oz160, #[⟨0, .data⟩], none⟩ ?_
     refine tk 2 ⟨some 122, .binOp .eql 2 (.tmp 121) (.const (.int .i64 0)) 2, 4, oz160, #[⟨1, .data⟩], none⟩ ?_
     refine tk 3 ⟨some 123, .move (.tmp 122), 4, oz160, #[⟨2, .data⟩], none⟩ ?_
     refine tk 4 ⟨some 124, .fieldAddr 59 (.tmp 8) 1, 0, oz160, #[⟨3, .guard⟩], some (3, true)⟩ ?_
     refine tk 5 ⟨some 125, .load 37 (.tmp 124), 37, oz160, oy161, some (3, true)⟩ ?_
     refine tk 6 ⟨some 126, .call { callee := .builtin .len, args := #[.tmp 125], argTypes := #[37] }, 3, oz160, #[⟨5, .data⟩, ⟨3, .guard⟩], some (3, true)⟩ ?_
     refine tk 7 ⟨some 127, .fieldAddr 42 (.tmp 7) 1, 0, oz160, #[⟨3, .guard⟩], some (3, true)⟩ ?_
     refine tk 8 ⟨some 128, .fieldAddr 40 (.tmp 127) 5, 0, oz160, oy162, some (3, true)⟩ ?_
     refine tk 9 ⟨some 129, .load 37 (.tmp 128), 37, oz160, #[⟨8, .data⟩, ⟨3, .guard⟩], some (3, true)⟩ ?_
     refine tk 10 ⟨some 130, .call { callee := .builtin .len, args := #[.tmp 129], argTypes := #[37] }, 3, oz160, #[⟨9, .data⟩, ⟨3, .guard⟩], some (3, true)⟩ ?_
     refine tk 11 ⟨some 131, .binOp .eql 3 (.tmp 126) (.tmp 130) 3, 4, oz160, #[⟨6, .data⟩, ⟨10, .data⟩, ⟨3, .guard⟩], some (3, true)⟩ ?_
     refine tk 12 ⟨some 132, .pick (.tmp 123) (.tmp 131) (.const (.bool false)), 4, oz160, #[⟨3, .data⟩, ⟨11, .data⟩], none⟩ ?_
     refine tk 13 ⟨some 133, .move (.tmp 132), 4, oz160, #[⟨12, .data⟩, ⟨3, .chain⟩], none⟩ ?_
     refine tk 14 ⟨some 134, .move (.tmp 3), 2, oz160, oy33, some (13, true)⟩ ?_
     refine tk 15 ⟨some 135, .fieldAddr 42 (.tmp 7) 1, 0, oz160, oy33, some (13, true)⟩ ?_
     refine tk 16 ⟨some 136, .load 40 (.tmp 135), 40, oz160, oy35, some (13, true)⟩ ?_
     refine wpAnyH_ready (rs := [17]) (by kernel_rfl) (by simp) (AllReadyH.cons rfl (fun K hK => ?_) AllReadyH.nil)
     go_simp
     refine (HMf.out _ (ML.out.ext ((Ext.refl _).drew))).mono ?_
     rintro e y1 ⟨rfl, hb⟩
     have X1 : Hid (Ext w7 y1) := ((Ext.refl _).drew).trans hb
     clear hb
     refine hK.out _ _ (by exact HS.out _ X1.out) (fun hHeldX1 => ?_)
     clear hK K
     refine tk 18 ⟨some 138, .binOp .eql 2 (.tmp 137) (.const (.int .i64 0)) 2, 4, oz160, #[⟨17, .data⟩, ⟨13, .guard⟩], some (13, true)⟩ ?_
     refine tk 19 ⟨some 139, .pick (.tmp 133) (.tmp 138) (.const (.bool false)), 4, oz160, #[⟨13, .data⟩, ⟨18, .data⟩], none⟩ ?_
     refine tk 20 ⟨some 140, .move (.tmp 139), 4, oz160, #[⟨19, .data⟩, ⟨17, .chain⟩], none⟩ ?_
     refine tk 21 ⟨some 141, .fieldAddr 42 (.tmp 7) 1, 0, oz160, oy71, some (20, true)⟩ ?_
     refine tk 22 ⟨some 142, .fieldAddr 40 (.tmp 141) 1, 0, oz160, oy72, some (20, true)⟩ ?_
     refine tk 23 ⟨some 143, .load 2 (.tmp 142), 2, oz160, oy73, some (20, true)⟩ ?_
     refine tk 24 ⟨some 144, .move (.tmp 6), 2, oz160, oy71, some (20, true)⟩ ?_
     refine tk 25 ⟨some 145, .binOp .eql 2 (.tmp 143) (.tmp 144) 2, 4, oz160, #[⟨23, .data⟩, ⟨24, .data⟩, ⟨20, .guard⟩], some (20, true)⟩ ?_
     refine tk 26 ⟨some 146, .pick (.tmp 140) (.tmp 145) (.const (.bool false)), 4, oz160, #[⟨20, .data⟩, ⟨25, .data⟩], none⟩ ?_
     refine tk 27 ⟨some 147, .move (.tmp 146), 4, oz160, #[⟨26, .data⟩, ⟨20, .chain⟩], none⟩ ?_
     refine tk 28 ⟨some 148, .fieldAddr 42 (.tmp 7) 1, 0, oz160, oy163, some (27, true)⟩ ?_
     refine tk 29 ⟨some 149, .fieldAddr 40 (.tmp 148) 2, 0, oz160, #[⟨28, .data⟩, ⟨27, .guard⟩], some (27, true)⟩ ?_
     refine tk 30 ⟨some 150, .load 2 (.tmp 149), 2, oz160, #[⟨29, .data⟩, ⟨27, .guard⟩], some (27, true)⟩ ?_
     refine tk 31 ⟨some 151, .fieldAddr 29 (.tmp 5) 0, 0, oz160, oy163, some (27, true)⟩ ?_
     refine tk 32 ⟨some 152, .load 2 (.tmp 151), 2, oz160, #[⟨31, .data⟩, ⟨27, .guard⟩], some (27, true)⟩ ?_
     refine tk 33 ⟨some 153, .binOp .eql 2 (.tmp 150) (.tmp 152) 2, 4, oz160, #[⟨30, .data⟩, ⟨32, .data⟩, ⟨27, .guard⟩], some (27, true)⟩ ?_
     refine tk 34 ⟨some 154, .pick (.tmp 147) (.tmp 153) (.const (.bool false)), 4, oz160, #[⟨27, .data⟩, ⟨33, .data⟩], none⟩ ?_
     refine tk 35 ⟨some 155, .move (.tmp 154), 4, oz160, #[⟨34, .data⟩, ⟨27, .chain⟩], none⟩ ?_
     refine tk 36 ⟨some 156, .fieldAddr 42 (.tmp 16) 0, 0, oz160, oy164, some (35, true)⟩ ?_
     refine tk 37 ⟨some 157, .load 2 (.tmp 156), 2, oz160, #[⟨36, .data⟩, ⟨35, .guard⟩], some (35, true)⟩ ?_
     refine tk 38 ⟨some 158, .move (.tmp 13), 2, oz160, oy164, some (35, true)⟩ ?_
     refine tk 39 ⟨some 159, .move (.tmp 14), 27, oz160, oy164, some (35, true)⟩ ?_
     refine tk 40 ⟨some 160, .load 29 (.tmp 15), 29, oz160, oy164, some (35, true)⟩ ?_
     refine wpAnyH_ready (rs := [41]) (by kernel_rfl) (by simp) (AllReadyH.cons rfl (fun K hK => ?_) AllReadyH.nil)
     go_simp
     refine (HNs.out _ (MT.out.ext X1.out)).mono ?_
     rintro e y2 ⟨x8, y8, rfl, -, hb⟩
     have X2 : Hid (Ext w7 y2) := X1.out.trans hb
     unfold mres
     clear hb
     refine hK.out _ _ (by exact HS.out _ X2.out) (fun hHeldX2 => ?_)
     clear hK K
     refine tk 42 ⟨some 162, .field 42 (.tmp 161) 0, 2, oz160, #[⟨41, .data⟩, ⟨35, .guard⟩], some (35, true)⟩ ?_
     refine tk 43 ⟨some 163, .binOp .eql 2 (.tmp 157) (.tmp 162) 2, 4, oz160, #[⟨37, .data⟩, ⟨42, .data⟩, ⟨35, .guard⟩], some (35, true)⟩ ?_
     refine tk 44 ⟨some 164, .pick (.tmp 155) (.tmp 163) (.const (.bool false)), 4, oz160, #[⟨35, .data⟩, ⟨43, .data⟩], none⟩ ?_
     refine tk 45 ⟨some 165, .move (.tmp 164), 4, oz160, #[⟨44, .data⟩, ⟨41, .chain⟩], none⟩ ?_
     refine tk 46 ⟨some 166, .fieldAddr 42 (.tmp 16) 0, 0, oz160, #[⟨45, .guard⟩], some (45, true)⟩ ?_
     refine tk 47 ⟨some 167, .load 2 (.tmp 166), 2, oz160, #[⟨46, .data⟩, ⟨45, .guard⟩], some (45, true)⟩ ?_
     refine tk 48 ⟨some 168, .binOp .neq 2 (.tmp 167) (.const (.int .i64 0)) 2, 4, oz160, #[⟨47, .data⟩, ⟨45, .guard⟩], some (45, true)⟩ ?_
     refine tk 49 ⟨some 169, .move (.tmp 168), 4, oz160, #[⟨48, .data⟩, ⟨45, .chain⟩, ⟨45, .guard⟩], some (45, true)⟩ ?_
     refine tk 50 ⟨some 170, .fieldAddr 42 (.tmp 16) 1, 0, oz160, oy165, some (49, false)⟩ ?_
     refine tk 51 ⟨some 171, .fieldAddr 40 (.tmp 170) 6, 0, oz160, #[⟨50, .data⟩, ⟨49, .guard⟩], some (49, false)⟩ ?_
     refine tk 52 ⟨some 172, .load 38 (.tmp 171), 38, oz160, #[⟨51, .data⟩, ⟨49, .guard⟩], some (49, false)⟩ ?_
     refine tk 53 ⟨some 173, .call { callee := .builtin .len, args := #[.tmp 172], argTypes := #[38] }, 3, oz160, #[⟨52, .data⟩, ⟨49, .guard⟩], some (49, false)⟩ ?_
     refine tk 54 ⟨some 174, .move (.tmp 13), 2, oz160, oy165, some (49, false)⟩ ?_
     refine wpAnyH_ready (rs := [55]) (by kernel_rfl) (by simp) (AllReadyH.cons rfl (fun K hK => ?_) AllReadyH.nil)
     go_simp
     refine (HNo.out _).mono ?_
     rintro e y3 ⟨rfl, hb⟩
     have X3 : Hid (Ext w7 y3) := X2.out.trans hb
     unfold ir
     clear hb
     refine hK.out _ _ (by exact HS.out _ X3.out) (fun hHeldX3 => ?_)
     clear hK K
     refine tk 56 ⟨some 176, .field 65 (.tmp 175) 1, 2, oz160, #[⟨55, .data⟩, ⟨49, .guard⟩], some (49, false)⟩ ?_
     refine tk 57 ⟨some 177, .binOp .eql 2 (.tmp 173) (.tmp 176) 2, 4, oz160, #[⟨53, .data⟩, ⟨56, .data⟩, ⟨49, .guard⟩], some (49, false)⟩ ?_
     refine tk 58 ⟨some 178, .pick (.tmp 169) (.const (.bool true)) (.tmp 177), 4, oz160, #[⟨49, .data⟩, ⟨57, .data⟩, ⟨45, .guard⟩], some (45, true)⟩ ?_
     refine tk 59 ⟨some 179, .pick (.tmp 165) (.tmp 178) (.const (.bool false)), 4, oz160, #[⟨45, .data⟩, ⟨58, .data⟩], none⟩ ?_
     refine tk 60 ⟨some 2, .assign (.tmp 179), 4, oz160, #[⟨59, .data⟩, ⟨55, .chain⟩, ⟨0, .phase⟩, ⟨1, .phase⟩, ⟨2, .phase⟩, ⟨3, .phase⟩, ⟨4, .phase⟩, ⟨5, .phase⟩, ⟨6, .phase⟩, ⟨7, .phase⟩, ⟨8, .phase⟩, ⟨9, .phase⟩, ⟨10, .phase⟩, ⟨11, .phase⟩, ⟨12, .phase⟩, ⟨13, .phase⟩, ⟨14, .phase⟩, ⟨15, .phase⟩, ⟨16, .phase⟩, ⟨17, .phase⟩, ⟨18, .phase⟩, ⟨19, .phase⟩, ⟨20, .phase⟩, ⟨21, .phase⟩, ⟨22, .phase⟩, ⟨23, .phase⟩, ⟨24, .phase⟩, ⟨25, .phase⟩, ⟨26, .phase⟩, ⟨27, .phase⟩, ⟨28, .phase⟩, ⟨29, .phase⟩, ⟨30, .phase⟩, ⟨31, .phase⟩, ⟨32, .phase⟩, ⟨33, .phase⟩, ⟨34, .phase⟩, ⟨35, .phase⟩, ⟨36, .phase⟩, ⟨37, .phase⟩, ⟨38, .phase⟩, ⟨39, .phase⟩, ⟨40, .phase⟩, ⟨41, .phase⟩, ⟨42, .phase⟩, ⟨43, .phase⟩, ⟨44, .phase⟩, ⟨45, .phase⟩, ⟨46, .phase⟩, ⟨47, .phase⟩, ⟨48, .phase⟩, ⟨49, .phase⟩, ⟨50, .phase⟩, ⟨51, .phase⟩, ⟨52, .phase⟩, ⟨53, .phase⟩, ⟨54, .phase⟩, ⟨55, .phase⟩, ⟨56, .phase⟩, ⟨57, .phase⟩, ⟨58, .phase⟩, ⟨59, .phase⟩], none⟩ ?_
     refine wpAnyH_done (by kernel_rfl) ?_ _
     go_wp2
     go_ret
     exact ⟨rfl, X7.out.trans X3.out⟩
    ·have e5 : (cq != 0) = true := by simpa using hq
     clear HLn
     have HS : Hid (∀ W', Ext w7 W' → W'.cell? ⟨R3, 0, none⟩ = some (.int .i64 0) ∧ W'.cell? ⟨R3, 1, none⟩ = some (.slice a3 m.certs.length c3) ∧ W'.cell? ⟨R2, 0, none⟩ = some (.int .i64 0) ∧ W'.cell? ⟨R2, 1, none⟩ = some (.int .i64 m.kind) ∧ W'.cell? ⟨R2, 2, none⟩ = some (.int .i64 m.view) ∧ W'.cell? ⟨R2, 3, none⟩ = some (.int .i64 m.from_) ∧ W'.cell? ⟨R2, 4, none⟩ = some (.int .i64 m.slot) ∧ W'.cell? ⟨R2, 5, none⟩ = some (.int .i64 m.value) ∧ W'.cell? ⟨R2, 6, none⟩ = some (.slice am m.certs.length cm) ∧ W'.cell? ⟨R2, 7, none⟩ = some (.slice bm m.refs.length dm) ∧ W'.cell? ⟨R1, 0, none⟩ = some (.int .i64 rp.id) ∧ W'.cell? ⟨R4, 0, none⟩ = some (.int .i64 rq.id) ∧ W'.cell? ⟨R4, 1, none⟩ = some (.int .i64 rq.view) ∧ W'.cell? ⟨R4, 2, none⟩ = some (.int .i64 rq.start) ∧ W'.cell? ⟨R4, 3, none⟩ = some (.int .i64 rq.done) ∧ W'.cell? ⟨R5, 0, none⟩ = some (.int .i64 cq) ∧ W'.cell? ⟨R5, 1, none⟩ = some (.int .i64 mn.kind) ∧ W'.cell? ⟨R5, 2, none⟩ = some (.int .i64 mn.view) ∧ W'.cell? ⟨R5, 3, none⟩ = some (.int .i64 mn.from_) ∧ W'.cell? ⟨R5, 4, none⟩ = some (.int .i64 mn.slot) ∧ W'.cell? ⟨R5, 5, none⟩ = some (.int .i64 mn.value) ∧ W'.cell? ⟨R5, 6, none⟩ = some (.slice an mn.certs.length cn) ∧ W'.cell? ⟨R5, 7, none⟩ = some (.slice bn mn.refs.length dn)) := fun W' he => by
      obtain ⟨-, j0, j1⟩ := BJ.out.ext he
      obtain ⟨-, s0, s1, s2, s3, s4, s5, s6, s7⟩ := BM.out.ext he
      obtain ⟨-, q0, q1, q2, q3⟩ := QA.out.ext he
      obtain ⟨-, u0, u1, u2, u3⟩ := QB.out.ext he
      obtain ⟨-, t0, t1, t2, t3, t4, t5, t6, t7⟩ := BN.out.ext he
      exact ⟨j0, j1, s0, s1, s2, s3, s4, s5, s6, s7, q0, u0, u1, u2, u3, t0, t1, t2, t3, t4, t5, t6, t7⟩
     refine wp_region_held_drew (S := (fun W' : World => W'.cell? ⟨R3, 0, none⟩ = some (.int .i64 0) ∧ W'.cell? ⟨R3, 1, none⟩ = some (.slice a3 m.certs.length c3) ∧ W'.cell? ⟨R2, 0, none⟩ = some (.int .i64 0) ∧ W'.cell? ⟨R2, 1, none⟩ = some (.int .i64 m.kind) ∧ W'.cell? ⟨R2, 2, none⟩ = some (.int .i64 m.view) ∧ W'.cell? ⟨R2, 3, none⟩ = some (.int .i64 m.from_) ∧ W'.cell? ⟨R2, 4, none⟩ = some (.int .i64 m.slot) ∧ W'.cell? ⟨R2, 5, none⟩ = some (.int .i64 m.value) ∧ W'.cell? ⟨R2, 6, none⟩ = some (.slice am m.certs.length cm) ∧ W'.cell? ⟨R2, 7, none⟩ = some (.slice bm m.refs.length dm) ∧ W'.cell? ⟨R1, 0, none⟩ = some (.int .i64 rp.id) ∧ W'.cell? ⟨R4, 0, none⟩ = some (.int .i64 rq.id) ∧ W'.cell? ⟨R4, 1, none⟩ = some (.int .i64 rq.view) ∧ W'.cell? ⟨R4, 2, none⟩ = some (.int .i64 rq.start) ∧ W'.cell? ⟨R4, 3, none⟩ = some (.int .i64 rq.done) ∧ W'.cell? ⟨R5, 0, none⟩ = some (.int .i64 cq) ∧ W'.cell? ⟨R5, 1, none⟩ = some (.int .i64 mn.kind) ∧ W'.cell? ⟨R5, 2, none⟩ = some (.int .i64 mn.view) ∧ W'.cell? ⟨R5, 3, none⟩ = some (.int .i64 mn.from_) ∧ W'.cell? ⟨R5, 4, none⟩ = some (.int .i64 mn.slot) ∧ W'.cell? ⟨R5, 5, none⟩ = some (.int .i64 mn.value) ∧ W'.cell? ⟨R5, 6, none⟩ = some (.slice an mn.certs.length cn) ∧ W'.cell? ⟨R5, 7, none⟩ = some (.slice bn mn.refs.length dn))) (by kernel_rfl) (HS.out _ ((Ext.refl _).drew)) (fun hHeld => ?_)
     refine tk 0 ⟨some 120, .fieldAddr 59 (.tmp 8) 0, 0, oz160, #[], none⟩ ?_
     refine tk 1 ⟨some 121, .load 2 (.tmp 120), 2, oz160, #[⟨0, .data⟩], none⟩ ?_
     refine tk 2 ⟨some 122, .binOp .eql 2 (.tmp 121) (.const (.int .i64 0)) 2, 4, oz160, #[⟨1, .data⟩], none⟩ ?_
     refine tk 3 ⟨some 123, .move (.tmp 122), 4, oz160, #[⟨2, .data⟩], none⟩ ?_
     refine tk 4 ⟨some 124, .fieldAddr 59 (.tmp 8) 1, 0, oz160, #[⟨3, .guard⟩], some (3, true)⟩ ?_
     refine tk 5 ⟨some 125, .load 37 (.tmp 124), 37, oz160, oy161, some (3, true)⟩ ?_
     refine tk 6 ⟨some 126, .call { callee := .builtin .len, args := #[.tmp 125], argTypes := #[37] }, 3, oz160, #[⟨5, .data⟩, ⟨3, .guard⟩], some (3, true)⟩ ?_
     refine tk 7 ⟨some 127, .fieldAddr 42 (.tmp 7) 1, 0, oz160, #[⟨3, .guard⟩], some (3, true)⟩ ?_
     refine tk 8 ⟨some 128, .fieldAddr 40 (.tmp 127) 5, 0, oz160, oy162, some (3, true)⟩ ?_
     refine tk 9 ⟨some 129, .load 37 (.tmp 128), 37, oz160, #[⟨8, .data⟩, ⟨3, .guard⟩], some (3, true)⟩ ?_
     refine tk 10 ⟨some 130, .call { callee := .builtin .len, args := #[.tmp 129], argTypes := #[37] }, 3, oz160, #[⟨9, .data⟩, ⟨3, .guard⟩], some (3, true)⟩ ?_
     refine tk 11 ⟨some 131, .binOp .eql 3 (.tmp 126) (.tmp 130) 3, 4, oz160, #[⟨6, .data⟩, ⟨10, .data⟩, ⟨3, .guard⟩], some (3, true)⟩ ?_
     refine tk 12 ⟨some 132, .pick (.tmp 123) (.tmp 131) (.const (.bool false)), 4, oz160, #[⟨3, .data⟩, ⟨11, .data⟩], none⟩ ?_
     refine tk 13 ⟨some 133, .move (.tmp 132), 4, oz160, #[⟨12, .data⟩, ⟨3, .chain⟩], none⟩ ?_
     refine tk 14 ⟨some 134, .move (.tmp 3), 2, oz160, oy33, some (13, true)⟩ ?_
     refine tk 15 ⟨some 135, .fieldAddr 42 (.tmp 7) 1, 0, oz160, oy33, some (13, true)⟩ ?_
     refine tk 16 ⟨some 136, .load 40 (.tmp 135), 40, oz160, oy35, some (13, true)⟩ ?_
     refine wpAnyH_ready (rs := [17]) (by kernel_rfl) (by simp) (AllReadyH.cons rfl (fun K hK => ?_) AllReadyH.nil)
     go_simp
     refine (HMf.out _ (ML.out.ext ((Ext.refl _).drew))).mono ?_
     rintro e y1 ⟨rfl, hb⟩
     have X1 : Hid (Ext w7 y1) := ((Ext.refl _).drew).trans hb
     clear hb
     refine hK.out _ _ (by exact HS.out _ X1.out) (fun hHeldX1 => ?_)
     clear hK K
     refine tk 18 ⟨some 138, .binOp .eql 2 (.tmp 137) (.const (.int .i64 0)) 2, 4, oz160, #[⟨17, .data⟩, ⟨13, .guard⟩], some (13, true)⟩ ?_
     refine tk 19 ⟨some 139, .pick (.tmp 133) (.tmp 138) (.const (.bool false)), 4, oz160, #[⟨13, .data⟩, ⟨18, .data⟩], none⟩ ?_
     refine tk 20 ⟨some 140, .move (.tmp 139), 4, oz160, #[⟨19, .data⟩, ⟨17, .chain⟩], none⟩ ?_
     refine tk 21 ⟨some 141, .fieldAddr 42 (.tmp 7) 1, 0, oz160, oy71, some (20, true)⟩ ?_
     refine tk 22 ⟨some 142, .fieldAddr 40 (.tmp 141) 1, 0, oz160, oy72, some (20, true)⟩ ?_
     refine tk 23 ⟨some 143, .load 2 (.tmp 142), 2, oz160, oy73, some (20, true)⟩ ?_
     refine tk 24 ⟨some 144, .move (.tmp 6), 2, oz160, oy71, some (20, true)⟩ ?_
     refine tk 25 ⟨some 145, .binOp .eql 2 (.tmp 143) (.tmp 144) 2, 4, oz160, #[⟨23, .data⟩, ⟨24, .data⟩, ⟨20, .guard⟩], some (20, true)⟩ ?_
     refine tk 26 ⟨some 146, .pick (.tmp 140) (.tmp 145) (.const (.bool false)), 4, oz160, #[⟨20, .data⟩, ⟨25, .data⟩], none⟩ ?_
     refine tk 27 ⟨some 147, .move (.tmp 146), 4, oz160, #[⟨26, .data⟩, ⟨20, .chain⟩], none⟩ ?_
     refine tk 28 ⟨some 148, .fieldAddr 42 (.tmp 7) 1, 0, oz160, oy163, some (27, true)⟩ ?_
     refine tk 29 ⟨some 149, .fieldAddr 40 (.tmp 148) 2, 0, oz160, #[⟨28, .data⟩, ⟨27, .guard⟩], some (27, true)⟩ ?_
     refine tk 30 ⟨some 150, .load 2 (.tmp 149), 2, oz160, #[⟨29, .data⟩, ⟨27, .guard⟩], some (27, true)⟩ ?_
     refine tk 31 ⟨some 151, .fieldAddr 29 (.tmp 5) 0, 0, oz160, oy163, some (27, true)⟩ ?_
     refine tk 32 ⟨some 152, .load 2 (.tmp 151), 2, oz160, #[⟨31, .data⟩, ⟨27, .guard⟩], some (27, true)⟩ ?_
     refine tk 33 ⟨some 153, .binOp .eql 2 (.tmp 150) (.tmp 152) 2, 4, oz160, #[⟨30, .data⟩, ⟨32, .data⟩, ⟨27, .guard⟩], some (27, true)⟩ ?_
     refine tk 34 ⟨some 154, .pick (.tmp 147) (.tmp 153) (.const (.bool false)), 4, oz160, #[⟨27, .data⟩, ⟨33, .data⟩], none⟩ ?_
     refine tk 35 ⟨some 155, .move (.tmp 154), 4, oz160, #[⟨34, .data⟩, ⟨27, .chain⟩], none⟩ ?_
     refine tk 36 ⟨some 156, .fieldAddr 42 (.tmp 16) 0, 0, oz160, oy164, some (35, true)⟩ ?_
     refine tk 37 ⟨some 157, .load 2 (.tmp 156), 2, oz160, #[⟨36, .data⟩, ⟨35, .guard⟩], some (35, true)⟩ ?_
     refine tk 38 ⟨some 158, .move (.tmp 13), 2, oz160, oy164, some (35, true)⟩ ?_
     refine tk 39 ⟨some 159, .move (.tmp 14), 27, oz160, oy164, some (35, true)⟩ ?_
     refine tk 40 ⟨some 160, .load 29 (.tmp 15), 29, oz160, oy164, some (35, true)⟩ ?_
     refine wpAnyH_ready (rs := [41]) (by kernel_rfl) (by simp) (AllReadyH.cons rfl (fun K hK => ?_) AllReadyH.nil)
     go_simp
     refine (HNs.out _ (MT.out.ext X1.out)).mono ?_
     rintro e y2 ⟨x8, y8, rfl, -, hb⟩
     have X2 : Hid (Ext w7 y2) := X1.out.trans hb
     unfold mres
     clear hb
     refine hK.out _ _ (by exact HS.out _ X2.out) (fun hHeldX2 => ?_)
     clear hK K
     refine tk 42 ⟨some 162, .field 42 (.tmp 161) 0, 2, oz160, #[⟨41, .data⟩, ⟨35, .guard⟩], some (35, true)⟩ ?_
     refine tk 43 ⟨some 163, .binOp .eql 2 (.tmp 157) (.tmp 162) 2, 4, oz160, #[⟨37, .data⟩, ⟨42, .data⟩, ⟨35, .guard⟩], some (35, true)⟩ ?_
     refine tk 44 ⟨some 164, .pick (.tmp 155) (.tmp 163) (.const (.bool false)), 4, oz160, #[⟨35, .data⟩, ⟨43, .data⟩], none⟩ ?_
     refine tk 45 ⟨some 165, .move (.tmp 164), 4, oz160, #[⟨44, .data⟩, ⟨41, .chain⟩], none⟩ ?_
     refine tk 46 ⟨some 166, .fieldAddr 42 (.tmp 16) 0, 0, oz160, #[⟨45, .guard⟩], some (45, true)⟩ ?_
     refine tk 47 ⟨some 167, .load 2 (.tmp 166), 2, oz160, #[⟨46, .data⟩, ⟨45, .guard⟩], some (45, true)⟩ ?_
     refine tk 48 ⟨some 168, .binOp .neq 2 (.tmp 167) (.const (.int .i64 0)) 2, 4, oz160, #[⟨47, .data⟩, ⟨45, .guard⟩], some (45, true)⟩ ?_
     refine tk 49 ⟨some 169, .move (.tmp 168), 4, oz160, #[⟨48, .data⟩, ⟨45, .chain⟩, ⟨45, .guard⟩], some (45, true)⟩ ?_
     refine tn 50 ⟨some 170, .fieldAddr 42 (.tmp 16) 1, 0, oz160, oy165, some (49, false)⟩ ?_
     refine tn 51 ⟨some 171, .fieldAddr 40 (.tmp 170) 6, 0, oz160, #[⟨50, .data⟩, ⟨49, .guard⟩], some (49, false)⟩ ?_
     refine tn 52 ⟨some 172, .load 38 (.tmp 171), 38, oz160, #[⟨51, .data⟩, ⟨49, .guard⟩], some (49, false)⟩ ?_
     refine tn 53 ⟨some 173, .call { callee := .builtin .len, args := #[.tmp 172], argTypes := #[38] }, 3, oz160, #[⟨52, .data⟩, ⟨49, .guard⟩], some (49, false)⟩ ?_
     refine tn 54 ⟨some 174, .move (.tmp 13), 2, oz160, oy165, some (49, false)⟩ ?_
     refine tn 55 ⟨some 175, .call ⟨.value (.func 41), #[.tmp 174], #[2]⟩, 65, oz160, #[⟨54, .data⟩, ⟨49, .chain⟩, ⟨49, .guard⟩], some (49, false)⟩ ?_
     refine tn 56 ⟨some 176, .field 65 (.tmp 175) 1, 2, oz160, #[⟨55, .data⟩, ⟨49, .guard⟩], some (49, false)⟩ ?_
     refine tn 57 ⟨some 177, .binOp .eql 2 (.tmp 173) (.tmp 176) 2, 4, oz160, #[⟨53, .data⟩, ⟨56, .data⟩, ⟨49, .guard⟩], some (49, false)⟩ ?_
     refine tk 58 ⟨some 178, .pick (.tmp 169) (.const (.bool true)) (.tmp 177), 4, oz160, #[⟨49, .data⟩, ⟨57, .data⟩, ⟨45, .guard⟩], some (45, true)⟩ ?_
     refine tk 59 ⟨some 179, .pick (.tmp 165) (.tmp 178) (.const (.bool false)), 4, oz160, #[⟨45, .data⟩, ⟨58, .data⟩], none⟩ ?_
     refine tk 60 ⟨some 2, .assign (.tmp 179), 4, oz160, #[⟨59, .data⟩, ⟨55, .chain⟩, ⟨0, .phase⟩, ⟨1, .phase⟩, ⟨2, .phase⟩, ⟨3, .phase⟩, ⟨4, .phase⟩, ⟨5, .phase⟩, ⟨6, .phase⟩, ⟨7, .phase⟩, ⟨8, .phase⟩, ⟨9, .phase⟩, ⟨10, .phase⟩, ⟨11, .phase⟩, ⟨12, .phase⟩, ⟨13, .phase⟩, ⟨14, .phase⟩, ⟨15, .phase⟩, ⟨16, .phase⟩, ⟨17, .phase⟩, ⟨18, .phase⟩, ⟨19, .phase⟩, ⟨20, .phase⟩, ⟨21, .phase⟩, ⟨22, .phase⟩, ⟨23, .phase⟩, ⟨24, .phase⟩, ⟨25, .phase⟩, ⟨26, .phase⟩, ⟨27, .phase⟩, ⟨28, .phase⟩, ⟨29, .phase⟩, ⟨30, .phase⟩, ⟨31, .phase⟩, ⟨32, .phase⟩, ⟨33, .phase⟩, ⟨34, .phase⟩, ⟨35, .phase⟩, ⟨36, .phase⟩, ⟨37, .phase⟩, ⟨38, .phase⟩, ⟨39, .phase⟩, ⟨40, .phase⟩, ⟨41, .phase⟩, ⟨42, .phase⟩, ⟨43, .phase⟩, ⟨44, .phase⟩, ⟨45, .phase⟩, ⟨46, .phase⟩, ⟨47, .phase⟩, ⟨48, .phase⟩, ⟨49, .phase⟩, ⟨50, .phase⟩, ⟨51, .phase⟩, ⟨52, .phase⟩, ⟨53, .phase⟩, ⟨54, .phase⟩, ⟨55, .phase⟩, ⟨56, .phase⟩, ⟨57, .phase⟩, ⟨58, .phase⟩, ⟨59, .phase⟩], none⟩ ?_
     refine wpAnyH_done (by kernel_rfl) ?_ _
     go_wp2
     go_ret
     exact ⟨rfl, X7.out.trans X2.out⟩
 ·have e1 : (cc != 0) = true := by simpa using hz
  have e2 : (cc == cc) = true := by simp
  clear HZe hz HX9
  unfold mres
  go_wp2
  rw [← hR1] at QA3 ⊢
  rw [← hR2] at BM3 ⊢
  clear hR1 hR2
  generalize w2.alloc (.cells #[.int .i64 cc, .int .i64 m.kind, .int .i64 m.view, .int .i64 m.from_, .int .i64 m.slot, .int .i64 m.value, (.slice am m.certs.length cm), (.slice bm m.refs.length dm)] 42) = w3 at *
  have HS : Hid (∀ W', Ext w3 W' → W'.cell? ⟨R1, 0, none⟩ = some (.int .i64 rp.id) ∧ W'.cell? ⟨R1, 1, none⟩ = some (.int .i64 rp.view) ∧ W'.cell? ⟨R1, 2, none⟩ = some (.int .i64 rp.start) ∧ W'.cell? ⟨R1, 3, none⟩ = some (.int .i64 rp.done) ∧ W'.cell? ⟨R2, 0, none⟩ = some (.int .i64 cc)) := fun W' he => by
   obtain ⟨-, q0, q1, q2, q3⟩ := QA3.out.ext he
   obtain ⟨-, s0, -⟩ := BM3.out.ext he
   exact ⟨q0, q1, q2, q3, s0⟩
  refine wp_region_held_drew (S := (fun W' : World => W'.cell? ⟨R1, 0, none⟩ = some (.int .i64 rp.id) ∧ W'.cell? ⟨R1, 1, none⟩ = some (.int .i64 rp.view) ∧ W'.cell? ⟨R1, 2, none⟩ = some (.int .i64 rp.start) ∧ W'.cell? ⟨R1, 3, none⟩ = some (.int .i64 rp.done) ∧ W'.cell? ⟨R2, 0, none⟩ = some (.int .i64 cc))) (by kernel_rfl) (HS.out _ ((Ext.refl _).drew)) (fun hHeld => ?_)
  refine tk 0 ⟨some 34, .move (.tmp 3), 2, oz166, #[], none⟩ ?_
  refine tk 1 ⟨some 35, .move (.tmp 4), 27, oz166, #[], none⟩ ?_
  refine tk 2 ⟨some 36, .load 29 (.tmp 5), 29, oz166, #[], none⟩ ?_
  refine tk 3 ⟨some 37, .move (.tmp 6), 2, oz166, #[], none⟩ ?_
  refine tk 6 ⟨some 40, .fieldAddr 42 (.tmp 7) 0, 0, oz166, #[], none⟩ ?_
  refine tk 7 ⟨some 41, .load 2 (.tmp 40), 2, oz166, #[⟨6, .data⟩], none⟩ ?_
  refine wpAnyH_ready (rs := [4]) (by kernel_rfl) (by simp) (AllReadyH.cons rfl (fun K hK => ?_) AllReadyH.nil)
  go_simp
  refine (HSp.out _ (MS.out.ext ((Ext.refl _).drew))).mono ?_
  rintro e y1 ⟨x8, y8, rfl, -, hb⟩
  have X1 : Hid (Ext w3 y1) := ((Ext.refl _).drew).trans hb
  unfold mres
  clear hb
  refine hK.out _ _ (by exact HS.out _ X1.out) (fun hHeldX1 => ?_)
  clear hK K
  refine tk 5 ⟨some 39, .field 42 (.tmp 38) 0, 2, oz166, #[⟨4, .data⟩], none⟩ ?_
  refine tk 8 ⟨some 42, .binOp .eql 2 (.tmp 39) (.tmp 41) 2, 4, oz166, #[⟨5, .data⟩, ⟨7, .data⟩], none⟩ ?_
  refine tk 9 ⟨some 2, .assign (.tmp 42), 4, oz166, #[⟨8, .data⟩, ⟨4, .chain⟩, ⟨0, .phase⟩, ⟨1, .phase⟩, ⟨2, .phase⟩, ⟨3, .phase⟩, ⟨4, .phase⟩, ⟨5, .phase⟩, ⟨6, .phase⟩, ⟨7, .phase⟩, ⟨8, .phase⟩], none⟩ ?_
  refine wpAnyH_done (by kernel_rfl) ?_ _
  go_wp2
  go_ret
  exact ⟨rfl, X3.out.trans X1.out⟩
theorem lawTurns_all (v : Value) (w : World) (h : ∃ ad len cap, v = .slice ad len cap ∧ (len ≤ 1048576 → CodeOk w w.heap.size v)) :
  Calls Tryz.prog 10 #[v] w fun e w' => e = .returned (.bool true) ∧ Ext w w' := by
 obtain ⟨ad, len, cap, rfl, hc⟩ := h
 by_cases hl : 1048576 < len
 ·exact lawTurns_big ad len cap w hl
 ·exact lawTurns _ w (hc (by omega))
end Go.Proofs.YtecgjdgfjgcmdaaGreat
