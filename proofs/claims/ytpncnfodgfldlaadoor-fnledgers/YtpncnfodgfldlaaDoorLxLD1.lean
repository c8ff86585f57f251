/- the specification's DrawPutMsg. -/
import Derived.Test.YtpncnfodgfldlaaDoorLxLD0
import Derived.Test.YtpncnfodgfldlaaDoorLxTk
namespace Go.Proofs.YtpncnfodgfldlaaDoor
open Go.RowKit
/-- What DrawPutMsg leaves. -/
def Dr.Puts (w : World) (e : Ending) (w' : World) : Prop := ∃ (f : Int) (ov : Value) (ms : List Ms) (m : Ms) (v u : Value), e = .returned (.tuple #[.int .i64 f, ov, magg m v u]) ∧ MSlice w' ov ms ∧ ms.length ≤ 241 ∧ MLs w' v u m ∧ Ext w w'
theorem Dr.drew_block (W : World) (c : Nat) : W.drew.heap[c]? = W.heap[c]? := rfl
theorem Dr.put7_block {W : World} {R c : Nat} {m : Ms} {v u : Value} (h : c ≠ R) : (Dr.put7 W R m v u).heap[c]? = W.heap[c]? := by
  unfold Dr.put7
  rw [Dr.heap_set _ h, Dr.heap_set _ h, Dr.heap_set _ h, Dr.heap_set _ h, Dr.heap_set _ h, Dr.heap_set _ h, Dr.heap_set _ h]
theorem Dr.box_tickP {w w' : World} {b a R : Nat} {cv : Value} {m : Ms} {v u : Value} (h : MBoxAt w R m v u) (ht : Dr.Tick b a cv w w') (hne : R ≠ b) : MBoxAt w' R m v u := h.upd ht.upd hne
theorem Dr.put7_extP {w W : World} {m : Ms} {v u : Value} (h : Ext w W) : Ext w (Dr.put7 W w.heap.size m v u) := by
  unfold Dr.put7
  iterate 7 (refine Ext.setCell ?_ (Nat.le_refl _) _)
  exact h

theorem Dr.kb_setQ {base : Nat} {W W' : World} {R : Nat} (h : Dr.Kb base W W') (hR : R < base) (o : Nat) (x : Value) : Dr.Kb base W (W'.setCell ⟨R, o, none⟩ x) :=
  h.trans ⟨by simp, fun g hb _ => Below.heap_setCell _ _ _ _ (by show g ≠ R; omega)⟩
theorem Dr.kb_put7P {base : Nat} {W : World} {R : Nat} {m : Ms} {v u : Value} (hR : R < base) : Dr.Kb base W (Dr.put7 W R m v u) := by
  unfold Dr.put7
  iterate 7 (refine Dr.kb_setQ ?_ hR _ _)
  exact Dr.Kb.refl _ _
theorem Dr.mls_kbP {base : Nat} {w w' : World} {v u : Value} {m : Ms} (h1 : w.ownsRow base 76 3 v m.certs.length (cellsCt m.certs)) (h2 : w.ownsRow base 2 1 u m.refs.length (m.refs.map (Value.int .i64))) (hk : Dr.Kb base w w') : MLs w' v u m := by
  obtain ⟨g, -, hC⟩ := ctown_of_owns (hk.own h1)
  obtain ⟨g2, -, -, hI⟩ := Led.iown_of_owns (hk.own h2)
  exact ⟨hC.slice, hI.slice⟩

set_option maxHeartbeats 4000000 in
set_option maxRecDepth 100000 in
theorem drawPutMsg_any (cv : Value) (w : World) (hc : CodeOk w w.heap.size cv) :
    Calls Tryd.prog 5 #[cv] w (Dr.Puts w) := by
  have hcz : CodeOk (w.alloc (.cells #[.int .i64 0, .int .i64 0, .int .i64 0, .int .i64 0, .int .i64 0, .slice none 0 0, .slice none 0 0] 28)) (w.alloc (.cells #[.int .i64 0, .int .i64 0, .int .i64 0, .int .i64 0, .int .i64 0, .slice none 0 0, .slice none 0 0] 28)).heap.size cv := hc.rise ((Below.refl _ _).alloc (Nat.le_refl _) _) (by simp)
  have HS : Hid (SrcAt ((w.alloc (.cells #[.int .i64 0, .int .i64 0, .int .i64 0, .int .i64 0, .int .i64 0, .slice none 0 0, .slice none 0 0] 28)).alloc (.cells #[cv, .int .i64 0] 71)) (w.alloc (.cells #[.int .i64 0, .int .i64 0, .int .i64 0, .int .i64 0, .int .i64 0, .slice none 0 0, .slice none 0 0] 28)).heap.size 0 cv) := src_new hcz
  have hbz : (w.alloc (.cells #[.int .i64 0, .int .i64 0, .int .i64 0, .int .i64 0, .int .i64 0, .slice none 0 0, .slice none 0 0] 28)).heap.size = w.heap.size + 1 := by simp
  have HR0 : Hid (MBoxAt ((w.alloc (.cells #[.int .i64 0, .int .i64 0, .int .i64 0, .int .i64 0, .int .i64 0, .slice none 0 0, .slice none 0 0] 28)).alloc (.cells #[cv, .int .i64 0] 71)) w.heap.size ⟨0, 0, 0, 0, 0, [], []⟩ (.slice none 0 0) (.slice none 0 0)) := (mbox_new w ⟨0, 0, 0, 0, 0, [], []⟩ (.slice none 0 0) (.slice none 0 0) _).ext ((Ext.refl _).alloc _)
  have DF : Hid (∀ (a : Nat) (wx : World), SrcAt wx (w.heap.size + 1) a cv → a ≤ 900 → Calls Tryd.prog 15 #[.pointer (some ⟨w.heap.size + 1, 0, none⟩)] wx fun e w' => ∃ x : Int, e = .returned (.int .i64 x) ∧ Dr.Tick (w.heap.size + 1) (a + 1) cv wx w') := fun a wx h1 h2 => l8DrawF_any (w.heap.size + 1) a cv wx h1 h2
  have WO : Hid (∀ (a : Nat) (wx : World), SrcAt wx (w.heap.size + 1) a cv → a ≤ 300 → Calls Tryd.prog 16 #[.pointer (some ⟨w.heap.size + 1, 0, none⟩)] wx (Dr.Ledger 450 wx (w.heap.size + 1) a cv)) := fun a wx h1 h2 => l8Wrong_any (w.heap.size + 1) a cv wx h1 h2
  have CH : Hid (∀ (a' : Nat) (k : Int) (wx : World), SrcAt wx (w.heap.size + 1) a' cv → 1 ≤ k → k ≤ 200 → a' ≤ 1000 → Calls Tryd.prog 17 #[.pointer (some ⟨w.heap.size + 1, 0, none⟩), .int .i64 k] wx fun e w' => ∃ r : Bool, e = .returned (.bool r) ∧ Dr.Tick (w.heap.size + 1) (a' + 1) cv wx w') := fun a' k wx h1 h2 h3 h4 => Dr.chance (w.heap.size + 1) a' cv k wx h1 h2 h3 h4
  have BT : Hid (∀ (a' : Nat) (wx : World), SrcAt wx (w.heap.size + 1) a' cv → a' ≤ 900 → Calls Tryd.prog 18 #[.pointer (some ⟨w.heap.size + 1, 0, none⟩)] wx fun e w' => ∃ m v u, e = .returned (magg m v u) ∧ Dr.Got (wx.heap.size + 1) wx (w.heap.size + 1) (a' + 30) cv m v u w') := fun a' wx h1 h2 => l8Bent_any (w.heap.size + 1) a' cv wx h1 h2
  obtain ⟨ad, len, cap, hcv, -⟩ := hc
  have HC := source_any cv (w.alloc (.cells #[.int .i64 0, .int .i64 0, .int .i64 0, .int .i64 0, .int .i64 0, .slice none 0 0, .slice none 0 0] 28)) ad len cap hcv
  rw [hbz] at HS HC
  clear hcv hcz hbz
  go_enter Tryd.func5, Tryd.ntmps5
  go_wp2_with fail
  refine HC.mono ?_
  rintro e w1 ⟨rfl, hw⟩
  have HS1 : Hid (SrcAt w1 (w.heap.size + 1) 0 cv) := by rw [hw]; exact HS.out
  have HR1 : Hid (MBoxAt w1 w.heap.size ⟨0, 0, 0, 0, 0, [], []⟩ (.slice none 0 0) (.slice none 0 0)) := by rw [hw]; exact HR0.out
  have HE1 : Hid (Ext w w1) := by rw [hw]; exact ((Ext.refl _).alloc _).alloc _
  have hsz1 : w1.heap.size = w.heap.size + 2 := by rw [hw]; simp
  clear HC HS HR0 hw
  go_wp2_with fail
  refine (DF.out 0 _ HS1.out (by omega)).mono ?_
  rintro e wf ⟨f, rfl, ht⟩
  have HTf : Hid (Dr.Tick (w.heap.size + 1) (0 + 1) cv w1 wf) := ht
  have HRf : Hid (MBoxAt wf w.heap.size ⟨0, 0, 0, 0, 0, [], []⟩ (.slice none 0 0) (.slice none 0 0)) := Dr.box_tickP HR1.out ht (by omega)
  have HEf : Hid (Ext w wf) := Below.trans HE1.out (Below.mono ht.2.1 (by omega))
  have hszf : w.heap.size + 2 ≤ wf.heap.size := by have := ht.2.2.1; omega
  clear ht HS1 HR1 HE1
  go_wp2_with fail
  refine (WO.out (0 + 1) _ HTf.out.1 (by omega)).mono ?_
  rintro e w2 ⟨ov, ms, a2, rfl, hM, ⟨hml, -⟩, ha2, ht⟩
  obtain ⟨ad9, cp9, rfl, -, hcm9, -⟩ := hM _ (Dr.Kb.refl _ _)
  have HM : Hid (∀ W', Dr.Kb (w.heap.size + 2) w2 W' → MSlice W' (.slice ad9 ms.length cp9) ms) := fun W' hk => hM W' (hk.mono hszf)
  have HT2 : Hid (Dr.Tick (w.heap.size + 1) a2 cv wf w2) := ht
  have HR2 : Hid (MBoxAt w2 w.heap.size ⟨0, 0, 0, 0, 0, [], []⟩ (.slice none 0 0) (.slice none 0 0)) := Dr.box_tickP HRf.out ht (by omega)
  have HE2 : Hid (Ext w w2) := Below.trans HEf.out (Below.mono ht.2.1 (by omega))
  have hsz2 : w.heap.size + 2 ≤ w2.heap.size := by have := ht.2.2.1; omega
  unfold maxLen at hcm9
  clear ht hM HTf HRf HEf WO
  by_cases hl0 : 0 < ms.length
  · have hl0I : (0 : Int) < (ms.length : Int) := by omega
    go_wp2_with fail
    refine (CH.out a2 5 _ HT2.out.1 (by omega) (by omega) (by omega)).mono ?_
    rintro e w3 ⟨ch, rfl, ht⟩
    have HT3 : Hid (Dr.Tick (w.heap.size + 1) (a2 + 1) cv w2 w3) := ht
    have HR3 : Hid (MBoxAt w3 w.heap.size ⟨0, 0, 0, 0, 0, [], []⟩ (.slice none 0 0) (.slice none 0 0)) := Dr.box_tickP HR2.out ht (by omega)
    have HE3 : Hid (Ext w w3) := Below.trans HE2.out (Below.mono ht.2.1 (by omega))
    have hsz3 : w.heap.size + 2 ≤ w3.heap.size := by have := ht.2.2.1; omega
    have HM3 : Hid (∀ W', Dr.Kb (w.heap.size + 2) w3 W' → MSlice W' (.slice ad9 ms.length cp9) ms) := fun W' hk => HM.out W' ((Dr.Kb.of_kp ht.2.2 (by omega)).trans hk)
    clear ht HM HR2 HE2
    cases ch with
    | true =>
      have hdr : Ext w3 w3.drew := (Ext.refl _).drew
      obtain ⟨z, hz⟩ : ∃ z, ms[0]? = some z := ⟨_, List.getElem?_eq_getElem hl0⟩
      obtain ⟨b1, off1, cap1, x1, y1, e1, h1, h2, h3, hb1, hbR, hcs, hls, hkeep⟩ := Dr.mls_first HM3.out hz (R := w.heap.size) (by omega) (by omega)
      injection e1 with e1 e4 e5
      subst e1 e5
      obtain ⟨xa, xc, ya, yc, rfl, rfl, -, -, -, -⟩ := hls.form
      have HMS9 : Hid (MSlice (Dr.put7 w3 w.heap.size z (.slice xa z.certs.length xc) (.slice ya z.refs.length yc)).drew (.slice (some ⟨b1, off1, none⟩) ms.length cp9) ms) := HM3.out _ ((Dr.kb_put7P (by omega)).trans (Dr.Kb.of_ext (Ext.refl _).drew))
      have HML9 : Hid (MLs (Dr.put7 w3 w.heap.size z (.slice xa z.certs.length xc) (.slice ya z.refs.length yc)).drew (.slice xa z.certs.length xc) (.slice ya z.refs.length yc) z) := hkeep _ (by unfold Dr.put7; simp) (fun c _ hne => (Dr.drew_block _ _).trans (Dr.put7_block hne))
      have HE9 : Hid (Ext w (Dr.put7 w3 w.heap.size z (.slice xa z.certs.length xc) (.slice ya z.refs.length yc)).drew) := (Dr.put7_extP HE3.out).drew
      have HSa : Hid (MCs w3.drew b1 off1 z (.slice xa z.certs.length xc) (.slice ya z.refs.length yc)) := hcs.ext hb1 hdr
      have HSb : Hid (MCs (Dr.put7 w3 w.heap.size z (.slice xa z.certs.length xc) (.slice ya z.refs.length yc)).drew b1 off1 z (.slice xa z.certs.length xc) (.slice ya z.refs.length yc)) := by
        have hc := fun q => World.cell?_of_block (w := w3) (w' := (Dr.put7 w3 w.heap.size z (.slice xa z.certs.length xc) (.slice ya z.refs.length yc)).drew) (a := ⟨b1, q, none⟩) ((Dr.drew_block _ _).trans (Dr.put7_block hbR))
        obtain ⟨c0, c1, c2, c3, c4, c5, c6⟩ := hcs
        exact ⟨(hc _).trans c0, (hc _).trans c1, (hc _).trans c2, (hc _).trans c3, (hc _).trans c4, (hc _).trans c5, (hc _).trans c6⟩
      obtain ⟨rl, ⟨R0, R1, R2, R3, R4, R5, R6⟩, F0, F1, F2, F3, F4, F5, F6⟩ := HR3.out
      clear hkeep hls HM3 e4 hcs hz
      unfold MCs at HSa HSb
      unfold Dr.put7 at HMS9 HML9 HE9 HSb
      go_wp2
      refine wp_region_held_drew (S := (fun W' : World => W'.cell? ⟨b1, off1, none⟩ = some (.int .i64 z.kind) ∧ W'.cell? ⟨b1, off1 + 1, none⟩ = some (.int .i64 z.view) ∧ W'.cell? ⟨b1, off1 + 2, none⟩ = some (.int .i64 z.from_) ∧ W'.cell? ⟨b1, off1 + 3, none⟩ = some (.int .i64 z.slot) ∧ W'.cell? ⟨b1, off1 + 4, none⟩ = some (.int .i64 z.value) ∧ W'.cell? ⟨b1, off1 + 5, none⟩ = some (.slice xa z.certs.length xc) ∧ W'.cell? ⟨b1, off1 + 6, none⟩ = some (.slice ya z.refs.length yc))) (by kernel_rfl) (by exact HSa.out) (fun hHeld => ?_)
      refine tk 0 { dst := some 21, op := Op.move (.tmp 6), type := 2, pos := "l08_msg.go:290", after := #[], guard := none } ?_
      refine tk 1 { dst := some 22, op := Op.move (.tmp 7), type := 24, pos := "l08_msg.go:290", after := #[{ on := 5, ground := Ground.gcOnly Departure.lateStores }], guard := none } ?_
      refine tk 2 { dst := some 23, op := Op.move (.tmp 7), type := 24, pos := "l08_msg.go:290", after := #[{ on := 6, ground := Ground.gcOnly Departure.lateStores }], guard := none } ?_
      refine tk 3 { dst := some 24, op := Op.indexAddr 24 (.tmp 23) (Operand.const (Value.int IntKind.i64 0)), type := 0, pos := "l08_msg.go:290", after := #[⟨2, .data⟩, { on := 6, ground := Ground.gcOnly Departure.lateStores }], guard := none } ?_
      refine tk 4 { dst := some 25, op := Op.load 28 (.tmp 24), type := 28, pos := "l08_msg.go:290", after := #[⟨3, .data⟩, { on := 6, ground := Ground.gcOnly Departure.lateStores }], guard := none } ?_
      refine tk 5 { dst := some 2, op := Op.assign (.tmp 21), type := 2, pos := "l08_msg.go:290", after := #[⟨0, .data⟩, ⟨0, .phase⟩, { on := 1, ground := Ground.textOnly Departure.lateStores }, { on := 2, ground := Ground.textOnly Departure.lateStores }, { on := 3, ground := Ground.textOnly Departure.lateStores }, { on := 4, ground := Ground.textOnly Departure.lateStores }], guard := none } ?_
      refine tk 6 { dst := some 3, op := Op.assign (.tmp 22), type := 24, pos := "l08_msg.go:290", after := #[⟨1, .data⟩, ⟨5, .chain⟩, ⟨0, .phase⟩, ⟨1, .phase⟩, { on := 2, ground := Ground.textOnly Departure.lateStores }, { on := 3, ground := Ground.textOnly Departure.lateStores }, { on := 4, ground := Ground.textOnly Departure.lateStores }, ⟨5, .phase⟩], guard := none } ?_
      refine wpAnyH_ready (rs := [7]) (by kernel_rfl) (by simp) (AllReadyH.cons rfl (fun K hK => ?_) AllReadyH.nil)
      go_simp
      refine hK.out _ _ (by exact HSb.out) (fun hHeld7 => ?_)
      clear hK K
      refine wpAnyH_done (by kernel_rfl) ?_ _
      (try go_wp2)
      exact bodyPost_ret (v := .tuple #[.int .i64 f, .slice (some ⟨b1, off1, none⟩) ms.length cp9, magg z (.slice xa z.certs.length xc) (.slice ya z.refs.length yc)]) (by simp [results, Tryd.results5, go_sem, magg, *]) rfl ⟨f, _, ms, z, (.slice xa z.certs.length xc), (.slice ya z.refs.length yc), rfl, HMS9.out, hml, HML9.out, HE9.out⟩
    | false =>
      go_wp2_with fail
      refine (BT.out (a2 + 1) _ HT3.out.1 (by omega)).mono ?_
      rintro e w5 ⟨m, v, u, rfl, hG⟩
      obtain ⟨a5, ha5, htk⟩ := hG.2.2.2.2
      have HR9 : Hid (MBoxAt w5 w.heap.size ⟨0, 0, 0, 0, 0, [], []⟩ (.slice none 0 0) (.slice none 0 0)) := Dr.box_tickP HR3.out htk (by omega)
      have HEx9 : Hid (Ext w w5) := Below.trans HE3.out (Below.mono htk.2.1 (by omega))
      obtain ⟨av, cpv, rfl⟩ := Led.owns_form hG.1
      obtain ⟨au, cpu, rfl⟩ := Led.owns_form hG.2.1
      have HML9 : Hid (MLs (Dr.put7 w5 w.heap.size m (.slice av m.certs.length cpv) (.slice au m.refs.length cpu)) (.slice av m.certs.length cpv) (.slice au m.refs.length cpu) m) := Dr.mls_kbP hG.1 hG.2.1 (Dr.kb_put7P (by omega))
      have HMS9 : Hid (MSlice (Dr.put7 w5 w.heap.size m (.slice av m.certs.length cpv) (.slice au m.refs.length cpu)) (.slice ad9 ms.length cp9) ms) := HM3.out _ ((Dr.Kb.of_kp htk.2.2 (by omega)).trans (Dr.kb_put7P (by omega)))
      have HE9 : Hid (Ext w (Dr.put7 w5 w.heap.size m (.slice av m.certs.length cpv) (.slice au m.refs.length cpu))) := Dr.put7_extP HEx9.out
      clear hG htk HM3
      unfold magg
      obtain ⟨rl, ⟨R0, R1, R2, R3, R4, R5, R6⟩, F0, F1, F2, F3, F4, F5, F6⟩ := HR9.out
      go_wp2
      exact bodyPost_ret (v := .tuple #[.int .i64 f, .slice ad9 ms.length cp9, magg m (.slice av m.certs.length cpv) (.slice au m.refs.length cpu)]) (by simp [results, Tryd.results5, go_sem, magg, *]) rfl ⟨f, _, ms, m, (.slice av m.certs.length cpv), (.slice au m.refs.length cpu), rfl, HMS9.out, hml, HML9.out, HE9.out⟩
  · have hl0I : ¬ (0 : Int) < (ms.length : Int) := by omega
    go_wp2_with fail
    refine (BT.out (a2) _ HT2.out.1 (by omega)).mono ?_
    rintro e w5 ⟨m, v, u, rfl, hG⟩
    obtain ⟨a5, ha5, htk⟩ := hG.2.2.2.2
    have HR9 : Hid (MBoxAt w5 w.heap.size ⟨0, 0, 0, 0, 0, [], []⟩ (.slice none 0 0) (.slice none 0 0)) := Dr.box_tickP HR2.out htk (by omega)
    have HEx9 : Hid (Ext w w5) := Below.trans HE2.out (Below.mono htk.2.1 (by omega))
    obtain ⟨av, cpv, rfl⟩ := Led.owns_form hG.1
    obtain ⟨au, cpu, rfl⟩ := Led.owns_form hG.2.1
    have HML9 : Hid (MLs (Dr.put7 w5 w.heap.size m (.slice av m.certs.length cpv) (.slice au m.refs.length cpu)) (.slice av m.certs.length cpv) (.slice au m.refs.length cpu) m) := Dr.mls_kbP hG.1 hG.2.1 (Dr.kb_put7P (by omega))
    have HMS9 : Hid (MSlice (Dr.put7 w5 w.heap.size m (.slice av m.certs.length cpv) (.slice au m.refs.length cpu)) (.slice ad9 ms.length cp9) ms) := HM.out _ ((Dr.Kb.of_kp htk.2.2 (by omega)).trans (Dr.kb_put7P (by omega)))
    have HE9 : Hid (Ext w (Dr.put7 w5 w.heap.size m (.slice av m.certs.length cpv) (.slice au m.refs.length cpu))) := Dr.put7_extP HEx9.out
    clear hG htk HM
    unfold magg
    obtain ⟨rl, ⟨R0, R1, R2, R3, R4, R5, R6⟩, F0, F1, F2, F3, F4, F5, F6⟩ := HR9.out
    go_wp2
    exact bodyPost_ret (v := .tuple #[.int .i64 f, .slice ad9 ms.length cp9, magg m (.slice av m.certs.length cpv) (.slice au m.refs.length cpu)]) (by simp [results, Tryd.results5, go_sem, magg, *]) rfl ⟨f, _, ms, m, (.slice av m.certs.length cpv), (.slice au m.refs.length cpu), rfl, HMS9.out, hml, HML9.out, HE9.out⟩
end Go.Proofs.YtpncnfodgfldlaaDoor
