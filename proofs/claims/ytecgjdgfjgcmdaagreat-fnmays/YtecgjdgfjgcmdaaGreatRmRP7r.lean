/- both MayPrepares. -/
import Derived.Test.YtecgjdgfjgcmdaaGreatRmRP5r
import Derived.Test.YtecgjdgfjgcmdaaGreatRmRP6a
import Derived.Test.YtecgjdgfjgcmdaaGreatRmGF
import Derived.Test.YtecgjdgfjgcmdaaGreatRmTk
namespace Go.Proofs.YtecgjdgfjgcmdaaGreat
open Go.RowKit
set_option linter.unusedSimpArgs false in
set_option maxHeartbeats 8000000 in
set_option maxRecDepth 100000 in
theorem mayPrepare1_any (f : Int) (v : Value) (ms : List Ms) (r : Rp) (u : Value) (L : List Int) (place : Int) (b0 : Nat) (w : World) (hS : MSlice w v ms) (hI : ISlice w u L) (hrep : Msg.repC f ms r = 0) (hc0 : w.cell? ⟨b0, 0, none⟩ = some (.int .i64 place)) :
  Calls Tryz.prog 52 #[sagg r f v (Msg.inV r) u, .pointer (some ⟨b0, 0, none⟩)] w (Said KT (Msg.prepC f ms r place) ⟨2, r.view, r.id, Msg.slotAt ms place, Msg.valAt ms place, [], []⟩ w) := by
 have HC : Hid (∀ wx, Ext w wx → Calls Tryz.prog 53 #[sagg r f v (Msg.inV r) u, .int .i64 place] wx (Said KT (Msg.prepC f ms r place) ⟨2, r.view, r.id, Msg.slotAt ms place, Msg.valAt ms place, [], []⟩ wx)) := fun wx he => prepare_any f v ms r u L place wx (hS.ext he) (hI.ext he) hrep
 clear hrep
 have lt0 := World.block_lt_of_cell? w ⟨b0, 0, none⟩ (by rw [hc0])
 obtain ⟨a, cap, rfl, -, -, -⟩ := hS
 obtain ⟨au, cu, rfl, -, -, -⟩ := hI
 unfold sagg at *
 generalize Msg.prepC f ms r place = cc at *
 generalize Msg.inV r = bg at *
 go_enter Tryz.func52, Tryz.ntmps52
 have hal := alloc_cell
 go_wp2_with fail
 refine (HC.out _ (((Ext.refl _).alloc _).alloc _)).mono ?_
 rintro e w1 ⟨hb, hh⟩
 have hZ0 := (zbox_new (w.alloc (.cells #[.int .i64 r.id, .int .i64 r.view, .int .i64 r.start, .int .i64 r.done, .int .i64 f, .slice a ms.length cap, .bool bg, .slice au L.length cu] 76)) [.int .i64 0, .int .i64 0, .int .i64 0, .int .i64 0, .int .i64 0, .slice none 0 0, .slice none 0 0] 40).ext hb
 have HZ : Hid (ZBox w1 (w.heap.size + 1) [.int .i64 0, .int .i64 0, .int .i64 0, .int .i64 0, .int .i64 0, .slice none 0 0, .slice none 0 0]) := by (try simp only [World.size_alloc] at hZ0); exact hZ0
 have HE : Hid (Ext w w1) := (((Ext.refl _).alloc _).alloc _).trans hb
 clear hb hZ0 hal
 rcases hh with ⟨hn, rfl⟩ | ⟨hn, az, nz, cz, ax, nx, cx, rfl, -⟩
 ·have HN : Hid (¬ cc = 0) := hn
  clear hn
  unfold refused
  go_wp2
  exact ⟨rfl, HE.out, Or.inl ⟨HN.out, rfl⟩⟩
 ·have HN : Hid (cc = 0) := hn
  clear hn
  unfold magg
  obtain ⟨z0, n0⟩ := HZ.out.2 0 _ rfl
  obtain ⟨z1, n1⟩ := HZ.out.2 1 _ rfl
  obtain ⟨z2, n2⟩ := HZ.out.2 2 _ rfl
  obtain ⟨z3, n3⟩ := HZ.out.2 3 _ rfl
  obtain ⟨z4, n4⟩ := HZ.out.2 4 _ rfl
  obtain ⟨z5, n5⟩ := HZ.out.2 5 _ rfl
  obtain ⟨z6, n6⟩ := HZ.out.2 6 _ rfl
  go_wp2
  refine bodyPost_ret (v := magg ⟨2, r.view, r.id, Msg.slotAt ms place, Msg.valAt ms place, [], []⟩ (.slice az nz cz) (.slice ax nx cx)) (by simp [results, Tryz.results52, go_sem, magg, z0, z1, z2, z3, z4, z5, z6]) rfl ?_
  exact ⟨HE.out.seven _ (by omega) _ _ _ _ _ _ _, Or.inr ⟨HN.out, _, _, _, _, _, _, rfl, trivial⟩⟩

set_option linter.unusedSimpArgs false in
set_option maxHeartbeats 8000000 in
set_option maxRecDepth 100000 in
theorem implMayPrepare_any (f : Int) (v : Value) (ms : List Ms) (r : Rp) (place : Int) (w : World) (hS : MSlice w v ms) :
  Calls Tryz.prog 20 #[.int .i64 f, v, ragg r, .int .i64 place] w fun e w' => e = .returned (.int .i64 (Msg.askC f ms r (Msg.prepC f ms r place))) ∧ Ext w w' := by
 have HH : Hid (∀ (b0 : Nat) wx, Ext w wx → wx.cell? ⟨b0, 0, none⟩ = some (.int .i64 place) → Calls Tryz.prog 45 #[.int .i64 f, v, ragg r, .func (.func 52) #[] #[.pointer (some ⟨b0, 0, none⟩)]] wx fun e w' => ∃ m x y, e = .returned (mres (Msg.askC f ms r (Msg.prepC f ms r place)) m x y) ∧ Ext wx w') := fun b0 wx he q0 => by
  refine (hear_any f v ms r 52 #[.pointer (some ⟨b0, 0, none⟩)] (Msg.prepC f ms r place) ⟨2, r.view, r.id, Msg.slotAt ms place, Msg.valAt ms place, [], []⟩ KT wx (hS.ext he) KT_kept (fun _ _ => by kernel_rfl) (fun h u wy hy hI => mayPrepare1_any f v ms r u _ place b0 wy ((hS.ext he).ext hy) hI h (by obtain ⟨hc, _⟩ := Ext.cell hy; exact (hc _ _ (World.block_lt_of_cell? wx ⟨b0, 0, none⟩ (by rw [q0]))).trans q0))).mono ?_
  intro e w' h
  obtain ⟨d, m', x, y, h1, h2, h3⟩ := heardInt h
  exact ⟨m', x, y, by rw [h1, h2], h3⟩
 have hmf : ∀ (fn : Fn) (first cap : Array Value) (w : World), (Instr.makeFunc fn first cap).run Tryz.prog w = .ok (.func fn first cap) w := fun _ _ _ _ => rfl
 have hf0 : ∀ (c0 c1 c2 c3 c4 c5 c6 c7 : Value) (W : World), (Instr.field 42 (.agg #[c0, c1, c2, c3, c4, c5, c6, c7]) 0).run Tryz.prog W = .ok c0 W := fun _ _ _ _ _ _ _ _ _ => by kernel_rfl
 obtain ⟨a, cap, rfl, -, -, -⟩ := hS
 unfold ragg at *
 generalize Msg.askC f ms r (Msg.prepC f ms r place) = cc at *
 go_enter Tryz.func20, Tryz.ntmps20
 go_wp2_with fail
 refine (HH.out (w.heap.size + 1) _ (((Ext.refl _).alloc _).alloc _) ?_).mono ?_
 ·exact (box1 _ _ _ _ (by simp))
 rintro e w1 ⟨m, x, y, rfl, hb⟩
 have HE : Hid (Ext w w1) := (((Ext.refl _).alloc _).alloc _).trans hb
 clear hb
 unfold mres
 go_wp2
 go_ret
 exact ⟨rfl, HE.out⟩

set_option linter.unusedSimpArgs false in
set_option maxHeartbeats 8000000 in
set_option maxRecDepth 100000 in
theorem l11Prepare_any (f : Int) (v : Value) (ms : List Ms) (r : Rp) (b : Nat) (place : Int) (w : World) (hS : MSlice w v ms) (hR : RpAt w b r) (hrep : Msg.repC f ms r = 0) :
  Calls Tryz.prog 51 #[.int .i64 f, v, .pointer (some ⟨b, 0, none⟩), .int .i64 place] w fun e w' => e = .returned (.int .i64 (Msg.prepC f ms r place)) ∧ Ext w w' := by
 have hled := Msg.repC_led hrep
 have HB0 : Hid (RpAt w b r) := hR
 have HP0 : Hid (∀ bb, Msg.proposeAt f ms place r.start = bb → ∀ wx, Ext w wx → Calls Tryz.prog 116 #[.int .i64 f, v, .int .i64 place, .int .i64 r.start] wx fun e w' => e = .returned (.bool bb) ∧ Ext wx w') := fun bb h wx he => by have q := l10Propose_any f v ms place r.start wx (hS.ext he) hled; rw [h] at q; exact q
 have HT0 : Hid (∀ s bb, ¬ s = 0 → Msg.slotB (Msg.saidL ms r 2) s = bb → ∀ wx, Ext w wx → Calls Tryz.prog 103 #[v, .pointer (some ⟨b, 0, none⟩), .int .i64 2, .int .i64 s, .int .i64 (-1)] wx fun e w' => e = .returned (.bool bb) ∧ Ext wx w') := fun s bb hs h wx he => by
  have q := l11SentS_any v ms r b 2 s wx (hS.ext he) (hR.ext he) hs
  rw [Msg.sent_slot hs, h] at q; exact q
 obtain ⟨hbl, x0, x1, x2, x3⟩ := hR
 obtain ⟨a, cap, rfl, hlc, hcm, hx9⟩ := hS
 unfold maxLen at hcm
 clear hrep
 cases hp : Msg.proposeAt f ms place r.start with
 | false =>
  have HR : Hid (Msg.prepC f ms r place = 1) := Msg.prepC_bad (by rw [hp]; rfl)
  have HP : Hid _ := HP0.out false hp
  clear hp HP0 HT0 hx9 hled
  have HS : Hid (∀ W', Ext w W' → W'.cell? ⟨b, 1, none⟩ = some (.int .i64 r.view) ∧ W'.cell? ⟨b, 2, none⟩ = some (.int .i64 r.start)) := fun W' he => ⟨(HB0.out.ext he).2.2.1, (HB0.out.ext he).2.2.2.1⟩
  go_enter Tryz.func51, Tryz.ntmps51
  go_wp2
  clear x0 x1 x2 x3
  refine wp_region_held_drew (S := (fun W' : World => W'.cell? ⟨b, 1, none⟩ = some (.int .i64 r.view) ∧ W'.cell? ⟨b, 2, none⟩ = some (.int .i64 r.start))) (by kernel_rfl) (HS.out _ ((Ext.refl _).drew)) (fun hHeld => ?_)
  refine tk 0 ⟨some 9, .move (.tmp 0), 2, oz290, #[], none⟩ ?_
  refine tk 1 ⟨some 10, .move (.tmp 1), 27, oz290, #[], none⟩ ?_
  refine tk 2 ⟨some 11, .move (.tmp 3), 2, oz290, #[], none⟩ ?_
  refine tk 3 ⟨some 12, .move (.tmp 2), 72, oz290, #[], none⟩ ?_
  refine tk 4 ⟨some 13, .nilCheck (.tmp 12), 0, oz290, #[⟨3, .data⟩], none⟩ ?_
  refine tk 5 ⟨some 14, .fieldAddr 29 (.tmp 13) 2, 0, oz290, #[⟨4, .data⟩], none⟩ ?_
  refine tk 6 ⟨some 15, .load 2 (.tmp 14), 2, oz290, #[⟨5, .data⟩], none⟩ ?_
  refine wpAnyH_ready (rs := [7]) (by kernel_rfl) (by simp) (AllReadyH.cons rfl (fun K hK => ?_) AllReadyH.nil)
  go_simp
  refine (HP.out _ ((Ext.refl _).drew)).mono ?_
  rintro e y1 ⟨rfl, hb⟩
  have X1 : Hid (Ext w y1) := ((Ext.refl _).drew).trans hb
  clear hb
  refine hK.out _ _ (by exact HS.out _ X1.out) (fun hHeld1 => ?_)
  clear hK K
  refine tk 8 ⟨some 17, .unOp .not 4 (.tmp 16), 4, oz290, #[⟨7, .data⟩], none⟩ ?_
  refine tk 9 ⟨some 18, .move (.tmp 17), 4, oz290, oy291, none⟩ ?_
  refine tn 10 ⟨some 19, .move (.tmp 1), 27, oz290, #[⟨9, .guard⟩], some (9, false)⟩ ?_
  refine tn 11 ⟨some 20, .move (.tmp 3), 2, oz290, #[⟨9, .guard⟩], some (9, false)⟩ ?_
  refine tn 12 ⟨some 21, .indexAddr 27 (.tmp 19) (.tmp 20), 0, oz290, oy292, some (9, false)⟩ ?_
  refine tn 13 ⟨some 22, .fieldAddr 40 (.tmp 21) 1, 0, oz290, oy15, some (9, false)⟩ ?_
  refine tn 14 ⟨some 23, .load 2 (.tmp 22), 2, oz290, oy16, some (9, false)⟩ ?_
  refine tn 15 ⟨some 24, .move (.tmp 2), 72, oz290, #[⟨9, .guard⟩], some (9, false)⟩ ?_
  refine tn 16 ⟨some 25, .nilCheck (.tmp 24), 0, oz290, oy83, some (9, false)⟩ ?_
  refine tn 17 ⟨some 26, .fieldAddr 29 (.tmp 25) 1, 0, oz290, oy18, some (9, false)⟩ ?_
  refine tn 18 ⟨some 27, .load 2 (.tmp 26), 2, oz290, oy19, some (9, false)⟩ ?_
  refine tn 19 ⟨some 28, .binOp .neq 2 (.tmp 23) (.tmp 27) 2, 4, oz290, oy293, some (9, false)⟩ ?_
  refine tk 20 ⟨some 29, .pick (.tmp 18) (.const (.bool true)) (.tmp 28), 4, oz290, oy294, none⟩ ?_
  refine wpAnyH_done (by kernel_rfl) ?_ _
  go_wp2
  go_ret
  exact ⟨ret_int HR.out.symm, X1.out⟩
 | true =>
  have HP : Hid _ := HP0.out true hp
  cases hn : Msg.nth ms place with
  | none => rw [Msg.proposeAt_none hn] at hp; cases hp
  | some z =>
   have hva : Msg.viewAt ms place = z.view := by unfold Msg.viewAt; rw [hn]
   have hsa : Msg.slotAt ms place = z.slot := by unfold Msg.slotAt; rw [hn]
   have hk1 : z.kind = 1 := by
    rw [Msg.proposeAt_some hn] at hp
    unfold Msg.proposeB at hp
    simp only [Bool.and_eq_true, decide_eq_true_eq] at hp
    exact hp.1.1.1
   obtain ⟨h0, h1, h2⟩ := Msg.nth_some hn
   obtain ⟨k, rfl⟩ : ∃ k : Nat, place = k := ⟨place.toNat, by omega⟩
   have h2 : ms[k]? = some z := h2
   have hkl : k < ms.length := (List.getElem?_eq_some_iff.1 h2).1
   obtain ⟨b1, off, rfl, hb1, hN⟩ := hx9 (by omega)
   have HMz : Hid (b1 < w.heap.size ∧ MAt w b1 (off + k * 7) z) := ⟨hb1, hN k z h2⟩
   have hsl : ¬ z.slot = 0 := by
    have hfa := Msg.ledger_all hled z (List.mem_of_getElem? h2)
    obtain ⟨-, h2⟩ := Msg.faultM_zero hfa
    unfold Msg.boundsN at h2
    rw [decide_eq_true_eq] at h2
    omega
   cases g1 : decide (z.view = r.view) with
   | false =>
    have HR : Hid (Msg.prepC f ms r k = 1) := Msg.prepC_bad (by rw [hva, g1, Bool.and_false])
    have g2 : (z.view != r.view) = true := by have := of_decide_eq_false g1; simpa using this
    clear g1 hva hsa HP0 HT0 hp hn h0 h1 h2 hk1 hsl hN hb1 hx9 hled
    have HS : Hid (∀ W', Ext w W' → W'.cell? ⟨b, 1, none⟩ = some (.int .i64 r.view) ∧ W'.cell? ⟨b, 2, none⟩ = some (.int .i64 r.start) ∧ W'.cell? ⟨b1, off + k * 7 + 1, none⟩ = some (.int .i64 z.view)) := fun W' he => by
     obtain ⟨vz, uz, ⟨-, m1, -, -, -, -, -⟩, -⟩ := HMz.out.2.ext HMz.out.1 he
     exact ⟨(HB0.out.ext he).2.2.1, (HB0.out.ext he).2.2.2.1, m1⟩
    go_enter Tryz.func51, Tryz.ntmps51
    go_wp2
    clear x0 x1 x2 x3
    refine wp_region_held_drew (S := (fun W' : World => W'.cell? ⟨b, 1, none⟩ = some (.int .i64 r.view) ∧ W'.cell? ⟨b, 2, none⟩ = some (.int .i64 r.start) ∧ W'.cell? ⟨b1, off + k * 7 + 1, none⟩ = some (.int .i64 z.view))) (by kernel_rfl) (HS.out _ ((Ext.refl _).drew)) (fun hHeld => ?_)
    refine tk 0 ⟨some 9, .move (.tmp 0), 2, oz290, #[], none⟩ ?_
    refine tk 1 ⟨some 10, .move (.tmp 1), 27, oz290, #[], none⟩ ?_
    refine tk 2 ⟨some 11, .move (.tmp 3), 2, oz290, #[], none⟩ ?_
    refine tk 3 ⟨some 12, .move (.tmp 2), 72, oz290, #[], none⟩ ?_
    refine tk 4 ⟨some 13, .nilCheck (.tmp 12), 0, oz290, #[⟨3, .data⟩], none⟩ ?_
    refine tk 5 ⟨some 14, .fieldAddr 29 (.tmp 13) 2, 0, oz290, #[⟨4, .data⟩], none⟩ ?_
    refine tk 6 ⟨some 15, .load 2 (.tmp 14), 2, oz290, #[⟨5, .data⟩], none⟩ ?_
    refine wpAnyH_ready (rs := [7]) (by kernel_rfl) (by simp) (AllReadyH.cons rfl (fun K hK => ?_) AllReadyH.nil)
    go_simp
    refine (HP.out _ ((Ext.refl _).drew)).mono ?_
    rintro e y1 ⟨rfl, hb⟩
    have X1 : Hid (Ext w y1) := ((Ext.refl _).drew).trans hb
    clear hb
    refine hK.out _ _ (by exact HS.out _ X1.out) (fun hHeld1 => ?_)
    clear hK K
    refine tk 8 ⟨some 17, .unOp .not 4 (.tmp 16), 4, oz290, #[⟨7, .data⟩], none⟩ ?_
    refine tk 9 ⟨some 18, .move (.tmp 17), 4, oz290, oy291, none⟩ ?_
    refine tk 10 ⟨some 19, .move (.tmp 1), 27, oz290, #[⟨9, .guard⟩], some (9, false)⟩ ?_
    refine tk 11 ⟨some 20, .move (.tmp 3), 2, oz290, #[⟨9, .guard⟩], some (9, false)⟩ ?_
    refine tk 12 ⟨some 21, .indexAddr 27 (.tmp 19) (.tmp 20), 0, oz290, oy292, some (9, false)⟩ ?_
    refine tk 13 ⟨some 22, .fieldAddr 40 (.tmp 21) 1, 0, oz290, oy15, some (9, false)⟩ ?_
    refine tk 14 ⟨some 23, .load 2 (.tmp 22), 2, oz290, oy16, some (9, false)⟩ ?_
    refine tk 15 ⟨some 24, .move (.tmp 2), 72, oz290, #[⟨9, .guard⟩], some (9, false)⟩ ?_
    refine tk 16 ⟨some 25, .nilCheck (.tmp 24), 0, oz290, oy83, some (9, false)⟩ ?_
    refine tk 17 ⟨some 26, .fieldAddr 29 (.tmp 25) 1, 0, oz290, oy18, some (9, false)⟩ ?_
    refine tk 18 ⟨some 27, .load 2 (.tmp 26), 2, oz290, oy19, some (9, false)⟩ ?_
    refine tk 19 ⟨some 28, .binOp .neq 2 (.tmp 23) (.tmp 27) 2, 4, oz290, oy293, some (9, false)⟩ ?_
    refine tk 20 ⟨some 29, .pick (.tmp 18) (.const (.bool true)) (.tmp 28), 4, oz290, oy294, none⟩ ?_
    refine wpAnyH_done (by kernel_rfl) ?_ _
    go_wp2
    go_ret
    exact ⟨ret_int HR.out.symm, X1.out⟩
   | true =>
    have g2 : (z.view != r.view) = false := by have := of_decide_eq_true g1; simpa using this
    have HPO : Hid (Msg.prepC f ms r k = if Msg.slotB (Msg.saidL ms r 2) z.slot = true then 6 else 0) := by
     have q := Msg.prepC_ok (f := f) (ms := ms) (r := r) (p := (k : Int)) (by rw [hp, hva, g1]; rfl)
     rw [hsa] at q; exact q
    cases g4 : Msg.slotB (Msg.saidL ms r 2) z.slot with
    | true =>
     have HR : Hid (Msg.prepC f ms r k = 6) := by show _ = _; rw [HPO.out, g4, if_pos rfl]
     have HT : Hid _ := HT0.out z.slot true hsl g4
     clear g1 g4 hva hsa HP0 HT0 hp hn h0 h1 h2 hk1 hsl hN hb1 hx9 HPO hled
     have HS : Hid (∀ W', Ext w W' → W'.cell? ⟨b, 1, none⟩ = some (.int .i64 r.view) ∧ W'.cell? ⟨b, 2, none⟩ = some (.int .i64 r.start) ∧ W'.cell? ⟨b1, off + k * 7 + 1, none⟩ = some (.int .i64 z.view)) := fun W' he => by
      obtain ⟨vz, uz, ⟨-, m1, -, -, -, -, -⟩, -⟩ := HMz.out.2.ext HMz.out.1 he
      exact ⟨(HB0.out.ext he).2.2.1, (HB0.out.ext he).2.2.2.1, m1⟩
     go_enter Tryz.func51, Tryz.ntmps51
     go_wp2
     clear x0 x1 x2 x3
     refine wp_region_held_drew (S := (fun W' : World => W'.cell? ⟨b, 1, none⟩ = some (.int .i64 r.view) ∧ W'.cell? ⟨b, 2, none⟩ = some (.int .i64 r.start) ∧ W'.cell? ⟨b1, off + k * 7 + 1, none⟩ = some (.int .i64 z.view))) (by kernel_rfl) (HS.out _ ((Ext.refl _).drew)) (fun hHeld => ?_)
     refine tk 0 ⟨some 9, .move (.tmp 0), 2, oz290, #[], none⟩ ?_
     refine tk 1 ⟨some 10, .move (.tmp 1), 27, oz290, #[], none⟩ ?_
     refine tk 2 ⟨some 11, .move (.tmp 3), 2, oz290, #[], none⟩ ?_
     refine tk 3 ⟨some 12, .move (.tmp 2), 72, oz290, #[], none⟩ ?_
     refine tk 4 ⟨some 13, .nilCheck (.tmp 12), 0, oz290, #[⟨3, .data⟩], none⟩ ?_
     refine tk 5 ⟨some 14, .fieldAddr 29 (.tmp 13) 2, 0, oz290, #[⟨4, .data⟩], none⟩ ?_
     refine tk 6 ⟨some 15, .load 2 (.tmp 14), 2, oz290, #[⟨5, .data⟩], none⟩ ?_
     refine wpAnyH_ready (rs := [7]) (by kernel_rfl) (by simp) (AllReadyH.cons rfl (fun K hK => ?_) AllReadyH.nil)
     go_simp
     refine (HP.out _ ((Ext.refl _).drew)).mono ?_
     rintro e y1 ⟨rfl, hb⟩
     have X1 : Hid (Ext w y1) := ((Ext.refl _).drew).trans hb
     clear hb
     refine hK.out _ _ (by exact HS.out _ X1.out) (fun hHeld1 => ?_)
     clear hK K
     refine tk 8 ⟨some 17, .unOp .not 4 (.tmp 16), 4, oz290, #[⟨7, .data⟩], none⟩ ?_
     refine tk 9 ⟨some 18, .move (.tmp 17), 4, oz290, oy291, none⟩ ?_
     refine tk 10 ⟨some 19, .move (.tmp 1), 27, oz290, #[⟨9, .guard⟩], some (9, false)⟩ ?_
     refine tk 11 ⟨some 20, .move (.tmp 3), 2, oz290, #[⟨9, .guard⟩], some (9, false)⟩ ?_
     refine tk 12 ⟨some 21, .indexAddr 27 (.tmp 19) (.tmp 20), 0, oz290, oy292, some (9, false)⟩ ?_
     refine tk 13 ⟨some 22, .fieldAddr 40 (.tmp 21) 1, 0, oz290, oy15, some (9, false)⟩ ?_
     refine tk 14 ⟨some 23, .load 2 (.tmp 22), 2, oz290, oy16, some (9, false)⟩ ?_
     refine tk 15 ⟨some 24, .move (.tmp 2), 72, oz290, #[⟨9, .guard⟩], some (9, false)⟩ ?_
     refine tk 16 ⟨some 25, .nilCheck (.tmp 24), 0, oz290, oy83, some (9, false)⟩ ?_
     refine tk 17 ⟨some 26, .fieldAddr 29 (.tmp 25) 1, 0, oz290, oy18, some (9, false)⟩ ?_
     refine tk 18 ⟨some 27, .load 2 (.tmp 26), 2, oz290, oy19, some (9, false)⟩ ?_
     refine tk 19 ⟨some 28, .binOp .neq 2 (.tmp 23) (.tmp 27) 2, 4, oz290, oy293, some (9, false)⟩ ?_
     refine tk 20 ⟨some 29, .pick (.tmp 18) (.const (.bool true)) (.tmp 28), 4, oz290, oy294, none⟩ ?_
     refine wpAnyH_done (by kernel_rfl) ?_ _
     obtain ⟨vz, uz, ⟨-, -, -, m3, -, -, -⟩, -⟩ := HMz.out.2.ext HMz.out.1 X1.out
     go_wp2_with fail
     refine (HT.out _ X1.out).mono ?_
     rintro e y2 ⟨rfl, hb⟩
     have X2 : Hid (Ext w y2) := X1.out.trans hb
     clear hb m3
     go_wp2
     go_ret
     exact ⟨ret_int HR.out.symm, X2.out⟩
    | false =>
     have HR : Hid (Msg.prepC f ms r k = 0) := by show _ = _; rw [HPO.out, g4, if_neg (by decide)]
     have HT : Hid _ := HT0.out z.slot false hsl g4
     clear g1 g4 hva hsa HP0 HT0 hp hn h0 h1 h2 hk1 hsl hN hb1 hx9 HPO hled
     have HS : Hid (∀ W', Ext w W' → W'.cell? ⟨b, 1, none⟩ = some (.int .i64 r.view) ∧ W'.cell? ⟨b, 2, none⟩ = some (.int .i64 r.start) ∧ W'.cell? ⟨b1, off + k * 7 + 1, none⟩ = some (.int .i64 z.view)) := fun W' he => by
      obtain ⟨vz, uz, ⟨-, m1, -, -, -, -, -⟩, -⟩ := HMz.out.2.ext HMz.out.1 he
      exact ⟨(HB0.out.ext he).2.2.1, (HB0.out.ext he).2.2.2.1, m1⟩
     go_enter Tryz.func51, Tryz.ntmps51
     go_wp2
     clear x0 x1 x2 x3
     refine wp_region_held_drew (S := (fun W' : World => W'.cell? ⟨b, 1, none⟩ = some (.int .i64 r.view) ∧ W'.cell? ⟨b, 2, none⟩ = some (.int .i64 r.start) ∧ W'.cell? ⟨b1, off + k * 7 + 1, none⟩ = some (.int .i64 z.view))) (by kernel_rfl) (HS.out _ ((Ext.refl _).drew)) (fun hHeld => ?_)
     refine tk 0 ⟨some 9, .move (.tmp 0), 2, oz290, #[], none⟩ ?_
     refine tk 1 ⟨some 10, .move (.tmp 1), 27, oz290, #[], none⟩ ?_
     refine tk 2 ⟨some 11, .move (.tmp 3), 2, oz290, #[], none⟩ ?_
     refine tk 3 ⟨some 12, .move (.tmp 2), 72, oz290, #[], none⟩ ?_
     refine tk 4 ⟨some 13, .nilCheck (.tmp 12), 0, oz290, #[⟨3, .data⟩], none⟩ ?_
     refine tk 5 ⟨some 14, .fieldAddr 29 (.tmp 13) 2, 0, oz290, #[⟨4, .data⟩], none⟩ ?_
     refine tk 6 ⟨some 15, .load 2 (.tmp 14), 2, oz290, #[⟨5, .data⟩], none⟩ ?_
     refine wpAnyH_ready (rs := [7]) (by kernel_rfl) (by simp) (AllReadyH.cons rfl (fun K hK => ?_) AllReadyH.nil)
     go_simp
     refine (HP.out _ ((Ext.refl _).drew)).mono ?_
     rintro e y1 ⟨rfl, hb⟩
     have X1 : Hid (Ext w y1) := ((Ext.refl _).drew).trans hb
     clear hb
     refine hK.out _ _ (by exact HS.out _ X1.out) (fun hHeld1 => ?_)
     clear hK K
     refine tk 8 ⟨some 17, .unOp .not 4 (.tmp 16), 4, oz290, #[⟨7, .data⟩], none⟩ ?_
     refine tk 9 ⟨some 18, .move (.tmp 17), 4, oz290, oy291, none⟩ ?_
     refine tk 10 ⟨some 19, .move (.tmp 1), 27, oz290, #[⟨9, .guard⟩], some (9, false)⟩ ?_
     refine tk 11 ⟨some 20, .move (.tmp 3), 2, oz290, #[⟨9, .guard⟩], some (9, false)⟩ ?_
     refine tk 12 ⟨some 21, .indexAddr 27 (.tmp 19) (.tmp 20), 0, oz290, oy292, some (9, false)⟩ ?_
     refine tk 13 ⟨some 22, .fieldAddr 40 (.tmp 21) 1, 0, oz290, oy15, some (9, false)⟩ ?_
     refine tk 14 ⟨some 23, .load 2 (.tmp 22), 2, oz290, oy16, some (9, false)⟩ ?_
     refine tk 15 ⟨some 24, .move (.tmp 2), 72, oz290, #[⟨9, .guard⟩], some (9, false)⟩ ?_
     refine tk 16 ⟨some 25, .nilCheck (.tmp 24), 0, oz290, oy83, some (9, false)⟩ ?_
     refine tk 17 ⟨some 26, .fieldAddr 29 (.tmp 25) 1, 0, oz290, oy18, some (9, false)⟩ ?_
     refine tk 18 ⟨some 27, .load 2 (.tmp 26), 2, oz290, oy19, some (9, false)⟩ ?_
     refine tk 19 ⟨some 28, .binOp .neq 2 (.tmp 23) (.tmp 27) 2, 4, oz290, oy293, some (9, false)⟩ ?_
     refine tk 20 ⟨some 29, .pick (.tmp 18) (.const (.bool true)) (.tmp 28), 4, oz290, oy294, none⟩ ?_
     refine wpAnyH_done (by kernel_rfl) ?_ _
     obtain ⟨vz, uz, ⟨-, -, -, m3, -, -, -⟩, -⟩ := HMz.out.2.ext HMz.out.1 X1.out
     go_wp2_with fail
     refine (HT.out _ X1.out).mono ?_
     rintro e y2 ⟨rfl, hb⟩
     have X2 : Hid (Ext w y2) := X1.out.trans hb
     clear hb m3
     go_wp2
     go_ret
     exact ⟨ret_int HR.out.symm, X2.out⟩

set_option linter.unusedSimpArgs false in
set_option maxHeartbeats 8000000 in
set_option maxRecDepth 100000 in
theorem specMayPrepare_any (f : Int) (v : Value) (ms : List Ms) (r : Rp) (place : Int) (w : World) (hS : MSlice w v ms) :
  Calls Tryz.prog 19 #[.int .i64 f, v, ragg r, .int .i64 place] w fun e w' => e = .returned (.int .i64 (Msg.askC f ms r (Msg.prepC f ms r place))) ∧ Ext w w' := by
 have HF : Hid (∀ wx b, Ext w wx → RpAt wx b r → Calls Tryz.prog 43 #[.int .i64 f, v, .pointer (some ⟨b, 0, none⟩)] wx fun e w' => e = .returned (.int .i64 (Msg.repC f ms r)) ∧ Ext wx w') := fun wx b he h => l11Asked_any f v ms r b wx (hS.ext he) h
 have HP : Hid (Msg.repC f ms r = 0 → ∀ wx b, Ext w wx → RpAt wx b r → Calls Tryz.prog 51 #[.int .i64 f, v, .pointer (some ⟨b, 0, none⟩), .int .i64 place] wx fun e w' => e = .returned (.int .i64 (Msg.prepC f ms r place)) ∧ Ext wx w') := fun h0 wx b he h => l11Prepare_any f v ms r b place wx (hS.ext he) h h0
 obtain ⟨a, cap, rfl, -, -, -⟩ := hS
 unfold ragg
 go_enter Tryz.func19, Tryz.ntmps19
 by_cases hc : Msg.repC f ms r = 0
 ·have HR : Hid (Msg.askC f ms r (Msg.prepC f ms r place) = Msg.prepC f ms r place) := Msg.askC_ok hc
  have HP1 : Hid _ := HP.out hc
  rw [hc] at HF
  clear hc HP
  go_wp2_with fail
  refine (HF.out _ _ ((Ext.refl _).alloc _) (rbox_new _ _ _)).mono ?_
  rintro e w1 ⟨rfl, hb⟩
  have HE : Hid (Ext w w1) := ((Ext.refl _).alloc _).trans hb
  have HB : Hid (RpAt w1 w.heap.size r) := (rbox_new w r _).ext hb
  clear hb
  go_wp2_with fail
  refine (HP1.out _ _ HE.out HB.out).mono ?_
  rintro e w2 ⟨rfl, hb⟩
  have HE2 : Hid (Ext w w2) := HE.out.trans hb
  clear hb
  go_wp2
  go_ret
  exact ⟨ret_int HR.out.symm, HE2.out⟩
 ·have HR : Hid (Msg.askC f ms r (Msg.prepC f ms r place) = Msg.repC f ms r) := Msg.askC_bad hc
  have g1 : (Msg.repC f ms r != 0) = true := by simpa using hc
  clear hc HP
  generalize Msg.repC f ms r = c at *
  go_wp2_with fail
  refine (HF.out _ _ ((Ext.refl _).alloc _) (rbox_new _ _ _)).mono ?_
  rintro e w1 ⟨rfl, hb⟩
  have HE : Hid (Ext w w1) := ((Ext.refl _).alloc _).trans hb
  clear hb
  go_wp2
  go_ret
  exact ⟨ret_int HR.out.symm, HE.out⟩
end Go.Proofs.YtecgjdgfjgcmdaaGreat
