/- change; both ChangeMsgs. -/
import Derived.Test.YtecgjdgfjgcmdaaGreatRtGK
import Derived.Test.YtecgjdgfjgcmdaaGreatRtTM0
import Derived.Test.YtecgjdgfjgcmdaaGreatRtRP5
import Derived.Test.YtecgjdgfjgcmdaaGreatRtGP
import Derived.Test.YtecgjdgfjgcmdaaGreatRtRP2
import Derived.Test.YtecgjdgfjgcmdaaGreatRtRP7
import Derived.Test.YtecgjdgfjgcmdaaGreatRtG9
import Derived.Test.YtecgjdgfjgcmdaaGreatRtTk
namespace Go.Proofs.YtecgjdgfjgcmdaaGreat
open Go.RowKit
set_option linter.unusedSimpArgs false in
set_option maxHeartbeats 8000000 in
set_option maxRecDepth 100000 in
theorem change_any (f : Int) (v : Value) (ms : List Ms) (r : Rp) (u : Value) (L : List Int) (view : Int) (w : World) (hS : MSlice w v ms) (hI : ISlice w u L) (hrep : Msg.repC f ms r = 0) :
  Calls Tryz.prog 60 #[sagg r f v (Msg.inV r) u, .int .i64 view] w (Said (KM (Msg.chM ms r view)) (Msg.chC r view) (Msg.chM ms r view) w) := by
 have hled := Msg.repC_led hrep
 obtain ⟨hf0, hf1, hml⟩ := Msg.ledger_zero hled
 have hrf := Msg.repF_zero (by rw [← Msg.repC_ok hled]; exact hrep)
 have hvw := hrf.2.1
 clear hrf hrep
 obtain ⟨au, cu, rfl, -, -, -⟩ := hI
 have HG : Hid (∀ bb, decide (0 ≤ view ∧ view ≤ 20) = bb → ∀ wx, Calls Tryz.prog 84 #[.int .i64 view, .int .i64 20] wx fun e w' => e = .returned (.bool bb) ∧ w' = wx) := fun bb h wx => by have q := isUpToM_any view 20 wx; rw [show (decide (0 ≤ view) && decide (view ≤ 20)) = bb from by rw [← h, Bool.decide_and]] at q; exact q
 have HC : Hid (∀ wx, Ext w wx → Calls Tryz.prog 86 #[v, .int .i64 r.id, .int .i64 view] wx fun e w' => ∃ vo g, e = .returned vo ∧ wx.heap.size ≤ g ∧ CtOwn w' vo g (Msg.cms ms r.id view) ∧ Ext wx w') := fun wx he => commitsOf_any v ms r.id view wx (hS.ext he) hml
 have HN : Hid (∀ vo wx, CtSlice wx vo (Msg.cms ms r.id view) → Calls Tryz.prog 85 #[vo] wx fun e w' => ∃ vn g, e = .returned vn ∧ wx.heap.size ≤ g ∧ CtOwn w' vn g (Msg.ns (Msg.cms ms r.id view) 30) ∧ Ext wx w') := fun vo wx h => newestOfSlots_any vo _ wx h (by have := Msg.cms_len ms r.id view; omega)
 obtain ⟨a, cap, rfl, -, -, -⟩ := hS
 clear hf0 hf1 hml hled hvw
 have HMd : Hid (Msg.chM ms r view = ⟨4, view, r.id, 0, 0, Msg.ns (Msg.cms ms r.id view) 30, []⟩) := rfl
 unfold sagg at *
 generalize Msg.inV r = bg at *
 cases h1 : decide (0 ≤ view ∧ view ≤ 20) with
 | false =>
  have HR : Hid (Msg.chC r view = 3) := by show _ = _; unfold Msg.chC; rw [if_pos (of_decide_eq_false h1)]
  have J1 : Hid _ := HG.out false h1
  clear h1 HG HC HN
  go_enter Tryz.func60, Tryz.ntmps60
  go_wp2_with fail
  refine (J1.out _).mono ?_
  rintro e w9 ⟨rfl, hw⟩
  rw [hw]
  clear hw w9
  go_wp2_with fail
  refine (refuse_yes _ _).mono ?_
  rintro e w9 ⟨rfl, hw⟩
  unfold refused
  rw [hw]
  clear hw w9
  go_wp2
  exact ⟨rfl, (((Ext.refl _).alloc _).alloc _), Or.inl ⟨by rw [HR.out]; decide, by rw [HR.out]; rfl⟩⟩
 | true =>
  have J1 : Hid _ := HG.out true h1
  have h1' := of_decide_eq_true h1
  clear h1
  by_cases h2 : view ≤ r.view
  ·have HR : Hid (Msg.chC r view = 8) := by show _ = _; unfold Msg.chC; rw [if_neg (fun h => h h1'), if_pos h2]
   clear h1' HG HC HN
   go_enter Tryz.func60, Tryz.ntmps60
   go_wp2_with fail
   refine (J1.out _).mono ?_
   rintro e w9 ⟨rfl, hw⟩
   rw [hw]
   clear hw w9
   go_wp2_with fail
   refine (refuse_no _ _).mono ?_
   rintro e w9 ⟨rfl, hw⟩
   rw [hw]
   clear hw w9
   go_wp2_with fail
   refine (refuse_yes _ _).mono ?_
   rintro e w9 ⟨rfl, hw⟩
   unfold refused
   rw [hw]
   clear hw w9
   go_wp2
   exact ⟨rfl, (((Ext.refl _).alloc _).alloc _), Or.inl ⟨by rw [HR.out]; decide, by rw [HR.out]; rfl⟩⟩
  ·have HR : Hid (Msg.chC r view = 0) := by show _ = _; unfold Msg.chC; rw [if_neg (fun h => h h1'), if_neg h2]
   clear h1' HG
   go_enter Tryz.func60, Tryz.ntmps60
   go_wp2_with fail
   refine (J1.out _).mono ?_
   rintro e w9 ⟨rfl, hw⟩
   rw [hw]
   clear hw w9
   go_wp2_with fail
   refine (refuse_no _ _).mono ?_
   rintro e w9 ⟨rfl, hw⟩
   rw [hw]
   clear hw w9
   go_wp2_with fail
   rw [show decide (view ≤ r.view) = false from decide_eq_false (by omega)]
   refine (refuse_no _ _).mono ?_
   rintro e w9 ⟨rfl, hw⟩
   rw [hw]
   clear hw w9
   have HB0 : Hid (SpAt ((w.alloc (.cells #[.int .i64 r.id, .int .i64 r.view, .int .i64 r.start, .int .i64 r.done, .int .i64 f, .slice a ms.length cap, .bool bg, .slice au L.length cu] 76)).alloc (.cells #[.int .i64 0, .int .i64 0, .int .i64 0, .int .i64 0, .int .i64 0, .slice none 0 0, .slice none 0 0] 40)) w.heap.size r f (.slice a ms.length cap) bg (.slice au L.length cu)) := (spk_new w r f (.slice a ms.length cap) bg (.slice au L.length cu) 76).ext ((Ext.refl _).alloc _)
   have HZ0 : Hid (ZBox ((w.alloc (.cells #[.int .i64 r.id, .int .i64 r.view, .int .i64 r.start, .int .i64 r.done, .int .i64 f, .slice a ms.length cap, .bool bg, .slice au L.length cu] 76)).alloc (.cells #[.int .i64 0, .int .i64 0, .int .i64 0, .int .i64 0, .int .i64 0, .slice none 0 0, .slice none 0 0] 40)) (w.heap.size + 1) [.int .i64 0, .int .i64 0, .int .i64 0, .int .i64 0, .int .i64 0, .slice none 0 0, .slice none 0 0]) := by
    have hZ0 := zbox_new (w.alloc (.cells #[.int .i64 r.id, .int .i64 r.view, .int .i64 r.start, .int .i64 r.done, .int .i64 f, .slice a ms.length cap, .bool bg, .slice au L.length cu] 76)) [.int .i64 0, .int .i64 0, .int .i64 0, .int .i64 0, .int .i64 0, .slice none 0 0, .slice none 0 0] 40
    (try simp only [World.size_alloc] at hZ0); exact hZ0
   have HX0 : Hid (Ext w ((w.alloc (.cells #[.int .i64 r.id, .int .i64 r.view, .int .i64 r.start, .int .i64 r.done, .int .i64 f, .slice a ms.length cap, .bool bg, .slice au L.length cu] 76)).alloc (.cells #[.int .i64 0, .int .i64 0, .int .i64 0, .int .i64 0, .int .i64 0, .slice none 0 0, .slice none 0 0] 40))) := (((Ext.refl _).alloc _).alloc _)
   have HS0 : Hid (w.heap.size + 1 < ((w.alloc (.cells #[.int .i64 r.id, .int .i64 r.view, .int .i64 r.start, .int .i64 r.done, .int .i64 f, .slice a ms.length cap, .bool bg, .slice au L.length cu] 76)).alloc (.cells #[.int .i64 0, .int .i64 0, .int .i64 0, .int .i64 0, .int .i64 0, .slice none 0 0, .slice none 0 0] 40)).heap.size) := by show _ < _; simp
   generalize (w.alloc (.cells #[.int .i64 r.id, .int .i64 r.view, .int .i64 r.start, .int .i64 r.done, .int .i64 f, .slice a ms.length cap, .bool bg, .slice au L.length cu] 76)).alloc (.cells #[.int .i64 0, .int .i64 0, .int .i64 0, .int .i64 0, .int .i64 0, .slice none 0 0, .slice none 0 0] 40) = q0 at *
   have HS : Hid (∀ W', (∃ W1, Ext q0 W1 ∧ Upd (w.heap.size + 1) W1 W') → W'.cell? ⟨w.heap.size, 0, none⟩ = some (.int .i64 r.id) ∧ W'.cell? ⟨w.heap.size, 5, none⟩ = some (.slice a ms.length cap)) := fun W' h => by
    obtain ⟨W1, h1, h2⟩ := h
    obtain ⟨hl, s0, s1, s2, s3, s4, s5, s6, s7⟩ := HB0.out.ext h1
    exact ⟨(h2.at_ne _ _ (by omega) hl).1.trans s0, (h2.at_ne _ _ (by omega) hl).1.trans s5⟩
   go_wp2
   refine wp_region_held_drew (S := (fun W' : World => W'.cell? ⟨w.heap.size, 0, none⟩ = some (.int .i64 r.id) ∧ W'.cell? ⟨w.heap.size, 5, none⟩ = some (.slice a ms.length cap))) (by kernel_rfl) (HS.out _ ⟨_, (Ext.refl _).drew, Upd.refl _ _⟩) (fun hHeld => ?_)
   refine tk 0 ⟨some 15, .move (.tmp 1), 2, oz224, #[], none⟩ ?_
   refine tk 1 ⟨some 16, .fieldAddr 76 (.tmp 2) 0, 0, oz224, #[], none⟩ ?_
   refine tk 2 ⟨some 17, .fieldAddr 29 (.tmp 16) 0, 0, oz224, #[⟨1, .data⟩], none⟩ ?_
   refine tk 3 ⟨some 18, .load 2 (.tmp 17), 2, oz224, #[⟨2, .data⟩], none⟩ ?_
   refine tk 4 ⟨some 19, .fieldAddr 76 (.tmp 2) 2, 0, oz224, #[], none⟩ ?_
   refine tk 5 ⟨some 20, .load 27 (.tmp 19), 27, oz224, #[⟨4, .data⟩], none⟩ ?_
   refine tk 6 ⟨some 21, .fieldAddr 76 (.tmp 2) 0, 0, oz224, #[], none⟩ ?_
   refine tk 7 ⟨some 22, .fieldAddr 29 (.tmp 21) 0, 0, oz224, #[⟨6, .data⟩], none⟩ ?_
   refine tk 8 ⟨some 23, .load 2 (.tmp 22), 2, oz224, #[⟨7, .data⟩], none⟩ ?_
   refine tk 9 ⟨some 24, .move (.tmp 1), 2, oz224, #[], none⟩ ?_
   refine wpAnyH_ready (rs := [10]) (by kernel_rfl) (by simp) (AllReadyH.cons rfl (fun K hK => ?_) AllReadyH.nil)
   go_simp
   refine (HC.out _ HX0.out.drew).mono ?_
   rintro e q1 ⟨vc, gc, rfl, -, hO, hb⟩
   have X1 : Hid (Ext q0 q1) := ((Ext.refl _).drew).trans hb
   obtain ⟨ac, cc, rfl, -⟩ := id hO
   have HO1 : Hid (CtSlice q1 (.slice ac (Msg.cms ms r.id view).length cc) (Msg.cms ms r.id view)) := hO.slice
   clear hb hO
   refine hK.out _ _ (by exact HS.out _ ⟨_, X1.out, Upd.refl _ _⟩) (fun hHeld1 => ?_)
   clear hK K
   refine wpAnyH_ready (rs := [11]) (by kernel_rfl) (by simp) (AllReadyH.cons rfl (fun K hK => ?_) AllReadyH.nil)
   go_simp
   refine (HN.out _ _ HO1.out).mono ?_
   rintro e q2 ⟨vn, gn, rfl, hg2, hO2, hb⟩
   have X2 : Hid (Ext q0 q2) := X1.out.trans hb
   obtain ⟨an, cn, rfl, -⟩ := id hO2
   have HG2 : Hid (q0.heap.size ≤ gn) := Nat.le_trans X1.out.size hg2
   have HO2 : Hid (CtOwn q2 (.slice an (Msg.ns (Msg.cms ms r.id view) 30).length cn) gn (Msg.ns (Msg.cms ms r.id view) 30)) := hO2
   clear hb hO2 hg2
   refine hK.out _ _ (by exact HS.out _ ⟨_, X2.out, Upd.refl _ _⟩) (fun hHeld2 => ?_)
   clear hK K
   refine tk 12 ⟨some 27, .build 40 #[(0, .const (.int .i64 4)), (1, .tmp 15), (2, .tmp 18), (5, .tmp 26)], 40, oz224, #[⟨0, .data⟩, ⟨3, .data⟩, ⟨11, .data⟩], none⟩ ?_
   refine wpAnyH_ready (rs := [13]) (by kernel_rfl) (by simp) (AllReadyH.cons rfl (fun K hK => ?_) AllReadyH.nil)
   have HZ2 : Hid (ZBox q2 (w.heap.size + 1) [.int .i64 0, .int .i64 0, .int .i64 0, .int .i64 0, .int .i64 0, .slice none 0 0, .slice none 0 0]) := HZ0.out.ext X2.out
   obtain ⟨z0, n0⟩ := HZ2.out.2 0 _ rfl
   obtain ⟨z1, n1⟩ := HZ2.out.2 1 _ rfl
   obtain ⟨z2, n2⟩ := HZ2.out.2 2 _ rfl
   obtain ⟨z3, n3⟩ := HZ2.out.2 3 _ rfl
   obtain ⟨z4, n4⟩ := HZ2.out.2 4 _ rfl
   obtain ⟨z5, n5⟩ := HZ2.out.2 5 _ rfl
   obtain ⟨z6, n6⟩ := HZ2.out.2 6 _ rfl
   go_simp
   refine hK.out _ _ (by exact HS.out _ ⟨_, X2.out, Upd.seven _ _ _ _ _ _ _ _ _⟩) (fun hHeld3 => ?_)
   clear hK K
   refine wpAnyH_done (by kernel_rfl) ?_ _
   go_wp2
   refine bodyPost_ret (v := magg ⟨4, view, r.id, 0, 0, (Msg.ns (Msg.cms ms r.id view) 30), []⟩ (.slice an (Msg.ns (Msg.cms ms r.id view) 30).length cn) (.slice none 0 0)) (by simp [results, Tryz.results60, go_sem, magg, z0, z1, z2, z3, z4, z5, z6]) rfl ?_
   refine ⟨(HX0.out.trans X2.out).seven _ (by omega) _ _ _ _ _ _ _, Or.inr ⟨HR.out, _, _, _, _, _, _, rfl, ?_⟩⟩
   exact ⟨gn, w.heap.size, Nat.le_trans HX0.out.size HG2.out, Nat.le_refl _, fun _ h => absurd h (by simp [Msg.chM]), HO2.out.upd' (Upd.seven _ _ _ _ _ _ _ _ _) (fun _ => by have := HS0.out; have := HG2.out; omega), iown_nil _ _⟩
set_option linter.unusedSimpArgs false in
set_option maxHeartbeats 8000000 in
set_option maxRecDepth 100000 in
theorem changeMsg1_any (f : Int) (v : Value) (ms : List Ms) (r : Rp) (u : Value) (L : List Int) (view : Int) (b0 : Nat) (w : World) (hS : MSlice w v ms) (hI : ISlice w u L) (hrep : Msg.repC f ms r = 0) (hc0 : w.cell? ⟨b0, 0, none⟩ = some (.int .i64 view)) :
  Calls Tryz.prog 59 #[sagg r f v (Msg.inV r) u, .pointer (some ⟨b0, 0, none⟩)] w (Said (KM (Msg.chM ms r view)) (Msg.chC r view) (Msg.chM ms r view) w) := by
 have HC : Hid (∀ wx, Ext w wx → Calls Tryz.prog 60 #[sagg r f v (Msg.inV r) u, .int .i64 view] wx (Said (KM (Msg.chM ms r view)) (Msg.chC r view) (Msg.chM ms r view) wx)) := fun wx he => change_any f v ms r u L view wx (hS.ext he) (hI.ext he) hrep
 clear hrep
 have lt0 := World.block_lt_of_cell? w ⟨b0, 0, none⟩ (by rw [hc0])
 obtain ⟨a, cap, rfl, -, -, -⟩ := hS
 obtain ⟨au, cu, rfl, -, -, -⟩ := hI
 unfold sagg at *
 generalize Msg.chC r view = cc at *
 generalize Msg.chM ms r view = md at *
 generalize Msg.inV r = bg at *
 go_enter Tryz.func59, Tryz.ntmps59
 have hal := alloc_cell
 go_wp2_with fail
 refine (HC.out _ (((Ext.refl _).alloc _).alloc _)).mono ?_
 rintro e w1 ⟨hb, hh⟩
 have hZ0 := (zbox_new (w.alloc (.cells #[.int .i64 r.id, .int .i64 r.view, .int .i64 r.start, .int .i64 r.done, .int .i64 f, .slice a ms.length cap, .bool bg, .slice au L.length cu] 76)) [.int .i64 0, .int .i64 0, .int .i64 0, .int .i64 0, .int .i64 0, .slice none 0 0, .slice none 0 0] 40).ext hb
 have HZ : Hid (ZBox w1 (w.heap.size + 1) [.int .i64 0, .int .i64 0, .int .i64 0, .int .i64 0, .int .i64 0, .slice none 0 0, .slice none 0 0]) := by (try simp only [World.size_alloc] at hZ0); exact hZ0
 have HE : Hid (Ext w w1) := (((Ext.refl _).alloc _).alloc _).trans hb
 have HX : Hid (w.heap.size + 1 < (((w.alloc (.cells #[.int .i64 r.id, .int .i64 r.view, .int .i64 r.start, .int .i64 r.done, .int .i64 f, .slice a ms.length cap, .bool bg, .slice au L.length cu] 76)).alloc (.cells #[.int .i64 0, .int .i64 0, .int .i64 0, .int .i64 0, .int .i64 0, .slice none 0 0, .slice none 0 0] 40))).heap.size) := by show _ < _; simp
 rcases hh with ⟨hn, rfl⟩ | ⟨hn, az, nz, cz, ax, nx, cx, rfl, hk⟩
 ·have HN : Hid (¬ cc = 0) := hn
  clear hn hb hZ0 hal
  unfold refused
  go_wp2
  exact ⟨rfl, HE.out, Or.inl ⟨HN.out, rfl⟩⟩
 ·have HN : Hid (cc = 0) := hn
  have HK : Hid (∀ W, Upd (w.heap.size + 1) w1 W → KM md w W (.slice az nz cz) (.slice ax nx cx)) := fun W hu => (KM_kept md _ _ _ _ _ _ HX.out hu hk).old (((Ext.refl _).alloc _).alloc _)
  clear hn hb hZ0 hal hk HX
  unfold magg
  obtain ⟨z0, n0⟩ := HZ.out.2 0 _ rfl
  obtain ⟨z1, n1⟩ := HZ.out.2 1 _ rfl
  obtain ⟨z2, n2⟩ := HZ.out.2 2 _ rfl
  obtain ⟨z3, n3⟩ := HZ.out.2 3 _ rfl
  obtain ⟨z4, n4⟩ := HZ.out.2 4 _ rfl
  obtain ⟨z5, n5⟩ := HZ.out.2 5 _ rfl
  obtain ⟨z6, n6⟩ := HZ.out.2 6 _ rfl
  go_wp2
  refine bodyPost_ret (v := magg md (.slice az nz cz) (.slice ax nx cx)) (by simp [results, Tryz.results59, go_sem, magg, z0, z1, z2, z3, z4, z5, z6]) rfl ?_
  exact ⟨HE.out.seven _ (by omega) _ _ _ _ _ _ _, Or.inr ⟨HN.out, _, _, _, _, _, _, rfl, HK.out _ (Upd.seven _ _ _ _ _ _ _ _ _)⟩⟩

set_option linter.unusedSimpArgs false in
set_option maxHeartbeats 8000000 in
set_option maxRecDepth 100000 in
theorem implChangeMsg_any (f : Int) (v : Value) (ms : List Ms) (r : Rp) (view : Int) (w : World) (hS : MSlice w v ms) :
  Calls Tryz.prog 24 #[.int .i64 f, v, ragg r, .int .i64 view] w (MgRet w (Msg.askC f ms r (Msg.chC r view)) (ansM (Msg.askC f ms r (Msg.chC r view)) (Msg.chM ms r view))) := by
 have HH : Hid (∀ (b0 : Nat) wx, Ext w wx → wx.cell? ⟨b0, 0, none⟩ = some (.int .i64 view) → Calls Tryz.prog 45 #[.int .i64 f, v, ragg r, .func (.func 59) #[] #[.pointer (some ⟨b0, 0, none⟩)]] wx (MgRet wx (Msg.askC f ms r (Msg.chC r view)) (ansM (Msg.askC f ms r (Msg.chC r view)) (Msg.chM ms r view)))) := fun b0 wx he q0 => by
  refine (hear_any f v ms r 59 #[.pointer (some ⟨b0, 0, none⟩)] (Msg.chC r view) (Msg.chM ms r view) (KM (Msg.chM ms r view)) wx (hS.ext he) (KM_kept _) (fun _ _ => by kernel_rfl) (fun h u wy hy hI => changeMsg1_any f v ms r u _ view b0 wy ((hS.ext he).ext hy) hI h (by obtain ⟨hc, _⟩ := Ext.cell hy; exact (hc _ _ (World.block_lt_of_cell? wx ⟨b0, 0, none⟩ (by rw [q0]))).trans q0))).mono ?_
  intro e w' h
  exact MgRet.of h
 have hmf : ∀ (fn : Fn) (first cap : Array Value) (w : World), (Instr.makeFunc fn first cap).run Tryz.prog w = .ok (.func fn first cap) w := fun _ _ _ _ => rfl
 obtain ⟨a, cap, rfl, -, -, -⟩ := hS
 unfold ragg at *
 generalize ansM (Msg.askC f ms r (Msg.chC r view)) (Msg.chM ms r view) = md at *
 generalize Msg.askC f ms r (Msg.chC r view) = cc at *
 go_enter Tryz.func24, Tryz.ntmps24
 go_wp2_with fail
 refine (HH.out (w.heap.size + 1) _ ((((Ext.refl _).alloc _).alloc _).alloc _) ?_).mono ?_
 ·exact (alloc_cell _ _ _ _ (by simp)).trans (box1 _ _ _ _ (by simp))
 rintro e w1 ⟨x, y, rfl, hk, hb⟩
 have hZ0 := (zbox_new ((w.alloc (.cells #[.int .i64 r.id, .int .i64 r.view, .int .i64 r.start, .int .i64 r.done] 29)).alloc (.cells #[.int .i64 view] 2)) [.int .i64 0, .int .i64 0, .int .i64 0, .int .i64 0, .int .i64 0, .int .i64 0, .slice none 0 0, .slice none 0 0] 42).ext hb
 have HZ : Hid (ZBox w1 (w.heap.size + 2) [.int .i64 0, .int .i64 0, .int .i64 0, .int .i64 0, .int .i64 0, .int .i64 0, .slice none 0 0, .slice none 0 0]) := by (try simp only [World.size_alloc] at hZ0); exact hZ0
 have HE : Hid (Ext w w1) := ((((Ext.refl _).alloc _).alloc _).alloc _).trans hb
 have HX : Hid (w.heap.size + 2 < (((w.alloc (.cells #[.int .i64 r.id, .int .i64 r.view, .int .i64 r.start, .int .i64 r.done] 29)).alloc (.cells #[.int .i64 view] 2)).alloc (.cells #[.int .i64 0, .int .i64 0, .int .i64 0, .int .i64 0, .int .i64 0, .int .i64 0, .slice none 0 0, .slice none 0 0] 42)).heap.size) := by show _ < _; simp
 have HK : Hid (∀ W, Upd (w.heap.size + 2) w1 W → KM md w W x y) := fun W hu => (KM_kept md _ _ _ _ _ _ HX.out hu hk).old ((((Ext.refl _).alloc _).alloc _).alloc _)
 obtain ⟨g1, g2, -, -, -, k1, k2⟩ := id hk
 obtain ⟨a1, c1, rfl, -⟩ := id k1
 obtain ⟨a2, c2, rfl, -⟩ := id k2
 clear hb hZ0 hk HX k1 k2
 unfold mres
 obtain ⟨z0, n0⟩ := HZ.out.2 0 _ rfl
 obtain ⟨z1, n1⟩ := HZ.out.2 1 _ rfl
 obtain ⟨z2, n2⟩ := HZ.out.2 2 _ rfl
 obtain ⟨z3, n3⟩ := HZ.out.2 3 _ rfl
 obtain ⟨z4, n4⟩ := HZ.out.2 4 _ rfl
 obtain ⟨z5, n5⟩ := HZ.out.2 5 _ rfl
 obtain ⟨z6, n6⟩ := HZ.out.2 6 _ rfl
 obtain ⟨z7, n7⟩ := HZ.out.2 7 _ rfl
 go_wp2
 refine bodyPost_ret (v := mres cc md (.slice a1 md.certs.length c1) (.slice a2 md.refs.length c2)) (by simp [results, Tryz.results24, go_sem, mres, z0, z1, z2, z3, z4, z5, z6, z7]) rfl ?_
 exact ⟨_, _, rfl, HK.out _ (Upd.eight _ _ _ _ _ _ _ _ _ _), HE.out.eight _ (by omega) _ _ _ _ _ _ _ _⟩

theorem ansM_no {c : Int} {m : Ms} (h : ¬ c = 0) : ansM c m = zeroM := by unfold ansM; rw [if_neg h]
theorem ansM_ok (m : Ms) : ansM 0 m = m := by unfold ansM; rw [if_pos rfl]
set_option linter.unusedSimpArgs false in
set_option maxHeartbeats 8000000 in
set_option maxRecDepth 100000 in
theorem specChangeMsg_any (f : Int) (v : Value) (ms : List Ms) (r : Rp) (view : Int) (w : World) (hS : MSlice w v ms) :
  Calls Tryz.prog 23 #[.int .i64 f, v, ragg r, .int .i64 view] w (MgRet w (Msg.askC f ms r (Msg.chC r view)) (ansM (Msg.askC f ms r (Msg.chC r view)) (Msg.chM ms r view))) := by
 have HF : Hid (∀ wx b, Ext w wx → RpAt wx b r → Calls Tryz.prog 43 #[.int .i64 f, v, .pointer (some ⟨b, 0, none⟩)] wx fun e w' => e = .returned (.int .i64 (Msg.repC f ms r)) ∧ Ext wx w') := fun wx b he h => l11Asked_any f v ms r b wx (hS.ext he) h
 have HG : Hid (∀ bb, (decide (0 ≤ view) && decide (view ≤ 20)) = bb → ∀ wx, Calls Tryz.prog 57 #[.int .i64 view, .int .i64 0, .int .i64 20] wx fun e w' => e = .returned (.bool bb) ∧ w' = wx) := fun bb h wx => l1In_isM view 0 20 bb wx h
 have HC0 : Hid (Msg.ledger f ms = 0 → ∀ wx, Ext w wx → Calls Tryz.prog 58 #[v, .int .i64 r.id, .int .i64 view] wx fun e w' => ∃ vo g, e = .returned vo ∧ wx.heap.size ≤ g ∧ CtOwn w' vo g (Msg.ns (Msg.cms ms r.id view) 30) ∧ Ext wx w') := fun h wx he => l10Certs_any f v ms r.id view wx (hS.ext he) h
 obtain ⟨a, cap, rfl, -, -, -⟩ := hS
 unfold ragg
 by_cases hc : Msg.repC f ms r = 0
 ·have HC : Hid _ := HC0.out (Msg.repC_led hc)
  rw [Msg.askC_ok hc]
  rw [hc] at HF
  clear hc HC0
  cases h1 : decide (0 ≤ view ∧ view ≤ 20) with
  | false =>
   have J1 : Hid _ := HG.out false (by rw [← h1, Bool.decide_and])
   rw [show Msg.chC r view = 3 from by unfold Msg.chC; rw [if_pos (of_decide_eq_false h1)], ansM_no (by decide)]
   clear h1 HG HC
   go_enter Tryz.func23, Tryz.ntmps23
   go_wp2_with fail
   refine (HF.out _ _ (((Ext.refl _).alloc _).alloc _) ((rbox_new _ _ _).ext ((Ext.refl _).alloc _))).mono ?_
   rintro e w1 ⟨rfl, hb⟩
   have HB1 : Hid (RpAt w1 w.heap.size r) := ((rbox_new w r _).ext ((Ext.refl _).alloc _)).ext hb
   have hZ0 := (zbox_new (w.alloc (.cells #[.int .i64 r.id, .int .i64 r.view, .int .i64 r.start, .int .i64 r.done] 29)) [.int .i64 0, .int .i64 0, .int .i64 0, .int .i64 0, .int .i64 0, .int .i64 0, .slice none 0 0, .slice none 0 0] 42).ext hb
   have HZ1 : Hid (ZBox w1 (w.heap.size + 1) [.int .i64 0, .int .i64 0, .int .i64 0, .int .i64 0, .int .i64 0, .int .i64 0, .slice none 0 0, .slice none 0 0]) := by (try simp only [World.size_alloc] at hZ0); exact hZ0
   have HE1 : Hid (Ext w w1) := (((Ext.refl _).alloc _).alloc _).trans hb
   have HS1 : Hid (w.heap.size + 1 < w1.heap.size) := HZ1.out.1
   clear hb hZ0
   go_wp2_with fail
   refine (J1.out _).mono ?_
   rintro e w9 ⟨rfl, hw⟩
   rw [hw]
   clear hw w9
   obtain ⟨z0, n0⟩ := HZ1.out.2 0 _ rfl
   obtain ⟨z1, n1⟩ := HZ1.out.2 1 _ rfl
   obtain ⟨z2, n2⟩ := HZ1.out.2 2 _ rfl
   obtain ⟨z3, n3⟩ := HZ1.out.2 3 _ rfl
   obtain ⟨z4, n4⟩ := HZ1.out.2 4 _ rfl
   obtain ⟨z5, n5⟩ := HZ1.out.2 5 _ rfl
   obtain ⟨z6, n6⟩ := HZ1.out.2 6 _ rfl
   obtain ⟨z7, n7⟩ := HZ1.out.2 7 _ rfl
   go_wp2
   refine bodyPost_ret (v := mres (3) zeroM (.slice none 0 0) (.slice none 0 0)) (by simp [results, Tryz.results23, go_sem, mres, zeroM, z0, z1, z2, z3, z4, z5, z6, z7]) rfl ?_
   exact ⟨_, _, rfl, KM.zero _ _, HE1.out.eight _ (by omega) _ _ _ _ _ _ _ _⟩
  | true =>
   have J1 : Hid _ := HG.out true (by rw [← h1, Bool.decide_and])
   have h1' := of_decide_eq_true h1
   by_cases h2 : view ≤ r.view
   ·rw [show Msg.chC r view = 8 from by unfold Msg.chC; rw [if_neg (fun h => h h1'), if_pos h2], ansM_no (by decide)]
    clear h1 h1' HG HC
    go_enter Tryz.func23, Tryz.ntmps23
    go_wp2_with fail
    refine (HF.out _ _ (((Ext.refl _).alloc _).alloc _) ((rbox_new _ _ _).ext ((Ext.refl _).alloc _))).mono ?_
    rintro e w1 ⟨rfl, hb⟩
    have HB1 : Hid (RpAt w1 w.heap.size r) := ((rbox_new w r _).ext ((Ext.refl _).alloc _)).ext hb
    have hZ0 := (zbox_new (w.alloc (.cells #[.int .i64 r.id, .int .i64 r.view, .int .i64 r.start, .int .i64 r.done] 29)) [.int .i64 0, .int .i64 0, .int .i64 0, .int .i64 0, .int .i64 0, .int .i64 0, .slice none 0 0, .slice none 0 0] 42).ext hb
    have HZ1 : Hid (ZBox w1 (w.heap.size + 1) [.int .i64 0, .int .i64 0, .int .i64 0, .int .i64 0, .int .i64 0, .int .i64 0, .slice none 0 0, .slice none 0 0]) := by (try simp only [World.size_alloc] at hZ0); exact hZ0
    have HE1 : Hid (Ext w w1) := (((Ext.refl _).alloc _).alloc _).trans hb
    have HS1 : Hid (w.heap.size + 1 < w1.heap.size) := HZ1.out.1
    clear hb hZ0
    go_wp2_with fail
    refine (J1.out _).mono ?_
    rintro e w9 ⟨rfl, hw⟩
    rw [hw]
    clear hw w9
    obtain ⟨-, x0, x1, x2, x3⟩ := HB1.out
    obtain ⟨z0, n0⟩ := HZ1.out.2 0 _ rfl
    obtain ⟨z1, n1⟩ := HZ1.out.2 1 _ rfl
    obtain ⟨z2, n2⟩ := HZ1.out.2 2 _ rfl
    obtain ⟨z3, n3⟩ := HZ1.out.2 3 _ rfl
    obtain ⟨z4, n4⟩ := HZ1.out.2 4 _ rfl
    obtain ⟨z5, n5⟩ := HZ1.out.2 5 _ rfl
    obtain ⟨z6, n6⟩ := HZ1.out.2 6 _ rfl
    obtain ⟨z7, n7⟩ := HZ1.out.2 7 _ rfl
    go_wp2
    refine bodyPost_ret (v := mres (8) zeroM (.slice none 0 0) (.slice none 0 0)) (by simp [results, Tryz.results23, go_sem, mres, zeroM, z0, z1, z2, z3, z4, z5, z6, z7]) rfl ?_
    exact ⟨_, _, rfl, KM.zero _ _, HE1.out.eight _ (by omega) _ _ _ _ _ _ _ _⟩
   ·rw [show Msg.chC r view = 0 from by unfold Msg.chC; rw [if_neg (fun h => h h1'), if_neg h2], ansM_ok]
    clear h1 h1' HG
    go_enter Tryz.func23, Tryz.ntmps23
    go_wp2_with fail
    refine (HF.out _ _ (((Ext.refl _).alloc _).alloc _) ((rbox_new _ _ _).ext ((Ext.refl _).alloc _))).mono ?_
    rintro e w1 ⟨rfl, hb⟩
    have HB1 : Hid (RpAt w1 w.heap.size r) := ((rbox_new w r _).ext ((Ext.refl _).alloc _)).ext hb
    have hZ0 := (zbox_new (w.alloc (.cells #[.int .i64 r.id, .int .i64 r.view, .int .i64 r.start, .int .i64 r.done] 29)) [.int .i64 0, .int .i64 0, .int .i64 0, .int .i64 0, .int .i64 0, .int .i64 0, .slice none 0 0, .slice none 0 0] 42).ext hb
    have HZ1 : Hid (ZBox w1 (w.heap.size + 1) [.int .i64 0, .int .i64 0, .int .i64 0, .int .i64 0, .int .i64 0, .int .i64 0, .slice none 0 0, .slice none 0 0]) := by (try simp only [World.size_alloc] at hZ0); exact hZ0
    have HE1 : Hid (Ext w w1) := (((Ext.refl _).alloc _).alloc _).trans hb
    have HS1 : Hid (w.heap.size + 1 < w1.heap.size) := HZ1.out.1
    clear hb hZ0
    go_wp2_with fail
    refine (J1.out _).mono ?_
    rintro e w9 ⟨rfl, hw⟩
    rw [hw]
    clear hw w9
    obtain ⟨-, x0, x1, x2, x3⟩ := HB1.out
    have HS : Hid (∀ W', (∃ W1, Ext w1 W1 ∧ Upd (w.heap.size + 1) W1 W') → W'.cell? ⟨w.heap.size, 0, none⟩ = some (.int .i64 r.id)) := fun W' h => by
     obtain ⟨W1, h1, h2⟩ := h
     obtain ⟨hl, s0, s1, s2, s3⟩ := HB1.out.ext h1
     exact (h2.at_ne _ _ (by omega) hl).1.trans s0
    go_wp2
    clear x0 x1 x2 x3
    refine wp_region_held_drew (S := (fun W' : World => W'.cell? ⟨w.heap.size, 0, none⟩ = some (.int .i64 r.id))) (by kernel_rfl) (HS.out _ ⟨_, (Ext.refl _).drew, Upd.refl _ _⟩) (fun hHeld => ?_)
    refine tk 0 ⟨some 26, .move (.tmp 3), 2, oz225, #[], none⟩ ?_
    refine tk 1 ⟨some 27, .fieldAddr 29 (.tmp 6) 0, 0, oz225, #[], none⟩ ?_
    refine tk 2 ⟨some 28, .load 2 (.tmp 27), 2, oz225, #[⟨1, .data⟩], none⟩ ?_
    refine tk 3 ⟨some 29, .move (.tmp 1), 27, oz225, #[], none⟩ ?_
    refine tk 4 ⟨some 30, .fieldAddr 29 (.tmp 6) 0, 0, oz225, #[], none⟩ ?_
    refine tk 5 ⟨some 31, .load 2 (.tmp 30), 2, oz225, #[⟨4, .data⟩], none⟩ ?_
    refine tk 6 ⟨some 32, .move (.tmp 3), 2, oz225, #[], none⟩ ?_
    refine wpAnyH_ready (rs := [7]) (by kernel_rfl) (by simp) (AllReadyH.cons rfl (fun K hK => ?_) AllReadyH.nil)
    go_simp
    refine (HC.out _ HE1.out.drew).mono ?_
    rintro e q2 ⟨vn, gn, rfl, hg2, hO2, hb⟩
    have X2 : Hid (Ext w1 q2) := ((Ext.refl _).drew).trans hb
    obtain ⟨an, cn, rfl, -⟩ := id hO2
    have HG2 : Hid (w1.heap.size ≤ gn) := hg2
    have HO2 : Hid (CtOwn q2 (.slice an (Msg.ns (Msg.cms ms r.id view) 30).length cn) gn (Msg.ns (Msg.cms ms r.id view) 30)) := hO2
    clear hb hO2 hg2
    refine hK.out _ _ (by exact HS.out _ ⟨_, X2.out, Upd.refl _ _⟩) (fun hHeld2 => ?_)
    clear hK K
    refine tk 8 ⟨some 34, .build 40 #[(0, .const (.int .i64 4)), (1, .tmp 26), (2, .tmp 28), (5, .tmp 33)], 40, oz225, #[⟨0, .data⟩, ⟨2, .data⟩, ⟨7, .data⟩], none⟩ ?_
    refine tk 9 ⟨some 35, .build 42 #[(1, .tmp 34)], 42, oz225, #[⟨8, .data⟩], none⟩ ?_
    refine wpAnyH_ready (rs := [10]) (by kernel_rfl) (by simp) (AllReadyH.cons rfl (fun K hK => ?_) AllReadyH.nil)
    have HZ2 : Hid (ZBox q2 (w.heap.size + 1) [.int .i64 0, .int .i64 0, .int .i64 0, .int .i64 0, .int .i64 0, .int .i64 0, .slice none 0 0, .slice none 0 0]) := HZ1.out.ext X2.out
    obtain ⟨z0, n0⟩ := HZ2.out.2 0 _ rfl
    obtain ⟨z1, n1⟩ := HZ2.out.2 1 _ rfl
    obtain ⟨z2, n2⟩ := HZ2.out.2 2 _ rfl
    obtain ⟨z3, n3⟩ := HZ2.out.2 3 _ rfl
    obtain ⟨z4, n4⟩ := HZ2.out.2 4 _ rfl
    obtain ⟨z5, n5⟩ := HZ2.out.2 5 _ rfl
    obtain ⟨z6, n6⟩ := HZ2.out.2 6 _ rfl
    obtain ⟨z7, n7⟩ := HZ2.out.2 7 _ rfl
    go_simp
    refine hK.out _ _ (by exact HS.out _ ⟨_, X2.out, Upd.eight _ _ _ _ _ _ _ _ _ _⟩) (fun hHeld3 => ?_)
    clear hK K
    refine wpAnyH_done (by kernel_rfl) ?_ _
    go_wp2
    refine bodyPost_ret (v := mres 0 ⟨4, view, r.id, 0, 0, (Msg.ns (Msg.cms ms r.id view) 30), []⟩ (.slice an (Msg.ns (Msg.cms ms r.id view) 30).length cn) (.slice none 0 0)) (by simp [results, Tryz.results23, go_sem, mres, z0, z1, z2, z3, z4, z5, z6, z7]) rfl ?_
    refine ⟨_, _, rfl, ?_, (HE1.out.trans X2.out).eight _ (by omega) _ _ _ _ _ _ _ _⟩
    exact ⟨gn, w.heap.size, Nat.le_trans HE1.out.size HG2.out, Nat.le_refl _, fun _ h => absurd h (by simp [Msg.chM]), HO2.out.upd' (Upd.eight _ _ _ _ _ _ _ _ _ _) (fun _ => by have := HS1.out; have := HG2.out; omega), iown_nil _ _⟩
 ·have g1 : (Msg.repC f ms r != 0) = true := by simpa using hc
  rw [Msg.askC_bad hc, ansM_no hc]
  clear hc HC0 HG
  generalize Msg.repC f ms r = c at *
  go_enter Tryz.func23, Tryz.ntmps23
  go_wp2_with fail
  refine (HF.out _ _ (((Ext.refl _).alloc _).alloc _) ((rbox_new _ _ _).ext ((Ext.refl _).alloc _))).mono ?_
  rintro e w1 ⟨rfl, hb⟩
  have HB1 : Hid (RpAt w1 w.heap.size r) := ((rbox_new w r _).ext ((Ext.refl _).alloc _)).ext hb
  have hZ0 := (zbox_new (w.alloc (.cells #[.int .i64 r.id, .int .i64 r.view, .int .i64 r.start, .int .i64 r.done] 29)) [.int .i64 0, .int .i64 0, .int .i64 0, .int .i64 0, .int .i64 0, .int .i64 0, .slice none 0 0, .slice none 0 0] 42).ext hb
  have HZ1 : Hid (ZBox w1 (w.heap.size + 1) [.int .i64 0, .int .i64 0, .int .i64 0, .int .i64 0, .int .i64 0, .int .i64 0, .slice none 0 0, .slice none 0 0]) := by (try simp only [World.size_alloc] at hZ0); exact hZ0
  have HE1 : Hid (Ext w w1) := (((Ext.refl _).alloc _).alloc _).trans hb
  have HS1 : Hid (w.heap.size + 1 < w1.heap.size) := HZ1.out.1
  clear hb hZ0
  obtain ⟨z0, n0⟩ := HZ1.out.2 0 _ rfl
  obtain ⟨z1, n1⟩ := HZ1.out.2 1 _ rfl
  obtain ⟨z2, n2⟩ := HZ1.out.2 2 _ rfl
  obtain ⟨z3, n3⟩ := HZ1.out.2 3 _ rfl
  obtain ⟨z4, n4⟩ := HZ1.out.2 4 _ rfl
  obtain ⟨z5, n5⟩ := HZ1.out.2 5 _ rfl
  obtain ⟨z6, n6⟩ := HZ1.out.2 6 _ rfl
  obtain ⟨z7, n7⟩ := HZ1.out.2 7 _ rfl
  go_wp2
  refine bodyPost_ret (v := mres (c) zeroM (.slice none 0 0) (.slice none 0 0)) (by simp [results, Tryz.results23, go_sem, mres, zeroM, z0, z1, z2, z3, z4, z5, z6, z7]) rfl ?_
  exact ⟨_, _, rfl, KM.zero _ _, HE1.out.eight _ (by omega) _ _ _ _ _ _ _ _⟩
end Go.Proofs.YtecgjdgfjgcmdaaGreat
