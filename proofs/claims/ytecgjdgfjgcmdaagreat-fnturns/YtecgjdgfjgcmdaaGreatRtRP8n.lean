/- begin; both NewMsgs. -/
import Derived.Test.YtecgjdgfjgcmdaaGreatRtRP8c
import Derived.Test.YtecgjdgfjgcmdaaGreatRtG9
import Derived.Test.YtecgjdgfjgcmdaaGreatRtTk
namespace Go.Proofs.YtecgjdgfjgcmdaaGreat
open Go.RowKit
set_option linter.unusedSimpArgs false in
set_option maxHeartbeats 8000000 in
set_option maxRecDepth 100000 in
theorem begin_any (f : Int) (v : Value) (ms : List Ms) (r : Rp) (u : Value) (L : List Int) (w : World) (hS : MSlice w v ms) (hI : ISlice w u L) (hrep : Msg.repC f ms r = 0) :
  Calls Tryz.prog 69 #[sagg r f v (Msg.inV r) u] w (Said (KM (Msg.nwM f ms r)) (Msg.newC f ms r) (Msg.nwM f ms r) w) := by
 have hled := Msg.repC_led hrep
 obtain ⟨hf0, hf1, hml⟩ := Msg.ledger_zero hled
 have hrf := Msg.repF_zero (by rw [← Msg.repC_ok hled]; exact hrep)
 have hvw := hrf.2.1
 clear hrf hrep
 obtain ⟨au, cu, rfl, -, -, -⟩ := hI
 have HCh : Hid (∀ wx, Ext w wx → Calls Tryz.prog 122 #[.int .i64 f, v, .int .i64 r.view] wx fun e w' => ∃ vo g, e = .returned vo ∧ wx.heap.size ≤ g ∧ Led.IOwn w' vo g (Msg.refsN f ms r) ∧ Ext wx w') := fun wx he => changesFor_any f r.view v ms wx (hS.ext he) hled
 have HQ : Hid (∀ wx, Calls Tryz.prog 90 #[.int .i64 f] wx fun e w' => e = .returned (.int .i64 (2 * f + 1)) ∧ w' = wx) := fun wx => quorumOf_any f wx hf0 hf1
 obtain ⟨a, cap, rfl, -, -, -⟩ := hS
 have HP0 : Hid (∀ bb, decide (r.id = Msg.primary f r.view) = bb → ∀ bg wx, Calls Tryz.prog 109 #[sagg r f (.slice a ms.length cap) bg (.slice au L.length cu)] wx fun e w' => e = .returned (.bool bb) ∧ Ext wx w') := fun bb h bg wx => spkPrimary_any r f a ms.length cap bg au L.length cu bb wx hf0 hf1 hvw h
 have hrl := Msg.refsN_len (f := f) (ms := ms) (r := r) hf0
 clear hml hled hvw
 unfold sagg at *
 cases h3 : Msg.inV r with
 | true =>
  have HR : Hid (Msg.newC f ms r = 8) := by show _ = _; unfold Msg.newC; rw [h3]; rfl
  clear h3 HP0 HCh HQ hrl hf0 hf1
  go_enter Tryz.func69, Tryz.ntmps69
  go_wp2_with fail
  refine (refuse_yes _ _).mono ?_
  rintro e w9 ⟨rfl, hw⟩
  unfold refused
  rw [hw]
  clear hw w9
  go_wp2
  exact ⟨rfl, (((Ext.refl _).alloc _).alloc _), Or.inl ⟨by rw [HR.out]; decide, by rw [HR.out]; rfl⟩⟩
 | false =>
  cases h4 : decide (r.id = Msg.primary f r.view) with
  | false =>
   have HR : Hid (Msg.newC f ms r = 8) := by show _ = _; unfold Msg.newC; rw [h3, h4]; rfl
   have HP : Hid _ := HP0.out false h4 false
   clear h3 h4 HP0 HCh HQ hrl hf0 hf1
   go_enter Tryz.func69, Tryz.ntmps69
   go_wp2_with fail
   refine (HP.out _).mono ?_
   rintro e w1 ⟨rfl, hb⟩
   have HB1 : Hid (SpAt w1 w.heap.size r f (.slice a ms.length cap) false (.slice au L.length cu)) := ((spk_new w r f (.slice a ms.length cap) false (.slice au L.length cu) 76).ext ((Ext.refl _).alloc _)).ext hb
   have hZ0 := (zbox_new (w.alloc (.cells #[.int .i64 r.id, .int .i64 r.view, .int .i64 r.start, .int .i64 r.done, .int .i64 f, .slice a ms.length cap, .bool false, .slice au L.length cu] 76)) [.int .i64 0, .int .i64 0, .int .i64 0, .int .i64 0, .int .i64 0, .slice none 0 0, .slice none 0 0] 40).ext hb
   have HZ1 : Hid (ZBox w1 (w.heap.size + 1) [.int .i64 0, .int .i64 0, .int .i64 0, .int .i64 0, .int .i64 0, .slice none 0 0, .slice none 0 0]) := by (try simp only [World.size_alloc] at hZ0); exact hZ0
   have HE1 : Hid (Ext w w1) := (((Ext.refl _).alloc _).alloc _).trans hb
   clear hZ0
   have HS1 : Hid (w.heap.size + 1 < w1.heap.size) := HZ1.out.1
   clear hb
   go_wp2_with fail
   refine (refuse_yes _ _).mono ?_
   rintro e w9 ⟨rfl, hw⟩
   unfold refused
   rw [hw]
   clear hw w9
   go_wp2
   exact ⟨rfl, HE1.out, Or.inl ⟨by rw [HR.out]; decide, by rw [HR.out]; rfl⟩⟩
  | true =>
   have HP : Hid _ := HP0.out true h4 false
   by_cases h5 : ((Msg.refsN f ms r).length : Int) < 2 * f + 1
   ·have HR : Hid (Msg.newC f ms r = 10) := by show _ = _; unfold Msg.newC; rw [h3, h4, if_neg (by decide), if_pos h5]
    clear h3 h4 HP0
    go_enter Tryz.func69, Tryz.ntmps69
    go_wp2_with fail
    refine (HP.out _).mono ?_
    rintro e w1 ⟨rfl, hb⟩
    have HB1 : Hid (SpAt w1 w.heap.size r f (.slice a ms.length cap) false (.slice au L.length cu)) := ((spk_new w r f (.slice a ms.length cap) false (.slice au L.length cu) 76).ext ((Ext.refl _).alloc _)).ext hb
    have hZ0 := (zbox_new (w.alloc (.cells #[.int .i64 r.id, .int .i64 r.view, .int .i64 r.start, .int .i64 r.done, .int .i64 f, .slice a ms.length cap, .bool false, .slice au L.length cu] 76)) [.int .i64 0, .int .i64 0, .int .i64 0, .int .i64 0, .int .i64 0, .slice none 0 0, .slice none 0 0] 40).ext hb
    have HZ1 : Hid (ZBox w1 (w.heap.size + 1) [.int .i64 0, .int .i64 0, .int .i64 0, .int .i64 0, .int .i64 0, .slice none 0 0, .slice none 0 0]) := by (try simp only [World.size_alloc] at hZ0); exact hZ0
    have HE1 : Hid (Ext w w1) := (((Ext.refl _).alloc _).alloc _).trans hb
    clear hZ0
    have HS1 : Hid (w.heap.size + 1 < w1.heap.size) := HZ1.out.1
    clear hb
    go_wp2_with fail
    refine (refuse_no _ _).mono ?_
    rintro e w9 ⟨rfl, hw⟩
    rw [hw]
    clear hw w9
    obtain ⟨-, x0, x1, x2, x3, x4, x5, x6, x7⟩ := HB1.out
    go_wp2_with fail
    refine (HCh.out _ HE1.out).mono ?_
    rintro e w2 ⟨vn, gn, rfl, hg2, hO2, hb⟩
    have HB2 : Hid (SpAt w2 w.heap.size r f (.slice a ms.length cap) false (.slice au L.length cu)) := HB1.out.ext hb
    have HZ2 : Hid (ZBox w2 (w.heap.size + 1) [.int .i64 0, .int .i64 0, .int .i64 0, .int .i64 0, .int .i64 0, .slice none 0 0, .slice none 0 0]) := HZ1.out.ext hb
    have HE2 : Hid (Ext w w2) := HE1.out.trans hb
    have HG2 : Hid (w.heap.size ≤ gn ∧ w.heap.size + 1 < gn) := ⟨Nat.le_trans HE1.out.size hg2, Nat.lt_of_lt_of_le HS1.out hg2⟩
    obtain ⟨an, cn, rfl, hlc, hcm, -⟩ := id hO2
    unfold maxLen at hcm
    have HO2 : Hid (Led.IOwn w2 (.slice an (Msg.refsN f ms r).length cn) gn (Msg.refsN f ms r)) := hO2
    clear hb hO2 hg2 HB1 HZ1 HE1 x0 x1 x2 x3 x4 x5 x6 x7
    obtain ⟨-, x0, x1, x2, x3, x4, x5, x6, x7⟩ := HB2.out
    go_wp2_with fail
    refine (HQ.out _).mono ?_
    rintro e w9 ⟨rfl, hw⟩
    rw [hw]
    clear hw w9
    go_wp2_with fail
    try rw [show decide (((Msg.refsN f ms r).length : Int) < 2 * f + 1) = true from decide_eq_true (by omega)]
    refine (refuse_yes _ _).mono ?_
    rintro e w9 ⟨rfl, hw⟩
    unfold refused
    rw [hw]
    clear hw w9
    go_wp2
    exact ⟨rfl, HE2.out, Or.inl ⟨by rw [HR.out]; decide, by rw [HR.out]; rfl⟩⟩
   ·have HR : Hid (Msg.newC f ms r = 0) := by show _ = _; unfold Msg.newC; rw [h3, h4, if_neg (by decide), if_neg h5]
    clear h3 h4 HP0
    go_enter Tryz.func69, Tryz.ntmps69
    go_wp2_with fail
    refine (HP.out _).mono ?_
    rintro e w1 ⟨rfl, hb⟩
    have HB1 : Hid (SpAt w1 w.heap.size r f (.slice a ms.length cap) false (.slice au L.length cu)) := ((spk_new w r f (.slice a ms.length cap) false (.slice au L.length cu) 76).ext ((Ext.refl _).alloc _)).ext hb
    have hZ0 := (zbox_new (w.alloc (.cells #[.int .i64 r.id, .int .i64 r.view, .int .i64 r.start, .int .i64 r.done, .int .i64 f, .slice a ms.length cap, .bool false, .slice au L.length cu] 76)) [.int .i64 0, .int .i64 0, .int .i64 0, .int .i64 0, .int .i64 0, .slice none 0 0, .slice none 0 0] 40).ext hb
    have HZ1 : Hid (ZBox w1 (w.heap.size + 1) [.int .i64 0, .int .i64 0, .int .i64 0, .int .i64 0, .int .i64 0, .slice none 0 0, .slice none 0 0]) := by (try simp only [World.size_alloc] at hZ0); exact hZ0
    have HE1 : Hid (Ext w w1) := (((Ext.refl _).alloc _).alloc _).trans hb
    clear hZ0
    have HS1 : Hid (w.heap.size + 1 < w1.heap.size) := HZ1.out.1
    clear hb
    go_wp2_with fail
    refine (refuse_no _ _).mono ?_
    rintro e w9 ⟨rfl, hw⟩
    rw [hw]
    clear hw w9
    obtain ⟨-, x0, x1, x2, x3, x4, x5, x6, x7⟩ := HB1.out
    go_wp2_with fail
    refine (HCh.out _ HE1.out).mono ?_
    rintro e w2 ⟨vn, gn, rfl, hg2, hO2, hb⟩
    have HB2 : Hid (SpAt w2 w.heap.size r f (.slice a ms.length cap) false (.slice au L.length cu)) := HB1.out.ext hb
    have HZ2 : Hid (ZBox w2 (w.heap.size + 1) [.int .i64 0, .int .i64 0, .int .i64 0, .int .i64 0, .int .i64 0, .slice none 0 0, .slice none 0 0]) := HZ1.out.ext hb
    have HE2 : Hid (Ext w w2) := HE1.out.trans hb
    have HG2 : Hid (w.heap.size ≤ gn ∧ w.heap.size + 1 < gn) := ⟨Nat.le_trans HE1.out.size hg2, Nat.lt_of_lt_of_le HS1.out hg2⟩
    obtain ⟨an, cn, rfl, hlc, hcm, -⟩ := id hO2
    unfold maxLen at hcm
    have HO2 : Hid (Led.IOwn w2 (.slice an (Msg.refsN f ms r).length cn) gn (Msg.refsN f ms r)) := hO2
    clear hb hO2 hg2 HB1 HZ1 HE1 x0 x1 x2 x3 x4 x5 x6 x7
    obtain ⟨-, x0, x1, x2, x3, x4, x5, x6, x7⟩ := HB2.out
    go_wp2_with fail
    refine (HQ.out _).mono ?_
    rintro e w9 ⟨rfl, hw⟩
    rw [hw]
    clear hw w9
    clear x0 x1 x2 x3 x4 x5 x6 x7
    go_wp2_with fail
    try rw [show decide (((Msg.refsN f ms r).length : Int) < 2 * f + 1) = false from decide_eq_false (by omega)]
    refine (refuse_no _ _).mono ?_
    rintro e w9 ⟨rfl, hw⟩
    rw [hw]
    clear hw w9
    obtain ⟨-, x0, x1, x2, x3, x4, x5, x6, x7⟩ := HB2.out
    obtain ⟨z0, n0⟩ := HZ2.out.2 0 _ rfl
    obtain ⟨z1, n1⟩ := HZ2.out.2 1 _ rfl
    obtain ⟨z2, n2⟩ := HZ2.out.2 2 _ rfl
    obtain ⟨z3, n3⟩ := HZ2.out.2 3 _ rfl
    obtain ⟨z4, n4⟩ := HZ2.out.2 4 _ rfl
    obtain ⟨z5, n5⟩ := HZ2.out.2 5 _ rfl
    obtain ⟨z6, n6⟩ := HZ2.out.2 6 _ rfl
    go_wp2
    refine bodyPost_ret (v := magg ⟨5, r.view, r.id, 0, 0, [], (Msg.refsN f ms r)⟩ (.slice none 0 0) (.slice an (Msg.refsN f ms r).length cn)) (by simp [results, Tryz.results69, go_sem, magg, z0, z1, z2, z3, z4, z5, z6]) rfl ?_
    refine ⟨HE2.out.seven _ (by omega) _ _ _ _ _ _ _, Or.inr ⟨HR.out, _, _, _, _, _, _, rfl, ?_⟩⟩
    exact ⟨w.heap.size, gn, Nat.le_refl _, HG2.out.1, fun h => absurd h (by simp [Msg.nwM]), ctown_nil _ _, HO2.out.upd' (Upd.seven _ _ _ _ _ _ _ _ _) (fun _ => by have := HG2.out.2; omega)⟩
set_option linter.unusedSimpArgs false in
set_option maxHeartbeats 8000000 in
set_option maxRecDepth 100000 in
theorem newMsg1_any (f : Int) (v : Value) (ms : List Ms) (r : Rp) (u : Value) (L : List Int) (w : World) (hS : MSlice w v ms) (hI : ISlice w u L) (hrep : Msg.repC f ms r = 0) :
  Calls Tryz.prog 68 #[sagg r f v (Msg.inV r) u] w (Said (KM (Msg.nwM f ms r)) (Msg.newC f ms r) (Msg.nwM f ms r) w) := by
 have HC : Hid (∀ wx, Ext w wx → Calls Tryz.prog 69 #[sagg r f v (Msg.inV r) u] wx (Said (KM (Msg.nwM f ms r)) (Msg.newC f ms r) (Msg.nwM f ms r) wx)) := fun wx he => begin_any f v ms r u L  wx (hS.ext he) (hI.ext he) hrep
 clear hrep
 obtain ⟨a, cap, rfl, -, -, -⟩ := hS
 obtain ⟨au, cu, rfl, -, -, -⟩ := hI
 unfold sagg at *
 generalize Msg.newC f ms r = cc at *
 generalize Msg.nwM f ms r = md at *
 generalize Msg.inV r = bg at *
 go_enter Tryz.func68, Tryz.ntmps68
 have hal := alloc_cell
 go_wp2_with fail
 refine (HC.out _ (((Ext.refl _).alloc _).alloc _)).mono ?_
 rintro e w1 ⟨hb, hh⟩
 have hZ0 := (zbox_new (w.alloc (.cells #[.int .i64 r.id, .int .i64 r.view, .int .i64 r.start, .int .i64 r.done, .int .i64 f, .slice a ms.length cap, .bool bg, .slice au L.length cu] 76)) [.int .i64 0, .int .i64 0, .int .i64 0, .int .i64 0, .int .i64 0, .slice none 0 0, .slice none 0 0] 40).ext hb
 have HZ : Hid (ZBox w1 (w.heap.size + 1) [.int .i64 0, .int .i64 0, .int .i64 0, .int .i64 0, .int .i64 0, .slice none 0 0, .slice none 0 0]) := by (try simp only [World.size_alloc] at hZ0); exact hZ0
 have HE : Hid (Ext w w1) := (((Ext.refl _).alloc _).alloc _).trans hb
 have HX : Hid (w.heap.size + 1 < (((w.alloc (.cells #[.int .i64 r.id, .int .i64 r.view, .int .i64 r.start, .int .i64 r.done, .int .i64 f, .slice a ms.length cap, .bool bg, .slice au L.length cu] 76)).alloc (.cells #[.int .i64 0, .int .i64 0, .int .i64 0, .int .i64 0, .int .i64 0, .slice none 0 0, .slice none 0 0] 40))).heap.size) := by show _ < _; simp
 rcases hh with ⟨hn, rfl⟩ | ⟨hn, az, nz, cz, ax, nx, cx, rfl, hk⟩
 ·have HN : Hid (¬ cc = 0) := hn
  clear hn hb hZ0 hal
  unfold refused
  go_wp2
  exact ⟨rfl, HE.out, Or.inl ⟨HN.out, rfl⟩⟩
 ·have HN : Hid (cc = 0) := hn
  have HK : Hid (∀ W, Upd (w.heap.size + 1) w1 W → KM md w W (.slice az nz cz) (.slice ax nx cx)) := fun W hu => (KM_kept md _ _ _ _ _ _ HX.out hu hk).old (((Ext.refl _).alloc _).alloc _)
  clear hn hb hZ0 hal hk HX
  unfold magg
  obtain ⟨z0, n0⟩ := HZ.out.2 0 _ rfl
  obtain ⟨z1, n1⟩ := HZ.out.2 1 _ rfl
  obtain ⟨z2, n2⟩ := HZ.out.2 2 _ rfl
  obtain ⟨z3, n3⟩ := HZ.out.2 3 _ rfl
  obtain ⟨z4, n4⟩ := HZ.out.2 4 _ rfl
  obtain ⟨z5, n5⟩ := HZ.out.2 5 _ rfl
  obtain ⟨z6, n6⟩ := HZ.out.2 6 _ rfl
  go_wp2
  refine bodyPost_ret (v := magg md (.slice az nz cz) (.slice ax nx cx)) (by simp [results, Tryz.results68, go_sem, magg, z0, z1, z2, z3, z4, z5, z6]) rfl ?_
  exact ⟨HE.out.seven _ (by omega) _ _ _ _ _ _ _, Or.inr ⟨HN.out, _, _, _, _, _, _, rfl, HK.out _ (Upd.seven _ _ _ _ _ _ _ _ _)⟩⟩

set_option linter.unusedSimpArgs false in
set_option maxHeartbeats 8000000 in
set_option maxRecDepth 100000 in
theorem implNewMsg_any (f : Int) (v : Value) (ms : List Ms) (r : Rp) (w : World) (hS : MSlice w v ms) :
  Calls Tryz.prog 30 #[.int .i64 f, v, ragg r] w (MgRet w (Msg.askC f ms r (Msg.newC f ms r)) (ansM (Msg.askC f ms r (Msg.newC f ms r)) (Msg.nwM f ms r))) := by
 have HH : Hid (∀ wx, Ext w wx → Calls Tryz.prog 45 #[.int .i64 f, v, ragg r, .func (.func 68) #[] #[]] wx (MgRet wx (Msg.askC f ms r (Msg.newC f ms r)) (ansM (Msg.askC f ms r (Msg.newC f ms r)) (Msg.nwM f ms r)))) := fun  wx he  => by
  refine (hear_any f v ms r 68 #[] (Msg.newC f ms r) (Msg.nwM f ms r) (KM (Msg.nwM f ms r)) wx (hS.ext he) (KM_kept _) (fun _ _ => by kernel_rfl) (fun h u wy hy hI => newMsg1_any f v ms r u _   wy ((hS.ext he).ext hy) hI h)).mono ?_
  intro e w' h
  exact MgRet.of h
 have hmf : ∀ (fn : Fn) (first cap : Array Value) (w : World), (Instr.makeFunc fn first cap).run Tryz.prog w = .ok (.func fn first cap) w := fun _ _ _ _ => rfl
 obtain ⟨a, cap, rfl, -, -, -⟩ := hS
 unfold ragg at *
 generalize ansM (Msg.askC f ms r (Msg.newC f ms r)) (Msg.nwM f ms r) = md at *
 generalize Msg.askC f ms r (Msg.newC f ms r) = cc at *
 go_enter Tryz.func30, Tryz.ntmps30
 go_wp2_with fail
 refine (HH.out  _ (((Ext.refl _).alloc _).alloc _)).mono ?_
 rintro e w1 ⟨x, y, rfl, hk, hb⟩
 have hZ0 := (zbox_new (w.alloc (.cells #[.int .i64 r.id, .int .i64 r.view, .int .i64 r.start, .int .i64 r.done] 29)) [.int .i64 0, .int .i64 0, .int .i64 0, .int .i64 0, .int .i64 0, .int .i64 0, .slice none 0 0, .slice none 0 0] 42).ext hb
 have HZ : Hid (ZBox w1 (w.heap.size + 1) [.int .i64 0, .int .i64 0, .int .i64 0, .int .i64 0, .int .i64 0, .int .i64 0, .slice none 0 0, .slice none 0 0]) := by (try simp only [World.size_alloc] at hZ0); exact hZ0
 have HE : Hid (Ext w w1) := (((Ext.refl _).alloc _).alloc _).trans hb
 have HX : Hid (w.heap.size + 1 < ((w.alloc (.cells #[.int .i64 r.id, .int .i64 r.view, .int .i64 r.start, .int .i64 r.done] 29)).alloc (.cells #[.int .i64 0, .int .i64 0, .int .i64 0, .int .i64 0, .int .i64 0, .int .i64 0, .slice none 0 0, .slice none 0 0] 42)).heap.size) := by show _ < _; simp
 have HK : Hid (∀ W, Upd (w.heap.size + 1) w1 W → KM md w W x y) := fun W hu => (KM_kept md _ _ _ _ _ _ HX.out hu hk).old (((Ext.refl _).alloc _).alloc _)
 obtain ⟨g1, g2, -, -, -, k1, k2⟩ := id hk
 obtain ⟨a1, c1, rfl, -⟩ := id k1
 obtain ⟨a2, c2, rfl, -⟩ := id k2
 clear hb hZ0 hk HX k1 k2
 unfold mres
 obtain ⟨z0, n0⟩ := HZ.out.2 0 _ rfl
 obtain ⟨z1, n1⟩ := HZ.out.2 1 _ rfl
 obtain ⟨z2, n2⟩ := HZ.out.2 2 _ rfl
 obtain ⟨z3, n3⟩ := HZ.out.2 3 _ rfl
 obtain ⟨z4, n4⟩ := HZ.out.2 4 _ rfl
 obtain ⟨z5, n5⟩ := HZ.out.2 5 _ rfl
 obtain ⟨z6, n6⟩ := HZ.out.2 6 _ rfl
 obtain ⟨z7, n7⟩ := HZ.out.2 7 _ rfl
 go_wp2
 refine bodyPost_ret (v := mres cc md (.slice a1 md.certs.length c1) (.slice a2 md.refs.length c2)) (by simp [results, Tryz.results30, go_sem, mres, z0, z1, z2, z3, z4, z5, z6, z7]) rfl ?_
 exact ⟨_, _, rfl, HK.out _ (Upd.eight _ _ _ _ _ _ _ _ _ _), HE.out.eight _ (by omega) _ _ _ _ _ _ _ _⟩

set_option linter.unusedSimpArgs false in
set_option maxHeartbeats 8000000 in
set_option maxRecDepth 100000 in
theorem specNewMsg_any (f : Int) (v : Value) (ms : List Ms) (r : Rp) (w : World) (hS : MSlice w v ms) :
  Calls Tryz.prog 29 #[.int .i64 f, v, ragg r] w (MgRet w (Msg.askC f ms r (Msg.newC f ms r)) (ansM (Msg.askC f ms r (Msg.newC f ms r)) (Msg.nwM f ms r))) := by
 have HF : Hid (∀ wx b, Ext w wx → RpAt wx b r → Calls Tryz.prog 43 #[.int .i64 f, v, .pointer (some ⟨b, 0, none⟩)] wx fun e w' => e = .returned (.int .i64 (Msg.repC f ms r)) ∧ Ext wx w') := fun wx b he h => l11Asked_any f v ms r b wx (hS.ext he) h
 have HCh0 : Hid (1 ≤ f → f ≤ 2 → ms.length ≤ 240 → ∀ wx, Ext w wx → Calls Tryz.prog 66 #[.int .i64 f, v, .int .i64 r.view] wx fun e w' => ∃ vo g, e = .returned vo ∧ wx.heap.size ≤ g ∧ Led.IOwn w' vo g (Msg.refsN f ms r) ∧ Ext wx w') := fun h1 h2 h3 wx he => l10Changes_any f v ms r.view wx (hS.ext he) h1 h2 h3
 obtain ⟨a, cap, rfl, -, -, -⟩ := hS
 unfold ragg
 by_cases hc : Msg.repC f ms r = 0
 ·have hled := Msg.repC_led hc
  obtain ⟨hf0, hf1, hml⟩ := Msg.ledger_zero hled
  have hrf := Msg.repF_zero (by rw [← Msg.repC_ok hled]; exact hc)
  have hvw := hrf.2.1
  have hrl := Msg.refsN_len (f := f) (ms := ms) (r := r) hf0
  rw [Msg.askC_ok hc]
  rw [hc] at HF
  have HCh : Hid _ := HCh0.out hf0 hf1 hml
  have HQ : Hid (∀ wx, Calls Tryz.prog 67 #[.int .i64 f] wx fun e w' => e = .returned (.int .i64 (2 * f + 1)) ∧ w' = wx) := fun wx => l9Need_any f wx hf0 hf1
  have HP : Hid (∀ wx, Calls Tryz.prog 65 #[.int .i64 f, .int .i64 r.view] wx fun e w' => e = .returned (.int .i64 (Msg.primary f r.view)) ∧ w' = wx) := fun wx => l9Primary_any f r.view wx hf0 hf1 hvw.1 hvw.2
  clear hrf hled hc HCh0 hml hvw
  by_cases h1 : r.view = 0
  ·rw [show Msg.newC f ms r = 8 from by unfold Msg.newC Msg.inV; rw [if_pos (by simp [h1])], ansM_no (by decide)]
   have g1 : (r.view == 0) = true := by simpa using h1
   clear h1 HCh HQ HP hrl hf0 hf1
   go_enter Tryz.func29, Tryz.ntmps29
   go_wp2_with fail
   refine (HF.out _ _ (((Ext.refl _).alloc _).alloc _) ((rbox_new _ _ _).ext ((Ext.refl _).alloc _))).mono ?_
   rintro e w1 ⟨rfl, hb⟩
   have HB1 : Hid (RpAt w1 w.heap.size r) := ((rbox_new w r _).ext ((Ext.refl _).alloc _)).ext hb
   have hZ0 := (zbox_new (w.alloc (.cells #[.int .i64 r.id, .int .i64 r.view, .int .i64 r.start, .int .i64 r.done] 29)) [.int .i64 0, .int .i64 0, .int .i64 0, .int .i64 0, .int .i64 0, .int .i64 0, .slice none 0 0, .slice none 0 0] 42).ext hb
   have HZ1 : Hid (ZBox w1 (w.heap.size + 1) [.int .i64 0, .int .i64 0, .int .i64 0, .int .i64 0, .int .i64 0, .int .i64 0, .slice none 0 0, .slice none 0 0]) := by (try simp only [World.size_alloc] at hZ0); exact hZ0
   have HE1 : Hid (Ext w w1) := (((Ext.refl _).alloc _).alloc _).trans hb
   have HS1 : Hid (w.heap.size + 1 < w1.heap.size) := HZ1.out.1
   clear hb hZ0
   have HS : Hid (∀ W', Ext w1 W' → W'.cell? ⟨w.heap.size, 0, none⟩ = some (.int .i64 r.id) ∧ W'.cell? ⟨w.heap.size, 1, none⟩ = some (.int .i64 r.view) ∧ W'.cell? ⟨w.heap.size, 2, none⟩ = some (.int .i64 r.start)) := fun W' he => ⟨(HB1.out.ext he).2.1, (HB1.out.ext he).2.2.1, (HB1.out.ext he).2.2.2.1⟩
   go_wp2
   refine wp_region_held_drew (S := (fun W' : World => W'.cell? ⟨w.heap.size, 0, none⟩ = some (.int .i64 r.id) ∧ W'.cell? ⟨w.heap.size, 1, none⟩ = some (.int .i64 r.view) ∧ W'.cell? ⟨w.heap.size, 2, none⟩ = some (.int .i64 r.start))) (by kernel_rfl) (HS.out _ ((Ext.refl _).drew)) (fun hHeld => ?_)
   refine tk 0 ⟨some 16, .fieldAddr 29 (.tmp 5) 1, 0, oz226, #[], none⟩ ?_
   refine tk 1 ⟨some 17, .load 2 (.tmp 16), 2, oz226, #[⟨0, .data⟩], none⟩ ?_
   refine tk 2 ⟨some 18, .binOp .eql 2 (.tmp 17) (.const (.int .i64 0)) 2, 4, oz226, #[⟨1, .data⟩], none⟩ ?_
   refine tk 3 ⟨some 19, .move (.tmp 18), 4, oz226, #[⟨2, .data⟩], none⟩ ?_
   refine tn 4 ⟨some 20, .fieldAddr 29 (.tmp 5) 0, 0, oz226, #[⟨3, .guard⟩], some (3, false)⟩ ?_
   refine tn 5 ⟨some 21, .load 2 (.tmp 20), 2, oz226, oy161, some (3, false)⟩ ?_
   refine tn 6 ⟨some 22, .move (.tmp 0), 2, oz226, #[⟨3, .guard⟩], some (3, false)⟩ ?_
   refine tn 7 ⟨some 23, .fieldAddr 29 (.tmp 5) 1, 0, oz226, #[⟨3, .guard⟩], some (3, false)⟩ ?_
   refine tn 8 ⟨some 24, .load 2 (.tmp 23), 2, oz226, oy162, some (3, false)⟩ ?_
   refine tn 9 ⟨some 25, .call ⟨.value (.func 65), #[.tmp 22, .tmp 24], #[2, 2]⟩, 2, oz226, #[⟨6, .data⟩, ⟨8, .data⟩, ⟨3, .chain⟩, ⟨3, .guard⟩], some (3, false)⟩ ?_
   refine tn 10 ⟨some 26, .binOp .neq 2 (.tmp 21) (.tmp 25) 2, 4, oz226, oy227, some (3, false)⟩ ?_
   refine tk 11 ⟨some 27, .pick (.tmp 19) (.const (.bool true)) (.tmp 26), 4, oz226, oy228, none⟩ ?_
   refine tk 12 ⟨some 28, .move (.tmp 27), 4, oz226, oy63, none⟩ ?_
   refine tn 13 ⟨some 29, .fieldAddr 29 (.tmp 5) 2, 0, oz226, oy149, some (12, false)⟩ ?_
   refine tn 14 ⟨some 30, .load 2 (.tmp 29), 2, oz226, oy150, some (12, false)⟩ ?_
   refine tn 15 ⟨some 31, .binOp .neq 2 (.tmp 30) (.const (.int .i64 (-1))) 2, 4, oz226, oy151, some (12, false)⟩ ?_
   refine tk 16 ⟨some 32, .pick (.tmp 28) (.const (.bool true)) (.tmp 31), 4, oz226, oy229, none⟩ ?_
   refine wpAnyH_done (by kernel_rfl) ?_ _
   have HB2 : Hid (RpAt w1.drew w.heap.size r) := HB1.out.ext ((Ext.refl _).drew)
   have HZ2 : Hid (ZBox w1.drew (w.heap.size + 1) [.int .i64 0, .int .i64 0, .int .i64 0, .int .i64 0, .int .i64 0, .int .i64 0, .slice none 0 0, .slice none 0 0]) := HZ1.out.ext ((Ext.refl _).drew)
   have HE2 : Hid (Ext w w1.drew) := HE1.out.drew
   have HS2 : Hid (w.heap.size + 1 < w1.drew.heap.size) := HZ2.out.1
   clear HB1 HZ1 HE1 HS HS1
   generalize w1.drew = w2 at *
   obtain ⟨z0, n0⟩ := HZ2.out.2 0 _ rfl
   obtain ⟨z1, n1⟩ := HZ2.out.2 1 _ rfl
   obtain ⟨z2, n2⟩ := HZ2.out.2 2 _ rfl
   obtain ⟨z3, n3⟩ := HZ2.out.2 3 _ rfl
   obtain ⟨z4, n4⟩ := HZ2.out.2 4 _ rfl
   obtain ⟨z5, n5⟩ := HZ2.out.2 5 _ rfl
   obtain ⟨z6, n6⟩ := HZ2.out.2 6 _ rfl
   obtain ⟨z7, n7⟩ := HZ2.out.2 7 _ rfl
   go_wp2
   refine bodyPost_ret (v := mres (8) zeroM (.slice none 0 0) (.slice none 0 0)) (by simp [results, Tryz.results29, go_sem, mres, zeroM, z0, z1, z2, z3, z4, z5, z6, z7]) rfl ?_
   exact ⟨_, _, rfl, KM.zero _ _, HE2.out.eight _ (by omega) _ _ _ _ _ _ _ _⟩
  ·have g1 : (r.view == 0) = false := by simpa using h1
   by_cases h2 : r.id = Msg.primary f r.view
   ·have g2 : (r.id != Msg.primary f r.view) = false := by simpa using h2
    by_cases h3 : r.start = -1
    ·have g3 : (r.start != -1) = false := by simpa using h3
     by_cases h5 : ((Msg.refsN f ms r).length : Int) < 2 * f + 1
     ·rw [show Msg.newC f ms r = 10 from by unfold Msg.newC Msg.inV; rw [if_neg (by simp [h1, h2, h3]), if_pos h5], ansM_no (by decide)]
      clear h1 h2 h3
      generalize Msg.primary f r.view = pr at *
      go_enter Tryz.func29, Tryz.ntmps29
      go_wp2_with fail
      refine (HF.out _ _ (((Ext.refl _).alloc _).alloc _) ((rbox_new _ _ _).ext ((Ext.refl _).alloc _))).mono ?_
      rintro e w1 ⟨rfl, hb⟩
      have HB1 : Hid (RpAt w1 w.heap.size r) := ((rbox_new w r _).ext ((Ext.refl _).alloc _)).ext hb
      have hZ0 := (zbox_new (w.alloc (.cells #[.int .i64 r.id, .int .i64 r.view, .int .i64 r.start, .int .i64 r.done] 29)) [.int .i64 0, .int .i64 0, .int .i64 0, .int .i64 0, .int .i64 0, .int .i64 0, .slice none 0 0, .slice none 0 0] 42).ext hb
      have HZ1 : Hid (ZBox w1 (w.heap.size + 1) [.int .i64 0, .int .i64 0, .int .i64 0, .int .i64 0, .int .i64 0, .int .i64 0, .slice none 0 0, .slice none 0 0]) := by (try simp only [World.size_alloc] at hZ0); exact hZ0
      have HE1 : Hid (Ext w w1) := (((Ext.refl _).alloc _).alloc _).trans hb
      have HS1 : Hid (w.heap.size + 1 < w1.heap.size) := HZ1.out.1
      clear hb hZ0
      have HS : Hid (∀ W', Ext w1 W' → W'.cell? ⟨w.heap.size, 0, none⟩ = some (.int .i64 r.id) ∧ W'.cell? ⟨w.heap.size, 1, none⟩ = some (.int .i64 r.view) ∧ W'.cell? ⟨w.heap.size, 2, none⟩ = some (.int .i64 r.start)) := fun W' he => ⟨(HB1.out.ext he).2.1, (HB1.out.ext he).2.2.1, (HB1.out.ext he).2.2.2.1⟩
      go_wp2
      refine wp_region_held_drew (S := (fun W' : World => W'.cell? ⟨w.heap.size, 0, none⟩ = some (.int .i64 r.id) ∧ W'.cell? ⟨w.heap.size, 1, none⟩ = some (.int .i64 r.view) ∧ W'.cell? ⟨w.heap.size, 2, none⟩ = some (.int .i64 r.start))) (by kernel_rfl) (HS.out _ ((Ext.refl _).drew)) (fun hHeld => ?_)
      refine tk 0 ⟨some 16, .fieldAddr 29 (.tmp 5) 1, 0, oz226, #[], none⟩ ?_
      refine tk 1 ⟨some 17, .load 2 (.tmp 16), 2, oz226, #[⟨0, .data⟩], none⟩ ?_
      refine tk 2 ⟨some 18, .binOp .eql 2 (.tmp 17) (.const (.int .i64 0)) 2, 4, oz226, #[⟨1, .data⟩], none⟩ ?_
      refine tk 3 ⟨some 19, .move (.tmp 18), 4, oz226, #[⟨2, .data⟩], none⟩ ?_
      refine tk 4 ⟨some 20, .fieldAddr 29 (.tmp 5) 0, 0, oz226, #[⟨3, .guard⟩], some (3, false)⟩ ?_
      refine tk 5 ⟨some 21, .load 2 (.tmp 20), 2, oz226, oy161, some (3, false)⟩ ?_
      refine tk 6 ⟨some 22, .move (.tmp 0), 2, oz226, #[⟨3, .guard⟩], some (3, false)⟩ ?_
      refine tk 7 ⟨some 23, .fieldAddr 29 (.tmp 5) 1, 0, oz226, #[⟨3, .guard⟩], some (3, false)⟩ ?_
      refine tk 8 ⟨some 24, .load 2 (.tmp 23), 2, oz226, oy162, some (3, false)⟩ ?_
      refine wpAnyH_ready (rs := [9]) (by kernel_rfl) (by simp) (AllReadyH.cons rfl (fun K hK => ?_) AllReadyH.nil)
      go_simp
      refine (HP.out _).mono ?_
      rintro e w9 ⟨rfl, hw⟩
      rw [hw]
      clear hw w9
      refine hK.out _ _ (by exact HS.out _ ((Ext.refl _).drew)) (fun hHeld1 => ?_)
      clear hK K
      refine tk 10 ⟨some 26, .binOp .neq 2 (.tmp 21) (.tmp 25) 2, 4, oz226, oy227, some (3, false)⟩ ?_
      refine tk 11 ⟨some 27, .pick (.tmp 19) (.const (.bool true)) (.tmp 26), 4, oz226, oy228, none⟩ ?_
      refine tk 12 ⟨some 28, .move (.tmp 27), 4, oz226, oy63, none⟩ ?_
      refine tk 13 ⟨some 29, .fieldAddr 29 (.tmp 5) 2, 0, oz226, oy149, some (12, false)⟩ ?_
      refine tk 14 ⟨some 30, .load 2 (.tmp 29), 2, oz226, oy150, some (12, false)⟩ ?_
      refine tk 15 ⟨some 31, .binOp .neq 2 (.tmp 30) (.const (.int .i64 (-1))) 2, 4, oz226, oy151, some (12, false)⟩ ?_
      refine tk 16 ⟨some 32, .pick (.tmp 28) (.const (.bool true)) (.tmp 31), 4, oz226, oy229, none⟩ ?_
      refine wpAnyH_done (by kernel_rfl) ?_ _
      have HB2 : Hid (RpAt w1.drew w.heap.size r) := HB1.out.ext ((Ext.refl _).drew)
      have HZ2 : Hid (ZBox w1.drew (w.heap.size + 1) [.int .i64 0, .int .i64 0, .int .i64 0, .int .i64 0, .int .i64 0, .int .i64 0, .slice none 0 0, .slice none 0 0]) := HZ1.out.ext ((Ext.refl _).drew)
      have HE2 : Hid (Ext w w1.drew) := HE1.out.drew
      have HS2 : Hid (w.heap.size + 1 < w1.drew.heap.size) := HZ2.out.1
      clear HB1 HZ1 HE1 HS HS1
      generalize w1.drew = w2 at *
      obtain ⟨-, x0, x1, x2, x3⟩ := HB2.out
      go_wp2_with fail
      refine (HCh.out _ HE2.out).mono ?_
      rintro e w3 ⟨vn, gn, rfl, hg2, hO2, hb⟩
      have HB3 : Hid (RpAt w3 w.heap.size r) := HB2.out.ext hb
      have HZ3 : Hid (ZBox w3 (w.heap.size + 1) [.int .i64 0, .int .i64 0, .int .i64 0, .int .i64 0, .int .i64 0, .int .i64 0, .slice none 0 0, .slice none 0 0]) := HZ2.out.ext hb
      have HE3 : Hid (Ext w w3) := HE2.out.trans hb
      have HG2 : Hid (w.heap.size ≤ gn ∧ w.heap.size + 1 < gn) := ⟨Nat.le_trans HE2.out.size hg2, Nat.lt_of_lt_of_le HS2.out hg2⟩
      obtain ⟨an, cn, rfl, hlc, hcm, -⟩ := id hO2
      unfold maxLen at hcm
      have HO2 : Hid (Led.IOwn w3 (.slice an (Msg.refsN f ms r).length cn) gn (Msg.refsN f ms r)) := hO2
      clear hb hO2 hg2 HB2 HZ2 HE2 x0 x1 x2 x3
      go_wp2_with fail
      refine (HQ.out _).mono ?_
      rintro e w9 ⟨rfl, hw⟩
      rw [hw]
      clear hw w9
      obtain ⟨z0, n0⟩ := HZ3.out.2 0 _ rfl
      obtain ⟨z1, n1⟩ := HZ3.out.2 1 _ rfl
      obtain ⟨z2, n2⟩ := HZ3.out.2 2 _ rfl
      obtain ⟨z3, n3⟩ := HZ3.out.2 3 _ rfl
      obtain ⟨z4, n4⟩ := HZ3.out.2 4 _ rfl
      obtain ⟨z5, n5⟩ := HZ3.out.2 5 _ rfl
      obtain ⟨z6, n6⟩ := HZ3.out.2 6 _ rfl
      obtain ⟨z7, n7⟩ := HZ3.out.2 7 _ rfl
      go_wp2
      refine bodyPost_ret (v := mres (10) zeroM (.slice none 0 0) (.slice none 0 0)) (by simp [results, Tryz.results29, go_sem, mres, zeroM, z0, z1, z2, z3, z4, z5, z6, z7]) rfl ?_
      exact ⟨_, _, rfl, KM.zero _ _, HE3.out.eight _ (by omega) _ _ _ _ _ _ _ _⟩
     ·rw [show Msg.newC f ms r = 0 from by unfold Msg.newC Msg.inV; rw [if_neg (by simp [h1, h2, h3]), if_neg h5], ansM_ok]
      clear h1 h2 h3
      generalize Msg.primary f r.view = pr at *
      go_enter Tryz.func29, Tryz.ntmps29
      go_wp2_with fail
      refine (HF.out _ _ (((Ext.refl _).alloc _).alloc _) ((rbox_new _ _ _).ext ((Ext.refl _).alloc _))).mono ?_
      rintro e w1 ⟨rfl, hb⟩
      have HB1 : Hid (RpAt w1 w.heap.size r) := ((rbox_new w r _).ext ((Ext.refl _).alloc _)).ext hb
      have hZ0 := (zbox_new (w.alloc (.cells #[.int .i64 r.id, .int .i64 r.view, .int .i64 r.start, .int .i64 r.done] 29)) [.int .i64 0, .int .i64 0, .int .i64 0, .int .i64 0, .int .i64 0, .int .i64 0, .slice none 0 0, .slice none 0 0] 42).ext hb
      have HZ1 : Hid (ZBox w1 (w.heap.size + 1) [.int .i64 0, .int .i64 0, .int .i64 0, .int .i64 0, .int .i64 0, .int .i64 0, .slice none 0 0, .slice none 0 0]) := by (try simp only [World.size_alloc] at hZ0); exact hZ0
      have HE1 : Hid (Ext w w1) := (((Ext.refl _).alloc _).alloc _).trans hb
      have HS1 : Hid (w.heap.size + 1 < w1.heap.size) := HZ1.out.1
      clear hb hZ0
      have HS : Hid (∀ W', Ext w1 W' → W'.cell? ⟨w.heap.size, 0, none⟩ = some (.int .i64 r.id) ∧ W'.cell? ⟨w.heap.size, 1, none⟩ = some (.int .i64 r.view) ∧ W'.cell? ⟨w.heap.size, 2, none⟩ = some (.int .i64 r.start)) := fun W' he => ⟨(HB1.out.ext he).2.1, (HB1.out.ext he).2.2.1, (HB1.out.ext he).2.2.2.1⟩
      go_wp2
      refine wp_region_held_drew (S := (fun W' : World => W'.cell? ⟨w.heap.size, 0, none⟩ = some (.int .i64 r.id) ∧ W'.cell? ⟨w.heap.size, 1, none⟩ = some (.int .i64 r.view) ∧ W'.cell? ⟨w.heap.size, 2, none⟩ = some (.int .i64 r.start))) (by kernel_rfl) (HS.out _ ((Ext.refl _).drew)) (fun hHeld => ?_)
      refine tk 0 ⟨some 16, .fieldAddr 29 (.tmp 5) 1, 0, oz226, #[], none⟩ ?_
      refine tk 1 ⟨some 17, .load 2 (.tmp 16), 2, oz226, #[⟨0, .data⟩], none⟩ ?_
      refine tk 2 ⟨some 18, .binOp .eql 2 (.tmp 17) (.const (.int .i64 0)) 2, 4, oz226, #[⟨1, .data⟩], none⟩ ?_
      refine tk 3 ⟨some 19, .move (.tmp 18), 4, oz226, #[⟨2, .data⟩], none⟩ ?_
      refine tk 4 ⟨some 20, .fieldAddr 29 (.tmp 5) 0, 0, oz226, #[⟨3, .guard⟩], some (3, false)⟩ ?_
      refine tk 5 ⟨some 21, .load 2 (.tmp 20), 2, oz226, oy161, some (3, false)⟩ ?_
      refine tk 6 ⟨some 22, .move (.tmp 0), 2, oz226, #[⟨3, .guard⟩], some (3, false)⟩ ?_
      refine tk 7 ⟨some 23, .fieldAddr 29 (.tmp 5) 1, 0, oz226, #[⟨3, .guard⟩], some (3, false)⟩ ?_
      refine tk 8 ⟨some 24, .load 2 (.tmp 23), 2, oz226, oy162, some (3, false)⟩ ?_
      refine wpAnyH_ready (rs := [9]) (by kernel_rfl) (by simp) (AllReadyH.cons rfl (fun K hK => ?_) AllReadyH.nil)
      go_simp
      refine (HP.out _).mono ?_
      rintro e w9 ⟨rfl, hw⟩
      rw [hw]
      clear hw w9
      refine hK.out _ _ (by exact HS.out _ ((Ext.refl _).drew)) (fun hHeld1 => ?_)
      clear hK K
      refine tk 10 ⟨some 26, .binOp .neq 2 (.tmp 21) (.tmp 25) 2, 4, oz226, oy227, some (3, false)⟩ ?_
      refine tk 11 ⟨some 27, .pick (.tmp 19) (.const (.bool true)) (.tmp 26), 4, oz226, oy228, none⟩ ?_
      refine tk 12 ⟨some 28, .move (.tmp 27), 4, oz226, oy63, none⟩ ?_
      refine tk 13 ⟨some 29, .fieldAddr 29 (.tmp 5) 2, 0, oz226, oy149, some (12, false)⟩ ?_
      refine tk 14 ⟨some 30, .load 2 (.tmp 29), 2, oz226, oy150, some (12, false)⟩ ?_
      refine tk 15 ⟨some 31, .binOp .neq 2 (.tmp 30) (.const (.int .i64 (-1))) 2, 4, oz226, oy151, some (12, false)⟩ ?_
      refine tk 16 ⟨some 32, .pick (.tmp 28) (.const (.bool true)) (.tmp 31), 4, oz226, oy229, none⟩ ?_
      refine wpAnyH_done (by kernel_rfl) ?_ _
      have HB2 : Hid (RpAt w1.drew w.heap.size r) := HB1.out.ext ((Ext.refl _).drew)
      have HZ2 : Hid (ZBox w1.drew (w.heap.size + 1) [.int .i64 0, .int .i64 0, .int .i64 0, .int .i64 0, .int .i64 0, .int .i64 0, .slice none 0 0, .slice none 0 0]) := HZ1.out.ext ((Ext.refl _).drew)
      have HE2 : Hid (Ext w w1.drew) := HE1.out.drew
      have HS2 : Hid (w.heap.size + 1 < w1.drew.heap.size) := HZ2.out.1
      clear HB1 HZ1 HE1 HS HS1
      generalize w1.drew = w2 at *
      obtain ⟨-, x0, x1, x2, x3⟩ := HB2.out
      go_wp2_with fail
      refine (HCh.out _ HE2.out).mono ?_
      rintro e w3 ⟨vn, gn, rfl, hg2, hO2, hb⟩
      have HB3 : Hid (RpAt w3 w.heap.size r) := HB2.out.ext hb
      have HZ3 : Hid (ZBox w3 (w.heap.size + 1) [.int .i64 0, .int .i64 0, .int .i64 0, .int .i64 0, .int .i64 0, .int .i64 0, .slice none 0 0, .slice none 0 0]) := HZ2.out.ext hb
      have HE3 : Hid (Ext w w3) := HE2.out.trans hb
      have HG2 : Hid (w.heap.size ≤ gn ∧ w.heap.size + 1 < gn) := ⟨Nat.le_trans HE2.out.size hg2, Nat.lt_of_lt_of_le HS2.out hg2⟩
      obtain ⟨an, cn, rfl, hlc, hcm, -⟩ := id hO2
      unfold maxLen at hcm
      have HO2 : Hid (Led.IOwn w3 (.slice an (Msg.refsN f ms r).length cn) gn (Msg.refsN f ms r)) := hO2
      clear hb hO2 hg2 HB2 HZ2 HE2 x0 x1 x2 x3
      go_wp2_with fail
      refine (HQ.out _).mono ?_
      rintro e w9 ⟨rfl, hw⟩
      rw [hw]
      clear hw w9
      obtain ⟨-, x0, x1, x2, x3⟩ := HB3.out
      obtain ⟨z0, n0⟩ := HZ3.out.2 0 _ rfl
      obtain ⟨z1, n1⟩ := HZ3.out.2 1 _ rfl
      obtain ⟨z2, n2⟩ := HZ3.out.2 2 _ rfl
      obtain ⟨z3, n3⟩ := HZ3.out.2 3 _ rfl
      obtain ⟨z4, n4⟩ := HZ3.out.2 4 _ rfl
      obtain ⟨z5, n5⟩ := HZ3.out.2 5 _ rfl
      obtain ⟨z6, n6⟩ := HZ3.out.2 6 _ rfl
      obtain ⟨z7, n7⟩ := HZ3.out.2 7 _ rfl
      go_wp2
      refine bodyPost_ret (v := mres 0 ⟨5, r.view, r.id, 0, 0, [], (Msg.refsN f ms r)⟩ (.slice none 0 0) (.slice an (Msg.refsN f ms r).length cn)) (by simp [results, Tryz.results29, go_sem, mres, z0, z1, z2, z3, z4, z5, z6, z7]) rfl ?_
      refine ⟨_, _, rfl, ?_, HE3.out.eight _ (by omega) _ _ _ _ _ _ _ _⟩
      exact ⟨w.heap.size, gn, Nat.le_refl _, HG2.out.1, fun h => absurd h (by simp [Msg.nwM]), ctown_nil _ _, HO2.out.upd' (Upd.eight _ _ _ _ _ _ _ _ _ _) (fun _ => by have := HG2.out.2; omega)⟩
    ·have g3 : (r.start != -1) = true := by simpa using h3
     rw [show Msg.newC f ms r = 8 from by unfold Msg.newC Msg.inV; rw [if_pos (by simp [h3])], ansM_no (by decide)]
     clear h1 h2 h3 HCh HQ hrl
     generalize Msg.primary f r.view = pr at *
     go_enter Tryz.func29, Tryz.ntmps29
     go_wp2_with fail
     refine (HF.out _ _ (((Ext.refl _).alloc _).alloc _) ((rbox_new _ _ _).ext ((Ext.refl _).alloc _))).mono ?_
     rintro e w1 ⟨rfl, hb⟩
     have HB1 : Hid (RpAt w1 w.heap.size r) := ((rbox_new w r _).ext ((Ext.refl _).alloc _)).ext hb
     have hZ0 := (zbox_new (w.alloc (.cells #[.int .i64 r.id, .int .i64 r.view, .int .i64 r.start, .int .i64 r.done] 29)) [.int .i64 0, .int .i64 0, .int .i64 0, .int .i64 0, .int .i64 0, .int .i64 0, .slice none 0 0, .slice none 0 0] 42).ext hb
     have HZ1 : Hid (ZBox w1 (w.heap.size + 1) [.int .i64 0, .int .i64 0, .int .i64 0, .int .i64 0, .int .i64 0, .int .i64 0, .slice none 0 0, .slice none 0 0]) := by (try simp only [World.size_alloc] at hZ0); exact hZ0
     have HE1 : Hid (Ext w w1) := (((Ext.refl _).alloc _).alloc _).trans hb
     have HS1 : Hid (w.heap.size + 1 < w1.heap.size) := HZ1.out.1
     clear hb hZ0
     have HS : Hid (∀ W', Ext w1 W' → W'.cell? ⟨w.heap.size, 0, none⟩ = some (.int .i64 r.id) ∧ W'.cell? ⟨w.heap.size, 1, none⟩ = some (.int .i64 r.view) ∧ W'.cell? ⟨w.heap.size, 2, none⟩ = some (.int .i64 r.start)) := fun W' he => ⟨(HB1.out.ext he).2.1, (HB1.out.ext he).2.2.1, (HB1.out.ext he).2.2.2.1⟩
     go_wp2
     refine wp_region_held_drew (S := (fun W' : World => W'.cell? ⟨w.heap.size, 0, none⟩ = some (.int .i64 r.id) ∧ W'.cell? ⟨w.heap.size, 1, none⟩ = some (.int .i64 r.view) ∧ W'.cell? ⟨w.heap.size, 2, none⟩ = some (.int .i64 r.start))) (by kernel_rfl) (HS.out _ ((Ext.refl _).drew)) (fun hHeld => ?_)
     refine tk 0 ⟨some 16, .fieldAddr 29 (.tmp 5) 1, 0, oz226, #[], none⟩ ?_
     refine tk 1 ⟨some 17, .load 2 (.tmp 16), 2, oz226, #[⟨0, .data⟩], none⟩ ?_
     refine tk 2 ⟨some 18, .binOp .eql 2 (.tmp 17) (.const (.int .i64 0)) 2, 4, oz226, #[⟨1, .data⟩], none⟩ ?_
     refine tk 3 ⟨some 19, .move (.tmp 18), 4, oz226, #[⟨2, .data⟩], none⟩ ?_
     refine tk 4 ⟨some 20, .fieldAddr 29 (.tmp 5) 0, 0, oz226, #[⟨3, .guard⟩], some (3, false)⟩ ?_
     refine tk 5 ⟨some 21, .load 2 (.tmp 20), 2, oz226, oy161, some (3, false)⟩ ?_
     refine tk 6 ⟨some 22, .move (.tmp 0), 2, oz226, #[⟨3, .guard⟩], some (3, false)⟩ ?_
     refine tk 7 ⟨some 23, .fieldAddr 29 (.tmp 5) 1, 0, oz226, #[⟨3, .guard⟩], some (3, false)⟩ ?_
     refine tk 8 ⟨some 24, .load 2 (.tmp 23), 2, oz226, oy162, some (3, false)⟩ ?_
     refine wpAnyH_ready (rs := [9]) (by kernel_rfl) (by simp) (AllReadyH.cons rfl (fun K hK => ?_) AllReadyH.nil)
     go_simp
     refine (HP.out _).mono ?_
     rintro e w9 ⟨rfl, hw⟩
     rw [hw]
     clear hw w9
     refine hK.out _ _ (by exact HS.out _ ((Ext.refl _).drew)) (fun hHeld1 => ?_)
     clear hK K
     refine tk 10 ⟨some 26, .binOp .neq 2 (.tmp 21) (.tmp 25) 2, 4, oz226, oy227, some (3, false)⟩ ?_
     refine tk 11 ⟨some 27, .pick (.tmp 19) (.const (.bool true)) (.tmp 26), 4, oz226, oy228, none⟩ ?_
     refine tk 12 ⟨some 28, .move (.tmp 27), 4, oz226, oy63, none⟩ ?_
     refine tk 13 ⟨some 29, .fieldAddr 29 (.tmp 5) 2, 0, oz226, oy149, some (12, false)⟩ ?_
     refine tk 14 ⟨some 30, .load 2 (.tmp 29), 2, oz226, oy150, some (12, false)⟩ ?_
     refine tk 15 ⟨some 31, .binOp .neq 2 (.tmp 30) (.const (.int .i64 (-1))) 2, 4, oz226, oy151, some (12, false)⟩ ?_
     refine tk 16 ⟨some 32, .pick (.tmp 28) (.const (.bool true)) (.tmp 31), 4, oz226, oy229, none⟩ ?_
     refine wpAnyH_done (by kernel_rfl) ?_ _
     have HB2 : Hid (RpAt w1.drew w.heap.size r) := HB1.out.ext ((Ext.refl _).drew)
     have HZ2 : Hid (ZBox w1.drew (w.heap.size + 1) [.int .i64 0, .int .i64 0, .int .i64 0, .int .i64 0, .int .i64 0, .int .i64 0, .slice none 0 0, .slice none 0 0]) := HZ1.out.ext ((Ext.refl _).drew)
     have HE2 : Hid (Ext w w1.drew) := HE1.out.drew
     have HS2 : Hid (w.heap.size + 1 < w1.drew.heap.size) := HZ2.out.1
     clear HB1 HZ1 HE1 HS HS1
     generalize w1.drew = w2 at *
     obtain ⟨z0, n0⟩ := HZ2.out.2 0 _ rfl
     obtain ⟨z1, n1⟩ := HZ2.out.2 1 _ rfl
     obtain ⟨z2, n2⟩ := HZ2.out.2 2 _ rfl
     obtain ⟨z3, n3⟩ := HZ2.out.2 3 _ rfl
     obtain ⟨z4, n4⟩ := HZ2.out.2 4 _ rfl
     obtain ⟨z5, n5⟩ := HZ2.out.2 5 _ rfl
     obtain ⟨z6, n6⟩ := HZ2.out.2 6 _ rfl
     obtain ⟨z7, n7⟩ := HZ2.out.2 7 _ rfl
     go_wp2
     refine bodyPost_ret (v := mres (8) zeroM (.slice none 0 0) (.slice none 0 0)) (by simp [results, Tryz.results29, go_sem, mres, zeroM, z0, z1, z2, z3, z4, z5, z6, z7]) rfl ?_
     exact ⟨_, _, rfl, KM.zero _ _, HE2.out.eight _ (by omega) _ _ _ _ _ _ _ _⟩
   ·have g2 : (r.id != Msg.primary f r.view) = true := by simpa using h2
    rw [show Msg.newC f ms r = 8 from by unfold Msg.newC Msg.inV; rw [if_pos (by simp [h2])], ansM_no (by decide)]
    clear h1 h2 HCh HQ hrl
    generalize Msg.primary f r.view = pr at *
    go_enter Tryz.func29, Tryz.ntmps29
    go_wp2_with fail
    refine (HF.out _ _ (((Ext.refl _).alloc _).alloc _) ((rbox_new _ _ _).ext ((Ext.refl _).alloc _))).mono ?_
    rintro e w1 ⟨rfl, hb⟩
    have HB1 : Hid (RpAt w1 w.heap.size r) := ((rbox_new w r _).ext ((Ext.refl _).alloc _)).ext hb
    have hZ0 := (zbox_new (w.alloc (.cells #[.int .i64 r.id, .int .i64 r.view, .int .i64 r.start, .int .i64 r.done] 29)) [.int .i64 0, .int .i64 0, .int .i64 0, .int .i64 0, .int .i64 0, .int .i64 0, .slice none 0 0, .slice none 0 0] 42).ext hb
    have HZ1 : Hid (ZBox w1 (w.heap.size + 1) [.int .i64 0, .int .i64 0, .int .i64 0, .int .i64 0, .int .i64 0, .int .i64 0, .slice none 0 0, .slice none 0 0]) := by (try simp only [World.size_alloc] at hZ0); exact hZ0
    have HE1 : Hid (Ext w w1) := (((Ext.refl _).alloc _).alloc _).trans hb
    have HS1 : Hid (w.heap.size + 1 < w1.heap.size) := HZ1.out.1
    clear hb hZ0
    have HS : Hid (∀ W', Ext w1 W' → W'.cell? ⟨w.heap.size, 0, none⟩ = some (.int .i64 r.id) ∧ W'.cell? ⟨w.heap.size, 1, none⟩ = some (.int .i64 r.view) ∧ W'.cell? ⟨w.heap.size, 2, none⟩ = some (.int .i64 r.start)) := fun W' he => ⟨(HB1.out.ext he).2.1, (HB1.out.ext he).2.2.1, (HB1.out.ext he).2.2.2.1⟩
    go_wp2
    refine wp_region_held_drew (S := (fun W' : World => W'.cell? ⟨w.heap.size, 0, none⟩ = some (.int .i64 r.id) ∧ W'.cell? ⟨w.heap.size, 1, none⟩ = some (.int .i64 r.view) ∧ W'.cell? ⟨w.heap.size, 2, none⟩ = some (.int .i64 r.start))) (by kernel_rfl) (HS.out _ ((Ext.refl _).drew)) (fun hHeld => ?_)
    refine tk 0 ⟨some 16, .fieldAddr 29 (.tmp 5) 1, 0, oz226, #[], none⟩ ?_
    refine tk 1 ⟨some 17, .load 2 (.tmp 16), 2, oz226, #[⟨0, .data⟩], none⟩ ?_
    refine tk 2 ⟨some 18, .binOp .eql 2 (.tmp 17) (.const (.int .i64 0)) 2, 4, oz226, #[⟨1, .data⟩], none⟩ ?_
    refine tk 3 ⟨some 19, .move (.tmp 18), 4, oz226, #[⟨2, .data⟩], none⟩ ?_
    refine tk 4 ⟨some 20, .fieldAddr 29 (.tmp 5) 0, 0, oz226, #[⟨3, .guard⟩], some (3, false)⟩ ?_
    refine tk 5 ⟨some 21, .load 2 (.tmp 20), 2, oz226, oy161, some (3, false)⟩ ?_
    refine tk 6 ⟨some 22, .move (.tmp 0), 2, oz226, #[⟨3, .guard⟩], some (3, false)⟩ ?_
    refine tk 7 ⟨some 23, .fieldAddr 29 (.tmp 5) 1, 0, oz226, #[⟨3, .guard⟩], some (3, false)⟩ ?_
    refine tk 8 ⟨some 24, .load 2 (.tmp 23), 2, oz226, oy162, some (3, false)⟩ ?_
    refine wpAnyH_ready (rs := [9]) (by kernel_rfl) (by simp) (AllReadyH.cons rfl (fun K hK => ?_) AllReadyH.nil)
    go_simp
    refine (HP.out _).mono ?_
    rintro e w9 ⟨rfl, hw⟩
    rw [hw]
    clear hw w9
    refine hK.out _ _ (by exact HS.out _ ((Ext.refl _).drew)) (fun hHeld1 => ?_)
    clear hK K
    refine tk 10 ⟨some 26, .binOp .neq 2 (.tmp 21) (.tmp 25) 2, 4, oz226, oy227, some (3, false)⟩ ?_
    refine tk 11 ⟨some 27, .pick (.tmp 19) (.const (.bool true)) (.tmp 26), 4, oz226, oy228, none⟩ ?_
    refine tk 12 ⟨some 28, .move (.tmp 27), 4, oz226, oy63, none⟩ ?_
    refine tn 13 ⟨some 29, .fieldAddr 29 (.tmp 5) 2, 0, oz226, oy149, some (12, false)⟩ ?_
    refine tn 14 ⟨some 30, .load 2 (.tmp 29), 2, oz226, oy150, some (12, false)⟩ ?_
    refine tn 15 ⟨some 31, .binOp .neq 2 (.tmp 30) (.const (.int .i64 (-1))) 2, 4, oz226, oy151, some (12, false)⟩ ?_
    refine tk 16 ⟨some 32, .pick (.tmp 28) (.const (.bool true)) (.tmp 31), 4, oz226, oy229, none⟩ ?_
    refine wpAnyH_done (by kernel_rfl) ?_ _
    have HB2 : Hid (RpAt w1.drew w.heap.size r) := HB1.out.ext ((Ext.refl _).drew)
    have HZ2 : Hid (ZBox w1.drew (w.heap.size + 1) [.int .i64 0, .int .i64 0, .int .i64 0, .int .i64 0, .int .i64 0, .int .i64 0, .slice none 0 0, .slice none 0 0]) := HZ1.out.ext ((Ext.refl _).drew)
    have HE2 : Hid (Ext w w1.drew) := HE1.out.drew
    have HS2 : Hid (w.heap.size + 1 < w1.drew.heap.size) := HZ2.out.1
    clear HB1 HZ1 HE1 HS HS1
    generalize w1.drew = w2 at *
    obtain ⟨z0, n0⟩ := HZ2.out.2 0 _ rfl
    obtain ⟨z1, n1⟩ := HZ2.out.2 1 _ rfl
    obtain ⟨z2, n2⟩ := HZ2.out.2 2 _ rfl
    obtain ⟨z3, n3⟩ := HZ2.out.2 3 _ rfl
    obtain ⟨z4, n4⟩ := HZ2.out.2 4 _ rfl
    obtain ⟨z5, n5⟩ := HZ2.out.2 5 _ rfl
    obtain ⟨z6, n6⟩ := HZ2.out.2 6 _ rfl
    obtain ⟨z7, n7⟩ := HZ2.out.2 7 _ rfl
    go_wp2
    refine bodyPost_ret (v := mres (8) zeroM (.slice none 0 0) (.slice none 0 0)) (by simp [results, Tryz.results29, go_sem, mres, zeroM, z0, z1, z2, z3, z4, z5, z6, z7]) rfl ?_
    exact ⟨_, _, rfl, KM.zero _ _, HE2.out.eight _ (by omega) _ _ _ _ _ _ _ _⟩
 ·have g1 : (Msg.repC f ms r != 0) = true := by simpa using hc
  rw [Msg.askC_bad hc, ansM_no hc]
  clear hc HCh0
  generalize Msg.repC f ms r = c at *
  go_enter Tryz.func29, Tryz.ntmps29
  go_wp2_with fail
  refine (HF.out _ _ (((Ext.refl _).alloc _).alloc _) ((rbox_new _ _ _).ext ((Ext.refl _).alloc _))).mono ?_
  rintro e w1 ⟨rfl, hb⟩
  have HB1 : Hid (RpAt w1 w.heap.size r) := ((rbox_new w r _).ext ((Ext.refl _).alloc _)).ext hb
  have hZ0 := (zbox_new (w.alloc (.cells #[.int .i64 r.id, .int .i64 r.view, .int .i64 r.start, .int .i64 r.done] 29)) [.int .i64 0, .int .i64 0, .int .i64 0, .int .i64 0, .int .i64 0, .int .i64 0, .slice none 0 0, .slice none 0 0] 42).ext hb
  have HZ1 : Hid (ZBox w1 (w.heap.size + 1) [.int .i64 0, .int .i64 0, .int .i64 0, .int .i64 0, .int .i64 0, .int .i64 0, .slice none 0 0, .slice none 0 0]) := by (try simp only [World.size_alloc] at hZ0); exact hZ0
  have HE1 : Hid (Ext w w1) := (((Ext.refl _).alloc _).alloc _).trans hb
  have HS1 : Hid (w.heap.size + 1 < w1.heap.size) := HZ1.out.1
  clear hb hZ0
  obtain ⟨z0, n0⟩ := HZ1.out.2 0 _ rfl
  obtain ⟨z1, n1⟩ := HZ1.out.2 1 _ rfl
  obtain ⟨z2, n2⟩ := HZ1.out.2 2 _ rfl
  obtain ⟨z3, n3⟩ := HZ1.out.2 3 _ rfl
  obtain ⟨z4, n4⟩ := HZ1.out.2 4 _ rfl
  obtain ⟨z5, n5⟩ := HZ1.out.2 5 _ rfl
  obtain ⟨z6, n6⟩ := HZ1.out.2 6 _ rfl
  obtain ⟨z7, n7⟩ := HZ1.out.2 7 _ rfl
  go_wp2
  refine bodyPost_ret (v := mres (c) zeroM (.slice none 0 0) (.slice none 0 0)) (by simp [results, Tryz.results29, go_sem, mres, zeroM, z0, z1, z2, z3, z4, z5, z6, z7]) rfl ?_
  exact ⟨_, _, rfl, KM.zero _ _, HE1.out.eight _ (by omega) _ _ _ _ _ _ _ _⟩
end Go.Proofs.YtecgjdgfjgcmdaaGreat
