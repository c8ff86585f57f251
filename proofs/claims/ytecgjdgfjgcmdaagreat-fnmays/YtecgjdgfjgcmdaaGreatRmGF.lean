/- RP7, RP7c, in one text. -/
import Derived.Test.YtecgjdgfjgcmdaaGreatRmRP5
import Derived.Test.YtecgjdgfjgcmdaaGreatRmRP6
import Derived.Test.YtecgjdgfjgcmdaaGreatRmRP5c
import Derived.Test.YtecgjdgfjgcmdaaGreatRmRP6a
namespace Go.Proofs.YtecgjdgfjgcmdaaGreat
open Go.RowKit
theorem box1 (W : World) (x : Value) (t : TypeId) (n : Nat) (h : W.heap.size = n) : (W.alloc (.cells #[x] t)).cell? ⟨n, 0, none⟩ = some x := by subst h; simp
set_option linter.unusedSimpArgs false in
set_option maxHeartbeats 2000000 in
theorem l11In_any (r : Rp) (b : Nat) (bb : Bool) (w : World) (hR : RpAt w b r) (hbb : Msg.inV r = bb) : Calls Tryz.prog 102 #[.pointer (some ⟨b, 0, none⟩)] w fun e w' => e = .returned (.bool bb) ∧ w' = w := by
 obtain ⟨hbl, x0, x1, x2, x3⟩ := hR
 unfold Msg.inV at hbb
 by_cases h0 : r.view = 0
 ·have g1 : (r.view == 0) = true := by simpa using h0
  have HR : Hid (true = bb) := by show _ = _; rw [← hbb]; simp [h0]
  clear h0 hbb
  go_enter Tryz.func102, Tryz.ntmps102
  go_wp2
  go_ret
  exact ⟨ret_bool HR.out, rfl⟩
 ·have g1 : (r.view == 0) = false := by simpa using h0
  have HR : Hid ((r.start != -1) = bb) := by
   show _ = _
   rw [← hbb, Bool.eq_iff_iff]
   simp [h0]
  clear h0 hbb
  go_enter Tryz.func102, Tryz.ntmps102
  go_wp2
  go_ret
  exact ⟨ret_bool HR.out, rfl⟩
set_option linter.unusedSimpArgs false in
set_option maxHeartbeats 2000000 in
theorem l11Slot_any (slot value : Int) (w : World) : Calls Tryz.prog 101 #[.int .i64 slot, .int .i64 value] w fun e w' => e = .returned (.bool (Msg.rangeB slot value)) ∧ w' = w := by
 have HG1 : Hid (∀ bb, decide (1 ≤ slot ∧ slot ≤ 30) = bb → ∀ wx, Calls Tryz.prog 57 #[.int .i64 slot, .int .i64 1, .int .i64 30] wx fun e w' => e = .returned (.bool bb) ∧ w' = wx) := fun bb h wx => l1In_isM slot 1 30 bb wx (by rw [← h, Bool.decide_and])
 have HG2 : Hid (∀ bb, decide (0 ≤ value ∧ value ≤ 12) = bb → ∀ wx, Calls Tryz.prog 57 #[.int .i64 value, .int .i64 0, .int .i64 12] wx fun e w' => e = .returned (.bool bb) ∧ w' = wx) := fun bb h wx => l1In_isM value 0 12 bb wx (by rw [← h, Bool.decide_and])
 unfold Msg.rangeB
 cases h1 : decide (1 ≤ slot ∧ slot ≤ 30) with
 | false =>
  have J1 : Hid _ := HG1.out false h1
  clear h1 HG1 HG2
  go_enter Tryz.func101, Tryz.ntmps101
  go_wp2_with fail
  refine (J1.out _).mono ?_
  rintro e w9 ⟨rfl, hw⟩
  rw [hw]
  go_wp2
  go_ret
  exact ⟨rfl, rfl⟩
 | true =>
  have J1 : Hid _ := HG1.out true h1
  have J2 : Hid _ := HG2.out _ rfl
  clear h1 HG1 HG2
  generalize decide (0 ≤ value ∧ value ≤ 12) = bb at *
  go_enter Tryz.func101, Tryz.ntmps101
  go_wp2_with fail
  refine (J1.out _).mono ?_
  rintro e w9 ⟨rfl, hw⟩
  rw [hw]
  clear hw w9
  go_wp2_with fail
  refine (J2.out _).mono ?_
  rintro e w9 ⟨rfl, hw⟩
  rw [hw]
  go_wp2
  go_ret
  exact ⟨by simp, rfl⟩
end Go.Proofs.YtecgjdgfjgcmdaaGreat
namespace Go.Proofs.YtecgjdgfjgcmdaaGreat
open Go.RowKit
set_option linter.unusedSimpArgs false in
set_option maxHeartbeats 8000000 in
set_option maxRecDepth 100000 in
theorem mayCommit1_any (f : Int) (v : Value) (ms : List Ms) (r : Rp) (u : Value) (L : List Int) (slot : Int) (value : Int) (b0 : Nat) (b1 : Nat) (w : World) (hS : MSlice w v ms) (hI : ISlice w u L) (hrep : Msg.repC f ms r = 0) (hc0 : w.cell? ⟨b0, 0, none⟩ = some (.int .i64 slot)) (hc1 : w.cell? ⟨b1, 0, none⟩ = some (.int .i64 value)) :
  Calls Tryz.prog 55 #[sagg r f v (Msg.inV r) u, .pointer (some ⟨b0, 0, none⟩), .pointer (some ⟨b1, 0, none⟩)] w (Said KT (Msg.comC f ms r slot value) ⟨3, r.view, r.id, slot, value, [], []⟩ w) := by
 have HC : Hid (∀ wx, Ext w wx → Calls Tryz.prog 56 #[sagg r f v (Msg.inV r) u, .int .i64 slot, .int .i64 value] wx (Said KT (Msg.comC f ms r slot value) ⟨3, r.view, r.id, slot, value, [], []⟩ wx)) := fun wx he => commit_any f v ms r u L slot value wx (hS.ext he) (hI.ext he) hrep
 clear hrep
 have lt0 := World.block_lt_of_cell? w ⟨b0, 0, none⟩ (by rw [hc0])
 have lt1 := World.block_lt_of_cell? w ⟨b1, 0, none⟩ (by rw [hc1])
 obtain ⟨a, cap, rfl, -, -, -⟩ := hS
 obtain ⟨au, cu, rfl, -, -, -⟩ := hI
 unfold sagg at *
 generalize Msg.comC f ms r slot value = cc at *
 generalize Msg.inV r = bg at *
 go_enter Tryz.func55, Tryz.ntmps55
 have hal := alloc_cell
 go_wp2_with fail
 refine (HC.out _ (((Ext.refl _).alloc _).alloc _)).mono ?_
 rintro e w1 ⟨hb, hh⟩
 have hZ0 := (zbox_new (w.alloc (.cells #[.int .i64 r.id, .int .i64 r.view, .int .i64 r.start, .int .i64 r.done, .int .i64 f, .slice a ms.length cap, .bool bg, .slice au L.length cu] 76)) [.int .i64 0, .int .i64 0, .int .i64 0, .int .i64 0, .int .i64 0, .slice none 0 0, .slice none 0 0] 40).ext hb
 have HZ : Hid (ZBox w1 (w.heap.size + 1) [.int .i64 0, .int .i64 0, .int .i64 0, .int .i64 0, .int .i64 0, .slice none 0 0, .slice none 0 0]) := by (try simp only [World.size_alloc] at hZ0); exact hZ0
 have HE : Hid (Ext w w1) := (((Ext.refl _).alloc _).alloc _).trans hb
 clear hb hZ0 hal
 rcases hh with ⟨hn, rfl⟩ | ⟨hn, az, nz, cz, ax, nx, cx, rfl, -⟩
 ·have HN : Hid (¬ cc = 0) := hn
  clear hn
  unfold refused
  go_wp2
  exact ⟨rfl, HE.out, Or.inl ⟨HN.out, rfl⟩⟩
 ·have HN : Hid (cc = 0) := hn
  clear hn
  unfold magg
  obtain ⟨z0, n0⟩ := HZ.out.2 0 _ rfl
  obtain ⟨z1, n1⟩ := HZ.out.2 1 _ rfl
  obtain ⟨z2, n2⟩ := HZ.out.2 2 _ rfl
  obtain ⟨z3, n3⟩ := HZ.out.2 3 _ rfl
  obtain ⟨z4, n4⟩ := HZ.out.2 4 _ rfl
  obtain ⟨z5, n5⟩ := HZ.out.2 5 _ rfl
  obtain ⟨z6, n6⟩ := HZ.out.2 6 _ rfl
  go_wp2
  refine bodyPost_ret (v := magg ⟨3, r.view, r.id, slot, value, [], []⟩ (.slice az nz cz) (.slice ax nx cx)) (by simp [results, Tryz.results55, go_sem, magg, z0, z1, z2, z3, z4, z5, z6]) rfl ?_
  exact ⟨HE.out.seven _ (by omega) _ _ _ _ _ _ _, Or.inr ⟨HN.out, _, _, _, _, _, _, rfl, trivial⟩⟩

set_option linter.unusedSimpArgs false in
set_option maxHeartbeats 8000000 in
set_option maxRecDepth 100000 in
theorem implMayCommit_any (f : Int) (v : Value) (ms : List Ms) (r : Rp) (slot : Int) (value : Int) (w : World) (hS : MSlice w v ms) :
  Calls Tryz.prog 22 #[.int .i64 f, v, ragg r, .int .i64 slot, .int .i64 value] w fun e w' => e = .returned (.int .i64 (Msg.askC f ms r (Msg.comC f ms r slot value))) ∧ Ext w w' := by
 have HH : Hid (∀ (b0 b1 : Nat) wx, Ext w wx → wx.cell? ⟨b0, 0, none⟩ = some (.int .i64 slot) → wx.cell? ⟨b1, 0, none⟩ = some (.int .i64 value) → Calls Tryz.prog 45 #[.int .i64 f, v, ragg r, .func (.func 55) #[] #[.pointer (some ⟨b0, 0, none⟩), .pointer (some ⟨b1, 0, none⟩)]] wx fun e w' => ∃ m x y, e = .returned (mres (Msg.askC f ms r (Msg.comC f ms r slot value)) m x y) ∧ Ext wx w') := fun b0 b1 wx he q0 q1 => by
  refine (hear_any f v ms r 55 #[.pointer (some ⟨b0, 0, none⟩), .pointer (some ⟨b1, 0, none⟩)] (Msg.comC f ms r slot value) ⟨3, r.view, r.id, slot, value, [], []⟩ KT wx (hS.ext he) KT_kept (fun _ _ => by kernel_rfl) (fun h u wy hy hI => mayCommit1_any f v ms r u _ slot value b0 b1 wy ((hS.ext he).ext hy) hI h (by obtain ⟨hc, _⟩ := Ext.cell hy; exact (hc _ _ (World.block_lt_of_cell? wx ⟨b0, 0, none⟩ (by rw [q0]))).trans q0) (by obtain ⟨hc, _⟩ := Ext.cell hy; exact (hc _ _ (World.block_lt_of_cell? wx ⟨b1, 0, none⟩ (by rw [q1]))).trans q1))).mono ?_
  intro e w' h
  obtain ⟨d, m', x, y, h1, h2, h3⟩ := heardInt h
  exact ⟨m', x, y, by rw [h1, h2], h3⟩
 have hmf : ∀ (fn : Fn) (first cap : Array Value) (w : World), (Instr.makeFunc fn first cap).run Tryz.prog w = .ok (.func fn first cap) w := fun _ _ _ _ => rfl
 have hf0 : ∀ (c0 c1 c2 c3 c4 c5 c6 c7 : Value) (W : World), (Instr.field 42 (.agg #[c0, c1, c2, c3, c4, c5, c6, c7]) 0).run Tryz.prog W = .ok c0 W := fun _ _ _ _ _ _ _ _ _ => by kernel_rfl
 obtain ⟨a, cap, rfl, -, -, -⟩ := hS
 unfold ragg at *
 generalize Msg.askC f ms r (Msg.comC f ms r slot value) = cc at *
 go_enter Tryz.func22, Tryz.ntmps22
 go_wp2_with fail
 refine (HH.out (w.heap.size + 1) (w.heap.size + 2) _ ((((Ext.refl _).alloc _).alloc _).alloc _) ?_ ?_).mono ?_
 ·exact (alloc_cell _ _ _ _ (by simp)).trans (box1 _ _ _ _ (by simp))
 ·exact (box1 _ _ _ _ (by simp))
 rintro e w1 ⟨m, x, y, rfl, hb⟩
 have HE : Hid (Ext w w1) := ((((Ext.refl _).alloc _).alloc _).alloc _).trans hb
 clear hb
 unfold mres
 go_wp2
 go_ret
 exact ⟨rfl, HE.out⟩

set_option linter.unusedSimpArgs false in
set_option maxHeartbeats 8000000 in
set_option maxRecDepth 100000 in
theorem l11Commit_any (f : Int) (v : Value) (ms : List Ms) (r : Rp) (b : Nat) (slot value : Int) (w : World) (hS : MSlice w v ms) (hR : RpAt w b r) (hrep : Msg.repC f ms r = 0) :
  Calls Tryz.prog 54 #[.int .i64 f, v, .pointer (some ⟨b, 0, none⟩), .int .i64 slot, .int .i64 value] w fun e w' => e = .returned (.int .i64 (Msg.comC f ms r slot value)) ∧ Ext w w' := by
 have hled := Msg.repC_led hrep
 obtain ⟨hf0, hf1, hml⟩ := Msg.ledger_zero hled
 have hrf := Msg.repF_zero (by rw [← Msg.repC_ok hled]; exact hrep)
 clear hrf hrep
 have HB0 : Hid (RpAt w b r) := hR
 have HG : Hid (∀ bb, Msg.rangeB slot value = bb → ∀ wx, Calls Tryz.prog 101 #[.int .i64 slot, .int .i64 value] wx fun e w' => e = .returned (.bool bb) ∧ w' = wx) := fun bb h wx => by have q := l11Slot_any slot value wx; rw [h] at q; exact q
 have HV : Hid (∀ bb, Msg.inV r = bb → ∀ wx, Ext w wx → Calls Tryz.prog 102 #[.pointer (some ⟨b, 0, none⟩)] wx fun e w' => e = .returned (.bool bb) ∧ w' = wx) := fun bb h wx he => l11In_any r b bb wx (hR.ext he) h
 have HP0 : Hid (∀ bb, Msg.enough f ms 2 ⟨slot, r.view, value⟩ = bb → ∀ wx, Ext w wx → Calls Tryz.prog 117 #[.int .i64 f, v, .int .i64 2, ctagg ⟨slot, r.view, value⟩] wx fun e w' => e = .returned (.bool bb) ∧ Ext wx w') := fun bb h wx he => by have q := l9Enough_any f v ms 2 ⟨slot, r.view, value⟩ wx (hS.ext he) hf0 hf1; rw [h] at q; exact q
 have HS0 : Hid (Msg.rangeB slot value = true → ∀ bb, Msg.slotB (Msg.saidL ms r 3) slot = bb → ∀ wx, Ext w wx → Calls Tryz.prog 103 #[v, .pointer (some ⟨b, 0, none⟩), .int .i64 3, .int .i64 slot, .int .i64 (-1)] wx fun e w' => e = .returned (.bool bb) ∧ Ext wx w') := fun hr bb h wx he => by
  have hs : ¬ slot = 0 := by unfold Msg.rangeB at hr; simp only [Bool.and_eq_true, decide_eq_true_eq] at hr; omega
  have q := l11SentS_any v ms r b 3 slot wx (hS.ext he) (hR.ext he) hs
  rw [Msg.sent_slot hs, h] at q; exact q
 obtain ⟨hbl, x0, x1, x2, x3⟩ := hR
 obtain ⟨a, cap, rfl, -, -, -⟩ := hS
 clear hf0 hf1 hml hled
 unfold ctagg at *
 cases h1 : Msg.rangeB slot value with
 | false =>
  have HR : Hid (Msg.comC f ms r slot value = 3) := by show _ = _; unfold Msg.comC; rw [h1, if_pos rfl]
  have J1 : Hid _ := HG.out false h1
  clear h1 HG HV HP0 HS0
  go_enter Tryz.func54, Tryz.ntmps54
  go_wp2_with fail
  refine (J1.out _).mono ?_
  rintro e w9 ⟨rfl, hw⟩
  rw [hw]
  clear hw w9
  go_wp2
  go_ret
  exact ⟨ret_int HR.out.symm, Ext.refl _⟩
 | true =>
  have J1 : Hid _ := HG.out true h1
  have HS1 : Hid _ := HS0.out h1
  cases h2 : Msg.inV r with
  | false =>
   have HR : Hid (Msg.comC f ms r slot value = 8) := by show _ = _; unfold Msg.comC; rw [h1, h2, if_neg (by decide), if_pos rfl]
   have J2 : Hid _ := HV.out false h2
   clear h1 h2 HG HV HP0 HS0 HS1
   go_enter Tryz.func54, Tryz.ntmps54
   go_wp2_with fail
   refine (J1.out _).mono ?_
   rintro e w9 ⟨rfl, hw⟩
   rw [hw]
   clear hw w9
   go_wp2_with fail
   refine (J2.out _ (Ext.refl _)).mono ?_
   rintro e w9 ⟨rfl, hw⟩
   rw [hw]
   clear hw w9
   go_wp2
   go_ret
   exact ⟨ret_int HR.out.symm, Ext.refl _⟩
  | true =>
   have J2 : Hid _ := HV.out true h2
   cases h3 : Msg.enough f ms 2 ⟨slot, r.view, value⟩ with
   | false =>
    have HR : Hid (Msg.comC f ms r slot value = 10) := by show _ = _; unfold Msg.comC; rw [h1, h2, h3, if_neg (by decide), if_neg (by decide), if_pos rfl]
    have HP : Hid _ := HP0.out false h3
    clear h1 h2 h3 HG HV HP0 HS0 HS1
    go_enter Tryz.func54, Tryz.ntmps54
    go_wp2_with fail
    refine (J1.out _).mono ?_
    rintro e w9 ⟨rfl, hw⟩
    rw [hw]
    clear hw w9
    go_wp2_with fail
    refine (J2.out _ (Ext.refl _)).mono ?_
    rintro e w9 ⟨rfl, hw⟩
    rw [hw]
    clear hw w9
    go_wp2_with fail
    refine (HP.out _ (Ext.refl _)).mono ?_
    rintro e w1 ⟨rfl, hb⟩
    have HB1 : Hid (RpAt w1 b r) := HB0.out.ext hb
    have HE1 : Hid (Ext w w1) := hb
    clear x0 x1 x2 x3 HB0
    clear hb
    go_wp2
    go_ret
    exact ⟨ret_int HR.out.symm, HE1.out⟩
   | true =>
    have HP : Hid _ := HP0.out true h3
    cases h4 : Msg.slotB (Msg.saidL ms r 3) slot with
    | true =>
     have HR : Hid (Msg.comC f ms r slot value = 6) := by show _ = _; unfold Msg.comC; rw [h1, h2, h3, h4, if_neg (by decide), if_neg (by decide), if_neg (by decide), if_pos rfl]
     have HT : Hid _ := HS1.out true h4
     clear h1 h2 h3 h4 HG HV HP0 HS0 HS1
     go_enter Tryz.func54, Tryz.ntmps54
     go_wp2_with fail
     refine (J1.out _).mono ?_
     rintro e w9 ⟨rfl, hw⟩
     rw [hw]
     clear hw w9
     go_wp2_with fail
     refine (J2.out _ (Ext.refl _)).mono ?_
     rintro e w9 ⟨rfl, hw⟩
     rw [hw]
     clear hw w9
     go_wp2_with fail
     refine (HP.out _ (Ext.refl _)).mono ?_
     rintro e w1 ⟨rfl, hb⟩
     have HB1 : Hid (RpAt w1 b r) := HB0.out.ext hb
     have HE1 : Hid (Ext w w1) := hb
     clear x0 x1 x2 x3 HB0
     clear hb
     obtain ⟨-, x0, x1, x2, x3⟩ := HB1.out
     go_wp2_with fail
     refine (HT.out _ HE1.out).mono ?_
     rintro e w2 ⟨rfl, hb⟩
     have HB2 : Hid (RpAt w2 b r) := HB1.out.ext hb
     have HE2 : Hid (Ext w w2) := HE1.out.trans hb
     clear hb HB1 HE1 x0 x1 x2 x3
     go_wp2
     go_ret
     exact ⟨ret_int HR.out.symm, HE2.out⟩
    | false =>
     have HR : Hid (Msg.comC f ms r slot value = 0) := by show _ = _; unfold Msg.comC; rw [h1, h2, h3, h4, if_neg (by decide), if_neg (by decide), if_neg (by decide), if_neg (by decide)]
     have HT : Hid _ := HS1.out false h4
     clear h1 h2 h3 h4 HG HV HP0 HS0 HS1
     go_enter Tryz.func54, Tryz.ntmps54
     go_wp2_with fail
     refine (J1.out _).mono ?_
     rintro e w9 ⟨rfl, hw⟩
     rw [hw]
     clear hw w9
     go_wp2_with fail
     refine (J2.out _ (Ext.refl _)).mono ?_
     rintro e w9 ⟨rfl, hw⟩
     rw [hw]
     clear hw w9
     go_wp2_with fail
     refine (HP.out _ (Ext.refl _)).mono ?_
     rintro e w1 ⟨rfl, hb⟩
     have HB1 : Hid (RpAt w1 b r) := HB0.out.ext hb
     have HE1 : Hid (Ext w w1) := hb
     clear x0 x1 x2 x3 HB0
     clear hb
     obtain ⟨-, x0, x1, x2, x3⟩ := HB1.out
     go_wp2_with fail
     refine (HT.out _ HE1.out).mono ?_
     rintro e w2 ⟨rfl, hb⟩
     have HB2 : Hid (RpAt w2 b r) := HB1.out.ext hb
     have HE2 : Hid (Ext w w2) := HE1.out.trans hb
     clear hb HB1 HE1 x0 x1 x2 x3
     go_wp2
     go_ret
     exact ⟨ret_int HR.out.symm, HE2.out⟩

set_option linter.unusedSimpArgs false in
set_option maxHeartbeats 8000000 in
set_option maxRecDepth 100000 in
theorem specMayCommit_any (f : Int) (v : Value) (ms : List Ms) (r : Rp) (slot : Int) (value : Int) (w : World) (hS : MSlice w v ms) :
  Calls Tryz.prog 21 #[.int .i64 f, v, ragg r, .int .i64 slot, .int .i64 value] w fun e w' => e = .returned (.int .i64 (Msg.askC f ms r (Msg.comC f ms r slot value))) ∧ Ext w w' := by
 have HF : Hid (∀ wx b, Ext w wx → RpAt wx b r → Calls Tryz.prog 43 #[.int .i64 f, v, .pointer (some ⟨b, 0, none⟩)] wx fun e w' => e = .returned (.int .i64 (Msg.repC f ms r)) ∧ Ext wx w') := fun wx b he h => l11Asked_any f v ms r b wx (hS.ext he) h
 have HP : Hid (Msg.repC f ms r = 0 → ∀ wx b, Ext w wx → RpAt wx b r → Calls Tryz.prog 54 #[.int .i64 f, v, .pointer (some ⟨b, 0, none⟩), .int .i64 slot, .int .i64 value] wx fun e w' => e = .returned (.int .i64 (Msg.comC f ms r slot value)) ∧ Ext wx w') := fun h0 wx b he h => l11Commit_any f v ms r b slot value wx (hS.ext he) h h0
 obtain ⟨a, cap, rfl, -, -, -⟩ := hS
 unfold ragg
 go_enter Tryz.func21, Tryz.ntmps21
 by_cases hc : Msg.repC f ms r = 0
 ·have HR : Hid (Msg.askC f ms r (Msg.comC f ms r slot value) = Msg.comC f ms r slot value) := Msg.askC_ok hc
  have HP1 : Hid _ := HP.out hc
  rw [hc] at HF
  clear hc HP
  go_wp2_with fail
  refine (HF.out _ _ ((Ext.refl _).alloc _) (rbox_new _ _ _)).mono ?_
  rintro e w1 ⟨rfl, hb⟩
  have HE : Hid (Ext w w1) := ((Ext.refl _).alloc _).trans hb
  have HB : Hid (RpAt w1 w.heap.size r) := (rbox_new w r _).ext hb
  clear hb
  go_wp2_with fail
  refine (HP1.out _ _ HE.out HB.out).mono ?_
  rintro e w2 ⟨rfl, hb⟩
  have HE2 : Hid (Ext w w2) := HE.out.trans hb
  clear hb
  go_wp2
  go_ret
  exact ⟨ret_int HR.out.symm, HE2.out⟩
 ·have HR : Hid (Msg.askC f ms r (Msg.comC f ms r slot value) = Msg.repC f ms r) := Msg.askC_bad hc
  have g1 : (Msg.repC f ms r != 0) = true := by simpa using hc
  clear hc HP
  generalize Msg.repC f ms r = c at *
  go_wp2_with fail
  refine (HF.out _ _ ((Ext.refl _).alloc _) (rbox_new _ _ _)).mono ?_
  rintro e w1 ⟨rfl, hb⟩
  have HE : Hid (Ext w w1) := ((Ext.refl _).alloc _).trans hb
  clear hb
  go_wp2
  go_ret
  exact ⟨ret_int HR.out.symm, HE.out⟩
end Go.Proofs.YtecgjdgfjgcmdaaGreat
