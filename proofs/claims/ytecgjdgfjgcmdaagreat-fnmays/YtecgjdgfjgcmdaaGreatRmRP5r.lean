/- prepare: what one says who is heard. -/
import Derived.Test.YtecgjdgfjgcmdaaGreatRmRP5
import Derived.Test.YtecgjdgfjgcmdaaGreatRmTk
namespace Go.Proofs.YtecgjdgfjgcmdaaGreat
open Go.RowKit
def Msg.valAt (ms : List Ms) (p : Int) : Int := match Msg.nth ms p with
 | some z => z.value
 | none => 0
theorem Msg.prepC_bad {f : Int} {ms : List Ms} {r : Rp} {p : Int} (h : (Msg.proposeAt f ms p r.start && decide (Msg.viewAt ms p = r.view)) = false) : Msg.prepC f ms r p = 1 := by unfold Msg.prepC; rw [if_pos h]
theorem Msg.prepC_ok {f : Int} {ms : List Ms} {r : Rp} {p : Int} (h : (Msg.proposeAt f ms p r.start && decide (Msg.viewAt ms p = r.view)) = true) : Msg.prepC f ms r p = if Msg.slotB (Msg.saidL ms r 2) (Msg.slotAt ms p) = true then 6 else 0 := by unfold Msg.prepC; rw [if_neg (by rw [h]; decide)]
set_option maxHeartbeats 2000000 in
theorem findMsg_at (ms : List Ms) (k : Nat) (kind : Int) (z : Ms) (b off cap : Nat) (w : World) (hS : MSlice w (.slice (some ⟨b, off, none⟩) ms.length cap) ms) (h2 : ms[k]? = some z) (hk : z.kind = kind) :
  Calls Tryz.prog 75 #[.slice (some ⟨b, off, none⟩) ms.length cap, .int .i64 (k : Int), .int .i64 kind] w fun e w' => e = .returned (.pointer (some ⟨b, off + k * 7, none⟩)) ∧ w' = w := by
 obtain ⟨b', off', cap', e, hlt, hlm, hcm, hb, hm⟩ := hS.at2 h2
 injection e with e1 e2 e3
 injection e1 with e1
 injection e1 with e4 e5
 subst e4 e5 e3
 obtain ⟨vz, uz, ⟨d0, -, -, -, -, -, -⟩, -⟩ := hm
 have e9 : IntKind.i64.wrap ((ms.length : Int) - 1) = (ms.length : Int) - 1 := by rw [IntKind.wrap_i64]; omega
 have HU : Hid (Calls Tryz.prog 84 #[.int .i64 (k : Int), .int .i64 ((ms.length : Int) - 1)] w fun e w' => e = .returned (.bool true) ∧ w' = w) := by
  have q : (decide (0 ≤ (k : Int)) && decide ((k : Int) ≤ (ms.length : Int) - 1)) = true := by simp; omega
  rw [← q]; exact isUpToM_any _ _ w
 have hg : (z.kind != kind) = false := by simpa using hk
 clear h2 hk hb hS
 go_enter Tryz.func75, Tryz.ntmps75
 go_wp2_with fail
 refine HU.out.mono ?_
 rintro e w9 ⟨rfl, hw⟩
 rw [hw]
 clear hw w9
 go_wp2
 go_ret
 exact ⟨rfl, rfl⟩
set_option linter.unusedSimpArgs false in
set_option maxHeartbeats 8000000 in
set_option maxRecDepth 100000 in
theorem prepare_any (f : Int) (v : Value) (ms : List Ms) (r : Rp) (u : Value) (L : List Int) (place : Int) (w : World) (hS : MSlice w v ms) (hI : ISlice w u L) (hrep : Msg.repC f ms r = 0) :
  Calls Tryz.prog 53 #[sagg r f v (Msg.inV r) u, .int .i64 place] w (Said KT (Msg.prepC f ms r place) ⟨2, r.view, r.id, Msg.slotAt ms place, Msg.valAt ms place, [], []⟩ w) := by
 have hled := Msg.repC_led hrep
 obtain ⟨hf0, hf1, hml⟩ := Msg.ledger_zero hled
 clear hrep
 obtain ⟨au, cu, rfl, -, -, -⟩ := hI
 have HSe : Hid (∀ bg wx, Ext w wx → Calls Tryz.prog 110 #[sagg r f v bg (.slice au L.length cu), .int .i64 2] wx fun e w' => ∃ vo, e = .returned vo ∧ MSlice w' vo (Msg.saidL ms r 2) ∧ Ext wx w') := fun bg wx he => sent_any r f v ms bg au L.length cu 2 wx (hS.ext he) hml
 have HSl : Hid (MSlice w v ms) := hS
 have HLd : Hid (Msg.ledger f ms = 0) := hled
 obtain ⟨a, cap, rfl, -, -, hx9⟩ := hS
 have HX : Hid (0 < ms.length → ∃ b off, a = some ⟨b, off, none⟩ ∧ b < w.heap.size ∧ MsAt w b off ms) := hx9
 have HV0 : Hid (∀ x y bg wx, Calls Tryz.prog 115 #[sagg r f (.slice a ms.length cap) bg (.slice au L.length cu), .int .i64 2, .int .i64 x, .int .i64 y] wx fun e w' => e = .returned (magg ⟨2, r.view, r.id, x, y, [], []⟩ (.slice none 0 0) (.slice none 0 0)) ∧ Ext wx w') := fun x y bg wx => vote_any r f a ms.length cap bg au L.length cu 2 x y wx
 clear hf0 hf1 hml hled hx9
 unfold sagg at *
 generalize Msg.inV r = bg at *
 have HSe1 : Hid _ := HSe.out bg
 clear HSe
 cases hk : Msg.kindAt ms place 1 with
 | false =>
  have HR : Hid (Msg.prepC f ms r place = 1) := Msg.prepC_bad (by rw [Msg.propose_no hk]; rfl)
  have HN : Hid (∀ wx, Ext w wx → Calls Tryz.prog 75 #[.slice a ms.length cap, .int .i64 place, .int .i64 1] wx fun e w' => e = .returned (.pointer none) ∧ w' = wx) := fun wx he => findMsg_no _ ms place 1 wx (HSl.out.ext he) hk
  have hpn : ∀ W : World, (binOp BinOp.eql 97 (.pointer none) (.pointer none)).run Tryz.prog W = .ok (.bool true) W := fun _ => by kernel_rfl
  clear hk HSl HX HV0 HLd HSe1
  go_enter Tryz.func53, Tryz.ntmps53
  go_wp2_with fail
  refine (HN.out _ (((Ext.refl _).alloc _).alloc _)).mono ?_
  rintro e w9 ⟨rfl, hw⟩
  rw [hw]
  clear hw w9
  obtain ⟨W0, hW0⟩ : ∃ W0, W0 = w.alloc (.cells #[.int .i64 r.id, .int .i64 r.view, .int .i64 r.start, .int .i64 r.done, .int .i64 f, .slice a ms.length cap, .bool bg, .slice au L.length cu] 76) := ⟨_, rfl⟩
  obtain ⟨W1, hW1⟩ : ∃ W1, W1 = W0.alloc (.cells #[.int .i64 0, .int .i64 0, .int .i64 0, .int .i64 0, .int .i64 0, .slice none 0 0, .slice none 0 0] 40) := ⟨_, rfl⟩
  have HW : Hid (Ext w W0 ∧ Ext W0 W1 ∧ W0.heap.size = w.heap.size + 1) := ⟨by rw [hW0]; exact (Ext.refl _).alloc _, by rw [hW1]; exact (Ext.refl _).alloc _, by rw [hW0]; simp⟩
  have HZ : Hid (ZBox W1 (w.heap.size + 1) [.int .i64 0, .int .i64 0, .int .i64 0, .int .i64 0, .int .i64 0, .slice none 0 0, .slice none 0 0]) := by
   have q := zbox_new W0 [.int .i64 0, .int .i64 0, .int .i64 0, .int .i64 0, .int .i64 0, .slice none 0 0, .slice none 0 0] 40
   rw [HW.out.2.2] at q
   rw [hW1]; exact q
  have HS : Hid (∀ W', Ext W0 W' → W'.cell? ⟨w.heap.size, 0, none⟩ = some (.int .i64 r.id) ∧ W'.cell? ⟨w.heap.size, 1, none⟩ = some (.int .i64 r.view) ∧ W'.cell? ⟨w.heap.size, 2, none⟩ = some (.int .i64 r.start) ∧ W'.cell? ⟨w.heap.size, 3, none⟩ = some (.int .i64 r.done) ∧ W'.cell? ⟨w.heap.size, 4, none⟩ = some (.int .i64 f) ∧ W'.cell? ⟨w.heap.size, 5, none⟩ = some (.slice a ms.length cap) ∧ W'.cell? ⟨w.heap.size, 6, none⟩ = some (.bool bg) ∧ W'.cell? ⟨w.heap.size, 7, none⟩ = some (.slice au L.length cu)) := fun W' he => by
   obtain ⟨-, c0, c1, c2, c3, c4, c5, c6, c7⟩ := (spk_new w r f (.slice a ms.length cap) bg (.slice au L.length cu) 76).ext (hW0 ▸ he)
   exact ⟨c0, c1, c2, c3, c4, c5, c6, c7⟩
  rw [← hW0, ← hW1]
  clear hW0 hW1
  go_wp2
  refine wp_region_held_drew (S := (fun W' : World => W'.cell? ⟨w.heap.size, 0, none⟩ = some (.int .i64 r.id) ∧ W'.cell? ⟨w.heap.size, 1, none⟩ = some (.int .i64 r.view) ∧ W'.cell? ⟨w.heap.size, 2, none⟩ = some (.int .i64 r.start) ∧ W'.cell? ⟨w.heap.size, 3, none⟩ = some (.int .i64 r.done) ∧ W'.cell? ⟨w.heap.size, 4, none⟩ = some (.int .i64 f) ∧ W'.cell? ⟨w.heap.size, 5, none⟩ = some (.slice a ms.length cap) ∧ W'.cell? ⟨w.heap.size, 6, none⟩ = some (.bool bg) ∧ W'.cell? ⟨w.heap.size, 7, none⟩ = some (.slice au L.length cu))) (by kernel_rfl) (HS.out _ (HW.out.2.1.trans ((Ext.refl _).drew))) (fun hHeld => ?_)
  refine tk 0 ⟨some 10, .move (.tmp 5), 97, oz219, #[], none⟩ ?_
  refine tk 1 ⟨some 11, .binOp .eql 97 (.tmp 10) (.const (Value.pointer none)) 97, 4, oz219, #[⟨0, .data⟩], none⟩ ?_
  refine tk 2 ⟨some 12, .move (.tmp 11), 4, oz219, #[⟨1, .data⟩], none⟩ ?_
  refine tn 3 ⟨some 13, .move (.tmp 5), 97, oz219, #[⟨2, .guard⟩], some (2, false)⟩ ?_
  refine tn 4 ⟨some 14, .nilCheck (.tmp 13), 0, oz219, oy220, some (2, false)⟩ ?_
  refine tn 5 ⟨some 15, .fieldAddr 40 (.tmp 14) 1, 0, oz219, oy221, some (2, false)⟩ ?_
  refine tn 6 ⟨some 16, .load 2 (.tmp 15), 2, oz219, oy222, some (2, false)⟩ ?_
  refine tn 7 ⟨some 17, .fieldAddr 76 (.tmp 2) 0, 0, oz219, #[⟨2, .guard⟩], some (2, false)⟩ ?_
  refine tn 8 ⟨some 18, .fieldAddr 29 (.tmp 17) 1, 0, oz219, oy223, some (2, false)⟩ ?_
  refine tn 9 ⟨some 19, .load 2 (.tmp 18), 2, oz219, oy157, some (2, false)⟩ ?_
  refine tn 10 ⟨some 20, .binOp .neq 2 (.tmp 16) (.tmp 19) 2, 4, oz219, oy224, some (2, false)⟩ ?_
  refine tk 11 ⟨some 21, .pick (.tmp 12) (.const (.bool true)) (.tmp 20), 4, oz219, oy225, none⟩ ?_
  refine tk 12 ⟨some 22, .move (.tmp 21), 4, oz219, oy226, none⟩ ?_
  refine tn 13 ⟨some 23, .fieldAddr 76 (.tmp 2) 1, 0, oz219, oy227, some (12, false)⟩ ?_
  refine tn 14 ⟨some 24, .load 2 (.tmp 23), 2, oz219, oy228, some (12, false)⟩ ?_
  refine tn 15 ⟨some 25, .fieldAddr 76 (.tmp 2) 2, 0, oz219, oy227, some (12, false)⟩ ?_
  refine tn 16 ⟨some 26, .load 27 (.tmp 25), 27, oz219, oy229, some (12, false)⟩ ?_
  refine tn 17 ⟨some 27, .move (.tmp 5), 97, oz219, oy227, some (12, false)⟩ ?_
  refine tn 18 ⟨some 28, .fieldAddr 76 (.tmp 2) 0, 0, oz219, oy227, some (12, false)⟩ ?_
  refine tn 19 ⟨some 29, .fieldAddr 29 (.tmp 28) 2, 0, oz219, oy230, some (12, false)⟩ ?_
  refine tn 20 ⟨some 30, .load 2 (.tmp 29), 2, oz219, oy231, some (12, false)⟩ ?_
  refine tn 21 ⟨some 31, .call { callee := .value (.func 76), args := #[.tmp 24, .tmp 26, .tmp 27, .tmp 30], argTypes := #[2, 27, 97, 2] }, 4, oz219, #[⟨14, .data⟩, ⟨16, .data⟩, ⟨17, .data⟩, ⟨20, .data⟩, ⟨12, .chain⟩, ⟨12, .guard⟩], some (12, false)⟩ ?_
  refine tn 22 ⟨some 32, .unOp .not 4 (.tmp 31), 4, oz219, oy232, some (12, false)⟩ ?_
  refine tk 23 ⟨some 33, .pick (.tmp 22) (.const (.bool true)) (.tmp 32), 4, oz219, oy233, none⟩ ?_
  refine wpAnyH_ready (rs := [24]) (by kernel_rfl) (by simp) (AllReadyH.cons rfl (fun K hK => ?_) AllReadyH.nil)
  go_simp
  refine (refuse_yes _ _).mono ?_
  rintro e w9 ⟨rfl, hw⟩
  rw [hw]
  clear hw w9
  exact ⟨rfl, (HW.out.1.trans (HW.out.2.1.trans ((Ext.refl _).drew))), Or.inl ⟨by rw [HR.out]; decide, by rw [HR.out]; rfl⟩⟩
 | true =>
  cases hn : Msg.nth ms place with
  | none => rw [Msg.kindAt_none hn] at hk; cases hk
  | some z =>
   rw [Msg.kindAt_some hn, decide_eq_true_eq] at hk
   have HPA := Msg.proposeAt_some (f := f) (start := r.start) hn
   have hva : Msg.viewAt ms place = z.view := by unfold Msg.viewAt; rw [hn]
   have hsa : Msg.slotAt ms place = z.slot := by unfold Msg.slotAt; rw [hn]
   have hxa : Msg.valAt ms place = z.value := by unfold Msg.valAt; rw [hn]
   obtain ⟨h0, h1, h2⟩ := Msg.nth_some hn
   obtain ⟨k, rfl⟩ : ∃ k : Nat, place = k := ⟨place.toNat, by omega⟩
   have h2 : ms[k]? = some z := h2
   obtain ⟨b1, off, rfl, hb1, hN⟩ := HX.out (by have := (List.getElem?_eq_some_iff.1 h2).1; omega)
   have HMz : Hid (b1 < w.heap.size ∧ MAt w b1 (off + k * 7) z) := ⟨hb1, hN k z h2⟩
   have HY : Hid (∀ wx, Ext w wx → Calls Tryz.prog 75 #[.slice (some ⟨b1, off, none⟩) ms.length cap, .int .i64 (k : Int), .int .i64 1] wx fun e w' => e = .returned (.pointer (some ⟨b1, off + k * 7, none⟩)) ∧ w' = wx) := fun wx he => findMsg_at ms k 1 z b1 off cap wx (HSl.out.ext he) h2 hk
   have HRt0 : Hid (∀ bb, Msg.proposeB f ms z r.start = bb → ∀ wx, Ext w wx → Calls Tryz.prog 76 #[.int .i64 f, .slice (some ⟨b1, off, none⟩) ms.length cap, .pointer (some ⟨b1, off + k * 7, none⟩), .int .i64 r.start] wx fun e w' => e = .returned (.bool bb) ∧ Ext wx w') := fun bb h wx he => by
    have q := isRightPropose_any f _ ms z b1 (off + k * 7) k r.start wx (HSl.out.ext he) HLd.out h2 hk (Nat.lt_of_lt_of_le hb1 he.size) ((hN k z h2).ext hb1 he)
    rw [h] at q; exact q
   have HH0 : Hid (∀ bb, Msg.slotB (Msg.saidL ms r 2) z.slot = bb → ∀ x wx, MSlice wx x (Msg.saidL ms r 2) → Calls Tryz.prog 111 #[x, .int .i64 z.slot] wx fun e w' => e = .returned (.bool bb) ∧ Ext wx w') := fun bb h x wx hx => by have q := hasSlot_any z.slot x _ wx hx; rw [h] at q; exact q
   have HV : Hid _ := HV0.out z.slot z.value bg
   have hpn : ∀ W : World, (binOp BinOp.eql 97 (.pointer (some ⟨b1, off + k * 7, none⟩)) (.pointer none)).run Tryz.prog W = .ok (.bool false) W := fun _ => by kernel_rfl
   rw [hsa, hxa]
   clear HSl HX HV0 HLd hN h0 h1 h2 hk hn hb1 hxa
   cases g1 : decide (z.view = r.view) with
   | false =>
    have HR : Hid (Msg.prepC f ms r k = 1) := Msg.prepC_bad (by rw [hva, g1, Bool.and_false])
    have g2 : (z.view != r.view) = true := by have := of_decide_eq_false g1; simpa using this
    clear g1 hva hsa HPA HRt0 HH0 HV HSe1
    go_enter Tryz.func53, Tryz.ntmps53
    go_wp2_with fail
    refine (HY.out _ (((Ext.refl _).alloc _).alloc _)).mono ?_
    rintro e w9 ⟨rfl, hw⟩
    rw [hw]
    clear hw w9
    obtain ⟨W0, hW0⟩ : ∃ W0, W0 = w.alloc (.cells #[.int .i64 r.id, .int .i64 r.view, .int .i64 r.start, .int .i64 r.done, .int .i64 f, .slice (some ⟨b1, off, none⟩) ms.length cap, .bool bg, .slice au L.length cu] 76) := ⟨_, rfl⟩
    obtain ⟨W1, hW1⟩ : ∃ W1, W1 = W0.alloc (.cells #[.int .i64 0, .int .i64 0, .int .i64 0, .int .i64 0, .int .i64 0, .slice none 0 0, .slice none 0 0] 40) := ⟨_, rfl⟩
    have HW : Hid (Ext w W0 ∧ Ext W0 W1 ∧ W0.heap.size = w.heap.size + 1) := ⟨by rw [hW0]; exact (Ext.refl _).alloc _, by rw [hW1]; exact (Ext.refl _).alloc _, by rw [hW0]; simp⟩
    have HZ : Hid (ZBox W1 (w.heap.size + 1) [.int .i64 0, .int .i64 0, .int .i64 0, .int .i64 0, .int .i64 0, .slice none 0 0, .slice none 0 0]) := by
     have q := zbox_new W0 [.int .i64 0, .int .i64 0, .int .i64 0, .int .i64 0, .int .i64 0, .slice none 0 0, .slice none 0 0] 40
     rw [HW.out.2.2] at q
     rw [hW1]; exact q
    have HS : Hid (∀ W', Ext W0 W' → W'.cell? ⟨w.heap.size, 0, none⟩ = some (.int .i64 r.id) ∧ W'.cell? ⟨w.heap.size, 1, none⟩ = some (.int .i64 r.view) ∧ W'.cell? ⟨w.heap.size, 2, none⟩ = some (.int .i64 r.start) ∧ W'.cell? ⟨w.heap.size, 3, none⟩ = some (.int .i64 r.done) ∧ W'.cell? ⟨w.heap.size, 4, none⟩ = some (.int .i64 f) ∧ W'.cell? ⟨w.heap.size, 5, none⟩ = some (.slice (some ⟨b1, off, none⟩) ms.length cap) ∧ W'.cell? ⟨w.heap.size, 6, none⟩ = some (.bool bg) ∧ W'.cell? ⟨w.heap.size, 7, none⟩ = some (.slice au L.length cu) ∧ W'.cell? ⟨b1, off + k * 7 + 1, none⟩ = some (.int .i64 z.view) ∧ W'.cell? ⟨b1, off + k * 7 + 3, none⟩ = some (.int .i64 z.slot) ∧ W'.cell? ⟨b1, off + k * 7 + 4, none⟩ = some (.int .i64 z.value)) := fun W' he => by
     obtain ⟨-, c0, c1, c2, c3, c4, c5, c6, c7⟩ := (spk_new w r f (.slice (some ⟨b1, off, none⟩) ms.length cap) bg (.slice au L.length cu) 76).ext (hW0 ▸ he)
     obtain ⟨vz, uz, ⟨-, m1, -, m3, m4, -, -⟩, -⟩ := HMz.out.2.ext HMz.out.1 (HW.out.1.trans he)
     exact ⟨c0, c1, c2, c3, c4, c5, c6, c7, m1, m3, m4⟩
    rw [← hW0, ← hW1]
    clear hW0 hW1
    go_wp2
    refine wp_region_held_drew (S := (fun W' : World => W'.cell? ⟨w.heap.size, 0, none⟩ = some (.int .i64 r.id) ∧ W'.cell? ⟨w.heap.size, 1, none⟩ = some (.int .i64 r.view) ∧ W'.cell? ⟨w.heap.size, 2, none⟩ = some (.int .i64 r.start) ∧ W'.cell? ⟨w.heap.size, 3, none⟩ = some (.int .i64 r.done) ∧ W'.cell? ⟨w.heap.size, 4, none⟩ = some (.int .i64 f) ∧ W'.cell? ⟨w.heap.size, 5, none⟩ = some (.slice (some ⟨b1, off, none⟩) ms.length cap) ∧ W'.cell? ⟨w.heap.size, 6, none⟩ = some (.bool bg) ∧ W'.cell? ⟨w.heap.size, 7, none⟩ = some (.slice au L.length cu) ∧ W'.cell? ⟨b1, off + k * 7 + 1, none⟩ = some (.int .i64 z.view) ∧ W'.cell? ⟨b1, off + k * 7 + 3, none⟩ = some (.int .i64 z.slot) ∧ W'.cell? ⟨b1, off + k * 7 + 4, none⟩ = some (.int .i64 z.value))) (by kernel_rfl) (HS.out _ (HW.out.2.1.trans ((Ext.refl _).drew))) (fun hHeld => ?_)
    refine tk 0 ⟨some 10, .move (.tmp 5), 97, oz219, #[], none⟩ ?_
    refine tk 1 ⟨some 11, .binOp .eql 97 (.tmp 10) (.const (Value.pointer none)) 97, 4, oz219, #[⟨0, .data⟩], none⟩ ?_
    refine tk 2 ⟨some 12, .move (.tmp 11), 4, oz219, #[⟨1, .data⟩], none⟩ ?_
    refine tk 3 ⟨some 13, .move (.tmp 5), 97, oz219, #[⟨2, .guard⟩], some (2, false)⟩ ?_
    refine tk 4 ⟨some 14, .nilCheck (.tmp 13), 0, oz219, oy220, some (2, false)⟩ ?_
    refine tk 5 ⟨some 15, .fieldAddr 40 (.tmp 14) 1, 0, oz219, oy221, some (2, false)⟩ ?_
    refine tk 6 ⟨some 16, .load 2 (.tmp 15), 2, oz219, oy222, some (2, false)⟩ ?_
    refine tk 7 ⟨some 17, .fieldAddr 76 (.tmp 2) 0, 0, oz219, #[⟨2, .guard⟩], some (2, false)⟩ ?_
    refine tk 8 ⟨some 18, .fieldAddr 29 (.tmp 17) 1, 0, oz219, oy223, some (2, false)⟩ ?_
    refine tk 9 ⟨some 19, .load 2 (.tmp 18), 2, oz219, oy157, some (2, false)⟩ ?_
    refine tk 10 ⟨some 20, .binOp .neq 2 (.tmp 16) (.tmp 19) 2, 4, oz219, oy224, some (2, false)⟩ ?_
    refine tk 11 ⟨some 21, .pick (.tmp 12) (.const (.bool true)) (.tmp 20), 4, oz219, oy225, none⟩ ?_
    refine tk 12 ⟨some 22, .move (.tmp 21), 4, oz219, oy226, none⟩ ?_
    refine tn 13 ⟨some 23, .fieldAddr 76 (.tmp 2) 1, 0, oz219, oy227, some (12, false)⟩ ?_
    refine tn 14 ⟨some 24, .load 2 (.tmp 23), 2, oz219, oy228, some (12, false)⟩ ?_
    refine tn 15 ⟨some 25, .fieldAddr 76 (.tmp 2) 2, 0, oz219, oy227, some (12, false)⟩ ?_
    refine tn 16 ⟨some 26, .load 27 (.tmp 25), 27, oz219, oy229, some (12, false)⟩ ?_
    refine tn 17 ⟨some 27, .move (.tmp 5), 97, oz219, oy227, some (12, false)⟩ ?_
    refine tn 18 ⟨some 28, .fieldAddr 76 (.tmp 2) 0, 0, oz219, oy227, some (12, false)⟩ ?_
    refine tn 19 ⟨some 29, .fieldAddr 29 (.tmp 28) 2, 0, oz219, oy230, some (12, false)⟩ ?_
    refine tn 20 ⟨some 30, .load 2 (.tmp 29), 2, oz219, oy231, some (12, false)⟩ ?_
    refine tn 21 ⟨some 31, .call { callee := .value (.func 76), args := #[.tmp 24, .tmp 26, .tmp 27, .tmp 30], argTypes := #[2, 27, 97, 2] }, 4, oz219, #[⟨14, .data⟩, ⟨16, .data⟩, ⟨17, .data⟩, ⟨20, .data⟩, ⟨12, .chain⟩, ⟨12, .guard⟩], some (12, false)⟩ ?_
    refine tn 22 ⟨some 32, .unOp .not 4 (.tmp 31), 4, oz219, oy232, some (12, false)⟩ ?_
    refine tk 23 ⟨some 33, .pick (.tmp 22) (.const (.bool true)) (.tmp 32), 4, oz219, oy233, none⟩ ?_
    refine wpAnyH_ready (rs := [24]) (by kernel_rfl) (by simp) (AllReadyH.cons rfl (fun K hK => ?_) AllReadyH.nil)
    go_simp
    refine (refuse_yes _ _).mono ?_
    rintro e w9 ⟨rfl, hw⟩
    rw [hw]
    clear hw w9
    exact ⟨rfl, (HW.out.1.trans (HW.out.2.1.trans ((Ext.refl _).drew))), Or.inl ⟨by rw [HR.out]; decide, by rw [HR.out]; rfl⟩⟩
   | true =>
    have g2 : (z.view != r.view) = false := by have := of_decide_eq_true g1; simpa using this
    cases g3 : Msg.proposeB f ms z r.start with
    | false =>
     have HR : Hid (Msg.prepC f ms r k = 1) := Msg.prepC_bad (by rw [HPA, g3, Bool.false_and])
     have HRt : Hid _ := HRt0.out false g3
     clear g1 g3 hva hsa HPA HRt0 HH0 HV HSe1
     go_enter Tryz.func53, Tryz.ntmps53
     go_wp2_with fail
     refine (HY.out _ (((Ext.refl _).alloc _).alloc _)).mono ?_
     rintro e w9 ⟨rfl, hw⟩
     rw [hw]
     clear hw w9
     obtain ⟨W0, hW0⟩ : ∃ W0, W0 = w.alloc (.cells #[.int .i64 r.id, .int .i64 r.view, .int .i64 r.start, .int .i64 r.done, .int .i64 f, .slice (some ⟨b1, off, none⟩) ms.length cap, .bool bg, .slice au L.length cu] 76) := ⟨_, rfl⟩
     obtain ⟨W1, hW1⟩ : ∃ W1, W1 = W0.alloc (.cells #[.int .i64 0, .int .i64 0, .int .i64 0, .int .i64 0, .int .i64 0, .slice none 0 0, .slice none 0 0] 40) := ⟨_, rfl⟩
     have HW : Hid (Ext w W0 ∧ Ext W0 W1 ∧ W0.heap.size = w.heap.size + 1) := ⟨by rw [hW0]; exact (Ext.refl _).alloc _, by rw [hW1]; exact (Ext.refl _).alloc _, by rw [hW0]; simp⟩
     have HZ : Hid (ZBox W1 (w.heap.size + 1) [.int .i64 0, .int .i64 0, .int .i64 0, .int .i64 0, .int .i64 0, .slice none 0 0, .slice none 0 0]) := by
      have q := zbox_new W0 [.int .i64 0, .int .i64 0, .int .i64 0, .int .i64 0, .int .i64 0, .slice none 0 0, .slice none 0 0] 40
      rw [HW.out.2.2] at q
      rw [hW1]; exact q
     have HS : Hid (∀ W', Ext W0 W' → W'.cell? ⟨w.heap.size, 0, none⟩ = some (.int .i64 r.id) ∧ W'.cell? ⟨w.heap.size, 1, none⟩ = some (.int .i64 r.view) ∧ W'.cell? ⟨w.heap.size, 2, none⟩ = some (.int .i64 r.start) ∧ W'.cell? ⟨w.heap.size, 3, none⟩ = some (.int .i64 r.done) ∧ W'.cell? ⟨w.heap.size, 4, none⟩ = some (.int .i64 f) ∧ W'.cell? ⟨w.heap.size, 5, none⟩ = some (.slice (some ⟨b1, off, none⟩) ms.length cap) ∧ W'.cell? ⟨w.heap.size, 6, none⟩ = some (.bool bg) ∧ W'.cell? ⟨w.heap.size, 7, none⟩ = some (.slice au L.length cu) ∧ W'.cell? ⟨b1, off + k * 7 + 1, none⟩ = some (.int .i64 z.view) ∧ W'.cell? ⟨b1, off + k * 7 + 3, none⟩ = some (.int .i64 z.slot) ∧ W'.cell? ⟨b1, off + k * 7 + 4, none⟩ = some (.int .i64 z.value)) := fun W' he => by
      obtain ⟨-, c0, c1, c2, c3, c4, c5, c6, c7⟩ := (spk_new w r f (.slice (some ⟨b1, off, none⟩) ms.length cap) bg (.slice au L.length cu) 76).ext (hW0 ▸ he)
      obtain ⟨vz, uz, ⟨-, m1, -, m3, m4, -, -⟩, -⟩ := HMz.out.2.ext HMz.out.1 (HW.out.1.trans he)
      exact ⟨c0, c1, c2, c3, c4, c5, c6, c7, m1, m3, m4⟩
     rw [← hW0, ← hW1]
     clear hW0 hW1
     go_wp2
     refine wp_region_held_drew (S := (fun W' : World => W'.cell? ⟨w.heap.size, 0, none⟩ = some (.int .i64 r.id) ∧ W'.cell? ⟨w.heap.size, 1, none⟩ = some (.int .i64 r.view) ∧ W'.cell? ⟨w.heap.size, 2, none⟩ = some (.int .i64 r.start) ∧ W'.cell? ⟨w.heap.size, 3, none⟩ = some (.int .i64 r.done) ∧ W'.cell? ⟨w.heap.size, 4, none⟩ = some (.int .i64 f) ∧ W'.cell? ⟨w.heap.size, 5, none⟩ = some (.slice (some ⟨b1, off, none⟩) ms.length cap) ∧ W'.cell? ⟨w.heap.size, 6, none⟩ = some (.bool bg) ∧ W'.cell? ⟨w.heap.size, 7, none⟩ = some (.slice au L.length cu) ∧ W'.cell? ⟨b1, off + k * 7 + 1, none⟩ = some (.int .i64 z.view) ∧ W'.cell? ⟨b1, off + k * 7 + 3, none⟩ = some (.int .i64 z.slot) ∧ W'.cell? ⟨b1, off + k * 7 + 4, none⟩ = some (.int .i64 z.value))) (by kernel_rfl) (HS.out _ (HW.out.2.1.trans ((Ext.refl _).drew))) (fun hHeld => ?_)
     refine tk 0 ⟨some 10, .move (.tmp 5), 97, oz219, #[], none⟩ ?_
     refine tk 1 ⟨some 11, .binOp .eql 97 (.tmp 10) (.const (Value.pointer none)) 97, 4, oz219, #[⟨0, .data⟩], none⟩ ?_
     refine tk 2 ⟨some 12, .move (.tmp 11), 4, oz219, #[⟨1, .data⟩], none⟩ ?_
     refine tk 3 ⟨some 13, .move (.tmp 5), 97, oz219, #[⟨2, .guard⟩], some (2, false)⟩ ?_
     refine tk 4 ⟨some 14, .nilCheck (.tmp 13), 0, oz219, oy220, some (2, false)⟩ ?_
     refine tk 5 ⟨some 15, .fieldAddr 40 (.tmp 14) 1, 0, oz219, oy221, some (2, false)⟩ ?_
     refine tk 6 ⟨some 16, .load 2 (.tmp 15), 2, oz219, oy222, some (2, false)⟩ ?_
     refine tk 7 ⟨some 17, .fieldAddr 76 (.tmp 2) 0, 0, oz219, #[⟨2, .guard⟩], some (2, false)⟩ ?_
     refine tk 8 ⟨some 18, .fieldAddr 29 (.tmp 17) 1, 0, oz219, oy223, some (2, false)⟩ ?_
     refine tk 9 ⟨some 19, .load 2 (.tmp 18), 2, oz219, oy157, some (2, false)⟩ ?_
     refine tk 10 ⟨some 20, .binOp .neq 2 (.tmp 16) (.tmp 19) 2, 4, oz219, oy224, some (2, false)⟩ ?_
     refine tk 11 ⟨some 21, .pick (.tmp 12) (.const (.bool true)) (.tmp 20), 4, oz219, oy225, none⟩ ?_
     refine tk 12 ⟨some 22, .move (.tmp 21), 4, oz219, oy226, none⟩ ?_
     refine tk 13 ⟨some 23, .fieldAddr 76 (.tmp 2) 1, 0, oz219, oy227, some (12, false)⟩ ?_
     refine tk 14 ⟨some 24, .load 2 (.tmp 23), 2, oz219, oy228, some (12, false)⟩ ?_
     refine tk 15 ⟨some 25, .fieldAddr 76 (.tmp 2) 2, 0, oz219, oy227, some (12, false)⟩ ?_
     refine tk 16 ⟨some 26, .load 27 (.tmp 25), 27, oz219, oy229, some (12, false)⟩ ?_
     refine tk 17 ⟨some 27, .move (.tmp 5), 97, oz219, oy227, some (12, false)⟩ ?_
     refine tk 18 ⟨some 28, .fieldAddr 76 (.tmp 2) 0, 0, oz219, oy227, some (12, false)⟩ ?_
     refine tk 19 ⟨some 29, .fieldAddr 29 (.tmp 28) 2, 0, oz219, oy230, some (12, false)⟩ ?_
     refine tk 20 ⟨some 30, .load 2 (.tmp 29), 2, oz219, oy231, some (12, false)⟩ ?_
     refine wpAnyH_ready (rs := [21]) (by kernel_rfl) (by simp) (AllReadyH.cons rfl (fun K hK => ?_) AllReadyH.nil)
     go_simp
     refine (HRt.out _ (HW.out.1.trans (HW.out.2.1.trans ((Ext.refl _).drew)))).mono ?_
     rintro e y1 ⟨rfl, hb⟩
     have F1 : Hid (Ext W1 y1) := (((Ext.refl _).drew)).trans hb
     clear hb
     refine hK.out _ _ (by exact HS.out _ (HW.out.2.1.trans F1.out)) (fun hHeld1 => ?_)
     clear hK K
     refine tk 22 ⟨some 32, .unOp .not 4 (.tmp 31), 4, oz219, oy232, some (12, false)⟩ ?_
     refine tk 23 ⟨some 33, .pick (.tmp 22) (.const (.bool true)) (.tmp 32), 4, oz219, oy233, none⟩ ?_
     refine wpAnyH_ready (rs := [24]) (by kernel_rfl) (by simp) (AllReadyH.cons rfl (fun K hK => ?_) AllReadyH.nil)
     go_simp
     refine (refuse_yes _ _).mono ?_
     rintro e w9 ⟨rfl, hw⟩
     rw [hw]
     clear hw w9
     exact ⟨rfl, (HW.out.1.trans (HW.out.2.1.trans F1.out)), Or.inl ⟨by rw [HR.out]; decide, by rw [HR.out]; rfl⟩⟩
    | true =>
     have HRt : Hid _ := HRt0.out true g3
     have HPO : Hid (Msg.prepC f ms r k = if Msg.slotB (Msg.saidL ms r 2) z.slot = true then 6 else 0) := by
      have q := Msg.prepC_ok (f := f) (ms := ms) (r := r) (p := (k : Int)) (by rw [HPA, g3, hva, g1]; rfl)
      rw [hsa] at q; exact q
     cases g4 : Msg.slotB (Msg.saidL ms r 2) z.slot with
     | true =>
      have HR : Hid (Msg.prepC f ms r k = 6) := by show _ = _; rw [HPO.out, g4, if_pos rfl]
      have HH : Hid _ := HH0.out true g4
      clear g1 g3 g4 hva hsa HPA HRt0 HH0 HV HPO
      go_enter Tryz.func53, Tryz.ntmps53
      go_wp2_with fail
      refine (HY.out _ (((Ext.refl _).alloc _).alloc _)).mono ?_
      rintro e w9 ⟨rfl, hw⟩
      rw [hw]
      clear hw w9
      obtain ⟨W0, hW0⟩ : ∃ W0, W0 = w.alloc (.cells #[.int .i64 r.id, .int .i64 r.view, .int .i64 r.start, .int .i64 r.done, .int .i64 f, .slice (some ⟨b1, off, none⟩) ms.length cap, .bool bg, .slice au L.length cu] 76) := ⟨_, rfl⟩
      obtain ⟨W1, hW1⟩ : ∃ W1, W1 = W0.alloc (.cells #[.int .i64 0, .int .i64 0, .int .i64 0, .int .i64 0, .int .i64 0, .slice none 0 0, .slice none 0 0] 40) := ⟨_, rfl⟩
      have HW : Hid (Ext w W0 ∧ Ext W0 W1 ∧ W0.heap.size = w.heap.size + 1) := ⟨by rw [hW0]; exact (Ext.refl _).alloc _, by rw [hW1]; exact (Ext.refl _).alloc _, by rw [hW0]; simp⟩
      have HZ : Hid (ZBox W1 (w.heap.size + 1) [.int .i64 0, .int .i64 0, .int .i64 0, .int .i64 0, .int .i64 0, .slice none 0 0, .slice none 0 0]) := by
       have q := zbox_new W0 [.int .i64 0, .int .i64 0, .int .i64 0, .int .i64 0, .int .i64 0, .slice none 0 0, .slice none 0 0] 40
       rw [HW.out.2.2] at q
       rw [hW1]; exact q
      have HS : Hid (∀ W', Ext W0 W' → W'.cell? ⟨w.heap.size, 0, none⟩ = some (.int .i64 r.id) ∧ W'.cell? ⟨w.heap.size, 1, none⟩ = some (.int .i64 r.view) ∧ W'.cell? ⟨w.heap.size, 2, none⟩ = some (.int .i64 r.start) ∧ W'.cell? ⟨w.heap.size, 3, none⟩ = some (.int .i64 r.done) ∧ W'.cell? ⟨w.heap.size, 4, none⟩ = some (.int .i64 f) ∧ W'.cell? ⟨w.heap.size, 5, none⟩ = some (.slice (some ⟨b1, off, none⟩) ms.length cap) ∧ W'.cell? ⟨w.heap.size, 6, none⟩ = some (.bool bg) ∧ W'.cell? ⟨w.heap.size, 7, none⟩ = some (.slice au L.length cu) ∧ W'.cell? ⟨b1, off + k * 7 + 1, none⟩ = some (.int .i64 z.view) ∧ W'.cell? ⟨b1, off + k * 7 + 3, none⟩ = some (.int .i64 z.slot) ∧ W'.cell? ⟨b1, off + k * 7 + 4, none⟩ = some (.int .i64 z.value)) := fun W' he => by
       obtain ⟨-, c0, c1, c2, c3, c4, c5, c6, c7⟩ := (spk_new w r f (.slice (some ⟨b1, off, none⟩) ms.length cap) bg (.slice au L.length cu) 76).ext (hW0 ▸ he)
       obtain ⟨vz, uz, ⟨-, m1, -, m3, m4, -, -⟩, -⟩ := HMz.out.2.ext HMz.out.1 (HW.out.1.trans he)
       exact ⟨c0, c1, c2, c3, c4, c5, c6, c7, m1, m3, m4⟩
      rw [← hW0, ← hW1]
      clear hW0 hW1
      go_wp2
      refine wp_region_held_drew (S := (fun W' : World => W'.cell? ⟨w.heap.size, 0, none⟩ = some (.int .i64 r.id) ∧ W'.cell? ⟨w.heap.size, 1, none⟩ = some (.int .i64 r.view) ∧ W'.cell? ⟨w.heap.size, 2, none⟩ = some (.int .i64 r.start) ∧ W'.cell? ⟨w.heap.size, 3, none⟩ = some (.int .i64 r.done) ∧ W'.cell? ⟨w.heap.size, 4, none⟩ = some (.int .i64 f) ∧ W'.cell? ⟨w.heap.size, 5, none⟩ = some (.slice (some ⟨b1, off, none⟩) ms.length cap) ∧ W'.cell? ⟨w.heap.size, 6, none⟩ = some (.bool bg) ∧ W'.cell? ⟨w.heap.size, 7, none⟩ = some (.slice au L.length cu) ∧ W'.cell? ⟨b1, off + k * 7 + 1, none⟩ = some (.int .i64 z.view) ∧ W'.cell? ⟨b1, off + k * 7 + 3, none⟩ = some (.int .i64 z.slot) ∧ W'.cell? ⟨b1, off + k * 7 + 4, none⟩ = some (.int .i64 z.value))) (by kernel_rfl) (HS.out _ (HW.out.2.1.trans ((Ext.refl _).drew))) (fun hHeld => ?_)
      refine tk 0 ⟨some 10, .move (.tmp 5), 97, oz219, #[], none⟩ ?_
      refine tk 1 ⟨some 11, .binOp .eql 97 (.tmp 10) (.const (Value.pointer none)) 97, 4, oz219, #[⟨0, .data⟩], none⟩ ?_
      refine tk 2 ⟨some 12, .move (.tmp 11), 4, oz219, #[⟨1, .data⟩], none⟩ ?_
      refine tk 3 ⟨some 13, .move (.tmp 5), 97, oz219, #[⟨2, .guard⟩], some (2, false)⟩ ?_
      refine tk 4 ⟨some 14, .nilCheck (.tmp 13), 0, oz219, oy220, some (2, false)⟩ ?_
      refine tk 5 ⟨some 15, .fieldAddr 40 (.tmp 14) 1, 0, oz219, oy221, some (2, false)⟩ ?_
      refine tk 6 ⟨some 16, .load 2 (.tmp 15), 2, oz219, oy222, some (2, false)⟩ ?_
      refine tk 7 ⟨some 17, .fieldAddr 76 (.tmp 2) 0, 0, oz219, #[⟨2, .guard⟩], some (2, false)⟩ ?_
      refine tk 8 ⟨some 18, .fieldAddr 29 (.tmp 17) 1, 0, oz219, oy223, some (2, false)⟩ ?_
      refine tk 9 ⟨some 19, .load 2 (.tmp 18), 2, oz219, oy157, some (2, false)⟩ ?_
      refine tk 10 ⟨some 20, .binOp .neq 2 (.tmp 16) (.tmp 19) 2, 4, oz219, oy224, some (2, false)⟩ ?_
      refine tk 11 ⟨some 21, .pick (.tmp 12) (.const (.bool true)) (.tmp 20), 4, oz219, oy225, none⟩ ?_
      refine tk 12 ⟨some 22, .move (.tmp 21), 4, oz219, oy226, none⟩ ?_
      refine tk 13 ⟨some 23, .fieldAddr 76 (.tmp 2) 1, 0, oz219, oy227, some (12, false)⟩ ?_
      refine tk 14 ⟨some 24, .load 2 (.tmp 23), 2, oz219, oy228, some (12, false)⟩ ?_
      refine tk 15 ⟨some 25, .fieldAddr 76 (.tmp 2) 2, 0, oz219, oy227, some (12, false)⟩ ?_
      refine tk 16 ⟨some 26, .load 27 (.tmp 25), 27, oz219, oy229, some (12, false)⟩ ?_
      refine tk 17 ⟨some 27, .move (.tmp 5), 97, oz219, oy227, some (12, false)⟩ ?_
      refine tk 18 ⟨some 28, .fieldAddr 76 (.tmp 2) 0, 0, oz219, oy227, some (12, false)⟩ ?_
      refine tk 19 ⟨some 29, .fieldAddr 29 (.tmp 28) 2, 0, oz219, oy230, some (12, false)⟩ ?_
      refine tk 20 ⟨some 30, .load 2 (.tmp 29), 2, oz219, oy231, some (12, false)⟩ ?_
      refine wpAnyH_ready (rs := [21]) (by kernel_rfl) (by simp) (AllReadyH.cons rfl (fun K hK => ?_) AllReadyH.nil)
      go_simp
      refine (HRt.out _ (HW.out.1.trans (HW.out.2.1.trans ((Ext.refl _).drew)))).mono ?_
      rintro e y1 ⟨rfl, hb⟩
      have F1 : Hid (Ext W1 y1) := (((Ext.refl _).drew)).trans hb
      clear hb
      refine hK.out _ _ (by exact HS.out _ (HW.out.2.1.trans F1.out)) (fun hHeld1 => ?_)
      clear hK K
      refine tk 22 ⟨some 32, .unOp .not 4 (.tmp 31), 4, oz219, oy232, some (12, false)⟩ ?_
      refine tk 23 ⟨some 33, .pick (.tmp 22) (.const (.bool true)) (.tmp 32), 4, oz219, oy233, none⟩ ?_
      refine wpAnyH_ready (rs := [24]) (by kernel_rfl) (by simp) (AllReadyH.cons rfl (fun K hK => ?_) AllReadyH.nil)
      go_simp
      refine (refuse_no _ _).mono ?_
      rintro e w9 ⟨rfl, hw⟩
      rw [hw]
      clear hw w9
      refine hK.out _ _ (by exact HS.out _ (HW.out.2.1.trans F1.out)) (fun hHeld2 => ?_)
      clear hK K
      refine wpAnyH_done (by kernel_rfl) ?_ _
      go_wp2
      refine wp_region_held_drew (S := (fun W' : World => W'.cell? ⟨w.heap.size, 0, none⟩ = some (.int .i64 r.id) ∧ W'.cell? ⟨w.heap.size, 1, none⟩ = some (.int .i64 r.view) ∧ W'.cell? ⟨w.heap.size, 2, none⟩ = some (.int .i64 r.start) ∧ W'.cell? ⟨w.heap.size, 3, none⟩ = some (.int .i64 r.done) ∧ W'.cell? ⟨w.heap.size, 4, none⟩ = some (.int .i64 f) ∧ W'.cell? ⟨w.heap.size, 5, none⟩ = some (.slice (some ⟨b1, off, none⟩) ms.length cap) ∧ W'.cell? ⟨w.heap.size, 6, none⟩ = some (.bool bg) ∧ W'.cell? ⟨w.heap.size, 7, none⟩ = some (.slice au L.length cu) ∧ W'.cell? ⟨b1, off + k * 7 + 1, none⟩ = some (.int .i64 z.view) ∧ W'.cell? ⟨b1, off + k * 7 + 3, none⟩ = some (.int .i64 z.slot) ∧ W'.cell? ⟨b1, off + k * 7 + 4, none⟩ = some (.int .i64 z.value))) (by kernel_rfl) (HS.out _ (HW.out.2.1.trans (F1.out.drew))) (fun hHeld => ?_)
      refine tk 0 ⟨some 35, .load 76 (.tmp 2), 76, oz234, #[], none⟩ ?_
      refine tk 2 ⟨some 37, .move (.tmp 5), 97, oz234, #[], none⟩ ?_
      refine tk 3 ⟨some 38, .nilCheck (.tmp 37), 0, oz234, #[⟨2, .data⟩], none⟩ ?_
      refine tk 4 ⟨some 39, .fieldAddr 40 (.tmp 38) 3, 0, oz234, #[⟨3, .data⟩], none⟩ ?_
      refine tk 5 ⟨some 40, .load 2 (.tmp 39), 2, oz234, #[⟨4, .data⟩], none⟩ ?_
      refine wpAnyH_ready (rs := [1]) (by kernel_rfl) (by simp) (AllReadyH.cons rfl (fun K hK => ?_) AllReadyH.nil)
      go_simp
      refine (HSe1.out _ (HW.out.1.trans (HW.out.2.1.trans (F1.out.drew)))).mono ?_
      rintro e y2 ⟨vo, rfl, hO, hb⟩
      have F2 : Hid (Ext W1 y2) := (F1.out.drew).trans hb
      have HO2 : Hid (MSlice y2 vo (Msg.saidL ms r 2)) := hO
      obtain ⟨a3, c3, rfl, -⟩ := id hO
      clear hO hb
      refine hK.out _ _ (by exact HS.out _ (HW.out.2.1.trans F2.out)) (fun hHeld3 => ?_)
      clear hK K
      refine wpAnyH_ready (rs := [6]) (by kernel_rfl) (by simp) (AllReadyH.cons rfl (fun K hK => ?_) AllReadyH.nil)
      go_simp
      refine (HH.out _ _ HO2.out).mono ?_
      rintro e y3 ⟨rfl, hb⟩
      have F3 : Hid (Ext W1 y3) := F2.out.trans hb
      clear hb
      refine hK.out _ _ (by exact HS.out _ (HW.out.2.1.trans F3.out)) (fun hHeld4 => ?_)
      clear hK K
      refine wpAnyH_ready (rs := [7]) (by kernel_rfl) (by simp) (AllReadyH.cons rfl (fun K hK => ?_) AllReadyH.nil)
      go_simp
      refine (refuse_yes _ _).mono ?_
      rintro e w9 ⟨rfl, hw⟩
      rw [hw]
      clear hw w9
      exact ⟨rfl, (HW.out.1.trans (HW.out.2.1.trans F3.out)), Or.inl ⟨by rw [HR.out]; decide, by rw [HR.out]; rfl⟩⟩
     | false =>
      have HR : Hid (Msg.prepC f ms r k = 0) := by show _ = _; rw [HPO.out, g4, if_neg (by decide)]
      have HH : Hid _ := HH0.out false g4
      clear g1 g3 g4 hva hsa HPA HRt0 HH0 HPO
      go_enter Tryz.func53, Tryz.ntmps53
      go_wp2_with fail
      refine (HY.out _ (((Ext.refl _).alloc _).alloc _)).mono ?_
      rintro e w9 ⟨rfl, hw⟩
      rw [hw]
      clear hw w9
      obtain ⟨W0, hW0⟩ : ∃ W0, W0 = w.alloc (.cells #[.int .i64 r.id, .int .i64 r.view, .int .i64 r.start, .int .i64 r.done, .int .i64 f, .slice (some ⟨b1, off, none⟩) ms.length cap, .bool bg, .slice au L.length cu] 76) := ⟨_, rfl⟩
      obtain ⟨W1, hW1⟩ : ∃ W1, W1 = W0.alloc (.cells #[.int .i64 0, .int .i64 0, .int .i64 0, .int .i64 0, .int .i64 0, .slice none 0 0, .slice none 0 0] 40) := ⟨_, rfl⟩
      have HW : Hid (Ext w W0 ∧ Ext W0 W1 ∧ W0.heap.size = w.heap.size + 1) := ⟨by rw [hW0]; exact (Ext.refl _).alloc _, by rw [hW1]; exact (Ext.refl _).alloc _, by rw [hW0]; simp⟩
      have HZ : Hid (ZBox W1 (w.heap.size + 1) [.int .i64 0, .int .i64 0, .int .i64 0, .int .i64 0, .int .i64 0, .slice none 0 0, .slice none 0 0]) := by
       have q := zbox_new W0 [.int .i64 0, .int .i64 0, .int .i64 0, .int .i64 0, .int .i64 0, .slice none 0 0, .slice none 0 0] 40
       rw [HW.out.2.2] at q
       rw [hW1]; exact q
      have HS : Hid (∀ W', Ext W0 W' → W'.cell? ⟨w.heap.size, 0, none⟩ = some (.int .i64 r.id) ∧ W'.cell? ⟨w.heap.size, 1, none⟩ = some (.int .i64 r.view) ∧ W'.cell? ⟨w.heap.size, 2, none⟩ = some (.int .i64 r.start) ∧ W'.cell? ⟨w.heap.size, 3, none⟩ = some (.int .i64 r.done) ∧ W'.cell? ⟨w.heap.size, 4, none⟩ = some (.int .i64 f) ∧ W'.cell? ⟨w.heap.size, 5, none⟩ = some (.slice (some ⟨b1, off, none⟩) ms.length cap) ∧ W'.cell? ⟨w.heap.size, 6, none⟩ = some (.bool bg) ∧ W'.cell? ⟨w.heap.size, 7, none⟩ = some (.slice au L.length cu) ∧ W'.cell? ⟨b1, off + k * 7 + 1, none⟩ = some (.int .i64 z.view) ∧ W'.cell? ⟨b1, off + k * 7 + 3, none⟩ = some (.int .i64 z.slot) ∧ W'.cell? ⟨b1, off + k * 7 + 4, none⟩ = some (.int .i64 z.value)) := fun W' he => by
       obtain ⟨-, c0, c1, c2, c3, c4, c5, c6, c7⟩ := (spk_new w r f (.slice (some ⟨b1, off, none⟩) ms.length cap) bg (.slice au L.length cu) 76).ext (hW0 ▸ he)
       obtain ⟨vz, uz, ⟨-, m1, -, m3, m4, -, -⟩, -⟩ := HMz.out.2.ext HMz.out.1 (HW.out.1.trans he)
       exact ⟨c0, c1, c2, c3, c4, c5, c6, c7, m1, m3, m4⟩
      rw [← hW0, ← hW1]
      clear hW0 hW1
      go_wp2
      refine wp_region_held_drew (S := (fun W' : World => W'.cell? ⟨w.heap.size, 0, none⟩ = some (.int .i64 r.id) ∧ W'.cell? ⟨w.heap.size, 1, none⟩ = some (.int .i64 r.view) ∧ W'.cell? ⟨w.heap.size, 2, none⟩ = some (.int .i64 r.start) ∧ W'.cell? ⟨w.heap.size, 3, none⟩ = some (.int .i64 r.done) ∧ W'.cell? ⟨w.heap.size, 4, none⟩ = some (.int .i64 f) ∧ W'.cell? ⟨w.heap.size, 5, none⟩ = some (.slice (some ⟨b1, off, none⟩) ms.length cap) ∧ W'.cell? ⟨w.heap.size, 6, none⟩ = some (.bool bg) ∧ W'.cell? ⟨w.heap.size, 7, none⟩ = some (.slice au L.length cu) ∧ W'.cell? ⟨b1, off + k * 7 + 1, none⟩ = some (.int .i64 z.view) ∧ W'.cell? ⟨b1, off + k * 7 + 3, none⟩ = some (.int .i64 z.slot) ∧ W'.cell? ⟨b1, off + k * 7 + 4, none⟩ = some (.int .i64 z.value))) (by kernel_rfl) (HS.out _ (HW.out.2.1.trans ((Ext.refl _).drew))) (fun hHeld => ?_)
      refine tk 0 ⟨some 10, .move (.tmp 5), 97, oz219, #[], none⟩ ?_
      refine tk 1 ⟨some 11, .binOp .eql 97 (.tmp 10) (.const (Value.pointer none)) 97, 4, oz219, #[⟨0, .data⟩], none⟩ ?_
      refine tk 2 ⟨some 12, .move (.tmp 11), 4, oz219, #[⟨1, .data⟩], none⟩ ?_
      refine tk 3 ⟨some 13, .move (.tmp 5), 97, oz219, #[⟨2, .guard⟩], some (2, false)⟩ ?_
      refine tk 4 ⟨some 14, .nilCheck (.tmp 13), 0, oz219, oy220, some (2, false)⟩ ?_
      refine tk 5 ⟨some 15, .fieldAddr 40 (.tmp 14) 1, 0, oz219, oy221, some (2, false)⟩ ?_
      refine tk 6 ⟨some 16, .load 2 (.tmp 15), 2, oz219, oy222, some (2, false)⟩ ?_
      refine tk 7 ⟨some 17, .fieldAddr 76 (.tmp 2) 0, 0, oz219, #[⟨2, .guard⟩], some (2, false)⟩ ?_
      refine tk 8 ⟨some 18, .fieldAddr 29 (.tmp 17) 1, 0, oz219, oy223, some (2, false)⟩ ?_
      refine tk 9 ⟨some 19, .load 2 (.tmp 18), 2, oz219, oy157, some (2, false)⟩ ?_
      refine tk 10 ⟨some 20, .binOp .neq 2 (.tmp 16) (.tmp 19) 2, 4, oz219, oy224, some (2, false)⟩ ?_
      refine tk 11 ⟨some 21, .pick (.tmp 12) (.const (.bool true)) (.tmp 20), 4, oz219, oy225, none⟩ ?_
      refine tk 12 ⟨some 22, .move (.tmp 21), 4, oz219, oy226, none⟩ ?_
      refine tk 13 ⟨some 23, .fieldAddr 76 (.tmp 2) 1, 0, oz219, oy227, some (12, false)⟩ ?_
      refine tk 14 ⟨some 24, .load 2 (.tmp 23), 2, oz219, oy228, some (12, false)⟩ ?_
      refine tk 15 ⟨some 25, .fieldAddr 76 (.tmp 2) 2, 0, oz219, oy227, some (12, false)⟩ ?_
      refine tk 16 ⟨some 26, .load 27 (.tmp 25), 27, oz219, oy229, some (12, false)⟩ ?_
      refine tk 17 ⟨some 27, .move (.tmp 5), 97, oz219, oy227, some (12, false)⟩ ?_
      refine tk 18 ⟨some 28, .fieldAddr 76 (.tmp 2) 0, 0, oz219, oy227, some (12, false)⟩ ?_
      refine tk 19 ⟨some 29, .fieldAddr 29 (.tmp 28) 2, 0, oz219, oy230, some (12, false)⟩ ?_
      refine tk 20 ⟨some 30, .load 2 (.tmp 29), 2, oz219, oy231, some (12, false)⟩ ?_
      refine wpAnyH_ready (rs := [21]) (by kernel_rfl) (by simp) (AllReadyH.cons rfl (fun K hK => ?_) AllReadyH.nil)
      go_simp
      refine (HRt.out _ (HW.out.1.trans (HW.out.2.1.trans ((Ext.refl _).drew)))).mono ?_
      rintro e y1 ⟨rfl, hb⟩
      have F1 : Hid (Ext W1 y1) := (((Ext.refl _).drew)).trans hb
      clear hb
      refine hK.out _ _ (by exact HS.out _ (HW.out.2.1.trans F1.out)) (fun hHeld1 => ?_)
      clear hK K
      refine tk 22 ⟨some 32, .unOp .not 4 (.tmp 31), 4, oz219, oy232, some (12, false)⟩ ?_
      refine tk 23 ⟨some 33, .pick (.tmp 22) (.const (.bool true)) (.tmp 32), 4, oz219, oy233, none⟩ ?_
      refine wpAnyH_ready (rs := [24]) (by kernel_rfl) (by simp) (AllReadyH.cons rfl (fun K hK => ?_) AllReadyH.nil)
      go_simp
      refine (refuse_no _ _).mono ?_
      rintro e w9 ⟨rfl, hw⟩
      rw [hw]
      clear hw w9
      refine hK.out _ _ (by exact HS.out _ (HW.out.2.1.trans F1.out)) (fun hHeld2 => ?_)
      clear hK K
      refine wpAnyH_done (by kernel_rfl) ?_ _
      go_wp2
      refine wp_region_held_drew (S := (fun W' : World => W'.cell? ⟨w.heap.size, 0, none⟩ = some (.int .i64 r.id) ∧ W'.cell? ⟨w.heap.size, 1, none⟩ = some (.int .i64 r.view) ∧ W'.cell? ⟨w.heap.size, 2, none⟩ = some (.int .i64 r.start) ∧ W'.cell? ⟨w.heap.size, 3, none⟩ = some (.int .i64 r.done) ∧ W'.cell? ⟨w.heap.size, 4, none⟩ = some (.int .i64 f) ∧ W'.cell? ⟨w.heap.size, 5, none⟩ = some (.slice (some ⟨b1, off, none⟩) ms.length cap) ∧ W'.cell? ⟨w.heap.size, 6, none⟩ = some (.bool bg) ∧ W'.cell? ⟨w.heap.size, 7, none⟩ = some (.slice au L.length cu) ∧ W'.cell? ⟨b1, off + k * 7 + 1, none⟩ = some (.int .i64 z.view) ∧ W'.cell? ⟨b1, off + k * 7 + 3, none⟩ = some (.int .i64 z.slot) ∧ W'.cell? ⟨b1, off + k * 7 + 4, none⟩ = some (.int .i64 z.value))) (by kernel_rfl) (HS.out _ (HW.out.2.1.trans (F1.out.drew))) (fun hHeld => ?_)
      refine tk 0 ⟨some 35, .load 76 (.tmp 2), 76, oz234, #[], none⟩ ?_
      refine tk 2 ⟨some 37, .move (.tmp 5), 97, oz234, #[], none⟩ ?_
      refine tk 3 ⟨some 38, .nilCheck (.tmp 37), 0, oz234, #[⟨2, .data⟩], none⟩ ?_
      refine tk 4 ⟨some 39, .fieldAddr 40 (.tmp 38) 3, 0, oz234, #[⟨3, .data⟩], none⟩ ?_
      refine tk 5 ⟨some 40, .load 2 (.tmp 39), 2, oz234, #[⟨4, .data⟩], none⟩ ?_
      refine wpAnyH_ready (rs := [1]) (by kernel_rfl) (by simp) (AllReadyH.cons rfl (fun K hK => ?_) AllReadyH.nil)
      go_simp
      refine (HSe1.out _ (HW.out.1.trans (HW.out.2.1.trans (F1.out.drew)))).mono ?_
      rintro e y2 ⟨vo, rfl, hO, hb⟩
      have F2 : Hid (Ext W1 y2) := (F1.out.drew).trans hb
      have HO2 : Hid (MSlice y2 vo (Msg.saidL ms r 2)) := hO
      obtain ⟨a3, c3, rfl, -⟩ := id hO
      clear hO hb
      refine hK.out _ _ (by exact HS.out _ (HW.out.2.1.trans F2.out)) (fun hHeld3 => ?_)
      clear hK K
      refine wpAnyH_ready (rs := [6]) (by kernel_rfl) (by simp) (AllReadyH.cons rfl (fun K hK => ?_) AllReadyH.nil)
      go_simp
      refine (HH.out _ _ HO2.out).mono ?_
      rintro e y3 ⟨rfl, hb⟩
      have F3 : Hid (Ext W1 y3) := F2.out.trans hb
      clear hb
      refine hK.out _ _ (by exact HS.out _ (HW.out.2.1.trans F3.out)) (fun hHeld4 => ?_)
      clear hK K
      refine wpAnyH_ready (rs := [7]) (by kernel_rfl) (by simp) (AllReadyH.cons rfl (fun K hK => ?_) AllReadyH.nil)
      go_simp
      refine (refuse_no _ _).mono ?_
      rintro e w9 ⟨rfl, hw⟩
      rw [hw]
      clear hw w9
      refine hK.out _ _ (by exact HS.out _ (HW.out.2.1.trans F3.out)) (fun hHeld5 => ?_)
      clear hK K
      refine wpAnyH_done (by kernel_rfl) ?_ _
      go_wp2
      refine wp_region_held_drew (S := (fun W' : World => W'.cell? ⟨w.heap.size, 0, none⟩ = some (.int .i64 r.id) ∧ W'.cell? ⟨w.heap.size, 1, none⟩ = some (.int .i64 r.view) ∧ W'.cell? ⟨w.heap.size, 2, none⟩ = some (.int .i64 r.start) ∧ W'.cell? ⟨w.heap.size, 3, none⟩ = some (.int .i64 r.done) ∧ W'.cell? ⟨w.heap.size, 4, none⟩ = some (.int .i64 f) ∧ W'.cell? ⟨w.heap.size, 5, none⟩ = some (.slice (some ⟨b1, off, none⟩) ms.length cap) ∧ W'.cell? ⟨w.heap.size, 6, none⟩ = some (.bool bg) ∧ W'.cell? ⟨w.heap.size, 7, none⟩ = some (.slice au L.length cu) ∧ W'.cell? ⟨b1, off + k * 7 + 1, none⟩ = some (.int .i64 z.view) ∧ W'.cell? ⟨b1, off + k * 7 + 3, none⟩ = some (.int .i64 z.slot) ∧ W'.cell? ⟨b1, off + k * 7 + 4, none⟩ = some (.int .i64 z.value))) (by kernel_rfl) (HS.out _ (HW.out.2.1.trans (F3.out.drew))) (fun hHeld => ?_)
      refine tk 0 ⟨some 43, .load 76 (.tmp 2), 76, oz235, #[], none⟩ ?_
      refine tk 1 ⟨some 44, .move (.tmp 5), 97, oz235, #[], none⟩ ?_
      refine tk 2 ⟨some 45, .nilCheck (.tmp 44), 0, oz235, #[⟨1, .data⟩], none⟩ ?_
      refine tk 3 ⟨some 46, .fieldAddr 40 (.tmp 45) 3, 0, oz235, #[⟨2, .data⟩], none⟩ ?_
      refine tk 4 ⟨some 47, .load 2 (.tmp 46), 2, oz235, #[⟨3, .data⟩], none⟩ ?_
      refine tk 5 ⟨some 48, .move (.tmp 5), 97, oz235, #[], none⟩ ?_
      refine tk 6 ⟨some 49, .nilCheck (.tmp 48), 0, oz235, #[⟨5, .data⟩], none⟩ ?_
      refine tk 7 ⟨some 50, .fieldAddr 40 (.tmp 49) 4, 0, oz235, #[⟨6, .data⟩], none⟩ ?_
      refine tk 8 ⟨some 51, .load 2 (.tmp 50), 2, oz235, #[⟨7, .data⟩], none⟩ ?_
      refine wpAnyH_ready (rs := [9]) (by kernel_rfl) (by simp) (AllReadyH.cons rfl (fun K hK => ?_) AllReadyH.nil)
      go_simp
      refine (HV.out _).mono ?_
      rintro e y4 ⟨rfl, hb⟩
      have F4 : Hid (Ext W1 y4) := (F3.out.drew).trans hb
      clear hb
      unfold magg
      refine hK.out _ _ (by exact HS.out _ (HW.out.2.1.trans F4.out)) (fun hHeld6 => ?_)
      clear hK K
      refine wpAnyH_ready (rs := [10]) (by kernel_rfl) (by simp) (AllReadyH.cons rfl (fun K hK => ?_) AllReadyH.nil)
      obtain ⟨z0, n0⟩ := (HZ.out.ext F4.out).2 0 _ rfl
      obtain ⟨z1, n1⟩ := (HZ.out.ext F4.out).2 1 _ rfl
      obtain ⟨z2, n2⟩ := (HZ.out.ext F4.out).2 2 _ rfl
      obtain ⟨z3, n3⟩ := (HZ.out.ext F4.out).2 3 _ rfl
      obtain ⟨z4, n4⟩ := (HZ.out.ext F4.out).2 4 _ rfl
      obtain ⟨z5, n5⟩ := (HZ.out.ext F4.out).2 5 _ rfl
      obtain ⟨z6, n6⟩ := (HZ.out.ext F4.out).2 6 _ rfl
      go_simp
      refine hK.out _ _ (by exact HS.out _ ((HW.out.2.1.trans F4.out).seven _ (by have := HW.out.2.2; omega) _ _ _ _ _ _ _)) (fun hHeldS => ?_)
      clear hK K
      refine wpAnyH_done (by kernel_rfl) ?_ _
      go_wp2
      refine bodyPost_ret (v := magg ⟨2, r.view, r.id, z.slot, z.value, [], []⟩ (.slice none 0 0) (.slice none 0 0)) (by simp [results, Tryz.results53, go_sem, magg, z0, z1, z2, z3, z4, z5, z6]) rfl ?_
      exact ⟨(HW.out.1.trans (HW.out.2.1.trans F4.out)).seven _ (by omega) _ _ _ _ _ _ _, Or.inr ⟨HR.out, none, 0, 0, none, 0, 0, rfl, trivial⟩⟩
end Go.Proofs.YtecgjdgfjgcmdaaGreat
