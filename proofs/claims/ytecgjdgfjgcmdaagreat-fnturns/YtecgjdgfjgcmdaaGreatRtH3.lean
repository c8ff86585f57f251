/- SameMsgs: the specification's and the program's, and what they ask: messages behind pointers. -/
import Derived.Test.YtecgjdgfjgcmdaaGreatRtH2
import Derived.Deep.RegionHeld3
import Derived.Test.YtecgjdgfjgcmdaaGreatRtTk
namespace Go.Proofs.YtecgjdgfjgcmdaaGreat
open Go.RowKit
namespace Msg
def same {α : Type} [DecidableEq α] (zs ys : List α) : Bool := decide (zs = ys)
theorem ct_eq {z y : Ct} (h0 : z.slot = y.slot) (h1 : z.view = y.view) (h2 : z.value = y.value) : z = y := by cases z; cases y; simp only at h0 h1 h2; rw [h0, h1, h2]
theorem same_len {α : Type} [DecidableEq α] {zs ys : List α} (h : ¬ zs.length = ys.length) : same zs ys = false := by
 unfold same; rw [decide_eq_false_iff_not]; intro e; exact h (by rw [e])
theorem same_ne {α : Type} [DecidableEq α] {zs ys : List α} {k : Nat} {z y : α} (hz : zs[k]? = some z) (hy : ys[k]? = some y) (h : ¬ z = y) : same zs ys = false := by
 unfold same; rw [decide_eq_false_iff_not]; intro e; subst e; rw [hz] at hy; cases hy; exact h rfl
theorem same_all {α : Type} [DecidableEq α] {zs ys : List α} (hl : zs.length = ys.length) (h : ∀ j, j < zs.length → zs[j]? = ys[j]?) : same zs ys = true := by
 unfold same; rw [decide_eq_true_iff]
 apply List.ext_getElem?
 intro j
 by_cases hj : j < zs.length
 ·exact h j hj
 ·rw [List.getElem?_eq_none (by omega), List.getElem?_eq_none (by omega)]
/-- Are they the same message? -/
def sameM (m n : Ms) : Bool := decide (m = n)
theorem sameM_0 {m n : Ms} (h : (m.kind == n.kind) = false) : sameM m n = false := by unfold sameM; rw [decide_eq_false_iff_not]; rintro rfl; simp at h
theorem sameM_1 {m n : Ms} (h : (m.view == n.view) = false) : sameM m n = false := by unfold sameM; rw [decide_eq_false_iff_not]; rintro rfl; simp at h
theorem sameM_2 {m n : Ms} (h : (m.from_ == n.from_) = false) : sameM m n = false := by unfold sameM; rw [decide_eq_false_iff_not]; rintro rfl; simp at h
theorem sameM_3 {m n : Ms} (h : (m.slot == n.slot) = false) : sameM m n = false := by unfold sameM; rw [decide_eq_false_iff_not]; rintro rfl; simp at h
theorem sameM_4 {m n : Ms} (h : (m.value == n.value) = false) : sameM m n = false := by unfold sameM; rw [decide_eq_false_iff_not]; rintro rfl; simp at h
theorem sameM_5 {m n : Ms} (h : same m.certs n.certs = false) : sameM m n = false := by unfold same at h; unfold sameM; rw [decide_eq_false_iff_not] at *; rintro rfl; exact h rfl
theorem sameM_6 {m n : Ms} (h : same m.refs n.refs = false) : sameM m n = false := by unfold same at h; unfold sameM; rw [decide_eq_false_iff_not] at *; rintro rfl; exact h rfl
theorem sameM_7 {m n : Ms} (h0 : (m.kind == n.kind) = true) (h1 : (m.view == n.view) = true) (h2 : (m.from_ == n.from_) = true) (h3 : (m.slot == n.slot) = true) (h4 : (m.value == n.value) = true) (h5 : same m.certs n.certs = true) (b : Bool) (h6 : same m.refs n.refs = b) : sameM m n = b := by
 unfold same at h5 h6; unfold sameM; rw [decide_eq_true_iff] at h5; rw [← h6]
 cases m; cases n; simp only [beq_iff_eq] at h0 h1 h2 h3 h4 h5; subst h0 h1 h2 h3 h4 h5; simp
end Msg
set_option maxHeartbeats 2000000 in
set_option maxRecDepth 100000 in
theorem ctsEqual_any (v v' : Value) (zs ys : List Ct) (w : World) (hS : CtSlice w v zs) (hS' : CtSlice w v' ys) :
  Calls Tryz.prog 180 #[v, v'] w fun e w' => e = .returned (.bool (Msg.same zs ys)) ∧ Ext w w' := by
 obtain ⟨a, cap, rfl, hlc, hcm, hx⟩ := hS
 obtain ⟨a', cap', rfl, hlc', hcm', hx'⟩ := hS'
 have HX : Hid (0 < zs.length → ∃ b off, a = some ⟨b, off, none⟩ ∧ b < w.heap.size ∧ CtsAt w b off zs) := hx
 have HX' : Hid (0 < ys.length → ∃ b off, a' = some ⟨b, off, none⟩ ∧ b < w.heap.size ∧ CtsAt w b off ys) := hx'
 clear hx hx'
 unfold maxLen at hcm hcm'
 by_cases hl : zs.length = ys.length
 ·have e0 : ((zs.length : Int) != (ys.length : Int)) = false := by rw [hl]; simp
  have HL : Hid (zs.length = ys.length) := hl
  clear hl
  go_enter Tryz.func180, Tryz.ntmps180
  go_wp2
  go_loopw [13] (fun i wr => ∃ (k : Nat), k ≤ zs.length ∧ i = .int .i64 k ∧ Hid (∀ j, j < k → zs[j]? = ys[j]?) ∧ Hid (Ext w wr)) (fun i _ => zs.length - (intOf i).toNat)
  case atStart => exact ⟨0, Nat.zero_le _, rfl, fun j h => by omega, Ext.refl _⟩
  case round =>
   obtain ⟨k, hk, rfl, HA, HE⟩ := hrel
   by_cases hlt : k < zs.length
   ·obtain ⟨z, hzk⟩ : ∃ z, zs[k]? = some z := ⟨_, List.getElem?_eq_getElem hlt⟩
    obtain ⟨y, hyk⟩ : ∃ y, ys[k]? = some y := ⟨_, List.getElem?_eq_getElem (by have := HL.out; omega)⟩
    obtain ⟨b, off, rfl, hb, hN⟩ := HX.out (by omega)
    obtain ⟨b', off', rfl, hb', hN'⟩ := HX'.out (by have := HL.out; omega)
    obtain ⟨d0, d1, d2⟩ := hN.ext hb HE.out k z hzk
    obtain ⟨e0, e1, e2⟩ := hN'.ext hb' HE.out k y hyk
    have hky : k < ys.length := by have := HL.out; omega
    have HZ : Hid (zs[k]? = some z ∧ ys[k]? = some y) := ⟨hzk, hyk⟩
    clear hzk hyk hN hN'
    by_cases g0 : z.slot = y.slot
    ·by_cases g1 : z.view = y.view
     ·by_cases g2 : z.value = y.value
      ·have HA2 : Hid (∀ j, j < k + 1 → zs[j]? = ys[j]?) := by
        intro j hj
        by_cases hjk : j = k
        ·subst hjk; rw [HZ.out.1, HZ.out.2, Msg.ct_eq g0 g1 g2]
        ·exact HA.out j (by omega)
       go_wp2
       go_region
       all_goals
        go_wp2
        exact ⟨⟨k + 1, by omega, by go_num, HA2, HE.out.drew⟩, by simp [intOf]; omega⟩
      ·have HF : Hid (Msg.same zs ys = false) := Msg.same_ne HZ.out.1 HZ.out.2 (by rintro rfl; exact g2 rfl)
       go_wp2
       go_region
       all_goals
        go_wp2
        go_ret
        exact ⟨ret_bool HF.out.symm, HE.out.drew⟩
     ·have HF : Hid (Msg.same zs ys = false) := Msg.same_ne HZ.out.1 HZ.out.2 (by rintro rfl; exact g1 rfl)
      go_wp2
      go_region
      all_goals
       go_wp2
       go_ret
       exact ⟨ret_bool HF.out.symm, HE.out.drew⟩
    ·have HF : Hid (Msg.same zs ys = false) := Msg.same_ne HZ.out.1 HZ.out.2 (by rintro rfl; exact g0 rfl)
     go_wp2
     go_region
     all_goals
      go_wp2
      go_ret
      exact ⟨ret_bool HF.out.symm, HE.out.drew⟩
   ·have HF : Hid (Msg.same zs ys = true) := Msg.same_all HL.out (fun j hj => HA.out j (by omega))
    go_wp2
    go_ret
    exact ⟨ret_bool HF.out.symm, HE.out⟩
 ·have e0 : ((zs.length : Int) != (ys.length : Int)) = true := by simp; omega
  have HF : Hid (Msg.same zs ys = false) := Msg.same_len hl
  clear hl
  go_enter Tryz.func180, Tryz.ntmps180
  go_wp2
  go_ret
  exact ⟨ret_bool HF.out.symm, Ext.refl _⟩

set_option maxHeartbeats 2000000 in
set_option maxRecDepth 100000 in
theorem numsEqual_any (v v' : Value) (zs ys : List Int) (w : World) (hS : ISlice w v zs) (hS' : ISlice w v' ys) :
  Calls Tryz.prog 181 #[v, v'] w fun e w' => e = .returned (.bool (Msg.same zs ys)) ∧ Ext w w' := by
 obtain ⟨a, cap, rfl, hlc, hcm, hx⟩ := hS
 obtain ⟨a', cap', rfl, hlc', hcm', hx'⟩ := hS'
 have HX : Hid (0 < zs.length → ∃ b off, a = some ⟨b, off, none⟩ ∧ b < w.heap.size ∧ NumsAt w b off zs) := hx
 have HX' : Hid (0 < ys.length → ∃ b off, a' = some ⟨b, off, none⟩ ∧ b < w.heap.size ∧ NumsAt w b off ys) := hx'
 clear hx hx'
 unfold maxLen at hcm hcm'
 by_cases hl : zs.length = ys.length
 ·have e0 : ((zs.length : Int) != (ys.length : Int)) = false := by rw [hl]; simp
  have HL : Hid (zs.length = ys.length) := hl
  clear hl
  go_enter Tryz.func181, Tryz.ntmps181
  go_wp2
  go_loopw [13] (fun i wr => ∃ (k : Nat), k ≤ zs.length ∧ i = .int .i64 k ∧ Hid (∀ j, j < k → zs[j]? = ys[j]?) ∧ Hid (Ext w wr)) (fun i _ => zs.length - (intOf i).toNat)
  case atStart => exact ⟨0, Nat.zero_le _, rfl, fun j h => by omega, Ext.refl _⟩
  case round =>
   obtain ⟨k, hk, rfl, HA, HE⟩ := hrel
   by_cases hlt : k < zs.length
   ·obtain ⟨z, hzk⟩ : ∃ z, zs[k]? = some z := ⟨_, List.getElem?_eq_getElem hlt⟩
    obtain ⟨y, hyk⟩ : ∃ y, ys[k]? = some y := ⟨_, List.getElem?_eq_getElem (by have := HL.out; omega)⟩
    obtain ⟨b, off, rfl, hb, hN⟩ := HX.out (by omega)
    obtain ⟨b', off', rfl, hb', hN'⟩ := HX'.out (by have := HL.out; omega)
    have d0 := hN.ext hb HE.out k z hzk
    have e0 := hN'.ext hb' HE.out k y hyk
    have hky : k < ys.length := by have := HL.out; omega
    have HZ : Hid (zs[k]? = some z ∧ ys[k]? = some y) := ⟨hzk, hyk⟩
    clear hzk hyk hN hN'
    by_cases g0 : z = y
    ·have HA2 : Hid (∀ j, j < k + 1 → zs[j]? = ys[j]?) := by
      intro j hj
      by_cases hjk : j = k
      ·subst hjk; rw [HZ.out.1, HZ.out.2, g0]
      ·exact HA.out j (by omega)
     go_wp2
     go_region
     all_goals
      go_wp2
      exact ⟨⟨k + 1, by omega, by go_num, HA2, HE.out.drew⟩, by simp [intOf]; omega⟩
    ·have HF : Hid (Msg.same zs ys = false) := Msg.same_ne HZ.out.1 HZ.out.2 g0
     go_wp2
     go_region
     all_goals
      go_wp2
      go_ret
      exact ⟨ret_bool HF.out.symm, HE.out.drew⟩
   ·have HF : Hid (Msg.same zs ys = true) := Msg.same_all HL.out (fun j hj => HA.out j (by omega))
    go_wp2
    go_ret
    exact ⟨ret_bool HF.out.symm, HE.out⟩
 ·have e0 : ((zs.length : Int) != (ys.length : Int)) = true := by simp; omega
  have HF : Hid (Msg.same zs ys = false) := Msg.same_len hl
  clear hl
  go_enter Tryz.func181, Tryz.ntmps181
  go_wp2
  go_ret
  exact ⟨ret_bool HF.out.symm, Ext.refl _⟩

set_option maxHeartbeats 2000000 in
set_option maxRecDepth 100000 in
theorem isSameMsg_any (m n : Ms) (v u v' u' : Value) (b o b' o' : Nat) (w : World) (hb1 : b < w.heap.size) (hb2 : b' < w.heap.size) (hm : MCs w b o m v u) (hn : MCs w b' o' n v' u') (hS : MLs w v u m) (hS' : MLs w v' u' n) :
  Calls Tryz.prog 162 #[.pointer (some ⟨b, o, none⟩), .pointer (some ⟨b', o', none⟩)] w fun e w' => e = .returned (.bool (Msg.sameM m n)) ∧ Ext w w' := by
 have HC : Hid (∀ wx : World, Ext w wx → Calls Tryz.prog 180 #[v, v'] wx fun e w' => e = .returned (.bool (Msg.same m.certs n.certs)) ∧ Ext wx w') := fun wx he => ctsEqual_any v v' m.certs n.certs wx (hS.1.ext he) (hS'.1.ext he)
 have HI : Hid (∀ wx : World, Ext w wx → Calls Tryz.prog 181 #[u, u'] wx fun e w' => e = .returned (.bool (Msg.same m.refs n.refs)) ∧ Ext wx w') := fun wx he => numsEqual_any u u' m.refs n.refs wx (hS.2.ext he) (hS'.2.ext he)
 have HM : Hid (MCs w b o m v u) := hm
 have HM' : Hid (MCs w b' o' n v' u') := hn
 obtain ⟨a, c, a', c', rfl, rfl, hc1, hc2, hc3, hc4⟩ := hS.form
 obtain ⟨a2, c2, a3, c3, rfl, rfl, hd1, hd2, hd3, hd4⟩ := hS'.form
 obtain ⟨p0, p1, p2, p3, p4, p5, p6⟩ := hm
 obtain ⟨q0, q1, q2, q3, q4, q5, q6⟩ := hn
 generalize hR : Msg.sameM m n = R
 have HR : Hid (Msg.sameM m n = R) := hR
 clear hR
 have HSx : Hid (∀ wx : World, Ext w wx → (fun W' : World => W'.cell? ⟨b, o, none⟩ = some (.int .i64 m.kind) ∧ W'.cell? ⟨b, o + 1, none⟩ = some (.int .i64 m.view) ∧ W'.cell? ⟨b, o + 2, none⟩ = some (.int .i64 m.from_) ∧ W'.cell? ⟨b, o + 3, none⟩ = some (.int .i64 m.slot) ∧ W'.cell? ⟨b, o + 4, none⟩ = some (.int .i64 m.value) ∧ W'.cell? ⟨b, o + 5, none⟩ = some ((.slice a m.certs.length c)) ∧ W'.cell? ⟨b, o + 6, none⟩ = some ((.slice a' m.refs.length c')) ∧ W'.cell? ⟨b', o', none⟩ = some (.int .i64 n.kind) ∧ W'.cell? ⟨b', o' + 1, none⟩ = some (.int .i64 n.view) ∧ W'.cell? ⟨b', o' + 2, none⟩ = some (.int .i64 n.from_) ∧ W'.cell? ⟨b', o' + 3, none⟩ = some (.int .i64 n.slot) ∧ W'.cell? ⟨b', o' + 4, none⟩ = some (.int .i64 n.value) ∧ W'.cell? ⟨b', o' + 5, none⟩ = some ((.slice a2 n.certs.length c2)) ∧ W'.cell? ⟨b', o' + 6, none⟩ = some ((.slice a3 n.refs.length c3))) wx) := fun wx he => by
  obtain ⟨x0, x1, x2, x3, x4, x5, x6⟩ := HM.out.ext hb1 he
  obtain ⟨y0, y1, y2, y3, y4, y5, y6⟩ := HM'.out.ext hb2 he
  exact ⟨x0, x1, x2, x3, x4, x5, x6, y0, y1, y2, y3, y4, y5, y6⟩
 clear hc1 hc2 hc3 hc4 hd1 hd2 hd3 hd4 hS hS' HM HM' p0 p1 p2 p3 p4 p5 p6 q0 q1 q2 q3 q4 q5 q6
 generalize hbc : Msg.same m.certs n.certs = bc at *
 generalize hbr : Msg.same m.refs n.refs = br at *
 have HBc : Hid (Msg.same m.certs n.certs = bc) := hbc
 have HBr : Hid (Msg.same m.refs n.refs = br) := hbr
 clear hbc hbr
 go_enter Tryz.func162, Tryz.ntmps162
 go_wp2
 (try dsimp only [List.append])
 refine wp_region_held_drew (S := (fun W' : World => W'.cell? ⟨b, o, none⟩ = some (.int .i64 m.kind) ∧ W'.cell? ⟨b, o + 1, none⟩ = some (.int .i64 m.view) ∧ W'.cell? ⟨b, o + 2, none⟩ = some (.int .i64 m.from_) ∧ W'.cell? ⟨b, o + 3, none⟩ = some (.int .i64 m.slot) ∧ W'.cell? ⟨b, o + 4, none⟩ = some (.int .i64 m.value) ∧ W'.cell? ⟨b, o + 5, none⟩ = some ((.slice a m.certs.length c)) ∧ W'.cell? ⟨b, o + 6, none⟩ = some ((.slice a' m.refs.length c')) ∧ W'.cell? ⟨b', o', none⟩ = some (.int .i64 n.kind) ∧ W'.cell? ⟨b', o' + 1, none⟩ = some (.int .i64 n.view) ∧ W'.cell? ⟨b', o' + 2, none⟩ = some (.int .i64 n.from_) ∧ W'.cell? ⟨b', o' + 3, none⟩ = some (.int .i64 n.slot) ∧ W'.cell? ⟨b', o' + 4, none⟩ = some (.int .i64 n.value) ∧ W'.cell? ⟨b', o' + 5, none⟩ = some ((.slice a2 n.certs.length c2)) ∧ W'.cell? ⟨b', o' + 6, none⟩ = some ((.slice a3 n.refs.length c3)))) (by kernel_rfl) (HSx.out _ ((Ext.refl _).drew)) (fun hHeld => ?_)
 refine tk 0 ⟨some 5, .move (.tmp 0), 97, oz64, #[], none⟩ ?_
 refine tk 1 ⟨some 6, .nilCheck (.tmp 5), 0, oz64, #[⟨0, .data⟩], none⟩ ?_
 refine tk 2 ⟨some 7, .fieldAddr 40 (.tmp 6) 0, 0, oz64, #[⟨1, .data⟩], none⟩ ?_
 refine tk 3 ⟨some 8, .load 2 (.tmp 7), 2, oz64, #[⟨2, .data⟩], none⟩ ?_
 refine tk 4 ⟨some 9, .move (.tmp 1), 97, oz64, #[], none⟩ ?_
 refine tk 5 ⟨some 10, .nilCheck (.tmp 9), 0, oz64, #[⟨4, .data⟩], none⟩ ?_
 refine tk 6 ⟨some 11, .fieldAddr 40 (.tmp 10) 0, 0, oz64, #[⟨5, .data⟩], none⟩ ?_
 refine tk 7 ⟨some 12, .load 2 (.tmp 11), 2, oz64, #[⟨6, .data⟩], none⟩ ?_
 refine tk 8 ⟨some 13, .binOp .eql 2 (.tmp 8) (.tmp 12) 2, 4, oz64, oy13, none⟩ ?_
 rcases g0 : (m.kind == n.kind) with _ | _
 ·refine tk 9 ⟨some 14, .move (.tmp 13), 4, oz64, #[⟨8, .data⟩], none⟩ ?_
  refine tn 10 ⟨some 15, .move (.tmp 0), 97, oz64, #[⟨9, .guard⟩], some (9, true)⟩ ?_
  refine tn 11 ⟨some 16, .nilCheck (.tmp 15), 0, oz64, oy65, some (9, true)⟩ ?_
  refine tn 12 ⟨some 17, .fieldAddr 40 (.tmp 16) 1, 0, oz64, oy66, some (9, true)⟩ ?_
  refine tn 13 ⟨some 18, .load 2 (.tmp 17), 2, oz64, oy15, some (9, true)⟩ ?_
  refine tn 14 ⟨some 19, .move (.tmp 1), 97, oz64, #[⟨9, .guard⟩], some (9, true)⟩ ?_
  refine tn 15 ⟨some 20, .nilCheck (.tmp 19), 0, oz64, oy17, some (9, true)⟩ ?_
  refine tn 16 ⟨some 21, .fieldAddr 40 (.tmp 20) 1, 0, oz64, oy67, some (9, true)⟩ ?_
  refine tn 17 ⟨some 22, .load 2 (.tmp 21), 2, oz64, oy18, some (9, true)⟩ ?_
  refine tn 18 ⟨some 23, .binOp .eql 2 (.tmp 18) (.tmp 22) 2, 4, oz64, oy68, some (9, true)⟩ ?_
  refine tk 19 ⟨some 24, .pick (.tmp 14) (.tmp 23) (.const (.bool false)), 4, oz64, oy69, none⟩ ?_
  refine tk 20 ⟨some 25, .move (.tmp 24), 4, oz64, oy70, none⟩ ?_
  refine tn 21 ⟨some 26, .move (.tmp 0), 97, oz64, oy71, some (20, true)⟩ ?_
  refine tn 22 ⟨some 27, .nilCheck (.tmp 26), 0, oz64, oy72, some (20, true)⟩ ?_
  refine tn 23 ⟨some 28, .fieldAddr 40 (.tmp 27) 2, 0, oz64, oy73, some (20, true)⟩ ?_
  refine tn 24 ⟨some 29, .load 2 (.tmp 28), 2, oz64, oy74, some (20, true)⟩ ?_
  refine tn 25 ⟨some 30, .move (.tmp 1), 97, oz64, oy71, some (20, true)⟩ ?_
  refine tn 26 ⟨some 31, .nilCheck (.tmp 30), 0, oz64, oy75, some (20, true)⟩ ?_
  refine tn 27 ⟨some 32, .fieldAddr 40 (.tmp 31) 2, 0, oz64, oy76, some (20, true)⟩ ?_
  refine tn 28 ⟨some 33, .load 2 (.tmp 32), 2, oz64, oy77, some (20, true)⟩ ?_
  refine tn 29 ⟨some 34, .binOp .eql 2 (.tmp 29) (.tmp 33) 2, 4, oz64, oy78, some (20, true)⟩ ?_
  refine tk 30 ⟨some 35, .pick (.tmp 25) (.tmp 34) (.const (.bool false)), 4, oz64, oy79, none⟩ ?_
  refine tk 31 ⟨some 36, .move (.tmp 35), 4, oz64, oy80, none⟩ ?_
  refine tn 32 ⟨some 37, .move (.tmp 0), 97, oz64, oy81, some (31, true)⟩ ?_
  refine tn 33 ⟨some 38, .nilCheck (.tmp 37), 0, oz64, oy82, some (31, true)⟩ ?_
  refine tn 34 ⟨some 39, .fieldAddr 40 (.tmp 38) 3, 0, oz64, oy83, some (31, true)⟩ ?_
  refine tn 35 ⟨some 40, .load 2 (.tmp 39), 2, oz64, oy84, some (31, true)⟩ ?_
  refine tn 36 ⟨some 41, .move (.tmp 1), 97, oz64, oy81, some (31, true)⟩ ?_
  refine tn 37 ⟨some 42, .nilCheck (.tmp 41), 0, oz64, oy85, some (31, true)⟩ ?_
  refine tn 38 ⟨some 43, .fieldAddr 40 (.tmp 42) 3, 0, oz64, oy86, some (31, true)⟩ ?_
  refine tn 39 ⟨some 44, .load 2 (.tmp 43), 2, oz64, oy87, some (31, true)⟩ ?_
  refine tn 40 ⟨some 45, .binOp .eql 2 (.tmp 40) (.tmp 44) 2, 4, oz64, oy88, some (31, true)⟩ ?_
  refine tk 41 ⟨some 46, .pick (.tmp 36) (.tmp 45) (.const (.bool false)), 4, oz64, oy89, none⟩ ?_
  refine tk 42 ⟨some 47, .move (.tmp 46), 4, oz64, oy90, none⟩ ?_
  refine tn 43 ⟨some 48, .move (.tmp 0), 97, oz64, oy91, some (42, true)⟩ ?_
  refine tn 44 ⟨some 49, .nilCheck (.tmp 48), 0, oz64, oy92, some (42, true)⟩ ?_
  refine tn 45 ⟨some 50, .fieldAddr 40 (.tmp 49) 4, 0, oz64, oy93, some (42, true)⟩ ?_
  refine tn 46 ⟨some 51, .load 2 (.tmp 50), 2, oz64, oy94, some (42, true)⟩ ?_
  refine tn 47 ⟨some 52, .move (.tmp 1), 97, oz64, oy91, some (42, true)⟩ ?_
  refine tn 48 ⟨some 53, .nilCheck (.tmp 52), 0, oz64, oy95, some (42, true)⟩ ?_
  refine tn 49 ⟨some 54, .fieldAddr 40 (.tmp 53) 4, 0, oz64, oy96, some (42, true)⟩ ?_
  refine tn 50 ⟨some 55, .load 2 (.tmp 54), 2, oz64, oy97, some (42, true)⟩ ?_
  refine tn 51 ⟨some 56, .binOp .eql 2 (.tmp 51) (.tmp 55) 2, 4, oz64, oy98, some (42, true)⟩ ?_
  refine tk 52 ⟨some 57, .pick (.tmp 47) (.tmp 56) (.const (.bool false)), 4, oz64, oy99, none⟩ ?_
  refine tk 53 ⟨some 58, .move (.tmp 57), 4, oz64, oy100, none⟩ ?_
  refine tn 54 ⟨some 59, .move (.tmp 0), 97, oz64, oy101, some (53, true)⟩ ?_
  refine tn 55 ⟨some 60, .nilCheck (.tmp 59), 0, oz64, oy102, some (53, true)⟩ ?_
  refine tn 56 ⟨some 61, .fieldAddr 40 (.tmp 60) 5, 0, oz64, oy103, some (53, true)⟩ ?_
  refine tn 57 ⟨some 62, .load 37 (.tmp 61), 37, oz64, oy104, some (53, true)⟩ ?_
  refine tn 58 ⟨some 63, .move (.tmp 1), 97, oz64, oy101, some (53, true)⟩ ?_
  refine tn 59 ⟨some 64, .nilCheck (.tmp 63), 0, oz64, oy105, some (53, true)⟩ ?_
  refine tn 60 ⟨some 65, .fieldAddr 40 (.tmp 64) 5, 0, oz64, oy106, some (53, true)⟩ ?_
  refine tn 61 ⟨some 66, .load 37 (.tmp 65), 37, oz64, oy107, some (53, true)⟩ ?_
  refine tn 62 ⟨some 67, .call { callee := .value (.func 180), args := #[.tmp 62, .tmp 66], argTypes := #[37, 37] }, 4, oz108, oy109, some (53, true)⟩ ?_
  refine tk 63 ⟨some 68, .pick (.tmp 58) (.tmp 67) (.const (.bool false)), 4, oz64, oy110, none⟩ ?_
  refine tk 64 ⟨some 69, .move (.tmp 68), 4, oz64, oy111, none⟩ ?_
  refine tn 65 ⟨some 70, .move (.tmp 0), 97, oz64, oy112, some (64, true)⟩ ?_
  refine tn 66 ⟨some 71, .nilCheck (.tmp 70), 0, oz64, oy113, some (64, true)⟩ ?_
  refine tn 67 ⟨some 72, .fieldAddr 40 (.tmp 71) 6, 0, oz64, oy114, some (64, true)⟩ ?_
  refine tn 68 ⟨some 73, .load 38 (.tmp 72), 38, oz64, oy115, some (64, true)⟩ ?_
  refine tn 69 ⟨some 74, .move (.tmp 1), 97, oz64, oy112, some (64, true)⟩ ?_
  refine tn 70 ⟨some 75, .nilCheck (.tmp 74), 0, oz64, oy116, some (64, true)⟩ ?_
  refine tn 71 ⟨some 76, .fieldAddr 40 (.tmp 75) 6, 0, oz64, oy117, some (64, true)⟩ ?_
  refine tn 72 ⟨some 77, .load 38 (.tmp 76), 38, oz64, oy118, some (64, true)⟩ ?_
  refine tn 73 ⟨some 78, .call { callee := .value (.func 181), args := #[.tmp 73, .tmp 77], argTypes := #[38, 38] }, 4, oz108, oy119, some (64, true)⟩ ?_
  refine tk 74 ⟨some 79, .pick (.tmp 69) (.tmp 78) (.const (.bool false)), 4, oz64, oy120, none⟩ ?_
  refine tk 75 ⟨some 4, .assign (.tmp 79), 4, oz64, oy121, none⟩ ?_
  refine wpAnyH_done (by kernel_rfl) ?_ _
  have HF : R = false := HR.out.symm.trans (Msg.sameM_0 g0)
  subst HF
  go_wp2
  go_ret
  exact ⟨rfl, (Ext.refl _).drew⟩
 ·refine tk 9 ⟨some 14, .move (.tmp 13), 4, oz64, #[⟨8, .data⟩], none⟩ ?_
  refine tk 10 ⟨some 15, .move (.tmp 0), 97, oz64, #[⟨9, .guard⟩], some (9, true)⟩ ?_
  refine tk 11 ⟨some 16, .nilCheck (.tmp 15), 0, oz64, oy65, some (9, true)⟩ ?_
  refine tk 12 ⟨some 17, .fieldAddr 40 (.tmp 16) 1, 0, oz64, oy66, some (9, true)⟩ ?_
  refine tk 13 ⟨some 18, .load 2 (.tmp 17), 2, oz64, oy15, some (9, true)⟩ ?_
  refine tk 14 ⟨some 19, .move (.tmp 1), 97, oz64, #[⟨9, .guard⟩], some (9, true)⟩ ?_
  refine tk 15 ⟨some 20, .nilCheck (.tmp 19), 0, oz64, oy17, some (9, true)⟩ ?_
  refine tk 16 ⟨some 21, .fieldAddr 40 (.tmp 20) 1, 0, oz64, oy67, some (9, true)⟩ ?_
  refine tk 17 ⟨some 22, .load 2 (.tmp 21), 2, oz64, oy18, some (9, true)⟩ ?_
  refine tk 18 ⟨some 23, .binOp .eql 2 (.tmp 18) (.tmp 22) 2, 4, oz64, oy68, some (9, true)⟩ ?_
  rcases g1 : (m.view == n.view) with _ | _
  ·refine tk 19 ⟨some 24, .pick (.tmp 14) (.tmp 23) (.const (.bool false)), 4, oz64, oy69, none⟩ ?_
   refine tk 20 ⟨some 25, .move (.tmp 24), 4, oz64, oy70, none⟩ ?_
   refine tn 21 ⟨some 26, .move (.tmp 0), 97, oz64, oy71, some (20, true)⟩ ?_
   refine tn 22 ⟨some 27, .nilCheck (.tmp 26), 0, oz64, oy72, some (20, true)⟩ ?_
   refine tn 23 ⟨some 28, .fieldAddr 40 (.tmp 27) 2, 0, oz64, oy73, some (20, true)⟩ ?_
   refine tn 24 ⟨some 29, .load 2 (.tmp 28), 2, oz64, oy74, some (20, true)⟩ ?_
   refine tn 25 ⟨some 30, .move (.tmp 1), 97, oz64, oy71, some (20, true)⟩ ?_
   refine tn 26 ⟨some 31, .nilCheck (.tmp 30), 0, oz64, oy75, some (20, true)⟩ ?_
   refine tn 27 ⟨some 32, .fieldAddr 40 (.tmp 31) 2, 0, oz64, oy76, some (20, true)⟩ ?_
   refine tn 28 ⟨some 33, .load 2 (.tmp 32), 2, oz64, oy77, some (20, true)⟩ ?_
   refine tn 29 ⟨some 34, .binOp .eql 2 (.tmp 29) (.tmp 33) 2, 4, oz64, oy78, some (20, true)⟩ ?_
   refine tk 30 ⟨some 35, .pick (.tmp 25) (.tmp 34) (.const (.bool false)), 4, oz64, oy79, none⟩ ?_
   refine tk 31 ⟨some 36, .move (.tmp 35), 4, oz64, oy80, none⟩ ?_
   refine tn 32 ⟨some 37, .move (.tmp 0), 97, oz64, oy81, some (31, true)⟩ ?_
   refine tn 33 ⟨some 38, .nilCheck (.tmp 37), 0, oz64, oy82, some (31, true)⟩ ?_
   refine tn 34 ⟨some 39, .fieldAddr 40 (.tmp 38) 3, 0, oz64, oy83, some (31, true)⟩ ?_
   refine tn 35 ⟨some 40, .load 2 (.tmp 39), 2, oz64, oy84, some (31, true)⟩ ?_
   refine tn 36 ⟨some 41, .move (.tmp 1), 97, oz64, oy81, some (31, true)⟩ ?_
   refine tn 37 ⟨some 42, .nilCheck (.tmp 41), 0, oz64, oy85, some (31, true)⟩ ?_
   refine tn 38 ⟨some 43, .fieldAddr 40 (.tmp 42) 3, 0, oz64, oy86, some (31, true)⟩ ?_
   refine tn 39 ⟨some 44, .load 2 (.tmp 43), 2, oz64, oy87, some (31, true)⟩ ?_
   refine tn 40 ⟨some 45, .binOp .eql 2 (.tmp 40) (.tmp 44) 2, 4, oz64, oy88, some (31, true)⟩ ?_
   refine tk 41 ⟨some 46, .pick (.tmp 36) (.tmp 45) (.const (.bool false)), 4, oz64, oy89, none⟩ ?_
   refine tk 42 ⟨some 47, .move (.tmp 46), 4, oz64, oy90, none⟩ ?_
   refine tn 43 ⟨some 48, .move (.tmp 0), 97, oz64, oy91, some (42, true)⟩ ?_
   refine tn 44 ⟨some 49, .nilCheck (.tmp 48), 0, oz64, oy92, some (42, true)⟩ ?_
   refine tn 45 ⟨some 50, .fieldAddr 40 (.tmp 49) 4, 0, oz64, oy93, some (42, true)⟩ ?_
   refine tn 46 ⟨some 51, .load 2 (.tmp 50), 2, oz64, oy94, some (42, true)⟩ ?_
   refine tn 47 ⟨some 52, .move (.tmp 1), 97, oz64, oy91, some (42, true)⟩ ?_
   refine tn 48 ⟨some 53, .nilCheck (.tmp 52), 0, oz64, oy95, some (42, true)⟩ ?_
   refine tn 49 ⟨some 54, .fieldAddr 40 (.tmp 53) 4, 0, oz64, oy96, some (42, true)⟩ ?_
   refine tn 50 ⟨some 55, .load 2 (.tmp 54), 2, oz64, oy97, some (42, true)⟩ ?_
   refine tn 51 ⟨some 56, .binOp .eql 2 (.tmp 51) (.tmp 55) 2, 4, oz64, oy98, some (42, true)⟩ ?_
   refine tk 52 ⟨some 57, .pick (.tmp 47) (.tmp 56) (.const (.bool false)), 4, oz64, oy99, none⟩ ?_
   refine tk 53 ⟨some 58, .move (.tmp 57), 4, oz64, oy100, none⟩ ?_
   refine tn 54 ⟨some 59, .move (.tmp 0), 97, oz64, oy101, some (53, true)⟩ ?_
   refine tn 55 ⟨some 60, .nilCheck (.tmp 59), 0, oz64, oy102, some (53, true)⟩ ?_
   refine tn 56 ⟨some 61, .fieldAddr 40 (.tmp 60) 5, 0, oz64, oy103, some (53, true)⟩ ?_
   refine tn 57 ⟨some 62, .load 37 (.tmp 61), 37, oz64, oy104, some (53, true)⟩ ?_
   refine tn 58 ⟨some 63, .move (.tmp 1), 97, oz64, oy101, some (53, true)⟩ ?_
   refine tn 59 ⟨some 64, .nilCheck (.tmp 63), 0, oz64, oy105, some (53, true)⟩ ?_
   refine tn 60 ⟨some 65, .fieldAddr 40 (.tmp 64) 5, 0, oz64, oy106, some (53, true)⟩ ?_
   refine tn 61 ⟨some 66, .load 37 (.tmp 65), 37, oz64, oy107, some (53, true)⟩ ?_
   refine tn 62 ⟨some 67, .call { callee := .value (.func 180), args := #[.tmp 62, .tmp 66], argTypes := #[37, 37] }, 4, oz108, oy109, some (53, true)⟩ ?_
   refine tk 63 ⟨some 68, .pick (.tmp 58) (.tmp 67) (.const (.bool false)), 4, oz64, oy110, none⟩ ?_
   refine tk 64 ⟨some 69, .move (.tmp 68), 4, oz64, oy111, none⟩ ?_
   refine tn 65 ⟨some 70, .move (.tmp 0), 97, oz64, oy112, some (64, true)⟩ ?_
   refine tn 66 ⟨some 71, .nilCheck (.tmp 70), 0, oz64, oy113, some (64, true)⟩ ?_
   refine tn 67 ⟨some 72, .fieldAddr 40 (.tmp 71) 6, 0, oz64, oy114, some (64, true)⟩ ?_
   refine tn 68 ⟨some 73, .load 38 (.tmp 72), 38, oz64, oy115, some (64, true)⟩ ?_
   refine tn 69 ⟨some 74, .move (.tmp 1), 97, oz64, oy112, some (64, true)⟩ ?_
   refine tn 70 ⟨some 75, .nilCheck (.tmp 74), 0, oz64, oy116, some (64, true)⟩ ?_
   refine tn 71 ⟨some 76, .fieldAddr 40 (.tmp 75) 6, 0, oz64, oy117, some (64, true)⟩ ?_
   refine tn 72 ⟨some 77, .load 38 (.tmp 76), 38, oz64, oy118, some (64, true)⟩ ?_
   refine tn 73 ⟨some 78, .call { callee := .value (.func 181), args := #[.tmp 73, .tmp 77], argTypes := #[38, 38] }, 4, oz108, oy119, some (64, true)⟩ ?_
   refine tk 74 ⟨some 79, .pick (.tmp 69) (.tmp 78) (.const (.bool false)), 4, oz64, oy120, none⟩ ?_
   refine tk 75 ⟨some 4, .assign (.tmp 79), 4, oz64, oy121, none⟩ ?_
   refine wpAnyH_done (by kernel_rfl) ?_ _
   have HF : R = false := HR.out.symm.trans (Msg.sameM_1 g1)
   subst HF
   go_wp2
   go_ret
   exact ⟨rfl, (Ext.refl _).drew⟩
  ·refine tk 19 ⟨some 24, .pick (.tmp 14) (.tmp 23) (.const (.bool false)), 4, oz64, oy69, none⟩ ?_
   refine tk 20 ⟨some 25, .move (.tmp 24), 4, oz64, oy70, none⟩ ?_
   refine tk 21 ⟨some 26, .move (.tmp 0), 97, oz64, oy71, some (20, true)⟩ ?_
   refine tk 22 ⟨some 27, .nilCheck (.tmp 26), 0, oz64, oy72, some (20, true)⟩ ?_
   refine tk 23 ⟨some 28, .fieldAddr 40 (.tmp 27) 2, 0, oz64, oy73, some (20, true)⟩ ?_
   refine tk 24 ⟨some 29, .load 2 (.tmp 28), 2, oz64, oy74, some (20, true)⟩ ?_
   refine tk 25 ⟨some 30, .move (.tmp 1), 97, oz64, oy71, some (20, true)⟩ ?_
   refine tk 26 ⟨some 31, .nilCheck (.tmp 30), 0, oz64, oy75, some (20, true)⟩ ?_
   refine tk 27 ⟨some 32, .fieldAddr 40 (.tmp 31) 2, 0, oz64, oy76, some (20, true)⟩ ?_
   refine tk 28 ⟨some 33, .load 2 (.tmp 32), 2, oz64, oy77, some (20, true)⟩ ?_
   refine tk 29 ⟨some 34, .binOp .eql 2 (.tmp 29) (.tmp 33) 2, 4, oz64, oy78, some (20, true)⟩ ?_
   rcases g2 : (m.from_ == n.from_) with _ | _
   ·refine tk 30 ⟨some 35, .pick (.tmp 25) (.tmp 34) (.const (.bool false)), 4, oz64, oy79, none⟩ ?_
    refine tk 31 ⟨some 36, .move (.tmp 35), 4, oz64, oy80, none⟩ ?_
    refine tn 32 ⟨some 37, .move (.tmp 0), 97, oz64, oy81, some (31, true)⟩ ?_
    refine tn 33 ⟨some 38, .nilCheck (.tmp 37), 0, oz64, oy82, some (31, true)⟩ ?_
    refine tn 34 ⟨some 39, .fieldAddr 40 (.tmp 38) 3, 0, oz64, oy83, some (31, true)⟩ ?_
    refine tn 35 ⟨some 40, .load 2 (.tmp 39), 2, oz64, oy84, some (31, true)⟩ ?_
    refine tn 36 ⟨some 41, .move (.tmp 1), 97, oz64, oy81, some (31, true)⟩ ?_
    refine tn 37 ⟨some 42, .nilCheck (.tmp 41), 0, oz64, oy85, some (31, true)⟩ ?_
    refine tn 38 ⟨some 43, .fieldAddr 40 (.tmp 42) 3, 0, oz64, oy86, some (31, true)⟩ ?_
    refine tn 39 ⟨some 44, .load 2 (.tmp 43), 2, oz64, oy87, some (31, true)⟩ ?_
    refine tn 40 ⟨some 45, .binOp .eql 2 (.tmp 40) (.tmp 44) 2, 4, oz64, oy88, some (31, true)⟩ ?_
    refine tk 41 ⟨some 46, .pick (.tmp 36) (.tmp 45) (.const (.bool false)), 4, oz64, oy89, none⟩ ?_
    refine tk 42 ⟨some 47, .move (.tmp 46), 4, oz64, oy90, none⟩ ?_
    refine tn 43 ⟨some 48, .move (.tmp 0), 97, oz64, oy91, some (42, true)⟩ ?_
    refine tn 44 ⟨some 49, .nilCheck (.tmp 48), 0, oz64, oy92, some (42, true)⟩ ?_
    refine tn 45 ⟨some 50, .fieldAddr 40 (.tmp 49) 4, 0, oz64, oy93, some (42, true)⟩ ?_
    refine tn 46 ⟨some 51, .load 2 (.tmp 50), 2, oz64, oy94, some (42, true)⟩ ?_
    refine tn 47 ⟨some 52, .move (.tmp 1), 97, oz64, oy91, some (42, true)⟩ ?_
    refine tn 48 ⟨some 53, .nilCheck (.tmp 52), 0, oz64, oy95, some (42, true)⟩ ?_
    refine tn 49 ⟨some 54, .fieldAddr 40 (.tmp 53) 4, 0, oz64, oy96, some (42, true)⟩ ?_
    refine tn 50 ⟨some 55, .load 2 (.tmp 54), 2, oz64, oy97, some (42, true)⟩ ?_
    refine tn 51 ⟨some 56, .binOp .eql 2 (.tmp 51) (.tmp 55) 2, 4, oz64, oy98, some (42, true)⟩ ?_
    refine tk 52 ⟨some 57, .pick (.tmp 47) (.tmp 56) (.const (.bool false)), 4, oz64, oy99, none⟩ ?_
    refine tk 53 ⟨some 58, .move (.tmp 57), 4, oz64, oy100, none⟩ ?_
    refine tn 54 ⟨some 59, .move (.tmp 0), 97, oz64, oy101, some (53, true)⟩ ?_
    refine tn 55 ⟨some 60, .nilCheck (.tmp 59), 0, oz64, oy102, some (53, true)⟩ ?_
    refine tn 56 ⟨some 61, .fieldAddr 40 (.tmp 60) 5, 0, oz64, oy103, some (53, true)⟩ ?_
    refine tn 57 ⟨some 62, .load 37 (.tmp 61), 37, oz64, oy104, some (53, true)⟩ ?_
    refine tn 58 ⟨some 63, .move (.tmp 1), 97, oz64, oy101, some (53, true)⟩ ?_
    refine tn 59 ⟨some 64, .nilCheck (.tmp 63), 0, oz64, oy105, some (53, true)⟩ ?_
    refine tn 60 ⟨some 65, .fieldAddr 40 (.tmp 64) 5, 0, oz64, oy106, some (53, true)⟩ ?_
    refine tn 61 ⟨some 66, .load 37 (.tmp 65), 37, oz64, oy107, some (53, true)⟩ ?_
    refine tn 62 ⟨some 67, .call { callee := .value (.func 180), args := #[.tmp 62, .tmp 66], argTypes := #[37, 37] }, 4, oz108, oy109, some (53, true)⟩ ?_
    refine tk 63 ⟨some 68, .pick (.tmp 58) (.tmp 67) (.const (.bool false)), 4, oz64, oy110, none⟩ ?_
    refine tk 64 ⟨some 69, .move (.tmp 68), 4, oz64, oy111, none⟩ ?_
    refine tn 65 ⟨some 70, .move (.tmp 0), 97, oz64, oy112, some (64, true)⟩ ?_
    refine tn 66 ⟨some 71, .nilCheck (.tmp 70), 0, oz64, oy113, some (64, true)⟩ ?_
    refine tn 67 ⟨some 72, .fieldAddr 40 (.tmp 71) 6, 0, oz64, oy114, some (64, true)⟩ ?_
    refine tn 68 ⟨some 73, .load 38 (.tmp 72), 38, oz64, oy115, some (64, true)⟩ ?_
    refine tn 69 ⟨some 74, .move (.tmp 1), 97, oz64, oy112, some (64, true)⟩ ?_
    refine tn 70 ⟨some 75, .nilCheck (.tmp 74), 0, oz64, oy116, some (64, true)⟩ ?_
    refine tn 71 ⟨some 76, .fieldAddr 40 (.tmp 75) 6, 0, oz64, oy117, some (64, true)⟩ ?_
    refine tn 72 ⟨some 77, .load 38 (.tmp 76), 38, oz64, oy118, some (64, true)⟩ ?_
    refine tn 73 ⟨some 78, .call { callee := .value (.func 181), args := #[.tmp 73, .tmp 77], argTypes := #[38, 38] }, 4, oz108, oy119, some (64, true)⟩ ?_
    refine tk 74 ⟨some 79, .pick (.tmp 69) (.tmp 78) (.const (.bool false)), 4, oz64, oy120, none⟩ ?_
    refine tk 75 ⟨some 4, .assign (.tmp 79), 4, oz64, oy121, none⟩ ?_
    refine wpAnyH_done (by kernel_rfl) ?_ _
    have HF : R = false := HR.out.symm.trans (Msg.sameM_2 g2)
    subst HF
    go_wp2
    go_ret
    exact ⟨rfl, (Ext.refl _).drew⟩
   ·refine tk 30 ⟨some 35, .pick (.tmp 25) (.tmp 34) (.const (.bool false)), 4, oz64, oy79, none⟩ ?_
    refine tk 31 ⟨some 36, .move (.tmp 35), 4, oz64, oy80, none⟩ ?_
    refine tk 32 ⟨some 37, .move (.tmp 0), 97, oz64, oy81, some (31, true)⟩ ?_
    refine tk 33 ⟨some 38, .nilCheck (.tmp 37), 0, oz64, oy82, some (31, true)⟩ ?_
    refine tk 34 ⟨some 39, .fieldAddr 40 (.tmp 38) 3, 0, oz64, oy83, some (31, true)⟩ ?_
    refine tk 35 ⟨some 40, .load 2 (.tmp 39), 2, oz64, oy84, some (31, true)⟩ ?_
    refine tk 36 ⟨some 41, .move (.tmp 1), 97, oz64, oy81, some (31, true)⟩ ?_
    refine tk 37 ⟨some 42, .nilCheck (.tmp 41), 0, oz64, oy85, some (31, true)⟩ ?_
    refine tk 38 ⟨some 43, .fieldAddr 40 (.tmp 42) 3, 0, oz64, oy86, some (31, true)⟩ ?_
    refine tk 39 ⟨some 44, .load 2 (.tmp 43), 2, oz64, oy87, some (31, true)⟩ ?_
    refine tk 40 ⟨some 45, .binOp .eql 2 (.tmp 40) (.tmp 44) 2, 4, oz64, oy88, some (31, true)⟩ ?_
    rcases g3 : (m.slot == n.slot) with _ | _
    ·refine tk 41 ⟨some 46, .pick (.tmp 36) (.tmp 45) (.const (.bool false)), 4, oz64, oy89, none⟩ ?_
     refine tk 42 ⟨some 47, .move (.tmp 46), 4, oz64, oy90, none⟩ ?_
     refine tn 43 ⟨some 48, .move (.tmp 0), 97, oz64, oy91, some (42, true)⟩ ?_
     refine tn 44 ⟨some 49, .nilCheck (.tmp 48), 0, oz64, oy92, some (42, true)⟩ ?_
     refine tn 45 ⟨some 50, .fieldAddr 40 (.tmp 49) 4, 0, oz64, oy93, some (42, true)⟩ ?_
     refine tn 46 ⟨some 51, .load 2 (.tmp 50), 2, oz64, oy94, some (42, true)⟩ ?_
     refine tn 47 ⟨some 52, .move (.tmp 1), 97, oz64, oy91, some (42, true)⟩ ?_
     refine tn 48 ⟨some 53, .nilCheck (.tmp 52), 0, oz64, oy95, some (42, true)⟩ ?_
     refine tn 49 ⟨some 54, .fieldAddr 40 (.tmp 53) 4, 0, oz64, oy96, some (42, true)⟩ ?_
     refine tn 50 ⟨some 55, .load 2 (.tmp 54), 2, oz64, oy97, some (42, true)⟩ ?_
     refine tn 51 ⟨some 56, .binOp .eql 2 (.tmp 51) (.tmp 55) 2, 4, oz64, oy98, some (42, true)⟩ ?_
     refine tk 52 ⟨some 57, .pick (.tmp 47) (.tmp 56) (.const (.bool false)), 4, oz64, oy99, none⟩ ?_
     refine tk 53 ⟨some 58, .move (.tmp 57), 4, oz64, oy100, none⟩ ?_
     refine tn 54 ⟨some 59, .move (.tmp 0), 97, oz64, oy101, some (53, true)⟩ ?_
     refine tn 55 ⟨some 60, .nilCheck (.tmp 59), 0, oz64, oy102, some (53, true)⟩ ?_
     refine tn 56 ⟨some 61, .fieldAddr 40 (.tmp 60) 5, 0, oz64, oy103, some (53, true)⟩ ?_
     refine tn 57 ⟨some 62, .load 37 (.tmp 61), 37, oz64, oy104, some (53, true)⟩ ?_
     refine tn 58 ⟨some 63, .move (.tmp 1), 97, oz64, oy101, some (53, true)⟩ ?_
     refine tn 59 ⟨some 64, .nilCheck (.tmp 63), 0, oz64, oy105, some (53, true)⟩ ?_
     refine tn 60 ⟨some 65, .fieldAddr 40 (.tmp 64) 5, 0, oz64, oy106, some (53, true)⟩ ?_
     refine tn 61 ⟨some 66, .load 37 (.tmp 65), 37, oz64, oy107, some (53, true)⟩ ?_
     refine tn 62 ⟨some 67, .call { callee := .value (.func 180), args := #[.tmp 62, .tmp 66], argTypes := #[37, 37] }, 4, oz108, oy109, some (53, true)⟩ ?_
     refine tk 63 ⟨some 68, .pick (.tmp 58) (.tmp 67) (.const (.bool false)), 4, oz64, oy110, none⟩ ?_
     refine tk 64 ⟨some 69, .move (.tmp 68), 4, oz64, oy111, none⟩ ?_
     refine tn 65 ⟨some 70, .move (.tmp 0), 97, oz64, oy112, some (64, true)⟩ ?_
     refine tn 66 ⟨some 71, .nilCheck (.tmp 70), 0, oz64, oy113, some (64, true)⟩ ?_
     refine tn 67 ⟨some 72, .fieldAddr 40 (.tmp 71) 6, 0, oz64, oy114, some (64, true)⟩ ?_
     refine tn 68 ⟨some 73, .load 38 (.tmp 72), 38, oz64, oy115, some (64, true)⟩ ?_
     refine tn 69 ⟨some 74, .move (.tmp 1), 97, oz64, oy112, some (64, true)⟩ ?_
     refine tn 70 ⟨some 75, .nilCheck (.tmp 74), 0, oz64, oy116, some (64, true)⟩ ?_
     refine tn 71 ⟨some 76, .fieldAddr 40 (.tmp 75) 6, 0, oz64, oy117, some (64, true)⟩ ?_
     refine tn 72 ⟨some 77, .load 38 (.tmp 76), 38, oz64, oy118, some (64, true)⟩ ?_
     refine tn 73 ⟨some 78, .call { callee := .value (.func 181), args := #[.tmp 73, .tmp 77], argTypes := #[38, 38] }, 4, oz108, oy119, some (64, true)⟩ ?_
     refine tk 74 ⟨some 79, .pick (.tmp 69) (.tmp 78) (.const (.bool false)), 4, oz64, oy120, none⟩ ?_
     refine tk 75 ⟨some 4, .assign (.tmp 79), 4, oz64, oy121, none⟩ ?_
     refine wpAnyH_done (by kernel_rfl) ?_ _
     have HF : R = false := HR.out.symm.trans (Msg.sameM_3 g3)
     subst HF
     go_wp2
     go_ret
     exact ⟨rfl, (Ext.refl _).drew⟩
    ·refine tk 41 ⟨some 46, .pick (.tmp 36) (.tmp 45) (.const (.bool false)), 4, oz64, oy89, none⟩ ?_
     refine tk 42 ⟨some 47, .move (.tmp 46), 4, oz64, oy90, none⟩ ?_
     refine tk 43 ⟨some 48, .move (.tmp 0), 97, oz64, oy91, some (42, true)⟩ ?_
     refine tk 44 ⟨some 49, .nilCheck (.tmp 48), 0, oz64, oy92, some (42, true)⟩ ?_
     refine tk 45 ⟨some 50, .fieldAddr 40 (.tmp 49) 4, 0, oz64, oy93, some (42, true)⟩ ?_
     refine tk 46 ⟨some 51, .load 2 (.tmp 50), 2, oz64, oy94, some (42, true)⟩ ?_
     refine tk 47 ⟨some 52, .move (.tmp 1), 97, oz64, oy91, some (42, true)⟩ ?_
     refine tk 48 ⟨some 53, .nilCheck (.tmp 52), 0, oz64, oy95, some (42, true)⟩ ?_
     refine tk 49 ⟨some 54, .fieldAddr 40 (.tmp 53) 4, 0, oz64, oy96, some (42, true)⟩ ?_
     refine tk 50 ⟨some 55, .load 2 (.tmp 54), 2, oz64, oy97, some (42, true)⟩ ?_
     refine tk 51 ⟨some 56, .binOp .eql 2 (.tmp 51) (.tmp 55) 2, 4, oz64, oy98, some (42, true)⟩ ?_
     rcases g4 : (m.value == n.value) with _ | _
     ·refine tk 52 ⟨some 57, .pick (.tmp 47) (.tmp 56) (.const (.bool false)), 4, oz64, oy99, none⟩ ?_
      refine tk 53 ⟨some 58, .move (.tmp 57), 4, oz64, oy100, none⟩ ?_
      refine tn 54 ⟨some 59, .move (.tmp 0), 97, oz64, oy101, some (53, true)⟩ ?_
      refine tn 55 ⟨some 60, .nilCheck (.tmp 59), 0, oz64, oy102, some (53, true)⟩ ?_
      refine tn 56 ⟨some 61, .fieldAddr 40 (.tmp 60) 5, 0, oz64, oy103, some (53, true)⟩ ?_
      refine tn 57 ⟨some 62, .load 37 (.tmp 61), 37, oz64, oy104, some (53, true)⟩ ?_
      refine tn 58 ⟨some 63, .move (.tmp 1), 97, oz64, oy101, some (53, true)⟩ ?_
      refine tn 59 ⟨some 64, .nilCheck (.tmp 63), 0, oz64, oy105, some (53, true)⟩ ?_
      refine tn 60 ⟨some 65, .fieldAddr 40 (.tmp 64) 5, 0, oz64, oy106, some (53, true)⟩ ?_
      refine tn 61 ⟨some 66, .load 37 (.tmp 65), 37, oz64, oy107, some (53, true)⟩ ?_
      refine tn 62 ⟨some 67, .call { callee := .value (.func 180), args := #[.tmp 62, .tmp 66], argTypes := #[37, 37] }, 4, oz108, oy109, some (53, true)⟩ ?_
      refine tk 63 ⟨some 68, .pick (.tmp 58) (.tmp 67) (.const (.bool false)), 4, oz64, oy110, none⟩ ?_
      refine tk 64 ⟨some 69, .move (.tmp 68), 4, oz64, oy111, none⟩ ?_
      refine tn 65 ⟨some 70, .move (.tmp 0), 97, oz64, oy112, some (64, true)⟩ ?_
      refine tn 66 ⟨some 71, .nilCheck (.tmp 70), 0, oz64, oy113, some (64, true)⟩ ?_
      refine tn 67 ⟨some 72, .fieldAddr 40 (.tmp 71) 6, 0, oz64, oy114, some (64, true)⟩ ?_
      refine tn 68 ⟨some 73, .load 38 (.tmp 72), 38, oz64, oy115, some (64, true)⟩ ?_
      refine tn 69 ⟨some 74, .move (.tmp 1), 97, oz64, oy112, some (64, true)⟩ ?_
      refine tn 70 ⟨some 75, .nilCheck (.tmp 74), 0, oz64, oy116, some (64, true)⟩ ?_
      refine tn 71 ⟨some 76, .fieldAddr 40 (.tmp 75) 6, 0, oz64, oy117, some (64, true)⟩ ?_
      refine tn 72 ⟨some 77, .load 38 (.tmp 76), 38, oz64, oy118, some (64, true)⟩ ?_
      refine tn 73 ⟨some 78, .call { callee := .value (.func 181), args := #[.tmp 73, .tmp 77], argTypes := #[38, 38] }, 4, oz108, oy119, some (64, true)⟩ ?_
      refine tk 74 ⟨some 79, .pick (.tmp 69) (.tmp 78) (.const (.bool false)), 4, oz64, oy120, none⟩ ?_
      refine tk 75 ⟨some 4, .assign (.tmp 79), 4, oz64, oy121, none⟩ ?_
      refine wpAnyH_done (by kernel_rfl) ?_ _
      have HF : R = false := HR.out.symm.trans (Msg.sameM_4 g4)
      subst HF
      go_wp2
      go_ret
      exact ⟨rfl, (Ext.refl _).drew⟩
     ·refine tk 52 ⟨some 57, .pick (.tmp 47) (.tmp 56) (.const (.bool false)), 4, oz64, oy99, none⟩ ?_
      refine tk 53 ⟨some 58, .move (.tmp 57), 4, oz64, oy100, none⟩ ?_
      refine tk 54 ⟨some 59, .move (.tmp 0), 97, oz64, oy101, some (53, true)⟩ ?_
      refine tk 55 ⟨some 60, .nilCheck (.tmp 59), 0, oz64, oy102, some (53, true)⟩ ?_
      refine tk 56 ⟨some 61, .fieldAddr 40 (.tmp 60) 5, 0, oz64, oy103, some (53, true)⟩ ?_
      refine tk 57 ⟨some 62, .load 37 (.tmp 61), 37, oz64, oy104, some (53, true)⟩ ?_
      refine tk 58 ⟨some 63, .move (.tmp 1), 97, oz64, oy101, some (53, true)⟩ ?_
      refine tk 59 ⟨some 64, .nilCheck (.tmp 63), 0, oz64, oy105, some (53, true)⟩ ?_
      refine tk 60 ⟨some 65, .fieldAddr 40 (.tmp 64) 5, 0, oz64, oy106, some (53, true)⟩ ?_
      refine tk 61 ⟨some 66, .load 37 (.tmp 65), 37, oz64, oy107, some (53, true)⟩ ?_
      refine wpAnyH_ready (rs := [62]) (by kernel_rfl) (by simp) (AllReadyH.cons rfl (fun K hK => ?_) AllReadyH.nil)
      go_simp
      refine (HC.out _ ((Ext.refl _).drew)).mono ?_
      rintro e w1 ⟨rfl, hb⟩
      have HB : Hid (Ext w w1) := ((Ext.refl _).drew).trans hb
      refine hK.out _ _ (HSx.out _ HB.out) (fun hHeld1 => ?_)
      clear hK K hb
      cases bc
      ·refine tk 63 ⟨some 68, .pick (.tmp 58) (.tmp 67) (.const (.bool false)), 4, oz64, oy110, none⟩ ?_
       refine tk 64 ⟨some 69, .move (.tmp 68), 4, oz64, oy111, none⟩ ?_
       refine tn 65 ⟨some 70, .move (.tmp 0), 97, oz64, oy112, some (64, true)⟩ ?_
       refine tn 66 ⟨some 71, .nilCheck (.tmp 70), 0, oz64, oy113, some (64, true)⟩ ?_
       refine tn 67 ⟨some 72, .fieldAddr 40 (.tmp 71) 6, 0, oz64, oy114, some (64, true)⟩ ?_
       refine tn 68 ⟨some 73, .load 38 (.tmp 72), 38, oz64, oy115, some (64, true)⟩ ?_
       refine tn 69 ⟨some 74, .move (.tmp 1), 97, oz64, oy112, some (64, true)⟩ ?_
       refine tn 70 ⟨some 75, .nilCheck (.tmp 74), 0, oz64, oy116, some (64, true)⟩ ?_
       refine tn 71 ⟨some 76, .fieldAddr 40 (.tmp 75) 6, 0, oz64, oy117, some (64, true)⟩ ?_
       refine tn 72 ⟨some 77, .load 38 (.tmp 76), 38, oz64, oy118, some (64, true)⟩ ?_
       refine tn 73 ⟨some 78, .call { callee := .value (.func 181), args := #[.tmp 73, .tmp 77], argTypes := #[38, 38] }, 4, oz108, oy119, some (64, true)⟩ ?_
       refine tk 74 ⟨some 79, .pick (.tmp 69) (.tmp 78) (.const (.bool false)), 4, oz64, oy120, none⟩ ?_
       refine tk 75 ⟨some 4, .assign (.tmp 79), 4, oz64, oy121, none⟩ ?_
       refine wpAnyH_done (by kernel_rfl) ?_ _
       have HF : R = false := HR.out.symm.trans (Msg.sameM_5 HBc.out)
       subst HF
       go_wp2
       go_ret
       exact ⟨rfl, HB.out⟩
      ·refine tk 63 ⟨some 68, .pick (.tmp 58) (.tmp 67) (.const (.bool false)), 4, oz64, oy110, none⟩ ?_
       refine tk 64 ⟨some 69, .move (.tmp 68), 4, oz64, oy111, none⟩ ?_
       refine tk 65 ⟨some 70, .move (.tmp 0), 97, oz64, oy112, some (64, true)⟩ ?_
       refine tk 66 ⟨some 71, .nilCheck (.tmp 70), 0, oz64, oy113, some (64, true)⟩ ?_
       refine tk 67 ⟨some 72, .fieldAddr 40 (.tmp 71) 6, 0, oz64, oy114, some (64, true)⟩ ?_
       refine tk 68 ⟨some 73, .load 38 (.tmp 72), 38, oz64, oy115, some (64, true)⟩ ?_
       refine tk 69 ⟨some 74, .move (.tmp 1), 97, oz64, oy112, some (64, true)⟩ ?_
       refine tk 70 ⟨some 75, .nilCheck (.tmp 74), 0, oz64, oy116, some (64, true)⟩ ?_
       refine tk 71 ⟨some 76, .fieldAddr 40 (.tmp 75) 6, 0, oz64, oy117, some (64, true)⟩ ?_
       refine tk 72 ⟨some 77, .load 38 (.tmp 76), 38, oz64, oy118, some (64, true)⟩ ?_
       refine wpAnyH_ready (rs := [73]) (by kernel_rfl) (by simp) (AllReadyH.cons rfl (fun K hK => ?_) AllReadyH.nil)
       go_simp
       refine (HI.out _ HB.out).mono ?_
       rintro e w2 ⟨rfl, hb⟩
       have HB2 : Hid (Ext w w2) := HB.out.trans hb
       refine hK.out _ _ (HSx.out _ HB2.out) (fun hHeld2 => ?_)
       clear hK K hb
       cases br
       ·refine tk 74 ⟨some 79, .pick (.tmp 69) (.tmp 78) (.const (.bool false)), 4, oz64, oy120, none⟩ ?_
        refine tk 75 ⟨some 4, .assign (.tmp 79), 4, oz64, oy121, none⟩ ?_
        refine wpAnyH_done (by kernel_rfl) ?_ _
        have HF : R = false := HR.out.symm.trans (Msg.sameM_7 g0 g1 g2 g3 g4 HBc.out _ HBr.out)
        subst HF
        go_wp2
        go_ret
        exact ⟨rfl, HB2.out⟩
       ·refine tk 74 ⟨some 79, .pick (.tmp 69) (.tmp 78) (.const (.bool false)), 4, oz64, oy120, none⟩ ?_
        refine tk 75 ⟨some 4, .assign (.tmp 79), 4, oz64, oy121, none⟩ ?_
        refine wpAnyH_done (by kernel_rfl) ?_ _
        have HF : R = true := HR.out.symm.trans (Msg.sameM_7 g0 g1 g2 g3 g4 HBc.out _ HBr.out)
        subst HF
        go_wp2
        go_ret
        exact ⟨rfl, HB2.out⟩

end Go.Proofs.YtecgjdgfjgcmdaaGreat
