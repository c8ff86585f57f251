/- SameMsgs: the specification's and the program's, and what they ask: messages behind pointers. -/
import Derived.Test.YtecgjdgfjgcmdaaGreatRcH2
import Derived.Deep.RegionHeld3
import Derived.Test.YtecgjdgfjgcmdaaGreatRcTk
namespace Go.Proofs.YtecgjdgfjgcmdaaGreat
open Go.RowKit
namespace Msg
def same {α : Type} [DecidableEq α] (zs ys : List α) : Bool := decide (zs = ys)
theorem ct_eq {z y : Ct} (h0 : z.slot = y.slot) (h1 : z.view = y.view) (h2 : z.value = y.value) : z = y := by cases z; cases y; simp only at h0 h1 h2; rw [h0, h1, h2]
theorem same_len {α : Type} [DecidableEq α] {zs ys : List α} (h : ¬ zs.length = ys.length) : same zs ys = false := by
  unfold same; rw [decide_eq_false_iff_not]; intro e; exact h (by rw [e])
theorem same_ne {α : Type} [DecidableEq α] {zs ys : List α} {k : Nat} {z y : α} (hz : zs[k]? = some z) (hy : ys[k]? = some y) (h : ¬ z = y) : same zs ys = false := by
  unfold same; rw [decide_eq_false_iff_not]; intro e; subst e; rw [hz] at hy; cases hy; exact h rfl
theorem same_all {α : Type} [DecidableEq α] {zs ys : List α} (hl : zs.length = ys.length) (h : ∀ j, j < zs.length → zs[j]? = ys[j]?) : same zs ys = true := by
  unfold same; rw [decide_eq_true_iff]
  apply List.ext_getElem?
  intro j
  by_cases hj : j < zs.length
  · exact h j hj
  · rw [List.getElem?_eq_none (by omega), List.getElem?_eq_none (by omega)]
/-- Are they the same message? -/
def sameM (m n : Ms) : Bool := decide (m = n)
theorem sameM_0 {m n : Ms} (h : (m.kind == n.kind) = false) : sameM m n = false := by unfold sameM; rw [decide_eq_false_iff_not]; rintro rfl; simp at h
theorem sameM_1 {m n : Ms} (h : (m.view == n.view) = false) : sameM m n = false := by unfold sameM; rw [decide_eq_false_iff_not]; rintro rfl; simp at h
theorem sameM_2 {m n : Ms} (h : (m.from_ == n.from_) = false) : sameM m n = false := by unfold sameM; rw [decide_eq_false_iff_not]; rintro rfl; simp at h
theorem sameM_3 {m n : Ms} (h : (m.slot == n.slot) = false) : sameM m n = false := by unfold sameM; rw [decide_eq_false_iff_not]; rintro rfl; simp at h
theorem sameM_4 {m n : Ms} (h : (m.value == n.value) = false) : sameM m n = false := by unfold sameM; rw [decide_eq_false_iff_not]; rintro rfl; simp at h
theorem sameM_5 {m n : Ms} (h : same m.certs n.certs = false) : sameM m n = false := by unfold same at h; unfold sameM; rw [decide_eq_false_iff_not] at *; rintro rfl; exact h rfl
theorem sameM_6 {m n : Ms} (h : same m.refs n.refs = false) : sameM m n = false := by unfold same at h; unfold sameM; rw [decide_eq_false_iff_not] at *; rintro rfl; exact h rfl
theorem sameM_7 {m n : Ms} (h0 : (m.kind == n.kind) = true) (h1 : (m.view == n.view) = true) (h2 : (m.from_ == n.from_) = true) (h3 : (m.slot == n.slot) = true) (h4 : (m.value == n.value) = true) (h5 : same m.certs n.certs = true) (b : Bool) (h6 : same m.refs n.refs = b) : sameM m n = b := by
  unfold same at h5 h6; unfold sameM; rw [decide_eq_true_iff] at h5; rw [← h6]
  cases m; cases n; simp only [beq_iff_eq] at h0 h1 h2 h3 h4 h5; subst h0 h1 h2 h3 h4 h5; simp
end Msg
set_option maxHeartbeats 2000000 in
set_option maxRecDepth 100000 in
theorem ctsEqual_any (v v' : Value) (zs ys : List Ct) (w : World) (hS : CtSlice w v zs) (hS' : CtSlice w v' ys) :
    Calls Tryz.prog 180 #[v, v'] w fun e w' => e = .returned (.bool (Msg.same zs ys)) ∧ Ext w w' := by
  obtain ⟨a, cap, rfl, hlc, hcm, hx⟩ := hS
  obtain ⟨a', cap', rfl, hlc', hcm', hx'⟩ := hS'
  have HX : Hid (0 < zs.length → ∃ b off, a = some ⟨b, off, none⟩ ∧ b < w.heap.size ∧ CtsAt w b off zs) := hx
  have HX' : Hid (0 < ys.length → ∃ b off, a' = some ⟨b, off, none⟩ ∧ b < w.heap.size ∧ CtsAt w b off ys) := hx'
  clear hx hx'
  unfold maxLen at hcm hcm'
  by_cases hl : zs.length = ys.length
  · have e0 : ((zs.length : Int) != (ys.length : Int)) = false := by rw [hl]; simp
    have HL : Hid (zs.length = ys.length) := hl
    clear hl
    go_enter Tryz.func180, Tryz.ntmps180
    go_wp2
    go_loopw [13] (fun i wr => ∃ (k : Nat), k ≤ zs.length ∧ i = .int .i64 k ∧ Hid (∀ j, j < k → zs[j]? = ys[j]?) ∧ Hid (Ext w wr)) (fun i _ => zs.length - (intOf i).toNat)
    case atStart => exact ⟨0, Nat.zero_le _, rfl, fun j h => by omega, Ext.refl _⟩
    case round =>
      obtain ⟨k, hk, rfl, HA, HE⟩ := hrel
      by_cases hlt : k < zs.length
      · obtain ⟨z, hzk⟩ : ∃ z, zs[k]? = some z := ⟨_, List.getElem?_eq_getElem hlt⟩
        obtain ⟨y, hyk⟩ : ∃ y, ys[k]? = some y := ⟨_, List.getElem?_eq_getElem (by have := HL.out; omega)⟩
        obtain ⟨b, off, rfl, hb, hN⟩ := HX.out (by omega)
        obtain ⟨b', off', rfl, hb', hN'⟩ := HX'.out (by have := HL.out; omega)
        obtain ⟨d0, d1, d2⟩ := hN.ext hb HE.out k z hzk
        obtain ⟨e0, e1, e2⟩ := hN'.ext hb' HE.out k y hyk
        have hky : k < ys.length := by have := HL.out; omega
        have HZ : Hid (zs[k]? = some z ∧ ys[k]? = some y) := ⟨hzk, hyk⟩
        clear hzk hyk hN hN'
        by_cases g0 : z.slot = y.slot
        · by_cases g1 : z.view = y.view
          · by_cases g2 : z.value = y.value
            · have HA2 : Hid (∀ j, j < k + 1 → zs[j]? = ys[j]?) := by
                intro j hj
                by_cases hjk : j = k
                · subst hjk; rw [HZ.out.1, HZ.out.2, Msg.ct_eq g0 g1 g2]
                · exact HA.out j (by omega)
              go_wp2
              go_region
              all_goals
                go_wp2
                exact ⟨⟨k + 1, by omega, by go_num, HA2, HE.out.drew⟩, by simp [intOf]; omega⟩
            · have HF : Hid (Msg.same zs ys = false) := Msg.same_ne HZ.out.1 HZ.out.2 (by rintro rfl; exact g2 rfl)
              go_wp2
              go_region
              all_goals
                go_wp2
                go_ret
                exact ⟨ret_bool HF.out.symm, HE.out.drew⟩
          · have HF : Hid (Msg.same zs ys = false) := Msg.same_ne HZ.out.1 HZ.out.2 (by rintro rfl; exact g1 rfl)
            go_wp2
            go_region
            all_goals
              go_wp2
              go_ret
              exact ⟨ret_bool HF.out.symm, HE.out.drew⟩
        · have HF : Hid (Msg.same zs ys = false) := Msg.same_ne HZ.out.1 HZ.out.2 (by rintro rfl; exact g0 rfl)
          go_wp2
          go_region
          all_goals
            go_wp2
            go_ret
            exact ⟨ret_bool HF.out.symm, HE.out.drew⟩
      · have HF : Hid (Msg.same zs ys = true) := Msg.same_all HL.out (fun j hj => HA.out j (by omega))
        go_wp2
        go_ret
        exact ⟨ret_bool HF.out.symm, HE.out⟩
  · have e0 : ((zs.length : Int) != (ys.length : Int)) = true := by simp; omega
    have HF : Hid (Msg.same zs ys = false) := Msg.same_len hl
    clear hl
    go_enter Tryz.func180, Tryz.ntmps180
    go_wp2
    go_ret
    exact ⟨ret_bool HF.out.symm, Ext.refl _⟩

set_option maxHeartbeats 2000000 in
set_option maxRecDepth 100000 in
theorem numsEqual_any (v v' : Value) (zs ys : List Int) (w : World) (hS : ISlice w v zs) (hS' : ISlice w v' ys) :
    Calls Tryz.prog 181 #[v, v'] w fun e w' => e = .returned (.bool (Msg.same zs ys)) ∧ Ext w w' := by
  obtain ⟨a, cap, rfl, hlc, hcm, hx⟩ := hS
  obtain ⟨a', cap', rfl, hlc', hcm', hx'⟩ := hS'
  have HX : Hid (0 < zs.length → ∃ b off, a = some ⟨b, off, none⟩ ∧ b < w.heap.size ∧ NumsAt w b off zs) := hx
  have HX' : Hid (0 < ys.length → ∃ b off, a' = some ⟨b, off, none⟩ ∧ b < w.heap.size ∧ NumsAt w b off ys) := hx'
  clear hx hx'
  unfold maxLen at hcm hcm'
  by_cases hl : zs.length = ys.length
  · have e0 : ((zs.length : Int) != (ys.length : Int)) = false := by rw [hl]; simp
    have HL : Hid (zs.length = ys.length) := hl
    clear hl
    go_enter Tryz.func181, Tryz.ntmps181
    go_wp2
    go_loopw [13] (fun i wr => ∃ (k : Nat), k ≤ zs.length ∧ i = .int .i64 k ∧ Hid (∀ j, j < k → zs[j]? = ys[j]?) ∧ Hid (Ext w wr)) (fun i _ => zs.length - (intOf i).toNat)
    case atStart => exact ⟨0, Nat.zero_le _, rfl, fun j h => by omega, Ext.refl _⟩
    case round =>
      obtain ⟨k, hk, rfl, HA, HE⟩ := hrel
      by_cases hlt : k < zs.length
      · obtain ⟨z, hzk⟩ : ∃ z, zs[k]? = some z := ⟨_, List.getElem?_eq_getElem hlt⟩
        obtain ⟨y, hyk⟩ : ∃ y, ys[k]? = some y := ⟨_, List.getElem?_eq_getElem (by have := HL.out; omega)⟩
        obtain ⟨b, off, rfl, hb, hN⟩ := HX.out (by omega)
        obtain ⟨b', off', rfl, hb', hN'⟩ := HX'.out (by have := HL.out; omega)
        have d0 := hN.ext hb HE.out k z hzk
        have e0 := hN'.ext hb' HE.out k y hyk
        have hky : k < ys.length := by have := HL.out; omega
        have HZ : Hid (zs[k]? = some z ∧ ys[k]? = some y) := ⟨hzk, hyk⟩
        clear hzk hyk hN hN'
        by_cases g0 : z = y
        · have HA2 : Hid (∀ j, j < k + 1 → zs[j]? = ys[j]?) := by
            intro j hj
            by_cases hjk : j = k
            · subst hjk; rw [HZ.out.1, HZ.out.2, g0]
            · exact HA.out j (by omega)
          go_wp2
          go_region
          all_goals
            go_wp2
            exact ⟨⟨k + 1, by omega, by go_num, HA2, HE.out.drew⟩, by simp [intOf]; omega⟩
        · have HF : Hid (Msg.same zs ys = false) := Msg.same_ne HZ.out.1 HZ.out.2 g0
          go_wp2
          go_region
          all_goals
            go_wp2
            go_ret
            exact ⟨ret_bool HF.out.symm, HE.out.drew⟩
      · have HF : Hid (Msg.same zs ys = true) := Msg.same_all HL.out (fun j hj => HA.out j (by omega))
        go_wp2
        go_ret
        exact ⟨ret_bool HF.out.symm, HE.out⟩
  · have e0 : ((zs.length : Int) != (ys.length : Int)) = true := by simp; omega
    have HF : Hid (Msg.same zs ys = false) := Msg.same_len hl
    clear hl
    go_enter Tryz.func181, Tryz.ntmps181
    go_wp2
    go_ret
    exact ⟨ret_bool HF.out.symm, Ext.refl _⟩

set_option maxHeartbeats 2000000 in
set_option maxRecDepth 100000 in
theorem isSameMsg_any (m n : Ms) (v u v' u' : Value) (b o b' o' : Nat) (w : World) (hb1 : b < w.heap.size) (hb2 : b' < w.heap.size) (hm : MCs w b o m v u) (hn : MCs w b' o' n v' u') (hS : MLs w v u m) (hS' : MLs w v' u' n) :
    Calls Tryz.prog 162 #[.pointer (some ⟨b, o, none⟩), .pointer (some ⟨b', o', none⟩)] w fun e w' => e = .returned (.bool (Msg.sameM m n)) ∧ Ext w w' := by
  have HC : Hid (∀ wx : World, Ext w wx → Calls Tryz.prog 180 #[v, v'] wx fun e w' => e = .returned (.bool (Msg.same m.certs n.certs)) ∧ Ext wx w') := fun wx he => ctsEqual_any v v' m.certs n.certs wx (hS.1.ext he) (hS'.1.ext he)
  have HI : Hid (∀ wx : World, Ext w wx → Calls Tryz.prog 181 #[u, u'] wx fun e w' => e = .returned (.bool (Msg.same m.refs n.refs)) ∧ Ext wx w') := fun wx he => numsEqual_any u u' m.refs n.refs wx (hS.2.ext he) (hS'.2.ext he)
  have HM : Hid (MCs w b o m v u) := hm
  have HM' : Hid (MCs w b' o' n v' u') := hn
  obtain ⟨a, c, a', c', rfl, rfl, hc1, hc2, hc3, hc4⟩ := hS.form
  obtain ⟨a2, c2, a3, c3, rfl, rfl, hd1, hd2, hd3, hd4⟩ := hS'.form
  obtain ⟨p0, p1, p2, p3, p4, p5, p6⟩ := hm
  obtain ⟨q0, q1, q2, q3, q4, q5, q6⟩ := hn
  generalize hR : Msg.sameM m n = R
  have HR : Hid (Msg.sameM m n = R) := hR
  clear hR
  have HSx : Hid (∀ wx : World, Ext w wx → (fun W' : World => W'.cell? ⟨b, o, none⟩ = some (.int .i64 m.kind) ∧ W'.cell? ⟨b, o + 1, none⟩ = some (.int .i64 m.view) ∧ W'.cell? ⟨b, o + 2, none⟩ = some (.int .i64 m.from_) ∧ W'.cell? ⟨b, o + 3, none⟩ = some (.int .i64 m.slot) ∧ W'.cell? ⟨b, o + 4, none⟩ = some (.int .i64 m.value) ∧ W'.cell? ⟨b, o + 5, none⟩ = some ((.slice a m.certs.length c)) ∧ W'.cell? ⟨b, o + 6, none⟩ = some ((.slice a' m.refs.length c')) ∧ W'.cell? ⟨b', o', none⟩ = some (.int .i64 n.kind) ∧ W'.cell? ⟨b', o' + 1, none⟩ = some (.int .i64 n.view) ∧ W'.cell? ⟨b', o' + 2, none⟩ = some (.int .i64 n.from_) ∧ W'.cell? ⟨b', o' + 3, none⟩ = some (.int .i64 n.slot) ∧ W'.cell? ⟨b', o' + 4, none⟩ = some (.int .i64 n.value) ∧ W'.cell? ⟨b', o' + 5, none⟩ = some ((.slice a2 n.certs.length c2)) ∧ W'.cell? ⟨b', o' + 6, none⟩ = some ((.slice a3 n.refs.length c3))) wx) := fun wx he => by
    obtain ⟨x0, x1, x2, x3, x4, x5, x6⟩ := HM.out.ext hb1 he
    obtain ⟨y0, y1, y2, y3, y4, y5, y6⟩ := HM'.out.ext hb2 he
    exact ⟨x0, x1, x2, x3, x4, x5, x6, y0, y1, y2, y3, y4, y5, y6⟩
  clear hc1 hc2 hc3 hc4 hd1 hd2 hd3 hd4 hS hS' HM HM' p0 p1 p2 p3 p4 p5 p6 q0 q1 q2 q3 q4 q5 q6
  generalize hbc : Msg.same m.certs n.certs = bc at *
  generalize hbr : Msg.same m.refs n.refs = br at *
  have HBc : Hid (Msg.same m.certs n.certs = bc) := hbc
  have HBr : Hid (Msg.same m.refs n.refs = br) := hbr
  clear hbc hbr
  go_enter Tryz.func162, Tryz.ntmps162
  go_wp2
  (try dsimp only [List.append])
  refine wp_region_held_drew (S := (fun W' : World => W'.cell? ⟨b, o, none⟩ = some (.int .i64 m.kind) ∧ W'.cell? ⟨b, o + 1, none⟩ = some (.int .i64 m.view) ∧ W'.cell? ⟨b, o + 2, none⟩ = some (.int .i64 m.from_) ∧ W'.cell? ⟨b, o + 3, none⟩ = some (.int .i64 m.slot) ∧ W'.cell? ⟨b, o + 4, none⟩ = some (.int .i64 m.value) ∧ W'.cell? ⟨b, o + 5, none⟩ = some ((.slice a m.certs.length c)) ∧ W'.cell? ⟨b, o + 6, none⟩ = some ((.slice a' m.refs.length c')) ∧ W'.cell? ⟨b', o', none⟩ = some (.int .i64 n.kind) ∧ W'.cell? ⟨b', o' + 1, none⟩ = some (.int .i64 n.view) ∧ W'.cell? ⟨b', o' + 2, none⟩ = some (.int .i64 n.from_) ∧ W'.cell? ⟨b', o' + 3, none⟩ = some (.int .i64 n.slot) ∧ W'.cell? ⟨b', o' + 4, none⟩ = some (.int .i64 n.value) ∧ W'.cell? ⟨b', o' + 5, none⟩ = some ((.slice a2 n.certs.length c2)) ∧ W'.cell? ⟨b', o' + 6, none⟩ = some ((.slice a3 n.refs.length c3)))) (by kernel_rfl) (HSx.out _ ((Ext.refl _).drew)) (fun hHeld => ?_)
  refine tk 0 { dst := some 5, op := Op.move (.tmp 0), type := 97, pos := "l08_msg.go:198", after := #[], guard := none } ?_
  refine tk 1 { dst := some 6, op := Op.nilCheck (.tmp 5), type := 0, pos := "l08_msg.go:198", after := #[⟨0, .data⟩], guard := none } ?_
  refine tk 2 { dst := some 7, op := Op.fieldAddr 40 (.tmp 6) 0, type := 0, pos := "l08_msg.go:198", after := #[⟨1, .data⟩], guard := none } ?_
  refine tk 3 { dst := some 8, op := Op.load 2 (.tmp 7), type := 2, pos := "l08_msg.go:198", after := #[⟨2, .data⟩], guard := none } ?_
  refine tk 4 { dst := some 9, op := Op.move (.tmp 1), type := 97, pos := "l08_msg.go:198", after := #[], guard := none } ?_
  refine tk 5 { dst := some 10, op := Op.nilCheck (.tmp 9), type := 0, pos := "l08_msg.go:198", after := #[⟨4, .data⟩], guard := none } ?_
  refine tk 6 { dst := some 11, op := Op.fieldAddr 40 (.tmp 10) 0, type := 0, pos := "l08_msg.go:198", after := #[⟨5, .data⟩], guard := none } ?_
  refine tk 7 { dst := some 12, op := Op.load 2 (.tmp 11), type := 2, pos := "l08_msg.go:198", after := #[⟨6, .data⟩], guard := none } ?_
  refine tk 8 { dst := some 13, op := Op.binOp BinOp.eql 2 (.tmp 8) (.tmp 12) 2, type := 4, pos := "l08_msg.go:198", after := #[⟨3, .data⟩, ⟨7, .data⟩], guard := none } ?_
  rcases g0 : (m.kind == n.kind) with _ | _
  · refine tk 9 { dst := some 14, op := Op.move (.tmp 13), type := 4, pos := "l08_msg.go:198", after := #[⟨8, .data⟩], guard := none } ?_
    refine tn 10 { dst := some 15, op := Op.move (.tmp 0), type := 97, pos := "l08_msg.go:198", after := #[⟨9, .guard⟩], guard := some (9, true) } ?_
    refine tn 11 { dst := some 16, op := Op.nilCheck (.tmp 15), type := 0, pos := "l08_msg.go:198", after := #[⟨10, .data⟩, ⟨9, .guard⟩], guard := some (9, true) } ?_
    refine tn 12 { dst := some 17, op := Op.fieldAddr 40 (.tmp 16) 1, type := 0, pos := "l08_msg.go:198", after := #[⟨11, .data⟩, ⟨9, .guard⟩], guard := some (9, true) } ?_
    refine tn 13 { dst := some 18, op := Op.load 2 (.tmp 17), type := 2, pos := "l08_msg.go:198", after := #[⟨12, .data⟩, ⟨9, .guard⟩], guard := some (9, true) } ?_
    refine tn 14 { dst := some 19, op := Op.move (.tmp 1), type := 97, pos := "l08_msg.go:198", after := #[⟨9, .guard⟩], guard := some (9, true) } ?_
    refine tn 15 { dst := some 20, op := Op.nilCheck (.tmp 19), type := 0, pos := "l08_msg.go:198", after := #[⟨14, .data⟩, ⟨9, .guard⟩], guard := some (9, true) } ?_
    refine tn 16 { dst := some 21, op := Op.fieldAddr 40 (.tmp 20) 1, type := 0, pos := "l08_msg.go:198", after := #[⟨15, .data⟩, ⟨9, .guard⟩], guard := some (9, true) } ?_
    refine tn 17 { dst := some 22, op := Op.load 2 (.tmp 21), type := 2, pos := "l08_msg.go:198", after := #[⟨16, .data⟩, ⟨9, .guard⟩], guard := some (9, true) } ?_
    refine tn 18 { dst := some 23, op := Op.binOp BinOp.eql 2 (.tmp 18) (.tmp 22) 2, type := 4, pos := "l08_msg.go:198", after := #[⟨13, .data⟩, ⟨17, .data⟩, ⟨9, .guard⟩], guard := some (9, true) } ?_
    refine tk 19 { dst := some 24, op := Op.pick (.tmp 14) (.tmp 23) (Operand.const (Value.bool false)), type := 4, pos := "l08_msg.go:198", after := #[⟨9, .data⟩, ⟨18, .data⟩], guard := none } ?_
    refine tk 20 { dst := some 25, op := Op.move (.tmp 24), type := 4, pos := "l08_msg.go:198", after := #[⟨19, .data⟩, ⟨9, .chain⟩], guard := none } ?_
    refine tn 21 { dst := some 26, op := Op.move (.tmp 0), type := 97, pos := "l08_msg.go:198", after := #[⟨20, .guard⟩], guard := some (20, true) } ?_
    refine tn 22 { dst := some 27, op := Op.nilCheck (.tmp 26), type := 0, pos := "l08_msg.go:198", after := #[⟨21, .data⟩, ⟨20, .guard⟩], guard := some (20, true) } ?_
    refine tn 23 { dst := some 28, op := Op.fieldAddr 40 (.tmp 27) 2, type := 0, pos := "l08_msg.go:198", after := #[⟨22, .data⟩, ⟨20, .guard⟩], guard := some (20, true) } ?_
    refine tn 24 { dst := some 29, op := Op.load 2 (.tmp 28), type := 2, pos := "l08_msg.go:198", after := #[⟨23, .data⟩, ⟨20, .guard⟩], guard := some (20, true) } ?_
    refine tn 25 { dst := some 30, op := Op.move (.tmp 1), type := 97, pos := "l08_msg.go:198", after := #[⟨20, .guard⟩], guard := some (20, true) } ?_
    refine tn 26 { dst := some 31, op := Op.nilCheck (.tmp 30), type := 0, pos := "l08_msg.go:198", after := #[⟨25, .data⟩, ⟨20, .guard⟩], guard := some (20, true) } ?_
    refine tn 27 { dst := some 32, op := Op.fieldAddr 40 (.tmp 31) 2, type := 0, pos := "l08_msg.go:198", after := #[⟨26, .data⟩, ⟨20, .guard⟩], guard := some (20, true) } ?_
    refine tn 28 { dst := some 33, op := Op.load 2 (.tmp 32), type := 2, pos := "l08_msg.go:198", after := #[⟨27, .data⟩, ⟨20, .guard⟩], guard := some (20, true) } ?_
    refine tn 29 { dst := some 34, op := Op.binOp BinOp.eql 2 (.tmp 29) (.tmp 33) 2, type := 4, pos := "l08_msg.go:198", after := #[⟨24, .data⟩, ⟨28, .data⟩, ⟨20, .guard⟩], guard := some (20, true) } ?_
    refine tk 30 { dst := some 35, op := Op.pick (.tmp 25) (.tmp 34) (Operand.const (Value.bool false)), type := 4, pos := "l08_msg.go:198", after := #[⟨20, .data⟩, ⟨29, .data⟩], guard := none } ?_
    refine tk 31 { dst := some 36, op := Op.move (.tmp 35), type := 4, pos := "l08_msg.go:198", after := #[⟨30, .data⟩, ⟨20, .chain⟩], guard := none } ?_
    refine tn 32 { dst := some 37, op := Op.move (.tmp 0), type := 97, pos := "l08_msg.go:198", after := #[⟨31, .guard⟩], guard := some (31, true) } ?_
    refine tn 33 { dst := some 38, op := Op.nilCheck (.tmp 37), type := 0, pos := "l08_msg.go:198", after := #[⟨32, .data⟩, ⟨31, .guard⟩], guard := some (31, true) } ?_
    refine tn 34 { dst := some 39, op := Op.fieldAddr 40 (.tmp 38) 3, type := 0, pos := "l08_msg.go:198", after := #[⟨33, .data⟩, ⟨31, .guard⟩], guard := some (31, true) } ?_
    refine tn 35 { dst := some 40, op := Op.load 2 (.tmp 39), type := 2, pos := "l08_msg.go:198", after := #[⟨34, .data⟩, ⟨31, .guard⟩], guard := some (31, true) } ?_
    refine tn 36 { dst := some 41, op := Op.move (.tmp 1), type := 97, pos := "l08_msg.go:198", after := #[⟨31, .guard⟩], guard := some (31, true) } ?_
    refine tn 37 { dst := some 42, op := Op.nilCheck (.tmp 41), type := 0, pos := "l08_msg.go:198", after := #[⟨36, .data⟩, ⟨31, .guard⟩], guard := some (31, true) } ?_
    refine tn 38 { dst := some 43, op := Op.fieldAddr 40 (.tmp 42) 3, type := 0, pos := "l08_msg.go:198", after := #[⟨37, .data⟩, ⟨31, .guard⟩], guard := some (31, true) } ?_
    refine tn 39 { dst := some 44, op := Op.load 2 (.tmp 43), type := 2, pos := "l08_msg.go:198", after := #[⟨38, .data⟩, ⟨31, .guard⟩], guard := some (31, true) } ?_
    refine tn 40 { dst := some 45, op := Op.binOp BinOp.eql 2 (.tmp 40) (.tmp 44) 2, type := 4, pos := "l08_msg.go:198", after := #[⟨35, .data⟩, ⟨39, .data⟩, ⟨31, .guard⟩], guard := some (31, true) } ?_
    refine tk 41 { dst := some 46, op := Op.pick (.tmp 36) (.tmp 45) (Operand.const (Value.bool false)), type := 4, pos := "l08_msg.go:198", after := #[⟨31, .data⟩, ⟨40, .data⟩], guard := none } ?_
    refine tk 42 { dst := some 47, op := Op.move (.tmp 46), type := 4, pos := "l08_msg.go:198", after := #[⟨41, .data⟩, ⟨31, .chain⟩], guard := none } ?_
    refine tn 43 { dst := some 48, op := Op.move (.tmp 0), type := 97, pos := "l08_msg.go:198", after := #[⟨42, .guard⟩], guard := some (42, true) } ?_
    refine tn 44 { dst := some 49, op := Op.nilCheck (.tmp 48), type := 0, pos := "l08_msg.go:198", after := #[⟨43, .data⟩, ⟨42, .guard⟩], guard := some (42, true) } ?_
    refine tn 45 { dst := some 50, op := Op.fieldAddr 40 (.tmp 49) 4, type := 0, pos := "l08_msg.go:198", after := #[⟨44, .data⟩, ⟨42, .guard⟩], guard := some (42, true) } ?_
    refine tn 46 { dst := some 51, op := Op.load 2 (.tmp 50), type := 2, pos := "l08_msg.go:198", after := #[⟨45, .data⟩, ⟨42, .guard⟩], guard := some (42, true) } ?_
    refine tn 47 { dst := some 52, op := Op.move (.tmp 1), type := 97, pos := "l08_msg.go:198", after := #[⟨42, .guard⟩], guard := some (42, true) } ?_
    refine tn 48 { dst := some 53, op := Op.nilCheck (.tmp 52), type := 0, pos := "l08_msg.go:198", after := #[⟨47, .data⟩, ⟨42, .guard⟩], guard := some (42, true) } ?_
    refine tn 49 { dst := some 54, op := Op.fieldAddr 40 (.tmp 53) 4, type := 0, pos := "l08_msg.go:198", after := #[⟨48, .data⟩, ⟨42, .guard⟩], guard := some (42, true) } ?_
    refine tn 50 { dst := some 55, op := Op.load 2 (.tmp 54), type := 2, pos := "l08_msg.go:198", after := #[⟨49, .data⟩, ⟨42, .guard⟩], guard := some (42, true) } ?_
    refine tn 51 { dst := some 56, op := Op.binOp BinOp.eql 2 (.tmp 51) (.tmp 55) 2, type := 4, pos := "l08_msg.go:198", after := #[⟨46, .data⟩, ⟨50, .data⟩, ⟨42, .guard⟩], guard := some (42, true) } ?_
    refine tk 52 { dst := some 57, op := Op.pick (.tmp 47) (.tmp 56) (Operand.const (Value.bool false)), type := 4, pos := "l08_msg.go:198", after := #[⟨42, .data⟩, ⟨51, .data⟩], guard := none } ?_
    refine tk 53 { dst := some 58, op := Op.move (.tmp 57), type := 4, pos := "l08_msg.go:198", after := #[⟨52, .data⟩, ⟨42, .chain⟩], guard := none } ?_
    refine tn 54 { dst := some 59, op := Op.move (.tmp 0), type := 97, pos := "l08_msg.go:198", after := #[⟨53, .guard⟩], guard := some (53, true) } ?_
    refine tn 55 { dst := some 60, op := Op.nilCheck (.tmp 59), type := 0, pos := "l08_msg.go:198", after := #[⟨54, .data⟩, ⟨53, .guard⟩], guard := some (53, true) } ?_
    refine tn 56 { dst := some 61, op := Op.fieldAddr 40 (.tmp 60) 5, type := 0, pos := "l08_msg.go:198", after := #[⟨55, .data⟩, ⟨53, .guard⟩], guard := some (53, true) } ?_
    refine tn 57 { dst := some 62, op := Op.load 37 (.tmp 61), type := 37, pos := "l08_msg.go:198", after := #[⟨56, .data⟩, ⟨53, .guard⟩], guard := some (53, true) } ?_
    refine tn 58 { dst := some 63, op := Op.move (.tmp 1), type := 97, pos := "l08_msg.go:198", after := #[⟨53, .guard⟩], guard := some (53, true) } ?_
    refine tn 59 { dst := some 64, op := Op.nilCheck (.tmp 63), type := 0, pos := "l08_msg.go:198", after := #[⟨58, .data⟩, ⟨53, .guard⟩], guard := some (53, true) } ?_
    refine tn 60 { dst := some 65, op := Op.fieldAddr 40 (.tmp 64) 5, type := 0, pos := "l08_msg.go:198", after := #[⟨59, .data⟩, ⟨53, .guard⟩], guard := some (53, true) } ?_
    refine tn 61 { dst := some 66, op := Op.load 37 (.tmp 65), type := 37, pos := "l08_msg.go:198", after := #[⟨60, .data⟩, ⟨53, .guard⟩], guard := some (53, true) } ?_
    refine tn 62 { dst := some 67, op := Op.call { callee := Callee.value (Operand.func 180), args := #[.tmp 62, .tmp 66], argTypes := #[37, 37] }, type := 4, pos := "l08_msg.go:199", after := #[⟨57, .data⟩, ⟨61, .data⟩, ⟨53, .chain⟩, ⟨53, .guard⟩], guard := some (53, true) } ?_
    refine tk 63 { dst := some 68, op := Op.pick (.tmp 58) (.tmp 67) (Operand.const (Value.bool false)), type := 4, pos := "l08_msg.go:198", after := #[⟨53, .data⟩, ⟨62, .data⟩], guard := none } ?_
    refine tk 64 { dst := some 69, op := Op.move (.tmp 68), type := 4, pos := "l08_msg.go:198", after := #[⟨63, .data⟩, ⟨62, .chain⟩], guard := none } ?_
    refine tn 65 { dst := some 70, op := Op.move (.tmp 0), type := 97, pos := "l08_msg.go:198", after := #[⟨64, .guard⟩], guard := some (64, true) } ?_
    refine tn 66 { dst := some 71, op := Op.nilCheck (.tmp 70), type := 0, pos := "l08_msg.go:198", after := #[⟨65, .data⟩, ⟨64, .guard⟩], guard := some (64, true) } ?_
    refine tn 67 { dst := some 72, op := Op.fieldAddr 40 (.tmp 71) 6, type := 0, pos := "l08_msg.go:198", after := #[⟨66, .data⟩, ⟨64, .guard⟩], guard := some (64, true) } ?_
    refine tn 68 { dst := some 73, op := Op.load 38 (.tmp 72), type := 38, pos := "l08_msg.go:198", after := #[⟨67, .data⟩, ⟨64, .guard⟩], guard := some (64, true) } ?_
    refine tn 69 { dst := some 74, op := Op.move (.tmp 1), type := 97, pos := "l08_msg.go:198", after := #[⟨64, .guard⟩], guard := some (64, true) } ?_
    refine tn 70 { dst := some 75, op := Op.nilCheck (.tmp 74), type := 0, pos := "l08_msg.go:198", after := #[⟨69, .data⟩, ⟨64, .guard⟩], guard := some (64, true) } ?_
    refine tn 71 { dst := some 76, op := Op.fieldAddr 40 (.tmp 75) 6, type := 0, pos := "l08_msg.go:198", after := #[⟨70, .data⟩, ⟨64, .guard⟩], guard := some (64, true) } ?_
    refine tn 72 { dst := some 77, op := Op.load 38 (.tmp 76), type := 38, pos := "l08_msg.go:198", after := #[⟨71, .data⟩, ⟨64, .guard⟩], guard := some (64, true) } ?_
    refine tn 73 { dst := some 78, op := Op.call { callee := Callee.value (Operand.func 181), args := #[.tmp 73, .tmp 77], argTypes := #[38, 38] }, type := 4, pos := "l08_msg.go:199", after := #[⟨68, .data⟩, ⟨72, .data⟩, ⟨64, .chain⟩, ⟨64, .guard⟩], guard := some (64, true) } ?_
    refine tk 74 { dst := some 79, op := Op.pick (.tmp 69) (.tmp 78) (Operand.const (Value.bool false)), type := 4, pos := "l08_msg.go:198", after := #[⟨64, .data⟩, ⟨73, .data⟩], guard := none } ?_
    refine tk 75 { dst := some 4, op := Op.assign (.tmp 79), type := 4, pos := "l08_msg.go:198", after := ([⟨74, .data⟩, ⟨73, .chain⟩, ⟨0, .phase⟩, ⟨1, .phase⟩, ⟨2, .phase⟩, ⟨3, .phase⟩, ⟨4, .phase⟩, ⟨5, .phase⟩, ⟨6, .phase⟩, ⟨7, .phase⟩, ⟨8, .phase⟩, ⟨9, .phase⟩, ⟨10, .phase⟩, ⟨11, .phase⟩, ⟨12, .phase⟩, ⟨13, .phase⟩, ⟨14, .phase⟩, ⟨15, .phase⟩, ⟨16, .phase⟩, ⟨17, .phase⟩, ⟨18, .phase⟩, ⟨19, .phase⟩, ⟨20, .phase⟩, ⟨21, .phase⟩, ⟨22, .phase⟩, ⟨23, .phase⟩, ⟨24, .phase⟩, ⟨25, .phase⟩, ⟨26, .phase⟩, ⟨27, .phase⟩, ⟨28, .phase⟩, ⟨29, .phase⟩, ⟨30, .phase⟩, ⟨31, .phase⟩, ⟨32, .phase⟩, ⟨33, .phase⟩, ⟨34, .phase⟩, ⟨35, .phase⟩].append [⟨36, .phase⟩, ⟨37, .phase⟩, ⟨38, .phase⟩, ⟨39, .phase⟩, ⟨40, .phase⟩, ⟨41, .phase⟩, ⟨42, .phase⟩, ⟨43, .phase⟩, ⟨44, .phase⟩, ⟨45, .phase⟩, ⟨46, .phase⟩, ⟨47, .phase⟩, ⟨48, .phase⟩, ⟨49, .phase⟩, ⟨50, .phase⟩, ⟨51, .phase⟩, ⟨52, .phase⟩, ⟨53, .phase⟩, ⟨54, .phase⟩, ⟨55, .phase⟩, ⟨56, .phase⟩, ⟨57, .phase⟩, ⟨58, .phase⟩, ⟨59, .phase⟩, ⟨60, .phase⟩, ⟨61, .phase⟩, ⟨62, .phase⟩, ⟨63, .phase⟩, ⟨64, .phase⟩, ⟨65, .phase⟩, ⟨66, .phase⟩, ⟨67, .phase⟩, ⟨68, .phase⟩, ⟨69, .phase⟩, ⟨70, .phase⟩, ⟨71, .phase⟩, ⟨72, .phase⟩, ⟨73, .phase⟩, ⟨74, .phase⟩]).toArray, guard := none } ?_
    refine wpAnyH_done (by kernel_rfl) ?_ _
    have HF : R = false := HR.out.symm.trans (Msg.sameM_0 g0)
    subst HF
    go_wp2
    go_ret
    exact ⟨rfl, (Ext.refl _).drew⟩
  · refine tk 9 { dst := some 14, op := Op.move (.tmp 13), type := 4, pos := "l08_msg.go:198", after := #[⟨8, .data⟩], guard := none } ?_
    refine tk 10 { dst := some 15, op := Op.move (.tmp 0), type := 97, pos := "l08_msg.go:198", after := #[⟨9, .guard⟩], guard := some (9, true) } ?_
    refine tk 11 { dst := some 16, op := Op.nilCheck (.tmp 15), type := 0, pos := "l08_msg.go:198", after := #[⟨10, .data⟩, ⟨9, .guard⟩], guard := some (9, true) } ?_
    refine tk 12 { dst := some 17, op := Op.fieldAddr 40 (.tmp 16) 1, type := 0, pos := "l08_msg.go:198", after := #[⟨11, .data⟩, ⟨9, .guard⟩], guard := some (9, true) } ?_
    refine tk 13 { dst := some 18, op := Op.load 2 (.tmp 17), type := 2, pos := "l08_msg.go:198", after := #[⟨12, .data⟩, ⟨9, .guard⟩], guard := some (9, true) } ?_
    refine tk 14 { dst := some 19, op := Op.move (.tmp 1), type := 97, pos := "l08_msg.go:198", after := #[⟨9, .guard⟩], guard := some (9, true) } ?_
    refine tk 15 { dst := some 20, op := Op.nilCheck (.tmp 19), type := 0, pos := "l08_msg.go:198", after := #[⟨14, .data⟩, ⟨9, .guard⟩], guard := some (9, true) } ?_
    refine tk 16 { dst := some 21, op := Op.fieldAddr 40 (.tmp 20) 1, type := 0, pos := "l08_msg.go:198", after := #[⟨15, .data⟩, ⟨9, .guard⟩], guard := some (9, true) } ?_
    refine tk 17 { dst := some 22, op := Op.load 2 (.tmp 21), type := 2, pos := "l08_msg.go:198", after := #[⟨16, .data⟩, ⟨9, .guard⟩], guard := some (9, true) } ?_
    refine tk 18 { dst := some 23, op := Op.binOp BinOp.eql 2 (.tmp 18) (.tmp 22) 2, type := 4, pos := "l08_msg.go:198", after := #[⟨13, .data⟩, ⟨17, .data⟩, ⟨9, .guard⟩], guard := some (9, true) } ?_
    rcases g1 : (m.view == n.view) with _ | _
    · refine tk 19 { dst := some 24, op := Op.pick (.tmp 14) (.tmp 23) (Operand.const (Value.bool false)), type := 4, pos := "l08_msg.go:198", after := #[⟨9, .data⟩, ⟨18, .data⟩], guard := none } ?_
      refine tk 20 { dst := some 25, op := Op.move (.tmp 24), type := 4, pos := "l08_msg.go:198", after := #[⟨19, .data⟩, ⟨9, .chain⟩], guard := none } ?_
      refine tn 21 { dst := some 26, op := Op.move (.tmp 0), type := 97, pos := "l08_msg.go:198", after := #[⟨20, .guard⟩], guard := some (20, true) } ?_
      refine tn 22 { dst := some 27, op := Op.nilCheck (.tmp 26), type := 0, pos := "l08_msg.go:198", after := #[⟨21, .data⟩, ⟨20, .guard⟩], guard := some (20, true) } ?_
      refine tn 23 { dst := some 28, op := Op.fieldAddr 40 (.tmp 27) 2, type := 0, pos := "l08_msg.go:198", after := #[⟨22, .data⟩, ⟨20, .guard⟩], guard := some (20, true) } ?_
      refine tn 24 { dst := some 29, op := Op.load 2 (.tmp 28), type := 2, pos := "l08_msg.go:198", after := #[⟨23, .data⟩, ⟨20, .guard⟩], guard := some (20, true) } ?_
      refine tn 25 { dst := some 30, op := Op.move (.tmp 1), type := 97, pos := "l08_msg.go:198", after := #[⟨20, .guard⟩], guard := some (20, true) } ?_
      refine tn 26 { dst := some 31, op := Op.nilCheck (.tmp 30), type := 0, pos := "l08_msg.go:198", after := #[⟨25, .data⟩, ⟨20, .guard⟩], guard := some (20, true) } ?_
      refine tn 27 { dst := some 32, op := Op.fieldAddr 40 (.tmp 31) 2, type := 0, pos := "l08_msg.go:198", after := #[⟨26, .data⟩, ⟨20, .guard⟩], guard := some (20, true) } ?_
      refine tn 28 { dst := some 33, op := Op.load 2 (.tmp 32), type := 2, pos := "l08_msg.go:198", after := #[⟨27, .data⟩, ⟨20, .guard⟩], guard := some (20, true) } ?_
      refine tn 29 { dst := some 34, op := Op.binOp BinOp.eql 2 (.tmp 29) (.tmp 33) 2, type := 4, pos := "l08_msg.go:198", after := #[⟨24, .data⟩, ⟨28, .data⟩, ⟨20, .guard⟩], guard := some (20, true) } ?_
      refine tk 30 { dst := some 35, op := Op.pick (.tmp 25) (.tmp 34) (Operand.const (Value.bool false)), type := 4, pos := "l08_msg.go:198", after := #[⟨20, .data⟩, ⟨29, .data⟩], guard := none } ?_
      refine tk 31 { dst := some 36, op := Op.move (.tmp 35), type := 4, pos := "l08_msg.go:198", after := #[⟨30, .data⟩, ⟨20, .chain⟩], guard := none } ?_
      refine tn 32 { dst := some 37, op := Op.move (.tmp 0), type := 97, pos := "l08_msg.go:198", after := #[⟨31, .guard⟩], guard := some (31, true) } ?_
      refine tn 33 { dst := some 38, op := Op.nilCheck (.tmp 37), type := 0, pos := "l08_msg.go:198", after := #[⟨32, .data⟩, ⟨31, .guard⟩], guard := some (31, true) } ?_
      refine tn 34 { dst := some 39, op := Op.fieldAddr 40 (.tmp 38) 3, type := 0, pos := "l08_msg.go:198", after := #[⟨33, .data⟩, ⟨31, .guard⟩], guard := some (31, true) } ?_
      refine tn 35 { dst := some 40, op := Op.load 2 (.tmp 39), type := 2, pos := "l08_msg.go:198", after := #[⟨34, .data⟩, ⟨31, .guard⟩], guard := some (31, true) } ?_
      refine tn 36 { dst := some 41, op := Op.move (.tmp 1), type := 97, pos := "l08_msg.go:198", after := #[⟨31, .guard⟩], guard := some (31, true) } ?_
      refine tn 37 { dst := some 42, op := Op.nilCheck (.tmp 41), type := 0, pos := "l08_msg.go:198", after := #[⟨36, .data⟩, ⟨31, .guard⟩], guard := some (31, true) } ?_
      refine tn 38 { dst := some 43, op := Op.fieldAddr 40 (.tmp 42) 3, type := 0, pos := "l08_msg.go:198", after := #[⟨37, .data⟩, ⟨31, .guard⟩], guard := some (31, true) } ?_
      refine tn 39 { dst := some 44, op := Op.load 2 (.tmp 43), type := 2, pos := "l08_msg.go:198", after := #[⟨38, .data⟩, ⟨31, .guard⟩], guard := some (31, true) } ?_
      refine tn 40 { dst := some 45, op := Op.binOp BinOp.eql 2 (.tmp 40) (.tmp 44) 2, type := 4, pos := "l08_msg.go:198", after := #[⟨35, .data⟩, ⟨39, .data⟩, ⟨31, .guard⟩], guard := some (31, true) } ?_
      refine tk 41 { dst := some 46, op := Op.pick (.tmp 36) (.tmp 45) (Operand.const (Value.bool false)), type := 4, pos := "l08_msg.go:198", after := #[⟨31, .data⟩, ⟨40, .data⟩], guard := none } ?_
      refine tk 42 { dst := some 47, op := Op.move (.tmp 46), type := 4, pos := "l08_msg.go:198", after := #[⟨41, .data⟩, ⟨31, .chain⟩], guard := none } ?_
      refine tn 43 { dst := some 48, op := Op.move (.tmp 0), type := 97, pos := "l08_msg.go:198", after := #[⟨42, .guard⟩], guard := some (42, true) } ?_
      refine tn 44 { dst := some 49, op := Op.nilCheck (.tmp 48), type := 0, pos := "l08_msg.go:198", after := #[⟨43, .data⟩, ⟨42, .guard⟩], guard := some (42, true) } ?_
      refine tn 45 { dst := some 50, op := Op.fieldAddr 40 (.tmp 49) 4, type := 0, pos := "l08_msg.go:198", after := #[⟨44, .data⟩, ⟨42, .guard⟩], guard := some (42, true) } ?_
      refine tn 46 { dst := some 51, op := Op.load 2 (.tmp 50), type := 2, pos := "l08_msg.go:198", after := #[⟨45, .data⟩, ⟨42, .guard⟩], guard := some (42, true) } ?_
      refine tn 47 { dst := some 52, op := Op.move (.tmp 1), type := 97, pos := "l08_msg.go:198", after := #[⟨42, .guard⟩], guard := some (42, true) } ?_
      refine tn 48 { dst := some 53, op := Op.nilCheck (.tmp 52), type := 0, pos := "l08_msg.go:198", after := #[⟨47, .data⟩, ⟨42, .guard⟩], guard := some (42, true) } ?_
      refine tn 49 { dst := some 54, op := Op.fieldAddr 40 (.tmp 53) 4, type := 0, pos := "l08_msg.go:198", after := #[⟨48, .data⟩, ⟨42, .guard⟩], guard := some (42, true) } ?_
      refine tn 50 { dst := some 55, op := Op.load 2 (.tmp 54), type := 2, pos := "l08_msg.go:198", after := #[⟨49, .data⟩, ⟨42, .guard⟩], guard := some (42, true) } ?_
      refine tn 51 { dst := some 56, op := Op.binOp BinOp.eql 2 (.tmp 51) (.tmp 55) 2, type := 4, pos := "l08_msg.go:198", after := #[⟨46, .data⟩, ⟨50, .data⟩, ⟨42, .guard⟩], guard := some (42, true) } ?_
      refine tk 52 { dst := some 57, op := Op.pick (.tmp 47) (.tmp 56) (Operand.const (Value.bool false)), type := 4, pos := "l08_msg.go:198", after := #[⟨42, .data⟩, ⟨51, .data⟩], guard := none } ?_
      refine tk 53 { dst := some 58, op := Op.move (.tmp 57), type := 4, pos := "l08_msg.go:198", after := #[⟨52, .data⟩, ⟨42, .chain⟩], guard := none } ?_
      refine tn 54 { dst := some 59, op := Op.move (.tmp 0), type := 97, pos := "l08_msg.go:198", after := #[⟨53, .guard⟩], guard := some (53, true) } ?_
      refine tn 55 { dst := some 60, op := Op.nilCheck (.tmp 59), type := 0, pos := "l08_msg.go:198", after := #[⟨54, .data⟩, ⟨53, .guard⟩], guard := some (53, true) } ?_
      refine tn 56 { dst := some 61, op := Op.fieldAddr 40 (.tmp 60) 5, type := 0, pos := "l08_msg.go:198", after := #[⟨55, .data⟩, ⟨53, .guard⟩], guard := some (53, true) } ?_
      refine tn 57 { dst := some 62, op := Op.load 37 (.tmp 61), type := 37, pos := "l08_msg.go:198", after := #[⟨56, .data⟩, ⟨53, .guard⟩], guard := some (53, true) } ?_
      refine tn 58 { dst := some 63, op := Op.move (.tmp 1), type := 97, pos := "l08_msg.go:198", after := #[⟨53, .guard⟩], guard := some (53, true) } ?_
      refine tn 59 { dst := some 64, op := Op.nilCheck (.tmp 63), type := 0, pos := "l08_msg.go:198", after := #[⟨58, .data⟩, ⟨53, .guard⟩], guard := some (53, true) } ?_
      refine tn 60 { dst := some 65, op := Op.fieldAddr 40 (.tmp 64) 5, type := 0, pos := "l08_msg.go:198", after := #[⟨59, .data⟩, ⟨53, .guard⟩], guard := some (53, true) } ?_
      refine tn 61 { dst := some 66, op := Op.load 37 (.tmp 65), type := 37, pos := "l08_msg.go:198", after := #[⟨60, .data⟩, ⟨53, .guard⟩], guard := some (53, true) } ?_
      refine tn 62 { dst := some 67, op := Op.call { callee := Callee.value (Operand.func 180), args := #[.tmp 62, .tmp 66], argTypes := #[37, 37] }, type := 4, pos := "l08_msg.go:199", after := #[⟨57, .data⟩, ⟨61, .data⟩, ⟨53, .chain⟩, ⟨53, .guard⟩], guard := some (53, true) } ?_
      refine tk 63 { dst := some 68, op := Op.pick (.tmp 58) (.tmp 67) (Operand.const (Value.bool false)), type := 4, pos := "l08_msg.go:198", after := #[⟨53, .data⟩, ⟨62, .data⟩], guard := none } ?_
      refine tk 64 { dst := some 69, op := Op.move (.tmp 68), type := 4, pos := "l08_msg.go:198", after := #[⟨63, .data⟩, ⟨62, .chain⟩], guard := none } ?_
      refine tn 65 { dst := some 70, op := Op.move (.tmp 0), type := 97, pos := "l08_msg.go:198", after := #[⟨64, .guard⟩], guard := some (64, true) } ?_
      refine tn 66 { dst := some 71, op := Op.nilCheck (.tmp 70), type := 0, pos := "l08_msg.go:198", after := #[⟨65, .data⟩, ⟨64, .guard⟩], guard := some (64, true) } ?_
      refine tn 67 { dst := some 72, op := Op.fieldAddr 40 (.tmp 71) 6, type := 0, pos := "l08_msg.go:198", after := #[⟨66, .data⟩, ⟨64, .guard⟩], guard := some (64, true) } ?_
      refine tn 68 { dst := some 73, op := Op.load 38 (.tmp 72), type := 38, pos := "l08_msg.go:198", after := #[⟨67, .data⟩, ⟨64, .guard⟩], guard := some (64, true) } ?_
      refine tn 69 { dst := some 74, op := Op.move (.tmp 1), type := 97, pos := "l08_msg.go:198", after := #[⟨64, .guard⟩], guard := some (64, true) } ?_
      refine tn 70 { dst := some 75, op := Op.nilCheck (.tmp 74), type := 0, pos := "l08_msg.go:198", after := #[⟨69, .data⟩, ⟨64, .guard⟩], guard := some (64, true) } ?_
      refine tn 71 { dst := some 76, op := Op.fieldAddr 40 (.tmp 75) 6, type := 0, pos := "l08_msg.go:198", after := #[⟨70, .data⟩, ⟨64, .guard⟩], guard := some (64, true) } ?_
      refine tn 72 { dst := some 77, op := Op.load 38 (.tmp 76), type := 38, pos := "l08_msg.go:198", after := #[⟨71, .data⟩, ⟨64, .guard⟩], guard := some (64, true) } ?_
      refine tn 73 { dst := some 78, op := Op.call { callee := Callee.value (Operand.func 181), args := #[.tmp 73, .tmp 77], argTypes := #[38, 38] }, type := 4, pos := "l08_msg.go:199", after := #[⟨68, .data⟩, ⟨72, .data⟩, ⟨64, .chain⟩, ⟨64, .guard⟩], guard := some (64, true) } ?_
      refine tk 74 { dst := some 79, op := Op.pick (.tmp 69) (.tmp 78) (Operand.const (Value.bool false)), type := 4, pos := "l08_msg.go:198", after := #[⟨64, .data⟩, ⟨73, .data⟩], guard := none } ?_
      refine tk 75 { dst := some 4, op := Op.assign (.tmp 79), type := 4, pos := "l08_msg.go:198", after := ([⟨74, .data⟩, ⟨73, .chain⟩, ⟨0, .phase⟩, ⟨1, .phase⟩, ⟨2, .phase⟩, ⟨3, .phase⟩, ⟨4, .phase⟩, ⟨5, .phase⟩, ⟨6, .phase⟩, ⟨7, .phase⟩, ⟨8, .phase⟩, ⟨9, .phase⟩, ⟨10, .phase⟩, ⟨11, .phase⟩, ⟨12, .phase⟩, ⟨13, .phase⟩, ⟨14, .phase⟩, ⟨15, .phase⟩, ⟨16, .phase⟩, ⟨17, .phase⟩, ⟨18, .phase⟩, ⟨19, .phase⟩, ⟨20, .phase⟩, ⟨21, .phase⟩, ⟨22, .phase⟩, ⟨23, .phase⟩, ⟨24, .phase⟩, ⟨25, .phase⟩, ⟨26, .phase⟩, ⟨27, .phase⟩, ⟨28, .phase⟩, ⟨29, .phase⟩, ⟨30, .phase⟩, ⟨31, .phase⟩, ⟨32, .phase⟩, ⟨33, .phase⟩, ⟨34, .phase⟩, ⟨35, .phase⟩].append [⟨36, .phase⟩, ⟨37, .phase⟩, ⟨38, .phase⟩, ⟨39, .phase⟩, ⟨40, .phase⟩, ⟨41, .phase⟩, ⟨42, .phase⟩, ⟨43, .phase⟩, ⟨44, .phase⟩, ⟨45, .phase⟩, ⟨46, .phase⟩, ⟨47, .phase⟩, ⟨48, .phase⟩, ⟨49, .phase⟩, ⟨50, .phase⟩, ⟨51, .phase⟩, ⟨52, .phase⟩, ⟨53, .phase⟩, ⟨54, .phase⟩, ⟨55, .phase⟩, ⟨56, .phase⟩, ⟨57, .phase⟩, ⟨58, .phase⟩, ⟨59, .phase⟩, ⟨60, .phase⟩, ⟨61, .phase⟩, ⟨62, .phase⟩, ⟨63, .phase⟩, ⟨64, .phase⟩, ⟨65, .phase⟩, ⟨66, .phase⟩, ⟨67, .phase⟩, ⟨68, .phase⟩, ⟨69, .phase⟩, ⟨70, .phase⟩, ⟨71, .phase⟩, ⟨72, .phase⟩, ⟨73, .phase⟩, ⟨74, .phase⟩]).toArray, guard := none } ?_
      refine wpAnyH_done (by kernel_rfl) ?_ _
      have HF : R = false := HR.out.symm.trans (Msg.sameM_1 g1)
      subst HF
      go_wp2
      go_ret
      exact ⟨rfl, (Ext.refl _).drew⟩
    · refine tk 19 { dst := some 24, op := Op.pick (.tmp 14) (.tmp 23) (Operand.const (Value.bool false)), type := 4, pos := "l08_msg.go:198", after := #[⟨9, .data⟩, ⟨18, .data⟩], guard := none } ?_
      refine tk 20 { dst := some 25, op := Op.move (.tmp 24), type := 4, pos := "l08_msg.go:198", after := #[⟨19, .data⟩, ⟨9, .chain⟩], guard := none } ?_
      refine tk 21 { dst := some 26, op := Op.move (.tmp 0), type := 97, pos := "l08_msg.go:198", after := #[⟨20, .guard⟩], guard := some (20, true) } ?_
      refine tk 22 { dst := some 27, op := Op.nilCheck (.tmp 26), type := 0, pos := "l08_msg.go:198", after := #[⟨21, .data⟩, ⟨20, .guard⟩], guard := some (20, true) } ?_
      refine tk 23 { dst := some 28, op := Op.fieldAddr 40 (.tmp 27) 2, type := 0, pos := "l08_msg.go:198", after := #[⟨22, .data⟩, ⟨20, .guard⟩], guard := some (20, true) } ?_
      refine tk 24 { dst := some 29, op := Op.load 2 (.tmp 28), type := 2, pos := "l08_msg.go:198", after := #[⟨23, .data⟩, ⟨20, .guard⟩], guard := some (20, true) } ?_
      refine tk 25 { dst := some 30, op := Op.move (.tmp 1), type := 97, pos := "l08_msg.go:198", after := #[⟨20, .guard⟩], guard := some (20, true) } ?_
      refine tk 26 { dst := some 31, op := Op.nilCheck (.tmp 30), type := 0, pos := "l08_msg.go:198", after := #[⟨25, .data⟩, ⟨20, .guard⟩], guard := some (20, true) } ?_
      refine tk 27 { dst := some 32, op := Op.fieldAddr 40 (.tmp 31) 2, type := 0, pos := "l08_msg.go:198", after := #[⟨26, .data⟩, ⟨20, .guard⟩], guard := some (20, true) } ?_
      refine tk 28 { dst := some 33, op := Op.load 2 (.tmp 32), type := 2, pos := "l08_msg.go:198", after := #[⟨27, .data⟩, ⟨20, .guard⟩], guard := some (20, true) } ?_
      refine tk 29 { dst := some 34, op := Op.binOp BinOp.eql 2 (.tmp 29) (.tmp 33) 2, type := 4, pos := "l08_msg.go:198", after := #[⟨24, .data⟩, ⟨28, .data⟩, ⟨20, .guard⟩], guard := some (20, true) } ?_
      rcases g2 : (m.from_ == n.from_) with _ | _
      · refine tk 30 { dst := some 35, op := Op.pick (.tmp 25) (.tmp 34) (Operand.const (Value.bool false)), type := 4, pos := "l08_msg.go:198", after := #[⟨20, .data⟩, ⟨29, .data⟩], guard := none } ?_
        refine tk 31 { dst := some 36, op := Op.move (.tmp 35), type := 4, pos := "l08_msg.go:198", after := #[⟨30, .data⟩, ⟨20, .chain⟩], guard := none } ?_
        refine tn 32 { dst := some 37, op := Op.move (.tmp 0), type := 97, pos := "l08_msg.go:198", after := #[⟨31, .guard⟩], guard := some (31, true) } ?_
        refine tn 33 { dst := some 38, op := Op.nilCheck (.tmp 37), type := 0, pos := "l08_msg.go:198", after := #[⟨32, .data⟩, ⟨31, .guard⟩], guard := some (31, true) } ?_
        refine tn 34 { dst := some 39, op := Op.fieldAddr 40 (.tmp 38) 3, type := 0, pos := "l08_msg.go:198", after := #[⟨33, .data⟩, ⟨31, .guard⟩], guard := some (31, true) } ?_
        refine tn 35 { dst := some 40, op := Op.load 2 (.tmp 39), type := 2, pos := "l08_msg.go:198", after := #[⟨34, .data⟩, ⟨31, .guard⟩], guard := some (31, true) } ?_
        refine tn 36 { dst := some 41, op := Op.move (.tmp 1), type := 97, pos := "l08_msg.go:198", after := #[⟨31, .guard⟩], guard := some (31, true) } ?_
        refine tn 37 { dst := some 42, op := Op.nilCheck (.tmp 41), type := 0, pos := "l08_msg.go:198", after := #[⟨36, .data⟩, ⟨31, .guard⟩], guard := some (31, true) } ?_
        refine tn 38 { dst := some 43, op := Op.fieldAddr 40 (.tmp 42) 3, type := 0, pos := "l08_msg.go:198", after := #[⟨37, .data⟩, ⟨31, .guard⟩], guard := some (31, true) } ?_
        refine tn 39 { dst := some 44, op := Op.load 2 (.tmp 43), type := 2, pos := "l08_msg.go:198", after := #[⟨38, .data⟩, ⟨31, .guard⟩], guard := some (31, true) } ?_
        refine tn 40 { dst := some 45, op := Op.binOp BinOp.eql 2 (.tmp 40) (.tmp 44) 2, type := 4, pos := "l08_msg.go:198", after := #[⟨35, .data⟩, ⟨39, .data⟩, ⟨31, .guard⟩], guard := some (31, true) } ?_
        refine tk 41 { dst := some 46, op := Op.pick (.tmp 36) (.tmp 45) (Operand.const (Value.bool false)), type := 4, pos := "l08_msg.go:198", after := #[⟨31, .data⟩, ⟨40, .data⟩], guard := none } ?_
        refine tk 42 { dst := some 47, op := Op.move (.tmp 46), type := 4, pos := "l08_msg.go:198", after := #[⟨41, .data⟩, ⟨31, .chain⟩], guard := none } ?_
        refine tn 43 { dst := some 48, op := Op.move (.tmp 0), type := 97, pos := "l08_msg.go:198", after := #[⟨42, .guard⟩], guard := some (42, true) } ?_
        refine tn 44 { dst := some 49, op := Op.nilCheck (.tmp 48), type := 0, pos := "l08_msg.go:198", after := #[⟨43, .data⟩, ⟨42, .guard⟩], guard := some (42, true) } ?_
        refine tn 45 { dst := some 50, op := Op.fieldAddr 40 (.tmp 49) 4, type := 0, pos := "l08_msg.go:198", after := #[⟨44, .data⟩, ⟨42, .guard⟩], guard := some (42, true) } ?_
        refine tn 46 { dst := some 51, op := Op.load 2 (.tmp 50), type := 2, pos := "l08_msg.go:198", after := #[⟨45, .data⟩, ⟨42, .guard⟩], guard := some (42, true) } ?_
        refine tn 47 { dst := some 52, op := Op.move (.tmp 1), type := 97, pos := "l08_msg.go:198", after := #[⟨42, .guard⟩], guard := some (42, true) } ?_
        refine tn 48 { dst := some 53, op := Op.nilCheck (.tmp 52), type := 0, pos := "l08_msg.go:198", after := #[⟨47, .data⟩, ⟨42, .guard⟩], guard := some (42, true) } ?_
        refine tn 49 { dst := some 54, op := Op.fieldAddr 40 (.tmp 53) 4, type := 0, pos := "l08_msg.go:198", after := #[⟨48, .data⟩, ⟨42, .guard⟩], guard := some (42, true) } ?_
        refine tn 50 { dst := some 55, op := Op.load 2 (.tmp 54), type := 2, pos := "l08_msg.go:198", after := #[⟨49, .data⟩, ⟨42, .guard⟩], guard := some (42, true) } ?_
        refine tn 51 { dst := some 56, op := Op.binOp BinOp.eql 2 (.tmp 51) (.tmp 55) 2, type := 4, pos := "l08_msg.go:198", after := #[⟨46, .data⟩, ⟨50, .data⟩, ⟨42, .guard⟩], guard := some (42, true) } ?_
        refine tk 52 { dst := some 57, op := Op.pick (.tmp 47) (.tmp 56) (Operand.const (Value.bool false)), type := 4, pos := "l08_msg.go:198", after := #[⟨42, .data⟩, ⟨51, .data⟩], guard := none } ?_
        refine tk 53 { dst := some 58, op := Op.move (.tmp 57), type := 4, pos := "l08_msg.go:198", after := #[⟨52, .data⟩, ⟨42, .chain⟩], guard := none } ?_
        refine tn 54 { dst := some 59, op := Op.move (.tmp 0), type := 97, pos := "l08_msg.go:198", after := #[⟨53, .guard⟩], guard := some (53, true) } ?_
        refine tn 55 { dst := some 60, op := Op.nilCheck (.tmp 59), type := 0, pos := "l08_msg.go:198", after := #[⟨54, .data⟩, ⟨53, .guard⟩], guard := some (53, true) } ?_
        refine tn 56 { dst := some 61, op := Op.fieldAddr 40 (.tmp 60) 5, type := 0, pos := "l08_msg.go:198", after := #[⟨55, .data⟩, ⟨53, .guard⟩], guard := some (53, true) } ?_
        refine tn 57 { dst := some 62, op := Op.load 37 (.tmp 61), type := 37, pos := "l08_msg.go:198", after := #[⟨56, .data⟩, ⟨53, .guard⟩], guard := some (53, true) } ?_
        refine tn 58 { dst := some 63, op := Op.move (.tmp 1), type := 97, pos := "l08_msg.go:198", after := #[⟨53, .guard⟩], guard := some (53, true) } ?_
        refine tn 59 { dst := some 64, op := Op.nilCheck (.tmp 63), type := 0, pos := "l08_msg.go:198", after := #[⟨58, .data⟩, ⟨53, .guard⟩], guard := some (53, true) } ?_
        refine tn 60 { dst := some 65, op := Op.fieldAddr 40 (.tmp 64) 5, type := 0, pos := "l08_msg.go:198", after := #[⟨59, .data⟩, ⟨53, .guard⟩], guard := some (53, true) } ?_
        refine tn 61 { dst := some 66, op := Op.load 37 (.tmp 65), type := 37, pos := "l08_msg.go:198", after := #[⟨60, .data⟩, ⟨53, .guard⟩], guard := some (53, true) } ?_
        refine tn 62 { dst := some 67, op := Op.call { callee := Callee.value (Operand.func 180), args := #[.tmp 62, .tmp 66], argTypes := #[37, 37] }, type := 4, pos := "l08_msg.go:199", after := #[⟨57, .data⟩, ⟨61, .data⟩, ⟨53, .chain⟩, ⟨53, .guard⟩], guard := some (53, true) } ?_
        refine tk 63 { dst := some 68, op := Op.pick (.tmp 58) (.tmp 67) (Operand.const (Value.bool false)), type := 4, pos := "l08_msg.go:198", after := #[⟨53, .data⟩, ⟨62, .data⟩], guard := none } ?_
        refine tk 64 { dst := some 69, op := Op.move (.tmp 68), type := 4, pos := "l08_msg.go:198", after := #[⟨63, .data⟩, ⟨62, .chain⟩], guard := none } ?_
        refine tn 65 { dst := some 70, op := Op.move (.tmp 0), type := 97, pos := "l08_msg.go:198", after := #[⟨64, .guard⟩], guard := some (64, true) } ?_
        refine tn 66 { dst := some 71, op := Op.nilCheck (.tmp 70), type := 0, pos := "l08_msg.go:198", after := #[⟨65, .data⟩, ⟨64, .guard⟩], guard := some (64, true) } ?_
        refine tn 67 { dst := some 72, op := Op.fieldAddr 40 (.tmp 71) 6, type := 0, pos := "l08_msg.go:198", after := #[⟨66, .data⟩, ⟨64, .guard⟩], guard := some (64, true) } ?_
        refine tn 68 { dst := some 73, op := Op.load 38 (.tmp 72), type := 38, pos := "l08_msg.go:198", after := #[⟨67, .data⟩, ⟨64, .guard⟩], guard := some (64, true) } ?_
        refine tn 69 { dst := some 74, op := Op.move (.tmp 1), type := 97, pos := "l08_msg.go:198", after := #[⟨64, .guard⟩], guard := some (64, true) } ?_
        refine tn 70 { dst := some 75, op := Op.nilCheck (.tmp 74), type := 0, pos := "l08_msg.go:198", after := #[⟨69, .data⟩, ⟨64, .guard⟩], guard := some (64, true) } ?_
        refine tn 71 { dst := some 76, op := Op.fieldAddr 40 (.tmp 75) 6, type := 0, pos := "l08_msg.go:198", after := #[⟨70, .data⟩, ⟨64, .guard⟩], guard := some (64, true) } ?_
        refine tn 72 { dst := some 77, op := Op.load 38 (.tmp 76), type := 38, pos := "l08_msg.go:198", after := #[⟨71, .data⟩, ⟨64, .guard⟩], guard := some (64, true) } ?_
        refine tn 73 { dst := some 78, op := Op.call { callee := Callee.value (Operand.func 181), args := #[.tmp 73, .tmp 77], argTypes := #[38, 38] }, type := 4, pos := "l08_msg.go:199", after := #[⟨68, .data⟩, ⟨72, .data⟩, ⟨64, .chain⟩, ⟨64, .guard⟩], guard := some (64, true) } ?_
        refine tk 74 { dst := some 79, op := Op.pick (.tmp 69) (.tmp 78) (Operand.const (Value.bool false)), type := 4, pos := "l08_msg.go:198", after := #[⟨64, .data⟩, ⟨73, .data⟩], guard := none } ?_
        refine tk 75 { dst := some 4, op := Op.assign (.tmp 79), type := 4, pos := "l08_msg.go:198", after := ([⟨74, .data⟩, ⟨73, .chain⟩, ⟨0, .phase⟩, ⟨1, .phase⟩, ⟨2, .phase⟩, ⟨3, .phase⟩, ⟨4, .phase⟩, ⟨5, .phase⟩, ⟨6, .phase⟩, ⟨7, .phase⟩, ⟨8, .phase⟩, ⟨9, .phase⟩, ⟨10, .phase⟩, ⟨11, .phase⟩, ⟨12, .phase⟩, ⟨13, .phase⟩, ⟨14, .phase⟩, ⟨15, .phase⟩, ⟨16, .phase⟩, ⟨17, .phase⟩, ⟨18, .phase⟩, ⟨19, .phase⟩, ⟨20, .phase⟩, ⟨21, .phase⟩, ⟨22, .phase⟩, ⟨23, .phase⟩, ⟨24, .phase⟩, ⟨25, .phase⟩, ⟨26, .phase⟩, ⟨27, .phase⟩, ⟨28, .phase⟩, ⟨29, .phase⟩, ⟨30, .phase⟩, ⟨31, .phase⟩, ⟨32, .phase⟩, ⟨33, .phase⟩, ⟨34, .phase⟩, ⟨35, .phase⟩].append [⟨36, .phase⟩, ⟨37, .phase⟩, ⟨38, .phase⟩, ⟨39, .phase⟩, ⟨40, .phase⟩, ⟨41, .phase⟩, ⟨42, .phase⟩, ⟨43, .phase⟩, ⟨44, .phase⟩, ⟨45, .phase⟩, ⟨46, .phase⟩, ⟨47, .phase⟩, ⟨48, .phase⟩, ⟨49, .phase⟩, ⟨50, .phase⟩, ⟨51, .phase⟩, ⟨52, .phase⟩, ⟨53, .phase⟩, ⟨54, .phase⟩, ⟨55, .phase⟩, ⟨56, .phase⟩, ⟨57, .phase⟩, ⟨58, .phase⟩, ⟨59, .phase⟩, ⟨60, .phase⟩, ⟨61, .phase⟩, ⟨62, .phase⟩, ⟨63, .phase⟩, ⟨64, .phase⟩, ⟨65, .phase⟩, ⟨66, .phase⟩, ⟨67, .phase⟩, ⟨68, .phase⟩, ⟨69, .phase⟩, ⟨70, .phase⟩, ⟨71, .phase⟩, ⟨72, .phase⟩, ⟨73, .phase⟩, ⟨74, .phase⟩]).toArray, guard := none } ?_
        refine wpAnyH_done (by kernel_rfl) ?_ _
        have HF : R = false := HR.out.symm.trans (Msg.sameM_2 g2)
        subst HF
        go_wp2
        go_ret
        exact ⟨rfl, (Ext.refl _).drew⟩
      · refine tk 30 { dst := some 35, op := Op.pick (.tmp 25) (.tmp 34) (Operand.const (Value.bool false)), type := 4, pos := "l08_msg.go:198", after := #[⟨20, .data⟩, ⟨29, .data⟩], guard := none } ?_
        refine tk 31 { dst := some 36, op := Op.move (.tmp 35), type := 4, pos := "l08_msg.go:198", after := #[⟨30, .data⟩, ⟨20, .chain⟩], guard := none } ?_
        refine tk 32 { dst := some 37, op := Op.move (.tmp 0), type := 97, pos := "l08_msg.go:198", after := #[⟨31, .guard⟩], guard := some (31, true) } ?_
        refine tk 33 { dst := some 38, op := Op.nilCheck (.tmp 37), type := 0, pos := "l08_msg.go:198", after := #[⟨32, .data⟩, ⟨31, .guard⟩], guard := some (31, true) } ?_
        refine tk 34 { dst := some 39, op := Op.fieldAddr 40 (.tmp 38) 3, type := 0, pos := "l08_msg.go:198", after := #[⟨33, .data⟩, ⟨31, .guard⟩], guard := some (31, true) } ?_
        refine tk 35 { dst := some 40, op := Op.load 2 (.tmp 39), type := 2, pos := "l08_msg.go:198", after := #[⟨34, .data⟩, ⟨31, .guard⟩], guard := some (31, true) } ?_
        refine tk 36 { dst := some 41, op := Op.move (.tmp 1), type := 97, pos := "l08_msg.go:198", after := #[⟨31, .guard⟩], guard := some (31, true) } ?_
        refine tk 37 { dst := some 42, op := Op.nilCheck (.tmp 41), type := 0, pos := "l08_msg.go:198", after := #[⟨36, .data⟩, ⟨31, .guard⟩], guard := some (31, true) } ?_
        refine tk 38 { dst := some 43, op := Op.fieldAddr 40 (.tmp 42) 3, type := 0, pos := "l08_msg.go:198", after := #[⟨37, .data⟩, ⟨31, .guard⟩], guard := some (31, true) } ?_
        refine tk 39 { dst := some 44, op := Op.load 2 (.tmp 43), type := 2, pos := "l08_msg.go:198", after := #[⟨38, .data⟩, ⟨31, .guard⟩], guard := some (31, true) } ?_
        refine tk 40 { dst := some 45, op := Op.binOp BinOp.eql 2 (.tmp 40) (.tmp 44) 2, type := 4, pos := "l08_msg.go:198", after := #[⟨35, .data⟩, ⟨39, .data⟩, ⟨31, .guard⟩], guard := some (31, true) } ?_
        rcases g3 : (m.slot == n.slot) with _ | _
        · refine tk 41 { dst := some 46, op := Op.pick (.tmp 36) (.tmp 45) (Operand.const (Value.bool false)), type := 4, pos := "l08_msg.go:198", after := #[⟨31, .data⟩, ⟨40, .data⟩], guard := none } ?_
          refine tk 42 { dst := some 47, op := Op.move (.tmp 46), type := 4, pos := "l08_msg.go:198", after := #[⟨41, .data⟩, ⟨31, .chain⟩], guard := none } ?_
          refine tn 43 { dst := some 48, op := Op.move (.tmp 0), type := 97, pos := "l08_msg.go:198", after := #[⟨42, .guard⟩], guard := some (42, true) } ?_
          refine tn 44 { dst := some 49, op := Op.nilCheck (.tmp 48), type := 0, pos := "l08_msg.go:198", after := #[⟨43, .data⟩, ⟨42, .guard⟩], guard := some (42, true) } ?_
          refine tn 45 { dst := some 50, op := Op.fieldAddr 40 (.tmp 49) 4, type := 0, pos := "l08_msg.go:198", after := #[⟨44, .data⟩, ⟨42, .guard⟩], guard := some (42, true) } ?_
          refine tn 46 { dst := some 51, op := Op.load 2 (.tmp 50), type := 2, pos := "l08_msg.go:198", after := #[⟨45, .data⟩, ⟨42, .guard⟩], guard := some (42, true) } ?_
          refine tn 47 { dst := some 52, op := Op.move (.tmp 1), type := 97, pos := "l08_msg.go:198", after := #[⟨42, .guard⟩], guard := some (42, true) } ?_
          refine tn 48 { dst := some 53, op := Op.nilCheck (.tmp 52), type := 0, pos := "l08_msg.go:198", after := #[⟨47, .data⟩, ⟨42, .guard⟩], guard := some (42, true) } ?_
          refine tn 49 { dst := some 54, op := Op.fieldAddr 40 (.tmp 53) 4, type := 0, pos := "l08_msg.go:198", after := #[⟨48, .data⟩, ⟨42, .guard⟩], guard := some (42, true) } ?_
          refine tn 50 { dst := some 55, op := Op.load 2 (.tmp 54), type := 2, pos := "l08_msg.go:198", after := #[⟨49, .data⟩, ⟨42, .guard⟩], guard := some (42, true) } ?_
          refine tn 51 { dst := some 56, op := Op.binOp BinOp.eql 2 (.tmp 51) (.tmp 55) 2, type := 4, pos := "l08_msg.go:198", after := #[⟨46, .data⟩, ⟨50, .data⟩, ⟨42, .guard⟩], guard := some (42, true) } ?_
          refine tk 52 { dst := some 57, op := Op.pick (.tmp 47) (.tmp 56) (Operand.const (Value.bool false)), type := 4, pos := "l08_msg.go:198", after := #[⟨42, .data⟩, ⟨51, .data⟩], guard := none } ?_
          refine tk 53 { dst := some 58, op := Op.move (.tmp 57), type := 4, pos := "l08_msg.go:198", after := #[⟨52, .data⟩, ⟨42, .chain⟩], guard := none } ?_
          refine tn 54 { dst := some 59, op := Op.move (.tmp 0), type := 97, pos := "l08_msg.go:198", after := #[⟨53, .guard⟩], guard := some (53, true) } ?_
          refine tn 55 { dst := some 60, op := Op.nilCheck (.tmp 59), type := 0, pos := "l08_msg.go:198", after := #[⟨54, .data⟩, ⟨53, .guard⟩], guard := some (53, true) } ?_
          refine tn 56 { dst := some 61, op := Op.fieldAddr 40 (.tmp 60) 5, type := 0, pos := "l08_msg.go:198", after := #[⟨55, .data⟩, ⟨53, .guard⟩], guard := some (53, true) } ?_
          refine tn 57 { dst := some 62, op := Op.load 37 (.tmp 61), type := 37, pos := "l08_msg.go:198", after := #[⟨56, .data⟩, ⟨53, .guard⟩], guard := some (53, true) } ?_
          refine tn 58 { dst := some 63, op := Op.move (.tmp 1), type := 97, pos := "l08_msg.go:198", after := #[⟨53, .guard⟩], guard := some (53, true) } ?_
          refine tn 59 { dst := some 64, op := Op.nilCheck (.tmp 63), type := 0, pos := "l08_msg.go:198", after := #[⟨58, .data⟩, ⟨53, .guard⟩], guard := some (53, true) } ?_
          refine tn 60 { dst := some 65, op := Op.fieldAddr 40 (.tmp 64) 5, type := 0, pos := "l08_msg.go:198", after := #[⟨59, .data⟩, ⟨53, .guard⟩], guard := some (53, true) } ?_
          refine tn 61 { dst := some 66, op := Op.load 37 (.tmp 65), type := 37, pos := "l08_msg.go:198", after := #[⟨60, .data⟩, ⟨53, .guard⟩], guard := some (53, true) } ?_
          refine tn 62 { dst := some 67, op := Op.call { callee := Callee.value (Operand.func 180), args := #[.tmp 62, .tmp 66], argTypes := #[37, 37] }, type := 4, pos := "l08_msg.go:199", after := #[⟨57, .data⟩, ⟨61, .data⟩, ⟨53, .chain⟩, ⟨53, .guard⟩], guard := some (53, true) } ?_
          refine tk 63 { dst := some 68, op := Op.pick (.tmp 58) (.tmp 67) (Operand.const (Value.bool false)), type := 4, pos := "l08_msg.go:198", after := #[⟨53, .data⟩, ⟨62, .data⟩], guard := none } ?_
          refine tk 64 { dst := some 69, op := Op.move (.tmp 68), type := 4, pos := "l08_msg.go:198", after := #[⟨63, .data⟩, ⟨62, .chain⟩], guard := none } ?_
          refine tn 65 { dst := some 70, op := Op.move (.tmp 0), type := 97, pos := "l08_msg.go:198", after := #[⟨64, .guard⟩], guard := some (64, true) } ?_
          refine tn 66 { dst := some 71, op := Op.nilCheck (.tmp 70), type := 0, pos := "l08_msg.go:198", after := #[⟨65, .data⟩, ⟨64, .guard⟩], guard := some (64, true) } ?_
          refine tn 67 { dst := some 72, op := Op.fieldAddr 40 (.tmp 71) 6, type := 0, pos := "l08_msg.go:198", after := #[⟨66, .data⟩, ⟨64, .guard⟩], guard := some (64, true) } ?_
          refine tn 68 { dst := some 73, op := Op.load 38 (.tmp 72), type := 38, pos := "l08_msg.go:198", after := #[⟨67, .data⟩, ⟨64, .guard⟩], guard := some (64, true) } ?_
          refine tn 69 { dst := some 74, op := Op.move (.tmp 1), type := 97, pos := "l08_msg.go:198", after := #[⟨64, .guard⟩], guard := some (64, true) } ?_
          refine tn 70 { dst := some 75, op := Op.nilCheck (.tmp 74), type := 0, pos := "l08_msg.go:198", after := #[⟨69, .data⟩, ⟨64, .guard⟩], guard := some (64, true) } ?_
          refine tn 71 { dst := some 76, op := Op.fieldAddr 40 (.tmp 75) 6, type := 0, pos := "l08_msg.go:198", after := #[⟨70, .data⟩, ⟨64, .guard⟩], guard := some (64, true) } ?_
          refine tn 72 { dst := some 77, op := Op.load 38 (.tmp 76), type := 38, pos := "l08_msg.go:198", after := #[⟨71, .data⟩, ⟨64, .guard⟩], guard := some (64, true) } ?_
          refine tn 73 { dst := some 78, op := Op.call { callee := Callee.value (Operand.func 181), args := #[.tmp 73, .tmp 77], argTypes := #[38, 38] }, type := 4, pos := "l08_msg.go:199", after := #[⟨68, .data⟩, ⟨72, .data⟩, ⟨64, .chain⟩, ⟨64, .guard⟩], guard := some (64, true) } ?_
          refine tk 74 { dst := some 79, op := Op.pick (.tmp 69) (.tmp 78) (Operand.const (Value.bool false)), type := 4, pos := "l08_msg.go:198", after := #[⟨64, .data⟩, ⟨73, .data⟩], guard := none } ?_
          refine tk 75 { dst := some 4, op := Op.assign (.tmp 79), type := 4, pos := "l08_msg.go:198", after := ([⟨74, .data⟩, ⟨73, .chain⟩, ⟨0, .phase⟩, ⟨1, .phase⟩, ⟨2, .phase⟩, ⟨3, .phase⟩, ⟨4, .phase⟩, ⟨5, .phase⟩, ⟨6, .phase⟩, ⟨7, .phase⟩, ⟨8, .phase⟩, ⟨9, .phase⟩, ⟨10, .phase⟩, ⟨11, .phase⟩, ⟨12, .phase⟩, ⟨13, .phase⟩, ⟨14, .phase⟩, ⟨15, .phase⟩, ⟨16, .phase⟩, ⟨17, .phase⟩, ⟨18, .phase⟩, ⟨19, .phase⟩, ⟨20, .phase⟩, ⟨21, .phase⟩, ⟨22, .phase⟩, ⟨23, .phase⟩, ⟨24, .phase⟩, ⟨25, .phase⟩, ⟨26, .phase⟩, ⟨27, .phase⟩, ⟨28, .phase⟩, ⟨29, .phase⟩, ⟨30, .phase⟩, ⟨31, .phase⟩, ⟨32, .phase⟩, ⟨33, .phase⟩, ⟨34, .phase⟩, ⟨35, .phase⟩].append [⟨36, .phase⟩, ⟨37, .phase⟩, ⟨38, .phase⟩, ⟨39, .phase⟩, ⟨40, .phase⟩, ⟨41, .phase⟩, ⟨42, .phase⟩, ⟨43, .phase⟩, ⟨44, .phase⟩, ⟨45, .phase⟩, ⟨46, .phase⟩, ⟨47, .phase⟩, ⟨48, .phase⟩, ⟨49, .phase⟩, ⟨50, .phase⟩, ⟨51, .phase⟩, ⟨52, .phase⟩, ⟨53, .phase⟩, ⟨54, .phase⟩, ⟨55, .phase⟩, ⟨56, .phase⟩, ⟨57, .phase⟩, ⟨58, .phase⟩, ⟨59, .phase⟩, ⟨60, .phase⟩, ⟨61, .phase⟩, ⟨62, .phase⟩, ⟨63, .phase⟩, ⟨64, .phase⟩, ⟨65, .phase⟩, ⟨66, .phase⟩, ⟨67, .phase⟩, ⟨68, .phase⟩, ⟨69, .phase⟩, ⟨70, .phase⟩, ⟨71, .phase⟩, ⟨72, .phase⟩, ⟨73, .phase⟩, ⟨74, .phase⟩]).toArray, guard := none } ?_
          refine wpAnyH_done (by kernel_rfl) ?_ _
          have HF : R = false := HR.out.symm.trans (Msg.sameM_3 g3)
          subst HF
          go_wp2
          go_ret
          exact ⟨rfl, (Ext.refl _).drew⟩
        · refine tk 41 { dst := some 46, op := Op.pick (.tmp 36) (.tmp 45) (Operand.const (Value.bool false)), type := 4, pos := "l08_msg.go:198", after := #[⟨31, .data⟩, ⟨40, .data⟩], guard := none } ?_
          refine tk 42 { dst := some 47, op := Op.move (.tmp 46), type := 4, pos := "l08_msg.go:198", after := #[⟨41, .data⟩, ⟨31, .chain⟩], guard := none } ?_
          refine tk 43 { dst := some 48, op := Op.move (.tmp 0), type := 97, pos := "l08_msg.go:198", after := #[⟨42, .guard⟩], guard := some (42, true) } ?_
          refine tk 44 { dst := some 49, op := Op.nilCheck (.tmp 48), type := 0, pos := "l08_msg.go:198", after := #[⟨43, .data⟩, ⟨42, .guard⟩], guard := some (42, true) } ?_
          refine tk 45 { dst := some 50, op := Op.fieldAddr 40 (.tmp 49) 4, type := 0, pos := "l08_msg.go:198", after := #[⟨44, .data⟩, ⟨42, .guard⟩], guard := some (42, true) } ?_
          refine tk 46 { dst := some 51, op := Op.load 2 (.tmp 50), type := 2, pos := "l08_msg.go:198", after := #[⟨45, .data⟩, ⟨42, .guard⟩], guard := some (42, true) } ?_
          refine tk 47 { dst := some 52, op := Op.move (.tmp 1), type := 97, pos := "l08_msg.go:198", after := #[⟨42, .guard⟩], guard := some (42, true) } ?_
          refine tk 48 { dst := some 53, op := Op.nilCheck (.tmp 52), type := 0, pos := "l08_msg.go:198", after := #[⟨47, .data⟩, ⟨42, .guard⟩], guard := some (42, true) } ?_
          refine tk 49 { dst := some 54, op := Op.fieldAddr 40 (.tmp 53) 4, type := 0, pos := "l08_msg.go:198", after := #[⟨48, .data⟩, ⟨42, .guard⟩], guard := some (42, true) } ?_
          refine tk 50 { dst := some 55, op := Op.load 2 (.tmp 54), type := 2, pos := "l08_msg.go:198", after := #[⟨49, .data⟩, ⟨42, .guard⟩], guard := some (42, true) } ?_
          refine tk 51 { dst := some 56, op := Op.binOp BinOp.eql 2 (.tmp 51) (.tmp 55) 2, type := 4, pos := "l08_msg.go:198", after := #[⟨46, .data⟩, ⟨50, .data⟩, ⟨42, .guard⟩], guard := some (42, true) } ?_
          rcases g4 : (m.value == n.value) with _ | _
          · refine tk 52 { dst := some 57, op := Op.pick (.tmp 47) (.tmp 56) (Operand.const (Value.bool false)), type := 4, pos := "l08_msg.go:198", after := #[⟨42, .data⟩, ⟨51, .data⟩], guard := none } ?_
            refine tk 53 { dst := some 58, op := Op.move (.tmp 57), type := 4, pos := "l08_msg.go:198", after := #[⟨52, .data⟩, ⟨42, .chain⟩], guard := none } ?_
            refine tn 54 { dst := some 59, op := Op.move (.tmp 0), type := 97, pos := "l08_msg.go:198", after := #[⟨53, .guard⟩], guard := some (53, true) } ?_
            refine tn 55 { dst := some 60, op := Op.nilCheck (.tmp 59), type := 0, pos := "l08_msg.go:198", after := #[⟨54, .data⟩, ⟨53, .guard⟩], guard := some (53, true) } ?_
            refine tn 56 { dst := some 61, op := Op.fieldAddr 40 (.tmp 60) 5, type := 0, pos := "l08_msg.go:198", after := #[⟨55, .data⟩, ⟨53, .guard⟩], guard := some (53, true) } ?_
            refine tn 57 { dst := some 62, op := Op.load 37 (.tmp 61), type := 37, pos := "l08_msg.go:198", after := #[⟨56, .data⟩, ⟨53, .guard⟩], guard := some (53, true) } ?_
            refine tn 58 { dst := some 63, op := Op.move (.tmp 1), type := 97, pos := "l08_msg.go:198", after := #[⟨53, .guard⟩], guard := some (53, true) } ?_
            refine tn 59 { dst := some 64, op := Op.nilCheck (.tmp 63), type := 0, pos := "l08_msg.go:198", after := #[⟨58, .data⟩, ⟨53, .guard⟩], guard := some (53, true) } ?_
            refine tn 60 { dst := some 65, op := Op.fieldAddr 40 (.tmp 64) 5, type := 0, pos := "l08_msg.go:198", after := #[⟨59, .data⟩, ⟨53, .guard⟩], guard := some (53, true) } ?_
            refine tn 61 { dst := some 66, op := Op.load 37 (.tmp 65), type := 37, pos := "l08_msg.go:198", after := #[⟨60, .data⟩, ⟨53, .guard⟩], guard := some (53, true) } ?_
            refine tn 62 { dst := some 67, op := Op.call { callee := Callee.value (Operand.func 180), args := #[.tmp 62, .tmp 66], argTypes := #[37, 37] }, type := 4, pos := "l08_msg.go:199", after := #[⟨57, .data⟩, ⟨61, .data⟩, ⟨53, .chain⟩, ⟨53, .guard⟩], guard := some (53, true) } ?_
            refine tk 63 { dst := some 68, op := Op.pick (.tmp 58) (.tmp 67) (Operand.const (Value.bool false)), type := 4, pos := "l08_msg.go:198", after := #[⟨53, .data⟩, ⟨62, .data⟩], guard := none } ?_
            refine tk 64 { dst := some 69, op := Op.move (.tmp 68), type := 4, pos := "l08_msg.go:198", after := #[⟨63, .data⟩, ⟨62, .chain⟩], guard := none } ?_
            refine tn 65 { dst := some 70, op := Op.move (.tmp 0), type := 97, pos := "l08_msg.go:198", after := #[⟨64, .guard⟩], guard := some (64, true) } ?_
            refine tn 66 { dst := some 71, op := Op.nilCheck (.tmp 70), type := 0, pos := "l08_msg.go:198", after := #[⟨65, .data⟩, ⟨64, .guard⟩], guard := some (64, true) } ?_
            refine tn 67 { dst := some 72, op := Op.fieldAddr 40 (.tmp 71) 6, type := 0, pos := "l08_msg.go:198", after := #[⟨66, .data⟩, ⟨64, .guard⟩], guard := some (64, true) } ?_
            refine tn 68 { dst := some 73, op := Op.load 38 (.tmp 72), type := 38, pos := "l08_msg.go:198", after := #[⟨67, .data⟩, ⟨64, .guard⟩], guard := some (64, true) } ?_
            refine tn 69 { dst := some 74, op := Op.move (.tmp 1), type := 97, pos := "l08_msg.go:198", after := #[⟨64, .guard⟩], guard := some (64, true) } ?_
            refine tn 70 { dst := some 75, op := Op.nilCheck (.tmp 74), type := 0, pos := "l08_msg.go:198", after := #[⟨69, .data⟩, ⟨64, .guard⟩], guard := some (64, true) } ?_
            refine tn 71 { dst := some 76, op := Op.fieldAddr 40 (.tmp 75) 6, type := 0, pos := "l08_msg.go:198", after := #[⟨70, .data⟩, ⟨64, .guard⟩], guard := some (64, true) } ?_
            refine tn 72 { dst := some 77, op := Op.load 38 (.tmp 76), type := 38, pos := "l08_msg.go:198", after := #[⟨71, .data⟩, ⟨64, .guard⟩], guard := some (64, true) } ?_
            refine tn 73 { dst := some 78, op := Op.call { callee := Callee.value (Operand.func 181), args := #[.tmp 73, .tmp 77], argTypes := #[38, 38] }, type := 4, pos := "l08_msg.go:199", after := #[⟨68, .data⟩, ⟨72, .data⟩, ⟨64, .chain⟩, ⟨64, .guard⟩], guard := some (64, true) } ?_
            refine tk 74 { dst := some 79, op := Op.pick (.tmp 69) (.tmp 78) (Operand.const (Value.bool false)), type := 4, pos := "l08_msg.go:198", after := #[⟨64, .data⟩, ⟨73, .data⟩], guard := none } ?_
            refine tk 75 { dst := some 4, op := Op.assign (.tmp 79), type := 4, pos := "l08_msg.go:198", after := ([⟨74, .data⟩, ⟨73, .chain⟩, ⟨0, .phase⟩, ⟨1, .phase⟩, ⟨2, .phase⟩, ⟨3, .phase⟩, ⟨4, .phase⟩, ⟨5, .phase⟩, ⟨6, .phase⟩, ⟨7, .phase⟩, ⟨8, .phase⟩, ⟨9, .phase⟩, ⟨10, .phase⟩, ⟨11, .phase⟩, ⟨12, .phase⟩, ⟨13, .phase⟩, ⟨14, .phase⟩, ⟨15, .phase⟩, ⟨16, .phase⟩, ⟨17, .phase⟩, ⟨18, .phase⟩, ⟨19, .phase⟩, ⟨20, .phase⟩, ⟨21, .phase⟩, ⟨22, .phase⟩, ⟨23, .phase⟩, ⟨24, .phase⟩, ⟨25, .phase⟩, ⟨26, .phase⟩, ⟨27, .phase⟩, ⟨28, .phase⟩, ⟨29, .phase⟩, ⟨30, .phase⟩, ⟨31, .phase⟩, ⟨32, .phase⟩, ⟨33, .phase⟩, ⟨34, .phase⟩, ⟨35, .phase⟩].append [⟨36, .phase⟩, ⟨37, .phase⟩, ⟨38, .phase⟩, ⟨39, .phase⟩, ⟨40, .phase⟩, ⟨41, .phase⟩, ⟨42, .phase⟩, ⟨43, .phase⟩, ⟨44, .phase⟩, ⟨45, .phase⟩, ⟨46, .phase⟩, ⟨47, .phase⟩, ⟨48, .phase⟩, ⟨49, .phase⟩, ⟨50, .phase⟩, ⟨51, .phase⟩, ⟨52, .phase⟩, ⟨53, .phase⟩, ⟨54, .phase⟩, ⟨55, .phase⟩, ⟨56, .phase⟩, ⟨57, .phase⟩, ⟨58, .phase⟩, ⟨59, .phase⟩, ⟨60, .phase⟩, ⟨61, .phase⟩, ⟨62, .phase⟩, ⟨63, .phase⟩, ⟨64, .phase⟩, ⟨65, .phase⟩, ⟨66, .phase⟩, ⟨67, .phase⟩, ⟨68, .phase⟩, ⟨69, .phase⟩, ⟨70, .phase⟩, ⟨71, .phase⟩, ⟨72, .phase⟩, ⟨73, .phase⟩, ⟨74, .phase⟩]).toArray, guard := none } ?_
            refine wpAnyH_done (by kernel_rfl) ?_ _
            have HF : R = false := HR.out.symm.trans (Msg.sameM_4 g4)
            subst HF
            go_wp2
            go_ret
            exact ⟨rfl, (Ext.refl _).drew⟩
          · refine tk 52 { dst := some 57, op := Op.pick (.tmp 47) (.tmp 56) (Operand.const (Value.bool false)), type := 4, pos := "l08_msg.go:198", after := #[⟨42, .data⟩, ⟨51, .data⟩], guard := none } ?_
            refine tk 53 { dst := some 58, op := Op.move (.tmp 57), type := 4, pos := "l08_msg.go:198", after := #[⟨52, .data⟩, ⟨42, .chain⟩], guard := none } ?_
            refine tk 54 { dst := some 59, op := Op.move (.tmp 0), type := 97, pos := "l08_msg.go:198", after := #[⟨53, .guard⟩], guard := some (53, true) } ?_
            refine tk 55 { dst := some 60, op := Op.nilCheck (.tmp 59), type := 0, pos := "l08_msg.go:198", after := #[⟨54, .data⟩, ⟨53, .guard⟩], guard := some (53, true) } ?_
            refine tk 56 { dst := some 61, op := Op.fieldAddr 40 (.tmp 60) 5, type := 0, pos := "l08_msg.go:198", after := #[⟨55, .data⟩, ⟨53, .guard⟩], guard := some (53, true) } ?_
            refine tk 57 { dst := some 62, op := Op.load 37 (.tmp 61), type := 37, pos := "l08_msg.go:198", after := #[⟨56, .data⟩, ⟨53, .guard⟩], guard := some (53, true) } ?_
            refine tk 58 { dst := some 63, op := Op.move (.tmp 1), type := 97, pos := "l08_msg.go:198", after := #[⟨53, .guard⟩], guard := some (53, true) } ?_
            refine tk 59 { dst := some 64, op := Op.nilCheck (.tmp 63), type := 0, pos := "l08_msg.go:198", after := #[⟨58, .data⟩, ⟨53, .guard⟩], guard := some (53, true) } ?_
            refine tk 60 { dst := some 65, op := Op.fieldAddr 40 (.tmp 64) 5, type := 0, pos := "l08_msg.go:198", after := #[⟨59, .data⟩, ⟨53, .guard⟩], guard := some (53, true) } ?_
            refine tk 61 { dst := some 66, op := Op.load 37 (.tmp 65), type := 37, pos := "l08_msg.go:198", after := #[⟨60, .data⟩, ⟨53, .guard⟩], guard := some (53, true) } ?_
            refine wpAnyH_ready (rs := [62]) (by kernel_rfl) (by simp) (AllReadyH.cons rfl (fun K hK => ?_) AllReadyH.nil)
            go_simp
            refine (HC.out _ ((Ext.refl _).drew)).mono ?_
            rintro e w1 ⟨rfl, hb⟩
            have HB : Hid (Ext w w1) := ((Ext.refl _).drew).trans hb
            refine hK.out _ _ (HSx.out _ HB.out) (fun hHeld1 => ?_)
            clear hK K hb
            cases bc
            · refine tk 63 { dst := some 68, op := Op.pick (.tmp 58) (.tmp 67) (Operand.const (Value.bool false)), type := 4, pos := "l08_msg.go:198", after := #[⟨53, .data⟩, ⟨62, .data⟩], guard := none } ?_
              refine tk 64 { dst := some 69, op := Op.move (.tmp 68), type := 4, pos := "l08_msg.go:198", after := #[⟨63, .data⟩, ⟨62, .chain⟩], guard := none } ?_
              refine tn 65 { dst := some 70, op := Op.move (.tmp 0), type := 97, pos := "l08_msg.go:198", after := #[⟨64, .guard⟩], guard := some (64, true) } ?_
              refine tn 66 { dst := some 71, op := Op.nilCheck (.tmp 70), type := 0, pos := "l08_msg.go:198", after := #[⟨65, .data⟩, ⟨64, .guard⟩], guard := some (64, true) } ?_
              refine tn 67 { dst := some 72, op := Op.fieldAddr 40 (.tmp 71) 6, type := 0, pos := "l08_msg.go:198", after := #[⟨66, .data⟩, ⟨64, .guard⟩], guard := some (64, true) } ?_
              refine tn 68 { dst := some 73, op := Op.load 38 (.tmp 72), type := 38, pos := "l08_msg.go:198", after := #[⟨67, .data⟩, ⟨64, .guard⟩], guard := some (64, true) } ?_
              refine tn 69 { dst := some 74, op := Op.move (.tmp 1), type := 97, pos := "l08_msg.go:198", after := #[⟨64, .guard⟩], guard := some (64, true) } ?_
              refine tn 70 { dst := some 75, op := Op.nilCheck (.tmp 74), type := 0, pos := "l08_msg.go:198", after := #[⟨69, .data⟩, ⟨64, .guard⟩], guard := some (64, true) } ?_
              refine tn 71 { dst := some 76, op := Op.fieldAddr 40 (.tmp 75) 6, type := 0, pos := "l08_msg.go:198", after := #[⟨70, .data⟩, ⟨64, .guard⟩], guard := some (64, true) } ?_
              refine tn 72 { dst := some 77, op := Op.load 38 (.tmp 76), type := 38, pos := "l08_msg.go:198", after := #[⟨71, .data⟩, ⟨64, .guard⟩], guard := some (64, true) } ?_
              refine tn 73 { dst := some 78, op := Op.call { callee := Callee.value (Operand.func 181), args := #[.tmp 73, .tmp 77], argTypes := #[38, 38] }, type := 4, pos := "l08_msg.go:199", after := #[⟨68, .data⟩, ⟨72, .data⟩, ⟨64, .chain⟩, ⟨64, .guard⟩], guard := some (64, true) } ?_
              refine tk 74 { dst := some 79, op := Op.pick (.tmp 69) (.tmp 78) (Operand.const (Value.bool false)), type := 4, pos := "l08_msg.go:198", after := #[⟨64, .data⟩, ⟨73, .data⟩], guard := none } ?_
              refine tk 75 { dst := some 4, op := Op.assign (.tmp 79), type := 4, pos := "l08_msg.go:198", after := ([⟨74, .data⟩, ⟨73, .chain⟩, ⟨0, .phase⟩, ⟨1, .phase⟩, ⟨2, .phase⟩, ⟨3, .phase⟩, ⟨4, .phase⟩, ⟨5, .phase⟩, ⟨6, .phase⟩, ⟨7, .phase⟩, ⟨8, .phase⟩, ⟨9, .phase⟩, ⟨10, .phase⟩, ⟨11, .phase⟩, ⟨12, .phase⟩, ⟨13, .phase⟩, ⟨14, .phase⟩, ⟨15, .phase⟩, ⟨16, .phase⟩, ⟨17, .phase⟩, ⟨18, .phase⟩, ⟨19, .phase⟩, ⟨20, .phase⟩, ⟨21, .phase⟩, ⟨22, .phase⟩, ⟨23, .phase⟩, ⟨24, .phase⟩, ⟨25, .phase⟩, ⟨26, .phase⟩, ⟨27, .phase⟩, ⟨28, .phase⟩, ⟨29, .phase⟩, ⟨30, .phase⟩, ⟨31, .phase⟩, ⟨32, .phase⟩, ⟨33, .phase⟩, ⟨34, .phase⟩, ⟨35, .phase⟩].append [⟨36, .phase⟩, ⟨37, .phase⟩, ⟨38, .phase⟩, ⟨39, .phase⟩, ⟨40, .phase⟩, ⟨41, .phase⟩, ⟨42, .phase⟩, ⟨43, .phase⟩, ⟨44, .phase⟩, ⟨45, .phase⟩, ⟨46, .phase⟩, ⟨47, .phase⟩, ⟨48, .phase⟩, ⟨49, .phase⟩, ⟨50, .phase⟩, ⟨51, .phase⟩, ⟨52, .phase⟩, ⟨53, .phase⟩, ⟨54, .phase⟩, ⟨55, .phase⟩, ⟨56, .phase⟩, ⟨57, .phase⟩, ⟨58, .phase⟩, ⟨59, .phase⟩, ⟨60, .phase⟩, ⟨61, .phase⟩, ⟨62, .phase⟩, ⟨63, .phase⟩, ⟨64, .phase⟩, ⟨65, .phase⟩, ⟨66, .phase⟩, ⟨67, .phase⟩, ⟨68, .phase⟩, ⟨69, .phase⟩, ⟨70, .phase⟩, ⟨71, .phase⟩, ⟨72, .phase⟩, ⟨73, .phase⟩, ⟨74, .phase⟩]).toArray, guard := none } ?_
              refine wpAnyH_done (by kernel_rfl) ?_ _
              have HF : R = false := HR.out.symm.trans (Msg.sameM_5 HBc.out)
              subst HF
              go_wp2
              go_ret
              exact ⟨rfl, HB.out⟩
            · refine tk 63 { dst := some 68, op := Op.pick (.tmp 58) (.tmp 67) (Operand.const (Value.bool false)), type := 4, pos := "l08_msg.go:198", after := #[⟨53, .data⟩, ⟨62, .data⟩], guard := none } ?_
              refine tk 64 { dst := some 69, op := Op.move (.tmp 68), type := 4, pos := "l08_msg.go:198", after := #[⟨63, .data⟩, ⟨62, .chain⟩], guard := none } ?_
              refine tk 65 { dst := some 70, op := Op.move (.tmp 0), type := 97, pos := "l08_msg.go:198", after := #[⟨64, .guard⟩], guard := some (64, true) } ?_
              refine tk 66 { dst := some 71, op := Op.nilCheck (.tmp 70), type := 0, pos := "l08_msg.go:198", after := #[⟨65, .data⟩, ⟨64, .guard⟩], guard := some (64, true) } ?_
              refine tk 67 { dst := some 72, op := Op.fieldAddr 40 (.tmp 71) 6, type := 0, pos := "l08_msg.go:198", after := #[⟨66, .data⟩, ⟨64, .guard⟩], guard := some (64, true) } ?_
              refine tk 68 { dst := some 73, op := Op.load 38 (.tmp 72), type := 38, pos := "l08_msg.go:198", after := #[⟨67, .data⟩, ⟨64, .guard⟩], guard := some (64, true) } ?_
              refine tk 69 { dst := some 74, op := Op.move (.tmp 1), type := 97, pos := "l08_msg.go:198", after := #[⟨64, .guard⟩], guard := some (64, true) } ?_
              refine tk 70 { dst := some 75, op := Op.nilCheck (.tmp 74), type := 0, pos := "l08_msg.go:198", after := #[⟨69, .data⟩, ⟨64, .guard⟩], guard := some (64, true) } ?_
              refine tk 71 { dst := some 76, op := Op.fieldAddr 40 (.tmp 75) 6, type := 0, pos := "l08_msg.go:198", after := #[⟨70, .data⟩, ⟨64, .guard⟩], guard := some (64, true) } ?_
              refine tk 72 { dst := some 77, op := Op.load 38 (.tmp 76), type := 38, pos := "l08_msg.go:198", after := #[⟨71, .data⟩, ⟨64, .guard⟩], guard := some (64, true) } ?_
              refine wpAnyH_ready (rs := [73]) (by kernel_rfl) (by simp) (AllReadyH.cons rfl (fun K hK => ?_) AllReadyH.nil)
              go_simp
              refine (HI.out _ HB.out).mono ?_
              rintro e w2 ⟨rfl, hb⟩
              have HB2 : Hid (Ext w w2) := HB.out.trans hb
              refine hK.out _ _ (HSx.out _ HB2.out) (fun hHeld2 => ?_)
              clear hK K hb
              cases br
              · refine tk 74 { dst := some 79, op := Op.pick (.tmp 69) (.tmp 78) (Operand.const (Value.bool false)), type := 4, pos := "l08_msg.go:198", after := #[⟨64, .data⟩, ⟨73, .data⟩], guard := none } ?_
                refine tk 75 { dst := some 4, op := Op.assign (.tmp 79), type := 4, pos := "l08_msg.go:198", after := ([⟨74, .data⟩, ⟨73, .chain⟩, ⟨0, .phase⟩, ⟨1, .phase⟩, ⟨2, .phase⟩, ⟨3, .phase⟩, ⟨4, .phase⟩, ⟨5, .phase⟩, ⟨6, .phase⟩, ⟨7, .phase⟩, ⟨8, .phase⟩, ⟨9, .phase⟩, ⟨10, .phase⟩, ⟨11, .phase⟩, ⟨12, .phase⟩, ⟨13, .phase⟩, ⟨14, .phase⟩, ⟨15, .phase⟩, ⟨16, .phase⟩, ⟨17, .phase⟩, ⟨18, .phase⟩, ⟨19, .phase⟩, ⟨20, .phase⟩, ⟨21, .phase⟩, ⟨22, .phase⟩, ⟨23, .phase⟩, ⟨24, .phase⟩, ⟨25, .phase⟩, ⟨26, .phase⟩, ⟨27, .phase⟩, ⟨28, .phase⟩, ⟨29, .phase⟩, ⟨30, .phase⟩, ⟨31, .phase⟩, ⟨32, .phase⟩, ⟨33, .phase⟩, ⟨34, .phase⟩, ⟨35, .phase⟩].append [⟨36, .phase⟩, ⟨37, .phase⟩, ⟨38, .phase⟩, ⟨39, .phase⟩, ⟨40, .phase⟩, ⟨41, .phase⟩, ⟨42, .phase⟩, ⟨43, .phase⟩, ⟨44, .phase⟩, ⟨45, .phase⟩, ⟨46, .phase⟩, ⟨47, .phase⟩, ⟨48, .phase⟩, ⟨49, .phase⟩, ⟨50, .phase⟩, ⟨51, .phase⟩, ⟨52, .phase⟩, ⟨53, .phase⟩, ⟨54, .phase⟩, ⟨55, .phase⟩, ⟨56, .phase⟩, ⟨57, .phase⟩, ⟨58, .phase⟩, ⟨59, .phase⟩, ⟨60, .phase⟩, ⟨61, .phase⟩, ⟨62, .phase⟩, ⟨63, .phase⟩, ⟨64, .phase⟩, ⟨65, .phase⟩, ⟨66, .phase⟩, ⟨67, .phase⟩, ⟨68, .phase⟩, ⟨69, .phase⟩, ⟨70, .phase⟩, ⟨71, .phase⟩, ⟨72, .phase⟩, ⟨73, .phase⟩, ⟨74, .phase⟩]).toArray, guard := none } ?_
                refine wpAnyH_done (by kernel_rfl) ?_ _
                have HF : R = false := HR.out.symm.trans (Msg.sameM_7 g0 g1 g2 g3 g4 HBc.out _ HBr.out)
                subst HF
                go_wp2
                go_ret
                exact ⟨rfl, HB2.out⟩
              · refine tk 74 { dst := some 79, op := Op.pick (.tmp 69) (.tmp 78) (Operand.const (Value.bool false)), type := 4, pos := "l08_msg.go:198", after := #[⟨64, .data⟩, ⟨73, .data⟩], guard := none } ?_
                refine tk 75 { dst := some 4, op := Op.assign (.tmp 79), type := 4, pos := "l08_msg.go:198", after := ([⟨74, .data⟩, ⟨73, .chain⟩, ⟨0, .phase⟩, ⟨1, .phase⟩, ⟨2, .phase⟩, ⟨3, .phase⟩, ⟨4, .phase⟩, ⟨5, .phase⟩, ⟨6, .phase⟩, ⟨7, .phase⟩, ⟨8, .phase⟩, ⟨9, .phase⟩, ⟨10, .phase⟩, ⟨11, .phase⟩, ⟨12, .phase⟩, ⟨13, .phase⟩, ⟨14, .phase⟩, ⟨15, .phase⟩, ⟨16, .phase⟩, ⟨17, .phase⟩, ⟨18, .phase⟩, ⟨19, .phase⟩, ⟨20, .phase⟩, ⟨21, .phase⟩, ⟨22, .phase⟩, ⟨23, .phase⟩, ⟨24, .phase⟩, ⟨25, .phase⟩, ⟨26, .phase⟩, ⟨27, .phase⟩, ⟨28, .phase⟩, ⟨29, .phase⟩, ⟨30, .phase⟩, ⟨31, .phase⟩, ⟨32, .phase⟩, ⟨33, .phase⟩, ⟨34, .phase⟩, ⟨35, .phase⟩].append [⟨36, .phase⟩, ⟨37, .phase⟩, ⟨38, .phase⟩, ⟨39, .phase⟩, ⟨40, .phase⟩, ⟨41, .phase⟩, ⟨42, .phase⟩, ⟨43, .phase⟩, ⟨44, .phase⟩, ⟨45, .phase⟩, ⟨46, .phase⟩, ⟨47, .phase⟩, ⟨48, .phase⟩, ⟨49, .phase⟩, ⟨50, .phase⟩, ⟨51, .phase⟩, ⟨52, .phase⟩, ⟨53, .phase⟩, ⟨54, .phase⟩, ⟨55, .phase⟩, ⟨56, .phase⟩, ⟨57, .phase⟩, ⟨58, .phase⟩, ⟨59, .phase⟩, ⟨60, .phase⟩, ⟨61, .phase⟩, ⟨62, .phase⟩, ⟨63, .phase⟩, ⟨64, .phase⟩, ⟨65, .phase⟩, ⟨66, .phase⟩, ⟨67, .phase⟩, ⟨68, .phase⟩, ⟨69, .phase⟩, ⟨70, .phase⟩, ⟨71, .phase⟩, ⟨72, .phase⟩, ⟨73, .phase⟩, ⟨74, .phase⟩]).toArray, guard := none } ?_
                refine wpAnyH_done (by kernel_rfl) ?_ _
                have HF : R = true := HR.out.symm.trans (Msg.sameM_7 g0 g1 g2 g3 g4 HBc.out _ HBr.out)
                subst HF
                go_wp2
                go_ret
                exact ⟨rfl, HB2.out⟩

end Go.Proofs.YtecgjdgfjgcmdaaGreat
