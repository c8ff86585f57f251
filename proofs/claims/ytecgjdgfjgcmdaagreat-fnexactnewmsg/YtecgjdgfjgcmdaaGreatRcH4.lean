/- SameMsgs: the specification's, messages behind pointers; both at messages. -/
import Derived.Test.YtecgjdgfjgcmdaaGreatRcH3
import Derived.Test.YtecgjdgfjgcmdaaGreatRcTk
namespace Go.Proofs.YtecgjdgfjgcmdaaGreat
open Go.RowKit
set_option maxHeartbeats 4000000 in
set_option maxRecDepth 100000 in
theorem l8Same_any (m n : Ms) (v u v' u' : Value) (b o b' o' : Nat) (w : World) (hb1 : b < w.heap.size) (hb2 : b' < w.heap.size) (hm : MCs w b o m v u) (hn : MCs w b' o' n v' u') (hS : MLs w v u m) (hS' : MLs w v' u' n) :
    Calls Tryz.prog 185 #[.pointer (some ⟨b, o, none⟩), .pointer (some ⟨b', o', none⟩)] w fun e w' => e = .returned (.bool (Msg.sameM m n)) ∧ Ext w w' := by
  have HS : Hid (MLs w v u m) := hS
  have HS' : Hid (MLs w v' u' n) := hS'
  have HM : Hid (MCs w b o m v u) := hm
  have HM' : Hid (MCs w b' o' n v' u') := hn
  obtain ⟨a, c, a', c', rfl, rfl, hc1, hc2, hc3, hc4⟩ := hS.form
  obtain ⟨a2, c2, a3, c3, rfl, rfl, hd1, hd2, hd3, hd4⟩ := hS'.form
  obtain ⟨p0, p1, p2, p3, p4, p5, p6⟩ := hm
  obtain ⟨q0, q1, q2, q3, q4, q5, q6⟩ := hn
  generalize hR : Msg.sameM m n = R
  have HR : Hid (Msg.sameM m n = R) := hR
  clear hR
  unfold maxLen at hc2 hc4 hd2 hd4
  have HX5 : Hid (0 < m.certs.length → ∃ b off, a = some ⟨b, off, none⟩ ∧ b < w.heap.size ∧ CtsAt w b off m.certs) := by
    obtain ⟨⟨a0, c0, h1, -, -, h4⟩, -⟩ := HS.out
    injection h1 with h1 _ _; subst h1; exact h4
  have HX6 : Hid (0 < m.refs.length → ∃ b off, a' = some ⟨b, off, none⟩ ∧ b < w.heap.size ∧ NumsAt w b off m.refs) := by
    obtain ⟨-, ⟨a0, c0, h1, -, -, h4⟩⟩ := HS.out
    injection h1 with h1 _ _; subst h1; exact h4
  have HY5 : Hid (0 < n.certs.length → ∃ b off, a2 = some ⟨b, off, none⟩ ∧ b < w.heap.size ∧ CtsAt w b off n.certs) := by
    obtain ⟨⟨a0, c0, h1, -, -, h4⟩, -⟩ := HS'.out
    injection h1 with h1 _ _; subst h1; exact h4
  have HY6 : Hid (0 < n.refs.length → ∃ b off, a3 = some ⟨b, off, none⟩ ∧ b < w.heap.size ∧ NumsAt w b off n.refs) := by
    obtain ⟨-, ⟨a0, c0, h1, -, -, h4⟩⟩ := HS'.out
    injection h1 with h1 _ _; subst h1; exact h4
  have HW : Hid (∀ wr : World, Ext w wr → (wr.cell? ⟨b, o + 5, none⟩ = some (.slice a m.certs.length c) ∧ wr.cell? ⟨b, o + 6, none⟩ = some (.slice a' m.refs.length c') ∧ wr.cell? ⟨b', o' + 5, none⟩ = some (.slice a2 n.certs.length c2) ∧ wr.cell? ⟨b', o' + 6, none⟩ = some (.slice a3 n.refs.length c3))) := fun wr he => by
    obtain ⟨-, -, -, -, -, x5, x6⟩ := HM.out.ext hb1 he
    obtain ⟨-, -, -, -, -, y5, y6⟩ := HM'.out.ext hb2 he
    exact ⟨x5, x6, y5, y6⟩
  have HSx : Hid (∀ wx : World, Ext w wx → (fun W' : World => W'.cell? ⟨b, o, none⟩ = some (.int .i64 m.kind) ∧ W'.cell? ⟨b, o + 1, none⟩ = some (.int .i64 m.view) ∧ W'.cell? ⟨b, o + 2, none⟩ = some (.int .i64 m.from_) ∧ W'.cell? ⟨b, o + 3, none⟩ = some (.int .i64 m.slot) ∧ W'.cell? ⟨b, o + 4, none⟩ = some (.int .i64 m.value) ∧ W'.cell? ⟨b, o + 5, none⟩ = some ((.slice a m.certs.length c)) ∧ W'.cell? ⟨b, o + 6, none⟩ = some ((.slice a' m.refs.length c')) ∧ W'.cell? ⟨b', o', none⟩ = some (.int .i64 n.kind) ∧ W'.cell? ⟨b', o' + 1, none⟩ = some (.int .i64 n.view) ∧ W'.cell? ⟨b', o' + 2, none⟩ = some (.int .i64 n.from_) ∧ W'.cell? ⟨b', o' + 3, none⟩ = some (.int .i64 n.slot) ∧ W'.cell? ⟨b', o' + 4, none⟩ = some (.int .i64 n.value) ∧ W'.cell? ⟨b', o' + 5, none⟩ = some ((.slice a2 n.certs.length c2)) ∧ W'.cell? ⟨b', o' + 6, none⟩ = some ((.slice a3 n.refs.length c3))) wx) := fun wx he => by
    obtain ⟨x0, x1, x2, x3, x4, x5, x6⟩ := HM.out.ext hb1 he
    obtain ⟨y0, y1, y2, y3, y4, y5, y6⟩ := HM'.out.ext hb2 he
    exact ⟨x0, x1, x2, x3, x4, x5, x6, y0, y1, y2, y3, y4, y5, y6⟩
  clear HS HS' HM HM' hS hS' p0 p1 p2 p3 p4 p5 p6 q0 q1 q2 q3 q4 q5 q6
  go_enter Tryz.func185, Tryz.ntmps185
  go_wp2
  (try dsimp only [List.append])
  refine wp_region_held_drew (S := (fun W' : World => W'.cell? ⟨b, o, none⟩ = some (.int .i64 m.kind) ∧ W'.cell? ⟨b, o + 1, none⟩ = some (.int .i64 m.view) ∧ W'.cell? ⟨b, o + 2, none⟩ = some (.int .i64 m.from_) ∧ W'.cell? ⟨b, o + 3, none⟩ = some (.int .i64 m.slot) ∧ W'.cell? ⟨b, o + 4, none⟩ = some (.int .i64 m.value) ∧ W'.cell? ⟨b, o + 5, none⟩ = some ((.slice a m.certs.length c)) ∧ W'.cell? ⟨b, o + 6, none⟩ = some ((.slice a' m.refs.length c')) ∧ W'.cell? ⟨b', o', none⟩ = some (.int .i64 n.kind) ∧ W'.cell? ⟨b', o' + 1, none⟩ = some (.int .i64 n.view) ∧ W'.cell? ⟨b', o' + 2, none⟩ = some (.int .i64 n.from_) ∧ W'.cell? ⟨b', o' + 3, none⟩ = some (.int .i64 n.slot) ∧ W'.cell? ⟨b', o' + 4, none⟩ = some (.int .i64 n.value) ∧ W'.cell? ⟨b', o' + 5, none⟩ = some ((.slice a2 n.certs.length c2)) ∧ W'.cell? ⟨b', o' + 6, none⟩ = some ((.slice a3 n.refs.length c3)))) (by kernel_rfl) (HSx.out _ ((Ext.refl _).drew)) (fun hHeld => ?_)
  refine tk 0 { dst := some 7, op := Op.move (.tmp 0), type := 97, pos := "l08_msg.go:63", after := #[], guard := none } ?_
  refine tk 1 { dst := some 8, op := Op.nilCheck (.tmp 7), type := 0, pos := "l08_msg.go:63", after := #[⟨0, .data⟩], guard := none } ?_
  refine tk 2 { dst := some 9, op := Op.fieldAddr 40 (.tmp 8) 0, type := 0, pos := "l08_msg.go:63", after := #[⟨1, .data⟩], guard := none } ?_
  refine tk 3 { dst := some 10, op := Op.load 2 (.tmp 9), type := 2, pos := "l08_msg.go:63", after := #[⟨2, .data⟩], guard := none } ?_
  refine tk 4 { dst := some 11, op := Op.move (.tmp 1), type := 97, pos := "l08_msg.go:63", after := #[], guard := none } ?_
  refine tk 5 { dst := some 12, op := Op.nilCheck (.tmp 11), type := 0, pos := "l08_msg.go:63", after := #[⟨4, .data⟩], guard := none } ?_
  refine tk 6 { dst := some 13, op := Op.fieldAddr 40 (.tmp 12) 0, type := 0, pos := "l08_msg.go:63", after := #[⟨5, .data⟩], guard := none } ?_
  refine tk 7 { dst := some 14, op := Op.load 2 (.tmp 13), type := 2, pos := "l08_msg.go:63", after := #[⟨6, .data⟩], guard := none } ?_
  refine tk 8 { dst := some 15, op := Op.binOp BinOp.neq 2 (.tmp 10) (.tmp 14) 2, type := 4, pos := "l08_msg.go:63", after := #[⟨3, .data⟩, ⟨7, .data⟩], guard := none } ?_
  rcases g0 : (m.kind != n.kind) with _ | _
  · refine tk 9 { dst := some 16, op := Op.move (.tmp 15), type := 4, pos := "l08_msg.go:63", after := #[⟨8, .data⟩], guard := none } ?_
    refine tk 10 { dst := some 17, op := Op.move (.tmp 0), type := 97, pos := "l08_msg.go:63", after := #[⟨9, .guard⟩], guard := some (9, false) } ?_
    refine tk 11 { dst := some 18, op := Op.nilCheck (.tmp 17), type := 0, pos := "l08_msg.go:63", after := #[⟨10, .data⟩, ⟨9, .guard⟩], guard := some (9, false) } ?_
    refine tk 12 { dst := some 19, op := Op.fieldAddr 40 (.tmp 18) 1, type := 0, pos := "l08_msg.go:63", after := #[⟨11, .data⟩, ⟨9, .guard⟩], guard := some (9, false) } ?_
    refine tk 13 { dst := some 20, op := Op.load 2 (.tmp 19), type := 2, pos := "l08_msg.go:63", after := #[⟨12, .data⟩, ⟨9, .guard⟩], guard := some (9, false) } ?_
    refine tk 14 { dst := some 21, op := Op.move (.tmp 1), type := 97, pos := "l08_msg.go:63", after := #[⟨9, .guard⟩], guard := some (9, false) } ?_
    refine tk 15 { dst := some 22, op := Op.nilCheck (.tmp 21), type := 0, pos := "l08_msg.go:63", after := #[⟨14, .data⟩, ⟨9, .guard⟩], guard := some (9, false) } ?_
    refine tk 16 { dst := some 23, op := Op.fieldAddr 40 (.tmp 22) 1, type := 0, pos := "l08_msg.go:63", after := #[⟨15, .data⟩, ⟨9, .guard⟩], guard := some (9, false) } ?_
    refine tk 17 { dst := some 24, op := Op.load 2 (.tmp 23), type := 2, pos := "l08_msg.go:63", after := #[⟨16, .data⟩, ⟨9, .guard⟩], guard := some (9, false) } ?_
    refine tk 18 { dst := some 25, op := Op.binOp BinOp.neq 2 (.tmp 20) (.tmp 24) 2, type := 4, pos := "l08_msg.go:63", after := #[⟨13, .data⟩, ⟨17, .data⟩, ⟨9, .guard⟩], guard := some (9, false) } ?_
    rcases g1 : (m.view != n.view) with _ | _
    · refine tk 19 { dst := some 26, op := Op.pick (.tmp 16) (Operand.const (Value.bool true)) (.tmp 25), type := 4, pos := "l08_msg.go:63", after := #[⟨9, .data⟩, ⟨18, .data⟩], guard := none } ?_
      refine tk 20 { dst := some 27, op := Op.move (.tmp 26), type := 4, pos := "l08_msg.go:63", after := #[⟨19, .data⟩, ⟨9, .chain⟩], guard := none } ?_
      refine tk 21 { dst := some 28, op := Op.move (.tmp 0), type := 97, pos := "l08_msg.go:63", after := #[⟨20, .guard⟩], guard := some (20, false) } ?_
      refine tk 22 { dst := some 29, op := Op.nilCheck (.tmp 28), type := 0, pos := "l08_msg.go:63", after := #[⟨21, .data⟩, ⟨20, .guard⟩], guard := some (20, false) } ?_
      refine tk 23 { dst := some 30, op := Op.fieldAddr 40 (.tmp 29) 2, type := 0, pos := "l08_msg.go:63", after := #[⟨22, .data⟩, ⟨20, .guard⟩], guard := some (20, false) } ?_
      refine tk 24 { dst := some 31, op := Op.load 2 (.tmp 30), type := 2, pos := "l08_msg.go:63", after := #[⟨23, .data⟩, ⟨20, .guard⟩], guard := some (20, false) } ?_
      refine tk 25 { dst := some 32, op := Op.move (.tmp 1), type := 97, pos := "l08_msg.go:63", after := #[⟨20, .guard⟩], guard := some (20, false) } ?_
      refine tk 26 { dst := some 33, op := Op.nilCheck (.tmp 32), type := 0, pos := "l08_msg.go:63", after := #[⟨25, .data⟩, ⟨20, .guard⟩], guard := some (20, false) } ?_
      refine tk 27 { dst := some 34, op := Op.fieldAddr 40 (.tmp 33) 2, type := 0, pos := "l08_msg.go:63", after := #[⟨26, .data⟩, ⟨20, .guard⟩], guard := some (20, false) } ?_
      refine tk 28 { dst := some 35, op := Op.load 2 (.tmp 34), type := 2, pos := "l08_msg.go:63", after := #[⟨27, .data⟩, ⟨20, .guard⟩], guard := some (20, false) } ?_
      refine tk 29 { dst := some 36, op := Op.binOp BinOp.neq 2 (.tmp 31) (.tmp 35) 2, type := 4, pos := "l08_msg.go:63", after := #[⟨24, .data⟩, ⟨28, .data⟩, ⟨20, .guard⟩], guard := some (20, false) } ?_
      rcases g2 : (m.from_ != n.from_) with _ | _
      · refine tk 30 { dst := some 37, op := Op.pick (.tmp 27) (Operand.const (Value.bool true)) (.tmp 36), type := 4, pos := "l08_msg.go:63", after := #[⟨20, .data⟩, ⟨29, .data⟩], guard := none } ?_
        refine tk 31 { dst := some 38, op := Op.move (.tmp 37), type := 4, pos := "l08_msg.go:63", after := #[⟨30, .data⟩, ⟨20, .chain⟩], guard := none } ?_
        refine tk 32 { dst := some 39, op := Op.move (.tmp 0), type := 97, pos := "l08_msg.go:63", after := #[⟨31, .guard⟩], guard := some (31, false) } ?_
        refine tk 33 { dst := some 40, op := Op.nilCheck (.tmp 39), type := 0, pos := "l08_msg.go:63", after := #[⟨32, .data⟩, ⟨31, .guard⟩], guard := some (31, false) } ?_
        refine tk 34 { dst := some 41, op := Op.fieldAddr 40 (.tmp 40) 3, type := 0, pos := "l08_msg.go:63", after := #[⟨33, .data⟩, ⟨31, .guard⟩], guard := some (31, false) } ?_
        refine tk 35 { dst := some 42, op := Op.load 2 (.tmp 41), type := 2, pos := "l08_msg.go:63", after := #[⟨34, .data⟩, ⟨31, .guard⟩], guard := some (31, false) } ?_
        refine tk 36 { dst := some 43, op := Op.move (.tmp 1), type := 97, pos := "l08_msg.go:63", after := #[⟨31, .guard⟩], guard := some (31, false) } ?_
        refine tk 37 { dst := some 44, op := Op.nilCheck (.tmp 43), type := 0, pos := "l08_msg.go:63", after := #[⟨36, .data⟩, ⟨31, .guard⟩], guard := some (31, false) } ?_
        refine tk 38 { dst := some 45, op := Op.fieldAddr 40 (.tmp 44) 3, type := 0, pos := "l08_msg.go:63", after := #[⟨37, .data⟩, ⟨31, .guard⟩], guard := some (31, false) } ?_
        refine tk 39 { dst := some 46, op := Op.load 2 (.tmp 45), type := 2, pos := "l08_msg.go:63", after := #[⟨38, .data⟩, ⟨31, .guard⟩], guard := some (31, false) } ?_
        refine tk 40 { dst := some 47, op := Op.binOp BinOp.neq 2 (.tmp 42) (.tmp 46) 2, type := 4, pos := "l08_msg.go:63", after := #[⟨35, .data⟩, ⟨39, .data⟩, ⟨31, .guard⟩], guard := some (31, false) } ?_
        rcases g3 : (m.slot != n.slot) with _ | _
        · refine tk 41 { dst := some 48, op := Op.pick (.tmp 38) (Operand.const (Value.bool true)) (.tmp 47), type := 4, pos := "l08_msg.go:63", after := #[⟨31, .data⟩, ⟨40, .data⟩], guard := none } ?_
          refine tk 42 { dst := some 49, op := Op.move (.tmp 48), type := 4, pos := "l08_msg.go:63", after := #[⟨41, .data⟩, ⟨31, .chain⟩], guard := none } ?_
          refine tk 43 { dst := some 50, op := Op.move (.tmp 0), type := 97, pos := "l08_msg.go:63", after := #[⟨42, .guard⟩], guard := some (42, false) } ?_
          refine tk 44 { dst := some 51, op := Op.nilCheck (.tmp 50), type := 0, pos := "l08_msg.go:63", after := #[⟨43, .data⟩, ⟨42, .guard⟩], guard := some (42, false) } ?_
          refine tk 45 { dst := some 52, op := Op.fieldAddr 40 (.tmp 51) 4, type := 0, pos := "l08_msg.go:63", after := #[⟨44, .data⟩, ⟨42, .guard⟩], guard := some (42, false) } ?_
          refine tk 46 { dst := some 53, op := Op.load 2 (.tmp 52), type := 2, pos := "l08_msg.go:63", after := #[⟨45, .data⟩, ⟨42, .guard⟩], guard := some (42, false) } ?_
          refine tk 47 { dst := some 54, op := Op.move (.tmp 1), type := 97, pos := "l08_msg.go:63", after := #[⟨42, .guard⟩], guard := some (42, false) } ?_
          refine tk 48 { dst := some 55, op := Op.nilCheck (.tmp 54), type := 0, pos := "l08_msg.go:63", after := #[⟨47, .data⟩, ⟨42, .guard⟩], guard := some (42, false) } ?_
          refine tk 49 { dst := some 56, op := Op.fieldAddr 40 (.tmp 55) 4, type := 0, pos := "l08_msg.go:63", after := #[⟨48, .data⟩, ⟨42, .guard⟩], guard := some (42, false) } ?_
          refine tk 50 { dst := some 57, op := Op.load 2 (.tmp 56), type := 2, pos := "l08_msg.go:63", after := #[⟨49, .data⟩, ⟨42, .guard⟩], guard := some (42, false) } ?_
          refine tk 51 { dst := some 58, op := Op.binOp BinOp.neq 2 (.tmp 53) (.tmp 57) 2, type := 4, pos := "l08_msg.go:63", after := #[⟨46, .data⟩, ⟨50, .data⟩, ⟨42, .guard⟩], guard := some (42, false) } ?_
          rcases g4 : (m.value != n.value) with _ | _
          · refine tk 52 { dst := some 59, op := Op.pick (.tmp 49) (Operand.const (Value.bool true)) (.tmp 58), type := 4, pos := "l08_msg.go:63", after := #[⟨42, .data⟩, ⟨51, .data⟩], guard := none } ?_
            refine tk 53 { dst := some 60, op := Op.move (.tmp 59), type := 4, pos := "l08_msg.go:63", after := #[⟨52, .data⟩, ⟨42, .chain⟩], guard := none } ?_
            refine tk 54 { dst := some 61, op := Op.move (.tmp 0), type := 97, pos := "l08_msg.go:63", after := #[⟨53, .guard⟩], guard := some (53, false) } ?_
            refine tk 55 { dst := some 62, op := Op.nilCheck (.tmp 61), type := 0, pos := "l08_msg.go:63", after := #[⟨54, .data⟩, ⟨53, .guard⟩], guard := some (53, false) } ?_
            refine tk 56 { dst := some 63, op := Op.fieldAddr 40 (.tmp 62) 5, type := 0, pos := "l08_msg.go:63", after := #[⟨55, .data⟩, ⟨53, .guard⟩], guard := some (53, false) } ?_
            refine tk 57 { dst := some 64, op := Op.load 37 (.tmp 63), type := 37, pos := "l08_msg.go:63", after := #[⟨56, .data⟩, ⟨53, .guard⟩], guard := some (53, false) } ?_
            refine tk 58 { dst := some 65, op := Op.call { callee := Callee.builtin Builtin.len, args := #[.tmp 64], argTypes := #[37] }, type := 3, pos := "l08_msg.go:63", after := #[⟨57, .data⟩, ⟨53, .guard⟩], guard := some (53, false) } ?_
            refine tk 59 { dst := some 66, op := Op.move (.tmp 1), type := 97, pos := "l08_msg.go:63", after := #[⟨53, .guard⟩], guard := some (53, false) } ?_
            refine tk 60 { dst := some 67, op := Op.nilCheck (.tmp 66), type := 0, pos := "l08_msg.go:63", after := #[⟨59, .data⟩, ⟨53, .guard⟩], guard := some (53, false) } ?_
            refine tk 61 { dst := some 68, op := Op.fieldAddr 40 (.tmp 67) 5, type := 0, pos := "l08_msg.go:63", after := #[⟨60, .data⟩, ⟨53, .guard⟩], guard := some (53, false) } ?_
            refine tk 62 { dst := some 69, op := Op.load 37 (.tmp 68), type := 37, pos := "l08_msg.go:63", after := #[⟨61, .data⟩, ⟨53, .guard⟩], guard := some (53, false) } ?_
            refine tk 63 { dst := some 70, op := Op.call { callee := Callee.builtin Builtin.len, args := #[.tmp 69], argTypes := #[37] }, type := 3, pos := "l08_msg.go:63", after := #[⟨62, .data⟩, ⟨53, .guard⟩], guard := some (53, false) } ?_
            refine tk 64 { dst := some 71, op := Op.binOp BinOp.neq 3 (.tmp 65) (.tmp 70) 3, type := 4, pos := "l08_msg.go:63", after := #[⟨58, .data⟩, ⟨63, .data⟩, ⟨53, .guard⟩], guard := some (53, false) } ?_
            rcases g5 : ((m.certs.length : Int) != (n.certs.length : Int)) with _ | _
            · refine tk 65 { dst := some 72, op := Op.pick (.tmp 60) (Operand.const (Value.bool true)) (.tmp 71), type := 4, pos := "l08_msg.go:63", after := #[⟨53, .data⟩, ⟨64, .data⟩], guard := none } ?_
              refine tk 66 { dst := some 73, op := Op.move (.tmp 72), type := 4, pos := "l08_msg.go:63", after := #[⟨65, .data⟩, ⟨53, .chain⟩], guard := none } ?_
              refine tk 67 { dst := some 74, op := Op.move (.tmp 0), type := 97, pos := "l08_msg.go:63", after := #[⟨66, .guard⟩], guard := some (66, false) } ?_
              refine tk 68 { dst := some 75, op := Op.nilCheck (.tmp 74), type := 0, pos := "l08_msg.go:63", after := #[⟨67, .data⟩, ⟨66, .guard⟩], guard := some (66, false) } ?_
              refine tk 69 { dst := some 76, op := Op.fieldAddr 40 (.tmp 75) 6, type := 0, pos := "l08_msg.go:63", after := #[⟨68, .data⟩, ⟨66, .guard⟩], guard := some (66, false) } ?_
              refine tk 70 { dst := some 77, op := Op.load 38 (.tmp 76), type := 38, pos := "l08_msg.go:63", after := #[⟨69, .data⟩, ⟨66, .guard⟩], guard := some (66, false) } ?_
              refine tk 71 { dst := some 78, op := Op.call { callee := Callee.builtin Builtin.len, args := #[.tmp 77], argTypes := #[38] }, type := 3, pos := "l08_msg.go:63", after := #[⟨70, .data⟩, ⟨66, .guard⟩], guard := some (66, false) } ?_
              refine tk 72 { dst := some 79, op := Op.move (.tmp 1), type := 97, pos := "l08_msg.go:63", after := #[⟨66, .guard⟩], guard := some (66, false) } ?_
              refine tk 73 { dst := some 80, op := Op.nilCheck (.tmp 79), type := 0, pos := "l08_msg.go:63", after := #[⟨72, .data⟩, ⟨66, .guard⟩], guard := some (66, false) } ?_
              refine tk 74 { dst := some 81, op := Op.fieldAddr 40 (.tmp 80) 6, type := 0, pos := "l08_msg.go:63", after := #[⟨73, .data⟩, ⟨66, .guard⟩], guard := some (66, false) } ?_
              refine tk 75 { dst := some 82, op := Op.load 38 (.tmp 81), type := 38, pos := "l08_msg.go:63", after := #[⟨74, .data⟩, ⟨66, .guard⟩], guard := some (66, false) } ?_
              refine tk 76 { dst := some 83, op := Op.call { callee := Callee.builtin Builtin.len, args := #[.tmp 82], argTypes := #[38] }, type := 3, pos := "l08_msg.go:63", after := #[⟨75, .data⟩, ⟨66, .guard⟩], guard := some (66, false) } ?_
              refine tk 77 { dst := some 84, op := Op.binOp BinOp.neq 3 (.tmp 78) (.tmp 83) 3, type := 4, pos := "l08_msg.go:63", after := #[⟨71, .data⟩, ⟨76, .data⟩, ⟨66, .guard⟩], guard := some (66, false) } ?_
              rcases g6 : ((m.refs.length : Int) != (n.refs.length : Int)) with _ | _
              · refine tk 78 { dst := some 85, op := Op.pick (.tmp 73) (Operand.const (Value.bool true)) (.tmp 84), type := 4, pos := "l08_msg.go:63", after := #[⟨66, .data⟩, ⟨77, .data⟩], guard := none } ?_
                refine wpAnyH_done (by kernel_rfl) ?_ _
                have HQ : Hid (∀ b, Msg.same m.certs n.certs = true → Msg.same m.refs n.refs = b → R = b) := fun b h5 h6 => HR.out.symm.trans (Msg.sameM_7 (by simpa using g0) (by simpa using g1) (by simpa using g2) (by simpa using g3) (by simpa using g4) h5 b h6)
                have HQ5 : Hid (Msg.same m.certs n.certs = false → R = false) := fun h => HR.out.symm.trans (Msg.sameM_5 h)
                have HQ6 : Hid (Msg.same m.refs n.refs = false → R = false) := fun h => HR.out.symm.trans (Msg.sameM_6 h)
                have HL5 : Hid (m.certs.length = n.certs.length) := by have h := g5; simp at h; show m.certs.length = n.certs.length; omega
                have HL6 : Hid (m.refs.length = n.refs.length) := by have h := g6; simp at h; show m.refs.length = n.refs.length; omega
                clear g0 g1 g2 g3 g4 g5 g6 hHeld
                go_wp2
                go_loopw [5] (fun i wr => ∃ (k : Nat), k ≤ m.certs.length ∧ i = .int .i64 k ∧ Hid (∀ j, j < k → m.certs[j]? = n.certs[j]?) ∧ Hid (Ext w wr)) (fun i _ => m.certs.length - (intOf i).toNat)
                case atStart => exact ⟨0, Nat.zero_le _, rfl, fun j h => by omega, (Ext.refl _).drew⟩
                case round =>
                  obtain ⟨k, hk, rfl, HA, HE⟩ := hrel
                  obtain ⟨r5, r6, s5, s6⟩ := HW.out _ HE.out
                  by_cases hlt : k < m.certs.length
                  · obtain ⟨z, hzk⟩ : ∃ z, m.certs[k]? = some z := ⟨_, List.getElem?_eq_getElem hlt⟩
                    obtain ⟨y, hyk⟩ : ∃ y, n.certs[k]? = some y := ⟨_, List.getElem?_eq_getElem (by have := HL5.out; omega)⟩
                    obtain ⟨b1, off, rfl, hb, hN⟩ := HX5.out (by omega)
                    obtain ⟨b1', off', rfl, hb', hN'⟩ := HY5.out (by have := HL5.out; omega)
                    obtain ⟨d0, d1, d2⟩ := hN.ext hb HE.out k z hzk
                    obtain ⟨e0, e1, e2⟩ := hN'.ext hb' HE.out k y hyk
                    have hky : k < n.certs.length := by have := HL5.out; omega
                    have HZ : Hid (m.certs[k]? = some z ∧ n.certs[k]? = some y) := ⟨hzk, hyk⟩
                    clear hzk hyk hN hN'
                    by_cases g0 : z.slot = y.slot
                    · by_cases g1 : z.view = y.view
                      · by_cases g2 : z.value = y.value
                        · have HA2 : Hid (∀ j, j < k + 1 → m.certs[j]? = n.certs[j]?) := by
                            intro j hj
                            by_cases hjk : j = k
                            · subst hjk; rw [HZ.out.1, HZ.out.2, Msg.ct_eq g0 g1 g2]
                            · exact HA.out j (by omega)
                          go_wp2
                          go_region
                          all_goals
                            go_wp2
                            exact ⟨⟨k + 1, by omega, by go_num, HA2, HE.out.drew⟩, by simp [intOf]; omega⟩
                        · have HF : Hid (Msg.same m.certs n.certs = false) := Msg.same_ne HZ.out.1 HZ.out.2 (by rintro rfl; exact g2 rfl)
                          go_wp2
                          go_region
                          all_goals
                            go_wp2
                            go_ret
                            exact ⟨ret_bool (HQ5.out HF.out).symm, HE.out.drew⟩
                      · have HF : Hid (Msg.same m.certs n.certs = false) := Msg.same_ne HZ.out.1 HZ.out.2 (by rintro rfl; exact g1 rfl)
                        go_wp2
                        go_region
                        all_goals
                          go_wp2
                          go_ret
                          exact ⟨ret_bool (HQ5.out HF.out).symm, HE.out.drew⟩
                    · have HF : Hid (Msg.same m.certs n.certs = false) := Msg.same_ne HZ.out.1 HZ.out.2 (by rintro rfl; exact g0 rfl)
                      go_wp2
                      go_region
                      all_goals
                        go_wp2
                        go_ret
                        exact ⟨ret_bool (HQ5.out HF.out).symm, HE.out.drew⟩
                  · have HCs : Hid (Msg.same m.certs n.certs = true) := Msg.same_all HL5.out (fun j hj => HA.out j (by omega))
                    have HE5 : Hid (Ext w wr) := HE
                    clear HA HE r5 r6 s5 s6
                    obtain ⟨r5, r6, s5, s6⟩ := HW.out _ HE5.out
                    go_wp2
                    clear r5 r6 s5 s6
                    generalize hwr : wr = w5 at *
                    clear hwr
                    go_loopw [6] (fun i wr => ∃ (k : Nat), k ≤ m.refs.length ∧ i = .int .i64 k ∧ Hid (∀ j, j < k → m.refs[j]? = n.refs[j]?) ∧ Hid (Ext w wr)) (fun i _ => m.refs.length - (intOf i).toNat)
                    case atStart => exact ⟨0, Nat.zero_le _, rfl, fun j h => by omega, HE5.out⟩
                    case round =>
                      obtain ⟨k, hk, rfl, HA, HE⟩ := hrel
                      obtain ⟨r5, r6, s5, s6⟩ := HW.out _ HE.out
                      by_cases hlt : k < m.refs.length
                      · obtain ⟨z, hzk⟩ : ∃ z, m.refs[k]? = some z := ⟨_, List.getElem?_eq_getElem hlt⟩
                        obtain ⟨y, hyk⟩ : ∃ y, n.refs[k]? = some y := ⟨_, List.getElem?_eq_getElem (by have := HL6.out; omega)⟩
                        obtain ⟨b1, off, rfl, hb, hN⟩ := HX6.out (by omega)
                        obtain ⟨b1', off', rfl, hb', hN'⟩ := HY6.out (by have := HL6.out; omega)
                        have d0 := hN.ext hb HE.out k z hzk
                        have e0 := hN'.ext hb' HE.out k y hyk
                        have hky : k < n.refs.length := by have := HL6.out; omega
                        have HZ : Hid (m.refs[k]? = some z ∧ n.refs[k]? = some y) := ⟨hzk, hyk⟩
                        clear hzk hyk hN hN'
                        by_cases g0 : z = y
                        · have HA2 : Hid (∀ j, j < k + 1 → m.refs[j]? = n.refs[j]?) := by
                            intro j hj
                            by_cases hjk : j = k
                            · subst hjk; rw [HZ.out.1, HZ.out.2, g0]
                            · exact HA.out j (by omega)
                          go_wp2
                          go_region
                          all_goals
                            go_wp2
                            exact ⟨⟨k + 1, by omega, by go_num, HA2, HE.out.drew⟩, by simp [intOf]; omega⟩
                        · have HF : Hid (Msg.same m.refs n.refs = false) := Msg.same_ne HZ.out.1 HZ.out.2 g0
                          go_wp2
                          go_region
                          all_goals
                            go_wp2
                            go_ret
                            exact ⟨ret_bool (HQ6.out HF.out).symm, HE.out.drew⟩
                      · have HF : Hid (R = true) := HQ.out true HCs.out (Msg.same_all HL6.out (fun j hj => HA.out j (by omega)))
                        go_wp2
                        go_ret
                        exact ⟨ret_bool HF.out.symm, HE.out⟩
              · refine tk 78 { dst := some 85, op := Op.pick (.tmp 73) (Operand.const (Value.bool true)) (.tmp 84), type := 4, pos := "l08_msg.go:63", after := #[⟨66, .data⟩, ⟨77, .data⟩], guard := none } ?_
                refine wpAnyH_done (by kernel_rfl) ?_ _
                have HF : R = false := HR.out.symm.trans (Msg.sameM_6 (Msg.same_len (by intro h; rw [h] at g6; simp at g6)))
                subst HF
                go_wp2
                go_ret
                exact ⟨rfl, (Ext.refl _).drew⟩
            · refine tk 65 { dst := some 72, op := Op.pick (.tmp 60) (Operand.const (Value.bool true)) (.tmp 71), type := 4, pos := "l08_msg.go:63", after := #[⟨53, .data⟩, ⟨64, .data⟩], guard := none } ?_
              refine tk 66 { dst := some 73, op := Op.move (.tmp 72), type := 4, pos := "l08_msg.go:63", after := #[⟨65, .data⟩, ⟨53, .chain⟩], guard := none } ?_
              refine tn 67 { dst := some 74, op := Op.move (.tmp 0), type := 97, pos := "l08_msg.go:63", after := #[⟨66, .guard⟩], guard := some (66, false) } ?_
              refine tn 68 { dst := some 75, op := Op.nilCheck (.tmp 74), type := 0, pos := "l08_msg.go:63", after := #[⟨67, .data⟩, ⟨66, .guard⟩], guard := some (66, false) } ?_
              refine tn 69 { dst := some 76, op := Op.fieldAddr 40 (.tmp 75) 6, type := 0, pos := "l08_msg.go:63", after := #[⟨68, .data⟩, ⟨66, .guard⟩], guard := some (66, false) } ?_
              refine tn 70 { dst := some 77, op := Op.load 38 (.tmp 76), type := 38, pos := "l08_msg.go:63", after := #[⟨69, .data⟩, ⟨66, .guard⟩], guard := some (66, false) } ?_
              refine tn 71 { dst := some 78, op := Op.call { callee := Callee.builtin Builtin.len, args := #[.tmp 77], argTypes := #[38] }, type := 3, pos := "l08_msg.go:63", after := #[⟨70, .data⟩, ⟨66, .guard⟩], guard := some (66, false) } ?_
              refine tn 72 { dst := some 79, op := Op.move (.tmp 1), type := 97, pos := "l08_msg.go:63", after := #[⟨66, .guard⟩], guard := some (66, false) } ?_
              refine tn 73 { dst := some 80, op := Op.nilCheck (.tmp 79), type := 0, pos := "l08_msg.go:63", after := #[⟨72, .data⟩, ⟨66, .guard⟩], guard := some (66, false) } ?_
              refine tn 74 { dst := some 81, op := Op.fieldAddr 40 (.tmp 80) 6, type := 0, pos := "l08_msg.go:63", after := #[⟨73, .data⟩, ⟨66, .guard⟩], guard := some (66, false) } ?_
              refine tn 75 { dst := some 82, op := Op.load 38 (.tmp 81), type := 38, pos := "l08_msg.go:63", after := #[⟨74, .data⟩, ⟨66, .guard⟩], guard := some (66, false) } ?_
              refine tn 76 { dst := some 83, op := Op.call { callee := Callee.builtin Builtin.len, args := #[.tmp 82], argTypes := #[38] }, type := 3, pos := "l08_msg.go:63", after := #[⟨75, .data⟩, ⟨66, .guard⟩], guard := some (66, false) } ?_
              refine tn 77 { dst := some 84, op := Op.binOp BinOp.neq 3 (.tmp 78) (.tmp 83) 3, type := 4, pos := "l08_msg.go:63", after := #[⟨71, .data⟩, ⟨76, .data⟩, ⟨66, .guard⟩], guard := some (66, false) } ?_
              refine tk 78 { dst := some 85, op := Op.pick (.tmp 73) (Operand.const (Value.bool true)) (.tmp 84), type := 4, pos := "l08_msg.go:63", after := #[⟨66, .data⟩, ⟨77, .data⟩], guard := none } ?_
              refine wpAnyH_done (by kernel_rfl) ?_ _
              have HF : R = false := HR.out.symm.trans (Msg.sameM_5 (Msg.same_len (by intro h; rw [h] at g5; simp at g5)))
              subst HF
              go_wp2
              go_ret
              exact ⟨rfl, (Ext.refl _).drew⟩
          · refine tk 52 { dst := some 59, op := Op.pick (.tmp 49) (Operand.const (Value.bool true)) (.tmp 58), type := 4, pos := "l08_msg.go:63", after := #[⟨42, .data⟩, ⟨51, .data⟩], guard := none } ?_
            refine tk 53 { dst := some 60, op := Op.move (.tmp 59), type := 4, pos := "l08_msg.go:63", after := #[⟨52, .data⟩, ⟨42, .chain⟩], guard := none } ?_
            refine tn 54 { dst := some 61, op := Op.move (.tmp 0), type := 97, pos := "l08_msg.go:63", after := #[⟨53, .guard⟩], guard := some (53, false) } ?_
            refine tn 55 { dst := some 62, op := Op.nilCheck (.tmp 61), type := 0, pos := "l08_msg.go:63", after := #[⟨54, .data⟩, ⟨53, .guard⟩], guard := some (53, false) } ?_
            refine tn 56 { dst := some 63, op := Op.fieldAddr 40 (.tmp 62) 5, type := 0, pos := "l08_msg.go:63", after := #[⟨55, .data⟩, ⟨53, .guard⟩], guard := some (53, false) } ?_
            refine tn 57 { dst := some 64, op := Op.load 37 (.tmp 63), type := 37, pos := "l08_msg.go:63", after := #[⟨56, .data⟩, ⟨53, .guard⟩], guard := some (53, false) } ?_
            refine tn 58 { dst := some 65, op := Op.call { callee := Callee.builtin Builtin.len, args := #[.tmp 64], argTypes := #[37] }, type := 3, pos := "l08_msg.go:63", after := #[⟨57, .data⟩, ⟨53, .guard⟩], guard := some (53, false) } ?_
            refine tn 59 { dst := some 66, op := Op.move (.tmp 1), type := 97, pos := "l08_msg.go:63", after := #[⟨53, .guard⟩], guard := some (53, false) } ?_
            refine tn 60 { dst := some 67, op := Op.nilCheck (.tmp 66), type := 0, pos := "l08_msg.go:63", after := #[⟨59, .data⟩, ⟨53, .guard⟩], guard := some (53, false) } ?_
            refine tn 61 { dst := some 68, op := Op.fieldAddr 40 (.tmp 67) 5, type := 0, pos := "l08_msg.go:63", after := #[⟨60, .data⟩, ⟨53, .guard⟩], guard := some (53, false) } ?_
            refine tn 62 { dst := some 69, op := Op.load 37 (.tmp 68), type := 37, pos := "l08_msg.go:63", after := #[⟨61, .data⟩, ⟨53, .guard⟩], guard := some (53, false) } ?_
            refine tn 63 { dst := some 70, op := Op.call { callee := Callee.builtin Builtin.len, args := #[.tmp 69], argTypes := #[37] }, type := 3, pos := "l08_msg.go:63", after := #[⟨62, .data⟩, ⟨53, .guard⟩], guard := some (53, false) } ?_
            refine tn 64 { dst := some 71, op := Op.binOp BinOp.neq 3 (.tmp 65) (.tmp 70) 3, type := 4, pos := "l08_msg.go:63", after := #[⟨58, .data⟩, ⟨63, .data⟩, ⟨53, .guard⟩], guard := some (53, false) } ?_
            refine tk 65 { dst := some 72, op := Op.pick (.tmp 60) (Operand.const (Value.bool true)) (.tmp 71), type := 4, pos := "l08_msg.go:63", after := #[⟨53, .data⟩, ⟨64, .data⟩], guard := none } ?_
            refine tk 66 { dst := some 73, op := Op.move (.tmp 72), type := 4, pos := "l08_msg.go:63", after := #[⟨65, .data⟩, ⟨53, .chain⟩], guard := none } ?_
            refine tn 67 { dst := some 74, op := Op.move (.tmp 0), type := 97, pos := "l08_msg.go:63", after := #[⟨66, .guard⟩], guard := some (66, false) } ?_
            refine tn 68 { dst := some 75, op := Op.nilCheck (.tmp 74), type := 0, pos := "l08_msg.go:63", after := #[⟨67, .data⟩, ⟨66, .guard⟩], guard := some (66, false) } ?_
            refine tn 69 { dst := some 76, op := Op.fieldAddr 40 (.tmp 75) 6, type := 0, pos := "l08_msg.go:63", after := #[⟨68, .data⟩, ⟨66, .guard⟩], guard := some (66, false) } ?_
            refine tn 70 { dst := some 77, op := Op.load 38 (.tmp 76), type := 38, pos := "l08_msg.go:63", after := #[⟨69, .data⟩, ⟨66, .guard⟩], guard := some (66, false) } ?_
            refine tn 71 { dst := some 78, op := Op.call { callee := Callee.builtin Builtin.len, args := #[.tmp 77], argTypes := #[38] }, type := 3, pos := "l08_msg.go:63", after := #[⟨70, .data⟩, ⟨66, .guard⟩], guard := some (66, false) } ?_
            refine tn 72 { dst := some 79, op := Op.move (.tmp 1), type := 97, pos := "l08_msg.go:63", after := #[⟨66, .guard⟩], guard := some (66, false) } ?_
            refine tn 73 { dst := some 80, op := Op.nilCheck (.tmp 79), type := 0, pos := "l08_msg.go:63", after := #[⟨72, .data⟩, ⟨66, .guard⟩], guard := some (66, false) } ?_
            refine tn 74 { dst := some 81, op := Op.fieldAddr 40 (.tmp 80) 6, type := 0, pos := "l08_msg.go:63", after := #[⟨73, .data⟩, ⟨66, .guard⟩], guard := some (66, false) } ?_
            refine tn 75 { dst := some 82, op := Op.load 38 (.tmp 81), type := 38, pos := "l08_msg.go:63", after := #[⟨74, .data⟩, ⟨66, .guard⟩], guard := some (66, false) } ?_
            refine tn 76 { dst := some 83, op := Op.call { callee := Callee.builtin Builtin.len, args := #[.tmp 82], argTypes := #[38] }, type := 3, pos := "l08_msg.go:63", after := #[⟨75, .data⟩, ⟨66, .guard⟩], guard := some (66, false) } ?_
            refine tn 77 { dst := some 84, op := Op.binOp BinOp.neq 3 (.tmp 78) (.tmp 83) 3, type := 4, pos := "l08_msg.go:63", after := #[⟨71, .data⟩, ⟨76, .data⟩, ⟨66, .guard⟩], guard := some (66, false) } ?_
            refine tk 78 { dst := some 85, op := Op.pick (.tmp 73) (Operand.const (Value.bool true)) (.tmp 84), type := 4, pos := "l08_msg.go:63", after := #[⟨66, .data⟩, ⟨77, .data⟩], guard := none } ?_
            refine wpAnyH_done (by kernel_rfl) ?_ _
            have HF : R = false := HR.out.symm.trans (Msg.sameM_4 (by simpa using g4))
            subst HF
            go_wp2
            go_ret
            exact ⟨rfl, (Ext.refl _).drew⟩
        · refine tk 41 { dst := some 48, op := Op.pick (.tmp 38) (Operand.const (Value.bool true)) (.tmp 47), type := 4, pos := "l08_msg.go:63", after := #[⟨31, .data⟩, ⟨40, .data⟩], guard := none } ?_
          refine tk 42 { dst := some 49, op := Op.move (.tmp 48), type := 4, pos := "l08_msg.go:63", after := #[⟨41, .data⟩, ⟨31, .chain⟩], guard := none } ?_
          refine tn 43 { dst := some 50, op := Op.move (.tmp 0), type := 97, pos := "l08_msg.go:63", after := #[⟨42, .guard⟩], guard := some (42, false) } ?_
          refine tn 44 { dst := some 51, op := Op.nilCheck (.tmp 50), type := 0, pos := "l08_msg.go:63", after := #[⟨43, .data⟩, ⟨42, .guard⟩], guard := some (42, false) } ?_
          refine tn 45 { dst := some 52, op := Op.fieldAddr 40 (.tmp 51) 4, type := 0, pos := "l08_msg.go:63", after := #[⟨44, .data⟩, ⟨42, .guard⟩], guard := some (42, false) } ?_
          refine tn 46 { dst := some 53, op := Op.load 2 (.tmp 52), type := 2, pos := "l08_msg.go:63", after := #[⟨45, .data⟩, ⟨42, .guard⟩], guard := some (42, false) } ?_
          refine tn 47 { dst := some 54, op := Op.move (.tmp 1), type := 97, pos := "l08_msg.go:63", after := #[⟨42, .guard⟩], guard := some (42, false) } ?_
          refine tn 48 { dst := some 55, op := Op.nilCheck (.tmp 54), type := 0, pos := "l08_msg.go:63", after := #[⟨47, .data⟩, ⟨42, .guard⟩], guard := some (42, false) } ?_
          refine tn 49 { dst := some 56, op := Op.fieldAddr 40 (.tmp 55) 4, type := 0, pos := "l08_msg.go:63", after := #[⟨48, .data⟩, ⟨42, .guard⟩], guard := some (42, false) } ?_
          refine tn 50 { dst := some 57, op := Op.load 2 (.tmp 56), type := 2, pos := "l08_msg.go:63", after := #[⟨49, .data⟩, ⟨42, .guard⟩], guard := some (42, false) } ?_
          refine tn 51 { dst := some 58, op := Op.binOp BinOp.neq 2 (.tmp 53) (.tmp 57) 2, type := 4, pos := "l08_msg.go:63", after := #[⟨46, .data⟩, ⟨50, .data⟩, ⟨42, .guard⟩], guard := some (42, false) } ?_
          refine tk 52 { dst := some 59, op := Op.pick (.tmp 49) (Operand.const (Value.bool true)) (.tmp 58), type := 4, pos := "l08_msg.go:63", after := #[⟨42, .data⟩, ⟨51, .data⟩], guard := none } ?_
          refine tk 53 { dst := some 60, op := Op.move (.tmp 59), type := 4, pos := "l08_msg.go:63", after := #[⟨52, .data⟩, ⟨42, .chain⟩], guard := none } ?_
          refine tn 54 { dst := some 61, op := Op.move (.tmp 0), type := 97, pos := "l08_msg.go:63", after := #[⟨53, .guard⟩], guard := some (53, false) } ?_
          refine tn 55 { dst := some 62, op := Op.nilCheck (.tmp 61), type := 0, pos := "l08_msg.go:63", after := #[⟨54, .data⟩, ⟨53, .guard⟩], guard := some (53, false) } ?_
          refine tn 56 { dst := some 63, op := Op.fieldAddr 40 (.tmp 62) 5, type := 0, pos := "l08_msg.go:63", after := #[⟨55, .data⟩, ⟨53, .guard⟩], guard := some (53, false) } ?_
          refine tn 57 { dst := some 64, op := Op.load 37 (.tmp 63), type := 37, pos := "l08_msg.go:63", after := #[⟨56, .data⟩, ⟨53, .guard⟩], guard := some (53, false) } ?_
          refine tn 58 { dst := some 65, op := Op.call { callee := Callee.builtin Builtin.len, args := #[.tmp 64], argTypes := #[37] }, type := 3, pos := "l08_msg.go:63", after := #[⟨57, .data⟩, ⟨53, .guard⟩], guard := some (53, false) } ?_
          refine tn 59 { dst := some 66, op := Op.move (.tmp 1), type := 97, pos := "l08_msg.go:63", after := #[⟨53, .guard⟩], guard := some (53, false) } ?_
          refine tn 60 { dst := some 67, op := Op.nilCheck (.tmp 66), type := 0, pos := "l08_msg.go:63", after := #[⟨59, .data⟩, ⟨53, .guard⟩], guard := some (53, false) } ?_
          refine tn 61 { dst := some 68, op := Op.fieldAddr 40 (.tmp 67) 5, type := 0, pos := "l08_msg.go:63", after := #[⟨60, .data⟩, ⟨53, .guard⟩], guard := some (53, false) } ?_
          refine tn 62 { dst := some 69, op := Op.load 37 (.tmp 68), type := 37, pos := "l08_msg.go:63", after := #[⟨61, .data⟩, ⟨53, .guard⟩], guard := some (53, false) } ?_
          refine tn 63 { dst := some 70, op := Op.call { callee := Callee.builtin Builtin.len, args := #[.tmp 69], argTypes := #[37] }, type := 3, pos := "l08_msg.go:63", after := #[⟨62, .data⟩, ⟨53, .guard⟩], guard := some (53, false) } ?_
          refine tn 64 { dst := some 71, op := Op.binOp BinOp.neq 3 (.tmp 65) (.tmp 70) 3, type := 4, pos := "l08_msg.go:63", after := #[⟨58, .data⟩, ⟨63, .data⟩, ⟨53, .guard⟩], guard := some (53, false) } ?_
          refine tk 65 { dst := some 72, op := Op.pick (.tmp 60) (Operand.const (Value.bool true)) (.tmp 71), type := 4, pos := "l08_msg.go:63", after := #[⟨53, .data⟩, ⟨64, .data⟩], guard := none } ?_
          refine tk 66 { dst := some 73, op := Op.move (.tmp 72), type := 4, pos := "l08_msg.go:63", after := #[⟨65, .data⟩, ⟨53, .chain⟩], guard := none } ?_
          refine tn 67 { dst := some 74, op := Op.move (.tmp 0), type := 97, pos := "l08_msg.go:63", after := #[⟨66, .guard⟩], guard := some (66, false) } ?_
          refine tn 68 { dst := some 75, op := Op.nilCheck (.tmp 74), type := 0, pos := "l08_msg.go:63", after := #[⟨67, .data⟩, ⟨66, .guard⟩], guard := some (66, false) } ?_
          refine tn 69 { dst := some 76, op := Op.fieldAddr 40 (.tmp 75) 6, type := 0, pos := "l08_msg.go:63", after := #[⟨68, .data⟩, ⟨66, .guard⟩], guard := some (66, false) } ?_
          refine tn 70 { dst := some 77, op := Op.load 38 (.tmp 76), type := 38, pos := "l08_msg.go:63", after := #[⟨69, .data⟩, ⟨66, .guard⟩], guard := some (66, false) } ?_
          refine tn 71 { dst := some 78, op := Op.call { callee := Callee.builtin Builtin.len, args := #[.tmp 77], argTypes := #[38] }, type := 3, pos := "l08_msg.go:63", after := #[⟨70, .data⟩, ⟨66, .guard⟩], guard := some (66, false) } ?_
          refine tn 72 { dst := some 79, op := Op.move (.tmp 1), type := 97, pos := "l08_msg.go:63", after := #[⟨66, .guard⟩], guard := some (66, false) } ?_
          refine tn 73 { dst := some 80, op := Op.nilCheck (.tmp 79), type := 0, pos := "l08_msg.go:63", after := #[⟨72, .data⟩, ⟨66, .guard⟩], guard := some (66, false) } ?_
          refine tn 74 { dst := some 81, op := Op.fieldAddr 40 (.tmp 80) 6, type := 0, pos := "l08_msg.go:63", after := #[⟨73, .data⟩, ⟨66, .guard⟩], guard := some (66, false) } ?_
          refine tn 75 { dst := some 82, op := Op.load 38 (.tmp 81), type := 38, pos := "l08_msg.go:63", after := #[⟨74, .data⟩, ⟨66, .guard⟩], guard := some (66, false) } ?_
          refine tn 76 { dst := some 83, op := Op.call { callee := Callee.builtin Builtin.len, args := #[.tmp 82], argTypes := #[38] }, type := 3, pos := "l08_msg.go:63", after := #[⟨75, .data⟩, ⟨66, .guard⟩], guard := some (66, false) } ?_
          refine tn 77 { dst := some 84, op := Op.binOp BinOp.neq 3 (.tmp 78) (.tmp 83) 3, type := 4, pos := "l08_msg.go:63", after := #[⟨71, .data⟩, ⟨76, .data⟩, ⟨66, .guard⟩], guard := some (66, false) } ?_
          refine tk 78 { dst := some 85, op := Op.pick (.tmp 73) (Operand.const (Value.bool true)) (.tmp 84), type := 4, pos := "l08_msg.go:63", after := #[⟨66, .data⟩, ⟨77, .data⟩], guard := none } ?_
          refine wpAnyH_done (by kernel_rfl) ?_ _
          have HF : R = false := HR.out.symm.trans (Msg.sameM_3 (by simpa using g3))
          subst HF
          go_wp2
          go_ret
          exact ⟨rfl, (Ext.refl _).drew⟩
      · refine tk 30 { dst := some 37, op := Op.pick (.tmp 27) (Operand.const (Value.bool true)) (.tmp 36), type := 4, pos := "l08_msg.go:63", after := #[⟨20, .data⟩, ⟨29, .data⟩], guard := none } ?_
        refine tk 31 { dst := some 38, op := Op.move (.tmp 37), type := 4, pos := "l08_msg.go:63", after := #[⟨30, .data⟩, ⟨20, .chain⟩], guard := none } ?_
        refine tn 32 { dst := some 39, op := Op.move (.tmp 0), type := 97, pos := "l08_msg.go:63", after := #[⟨31, .guard⟩], guard := some (31, false) } ?_
        refine tn 33 { dst := some 40, op := Op.nilCheck (.tmp 39), type := 0, pos := "l08_msg.go:63", after := #[⟨32, .data⟩, ⟨31, .guard⟩], guard := some (31, false) } ?_
        refine tn 34 { dst := some 41, op := Op.fieldAddr 40 (.tmp 40) 3, type := 0, pos := "l08_msg.go:63", after := #[⟨33, .data⟩, ⟨31, .guard⟩], guard := some (31, false) } ?_
        refine tn 35 { dst := some 42, op := Op.load 2 (.tmp 41), type := 2, pos := "l08_msg.go:63", after := #[⟨34, .data⟩, ⟨31, .guard⟩], guard := some (31, false) } ?_
        refine tn 36 { dst := some 43, op := Op.move (.tmp 1), type := 97, pos := "l08_msg.go:63", after := #[⟨31, .guard⟩], guard := some (31, false) } ?_
        refine tn 37 { dst := some 44, op := Op.nilCheck (.tmp 43), type := 0, pos := "l08_msg.go:63", after := #[⟨36, .data⟩, ⟨31, .guard⟩], guard := some (31, false) } ?_
        refine tn 38 { dst := some 45, op := Op.fieldAddr 40 (.tmp 44) 3, type := 0, pos := "l08_msg.go:63", after := #[⟨37, .data⟩, ⟨31, .guard⟩], guard := some (31, false) } ?_
        refine tn 39 { dst := some 46, op := Op.load 2 (.tmp 45), type := 2, pos := "l08_msg.go:63", after := #[⟨38, .data⟩, ⟨31, .guard⟩], guard := some (31, false) } ?_
        refine tn 40 { dst := some 47, op := Op.binOp BinOp.neq 2 (.tmp 42) (.tmp 46) 2, type := 4, pos := "l08_msg.go:63", after := #[⟨35, .data⟩, ⟨39, .data⟩, ⟨31, .guard⟩], guard := some (31, false) } ?_
        refine tk 41 { dst := some 48, op := Op.pick (.tmp 38) (Operand.const (Value.bool true)) (.tmp 47), type := 4, pos := "l08_msg.go:63", after := #[⟨31, .data⟩, ⟨40, .data⟩], guard := none } ?_
        refine tk 42 { dst := some 49, op := Op.move (.tmp 48), type := 4, pos := "l08_msg.go:63", after := #[⟨41, .data⟩, ⟨31, .chain⟩], guard := none } ?_
        refine tn 43 { dst := some 50, op := Op.move (.tmp 0), type := 97, pos := "l08_msg.go:63", after := #[⟨42, .guard⟩], guard := some (42, false) } ?_
        refine tn 44 { dst := some 51, op := Op.nilCheck (.tmp 50), type := 0, pos := "l08_msg.go:63", after := #[⟨43, .data⟩, ⟨42, .guard⟩], guard := some (42, false) } ?_
        refine tn 45 { dst := some 52, op := Op.fieldAddr 40 (.tmp 51) 4, type := 0, pos := "l08_msg.go:63", after := #[⟨44, .data⟩, ⟨42, .guard⟩], guard := some (42, false) } ?_
        refine tn 46 { dst := some 53, op := Op.load 2 (.tmp 52), type := 2, pos := "l08_msg.go:63", after := #[⟨45, .data⟩, ⟨42, .guard⟩], guard := some (42, false) } ?_
        refine tn 47 { dst := some 54, op := Op.move (.tmp 1), type := 97, pos := "l08_msg.go:63", after := #[⟨42, .guard⟩], guard := some (42, false) } ?_
        refine tn 48 { dst := some 55, op := Op.nilCheck (.tmp 54), type := 0, pos := "l08_msg.go:63", after := #[⟨47, .data⟩, ⟨42, .guard⟩], guard := some (42, false) } ?_
        refine tn 49 { dst := some 56, op := Op.fieldAddr 40 (.tmp 55) 4, type := 0, pos := "l08_msg.go:63", after := #[⟨48, .data⟩, ⟨42, .guard⟩], guard := some (42, false) } ?_
        refine tn 50 { dst := some 57, op := Op.load 2 (.tmp 56), type := 2, pos := "l08_msg.go:63", after := #[⟨49, .data⟩, ⟨42, .guard⟩], guard := some (42, false) } ?_
        refine tn 51 { dst := some 58, op := Op.binOp BinOp.neq 2 (.tmp 53) (.tmp 57) 2, type := 4, pos := "l08_msg.go:63", after := #[⟨46, .data⟩, ⟨50, .data⟩, ⟨42, .guard⟩], guard := some (42, false) } ?_
        refine tk 52 { dst := some 59, op := Op.pick (.tmp 49) (Operand.const (Value.bool true)) (.tmp 58), type := 4, pos := "l08_msg.go:63", after := #[⟨42, .data⟩, ⟨51, .data⟩], guard := none } ?_
        refine tk 53 { dst := some 60, op := Op.move (.tmp 59), type := 4, pos := "l08_msg.go:63", after := #[⟨52, .data⟩, ⟨42, .chain⟩], guard := none } ?_
        refine tn 54 { dst := some 61, op := Op.move (.tmp 0), type := 97, pos := "l08_msg.go:63", after := #[⟨53, .guard⟩], guard := some (53, false) } ?_
        refine tn 55 { dst := some 62, op := Op.nilCheck (.tmp 61), type := 0, pos := "l08_msg.go:63", after := #[⟨54, .data⟩, ⟨53, .guard⟩], guard := some (53, false) } ?_
        refine tn 56 { dst := some 63, op := Op.fieldAddr 40 (.tmp 62) 5, type := 0, pos := "l08_msg.go:63", after := #[⟨55, .data⟩, ⟨53, .guard⟩], guard := some (53, false) } ?_
        refine tn 57 { dst := some 64, op := Op.load 37 (.tmp 63), type := 37, pos := "l08_msg.go:63", after := #[⟨56, .data⟩, ⟨53, .guard⟩], guard := some (53, false) } ?_
        refine tn 58 { dst := some 65, op := Op.call { callee := Callee.builtin Builtin.len, args := #[.tmp 64], argTypes := #[37] }, type := 3, pos := "l08_msg.go:63", after := #[⟨57, .data⟩, ⟨53, .guard⟩], guard := some (53, false) } ?_
        refine tn 59 { dst := some 66, op := Op.move (.tmp 1), type := 97, pos := "l08_msg.go:63", after := #[⟨53, .guard⟩], guard := some (53, false) } ?_
        refine tn 60 { dst := some 67, op := Op.nilCheck (.tmp 66), type := 0, pos := "l08_msg.go:63", after := #[⟨59, .data⟩, ⟨53, .guard⟩], guard := some (53, false) } ?_
        refine tn 61 { dst := some 68, op := Op.fieldAddr 40 (.tmp 67) 5, type := 0, pos := "l08_msg.go:63", after := #[⟨60, .data⟩, ⟨53, .guard⟩], guard := some (53, false) } ?_
        refine tn 62 { dst := some 69, op := Op.load 37 (.tmp 68), type := 37, pos := "l08_msg.go:63", after := #[⟨61, .data⟩, ⟨53, .guard⟩], guard := some (53, false) } ?_
        refine tn 63 { dst := some 70, op := Op.call { callee := Callee.builtin Builtin.len, args := #[.tmp 69], argTypes := #[37] }, type := 3, pos := "l08_msg.go:63", after := #[⟨62, .data⟩, ⟨53, .guard⟩], guard := some (53, false) } ?_
        refine tn 64 { dst := some 71, op := Op.binOp BinOp.neq 3 (.tmp 65) (.tmp 70) 3, type := 4, pos := "l08_msg.go:63", after := #[⟨58, .data⟩, ⟨63, .data⟩, ⟨53, .guard⟩], guard := some (53, false) } ?_
        refine tk 65 { dst := some 72, op := Op.pick (.tmp 60) (Operand.const (Value.bool true)) (.tmp 71), type := 4, pos := "l08_msg.go:63", after := #[⟨53, .data⟩, ⟨64, .data⟩], guard := none } ?_
        refine tk 66 { dst := some 73, op := Op.move (.tmp 72), type := 4, pos := "l08_msg.go:63", after := #[⟨65, .data⟩, ⟨53, .chain⟩], guard := none } ?_
        refine tn 67 { dst := some 74, op := Op.move (.tmp 0), type := 97, pos := "l08_msg.go:63", after := #[⟨66, .guard⟩], guard := some (66, false) } ?_
        refine tn 68 { dst := some 75, op := Op.nilCheck (.tmp 74), type := 0, pos := "l08_msg.go:63", after := #[⟨67, .data⟩, ⟨66, .guard⟩], guard := some (66, false) } ?_
        refine tn 69 { dst := some 76, op := Op.fieldAddr 40 (.tmp 75) 6, type := 0, pos := "l08_msg.go:63", after := #[⟨68, .data⟩, ⟨66, .guard⟩], guard := some (66, false) } ?_
        refine tn 70 { dst := some 77, op := Op.load 38 (.tmp 76), type := 38, pos := "l08_msg.go:63", after := #[⟨69, .data⟩, ⟨66, .guard⟩], guard := some (66, false) } ?_
        refine tn 71 { dst := some 78, op := Op.call { callee := Callee.builtin Builtin.len, args := #[.tmp 77], argTypes := #[38] }, type := 3, pos := "l08_msg.go:63", after := #[⟨70, .data⟩, ⟨66, .guard⟩], guard := some (66, false) } ?_
        refine tn 72 { dst := some 79, op := Op.move (.tmp 1), type := 97, pos := "l08_msg.go:63", after := #[⟨66, .guard⟩], guard := some (66, false) } ?_
        refine tn 73 { dst := some 80, op := Op.nilCheck (.tmp 79), type := 0, pos := "l08_msg.go:63", after := #[⟨72, .data⟩, ⟨66, .guard⟩], guard := some (66, false) } ?_
        refine tn 74 { dst := some 81, op := Op.fieldAddr 40 (.tmp 80) 6, type := 0, pos := "l08_msg.go:63", after := #[⟨73, .data⟩, ⟨66, .guard⟩], guard := some (66, false) } ?_
        refine tn 75 { dst := some 82, op := Op.load 38 (.tmp 81), type := 38, pos := "l08_msg.go:63", after := #[⟨74, .data⟩, ⟨66, .guard⟩], guard := some (66, false) } ?_
        refine tn 76 { dst := some 83, op := Op.call { callee := Callee.builtin Builtin.len, args := #[.tmp 82], argTypes := #[38] }, type := 3, pos := "l08_msg.go:63", after := #[⟨75, .data⟩, ⟨66, .guard⟩], guard := some (66, false) } ?_
        refine tn 77 { dst := some 84, op := Op.binOp BinOp.neq 3 (.tmp 78) (.tmp 83) 3, type := 4, pos := "l08_msg.go:63", after := #[⟨71, .data⟩, ⟨76, .data⟩, ⟨66, .guard⟩], guard := some (66, false) } ?_
        refine tk 78 { dst := some 85, op := Op.pick (.tmp 73) (Operand.const (Value.bool true)) (.tmp 84), type := 4, pos := "l08_msg.go:63", after := #[⟨66, .data⟩, ⟨77, .data⟩], guard := none } ?_
        refine wpAnyH_done (by kernel_rfl) ?_ _
        have HF : R = false := HR.out.symm.trans (Msg.sameM_2 (by simpa using g2))
        subst HF
        go_wp2
        go_ret
        exact ⟨rfl, (Ext.refl _).drew⟩
    · refine tk 19 { dst := some 26, op := Op.pick (.tmp 16) (Operand.const (Value.bool true)) (.tmp 25), type := 4, pos := "l08_msg.go:63", after := #[⟨9, .data⟩, ⟨18, .data⟩], guard := none } ?_
      refine tk 20 { dst := some 27, op := Op.move (.tmp 26), type := 4, pos := "l08_msg.go:63", after := #[⟨19, .data⟩, ⟨9, .chain⟩], guard := none } ?_
      refine tn 21 { dst := some 28, op := Op.move (.tmp 0), type := 97, pos := "l08_msg.go:63", after := #[⟨20, .guard⟩], guard := some (20, false) } ?_
      refine tn 22 { dst := some 29, op := Op.nilCheck (.tmp 28), type := 0, pos := "l08_msg.go:63", after := #[⟨21, .data⟩, ⟨20, .guard⟩], guard := some (20, false) } ?_
      refine tn 23 { dst := some 30, op := Op.fieldAddr 40 (.tmp 29) 2, type := 0, pos := "l08_msg.go:63", after := #[⟨22, .data⟩, ⟨20, .guard⟩], guard := some (20, false) } ?_
      refine tn 24 { dst := some 31, op := Op.load 2 (.tmp 30), type := 2, pos := "l08_msg.go:63", after := #[⟨23, .data⟩, ⟨20, .guard⟩], guard := some (20, false) } ?_
      refine tn 25 { dst := some 32, op := Op.move (.tmp 1), type := 97, pos := "l08_msg.go:63", after := #[⟨20, .guard⟩], guard := some (20, false) } ?_
      refine tn 26 { dst := some 33, op := Op.nilCheck (.tmp 32), type := 0, pos := "l08_msg.go:63", after := #[⟨25, .data⟩, ⟨20, .guard⟩], guard := some (20, false) } ?_
      refine tn 27 { dst := some 34, op := Op.fieldAddr 40 (.tmp 33) 2, type := 0, pos := "l08_msg.go:63", after := #[⟨26, .data⟩, ⟨20, .guard⟩], guard := some (20, false) } ?_
      refine tn 28 { dst := some 35, op := Op.load 2 (.tmp 34), type := 2, pos := "l08_msg.go:63", after := #[⟨27, .data⟩, ⟨20, .guard⟩], guard := some (20, false) } ?_
      refine tn 29 { dst := some 36, op := Op.binOp BinOp.neq 2 (.tmp 31) (.tmp 35) 2, type := 4, pos := "l08_msg.go:63", after := #[⟨24, .data⟩, ⟨28, .data⟩, ⟨20, .guard⟩], guard := some (20, false) } ?_
      refine tk 30 { dst := some 37, op := Op.pick (.tmp 27) (Operand.const (Value.bool true)) (.tmp 36), type := 4, pos := "l08_msg.go:63", after := #[⟨20, .data⟩, ⟨29, .data⟩], guard := none } ?_
      refine tk 31 { dst := some 38, op := Op.move (.tmp 37), type := 4, pos := "l08_msg.go:63", after := #[⟨30, .data⟩, ⟨20, .chain⟩], guard := none } ?_
      refine tn 32 { dst := some 39, op := Op.move (.tmp 0), type := 97, pos := "l08_msg.go:63", after := #[⟨31, .guard⟩], guard := some (31, false) } ?_
      refine tn 33 { dst := some 40, op := Op.nilCheck (.tmp 39), type := 0, pos := "l08_msg.go:63", after := #[⟨32, .data⟩, ⟨31, .guard⟩], guard := some (31, false) } ?_
      refine tn 34 { dst := some 41, op := Op.fieldAddr 40 (.tmp 40) 3, type := 0, pos := "l08_msg.go:63", after := #[⟨33, .data⟩, ⟨31, .guard⟩], guard := some (31, false) } ?_
      refine tn 35 { dst := some 42, op := Op.load 2 (.tmp 41), type := 2, pos := "l08_msg.go:63", after := #[⟨34, .data⟩, ⟨31, .guard⟩], guard := some (31, false) } ?_
      refine tn 36 { dst := some 43, op := Op.move (.tmp 1), type := 97, pos := "l08_msg.go:63", after := #[⟨31, .guard⟩], guard := some (31, false) } ?_
      refine tn 37 { dst := some 44, op := Op.nilCheck (.tmp 43), type := 0, pos := "l08_msg.go:63", after := #[⟨36, .data⟩, ⟨31, .guard⟩], guard := some (31, false) } ?_
      refine tn 38 { dst := some 45, op := Op.fieldAddr 40 (.tmp 44) 3, type := 0, pos := "l08_msg.go:63", after := #[⟨37, .data⟩, ⟨31, .guard⟩], guard := some (31, false) } ?_
      refine tn 39 { dst := some 46, op := Op.load 2 (.tmp 45), type := 2, pos := "l08_msg.go:63", after := #[⟨38, .data⟩, ⟨31, .guard⟩], guard := some (31, false) } ?_
      refine tn 40 { dst := some 47, op := Op.binOp BinOp.neq 2 (.tmp 42) (.tmp 46) 2, type := 4, pos := "l08_msg.go:63", after := #[⟨35, .data⟩, ⟨39, .data⟩, ⟨31, .guard⟩], guard := some (31, false) } ?_
      refine tk 41 { dst := some 48, op := Op.pick (.tmp 38) (Operand.const (Value.bool true)) (.tmp 47), type := 4, pos := "l08_msg.go:63", after := #[⟨31, .data⟩, ⟨40, .data⟩], guard := none } ?_
      refine tk 42 { dst := some 49, op := Op.move (.tmp 48), type := 4, pos := "l08_msg.go:63", after := #[⟨41, .data⟩, ⟨31, .chain⟩], guard := none } ?_
      refine tn 43 { dst := some 50, op := Op.move (.tmp 0), type := 97, pos := "l08_msg.go:63", after := #[⟨42, .guard⟩], guard := some (42, false) } ?_
      refine tn 44 { dst := some 51, op := Op.nilCheck (.tmp 50), type := 0, pos := "l08_msg.go:63", after := #[⟨43, .data⟩, ⟨42, .guard⟩], guard := some (42, false) } ?_
      refine tn 45 { dst := some 52, op := Op.fieldAddr 40 (.tmp 51) 4, type := 0, pos := "l08_msg.go:63", after := #[⟨44, .data⟩, ⟨42, .guard⟩], guard := some (42, false) } ?_
      refine tn 46 { dst := some 53, op := Op.load 2 (.tmp 52), type := 2, pos := "l08_msg.go:63", after := #[⟨45, .data⟩, ⟨42, .guard⟩], guard := some (42, false) } ?_
      refine tn 47 { dst := some 54, op := Op.move (.tmp 1), type := 97, pos := "l08_msg.go:63", after := #[⟨42, .guard⟩], guard := some (42, false) } ?_
      refine tn 48 { dst := some 55, op := Op.nilCheck (.tmp 54), type := 0, pos := "l08_msg.go:63", after := #[⟨47, .data⟩, ⟨42, .guard⟩], guard := some (42, false) } ?_
      refine tn 49 { dst := some 56, op := Op.fieldAddr 40 (.tmp 55) 4, type := 0, pos := "l08_msg.go:63", after := #[⟨48, .data⟩, ⟨42, .guard⟩], guard := some (42, false) } ?_
      refine tn 50 { dst := some 57, op := Op.load 2 (.tmp 56), type := 2, pos := "l08_msg.go:63", after := #[⟨49, .data⟩, ⟨42, .guard⟩], guard := some (42, false) } ?_
      refine tn 51 { dst := some 58, op := Op.binOp BinOp.neq 2 (.tmp 53) (.tmp 57) 2, type := 4, pos := "l08_msg.go:63", after := #[⟨46, .data⟩, ⟨50, .data⟩, ⟨42, .guard⟩], guard := some (42, false) } ?_
      refine tk 52 { dst := some 59, op := Op.pick (.tmp 49) (Operand.const (Value.bool true)) (.tmp 58), type := 4, pos := "l08_msg.go:63", after := #[⟨42, .data⟩, ⟨51, .data⟩], guard := none } ?_
      refine tk 53 { dst := some 60, op := Op.move (.tmp 59), type := 4, pos := "l08_msg.go:63", after := #[⟨52, .data⟩, ⟨42, .chain⟩], guard := none } ?_
      refine tn 54 { dst := some 61, op := Op.move (.tmp 0), type := 97, pos := "l08_msg.go:63", after := #[⟨53, .guard⟩], guard := some (53, false) } ?_
      refine tn 55 { dst := some 62, op := Op.nilCheck (.tmp 61), type := 0, pos := "l08_msg.go:63", after := #[⟨54, .data⟩, ⟨53, .guard⟩], guard := some (53, false) } ?_
      refine tn 56 { dst := some 63, op := Op.fieldAddr 40 (.tmp 62) 5, type := 0, pos := "l08_msg.go:63", after := #[⟨55, .data⟩, ⟨53, .guard⟩], guard := some (53, false) } ?_
      refine tn 57 { dst := some 64, op := Op.load 37 (.tmp 63), type := 37, pos := "l08_msg.go:63", after := #[⟨56, .data⟩, ⟨53, .guard⟩], guard := some (53, false) } ?_
      refine tn 58 { dst := some 65, op := Op.call { callee := Callee.builtin Builtin.len, args := #[.tmp 64], argTypes := #[37] }, type := 3, pos := "l08_msg.go:63", after := #[⟨57, .data⟩, ⟨53, .guard⟩], guard := some (53, false) } ?_
      refine tn 59 { dst := some 66, op := Op.move (.tmp 1), type := 97, pos := "l08_msg.go:63", after := #[⟨53, .guard⟩], guard := some (53, false) } ?_
      refine tn 60 { dst := some 67, op := Op.nilCheck (.tmp 66), type := 0, pos := "l08_msg.go:63", after := #[⟨59, .data⟩, ⟨53, .guard⟩], guard := some (53, false) } ?_
      refine tn 61 { dst := some 68, op := Op.fieldAddr 40 (.tmp 67) 5, type := 0, pos := "l08_msg.go:63", after := #[⟨60, .data⟩, ⟨53, .guard⟩], guard := some (53, false) } ?_
      refine tn 62 { dst := some 69, op := Op.load 37 (.tmp 68), type := 37, pos := "l08_msg.go:63", after := #[⟨61, .data⟩, ⟨53, .guard⟩], guard := some (53, false) } ?_
      refine tn 63 { dst := some 70, op := Op.call { callee := Callee.builtin Builtin.len, args := #[.tmp 69], argTypes := #[37] }, type := 3, pos := "l08_msg.go:63", after := #[⟨62, .data⟩, ⟨53, .guard⟩], guard := some (53, false) } ?_
      refine tn 64 { dst := some 71, op := Op.binOp BinOp.neq 3 (.tmp 65) (.tmp 70) 3, type := 4, pos := "l08_msg.go:63", after := #[⟨58, .data⟩, ⟨63, .data⟩, ⟨53, .guard⟩], guard := some (53, false) } ?_
      refine tk 65 { dst := some 72, op := Op.pick (.tmp 60) (Operand.const (Value.bool true)) (.tmp 71), type := 4, pos := "l08_msg.go:63", after := #[⟨53, .data⟩, ⟨64, .data⟩], guard := none } ?_
      refine tk 66 { dst := some 73, op := Op.move (.tmp 72), type := 4, pos := "l08_msg.go:63", after := #[⟨65, .data⟩, ⟨53, .chain⟩], guard := none } ?_
      refine tn 67 { dst := some 74, op := Op.move (.tmp 0), type := 97, pos := "l08_msg.go:63", after := #[⟨66, .guard⟩], guard := some (66, false) } ?_
      refine tn 68 { dst := some 75, op := Op.nilCheck (.tmp 74), type := 0, pos := "l08_msg.go:63", after := #[⟨67, .data⟩, ⟨66, .guard⟩], guard := some (66, false) } ?_
      refine tn 69 { dst := some 76, op := Op.fieldAddr 40 (.tmp 75) 6, type := 0, pos := "l08_msg.go:63", after := #[⟨68, .data⟩, ⟨66, .guard⟩], guard := some (66, false) } ?_
      refine tn 70 { dst := some 77, op := Op.load 38 (.tmp 76), type := 38, pos := "l08_msg.go:63", after := #[⟨69, .data⟩, ⟨66, .guard⟩], guard := some (66, false) } ?_
      refine tn 71 { dst := some 78, op := Op.call { callee := Callee.builtin Builtin.len, args := #[.tmp 77], argTypes := #[38] }, type := 3, pos := "l08_msg.go:63", after := #[⟨70, .data⟩, ⟨66, .guard⟩], guard := some (66, false) } ?_
      refine tn 72 { dst := some 79, op := Op.move (.tmp 1), type := 97, pos := "l08_msg.go:63", after := #[⟨66, .guard⟩], guard := some (66, false) } ?_
      refine tn 73 { dst := some 80, op := Op.nilCheck (.tmp 79), type := 0, pos := "l08_msg.go:63", after := #[⟨72, .data⟩, ⟨66, .guard⟩], guard := some (66, false) } ?_
      refine tn 74 { dst := some 81, op := Op.fieldAddr 40 (.tmp 80) 6, type := 0, pos := "l08_msg.go:63", after := #[⟨73, .data⟩, ⟨66, .guard⟩], guard := some (66, false) } ?_
      refine tn 75 { dst := some 82, op := Op.load 38 (.tmp 81), type := 38, pos := "l08_msg.go:63", after := #[⟨74, .data⟩, ⟨66, .guard⟩], guard := some (66, false) } ?_
      refine tn 76 { dst := some 83, op := Op.call { callee := Callee.builtin Builtin.len, args := #[.tmp 82], argTypes := #[38] }, type := 3, pos := "l08_msg.go:63", after := #[⟨75, .data⟩, ⟨66, .guard⟩], guard := some (66, false) } ?_
      refine tn 77 { dst := some 84, op := Op.binOp BinOp.neq 3 (.tmp 78) (.tmp 83) 3, type := 4, pos := "l08_msg.go:63", after := #[⟨71, .data⟩, ⟨76, .data⟩, ⟨66, .guard⟩], guard := some (66, false) } ?_
      refine tk 78 { dst := some 85, op := Op.pick (.tmp 73) (Operand.const (Value.bool true)) (.tmp 84), type := 4, pos := "l08_msg.go:63", after := #[⟨66, .data⟩, ⟨77, .data⟩], guard := none } ?_
      refine wpAnyH_done (by kernel_rfl) ?_ _
      have HF : R = false := HR.out.symm.trans (Msg.sameM_1 (by simpa using g1))
      subst HF
      go_wp2
      go_ret
      exact ⟨rfl, (Ext.refl _).drew⟩
  · refine tk 9 { dst := some 16, op := Op.move (.tmp 15), type := 4, pos := "l08_msg.go:63", after := #[⟨8, .data⟩], guard := none } ?_
    refine tn 10 { dst := some 17, op := Op.move (.tmp 0), type := 97, pos := "l08_msg.go:63", after := #[⟨9, .guard⟩], guard := some (9, false) } ?_
    refine tn 11 { dst := some 18, op := Op.nilCheck (.tmp 17), type := 0, pos := "l08_msg.go:63", after := #[⟨10, .data⟩, ⟨9, .guard⟩], guard := some (9, false) } ?_
    refine tn 12 { dst := some 19, op := Op.fieldAddr 40 (.tmp 18) 1, type := 0, pos := "l08_msg.go:63", after := #[⟨11, .data⟩, ⟨9, .guard⟩], guard := some (9, false) } ?_
    refine tn 13 { dst := some 20, op := Op.load 2 (.tmp 19), type := 2, pos := "l08_msg.go:63", after := #[⟨12, .data⟩, ⟨9, .guard⟩], guard := some (9, false) } ?_
    refine tn 14 { dst := some 21, op := Op.move (.tmp 1), type := 97, pos := "l08_msg.go:63", after := #[⟨9, .guard⟩], guard := some (9, false) } ?_
    refine tn 15 { dst := some 22, op := Op.nilCheck (.tmp 21), type := 0, pos := "l08_msg.go:63", after := #[⟨14, .data⟩, ⟨9, .guard⟩], guard := some (9, false) } ?_
    refine tn 16 { dst := some 23, op := Op.fieldAddr 40 (.tmp 22) 1, type := 0, pos := "l08_msg.go:63", after := #[⟨15, .data⟩, ⟨9, .guard⟩], guard := some (9, false) } ?_
    refine tn 17 { dst := some 24, op := Op.load 2 (.tmp 23), type := 2, pos := "l08_msg.go:63", after := #[⟨16, .data⟩, ⟨9, .guard⟩], guard := some (9, false) } ?_
    refine tn 18 { dst := some 25, op := Op.binOp BinOp.neq 2 (.tmp 20) (.tmp 24) 2, type := 4, pos := "l08_msg.go:63", after := #[⟨13, .data⟩, ⟨17, .data⟩, ⟨9, .guard⟩], guard := some (9, false) } ?_
    refine tk 19 { dst := some 26, op := Op.pick (.tmp 16) (Operand.const (Value.bool true)) (.tmp 25), type := 4, pos := "l08_msg.go:63", after := #[⟨9, .data⟩, ⟨18, .data⟩], guard := none } ?_
    refine tk 20 { dst := some 27, op := Op.move (.tmp 26), type := 4, pos := "l08_msg.go:63", after := #[⟨19, .data⟩, ⟨9, .chain⟩], guard := none } ?_
    refine tn 21 { dst := some 28, op := Op.move (.tmp 0), type := 97, pos := "l08_msg.go:63", after := #[⟨20, .guard⟩], guard := some (20, false) } ?_
    refine tn 22 { dst := some 29, op := Op.nilCheck (.tmp 28), type := 0, pos := "l08_msg.go:63", after := #[⟨21, .data⟩, ⟨20, .guard⟩], guard := some (20, false) } ?_
    refine tn 23 { dst := some 30, op := Op.fieldAddr 40 (.tmp 29) 2, type := 0, pos := "l08_msg.go:63", after := #[⟨22, .data⟩, ⟨20, .guard⟩], guard := some (20, false) } ?_
    refine tn 24 { dst := some 31, op := Op.load 2 (.tmp 30), type := 2, pos := "l08_msg.go:63", after := #[⟨23, .data⟩, ⟨20, .guard⟩], guard := some (20, false) } ?_
    refine tn 25 { dst := some 32, op := Op.move (.tmp 1), type := 97, pos := "l08_msg.go:63", after := #[⟨20, .guard⟩], guard := some (20, false) } ?_
    refine tn 26 { dst := some 33, op := Op.nilCheck (.tmp 32), type := 0, pos := "l08_msg.go:63", after := #[⟨25, .data⟩, ⟨20, .guard⟩], guard := some (20, false) } ?_
    refine tn 27 { dst := some 34, op := Op.fieldAddr 40 (.tmp 33) 2, type := 0, pos := "l08_msg.go:63", after := #[⟨26, .data⟩, ⟨20, .guard⟩], guard := some (20, false) } ?_
    refine tn 28 { dst := some 35, op := Op.load 2 (.tmp 34), type := 2, pos := "l08_msg.go:63", after := #[⟨27, .data⟩, ⟨20, .guard⟩], guard := some (20, false) } ?_
    refine tn 29 { dst := some 36, op := Op.binOp BinOp.neq 2 (.tmp 31) (.tmp 35) 2, type := 4, pos := "l08_msg.go:63", after := #[⟨24, .data⟩, ⟨28, .data⟩, ⟨20, .guard⟩], guard := some (20, false) } ?_
    refine tk 30 { dst := some 37, op := Op.pick (.tmp 27) (Operand.const (Value.bool true)) (.tmp 36), type := 4, pos := "l08_msg.go:63", after := #[⟨20, .data⟩, ⟨29, .data⟩], guard := none } ?_
    refine tk 31 { dst := some 38, op := Op.move (.tmp 37), type := 4, pos := "l08_msg.go:63", after := #[⟨30, .data⟩, ⟨20, .chain⟩], guard := none } ?_
    refine tn 32 { dst := some 39, op := Op.move (.tmp 0), type := 97, pos := "l08_msg.go:63", after := #[⟨31, .guard⟩], guard := some (31, false) } ?_
    refine tn 33 { dst := some 40, op := Op.nilCheck (.tmp 39), type := 0, pos := "l08_msg.go:63", after := #[⟨32, .data⟩, ⟨31, .guard⟩], guard := some (31, false) } ?_
    refine tn 34 { dst := some 41, op := Op.fieldAddr 40 (.tmp 40) 3, type := 0, pos := "l08_msg.go:63", after := #[⟨33, .data⟩, ⟨31, .guard⟩], guard := some (31, false) } ?_
    refine tn 35 { dst := some 42, op := Op.load 2 (.tmp 41), type := 2, pos := "l08_msg.go:63", after := #[⟨34, .data⟩, ⟨31, .guard⟩], guard := some (31, false) } ?_
    refine tn 36 { dst := some 43, op := Op.move (.tmp 1), type := 97, pos := "l08_msg.go:63", after := #[⟨31, .guard⟩], guard := some (31, false) } ?_
    refine tn 37 { dst := some 44, op := Op.nilCheck (.tmp 43), type := 0, pos := "l08_msg.go:63", after := #[⟨36, .data⟩, ⟨31, .guard⟩], guard := some (31, false) } ?_
    refine tn 38 { dst := some 45, op := Op.fieldAddr 40 (.tmp 44) 3, type := 0, pos := "l08_msg.go:63", after := #[⟨37, .data⟩, ⟨31, .guard⟩], guard := some (31, false) } ?_
    refine tn 39 { dst := some 46, op := Op.load 2 (.tmp 45), type := 2, pos := "l08_msg.go:63", after := #[⟨38, .data⟩, ⟨31, .guard⟩], guard := some (31, false) } ?_
    refine tn 40 { dst := some 47, op := Op.binOp BinOp.neq 2 (.tmp 42) (.tmp 46) 2, type := 4, pos := "l08_msg.go:63", after := #[⟨35, .data⟩, ⟨39, .data⟩, ⟨31, .guard⟩], guard := some (31, false) } ?_
    refine tk 41 { dst := some 48, op := Op.pick (.tmp 38) (Operand.const (Value.bool true)) (.tmp 47), type := 4, pos := "l08_msg.go:63", after := #[⟨31, .data⟩, ⟨40, .data⟩], guard := none } ?_
    refine tk 42 { dst := some 49, op := Op.move (.tmp 48), type := 4, pos := "l08_msg.go:63", after := #[⟨41, .data⟩, ⟨31, .chain⟩], guard := none } ?_
    refine tn 43 { dst := some 50, op := Op.move (.tmp 0), type := 97, pos := "l08_msg.go:63", after := #[⟨42, .guard⟩], guard := some (42, false) } ?_
    refine tn 44 { dst := some 51, op := Op.nilCheck (.tmp 50), type := 0, pos := "l08_msg.go:63", after := #[⟨43, .data⟩, ⟨42, .guard⟩], guard := some (42, false) } ?_
    refine tn 45 { dst := some 52, op := Op.fieldAddr 40 (.tmp 51) 4, type := 0, pos := "l08_msg.go:63", after := #[⟨44, .data⟩, ⟨42, .guard⟩], guard := some (42, false) } ?_
    refine tn 46 { dst := some 53, op := Op.load 2 (.tmp 52), type := 2, pos := "l08_msg.go:63", after := #[⟨45, .data⟩, ⟨42, .guard⟩], guard := some (42, false) } ?_
    refine tn 47 { dst := some 54, op := Op.move (.tmp 1), type := 97, pos := "l08_msg.go:63", after := #[⟨42, .guard⟩], guard := some (42, false) } ?_
    refine tn 48 { dst := some 55, op := Op.nilCheck (.tmp 54), type := 0, pos := "l08_msg.go:63", after := #[⟨47, .data⟩, ⟨42, .guard⟩], guard := some (42, false) } ?_
    refine tn 49 { dst := some 56, op := Op.fieldAddr 40 (.tmp 55) 4, type := 0, pos := "l08_msg.go:63", after := #[⟨48, .data⟩, ⟨42, .guard⟩], guard := some (42, false) } ?_
    refine tn 50 { dst := some 57, op := Op.load 2 (.tmp 56), type := 2, pos := "l08_msg.go:63", after := #[⟨49, .data⟩, ⟨42, .guard⟩], guard := some (42, false) } ?_
    refine tn 51 { dst := some 58, op := Op.binOp BinOp.neq 2 (.tmp 53) (.tmp 57) 2, type := 4, pos := "l08_msg.go:63", after := #[⟨46, .data⟩, ⟨50, .data⟩, ⟨42, .guard⟩], guard := some (42, false) } ?_
    refine tk 52 { dst := some 59, op := Op.pick (.tmp 49) (Operand.const (Value.bool true)) (.tmp 58), type := 4, pos := "l08_msg.go:63", after := #[⟨42, .data⟩, ⟨51, .data⟩], guard := none } ?_
    refine tk 53 { dst := some 60, op := Op.move (.tmp 59), type := 4, pos := "l08_msg.go:63", after := #[⟨52, .data⟩, ⟨42, .chain⟩], guard := none } ?_
    refine tn 54 { dst := some 61, op := Op.move (.tmp 0), type := 97, pos := "l08_msg.go:63", after := #[⟨53, .guard⟩], guard := some (53, false) } ?_
    refine tn 55 { dst := some 62, op := Op.nilCheck (.tmp 61), type := 0, pos := "l08_msg.go:63", after := #[⟨54, .data⟩, ⟨53, .guard⟩], guard := some (53, false) } ?_
    refine tn 56 { dst := some 63, op := Op.fieldAddr 40 (.tmp 62) 5, type := 0, pos := "l08_msg.go:63", after := #[⟨55, .data⟩, ⟨53, .guard⟩], guard := some (53, false) } ?_
    refine tn 57 { dst := some 64, op := Op.load 37 (.tmp 63), type := 37, pos := "l08_msg.go:63", after := #[⟨56, .data⟩, ⟨53, .guard⟩], guard := some (53, false) } ?_
    refine tn 58 { dst := some 65, op := Op.call { callee := Callee.builtin Builtin.len, args := #[.tmp 64], argTypes := #[37] }, type := 3, pos := "l08_msg.go:63", after := #[⟨57, .data⟩, ⟨53, .guard⟩], guard := some (53, false) } ?_
    refine tn 59 { dst := some 66, op := Op.move (.tmp 1), type := 97, pos := "l08_msg.go:63", after := #[⟨53, .guard⟩], guard := some (53, false) } ?_
    refine tn 60 { dst := some 67, op := Op.nilCheck (.tmp 66), type := 0, pos := "l08_msg.go:63", after := #[⟨59, .data⟩, ⟨53, .guard⟩], guard := some (53, false) } ?_
    refine tn 61 { dst := some 68, op := Op.fieldAddr 40 (.tmp 67) 5, type := 0, pos := "l08_msg.go:63", after := #[⟨60, .data⟩, ⟨53, .guard⟩], guard := some (53, false) } ?_
    refine tn 62 { dst := some 69, op := Op.load 37 (.tmp 68), type := 37, pos := "l08_msg.go:63", after := #[⟨61, .data⟩, ⟨53, .guard⟩], guard := some (53, false) } ?_
    refine tn 63 { dst := some 70, op := Op.call { callee := Callee.builtin Builtin.len, args := #[.tmp 69], argTypes := #[37] }, type := 3, pos := "l08_msg.go:63", after := #[⟨62, .data⟩, ⟨53, .guard⟩], guard := some (53, false) } ?_
    refine tn 64 { dst := some 71, op := Op.binOp BinOp.neq 3 (.tmp 65) (.tmp 70) 3, type := 4, pos := "l08_msg.go:63", after := #[⟨58, .data⟩, ⟨63, .data⟩, ⟨53, .guard⟩], guard := some (53, false) } ?_
    refine tk 65 { dst := some 72, op := Op.pick (.tmp 60) (Operand.const (Value.bool true)) (.tmp 71), type := 4, pos := "l08_msg.go:63", after := #[⟨53, .data⟩, ⟨64, .data⟩], guard := none } ?_
    refine tk 66 { dst := some 73, op := Op.move (.tmp 72), type := 4, pos := "l08_msg.go:63", after := #[⟨65, .data⟩, ⟨53, .chain⟩], guard := none } ?_
    refine tn 67 { dst := some 74, op := Op.move (.tmp 0), type := 97, pos := "l08_msg.go:63", after := #[⟨66, .guard⟩], guard := some (66, false) } ?_
    refine tn 68 { dst := some 75, op := Op.nilCheck (.tmp 74), type := 0, pos := "l08_msg.go:63", after := #[⟨67, .data⟩, ⟨66, .guard⟩], guard := some (66, false) } ?_
    refine tn 69 { dst := some 76, op := Op.fieldAddr 40 (.tmp 75) 6, type := 0, pos := "l08_msg.go:63", after := #[⟨68, .data⟩, ⟨66, .guard⟩], guard := some (66, false) } ?_
    refine tn 70 { dst := some 77, op := Op.load 38 (.tmp 76), type := 38, pos := "l08_msg.go:63", after := #[⟨69, .data⟩, ⟨66, .guard⟩], guard := some (66, false) } ?_
    refine tn 71 { dst := some 78, op := Op.call { callee := Callee.builtin Builtin.len, args := #[.tmp 77], argTypes := #[38] }, type := 3, pos := "l08_msg.go:63", after := #[⟨70, .data⟩, ⟨66, .guard⟩], guard := some (66, false) } ?_
    refine tn 72 { dst := some 79, op := Op.move (.tmp 1), type := 97, pos := "l08_msg.go:63", after := #[⟨66, .guard⟩], guard := some (66, false) } ?_
    refine tn 73 { dst := some 80, op := Op.nilCheck (.tmp 79), type := 0, pos := "l08_msg.go:63", after := #[⟨72, .data⟩, ⟨66, .guard⟩], guard := some (66, false) } ?_
    refine tn 74 { dst := some 81, op := Op.fieldAddr 40 (.tmp 80) 6, type := 0, pos := "l08_msg.go:63", after := #[⟨73, .data⟩, ⟨66, .guard⟩], guard := some (66, false) } ?_
    refine tn 75 { dst := some 82, op := Op.load 38 (.tmp 81), type := 38, pos := "l08_msg.go:63", after := #[⟨74, .data⟩, ⟨66, .guard⟩], guard := some (66, false) } ?_
    refine tn 76 { dst := some 83, op := Op.call { callee := Callee.builtin Builtin.len, args := #[.tmp 82], argTypes := #[38] }, type := 3, pos := "l08_msg.go:63", after := #[⟨75, .data⟩, ⟨66, .guard⟩], guard := some (66, false) } ?_
    refine tn 77 { dst := some 84, op := Op.binOp BinOp.neq 3 (.tmp 78) (.tmp 83) 3, type := 4, pos := "l08_msg.go:63", after := #[⟨71, .data⟩, ⟨76, .data⟩, ⟨66, .guard⟩], guard := some (66, false) } ?_
    refine tk 78 { dst := some 85, op := Op.pick (.tmp 73) (Operand.const (Value.bool true)) (.tmp 84), type := 4, pos := "l08_msg.go:63", after := #[⟨66, .data⟩, ⟨77, .data⟩], guard := none } ?_
    refine wpAnyH_done (by kernel_rfl) ?_ _
    have HF : R = false := HR.out.symm.trans (Msg.sameM_0 (by simpa using g0))
    subst HF
    go_wp2
    go_ret
    exact ⟨rfl, (Ext.refl _).drew⟩

end Go.Proofs.YtecgjdgfjgcmdaaGreat
