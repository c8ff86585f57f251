/- the specification's l11Sent, by value. -/
import Derived.Test.YtecgjdgfjgcmdaaGreatRbGP
import Derived.Test.YtecgjdgfjgcmdaaGreatRbRP2
import Derived.Test.YtecgjdgfjgcmdaaGreatRbTk
namespace Go.Proofs.YtecgjdgfjgcmdaaGreat
open Go.RowKit
set_option linter.unusedSimpArgs false in
set_option maxHeartbeats 8000000 in
set_option maxRecDepth 100000 in
theorem l11SentV_any (v : Value) (ms : List Ms) (r : Rp) (rb : Nat) (kd : Int) (x : Int) (w : World) (hS : MSlice w v ms) (hR : RpAt w rb r) (hx : 0 ≤ x) :
    Calls Tryz.prog 103 #[v, .pointer (some ⟨rb, 0, none⟩), .int .i64 kd, .int .i64 0, .int .i64 x] w fun e w' => e = .returned (.bool (Msg.sent ms r kd 0 x)) ∧ Ext w w' := by
  obtain ⟨a, cap, rfl, hlc, hcm, hx9⟩ := hS
  have HX : Hid (0 < ms.length → ∃ b off, a = some ⟨b, off, none⟩ ∧ b < w.heap.size ∧ MsAt w b off ms) := hx9
  have HR : Hid (RpAt w rb r) := hR
  clear hx9 hR
  have PX : Hid (decide (x < 0) = false) := decide_eq_false (by omega)
  have hx0 : ¬ x < 0 := by omega
  unfold maxLen at hcm
  go_enter Tryz.func103, Tryz.ntmps103
  go_wp2
  go_loopw [11] (fun i wr => ∃ (k : Nat), k ≤ ms.length ∧ i = .int .i64 k ∧ Hid (∀ j z, j < k → ms[j]? = some z → Msg.sentB r kd 0 x z = false) ∧ Hid (Ext w wr)) (fun i _ => ms.length - (intOf i).toNat)
  case atStart => exact ⟨0, Nat.zero_le _, rfl, fun j z h => by omega, Ext.refl _⟩
  case round =>
    obtain ⟨k, hk, rfl, HA, HE⟩ := hrel
    by_cases hlt : k < ms.length
    · obtain ⟨z, hzk⟩ : ∃ z, ms[k]? = some z := ⟨_, List.getElem?_eq_getElem hlt⟩
      obtain ⟨b1, off, rfl, hb, hN⟩ := HX.out (by omega)
      have HZ : Hid (ms[k]? = some z) := hzk
      have HS : Hid (∀ W', Ext w W' → W'.cell? ⟨b1, off + k * 7, none⟩ = some (.int .i64 z.kind) ∧ W'.cell? ⟨b1, off + k * 7 + 1, none⟩ = some (.int .i64 z.view) ∧ W'.cell? ⟨b1, off + k * 7 + 2, none⟩ = some (.int .i64 z.from_) ∧ W'.cell? ⟨b1, off + k * 7 + 3, none⟩ = some (.int .i64 z.slot) ∧ W'.cell? ⟨b1, off + k * 7 + 4, none⟩ = some (.int .i64 z.value) ∧ W'.cell? ⟨rb, 0, none⟩ = some (.int .i64 r.id) ∧ W'.cell? ⟨rb, 1, none⟩ = some (.int .i64 r.view)) := fun W' he => by
        obtain ⟨vz, uz, ⟨c0, c1, c2, c3, c4, -, -⟩, -⟩ := hN.ext hb he k z hzk
        exact ⟨c0, c1, c2, c3, c4, (HR.out.ext he).2.1, (HR.out.ext he).2.2.1⟩
      clear hzk hN
      cases g1 : (z.kind == kd) with
      | false =>
        have HB : Hid (Msg.sentB r kd 0 x z = false) := by
          show Msg.sentB _ _ _ _ _ = false
          simp only [beq_eq_false_iff_ne, ne_eq, beq_iff_eq] at g1
          simp [Msg.sentB, g1, hx0]
        have HA2 : Hid (∀ j y, j < k + 1 → ms[j]? = some y → Msg.sentB r kd 0 x y = false) := by
          intro j y hj e
          by_cases hjk : j = k
          · subst hjk; rw [HZ.out] at e; cases e; exact HB.out
          · exact HA.out j y (by omega) e
        go_wp2
        refine wp_region_held_drew (S := (fun W' : World => W'.cell? ⟨b1, off + k * 7, none⟩ = some (.int .i64 z.kind) ∧ W'.cell? ⟨b1, off + k * 7 + 1, none⟩ = some (.int .i64 z.view) ∧ W'.cell? ⟨b1, off + k * 7 + 2, none⟩ = some (.int .i64 z.from_) ∧ W'.cell? ⟨b1, off + k * 7 + 3, none⟩ = some (.int .i64 z.slot) ∧ W'.cell? ⟨b1, off + k * 7 + 4, none⟩ = some (.int .i64 z.value) ∧ W'.cell? ⟨rb, 0, none⟩ = some (.int .i64 r.id) ∧ W'.cell? ⟨rb, 1, none⟩ = some (.int .i64 r.view))) (by kernel_rfl) (HS.out _ HE.out.drew) (fun hHeld => ?_)
        refine tk 0 { dst := some 22, op := Op.move (.tmp 12), type := 97, pos := "l11_replica.go:37", after := #[], guard := none } ?_
        refine tk 1 { dst := some 23, op := Op.nilCheck (.tmp 22), type := 0, pos := "l11_replica.go:37", after := #[⟨0, .data⟩], guard := none } ?_
        refine tk 2 { dst := some 24, op := Op.fieldAddr 40 (.tmp 23) 0, type := 0, pos := "l11_replica.go:37", after := #[⟨1, .data⟩], guard := none } ?_
        refine tk 3 { dst := some 25, op := Op.load 2 (.tmp 24), type := 2, pos := "l11_replica.go:37", after := #[⟨2, .data⟩], guard := none } ?_
        refine tk 4 { dst := some 26, op := Op.move (.tmp 2), type := 2, pos := "l11_replica.go:37", after := #[], guard := none } ?_
        refine tk 5 { dst := some 27, op := Op.binOp BinOp.eql 2 (.tmp 25) (.tmp 26) 2, type := 4, pos := "l11_replica.go:37", after := #[⟨3, .data⟩, ⟨4, .data⟩], guard := none } ?_
        refine tk 6 { dst := some 28, op := Op.move (.tmp 27), type := 4, pos := "l11_replica.go:37", after := #[⟨5, .data⟩], guard := none } ?_
        refine tn 7 { dst := some 29, op := Op.move (.tmp 12), type := 97, pos := "l11_replica.go:37", after := #[⟨6, .guard⟩], guard := some (6, true) } ?_
        refine tn 8 { dst := some 30, op := Op.nilCheck (.tmp 29), type := 0, pos := "l11_replica.go:37", after := #[⟨7, .data⟩, ⟨6, .guard⟩], guard := some (6, true) } ?_
        refine tn 9 { dst := some 31, op := Op.fieldAddr 40 (.tmp 30) 2, type := 0, pos := "l11_replica.go:37", after := #[⟨8, .data⟩, ⟨6, .guard⟩], guard := some (6, true) } ?_
        refine tn 10 { dst := some 32, op := Op.load 2 (.tmp 31), type := 2, pos := "l11_replica.go:37", after := #[⟨9, .data⟩, ⟨6, .guard⟩], guard := some (6, true) } ?_
        refine tn 11 { dst := some 33, op := Op.move (.tmp 1), type := 72, pos := "l11_replica.go:37", after := #[⟨6, .guard⟩], guard := some (6, true) } ?_
        refine tn 12 { dst := some 34, op := Op.nilCheck (.tmp 33), type := 0, pos := "l11_replica.go:37", after := #[⟨11, .data⟩, ⟨6, .guard⟩], guard := some (6, true) } ?_
        refine tn 13 { dst := some 35, op := Op.fieldAddr 29 (.tmp 34) 0, type := 0, pos := "l11_replica.go:37", after := #[⟨12, .data⟩, ⟨6, .guard⟩], guard := some (6, true) } ?_
        refine tn 14 { dst := some 36, op := Op.load 2 (.tmp 35), type := 2, pos := "l11_replica.go:37", after := #[⟨13, .data⟩, ⟨6, .guard⟩], guard := some (6, true) } ?_
        refine tn 15 { dst := some 37, op := Op.binOp BinOp.eql 2 (.tmp 32) (.tmp 36) 2, type := 4, pos := "l11_replica.go:37", after := #[⟨10, .data⟩, ⟨14, .data⟩, ⟨6, .guard⟩], guard := some (6, true) } ?_
        refine tk 16 { dst := some 38, op := Op.pick (.tmp 28) (.tmp 37) (Operand.const (Value.bool false)), type := 4, pos := "l11_replica.go:37", after := #[⟨6, .data⟩, ⟨15, .data⟩], guard := none } ?_
        refine tk 17 { dst := some 39, op := Op.move (.tmp 38), type := 4, pos := "l11_replica.go:37", after := #[⟨16, .data⟩, ⟨6, .chain⟩], guard := none } ?_
        refine tn 18 { dst := some 40, op := Op.move (.tmp 12), type := 97, pos := "l11_replica.go:37", after := #[⟨17, .guard⟩], guard := some (17, true) } ?_
        refine tn 19 { dst := some 41, op := Op.nilCheck (.tmp 40), type := 0, pos := "l11_replica.go:37", after := #[⟨18, .data⟩, ⟨17, .guard⟩], guard := some (17, true) } ?_
        refine tn 20 { dst := some 42, op := Op.fieldAddr 40 (.tmp 41) 1, type := 0, pos := "l11_replica.go:37", after := #[⟨19, .data⟩, ⟨17, .guard⟩], guard := some (17, true) } ?_
        refine tn 21 { dst := some 43, op := Op.load 2 (.tmp 42), type := 2, pos := "l11_replica.go:37", after := #[⟨20, .data⟩, ⟨17, .guard⟩], guard := some (17, true) } ?_
        refine tn 22 { dst := some 44, op := Op.move (.tmp 1), type := 72, pos := "l11_replica.go:37", after := #[⟨17, .guard⟩], guard := some (17, true) } ?_
        refine tn 23 { dst := some 45, op := Op.nilCheck (.tmp 44), type := 0, pos := "l11_replica.go:37", after := #[⟨22, .data⟩, ⟨17, .guard⟩], guard := some (17, true) } ?_
        refine tn 24 { dst := some 46, op := Op.fieldAddr 29 (.tmp 45) 1, type := 0, pos := "l11_replica.go:37", after := #[⟨23, .data⟩, ⟨17, .guard⟩], guard := some (17, true) } ?_
        refine tn 25 { dst := some 47, op := Op.load 2 (.tmp 46), type := 2, pos := "l11_replica.go:37", after := #[⟨24, .data⟩, ⟨17, .guard⟩], guard := some (17, true) } ?_
        refine tn 26 { dst := some 48, op := Op.binOp BinOp.eql 2 (.tmp 43) (.tmp 47) 2, type := 4, pos := "l11_replica.go:37", after := #[⟨21, .data⟩, ⟨25, .data⟩, ⟨17, .guard⟩], guard := some (17, true) } ?_
        refine tk 27 { dst := some 49, op := Op.pick (.tmp 39) (.tmp 48) (Operand.const (Value.bool false)), type := 4, pos := "l11_replica.go:37", after := #[⟨17, .data⟩, ⟨26, .data⟩], guard := none } ?_
        refine tk 28 { dst := some 50, op := Op.move (.tmp 49), type := 4, pos := "l11_replica.go:37", after := #[⟨27, .data⟩, ⟨17, .chain⟩], guard := none } ?_
        refine tn 29 { dst := some 51, op := Op.move (.tmp 3), type := 2, pos := "l11_replica.go:37", after := #[⟨28, .guard⟩], guard := some (28, true) } ?_
        refine tn 30 { dst := some 52, op := Op.binOp BinOp.eql 2 (.tmp 51) (Operand.const (Value.int IntKind.i64 0)) 2, type := 4, pos := "l11_replica.go:37", after := #[⟨29, .data⟩, ⟨28, .guard⟩], guard := some (28, true) } ?_
        refine tn 31 { dst := some 53, op := Op.move (.tmp 52), type := 4, pos := "l11_replica.go:37", after := #[⟨30, .data⟩, ⟨28, .chain⟩, ⟨28, .guard⟩], guard := some (28, true) } ?_
        refine tn 32 { dst := some 54, op := Op.move (.tmp 12), type := 97, pos := "l11_replica.go:37", after := #[⟨31, .guard⟩], guard := some (31, false) } ?_
        refine tn 33 { dst := some 55, op := Op.nilCheck (.tmp 54), type := 0, pos := "l11_replica.go:37", after := #[⟨32, .data⟩, ⟨31, .guard⟩], guard := some (31, false) } ?_
        refine tn 34 { dst := some 56, op := Op.fieldAddr 40 (.tmp 55) 3, type := 0, pos := "l11_replica.go:37", after := #[⟨33, .data⟩, ⟨31, .guard⟩], guard := some (31, false) } ?_
        refine tn 35 { dst := some 57, op := Op.load 2 (.tmp 56), type := 2, pos := "l11_replica.go:37", after := #[⟨34, .data⟩, ⟨31, .guard⟩], guard := some (31, false) } ?_
        refine tn 36 { dst := some 58, op := Op.move (.tmp 3), type := 2, pos := "l11_replica.go:37", after := #[⟨31, .guard⟩], guard := some (31, false) } ?_
        refine tn 37 { dst := some 59, op := Op.binOp BinOp.eql 2 (.tmp 57) (.tmp 58) 2, type := 4, pos := "l11_replica.go:37", after := #[⟨35, .data⟩, ⟨36, .data⟩, ⟨31, .guard⟩], guard := some (31, false) } ?_
        refine tn 38 { dst := some 60, op := Op.pick (.tmp 53) (Operand.const (Value.bool true)) (.tmp 59), type := 4, pos := "l11_replica.go:37", after := #[⟨31, .data⟩, ⟨37, .data⟩, ⟨28, .guard⟩], guard := some (28, true) } ?_
        refine tk 39 { dst := some 61, op := Op.pick (.tmp 50) (.tmp 60) (Operand.const (Value.bool false)), type := 4, pos := "l11_replica.go:37", after := #[⟨28, .data⟩, ⟨38, .data⟩], guard := none } ?_
        refine tk 40 { dst := some 62, op := Op.move (.tmp 61), type := 4, pos := "l11_replica.go:37", after := #[⟨39, .data⟩, ⟨31, .chain⟩], guard := none } ?_
        refine tn 41 { dst := some 63, op := Op.move (.tmp 4), type := 2, pos := "l11_replica.go:37", after := #[⟨40, .guard⟩], guard := some (40, true) } ?_
        refine tn 42 { dst := some 64, op := Op.binOp BinOp.lss 2 (.tmp 63) (Operand.const (Value.int IntKind.i64 0)) 2, type := 4, pos := "l11_replica.go:37", after := #[⟨41, .data⟩, ⟨40, .guard⟩], guard := some (40, true) } ?_
        (try rw [PX.out])
        refine tn 43 { dst := some 65, op := Op.move (.tmp 64), type := 4, pos := "l11_replica.go:37", after := #[⟨42, .data⟩, ⟨40, .chain⟩, ⟨40, .guard⟩], guard := some (40, true) } ?_
        refine tn 44 { dst := some 66, op := Op.move (.tmp 12), type := 97, pos := "l11_replica.go:37", after := #[⟨43, .guard⟩], guard := some (43, false) } ?_
        refine tn 45 { dst := some 67, op := Op.nilCheck (.tmp 66), type := 0, pos := "l11_replica.go:37", after := #[⟨44, .data⟩, ⟨43, .guard⟩], guard := some (43, false) } ?_
        refine tn 46 { dst := some 68, op := Op.fieldAddr 40 (.tmp 67) 4, type := 0, pos := "l11_replica.go:37", after := #[⟨45, .data⟩, ⟨43, .guard⟩], guard := some (43, false) } ?_
        refine tn 47 { dst := some 69, op := Op.load 2 (.tmp 68), type := 2, pos := "l11_replica.go:37", after := #[⟨46, .data⟩, ⟨43, .guard⟩], guard := some (43, false) } ?_
        refine tn 48 { dst := some 70, op := Op.move (.tmp 4), type := 2, pos := "l11_replica.go:37", after := #[⟨43, .guard⟩], guard := some (43, false) } ?_
        refine tn 49 { dst := some 71, op := Op.binOp BinOp.eql 2 (.tmp 69) (.tmp 70) 2, type := 4, pos := "l11_replica.go:37", after := #[⟨47, .data⟩, ⟨48, .data⟩, ⟨43, .guard⟩], guard := some (43, false) } ?_
        refine tn 50 { dst := some 72, op := Op.pick (.tmp 65) (Operand.const (Value.bool true)) (.tmp 71), type := 4, pos := "l11_replica.go:37", after := #[⟨43, .data⟩, ⟨49, .data⟩, ⟨40, .guard⟩], guard := some (40, true) } ?_
        refine tk 51 { dst := some 73, op := Op.pick (.tmp 62) (.tmp 72) (Operand.const (Value.bool false)), type := 4, pos := "l11_replica.go:37", after := #[⟨40, .data⟩, ⟨50, .data⟩], guard := none } ?_
        refine wpAnyH_done (by kernel_rfl) ?_ _
        go_wp2
        refine ⟨⟨k + 1, by omega, by go_num, HA2.out, HE.out.drew⟩, by simp [intOf]; omega⟩
      | true =>
        cases g2 : (z.from_ == r.id) with
        | false =>
          have HB : Hid (Msg.sentB r kd 0 x z = false) := by
            show Msg.sentB _ _ _ _ _ = false
            simp only [beq_eq_false_iff_ne, ne_eq, beq_iff_eq] at g1 g2
            simp [Msg.sentB, g1, g2, hx0]
          have HA2 : Hid (∀ j y, j < k + 1 → ms[j]? = some y → Msg.sentB r kd 0 x y = false) := by
            intro j y hj e
            by_cases hjk : j = k
            · subst hjk; rw [HZ.out] at e; cases e; exact HB.out
            · exact HA.out j y (by omega) e
          go_wp2
          refine wp_region_held_drew (S := (fun W' : World => W'.cell? ⟨b1, off + k * 7, none⟩ = some (.int .i64 z.kind) ∧ W'.cell? ⟨b1, off + k * 7 + 1, none⟩ = some (.int .i64 z.view) ∧ W'.cell? ⟨b1, off + k * 7 + 2, none⟩ = some (.int .i64 z.from_) ∧ W'.cell? ⟨b1, off + k * 7 + 3, none⟩ = some (.int .i64 z.slot) ∧ W'.cell? ⟨b1, off + k * 7 + 4, none⟩ = some (.int .i64 z.value) ∧ W'.cell? ⟨rb, 0, none⟩ = some (.int .i64 r.id) ∧ W'.cell? ⟨rb, 1, none⟩ = some (.int .i64 r.view))) (by kernel_rfl) (HS.out _ HE.out.drew) (fun hHeld => ?_)
          refine tk 0 { dst := some 22, op := Op.move (.tmp 12), type := 97, pos := "l11_replica.go:37", after := #[], guard := none } ?_
          refine tk 1 { dst := some 23, op := Op.nilCheck (.tmp 22), type := 0, pos := "l11_replica.go:37", after := #[⟨0, .data⟩], guard := none } ?_
          refine tk 2 { dst := some 24, op := Op.fieldAddr 40 (.tmp 23) 0, type := 0, pos := "l11_replica.go:37", after := #[⟨1, .data⟩], guard := none } ?_
          refine tk 3 { dst := some 25, op := Op.load 2 (.tmp 24), type := 2, pos := "l11_replica.go:37", after := #[⟨2, .data⟩], guard := none } ?_
          refine tk 4 { dst := some 26, op := Op.move (.tmp 2), type := 2, pos := "l11_replica.go:37", after := #[], guard := none } ?_
          refine tk 5 { dst := some 27, op := Op.binOp BinOp.eql 2 (.tmp 25) (.tmp 26) 2, type := 4, pos := "l11_replica.go:37", after := #[⟨3, .data⟩, ⟨4, .data⟩], guard := none } ?_
          refine tk 6 { dst := some 28, op := Op.move (.tmp 27), type := 4, pos := "l11_replica.go:37", after := #[⟨5, .data⟩], guard := none } ?_
          refine tk 7 { dst := some 29, op := Op.move (.tmp 12), type := 97, pos := "l11_replica.go:37", after := #[⟨6, .guard⟩], guard := some (6, true) } ?_
          refine tk 8 { dst := some 30, op := Op.nilCheck (.tmp 29), type := 0, pos := "l11_replica.go:37", after := #[⟨7, .data⟩, ⟨6, .guard⟩], guard := some (6, true) } ?_
          refine tk 9 { dst := some 31, op := Op.fieldAddr 40 (.tmp 30) 2, type := 0, pos := "l11_replica.go:37", after := #[⟨8, .data⟩, ⟨6, .guard⟩], guard := some (6, true) } ?_
          refine tk 10 { dst := some 32, op := Op.load 2 (.tmp 31), type := 2, pos := "l11_replica.go:37", after := #[⟨9, .data⟩, ⟨6, .guard⟩], guard := some (6, true) } ?_
          refine tk 11 { dst := some 33, op := Op.move (.tmp 1), type := 72, pos := "l11_replica.go:37", after := #[⟨6, .guard⟩], guard := some (6, true) } ?_
          refine tk 12 { dst := some 34, op := Op.nilCheck (.tmp 33), type := 0, pos := "l11_replica.go:37", after := #[⟨11, .data⟩, ⟨6, .guard⟩], guard := some (6, true) } ?_
          refine tk 13 { dst := some 35, op := Op.fieldAddr 29 (.tmp 34) 0, type := 0, pos := "l11_replica.go:37", after := #[⟨12, .data⟩, ⟨6, .guard⟩], guard := some (6, true) } ?_
          refine tk 14 { dst := some 36, op := Op.load 2 (.tmp 35), type := 2, pos := "l11_replica.go:37", after := #[⟨13, .data⟩, ⟨6, .guard⟩], guard := some (6, true) } ?_
          refine tk 15 { dst := some 37, op := Op.binOp BinOp.eql 2 (.tmp 32) (.tmp 36) 2, type := 4, pos := "l11_replica.go:37", after := #[⟨10, .data⟩, ⟨14, .data⟩, ⟨6, .guard⟩], guard := some (6, true) } ?_
          refine tk 16 { dst := some 38, op := Op.pick (.tmp 28) (.tmp 37) (Operand.const (Value.bool false)), type := 4, pos := "l11_replica.go:37", after := #[⟨6, .data⟩, ⟨15, .data⟩], guard := none } ?_
          refine tk 17 { dst := some 39, op := Op.move (.tmp 38), type := 4, pos := "l11_replica.go:37", after := #[⟨16, .data⟩, ⟨6, .chain⟩], guard := none } ?_
          refine tn 18 { dst := some 40, op := Op.move (.tmp 12), type := 97, pos := "l11_replica.go:37", after := #[⟨17, .guard⟩], guard := some (17, true) } ?_
          refine tn 19 { dst := some 41, op := Op.nilCheck (.tmp 40), type := 0, pos := "l11_replica.go:37", after := #[⟨18, .data⟩, ⟨17, .guard⟩], guard := some (17, true) } ?_
          refine tn 20 { dst := some 42, op := Op.fieldAddr 40 (.tmp 41) 1, type := 0, pos := "l11_replica.go:37", after := #[⟨19, .data⟩, ⟨17, .guard⟩], guard := some (17, true) } ?_
          refine tn 21 { dst := some 43, op := Op.load 2 (.tmp 42), type := 2, pos := "l11_replica.go:37", after := #[⟨20, .data⟩, ⟨17, .guard⟩], guard := some (17, true) } ?_
          refine tn 22 { dst := some 44, op := Op.move (.tmp 1), type := 72, pos := "l11_replica.go:37", after := #[⟨17, .guard⟩], guard := some (17, true) } ?_
          refine tn 23 { dst := some 45, op := Op.nilCheck (.tmp 44), type := 0, pos := "l11_replica.go:37", after := #[⟨22, .data⟩, ⟨17, .guard⟩], guard := some (17, true) } ?_
          refine tn 24 { dst := some 46, op := Op.fieldAddr 29 (.tmp 45) 1, type := 0, pos := "l11_replica.go:37", after := #[⟨23, .data⟩, ⟨17, .guard⟩], guard := some (17, true) } ?_
          refine tn 25 { dst := some 47, op := Op.load 2 (.tmp 46), type := 2, pos := "l11_replica.go:37", after := #[⟨24, .data⟩, ⟨17, .guard⟩], guard := some (17, true) } ?_
          refine tn 26 { dst := some 48, op := Op.binOp BinOp.eql 2 (.tmp 43) (.tmp 47) 2, type := 4, pos := "l11_replica.go:37", after := #[⟨21, .data⟩, ⟨25, .data⟩, ⟨17, .guard⟩], guard := some (17, true) } ?_
          refine tk 27 { dst := some 49, op := Op.pick (.tmp 39) (.tmp 48) (Operand.const (Value.bool false)), type := 4, pos := "l11_replica.go:37", after := #[⟨17, .data⟩, ⟨26, .data⟩], guard := none } ?_
          refine tk 28 { dst := some 50, op := Op.move (.tmp 49), type := 4, pos := "l11_replica.go:37", after := #[⟨27, .data⟩, ⟨17, .chain⟩], guard := none } ?_
          refine tn 29 { dst := some 51, op := Op.move (.tmp 3), type := 2, pos := "l11_replica.go:37", after := #[⟨28, .guard⟩], guard := some (28, true) } ?_
          refine tn 30 { dst := some 52, op := Op.binOp BinOp.eql 2 (.tmp 51) (Operand.const (Value.int IntKind.i64 0)) 2, type := 4, pos := "l11_replica.go:37", after := #[⟨29, .data⟩, ⟨28, .guard⟩], guard := some (28, true) } ?_
          refine tn 31 { dst := some 53, op := Op.move (.tmp 52), type := 4, pos := "l11_replica.go:37", after := #[⟨30, .data⟩, ⟨28, .chain⟩, ⟨28, .guard⟩], guard := some (28, true) } ?_
          refine tn 32 { dst := some 54, op := Op.move (.tmp 12), type := 97, pos := "l11_replica.go:37", after := #[⟨31, .guard⟩], guard := some (31, false) } ?_
          refine tn 33 { dst := some 55, op := Op.nilCheck (.tmp 54), type := 0, pos := "l11_replica.go:37", after := #[⟨32, .data⟩, ⟨31, .guard⟩], guard := some (31, false) } ?_
          refine tn 34 { dst := some 56, op := Op.fieldAddr 40 (.tmp 55) 3, type := 0, pos := "l11_replica.go:37", after := #[⟨33, .data⟩, ⟨31, .guard⟩], guard := some (31, false) } ?_
          refine tn 35 { dst := some 57, op := Op.load 2 (.tmp 56), type := 2, pos := "l11_replica.go:37", after := #[⟨34, .data⟩, ⟨31, .guard⟩], guard := some (31, false) } ?_
          refine tn 36 { dst := some 58, op := Op.move (.tmp 3), type := 2, pos := "l11_replica.go:37", after := #[⟨31, .guard⟩], guard := some (31, false) } ?_
          refine tn 37 { dst := some 59, op := Op.binOp BinOp.eql 2 (.tmp 57) (.tmp 58) 2, type := 4, pos := "l11_replica.go:37", after := #[⟨35, .data⟩, ⟨36, .data⟩, ⟨31, .guard⟩], guard := some (31, false) } ?_
          refine tn 38 { dst := some 60, op := Op.pick (.tmp 53) (Operand.const (Value.bool true)) (.tmp 59), type := 4, pos := "l11_replica.go:37", after := #[⟨31, .data⟩, ⟨37, .data⟩, ⟨28, .guard⟩], guard := some (28, true) } ?_
          refine tk 39 { dst := some 61, op := Op.pick (.tmp 50) (.tmp 60) (Operand.const (Value.bool false)), type := 4, pos := "l11_replica.go:37", after := #[⟨28, .data⟩, ⟨38, .data⟩], guard := none } ?_
          refine tk 40 { dst := some 62, op := Op.move (.tmp 61), type := 4, pos := "l11_replica.go:37", after := #[⟨39, .data⟩, ⟨31, .chain⟩], guard := none } ?_
          refine tn 41 { dst := some 63, op := Op.move (.tmp 4), type := 2, pos := "l11_replica.go:37", after := #[⟨40, .guard⟩], guard := some (40, true) } ?_
          refine tn 42 { dst := some 64, op := Op.binOp BinOp.lss 2 (.tmp 63) (Operand.const (Value.int IntKind.i64 0)) 2, type := 4, pos := "l11_replica.go:37", after := #[⟨41, .data⟩, ⟨40, .guard⟩], guard := some (40, true) } ?_
          (try rw [PX.out])
          refine tn 43 { dst := some 65, op := Op.move (.tmp 64), type := 4, pos := "l11_replica.go:37", after := #[⟨42, .data⟩, ⟨40, .chain⟩, ⟨40, .guard⟩], guard := some (40, true) } ?_
          refine tn 44 { dst := some 66, op := Op.move (.tmp 12), type := 97, pos := "l11_replica.go:37", after := #[⟨43, .guard⟩], guard := some (43, false) } ?_
          refine tn 45 { dst := some 67, op := Op.nilCheck (.tmp 66), type := 0, pos := "l11_replica.go:37", after := #[⟨44, .data⟩, ⟨43, .guard⟩], guard := some (43, false) } ?_
          refine tn 46 { dst := some 68, op := Op.fieldAddr 40 (.tmp 67) 4, type := 0, pos := "l11_replica.go:37", after := #[⟨45, .data⟩, ⟨43, .guard⟩], guard := some (43, false) } ?_
          refine tn 47 { dst := some 69, op := Op.load 2 (.tmp 68), type := 2, pos := "l11_replica.go:37", after := #[⟨46, .data⟩, ⟨43, .guard⟩], guard := some (43, false) } ?_
          refine tn 48 { dst := some 70, op := Op.move (.tmp 4), type := 2, pos := "l11_replica.go:37", after := #[⟨43, .guard⟩], guard := some (43, false) } ?_
          refine tn 49 { dst := some 71, op := Op.binOp BinOp.eql 2 (.tmp 69) (.tmp 70) 2, type := 4, pos := "l11_replica.go:37", after := #[⟨47, .data⟩, ⟨48, .data⟩, ⟨43, .guard⟩], guard := some (43, false) } ?_
          refine tn 50 { dst := some 72, op := Op.pick (.tmp 65) (Operand.const (Value.bool true)) (.tmp 71), type := 4, pos := "l11_replica.go:37", after := #[⟨43, .data⟩, ⟨49, .data⟩, ⟨40, .guard⟩], guard := some (40, true) } ?_
          refine tk 51 { dst := some 73, op := Op.pick (.tmp 62) (.tmp 72) (Operand.const (Value.bool false)), type := 4, pos := "l11_replica.go:37", after := #[⟨40, .data⟩, ⟨50, .data⟩], guard := none } ?_
          refine wpAnyH_done (by kernel_rfl) ?_ _
          go_wp2
          refine ⟨⟨k + 1, by omega, by go_num, HA2.out, HE.out.drew⟩, by simp [intOf]; omega⟩
        | true =>
          cases g3 : (z.view == r.view) with
          | false =>
            have HB : Hid (Msg.sentB r kd 0 x z = false) := by
              show Msg.sentB _ _ _ _ _ = false
              simp only [beq_eq_false_iff_ne, ne_eq, beq_iff_eq] at g1 g2 g3
              simp [Msg.sentB, g1, g2, g3, hx0]
            have HA2 : Hid (∀ j y, j < k + 1 → ms[j]? = some y → Msg.sentB r kd 0 x y = false) := by
              intro j y hj e
              by_cases hjk : j = k
              · subst hjk; rw [HZ.out] at e; cases e; exact HB.out
              · exact HA.out j y (by omega) e
            go_wp2
            refine wp_region_held_drew (S := (fun W' : World => W'.cell? ⟨b1, off + k * 7, none⟩ = some (.int .i64 z.kind) ∧ W'.cell? ⟨b1, off + k * 7 + 1, none⟩ = some (.int .i64 z.view) ∧ W'.cell? ⟨b1, off + k * 7 + 2, none⟩ = some (.int .i64 z.from_) ∧ W'.cell? ⟨b1, off + k * 7 + 3, none⟩ = some (.int .i64 z.slot) ∧ W'.cell? ⟨b1, off + k * 7 + 4, none⟩ = some (.int .i64 z.value) ∧ W'.cell? ⟨rb, 0, none⟩ = some (.int .i64 r.id) ∧ W'.cell? ⟨rb, 1, none⟩ = some (.int .i64 r.view))) (by kernel_rfl) (HS.out _ HE.out.drew) (fun hHeld => ?_)
            refine tk 0 { dst := some 22, op := Op.move (.tmp 12), type := 97, pos := "l11_replica.go:37", after := #[], guard := none } ?_
            refine tk 1 { dst := some 23, op := Op.nilCheck (.tmp 22), type := 0, pos := "l11_replica.go:37", after := #[⟨0, .data⟩], guard := none } ?_
            refine tk 2 { dst := some 24, op := Op.fieldAddr 40 (.tmp 23) 0, type := 0, pos := "l11_replica.go:37", after := #[⟨1, .data⟩], guard := none } ?_
            refine tk 3 { dst := some 25, op := Op.load 2 (.tmp 24), type := 2, pos := "l11_replica.go:37", after := #[⟨2, .data⟩], guard := none } ?_
            refine tk 4 { dst := some 26, op := Op.move (.tmp 2), type := 2, pos := "l11_replica.go:37", after := #[], guard := none } ?_
            refine tk 5 { dst := some 27, op := Op.binOp BinOp.eql 2 (.tmp 25) (.tmp 26) 2, type := 4, pos := "l11_replica.go:37", after := #[⟨3, .data⟩, ⟨4, .data⟩], guard := none } ?_
            refine tk 6 { dst := some 28, op := Op.move (.tmp 27), type := 4, pos := "l11_replica.go:37", after := #[⟨5, .data⟩], guard := none } ?_
            refine tk 7 { dst := some 29, op := Op.move (.tmp 12), type := 97, pos := "l11_replica.go:37", after := #[⟨6, .guard⟩], guard := some (6, true) } ?_
            refine tk 8 { dst := some 30, op := Op.nilCheck (.tmp 29), type := 0, pos := "l11_replica.go:37", after := #[⟨7, .data⟩, ⟨6, .guard⟩], guard := some (6, true) } ?_
            refine tk 9 { dst := some 31, op := Op.fieldAddr 40 (.tmp 30) 2, type := 0, pos := "l11_replica.go:37", after := #[⟨8, .data⟩, ⟨6, .guard⟩], guard := some (6, true) } ?_
            refine tk 10 { dst := some 32, op := Op.load 2 (.tmp 31), type := 2, pos := "l11_replica.go:37", after := #[⟨9, .data⟩, ⟨6, .guard⟩], guard := some (6, true) } ?_
            refine tk 11 { dst := some 33, op := Op.move (.tmp 1), type := 72, pos := "l11_replica.go:37", after := #[⟨6, .guard⟩], guard := some (6, true) } ?_
            refine tk 12 { dst := some 34, op := Op.nilCheck (.tmp 33), type := 0, pos := "l11_replica.go:37", after := #[⟨11, .data⟩, ⟨6, .guard⟩], guard := some (6, true) } ?_
            refine tk 13 { dst := some 35, op := Op.fieldAddr 29 (.tmp 34) 0, type := 0, pos := "l11_replica.go:37", after := #[⟨12, .data⟩, ⟨6, .guard⟩], guard := some (6, true) } ?_
            refine tk 14 { dst := some 36, op := Op.load 2 (.tmp 35), type := 2, pos := "l11_replica.go:37", after := #[⟨13, .data⟩, ⟨6, .guard⟩], guard := some (6, true) } ?_
            refine tk 15 { dst := some 37, op := Op.binOp BinOp.eql 2 (.tmp 32) (.tmp 36) 2, type := 4, pos := "l11_replica.go:37", after := #[⟨10, .data⟩, ⟨14, .data⟩, ⟨6, .guard⟩], guard := some (6, true) } ?_
            refine tk 16 { dst := some 38, op := Op.pick (.tmp 28) (.tmp 37) (Operand.const (Value.bool false)), type := 4, pos := "l11_replica.go:37", after := #[⟨6, .data⟩, ⟨15, .data⟩], guard := none } ?_
            refine tk 17 { dst := some 39, op := Op.move (.tmp 38), type := 4, pos := "l11_replica.go:37", after := #[⟨16, .data⟩, ⟨6, .chain⟩], guard := none } ?_
            refine tk 18 { dst := some 40, op := Op.move (.tmp 12), type := 97, pos := "l11_replica.go:37", after := #[⟨17, .guard⟩], guard := some (17, true) } ?_
            refine tk 19 { dst := some 41, op := Op.nilCheck (.tmp 40), type := 0, pos := "l11_replica.go:37", after := #[⟨18, .data⟩, ⟨17, .guard⟩], guard := some (17, true) } ?_
            refine tk 20 { dst := some 42, op := Op.fieldAddr 40 (.tmp 41) 1, type := 0, pos := "l11_replica.go:37", after := #[⟨19, .data⟩, ⟨17, .guard⟩], guard := some (17, true) } ?_
            refine tk 21 { dst := some 43, op := Op.load 2 (.tmp 42), type := 2, pos := "l11_replica.go:37", after := #[⟨20, .data⟩, ⟨17, .guard⟩], guard := some (17, true) } ?_
            refine tk 22 { dst := some 44, op := Op.move (.tmp 1), type := 72, pos := "l11_replica.go:37", after := #[⟨17, .guard⟩], guard := some (17, true) } ?_
            refine tk 23 { dst := some 45, op := Op.nilCheck (.tmp 44), type := 0, pos := "l11_replica.go:37", after := #[⟨22, .data⟩, ⟨17, .guard⟩], guard := some (17, true) } ?_
            refine tk 24 { dst := some 46, op := Op.fieldAddr 29 (.tmp 45) 1, type := 0, pos := "l11_replica.go:37", after := #[⟨23, .data⟩, ⟨17, .guard⟩], guard := some (17, true) } ?_
            refine tk 25 { dst := some 47, op := Op.load 2 (.tmp 46), type := 2, pos := "l11_replica.go:37", after := #[⟨24, .data⟩, ⟨17, .guard⟩], guard := some (17, true) } ?_
            refine tk 26 { dst := some 48, op := Op.binOp BinOp.eql 2 (.tmp 43) (.tmp 47) 2, type := 4, pos := "l11_replica.go:37", after := #[⟨21, .data⟩, ⟨25, .data⟩, ⟨17, .guard⟩], guard := some (17, true) } ?_
            refine tk 27 { dst := some 49, op := Op.pick (.tmp 39) (.tmp 48) (Operand.const (Value.bool false)), type := 4, pos := "l11_replica.go:37", after := #[⟨17, .data⟩, ⟨26, .data⟩], guard := none } ?_
            refine tk 28 { dst := some 50, op := Op.move (.tmp 49), type := 4, pos := "l11_replica.go:37", after := #[⟨27, .data⟩, ⟨17, .chain⟩], guard := none } ?_
            refine tn 29 { dst := some 51, op := Op.move (.tmp 3), type := 2, pos := "l11_replica.go:37", after := #[⟨28, .guard⟩], guard := some (28, true) } ?_
            refine tn 30 { dst := some 52, op := Op.binOp BinOp.eql 2 (.tmp 51) (Operand.const (Value.int IntKind.i64 0)) 2, type := 4, pos := "l11_replica.go:37", after := #[⟨29, .data⟩, ⟨28, .guard⟩], guard := some (28, true) } ?_
            refine tn 31 { dst := some 53, op := Op.move (.tmp 52), type := 4, pos := "l11_replica.go:37", after := #[⟨30, .data⟩, ⟨28, .chain⟩, ⟨28, .guard⟩], guard := some (28, true) } ?_
            refine tn 32 { dst := some 54, op := Op.move (.tmp 12), type := 97, pos := "l11_replica.go:37", after := #[⟨31, .guard⟩], guard := some (31, false) } ?_
            refine tn 33 { dst := some 55, op := Op.nilCheck (.tmp 54), type := 0, pos := "l11_replica.go:37", after := #[⟨32, .data⟩, ⟨31, .guard⟩], guard := some (31, false) } ?_
            refine tn 34 { dst := some 56, op := Op.fieldAddr 40 (.tmp 55) 3, type := 0, pos := "l11_replica.go:37", after := #[⟨33, .data⟩, ⟨31, .guard⟩], guard := some (31, false) } ?_
            refine tn 35 { dst := some 57, op := Op.load 2 (.tmp 56), type := 2, pos := "l11_replica.go:37", after := #[⟨34, .data⟩, ⟨31, .guard⟩], guard := some (31, false) } ?_
            refine tn 36 { dst := some 58, op := Op.move (.tmp 3), type := 2, pos := "l11_replica.go:37", after := #[⟨31, .guard⟩], guard := some (31, false) } ?_
            refine tn 37 { dst := some 59, op := Op.binOp BinOp.eql 2 (.tmp 57) (.tmp 58) 2, type := 4, pos := "l11_replica.go:37", after := #[⟨35, .data⟩, ⟨36, .data⟩, ⟨31, .guard⟩], guard := some (31, false) } ?_
            refine tn 38 { dst := some 60, op := Op.pick (.tmp 53) (Operand.const (Value.bool true)) (.tmp 59), type := 4, pos := "l11_replica.go:37", after := #[⟨31, .data⟩, ⟨37, .data⟩, ⟨28, .guard⟩], guard := some (28, true) } ?_
            refine tk 39 { dst := some 61, op := Op.pick (.tmp 50) (.tmp 60) (Operand.const (Value.bool false)), type := 4, pos := "l11_replica.go:37", after := #[⟨28, .data⟩, ⟨38, .data⟩], guard := none } ?_
            refine tk 40 { dst := some 62, op := Op.move (.tmp 61), type := 4, pos := "l11_replica.go:37", after := #[⟨39, .data⟩, ⟨31, .chain⟩], guard := none } ?_
            refine tn 41 { dst := some 63, op := Op.move (.tmp 4), type := 2, pos := "l11_replica.go:37", after := #[⟨40, .guard⟩], guard := some (40, true) } ?_
            refine tn 42 { dst := some 64, op := Op.binOp BinOp.lss 2 (.tmp 63) (Operand.const (Value.int IntKind.i64 0)) 2, type := 4, pos := "l11_replica.go:37", after := #[⟨41, .data⟩, ⟨40, .guard⟩], guard := some (40, true) } ?_
            (try rw [PX.out])
            refine tn 43 { dst := some 65, op := Op.move (.tmp 64), type := 4, pos := "l11_replica.go:37", after := #[⟨42, .data⟩, ⟨40, .chain⟩, ⟨40, .guard⟩], guard := some (40, true) } ?_
            refine tn 44 { dst := some 66, op := Op.move (.tmp 12), type := 97, pos := "l11_replica.go:37", after := #[⟨43, .guard⟩], guard := some (43, false) } ?_
            refine tn 45 { dst := some 67, op := Op.nilCheck (.tmp 66), type := 0, pos := "l11_replica.go:37", after := #[⟨44, .data⟩, ⟨43, .guard⟩], guard := some (43, false) } ?_
            refine tn 46 { dst := some 68, op := Op.fieldAddr 40 (.tmp 67) 4, type := 0, pos := "l11_replica.go:37", after := #[⟨45, .data⟩, ⟨43, .guard⟩], guard := some (43, false) } ?_
            refine tn 47 { dst := some 69, op := Op.load 2 (.tmp 68), type := 2, pos := "l11_replica.go:37", after := #[⟨46, .data⟩, ⟨43, .guard⟩], guard := some (43, false) } ?_
            refine tn 48 { dst := some 70, op := Op.move (.tmp 4), type := 2, pos := "l11_replica.go:37", after := #[⟨43, .guard⟩], guard := some (43, false) } ?_
            refine tn 49 { dst := some 71, op := Op.binOp BinOp.eql 2 (.tmp 69) (.tmp 70) 2, type := 4, pos := "l11_replica.go:37", after := #[⟨47, .data⟩, ⟨48, .data⟩, ⟨43, .guard⟩], guard := some (43, false) } ?_
            refine tn 50 { dst := some 72, op := Op.pick (.tmp 65) (Operand.const (Value.bool true)) (.tmp 71), type := 4, pos := "l11_replica.go:37", after := #[⟨43, .data⟩, ⟨49, .data⟩, ⟨40, .guard⟩], guard := some (40, true) } ?_
            refine tk 51 { dst := some 73, op := Op.pick (.tmp 62) (.tmp 72) (Operand.const (Value.bool false)), type := 4, pos := "l11_replica.go:37", after := #[⟨40, .data⟩, ⟨50, .data⟩], guard := none } ?_
            refine wpAnyH_done (by kernel_rfl) ?_ _
            go_wp2
            refine ⟨⟨k + 1, by omega, by go_num, HA2.out, HE.out.drew⟩, by simp [intOf]; omega⟩
          | true =>
            cases g5 : (z.value == x) with
            | false =>
              have HB : Hid (Msg.sentB r kd 0 x z = false) := by
                show Msg.sentB _ _ _ _ _ = false
                simp only [beq_eq_false_iff_ne, ne_eq, beq_iff_eq] at g1 g2 g3 g5
                simp [Msg.sentB, g1, g2, g3, g5, hx0]
              have HA2 : Hid (∀ j y, j < k + 1 → ms[j]? = some y → Msg.sentB r kd 0 x y = false) := by
                intro j y hj e
                by_cases hjk : j = k
                · subst hjk; rw [HZ.out] at e; cases e; exact HB.out
                · exact HA.out j y (by omega) e
              go_wp2
              refine wp_region_held_drew (S := (fun W' : World => W'.cell? ⟨b1, off + k * 7, none⟩ = some (.int .i64 z.kind) ∧ W'.cell? ⟨b1, off + k * 7 + 1, none⟩ = some (.int .i64 z.view) ∧ W'.cell? ⟨b1, off + k * 7 + 2, none⟩ = some (.int .i64 z.from_) ∧ W'.cell? ⟨b1, off + k * 7 + 3, none⟩ = some (.int .i64 z.slot) ∧ W'.cell? ⟨b1, off + k * 7 + 4, none⟩ = some (.int .i64 z.value) ∧ W'.cell? ⟨rb, 0, none⟩ = some (.int .i64 r.id) ∧ W'.cell? ⟨rb, 1, none⟩ = some (.int .i64 r.view))) (by kernel_rfl) (HS.out _ HE.out.drew) (fun hHeld => ?_)
              refine tk 0 { dst := some 22, op := Op.move (.tmp 12), type := 97, pos := "l11_replica.go:37", after := #[], guard := none } ?_
              refine tk 1 { dst := some 23, op := Op.nilCheck (.tmp 22), type := 0, pos := "l11_replica.go:37", after := #[⟨0, .data⟩], guard := none } ?_
              refine tk 2 { dst := some 24, op := Op.fieldAddr 40 (.tmp 23) 0, type := 0, pos := "l11_replica.go:37", after := #[⟨1, .data⟩], guard := none } ?_
              refine tk 3 { dst := some 25, op := Op.load 2 (.tmp 24), type := 2, pos := "l11_replica.go:37", after := #[⟨2, .data⟩], guard := none } ?_
              refine tk 4 { dst := some 26, op := Op.move (.tmp 2), type := 2, pos := "l11_replica.go:37", after := #[], guard := none } ?_
              refine tk 5 { dst := some 27, op := Op.binOp BinOp.eql 2 (.tmp 25) (.tmp 26) 2, type := 4, pos := "l11_replica.go:37", after := #[⟨3, .data⟩, ⟨4, .data⟩], guard := none } ?_
              refine tk 6 { dst := some 28, op := Op.move (.tmp 27), type := 4, pos := "l11_replica.go:37", after := #[⟨5, .data⟩], guard := none } ?_
              refine tk 7 { dst := some 29, op := Op.move (.tmp 12), type := 97, pos := "l11_replica.go:37", after := #[⟨6, .guard⟩], guard := some (6, true) } ?_
              refine tk 8 { dst := some 30, op := Op.nilCheck (.tmp 29), type := 0, pos := "l11_replica.go:37", after := #[⟨7, .data⟩, ⟨6, .guard⟩], guard := some (6, true) } ?_
              refine tk 9 { dst := some 31, op := Op.fieldAddr 40 (.tmp 30) 2, type := 0, pos := "l11_replica.go:37", after := #[⟨8, .data⟩, ⟨6, .guard⟩], guard := some (6, true) } ?_
              refine tk 10 { dst := some 32, op := Op.load 2 (.tmp 31), type := 2, pos := "l11_replica.go:37", after := #[⟨9, .data⟩, ⟨6, .guard⟩], guard := some (6, true) } ?_
              refine tk 11 { dst := some 33, op := Op.move (.tmp 1), type := 72, pos := "l11_replica.go:37", after := #[⟨6, .guard⟩], guard := some (6, true) } ?_
              refine tk 12 { dst := some 34, op := Op.nilCheck (.tmp 33), type := 0, pos := "l11_replica.go:37", after := #[⟨11, .data⟩, ⟨6, .guard⟩], guard := some (6, true) } ?_
              refine tk 13 { dst := some 35, op := Op.fieldAddr 29 (.tmp 34) 0, type := 0, pos := "l11_replica.go:37", after := #[⟨12, .data⟩, ⟨6, .guard⟩], guard := some (6, true) } ?_
              refine tk 14 { dst := some 36, op := Op.load 2 (.tmp 35), type := 2, pos := "l11_replica.go:37", after := #[⟨13, .data⟩, ⟨6, .guard⟩], guard := some (6, true) } ?_
              refine tk 15 { dst := some 37, op := Op.binOp BinOp.eql 2 (.tmp 32) (.tmp 36) 2, type := 4, pos := "l11_replica.go:37", after := #[⟨10, .data⟩, ⟨14, .data⟩, ⟨6, .guard⟩], guard := some (6, true) } ?_
              refine tk 16 { dst := some 38, op := Op.pick (.tmp 28) (.tmp 37) (Operand.const (Value.bool false)), type := 4, pos := "l11_replica.go:37", after := #[⟨6, .data⟩, ⟨15, .data⟩], guard := none } ?_
              refine tk 17 { dst := some 39, op := Op.move (.tmp 38), type := 4, pos := "l11_replica.go:37", after := #[⟨16, .data⟩, ⟨6, .chain⟩], guard := none } ?_
              refine tk 18 { dst := some 40, op := Op.move (.tmp 12), type := 97, pos := "l11_replica.go:37", after := #[⟨17, .guard⟩], guard := some (17, true) } ?_
              refine tk 19 { dst := some 41, op := Op.nilCheck (.tmp 40), type := 0, pos := "l11_replica.go:37", after := #[⟨18, .data⟩, ⟨17, .guard⟩], guard := some (17, true) } ?_
              refine tk 20 { dst := some 42, op := Op.fieldAddr 40 (.tmp 41) 1, type := 0, pos := "l11_replica.go:37", after := #[⟨19, .data⟩, ⟨17, .guard⟩], guard := some (17, true) } ?_
              refine tk 21 { dst := some 43, op := Op.load 2 (.tmp 42), type := 2, pos := "l11_replica.go:37", after := #[⟨20, .data⟩, ⟨17, .guard⟩], guard := some (17, true) } ?_
              refine tk 22 { dst := some 44, op := Op.move (.tmp 1), type := 72, pos := "l11_replica.go:37", after := #[⟨17, .guard⟩], guard := some (17, true) } ?_
              refine tk 23 { dst := some 45, op := Op.nilCheck (.tmp 44), type := 0, pos := "l11_replica.go:37", after := #[⟨22, .data⟩, ⟨17, .guard⟩], guard := some (17, true) } ?_
              refine tk 24 { dst := some 46, op := Op.fieldAddr 29 (.tmp 45) 1, type := 0, pos := "l11_replica.go:37", after := #[⟨23, .data⟩, ⟨17, .guard⟩], guard := some (17, true) } ?_
              refine tk 25 { dst := some 47, op := Op.load 2 (.tmp 46), type := 2, pos := "l11_replica.go:37", after := #[⟨24, .data⟩, ⟨17, .guard⟩], guard := some (17, true) } ?_
              refine tk 26 { dst := some 48, op := Op.binOp BinOp.eql 2 (.tmp 43) (.tmp 47) 2, type := 4, pos := "l11_replica.go:37", after := #[⟨21, .data⟩, ⟨25, .data⟩, ⟨17, .guard⟩], guard := some (17, true) } ?_
              refine tk 27 { dst := some 49, op := Op.pick (.tmp 39) (.tmp 48) (Operand.const (Value.bool false)), type := 4, pos := "l11_replica.go:37", after := #[⟨17, .data⟩, ⟨26, .data⟩], guard := none } ?_
              refine tk 28 { dst := some 50, op := Op.move (.tmp 49), type := 4, pos := "l11_replica.go:37", after := #[⟨27, .data⟩, ⟨17, .chain⟩], guard := none } ?_
              refine tk 29 { dst := some 51, op := Op.move (.tmp 3), type := 2, pos := "l11_replica.go:37", after := #[⟨28, .guard⟩], guard := some (28, true) } ?_
              refine tk 30 { dst := some 52, op := Op.binOp BinOp.eql 2 (.tmp 51) (Operand.const (Value.int IntKind.i64 0)) 2, type := 4, pos := "l11_replica.go:37", after := #[⟨29, .data⟩, ⟨28, .guard⟩], guard := some (28, true) } ?_
              refine tk 31 { dst := some 53, op := Op.move (.tmp 52), type := 4, pos := "l11_replica.go:37", after := #[⟨30, .data⟩, ⟨28, .chain⟩, ⟨28, .guard⟩], guard := some (28, true) } ?_
              refine tn 32 { dst := some 54, op := Op.move (.tmp 12), type := 97, pos := "l11_replica.go:37", after := #[⟨31, .guard⟩], guard := some (31, false) } ?_
              refine tn 33 { dst := some 55, op := Op.nilCheck (.tmp 54), type := 0, pos := "l11_replica.go:37", after := #[⟨32, .data⟩, ⟨31, .guard⟩], guard := some (31, false) } ?_
              refine tn 34 { dst := some 56, op := Op.fieldAddr 40 (.tmp 55) 3, type := 0, pos := "l11_replica.go:37", after := #[⟨33, .data⟩, ⟨31, .guard⟩], guard := some (31, false) } ?_
              refine tn 35 { dst := some 57, op := Op.load 2 (.tmp 56), type := 2, pos := "l11_replica.go:37", after := #[⟨34, .data⟩, ⟨31, .guard⟩], guard := some (31, false) } ?_
              refine tn 36 { dst := some 58, op := Op.move (.tmp 3), type := 2, pos := "l11_replica.go:37", after := #[⟨31, .guard⟩], guard := some (31, false) } ?_
              refine tn 37 { dst := some 59, op := Op.binOp BinOp.eql 2 (.tmp 57) (.tmp 58) 2, type := 4, pos := "l11_replica.go:37", after := #[⟨35, .data⟩, ⟨36, .data⟩, ⟨31, .guard⟩], guard := some (31, false) } ?_
              refine tk 38 { dst := some 60, op := Op.pick (.tmp 53) (Operand.const (Value.bool true)) (.tmp 59), type := 4, pos := "l11_replica.go:37", after := #[⟨31, .data⟩, ⟨37, .data⟩, ⟨28, .guard⟩], guard := some (28, true) } ?_
              refine tk 39 { dst := some 61, op := Op.pick (.tmp 50) (.tmp 60) (Operand.const (Value.bool false)), type := 4, pos := "l11_replica.go:37", after := #[⟨28, .data⟩, ⟨38, .data⟩], guard := none } ?_
              refine tk 40 { dst := some 62, op := Op.move (.tmp 61), type := 4, pos := "l11_replica.go:37", after := #[⟨39, .data⟩, ⟨31, .chain⟩], guard := none } ?_
              refine tk 41 { dst := some 63, op := Op.move (.tmp 4), type := 2, pos := "l11_replica.go:37", after := #[⟨40, .guard⟩], guard := some (40, true) } ?_
              refine tk 42 { dst := some 64, op := Op.binOp BinOp.lss 2 (.tmp 63) (Operand.const (Value.int IntKind.i64 0)) 2, type := 4, pos := "l11_replica.go:37", after := #[⟨41, .data⟩, ⟨40, .guard⟩], guard := some (40, true) } ?_
              (try rw [PX.out])
              refine tk 43 { dst := some 65, op := Op.move (.tmp 64), type := 4, pos := "l11_replica.go:37", after := #[⟨42, .data⟩, ⟨40, .chain⟩, ⟨40, .guard⟩], guard := some (40, true) } ?_
              refine tk 44 { dst := some 66, op := Op.move (.tmp 12), type := 97, pos := "l11_replica.go:37", after := #[⟨43, .guard⟩], guard := some (43, false) } ?_
              refine tk 45 { dst := some 67, op := Op.nilCheck (.tmp 66), type := 0, pos := "l11_replica.go:37", after := #[⟨44, .data⟩, ⟨43, .guard⟩], guard := some (43, false) } ?_
              refine tk 46 { dst := some 68, op := Op.fieldAddr 40 (.tmp 67) 4, type := 0, pos := "l11_replica.go:37", after := #[⟨45, .data⟩, ⟨43, .guard⟩], guard := some (43, false) } ?_
              refine tk 47 { dst := some 69, op := Op.load 2 (.tmp 68), type := 2, pos := "l11_replica.go:37", after := #[⟨46, .data⟩, ⟨43, .guard⟩], guard := some (43, false) } ?_
              refine tk 48 { dst := some 70, op := Op.move (.tmp 4), type := 2, pos := "l11_replica.go:37", after := #[⟨43, .guard⟩], guard := some (43, false) } ?_
              refine tk 49 { dst := some 71, op := Op.binOp BinOp.eql 2 (.tmp 69) (.tmp 70) 2, type := 4, pos := "l11_replica.go:37", after := #[⟨47, .data⟩, ⟨48, .data⟩, ⟨43, .guard⟩], guard := some (43, false) } ?_
              refine tk 50 { dst := some 72, op := Op.pick (.tmp 65) (Operand.const (Value.bool true)) (.tmp 71), type := 4, pos := "l11_replica.go:37", after := #[⟨43, .data⟩, ⟨49, .data⟩, ⟨40, .guard⟩], guard := some (40, true) } ?_
              refine tk 51 { dst := some 73, op := Op.pick (.tmp 62) (.tmp 72) (Operand.const (Value.bool false)), type := 4, pos := "l11_replica.go:37", after := #[⟨40, .data⟩, ⟨50, .data⟩], guard := none } ?_
              refine wpAnyH_done (by kernel_rfl) ?_ _
              go_wp2
              refine ⟨⟨k + 1, by omega, by go_num, HA2.out, HE.out.drew⟩, by simp [intOf]; omega⟩
            | true =>
              have HB : Hid (Msg.sentB r kd 0 x z = true) := by
                show Msg.sentB _ _ _ _ _ = true
                simp only [beq_eq_false_iff_ne, ne_eq, beq_iff_eq] at g1 g2 g3 g5
                simp [Msg.sentB, g1, g2, g3, g5, hx0]
              have HF : Hid (Msg.sent ms r kd 0 x = true) := any_hitM HZ.out HB.out
              go_wp2
              refine wp_region_held_drew (S := (fun W' : World => W'.cell? ⟨b1, off + k * 7, none⟩ = some (.int .i64 z.kind) ∧ W'.cell? ⟨b1, off + k * 7 + 1, none⟩ = some (.int .i64 z.view) ∧ W'.cell? ⟨b1, off + k * 7 + 2, none⟩ = some (.int .i64 z.from_) ∧ W'.cell? ⟨b1, off + k * 7 + 3, none⟩ = some (.int .i64 z.slot) ∧ W'.cell? ⟨b1, off + k * 7 + 4, none⟩ = some (.int .i64 z.value) ∧ W'.cell? ⟨rb, 0, none⟩ = some (.int .i64 r.id) ∧ W'.cell? ⟨rb, 1, none⟩ = some (.int .i64 r.view))) (by kernel_rfl) (HS.out _ HE.out.drew) (fun hHeld => ?_)
              refine tk 0 { dst := some 22, op := Op.move (.tmp 12), type := 97, pos := "l11_replica.go:37", after := #[], guard := none } ?_
              refine tk 1 { dst := some 23, op := Op.nilCheck (.tmp 22), type := 0, pos := "l11_replica.go:37", after := #[⟨0, .data⟩], guard := none } ?_
              refine tk 2 { dst := some 24, op := Op.fieldAddr 40 (.tmp 23) 0, type := 0, pos := "l11_replica.go:37", after := #[⟨1, .data⟩], guard := none } ?_
              refine tk 3 { dst := some 25, op := Op.load 2 (.tmp 24), type := 2, pos := "l11_replica.go:37", after := #[⟨2, .data⟩], guard := none } ?_
              refine tk 4 { dst := some 26, op := Op.move (.tmp 2), type := 2, pos := "l11_replica.go:37", after := #[], guard := none } ?_
              refine tk 5 { dst := some 27, op := Op.binOp BinOp.eql 2 (.tmp 25) (.tmp 26) 2, type := 4, pos := "l11_replica.go:37", after := #[⟨3, .data⟩, ⟨4, .data⟩], guard := none } ?_
              refine tk 6 { dst := some 28, op := Op.move (.tmp 27), type := 4, pos := "l11_replica.go:37", after := #[⟨5, .data⟩], guard := none } ?_
              refine tk 7 { dst := some 29, op := Op.move (.tmp 12), type := 97, pos := "l11_replica.go:37", after := #[⟨6, .guard⟩], guard := some (6, true) } ?_
              refine tk 8 { dst := some 30, op := Op.nilCheck (.tmp 29), type := 0, pos := "l11_replica.go:37", after := #[⟨7, .data⟩, ⟨6, .guard⟩], guard := some (6, true) } ?_
              refine tk 9 { dst := some 31, op := Op.fieldAddr 40 (.tmp 30) 2, type := 0, pos := "l11_replica.go:37", after := #[⟨8, .data⟩, ⟨6, .guard⟩], guard := some (6, true) } ?_
              refine tk 10 { dst := some 32, op := Op.load 2 (.tmp 31), type := 2, pos := "l11_replica.go:37", after := #[⟨9, .data⟩, ⟨6, .guard⟩], guard := some (6, true) } ?_
              refine tk 11 { dst := some 33, op := Op.move (.tmp 1), type := 72, pos := "l11_replica.go:37", after := #[⟨6, .guard⟩], guard := some (6, true) } ?_
              refine tk 12 { dst := some 34, op := Op.nilCheck (.tmp 33), type := 0, pos := "l11_replica.go:37", after := #[⟨11, .data⟩, ⟨6, .guard⟩], guard := some (6, true) } ?_
              refine tk 13 { dst := some 35, op := Op.fieldAddr 29 (.tmp 34) 0, type := 0, pos := "l11_replica.go:37", after := #[⟨12, .data⟩, ⟨6, .guard⟩], guard := some (6, true) } ?_
              refine tk 14 { dst := some 36, op := Op.load 2 (.tmp 35), type := 2, pos := "l11_replica.go:37", after := #[⟨13, .data⟩, ⟨6, .guard⟩], guard := some (6, true) } ?_
              refine tk 15 { dst := some 37, op := Op.binOp BinOp.eql 2 (.tmp 32) (.tmp 36) 2, type := 4, pos := "l11_replica.go:37", after := #[⟨10, .data⟩, ⟨14, .data⟩, ⟨6, .guard⟩], guard := some (6, true) } ?_
              refine tk 16 { dst := some 38, op := Op.pick (.tmp 28) (.tmp 37) (Operand.const (Value.bool false)), type := 4, pos := "l11_replica.go:37", after := #[⟨6, .data⟩, ⟨15, .data⟩], guard := none } ?_
              refine tk 17 { dst := some 39, op := Op.move (.tmp 38), type := 4, pos := "l11_replica.go:37", after := #[⟨16, .data⟩, ⟨6, .chain⟩], guard := none } ?_
              refine tk 18 { dst := some 40, op := Op.move (.tmp 12), type := 97, pos := "l11_replica.go:37", after := #[⟨17, .guard⟩], guard := some (17, true) } ?_
              refine tk 19 { dst := some 41, op := Op.nilCheck (.tmp 40), type := 0, pos := "l11_replica.go:37", after := #[⟨18, .data⟩, ⟨17, .guard⟩], guard := some (17, true) } ?_
              refine tk 20 { dst := some 42, op := Op.fieldAddr 40 (.tmp 41) 1, type := 0, pos := "l11_replica.go:37", after := #[⟨19, .data⟩, ⟨17, .guard⟩], guard := some (17, true) } ?_
              refine tk 21 { dst := some 43, op := Op.load 2 (.tmp 42), type := 2, pos := "l11_replica.go:37", after := #[⟨20, .data⟩, ⟨17, .guard⟩], guard := some (17, true) } ?_
              refine tk 22 { dst := some 44, op := Op.move (.tmp 1), type := 72, pos := "l11_replica.go:37", after := #[⟨17, .guard⟩], guard := some (17, true) } ?_
              refine tk 23 { dst := some 45, op := Op.nilCheck (.tmp 44), type := 0, pos := "l11_replica.go:37", after := #[⟨22, .data⟩, ⟨17, .guard⟩], guard := some (17, true) } ?_
              refine tk 24 { dst := some 46, op := Op.fieldAddr 29 (.tmp 45) 1, type := 0, pos := "l11_replica.go:37", after := #[⟨23, .data⟩, ⟨17, .guard⟩], guard := some (17, true) } ?_
              refine tk 25 { dst := some 47, op := Op.load 2 (.tmp 46), type := 2, pos := "l11_replica.go:37", after := #[⟨24, .data⟩, ⟨17, .guard⟩], guard := some (17, true) } ?_
              refine tk 26 { dst := some 48, op := Op.binOp BinOp.eql 2 (.tmp 43) (.tmp 47) 2, type := 4, pos := "l11_replica.go:37", after := #[⟨21, .data⟩, ⟨25, .data⟩, ⟨17, .guard⟩], guard := some (17, true) } ?_
              refine tk 27 { dst := some 49, op := Op.pick (.tmp 39) (.tmp 48) (Operand.const (Value.bool false)), type := 4, pos := "l11_replica.go:37", after := #[⟨17, .data⟩, ⟨26, .data⟩], guard := none } ?_
              refine tk 28 { dst := some 50, op := Op.move (.tmp 49), type := 4, pos := "l11_replica.go:37", after := #[⟨27, .data⟩, ⟨17, .chain⟩], guard := none } ?_
              refine tk 29 { dst := some 51, op := Op.move (.tmp 3), type := 2, pos := "l11_replica.go:37", after := #[⟨28, .guard⟩], guard := some (28, true) } ?_
              refine tk 30 { dst := some 52, op := Op.binOp BinOp.eql 2 (.tmp 51) (Operand.const (Value.int IntKind.i64 0)) 2, type := 4, pos := "l11_replica.go:37", after := #[⟨29, .data⟩, ⟨28, .guard⟩], guard := some (28, true) } ?_
              refine tk 31 { dst := some 53, op := Op.move (.tmp 52), type := 4, pos := "l11_replica.go:37", after := #[⟨30, .data⟩, ⟨28, .chain⟩, ⟨28, .guard⟩], guard := some (28, true) } ?_
              refine tn 32 { dst := some 54, op := Op.move (.tmp 12), type := 97, pos := "l11_replica.go:37", after := #[⟨31, .guard⟩], guard := some (31, false) } ?_
              refine tn 33 { dst := some 55, op := Op.nilCheck (.tmp 54), type := 0, pos := "l11_replica.go:37", after := #[⟨32, .data⟩, ⟨31, .guard⟩], guard := some (31, false) } ?_
              refine tn 34 { dst := some 56, op := Op.fieldAddr 40 (.tmp 55) 3, type := 0, pos := "l11_replica.go:37", after := #[⟨33, .data⟩, ⟨31, .guard⟩], guard := some (31, false) } ?_
              refine tn 35 { dst := some 57, op := Op.load 2 (.tmp 56), type := 2, pos := "l11_replica.go:37", after := #[⟨34, .data⟩, ⟨31, .guard⟩], guard := some (31, false) } ?_
              refine tn 36 { dst := some 58, op := Op.move (.tmp 3), type := 2, pos := "l11_replica.go:37", after := #[⟨31, .guard⟩], guard := some (31, false) } ?_
              refine tn 37 { dst := some 59, op := Op.binOp BinOp.eql 2 (.tmp 57) (.tmp 58) 2, type := 4, pos := "l11_replica.go:37", after := #[⟨35, .data⟩, ⟨36, .data⟩, ⟨31, .guard⟩], guard := some (31, false) } ?_
              refine tk 38 { dst := some 60, op := Op.pick (.tmp 53) (Operand.const (Value.bool true)) (.tmp 59), type := 4, pos := "l11_replica.go:37", after := #[⟨31, .data⟩, ⟨37, .data⟩, ⟨28, .guard⟩], guard := some (28, true) } ?_
              refine tk 39 { dst := some 61, op := Op.pick (.tmp 50) (.tmp 60) (Operand.const (Value.bool false)), type := 4, pos := "l11_replica.go:37", after := #[⟨28, .data⟩, ⟨38, .data⟩], guard := none } ?_
              refine tk 40 { dst := some 62, op := Op.move (.tmp 61), type := 4, pos := "l11_replica.go:37", after := #[⟨39, .data⟩, ⟨31, .chain⟩], guard := none } ?_
              refine tk 41 { dst := some 63, op := Op.move (.tmp 4), type := 2, pos := "l11_replica.go:37", after := #[⟨40, .guard⟩], guard := some (40, true) } ?_
              refine tk 42 { dst := some 64, op := Op.binOp BinOp.lss 2 (.tmp 63) (Operand.const (Value.int IntKind.i64 0)) 2, type := 4, pos := "l11_replica.go:37", after := #[⟨41, .data⟩, ⟨40, .guard⟩], guard := some (40, true) } ?_
              (try rw [PX.out])
              refine tk 43 { dst := some 65, op := Op.move (.tmp 64), type := 4, pos := "l11_replica.go:37", after := #[⟨42, .data⟩, ⟨40, .chain⟩, ⟨40, .guard⟩], guard := some (40, true) } ?_
              refine tk 44 { dst := some 66, op := Op.move (.tmp 12), type := 97, pos := "l11_replica.go:37", after := #[⟨43, .guard⟩], guard := some (43, false) } ?_
              refine tk 45 { dst := some 67, op := Op.nilCheck (.tmp 66), type := 0, pos := "l11_replica.go:37", after := #[⟨44, .data⟩, ⟨43, .guard⟩], guard := some (43, false) } ?_
              refine tk 46 { dst := some 68, op := Op.fieldAddr 40 (.tmp 67) 4, type := 0, pos := "l11_replica.go:37", after := #[⟨45, .data⟩, ⟨43, .guard⟩], guard := some (43, false) } ?_
              refine tk 47 { dst := some 69, op := Op.load 2 (.tmp 68), type := 2, pos := "l11_replica.go:37", after := #[⟨46, .data⟩, ⟨43, .guard⟩], guard := some (43, false) } ?_
              refine tk 48 { dst := some 70, op := Op.move (.tmp 4), type := 2, pos := "l11_replica.go:37", after := #[⟨43, .guard⟩], guard := some (43, false) } ?_
              refine tk 49 { dst := some 71, op := Op.binOp BinOp.eql 2 (.tmp 69) (.tmp 70) 2, type := 4, pos := "l11_replica.go:37", after := #[⟨47, .data⟩, ⟨48, .data⟩, ⟨43, .guard⟩], guard := some (43, false) } ?_
              refine tk 50 { dst := some 72, op := Op.pick (.tmp 65) (Operand.const (Value.bool true)) (.tmp 71), type := 4, pos := "l11_replica.go:37", after := #[⟨43, .data⟩, ⟨49, .data⟩, ⟨40, .guard⟩], guard := some (40, true) } ?_
              refine tk 51 { dst := some 73, op := Op.pick (.tmp 62) (.tmp 72) (Operand.const (Value.bool false)), type := 4, pos := "l11_replica.go:37", after := #[⟨40, .data⟩, ⟨50, .data⟩], guard := none } ?_
              refine wpAnyH_done (by kernel_rfl) ?_ _
              go_wp2
              go_ret
              exact ⟨ret_bool HF.out.symm, HE.out.drew⟩
    · have HF : Hid (Msg.sent ms r kd 0 x = false) := any_noneM (fun j z h => HA.out j z (by have := (List.getElem?_eq_some_iff.1 h).1; omega) h)
      go_wp2
      go_ret
      exact ⟨ret_bool HF.out.symm, HE.out⟩
end Go.Proofs.YtecgjdgfjgcmdaaGreat
