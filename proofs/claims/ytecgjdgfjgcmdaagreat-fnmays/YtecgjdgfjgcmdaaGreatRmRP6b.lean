/- the specification's l11Sent, by value. -/
import Derived.Test.YtecgjdgfjgcmdaaGreatRmGP
import Derived.Test.YtecgjdgfjgcmdaaGreatRmRP2
import Derived.Test.YtecgjdgfjgcmdaaGreatRmTk
namespace Go.Proofs.YtecgjdgfjgcmdaaGreat
open Go.RowKit
set_option linter.unusedSimpArgs false in
set_option maxHeartbeats 8000000 in
set_option maxRecDepth 100000 in
theorem l11SentV_any (v : Value) (ms : List Ms) (r : Rp) (rb : Nat) (kd : Int) (x : Int) (w : World) (hS : MSlice w v ms) (hR : RpAt w rb r) (hx : 0 ≤ x) :
  Calls Tryz.prog 103 #[v, .pointer (some ⟨rb, 0, none⟩), .int .i64 kd, .int .i64 0, .int .i64 x] w fun e w' => e = .returned (.bool (Msg.sent ms r kd 0 x)) ∧ Ext w w' := by
 obtain ⟨a, cap, rfl, hlc, hcm, hx9⟩ := hS
 have HX : Hid (0 < ms.length → ∃ b off, a = some ⟨b, off, none⟩ ∧ b < w.heap.size ∧ MsAt w b off ms) := hx9
 have HR : Hid (RpAt w rb r) := hR
 clear hx9 hR
 have PX : Hid (decide (x < 0) = false) := decide_eq_false (by omega)
 have hx0 : ¬ x < 0 := by omega
 unfold maxLen at hcm
 go_enter Tryz.func103, Tryz.ntmps103
 go_wp2
 go_loopw [11] (fun i wr => ∃ (k : Nat), k ≤ ms.length ∧ i = .int .i64 k ∧ Hid (∀ j z, j < k → ms[j]? = some z → Msg.sentB r kd 0 x z = false) ∧ Hid (Ext w wr)) (fun i _ => ms.length - (intOf i).toNat)
 case atStart => exact ⟨0, Nat.zero_le _, rfl, fun j z h => by omega, Ext.refl _⟩
 case round =>
  obtain ⟨k, hk, rfl, HA, HE⟩ := hrel
  by_cases hlt : k < ms.length
  ·obtain ⟨z, hzk⟩ : ∃ z, ms[k]? = some z := ⟨_, List.getElem?_eq_getElem hlt⟩
   obtain ⟨b1, off, rfl, hb, hN⟩ := HX.out (by omega)
   have HZ : Hid (ms[k]? = some z) := hzk
   have HS : Hid (∀ W', Ext w W' → W'.cell? ⟨b1, off + k * 7, none⟩ = some (.int .i64 z.kind) ∧ W'.cell? ⟨b1, off + k * 7 + 1, none⟩ = some (.int .i64 z.view) ∧ W'.cell? ⟨b1, off + k * 7 + 2, none⟩ = some (.int .i64 z.from_) ∧ W'.cell? ⟨b1, off + k * 7 + 3, none⟩ = some (.int .i64 z.slot) ∧ W'.cell? ⟨b1, off + k * 7 + 4, none⟩ = some (.int .i64 z.value) ∧ W'.cell? ⟨rb, 0, none⟩ = some (.int .i64 r.id) ∧ W'.cell? ⟨rb, 1, none⟩ = some (.int .i64 r.view)) := fun W' he => by
    obtain ⟨vz, uz, ⟨c0, c1, c2, c3, c4, -, -⟩, -⟩ := hN.ext hb he k z hzk
    exact ⟨c0, c1, c2, c3, c4, (HR.out.ext he).2.1, (HR.out.ext he).2.2.1⟩
   clear hzk hN
   cases g1 : (z.kind == kd) with
   | false =>
    have HB : Hid (Msg.sentB r kd 0 x z = false) := by
     show Msg.sentB _ _ _ _ _ = false
     simp only [beq_eq_false_iff_ne, ne_eq, beq_iff_eq] at g1
     simp [Msg.sentB, g1, hx0]
    have HA2 : Hid (∀ j y, j < k + 1 → ms[j]? = some y → Msg.sentB r kd 0 x y = false) := by
     intro j y hj e
     by_cases hjk : j = k
     ·subst hjk; rw [HZ.out] at e; cases e; exact HB.out
     ·exact HA.out j y (by omega) e
    go_wp2
    refine wp_region_held_drew (S := (fun W' : World => W'.cell? ⟨b1, off + k * 7, none⟩ = some (.int .i64 z.kind) ∧ W'.cell? ⟨b1, off + k * 7 + 1, none⟩ = some (.int .i64 z.view) ∧ W'.cell? ⟨b1, off + k * 7 + 2, none⟩ = some (.int .i64 z.from_) ∧ W'.cell? ⟨b1, off + k * 7 + 3, none⟩ = some (.int .i64 z.slot) ∧ W'.cell? ⟨b1, off + k * 7 + 4, none⟩ = some (.int .i64 z.value) ∧ W'.cell? ⟨rb, 0, none⟩ = some (.int .i64 r.id) ∧ W'.cell? ⟨rb, 1, none⟩ = some (.int .i64 r.view))) (by kernel_rfl) (HS.out _ HE.out.drew) (fun hHeld => ?_)
    refine tk 0 ⟨some 22, .move (.tmp 12), 97, oz246, #[], none⟩ ?_
    refine tk 1 ⟨some 23, .nilCheck (.tmp 22), 0, oz246, #[⟨0, .data⟩], none⟩ ?_
    refine tk 2 ⟨some 24, .fieldAddr 40 (.tmp 23) 0, 0, oz246, #[⟨1, .data⟩], none⟩ ?_
    refine tk 3 ⟨some 25, .load 2 (.tmp 24), 2, oz246, #[⟨2, .data⟩], none⟩ ?_
    refine tk 4 ⟨some 26, .move (.tmp 2), 2, oz246, #[], none⟩ ?_
    refine tk 5 ⟨some 27, .binOp .eql 2 (.tmp 25) (.tmp 26) 2, 4, oz246, oy247, none⟩ ?_
    refine tk 6 ⟨some 28, .move (.tmp 27), 4, oz246, #[⟨5, .data⟩], none⟩ ?_
    refine tn 7 ⟨some 29, .move (.tmp 12), 97, oz246, #[⟨6, .guard⟩], some (6, true)⟩ ?_
    refine tn 8 ⟨some 30, .nilCheck (.tmp 29), 0, oz246, oy248, some (6, true)⟩ ?_
    refine tn 9 ⟨some 31, .fieldAddr 40 (.tmp 30) 2, 0, oz246, oy28, some (6, true)⟩ ?_
    refine tn 10 ⟨some 32, .load 2 (.tmp 31), 2, oz246, oy29, some (6, true)⟩ ?_
    refine tn 11 ⟨some 33, .move (.tmp 1), 72, oz246, #[⟨6, .guard⟩], some (6, true)⟩ ?_
    refine tn 12 ⟨some 34, .nilCheck (.tmp 33), 0, oz246, oy249, some (6, true)⟩ ?_
    refine tn 13 ⟨some 35, .fieldAddr 29 (.tmp 34) 0, 0, oz246, oy31, some (6, true)⟩ ?_
    refine tn 14 ⟨some 36, .load 2 (.tmp 35), 2, oz246, oy32, some (6, true)⟩ ?_
    refine tn 15 ⟨some 37, .binOp .eql 2 (.tmp 32) (.tmp 36) 2, 4, oz246, oy250, some (6, true)⟩ ?_
    refine tk 16 ⟨some 38, .pick (.tmp 28) (.tmp 37) (.const (.bool false)), 4, oz246, oy251, none⟩ ?_
    refine tk 17 ⟨some 39, .move (.tmp 38), 4, oz246, oy252, none⟩ ?_
    refine tn 18 ⟨some 40, .move (.tmp 12), 97, oz246, oy253, some (17, true)⟩ ?_
    refine tn 19 ⟨some 41, .nilCheck (.tmp 40), 0, oz246, oy254, some (17, true)⟩ ?_
    refine tn 20 ⟨some 42, .fieldAddr 40 (.tmp 41) 1, 0, oz246, oy255, some (17, true)⟩ ?_
    refine tn 21 ⟨some 43, .load 2 (.tmp 42), 2, oz246, oy256, some (17, true)⟩ ?_
    refine tn 22 ⟨some 44, .move (.tmp 1), 72, oz246, oy253, some (17, true)⟩ ?_
    refine tn 23 ⟨some 45, .nilCheck (.tmp 44), 0, oz246, oy257, some (17, true)⟩ ?_
    refine tn 24 ⟨some 46, .fieldAddr 29 (.tmp 45) 1, 0, oz246, oy258, some (17, true)⟩ ?_
    refine tn 25 ⟨some 47, .load 2 (.tmp 46), 2, oz246, oy259, some (17, true)⟩ ?_
    refine tn 26 ⟨some 48, .binOp .eql 2 (.tmp 43) (.tmp 47) 2, 4, oz246, oy260, some (17, true)⟩ ?_
    refine tk 27 ⟨some 49, .pick (.tmp 39) (.tmp 48) (.const (.bool false)), 4, oz246, oy261, none⟩ ?_
    refine tk 28 ⟨some 50, .move (.tmp 49), 4, oz246, oy262, none⟩ ?_
    refine tn 29 ⟨some 51, .move (.tmp 3), 2, oz246, oy263, some (28, true)⟩ ?_
    refine tn 30 ⟨some 52, .binOp .eql 2 (.tmp 51) (.const (.int .i64 0)) 2, 4, oz246, oy264, some (28, true)⟩ ?_
    refine tn 31 ⟨some 53, .move (.tmp 52), 4, oz246, oy265, some (28, true)⟩ ?_
    refine tn 32 ⟨some 54, .move (.tmp 12), 97, oz246, oy97, some (31, false)⟩ ?_
    refine tn 33 ⟨some 55, .nilCheck (.tmp 54), 0, oz246, oy98, some (31, false)⟩ ?_
    refine tn 34 ⟨some 56, .fieldAddr 40 (.tmp 55) 3, 0, oz246, oy99, some (31, false)⟩ ?_
    refine tn 35 ⟨some 57, .load 2 (.tmp 56), 2, oz246, oy100, some (31, false)⟩ ?_
    refine tn 36 ⟨some 58, .move (.tmp 3), 2, oz246, oy97, some (31, false)⟩ ?_
    refine tn 37 ⟨some 59, .binOp .eql 2 (.tmp 57) (.tmp 58) 2, 4, oz246, oy266, some (31, false)⟩ ?_
    refine tn 38 ⟨some 60, .pick (.tmp 53) (.const (.bool true)) (.tmp 59), 4, oz246, oy267, some (28, true)⟩ ?_
    refine tk 39 ⟨some 61, .pick (.tmp 50) (.tmp 60) (.const (.bool false)), 4, oz246, oy268, none⟩ ?_
    refine tk 40 ⟨some 62, .move (.tmp 61), 4, oz246, oy269, none⟩ ?_
    refine tn 41 ⟨some 63, .move (.tmp 4), 2, oz246, oy270, some (40, true)⟩ ?_
    refine tn 42 ⟨some 64, .binOp .lss 2 (.tmp 63) (.const (.int .i64 0)) 2, 4, oz246, oy271, some (40, true)⟩ ?_
    (try rw [PX.out])
    refine tn 43 ⟨some 65, .move (.tmp 64), 4, oz246, oy272, some (40, true)⟩ ?_
    refine tn 44 ⟨some 66, .move (.tmp 12), 97, oz246, oy273, some (43, false)⟩ ?_
    refine tn 45 ⟨some 67, .nilCheck (.tmp 66), 0, oz246, oy274, some (43, false)⟩ ?_
    refine tn 46 ⟨some 68, .fieldAddr 40 (.tmp 67) 4, 0, oz246, oy275, some (43, false)⟩ ?_
    refine tn 47 ⟨some 69, .load 2 (.tmp 68), 2, oz246, oy276, some (43, false)⟩ ?_
    refine tn 48 ⟨some 70, .move (.tmp 4), 2, oz246, oy273, some (43, false)⟩ ?_
    refine tn 49 ⟨some 71, .binOp .eql 2 (.tmp 69) (.tmp 70) 2, 4, oz246, oy277, some (43, false)⟩ ?_
    refine tn 50 ⟨some 72, .pick (.tmp 65) (.const (.bool true)) (.tmp 71), 4, oz246, oy278, some (40, true)⟩ ?_
    refine tk 51 ⟨some 73, .pick (.tmp 62) (.tmp 72) (.const (.bool false)), 4, oz246, oy279, none⟩ ?_
    refine wpAnyH_done (by kernel_rfl) ?_ _
    go_wp2
    refine ⟨⟨k + 1, by omega, by go_num, HA2.out, HE.out.drew⟩, by simp [intOf]; omega⟩
   | true =>
    cases g2 : (z.from_ == r.id) with
    | false =>
     have HB : Hid (Msg.sentB r kd 0 x z = false) := by
      show Msg.sentB _ _ _ _ _ = false
      simp only [beq_eq_false_iff_ne, ne_eq, beq_iff_eq] at g1 g2
      simp [Msg.sentB, g1, g2, hx0]
     have HA2 : Hid (∀ j y, j < k + 1 → ms[j]? = some y → Msg.sentB r kd 0 x y = false) := by
      intro j y hj e
      by_cases hjk : j = k
      ·subst hjk; rw [HZ.out] at e; cases e; exact HB.out
      ·exact HA.out j y (by omega) e
     go_wp2
     refine wp_region_held_drew (S := (fun W' : World => W'.cell? ⟨b1, off + k * 7, none⟩ = some (.int .i64 z.kind) ∧ W'.cell? ⟨b1, off + k * 7 + 1, none⟩ = some (.int .i64 z.view) ∧ W'.cell? ⟨b1, off + k * 7 + 2, none⟩ = some (.int .i64 z.from_) ∧ W'.cell? ⟨b1, off + k * 7 + 3, none⟩ = some (.int .i64 z.slot) ∧ W'.cell? ⟨b1, off + k * 7 + 4, none⟩ = some (.int .i64 z.value) ∧ W'.cell? ⟨rb, 0, none⟩ = some (.int .i64 r.id) ∧ W'.cell? ⟨rb, 1, none⟩ = some (.int .i64 r.view))) (by kernel_rfl) (HS.out _ HE.out.drew) (fun hHeld => ?_)
     refine tk 0 ⟨some 22, .move (.tmp 12), 97, oz246, #[], none⟩ ?_
     refine tk 1 ⟨some 23, .nilCheck (.tmp 22), 0, oz246, #[⟨0, .data⟩], none⟩ ?_
     refine tk 2 ⟨some 24, .fieldAddr 40 (.tmp 23) 0, 0, oz246, #[⟨1, .data⟩], none⟩ ?_
     refine tk 3 ⟨some 25, .load 2 (.tmp 24), 2, oz246, #[⟨2, .data⟩], none⟩ ?_
     refine tk 4 ⟨some 26, .move (.tmp 2), 2, oz246, #[], none⟩ ?_
     refine tk 5 ⟨some 27, .binOp .eql 2 (.tmp 25) (.tmp 26) 2, 4, oz246, oy247, none⟩ ?_
     refine tk 6 ⟨some 28, .move (.tmp 27), 4, oz246, #[⟨5, .data⟩], none⟩ ?_
     refine tk 7 ⟨some 29, .move (.tmp 12), 97, oz246, #[⟨6, .guard⟩], some (6, true)⟩ ?_
     refine tk 8 ⟨some 30, .nilCheck (.tmp 29), 0, oz246, oy248, some (6, true)⟩ ?_
     refine tk 9 ⟨some 31, .fieldAddr 40 (.tmp 30) 2, 0, oz246, oy28, some (6, true)⟩ ?_
     refine tk 10 ⟨some 32, .load 2 (.tmp 31), 2, oz246, oy29, some (6, true)⟩ ?_
     refine tk 11 ⟨some 33, .move (.tmp 1), 72, oz246, #[⟨6, .guard⟩], some (6, true)⟩ ?_
     refine tk 12 ⟨some 34, .nilCheck (.tmp 33), 0, oz246, oy249, some (6, true)⟩ ?_
     refine tk 13 ⟨some 35, .fieldAddr 29 (.tmp 34) 0, 0, oz246, oy31, some (6, true)⟩ ?_
     refine tk 14 ⟨some 36, .load 2 (.tmp 35), 2, oz246, oy32, some (6, true)⟩ ?_
     refine tk 15 ⟨some 37, .binOp .eql 2 (.tmp 32) (.tmp 36) 2, 4, oz246, oy250, some (6, true)⟩ ?_
     refine tk 16 ⟨some 38, .pick (.tmp 28) (.tmp 37) (.const (.bool false)), 4, oz246, oy251, none⟩ ?_
     refine tk 17 ⟨some 39, .move (.tmp 38), 4, oz246, oy252, none⟩ ?_
     refine tn 18 ⟨some 40, .move (.tmp 12), 97, oz246, oy253, some (17, true)⟩ ?_
     refine tn 19 ⟨some 41, .nilCheck (.tmp 40), 0, oz246, oy254, some (17, true)⟩ ?_
     refine tn 20 ⟨some 42, .fieldAddr 40 (.tmp 41) 1, 0, oz246, oy255, some (17, true)⟩ ?_
     refine tn 21 ⟨some 43, .load 2 (.tmp 42), 2, oz246, oy256, some (17, true)⟩ ?_
     refine tn 22 ⟨some 44, .move (.tmp 1), 72, oz246, oy253, some (17, true)⟩ ?_
     refine tn 23 ⟨some 45, .nilCheck (.tmp 44), 0, oz246, oy257, some (17, true)⟩ ?_
     refine tn 24 ⟨some 46, .fieldAddr 29 (.tmp 45) 1, 0, oz246, oy258, some (17, true)⟩ ?_
     refine tn 25 ⟨some 47, .load 2 (.tmp 46), 2, oz246, oy259, some (17, true)⟩ ?_
     refine tn 26 ⟨some 48, .binOp .eql 2 (.tmp 43) (.tmp 47) 2, 4, oz246, oy260, some (17, true)⟩ ?_
     refine tk 27 ⟨some 49, .pick (.tmp 39) (.tmp 48) (.const (.bool false)), 4, oz246, oy261, none⟩ ?_
     refine tk 28 ⟨some 50, .move (.tmp 49), 4, oz246, oy262, none⟩ ?_
     refine tn 29 ⟨some 51, .move (.tmp 3), 2, oz246, oy263, some (28, true)⟩ ?_
     refine tn 30 ⟨some 52, .binOp .eql 2 (.tmp 51) (.const (.int .i64 0)) 2, 4, oz246, oy264, some (28, true)⟩ ?_
     refine tn 31 ⟨some 53, .move (.tmp 52), 4, oz246, oy265, some (28, true)⟩ ?_
     refine tn 32 ⟨some 54, .move (.tmp 12), 97, oz246, oy97, some (31, false)⟩ ?_
     refine tn 33 ⟨some 55, .nilCheck (.tmp 54), 0, oz246, oy98, some (31, false)⟩ ?_
     refine tn 34 ⟨some 56, .fieldAddr 40 (.tmp 55) 3, 0, oz246, oy99, some (31, false)⟩ ?_
     refine tn 35 ⟨some 57, .load 2 (.tmp 56), 2, oz246, oy100, some (31, false)⟩ ?_
     refine tn 36 ⟨some 58, .move (.tmp 3), 2, oz246, oy97, some (31, false)⟩ ?_
     refine tn 37 ⟨some 59, .binOp .eql 2 (.tmp 57) (.tmp 58) 2, 4, oz246, oy266, some (31, false)⟩ ?_
     refine tn 38 ⟨some 60, .pick (.tmp 53) (.const (.bool true)) (.tmp 59), 4, oz246, oy267, some (28, true)⟩ ?_
     refine tk 39 ⟨some 61, .pick (.tmp 50) (.tmp 60) (.const (.bool false)), 4, oz246, oy268, none⟩ ?_
     refine tk 40 ⟨some 62, .move (.tmp 61), 4, oz246, oy269, none⟩ ?_
     refine tn 41 ⟨some 63, .move (.tmp 4), 2, oz246, oy270, some (40, true)⟩ ?_
     refine tn 42 ⟨some 64, .binOp .lss 2 (.tmp 63) (.const (.int .i64 0)) 2, 4, oz246, oy271, some (40, true)⟩ ?_
     (try rw [PX.out])
     refine tn 43 ⟨some 65, .move (.tmp 64), 4, oz246, oy272, some (40, true)⟩ ?_
     refine tn 44 ⟨some 66, .move (.tmp 12), 97, oz246, oy273, some (43, false)⟩ ?_
     refine tn 45 ⟨some 67, .nilCheck (.tmp 66), 0, oz246, oy274, some (43, false)⟩ ?_
     refine tn 46 ⟨some 68, .fieldAddr 40 (.tmp 67) 4, 0, oz246, oy275, some (43, false)⟩ ?_
     refine tn 47 ⟨some 69, .load 2 (.tmp 68), 2, oz246, oy276, some (43, false)⟩ ?_
     refine tn 48 ⟨some 70, .move (.tmp 4), 2, oz246, oy273, some (43, false)⟩ ?_
     refine tn 49 ⟨some 71, .binOp .eql 2 (.tmp 69) (.tmp 70) 2, 4, oz246, oy277, some (43, false)⟩ ?_
     refine tn 50 ⟨some 72, .pick (.tmp 65) (.const (.bool true)) (.tmp 71), 4, oz246, oy278, some (40, true)⟩ ?_
     refine tk 51 ⟨some 73, .pick (.tmp 62) (.tmp 72) (.const (.bool false)), 4, oz246, oy279, none⟩ ?_
     refine wpAnyH_done (by kernel_rfl) ?_ _
     go_wp2
     refine ⟨⟨k + 1, by omega, by go_num, HA2.out, HE.out.drew⟩, by simp [intOf]; omega⟩
    | true =>
     cases g3 : (z.view == r.view) with
     | false =>
      have HB : Hid (Msg.sentB r kd 0 x z = false) := by
       show Msg.sentB _ _ _ _ _ = false
       simp only [beq_eq_false_iff_ne, ne_eq, beq_iff_eq] at g1 g2 g3
       simp [Msg.sentB, g1, g2, g3, hx0]
      have HA2 : Hid (∀ j y, j < k + 1 → ms[j]? = some y → Msg.sentB r kd 0 x y = false) := by
       intro j y hj e
       by_cases hjk : j = k
       ·subst hjk; rw [HZ.out] at e; cases e; exact HB.out
       ·exact HA.out j y (by omega) e
      go_wp2
      refine wp_region_held_drew (S := (fun W' : World => W'.cell? ⟨b1, off + k * 7, none⟩ = some (.int .i64 z.kind) ∧ W'.cell? ⟨b1, off + k * 7 + 1, none⟩ = some (.int .i64 z.view) ∧ W'.cell? ⟨b1, off + k * 7 + 2, none⟩ = some (.int .i64 z.from_) ∧ W'.cell? ⟨b1, off + k * 7 + 3, none⟩ = some (.int .i64 z.slot) ∧ W'.cell? ⟨b1, off + k * 7 + 4, none⟩ = some (.int .i64 z.value) ∧ W'.cell? ⟨rb, 0, none⟩ = some (.int .i64 r.id) ∧ W'.cell? ⟨rb, 1, none⟩ = some (.int .i64 r.view))) (by kernel_rfl) (HS.out _ HE.out.drew) (fun hHeld => ?_)
      refine tk 0 ⟨some 22, .move (.tmp 12), 97, oz246, #[], none⟩ ?_
      refine tk 1 ⟨some 23, .nilCheck (.tmp 22), 0, oz246, #[⟨0, .data⟩], none⟩ ?_
      refine tk 2 ⟨some 24, .fieldAddr 40 (.tmp 23) 0, 0, oz246, #[⟨1, .data⟩], none⟩ ?_
      refine tk 3 ⟨some 25, .load 2 (.tmp 24), 2, oz246, #[⟨2, .data⟩], none⟩ ?_
      refine tk 4 ⟨some 26, .move (.tmp 2), 2, oz246, #[], none⟩ ?_
      refine tk 5 ⟨some 27, .binOp .eql 2 (.tmp 25) (.tmp 26) 2, 4, oz246, oy247, none⟩ ?_
      refine tk 6 ⟨some 28, .move (.tmp 27), 4, oz246, #[⟨5, .data⟩], none⟩ ?_
      refine tk 7 ⟨some 29, .move (.tmp 12), 97, oz246, #[⟨6, .guard⟩], some (6, true)⟩ ?_
      refine tk 8 ⟨some 30, .nilCheck (.tmp 29), 0, oz246, oy248, some (6, true)⟩ ?_
      refine tk 9 ⟨some 31, .fieldAddr 40 (.tmp 30) 2, 0, oz246, oy28, some (6, true)⟩ ?_
      refine tk 10 ⟨some 32, .load 2 (.tmp 31), 2, oz246, oy29, some (6, true)⟩ ?_
      refine tk 11 ⟨some 33, .move (.tmp 1), 72, oz246, #[⟨6, .guard⟩], some (6, true)⟩ ?_
      refine tk 12 ⟨some 34, .nilCheck (.tmp 33), 0, oz246, oy249, some (6, true)⟩ ?_
      refine tk 13 ⟨some 35, .fieldAddr 29 (.tmp 34) 0, 0, oz246, oy31, some (6, true)⟩ ?_
      refine tk 14 ⟨some 36, .load 2 (.tmp 35), 2, oz246, oy32, some (6, true)⟩ ?_
      refine tk 15 ⟨some 37, .binOp .eql 2 (.tmp 32) (.tmp 36) 2, 4, oz246, oy250, some (6, true)⟩ ?_
      refine tk 16 ⟨some 38, .pick (.tmp 28) (.tmp 37) (.const (.bool false)), 4, oz246, oy251, none⟩ ?_
      refine tk 17 ⟨some 39, .move (.tmp 38), 4, oz246, oy252, none⟩ ?_
      refine tk 18 ⟨some 40, .move (.tmp 12), 97, oz246, oy253, some (17, true)⟩ ?_
      refine tk 19 ⟨some 41, .nilCheck (.tmp 40), 0, oz246, oy254, some (17, true)⟩ ?_
      refine tk 20 ⟨some 42, .fieldAddr 40 (.tmp 41) 1, 0, oz246, oy255, some (17, true)⟩ ?_
      refine tk 21 ⟨some 43, .load 2 (.tmp 42), 2, oz246, oy256, some (17, true)⟩ ?_
      refine tk 22 ⟨some 44, .move (.tmp 1), 72, oz246, oy253, some (17, true)⟩ ?_
      refine tk 23 ⟨some 45, .nilCheck (.tmp 44), 0, oz246, oy257, some (17, true)⟩ ?_
      refine tk 24 ⟨some 46, .fieldAddr 29 (.tmp 45) 1, 0, oz246, oy258, some (17, true)⟩ ?_
      refine tk 25 ⟨some 47, .load 2 (.tmp 46), 2, oz246, oy259, some (17, true)⟩ ?_
      refine tk 26 ⟨some 48, .binOp .eql 2 (.tmp 43) (.tmp 47) 2, 4, oz246, oy260, some (17, true)⟩ ?_
      refine tk 27 ⟨some 49, .pick (.tmp 39) (.tmp 48) (.const (.bool false)), 4, oz246, oy261, none⟩ ?_
      refine tk 28 ⟨some 50, .move (.tmp 49), 4, oz246, oy262, none⟩ ?_
      refine tn 29 ⟨some 51, .move (.tmp 3), 2, oz246, oy263, some (28, true)⟩ ?_
      refine tn 30 ⟨some 52, .binOp .eql 2 (.tmp 51) (.const (.int .i64 0)) 2, 4, oz246, oy264, some (28, true)⟩ ?_
      refine tn 31 ⟨some 53, .move (.tmp 52), 4, oz246, oy265, some (28, true)⟩ ?_
      refine tn 32 ⟨some 54, .move (.tmp 12), 97, oz246, oy97, some (31, false)⟩ ?_
      refine tn 33 ⟨some 55, .nilCheck (.tmp 54), 0, oz246, oy98, some (31, false)⟩ ?_
      refine tn 34 ⟨some 56, .fieldAddr 40 (.tmp 55) 3, 0, oz246, oy99, some (31, false)⟩ ?_
      refine tn 35 ⟨some 57, .load 2 (.tmp 56), 2, oz246, oy100, some (31, false)⟩ ?_
      refine tn 36 ⟨some 58, .move (.tmp 3), 2, oz246, oy97, some (31, false)⟩ ?_
      refine tn 37 ⟨some 59, .binOp .eql 2 (.tmp 57) (.tmp 58) 2, 4, oz246, oy266, some (31, false)⟩ ?_
      refine tn 38 ⟨some 60, .pick (.tmp 53) (.const (.bool true)) (.tmp 59), 4, oz246, oy267, some (28, true)⟩ ?_
      refine tk 39 ⟨some 61, .pick (.tmp 50) (.tmp 60) (.const (.bool false)), 4, oz246, oy268, none⟩ ?_
      refine tk 40 ⟨some 62, .move (.tmp 61), 4, oz246, oy269, none⟩ ?_
      refine tn 41 ⟨some 63, .move (.tmp 4), 2, oz246, oy270, some (40, true)⟩ ?_
      refine tn 42 ⟨some 64, .binOp .lss 2 (.tmp 63) (.const (.int .i64 0)) 2, 4, oz246, oy271, some (40, true)⟩ ?_
      (try rw [PX.out])
      refine tn 43 ⟨some 65, .move (.tmp 64), 4, oz246, oy272, some (40, true)⟩ ?_
      refine tn 44 ⟨some 66, .move (.tmp 12), 97, oz246, oy273, some (43, false)⟩ ?_
      refine tn 45 ⟨some 67, .nilCheck (.tmp 66), 0, oz246, oy274, some (43, false)⟩ ?_
      refine tn 46 ⟨some 68, .fieldAddr 40 (.tmp 67) 4, 0, oz246, oy275, some (43, false)⟩ ?_
      refine tn 47 ⟨some 69, .load 2 (.tmp 68), 2, oz246, oy276, some (43, false)⟩ ?_
      refine tn 48 ⟨some 70, .move (.tmp 4), 2, oz246, oy273, some (43, false)⟩ ?_
      refine tn 49 ⟨some 71, .binOp .eql 2 (.tmp 69) (.tmp 70) 2, 4, oz246, oy277, some (43, false)⟩ ?_
      refine tn 50 ⟨some 72, .pick (.tmp 65) (.const (.bool true)) (.tmp 71), 4, oz246, oy278, some (40, true)⟩ ?_
      refine tk 51 ⟨some 73, .pick (.tmp 62) (.tmp 72) (.const (.bool false)), 4, oz246, oy279, none⟩ ?_
      refine wpAnyH_done (by kernel_rfl) ?_ _
      go_wp2
      refine ⟨⟨k + 1, by omega, by go_num, HA2.out, HE.out.drew⟩, by simp [intOf]; omega⟩
     | true =>
      cases g5 : (z.value == x) with
      | false =>
       have HB : Hid (Msg.sentB r kd 0 x z = false) := by
        show Msg.sentB _ _ _ _ _ = false
        simp only [beq_eq_false_iff_ne, ne_eq, beq_iff_eq] at g1 g2 g3 g5
        simp [Msg.sentB, g1, g2, g3, g5, hx0]
       have HA2 : Hid (∀ j y, j < k + 1 → ms[j]? = some y → Msg.sentB r kd 0 x y = false) := by
        intro j y hj e
        by_cases hjk : j = k
        ·subst hjk; rw [HZ.out] at e; cases e; exact HB.out
        ·exact HA.out j y (by omega) e
       go_wp2
       refine wp_region_held_drew (S := (fun W' : World => W'.cell? ⟨b1, off + k * 7, none⟩ = some (.int .i64 z.kind) ∧ W'.cell? ⟨b1, off + k * 7 + 1, none⟩ = some (.int .i64 z.view) ∧ W'.cell? ⟨b1, off + k * 7 + 2, none⟩ = some (.int .i64 z.from_) ∧ W'.cell? ⟨b1, off + k * 7 + 3, none⟩ = some (.int .i64 z.slot) ∧ W'.cell? ⟨b1, off + k * 7 + 4, none⟩ = some (.int .i64 z.value) ∧ W'.cell? ⟨rb, 0, none⟩ = some (.int .i64 r.id) ∧ W'.cell? ⟨rb, 1, none⟩ = some (.int .i64 r.view))) (by kernel_rfl) (HS.out _ HE.out.drew) (fun hHeld => ?_)
       refine tk 0 ⟨some 22, .move (.tmp 12), 97, oz246, #[], none⟩ ?_
       refine tk 1 ⟨some 23, .nilCheck (.tmp 22), 0, oz246, #[⟨0, .data⟩], none⟩ ?_
       refine tk 2 ⟨some 24, .fieldAddr 40 (.tmp 23) 0, 0, oz246, #[⟨1, .data⟩], none⟩ ?_
       refine tk 3 ⟨some 25, .load 2 (.tmp 24), 2, oz246, #[⟨2, .data⟩], none⟩ ?_
       refine tk 4 ⟨some 26, .move (.tmp 2), 2, oz246, #[], none⟩ ?_
       refine tk 5 ⟨some 27, .binOp .eql 2 (.tmp 25) (.tmp 26) 2, 4, oz246, oy247, none⟩ ?_
       refine tk 6 ⟨some 28, .move (.tmp 27), 4, oz246, #[⟨5, .data⟩], none⟩ ?_
       refine tk 7 ⟨some 29, .move (.tmp 12), 97, oz246, #[⟨6, .guard⟩], some (6, true)⟩ ?_
       refine tk 8 ⟨some 30, .nilCheck (.tmp 29), 0, oz246, oy248, some (6, true)⟩ ?_
       refine tk 9 ⟨some 31, .fieldAddr 40 (.tmp 30) 2, 0, oz246, oy28, some (6, true)⟩ ?_
       refine tk 10 ⟨some 32, .load 2 (.tmp 31), 2, oz246, oy29, some (6, true)⟩ ?_
       refine tk 11 ⟨some 33, .move (.tmp 1), 72, oz246, #[⟨6, .guard⟩], some (6, true)⟩ ?_
       refine tk 12 ⟨some 34, .nilCheck (.tmp 33), 0, oz246, oy249, some (6, true)⟩ ?_
       refine tk 13 ⟨some 35, .fieldAddr 29 (.tmp 34) 0, 0, oz246, oy31, some (6, true)⟩ ?_
       refine tk 14 ⟨some 36, .load 2 (.tmp 35), 2, oz246, oy32, some (6, true)⟩ ?_
       refine tk 15 ⟨some 37, .binOp .eql 2 (.tmp 32) (.tmp 36) 2, 4, oz246, oy250, some (6, true)⟩ ?_
       refine tk 16 ⟨some 38, .pick (.tmp 28) (.tmp 37) (.const (.bool false)), 4, oz246, oy251, none⟩ ?_
       refine tk 17 ⟨some 39, .move (.tmp 38), 4, oz246, oy252, none⟩ ?_
       refine tk 18 ⟨some 40, .move (.tmp 12), 97, oz246, oy253, some (17, true)⟩ ?_
       refine tk 19 ⟨some 41, .nilCheck (.tmp 40), 0, oz246, oy254, some (17, true)⟩ ?_
       refine tk 20 ⟨some 42, .fieldAddr 40 (.tmp 41) 1, 0, oz246, oy255, some (17, true)⟩ ?_
       refine tk 21 ⟨some 43, .load 2 (.tmp 42), 2, oz246, oy256, some (17, true)⟩ ?_
       refine tk 22 ⟨some 44, .move (.tmp 1), 72, oz246, oy253, some (17, true)⟩ ?_
       refine tk 23 ⟨some 45, .nilCheck (.tmp 44), 0, oz246, oy257, some (17, true)⟩ ?_
       refine tk 24 ⟨some 46, .fieldAddr 29 (.tmp 45) 1, 0, oz246, oy258, some (17, true)⟩ ?_
       refine tk 25 ⟨some 47, .load 2 (.tmp 46), 2, oz246, oy259, some (17, true)⟩ ?_
       refine tk 26 ⟨some 48, .binOp .eql 2 (.tmp 43) (.tmp 47) 2, 4, oz246, oy260, some (17, true)⟩ ?_
       refine tk 27 ⟨some 49, .pick (.tmp 39) (.tmp 48) (.const (.bool false)), 4, oz246, oy261, none⟩ ?_
       refine tk 28 ⟨some 50, .move (.tmp 49), 4, oz246, oy262, none⟩ ?_
       refine tk 29 ⟨some 51, .move (.tmp 3), 2, oz246, oy263, some (28, true)⟩ ?_
       refine tk 30 ⟨some 52, .binOp .eql 2 (.tmp 51) (.const (.int .i64 0)) 2, 4, oz246, oy264, some (28, true)⟩ ?_
       refine tk 31 ⟨some 53, .move (.tmp 52), 4, oz246, oy265, some (28, true)⟩ ?_
       refine tn 32 ⟨some 54, .move (.tmp 12), 97, oz246, oy97, some (31, false)⟩ ?_
       refine tn 33 ⟨some 55, .nilCheck (.tmp 54), 0, oz246, oy98, some (31, false)⟩ ?_
       refine tn 34 ⟨some 56, .fieldAddr 40 (.tmp 55) 3, 0, oz246, oy99, some (31, false)⟩ ?_
       refine tn 35 ⟨some 57, .load 2 (.tmp 56), 2, oz246, oy100, some (31, false)⟩ ?_
       refine tn 36 ⟨some 58, .move (.tmp 3), 2, oz246, oy97, some (31, false)⟩ ?_
       refine tn 37 ⟨some 59, .binOp .eql 2 (.tmp 57) (.tmp 58) 2, 4, oz246, oy266, some (31, false)⟩ ?_
       refine tk 38 ⟨some 60, .pick (.tmp 53) (.const (.bool true)) (.tmp 59), 4, oz246, oy267, some (28, true)⟩ ?_
       refine tk 39 ⟨some 61, .pick (.tmp 50) (.tmp 60) (.const (.bool false)), 4, oz246, oy268, none⟩ ?_
       refine tk 40 ⟨some 62, .move (.tmp 61), 4, oz246, oy269, none⟩ ?_
       refine tk 41 ⟨some 63, .move (.tmp 4), 2, oz246, oy270, some (40, true)⟩ ?_
       refine tk 42 ⟨some 64, .binOp .lss 2 (.tmp 63) (.const (.int .i64 0)) 2, 4, oz246, oy271, some (40, true)⟩ ?_
       (try rw [PX.out])
       refine tk 43 ⟨some 65, .move (.tmp 64), 4, oz246, oy272, some (40, true)⟩ ?_
       refine tk 44 ⟨some 66, .move (.tmp 12), 97, oz246, oy273, some (43, false)⟩ ?_
       refine tk 45 ⟨some 67, .nilCheck (.tmp 66), 0, oz246, oy274, some (43, false)⟩ ?_
       refine tk 46 ⟨some 68, .fieldAddr 40 (.tmp 67) 4, 0, oz246, oy275, some (43, false)⟩ ?_
       refine tk 47 ⟨some 69, .load 2 (.tmp 68), 2, oz246, oy276, some (43, false)⟩ ?_
       refine tk 48 ⟨some 70, .move (.tmp 4), 2, oz246, oy273, some (43, false)⟩ ?_
       refine tk 49 ⟨some 71, .binOp .eql 2 (.tmp 69) (.tmp 70) 2, 4, oz246, oy277, some (43, false)⟩ ?_
       refine tk 50 ⟨some 72, .pick (.tmp 65) (.const (.bool true)) (.tmp 71), 4, oz246, oy278, some (40, true)⟩ ?_
       refine tk 51 ⟨some 73, .pick (.tmp 62) (.tmp 72) (.const (.bool false)), 4, oz246, oy279, none⟩ ?_
       refine wpAnyH_done (by kernel_rfl) ?_ _
       go_wp2
       refine ⟨⟨k + 1, by omega, by go_num, HA2.out, HE.out.drew⟩, by simp [intOf]; omega⟩
      | true =>
       have HB : Hid (Msg.sentB r kd 0 x z = true) := by
        show Msg.sentB _ _ _ _ _ = true
        simp only [beq_eq_false_iff_ne, ne_eq, beq_iff_eq] at g1 g2 g3 g5
        simp [Msg.sentB, g1, g2, g3, g5, hx0]
       have HF : Hid (Msg.sent ms r kd 0 x = true) := any_hitM HZ.out HB.out
       go_wp2
       refine wp_region_held_drew (S := (fun W' : World => W'.cell? ⟨b1, off + k * 7, none⟩ = some (.int .i64 z.kind) ∧ W'.cell? ⟨b1, off + k * 7 + 1, none⟩ = some (.int .i64 z.view) ∧ W'.cell? ⟨b1, off + k * 7 + 2, none⟩ = some (.int .i64 z.from_) ∧ W'.cell? ⟨b1, off + k * 7 + 3, none⟩ = some (.int .i64 z.slot) ∧ W'.cell? ⟨b1, off + k * 7 + 4, none⟩ = some (.int .i64 z.value) ∧ W'.cell? ⟨rb, 0, none⟩ = some (.int .i64 r.id) ∧ W'.cell? ⟨rb, 1, none⟩ = some (.int .i64 r.view))) (by kernel_rfl) (HS.out _ HE.out.drew) (fun hHeld => ?_)
       refine tk 0 ⟨some 22, .move (.tmp 12), 97, oz246, #[], none⟩ ?_
       refine tk 1 ⟨some 23, .nilCheck (.tmp 22), 0, oz246, #[⟨0, .data⟩], none⟩ ?_
       refine tk 2 ⟨some 24, .fieldAddr 40 (.tmp 23) 0, 0, oz246, #[⟨1, .data⟩], none⟩ ?_
       refine tk 3 ⟨some 25, .load 2 (.tmp 24), 2, oz246, #[⟨2, .data⟩], none⟩ ?_
       refine tk 4 ⟨some 26, .move (.tmp 2), 2, oz246, #[], none⟩ ?_
       refine tk 5 ⟨some 27, .binOp .eql 2 (.tmp 25) (.tmp 26) 2, 4, oz246, oy247, none⟩ ?_
       refine tk 6 ⟨some 28, .move (.tmp 27), 4, oz246, #[⟨5, .data⟩], none⟩ ?_
       refine tk 7 ⟨some 29, .move (.tmp 12), 97, oz246, #[⟨6, .guard⟩], some (6, true)⟩ ?_
       refine tk 8 ⟨some 30, .nilCheck (.tmp 29), 0, oz246, oy248, some (6, true)⟩ ?_
       refine tk 9 ⟨some 31, .fieldAddr 40 (.tmp 30) 2, 0, oz246, oy28, some (6, true)⟩ ?_
       refine tk 10 ⟨some 32, .load 2 (.tmp 31), 2, oz246, oy29, some (6, true)⟩ ?_
       refine tk 11 ⟨some 33, .move (.tmp 1), 72, oz246, #[⟨6, .guard⟩], some (6, true)⟩ ?_
       refine tk 12 ⟨some 34, .nilCheck (.tmp 33), 0, oz246, oy249, some (6, true)⟩ ?_
       refine tk 13 ⟨some 35, .fieldAddr 29 (.tmp 34) 0, 0, oz246, oy31, some (6, true)⟩ ?_
       refine tk 14 ⟨some 36, .load 2 (.tmp 35), 2, oz246, oy32, some (6, true)⟩ ?_
       refine tk 15 ⟨some 37, .binOp .eql 2 (.tmp 32) (.tmp 36) 2, 4, oz246, oy250, some (6, true)⟩ ?_
       refine tk 16 ⟨some 38, .pick (.tmp 28) (.tmp 37) (.const (.bool false)), 4, oz246, oy251, none⟩ ?_
       refine tk 17 ⟨some 39, .move (.tmp 38), 4, oz246, oy252, none⟩ ?_
       refine tk 18 ⟨some 40, .move (.tmp 12), 97, oz246, oy253, some (17, true)⟩ ?_
       refine tk 19 ⟨some 41, .nilCheck (.tmp 40), 0, oz246, oy254, some (17, true)⟩ ?_
       refine tk 20 ⟨some 42, .fieldAddr 40 (.tmp 41) 1, 0, oz246, oy255, some (17, true)⟩ ?_
       refine tk 21 ⟨some 43, .load 2 (.tmp 42), 2, oz246, oy256, some (17, true)⟩ ?_
       refine tk 22 ⟨some 44, .move (.tmp 1), 72, oz246, oy253, some (17, true)⟩ ?_
       refine tk 23 ⟨some 45, .nilCheck (.tmp 44), 0, oz246, oy257, some (17, true)⟩ ?_
       refine tk 24 ⟨some 46, .fieldAddr 29 (.tmp 45) 1, 0, oz246, oy258, some (17, true)⟩ ?_
       refine tk 25 ⟨some 47, .load 2 (.tmp 46), 2, oz246, oy259, some (17, true)⟩ ?_
       refine tk 26 ⟨some 48, .binOp .eql 2 (.tmp 43) (.tmp 47) 2, 4, oz246, oy260, some (17, true)⟩ ?_
       refine tk 27 ⟨some 49, .pick (.tmp 39) (.tmp 48) (.const (.bool false)), 4, oz246, oy261, none⟩ ?_
       refine tk 28 ⟨some 50, .move (.tmp 49), 4, oz246, oy262, none⟩ ?_
       refine tk 29 ⟨some 51, .move (.tmp 3), 2, oz246, oy263, some (28, true)⟩ ?_
       refine tk 30 ⟨some 52, .binOp .eql 2 (.tmp 51) (.const (.int .i64 0)) 2, 4, oz246, oy264, some (28, true)⟩ ?_
       refine tk 31 ⟨some 53, .move (.tmp 52), 4, oz246, oy265, some (28, true)⟩ ?_
       refine tn 32 ⟨some 54, .move (.tmp 12), 97, oz246, oy97, some (31, false)⟩ ?_
       refine tn 33 ⟨some 55, .nilCheck (.tmp 54), 0, oz246, oy98, some (31, false)⟩ ?_
       refine tn 34 ⟨some 56, .fieldAddr 40 (.tmp 55) 3, 0, oz246, oy99, some (31, false)⟩ ?_
       refine tn 35 ⟨some 57, .load 2 (.tmp 56), 2, oz246, oy100, some (31, false)⟩ ?_
       refine tn 36 ⟨some 58, .move (.tmp 3), 2, oz246, oy97, some (31, false)⟩ ?_
       refine tn 37 ⟨some 59, .binOp .eql 2 (.tmp 57) (.tmp 58) 2, 4, oz246, oy266, some (31, false)⟩ ?_
       refine tk 38 ⟨some 60, .pick (.tmp 53) (.const (.bool true)) (.tmp 59), 4, oz246, oy267, some (28, true)⟩ ?_
       refine tk 39 ⟨some 61, .pick (.tmp 50) (.tmp 60) (.const (.bool false)), 4, oz246, oy268, none⟩ ?_
       refine tk 40 ⟨some 62, .move (.tmp 61), 4, oz246, oy269, none⟩ ?_
       refine tk 41 ⟨some 63, .move (.tmp 4), 2, oz246, oy270, some (40, true)⟩ ?_
       refine tk 42 ⟨some 64, .binOp .lss 2 (.tmp 63) (.const (.int .i64 0)) 2, 4, oz246, oy271, some (40, true)⟩ ?_
       (try rw [PX.out])
       refine tk 43 ⟨some 65, .move (.tmp 64), 4, oz246, oy272, some (40, true)⟩ ?_
       refine tk 44 ⟨some 66, .move (.tmp 12), 97, oz246, oy273, some (43, false)⟩ ?_
       refine tk 45 ⟨some 67, .nilCheck (.tmp 66), 0, oz246, oy274, some (43, false)⟩ ?_
       refine tk 46 ⟨some 68, .fieldAddr 40 (.tmp 67) 4, 0, oz246, oy275, some (43, false)⟩ ?_
       refine tk 47 ⟨some 69, .load 2 (.tmp 68), 2, oz246, oy276, some (43, false)⟩ ?_
       refine tk 48 ⟨some 70, .move (.tmp 4), 2, oz246, oy273, some (43, false)⟩ ?_
       refine tk 49 ⟨some 71, .binOp .eql 2 (.tmp 69) (.tmp 70) 2, 4, oz246, oy277, some (43, false)⟩ ?_
       refine tk 50 ⟨some 72, .pick (.tmp 65) (.const (.bool true)) (.tmp 71), 4, oz246, oy278, some (40, true)⟩ ?_
       refine tk 51 ⟨some 73, .pick (.tmp 62) (.tmp 72) (.const (.bool false)), 4, oz246, oy279, none⟩ ?_
       refine wpAnyH_done (by kernel_rfl) ?_ _
       go_wp2
       go_ret
       exact ⟨ret_bool HF.out.symm, HE.out.drew⟩
  ·have HF : Hid (Msg.sent ms r kd 0 x = false) := any_noneM (fun j z h => HA.out j z (by have := (List.getElem?_eq_some_iff.1 h).1; omega) h)
   go_wp2
   go_ret
   exact ⟨ret_bool HF.out.symm, HE.out⟩
end Go.Proofs.YtecgjdgfjgcmdaaGreat
