/- SameMsgs: the specification's, messages behind pointers; both at messages. -/
import Derived.Test.YtecgjdgfjgcmdaaGreatRtH3
import Derived.Test.YtecgjdgfjgcmdaaGreatRtTk
namespace Go.Proofs.YtecgjdgfjgcmdaaGreat
open Go.RowKit
set_option maxHeartbeats 4000000 in
set_option maxRecDepth 100000 in
theorem l8Same_any (m n : Ms) (v u v' u' : Value) (b o b' o' : Nat) (w : World) (hb1 : b < w.heap.size) (hb2 : b' < w.heap.size) (hm : MCs w b o m v u) (hn : MCs w b' o' n v' u') (hS : MLs w v u m) (hS' : MLs w v' u' n) :
  Calls Tryz.prog 185 #[.pointer (some ⟨b, o, none⟩), .pointer (some ⟨b', o', none⟩)] w fun e w' => e = .returned (.bool (Msg.sameM m n)) ∧ Ext w w' := by
 have HS : Hid (MLs w v u m) := hS
 have HS' : Hid (MLs w v' u' n) := hS'
 have HM : Hid (MCs w b o m v u) := hm
 have HM' : Hid (MCs w b' o' n v' u') := hn
 obtain ⟨a, c, a', c', rfl, rfl, hc1, hc2, hc3, hc4⟩ := hS.form
 obtain ⟨a2, c2, a3, c3, rfl, rfl, hd1, hd2, hd3, hd4⟩ := hS'.form
 obtain ⟨p0, p1, p2, p3, p4, p5, p6⟩ := hm
 obtain ⟨q0, q1, q2, q3, q4, q5, q6⟩ := hn
 generalize hR : Msg.sameM m n = R
 have HR : Hid (Msg.sameM m n = R) := hR
 clear hR
 unfold maxLen at hc2 hc4 hd2 hd4
 have HX5 : Hid (0 < m.certs.length → ∃ b off, a = some ⟨b, off, none⟩ ∧ b < w.heap.size ∧ CtsAt w b off m.certs) := by
  obtain ⟨⟨a0, c0, h1, -, -, h4⟩, -⟩ := HS.out
  injection h1 with h1 _ _; subst h1; exact h4
 have HX6 : Hid (0 < m.refs.length → ∃ b off, a' = some ⟨b, off, none⟩ ∧ b < w.heap.size ∧ NumsAt w b off m.refs) := by
  obtain ⟨-, ⟨a0, c0, h1, -, -, h4⟩⟩ := HS.out
  injection h1 with h1 _ _; subst h1; exact h4
 have HY5 : Hid (0 < n.certs.length → ∃ b off, a2 = some ⟨b, off, none⟩ ∧ b < w.heap.size ∧ CtsAt w b off n.certs) := by
  obtain ⟨⟨a0, c0, h1, -, -, h4⟩, -⟩ := HS'.out
  injection h1 with h1 _ _; subst h1; exact h4
 have HY6 : Hid (0 < n.refs.length → ∃ b off, a3 = some ⟨b, off, none⟩ ∧ b < w.heap.size ∧ NumsAt w b off n.refs) := by
  obtain ⟨-, ⟨a0, c0, h1, -, -, h4⟩⟩ := HS'.out
  injection h1 with h1 _ _; subst h1; exact h4
 have HW : Hid (∀ wr : World, Ext w wr → (wr.cell? ⟨b, o + 5, none⟩ = some (.slice a m.certs.length c) ∧ wr.cell? ⟨b, o + 6, none⟩ = some (.slice a' m.refs.length c') ∧ wr.cell? ⟨b', o' + 5, none⟩ = some (.slice a2 n.certs.length c2) ∧ wr.cell? ⟨b', o' + 6, none⟩ = some (.slice a3 n.refs.length c3))) := fun wr he => by
  obtain ⟨-, -, -, -, -, x5, x6⟩ := HM.out.ext hb1 he
  obtain ⟨-, -, -, -, -, y5, y6⟩ := HM'.out.ext hb2 he
  exact ⟨x5, x6, y5, y6⟩
 have HSx : Hid (∀ wx : World, Ext w wx → (fun W' : World => W'.cell? ⟨b, o, none⟩ = some (.int .i64 m.kind) ∧ W'.cell? ⟨b, o + 1, none⟩ = some (.int .i64 m.view) ∧ W'.cell? ⟨b, o + 2, none⟩ = some (.int .i64 m.from_) ∧ W'.cell? ⟨b, o + 3, none⟩ = some (.int .i64 m.slot) ∧ W'.cell? ⟨b, o + 4, none⟩ = some (.int .i64 m.value) ∧ W'.cell? ⟨b, o + 5, none⟩ = some ((.slice a m.certs.length c)) ∧ W'.cell? ⟨b, o + 6, none⟩ = some ((.slice a' m.refs.length c')) ∧ W'.cell? ⟨b', o', none⟩ = some (.int .i64 n.kind) ∧ W'.cell? ⟨b', o' + 1, none⟩ = some (.int .i64 n.view) ∧ W'.cell? ⟨b', o' + 2, none⟩ = some (.int .i64 n.from_) ∧ W'.cell? ⟨b', o' + 3, none⟩ = some (.int .i64 n.slot) ∧ W'.cell? ⟨b', o' + 4, none⟩ = some (.int .i64 n.value) ∧ W'.cell? ⟨b', o' + 5, none⟩ = some ((.slice a2 n.certs.length c2)) ∧ W'.cell? ⟨b', o' + 6, none⟩ = some ((.slice a3 n.refs.length c3))) wx) := fun wx he => by
  obtain ⟨x0, x1, x2, x3, x4, x5, x6⟩ := HM.out.ext hb1 he
  obtain ⟨y0, y1, y2, y3, y4, y5, y6⟩ := HM'.out.ext hb2 he
  exact ⟨x0, x1, x2, x3, x4, x5, x6, y0, y1, y2, y3, y4, y5, y6⟩
 clear HS HS' HM HM' hS hS' p0 p1 p2 p3 p4 p5 p6 q0 q1 q2 q3 q4 q5 q6
 go_enter Tryz.func185, Tryz.ntmps185
 go_wp2
 (try dsimp only [List.append])
 refine wp_region_held_drew (S := (fun W' : World => W'.cell? ⟨b, o, none⟩ = some (.int .i64 m.kind) ∧ W'.cell? ⟨b, o + 1, none⟩ = some (.int .i64 m.view) ∧ W'.cell? ⟨b, o + 2, none⟩ = some (.int .i64 m.from_) ∧ W'.cell? ⟨b, o + 3, none⟩ = some (.int .i64 m.slot) ∧ W'.cell? ⟨b, o + 4, none⟩ = some (.int .i64 m.value) ∧ W'.cell? ⟨b, o + 5, none⟩ = some ((.slice a m.certs.length c)) ∧ W'.cell? ⟨b, o + 6, none⟩ = some ((.slice a' m.refs.length c')) ∧ W'.cell? ⟨b', o', none⟩ = some (.int .i64 n.kind) ∧ W'.cell? ⟨b', o' + 1, none⟩ = some (.int .i64 n.view) ∧ W'.cell? ⟨b', o' + 2, none⟩ = some (.int .i64 n.from_) ∧ W'.cell? ⟨b', o' + 3, none⟩ = some (.int .i64 n.slot) ∧ W'.cell? ⟨b', o' + 4, none⟩ = some (.int .i64 n.value) ∧ W'.cell? ⟨b', o' + 5, none⟩ = some ((.slice a2 n.certs.length c2)) ∧ W'.cell? ⟨b', o' + 6, none⟩ = some ((.slice a3 n.refs.length c3)))) (by kernel_rfl) (HSx.out _ ((Ext.refl _).drew)) (fun hHeld => ?_)
 refine tk 0 ⟨some 7, .move (.tmp 0), 97, oz122, #[], none⟩ ?_
 refine tk 1 ⟨some 8, .nilCheck (.tmp 7), 0, oz122, #[⟨0, .data⟩], none⟩ ?_
 refine tk 2 ⟨some 9, .fieldAddr 40 (.tmp 8) 0, 0, oz122, #[⟨1, .data⟩], none⟩ ?_
 refine tk 3 ⟨some 10, .load 2 (.tmp 9), 2, oz122, #[⟨2, .data⟩], none⟩ ?_
 refine tk 4 ⟨some 11, .move (.tmp 1), 97, oz122, #[], none⟩ ?_
 refine tk 5 ⟨some 12, .nilCheck (.tmp 11), 0, oz122, #[⟨4, .data⟩], none⟩ ?_
 refine tk 6 ⟨some 13, .fieldAddr 40 (.tmp 12) 0, 0, oz122, #[⟨5, .data⟩], none⟩ ?_
 refine tk 7 ⟨some 14, .load 2 (.tmp 13), 2, oz122, #[⟨6, .data⟩], none⟩ ?_
 refine tk 8 ⟨some 15, .binOp .neq 2 (.tmp 10) (.tmp 14) 2, 4, oz122, oy13, none⟩ ?_
 rcases g0 : (m.kind != n.kind) with _ | _
 ·refine tk 9 ⟨some 16, .move (.tmp 15), 4, oz122, #[⟨8, .data⟩], none⟩ ?_
  refine tk 10 ⟨some 17, .move (.tmp 0), 97, oz122, #[⟨9, .guard⟩], some (9, false)⟩ ?_
  refine tk 11 ⟨some 18, .nilCheck (.tmp 17), 0, oz122, oy65, some (9, false)⟩ ?_
  refine tk 12 ⟨some 19, .fieldAddr 40 (.tmp 18) 1, 0, oz122, oy66, some (9, false)⟩ ?_
  refine tk 13 ⟨some 20, .load 2 (.tmp 19), 2, oz122, oy15, some (9, false)⟩ ?_
  refine tk 14 ⟨some 21, .move (.tmp 1), 97, oz122, #[⟨9, .guard⟩], some (9, false)⟩ ?_
  refine tk 15 ⟨some 22, .nilCheck (.tmp 21), 0, oz122, oy17, some (9, false)⟩ ?_
  refine tk 16 ⟨some 23, .fieldAddr 40 (.tmp 22) 1, 0, oz122, oy67, some (9, false)⟩ ?_
  refine tk 17 ⟨some 24, .load 2 (.tmp 23), 2, oz122, oy18, some (9, false)⟩ ?_
  refine tk 18 ⟨some 25, .binOp .neq 2 (.tmp 20) (.tmp 24) 2, 4, oz122, oy68, some (9, false)⟩ ?_
  rcases g1 : (m.view != n.view) with _ | _
  ·refine tk 19 ⟨some 26, .pick (.tmp 16) (.const (.bool true)) (.tmp 25), 4, oz122, oy69, none⟩ ?_
   refine tk 20 ⟨some 27, .move (.tmp 26), 4, oz122, oy70, none⟩ ?_
   refine tk 21 ⟨some 28, .move (.tmp 0), 97, oz122, oy71, some (20, false)⟩ ?_
   refine tk 22 ⟨some 29, .nilCheck (.tmp 28), 0, oz122, oy72, some (20, false)⟩ ?_
   refine tk 23 ⟨some 30, .fieldAddr 40 (.tmp 29) 2, 0, oz122, oy73, some (20, false)⟩ ?_
   refine tk 24 ⟨some 31, .load 2 (.tmp 30), 2, oz122, oy74, some (20, false)⟩ ?_
   refine tk 25 ⟨some 32, .move (.tmp 1), 97, oz122, oy71, some (20, false)⟩ ?_
   refine tk 26 ⟨some 33, .nilCheck (.tmp 32), 0, oz122, oy75, some (20, false)⟩ ?_
   refine tk 27 ⟨some 34, .fieldAddr 40 (.tmp 33) 2, 0, oz122, oy76, some (20, false)⟩ ?_
   refine tk 28 ⟨some 35, .load 2 (.tmp 34), 2, oz122, oy77, some (20, false)⟩ ?_
   refine tk 29 ⟨some 36, .binOp .neq 2 (.tmp 31) (.tmp 35) 2, 4, oz122, oy78, some (20, false)⟩ ?_
   rcases g2 : (m.from_ != n.from_) with _ | _
   ·refine tk 30 ⟨some 37, .pick (.tmp 27) (.const (.bool true)) (.tmp 36), 4, oz122, oy79, none⟩ ?_
    refine tk 31 ⟨some 38, .move (.tmp 37), 4, oz122, oy80, none⟩ ?_
    refine tk 32 ⟨some 39, .move (.tmp 0), 97, oz122, oy81, some (31, false)⟩ ?_
    refine tk 33 ⟨some 40, .nilCheck (.tmp 39), 0, oz122, oy82, some (31, false)⟩ ?_
    refine tk 34 ⟨some 41, .fieldAddr 40 (.tmp 40) 3, 0, oz122, oy83, some (31, false)⟩ ?_
    refine tk 35 ⟨some 42, .load 2 (.tmp 41), 2, oz122, oy84, some (31, false)⟩ ?_
    refine tk 36 ⟨some 43, .move (.tmp 1), 97, oz122, oy81, some (31, false)⟩ ?_
    refine tk 37 ⟨some 44, .nilCheck (.tmp 43), 0, oz122, oy85, some (31, false)⟩ ?_
    refine tk 38 ⟨some 45, .fieldAddr 40 (.tmp 44) 3, 0, oz122, oy86, some (31, false)⟩ ?_
    refine tk 39 ⟨some 46, .load 2 (.tmp 45), 2, oz122, oy87, some (31, false)⟩ ?_
    refine tk 40 ⟨some 47, .binOp .neq 2 (.tmp 42) (.tmp 46) 2, 4, oz122, oy88, some (31, false)⟩ ?_
    rcases g3 : (m.slot != n.slot) with _ | _
    ·refine tk 41 ⟨some 48, .pick (.tmp 38) (.const (.bool true)) (.tmp 47), 4, oz122, oy89, none⟩ ?_
     refine tk 42 ⟨some 49, .move (.tmp 48), 4, oz122, oy90, none⟩ ?_
     refine tk 43 ⟨some 50, .move (.tmp 0), 97, oz122, oy91, some (42, false)⟩ ?_
     refine tk 44 ⟨some 51, .nilCheck (.tmp 50), 0, oz122, oy92, some (42, false)⟩ ?_
     refine tk 45 ⟨some 52, .fieldAddr 40 (.tmp 51) 4, 0, oz122, oy93, some (42, false)⟩ ?_
     refine tk 46 ⟨some 53, .load 2 (.tmp 52), 2, oz122, oy94, some (42, false)⟩ ?_
     refine tk 47 ⟨some 54, .move (.tmp 1), 97, oz122, oy91, some (42, false)⟩ ?_
     refine tk 48 ⟨some 55, .nilCheck (.tmp 54), 0, oz122, oy95, some (42, false)⟩ ?_
     refine tk 49 ⟨some 56, .fieldAddr 40 (.tmp 55) 4, 0, oz122, oy96, some (42, false)⟩ ?_
     refine tk 50 ⟨some 57, .load 2 (.tmp 56), 2, oz122, oy97, some (42, false)⟩ ?_
     refine tk 51 ⟨some 58, .binOp .neq 2 (.tmp 53) (.tmp 57) 2, 4, oz122, oy98, some (42, false)⟩ ?_
     rcases g4 : (m.value != n.value) with _ | _
     ·refine tk 52 ⟨some 59, .pick (.tmp 49) (.const (.bool true)) (.tmp 58), 4, oz122, oy99, none⟩ ?_
      refine tk 53 ⟨some 60, .move (.tmp 59), 4, oz122, oy100, none⟩ ?_
      refine tk 54 ⟨some 61, .move (.tmp 0), 97, oz122, oy101, some (53, false)⟩ ?_
      refine tk 55 ⟨some 62, .nilCheck (.tmp 61), 0, oz122, oy102, some (53, false)⟩ ?_
      refine tk 56 ⟨some 63, .fieldAddr 40 (.tmp 62) 5, 0, oz122, oy103, some (53, false)⟩ ?_
      refine tk 57 ⟨some 64, .load 37 (.tmp 63), 37, oz122, oy104, some (53, false)⟩ ?_
      refine tk 58 ⟨some 65, .call { callee := .builtin .len, args := #[.tmp 64], argTypes := #[37] }, 3, oz122, oy123, some (53, false)⟩ ?_
      refine tk 59 ⟨some 66, .move (.tmp 1), 97, oz122, oy101, some (53, false)⟩ ?_
      refine tk 60 ⟨some 67, .nilCheck (.tmp 66), 0, oz122, oy106, some (53, false)⟩ ?_
      refine tk 61 ⟨some 68, .fieldAddr 40 (.tmp 67) 5, 0, oz122, oy107, some (53, false)⟩ ?_
      refine tk 62 ⟨some 69, .load 37 (.tmp 68), 37, oz122, oy124, some (53, false)⟩ ?_
      refine tk 63 ⟨some 70, .call { callee := .builtin .len, args := #[.tmp 69], argTypes := #[37] }, 3, oz122, oy125, some (53, false)⟩ ?_
      refine tk 64 ⟨some 71, .binOp .neq 3 (.tmp 65) (.tmp 70) 3, 4, oz122, oy126, some (53, false)⟩ ?_
      rcases g5 : ((m.certs.length : Int) != (n.certs.length : Int)) with _ | _
      ·refine tk 65 ⟨some 72, .pick (.tmp 60) (.const (.bool true)) (.tmp 71), 4, oz122, oy127, none⟩ ?_
       refine tk 66 ⟨some 73, .move (.tmp 72), 4, oz122, oy128, none⟩ ?_
       refine tk 67 ⟨some 74, .move (.tmp 0), 97, oz122, oy129, some (66, false)⟩ ?_
       refine tk 68 ⟨some 75, .nilCheck (.tmp 74), 0, oz122, oy130, some (66, false)⟩ ?_
       refine tk 69 ⟨some 76, .fieldAddr 40 (.tmp 75) 6, 0, oz122, oy131, some (66, false)⟩ ?_
       refine tk 70 ⟨some 77, .load 38 (.tmp 76), 38, oz122, oy132, some (66, false)⟩ ?_
       refine tk 71 ⟨some 78, .call { callee := .builtin .len, args := #[.tmp 77], argTypes := #[38] }, 3, oz122, oy133, some (66, false)⟩ ?_
       refine tk 72 ⟨some 79, .move (.tmp 1), 97, oz122, oy129, some (66, false)⟩ ?_
       refine tk 73 ⟨some 80, .nilCheck (.tmp 79), 0, oz122, oy134, some (66, false)⟩ ?_
       refine tk 74 ⟨some 81, .fieldAddr 40 (.tmp 80) 6, 0, oz122, oy135, some (66, false)⟩ ?_
       refine tk 75 ⟨some 82, .load 38 (.tmp 81), 38, oz122, oy136, some (66, false)⟩ ?_
       refine tk 76 ⟨some 83, .call { callee := .builtin .len, args := #[.tmp 82], argTypes := #[38] }, 3, oz122, oy137, some (66, false)⟩ ?_
       refine tk 77 ⟨some 84, .binOp .neq 3 (.tmp 78) (.tmp 83) 3, 4, oz122, oy138, some (66, false)⟩ ?_
       rcases g6 : ((m.refs.length : Int) != (n.refs.length : Int)) with _ | _
       ·refine tk 78 ⟨some 85, .pick (.tmp 73) (.const (.bool true)) (.tmp 84), 4, oz122, oy139, none⟩ ?_
        refine wpAnyH_done (by kernel_rfl) ?_ _
        have HQ : Hid (∀ b, Msg.same m.certs n.certs = true → Msg.same m.refs n.refs = b → R = b) := fun b h5 h6 => HR.out.symm.trans (Msg.sameM_7 (by simpa using g0) (by simpa using g1) (by simpa using g2) (by simpa using g3) (by simpa using g4) h5 b h6)
        have HQ5 : Hid (Msg.same m.certs n.certs = false → R = false) := fun h => HR.out.symm.trans (Msg.sameM_5 h)
        have HQ6 : Hid (Msg.same m.refs n.refs = false → R = false) := fun h => HR.out.symm.trans (Msg.sameM_6 h)
        have HL5 : Hid (m.certs.length = n.certs.length) := by have h := g5; simp at h; show m.certs.length = n.certs.length; omega
        have HL6 : Hid (m.refs.length = n.refs.length) := by have h := g6; simp at h; show m.refs.length = n.refs.length; omega
        clear g0 g1 g2 g3 g4 g5 g6 hHeld
        go_wp2
        go_loopw [5] (fun i wr => ∃ (k : Nat), k ≤ m.certs.length ∧ i = .int .i64 k ∧ Hid (∀ j, j < k → m.certs[j]? = n.certs[j]?) ∧ Hid (Ext w wr)) (fun i _ => m.certs.length - (intOf i).toNat)
        case atStart => exact ⟨0, Nat.zero_le _, rfl, fun j h => by omega, (Ext.refl _).drew⟩
        case round =>
         obtain ⟨k, hk, rfl, HA, HE⟩ := hrel
         obtain ⟨r5, r6, s5, s6⟩ := HW.out _ HE.out
         by_cases hlt : k < m.certs.length
         ·obtain ⟨z, hzk⟩ : ∃ z, m.certs[k]? = some z := ⟨_, List.getElem?_eq_getElem hlt⟩
          obtain ⟨y, hyk⟩ : ∃ y, n.certs[k]? = some y := ⟨_, List.getElem?_eq_getElem (by have := HL5.out; omega)⟩
          obtain ⟨b1, off, rfl, hb, hN⟩ := HX5.out (by omega)
          obtain ⟨b1', off', rfl, hb', hN'⟩ := HY5.out (by have := HL5.out; omega)
          obtain ⟨d0, d1, d2⟩ := hN.ext hb HE.out k z hzk
          obtain ⟨e0, e1, e2⟩ := hN'.ext hb' HE.out k y hyk
          have hky : k < n.certs.length := by have := HL5.out; omega
          have HZ : Hid (m.certs[k]? = some z ∧ n.certs[k]? = some y) := ⟨hzk, hyk⟩
          clear hzk hyk hN hN'
          by_cases g0 : z.slot = y.slot
          ·by_cases g1 : z.view = y.view
           ·by_cases g2 : z.value = y.value
            ·have HA2 : Hid (∀ j, j < k + 1 → m.certs[j]? = n.certs[j]?) := by
              intro j hj
              by_cases hjk : j = k
              ·subst hjk; rw [HZ.out.1, HZ.out.2, Msg.ct_eq g0 g1 g2]
              ·exact HA.out j (by omega)
             go_wp2
             go_region
             all_goals
              go_wp2
              exact ⟨⟨k + 1, by omega, by go_num, HA2, HE.out.drew⟩, by simp [intOf]; omega⟩
            ·have HF : Hid (Msg.same m.certs n.certs = false) := Msg.same_ne HZ.out.1 HZ.out.2 (by rintro rfl; exact g2 rfl)
             go_wp2
             go_region
             all_goals
              go_wp2
              go_ret
              exact ⟨ret_bool (HQ5.out HF.out).symm, HE.out.drew⟩
           ·have HF : Hid (Msg.same m.certs n.certs = false) := Msg.same_ne HZ.out.1 HZ.out.2 (by rintro rfl; exact g1 rfl)
            go_wp2
            go_region
            all_goals
             go_wp2
             go_ret
             exact ⟨ret_bool (HQ5.out HF.out).symm, HE.out.drew⟩
          ·have HF : Hid (Msg.same m.certs n.certs = false) := Msg.same_ne HZ.out.1 HZ.out.2 (by rintro rfl; exact g0 rfl)
           go_wp2
           go_region
           all_goals
            go_wp2
            go_ret
            exact ⟨ret_bool (HQ5.out HF.out).symm, HE.out.drew⟩
         ·have HCs : Hid (Msg.same m.certs n.certs = true) := Msg.same_all HL5.out (fun j hj => HA.out j (by omega))
          have HE5 : Hid (Ext w wr) := HE
          clear HA HE r5 r6 s5 s6
          obtain ⟨r5, r6, s5, s6⟩ := HW.out _ HE5.out
          go_wp2
          clear r5 r6 s5 s6
          generalize hwr : wr = w5 at *
          clear hwr
          go_loopw [6] (fun i wr => ∃ (k : Nat), k ≤ m.refs.length ∧ i = .int .i64 k ∧ Hid (∀ j, j < k → m.refs[j]? = n.refs[j]?) ∧ Hid (Ext w wr)) (fun i _ => m.refs.length - (intOf i).toNat)
          case atStart => exact ⟨0, Nat.zero_le _, rfl, fun j h => by omega, HE5.out⟩
          case round =>
           obtain ⟨k, hk, rfl, HA, HE⟩ := hrel
           obtain ⟨r5, r6, s5, s6⟩ := HW.out _ HE.out
           by_cases hlt : k < m.refs.length
           ·obtain ⟨z, hzk⟩ : ∃ z, m.refs[k]? = some z := ⟨_, List.getElem?_eq_getElem hlt⟩
            obtain ⟨y, hyk⟩ : ∃ y, n.refs[k]? = some y := ⟨_, List.getElem?_eq_getElem (by have := HL6.out; omega)⟩
            obtain ⟨b1, off, rfl, hb, hN⟩ := HX6.out (by omega)
            obtain ⟨b1', off', rfl, hb', hN'⟩ := HY6.out (by have := HL6.out; omega)
            have d0 := hN.ext hb HE.out k z hzk
            have e0 := hN'.ext hb' HE.out k y hyk
            have hky : k < n.refs.length := by have := HL6.out; omega
            have HZ : Hid (m.refs[k]? = some z ∧ n.refs[k]? = some y) := ⟨hzk, hyk⟩
            clear hzk hyk hN hN'
            by_cases g0 : z = y
            ·have HA2 : Hid (∀ j, j < k + 1 → m.refs[j]? = n.refs[j]?) := by
              intro j hj
              by_cases hjk : j = k
              ·subst hjk; rw [HZ.out.1, HZ.out.2, g0]
              ·exact HA.out j (by omega)
             go_wp2
             go_region
             all_goals
              go_wp2
              exact ⟨⟨k + 1, by omega, by go_num, HA2, HE.out.drew⟩, by simp [intOf]; omega⟩
            ·have HF : Hid (Msg.same m.refs n.refs = false) := Msg.same_ne HZ.out.1 HZ.out.2 g0
             go_wp2
             go_region
             all_goals
              go_wp2
              go_ret
              exact ⟨ret_bool (HQ6.out HF.out).symm, HE.out.drew⟩
           ·have HF : Hid (R = true) := HQ.out true HCs.out (Msg.same_all HL6.out (fun j hj => HA.out j (by omega)))
            go_wp2
            go_ret
            exact ⟨ret_bool HF.out.symm, HE.out⟩
       ·refine tk 78 ⟨some 85, .pick (.tmp 73) (.const (.bool true)) (.tmp 84), 4, oz122, oy139, none⟩ ?_
        refine wpAnyH_done (by kernel_rfl) ?_ _
        have HF : R = false := HR.out.symm.trans (Msg.sameM_6 (Msg.same_len (by intro h; rw [h] at g6; simp at g6)))
        subst HF
        go_wp2
        go_ret
        exact ⟨rfl, (Ext.refl _).drew⟩
      ·refine tk 65 ⟨some 72, .pick (.tmp 60) (.const (.bool true)) (.tmp 71), 4, oz122, oy127, none⟩ ?_
       refine tk 66 ⟨some 73, .move (.tmp 72), 4, oz122, oy128, none⟩ ?_
       refine tn 67 ⟨some 74, .move (.tmp 0), 97, oz122, oy129, some (66, false)⟩ ?_
       refine tn 68 ⟨some 75, .nilCheck (.tmp 74), 0, oz122, oy130, some (66, false)⟩ ?_
       refine tn 69 ⟨some 76, .fieldAddr 40 (.tmp 75) 6, 0, oz122, oy131, some (66, false)⟩ ?_
       refine tn 70 ⟨some 77, .load 38 (.tmp 76), 38, oz122, oy132, some (66, false)⟩ ?_
       refine tn 71 ⟨some 78, .call { callee := .builtin .len, args := #[.tmp 77], argTypes := #[38] }, 3, oz122, oy133, some (66, false)⟩ ?_
       refine tn 72 ⟨some 79, .move (.tmp 1), 97, oz122, oy129, some (66, false)⟩ ?_
       refine tn 73 ⟨some 80, .nilCheck (.tmp 79), 0, oz122, oy134, some (66, false)⟩ ?_
       refine tn 74 ⟨some 81, .fieldAddr 40 (.tmp 80) 6, 0, oz122, oy135, some (66, false)⟩ ?_
       refine tn 75 ⟨some 82, .load 38 (.tmp 81), 38, oz122, oy136, some (66, false)⟩ ?_
       refine tn 76 ⟨some 83, .call { callee := .builtin .len, args := #[.tmp 82], argTypes := #[38] }, 3, oz122, oy137, some (66, false)⟩ ?_
       refine tn 77 ⟨some 84, .binOp .neq 3 (.tmp 78) (.tmp 83) 3, 4, oz122, oy138, some (66, false)⟩ ?_
       refine tk 78 ⟨some 85, .pick (.tmp 73) (.const (.bool true)) (.tmp 84), 4, oz122, oy139, none⟩ ?_
       refine wpAnyH_done (by kernel_rfl) ?_ _
       have HF : R = false := HR.out.symm.trans (Msg.sameM_5 (Msg.same_len (by intro h; rw [h] at g5; simp at g5)))
       subst HF
       go_wp2
       go_ret
       exact ⟨rfl, (Ext.refl _).drew⟩
     ·refine tk 52 ⟨some 59, .pick (.tmp 49) (.const (.bool true)) (.tmp 58), 4, oz122, oy99, none⟩ ?_
      refine tk 53 ⟨some 60, .move (.tmp 59), 4, oz122, oy100, none⟩ ?_
      refine tn 54 ⟨some 61, .move (.tmp 0), 97, oz122, oy101, some (53, false)⟩ ?_
      refine tn 55 ⟨some 62, .nilCheck (.tmp 61), 0, oz122, oy102, some (53, false)⟩ ?_
      refine tn 56 ⟨some 63, .fieldAddr 40 (.tmp 62) 5, 0, oz122, oy103, some (53, false)⟩ ?_
      refine tn 57 ⟨some 64, .load 37 (.tmp 63), 37, oz122, oy104, some (53, false)⟩ ?_
      refine tn 58 ⟨some 65, .call { callee := .builtin .len, args := #[.tmp 64], argTypes := #[37] }, 3, oz122, oy123, some (53, false)⟩ ?_
      refine tn 59 ⟨some 66, .move (.tmp 1), 97, oz122, oy101, some (53, false)⟩ ?_
      refine tn 60 ⟨some 67, .nilCheck (.tmp 66), 0, oz122, oy106, some (53, false)⟩ ?_
      refine tn 61 ⟨some 68, .fieldAddr 40 (.tmp 67) 5, 0, oz122, oy107, some (53, false)⟩ ?_
      refine tn 62 ⟨some 69, .load 37 (.tmp 68), 37, oz122, oy124, some (53, false)⟩ ?_
      refine tn 63 ⟨some 70, .call { callee := .builtin .len, args := #[.tmp 69], argTypes := #[37] }, 3, oz122, oy125, some (53, false)⟩ ?_
      refine tn 64 ⟨some 71, .binOp .neq 3 (.tmp 65) (.tmp 70) 3, 4, oz122, oy126, some (53, false)⟩ ?_
      refine tk 65 ⟨some 72, .pick (.tmp 60) (.const (.bool true)) (.tmp 71), 4, oz122, oy127, none⟩ ?_
      refine tk 66 ⟨some 73, .move (.tmp 72), 4, oz122, oy128, none⟩ ?_
      refine tn 67 ⟨some 74, .move (.tmp 0), 97, oz122, oy129, some (66, false)⟩ ?_
      refine tn 68 ⟨some 75, .nilCheck (.tmp 74), 0, oz122, oy130, some (66, false)⟩ ?_
      refine tn 69 ⟨some 76, .fieldAddr 40 (.tmp 75) 6, 0, oz122, oy131, some (66, false)⟩ ?_
      refine tn 70 ⟨some 77, .load 38 (.tmp 76), 38, oz122, oy132, some (66, false)⟩ ?_
      refine tn 71 ⟨some 78, .call { callee := .builtin .len, args := #[.tmp 77], argTypes := #[38] }, 3, oz122, oy133, some (66, false)⟩ ?_
      refine tn 72 ⟨some 79, .move (.tmp 1), 97, oz122, oy129, some (66, false)⟩ ?_
      refine tn 73 ⟨some 80, .nilCheck (.tmp 79), 0, oz122, oy134, some (66, false)⟩ ?_
      refine tn 74 ⟨some 81, .fieldAddr 40 (.tmp 80) 6, 0, oz122, oy135, some (66, false)⟩ ?_
      refine tn 75 ⟨some 82, .load 38 (.tmp 81), 38, oz122, oy136, some (66, false)⟩ ?_
      refine tn 76 ⟨some 83, .call { callee := .builtin .len, args := #[.tmp 82], argTypes := #[38] }, 3, oz122, oy137, some (66, false)⟩ ?_
      refine tn 77 ⟨some 84, .binOp .neq 3 (.tmp 78) (.tmp 83) 3, 4, oz122, oy138, some (66, false)⟩ ?_
      refine tk 78 ⟨some 85, .pick (.tmp 73) (.const (.bool true)) (.tmp 84), 4, oz122, oy139, none⟩ ?_
      refine wpAnyH_done (by kernel_rfl) ?_ _
      have HF : R = false := HR.out.symm.trans (Msg.sameM_4 (by simpa using g4))
      subst HF
      go_wp2
      go_ret
      exact ⟨rfl, (Ext.refl _).drew⟩
    ·refine tk 41 ⟨some 48, .pick (.tmp 38) (.const (.bool true)) (.tmp 47), 4, oz122, oy89, none⟩ ?_
     refine tk 42 ⟨some 49, .move (.tmp 48), 4, oz122, oy90, none⟩ ?_
     refine tn 43 ⟨some 50, .move (.tmp 0), 97, oz122, oy91, some (42, false)⟩ ?_
     refine tn 44 ⟨some 51, .nilCheck (.tmp 50), 0, oz122, oy92, some (42, false)⟩ ?_
     refine tn 45 ⟨some 52, .fieldAddr 40 (.tmp 51) 4, 0, oz122, oy93, some (42, false)⟩ ?_
     refine tn 46 ⟨some 53, .load 2 (.tmp 52), 2, oz122, oy94, some (42, false)⟩ ?_
     refine tn 47 ⟨some 54, .move (.tmp 1), 97, oz122, oy91, some (42, false)⟩ ?_
     refine tn 48 ⟨some 55, .nilCheck (.tmp 54), 0, oz122, oy95, some (42, false)⟩ ?_
     refine tn 49 ⟨some 56, .fieldAddr 40 (.tmp 55) 4, 0, oz122, oy96, some (42, false)⟩ ?_
     refine tn 50 ⟨some 57, .load 2 (.tmp 56), 2, oz122, oy97, some (42, false)⟩ ?_
     refine tn 51 ⟨some 58, .binOp .neq 2 (.tmp 53) (.tmp 57) 2, 4, oz122, oy98, some (42, false)⟩ ?_
     refine tk 52 ⟨some 59, .pick (.tmp 49) (.const (.bool true)) (.tmp 58), 4, oz122, oy99, none⟩ ?_
     refine tk 53 ⟨some 60, .move (.tmp 59), 4, oz122, oy100, none⟩ ?_
     refine tn 54 ⟨some 61, .move (.tmp 0), 97, oz122, oy101, some (53, false)⟩ ?_
     refine tn 55 ⟨some 62, .nilCheck (.tmp 61), 0, oz122, oy102, some (53, false)⟩ ?_
     refine tn 56 ⟨some 63, .fieldAddr 40 (.tmp 62) 5, 0, oz122, oy103, some (53, false)⟩ ?_
     refine tn 57 ⟨some 64, .load 37 (.tmp 63), 37, oz122, oy104, some (53, false)⟩ ?_
     refine tn 58 ⟨some 65, .call { callee := .builtin .len, args := #[.tmp 64], argTypes := #[37] }, 3, oz122, oy123, some (53, false)⟩ ?_
     refine tn 59 ⟨some 66, .move (.tmp 1), 97, oz122, oy101, some (53, false)⟩ ?_
     refine tn 60 ⟨some 67, .nilCheck (.tmp 66), 0, oz122, oy106, some (53, false)⟩ ?_
     refine tn 61 ⟨some 68, .fieldAddr 40 (.tmp 67) 5, 0, oz122, oy107, some (53, false)⟩ ?_
     refine tn 62 ⟨some 69, .load 37 (.tmp 68), 37, oz122, oy124, some (53, false)⟩ ?_
     refine tn 63 ⟨some 70, .call { callee := .builtin .len, args := #[.tmp 69], argTypes := #[37] }, 3, oz122, oy125, some (53, false)⟩ ?_
     refine tn 64 ⟨some 71, .binOp .neq 3 (.tmp 65) (.tmp 70) 3, 4, oz122, oy126, some (53, false)⟩ ?_
     refine tk 65 ⟨some 72, .pick (.tmp 60) (.const (.bool true)) (.tmp 71), 4, oz122, oy127, none⟩ ?_
     refine tk 66 ⟨some 73, .move (.tmp 72), 4, oz122, oy128, none⟩ ?_
     refine tn 67 ⟨some 74, .move (.tmp 0), 97, oz122, oy129, some (66, false)⟩ ?_
     refine tn 68 ⟨some 75, .nilCheck (.tmp 74), 0, oz122, oy130, some (66, false)⟩ ?_
     refine tn 69 ⟨some 76, .fieldAddr 40 (.tmp 75) 6, 0, oz122, oy131, some (66, false)⟩ ?_
     refine tn 70 ⟨some 77, .load 38 (.tmp 76), 38, oz122, oy132, some (66, false)⟩ ?_
     refine tn 71 ⟨some 78, .call { callee := .builtin .len, args := #[.tmp 77], argTypes := #[38] }, 3, oz122, oy133, some (66, false)⟩ ?_
     refine tn 72 ⟨some 79, .move (.tmp 1), 97, oz122, oy129, some (66, false)⟩ ?_
     refine tn 73 ⟨some 80, .nilCheck (.tmp 79), 0, oz122, oy134, some (66, false)⟩ ?_
     refine tn 74 ⟨some 81, .fieldAddr 40 (.tmp 80) 6, 0, oz122, oy135, some (66, false)⟩ ?_
     refine tn 75 ⟨some 82, .load 38 (.tmp 81), 38, oz122, oy136, some (66, false)⟩ ?_
     refine tn 76 ⟨some 83, .call { callee := .builtin .len, args := #[.tmp 82], argTypes := #[38] }, 3, oz122, oy137, some (66, false)⟩ ?_
     refine tn 77 ⟨some 84, .binOp .neq 3 (.tmp 78) (.tmp 83) 3, 4, oz122, oy138, some (66, false)⟩ ?_
     refine tk 78 ⟨some 85, .pick (.tmp 73) (.const (.bool true)) (.tmp 84), 4, oz122, oy139, none⟩ ?_
     refine wpAnyH_done (by kernel_rfl) ?_ _
     have HF : R = false := HR.out.symm.trans (Msg.sameM_3 (by simpa using g3))
     subst HF
     go_wp2
     go_ret
     exact ⟨rfl, (Ext.refl _).drew⟩
   ·refine tk 30 ⟨some 37, .pick (.tmp 27) (.const (.bool true)) (.tmp 36), 4, oz122, oy79, none⟩ ?_
    refine tk 31 ⟨some 38, .move (.tmp 37), 4, oz122, oy80, none⟩ ?_
    refine tn 32 ⟨some 39, .move (.tmp 0), 97, oz122, oy81, some (31, false)⟩ ?_
    refine tn 33 ⟨some 40, .nilCheck (.tmp 39), 0, oz122, oy82, some (31, false)⟩ ?_
    refine tn 34 ⟨some 41, .fieldAddr 40 (.tmp 40) 3, 0, oz122, oy83, some (31, false)⟩ ?_
    refine tn 35 ⟨some 42, .load 2 (.tmp 41), 2, oz122, oy84, some (31, false)⟩ ?_
    refine tn 36 ⟨some 43, .move (.tmp 1), 97, oz122, oy81, some (31, false)⟩ ?_
    refine tn 37 ⟨some 44, .nilCheck (.tmp 43), 0, oz122, oy85, some (31, false)⟩ ?_
    refine tn 38 ⟨some 45, .fieldAddr 40 (.tmp 44) 3, 0, oz122, oy86, some (31, false)⟩ ?_
    refine tn 39 ⟨some 46, .load 2 (.tmp 45), 2, oz122, oy87, some (31, false)⟩ ?_
    refine tn 40 ⟨some 47, .binOp .neq 2 (.tmp 42) (.tmp 46) 2, 4, oz122, oy88, some (31, false)⟩ ?_
    refine tk 41 ⟨some 48, .pick (.tmp 38) (.const (.bool true)) (.tmp 47), 4, oz122, oy89, none⟩ ?_
    refine tk 42 ⟨some 49, .move (.tmp 48), 4, oz122, oy90, none⟩ ?_
    refine tn 43 ⟨some 50, .move (.tmp 0), 97, oz122, oy91, some (42, false)⟩ ?_
    refine tn 44 ⟨some 51, .nilCheck (.tmp 50), 0, oz122, oy92, some (42, false)⟩ ?_
    refine tn 45 ⟨some 52, .fieldAddr 40 (.tmp 51) 4, 0, oz122, oy93, some (42, false)⟩ ?_
    refine tn 46 ⟨some 53, .load 2 (.tmp 52), 2, oz122, oy94, some (42, false)⟩ ?_
    refine tn 47 ⟨some 54, .move (.tmp 1), 97, oz122, oy91, some (42, false)⟩ ?_
    refine tn 48 ⟨some 55, .nilCheck (.tmp 54), 0, oz122, oy95, some (42, false)⟩ ?_
    refine tn 49 ⟨some 56, .fieldAddr 40 (.tmp 55) 4, 0, oz122, oy96, some (42, false)⟩ ?_
    refine tn 50 ⟨some 57, .load 2 (.tmp 56), 2, oz122, oy97, some (42, false)⟩ ?_
    refine tn 51 ⟨some 58, .binOp .neq 2 (.tmp 53) (.tmp 57) 2, 4, oz122, oy98, some (42, false)⟩ ?_
    refine tk 52 ⟨some 59, .pick (.tmp 49) (.const (.bool true)) (.tmp 58), 4, oz122, oy99, none⟩ ?_
    refine tk 53 ⟨some 60, .move (.tmp 59), 4, oz122, oy100, none⟩ ?_
    refine tn 54 ⟨some 61, .move (.tmp 0), 97, oz122, oy101, some (53, false)⟩ ?_
    refine tn 55 ⟨some 62, .nilCheck (.tmp 61), 0, oz122, oy102, some (53, false)⟩ ?_
    refine tn 56 ⟨some 63, .fieldAddr 40 (.tmp 62) 5, 0, oz122, oy103, some (53, false)⟩ ?_
    refine tn 57 ⟨some 64, .load 37 (.tmp 63), 37, oz122, oy104, some (53, false)⟩ ?_
    refine tn 58 ⟨some 65, .call { callee := .builtin .len, args := #[.tmp 64], argTypes := #[37] }, 3, oz122, oy123, some (53, false)⟩ ?_
    refine tn 59 ⟨some 66, .move (.tmp 1), 97, oz122, oy101, some (53, false)⟩ ?_
    refine tn 60 ⟨some 67, .nilCheck (.tmp 66), 0, oz122, oy106, some (53, false)⟩ ?_
    refine tn 61 ⟨some 68, .fieldAddr 40 (.tmp 67) 5, 0, oz122, oy107, some (53, false)⟩ ?_
    refine tn 62 ⟨some 69, .load 37 (.tmp 68), 37, oz122, oy124, some (53, false)⟩ ?_
    refine tn 63 ⟨some 70, .call { callee := .builtin .len, args := #[.tmp 69], argTypes := #[37] }, 3, oz122, oy125, some (53, false)⟩ ?_
    refine tn 64 ⟨some 71, .binOp .neq 3 (.tmp 65) (.tmp 70) 3, 4, oz122, oy126, some (53, false)⟩ ?_
    refine tk 65 ⟨some 72, .pick (.tmp 60) (.const (.bool true)) (.tmp 71), 4, oz122, oy127, none⟩ ?_
    refine tk 66 ⟨some 73, .move (.tmp 72), 4, oz122, oy128, none⟩ ?_
    refine tn 67 ⟨some 74, .move (.tmp 0), 97, oz122, oy129, some (66, false)⟩ ?_
    refine tn 68 ⟨some 75, .nilCheck (.tmp 74), 0, oz122, oy130, some (66, false)⟩ ?_
    refine tn 69 ⟨some 76, .fieldAddr 40 (.tmp 75) 6, 0, oz122, oy131, some (66, false)⟩ ?_
    refine tn 70 ⟨some 77, .load 38 (.tmp 76), 38, oz122, oy132, some (66, false)⟩ ?_
    refine tn 71 ⟨some 78, .call { callee := .builtin .len, args := #[.tmp 77], argTypes := #[38] }, 3, oz122, oy133, some (66, false)⟩ ?_
    refine tn 72 ⟨some 79, .move (.tmp 1), 97, oz122, oy129, some (66, false)⟩ ?_
    refine tn 73 ⟨some 80, .nilCheck (.tmp 79), 0, oz122, oy134, some (66, false)⟩ ?_
    refine tn 74 ⟨some 81, .fieldAddr 40 (.tmp 80) 6, 0, oz122, oy135, some (66, false)⟩ ?_
    refine tn 75 ⟨some 82, .load 38 (.tmp 81), 38, oz122, oy136, some (66, false)⟩ ?_
    refine tn 76 ⟨some 83, .call { callee := .builtin .len, args := #[.tmp 82], argTypes := #[38] }, 3, oz122, oy137, some (66, false)⟩ ?_
    refine tn 77 ⟨some 84, .binOp .neq 3 (.tmp 78) (.tmp 83) 3, 4, oz122, oy138, some (66, false)⟩ ?_
    refine tk 78 ⟨some 85, .pick (.tmp 73) (.const (.bool true)) (.tmp 84), 4, oz122, oy139, none⟩ ?_
    refine wpAnyH_done (by kernel_rfl) ?_ _
    have HF : R = false := HR.out.symm.trans (Msg.sameM_2 (by simpa using g2))
    subst HF
    go_wp2
    go_ret
    exact ⟨rfl, (Ext.refl _).drew⟩
  ·refine tk 19 ⟨some 26, .pick (.tmp 16) (.const (.bool true)) (.tmp 25), 4, oz122, oy69, none⟩ ?_
   refine tk 20 ⟨some 27, .move (.tmp 26), 4, oz122, oy70, none⟩ ?_
   refine tn 21 ⟨some 28, .move (.tmp 0), 97, oz122, oy71, some (20, false)⟩ ?_
   refine tn 22 ⟨some 29, .nilCheck (.tmp 28), 0, oz122, oy72, some (20, false)⟩ ?_
   refine tn 23 ⟨some 30, .fieldAddr 40 (.tmp 29) 2, 0, oz122, oy73, some (20, false)⟩ ?_
   refine tn 24 ⟨some 31, .load 2 (.tmp 30), 2, oz122, oy74, some (20, false)⟩ ?_
   refine tn 25 ⟨some 32, .move (.tmp 1), 97, oz122, oy71, some (20, false)⟩ ?_
   refine tn 26 ⟨some 33, .nilCheck (.tmp 32), 0, oz122, oy75, some (20, false)⟩ ?_
   refine tn 27 ⟨some 34, .fieldAddr 40 (.tmp 33) 2, 0, oz122, oy76, some (20, false)⟩ ?_
   refine tn 28 ⟨some 35, .load 2 (.tmp 34), 2, oz122, oy77, some (20, false)⟩ ?_
   refine tn 29 ⟨some 36, .binOp .neq 2 (.tmp 31) (.tmp 35) 2, 4, oz122, oy78, some (20, false)⟩ ?_
   refine tk 30 ⟨some 37, .pick (.tmp 27) (.const (.bool true)) (.tmp 36), 4, oz122, oy79, none⟩ ?_
   refine tk 31 ⟨some 38, .move (.tmp 37), 4, oz122, oy80, none⟩ ?_
   refine tn 32 ⟨some 39, .move (.tmp 0), 97, oz122, oy81, some (31, false)⟩ ?_
   refine tn 33 ⟨some 40, .nilCheck (.tmp 39), 0, oz122, oy82, some (31, false)⟩ ?_
   refine tn 34 ⟨some 41, .fieldAddr 40 (.tmp 40) 3, 0, oz122, oy83, some (31, false)⟩ ?_
   refine tn 35 ⟨some 42, .load 2 (.tmp 41), 2, oz122, oy84, some (31, false)⟩ ?_
   refine tn 36 ⟨some 43, .move (.tmp 1), 97, oz122, oy81, some (31, false)⟩ ?_
   refine tn 37 ⟨some 44, .nilCheck (.tmp 43), 0, oz122, oy85, some (31, false)⟩ ?_
   refine tn 38 ⟨some 45, .fieldAddr 40 (.tmp 44) 3, 0, oz122, oy86, some (31, false)⟩ ?_
   refine tn 39 ⟨some 46, .load 2 (.tmp 45), 2, oz122, oy87, some (31, false)⟩ ?_
   refine tn 40 ⟨some 47, .binOp .neq 2 (.tmp 42) (.tmp 46) 2, 4, oz122, oy88, some (31, false)⟩ ?_
   refine tk 41 ⟨some 48, .pick (.tmp 38) (.const (.bool true)) (.tmp 47), 4, oz122, oy89, none⟩ ?_
   refine tk 42 ⟨some 49, .move (.tmp 48), 4, oz122, oy90, none⟩ ?_
   refine tn 43 ⟨some 50, .move (.tmp 0), 97, oz122, oy91, some (42, false)⟩ ?_
   refine tn 44 ⟨some 51, .nilCheck (.tmp 50), 0, oz122, oy92, some (42, false)⟩ ?_
   refine tn 45 ⟨some 52, .fieldAddr 40 (.tmp 51) 4, 0, oz122, oy93, some (42, false)⟩ ?_
   refine tn 46 ⟨some 53, .load 2 (.tmp 52), 2, oz122, oy94, some (42, false)⟩ ?_
   refine tn 47 ⟨some 54, .move (.tmp 1), 97, oz122, oy91, some (42, false)⟩ ?_
   refine tn 48 ⟨some 55, .nilCheck (.tmp 54), 0, oz122, oy95, some (42, false)⟩ ?_
   refine tn 49 ⟨some 56, .fieldAddr 40 (.tmp 55) 4, 0, oz122, oy96, some (42, false)⟩ ?_
   refine tn 50 ⟨some 57, .load 2 (.tmp 56), 2, oz122, oy97, some (42, false)⟩ ?_
   refine tn 51 ⟨some 58, .binOp .neq 2 (.tmp 53) (.tmp 57) 2, 4, oz122, oy98, some (42, false)⟩ ?_
   refine tk 52 ⟨some 59, .pick (.tmp 49) (.const (.bool true)) (.tmp 58), 4, oz122, oy99, none⟩ ?_
   refine tk 53 ⟨some 60, .move (.tmp 59), 4, oz122, oy100, none⟩ ?_
   refine tn 54 ⟨some 61, .move (.tmp 0), 97, oz122, oy101, some (53, false)⟩ ?_
   refine tn 55 ⟨some 62, .nilCheck (.tmp 61), 0, oz122, oy102, some (53, false)⟩ ?_
   refine tn 56 ⟨some 63, .fieldAddr 40 (.tmp 62) 5, 0, oz122, oy103, some (53, false)⟩ ?_
   refine tn 57 ⟨some 64, .load 37 (.tmp 63), 37, oz122, oy104, some (53, false)⟩ ?_
   refine tn 58 ⟨some 65, .call { callee := .builtin .len, args := #[.tmp 64], argTypes := #[37] }, 3, oz122, oy123, some (53, false)⟩ ?_
   refine tn 59 ⟨some 66, .move (.tmp 1), 97, oz122, oy101, some (53, false)⟩ ?_
   refine tn 60 ⟨some 67, .nilCheck (.tmp 66), 0, oz122, oy106, some (53, false)⟩ ?_
   refine tn 61 ⟨some 68, .fieldAddr 40 (.tmp 67) 5, 0, oz122, oy107, some (53, false)⟩ ?_
   refine tn 62 ⟨some 69, .load 37 (.tmp 68), 37, oz122, oy124, some (53, false)⟩ ?_
   refine tn 63 ⟨some 70, .call { callee := .builtin .len, args := #[.tmp 69], argTypes := #[37] }, 3, oz122, oy125, some (53, false)⟩ ?_
   refine tn 64 ⟨some 71, .binOp .neq 3 (.tmp 65) (.tmp 70) 3, 4, oz122, oy126, some (53, false)⟩ ?_
   refine tk 65 ⟨some 72, .pick (.tmp 60) (.const (.bool true)) (.tmp 71), 4, oz122, oy127, none⟩ ?_
   refine tk 66 ⟨some 73, .move (.tmp 72), 4, oz122, oy128, none⟩ ?_
   refine tn 67 ⟨some 74, .move (.tmp 0), 97, oz122, oy129, some (66, false)⟩ ?_
   refine tn 68 ⟨some 75, .nilCheck (.tmp 74), 0, oz122, oy130, some (66, false)⟩ ?_
   refine tn 69 ⟨some 76, .fieldAddr 40 (.tmp 75) 6, 0, oz122, oy131, some (66, false)⟩ ?_
   refine tn 70 ⟨some 77, .load 38 (.tmp 76), 38, oz122, oy132, some (66, false)⟩ ?_
   refine tn 71 ⟨some 78, .call { callee := .builtin .len, args := #[.tmp 77], argTypes := #[38] }, 3, oz122, oy133, some (66, false)⟩ ?_
   refine tn 72 ⟨some 79, .move (.tmp 1), 97, oz122, oy129, some (66, false)⟩ ?_
   refine tn 73 ⟨some 80, .nilCheck (.tmp 79), 0, oz122, oy134, some (66, false)⟩ ?_
   refine tn 74 ⟨some 81, .fieldAddr 40 (.tmp 80) 6, 0, oz122, oy135, some (66, false)⟩ ?_
   refine tn 75 ⟨some 82, .load 38 (.tmp 81), 38, oz122, oy136, some (66, false)⟩ ?_
   refine tn 76 ⟨some 83, .call { callee := .builtin .len, args := #[.tmp 82], argTypes := #[38] }, 3, oz122, oy137, some (66, false)⟩ ?_
   refine tn 77 ⟨some 84, .binOp .neq 3 (.tmp 78) (.tmp 83) 3, 4, oz122, oy138, some (66, false)⟩ ?_
   refine tk 78 ⟨some 85, .pick (.tmp 73) (.const (.bool true)) (.tmp 84), 4, oz122, oy139, none⟩ ?_
   refine wpAnyH_done (by kernel_rfl) ?_ _
   have HF : R = false := HR.out.symm.trans (Msg.sameM_1 (by simpa using g1))
   subst HF
   go_wp2
   go_ret
   exact ⟨rfl, (Ext.refl _).drew⟩
 ·refine tk 9 ⟨some 16, .move (.tmp 15), 4, oz122, #[⟨8, .data⟩], none⟩ ?_
  refine tn 10 ⟨some 17, .move (.tmp 0), 97, oz122, #[⟨9, .guard⟩], some (9, false)⟩ ?_
  refine tn 11 ⟨some 18, .nilCheck (.tmp 17), 0, oz122, oy65, some (9, false)⟩ ?_
  refine tn 12 ⟨some 19, .fieldAddr 40 (.tmp 18) 1, 0, oz122, oy66, some (9, false)⟩ ?_
  refine tn 13 ⟨some 20, .load 2 (.tmp 19), 2, oz122, oy15, some (9, false)⟩ ?_
  refine tn 14 ⟨some 21, .move (.tmp 1), 97, oz122, #[⟨9, .guard⟩], some (9, false)⟩ ?_
  refine tn 15 ⟨some 22, .nilCheck (.tmp 21), 0, oz122, oy17, some (9, false)⟩ ?_
  refine tn 16 ⟨some 23, .fieldAddr 40 (.tmp 22) 1, 0, oz122, oy67, some (9, false)⟩ ?_
  refine tn 17 ⟨some 24, .load 2 (.tmp 23), 2, oz122, oy18, some (9, false)⟩ ?_
  refine tn 18 ⟨some 25, .binOp .neq 2 (.tmp 20) (.tmp 24) 2, 4, oz122, oy68, some (9, false)⟩ ?_
  refine tk 19 ⟨some 26, .pick (.tmp 16) (.const (.bool true)) (.tmp 25), 4, oz122, oy69, none⟩ ?_
  refine tk 20 ⟨some 27, .move (.tmp 26), 4, oz122, oy70, none⟩ ?_
  refine tn 21 ⟨some 28, .move (.tmp 0), 97, oz122, oy71, some (20, false)⟩ ?_
  refine tn 22 ⟨some 29, .nilCheck (.tmp 28), 0, oz122, oy72, some (20, false)⟩ ?_
  refine tn 23 ⟨some 30, .fieldAddr 40 (.tmp 29) 2, 0, oz122, oy73, some (20, false)⟩ ?_
  refine tn 24 ⟨some 31, .load 2 (.tmp 30), 2, oz122, oy74, some (20, false)⟩ ?_
  refine tn 25 ⟨some 32, .move (.tmp 1), 97, oz122, oy71, some (20, false)⟩ ?_
  refine tn 26 ⟨some 33, .nilCheck (.tmp 32), 0, oz122, oy75, some (20, false)⟩ ?_
  refine tn 27 ⟨some 34, .fieldAddr 40 (.tmp 33) 2, 0, oz122, oy76, some (20, false)⟩ ?_
  refine tn 28 ⟨some 35, .load 2 (.tmp 34), 2, oz122, oy77, some (20, false)⟩ ?_
  refine tn 29 ⟨some 36, .binOp .neq 2 (.tmp 31) (.tmp 35) 2, 4, oz122, oy78, some (20, false)⟩ ?_
  refine tk 30 ⟨some 37, .pick (.tmp 27) (.const (.bool true)) (.tmp 36), 4, oz122, oy79, none⟩ ?_
  refine tk 31 ⟨some 38, .move (.tmp 37), 4, oz122, oy80, none⟩ ?_
  refine tn 32 ⟨some 39, .move (.tmp 0), 97, oz122, oy81, some (31, false)⟩ ?_
  refine tn 33 ⟨some 40, .nilCheck (.tmp 39), 0, oz122, oy82, some (31, false)⟩ ?_
  refine tn 34 ⟨some 41, .fieldAddr 40 (.tmp 40) 3, 0, oz122, oy83, some (31, false)⟩ ?_
  refine tn 35 ⟨some 42, .load 2 (.tmp 41), 2, oz122, oy84, some (31, false)⟩ ?_
  refine tn 36 ⟨some 43, .move (.tmp 1), 97, oz122, oy81, some (31, false)⟩ ?_
  refine tn 37 ⟨some 44, .nilCheck (.tmp 43), 0, oz122, oy85, some (31, false)⟩ ?_
  refine tn 38 ⟨some 45, .fieldAddr 40 (.tmp 44) 3, 0, oz122, oy86, some (31, false)⟩ ?_
  refine tn 39 ⟨some 46, .load 2 (.tmp 45), 2, oz122, oy87, some (31, false)⟩ ?_
  refine tn 40 ⟨some 47, .binOp .neq 2 (.tmp 42) (.tmp 46) 2, 4, oz122, oy88, some (31, false)⟩ ?_
  refine tk 41 ⟨some 48, .pick (.tmp 38) (.const (.bool true)) (.tmp 47), 4, oz122, oy89, none⟩ ?_
  refine tk 42 ⟨some 49, .move (.tmp 48), 4, oz122, oy90, none⟩ ?_
  refine tn 43 ⟨some 50, .move (.tmp 0), 97, oz122, oy91, some (42, false)⟩ ?_
  refine tn 44 ⟨some 51, .nilCheck (.tmp 50), 0, oz122, oy92, some (42, false)⟩ ?_
  refine tn 45 ⟨some 52, .fieldAddr 40 (.tmp 51) 4, 0, oz122, oy93, some (42, false)⟩ ?_
  refine tn 46 ⟨some 53, .load 2 (.tmp 52), 2, oz122, oy94, some (42, false)⟩ ?_
  refine tn 47 ⟨some 54, .move (.tmp 1), 97, oz122, oy91, some (42, false)⟩ ?_
  refine tn 48 ⟨some 55, .nilCheck (.tmp 54), 0, oz122, oy95, some (42, false)⟩ ?_
  refine tn 49 ⟨some 56, .fieldAddr 40 (.tmp 55) 4, 0, oz122, oy96, some (42, false)⟩ ?_
  refine tn 50 ⟨some 57, .load 2 (.tmp 56), 2, oz122, oy97, some (42, false)⟩ ?_
  refine tn 51 ⟨some 58, .binOp .neq 2 (.tmp 53) (.tmp 57) 2, 4, oz122, oy98, some (42, false)⟩ ?_
  refine tk 52 ⟨some 59, .pick (.tmp 49) (.const (.bool true)) (.tmp 58), 4, oz122, oy99, none⟩ ?_
  refine tk 53 ⟨some 60, .move (.tmp 59), 4, oz122, oy100, none⟩ ?_
  refine tn 54 ⟨some 61, .move (.tmp 0), 97, oz122, oy101, some (53, false)⟩ ?_
  refine tn 55 ⟨some 62, .nilCheck (.tmp 61), 0, oz122, oy102, some (53, false)⟩ ?_
  refine tn 56 ⟨some 63, .fieldAddr 40 (.tmp 62) 5, 0, oz122, oy103, some (53, false)⟩ ?_
  refine tn 57 ⟨some 64, .load 37 (.tmp 63), 37, oz122, oy104, some (53, false)⟩ ?_
  refine tn 58 ⟨some 65, .call { callee := .builtin .len, args := #[.tmp 64], argTypes := #[37] }, 3, oz122, oy123, some (53, false)⟩ ?_
  refine tn 59 ⟨some 66, .move (.tmp 1), 97, oz122, oy101, some (53, false)⟩ ?_
  refine tn 60 ⟨some 67, .nilCheck (.tmp 66), 0, oz122, oy106, some (53, false)⟩ ?_
  refine tn 61 ⟨some 68, .fieldAddr 40 (.tmp 67) 5, 0, oz122, oy107, some (53, false)⟩ ?_
  refine tn 62 ⟨some 69, .load 37 (.tmp 68), 37, oz122, oy124, some (53, false)⟩ ?_
  refine tn 63 ⟨some 70, .call { callee := .builtin .len, args := #[.tmp 69], argTypes := #[37] }, 3, oz122, oy125, some (53, false)⟩ ?_
  refine tn 64 ⟨some 71, .binOp .neq 3 (.tmp 65) (.tmp 70) 3, 4, oz122, oy126, some (53, false)⟩ ?_
  refine tk 65 ⟨some 72, .pick (.tmp 60) (.const (.bool true)) (.tmp 71), 4, oz122, oy127, none⟩ ?_
  refine tk 66 ⟨some 73, .move (.tmp 72), 4, oz122, oy128, none⟩ ?_
  refine tn 67 ⟨some 74, .move (.tmp 0), 97, oz122, oy129, some (66, false)⟩ ?_
  refine tn 68 ⟨some 75, .nilCheck (.tmp 74), 0, oz122, oy130, some (66, false)⟩ ?_
  refine tn 69 ⟨some 76, .fieldAddr 40 (.tmp 75) 6, 0, oz122, oy131, some (66, false)⟩ ?_
  refine tn 70 ⟨some 77, .load 38 (.tmp 76), 38, oz122, oy132, some (66, false)⟩ ?_
  refine tn 71 ⟨some 78, .call { callee := .builtin .len, args := #[.tmp 77], argTypes := #[38] }, 3, oz122, oy133, some (66, false)⟩ ?_
  refine tn 72 ⟨some 79, .move (.tmp 1), 97, oz122, oy129, some (66, false)⟩ ?_
  refine tn 73 ⟨some 80, .nilCheck (.tmp 79), 0, oz122, oy134, some (66, false)⟩ ?_
  refine tn 74 ⟨some 81, .fieldAddr 40 (.tmp 80) 6, 0, oz122, oy135, some (66, false)⟩ ?_
  refine tn 75 ⟨some 82, .load 38 (.tmp 81), 38, oz122, oy136, some (66, false)⟩ ?_
  refine tn 76 ⟨some 83, .call { callee := .builtin .len, args := #[.tmp 82], argTypes := #[38] }, 3, oz122, oy137, some (66, false)⟩ ?_
  refine tn 77 ⟨some 84, .binOp .neq 3 (.tmp 78) (.tmp 83) 3, 4, oz122, oy138, some (66, false)⟩ ?_
  refine tk 78 ⟨some 85, .pick (.tmp 73) (.const (.bool true)) (.tmp 84), 4, oz122, oy139, none⟩ ?_
  refine wpAnyH_done (by kernel_rfl) ?_ _
  have HF : R = false := HR.out.symm.trans (Msg.sameM_0 (by simpa using g0))
  subst HF
  go_wp2
  go_ret
  exact ⟨rfl, (Ext.refl _).drew⟩

end Go.Proofs.YtecgjdgfjgcmdaaGreat
