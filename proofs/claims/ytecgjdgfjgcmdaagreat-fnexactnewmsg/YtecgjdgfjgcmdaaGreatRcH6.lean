/- the specification's l8Lists. -/
import Derived.Test.YtecgjdgfjgcmdaaGreatRcH5
import Derived.Deep.RegionHeld3
import Derived.Test.YtecgjdgfjgcmdaaGreatRcTk
namespace Go.Proofs.YtecgjdgfjgcmdaaGreat
open Go.RowKit
set_option maxHeartbeats 20000000 in
set_option maxRecDepth 100000 in
theorem l8Lists_any (m : Ms) (v u : Value) (b o : Nat) (w : World) (hb1 : b < w.heap.size) (hm : MCs w b o m v u) (hS : MLs w v u m) (hv0 : 0 ≤ m.view) (hv1 : m.view ≤ 20) :
    Calls Tryz.prog 184 #[.pointer (some ⟨b, o, none⟩)] w fun e w' => e = .returned (.int .i64 (Msg.lists m)) ∧ Ext w w' := by
  have HS : Hid (MLs w v u m) := hS
  have HM : Hid (MCs w b o m v u) := hm
  obtain ⟨a, c, a', c', rfl, rfl, hc1, hc2, hc3, hc4⟩ := hS.form
  unfold maxLen at hc2 hc4
  have HX5 : Hid (0 < m.certs.length → ∃ b off, a = some ⟨b, off, none⟩ ∧ b < w.heap.size ∧ CtsAt w b off m.certs) := by
    obtain ⟨⟨a0, c0, h1, -, -, h4⟩, -⟩ := HS.out
    injection h1 with h1 _ _; subst h1; exact h4
  have HX6 : Hid (0 < m.refs.length → ∃ b off, a' = some ⟨b, off, none⟩ ∧ b < w.heap.size ∧ NumsAt w b off m.refs) := by
    obtain ⟨-, ⟨a0, c0, h1, -, -, h4⟩⟩ := HS.out
    injection h1 with h1 _ _; subst h1; exact h4
  have HW : Hid (∀ wr : World, Ext w wr → wr.cell? ⟨b, o + 1, none⟩ = some (.int .i64 m.view) ∧ wr.cell? ⟨b, o + 5, none⟩ = some (.slice a m.certs.length c) ∧ wr.cell? ⟨b, o + 6, none⟩ = some (.slice a' m.refs.length c')) := fun wr he => by
    obtain ⟨-, x1, -, -, -, x5, x6⟩ := HM.out.ext hb1 he
    exact ⟨x1, x5, x6⟩
  clear HS HM hS hm
  go_enter Tryz.func184, Tryz.ntmps184
  go_wp2
  go_loopw [3] (fun i wr => ∃ (k : Nat), 1 ≤ k ∧ (k ≤ m.certs.length ∨ k = 1) ∧ i = .int .i64 k ∧ Hid (∀ j x y, j + 1 < k → (Msg.slots m.certs)[j]? = some x → (Msg.slots m.certs)[j + 1]? = some y → x < y) ∧ Hid (Ext w wr)) (fun i _ => m.certs.length - (intOf i).toNat)
  case atStart => exact ⟨1, by omega, Or.inr rfl, rfl, fun j x y h => by omega, Ext.refl _⟩
  case round =>
    obtain ⟨k, hk1, hk, rfl, HA, HE⟩ := hrel
    obtain ⟨r1, r5, r6⟩ := HW.out _ HE.out
    by_cases hlt : k < m.certs.length
    · obtain ⟨j, hj⟩ : ∃ j, k = j + 1 := ⟨k - 1, by omega⟩
      have hjl : j < m.certs.length := by omega
      obtain ⟨z, hzk⟩ : ∃ z, m.certs[k]? = some z := ⟨_, List.getElem?_eq_getElem hlt⟩
      obtain ⟨y, hyk⟩ : ∃ y, m.certs[j]? = some y := ⟨_, List.getElem?_eq_getElem hjl⟩
      obtain ⟨b1, off, rfl, hb, hN⟩ := HX5.out (by omega)
      obtain ⟨d0, d1, d2⟩ := hN.ext hb HE.out k z hzk
      obtain ⟨e0, e1, e2⟩ := hN.ext hb HE.out j y hyk
      have hsub : IntKind.i64.wrap ((k : Int) - 1) = (j : Int) := by rw [IntKind.wrap_i64]; omega
      have HZ : Hid (k = j + 1 ∧ m.certs[k]? = some z ∧ m.certs[j]? = some y) := ⟨hj, hzk, hyk⟩
      clear hzk hyk hN hj
      by_cases hg : z.slot ≤ y.slot
      · have HF : Hid (Msg.rises (Msg.slots m.certs) = false) := by
          obtain ⟨h1, h2, h3⟩ := HZ.out
          subst h1
          exact Msg.rises_ne (i := j) (Msg.slots_at h3) (Msg.slots_at h2) (by omega)
        go_wp2
        go_region
        all_goals
          go_wp2
          go_ret
          exact ⟨ret_int (Msg.lists_1 HF.out).symm, HE.out.drew⟩
      · have HA2 : Hid (∀ i x y', i + 1 < k + 1 → (Msg.slots m.certs)[i]? = some x → (Msg.slots m.certs)[i + 1]? = some y' → x < y') := by
          intro i x y' hi hx hy
          by_cases hik : i + 1 < k
          · exact HA.out i x y' hik hx hy
          · obtain ⟨h1, h2, h3⟩ := HZ.out
            have : i = j := by omega
            subst this
            subst h1
            have q1 := (Msg.slots_at h3)
            have q2 := (Msg.slots_at h2)
            rw [q1] at hx
            rw [q2] at hy
            cases hx
            cases hy
            omega
        go_wp2
        go_region
        all_goals
          go_wp2
          exact ⟨⟨k + 1, by omega, by omega, by go_num, HA2, HE.out.drew⟩, by simp [intOf]; omega⟩
    · have H1 : Hid (Msg.rises (Msg.slots m.certs) = true) := Msg.rises_all (fun i x y hx hy => HA.out i x y (by have := (List.getElem?_eq_some_iff.1 hy).1; unfold Msg.slots at this; rw [List.length_map] at this; omega) hx hy)
      have HE1 : Hid (Ext w wr) := HE
      clear HA HE r1 r5 r6
      obtain ⟨r1, r5, r6⟩ := HW.out _ HE1.out
      go_wp2
      clear r1 r5 r6 hk hk1
      generalize hwr : wr = w11 at *
      clear hwr
      go_loopw [4] (fun i wr => ∃ (k : Nat), 1 ≤ k ∧ (k ≤ m.refs.length ∨ k = 1) ∧ i = .int .i64 k ∧ Hid (∀ j x y, j + 1 < k → m.refs[j]? = some x → m.refs[j + 1]? = some y → x < y) ∧ Hid (Ext w wr)) (fun i _ => m.refs.length - (intOf i).toNat)
      case atStart => exact ⟨1, by omega, Or.inr rfl, rfl, fun j x y h => by omega, HE1.out⟩
      case round =>
        obtain ⟨k, hk1, hk, rfl, HA, HE⟩ := hrel
        obtain ⟨r1, r5, r6⟩ := HW.out _ HE.out
        by_cases hlt : k < m.refs.length
        · obtain ⟨j, hj⟩ : ∃ j, k = j + 1 := ⟨k - 1, by omega⟩
          have hjl : j < m.refs.length := by omega
          obtain ⟨z, hzk⟩ : ∃ z, m.refs[k]? = some z := ⟨_, List.getElem?_eq_getElem hlt⟩
          obtain ⟨y, hyk⟩ : ∃ y, m.refs[j]? = some y := ⟨_, List.getElem?_eq_getElem hjl⟩
          obtain ⟨b1, off, rfl, hb, hN⟩ := HX6.out (by omega)
          have d0 := hN.ext hb HE.out k z hzk
          have e0 := hN.ext hb HE.out j y hyk
          have hsub : IntKind.i64.wrap ((k : Int) - 1) = (j : Int) := by rw [IntKind.wrap_i64]; omega
          have HZ : Hid (k = j + 1 ∧ m.refs[k]? = some z ∧ m.refs[j]? = some y) := ⟨hj, hzk, hyk⟩
          clear hzk hyk hN hj
          by_cases hg : z ≤ y
          · have HF : Hid (Msg.rises m.refs = false) := by
              obtain ⟨h1, h2, h3⟩ := HZ.out
              subst h1
              exact Msg.rises_ne (i := j) h3 h2 (by omega)
            go_wp2
            go_region
            all_goals
              go_wp2
              go_ret
              exact ⟨ret_int (Msg.lists_2 H1.out HF.out).symm, HE.out.drew⟩
          · have HA2 : Hid (∀ i x y', i + 1 < k + 1 → m.refs[i]? = some x → m.refs[i + 1]? = some y' → x < y') := by
              intro i x y' hi hx hy
              by_cases hik : i + 1 < k
              · exact HA.out i x y' hik hx hy
              · obtain ⟨h1, h2, h3⟩ := HZ.out
                have : i = j := by omega
                subst this
                subst h1
                have q1 := h3
                have q2 := h2
                rw [q1] at hx
                rw [q2] at hy
                cases hx
                cases hy
                omega
            go_wp2
            go_region
            all_goals
              go_wp2
              exact ⟨⟨k + 1, by omega, by omega, by go_num, HA2, HE.out.drew⟩, by simp [intOf]; omega⟩
        · have H2 : Hid (Msg.rises m.refs = true) := Msg.rises_all (fun i x y hx hy => HA.out i x y (by have := (List.getElem?_eq_some_iff.1 hy).1; omega) hx hy)
          have HE2 : Hid (Ext w wr) := HE
          clear HA HE r1 r5 r6
          obtain ⟨r1, r5, r6⟩ := HW.out _ HE2.out
          go_wp2
          clear r1 r5 r6 hk hk1
          generalize hwr : wr = w21 at *
          clear hwr
          go_loopw [5] (fun i wr => ∃ (k : Nat), k ≤ m.certs.length ∧ i = .int .i64 k ∧ Hid (∀ j c, j < k → m.certs[j]? = some c → Msg.certOk m.view c = true) ∧ Hid (Ext w wr)) (fun i _ => m.certs.length - (intOf i).toNat)
          case atStart => exact ⟨0, Nat.zero_le _, rfl, fun j c h => by omega, HE2.out⟩
          case round =>
            obtain ⟨k, hk, rfl, HA, HE⟩ := hrel
            obtain ⟨r1, r5, r6⟩ := HW.out _ HE.out
            by_cases hlt : k < m.certs.length
            · obtain ⟨z, hzk⟩ : ∃ z, m.certs[k]? = some z := ⟨_, List.getElem?_eq_getElem hlt⟩
              obtain ⟨b1, off, rfl, hb, hN⟩ := HX5.out (by omega)
              obtain ⟨d0, d1, d2⟩ := hN.ext hb HE.out k z hzk
              have HZ : Hid (m.certs[k]? = some z) := hzk
              have hsub : IntKind.i64.wrap (m.view - 1) = m.view - 1 := by rw [IntKind.wrap_i64]; omega
              clear hzk hN
              go_wp2
              have HE0 : Hid (Ext w (wr.alloc (.cells #[.int .i64 z.slot, .int .i64 z.view, .int .i64 z.value] 57))) := HE.out.alloc _
              have HS0 : Hid ((fun W' : World => W'.cell? ⟨wr.heap.size, 0, none⟩ = some (.int .i64 z.slot) ∧ W'.cell? ⟨wr.heap.size, 1, none⟩ = some (.int .i64 z.view) ∧ W'.cell? ⟨wr.heap.size, 2, none⟩ = some (.int .i64 z.value) ∧ W'.cell? ⟨b, o + 1, none⟩ = some (.int .i64 m.view)) (wr.alloc (.cells #[.int .i64 z.slot, .int .i64 z.view, .int .i64 z.value] 57)).drew) := ⟨by simp, by simp, by simp, (HW.out _ (HE0.out.drew)).1⟩
              generalize hbx : wr.heap.size = bx at *
              generalize (wr.alloc (.cells #[.int .i64 z.slot, .int .i64 z.view, .int .i64 z.value] 57)) = W0 at *
              obtain ⟨q1, hq1⟩ : ∃ q, (decide (1 ≤ z.slot) && decide (z.slot ≤ 30)) = q := ⟨_, rfl⟩
              obtain ⟨q2, hq2⟩ : ∃ q, (decide (0 ≤ z.view) && decide (z.view ≤ m.view - 1)) = q := ⟨_, rfl⟩
              obtain ⟨q3, hq3⟩ : ∃ q, (decide (0 ≤ z.value) && decide (z.value ≤ 12)) = q := ⟨_, rfl⟩
              have HC1 : Hid (∀ wx : World, Calls Tryz.prog 57 #[.int .i64 z.slot, .int .i64 1, .int .i64 30] wx fun e w' => e = .returned (.bool q1) ∧ w' = wx) := fun wx => l1In_isM _ _ _ _ _ hq1
              have HC2 : Hid (∀ wx : World, Calls Tryz.prog 57 #[.int .i64 z.view, .int .i64 0, .int .i64 (m.view - 1)] wx fun e w' => e = .returned (.bool q2) ∧ w' = wx) := fun wx => l1In_isM _ _ _ _ _ hq2
              have HC3 : Hid (∀ wx : World, Calls Tryz.prog 57 #[.int .i64 z.value, .int .i64 0, .int .i64 12] wx fun e w' => e = .returned (.bool q3) ∧ w' = wx) := fun wx => l1In_isM _ _ _ _ _ hq3
              have HQ : Hid (Msg.certOk m.view z = (q1 && q2 && q3)) := by
                rw [← hq1, ← hq2, ← hq3]
                unfold Msg.certOk
                rw [Bool.eq_iff_iff]
                simp only [decide_eq_true_iff, Bool.and_eq_true]
                constructor
                · intro h; exact ⟨⟨⟨h.1, h.2.1⟩, h.2.2.1, h.2.2.2.1⟩, h.2.2.2.2⟩
                · intro h; exact ⟨h.1.1.1, h.1.1.2, h.1.2.1, h.1.2.2, h.2⟩
              have HF : Hid (Msg.certOk m.view z = false → Msg.lists m = 3) := fun h => Msg.lists_3 H1.out H2.out (Msg.parts_c HZ.out h)
              have HA2 : Hid (Msg.certOk m.view z = true → ∀ j c, j < k + 1 → m.certs[j]? = some c → Msg.certOk m.view c = true) := by
                intro h j c hj hc
                by_cases hjk : j = k
                · subst hjk; rw [HZ.out] at hc; cases hc; exact h
                · exact HA.out j c (by omega) hc
              clear hq1 hq2 hq3 r1 r5 r6 d0 d1 d2 HE hb hbx
              refine wp_region_held_drew (S := (fun W' : World => W'.cell? ⟨bx, 0, none⟩ = some (.int .i64 z.slot) ∧ W'.cell? ⟨bx, 1, none⟩ = some (.int .i64 z.view) ∧ W'.cell? ⟨bx, 2, none⟩ = some (.int .i64 z.value) ∧ W'.cell? ⟨b, o + 1, none⟩ = some (.int .i64 m.view))) (by kernel_rfl) HS0.out (fun hHeld => ?_)
              refine tk 0 { dst := some 76, op := Op.fieldAddr 57 (.tmp 6) 0, type := 0, pos := "l08_msg.go:29", after := #[], guard := none } ?_
              refine tk 1 { dst := some 77, op := Op.load 2 (.tmp 76), type := 2, pos := "l08_msg.go:29", after := #[⟨0, .data⟩], guard := none } ?_
              refine wpAnyH_ready (rs := [2]) (by kernel_rfl) (by simp) (AllReadyH.cons rfl (fun K hK => ?_) AllReadyH.nil)
              go_simp
              refine (HC1.out _).mono ?_
              rintro e w9 ⟨rfl, hw⟩
              rw [hw]
              clear hw w9
              refine hK.out _ _ HS0.out (fun hHeld1 => ?_)
              clear hK K
              cases q1
              · refine tk 3 { dst := some 79, op := Op.unOp UnOp.not 4 (.tmp 78), type := 4, pos := "l08_msg.go:29", after := #[⟨2, .data⟩], guard := none } ?_
                refine tk 4 { dst := some 80, op := Op.move (.tmp 79), type := 4, pos := "l08_msg.go:29", after := #[⟨3, .data⟩, ⟨2, .chain⟩], guard := none } ?_
                refine tn 5 { dst := some 81, op := Op.fieldAddr 57 (.tmp 6) 1, type := 0, pos := "l08_msg.go:29", after := #[⟨4, .guard⟩], guard := some (4, false) } ?_
                refine tn 6 { dst := some 82, op := Op.load 2 (.tmp 81), type := 2, pos := "l08_msg.go:29", after := #[⟨5, .data⟩, ⟨4, .guard⟩], guard := some (4, false) } ?_
                refine tn 7 { dst := some 83, op := Op.move (.tmp 0), type := 97, pos := "l08_msg.go:29", after := #[⟨4, .guard⟩], guard := some (4, false) } ?_
                refine tn 8 { dst := some 84, op := Op.nilCheck (.tmp 83), type := 0, pos := "l08_msg.go:29", after := #[⟨7, .data⟩, ⟨4, .guard⟩], guard := some (4, false) } ?_
                refine tn 9 { dst := some 85, op := Op.fieldAddr 40 (.tmp 84) 1, type := 0, pos := "l08_msg.go:29", after := #[⟨8, .data⟩, ⟨4, .guard⟩], guard := some (4, false) } ?_
                refine tn 10 { dst := some 86, op := Op.load 2 (.tmp 85), type := 2, pos := "l08_msg.go:29", after := #[⟨9, .data⟩, ⟨4, .guard⟩], guard := some (4, false) } ?_
                refine tn 11 { dst := some 87, op := Op.binOp BinOp.sub 2 (.tmp 86) (Operand.const (Value.int IntKind.i64 1)) 2, type := 2, pos := "l08_msg.go:29", after := #[⟨10, .data⟩, ⟨4, .guard⟩], guard := some (4, false) } ?_
                refine tn 12 { dst := some 88, op := Op.call { callee := Callee.value (Operand.func 57), args := #[.tmp 82, Operand.const (Value.int IntKind.i64 0), .tmp 87], argTypes := #[2, 2, 2] }, type := 4, pos := "l08_msg.go:29", after := #[⟨6, .data⟩, ⟨11, .data⟩, ⟨4, .chain⟩, ⟨4, .guard⟩], guard := some (4, false) } ?_
                refine tn 13 { dst := some 89, op := Op.unOp UnOp.not 4 (.tmp 88), type := 4, pos := "l08_msg.go:29", after := #[⟨12, .data⟩, ⟨4, .guard⟩], guard := some (4, false) } ?_
                refine tk 14 { dst := some 90, op := Op.pick (.tmp 80) (Operand.const (Value.bool true)) (.tmp 89), type := 4, pos := "l08_msg.go:29", after := #[⟨4, .data⟩, ⟨13, .data⟩], guard := none } ?_
                refine tk 15 { dst := some 91, op := Op.move (.tmp 90), type := 4, pos := "l08_msg.go:29", after := #[⟨14, .data⟩, ⟨12, .chain⟩], guard := none } ?_
                refine tn 16 { dst := some 92, op := Op.fieldAddr 57 (.tmp 6) 2, type := 0, pos := "l08_msg.go:29", after := #[⟨15, .guard⟩], guard := some (15, false) } ?_
                refine tn 17 { dst := some 93, op := Op.load 2 (.tmp 92), type := 2, pos := "l08_msg.go:29", after := #[⟨16, .data⟩, ⟨15, .guard⟩], guard := some (15, false) } ?_
                refine tn 18 { dst := some 94, op := Op.call { callee := Callee.value (Operand.func 57), args := #[.tmp 93, Operand.const (Value.int IntKind.i64 0), Operand.const (Value.int IntKind.i64 12)], argTypes := #[2, 2, 2] }, type := 4, pos := "l08_msg.go:29", after := #[⟨17, .data⟩, ⟨15, .chain⟩, ⟨15, .guard⟩], guard := some (15, false) } ?_
                refine tn 19 { dst := some 95, op := Op.unOp UnOp.not 4 (.tmp 94), type := 4, pos := "l08_msg.go:29", after := #[⟨18, .data⟩, ⟨15, .guard⟩], guard := some (15, false) } ?_
                refine tk 20 { dst := some 96, op := Op.pick (.tmp 91) (Operand.const (Value.bool true)) (.tmp 95), type := 4, pos := "l08_msg.go:29", after := #[⟨15, .data⟩, ⟨19, .data⟩], guard := none } ?_
                refine wpAnyH_done (by kernel_rfl) ?_ _
                go_wp2
                go_ret
                exact ⟨ret_int (HF.out (by rw [HQ.out]; rfl)).symm, HE0.out.drew⟩
              · refine tk 3 { dst := some 79, op := Op.unOp UnOp.not 4 (.tmp 78), type := 4, pos := "l08_msg.go:29", after := #[⟨2, .data⟩], guard := none } ?_
                refine tk 4 { dst := some 80, op := Op.move (.tmp 79), type := 4, pos := "l08_msg.go:29", after := #[⟨3, .data⟩, ⟨2, .chain⟩], guard := none } ?_
                refine tk 5 { dst := some 81, op := Op.fieldAddr 57 (.tmp 6) 1, type := 0, pos := "l08_msg.go:29", after := #[⟨4, .guard⟩], guard := some (4, false) } ?_
                refine tk 6 { dst := some 82, op := Op.load 2 (.tmp 81), type := 2, pos := "l08_msg.go:29", after := #[⟨5, .data⟩, ⟨4, .guard⟩], guard := some (4, false) } ?_
                refine tk 7 { dst := some 83, op := Op.move (.tmp 0), type := 97, pos := "l08_msg.go:29", after := #[⟨4, .guard⟩], guard := some (4, false) } ?_
                refine tk 8 { dst := some 84, op := Op.nilCheck (.tmp 83), type := 0, pos := "l08_msg.go:29", after := #[⟨7, .data⟩, ⟨4, .guard⟩], guard := some (4, false) } ?_
                refine tk 9 { dst := some 85, op := Op.fieldAddr 40 (.tmp 84) 1, type := 0, pos := "l08_msg.go:29", after := #[⟨8, .data⟩, ⟨4, .guard⟩], guard := some (4, false) } ?_
                refine tk 10 { dst := some 86, op := Op.load 2 (.tmp 85), type := 2, pos := "l08_msg.go:29", after := #[⟨9, .data⟩, ⟨4, .guard⟩], guard := some (4, false) } ?_
                refine tk 11 { dst := some 87, op := Op.binOp BinOp.sub 2 (.tmp 86) (Operand.const (Value.int IntKind.i64 1)) 2, type := 2, pos := "l08_msg.go:29", after := #[⟨10, .data⟩, ⟨4, .guard⟩], guard := some (4, false) } ?_
                refine wpAnyH_ready (rs := [12]) (by kernel_rfl) (by simp) (AllReadyH.cons rfl (fun K hK => ?_) AllReadyH.nil)
                go_simp
                refine (HC2.out _).mono ?_
                rintro e w9 ⟨rfl, hw⟩
                rw [hw]
                clear hw w9
                refine hK.out _ _ HS0.out (fun hHeld2 => ?_)
                clear hK K
                cases q2
                · refine tk 13 { dst := some 89, op := Op.unOp UnOp.not 4 (.tmp 88), type := 4, pos := "l08_msg.go:29", after := #[⟨12, .data⟩, ⟨4, .guard⟩], guard := some (4, false) } ?_
                  refine tk 14 { dst := some 90, op := Op.pick (.tmp 80) (Operand.const (Value.bool true)) (.tmp 89), type := 4, pos := "l08_msg.go:29", after := #[⟨4, .data⟩, ⟨13, .data⟩], guard := none } ?_
                  refine tk 15 { dst := some 91, op := Op.move (.tmp 90), type := 4, pos := "l08_msg.go:29", after := #[⟨14, .data⟩, ⟨12, .chain⟩], guard := none } ?_
                  refine tn 16 { dst := some 92, op := Op.fieldAddr 57 (.tmp 6) 2, type := 0, pos := "l08_msg.go:29", after := #[⟨15, .guard⟩], guard := some (15, false) } ?_
                  refine tn 17 { dst := some 93, op := Op.load 2 (.tmp 92), type := 2, pos := "l08_msg.go:29", after := #[⟨16, .data⟩, ⟨15, .guard⟩], guard := some (15, false) } ?_
                  refine tn 18 { dst := some 94, op := Op.call { callee := Callee.value (Operand.func 57), args := #[.tmp 93, Operand.const (Value.int IntKind.i64 0), Operand.const (Value.int IntKind.i64 12)], argTypes := #[2, 2, 2] }, type := 4, pos := "l08_msg.go:29", after := #[⟨17, .data⟩, ⟨15, .chain⟩, ⟨15, .guard⟩], guard := some (15, false) } ?_
                  refine tn 19 { dst := some 95, op := Op.unOp UnOp.not 4 (.tmp 94), type := 4, pos := "l08_msg.go:29", after := #[⟨18, .data⟩, ⟨15, .guard⟩], guard := some (15, false) } ?_
                  refine tk 20 { dst := some 96, op := Op.pick (.tmp 91) (Operand.const (Value.bool true)) (.tmp 95), type := 4, pos := "l08_msg.go:29", after := #[⟨15, .data⟩, ⟨19, .data⟩], guard := none } ?_
                  refine wpAnyH_done (by kernel_rfl) ?_ _
                  go_wp2
                  go_ret
                  exact ⟨ret_int (HF.out (by rw [HQ.out]; rfl)).symm, HE0.out.drew⟩
                · refine tk 13 { dst := some 89, op := Op.unOp UnOp.not 4 (.tmp 88), type := 4, pos := "l08_msg.go:29", after := #[⟨12, .data⟩, ⟨4, .guard⟩], guard := some (4, false) } ?_
                  refine tk 14 { dst := some 90, op := Op.pick (.tmp 80) (Operand.const (Value.bool true)) (.tmp 89), type := 4, pos := "l08_msg.go:29", after := #[⟨4, .data⟩, ⟨13, .data⟩], guard := none } ?_
                  refine tk 15 { dst := some 91, op := Op.move (.tmp 90), type := 4, pos := "l08_msg.go:29", after := #[⟨14, .data⟩, ⟨12, .chain⟩], guard := none } ?_
                  refine tk 16 { dst := some 92, op := Op.fieldAddr 57 (.tmp 6) 2, type := 0, pos := "l08_msg.go:29", after := #[⟨15, .guard⟩], guard := some (15, false) } ?_
                  refine tk 17 { dst := some 93, op := Op.load 2 (.tmp 92), type := 2, pos := "l08_msg.go:29", after := #[⟨16, .data⟩, ⟨15, .guard⟩], guard := some (15, false) } ?_
                  refine wpAnyH_ready (rs := [18]) (by kernel_rfl) (by simp) (AllReadyH.cons rfl (fun K hK => ?_) AllReadyH.nil)
                  go_simp
                  refine (HC3.out _).mono ?_
                  rintro e w9 ⟨rfl, hw⟩
                  rw [hw]
                  clear hw w9
                  refine hK.out _ _ HS0.out (fun hHeld3 => ?_)
                  clear hK K
                  cases q3
                  · refine tk 19 { dst := some 95, op := Op.unOp UnOp.not 4 (.tmp 94), type := 4, pos := "l08_msg.go:29", after := #[⟨18, .data⟩, ⟨15, .guard⟩], guard := some (15, false) } ?_
                    refine tk 20 { dst := some 96, op := Op.pick (.tmp 91) (Operand.const (Value.bool true)) (.tmp 95), type := 4, pos := "l08_msg.go:29", after := #[⟨15, .data⟩, ⟨19, .data⟩], guard := none } ?_
                    refine wpAnyH_done (by kernel_rfl) ?_ _
                    go_wp2
                    go_ret
                    exact ⟨ret_int (HF.out (by rw [HQ.out]; rfl)).symm, HE0.out.drew⟩
                  · refine tk 19 { dst := some 95, op := Op.unOp UnOp.not 4 (.tmp 94), type := 4, pos := "l08_msg.go:29", after := #[⟨18, .data⟩, ⟨15, .guard⟩], guard := some (15, false) } ?_
                    refine tk 20 { dst := some 96, op := Op.pick (.tmp 91) (Operand.const (Value.bool true)) (.tmp 95), type := 4, pos := "l08_msg.go:29", after := #[⟨15, .data⟩, ⟨19, .data⟩], guard := none } ?_
                    refine wpAnyH_done (by kernel_rfl) ?_ _
                    go_wp2
                    exact ⟨⟨k + 1, by omega, by go_num, HA2.out (by rw [HQ.out]; rfl), HE0.out.drew⟩, by simp [intOf]; omega⟩
            · have H3 : Hid (∀ (i : Nat) c, i < m.certs.length → m.certs[i]? = some c → Msg.certOk m.view c = true) := fun i c hi hc => HA.out i c (by omega) hc
              have HE3 : Hid (Ext w wr) := HE
              clear HA HE r1 r5 r6
              obtain ⟨r1, r5, r6⟩ := HW.out _ HE3.out
              go_wp2
              clear r1 r5 r6
              generalize hwr : wr = w7 at *
              clear hwr
              go_loopw [7] (fun i wr => ∃ (k : Nat), k ≤ m.refs.length ∧ i = .int .i64 k ∧ Hid (∀ j r, j < k → m.refs[j]? = some r → Msg.refOk r = true) ∧ Hid (Ext w wr)) (fun i _ => m.refs.length - (intOf i).toNat)
              case atStart => exact ⟨0, Nat.zero_le _, rfl, fun j r h => by omega, HE3.out⟩
              case round =>
                obtain ⟨k, hk, rfl, HA, HE⟩ := hrel
                obtain ⟨r1, r5, r6⟩ := HW.out _ HE.out
                by_cases hlt : k < m.refs.length
                · obtain ⟨z, hzk⟩ : ∃ z, m.refs[k]? = some z := ⟨_, List.getElem?_eq_getElem hlt⟩
                  obtain ⟨b1, off, rfl, hb, hN⟩ := HX6.out (by omega)
                  have d0 := hN.ext hb HE.out k z hzk
                  have HZ : Hid (m.refs[k]? = some z) := hzk
                  clear hzk hN
                  cases hq : Msg.refOk z with
                  | false =>
                    have HF : Hid (Msg.lists m = 3) := Msg.lists_3 H1.out H2.out (Msg.parts_r HZ.out hq)
                    have hq2 : (decide (0 ≤ z) && decide (z ≤ 239)) = false := by unfold Msg.refOk at hq; rw [decide_eq_false_iff_not] at hq; rw [Bool.and_eq_false_iff]; simp; omega
                    go_wp2_with fail
                    refine (l1In_isM _ _ _ _ _ hq2).mono ?_
                    rintro e w9 ⟨rfl, hw⟩
                    rw [hw]
                    clear hw w9 hq hq2
                    go_wp2
                    go_ret
                    exact ⟨ret_int HF.out.symm, HE.out⟩
                  | true =>
                    have hq2 : (decide (0 ≤ z) && decide (z ≤ 239)) = true := by unfold Msg.refOk at hq; rw [decide_eq_true_iff] at hq; simp; omega
                    have HA2 : Hid (∀ j r, j < k + 1 → m.refs[j]? = some r → Msg.refOk r = true) := by
                      intro j r hj hr
                      by_cases hjk : j = k
                      · subst hjk; rw [HZ.out] at hr; cases hr; exact hq
                      · exact HA.out j r (by omega) hr
                    go_wp2_with fail
                    refine (l1In_isM _ _ _ _ _ hq2).mono ?_
                    rintro e w9 ⟨rfl, hw⟩
                    rw [hw]
                    clear hw w9 hq hq2
                    go_wp2
                    exact ⟨⟨k + 1, by omega, by go_num, HA2, HE.out⟩, by simp [intOf]; omega⟩
                · have HF : Hid (Msg.lists m = 0) := Msg.lists_4 H1.out H2.out (Msg.parts_all H3.out (fun i r hi hr => HA.out i r (by omega) hr))
                  go_wp2
                  go_ret
                  exact ⟨ret_int HF.out.symm, HE.out⟩
end Go.Proofs.YtecgjdgfjgcmdaaGreat
