/- the specification's text of a message of kind 4. -/
import Derived.Test.YtpncnfodgfldlaaDoorLxTX4
import Derived.Test.YtpncnfodgfldlaaDoorLxTk
namespace Go.Proofs.YtpncnfodgfldlaaDoor
open Go.RowKit
set_option linter.unusedSimpArgs false in
set_option maxHeartbeats 40000000 in
set_option maxRecDepth 100000 in
theorem l8Text_4 (m : Ms) (v u : Value) (b o : Nat) (w : World) (hb1 : b < w.heap.size) (hm : MCs w b o m v u) (hS : MLs w v u m) (hF : Msg.Fine m) (hkk : m.kind = 4) :
    Calls Tryd.prog 34 #[.pointer (some ⟨b, o, none⟩)] w fun e w' => e = .returned (.string (mkB (Lib.join (Msg.msgW m) [32]))) ∧ Ext w w' := by
  have HSl : Hid (MLs w v u m) := hS
  have HM : Hid (MCs w b o m v u) := hm
  have hvw := hF.view
  have hfr := hF.from_
  have HF : Hid (Msg.Fine m) := hF
  obtain ⟨A1, hA1, sA1, r1⟩ := add_run ⟨#[99, 104, 97, 110, 103, 101]⟩ ⟨#[32]⟩ 7 1 (by decide) (by decide) (by omega)
  obtain ⟨A2, hA2, sA2, r2⟩ := add_run A1 (mkB (Lib.itoa m.view)) 8 21 (by omega) (itoa_size _ (by omega) (by omega)) (by omega)
  obtain ⟨A3, hA3, sA3, r3⟩ := add_run A2 ⟨#[32]⟩ 29 1 (by omega) (by decide) (by omega)
  obtain ⟨A4, hA4, sA4, r4⟩ := add_run A3 (mkB (Lib.itoa m.from_)) 30 21 (by omega) (itoa_size _ (by omega) (by omega)) (by omega)
  have HA4 : Hid (A4.data.toList = Lib.join (Msg.headW m) [32] ∧ A4.size ≤ 51) := by
    refine ⟨?_, by omega⟩
    rw [hA4, hA3, hA2, hA1, mkB_list, mkB_list, Msg.head_join, show Msg.kindW m.kind = [99, 104, 97, 110, 103, 101] from by rw [hkk]; rfl]
  have HD1 : Hid (∀ wx : World, Calls Tryd.prog 61 #[.int .i64 m.view] wx fun e w' => e = .returned (.string (mkB (Lib.itoa m.view))) ∧ Ext wx w') := fun wx => digits_any _ (by omega) (by omega) wx
  have HD2 : Hid (∀ wx : World, Calls Tryd.prog 61 #[.int .i64 m.from_] wx fun e w' => e = .returned (.string (mkB (Lib.itoa m.from_))) ∧ Ext wx w') := fun wx => digits_any _ (by omega) (by omega) wx
  have HS : Hid (∀ wx : World, Ext w wx → (fun W' : World => W'.cell? ⟨b, o, none⟩ = some (.int .i64 4) ∧ W'.cell? ⟨b, o + 1, none⟩ = some (.int .i64 m.view) ∧ W'.cell? ⟨b, o + 2, none⟩ = some (.int .i64 m.from_) ∧ W'.cell? ⟨b, o + 3, none⟩ = some (.int .i64 m.slot) ∧ W'.cell? ⟨b, o + 4, none⟩ = some (.int .i64 m.value)) wx) := fun wx he => by
    obtain ⟨x0, x1, x2, x3, x4, x5, x6⟩ := HM.out.ext hb1 he
    rw [hkk] at x0
    exact ⟨x0, x1, x2, x3, x4⟩
  clear hA1 hA2 hA3 hA4 sA1 sA2 sA3 sA4
  clear hS hm hvw hfr hF
  generalize mkB (Lib.itoa m.view) = n1 at *
  generalize mkB (Lib.itoa m.from_) = n2 at *
  have HKK : Hid (m.kind = 4) := hkk
  clear hkk
  go_enter Tryd.func34, Tryd.ntmps34
  go_wp2
  refine wp_region_held_drew (S := (fun W' : World => W'.cell? ⟨b, o, none⟩ = some (.int .i64 4) ∧ W'.cell? ⟨b, o + 1, none⟩ = some (.int .i64 m.view) ∧ W'.cell? ⟨b, o + 2, none⟩ = some (.int .i64 m.from_) ∧ W'.cell? ⟨b, o + 3, none⟩ = some (.int .i64 m.slot) ∧ W'.cell? ⟨b, o + 4, none⟩ = some (.int .i64 m.value))) (by kernel_rfl) (HS.out _ ((Ext.refl _).drew)) (fun hHeld => ?_)
  have F0 : Hid (Ext w w.drew) := (Ext.refl _).drew
  refine tk 1 { dst := some 7, op := Op.move (.tmp 0), type := 50, pos := "l08_msg.go:183", after := #[], guard := none } ?_
  refine tk 2 { dst := some 8, op := Op.nilCheck (.tmp 7), type := 0, pos := "l08_msg.go:183", after := #[⟨1, .data⟩], guard := none } ?_
  refine tk 3 { dst := some 9, op := Op.fieldAddr 28 (.tmp 8) 0, type := 0, pos := "l08_msg.go:183", after := #[⟨2, .data⟩], guard := none } ?_
  refine tk 4 { dst := some 10, op := Op.load 2 (.tmp 9), type := 2, pos := "l08_msg.go:183", after := #[⟨3, .data⟩], guard := none } ?_
  refine tk 8 { dst := some 14, op := Op.move (.tmp 0), type := 50, pos := "l08_msg.go:183", after := #[], guard := none } ?_
  refine tk 9 { dst := some 15, op := Op.nilCheck (.tmp 14), type := 0, pos := "l08_msg.go:183", after := #[⟨8, .data⟩], guard := none } ?_
  refine tk 10 { dst := some 16, op := Op.fieldAddr 28 (.tmp 15) 1, type := 0, pos := "l08_msg.go:183", after := #[⟨9, .data⟩], guard := none } ?_
  refine tk 11 { dst := some 17, op := Op.load 2 (.tmp 16), type := 2, pos := "l08_msg.go:183", after := #[⟨10, .data⟩], guard := none } ?_
  refine tk 15 { dst := some 21, op := Op.move (.tmp 0), type := 50, pos := "l08_msg.go:183", after := #[], guard := none } ?_
  refine tk 16 { dst := some 22, op := Op.nilCheck (.tmp 21), type := 0, pos := "l08_msg.go:183", after := #[⟨15, .data⟩], guard := none } ?_
  refine tk 17 { dst := some 23, op := Op.fieldAddr 28 (.tmp 22) 2, type := 0, pos := "l08_msg.go:183", after := #[⟨16, .data⟩], guard := none } ?_
  refine tk 18 { dst := some 24, op := Op.load 2 (.tmp 23), type := 2, pos := "l08_msg.go:183", after := #[⟨17, .data⟩], guard := none } ?_
  refine wpAnyH_ready (rs := [0, 12]) (by kernel_rfl) (by simp) (AllReadyH.cons rfl (fun K hK => ?_) (AllReadyH.cons rfl (fun K hK => ?_) AllReadyH.nil))
  · go_simp
    have F1 : Hid (Ext w (w.drew.alloc (.cells #[.string ⟨#[]⟩, .string ⟨#[112, 114, 111, 112, 111, 115, 101]⟩, .string ⟨#[112, 114, 101, 112, 97, 114, 101]⟩, .string ⟨#[99, 111, 109, 109, 105, 116]⟩, .string ⟨#[99, 104, 97, 110, 103, 101]⟩, .string ⟨#[110, 101, 119]⟩] 9))) := F0.out.alloc _
    have X1 : Hid (Ext (w.drew.alloc (.cells #[.string ⟨#[]⟩, .string ⟨#[112, 114, 111, 112, 111, 115, 101]⟩, .string ⟨#[112, 114, 101, 112, 97, 114, 101]⟩, .string ⟨#[99, 111, 109, 109, 105, 116]⟩, .string ⟨#[99, 104, 97, 110, 103, 101]⟩, .string ⟨#[110, 101, 119]⟩] 9)) (w.drew.alloc (.cells #[.string ⟨#[]⟩, .string ⟨#[112, 114, 111, 112, 111, 115, 101]⟩, .string ⟨#[112, 114, 101, 112, 97, 114, 101]⟩, .string ⟨#[99, 111, 109, 109, 105, 116]⟩, .string ⟨#[99, 104, 97, 110, 103, 101]⟩, .string ⟨#[110, 101, 119]⟩] 9))) := Ext.refl _
    refine hK.out _ _ (HS.out _ F1.out) (fun hHeld1 => ?_)
    clear hK K
    refine tk 5 { dst := some 11, op := Op.indexAddr 60 (.tmp 6) (.tmp 10), type := 0, pos := "l08_msg.go:183", after := #[⟨0, .data⟩, ⟨4, .data⟩], guard := none } ?_
    have rw6 := row6 X1.out
    refine wpAnyH_ready (rs := [6, 12]) (by kernel_rfl) (by simp) (AllReadyH.cons rfl (fun K hK => ?_) (AllReadyH.cons rfl (fun K hK => ?_) AllReadyH.nil))
    · have zz : (w.drew.alloc (.cells #[.string ⟨#[]⟩, .string ⟨#[112, 114, 111, 112, 111, 115, 101]⟩, .string ⟨#[112, 114, 101, 112, 97, 114, 101]⟩, .string ⟨#[99, 111, 109, 109, 105, 116]⟩, .string ⟨#[99, 104, 97, 110, 103, 101]⟩, .string ⟨#[110, 101, 119]⟩] 9)).cell? ⟨w.heap.size, 4, none⟩ = some (.string ⟨#[99, 104, 97, 110, 103, 101]⟩) := rw6.2.2.2.1
      clear rw6
      go_simp
      refine hK.out _ _ (HS.out _ F1.out) (fun hHeld3 => ?_)
      clear hK K zz
      refine tk 7 { dst := some 13, op := Op.binOp BinOp.add 9 (.tmp 12) (Operand.const (Value.string { data := #[32] })) 9, type := 9, pos := "l08_msg.go:183", after := #[⟨6, .data⟩], guard := none } ?_
      refine wpAnyH_ready (rs := [12]) (by kernel_rfl) (by simp) (AllReadyH.cons rfl (fun K hK => ?_) AllReadyH.nil)
      go_simp
      refine (HD1.out _).mono ?_
      rintro e y5 ⟨rfl, hb⟩
      have F5 : Hid (Ext w y5) := F1.out.trans hb
      have X5 : Hid (Ext (w.drew.alloc (.cells #[.string ⟨#[]⟩, .string ⟨#[112, 114, 111, 112, 111, 115, 101]⟩, .string ⟨#[112, 114, 101, 112, 97, 114, 101]⟩, .string ⟨#[99, 111, 109, 109, 105, 116]⟩, .string ⟨#[99, 104, 97, 110, 103, 101]⟩, .string ⟨#[110, 101, 119]⟩] 9)) y5) := X1.out.trans hb
      refine hK.out _ _ (HS.out _ F5.out) (fun hHeld5 => ?_)
      clear hK K hb
      refine tk 13 { dst := some 19, op := Op.binOp BinOp.add 9 (.tmp 13) (.tmp 18) 9, type := 9, pos := "l08_msg.go:183", after := #[⟨7, .data⟩, ⟨12, .data⟩], guard := none } ?_
      refine tk 14 { dst := some 20, op := Op.binOp BinOp.add 9 (.tmp 19) (Operand.const (Value.string { data := #[32] })) 9, type := 9, pos := "l08_msg.go:183", after := #[⟨13, .data⟩], guard := none } ?_
      refine wpAnyH_ready (rs := [19]) (by kernel_rfl) (by simp) (AllReadyH.cons rfl (fun K hK => ?_) AllReadyH.nil)
      go_simp
      refine (HD2.out _).mono ?_
      rintro e y6 ⟨rfl, hb⟩
      have F6 : Hid (Ext w y6) := F5.out.trans hb
      have X6 : Hid (Ext (w.drew.alloc (.cells #[.string ⟨#[]⟩, .string ⟨#[112, 114, 111, 112, 111, 115, 101]⟩, .string ⟨#[112, 114, 101, 112, 97, 114, 101]⟩, .string ⟨#[99, 111, 109, 109, 105, 116]⟩, .string ⟨#[99, 104, 97, 110, 103, 101]⟩, .string ⟨#[110, 101, 119]⟩] 9)) y6) := X5.out.trans hb
      refine hK.out _ _ (HS.out _ F6.out) (fun hHeld6 => ?_)
      clear hK K hb
      refine tk 20 { dst := some 26, op := Op.binOp BinOp.add 9 (.tmp 20) (.tmp 25) 9, type := 9, pos := "l08_msg.go:183", after := #[⟨14, .data⟩, ⟨19, .data⟩], guard := none } ?_
      refine tk 21 { dst := some 3, op := Op.assign (.tmp 26), type := 9, pos := "l08_msg.go:183", after := #[⟨20, .data⟩, ⟨19, .chain⟩, ⟨0, .phase⟩, ⟨1, .phase⟩, ⟨2, .phase⟩, ⟨3, .phase⟩, ⟨4, .phase⟩, ⟨5, .phase⟩, ⟨6, .phase⟩, ⟨7, .phase⟩, ⟨8, .phase⟩, ⟨9, .phase⟩, ⟨10, .phase⟩, ⟨11, .phase⟩, ⟨12, .phase⟩, ⟨13, .phase⟩, ⟨14, .phase⟩, ⟨15, .phase⟩, ⟨16, .phase⟩, ⟨17, .phase⟩, ⟨18, .phase⟩, ⟨19, .phase⟩, ⟨20, .phase⟩], guard := none } ?_
      refine wpAnyH_done (by kernel_rfl) ?_ _
      have FZ : Hid (Ext w y6) := F6.out
      generalize y6 = WZ at *
      obtain ⟨p0, p1, p2, p3, p4⟩ := HS.out _ FZ.out
      obtain ⟨a, c, a', c', hva, hua, hc1, hc2, hc3, hc4⟩ := HSl.out.form
      subst hva hua
      unfold maxLen at hc2 hc4
      have HX5 : Hid (0 < m.certs.length → ∃ b off, a = some ⟨b, off, none⟩ ∧ b < w.heap.size ∧ CtsAt w b off m.certs) := by
        obtain ⟨⟨a0, c0, h1, -, -, h4⟩, -⟩ := HSl.out
        injection h1 with h1 _ _; subst h1; exact h4
      have HX6 : Hid (0 < m.refs.length → ∃ b off, a' = some ⟨b, off, none⟩ ∧ b < w.heap.size ∧ NumsAt w b off m.refs) := by
        obtain ⟨-, ⟨a0, c0, h1, -, -, h4⟩⟩ := HSl.out
        injection h1 with h1 _ _; subst h1; exact h4
      have HW5 : Hid (∀ wx : World, Ext w wx → wx.cell? ⟨b, o + 5, none⟩ = some (.slice a m.certs.length c) ∧ wx.cell? ⟨b, o + 6, none⟩ = some (.slice a' m.refs.length c')) := fun wx he => by
        obtain ⟨-, -, -, -, -, x5, x6⟩ := HM.out.ext hb1 he
        exact ⟨x5, x6⟩
      have hmn := HF.out.many
      have HB : Hid (Msg.headW m = Msg.headW m ++ Msg.slotW m) := by
        show _ = _
        rw [Msg.slotW_no (by have := HKK.out; omega), List.append_nil]
      clear HSl HM
      go_wp2
      clear p0 p1 p2 p3 p4
      go_loopw [3, 4] (fun sv i wr => ∃ (k : Nat) (s : ByteArray), k ≤ m.certs.length ∧ i = .int .i64 k ∧ sv = .string s ∧ s.size ≤ 51 + 66 * k ∧ Hid (s.data.toList = Lib.join (Msg.headW m ++ (m.certs.take k).map Msg.certW) [32]) ∧ Hid (Ext w wr)) (fun _ i _ => m.certs.length - (intOf i).toNat)
      case atStart => exact ⟨0, A4, Nat.zero_le _, rfl, rfl, HA4.out.2, (by have h := HA4.out.1; simp only [List.take_zero, List.map_nil, List.append_nil]; exact h), FZ.out⟩
      case round =>
        obtain ⟨k, s, hk, rfl, rfl, hss, HT, HE⟩ := hrel
        obtain ⟨x5, x6⟩ := HW5.out _ HE.out
        by_cases hlt : k < m.certs.length
        · obtain ⟨z, hzk⟩ : ∃ z, m.certs[k]? = some z := ⟨_, List.getElem?_eq_getElem hlt⟩
          obtain ⟨b1, off, rfl, hb, hN⟩ := HX5.out (by omega)
          have hz := HF.out.certs z (List.mem_of_getElem? hzk)
          have HE1 : Hid (∀ wx : World, Calls Tryd.prog 61 #[.int .i64 z.slot] wx fun e w' => e = .returned (.string (mkB (Lib.itoa z.slot))) ∧ Ext wx w') := fun wx => digits_any _ (by omega) (by omega) wx
          have HE2 : Hid (∀ wx : World, Calls Tryd.prog 61 #[.int .i64 z.view] wx fun e w' => e = .returned (.string (mkB (Lib.itoa z.view))) ∧ Ext wx w') := fun wx => digits_any _ (by omega) (by omega) wx
          have HE3 : Hid (∀ wx : World, Calls Tryd.prog 61 #[.int .i64 z.value] wx fun e w' => e = .returned (.string (mkB (Lib.itoa z.value))) ∧ Ext wx w') := fun wx => digits_any _ (by omega) (by omega) wx
          obtain ⟨C1, g1, t1, q1⟩ := add_run s ⟨#[32]⟩ (51 + 66 * k) 1 hss (by decide) (by omega)
          obtain ⟨C2, g2, t2, q2⟩ := add_run C1 (mkB (Lib.itoa z.slot)) (51 + 66 * k + 1) 21 (by omega) (itoa_size _ (by omega) (by omega)) (by omega)
          obtain ⟨C3, g3, t3, q3⟩ := add_run C2 ⟨#[46]⟩ (51 + 66 * k + 22) 1 (by omega) (by decide) (by omega)
          obtain ⟨C4, g4, t4, q4⟩ := add_run C3 (mkB (Lib.itoa z.view)) (51 + 66 * k + 23) 21 (by omega) (itoa_size _ (by omega) (by omega)) (by omega)
          obtain ⟨C5, g5, t5, q5⟩ := add_run C4 ⟨#[46]⟩ (51 + 66 * k + 44) 1 (by omega) (by decide) (by omega)
          obtain ⟨C6, g6, t6, q6⟩ := add_run C5 (mkB (Lib.itoa z.value)) (51 + 66 * k + 45) 21 (by omega) (itoa_size _ (by omega) (by omega)) (by omega)
          have HT6 : Hid (C6.data.toList = Lib.join (Msg.headW m ++ (m.certs.take (k + 1)).map Msg.certW) [32]) := by
            show _ = _
            rw [take_map hzk, join_snoc _ _ (by simp [Msg.headW]), g6, g5, g4, g3, g2, g1, HT.out, mkB_list, mkB_list, mkB_list]
            simp [Msg.certW, List.append_assoc]
          have hs6 : C6.size ≤ 51 + 66 * (k + 1) := by omega
          have HS7 : Hid (∀ wx : World, Ext w wx → (fun W' : World => W'.cell? ⟨b, o + 5, none⟩ = some (.slice (some ⟨b1, off, none⟩) m.certs.length c) ∧ W'.cell? ⟨b1, off + k * 3, none⟩ = some (.int .i64 z.slot) ∧ W'.cell? ⟨b1, off + k * 3 + 1, none⟩ = some (.int .i64 z.view) ∧ W'.cell? ⟨b1, off + k * 3 + 2, none⟩ = some (.int .i64 z.value)) wx) := fun wx he => by
            obtain ⟨d0, d1, d2⟩ := hN.ext hb he k z hzk
            exact ⟨(HW5.out _ he).1, d0, d1, d2⟩
          clear g1 g2 g3 g4 g5 g6 t1 t2 t3 t4 t5 t6 hz hzk hN hb
          generalize mkB (Lib.itoa z.slot) = n3 at *
          generalize mkB (Lib.itoa z.view) = n4 at *
          generalize mkB (Lib.itoa z.value) = n5 at *
          go_wp2
          refine wp_region_held_drew (S := (fun W' : World => W'.cell? ⟨b, o + 5, none⟩ = some (.slice (some ⟨b1, off, none⟩) m.certs.length c) ∧ W'.cell? ⟨b1, off + k * 3, none⟩ = some (.int .i64 z.slot) ∧ W'.cell? ⟨b1, off + k * 3 + 1, none⟩ = some (.int .i64 z.view) ∧ W'.cell? ⟨b1, off + k * 3 + 2, none⟩ = some (.int .i64 z.value))) (by kernel_rfl) (HS7.out _ (HE.out.drew)) (fun hHeld => ?_)
          refine tk 0 { dst := some 56, op := Op.move (.tmp 3), type := 9, pos := "l08_msg.go:188", after := #[], guard := none } ?_
          refine tk 1 { dst := some 57, op := Op.binOp BinOp.add 9 (.tmp 56) (Operand.const (Value.string { data := #[32] })) 9, type := 9, pos := "l08_msg.go:188", after := #[⟨0, .data⟩], guard := none } ?_
          refine tk 2 { dst := some 58, op := Op.move (.tmp 0), type := 50, pos := "l08_msg.go:188", after := #[], guard := none } ?_
          refine tk 3 { dst := some 59, op := Op.nilCheck (.tmp 58), type := 0, pos := "l08_msg.go:188", after := #[⟨2, .data⟩], guard := none } ?_
          refine tk 4 { dst := some 60, op := Op.fieldAddr 28 (.tmp 59) 5, type := 0, pos := "l08_msg.go:188", after := #[⟨3, .data⟩], guard := none } ?_
          refine tk 5 { dst := some 61, op := Op.load 25 (.tmp 60), type := 25, pos := "l08_msg.go:188", after := #[⟨4, .data⟩], guard := none } ?_
          refine tk 6 { dst := some 62, op := Op.move (.tmp 4), type := 3, pos := "l08_msg.go:188", after := #[], guard := none } ?_
          refine tk 7 { dst := some 63, op := Op.indexAddr 25 (.tmp 61) (.tmp 62), type := 0, pos := "l08_msg.go:188", after := #[⟨5, .data⟩, ⟨6, .data⟩], guard := none } ?_
          refine tk 8 { dst := some 64, op := Op.fieldAddr 76 (.tmp 63) 0, type := 0, pos := "l08_msg.go:188", after := #[⟨7, .data⟩], guard := none } ?_
          refine tk 9 { dst := some 65, op := Op.load 2 (.tmp 64), type := 2, pos := "l08_msg.go:188", after := #[⟨8, .data⟩], guard := none } ?_
          refine tk 13 { dst := some 69, op := Op.move (.tmp 0), type := 50, pos := "l08_msg.go:188", after := #[], guard := none } ?_
          refine tk 14 { dst := some 70, op := Op.nilCheck (.tmp 69), type := 0, pos := "l08_msg.go:188", after := #[⟨13, .data⟩], guard := none } ?_
          refine tk 15 { dst := some 71, op := Op.fieldAddr 28 (.tmp 70) 5, type := 0, pos := "l08_msg.go:188", after := #[⟨14, .data⟩], guard := none } ?_
          refine tk 16 { dst := some 72, op := Op.load 25 (.tmp 71), type := 25, pos := "l08_msg.go:188", after := #[⟨15, .data⟩], guard := none } ?_
          refine tk 17 { dst := some 73, op := Op.move (.tmp 4), type := 3, pos := "l08_msg.go:188", after := #[], guard := none } ?_
          refine tk 18 { dst := some 74, op := Op.indexAddr 25 (.tmp 72) (.tmp 73), type := 0, pos := "l08_msg.go:188", after := #[⟨16, .data⟩, ⟨17, .data⟩], guard := none } ?_
          refine tk 19 { dst := some 75, op := Op.fieldAddr 76 (.tmp 74) 1, type := 0, pos := "l08_msg.go:188", after := #[⟨18, .data⟩], guard := none } ?_
          refine tk 20 { dst := some 76, op := Op.load 2 (.tmp 75), type := 2, pos := "l08_msg.go:188", after := #[⟨19, .data⟩], guard := none } ?_
          refine tk 24 { dst := some 80, op := Op.move (.tmp 0), type := 50, pos := "l08_msg.go:188", after := #[], guard := none } ?_
          refine tk 25 { dst := some 81, op := Op.nilCheck (.tmp 80), type := 0, pos := "l08_msg.go:188", after := #[⟨24, .data⟩], guard := none } ?_
          refine tk 26 { dst := some 82, op := Op.fieldAddr 28 (.tmp 81) 5, type := 0, pos := "l08_msg.go:188", after := #[⟨25, .data⟩], guard := none } ?_
          refine tk 27 { dst := some 83, op := Op.load 25 (.tmp 82), type := 25, pos := "l08_msg.go:188", after := #[⟨26, .data⟩], guard := none } ?_
          refine tk 28 { dst := some 84, op := Op.move (.tmp 4), type := 3, pos := "l08_msg.go:188", after := #[], guard := none } ?_
          refine tk 29 { dst := some 85, op := Op.indexAddr 25 (.tmp 83) (.tmp 84), type := 0, pos := "l08_msg.go:188", after := #[⟨27, .data⟩, ⟨28, .data⟩], guard := none } ?_
          refine tk 30 { dst := some 86, op := Op.fieldAddr 76 (.tmp 85) 2, type := 0, pos := "l08_msg.go:188", after := #[⟨29, .data⟩], guard := none } ?_
          refine tk 31 { dst := some 87, op := Op.load 2 (.tmp 86), type := 2, pos := "l08_msg.go:188", after := #[⟨30, .data⟩], guard := none } ?_
          refine wpAnyH_ready (rs := [10]) (by kernel_rfl) (by simp) (AllReadyH.cons rfl (fun K hK => ?_) AllReadyH.nil)
          go_simp
          refine (HE1.out _).mono ?_
          rintro e x1 ⟨rfl, hb⟩
          have G1 : Hid (Ext w x1) := HE.out.drew.trans hb
          refine hK.out _ _ (HS7.out _ G1.out) (fun hHd1 => ?_)
          clear hK K hb
          refine tk 11 { dst := some 67, op := Op.binOp BinOp.add 9 (.tmp 57) (.tmp 66) 9, type := 9, pos := "l08_msg.go:188", after := #[⟨1, .data⟩, ⟨10, .data⟩], guard := none } ?_
          refine tk 12 { dst := some 68, op := Op.binOp BinOp.add 9 (.tmp 67) (Operand.const (Value.string { data := #[46] })) 9, type := 9, pos := "l08_msg.go:188", after := #[⟨11, .data⟩], guard := none } ?_
          refine wpAnyH_ready (rs := [21]) (by kernel_rfl) (by simp) (AllReadyH.cons rfl (fun K hK => ?_) AllReadyH.nil)
          go_simp
          refine (HE2.out _).mono ?_
          rintro e x2 ⟨rfl, hb⟩
          have G2 : Hid (Ext w x2) := G1.out.trans hb
          refine hK.out _ _ (HS7.out _ G2.out) (fun hHd2 => ?_)
          clear hK K hb
          refine tk 22 { dst := some 78, op := Op.binOp BinOp.add 9 (.tmp 68) (.tmp 77) 9, type := 9, pos := "l08_msg.go:188", after := #[⟨12, .data⟩, ⟨21, .data⟩], guard := none } ?_
          refine tk 23 { dst := some 79, op := Op.binOp BinOp.add 9 (.tmp 78) (Operand.const (Value.string { data := #[46] })) 9, type := 9, pos := "l08_msg.go:188", after := #[⟨22, .data⟩], guard := none } ?_
          refine wpAnyH_ready (rs := [32]) (by kernel_rfl) (by simp) (AllReadyH.cons rfl (fun K hK => ?_) AllReadyH.nil)
          go_simp
          refine (HE3.out _).mono ?_
          rintro e x3 ⟨rfl, hb⟩
          have G3 : Hid (Ext w x3) := G2.out.trans hb
          refine hK.out _ _ (HS7.out _ G3.out) (fun hHd3 => ?_)
          clear hK K hb
          refine tk 33 { dst := some 89, op := Op.binOp BinOp.add 9 (.tmp 79) (.tmp 88) 9, type := 9, pos := "l08_msg.go:188", after := #[⟨23, .data⟩, ⟨32, .data⟩], guard := none } ?_
          refine tk 34 { dst := some 3, op := Op.assign (.tmp 89), type := 9, pos := "l08_msg.go:188", after := #[⟨33, .data⟩, ⟨32, .chain⟩, ⟨0, .phase⟩, ⟨1, .phase⟩, ⟨2, .phase⟩, ⟨3, .phase⟩, ⟨4, .phase⟩, ⟨5, .phase⟩, ⟨6, .phase⟩, ⟨7, .phase⟩, ⟨8, .phase⟩, ⟨9, .phase⟩, ⟨10, .phase⟩, ⟨11, .phase⟩, ⟨12, .phase⟩, ⟨13, .phase⟩, ⟨14, .phase⟩, ⟨15, .phase⟩, ⟨16, .phase⟩, ⟨17, .phase⟩, ⟨18, .phase⟩, ⟨19, .phase⟩, ⟨20, .phase⟩, ⟨21, .phase⟩, ⟨22, .phase⟩, ⟨23, .phase⟩, ⟨24, .phase⟩, ⟨25, .phase⟩, ⟨26, .phase⟩, ⟨27, .phase⟩, ⟨28, .phase⟩, ⟨29, .phase⟩, ⟨30, .phase⟩, ⟨31, .phase⟩, ⟨32, .phase⟩, ⟨33, .phase⟩], guard := none } ?_
          refine wpAnyH_done (by kernel_rfl) ?_ _
          go_wp2
          exact ⟨⟨k + 1, C6, by omega, by go_num, rfl, hs6, HT6.out, G3.out⟩, by simp [intOf]; omega⟩
        · have hke : k = m.certs.length := by omega
          have HT2 : Hid (s.data.toList = Lib.join (Msg.headW m ++ m.certs.map Msg.certW) [32] ∧ s.size ≤ 2100) := by
            refine ⟨?_, by omega⟩
            have h := HT.out
            rw [hke, List.take_length] at h
            exact h
          have HE2 : Hid (Ext w wr) := HE
          clear hke HT HE hss
          go_wp2
          clear x5 x6 HX5
          generalize hwr : wr = w7 at *
          clear hwr
          go_loopw [3, 5] (fun sv i wr => ∃ (k : Nat) (t : ByteArray), k ≤ m.refs.length ∧ i = .int .i64 k ∧ sv = .string t ∧ t.size ≤ 2100 + 22 * k ∧ Hid (t.data.toList = Lib.join ((Msg.headW m ++ m.certs.map Msg.certW) ++ (m.refs.take k).map Lib.itoa) [32]) ∧ Hid (Ext w wr)) (fun _ i _ => m.refs.length - (intOf i).toNat)
          case atStart => exact ⟨0, s, Nat.zero_le _, rfl, rfl, HT2.out.2, (by have h := HT2.out.1; simp only [List.take_zero, List.map_nil, List.append_nil]; exact h), HE2.out⟩
          case round =>
            obtain ⟨k, t, hk, rfl, rfl, hss, HT, HE⟩ := hrel
            obtain ⟨x5, x6⟩ := HW5.out _ HE.out
            by_cases hlt : k < m.refs.length
            · obtain ⟨z, hzk⟩ : ∃ z, m.refs[k]? = some z := ⟨_, List.getElem?_eq_getElem hlt⟩
              obtain ⟨b1, off, rfl, hb, hN⟩ := HX6.out (by omega)
              have hz := HF.out.refs z (List.mem_of_getElem? hzk)
              have HE1 : Hid (∀ wx : World, Calls Tryd.prog 61 #[.int .i64 z] wx fun e w' => e = .returned (.string (mkB (Lib.itoa z))) ∧ Ext wx w') := fun wx => digits_any _ (by omega) (by omega) wx
              obtain ⟨C1, g1, t1, q1⟩ := add_run t ⟨#[32]⟩ (2100 + 22 * k) 1 hss (by decide) (by omega)
              obtain ⟨C2, g2, t2, q2⟩ := add_run C1 (mkB (Lib.itoa z)) (2100 + 22 * k + 1) 21 (by omega) (itoa_size _ (by omega) (by omega)) (by omega)
              have HT6 : Hid (C2.data.toList = Lib.join ((Msg.headW m ++ m.certs.map Msg.certW) ++ (m.refs.take (k + 1)).map Lib.itoa) [32]) := by
                show _ = _
                rw [take_map hzk, join_snoc _ _ (by simp [Msg.headW]), g2, g1, HT.out, mkB_list]
              have hs6 : C2.size ≤ 2100 + 22 * (k + 1) := by omega
              have d0 := hN.ext hb HE.out k z hzk
              clear g1 g2 t1 t2 hz hzk hN hb
              generalize mkB (Lib.itoa z) = n3 at *
              go_wp2_with fail
              refine (HE1.out _).mono ?_
              rintro e x1 ⟨rfl, hb⟩
              have G1 : Hid (Ext w x1) := HE.out.trans hb
              clear hb d0 x5 x6
              go_wp2
              exact ⟨⟨k + 1, C2, by omega, by go_num, rfl, hs6, HT6.out, G1.out⟩, by simp [intOf]; omega⟩
            · have hke : k = m.refs.length := by omega
              have eT : t = mkB (Lib.join (Msg.msgW m) [32]) := by
                apply ba_eq
                have h := HT.out
                rw [hke, List.take_length] at h
                rw [mkB_list, h]
                unfold Msg.msgW
                rw [← HB.out]
              have HTt : Hid (t = mkB (Lib.join (Msg.msgW m) [32])) := eT
              clear hke HT eT
              go_wp2
              go_ret
              exact ⟨congrArg (fun s => Ending.returned (.string s)) HTt.out, HE.out⟩
    · clear rw6
      go_simp
      refine (HD1.out _).mono ?_
      rintro e y4 ⟨rfl, hb⟩
      have F4 : Hid (Ext w y4) := F1.out.trans hb
      have X4 : Hid (Ext (w.drew.alloc (.cells #[.string ⟨#[]⟩, .string ⟨#[112, 114, 111, 112, 111, 115, 101]⟩, .string ⟨#[112, 114, 101, 112, 97, 114, 101]⟩, .string ⟨#[99, 111, 109, 109, 105, 116]⟩, .string ⟨#[99, 104, 97, 110, 103, 101]⟩, .string ⟨#[110, 101, 119]⟩] 9)) y4) := X1.out.trans hb
      refine hK.out _ _ (HS.out _ F4.out) (fun hHeld4 => ?_)
      clear hK K hb
      have rw6 := row6 X4.out
      refine wpAnyH_ready (rs := [6, 19]) (by kernel_rfl) (by simp) (AllReadyH.cons rfl (fun K hK => ?_) (AllReadyH.cons rfl (fun K hK => ?_) AllReadyH.nil))
      · have zz : y4.cell? ⟨w.heap.size, 4, none⟩ = some (.string ⟨#[99, 104, 97, 110, 103, 101]⟩) := rw6.2.2.2.1
        clear rw6
        go_simp
        refine hK.out _ _ (HS.out _ F4.out) (fun hHeld7 => ?_)
        clear hK K zz
        refine tk 7 { dst := some 13, op := Op.binOp BinOp.add 9 (.tmp 12) (Operand.const (Value.string { data := #[32] })) 9, type := 9, pos := "l08_msg.go:183", after := #[⟨6, .data⟩], guard := none } ?_
        refine tk 13 { dst := some 19, op := Op.binOp BinOp.add 9 (.tmp 13) (.tmp 18) 9, type := 9, pos := "l08_msg.go:183", after := #[⟨7, .data⟩, ⟨12, .data⟩], guard := none } ?_
        refine tk 14 { dst := some 20, op := Op.binOp BinOp.add 9 (.tmp 19) (Operand.const (Value.string { data := #[32] })) 9, type := 9, pos := "l08_msg.go:183", after := #[⟨13, .data⟩], guard := none } ?_
        refine wpAnyH_ready (rs := [19]) (by kernel_rfl) (by simp) (AllReadyH.cons rfl (fun K hK => ?_) AllReadyH.nil)
        go_simp
        refine (HD2.out _).mono ?_
        rintro e y9 ⟨rfl, hb⟩
        have F9 : Hid (Ext w y9) := F4.out.trans hb
        have X9 : Hid (Ext (w.drew.alloc (.cells #[.string ⟨#[]⟩, .string ⟨#[112, 114, 111, 112, 111, 115, 101]⟩, .string ⟨#[112, 114, 101, 112, 97, 114, 101]⟩, .string ⟨#[99, 111, 109, 109, 105, 116]⟩, .string ⟨#[99, 104, 97, 110, 103, 101]⟩, .string ⟨#[110, 101, 119]⟩] 9)) y9) := X4.out.trans hb
        refine hK.out _ _ (HS.out _ F9.out) (fun hHeld9 => ?_)
        clear hK K hb
        refine tk 20 { dst := some 26, op := Op.binOp BinOp.add 9 (.tmp 20) (.tmp 25) 9, type := 9, pos := "l08_msg.go:183", after := #[⟨14, .data⟩, ⟨19, .data⟩], guard := none } ?_
        refine tk 21 { dst := some 3, op := Op.assign (.tmp 26), type := 9, pos := "l08_msg.go:183", after := #[⟨20, .data⟩, ⟨19, .chain⟩, ⟨0, .phase⟩, ⟨1, .phase⟩, ⟨2, .phase⟩, ⟨3, .phase⟩, ⟨4, .phase⟩, ⟨5, .phase⟩, ⟨6, .phase⟩, ⟨7, .phase⟩, ⟨8, .phase⟩, ⟨9, .phase⟩, ⟨10, .phase⟩, ⟨11, .phase⟩, ⟨12, .phase⟩, ⟨13, .phase⟩, ⟨14, .phase⟩, ⟨15, .phase⟩, ⟨16, .phase⟩, ⟨17, .phase⟩, ⟨18, .phase⟩, ⟨19, .phase⟩, ⟨20, .phase⟩], guard := none } ?_
        refine wpAnyH_done (by kernel_rfl) ?_ _
        have FZ : Hid (Ext w y9) := F9.out
        generalize y9 = WZ at *
        obtain ⟨p0, p1, p2, p3, p4⟩ := HS.out _ FZ.out
        obtain ⟨a, c, a', c', hva, hua, hc1, hc2, hc3, hc4⟩ := HSl.out.form
        subst hva hua
        unfold maxLen at hc2 hc4
        have HX5 : Hid (0 < m.certs.length → ∃ b off, a = some ⟨b, off, none⟩ ∧ b < w.heap.size ∧ CtsAt w b off m.certs) := by
          obtain ⟨⟨a0, c0, h1, -, -, h4⟩, -⟩ := HSl.out
          injection h1 with h1 _ _; subst h1; exact h4
        have HX6 : Hid (0 < m.refs.length → ∃ b off, a' = some ⟨b, off, none⟩ ∧ b < w.heap.size ∧ NumsAt w b off m.refs) := by
          obtain ⟨-, ⟨a0, c0, h1, -, -, h4⟩⟩ := HSl.out
          injection h1 with h1 _ _; subst h1; exact h4
        have HW5 : Hid (∀ wx : World, Ext w wx → wx.cell? ⟨b, o + 5, none⟩ = some (.slice a m.certs.length c) ∧ wx.cell? ⟨b, o + 6, none⟩ = some (.slice a' m.refs.length c')) := fun wx he => by
          obtain ⟨-, -, -, -, -, x5, x6⟩ := HM.out.ext hb1 he
          exact ⟨x5, x6⟩
        have hmn := HF.out.many
        have HB : Hid (Msg.headW m = Msg.headW m ++ Msg.slotW m) := by
          show _ = _
          rw [Msg.slotW_no (by have := HKK.out; omega), List.append_nil]
        clear HSl HM
        go_wp2
        clear p0 p1 p2 p3 p4
        go_loopw [3, 4] (fun sv i wr => ∃ (k : Nat) (s : ByteArray), k ≤ m.certs.length ∧ i = .int .i64 k ∧ sv = .string s ∧ s.size ≤ 51 + 66 * k ∧ Hid (s.data.toList = Lib.join (Msg.headW m ++ (m.certs.take k).map Msg.certW) [32]) ∧ Hid (Ext w wr)) (fun _ i _ => m.certs.length - (intOf i).toNat)
        case atStart => exact ⟨0, A4, Nat.zero_le _, rfl, rfl, HA4.out.2, (by have h := HA4.out.1; simp only [List.take_zero, List.map_nil, List.append_nil]; exact h), FZ.out⟩
        case round =>
          obtain ⟨k, s, hk, rfl, rfl, hss, HT, HE⟩ := hrel
          obtain ⟨x5, x6⟩ := HW5.out _ HE.out
          by_cases hlt : k < m.certs.length
          · obtain ⟨z, hzk⟩ : ∃ z, m.certs[k]? = some z := ⟨_, List.getElem?_eq_getElem hlt⟩
            obtain ⟨b1, off, rfl, hb, hN⟩ := HX5.out (by omega)
            have hz := HF.out.certs z (List.mem_of_getElem? hzk)
            have HE1 : Hid (∀ wx : World, Calls Tryd.prog 61 #[.int .i64 z.slot] wx fun e w' => e = .returned (.string (mkB (Lib.itoa z.slot))) ∧ Ext wx w') := fun wx => digits_any _ (by omega) (by omega) wx
            have HE2 : Hid (∀ wx : World, Calls Tryd.prog 61 #[.int .i64 z.view] wx fun e w' => e = .returned (.string (mkB (Lib.itoa z.view))) ∧ Ext wx w') := fun wx => digits_any _ (by omega) (by omega) wx
            have HE3 : Hid (∀ wx : World, Calls Tryd.prog 61 #[.int .i64 z.value] wx fun e w' => e = .returned (.string (mkB (Lib.itoa z.value))) ∧ Ext wx w') := fun wx => digits_any _ (by omega) (by omega) wx
            obtain ⟨C1, g1, t1, q1⟩ := add_run s ⟨#[32]⟩ (51 + 66 * k) 1 hss (by decide) (by omega)
            obtain ⟨C2, g2, t2, q2⟩ := add_run C1 (mkB (Lib.itoa z.slot)) (51 + 66 * k + 1) 21 (by omega) (itoa_size _ (by omega) (by omega)) (by omega)
            obtain ⟨C3, g3, t3, q3⟩ := add_run C2 ⟨#[46]⟩ (51 + 66 * k + 22) 1 (by omega) (by decide) (by omega)
            obtain ⟨C4, g4, t4, q4⟩ := add_run C3 (mkB (Lib.itoa z.view)) (51 + 66 * k + 23) 21 (by omega) (itoa_size _ (by omega) (by omega)) (by omega)
            obtain ⟨C5, g5, t5, q5⟩ := add_run C4 ⟨#[46]⟩ (51 + 66 * k + 44) 1 (by omega) (by decide) (by omega)
            obtain ⟨C6, g6, t6, q6⟩ := add_run C5 (mkB (Lib.itoa z.value)) (51 + 66 * k + 45) 21 (by omega) (itoa_size _ (by omega) (by omega)) (by omega)
            have HT6 : Hid (C6.data.toList = Lib.join (Msg.headW m ++ (m.certs.take (k + 1)).map Msg.certW) [32]) := by
              show _ = _
              rw [take_map hzk, join_snoc _ _ (by simp [Msg.headW]), g6, g5, g4, g3, g2, g1, HT.out, mkB_list, mkB_list, mkB_list]
              simp [Msg.certW, List.append_assoc]
            have hs6 : C6.size ≤ 51 + 66 * (k + 1) := by omega
            have HS7 : Hid (∀ wx : World, Ext w wx → (fun W' : World => W'.cell? ⟨b, o + 5, none⟩ = some (.slice (some ⟨b1, off, none⟩) m.certs.length c) ∧ W'.cell? ⟨b1, off + k * 3, none⟩ = some (.int .i64 z.slot) ∧ W'.cell? ⟨b1, off + k * 3 + 1, none⟩ = some (.int .i64 z.view) ∧ W'.cell? ⟨b1, off + k * 3 + 2, none⟩ = some (.int .i64 z.value)) wx) := fun wx he => by
              obtain ⟨d0, d1, d2⟩ := hN.ext hb he k z hzk
              exact ⟨(HW5.out _ he).1, d0, d1, d2⟩
            clear g1 g2 g3 g4 g5 g6 t1 t2 t3 t4 t5 t6 hz hzk hN hb
            generalize mkB (Lib.itoa z.slot) = n3 at *
            generalize mkB (Lib.itoa z.view) = n4 at *
            generalize mkB (Lib.itoa z.value) = n5 at *
            go_wp2
            refine wp_region_held_drew (S := (fun W' : World => W'.cell? ⟨b, o + 5, none⟩ = some (.slice (some ⟨b1, off, none⟩) m.certs.length c) ∧ W'.cell? ⟨b1, off + k * 3, none⟩ = some (.int .i64 z.slot) ∧ W'.cell? ⟨b1, off + k * 3 + 1, none⟩ = some (.int .i64 z.view) ∧ W'.cell? ⟨b1, off + k * 3 + 2, none⟩ = some (.int .i64 z.value))) (by kernel_rfl) (HS7.out _ (HE.out.drew)) (fun hHeld => ?_)
            refine tk 0 { dst := some 56, op := Op.move (.tmp 3), type := 9, pos := "l08_msg.go:188", after := #[], guard := none } ?_
            refine tk 1 { dst := some 57, op := Op.binOp BinOp.add 9 (.tmp 56) (Operand.const (Value.string { data := #[32] })) 9, type := 9, pos := "l08_msg.go:188", after := #[⟨0, .data⟩], guard := none } ?_
            refine tk 2 { dst := some 58, op := Op.move (.tmp 0), type := 50, pos := "l08_msg.go:188", after := #[], guard := none } ?_
            refine tk 3 { dst := some 59, op := Op.nilCheck (.tmp 58), type := 0, pos := "l08_msg.go:188", after := #[⟨2, .data⟩], guard := none } ?_
            refine tk 4 { dst := some 60, op := Op.fieldAddr 28 (.tmp 59) 5, type := 0, pos := "l08_msg.go:188", after := #[⟨3, .data⟩], guard := none } ?_
            refine tk 5 { dst := some 61, op := Op.load 25 (.tmp 60), type := 25, pos := "l08_msg.go:188", after := #[⟨4, .data⟩], guard := none } ?_
            refine tk 6 { dst := some 62, op := Op.move (.tmp 4), type := 3, pos := "l08_msg.go:188", after := #[], guard := none } ?_
            refine tk 7 { dst := some 63, op := Op.indexAddr 25 (.tmp 61) (.tmp 62), type := 0, pos := "l08_msg.go:188", after := #[⟨5, .data⟩, ⟨6, .data⟩], guard := none } ?_
            refine tk 8 { dst := some 64, op := Op.fieldAddr 76 (.tmp 63) 0, type := 0, pos := "l08_msg.go:188", after := #[⟨7, .data⟩], guard := none } ?_
            refine tk 9 { dst := some 65, op := Op.load 2 (.tmp 64), type := 2, pos := "l08_msg.go:188", after := #[⟨8, .data⟩], guard := none } ?_
            refine tk 13 { dst := some 69, op := Op.move (.tmp 0), type := 50, pos := "l08_msg.go:188", after := #[], guard := none } ?_
            refine tk 14 { dst := some 70, op := Op.nilCheck (.tmp 69), type := 0, pos := "l08_msg.go:188", after := #[⟨13, .data⟩], guard := none } ?_
            refine tk 15 { dst := some 71, op := Op.fieldAddr 28 (.tmp 70) 5, type := 0, pos := "l08_msg.go:188", after := #[⟨14, .data⟩], guard := none } ?_
            refine tk 16 { dst := some 72, op := Op.load 25 (.tmp 71), type := 25, pos := "l08_msg.go:188", after := #[⟨15, .data⟩], guard := none } ?_
            refine tk 17 { dst := some 73, op := Op.move (.tmp 4), type := 3, pos := "l08_msg.go:188", after := #[], guard := none } ?_
            refine tk 18 { dst := some 74, op := Op.indexAddr 25 (.tmp 72) (.tmp 73), type := 0, pos := "l08_msg.go:188", after := #[⟨16, .data⟩, ⟨17, .data⟩], guard := none } ?_
            refine tk 19 { dst := some 75, op := Op.fieldAddr 76 (.tmp 74) 1, type := 0, pos := "l08_msg.go:188", after := #[⟨18, .data⟩], guard := none } ?_
            refine tk 20 { dst := some 76, op := Op.load 2 (.tmp 75), type := 2, pos := "l08_msg.go:188", after := #[⟨19, .data⟩], guard := none } ?_
            refine tk 24 { dst := some 80, op := Op.move (.tmp 0), type := 50, pos := "l08_msg.go:188", after := #[], guard := none } ?_
            refine tk 25 { dst := some 81, op := Op.nilCheck (.tmp 80), type := 0, pos := "l08_msg.go:188", after := #[⟨24, .data⟩], guard := none } ?_
            refine tk 26 { dst := some 82, op := Op.fieldAddr 28 (.tmp 81) 5, type := 0, pos := "l08_msg.go:188", after := #[⟨25, .data⟩], guard := none } ?_
            refine tk 27 { dst := some 83, op := Op.load 25 (.tmp 82), type := 25, pos := "l08_msg.go:188", after := #[⟨26, .data⟩], guard := none } ?_
            refine tk 28 { dst := some 84, op := Op.move (.tmp 4), type := 3, pos := "l08_msg.go:188", after := #[], guard := none } ?_
            refine tk 29 { dst := some 85, op := Op.indexAddr 25 (.tmp 83) (.tmp 84), type := 0, pos := "l08_msg.go:188", after := #[⟨27, .data⟩, ⟨28, .data⟩], guard := none } ?_
            refine tk 30 { dst := some 86, op := Op.fieldAddr 76 (.tmp 85) 2, type := 0, pos := "l08_msg.go:188", after := #[⟨29, .data⟩], guard := none } ?_
            refine tk 31 { dst := some 87, op := Op.load 2 (.tmp 86), type := 2, pos := "l08_msg.go:188", after := #[⟨30, .data⟩], guard := none } ?_
            refine wpAnyH_ready (rs := [10]) (by kernel_rfl) (by simp) (AllReadyH.cons rfl (fun K hK => ?_) AllReadyH.nil)
            go_simp
            refine (HE1.out _).mono ?_
            rintro e x1 ⟨rfl, hb⟩
            have G1 : Hid (Ext w x1) := HE.out.drew.trans hb
            refine hK.out _ _ (HS7.out _ G1.out) (fun hHd1 => ?_)
            clear hK K hb
            refine tk 11 { dst := some 67, op := Op.binOp BinOp.add 9 (.tmp 57) (.tmp 66) 9, type := 9, pos := "l08_msg.go:188", after := #[⟨1, .data⟩, ⟨10, .data⟩], guard := none } ?_
            refine tk 12 { dst := some 68, op := Op.binOp BinOp.add 9 (.tmp 67) (Operand.const (Value.string { data := #[46] })) 9, type := 9, pos := "l08_msg.go:188", after := #[⟨11, .data⟩], guard := none } ?_
            refine wpAnyH_ready (rs := [21]) (by kernel_rfl) (by simp) (AllReadyH.cons rfl (fun K hK => ?_) AllReadyH.nil)
            go_simp
            refine (HE2.out _).mono ?_
            rintro e x2 ⟨rfl, hb⟩
            have G2 : Hid (Ext w x2) := G1.out.trans hb
            refine hK.out _ _ (HS7.out _ G2.out) (fun hHd2 => ?_)
            clear hK K hb
            refine tk 22 { dst := some 78, op := Op.binOp BinOp.add 9 (.tmp 68) (.tmp 77) 9, type := 9, pos := "l08_msg.go:188", after := #[⟨12, .data⟩, ⟨21, .data⟩], guard := none } ?_
            refine tk 23 { dst := some 79, op := Op.binOp BinOp.add 9 (.tmp 78) (Operand.const (Value.string { data := #[46] })) 9, type := 9, pos := "l08_msg.go:188", after := #[⟨22, .data⟩], guard := none } ?_
            refine wpAnyH_ready (rs := [32]) (by kernel_rfl) (by simp) (AllReadyH.cons rfl (fun K hK => ?_) AllReadyH.nil)
            go_simp
            refine (HE3.out _).mono ?_
            rintro e x3 ⟨rfl, hb⟩
            have G3 : Hid (Ext w x3) := G2.out.trans hb
            refine hK.out _ _ (HS7.out _ G3.out) (fun hHd3 => ?_)
            clear hK K hb
            refine tk 33 { dst := some 89, op := Op.binOp BinOp.add 9 (.tmp 79) (.tmp 88) 9, type := 9, pos := "l08_msg.go:188", after := #[⟨23, .data⟩, ⟨32, .data⟩], guard := none } ?_
            refine tk 34 { dst := some 3, op := Op.assign (.tmp 89), type := 9, pos := "l08_msg.go:188", after := #[⟨33, .data⟩, ⟨32, .chain⟩, ⟨0, .phase⟩, ⟨1, .phase⟩, ⟨2, .phase⟩, ⟨3, .phase⟩, ⟨4, .phase⟩, ⟨5, .phase⟩, ⟨6, .phase⟩, ⟨7, .phase⟩, ⟨8, .phase⟩, ⟨9, .phase⟩, ⟨10, .phase⟩, ⟨11, .phase⟩, ⟨12, .phase⟩, ⟨13, .phase⟩, ⟨14, .phase⟩, ⟨15, .phase⟩, ⟨16, .phase⟩, ⟨17, .phase⟩, ⟨18, .phase⟩, ⟨19, .phase⟩, ⟨20, .phase⟩, ⟨21, .phase⟩, ⟨22, .phase⟩, ⟨23, .phase⟩, ⟨24, .phase⟩, ⟨25, .phase⟩, ⟨26, .phase⟩, ⟨27, .phase⟩, ⟨28, .phase⟩, ⟨29, .phase⟩, ⟨30, .phase⟩, ⟨31, .phase⟩, ⟨32, .phase⟩, ⟨33, .phase⟩], guard := none } ?_
            refine wpAnyH_done (by kernel_rfl) ?_ _
            go_wp2
            exact ⟨⟨k + 1, C6, by omega, by go_num, rfl, hs6, HT6.out, G3.out⟩, by simp [intOf]; omega⟩
          · have hke : k = m.certs.length := by omega
            have HT2 : Hid (s.data.toList = Lib.join (Msg.headW m ++ m.certs.map Msg.certW) [32] ∧ s.size ≤ 2100) := by
              refine ⟨?_, by omega⟩
              have h := HT.out
              rw [hke, List.take_length] at h
              exact h
            have HE2 : Hid (Ext w wr) := HE
            clear hke HT HE hss
            go_wp2
            clear x5 x6 HX5
            generalize hwr : wr = w7 at *
            clear hwr
            go_loopw [3, 5] (fun sv i wr => ∃ (k : Nat) (t : ByteArray), k ≤ m.refs.length ∧ i = .int .i64 k ∧ sv = .string t ∧ t.size ≤ 2100 + 22 * k ∧ Hid (t.data.toList = Lib.join ((Msg.headW m ++ m.certs.map Msg.certW) ++ (m.refs.take k).map Lib.itoa) [32]) ∧ Hid (Ext w wr)) (fun _ i _ => m.refs.length - (intOf i).toNat)
            case atStart => exact ⟨0, s, Nat.zero_le _, rfl, rfl, HT2.out.2, (by have h := HT2.out.1; simp only [List.take_zero, List.map_nil, List.append_nil]; exact h), HE2.out⟩
            case round =>
              obtain ⟨k, t, hk, rfl, rfl, hss, HT, HE⟩ := hrel
              obtain ⟨x5, x6⟩ := HW5.out _ HE.out
              by_cases hlt : k < m.refs.length
              · obtain ⟨z, hzk⟩ : ∃ z, m.refs[k]? = some z := ⟨_, List.getElem?_eq_getElem hlt⟩
                obtain ⟨b1, off, rfl, hb, hN⟩ := HX6.out (by omega)
                have hz := HF.out.refs z (List.mem_of_getElem? hzk)
                have HE1 : Hid (∀ wx : World, Calls Tryd.prog 61 #[.int .i64 z] wx fun e w' => e = .returned (.string (mkB (Lib.itoa z))) ∧ Ext wx w') := fun wx => digits_any _ (by omega) (by omega) wx
                obtain ⟨C1, g1, t1, q1⟩ := add_run t ⟨#[32]⟩ (2100 + 22 * k) 1 hss (by decide) (by omega)
                obtain ⟨C2, g2, t2, q2⟩ := add_run C1 (mkB (Lib.itoa z)) (2100 + 22 * k + 1) 21 (by omega) (itoa_size _ (by omega) (by omega)) (by omega)
                have HT6 : Hid (C2.data.toList = Lib.join ((Msg.headW m ++ m.certs.map Msg.certW) ++ (m.refs.take (k + 1)).map Lib.itoa) [32]) := by
                  show _ = _
                  rw [take_map hzk, join_snoc _ _ (by simp [Msg.headW]), g2, g1, HT.out, mkB_list]
                have hs6 : C2.size ≤ 2100 + 22 * (k + 1) := by omega
                have d0 := hN.ext hb HE.out k z hzk
                clear g1 g2 t1 t2 hz hzk hN hb
                generalize mkB (Lib.itoa z) = n3 at *
                go_wp2_with fail
                refine (HE1.out _).mono ?_
                rintro e x1 ⟨rfl, hb⟩
                have G1 : Hid (Ext w x1) := HE.out.trans hb
                clear hb d0 x5 x6
                go_wp2
                exact ⟨⟨k + 1, C2, by omega, by go_num, rfl, hs6, HT6.out, G1.out⟩, by simp [intOf]; omega⟩
              · have hke : k = m.refs.length := by omega
                have eT : t = mkB (Lib.join (Msg.msgW m) [32]) := by
                  apply ba_eq
                  have h := HT.out
                  rw [hke, List.take_length] at h
                  rw [mkB_list, h]
                  unfold Msg.msgW
                  rw [← HB.out]
                have HTt : Hid (t = mkB (Lib.join (Msg.msgW m) [32])) := eT
                clear hke HT eT
                go_wp2
                go_ret
                exact ⟨congrArg (fun s => Ending.returned (.string s)) HTt.out, HE.out⟩
      · clear rw6
        go_simp
        refine (HD2.out _).mono ?_
        rintro e y8 ⟨rfl, hb⟩
        have F8 : Hid (Ext w y8) := F4.out.trans hb
        have X8 : Hid (Ext (w.drew.alloc (.cells #[.string ⟨#[]⟩, .string ⟨#[112, 114, 111, 112, 111, 115, 101]⟩, .string ⟨#[112, 114, 101, 112, 97, 114, 101]⟩, .string ⟨#[99, 111, 109, 109, 105, 116]⟩, .string ⟨#[99, 104, 97, 110, 103, 101]⟩, .string ⟨#[110, 101, 119]⟩] 9)) y8) := X4.out.trans hb
        refine hK.out _ _ (HS.out _ F8.out) (fun hHeld8 => ?_)
        clear hK K hb
        have rw6 := row6 X8.out
        refine wpAnyH_ready (rs := [6]) (by kernel_rfl) (by simp) (AllReadyH.cons rfl (fun K hK => ?_) AllReadyH.nil)
        have zz : y8.cell? ⟨w.heap.size, 4, none⟩ = some (.string ⟨#[99, 104, 97, 110, 103, 101]⟩) := rw6.2.2.2.1
        clear rw6
        go_simp
        refine hK.out _ _ (HS.out _ F8.out) (fun hHeld10 => ?_)
        clear hK K zz
        refine tk 7 { dst := some 13, op := Op.binOp BinOp.add 9 (.tmp 12) (Operand.const (Value.string { data := #[32] })) 9, type := 9, pos := "l08_msg.go:183", after := #[⟨6, .data⟩], guard := none } ?_
        refine tk 13 { dst := some 19, op := Op.binOp BinOp.add 9 (.tmp 13) (.tmp 18) 9, type := 9, pos := "l08_msg.go:183", after := #[⟨7, .data⟩, ⟨12, .data⟩], guard := none } ?_
        refine tk 14 { dst := some 20, op := Op.binOp BinOp.add 9 (.tmp 19) (Operand.const (Value.string { data := #[32] })) 9, type := 9, pos := "l08_msg.go:183", after := #[⟨13, .data⟩], guard := none } ?_
        refine tk 20 { dst := some 26, op := Op.binOp BinOp.add 9 (.tmp 20) (.tmp 25) 9, type := 9, pos := "l08_msg.go:183", after := #[⟨14, .data⟩, ⟨19, .data⟩], guard := none } ?_
        refine tk 21 { dst := some 3, op := Op.assign (.tmp 26), type := 9, pos := "l08_msg.go:183", after := #[⟨20, .data⟩, ⟨19, .chain⟩, ⟨0, .phase⟩, ⟨1, .phase⟩, ⟨2, .phase⟩, ⟨3, .phase⟩, ⟨4, .phase⟩, ⟨5, .phase⟩, ⟨6, .phase⟩, ⟨7, .phase⟩, ⟨8, .phase⟩, ⟨9, .phase⟩, ⟨10, .phase⟩, ⟨11, .phase⟩, ⟨12, .phase⟩, ⟨13, .phase⟩, ⟨14, .phase⟩, ⟨15, .phase⟩, ⟨16, .phase⟩, ⟨17, .phase⟩, ⟨18, .phase⟩, ⟨19, .phase⟩, ⟨20, .phase⟩], guard := none } ?_
        refine wpAnyH_done (by kernel_rfl) ?_ _
        have FZ : Hid (Ext w y8) := F8.out
        generalize y8 = WZ at *
        obtain ⟨p0, p1, p2, p3, p4⟩ := HS.out _ FZ.out
        obtain ⟨a, c, a', c', hva, hua, hc1, hc2, hc3, hc4⟩ := HSl.out.form
        subst hva hua
        unfold maxLen at hc2 hc4
        have HX5 : Hid (0 < m.certs.length → ∃ b off, a = some ⟨b, off, none⟩ ∧ b < w.heap.size ∧ CtsAt w b off m.certs) := by
          obtain ⟨⟨a0, c0, h1, -, -, h4⟩, -⟩ := HSl.out
          injection h1 with h1 _ _; subst h1; exact h4
        have HX6 : Hid (0 < m.refs.length → ∃ b off, a' = some ⟨b, off, none⟩ ∧ b < w.heap.size ∧ NumsAt w b off m.refs) := by
          obtain ⟨-, ⟨a0, c0, h1, -, -, h4⟩⟩ := HSl.out
          injection h1 with h1 _ _; subst h1; exact h4
        have HW5 : Hid (∀ wx : World, Ext w wx → wx.cell? ⟨b, o + 5, none⟩ = some (.slice a m.certs.length c) ∧ wx.cell? ⟨b, o + 6, none⟩ = some (.slice a' m.refs.length c')) := fun wx he => by
          obtain ⟨-, -, -, -, -, x5, x6⟩ := HM.out.ext hb1 he
          exact ⟨x5, x6⟩
        have hmn := HF.out.many
        have HB : Hid (Msg.headW m = Msg.headW m ++ Msg.slotW m) := by
          show _ = _
          rw [Msg.slotW_no (by have := HKK.out; omega), List.append_nil]
        clear HSl HM
        go_wp2
        clear p0 p1 p2 p3 p4
        go_loopw [3, 4] (fun sv i wr => ∃ (k : Nat) (s : ByteArray), k ≤ m.certs.length ∧ i = .int .i64 k ∧ sv = .string s ∧ s.size ≤ 51 + 66 * k ∧ Hid (s.data.toList = Lib.join (Msg.headW m ++ (m.certs.take k).map Msg.certW) [32]) ∧ Hid (Ext w wr)) (fun _ i _ => m.certs.length - (intOf i).toNat)
        case atStart => exact ⟨0, A4, Nat.zero_le _, rfl, rfl, HA4.out.2, (by have h := HA4.out.1; simp only [List.take_zero, List.map_nil, List.append_nil]; exact h), FZ.out⟩
        case round =>
          obtain ⟨k, s, hk, rfl, rfl, hss, HT, HE⟩ := hrel
          obtain ⟨x5, x6⟩ := HW5.out _ HE.out
          by_cases hlt : k < m.certs.length
          · obtain ⟨z, hzk⟩ : ∃ z, m.certs[k]? = some z := ⟨_, List.getElem?_eq_getElem hlt⟩
            obtain ⟨b1, off, rfl, hb, hN⟩ := HX5.out (by omega)
            have hz := HF.out.certs z (List.mem_of_getElem? hzk)
            have HE1 : Hid (∀ wx : World, Calls Tryd.prog 61 #[.int .i64 z.slot] wx fun e w' => e = .returned (.string (mkB (Lib.itoa z.slot))) ∧ Ext wx w') := fun wx => digits_any _ (by omega) (by omega) wx
            have HE2 : Hid (∀ wx : World, Calls Tryd.prog 61 #[.int .i64 z.view] wx fun e w' => e = .returned (.string (mkB (Lib.itoa z.view))) ∧ Ext wx w') := fun wx => digits_any _ (by omega) (by omega) wx
            have HE3 : Hid (∀ wx : World, Calls Tryd.prog 61 #[.int .i64 z.value] wx fun e w' => e = .returned (.string (mkB (Lib.itoa z.value))) ∧ Ext wx w') := fun wx => digits_any _ (by omega) (by omega) wx
            obtain ⟨C1, g1, t1, q1⟩ := add_run s ⟨#[32]⟩ (51 + 66 * k) 1 hss (by decide) (by omega)
            obtain ⟨C2, g2, t2, q2⟩ := add_run C1 (mkB (Lib.itoa z.slot)) (51 + 66 * k + 1) 21 (by omega) (itoa_size _ (by omega) (by omega)) (by omega)
            obtain ⟨C3, g3, t3, q3⟩ := add_run C2 ⟨#[46]⟩ (51 + 66 * k + 22) 1 (by omega) (by decide) (by omega)
            obtain ⟨C4, g4, t4, q4⟩ := add_run C3 (mkB (Lib.itoa z.view)) (51 + 66 * k + 23) 21 (by omega) (itoa_size _ (by omega) (by omega)) (by omega)
            obtain ⟨C5, g5, t5, q5⟩ := add_run C4 ⟨#[46]⟩ (51 + 66 * k + 44) 1 (by omega) (by decide) (by omega)
            obtain ⟨C6, g6, t6, q6⟩ := add_run C5 (mkB (Lib.itoa z.value)) (51 + 66 * k + 45) 21 (by omega) (itoa_size _ (by omega) (by omega)) (by omega)
            have HT6 : Hid (C6.data.toList = Lib.join (Msg.headW m ++ (m.certs.take (k + 1)).map Msg.certW) [32]) := by
              show _ = _
              rw [take_map hzk, join_snoc _ _ (by simp [Msg.headW]), g6, g5, g4, g3, g2, g1, HT.out, mkB_list, mkB_list, mkB_list]
              simp [Msg.certW, List.append_assoc]
            have hs6 : C6.size ≤ 51 + 66 * (k + 1) := by omega
            have HS7 : Hid (∀ wx : World, Ext w wx → (fun W' : World => W'.cell? ⟨b, o + 5, none⟩ = some (.slice (some ⟨b1, off, none⟩) m.certs.length c) ∧ W'.cell? ⟨b1, off + k * 3, none⟩ = some (.int .i64 z.slot) ∧ W'.cell? ⟨b1, off + k * 3 + 1, none⟩ = some (.int .i64 z.view) ∧ W'.cell? ⟨b1, off + k * 3 + 2, none⟩ = some (.int .i64 z.value)) wx) := fun wx he => by
              obtain ⟨d0, d1, d2⟩ := hN.ext hb he k z hzk
              exact ⟨(HW5.out _ he).1, d0, d1, d2⟩
            clear g1 g2 g3 g4 g5 g6 t1 t2 t3 t4 t5 t6 hz hzk hN hb
            generalize mkB (Lib.itoa z.slot) = n3 at *
            generalize mkB (Lib.itoa z.view) = n4 at *
            generalize mkB (Lib.itoa z.value) = n5 at *
            go_wp2
            refine wp_region_held_drew (S := (fun W' : World => W'.cell? ⟨b, o + 5, none⟩ = some (.slice (some ⟨b1, off, none⟩) m.certs.length c) ∧ W'.cell? ⟨b1, off + k * 3, none⟩ = some (.int .i64 z.slot) ∧ W'.cell? ⟨b1, off + k * 3 + 1, none⟩ = some (.int .i64 z.view) ∧ W'.cell? ⟨b1, off + k * 3 + 2, none⟩ = some (.int .i64 z.value))) (by kernel_rfl) (HS7.out _ (HE.out.drew)) (fun hHeld => ?_)
            refine tk 0 { dst := some 56, op := Op.move (.tmp 3), type := 9, pos := "l08_msg.go:188", after := #[], guard := none } ?_
            refine tk 1 { dst := some 57, op := Op.binOp BinOp.add 9 (.tmp 56) (Operand.const (Value.string { data := #[32] })) 9, type := 9, pos := "l08_msg.go:188", after := #[⟨0, .data⟩], guard := none } ?_
            refine tk 2 { dst := some 58, op := Op.move (.tmp 0), type := 50, pos := "l08_msg.go:188", after := #[], guard := none } ?_
            refine tk 3 { dst := some 59, op := Op.nilCheck (.tmp 58), type := 0, pos := "l08_msg.go:188", after := #[⟨2, .data⟩], guard := none } ?_
            refine tk 4 { dst := some 60, op := Op.fieldAddr 28 (.tmp 59) 5, type := 0, pos := "l08_msg.go:188", after := #[⟨3, .data⟩], guard := none } ?_
            refine tk 5 { dst := some 61, op := Op.load 25 (.tmp 60), type := 25, pos := "l08_msg.go:188", after := #[⟨4, .data⟩], guard := none } ?_
            refine tk 6 { dst := some 62, op := Op.move (.tmp 4), type := 3, pos := "l08_msg.go:188", after := #[], guard := none } ?_
            refine tk 7 { dst := some 63, op := Op.indexAddr 25 (.tmp 61) (.tmp 62), type := 0, pos := "l08_msg.go:188", after := #[⟨5, .data⟩, ⟨6, .data⟩], guard := none } ?_
            refine tk 8 { dst := some 64, op := Op.fieldAddr 76 (.tmp 63) 0, type := 0, pos := "l08_msg.go:188", after := #[⟨7, .data⟩], guard := none } ?_
            refine tk 9 { dst := some 65, op := Op.load 2 (.tmp 64), type := 2, pos := "l08_msg.go:188", after := #[⟨8, .data⟩], guard := none } ?_
            refine tk 13 { dst := some 69, op := Op.move (.tmp 0), type := 50, pos := "l08_msg.go:188", after := #[], guard := none } ?_
            refine tk 14 { dst := some 70, op := Op.nilCheck (.tmp 69), type := 0, pos := "l08_msg.go:188", after := #[⟨13, .data⟩], guard := none } ?_
            refine tk 15 { dst := some 71, op := Op.fieldAddr 28 (.tmp 70) 5, type := 0, pos := "l08_msg.go:188", after := #[⟨14, .data⟩], guard := none } ?_
            refine tk 16 { dst := some 72, op := Op.load 25 (.tmp 71), type := 25, pos := "l08_msg.go:188", after := #[⟨15, .data⟩], guard := none } ?_
            refine tk 17 { dst := some 73, op := Op.move (.tmp 4), type := 3, pos := "l08_msg.go:188", after := #[], guard := none } ?_
            refine tk 18 { dst := some 74, op := Op.indexAddr 25 (.tmp 72) (.tmp 73), type := 0, pos := "l08_msg.go:188", after := #[⟨16, .data⟩, ⟨17, .data⟩], guard := none } ?_
            refine tk 19 { dst := some 75, op := Op.fieldAddr 76 (.tmp 74) 1, type := 0, pos := "l08_msg.go:188", after := #[⟨18, .data⟩], guard := none } ?_
            refine tk 20 { dst := some 76, op := Op.load 2 (.tmp 75), type := 2, pos := "l08_msg.go:188", after := #[⟨19, .data⟩], guard := none } ?_
            refine tk 24 { dst := some 80, op := Op.move (.tmp 0), type := 50, pos := "l08_msg.go:188", after := #[], guard := none } ?_
            refine tk 25 { dst := some 81, op := Op.nilCheck (.tmp 80), type := 0, pos := "l08_msg.go:188", after := #[⟨24, .data⟩], guard := none } ?_
            refine tk 26 { dst := some 82, op := Op.fieldAddr 28 (.tmp 81) 5, type := 0, pos := "l08_msg.go:188", after := #[⟨25, .data⟩], guard := none } ?_
            refine tk 27 { dst := some 83, op := Op.load 25 (.tmp 82), type := 25, pos := "l08_msg.go:188", after := #[⟨26, .data⟩], guard := none } ?_
            refine tk 28 { dst := some 84, op := Op.move (.tmp 4), type := 3, pos := "l08_msg.go:188", after := #[], guard := none } ?_
            refine tk 29 { dst := some 85, op := Op.indexAddr 25 (.tmp 83) (.tmp 84), type := 0, pos := "l08_msg.go:188", after := #[⟨27, .data⟩, ⟨28, .data⟩], guard := none } ?_
            refine tk 30 { dst := some 86, op := Op.fieldAddr 76 (.tmp 85) 2, type := 0, pos := "l08_msg.go:188", after := #[⟨29, .data⟩], guard := none } ?_
            refine tk 31 { dst := some 87, op := Op.load 2 (.tmp 86), type := 2, pos := "l08_msg.go:188", after := #[⟨30, .data⟩], guard := none } ?_
            refine wpAnyH_ready (rs := [10]) (by kernel_rfl) (by simp) (AllReadyH.cons rfl (fun K hK => ?_) AllReadyH.nil)
            go_simp
            refine (HE1.out _).mono ?_
            rintro e x1 ⟨rfl, hb⟩
            have G1 : Hid (Ext w x1) := HE.out.drew.trans hb
            refine hK.out _ _ (HS7.out _ G1.out) (fun hHd1 => ?_)
            clear hK K hb
            refine tk 11 { dst := some 67, op := Op.binOp BinOp.add 9 (.tmp 57) (.tmp 66) 9, type := 9, pos := "l08_msg.go:188", after := #[⟨1, .data⟩, ⟨10, .data⟩], guard := none } ?_
            refine tk 12 { dst := some 68, op := Op.binOp BinOp.add 9 (.tmp 67) (Operand.const (Value.string { data := #[46] })) 9, type := 9, pos := "l08_msg.go:188", after := #[⟨11, .data⟩], guard := none } ?_
            refine wpAnyH_ready (rs := [21]) (by kernel_rfl) (by simp) (AllReadyH.cons rfl (fun K hK => ?_) AllReadyH.nil)
            go_simp
            refine (HE2.out _).mono ?_
            rintro e x2 ⟨rfl, hb⟩
            have G2 : Hid (Ext w x2) := G1.out.trans hb
            refine hK.out _ _ (HS7.out _ G2.out) (fun hHd2 => ?_)
            clear hK K hb
            refine tk 22 { dst := some 78, op := Op.binOp BinOp.add 9 (.tmp 68) (.tmp 77) 9, type := 9, pos := "l08_msg.go:188", after := #[⟨12, .data⟩, ⟨21, .data⟩], guard := none } ?_
            refine tk 23 { dst := some 79, op := Op.binOp BinOp.add 9 (.tmp 78) (Operand.const (Value.string { data := #[46] })) 9, type := 9, pos := "l08_msg.go:188", after := #[⟨22, .data⟩], guard := none } ?_
            refine wpAnyH_ready (rs := [32]) (by kernel_rfl) (by simp) (AllReadyH.cons rfl (fun K hK => ?_) AllReadyH.nil)
            go_simp
            refine (HE3.out _).mono ?_
            rintro e x3 ⟨rfl, hb⟩
            have G3 : Hid (Ext w x3) := G2.out.trans hb
            refine hK.out _ _ (HS7.out _ G3.out) (fun hHd3 => ?_)
            clear hK K hb
            refine tk 33 { dst := some 89, op := Op.binOp BinOp.add 9 (.tmp 79) (.tmp 88) 9, type := 9, pos := "l08_msg.go:188", after := #[⟨23, .data⟩, ⟨32, .data⟩], guard := none } ?_
            refine tk 34 { dst := some 3, op := Op.assign (.tmp 89), type := 9, pos := "l08_msg.go:188", after := #[⟨33, .data⟩, ⟨32, .chain⟩, ⟨0, .phase⟩, ⟨1, .phase⟩, ⟨2, .phase⟩, ⟨3, .phase⟩, ⟨4, .phase⟩, ⟨5, .phase⟩, ⟨6, .phase⟩, ⟨7, .phase⟩, ⟨8, .phase⟩, ⟨9, .phase⟩, ⟨10, .phase⟩, ⟨11, .phase⟩, ⟨12, .phase⟩, ⟨13, .phase⟩, ⟨14, .phase⟩, ⟨15, .phase⟩, ⟨16, .phase⟩, ⟨17, .phase⟩, ⟨18, .phase⟩, ⟨19, .phase⟩, ⟨20, .phase⟩, ⟨21, .phase⟩, ⟨22, .phase⟩, ⟨23, .phase⟩, ⟨24, .phase⟩, ⟨25, .phase⟩, ⟨26, .phase⟩, ⟨27, .phase⟩, ⟨28, .phase⟩, ⟨29, .phase⟩, ⟨30, .phase⟩, ⟨31, .phase⟩, ⟨32, .phase⟩, ⟨33, .phase⟩], guard := none } ?_
            refine wpAnyH_done (by kernel_rfl) ?_ _
            go_wp2
            exact ⟨⟨k + 1, C6, by omega, by go_num, rfl, hs6, HT6.out, G3.out⟩, by simp [intOf]; omega⟩
          · have hke : k = m.certs.length := by omega
            have HT2 : Hid (s.data.toList = Lib.join (Msg.headW m ++ m.certs.map Msg.certW) [32] ∧ s.size ≤ 2100) := by
              refine ⟨?_, by omega⟩
              have h := HT.out
              rw [hke, List.take_length] at h
              exact h
            have HE2 : Hid (Ext w wr) := HE
            clear hke HT HE hss
            go_wp2
            clear x5 x6 HX5
            generalize hwr : wr = w7 at *
            clear hwr
            go_loopw [3, 5] (fun sv i wr => ∃ (k : Nat) (t : ByteArray), k ≤ m.refs.length ∧ i = .int .i64 k ∧ sv = .string t ∧ t.size ≤ 2100 + 22 * k ∧ Hid (t.data.toList = Lib.join ((Msg.headW m ++ m.certs.map Msg.certW) ++ (m.refs.take k).map Lib.itoa) [32]) ∧ Hid (Ext w wr)) (fun _ i _ => m.refs.length - (intOf i).toNat)
            case atStart => exact ⟨0, s, Nat.zero_le _, rfl, rfl, HT2.out.2, (by have h := HT2.out.1; simp only [List.take_zero, List.map_nil, List.append_nil]; exact h), HE2.out⟩
            case round =>
              obtain ⟨k, t, hk, rfl, rfl, hss, HT, HE⟩ := hrel
              obtain ⟨x5, x6⟩ := HW5.out _ HE.out
              by_cases hlt : k < m.refs.length
              · obtain ⟨z, hzk⟩ : ∃ z, m.refs[k]? = some z := ⟨_, List.getElem?_eq_getElem hlt⟩
                obtain ⟨b1, off, rfl, hb, hN⟩ := HX6.out (by omega)
                have hz := HF.out.refs z (List.mem_of_getElem? hzk)
                have HE1 : Hid (∀ wx : World, Calls Tryd.prog 61 #[.int .i64 z] wx fun e w' => e = .returned (.string (mkB (Lib.itoa z))) ∧ Ext wx w') := fun wx => digits_any _ (by omega) (by omega) wx
                obtain ⟨C1, g1, t1, q1⟩ := add_run t ⟨#[32]⟩ (2100 + 22 * k) 1 hss (by decide) (by omega)
                obtain ⟨C2, g2, t2, q2⟩ := add_run C1 (mkB (Lib.itoa z)) (2100 + 22 * k + 1) 21 (by omega) (itoa_size _ (by omega) (by omega)) (by omega)
                have HT6 : Hid (C2.data.toList = Lib.join ((Msg.headW m ++ m.certs.map Msg.certW) ++ (m.refs.take (k + 1)).map Lib.itoa) [32]) := by
                  show _ = _
                  rw [take_map hzk, join_snoc _ _ (by simp [Msg.headW]), g2, g1, HT.out, mkB_list]
                have hs6 : C2.size ≤ 2100 + 22 * (k + 1) := by omega
                have d0 := hN.ext hb HE.out k z hzk
                clear g1 g2 t1 t2 hz hzk hN hb
                generalize mkB (Lib.itoa z) = n3 at *
                go_wp2_with fail
                refine (HE1.out _).mono ?_
                rintro e x1 ⟨rfl, hb⟩
                have G1 : Hid (Ext w x1) := HE.out.trans hb
                clear hb d0 x5 x6
                go_wp2
                exact ⟨⟨k + 1, C2, by omega, by go_num, rfl, hs6, HT6.out, G1.out⟩, by simp [intOf]; omega⟩
              · have hke : k = m.refs.length := by omega
                have eT : t = mkB (Lib.join (Msg.msgW m) [32]) := by
                  apply ba_eq
                  have h := HT.out
                  rw [hke, List.take_length] at h
                  rw [mkB_list, h]
                  unfold Msg.msgW
                  rw [← HB.out]
                have HTt : Hid (t = mkB (Lib.join (Msg.msgW m) [32])) := eT
                clear hke HT eT
                go_wp2
                go_ret
                exact ⟨congrArg (fun s => Ending.returned (.string s)) HTt.out, HE.out⟩
  · go_simp
    refine (HD1.out _).mono ?_
    rintro e y2 ⟨rfl, hb⟩
    have F2 : Hid (Ext w y2) := F0.out.trans hb
    refine hK.out _ _ (HS.out _ F2.out) (fun hHeld2 => ?_)
    clear hK K hb
    refine wpAnyH_ready (rs := [0, 19]) (by kernel_rfl) (by simp) (AllReadyH.cons rfl (fun K hK => ?_) (AllReadyH.cons rfl (fun K hK => ?_) AllReadyH.nil))
    · go_simp
      have F11 : Hid (Ext w (y2.alloc (.cells #[.string ⟨#[]⟩, .string ⟨#[112, 114, 111, 112, 111, 115, 101]⟩, .string ⟨#[112, 114, 101, 112, 97, 114, 101]⟩, .string ⟨#[99, 111, 109, 109, 105, 116]⟩, .string ⟨#[99, 104, 97, 110, 103, 101]⟩, .string ⟨#[110, 101, 119]⟩] 9))) := F2.out.alloc _
      have X11 : Hid (Ext (y2.alloc (.cells #[.string ⟨#[]⟩, .string ⟨#[112, 114, 111, 112, 111, 115, 101]⟩, .string ⟨#[112, 114, 101, 112, 97, 114, 101]⟩, .string ⟨#[99, 111, 109, 109, 105, 116]⟩, .string ⟨#[99, 104, 97, 110, 103, 101]⟩, .string ⟨#[110, 101, 119]⟩] 9)) (y2.alloc (.cells #[.string ⟨#[]⟩, .string ⟨#[112, 114, 111, 112, 111, 115, 101]⟩, .string ⟨#[112, 114, 101, 112, 97, 114, 101]⟩, .string ⟨#[99, 111, 109, 109, 105, 116]⟩, .string ⟨#[99, 104, 97, 110, 103, 101]⟩, .string ⟨#[110, 101, 119]⟩] 9))) := Ext.refl _
      refine hK.out _ _ (HS.out _ F11.out) (fun hHeld11 => ?_)
      clear hK K
      refine tk 5 { dst := some 11, op := Op.indexAddr 60 (.tmp 6) (.tmp 10), type := 0, pos := "l08_msg.go:183", after := #[⟨0, .data⟩, ⟨4, .data⟩], guard := none } ?_
      have rw6 := row6 X11.out
      refine wpAnyH_ready (rs := [6, 19]) (by kernel_rfl) (by simp) (AllReadyH.cons rfl (fun K hK => ?_) (AllReadyH.cons rfl (fun K hK => ?_) AllReadyH.nil))
      · have zz : (y2.alloc (.cells #[.string ⟨#[]⟩, .string ⟨#[112, 114, 111, 112, 111, 115, 101]⟩, .string ⟨#[112, 114, 101, 112, 97, 114, 101]⟩, .string ⟨#[99, 111, 109, 109, 105, 116]⟩, .string ⟨#[99, 104, 97, 110, 103, 101]⟩, .string ⟨#[110, 101, 119]⟩] 9)).cell? ⟨y2.heap.size, 4, none⟩ = some (.string ⟨#[99, 104, 97, 110, 103, 101]⟩) := rw6.2.2.2.1
        clear rw6
        go_simp
        refine hK.out _ _ (HS.out _ F11.out) (fun hHeld13 => ?_)
        clear hK K zz
        refine tk 7 { dst := some 13, op := Op.binOp BinOp.add 9 (.tmp 12) (Operand.const (Value.string { data := #[32] })) 9, type := 9, pos := "l08_msg.go:183", after := #[⟨6, .data⟩], guard := none } ?_
        refine tk 13 { dst := some 19, op := Op.binOp BinOp.add 9 (.tmp 13) (.tmp 18) 9, type := 9, pos := "l08_msg.go:183", after := #[⟨7, .data⟩, ⟨12, .data⟩], guard := none } ?_
        refine tk 14 { dst := some 20, op := Op.binOp BinOp.add 9 (.tmp 19) (Operand.const (Value.string { data := #[32] })) 9, type := 9, pos := "l08_msg.go:183", after := #[⟨13, .data⟩], guard := none } ?_
        refine wpAnyH_ready (rs := [19]) (by kernel_rfl) (by simp) (AllReadyH.cons rfl (fun K hK => ?_) AllReadyH.nil)
        go_simp
        refine (HD2.out _).mono ?_
        rintro e y15 ⟨rfl, hb⟩
        have F15 : Hid (Ext w y15) := F11.out.trans hb
        have X15 : Hid (Ext (y2.alloc (.cells #[.string ⟨#[]⟩, .string ⟨#[112, 114, 111, 112, 111, 115, 101]⟩, .string ⟨#[112, 114, 101, 112, 97, 114, 101]⟩, .string ⟨#[99, 111, 109, 109, 105, 116]⟩, .string ⟨#[99, 104, 97, 110, 103, 101]⟩, .string ⟨#[110, 101, 119]⟩] 9)) y15) := X11.out.trans hb
        refine hK.out _ _ (HS.out _ F15.out) (fun hHeld15 => ?_)
        clear hK K hb
        refine tk 20 { dst := some 26, op := Op.binOp BinOp.add 9 (.tmp 20) (.tmp 25) 9, type := 9, pos := "l08_msg.go:183", after := #[⟨14, .data⟩, ⟨19, .data⟩], guard := none } ?_
        refine tk 21 { dst := some 3, op := Op.assign (.tmp 26), type := 9, pos := "l08_msg.go:183", after := #[⟨20, .data⟩, ⟨19, .chain⟩, ⟨0, .phase⟩, ⟨1, .phase⟩, ⟨2, .phase⟩, ⟨3, .phase⟩, ⟨4, .phase⟩, ⟨5, .phase⟩, ⟨6, .phase⟩, ⟨7, .phase⟩, ⟨8, .phase⟩, ⟨9, .phase⟩, ⟨10, .phase⟩, ⟨11, .phase⟩, ⟨12, .phase⟩, ⟨13, .phase⟩, ⟨14, .phase⟩, ⟨15, .phase⟩, ⟨16, .phase⟩, ⟨17, .phase⟩, ⟨18, .phase⟩, ⟨19, .phase⟩, ⟨20, .phase⟩], guard := none } ?_
        refine wpAnyH_done (by kernel_rfl) ?_ _
        have FZ : Hid (Ext w y15) := F15.out
        generalize y15 = WZ at *
        obtain ⟨p0, p1, p2, p3, p4⟩ := HS.out _ FZ.out
        obtain ⟨a, c, a', c', hva, hua, hc1, hc2, hc3, hc4⟩ := HSl.out.form
        subst hva hua
        unfold maxLen at hc2 hc4
        have HX5 : Hid (0 < m.certs.length → ∃ b off, a = some ⟨b, off, none⟩ ∧ b < w.heap.size ∧ CtsAt w b off m.certs) := by
          obtain ⟨⟨a0, c0, h1, -, -, h4⟩, -⟩ := HSl.out
          injection h1 with h1 _ _; subst h1; exact h4
        have HX6 : Hid (0 < m.refs.length → ∃ b off, a' = some ⟨b, off, none⟩ ∧ b < w.heap.size ∧ NumsAt w b off m.refs) := by
          obtain ⟨-, ⟨a0, c0, h1, -, -, h4⟩⟩ := HSl.out
          injection h1 with h1 _ _; subst h1; exact h4
        have HW5 : Hid (∀ wx : World, Ext w wx → wx.cell? ⟨b, o + 5, none⟩ = some (.slice a m.certs.length c) ∧ wx.cell? ⟨b, o + 6, none⟩ = some (.slice a' m.refs.length c')) := fun wx he => by
          obtain ⟨-, -, -, -, -, x5, x6⟩ := HM.out.ext hb1 he
          exact ⟨x5, x6⟩
        have hmn := HF.out.many
        have HB : Hid (Msg.headW m = Msg.headW m ++ Msg.slotW m) := by
          show _ = _
          rw [Msg.slotW_no (by have := HKK.out; omega), List.append_nil]
        clear HSl HM
        go_wp2
        clear p0 p1 p2 p3 p4
        go_loopw [3, 4] (fun sv i wr => ∃ (k : Nat) (s : ByteArray), k ≤ m.certs.length ∧ i = .int .i64 k ∧ sv = .string s ∧ s.size ≤ 51 + 66 * k ∧ Hid (s.data.toList = Lib.join (Msg.headW m ++ (m.certs.take k).map Msg.certW) [32]) ∧ Hid (Ext w wr)) (fun _ i _ => m.certs.length - (intOf i).toNat)
        case atStart => exact ⟨0, A4, Nat.zero_le _, rfl, rfl, HA4.out.2, (by have h := HA4.out.1; simp only [List.take_zero, List.map_nil, List.append_nil]; exact h), FZ.out⟩
        case round =>
          obtain ⟨k, s, hk, rfl, rfl, hss, HT, HE⟩ := hrel
          obtain ⟨x5, x6⟩ := HW5.out _ HE.out
          by_cases hlt : k < m.certs.length
          · obtain ⟨z, hzk⟩ : ∃ z, m.certs[k]? = some z := ⟨_, List.getElem?_eq_getElem hlt⟩
            obtain ⟨b1, off, rfl, hb, hN⟩ := HX5.out (by omega)
            have hz := HF.out.certs z (List.mem_of_getElem? hzk)
            have HE1 : Hid (∀ wx : World, Calls Tryd.prog 61 #[.int .i64 z.slot] wx fun e w' => e = .returned (.string (mkB (Lib.itoa z.slot))) ∧ Ext wx w') := fun wx => digits_any _ (by omega) (by omega) wx
            have HE2 : Hid (∀ wx : World, Calls Tryd.prog 61 #[.int .i64 z.view] wx fun e w' => e = .returned (.string (mkB (Lib.itoa z.view))) ∧ Ext wx w') := fun wx => digits_any _ (by omega) (by omega) wx
            have HE3 : Hid (∀ wx : World, Calls Tryd.prog 61 #[.int .i64 z.value] wx fun e w' => e = .returned (.string (mkB (Lib.itoa z.value))) ∧ Ext wx w') := fun wx => digits_any _ (by omega) (by omega) wx
            obtain ⟨C1, g1, t1, q1⟩ := add_run s ⟨#[32]⟩ (51 + 66 * k) 1 hss (by decide) (by omega)
            obtain ⟨C2, g2, t2, q2⟩ := add_run C1 (mkB (Lib.itoa z.slot)) (51 + 66 * k + 1) 21 (by omega) (itoa_size _ (by omega) (by omega)) (by omega)
            obtain ⟨C3, g3, t3, q3⟩ := add_run C2 ⟨#[46]⟩ (51 + 66 * k + 22) 1 (by omega) (by decide) (by omega)
            obtain ⟨C4, g4, t4, q4⟩ := add_run C3 (mkB (Lib.itoa z.view)) (51 + 66 * k + 23) 21 (by omega) (itoa_size _ (by omega) (by omega)) (by omega)
            obtain ⟨C5, g5, t5, q5⟩ := add_run C4 ⟨#[46]⟩ (51 + 66 * k + 44) 1 (by omega) (by decide) (by omega)
            obtain ⟨C6, g6, t6, q6⟩ := add_run C5 (mkB (Lib.itoa z.value)) (51 + 66 * k + 45) 21 (by omega) (itoa_size _ (by omega) (by omega)) (by omega)
            have HT6 : Hid (C6.data.toList = Lib.join (Msg.headW m ++ (m.certs.take (k + 1)).map Msg.certW) [32]) := by
              show _ = _
              rw [take_map hzk, join_snoc _ _ (by simp [Msg.headW]), g6, g5, g4, g3, g2, g1, HT.out, mkB_list, mkB_list, mkB_list]
              simp [Msg.certW, List.append_assoc]
            have hs6 : C6.size ≤ 51 + 66 * (k + 1) := by omega
            have HS7 : Hid (∀ wx : World, Ext w wx → (fun W' : World => W'.cell? ⟨b, o + 5, none⟩ = some (.slice (some ⟨b1, off, none⟩) m.certs.length c) ∧ W'.cell? ⟨b1, off + k * 3, none⟩ = some (.int .i64 z.slot) ∧ W'.cell? ⟨b1, off + k * 3 + 1, none⟩ = some (.int .i64 z.view) ∧ W'.cell? ⟨b1, off + k * 3 + 2, none⟩ = some (.int .i64 z.value)) wx) := fun wx he => by
              obtain ⟨d0, d1, d2⟩ := hN.ext hb he k z hzk
              exact ⟨(HW5.out _ he).1, d0, d1, d2⟩
            clear g1 g2 g3 g4 g5 g6 t1 t2 t3 t4 t5 t6 hz hzk hN hb
            generalize mkB (Lib.itoa z.slot) = n3 at *
            generalize mkB (Lib.itoa z.view) = n4 at *
            generalize mkB (Lib.itoa z.value) = n5 at *
            go_wp2
            refine wp_region_held_drew (S := (fun W' : World => W'.cell? ⟨b, o + 5, none⟩ = some (.slice (some ⟨b1, off, none⟩) m.certs.length c) ∧ W'.cell? ⟨b1, off + k * 3, none⟩ = some (.int .i64 z.slot) ∧ W'.cell? ⟨b1, off + k * 3 + 1, none⟩ = some (.int .i64 z.view) ∧ W'.cell? ⟨b1, off + k * 3 + 2, none⟩ = some (.int .i64 z.value))) (by kernel_rfl) (HS7.out _ (HE.out.drew)) (fun hHeld => ?_)
            refine tk 0 { dst := some 56, op := Op.move (.tmp 3), type := 9, pos := "l08_msg.go:188", after := #[], guard := none } ?_
            refine tk 1 { dst := some 57, op := Op.binOp BinOp.add 9 (.tmp 56) (Operand.const (Value.string { data := #[32] })) 9, type := 9, pos := "l08_msg.go:188", after := #[⟨0, .data⟩], guard := none } ?_
            refine tk 2 { dst := some 58, op := Op.move (.tmp 0), type := 50, pos := "l08_msg.go:188", after := #[], guard := none } ?_
            refine tk 3 { dst := some 59, op := Op.nilCheck (.tmp 58), type := 0, pos := "l08_msg.go:188", after := #[⟨2, .data⟩], guard := none } ?_
            refine tk 4 { dst := some 60, op := Op.fieldAddr 28 (.tmp 59) 5, type := 0, pos := "l08_msg.go:188", after := #[⟨3, .data⟩], guard := none } ?_
            refine tk 5 { dst := some 61, op := Op.load 25 (.tmp 60), type := 25, pos := "l08_msg.go:188", after := #[⟨4, .data⟩], guard := none } ?_
            refine tk 6 { dst := some 62, op := Op.move (.tmp 4), type := 3, pos := "l08_msg.go:188", after := #[], guard := none } ?_
            refine tk 7 { dst := some 63, op := Op.indexAddr 25 (.tmp 61) (.tmp 62), type := 0, pos := "l08_msg.go:188", after := #[⟨5, .data⟩, ⟨6, .data⟩], guard := none } ?_
            refine tk 8 { dst := some 64, op := Op.fieldAddr 76 (.tmp 63) 0, type := 0, pos := "l08_msg.go:188", after := #[⟨7, .data⟩], guard := none } ?_
            refine tk 9 { dst := some 65, op := Op.load 2 (.tmp 64), type := 2, pos := "l08_msg.go:188", after := #[⟨8, .data⟩], guard := none } ?_
            refine tk 13 { dst := some 69, op := Op.move (.tmp 0), type := 50, pos := "l08_msg.go:188", after := #[], guard := none } ?_
            refine tk 14 { dst := some 70, op := Op.nilCheck (.tmp 69), type := 0, pos := "l08_msg.go:188", after := #[⟨13, .data⟩], guard := none } ?_
            refine tk 15 { dst := some 71, op := Op.fieldAddr 28 (.tmp 70) 5, type := 0, pos := "l08_msg.go:188", after := #[⟨14, .data⟩], guard := none } ?_
            refine tk 16 { dst := some 72, op := Op.load 25 (.tmp 71), type := 25, pos := "l08_msg.go:188", after := #[⟨15, .data⟩], guard := none } ?_
            refine tk 17 { dst := some 73, op := Op.move (.tmp 4), type := 3, pos := "l08_msg.go:188", after := #[], guard := none } ?_
            refine tk 18 { dst := some 74, op := Op.indexAddr 25 (.tmp 72) (.tmp 73), type := 0, pos := "l08_msg.go:188", after := #[⟨16, .data⟩, ⟨17, .data⟩], guard := none } ?_
            refine tk 19 { dst := some 75, op := Op.fieldAddr 76 (.tmp 74) 1, type := 0, pos := "l08_msg.go:188", after := #[⟨18, .data⟩], guard := none } ?_
            refine tk 20 { dst := some 76, op := Op.load 2 (.tmp 75), type := 2, pos := "l08_msg.go:188", after := #[⟨19, .data⟩], guard := none } ?_
            refine tk 24 { dst := some 80, op := Op.move (.tmp 0), type := 50, pos := "l08_msg.go:188", after := #[], guard := none } ?_
            refine tk 25 { dst := some 81, op := Op.nilCheck (.tmp 80), type := 0, pos := "l08_msg.go:188", after := #[⟨24, .data⟩], guard := none } ?_
            refine tk 26 { dst := some 82, op := Op.fieldAddr 28 (.tmp 81) 5, type := 0, pos := "l08_msg.go:188", after := #[⟨25, .data⟩], guard := none } ?_
            refine tk 27 { dst := some 83, op := Op.load 25 (.tmp 82), type := 25, pos := "l08_msg.go:188", after := #[⟨26, .data⟩], guard := none } ?_
            refine tk 28 { dst := some 84, op := Op.move (.tmp 4), type := 3, pos := "l08_msg.go:188", after := #[], guard := none } ?_
            refine tk 29 { dst := some 85, op := Op.indexAddr 25 (.tmp 83) (.tmp 84), type := 0, pos := "l08_msg.go:188", after := #[⟨27, .data⟩, ⟨28, .data⟩], guard := none } ?_
            refine tk 30 { dst := some 86, op := Op.fieldAddr 76 (.tmp 85) 2, type := 0, pos := "l08_msg.go:188", after := #[⟨29, .data⟩], guard := none } ?_
            refine tk 31 { dst := some 87, op := Op.load 2 (.tmp 86), type := 2, pos := "l08_msg.go:188", after := #[⟨30, .data⟩], guard := none } ?_
            refine wpAnyH_ready (rs := [10]) (by kernel_rfl) (by simp) (AllReadyH.cons rfl (fun K hK => ?_) AllReadyH.nil)
            go_simp
            refine (HE1.out _).mono ?_
            rintro e x1 ⟨rfl, hb⟩
            have G1 : Hid (Ext w x1) := HE.out.drew.trans hb
            refine hK.out _ _ (HS7.out _ G1.out) (fun hHd1 => ?_)
            clear hK K hb
            refine tk 11 { dst := some 67, op := Op.binOp BinOp.add 9 (.tmp 57) (.tmp 66) 9, type := 9, pos := "l08_msg.go:188", after := #[⟨1, .data⟩, ⟨10, .data⟩], guard := none } ?_
            refine tk 12 { dst := some 68, op := Op.binOp BinOp.add 9 (.tmp 67) (Operand.const (Value.string { data := #[46] })) 9, type := 9, pos := "l08_msg.go:188", after := #[⟨11, .data⟩], guard := none } ?_
            refine wpAnyH_ready (rs := [21]) (by kernel_rfl) (by simp) (AllReadyH.cons rfl (fun K hK => ?_) AllReadyH.nil)
            go_simp
            refine (HE2.out _).mono ?_
            rintro e x2 ⟨rfl, hb⟩
            have G2 : Hid (Ext w x2) := G1.out.trans hb
            refine hK.out _ _ (HS7.out _ G2.out) (fun hHd2 => ?_)
            clear hK K hb
            refine tk 22 { dst := some 78, op := Op.binOp BinOp.add 9 (.tmp 68) (.tmp 77) 9, type := 9, pos := "l08_msg.go:188", after := #[⟨12, .data⟩, ⟨21, .data⟩], guard := none } ?_
            refine tk 23 { dst := some 79, op := Op.binOp BinOp.add 9 (.tmp 78) (Operand.const (Value.string { data := #[46] })) 9, type := 9, pos := "l08_msg.go:188", after := #[⟨22, .data⟩], guard := none } ?_
            refine wpAnyH_ready (rs := [32]) (by kernel_rfl) (by simp) (AllReadyH.cons rfl (fun K hK => ?_) AllReadyH.nil)
            go_simp
            refine (HE3.out _).mono ?_
            rintro e x3 ⟨rfl, hb⟩
            have G3 : Hid (Ext w x3) := G2.out.trans hb
            refine hK.out _ _ (HS7.out _ G3.out) (fun hHd3 => ?_)
            clear hK K hb
            refine tk 33 { dst := some 89, op := Op.binOp BinOp.add 9 (.tmp 79) (.tmp 88) 9, type := 9, pos := "l08_msg.go:188", after := #[⟨23, .data⟩, ⟨32, .data⟩], guard := none } ?_
            refine tk 34 { dst := some 3, op := Op.assign (.tmp 89), type := 9, pos := "l08_msg.go:188", after := #[⟨33, .data⟩, ⟨32, .chain⟩, ⟨0, .phase⟩, ⟨1, .phase⟩, ⟨2, .phase⟩, ⟨3, .phase⟩, ⟨4, .phase⟩, ⟨5, .phase⟩, ⟨6, .phase⟩, ⟨7, .phase⟩, ⟨8, .phase⟩, ⟨9, .phase⟩, ⟨10, .phase⟩, ⟨11, .phase⟩, ⟨12, .phase⟩, ⟨13, .phase⟩, ⟨14, .phase⟩, ⟨15, .phase⟩, ⟨16, .phase⟩, ⟨17, .phase⟩, ⟨18, .phase⟩, ⟨19, .phase⟩, ⟨20, .phase⟩, ⟨21, .phase⟩, ⟨22, .phase⟩, ⟨23, .phase⟩, ⟨24, .phase⟩, ⟨25, .phase⟩, ⟨26, .phase⟩, ⟨27, .phase⟩, ⟨28, .phase⟩, ⟨29, .phase⟩, ⟨30, .phase⟩, ⟨31, .phase⟩, ⟨32, .phase⟩, ⟨33, .phase⟩], guard := none } ?_
            refine wpAnyH_done (by kernel_rfl) ?_ _
            go_wp2
            exact ⟨⟨k + 1, C6, by omega, by go_num, rfl, hs6, HT6.out, G3.out⟩, by simp [intOf]; omega⟩
          · have hke : k = m.certs.length := by omega
            have HT2 : Hid (s.data.toList = Lib.join (Msg.headW m ++ m.certs.map Msg.certW) [32] ∧ s.size ≤ 2100) := by
              refine ⟨?_, by omega⟩
              have h := HT.out
              rw [hke, List.take_length] at h
              exact h
            have HE2 : Hid (Ext w wr) := HE
            clear hke HT HE hss
            go_wp2
            clear x5 x6 HX5
            generalize hwr : wr = w7 at *
            clear hwr
            go_loopw [3, 5] (fun sv i wr => ∃ (k : Nat) (t : ByteArray), k ≤ m.refs.length ∧ i = .int .i64 k ∧ sv = .string t ∧ t.size ≤ 2100 + 22 * k ∧ Hid (t.data.toList = Lib.join ((Msg.headW m ++ m.certs.map Msg.certW) ++ (m.refs.take k).map Lib.itoa) [32]) ∧ Hid (Ext w wr)) (fun _ i _ => m.refs.length - (intOf i).toNat)
            case atStart => exact ⟨0, s, Nat.zero_le _, rfl, rfl, HT2.out.2, (by have h := HT2.out.1; simp only [List.take_zero, List.map_nil, List.append_nil]; exact h), HE2.out⟩
            case round =>
              obtain ⟨k, t, hk, rfl, rfl, hss, HT, HE⟩ := hrel
              obtain ⟨x5, x6⟩ := HW5.out _ HE.out
              by_cases hlt : k < m.refs.length
              · obtain ⟨z, hzk⟩ : ∃ z, m.refs[k]? = some z := ⟨_, List.getElem?_eq_getElem hlt⟩
                obtain ⟨b1, off, rfl, hb, hN⟩ := HX6.out (by omega)
                have hz := HF.out.refs z (List.mem_of_getElem? hzk)
                have HE1 : Hid (∀ wx : World, Calls Tryd.prog 61 #[.int .i64 z] wx fun e w' => e = .returned (.string (mkB (Lib.itoa z))) ∧ Ext wx w') := fun wx => digits_any _ (by omega) (by omega) wx
                obtain ⟨C1, g1, t1, q1⟩ := add_run t ⟨#[32]⟩ (2100 + 22 * k) 1 hss (by decide) (by omega)
                obtain ⟨C2, g2, t2, q2⟩ := add_run C1 (mkB (Lib.itoa z)) (2100 + 22 * k + 1) 21 (by omega) (itoa_size _ (by omega) (by omega)) (by omega)
                have HT6 : Hid (C2.data.toList = Lib.join ((Msg.headW m ++ m.certs.map Msg.certW) ++ (m.refs.take (k + 1)).map Lib.itoa) [32]) := by
                  show _ = _
                  rw [take_map hzk, join_snoc _ _ (by simp [Msg.headW]), g2, g1, HT.out, mkB_list]
                have hs6 : C2.size ≤ 2100 + 22 * (k + 1) := by omega
                have d0 := hN.ext hb HE.out k z hzk
                clear g1 g2 t1 t2 hz hzk hN hb
                generalize mkB (Lib.itoa z) = n3 at *
                go_wp2_with fail
                refine (HE1.out _).mono ?_
                rintro e x1 ⟨rfl, hb⟩
                have G1 : Hid (Ext w x1) := HE.out.trans hb
                clear hb d0 x5 x6
                go_wp2
                exact ⟨⟨k + 1, C2, by omega, by go_num, rfl, hs6, HT6.out, G1.out⟩, by simp [intOf]; omega⟩
              · have hke : k = m.refs.length := by omega
                have eT : t = mkB (Lib.join (Msg.msgW m) [32]) := by
                  apply ba_eq
                  have h := HT.out
                  rw [hke, List.take_length] at h
                  rw [mkB_list, h]
                  unfold Msg.msgW
                  rw [← HB.out]
                have HTt : Hid (t = mkB (Lib.join (Msg.msgW m) [32])) := eT
                clear hke HT eT
                go_wp2
                go_ret
                exact ⟨congrArg (fun s => Ending.returned (.string s)) HTt.out, HE.out⟩
      · clear rw6
        go_simp
        refine (HD2.out _).mono ?_
        rintro e y14 ⟨rfl, hb⟩
        have F14 : Hid (Ext w y14) := F11.out.trans hb
        have X14 : Hid (Ext (y2.alloc (.cells #[.string ⟨#[]⟩, .string ⟨#[112, 114, 111, 112, 111, 115, 101]⟩, .string ⟨#[112, 114, 101, 112, 97, 114, 101]⟩, .string ⟨#[99, 111, 109, 109, 105, 116]⟩, .string ⟨#[99, 104, 97, 110, 103, 101]⟩, .string ⟨#[110, 101, 119]⟩] 9)) y14) := X11.out.trans hb
        refine hK.out _ _ (HS.out _ F14.out) (fun hHeld14 => ?_)
        clear hK K hb
        have rw6 := row6 X14.out
        refine wpAnyH_ready (rs := [6]) (by kernel_rfl) (by simp) (AllReadyH.cons rfl (fun K hK => ?_) AllReadyH.nil)
        have zz : y14.cell? ⟨y2.heap.size, 4, none⟩ = some (.string ⟨#[99, 104, 97, 110, 103, 101]⟩) := rw6.2.2.2.1
        clear rw6
        go_simp
        refine hK.out _ _ (HS.out _ F14.out) (fun hHeld16 => ?_)
        clear hK K zz
        refine tk 7 { dst := some 13, op := Op.binOp BinOp.add 9 (.tmp 12) (Operand.const (Value.string { data := #[32] })) 9, type := 9, pos := "l08_msg.go:183", after := #[⟨6, .data⟩], guard := none } ?_
        refine tk 13 { dst := some 19, op := Op.binOp BinOp.add 9 (.tmp 13) (.tmp 18) 9, type := 9, pos := "l08_msg.go:183", after := #[⟨7, .data⟩, ⟨12, .data⟩], guard := none } ?_
        refine tk 14 { dst := some 20, op := Op.binOp BinOp.add 9 (.tmp 19) (Operand.const (Value.string { data := #[32] })) 9, type := 9, pos := "l08_msg.go:183", after := #[⟨13, .data⟩], guard := none } ?_
        refine tk 20 { dst := some 26, op := Op.binOp BinOp.add 9 (.tmp 20) (.tmp 25) 9, type := 9, pos := "l08_msg.go:183", after := #[⟨14, .data⟩, ⟨19, .data⟩], guard := none } ?_
        refine tk 21 { dst := some 3, op := Op.assign (.tmp 26), type := 9, pos := "l08_msg.go:183", after := #[⟨20, .data⟩, ⟨19, .chain⟩, ⟨0, .phase⟩, ⟨1, .phase⟩, ⟨2, .phase⟩, ⟨3, .phase⟩, ⟨4, .phase⟩, ⟨5, .phase⟩, ⟨6, .phase⟩, ⟨7, .phase⟩, ⟨8, .phase⟩, ⟨9, .phase⟩, ⟨10, .phase⟩, ⟨11, .phase⟩, ⟨12, .phase⟩, ⟨13, .phase⟩, ⟨14, .phase⟩, ⟨15, .phase⟩, ⟨16, .phase⟩, ⟨17, .phase⟩, ⟨18, .phase⟩, ⟨19, .phase⟩, ⟨20, .phase⟩], guard := none } ?_
        refine wpAnyH_done (by kernel_rfl) ?_ _
        have FZ : Hid (Ext w y14) := F14.out
        generalize y14 = WZ at *
        obtain ⟨p0, p1, p2, p3, p4⟩ := HS.out _ FZ.out
        obtain ⟨a, c, a', c', hva, hua, hc1, hc2, hc3, hc4⟩ := HSl.out.form
        subst hva hua
        unfold maxLen at hc2 hc4
        have HX5 : Hid (0 < m.certs.length → ∃ b off, a = some ⟨b, off, none⟩ ∧ b < w.heap.size ∧ CtsAt w b off m.certs) := by
          obtain ⟨⟨a0, c0, h1, -, -, h4⟩, -⟩ := HSl.out
          injection h1 with h1 _ _; subst h1; exact h4
        have HX6 : Hid (0 < m.refs.length → ∃ b off, a' = some ⟨b, off, none⟩ ∧ b < w.heap.size ∧ NumsAt w b off m.refs) := by
          obtain ⟨-, ⟨a0, c0, h1, -, -, h4⟩⟩ := HSl.out
          injection h1 with h1 _ _; subst h1; exact h4
        have HW5 : Hid (∀ wx : World, Ext w wx → wx.cell? ⟨b, o + 5, none⟩ = some (.slice a m.certs.length c) ∧ wx.cell? ⟨b, o + 6, none⟩ = some (.slice a' m.refs.length c')) := fun wx he => by
          obtain ⟨-, -, -, -, -, x5, x6⟩ := HM.out.ext hb1 he
          exact ⟨x5, x6⟩
        have hmn := HF.out.many
        have HB : Hid (Msg.headW m = Msg.headW m ++ Msg.slotW m) := by
          show _ = _
          rw [Msg.slotW_no (by have := HKK.out; omega), List.append_nil]
        clear HSl HM
        go_wp2
        clear p0 p1 p2 p3 p4
        go_loopw [3, 4] (fun sv i wr => ∃ (k : Nat) (s : ByteArray), k ≤ m.certs.length ∧ i = .int .i64 k ∧ sv = .string s ∧ s.size ≤ 51 + 66 * k ∧ Hid (s.data.toList = Lib.join (Msg.headW m ++ (m.certs.take k).map Msg.certW) [32]) ∧ Hid (Ext w wr)) (fun _ i _ => m.certs.length - (intOf i).toNat)
        case atStart => exact ⟨0, A4, Nat.zero_le _, rfl, rfl, HA4.out.2, (by have h := HA4.out.1; simp only [List.take_zero, List.map_nil, List.append_nil]; exact h), FZ.out⟩
        case round =>
          obtain ⟨k, s, hk, rfl, rfl, hss, HT, HE⟩ := hrel
          obtain ⟨x5, x6⟩ := HW5.out _ HE.out
          by_cases hlt : k < m.certs.length
          · obtain ⟨z, hzk⟩ : ∃ z, m.certs[k]? = some z := ⟨_, List.getElem?_eq_getElem hlt⟩
            obtain ⟨b1, off, rfl, hb, hN⟩ := HX5.out (by omega)
            have hz := HF.out.certs z (List.mem_of_getElem? hzk)
            have HE1 : Hid (∀ wx : World, Calls Tryd.prog 61 #[.int .i64 z.slot] wx fun e w' => e = .returned (.string (mkB (Lib.itoa z.slot))) ∧ Ext wx w') := fun wx => digits_any _ (by omega) (by omega) wx
            have HE2 : Hid (∀ wx : World, Calls Tryd.prog 61 #[.int .i64 z.view] wx fun e w' => e = .returned (.string (mkB (Lib.itoa z.view))) ∧ Ext wx w') := fun wx => digits_any _ (by omega) (by omega) wx
            have HE3 : Hid (∀ wx : World, Calls Tryd.prog 61 #[.int .i64 z.value] wx fun e w' => e = .returned (.string (mkB (Lib.itoa z.value))) ∧ Ext wx w') := fun wx => digits_any _ (by omega) (by omega) wx
            obtain ⟨C1, g1, t1, q1⟩ := add_run s ⟨#[32]⟩ (51 + 66 * k) 1 hss (by decide) (by omega)
            obtain ⟨C2, g2, t2, q2⟩ := add_run C1 (mkB (Lib.itoa z.slot)) (51 + 66 * k + 1) 21 (by omega) (itoa_size _ (by omega) (by omega)) (by omega)
            obtain ⟨C3, g3, t3, q3⟩ := add_run C2 ⟨#[46]⟩ (51 + 66 * k + 22) 1 (by omega) (by decide) (by omega)
            obtain ⟨C4, g4, t4, q4⟩ := add_run C3 (mkB (Lib.itoa z.view)) (51 + 66 * k + 23) 21 (by omega) (itoa_size _ (by omega) (by omega)) (by omega)
            obtain ⟨C5, g5, t5, q5⟩ := add_run C4 ⟨#[46]⟩ (51 + 66 * k + 44) 1 (by omega) (by decide) (by omega)
            obtain ⟨C6, g6, t6, q6⟩ := add_run C5 (mkB (Lib.itoa z.value)) (51 + 66 * k + 45) 21 (by omega) (itoa_size _ (by omega) (by omega)) (by omega)
            have HT6 : Hid (C6.data.toList = Lib.join (Msg.headW m ++ (m.certs.take (k + 1)).map Msg.certW) [32]) := by
              show _ = _
              rw [take_map hzk, join_snoc _ _ (by simp [Msg.headW]), g6, g5, g4, g3, g2, g1, HT.out, mkB_list, mkB_list, mkB_list]
              simp [Msg.certW, List.append_assoc]
            have hs6 : C6.size ≤ 51 + 66 * (k + 1) := by omega
            have HS7 : Hid (∀ wx : World, Ext w wx → (fun W' : World => W'.cell? ⟨b, o + 5, none⟩ = some (.slice (some ⟨b1, off, none⟩) m.certs.length c) ∧ W'.cell? ⟨b1, off + k * 3, none⟩ = some (.int .i64 z.slot) ∧ W'.cell? ⟨b1, off + k * 3 + 1, none⟩ = some (.int .i64 z.view) ∧ W'.cell? ⟨b1, off + k * 3 + 2, none⟩ = some (.int .i64 z.value)) wx) := fun wx he => by
              obtain ⟨d0, d1, d2⟩ := hN.ext hb he k z hzk
              exact ⟨(HW5.out _ he).1, d0, d1, d2⟩
            clear g1 g2 g3 g4 g5 g6 t1 t2 t3 t4 t5 t6 hz hzk hN hb
            generalize mkB (Lib.itoa z.slot) = n3 at *
            generalize mkB (Lib.itoa z.view) = n4 at *
            generalize mkB (Lib.itoa z.value) = n5 at *
            go_wp2
            refine wp_region_held_drew (S := (fun W' : World => W'.cell? ⟨b, o + 5, none⟩ = some (.slice (some ⟨b1, off, none⟩) m.certs.length c) ∧ W'.cell? ⟨b1, off + k * 3, none⟩ = some (.int .i64 z.slot) ∧ W'.cell? ⟨b1, off + k * 3 + 1, none⟩ = some (.int .i64 z.view) ∧ W'.cell? ⟨b1, off + k * 3 + 2, none⟩ = some (.int .i64 z.value))) (by kernel_rfl) (HS7.out _ (HE.out.drew)) (fun hHeld => ?_)
            refine tk 0 { dst := some 56, op := Op.move (.tmp 3), type := 9, pos := "l08_msg.go:188", after := #[], guard := none } ?_
            refine tk 1 { dst := some 57, op := Op.binOp BinOp.add 9 (.tmp 56) (Operand.const (Value.string { data := #[32] })) 9, type := 9, pos := "l08_msg.go:188", after := #[⟨0, .data⟩], guard := none } ?_
            refine tk 2 { dst := some 58, op := Op.move (.tmp 0), type := 50, pos := "l08_msg.go:188", after := #[], guard := none } ?_
            refine tk 3 { dst := some 59, op := Op.nilCheck (.tmp 58), type := 0, pos := "l08_msg.go:188", after := #[⟨2, .data⟩], guard := none } ?_
            refine tk 4 { dst := some 60, op := Op.fieldAddr 28 (.tmp 59) 5, type := 0, pos := "l08_msg.go:188", after := #[⟨3, .data⟩], guard := none } ?_
            refine tk 5 { dst := some 61, op := Op.load 25 (.tmp 60), type := 25, pos := "l08_msg.go:188", after := #[⟨4, .data⟩], guard := none } ?_
            refine tk 6 { dst := some 62, op := Op.move (.tmp 4), type := 3, pos := "l08_msg.go:188", after := #[], guard := none } ?_
            refine tk 7 { dst := some 63, op := Op.indexAddr 25 (.tmp 61) (.tmp 62), type := 0, pos := "l08_msg.go:188", after := #[⟨5, .data⟩, ⟨6, .data⟩], guard := none } ?_
            refine tk 8 { dst := some 64, op := Op.fieldAddr 76 (.tmp 63) 0, type := 0, pos := "l08_msg.go:188", after := #[⟨7, .data⟩], guard := none } ?_
            refine tk 9 { dst := some 65, op := Op.load 2 (.tmp 64), type := 2, pos := "l08_msg.go:188", after := #[⟨8, .data⟩], guard := none } ?_
            refine tk 13 { dst := some 69, op := Op.move (.tmp 0), type := 50, pos := "l08_msg.go:188", after := #[], guard := none } ?_
            refine tk 14 { dst := some 70, op := Op.nilCheck (.tmp 69), type := 0, pos := "l08_msg.go:188", after := #[⟨13, .data⟩], guard := none } ?_
            refine tk 15 { dst := some 71, op := Op.fieldAddr 28 (.tmp 70) 5, type := 0, pos := "l08_msg.go:188", after := #[⟨14, .data⟩], guard := none } ?_
            refine tk 16 { dst := some 72, op := Op.load 25 (.tmp 71), type := 25, pos := "l08_msg.go:188", after := #[⟨15, .data⟩], guard := none } ?_
            refine tk 17 { dst := some 73, op := Op.move (.tmp 4), type := 3, pos := "l08_msg.go:188", after := #[], guard := none } ?_
            refine tk 18 { dst := some 74, op := Op.indexAddr 25 (.tmp 72) (.tmp 73), type := 0, pos := "l08_msg.go:188", after := #[⟨16, .data⟩, ⟨17, .data⟩], guard := none } ?_
            refine tk 19 { dst := some 75, op := Op.fieldAddr 76 (.tmp 74) 1, type := 0, pos := "l08_msg.go:188", after := #[⟨18, .data⟩], guard := none } ?_
            refine tk 20 { dst := some 76, op := Op.load 2 (.tmp 75), type := 2, pos := "l08_msg.go:188", after := #[⟨19, .data⟩], guard := none } ?_
            refine tk 24 { dst := some 80, op := Op.move (.tmp 0), type := 50, pos := "l08_msg.go:188", after := #[], guard := none } ?_
            refine tk 25 { dst := some 81, op := Op.nilCheck (.tmp 80), type := 0, pos := "l08_msg.go:188", after := #[⟨24, .data⟩], guard := none } ?_
            refine tk 26 { dst := some 82, op := Op.fieldAddr 28 (.tmp 81) 5, type := 0, pos := "l08_msg.go:188", after := #[⟨25, .data⟩], guard := none } ?_
            refine tk 27 { dst := some 83, op := Op.load 25 (.tmp 82), type := 25, pos := "l08_msg.go:188", after := #[⟨26, .data⟩], guard := none } ?_
            refine tk 28 { dst := some 84, op := Op.move (.tmp 4), type := 3, pos := "l08_msg.go:188", after := #[], guard := none } ?_
            refine tk 29 { dst := some 85, op := Op.indexAddr 25 (.tmp 83) (.tmp 84), type := 0, pos := "l08_msg.go:188", after := #[⟨27, .data⟩, ⟨28, .data⟩], guard := none } ?_
            refine tk 30 { dst := some 86, op := Op.fieldAddr 76 (.tmp 85) 2, type := 0, pos := "l08_msg.go:188", after := #[⟨29, .data⟩], guard := none } ?_
            refine tk 31 { dst := some 87, op := Op.load 2 (.tmp 86), type := 2, pos := "l08_msg.go:188", after := #[⟨30, .data⟩], guard := none } ?_
            refine wpAnyH_ready (rs := [10]) (by kernel_rfl) (by simp) (AllReadyH.cons rfl (fun K hK => ?_) AllReadyH.nil)
            go_simp
            refine (HE1.out _).mono ?_
            rintro e x1 ⟨rfl, hb⟩
            have G1 : Hid (Ext w x1) := HE.out.drew.trans hb
            refine hK.out _ _ (HS7.out _ G1.out) (fun hHd1 => ?_)
            clear hK K hb
            refine tk 11 { dst := some 67, op := Op.binOp BinOp.add 9 (.tmp 57) (.tmp 66) 9, type := 9, pos := "l08_msg.go:188", after := #[⟨1, .data⟩, ⟨10, .data⟩], guard := none } ?_
            refine tk 12 { dst := some 68, op := Op.binOp BinOp.add 9 (.tmp 67) (Operand.const (Value.string { data := #[46] })) 9, type := 9, pos := "l08_msg.go:188", after := #[⟨11, .data⟩], guard := none } ?_
            refine wpAnyH_ready (rs := [21]) (by kernel_rfl) (by simp) (AllReadyH.cons rfl (fun K hK => ?_) AllReadyH.nil)
            go_simp
            refine (HE2.out _).mono ?_
            rintro e x2 ⟨rfl, hb⟩
            have G2 : Hid (Ext w x2) := G1.out.trans hb
            refine hK.out _ _ (HS7.out _ G2.out) (fun hHd2 => ?_)
            clear hK K hb
            refine tk 22 { dst := some 78, op := Op.binOp BinOp.add 9 (.tmp 68) (.tmp 77) 9, type := 9, pos := "l08_msg.go:188", after := #[⟨12, .data⟩, ⟨21, .data⟩], guard := none } ?_
            refine tk 23 { dst := some 79, op := Op.binOp BinOp.add 9 (.tmp 78) (Operand.const (Value.string { data := #[46] })) 9, type := 9, pos := "l08_msg.go:188", after := #[⟨22, .data⟩], guard := none } ?_
            refine wpAnyH_ready (rs := [32]) (by kernel_rfl) (by simp) (AllReadyH.cons rfl (fun K hK => ?_) AllReadyH.nil)
            go_simp
            refine (HE3.out _).mono ?_
            rintro e x3 ⟨rfl, hb⟩
            have G3 : Hid (Ext w x3) := G2.out.trans hb
            refine hK.out _ _ (HS7.out _ G3.out) (fun hHd3 => ?_)
            clear hK K hb
            refine tk 33 { dst := some 89, op := Op.binOp BinOp.add 9 (.tmp 79) (.tmp 88) 9, type := 9, pos := "l08_msg.go:188", after := #[⟨23, .data⟩, ⟨32, .data⟩], guard := none } ?_
            refine tk 34 { dst := some 3, op := Op.assign (.tmp 89), type := 9, pos := "l08_msg.go:188", after := #[⟨33, .data⟩, ⟨32, .chain⟩, ⟨0, .phase⟩, ⟨1, .phase⟩, ⟨2, .phase⟩, ⟨3, .phase⟩, ⟨4, .phase⟩, ⟨5, .phase⟩, ⟨6, .phase⟩, ⟨7, .phase⟩, ⟨8, .phase⟩, ⟨9, .phase⟩, ⟨10, .phase⟩, ⟨11, .phase⟩, ⟨12, .phase⟩, ⟨13, .phase⟩, ⟨14, .phase⟩, ⟨15, .phase⟩, ⟨16, .phase⟩, ⟨17, .phase⟩, ⟨18, .phase⟩, ⟨19, .phase⟩, ⟨20, .phase⟩, ⟨21, .phase⟩, ⟨22, .phase⟩, ⟨23, .phase⟩, ⟨24, .phase⟩, ⟨25, .phase⟩, ⟨26, .phase⟩, ⟨27, .phase⟩, ⟨28, .phase⟩, ⟨29, .phase⟩, ⟨30, .phase⟩, ⟨31, .phase⟩, ⟨32, .phase⟩, ⟨33, .phase⟩], guard := none } ?_
            refine wpAnyH_done (by kernel_rfl) ?_ _
            go_wp2
            exact ⟨⟨k + 1, C6, by omega, by go_num, rfl, hs6, HT6.out, G3.out⟩, by simp [intOf]; omega⟩
          · have hke : k = m.certs.length := by omega
            have HT2 : Hid (s.data.toList = Lib.join (Msg.headW m ++ m.certs.map Msg.certW) [32] ∧ s.size ≤ 2100) := by
              refine ⟨?_, by omega⟩
              have h := HT.out
              rw [hke, List.take_length] at h
              exact h
            have HE2 : Hid (Ext w wr) := HE
            clear hke HT HE hss
            go_wp2
            clear x5 x6 HX5
            generalize hwr : wr = w7 at *
            clear hwr
            go_loopw [3, 5] (fun sv i wr => ∃ (k : Nat) (t : ByteArray), k ≤ m.refs.length ∧ i = .int .i64 k ∧ sv = .string t ∧ t.size ≤ 2100 + 22 * k ∧ Hid (t.data.toList = Lib.join ((Msg.headW m ++ m.certs.map Msg.certW) ++ (m.refs.take k).map Lib.itoa) [32]) ∧ Hid (Ext w wr)) (fun _ i _ => m.refs.length - (intOf i).toNat)
            case atStart => exact ⟨0, s, Nat.zero_le _, rfl, rfl, HT2.out.2, (by have h := HT2.out.1; simp only [List.take_zero, List.map_nil, List.append_nil]; exact h), HE2.out⟩
            case round =>
              obtain ⟨k, t, hk, rfl, rfl, hss, HT, HE⟩ := hrel
              obtain ⟨x5, x6⟩ := HW5.out _ HE.out
              by_cases hlt : k < m.refs.length
              · obtain ⟨z, hzk⟩ : ∃ z, m.refs[k]? = some z := ⟨_, List.getElem?_eq_getElem hlt⟩
                obtain ⟨b1, off, rfl, hb, hN⟩ := HX6.out (by omega)
                have hz := HF.out.refs z (List.mem_of_getElem? hzk)
                have HE1 : Hid (∀ wx : World, Calls Tryd.prog 61 #[.int .i64 z] wx fun e w' => e = .returned (.string (mkB (Lib.itoa z))) ∧ Ext wx w') := fun wx => digits_any _ (by omega) (by omega) wx
                obtain ⟨C1, g1, t1, q1⟩ := add_run t ⟨#[32]⟩ (2100 + 22 * k) 1 hss (by decide) (by omega)
                obtain ⟨C2, g2, t2, q2⟩ := add_run C1 (mkB (Lib.itoa z)) (2100 + 22 * k + 1) 21 (by omega) (itoa_size _ (by omega) (by omega)) (by omega)
                have HT6 : Hid (C2.data.toList = Lib.join ((Msg.headW m ++ m.certs.map Msg.certW) ++ (m.refs.take (k + 1)).map Lib.itoa) [32]) := by
                  show _ = _
                  rw [take_map hzk, join_snoc _ _ (by simp [Msg.headW]), g2, g1, HT.out, mkB_list]
                have hs6 : C2.size ≤ 2100 + 22 * (k + 1) := by omega
                have d0 := hN.ext hb HE.out k z hzk
                clear g1 g2 t1 t2 hz hzk hN hb
                generalize mkB (Lib.itoa z) = n3 at *
                go_wp2_with fail
                refine (HE1.out _).mono ?_
                rintro e x1 ⟨rfl, hb⟩
                have G1 : Hid (Ext w x1) := HE.out.trans hb
                clear hb d0 x5 x6
                go_wp2
                exact ⟨⟨k + 1, C2, by omega, by go_num, rfl, hs6, HT6.out, G1.out⟩, by simp [intOf]; omega⟩
              · have hke : k = m.refs.length := by omega
                have eT : t = mkB (Lib.join (Msg.msgW m) [32]) := by
                  apply ba_eq
                  have h := HT.out
                  rw [hke, List.take_length] at h
                  rw [mkB_list, h]
                  unfold Msg.msgW
                  rw [← HB.out]
                have HTt : Hid (t = mkB (Lib.join (Msg.msgW m) [32])) := eT
                clear hke HT eT
                go_wp2
                go_ret
                exact ⟨congrArg (fun s => Ending.returned (.string s)) HTt.out, HE.out⟩
    · go_simp
      refine (HD2.out _).mono ?_
      rintro e y12 ⟨rfl, hb⟩
      have F12 : Hid (Ext w y12) := F2.out.trans hb
      refine hK.out _ _ (HS.out _ F12.out) (fun hHeld12 => ?_)
      clear hK K hb
      refine wpAnyH_ready (rs := [0]) (by kernel_rfl) (by simp) (AllReadyH.cons rfl (fun K hK => ?_) AllReadyH.nil)
      go_simp
      have F17 : Hid (Ext w (y12.alloc (.cells #[.string ⟨#[]⟩, .string ⟨#[112, 114, 111, 112, 111, 115, 101]⟩, .string ⟨#[112, 114, 101, 112, 97, 114, 101]⟩, .string ⟨#[99, 111, 109, 109, 105, 116]⟩, .string ⟨#[99, 104, 97, 110, 103, 101]⟩, .string ⟨#[110, 101, 119]⟩] 9))) := F12.out.alloc _
      have X17 : Hid (Ext (y12.alloc (.cells #[.string ⟨#[]⟩, .string ⟨#[112, 114, 111, 112, 111, 115, 101]⟩, .string ⟨#[112, 114, 101, 112, 97, 114, 101]⟩, .string ⟨#[99, 111, 109, 109, 105, 116]⟩, .string ⟨#[99, 104, 97, 110, 103, 101]⟩, .string ⟨#[110, 101, 119]⟩] 9)) (y12.alloc (.cells #[.string ⟨#[]⟩, .string ⟨#[112, 114, 111, 112, 111, 115, 101]⟩, .string ⟨#[112, 114, 101, 112, 97, 114, 101]⟩, .string ⟨#[99, 111, 109, 109, 105, 116]⟩, .string ⟨#[99, 104, 97, 110, 103, 101]⟩, .string ⟨#[110, 101, 119]⟩] 9))) := Ext.refl _
      refine hK.out _ _ (HS.out _ F17.out) (fun hHeld17 => ?_)
      clear hK K
      refine tk 5 { dst := some 11, op := Op.indexAddr 60 (.tmp 6) (.tmp 10), type := 0, pos := "l08_msg.go:183", after := #[⟨0, .data⟩, ⟨4, .data⟩], guard := none } ?_
      have rw6 := row6 X17.out
      refine wpAnyH_ready (rs := [6]) (by kernel_rfl) (by simp) (AllReadyH.cons rfl (fun K hK => ?_) AllReadyH.nil)
      have zz : (y12.alloc (.cells #[.string ⟨#[]⟩, .string ⟨#[112, 114, 111, 112, 111, 115, 101]⟩, .string ⟨#[112, 114, 101, 112, 97, 114, 101]⟩, .string ⟨#[99, 111, 109, 109, 105, 116]⟩, .string ⟨#[99, 104, 97, 110, 103, 101]⟩, .string ⟨#[110, 101, 119]⟩] 9)).cell? ⟨y12.heap.size, 4, none⟩ = some (.string ⟨#[99, 104, 97, 110, 103, 101]⟩) := rw6.2.2.2.1
      clear rw6
      go_simp
      refine hK.out _ _ (HS.out _ F17.out) (fun hHeld18 => ?_)
      clear hK K zz
      refine tk 7 { dst := some 13, op := Op.binOp BinOp.add 9 (.tmp 12) (Operand.const (Value.string { data := #[32] })) 9, type := 9, pos := "l08_msg.go:183", after := #[⟨6, .data⟩], guard := none } ?_
      refine tk 13 { dst := some 19, op := Op.binOp BinOp.add 9 (.tmp 13) (.tmp 18) 9, type := 9, pos := "l08_msg.go:183", after := #[⟨7, .data⟩, ⟨12, .data⟩], guard := none } ?_
      refine tk 14 { dst := some 20, op := Op.binOp BinOp.add 9 (.tmp 19) (Operand.const (Value.string { data := #[32] })) 9, type := 9, pos := "l08_msg.go:183", after := #[⟨13, .data⟩], guard := none } ?_
      refine tk 20 { dst := some 26, op := Op.binOp BinOp.add 9 (.tmp 20) (.tmp 25) 9, type := 9, pos := "l08_msg.go:183", after := #[⟨14, .data⟩, ⟨19, .data⟩], guard := none } ?_
      refine tk 21 { dst := some 3, op := Op.assign (.tmp 26), type := 9, pos := "l08_msg.go:183", after := #[⟨20, .data⟩, ⟨19, .chain⟩, ⟨0, .phase⟩, ⟨1, .phase⟩, ⟨2, .phase⟩, ⟨3, .phase⟩, ⟨4, .phase⟩, ⟨5, .phase⟩, ⟨6, .phase⟩, ⟨7, .phase⟩, ⟨8, .phase⟩, ⟨9, .phase⟩, ⟨10, .phase⟩, ⟨11, .phase⟩, ⟨12, .phase⟩, ⟨13, .phase⟩, ⟨14, .phase⟩, ⟨15, .phase⟩, ⟨16, .phase⟩, ⟨17, .phase⟩, ⟨18, .phase⟩, ⟨19, .phase⟩, ⟨20, .phase⟩], guard := none } ?_
      refine wpAnyH_done (by kernel_rfl) ?_ _
      have FZ : Hid (Ext w (y12.alloc (.cells #[.string ⟨#[]⟩, .string ⟨#[112, 114, 111, 112, 111, 115, 101]⟩, .string ⟨#[112, 114, 101, 112, 97, 114, 101]⟩, .string ⟨#[99, 111, 109, 109, 105, 116]⟩, .string ⟨#[99, 104, 97, 110, 103, 101]⟩, .string ⟨#[110, 101, 119]⟩] 9))) := F17.out
      generalize (y12.alloc (.cells #[.string ⟨#[]⟩, .string ⟨#[112, 114, 111, 112, 111, 115, 101]⟩, .string ⟨#[112, 114, 101, 112, 97, 114, 101]⟩, .string ⟨#[99, 111, 109, 109, 105, 116]⟩, .string ⟨#[99, 104, 97, 110, 103, 101]⟩, .string ⟨#[110, 101, 119]⟩] 9)) = WZ at *
      obtain ⟨p0, p1, p2, p3, p4⟩ := HS.out _ FZ.out
      obtain ⟨a, c, a', c', hva, hua, hc1, hc2, hc3, hc4⟩ := HSl.out.form
      subst hva hua
      unfold maxLen at hc2 hc4
      have HX5 : Hid (0 < m.certs.length → ∃ b off, a = some ⟨b, off, none⟩ ∧ b < w.heap.size ∧ CtsAt w b off m.certs) := by
        obtain ⟨⟨a0, c0, h1, -, -, h4⟩, -⟩ := HSl.out
        injection h1 with h1 _ _; subst h1; exact h4
      have HX6 : Hid (0 < m.refs.length → ∃ b off, a' = some ⟨b, off, none⟩ ∧ b < w.heap.size ∧ NumsAt w b off m.refs) := by
        obtain ⟨-, ⟨a0, c0, h1, -, -, h4⟩⟩ := HSl.out
        injection h1 with h1 _ _; subst h1; exact h4
      have HW5 : Hid (∀ wx : World, Ext w wx → wx.cell? ⟨b, o + 5, none⟩ = some (.slice a m.certs.length c) ∧ wx.cell? ⟨b, o + 6, none⟩ = some (.slice a' m.refs.length c')) := fun wx he => by
        obtain ⟨-, -, -, -, -, x5, x6⟩ := HM.out.ext hb1 he
        exact ⟨x5, x6⟩
      have hmn := HF.out.many
      have HB : Hid (Msg.headW m = Msg.headW m ++ Msg.slotW m) := by
        show _ = _
        rw [Msg.slotW_no (by have := HKK.out; omega), List.append_nil]
      clear HSl HM
      go_wp2
      clear p0 p1 p2 p3 p4
      go_loopw [3, 4] (fun sv i wr => ∃ (k : Nat) (s : ByteArray), k ≤ m.certs.length ∧ i = .int .i64 k ∧ sv = .string s ∧ s.size ≤ 51 + 66 * k ∧ Hid (s.data.toList = Lib.join (Msg.headW m ++ (m.certs.take k).map Msg.certW) [32]) ∧ Hid (Ext w wr)) (fun _ i _ => m.certs.length - (intOf i).toNat)
      case atStart => exact ⟨0, A4, Nat.zero_le _, rfl, rfl, HA4.out.2, (by have h := HA4.out.1; simp only [List.take_zero, List.map_nil, List.append_nil]; exact h), FZ.out⟩
      case round =>
        obtain ⟨k, s, hk, rfl, rfl, hss, HT, HE⟩ := hrel
        obtain ⟨x5, x6⟩ := HW5.out _ HE.out
        by_cases hlt : k < m.certs.length
        · obtain ⟨z, hzk⟩ : ∃ z, m.certs[k]? = some z := ⟨_, List.getElem?_eq_getElem hlt⟩
          obtain ⟨b1, off, rfl, hb, hN⟩ := HX5.out (by omega)
          have hz := HF.out.certs z (List.mem_of_getElem? hzk)
          have HE1 : Hid (∀ wx : World, Calls Tryd.prog 61 #[.int .i64 z.slot] wx fun e w' => e = .returned (.string (mkB (Lib.itoa z.slot))) ∧ Ext wx w') := fun wx => digits_any _ (by omega) (by omega) wx
          have HE2 : Hid (∀ wx : World, Calls Tryd.prog 61 #[.int .i64 z.view] wx fun e w' => e = .returned (.string (mkB (Lib.itoa z.view))) ∧ Ext wx w') := fun wx => digits_any _ (by omega) (by omega) wx
          have HE3 : Hid (∀ wx : World, Calls Tryd.prog 61 #[.int .i64 z.value] wx fun e w' => e = .returned (.string (mkB (Lib.itoa z.value))) ∧ Ext wx w') := fun wx => digits_any _ (by omega) (by omega) wx
          obtain ⟨C1, g1, t1, q1⟩ := add_run s ⟨#[32]⟩ (51 + 66 * k) 1 hss (by decide) (by omega)
          obtain ⟨C2, g2, t2, q2⟩ := add_run C1 (mkB (Lib.itoa z.slot)) (51 + 66 * k + 1) 21 (by omega) (itoa_size _ (by omega) (by omega)) (by omega)
          obtain ⟨C3, g3, t3, q3⟩ := add_run C2 ⟨#[46]⟩ (51 + 66 * k + 22) 1 (by omega) (by decide) (by omega)
          obtain ⟨C4, g4, t4, q4⟩ := add_run C3 (mkB (Lib.itoa z.view)) (51 + 66 * k + 23) 21 (by omega) (itoa_size _ (by omega) (by omega)) (by omega)
          obtain ⟨C5, g5, t5, q5⟩ := add_run C4 ⟨#[46]⟩ (51 + 66 * k + 44) 1 (by omega) (by decide) (by omega)
          obtain ⟨C6, g6, t6, q6⟩ := add_run C5 (mkB (Lib.itoa z.value)) (51 + 66 * k + 45) 21 (by omega) (itoa_size _ (by omega) (by omega)) (by omega)
          have HT6 : Hid (C6.data.toList = Lib.join (Msg.headW m ++ (m.certs.take (k + 1)).map Msg.certW) [32]) := by
            show _ = _
            rw [take_map hzk, join_snoc _ _ (by simp [Msg.headW]), g6, g5, g4, g3, g2, g1, HT.out, mkB_list, mkB_list, mkB_list]
            simp [Msg.certW, List.append_assoc]
          have hs6 : C6.size ≤ 51 + 66 * (k + 1) := by omega
          have HS7 : Hid (∀ wx : World, Ext w wx → (fun W' : World => W'.cell? ⟨b, o + 5, none⟩ = some (.slice (some ⟨b1, off, none⟩) m.certs.length c) ∧ W'.cell? ⟨b1, off + k * 3, none⟩ = some (.int .i64 z.slot) ∧ W'.cell? ⟨b1, off + k * 3 + 1, none⟩ = some (.int .i64 z.view) ∧ W'.cell? ⟨b1, off + k * 3 + 2, none⟩ = some (.int .i64 z.value)) wx) := fun wx he => by
            obtain ⟨d0, d1, d2⟩ := hN.ext hb he k z hzk
            exact ⟨(HW5.out _ he).1, d0, d1, d2⟩
          clear g1 g2 g3 g4 g5 g6 t1 t2 t3 t4 t5 t6 hz hzk hN hb
          generalize mkB (Lib.itoa z.slot) = n3 at *
          generalize mkB (Lib.itoa z.view) = n4 at *
          generalize mkB (Lib.itoa z.value) = n5 at *
          go_wp2
          refine wp_region_held_drew (S := (fun W' : World => W'.cell? ⟨b, o + 5, none⟩ = some (.slice (some ⟨b1, off, none⟩) m.certs.length c) ∧ W'.cell? ⟨b1, off + k * 3, none⟩ = some (.int .i64 z.slot) ∧ W'.cell? ⟨b1, off + k * 3 + 1, none⟩ = some (.int .i64 z.view) ∧ W'.cell? ⟨b1, off + k * 3 + 2, none⟩ = some (.int .i64 z.value))) (by kernel_rfl) (HS7.out _ (HE.out.drew)) (fun hHeld => ?_)
          refine tk 0 { dst := some 56, op := Op.move (.tmp 3), type := 9, pos := "l08_msg.go:188", after := #[], guard := none } ?_
          refine tk 1 { dst := some 57, op := Op.binOp BinOp.add 9 (.tmp 56) (Operand.const (Value.string { data := #[32] })) 9, type := 9, pos := "l08_msg.go:188", after := #[⟨0, .data⟩], guard := none } ?_
          refine tk 2 { dst := some 58, op := Op.move (.tmp 0), type := 50, pos := "l08_msg.go:188", after := #[], guard := none } ?_
          refine tk 3 { dst := some 59, op := Op.nilCheck (.tmp 58), type := 0, pos := "l08_msg.go:188", after := #[⟨2, .data⟩], guard := none } ?_
          refine tk 4 { dst := some 60, op := Op.fieldAddr 28 (.tmp 59) 5, type := 0, pos := "l08_msg.go:188", after := #[⟨3, .data⟩], guard := none } ?_
          refine tk 5 { dst := some 61, op := Op.load 25 (.tmp 60), type := 25, pos := "l08_msg.go:188", after := #[⟨4, .data⟩], guard := none } ?_
          refine tk 6 { dst := some 62, op := Op.move (.tmp 4), type := 3, pos := "l08_msg.go:188", after := #[], guard := none } ?_
          refine tk 7 { dst := some 63, op := Op.indexAddr 25 (.tmp 61) (.tmp 62), type := 0, pos := "l08_msg.go:188", after := #[⟨5, .data⟩, ⟨6, .data⟩], guard := none } ?_
          refine tk 8 { dst := some 64, op := Op.fieldAddr 76 (.tmp 63) 0, type := 0, pos := "l08_msg.go:188", after := #[⟨7, .data⟩], guard := none } ?_
          refine tk 9 { dst := some 65, op := Op.load 2 (.tmp 64), type := 2, pos := "l08_msg.go:188", after := #[⟨8, .data⟩], guard := none } ?_
          refine tk 13 { dst := some 69, op := Op.move (.tmp 0), type := 50, pos := "l08_msg.go:188", after := #[], guard := none } ?_
          refine tk 14 { dst := some 70, op := Op.nilCheck (.tmp 69), type := 0, pos := "l08_msg.go:188", after := #[⟨13, .data⟩], guard := none } ?_
          refine tk 15 { dst := some 71, op := Op.fieldAddr 28 (.tmp 70) 5, type := 0, pos := "l08_msg.go:188", after := #[⟨14, .data⟩], guard := none } ?_
          refine tk 16 { dst := some 72, op := Op.load 25 (.tmp 71), type := 25, pos := "l08_msg.go:188", after := #[⟨15, .data⟩], guard := none } ?_
          refine tk 17 { dst := some 73, op := Op.move (.tmp 4), type := 3, pos := "l08_msg.go:188", after := #[], guard := none } ?_
          refine tk 18 { dst := some 74, op := Op.indexAddr 25 (.tmp 72) (.tmp 73), type := 0, pos := "l08_msg.go:188", after := #[⟨16, .data⟩, ⟨17, .data⟩], guard := none } ?_
          refine tk 19 { dst := some 75, op := Op.fieldAddr 76 (.tmp 74) 1, type := 0, pos := "l08_msg.go:188", after := #[⟨18, .data⟩], guard := none } ?_
          refine tk 20 { dst := some 76, op := Op.load 2 (.tmp 75), type := 2, pos := "l08_msg.go:188", after := #[⟨19, .data⟩], guard := none } ?_
          refine tk 24 { dst := some 80, op := Op.move (.tmp 0), type := 50, pos := "l08_msg.go:188", after := #[], guard := none } ?_
          refine tk 25 { dst := some 81, op := Op.nilCheck (.tmp 80), type := 0, pos := "l08_msg.go:188", after := #[⟨24, .data⟩], guard := none } ?_
          refine tk 26 { dst := some 82, op := Op.fieldAddr 28 (.tmp 81) 5, type := 0, pos := "l08_msg.go:188", after := #[⟨25, .data⟩], guard := none } ?_
          refine tk 27 { dst := some 83, op := Op.load 25 (.tmp 82), type := 25, pos := "l08_msg.go:188", after := #[⟨26, .data⟩], guard := none } ?_
          refine tk 28 { dst := some 84, op := Op.move (.tmp 4), type := 3, pos := "l08_msg.go:188", after := #[], guard := none } ?_
          refine tk 29 { dst := some 85, op := Op.indexAddr 25 (.tmp 83) (.tmp 84), type := 0, pos := "l08_msg.go:188", after := #[⟨27, .data⟩, ⟨28, .data⟩], guard := none } ?_
          refine tk 30 { dst := some 86, op := Op.fieldAddr 76 (.tmp 85) 2, type := 0, pos := "l08_msg.go:188", after := #[⟨29, .data⟩], guard := none } ?_
          refine tk 31 { dst := some 87, op := Op.load 2 (.tmp 86), type := 2, pos := "l08_msg.go:188", after := #[⟨30, .data⟩], guard := none } ?_
          refine wpAnyH_ready (rs := [10]) (by kernel_rfl) (by simp) (AllReadyH.cons rfl (fun K hK => ?_) AllReadyH.nil)
          go_simp
          refine (HE1.out _).mono ?_
          rintro e x1 ⟨rfl, hb⟩
          have G1 : Hid (Ext w x1) := HE.out.drew.trans hb
          refine hK.out _ _ (HS7.out _ G1.out) (fun hHd1 => ?_)
          clear hK K hb
          refine tk 11 { dst := some 67, op := Op.binOp BinOp.add 9 (.tmp 57) (.tmp 66) 9, type := 9, pos := "l08_msg.go:188", after := #[⟨1, .data⟩, ⟨10, .data⟩], guard := none } ?_
          refine tk 12 { dst := some 68, op := Op.binOp BinOp.add 9 (.tmp 67) (Operand.const (Value.string { data := #[46] })) 9, type := 9, pos := "l08_msg.go:188", after := #[⟨11, .data⟩], guard := none } ?_
          refine wpAnyH_ready (rs := [21]) (by kernel_rfl) (by simp) (AllReadyH.cons rfl (fun K hK => ?_) AllReadyH.nil)
          go_simp
          refine (HE2.out _).mono ?_
          rintro e x2 ⟨rfl, hb⟩
          have G2 : Hid (Ext w x2) := G1.out.trans hb
          refine hK.out _ _ (HS7.out _ G2.out) (fun hHd2 => ?_)
          clear hK K hb
          refine tk 22 { dst := some 78, op := Op.binOp BinOp.add 9 (.tmp 68) (.tmp 77) 9, type := 9, pos := "l08_msg.go:188", after := #[⟨12, .data⟩, ⟨21, .data⟩], guard := none } ?_
          refine tk 23 { dst := some 79, op := Op.binOp BinOp.add 9 (.tmp 78) (Operand.const (Value.string { data := #[46] })) 9, type := 9, pos := "l08_msg.go:188", after := #[⟨22, .data⟩], guard := none } ?_
          refine wpAnyH_ready (rs := [32]) (by kernel_rfl) (by simp) (AllReadyH.cons rfl (fun K hK => ?_) AllReadyH.nil)
          go_simp
          refine (HE3.out _).mono ?_
          rintro e x3 ⟨rfl, hb⟩
          have G3 : Hid (Ext w x3) := G2.out.trans hb
          refine hK.out _ _ (HS7.out _ G3.out) (fun hHd3 => ?_)
          clear hK K hb
          refine tk 33 { dst := some 89, op := Op.binOp BinOp.add 9 (.tmp 79) (.tmp 88) 9, type := 9, pos := "l08_msg.go:188", after := #[⟨23, .data⟩, ⟨32, .data⟩], guard := none } ?_
          refine tk 34 { dst := some 3, op := Op.assign (.tmp 89), type := 9, pos := "l08_msg.go:188", after := #[⟨33, .data⟩, ⟨32, .chain⟩, ⟨0, .phase⟩, ⟨1, .phase⟩, ⟨2, .phase⟩, ⟨3, .phase⟩, ⟨4, .phase⟩, ⟨5, .phase⟩, ⟨6, .phase⟩, ⟨7, .phase⟩, ⟨8, .phase⟩, ⟨9, .phase⟩, ⟨10, .phase⟩, ⟨11, .phase⟩, ⟨12, .phase⟩, ⟨13, .phase⟩, ⟨14, .phase⟩, ⟨15, .phase⟩, ⟨16, .phase⟩, ⟨17, .phase⟩, ⟨18, .phase⟩, ⟨19, .phase⟩, ⟨20, .phase⟩, ⟨21, .phase⟩, ⟨22, .phase⟩, ⟨23, .phase⟩, ⟨24, .phase⟩, ⟨25, .phase⟩, ⟨26, .phase⟩, ⟨27, .phase⟩, ⟨28, .phase⟩, ⟨29, .phase⟩, ⟨30, .phase⟩, ⟨31, .phase⟩, ⟨32, .phase⟩, ⟨33, .phase⟩], guard := none } ?_
          refine wpAnyH_done (by kernel_rfl) ?_ _
          go_wp2
          exact ⟨⟨k + 1, C6, by omega, by go_num, rfl, hs6, HT6.out, G3.out⟩, by simp [intOf]; omega⟩
        · have hke : k = m.certs.length := by omega
          have HT2 : Hid (s.data.toList = Lib.join (Msg.headW m ++ m.certs.map Msg.certW) [32] ∧ s.size ≤ 2100) := by
            refine ⟨?_, by omega⟩
            have h := HT.out
            rw [hke, List.take_length] at h
            exact h
          have HE2 : Hid (Ext w wr) := HE
          clear hke HT HE hss
          go_wp2
          clear x5 x6 HX5
          generalize hwr : wr = w7 at *
          clear hwr
          go_loopw [3, 5] (fun sv i wr => ∃ (k : Nat) (t : ByteArray), k ≤ m.refs.length ∧ i = .int .i64 k ∧ sv = .string t ∧ t.size ≤ 2100 + 22 * k ∧ Hid (t.data.toList = Lib.join ((Msg.headW m ++ m.certs.map Msg.certW) ++ (m.refs.take k).map Lib.itoa) [32]) ∧ Hid (Ext w wr)) (fun _ i _ => m.refs.length - (intOf i).toNat)
          case atStart => exact ⟨0, s, Nat.zero_le _, rfl, rfl, HT2.out.2, (by have h := HT2.out.1; simp only [List.take_zero, List.map_nil, List.append_nil]; exact h), HE2.out⟩
          case round =>
            obtain ⟨k, t, hk, rfl, rfl, hss, HT, HE⟩ := hrel
            obtain ⟨x5, x6⟩ := HW5.out _ HE.out
            by_cases hlt : k < m.refs.length
            · obtain ⟨z, hzk⟩ : ∃ z, m.refs[k]? = some z := ⟨_, List.getElem?_eq_getElem hlt⟩
              obtain ⟨b1, off, rfl, hb, hN⟩ := HX6.out (by omega)
              have hz := HF.out.refs z (List.mem_of_getElem? hzk)
              have HE1 : Hid (∀ wx : World, Calls Tryd.prog 61 #[.int .i64 z] wx fun e w' => e = .returned (.string (mkB (Lib.itoa z))) ∧ Ext wx w') := fun wx => digits_any _ (by omega) (by omega) wx
              obtain ⟨C1, g1, t1, q1⟩ := add_run t ⟨#[32]⟩ (2100 + 22 * k) 1 hss (by decide) (by omega)
              obtain ⟨C2, g2, t2, q2⟩ := add_run C1 (mkB (Lib.itoa z)) (2100 + 22 * k + 1) 21 (by omega) (itoa_size _ (by omega) (by omega)) (by omega)
              have HT6 : Hid (C2.data.toList = Lib.join ((Msg.headW m ++ m.certs.map Msg.certW) ++ (m.refs.take (k + 1)).map Lib.itoa) [32]) := by
                show _ = _
                rw [take_map hzk, join_snoc _ _ (by simp [Msg.headW]), g2, g1, HT.out, mkB_list]
              have hs6 : C2.size ≤ 2100 + 22 * (k + 1) := by omega
              have d0 := hN.ext hb HE.out k z hzk
              clear g1 g2 t1 t2 hz hzk hN hb
              generalize mkB (Lib.itoa z) = n3 at *
              go_wp2_with fail
              refine (HE1.out _).mono ?_
              rintro e x1 ⟨rfl, hb⟩
              have G1 : Hid (Ext w x1) := HE.out.trans hb
              clear hb d0 x5 x6
              go_wp2
              exact ⟨⟨k + 1, C2, by omega, by go_num, rfl, hs6, HT6.out, G1.out⟩, by simp [intOf]; omega⟩
            · have hke : k = m.refs.length := by omega
              have eT : t = mkB (Lib.join (Msg.msgW m) [32]) := by
                apply ba_eq
                have h := HT.out
                rw [hke, List.take_length] at h
                rw [mkB_list, h]
                unfold Msg.msgW
                rw [← HB.out]
              have HTt : Hid (t = mkB (Lib.join (Msg.msgW m) [32])) := eT
              clear hke HT eT
              go_wp2
              go_ret
              exact ⟨congrArg (fun s => Ending.returned (.string s)) HTt.out, HE.out⟩
end Go.Proofs.YtpncnfodgfldlaaDoor
