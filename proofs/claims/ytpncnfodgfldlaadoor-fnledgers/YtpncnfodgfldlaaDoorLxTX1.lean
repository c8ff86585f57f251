/- the text of a message: its mathematics, the program's small functions. -/
import Derived.Test.YtpncnfodgfldlaaDoorLxH11
import Derived.Test.YtpncnfodgfldlaaDoorLxP4
import Derived.Deep.RegionHeld3
import Derived.Test.YtpncnfodgfldlaaDoorLxTk
namespace Go.Proofs.YtpncnfodgfldlaaDoor
open Go.RowKit
namespace Msg
def kindW (k : Int) : List UInt8 := if k = 1 then [112, 114, 111, 112, 111, 115, 101] else if k = 2 then [112, 114, 101, 112, 97, 114, 101] else if k = 3 then [99, 111, 109, 109, 105, 116] else if k = 4 then [99, 104, 97, 110, 103, 101] else [110, 101, 119]
def certW (c : Ct) : List UInt8 := Lib.itoa c.slot ++ [46] ++ Lib.itoa c.view ++ [46] ++ Lib.itoa c.value
def headW (m : Ms) : List (List UInt8) := [kindW m.kind, Lib.itoa m.view, Lib.itoa m.from_]
def slotW (m : Ms) : List (List UInt8) := if m.kind ≤ 3 then [Lib.itoa m.slot, Lib.itoa m.value] else []
def msgW (m : Ms) : List (List UInt8) := headW m ++ slotW m ++ m.certs.map certW ++ m.refs.map Lib.itoa
def textV (f : Int) (m : Ms) : Int × List UInt8 := if ¬ fault f m = 0 then (fault f m, []) else (0, Lib.join (msgW m) [32])
theorem textV_bad {f : Int} {m : Ms} (h : ¬ fault f m = 0) : textV f m = (fault f m, []) := by unfold textV; rw [if_pos h]
theorem textV_ok {f : Int} {m : Ms} (h : fault f m = 0) : textV f m = (0, Lib.join (msgW m) [32]) := by unfold textV; rw [if_neg (by omega)]
theorem kindW_len (k : Int) : (kindW k).length ≤ 7 := by
  unfold kindW
  repeat' split
  all_goals simp
/-- What a message without a fault keeps to. -/
structure Fine (m : Ms) : Prop where
  kind : 1 ≤ m.kind ∧ m.kind ≤ 5
  view : 0 ≤ m.view ∧ m.view ≤ 20
  from_ : 1 ≤ m.from_ ∧ m.from_ ≤ 7
  slot : m.kind ≤ 3 → 1 ≤ m.slot ∧ m.slot ≤ 30 ∧ 0 ≤ m.value ∧ m.value ≤ 12
  bare : (m.kind = 4 ∨ m.certs.length = 0) ∧ (m.kind = 5 ∨ m.refs.length = 0)
  many : m.certs.length ≤ 30 ∧ m.refs.length ≤ 7
  certs : ∀ c ∈ m.certs, 1 ≤ c.slot ∧ c.slot ≤ 30 ∧ 0 ≤ c.view ∧ c.view ≤ 20 ∧ 0 ≤ c.value ∧ c.value ≤ 12
  refs : ∀ r ∈ m.refs, 0 ≤ r ∧ r ≤ 239
theorem fine {f : Int} {m : Ms} (h : fault f m = 0) : 1 ≤ f ∧ f ≤ 2 ∧ Fine m := by
  unfold fault at h
  split at h
  · omega
  · rename_i h1
    have hf : fOk f = true := by simpa using h1
    unfold fOk at hf
    simp at hf
    refine ⟨hf.1, hf.2, ?_⟩
    unfold faultM at h
    split at h
    · omega
    · rename_i hb
      split at h
      · omega
      · rename_i hd
        split at h
        · omega
        · rename_i hm
          have hb2 : bareN m.kind m.slot m.value m.certs.length m.refs.length = true := by simpa using hb
          have hd2 : boundsN f m.kind m.view m.from_ m.slot m.value = true := by simpa using hd
          have hm2 : manyN f m.certs.length m.refs.length = false := by simpa using hm
          unfold bareN at hb2
          unfold boundsN at hd2
          unfold manyN at hm2
          rw [decide_eq_true_iff] at hb2 hd2
          rw [decide_eq_false_iff_not] at hm2
          unfold lists at h
          split at h
          · omega
          · split at h
            · omega
            · split at h
              · omega
              · rename_i hp
                have hp2 : parts m = true := by simpa using hp
                unfold parts at hp2
                rw [Bool.and_eq_true, List.all_eq_true, List.all_eq_true] at hp2
                exact ⟨⟨hb2.1, hb2.2.1⟩, ⟨hd2.1, hd2.2.1⟩, ⟨hd2.2.2.1, by have := hd2.2.2.2.1; omega⟩, hd2.2.2.2.2, ⟨hb2.2.2.2.1, hb2.2.2.2.2⟩, ⟨by omega, by omega⟩, fun c hc => by
                  have h := hp2.1 c hc
                  unfold certOk at h
                  rw [decide_eq_true_iff] at h
                  have := hd2.2.1
                  omega, fun r hr => by
                  have h := hp2.2 r hr
                  unfold refOk at h
                  rw [decide_eq_true_iff] at h
                  exact h⟩
end Msg
set_option maxHeartbeats 1000000 in
theorem msgWord_any (k : Int) (w : World) : Calls Tryd.prog 55 #[.int .i64 k] w fun e w' => e = .returned (.string (mkB (Msg.kindW k))) ∧ Ext w w' := by
  by_cases h1 : k = 1
  · subst h1
    go_enter Tryd.func55, Tryd.ntmps55
    go_wp2
    go_ret
    exact ⟨rfl, Ext.refl _⟩
  have b1 : (k == 1) = false := by simpa using h1
  by_cases h2 : k = 2
  · subst h2
    go_enter Tryd.func55, Tryd.ntmps55
    go_wp2
    go_ret
    exact ⟨rfl, Ext.refl _⟩
  have b2 : (k == 2) = false := by simpa using h2
  by_cases h3 : k = 3
  · subst h3
    go_enter Tryd.func55, Tryd.ntmps55
    go_wp2
    go_ret
    exact ⟨rfl, Ext.refl _⟩
  have b3 : (k == 3) = false := by simpa using h3
  by_cases h4 : k = 4
  · subst h4
    go_enter Tryd.func55, Tryd.ntmps55
    go_wp2
    go_ret
    exact ⟨rfl, Ext.refl _⟩
  have b4 : (k == 4) = false := by simpa using h4
  rw [show mkB (Msg.kindW k) = ⟨#[110, 101, 119]⟩ from by unfold Msg.kindW; rw [if_neg h1, if_neg h2, if_neg h3, if_neg h4]; rfl]
  go_enter Tryd.func55, Tryd.ntmps55
  go_wp2
  go_ret
  exact ⟨rfl, Ext.refl _⟩
set_option maxHeartbeats 1000000 in
theorem viewText_any (n : Int) (w : World) (h0 : -1 ≤ n) (h1 : n ≤ 99999) (ht : Tb w) : Calls Tryd.prog 56 #[.agg #[.int .i64 n]] w fun e w' => e = .returned (.string (mkB (Lib.itoa n))) ∧ Ext w w' := by
  have HF : Hid (∀ wx : World, Ext w wx → Calls Tryd.prog 57 #[.int .i64 n] wx fun e w' => e = .returned (.string (mkB (Lib.itoa n))) ∧ Ext wx w') := fun wx he => numberText_any n wx h0 h1 (ht.ext he)
  generalize mkB (Lib.itoa n) = s at *
  go_enter Tryd.func56, Tryd.ntmps56
  go_wp2_with fail
  refine (HF.out _ ((Ext.refl _).alloc _)).mono ?_
  rintro e w1 ⟨rfl, hb⟩
  have HB : Hid (Ext w w1) := ((Ext.refl _).alloc _).trans hb
  clear hb
  go_wp2
  go_ret
  exact ⟨rfl, HB.out⟩
theorem itoa_size (n : Int) (h0 : -1 ≤ n) (h1 : n ≤ 99999) : (mkB (Lib.itoa n)).size ≤ 21 := by rw [mkB_size]; exact itoa_len n h0 h1
set_option maxHeartbeats 4000000 in
set_option maxRecDepth 100000 in
theorem certText_any (z : Ct) (w : World) (hz : 1 ≤ z.slot ∧ z.slot ≤ 30 ∧ 0 ≤ z.view ∧ z.view ≤ 20 ∧ 0 ≤ z.value ∧ z.value ≤ 12) (ht : Tb w) : Calls Tryd.prog 60 #[.agg #[.int .i64 z.view, .int .i64 z.slot, .int .i64 z.value]] w fun e w' => e = .returned (.string (mkB (Msg.certW z))) ∧ Ext w w' := by
  obtain ⟨c1, hc1, hs1, r1⟩ := add_run (mkB (Lib.itoa z.slot)) ⟨#[46]⟩ 21 1 (itoa_size _ (by omega) (by omega)) (by decide) (by omega)
  obtain ⟨c2, hc2, hs2, r2⟩ := add_run c1 (mkB (Lib.itoa z.view)) 22 21 (by omega) (itoa_size _ (by omega) (by omega)) (by omega)
  obtain ⟨c3, hc3, hs3, r3⟩ := add_run c2 ⟨#[46]⟩ 43 1 (by omega) (by decide) (by omega)
  obtain ⟨c4, hc4, hs4, r4⟩ := add_run c3 (mkB (Lib.itoa z.value)) 44 21 (by omega) (itoa_size _ (by omega) (by omega)) (by omega)
  have e4 : c4 = mkB (Msg.certW z) := by
    apply ba_eq
    rw [hc4, hc3, hc2, hc1, mkB_list, mkB_list, mkB_list, mkB_list]
    rfl
  rw [← e4]
  have W0x : Hid (∀ wx : World, Ext (w.alloc (.cells #[.int .i64 z.view, .int .i64 z.slot, .int .i64 z.value] 94)) wx → Ext w wx) := fun wx he => ((Ext.refl _).alloc _).trans he
  have HN1 : Hid (∀ wx : World, Ext (w.alloc (.cells #[.int .i64 z.view, .int .i64 z.slot, .int .i64 z.value] 94)) wx → Calls Tryd.prog 57 #[.int .i64 z.slot] wx fun e w' => e = .returned (.string (mkB (Lib.itoa z.slot))) ∧ Ext wx w') := fun wx he => numberText_any _ wx (by omega) (by omega) (ht.ext (W0x.out _ he))
  have HV : Hid (∀ wx : World, Ext (w.alloc (.cells #[.int .i64 z.view, .int .i64 z.slot, .int .i64 z.value] 94)) wx → Calls Tryd.prog 56 #[.agg #[.int .i64 z.view]] wx fun e w' => e = .returned (.string (mkB (Lib.itoa z.view))) ∧ Ext wx w') := fun wx he => viewText_any _ wx (by omega) (by omega) (ht.ext (W0x.out _ he))
  have HN3 : Hid (∀ wx : World, Ext (w.alloc (.cells #[.int .i64 z.view, .int .i64 z.slot, .int .i64 z.value] 94)) wx → Calls Tryd.prog 57 #[.int .i64 z.value] wx fun e w' => e = .returned (.string (mkB (Lib.itoa z.value))) ∧ Ext wx w') := fun wx he => numberText_any _ wx (by omega) (by omega) (ht.ext (W0x.out _ he))
  have HS : Hid (∀ wx : World, Ext (w.alloc (.cells #[.int .i64 z.view, .int .i64 z.slot, .int .i64 z.value] 94)) wx → (fun W' : World => W'.cell? ⟨w.heap.size, 0, none⟩ = some (.int .i64 z.view) ∧ W'.cell? ⟨w.heap.size, 1, none⟩ = some (.int .i64 z.slot) ∧ W'.cell? ⟨w.heap.size, 2, none⟩ = some (.int .i64 z.value)) wx) := fun wx he => cbox_new w z _ wx he
  clear hc1 hc2 hc3 hc4 hs1 hs2 hs3 hs4 e4 hz ht
  generalize mkB (Lib.itoa z.slot) = n1 at *
  generalize mkB (Lib.itoa z.view) = n2 at *
  generalize mkB (Lib.itoa z.value) = n3 at *
  go_enter Tryd.func60, Tryd.ntmps60
  go_wp2
  refine wp_region_held_drew (S := (fun W' : World => W'.cell? ⟨w.heap.size, 0, none⟩ = some (.int .i64 z.view) ∧ W'.cell? ⟨w.heap.size, 1, none⟩ = some (.int .i64 z.slot) ∧ W'.cell? ⟨w.heap.size, 2, none⟩ = some (.int .i64 z.value))) (by kernel_rfl) (HS.out _ ((Ext.refl _).drew)) (fun hHeld => ?_)
  refine tk 0 { dst := some 3, op := Op.fieldAddr 94 (.tmp 1) 1, type := 0, pos := "l08_msg.go:129", after := #[], guard := none } ?_
  refine tk 1 { dst := some 4, op := Op.load 2 (.tmp 3), type := 2, pos := "l08_msg.go:129", after := #[⟨0, .data⟩], guard := none } ?_
  refine tk 4 { dst := some 7, op := Op.fieldAddr 94 (.tmp 1) 0, type := 0, pos := "l08_msg.go:129", after := #[], guard := none } ?_
  refine tk 5 { dst := some 8, op := Op.load 62 (.tmp 7), type := 62, pos := "l08_msg.go:129", after := #[⟨4, .data⟩], guard := none } ?_
  refine tk 9 { dst := some 12, op := Op.fieldAddr 94 (.tmp 1) 2, type := 0, pos := "l08_msg.go:129", after := #[], guard := none } ?_
  refine tk 10 { dst := some 13, op := Op.load 2 (.tmp 12), type := 2, pos := "l08_msg.go:129", after := #[⟨9, .data⟩], guard := none } ?_
  refine wpAnyH_ready (rs := [2]) (by kernel_rfl) (by simp) (AllReadyH.cons rfl (fun K hK => ?_) AllReadyH.nil)
  go_simp
  refine (HN1.out _ (((Ext.refl _).drew))).mono ?_
  rintro e y1 ⟨rfl, hb⟩
  have F1 : Hid (Ext (w.alloc (.cells #[.int .i64 z.view, .int .i64 z.slot, .int .i64 z.value] 94)) y1) := ((Ext.refl _).drew).trans hb
  refine hK.out _ _ (HS.out _ F1.out) (fun hHeld1 => ?_)
  clear hK K hb
  refine tk 3 { dst := some 6, op := Op.binOp BinOp.add 9 (.tmp 5) (Operand.const (Value.string { data := #[46] })) 9, type := 9, pos := "l08_msg.go:129", after := #[⟨2, .data⟩], guard := none } ?_
  refine wpAnyH_ready (rs := [6]) (by kernel_rfl) (by simp) (AllReadyH.cons rfl (fun K hK => ?_) AllReadyH.nil)
  go_simp
  refine (HV.out _ (F1.out)).mono ?_
  rintro e y2 ⟨rfl, hb⟩
  have F2 : Hid (Ext (w.alloc (.cells #[.int .i64 z.view, .int .i64 z.slot, .int .i64 z.value] 94)) y2) := F1.out.trans hb
  refine hK.out _ _ (HS.out _ F2.out) (fun hHeld2 => ?_)
  clear hK K hb
  refine tk 7 { dst := some 10, op := Op.binOp BinOp.add 9 (.tmp 6) (.tmp 9) 9, type := 9, pos := "l08_msg.go:129", after := #[⟨3, .data⟩, ⟨6, .data⟩], guard := none } ?_
  refine tk 8 { dst := some 11, op := Op.binOp BinOp.add 9 (.tmp 10) (Operand.const (Value.string { data := #[46] })) 9, type := 9, pos := "l08_msg.go:129", after := #[⟨7, .data⟩], guard := none } ?_
  refine wpAnyH_ready (rs := [11]) (by kernel_rfl) (by simp) (AllReadyH.cons rfl (fun K hK => ?_) AllReadyH.nil)
  go_simp
  refine (HN3.out _ (F2.out)).mono ?_
  rintro e y3 ⟨rfl, hb⟩
  have F3 : Hid (Ext (w.alloc (.cells #[.int .i64 z.view, .int .i64 z.slot, .int .i64 z.value] 94)) y3) := F2.out.trans hb
  refine hK.out _ _ (HS.out _ F3.out) (fun hHeld3 => ?_)
  clear hK K hb
  refine tk 12 { dst := some 15, op := Op.binOp BinOp.add 9 (.tmp 11) (.tmp 14) 9, type := 9, pos := "l08_msg.go:129", after := #[⟨8, .data⟩, ⟨11, .data⟩], guard := none } ?_
  refine tk 13 { dst := some 2, op := Op.assign (.tmp 15), type := 9, pos := "l08_msg.go:129", after := #[⟨12, .data⟩, ⟨11, .chain⟩, ⟨0, .phase⟩, ⟨1, .phase⟩, ⟨2, .phase⟩, ⟨3, .phase⟩, ⟨4, .phase⟩, ⟨5, .phase⟩, ⟨6, .phase⟩, ⟨7, .phase⟩, ⟨8, .phase⟩, ⟨9, .phase⟩, ⟨10, .phase⟩, ⟨11, .phase⟩, ⟨12, .phase⟩], guard := none } ?_
  refine wpAnyH_done (by kernel_rfl) ?_ _
  go_wp2
  go_ret
  exact ⟨rfl, W0x.out _ F3.out⟩
end Go.Proofs.YtpncnfodgfldlaaDoor
