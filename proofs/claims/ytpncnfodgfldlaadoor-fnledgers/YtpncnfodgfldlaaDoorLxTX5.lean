/- the specification's MsgText. -/
import Derived.Test.YtpncnfodgfldlaaDoorLxTX4k1
import Derived.Test.YtpncnfodgfldlaaDoorLxTX4k2
import Derived.Test.YtpncnfodgfldlaaDoorLxTX4k3
import Derived.Test.YtpncnfodgfldlaaDoorLxTX4k4
import Derived.Test.YtpncnfodgfldlaaDoorLxTX4k5
namespace Go.Proofs.YtpncnfodgfldlaaDoor
open Go.RowKit
theorem l8Text_any (m : Ms) (v u : Value) (b o : Nat) (w : World) (hb1 : b < w.heap.size) (hm : MCs w b o m v u) (hS : MLs w v u m) (hF : Msg.Fine m) :
    Calls Tryd.prog 34 #[.pointer (some ⟨b, o, none⟩)] w fun e w' => e = .returned (.string (mkB (Lib.join (Msg.msgW m) [32]))) ∧ Ext w w' := by
  have hk := hF.kind
  have h5 : m.kind = 1 ∨ m.kind = 2 ∨ m.kind = 3 ∨ m.kind = 4 ∨ m.kind = 5 := by omega
  rcases h5 with h | h | h | h | h
  · exact l8Text_1 m v u b o w hb1 hm hS hF h
  · exact l8Text_2 m v u b o w hb1 hm hS hF h
  · exact l8Text_3 m v u b o w hb1 hm hS hF h
  · exact l8Text_4 m v u b o w hb1 hm hS hF h
  · exact l8Text_5 m v u b o w hb1 hm hS hF h
set_option maxHeartbeats 4000000 in
set_option maxRecDepth 100000 in
theorem specMsgText_any (f : Int) (m : Ms) (v u : Value) (w : World) (hS : MLs w v u m) :
    Calls Tryd.prog 12 #[.int .i64 f, magg m v u] w fun e w' => e = .returned (tr (Msg.textV f m)) ∧ Ext w w' := by
  have HC : Hid (∀ (wx : World) (b : Nat), 1 ≤ f → f ≤ 2 → Ext w wx → MBoxAt wx b m v u → Calls Tryd.prog 24 #[.int .i64 f, .pointer (some ⟨b, 0, none⟩)] wx fun e w' => e = .returned (.int .i64 (Msg.faultM f m)) ∧ Ext wx w') := fun wx b h0 h1 he hb => l8Msg_any f m v u b 0 wx h0 h1 hb.1 hb.cs (hS.ext he)
  have HTx : Hid (Msg.Fine m → ∀ (wx : World) (b : Nat), Ext w wx → MBoxAt wx b m v u → Calls Tryd.prog 34 #[.pointer (some ⟨b, 0, none⟩)] wx fun e w' => e = .returned (.string (mkB (Lib.join (Msg.msgW m) [32]))) ∧ Ext wx w') := fun hF wx b he hb => l8Text_any m v u b 0 wx hb.1 hb.cs (hS.ext he) hF
  obtain ⟨a, c, a', c', rfl, rfl, -, -, -, -⟩ := hS.form
  clear hS
  have HFo : Hid (∀ wx : World, Calls Tryd.prog 33 #[.int .i64 f] wx fun e w' => e = .returned (.bool (Msg.fOk f)) ∧ w' = wx) := fun wx => l8F_any f wx
  have HBx : Hid (∀ wx : World, Ext ((w.alloc (.cells #[.int .i64 m.kind, .int .i64 m.view, .int .i64 m.from_, .int .i64 m.slot, .int .i64 m.value, .slice a m.certs.length c, .slice a' m.refs.length c'] 28)).alloc (.cells #[.int .i64 0, .string ⟨#[]⟩] 39)) wx → MBoxAt wx w.heap.size m (.slice a m.certs.length c) (.slice a' m.refs.length c') ∧ TBoxAt wx (w.heap.size + 1) 0 ⟨#[]⟩ ∧ Ext w wx) := fun wx he => by
    have h2 := (tbox_new (w.alloc (.cells #[.int .i64 m.kind, .int .i64 m.view, .int .i64 m.from_, .int .i64 m.slot, .int .i64 m.value, .slice a m.certs.length c, .slice a' m.refs.length c'] 28)) 0 ⟨#[]⟩ 39).ext he
    rw [World.size_alloc] at h2
    exact ⟨((mbox_new w m (.slice a m.certs.length c) (.slice a' m.refs.length c') _).ext ((Ext.refl _).alloc _)).ext he, h2, (((Ext.refl _).alloc _).alloc _).trans he⟩
  cases hf : Msg.fOk f with
  | false =>
    rw [hf] at HFo
    rw [Msg.textV_bad (f := f) (m := m) (by rw [Msg.fault_1 hf]; omega), Msg.fault_1 hf]
    clear hf HC
    unfold magg at *
    unfold tr
    simp only
    go_enter Tryd.func12, Tryd.ntmps12
    go_wp2_with fail
    refine (HFo.out _).mono ?_
    rintro e w9 ⟨rfl, hw⟩
    rw [hw]
    clear hw w9
    obtain ⟨-, ⟨t0, t1, t2, t3, t4⟩, hE⟩ := HBx.out _ (Ext.refl _)
    have HE : Hid (Ext w ((w.alloc (.cells #[.int .i64 m.kind, .int .i64 m.view, .int .i64 m.from_, .int .i64 m.slot, .int .i64 m.value, .slice a m.certs.length c, .slice a' m.refs.length c'] 28)).alloc (.cells #[.int .i64 0, .string ⟨#[]⟩] 39))) := hE
    clear hE
    generalize ((w.alloc (.cells #[.int .i64 m.kind, .int .i64 m.view, .int .i64 m.from_, .int .i64 m.slot, .int .i64 m.value, .slice a m.certs.length c, .slice a' m.refs.length c'] 28)).alloc (.cells #[.int .i64 0, .string ⟨#[]⟩] 39)) = wz at *
    go_wp2
    exact bodyPost_ret (v := .agg #[.int .i64 3, .string (mkB [])]) (by simp [results, Tryd.results12, go_sem, mkB, t1, t2]) rfl ⟨rfl, ext_twoM HE.out _ _⟩
  | true =>
    rw [hf] at HFo
    have h12 : 1 ≤ f ∧ f ≤ 2 := by unfold Msg.fOk at hf; simpa using hf
    by_cases hc : Msg.fault f m = 0
    · rw [Msg.textV_ok hc]
      have hF := (Msg.fine hc).2.2
      have hM : Msg.faultM f m = 0 := by rw [← Msg.fault_2 hf]; exact hc
      rw [hM] at HC
      have HTx2 : Hid (∀ (wx : World) (b : Nat), Ext w wx → MBoxAt wx b m (.slice a m.certs.length c) (.slice a' m.refs.length c') → Calls Tryd.prog 34 #[.pointer (some ⟨b, 0, none⟩)] wx fun e w' => e = .returned (.string (mkB (Lib.join (Msg.msgW m) [32]))) ∧ Ext wx w') := HTx.out hF
      clear hf hc hF hM HTx
      unfold magg at *
      unfold tr
      simp only
      generalize mkB (Lib.join (Msg.msgW m) [32]) = T at *
      go_enter Tryd.func12, Tryd.ntmps12
      go_wp2_with fail
      refine (HFo.out _).mono ?_
      rintro e w9 ⟨rfl, hw⟩
      rw [hw]
      clear hw w9
      go_wp2_with fail
      refine (HC.out _ _ h12.1 h12.2 (((Ext.refl _).alloc _).alloc _) (HBx.out _ (Ext.refl _)).1).mono ?_
      rintro e w2 ⟨rfl, hb⟩
      have E2 : Hid (Ext ((w.alloc (.cells #[.int .i64 m.kind, .int .i64 m.view, .int .i64 m.from_, .int .i64 m.slot, .int .i64 m.value, .slice a m.certs.length c, .slice a' m.refs.length c'] 28)).alloc (.cells #[.int .i64 0, .string ⟨#[]⟩] 39)) w2) := hb
      clear hb
      go_wp2_with fail
      refine (HTx2.out _ _ (HBx.out _ E2.out).2.2 (HBx.out _ E2.out).1).mono ?_
      rintro e w5 ⟨rfl, hb⟩
      have E5 : Hid (Ext ((w.alloc (.cells #[.int .i64 m.kind, .int .i64 m.view, .int .i64 m.from_, .int .i64 m.slot, .int .i64 m.value, .slice a m.certs.length c, .slice a' m.refs.length c'] 28)).alloc (.cells #[.int .i64 0, .string ⟨#[]⟩] 39)) w5) := E2.out.trans hb
      clear hb E2
      obtain ⟨-, ⟨t0, t1, t2, t3, t4⟩, hE⟩ := HBx.out _ E5.out
      have HE : Hid (Ext w w5) := hE
      clear hE
      go_wp2
      exact bodyPost_ret (v := .agg #[.int .i64 0, .string T]) (by simp [results, Tryd.results12, go_sem, t1, t2]) rfl ⟨rfl, ext_twoM HE.out _ _⟩
    · rw [Msg.textV_bad hc]
      rw [Msg.fault_2 hf] at hc ⊢
      clear hf HTx
      unfold magg at *
      unfold tr
      simp only
      generalize Msg.faultM f m = C at *
      have hcb : (C != 0) = true := by simpa using hc
      go_enter Tryd.func12, Tryd.ntmps12
      go_wp2_with fail
      refine (HFo.out _).mono ?_
      rintro e w9 ⟨rfl, hw⟩
      rw [hw]
      clear hw w9
      go_wp2_with fail
      refine (HC.out _ _ h12.1 h12.2 (((Ext.refl _).alloc _).alloc _) (HBx.out _ (Ext.refl _)).1).mono ?_
      rintro e w2 ⟨rfl, hb⟩
      obtain ⟨-, ⟨t0, t1, t2, t3, t4⟩, hE⟩ := HBx.out _ hb
      have HE : Hid (Ext w w2) := hE
      clear hE hb
      go_wp2
      exact bodyPost_ret (v := .agg #[.int .i64 C, .string (mkB [])]) (by simp [results, Tryd.results12, go_sem, mkB, t1, t2]) rfl ⟨rfl, ext_twoM HE.out _ _⟩
end Go.Proofs.YtpncnfodgfldlaaDoor
