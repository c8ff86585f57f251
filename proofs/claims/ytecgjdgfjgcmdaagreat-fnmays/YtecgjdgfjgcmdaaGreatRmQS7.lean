/- both CertRights. -/
import Derived.Test.YtecgjdgfjgcmdaaGreatRmQV3
import Derived.Test.YtecgjdgfjgcmdaaGreatRmQS5
import Derived.Test.YtecgjdgfjgcmdaaGreatRmH11
namespace Go.Proofs.YtecgjdgfjgcmdaaGreat
open Go.RowKit Go.Maps
theorem cert_box (w : World) (c : Ct) (t : TypeId) (w' : World) (he : Ext (w.alloc (.cells #[.int .i64 c.slot, .int .i64 c.view, .int .i64 c.value] t)) w') : w'.cell? ⟨w.heap.size, 0, none⟩ = some (.int .i64 c.slot) ∧ w'.cell? ⟨w.heap.size, 1, none⟩ = some (.int .i64 c.view) ∧ w'.cell? ⟨w.heap.size, 2, none⟩ = some (.int .i64 c.value) := by
 have hc := fun k => (Ext.cell he).1 w.heap.size k (by simp)
 exact ⟨(hc 0).trans (by simp), (hc 1).trans (by simp), (hc 2).trans (by simp)⟩
theorem Msg.cert_right {f : Int} {ms : List Ms} {c : Ct} (h : Msg.ledger f ms = 0) (h2 : Msg.certIn c = true) : Msg.certRight f ms c = Msg.enough f ms 2 c := by unfold Msg.certRight; rw [decide_eq_true h, h2]; rfl
theorem Msg.cert_bad {f : Int} {ms : List Ms} {c : Ct} (h : ¬ Msg.ledger f ms = 0) : Msg.certRight f ms c = false := by unfold Msg.certRight; rw [decide_eq_false h]; rfl
theorem Msg.cert_out {f : Int} {ms : List Ms} {c : Ct} (h2 : Msg.certIn c = false) : Msg.certRight f ms c = false := by unfold Msg.certRight; rw [h2, Bool.and_false]; rfl

set_option maxHeartbeats 4000000 in
set_option maxRecDepth 100000 in
theorem implCertRight_any (f : Int) (v : Value) (ms : List Ms) (c : Ct) (w : World) (hS : MSlice w v ms) :
  Calls Tryz.prog 35 #[.int .i64 f, v, ctagg c] w fun e w' => e = .returned (.bool (Msg.certRight f ms c)) ∧ Ext w w' := by
 have HF : Hid (∀ wx, Ext w wx → Calls Tryz.prog 74 #[.int .i64 f, v] wx fun e w' => e = .returned (.int .i64 (Msg.ledger f ms)) ∧ Ext wx w') := fun wx he => implLedgerFault_any f v ms wx (hS.ext he)
 have HCo : Hid (∀ wx : World, Calls Tryz.prog 77 #[ctagg c] wx fun e w' => e = .returned (.agg #[.int .i64 c.view, .int .i64 c.slot, .int .i64 c.value]) ∧ Ext wx w') := fun wx => certificateOf_any c wx
 have HIn : Hid (∀ wx : World, Calls Tryz.prog 78 #[.agg #[.int .i64 c.view, .int .i64 c.slot, .int .i64 c.value]] wx fun e w' => e = .returned (.bool (Msg.certIn c)) ∧ Ext wx w') := fun wx => certIn_any c wx
 have HQ0 : Hid (Msg.ledger f ms = 0 → ∀ wx, Ext w wx → Calls Tryz.prog 79 #[.int .i64 f, v, ctagg c] wx fun e w' => e = .returned (.bool (Msg.enough f ms 2 c)) ∧ Ext wx w') := fun h wx he => hasPrepared_any f v ms c wx (hS.ext he) h
 obtain ⟨a, cap, rfl, -, -, -⟩ := hS
 unfold ctagg at *
 by_cases hc : Msg.ledger f ms = 0
 ·have HQ : Hid (∀ wx, Ext w wx → Calls Tryz.prog 79 #[.int .i64 f, .slice a ms.length cap, .agg #[.int .i64 c.slot, .int .i64 c.view, .int .i64 c.value]] wx fun e w' => e = .returned (.bool (Msg.enough f ms 2 c)) ∧ Ext wx w') := HQ0.out hc
  clear HQ0
  rw [hc] at HF
  cases hi : Msg.certIn c with
  | true =>
   rw [Msg.cert_right hc hi]
   rw [hi] at HIn
   clear hc hi
   generalize Msg.enough f ms 2 c = B at *
   go_enter Tryz.func35, Tryz.ntmps35
   go_wp2_with fail
   refine (HF.out _ ((Ext.refl _).alloc _)).mono ?_
   rintro e w2 ⟨rfl, hb⟩
   have HE2 : Hid (Ext w w2) := ((Ext.refl _).alloc _).trans hb
   obtain ⟨c0, c1, c2⟩ := cert_box w c _ _ hb
   have hlt2 : w.heap.size < w2.heap.size := by have := hb.size; simp at this; omega
   clear hb
   go_wp2_with fail
   refine (HCo.out _).mono ?_
   rintro e w3 ⟨rfl, hb⟩
   have HE3 : Hid (Ext w w3) := HE2.out.trans hb
   have HX3 : Hid (Ext w2 w3) := hb
   clear hb
   go_wp2_with fail
   refine (HIn.out _).mono ?_
   rintro e w4 ⟨rfl, hb⟩
   have HE4 : Hid (Ext w w4) := HE3.out.trans hb
   have hb := HX3.out.trans hb
   have d0 := ((Ext.cell hb).1 _ _ hlt2).trans c0
   have d1 := ((Ext.cell hb).1 _ _ hlt2).trans c1
   have d2 := ((Ext.cell hb).1 _ _ hlt2).trans c2
   clear hb c0 c1 c2 HX3
   go_wp2_with fail
   refine (HQ.out _ HE4.out).mono ?_
   rintro e w5 ⟨rfl, hb⟩
   have HE5 : Hid (Ext w w5) := HE4.out.trans hb
   clear hb d0 d1 d2
   go_wp2
   go_ret
   exact ⟨rfl, HE5.out⟩
  | false =>
   rw [Msg.cert_out hi]
   rw [hi] at HIn
   clear hc hi HQ
   go_enter Tryz.func35, Tryz.ntmps35
   go_wp2_with fail
   refine (HF.out _ ((Ext.refl _).alloc _)).mono ?_
   rintro e w2 ⟨rfl, hb⟩
   have HE2 : Hid (Ext w w2) := ((Ext.refl _).alloc _).trans hb
   obtain ⟨c0, c1, c2⟩ := cert_box w c _ _ hb
   have hlt2 : w.heap.size < w2.heap.size := by have := hb.size; simp at this; omega
   clear hb
   go_wp2_with fail
   refine (HCo.out _).mono ?_
   rintro e w3 ⟨rfl, hb⟩
   have HE3 : Hid (Ext w w3) := HE2.out.trans hb
   have HX3 : Hid (Ext w2 w3) := hb
   clear hb
   go_wp2_with fail
   refine (HIn.out _).mono ?_
   rintro e w4 ⟨rfl, hb⟩
   have HE4 : Hid (Ext w w4) := HE3.out.trans hb
   have hb := HX3.out.trans hb
   have d0 := ((Ext.cell hb).1 _ _ hlt2).trans c0
   have d1 := ((Ext.cell hb).1 _ _ hlt2).trans c1
   have d2 := ((Ext.cell hb).1 _ _ hlt2).trans c2
   clear hb c0 c1 c2 HX3
   clear d0 d1 d2
   go_wp2
   go_ret
   exact ⟨rfl, HE4.out⟩
 ·rw [Msg.cert_bad hc]
  have g : (Msg.ledger f ms == 0) = false := by simpa using hc
  clear hc HQ0 HCo HIn
  generalize Msg.ledger f ms = k at *
  go_enter Tryz.func35, Tryz.ntmps35
  go_wp2_with fail
  refine (HF.out _ ((Ext.refl _).alloc _)).mono ?_
  rintro e w2 ⟨rfl, hb⟩
  have HE2 : Hid (Ext w w2) := ((Ext.refl _).alloc _).trans hb
  clear hb
  go_wp2
  go_ret
  exact ⟨rfl, HE2.out⟩
end Go.Proofs.YtecgjdgfjgcmdaaGreat
