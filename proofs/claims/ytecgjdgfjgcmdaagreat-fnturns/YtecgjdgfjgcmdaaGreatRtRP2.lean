/- what one who speaks does at once: refuseIf, isPrimary, vote, sent, hasSlot, hasValue. -/
import Derived.Test.YtecgjdgfjgcmdaaGreatRtGP
import Derived.Test.YtecgjdgfjgcmdaaGreatRtGA
import Derived.WalkLawsBesides
import Derived.Deep.RegionHeld3
import Derived.Test.YtecgjdgfjgcmdaaGreatRtTk
namespace Go.Proofs.YtecgjdgfjgcmdaaGreat
open Go.RowKit
/-- What a refusal is: the panic's value. -/
def refused (c : Int) : Ending := .panicked [{ v := .iface 117 (.int .i64 c), recovered := false }]
theorem refuse_no (c : Int) (w : World) : Calls Tryz.prog 106 #[.bool false, .int .i64 c] w fun e w' => e = .returned (.tuple #[]) ∧ w' = w := by
 go_enter Tryz.func106, Tryz.ntmps106
 go_wp2
 go_end0
 exact ⟨rfl, rfl⟩
theorem refuse_yes (c : Int) (w : World) : Calls Tryz.prog 106 #[.bool true, .int .i64 c] w fun e w' => e = refused c ∧ w' = w := by
 go_enter Tryz.func106, Tryz.ntmps106
 go_wp2
 exact ⟨rfl, rfl, rfl⟩
/-- A speaker's value, and its box. -/
def sagg (r : Rp) (f : Int) (v : Value) (bg : Bool) (u : Value) : Value := .agg #[.int .i64 r.id, .int .i64 r.view, .int .i64 r.start, .int .i64 r.done, .int .i64 f, v, .bool bg, u]
def SpAt (w : World) (b : Nat) (r : Rp) (f : Int) (v : Value) (bg : Bool) (u : Value) : Prop := b < w.heap.size ∧ w.cell? ⟨b, 0, none⟩ = some (.int .i64 r.id) ∧ w.cell? ⟨b, 1, none⟩ = some (.int .i64 r.view) ∧ w.cell? ⟨b, 2, none⟩ = some (.int .i64 r.start) ∧ w.cell? ⟨b, 3, none⟩ = some (.int .i64 r.done) ∧ w.cell? ⟨b, 4, none⟩ = some (.int .i64 f) ∧ w.cell? ⟨b, 5, none⟩ = some v ∧ w.cell? ⟨b, 6, none⟩ = some (.bool bg) ∧ w.cell? ⟨b, 7, none⟩ = some u
theorem SpAt.ext {w w' : World} {b : Nat} {r : Rp} {f : Int} {v : Value} {bg : Bool} {u : Value} (h : SpAt w b r f v bg u) (he : Ext w w') : SpAt w' b r f v bg u := by
 obtain ⟨hc, _⟩ := Ext.cell he
 obtain ⟨h1, c0, c1, c2, c3, c4, c5, c6, c7⟩ := h
 exact ⟨Nat.lt_of_lt_of_le h1 he.size, (hc _ _ h1).trans c0, (hc _ _ h1).trans c1, (hc _ _ h1).trans c2, (hc _ _ h1).trans c3, (hc _ _ h1).trans c4, (hc _ _ h1).trans c5, (hc _ _ h1).trans c6, (hc _ _ h1).trans c7⟩
theorem spk_new (w : World) (r : Rp) (f : Int) (v : Value) (bg : Bool) (u : Value) (t : TypeId) : SpAt (w.alloc (.cells #[.int .i64 r.id, .int .i64 r.view, .int .i64 r.start, .int .i64 r.done, .int .i64 f, v, .bool bg, u] t)) w.heap.size r f v bg u := ⟨by simp, by simp, by simp, by simp, by simp, by simp, by simp, by simp, by simp⟩
set_option linter.unusedSimpArgs false in
set_option maxHeartbeats 4000000 in
set_option maxRecDepth 100000 in
theorem spkPrimary_any (r : Rp) (f : Int) (a : Option Addr) (n c : Nat) (bg : Bool) (aq : Option Addr) (nq cq : Nat) (bb : Bool) (w : World) (hf0 : 1 ≤ f) (hf1 : f ≤ 2) (hv : 0 ≤ r.view ∧ r.view ≤ 20) (hbb : decide (r.id = Msg.primary f r.view) = bb) :
  Calls Tryz.prog 109 #[sagg r f (.slice a n c) bg (.slice aq nq cq)] w fun e w' => e = .returned (.bool bb) ∧ Ext w w' := by
 have HP : Hid (∀ wx, Calls Tryz.prog 152 #[.int .i64 f, .int .i64 r.view] wx fun e w' => e = .returned (.agg #[.int .i64 0, .int .i64 (Msg.primary f r.view)]) ∧ Ext wx w') := fun wx => by
  have q := implPrimaryOf_any f r.view wx
  have e : Msg.primV f r.view = (0, Msg.primary f r.view) := by
   unfold Msg.primV
   rw [show Msg.fOk f = true from by unfold Msg.fOk; simp; omega, if_neg (by decide), if_neg (by simp; omega)]
  rw [e] at q
  exact q
 clear hf0 hf1 hv
 generalize Msg.primary f r.view = pv at *
 have hq : (pv == r.id) = bb := by rw [← hbb]; rw [Bool.eq_iff_iff]; simp only [beq_iff_eq, decide_eq_true_eq]; exact eq_comm
 clear hbb
 have hf2 : ∀ (x y : Int) (W : World), (Instr.field 65 (.agg #[.int .i64 x, .int .i64 y]) 1).run Tryz.prog W = .ok (.int .i64 y) W := fun _ _ _ => by kernel_rfl
 unfold sagg
 go_enter Tryz.func109, Tryz.ntmps109
 go_wp2
 obtain ⟨W0, hW0⟩ : ∃ W0, W0 = w.alloc (.cells #[.int .i64 r.id, .int .i64 r.view, .int .i64 r.start, .int .i64 r.done, .int .i64 f, .slice a n c, .bool bg, .slice aq nq cq] 76) := ⟨_, rfl⟩
 have HS : Hid (∀ W', Ext W0 W' → W'.cell? ⟨w.heap.size, 4, none⟩ = some (.int .i64 f) ∧ W'.cell? ⟨w.heap.size, 1, none⟩ = some (.int .i64 r.view) ∧ W'.cell? ⟨w.heap.size, 0, none⟩ = some (.int .i64 r.id)) := fun W' he => by
  obtain ⟨h1, c0, c1, c2, c3, c4, c5, c6, c7⟩ := (spk_new w r f (.slice a n c) bg (.slice aq nq cq) 76).ext (hW0 ▸ he)
  exact ⟨c4, c1, c0⟩
 have HE0 : Hid (Ext w W0) := by rw [hW0]; exact (Ext.refl _).alloc _
 rw [← hW0]
 clear hW0
 refine wp_region_held_drew (S := (fun W' : World => W'.cell? ⟨w.heap.size, 4, none⟩ = some (.int .i64 f) ∧ W'.cell? ⟨w.heap.size, 1, none⟩ = some (.int .i64 r.view) ∧ W'.cell? ⟨w.heap.size, 0, none⟩ = some (.int .i64 r.id))) (by kernel_rfl) (HS.out _ ((Ext.refl _).drew)) (fun hHeld => ?_)
 refine tk 0 ⟨some 3, .fieldAddr 76 (.tmp 1) 1, 0, oz210, #[], none⟩ ?_
 refine tk 1 ⟨some 4, .load 2 (.tmp 3), 2, oz210, #[⟨0, .data⟩], none⟩ ?_
 refine tk 2 ⟨some 5, .fieldAddr 76 (.tmp 1) 0, 0, oz210, #[], none⟩ ?_
 refine tk 3 ⟨some 6, .fieldAddr 29 (.tmp 5) 1, 0, oz210, #[⟨2, .data⟩], none⟩ ?_
 refine tk 4 ⟨some 7, .load 2 (.tmp 6), 2, oz210, #[⟨3, .data⟩], none⟩ ?_
 refine tk 7 ⟨some 10, .fieldAddr 76 (.tmp 1) 0, 0, oz210, #[], none⟩ ?_
 refine tk 8 ⟨some 11, .fieldAddr 29 (.tmp 10) 0, 0, oz210, #[⟨7, .data⟩], none⟩ ?_
 refine tk 9 ⟨some 12, .load 2 (.tmp 11), 2, oz210, #[⟨8, .data⟩], none⟩ ?_
 refine wpAnyH_ready (rs := [5]) (by kernel_rfl) (by simp) (AllReadyH.cons rfl (fun K hK => ?_) AllReadyH.nil)
 go_simp
 refine (HP.out _).mono ?_
 rintro e y1 ⟨rfl, hb⟩
 have X1 : Hid (Ext W0 y1) := ((Ext.refl _).drew).trans hb
 clear hb
 refine hK.out _ _ (by exact HS.out _ X1.out) (fun hHeld1 => ?_)
 clear hK K
 refine tk 6 ⟨some 9, .field 65 (.tmp 8) 1, 2, oz210, #[⟨5, .data⟩], none⟩ ?_
 refine tk 10 ⟨some 13, .binOp .eql 2 (.tmp 9) (.tmp 12) 2, 4, oz210, #[⟨6, .data⟩, ⟨9, .data⟩], none⟩ ?_
 refine tk 11 ⟨some 2, .assign (.tmp 13), 4, oz210, #[⟨10, .data⟩, ⟨5, .chain⟩, ⟨0, .phase⟩, ⟨1, .phase⟩, ⟨2, .phase⟩, ⟨3, .phase⟩, ⟨4, .phase⟩, ⟨5, .phase⟩, ⟨6, .phase⟩, ⟨7, .phase⟩, ⟨8, .phase⟩, ⟨9, .phase⟩, ⟨10, .phase⟩], none⟩ ?_
 refine wpAnyH_done (by kernel_rfl) ?_ _
 (try go_wp2)
 go_ret
 exact ⟨ret_bool (by first | exact hq | simp [hq]), HE0.out.trans X1.out⟩

namespace Msg
end Msg
/-- Messages in a row of their own, whose lists lie somewhere. -/
def SRow (base : Nat) (w : World) (W : World) (ov : Value) (l : List Ms) : Prop :=
 ∃ ps : List (Ms × Value × Value), ps.map (·.1) = l ∧ W.ownsRow base 40 7 ov l.length (Dr.cellsP ps) ∧ ∀ p ∈ ps, MLs w p.2.1 p.2.2 p.1
theorem SRow.slice {base : Nat} {w W : World} {ov : Value} {l : List Ms} (h : SRow base w W ov l) (he : Ext w W) : MSlice W ov l := by
 obtain ⟨ps, rfl, h1, hL⟩ := h
 have hlt := h1.lt
 rw [List.length_map] at h1
 rcases h1.2 with ⟨hv, h0⟩ | ⟨g, cap, cur, hv, hb, hh, hn, hm, hcs, htk⟩
 ·exact ⟨none, 0, by rw [hv, List.length_map, h0], by rw [List.length_map]; omega, by unfold maxLen; omega, fun hp => by rw [List.length_map] at hp; omega⟩
 ·subst hv
  refine ⟨some ⟨g, 0, none⟩, cap, by rw [List.length_map], by rw [List.length_map]; exact hn, hm, fun hp => ⟨g, 0, rfl, (hlt g rfl).2, fun i m hi => ?_⟩⟩
  rw [List.getElem?_map] at hi
  obtain ⟨p, hpi, rfl⟩ := Option.map_eq_some_iff.1 hi
  have hil := (List.getElem?_eq_some_iff.1 hpi).1
  obtain ⟨c0, c1, c2, c3, c4, c5, c6⟩ := Dr.cellsP_at ps i p hpi
  refine ⟨p.2.1, p.2.2, ?_, (hL p (List.mem_of_getElem? hpi)).ext he⟩
  rw [Nat.zero_add]
  have e := fun j (hj : j < 7) => h1.cellAt (i * 7 + j) (by omega)
  exact ⟨(by have := e 0 (by omega); rw [Nat.add_zero] at this; exact this.trans c0), (e 1 (by omega)).trans c1, (e 2 (by omega)).trans c2, (e 3 (by omega)).trans c3, (e 4 (by omega)).trans c4, (e 5 (by omega)).trans c5, (e 6 (by omega)).trans c6⟩
end Go.Proofs.YtecgjdgfjgcmdaaGreat
