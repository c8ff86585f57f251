/- what one who speaks does at once: refuseIf, isPrimary, vote, sent, hasSlot, hasValue. -/
import Derived.Test.YtecgjdgfjgcmdaaGreatRmGP
import Derived.Test.YtecgjdgfjgcmdaaGreatRmGA
import Derived.WalkLawsBesides
import Derived.Deep.RegionHeld3
import Derived.Test.YtecgjdgfjgcmdaaGreatRmTk
namespace Go.Proofs.YtecgjdgfjgcmdaaGreat
open Go.RowKit
/-- What a refusal is: the panic's value. -/
def refused (c : Int) : Ending := .panicked [{ v := .iface 117 (.int .i64 c), recovered := false }]
theorem refuse_no (c : Int) (w : World) : Calls Tryz.prog 106 #[.bool false, .int .i64 c] w fun e w' => e = .returned (.tuple #[]) ∧ w' = w := by
 go_enter Tryz.func106, Tryz.ntmps106
 go_wp2
 go_end0
 exact ⟨rfl, rfl⟩
theorem refuse_yes (c : Int) (w : World) : Calls Tryz.prog 106 #[.bool true, .int .i64 c] w fun e w' => e = refused c ∧ w' = w := by
 go_enter Tryz.func106, Tryz.ntmps106
 go_wp2
 exact ⟨rfl, rfl, rfl⟩
/-- A speaker's value, and its box. -/
def sagg (r : Rp) (f : Int) (v : Value) (bg : Bool) (u : Value) : Value := .agg #[.int .i64 r.id, .int .i64 r.view, .int .i64 r.start, .int .i64 r.done, .int .i64 f, v, .bool bg, u]
def SpAt (w : World) (b : Nat) (r : Rp) (f : Int) (v : Value) (bg : Bool) (u : Value) : Prop := b < w.heap.size ∧ w.cell? ⟨b, 0, none⟩ = some (.int .i64 r.id) ∧ w.cell? ⟨b, 1, none⟩ = some (.int .i64 r.view) ∧ w.cell? ⟨b, 2, none⟩ = some (.int .i64 r.start) ∧ w.cell? ⟨b, 3, none⟩ = some (.int .i64 r.done) ∧ w.cell? ⟨b, 4, none⟩ = some (.int .i64 f) ∧ w.cell? ⟨b, 5, none⟩ = some v ∧ w.cell? ⟨b, 6, none⟩ = some (.bool bg) ∧ w.cell? ⟨b, 7, none⟩ = some u
theorem SpAt.ext {w w' : World} {b : Nat} {r : Rp} {f : Int} {v : Value} {bg : Bool} {u : Value} (h : SpAt w b r f v bg u) (he : Ext w w') : SpAt w' b r f v bg u := by
 obtain ⟨hc, _⟩ := Ext.cell he
 obtain ⟨h1, c0, c1, c2, c3, c4, c5, c6, c7⟩ := h
 exact ⟨Nat.lt_of_lt_of_le h1 he.size, (hc _ _ h1).trans c0, (hc _ _ h1).trans c1, (hc _ _ h1).trans c2, (hc _ _ h1).trans c3, (hc _ _ h1).trans c4, (hc _ _ h1).trans c5, (hc _ _ h1).trans c6, (hc _ _ h1).trans c7⟩
theorem spk_new (w : World) (r : Rp) (f : Int) (v : Value) (bg : Bool) (u : Value) (t : TypeId) : SpAt (w.alloc (.cells #[.int .i64 r.id, .int .i64 r.view, .int .i64 r.start, .int .i64 r.done, .int .i64 f, v, .bool bg, u] t)) w.heap.size r f v bg u := ⟨by simp, by simp, by simp, by simp, by simp, by simp, by simp, by simp, by simp⟩
set_option maxHeartbeats 1000000 in
theorem vote_any (r : Rp) (f : Int) (a : Option Addr) (n c : Nat) (bg : Bool) (aq : Option Addr) (nq cq : Nat) (kind slot value : Int) (w : World) :
  Calls Tryz.prog 115 #[sagg r f (.slice a n c) bg (.slice aq nq cq), .int .i64 kind, .int .i64 slot, .int .i64 value] w fun e w' => e = .returned (magg ⟨kind, r.view, r.id, slot, value, [], []⟩ (.slice none 0 0) (.slice none 0 0)) ∧ Ext w w' := by
 unfold sagg
 go_enter Tryz.func115, Tryz.ntmps115
 go_wp2
 refine bodyPost_ret (v := magg ⟨kind, r.view, r.id, slot, value, [], []⟩ (.slice none 0 0) (.slice none 0 0)) (by simp [results, Tryz.results115, go_sem, magg]) rfl ?_
 exact ⟨rfl, ((Ext.refl _).alloc _).alloc _⟩
set_option linter.unusedSimpArgs false in
set_option maxHeartbeats 4000000 in
set_option maxRecDepth 100000 in
theorem spkPrimary_any (r : Rp) (f : Int) (a : Option Addr) (n c : Nat) (bg : Bool) (aq : Option Addr) (nq cq : Nat) (bb : Bool) (w : World) (hf0 : 1 ≤ f) (hf1 : f ≤ 2) (hv : 0 ≤ r.view ∧ r.view ≤ 20) (hbb : decide (r.id = Msg.primary f r.view) = bb) :
  Calls Tryz.prog 109 #[sagg r f (.slice a n c) bg (.slice aq nq cq)] w fun e w' => e = .returned (.bool bb) ∧ Ext w w' := by
 have HP : Hid (∀ wx, Calls Tryz.prog 152 #[.int .i64 f, .int .i64 r.view] wx fun e w' => e = .returned (.agg #[.int .i64 0, .int .i64 (Msg.primary f r.view)]) ∧ Ext wx w') := fun wx => by
  have q := implPrimaryOf_any f r.view wx
  have e : Msg.primV f r.view = (0, Msg.primary f r.view) := by
   unfold Msg.primV
   rw [show Msg.fOk f = true from by unfold Msg.fOk; simp; omega, if_neg (by decide), if_neg (by simp; omega)]
  rw [e] at q
  exact q
 clear hf0 hf1 hv
 generalize Msg.primary f r.view = pv at *
 have hq : (pv == r.id) = bb := by rw [← hbb]; rw [Bool.eq_iff_iff]; simp only [beq_iff_eq, decide_eq_true_eq]; exact eq_comm
 clear hbb
 have hf2 : ∀ (x y : Int) (W : World), (Instr.field 65 (.agg #[.int .i64 x, .int .i64 y]) 1).run Tryz.prog W = .ok (.int .i64 y) W := fun _ _ _ => by kernel_rfl
 unfold sagg
 go_enter Tryz.func109, Tryz.ntmps109
 go_wp2
 obtain ⟨W0, hW0⟩ : ∃ W0, W0 = w.alloc (.cells #[.int .i64 r.id, .int .i64 r.view, .int .i64 r.start, .int .i64 r.done, .int .i64 f, .slice a n c, .bool bg, .slice aq nq cq] 76) := ⟨_, rfl⟩
 have HS : Hid (∀ W', Ext W0 W' → W'.cell? ⟨w.heap.size, 4, none⟩ = some (.int .i64 f) ∧ W'.cell? ⟨w.heap.size, 1, none⟩ = some (.int .i64 r.view) ∧ W'.cell? ⟨w.heap.size, 0, none⟩ = some (.int .i64 r.id)) := fun W' he => by
  obtain ⟨h1, c0, c1, c2, c3, c4, c5, c6, c7⟩ := (spk_new w r f (.slice a n c) bg (.slice aq nq cq) 76).ext (hW0 ▸ he)
  exact ⟨c4, c1, c0⟩
 have HE0 : Hid (Ext w W0) := by rw [hW0]; exact (Ext.refl _).alloc _
 rw [← hW0]
 clear hW0
 refine wp_region_held_drew (S := (fun W' : World => W'.cell? ⟨w.heap.size, 4, none⟩ = some (.int .i64 f) ∧ W'.cell? ⟨w.heap.size, 1, none⟩ = some (.int .i64 r.view) ∧ W'.cell? ⟨w.heap.size, 0, none⟩ = some (.int .i64 r.id))) (by kernel_rfl) (HS.out _ ((Ext.refl _).drew)) (fun hHeld => ?_)
 refine tk 0 ⟨some 3, .fieldAddr 76 (.tmp 1) 1, 0, oz216, #[], none⟩ ?_
 refine tk 1 ⟨some 4, .load 2 (.tmp 3), 2, oz216, #[⟨0, .data⟩], none⟩ ?_
 refine tk 2 ⟨some 5, .fieldAddr 76 (.tmp 1) 0, 0, oz216, #[], none⟩ ?_
 refine tk 3 ⟨some 6, .fieldAddr 29 (.tmp 5) 1, 0, oz216, #[⟨2, .data⟩], none⟩ ?_
 refine tk 4 ⟨some 7, .load 2 (.tmp 6), 2, oz216, #[⟨3, .data⟩], none⟩ ?_
 refine tk 7 ⟨some 10, .fieldAddr 76 (.tmp 1) 0, 0, oz216, #[], none⟩ ?_
 refine tk 8 ⟨some 11, .fieldAddr 29 (.tmp 10) 0, 0, oz216, #[⟨7, .data⟩], none⟩ ?_
 refine tk 9 ⟨some 12, .load 2 (.tmp 11), 2, oz216, #[⟨8, .data⟩], none⟩ ?_
 refine wpAnyH_ready (rs := [5]) (by kernel_rfl) (by simp) (AllReadyH.cons rfl (fun K hK => ?_) AllReadyH.nil)
 go_simp
 refine (HP.out _).mono ?_
 rintro e y1 ⟨rfl, hb⟩
 have X1 : Hid (Ext W0 y1) := ((Ext.refl _).drew).trans hb
 clear hb
 refine hK.out _ _ (by exact HS.out _ X1.out) (fun hHeld1 => ?_)
 clear hK K
 refine tk 6 ⟨some 9, .field 65 (.tmp 8) 1, 2, oz216, #[⟨5, .data⟩], none⟩ ?_
 refine tk 10 ⟨some 13, .binOp .eql 2 (.tmp 9) (.tmp 12) 2, 4, oz216, #[⟨6, .data⟩, ⟨9, .data⟩], none⟩ ?_
 refine tk 11 ⟨some 2, .assign (.tmp 13), 4, oz216, #[⟨10, .data⟩, ⟨5, .chain⟩, ⟨0, .phase⟩, ⟨1, .phase⟩, ⟨2, .phase⟩, ⟨3, .phase⟩, ⟨4, .phase⟩, ⟨5, .phase⟩, ⟨6, .phase⟩, ⟨7, .phase⟩, ⟨8, .phase⟩, ⟨9, .phase⟩, ⟨10, .phase⟩], none⟩ ?_
 refine wpAnyH_done (by kernel_rfl) ?_ _
 (try go_wp2)
 go_ret
 exact ⟨ret_bool (by first | exact hq | simp [hq]), HE0.out.trans X1.out⟩

namespace Msg
theorem saidL_no {ms : List Ms} {r : Rp} {kd : Int} {k : Nat} {z : Ms} (h : ms[k]? = some z) (h2 : saidB r kd z = false) : saidL (ms.take (k + 1)) r kd = saidL (ms.take k) r kd := by
 unfold saidL
 rw [List.take_add_one, h, List.filter_append]
 simp [h2]
theorem saidL_yes {ms : List Ms} {r : Rp} {kd : Int} {k : Nat} {z : Ms} (h : ms[k]? = some z) (h2 : saidB r kd z = true) : saidL (ms.take (k + 1)) r kd = saidL (ms.take k) r kd ++ [z] := by
 unfold saidL
 rw [List.take_add_one, h, List.filter_append]
 simp [h2]
theorem saidL_len (ms : List Ms) (r : Rp) (kd : Int) : (saidL ms r kd).length ≤ ms.length := List.length_filter_le _ _
end Msg
/-- Messages in a row of their own, whose lists lie somewhere. -/
def SRow (base : Nat) (w : World) (W : World) (ov : Value) (l : List Ms) : Prop :=
 ∃ ps : List (Ms × Value × Value), ps.map (·.1) = l ∧ W.ownsRow base 40 7 ov l.length (Dr.cellsP ps) ∧ ∀ p ∈ ps, MLs w p.2.1 p.2.2 p.1
theorem SRow.slice {base : Nat} {w W : World} {ov : Value} {l : List Ms} (h : SRow base w W ov l) (he : Ext w W) : MSlice W ov l := by
 obtain ⟨ps, rfl, h1, hL⟩ := h
 have hlt := h1.lt
 rw [List.length_map] at h1
 rcases h1.2 with ⟨hv, h0⟩ | ⟨g, cap, cur, hv, hb, hh, hn, hm, hcs, htk⟩
 ·exact ⟨none, 0, by rw [hv, List.length_map, h0], by rw [List.length_map]; omega, by unfold maxLen; omega, fun hp => by rw [List.length_map] at hp; omega⟩
 ·subst hv
  refine ⟨some ⟨g, 0, none⟩, cap, by rw [List.length_map], by rw [List.length_map]; exact hn, hm, fun hp => ⟨g, 0, rfl, (hlt g rfl).2, fun i m hi => ?_⟩⟩
  rw [List.getElem?_map] at hi
  obtain ⟨p, hpi, rfl⟩ := Option.map_eq_some_iff.1 hi
  have hil := (List.getElem?_eq_some_iff.1 hpi).1
  obtain ⟨c0, c1, c2, c3, c4, c5, c6⟩ := Dr.cellsP_at ps i p hpi
  refine ⟨p.2.1, p.2.2, ?_, (hL p (List.mem_of_getElem? hpi)).ext he⟩
  rw [Nat.zero_add]
  have e := fun j (hj : j < 7) => h1.cellAt (i * 7 + j) (by omega)
  exact ⟨(by have := e 0 (by omega); rw [Nat.add_zero] at this; exact this.trans c0), (e 1 (by omega)).trans c1, (e 2 (by omega)).trans c2, (e 3 (by omega)).trans c3, (e 4 (by omega)).trans c4, (e 5 (by omega)).trans c5, (e 6 (by omega)).trans c6⟩
set_option linter.unusedSimpArgs false in
set_option maxHeartbeats 8000000 in
set_option maxRecDepth 100000 in
theorem sent_any (r : Rp) (f : Int) (v : Value) (ms : List Ms) (bg : Bool) (aq : Option Addr) (nq cq : Nat) (kind : Int) (w : World) (hS : MSlice w v ms) (hml : ms.length ≤ 240) :
  Calls Tryz.prog 110 #[sagg r f v bg (.slice aq nq cq), .int .i64 kind] w fun e w' => ∃ vo, e = .returned vo ∧ MSlice w' vo (Msg.saidL ms r kind) ∧ Ext w w' := by
 have hi9 : (Tryz.prog.info? 40).map (fun i => (i.zero, i.size, i.bytes)) = some (some (.agg #[.int .i64 0, .int .i64 0, .int .i64 0, .int .i64 0, .int .i64 0, .slice none 0 0, .slice none 0 0]), 7, 88) := by kernel_rfl
 obtain ⟨tc, htc, hxx⟩ := Option.map_eq_some_iff.1 hi9
 simp only [Prod.mk.injEq] at hxx
 obtain ⟨hy0, hy1, hy2⟩ := hxx
 clear hi9
 have HSl : Hid (MSlice w v ms) := hS
 obtain ⟨a, cap, rfl, -, hcap, -⟩ := hS
 unfold maxLen at hcap
 unfold sagg
 go_enter Tryz.func110, Tryz.ntmps110
 go_wp2
 go_loopw [5, 11] (fun ov i wr => ∃ (k : Nat), k ≤ ms.length ∧ i = .int .i64 k ∧ Hid (SRow (w.heap.size + 1) w wr ov (Msg.saidL (ms.take k) r kind)) ∧ Hid (Ext (w.alloc (.cells #[.int .i64 r.id, .int .i64 r.view, .int .i64 r.start, .int .i64 r.done, .int .i64 f, .slice a ms.length cap, .bool bg, .slice aq nq cq] 76)) wr)) (fun _ i _ => ms.length - (intOf i).toNat)
 case atStart => exact ⟨0, Nat.zero_le _, rfl, ⟨[], rfl, World.ownsRow_nil _ _ _ _, fun p hp => by cases hp⟩, Ext.refl _⟩
 case round =>
  obtain ⟨k, hk, rfl, HO, HE⟩ := hrel
  have HEw : Hid (Ext w wr) := ((Ext.refl _).alloc _).trans HE.out
  by_cases hlt : k < ms.length
  ·obtain ⟨z, h2⟩ : ∃ z, ms[k]? = some z := ⟨_, List.getElem?_eq_getElem hlt⟩
   obtain ⟨b1, off1, cap1, e1, hlt1, hlm1, hcm1, hb1, hm⟩ := HSl.out.at2 h2
   injection e1 with e1 e4 e5
   subst e1 e5
   have HZ : Hid (ms[k]? = some z) := h2
   have hws : w.heap.size + 1 ≤ wr.heap.size := by have := HE.out.size; simpa using this
   obtain ⟨vz, uz, ⟨d0, d1, d2, d3, d4, d5, d6⟩, hml2⟩ := hm
   have HL : Hid (MLs w vz uz z) := hml2
   obtain ⟨⟨ac, cc, rfl, -⟩, ⟨ar, cr, rfl, -⟩⟩ := hml2
   have c0 := ((Ext.cell HEw.out).1 _ _ hb1).trans d0
   have c1 := ((Ext.cell HEw.out).1 _ _ hb1).trans d1
   have c2 := ((Ext.cell HEw.out).1 _ _ hb1).trans d2
   have c3 := ((Ext.cell HEw.out).1 _ _ hb1).trans d3
   have c4 := ((Ext.cell HEw.out).1 _ _ hb1).trans d4
   have c5 := ((Ext.cell HEw.out).1 _ _ hb1).trans d5
   have c6 := ((Ext.cell HEw.out).1 _ _ hb1).trans d6
   obtain ⟨x0, x1, x2, -, -, -, -, -, -⟩ := (spk_new w r f (.slice (some ⟨b1, off1, none⟩) ms.length cap) bg (.slice aq nq cq) 76).ext HE.out
   clear h2 e4 d0 d1 d2 d3 d4 d5 d6
   by_cases h3 : z.kind = kind
   ·have g3 : (z.kind == kind) = true := by simpa using h3
    by_cases h4 : z.view = r.view
    ·have g4 : (z.view == r.view) = true := by simpa using h4
     by_cases h5 : z.from_ = r.id
     ·have g5 : (z.from_ == r.id) = true := by simpa using h5
      have HK2 : Hid (Msg.saidL (ms.take (k + 1)) r kind = Msg.saidL (ms.take k) r kind ++ [z]) := Msg.saidL_yes HZ.out (by unfold Msg.saidB; simp [h3, h4, h5])
      have hcl : (Msg.saidL (ms.take k) r kind).length ≤ 240 := by have := Msg.saidL_len (ms.take k) r kind; rw [List.length_take] at this; omega
      clear h3 h4 h5
      obtain ⟨ps, hps, hown, hLs⟩ := HO.out
      have HPs : Hid (ps.map (·.1) = Msg.saidL (ms.take k) r kind) := hps
      have HLs : Hid (∀ p ∈ ps, MLs w p.2.1 p.2.2 p.1) := hLs
      have HOw : Hid (wr.ownsRow (w.heap.size + 1) 40 7 u5 (Msg.saidL (ms.take k) r kind).length (Dr.cellsP ps)) := hown
      clear hps hLs hown HO
      go_wp2_with (at_builtin; go_must (refine wpList_append_own _ rfl _ _ 27 rfl (w.heap.size + 1) 40 tc (.agg #[.int .i64 0, .int .i64 0, .int .i64 0, .int .i64 0, .int .i64 0, .slice none 0 0, .slice none 0 0]) 7 88 Tryz.underlying27 htc hy0 hy1 hy2 rfl (by decide) _ _ _ rfl ((HOw.out.alloc _).alloc _) ⟨wr.heap.size + 1, 0, none⟩ 1 1 (Dr.cellsP [(z, .slice ac z.certs.length cc, .slice ar z.refs.length cr)]) rfl rfl (by have q := Dr.msg_new (wr.alloc (.cells #[.int .i64 z.kind, .int .i64 z.view, .int .i64 z.from_, .int .i64 z.slot, .int .i64 z.value, .slice ac z.certs.length cc, .slice ar z.refs.length cr] 40)) z (.slice ac z.certs.length cc) (.slice ar z.refs.length cr) 40; simpa using q) (Dr.cellsP_one _ (fun p hp => by simp at hp; subst hp; exact ⟨rfl, rfl⟩)) (by unfold maxLen; omega) (by omega) (by simp; omega) ?_; intro v6 w6 hown6 hgrow6 hnil6))
      refine ⟨⟨k + 1, by omega, by go_num, ?_, Below.grown ((HE.out.alloc _).alloc _) hgrow6 (by simp; omega) (fun q hq => by have := (HOw.out.lt q hq).1; simpa using this)⟩, by simp [intOf]; omega⟩
      show SRow _ _ _ _ _
      rw [HK2.out]
      refine ⟨ps ++ [(z, .slice ac z.certs.length cc, .slice ar z.refs.length cr)], by rw [List.map_append, HPs.out]; rfl, by rw [Dr.cellsP_app, List.length_append]; exact hown6, fun p hp => ?_⟩
      rw [List.mem_append, List.mem_singleton] at hp
      rcases hp with hp | rfl
      ·exact HLs.out p hp
      ·exact HL.out
     ·have g5 : (z.from_ == r.id) = false := by simpa using h5
      have HK2 : Hid (Msg.saidL (ms.take (k + 1)) r kind = Msg.saidL (ms.take k) r kind) := Msg.saidL_no HZ.out (by unfold Msg.saidB; simp [h5])
      clear h3 h4 h5
      go_wp2
      exact ⟨⟨k + 1, by omega, by go_num, by rw [HK2.out]; exact (by obtain ⟨ps, q1, q2, q3⟩ := HO.out; exact ⟨ps, q1, q2.alloc _, q3⟩), HE.out.alloc _⟩, by simp [intOf]; omega⟩
    ·have g4 : (z.view == r.view) = false := by simpa using h4
     have HK2 : Hid (Msg.saidL (ms.take (k + 1)) r kind = Msg.saidL (ms.take k) r kind) := Msg.saidL_no HZ.out (by unfold Msg.saidB; simp [h4])
     clear h3 h4
     go_wp2
     exact ⟨⟨k + 1, by omega, by go_num, by rw [HK2.out]; exact (by obtain ⟨ps, q1, q2, q3⟩ := HO.out; exact ⟨ps, q1, q2.alloc _, q3⟩), HE.out.alloc _⟩, by simp [intOf]; omega⟩
   ·have g3 : (z.kind == kind) = false := by simpa using h3
    have HK2 : Hid (Msg.saidL (ms.take (k + 1)) r kind = Msg.saidL (ms.take k) r kind) := Msg.saidL_no HZ.out (by unfold Msg.saidB; simp [h3])
    clear h3
    go_wp2
    exact ⟨⟨k + 1, by omega, by go_num, by rw [HK2.out]; exact (by obtain ⟨ps, q1, q2, q3⟩ := HO.out; exact ⟨ps, q1, q2.alloc _, q3⟩), HE.out.alloc _⟩, by simp [intOf]; omega⟩
  ·have hke : k = ms.length := by omega
   subst hke
   have hT : MSlice wr u5 (Msg.saidL ms r kind) := by have q := HO.out; rw [List.take_length] at q; exact q.slice HEw.out
   have HT : Hid (MSlice wr u5 (Msg.saidL ms r kind)) := hT
   obtain ⟨a9, c9, rfl, -⟩ := hT
   go_wp2
   go_ret
   exact ⟨_, rfl, HT.out, HEw.out⟩

theorem any_hitM {l : List Ms} {p : Ms → Bool} {k : Nat} {z : Ms} (h : l[k]? = some z) (hp : p z = true) : l.any p = true := List.any_eq_true.2 ⟨z, List.mem_of_getElem? h, hp⟩
theorem any_noneM {l : List Ms} {p : Ms → Bool} (h : ∀ (j : Nat) z, l[j]? = some z → p z = false) : l.any p = false := by
 rw [List.any_eq_false]
 intro z hz
 obtain ⟨j, hj⟩ := List.getElem?_of_mem hz
 rw [h j z hj]
 decide

set_option maxHeartbeats 4000000 in
set_option maxRecDepth 100000 in
theorem indexFuncM_hasSlot (B : Nat) (p : Ms → Bool) (v : Value) (l : List Ms) (w : World) (hS : MSlice w v l) (HQ : Hid (∀ (z : Ms) (vz uz : Value) (wx : World), Ext w wx → MLs wx vz uz z → Calls Tryz.prog 154 #[magg z vz uz, .pointer (some ⟨B, 0, none⟩)] wx fun e w' => e = .returned (.bool (p z)) ∧ Ext wx w')) :
  Calls Tryz.prog 174 #[v, .func (.func 154) #[] #[.pointer (some ⟨B, 0, none⟩)]] w fun e w' => ∃ n : Int, e = .returned (.int .i64 n) ∧ decide (0 ≤ n) = l.any p ∧ Ext w w' := by
 have HX : Hid (MSlice w v l) := hS
 obtain ⟨a, cap, rfl, hlc, hcm, -⟩ := hS
 unfold maxLen at hcm
 go_enter Tryz.func174, Tryz.ntmps174
 go_wp2
 go_loopw [8] (fun i wr => ∃ (k : Nat), k ≤ l.length ∧ i = .int .i64 k ∧ Hid (∀ (j : Nat) z, j < k → l[j]? = some z → p z = false) ∧ Hid (Ext w wr)) (fun i _ => l.length - (intOf i).toNat)
 case atStart => exact ⟨0, Nat.zero_le _, rfl, fun j z h => by omega, Ext.refl _⟩
 case round =>
  obtain ⟨k, hk, rfl, HA, HE⟩ := hrel
  by_cases hlt : k < l.length
  ·obtain ⟨z, hzk⟩ : ∃ z, l[k]? = some z := ⟨_, List.getElem?_eq_getElem hlt⟩
   obtain ⟨b1, off1, cap1, e1, hlt1, hlm1, hcm1, hb1, hm⟩ := (HX.out.ext HE.out).at2 hzk
   injection e1 with e1 e4 e5
   subst e1 e5
   obtain ⟨vz, uz, ⟨d0, d1, d2, d3, d4, d5, d6⟩, hml2⟩ := hm
   have HZ : Hid (l[k]? = some z) := hzk
   have HS0 : Hid _ := HQ.out z vz uz wr HE.out hml2
   obtain ⟨⟨ac, cc, rfl, -⟩, ⟨ar, cr, rfl, -⟩⟩ := hml2
   unfold magg at HS0
   clear hzk e4
   cases hs : p z with
   | true =>
    have HF : Hid (l.any p = true) := any_hitM HZ.out hs
    rw [hs] at HS0
    clear hs
    go_wp2_with fail
    refine Calls.mono HS0.out ?_
    rintro e w2 ⟨rfl, hb2⟩
    have HE2 : Hid (Ext w w2) := HE.out.trans hb2
    clear hb2 d0 d1 d2 d3 d4 d5 d6
    go_wp2
    go_ret
    exact ⟨_, rfl, by rw [HF.out]; simp, HE2.out⟩
   | false =>
    have HA2 : Hid (∀ (j : Nat) z, j < k + 1 → l[j]? = some z → p z = false) := by
     intro j z' hj hz'
     by_cases hjk : j = k
     ·subst hjk; rw [HZ.out] at hz'; cases hz'; exact hs
     ·exact HA.out j z' (by omega) hz'
    rw [hs] at HS0
    clear hs
    go_wp2_with fail
    refine Calls.mono HS0.out ?_
    rintro e w2 ⟨rfl, hb2⟩
    have HE2 : Hid (Ext w w2) := HE.out.trans hb2
    clear hb2 d0 d1 d2 d3 d4 d5 d6
    go_wp2
    exact ⟨⟨k + 1, by omega, by go_num, HA2, HE2⟩, by simp [intOf]; omega⟩
  ·have HF : Hid (l.any p = false) := any_noneM (fun j z hz => HA.out j z (by have := (List.getElem?_eq_some_iff.1 hz).1; omega) hz)
   go_wp2
   go_ret
   exact ⟨_, rfl, by rw [HF.out]; decide, HE.out⟩
set_option maxHeartbeats 1000000 in
theorem containsFuncM_hasSlot (B : Nat) (p : Ms → Bool) (v : Value) (l : List Ms) (w : World) (hS : MSlice w v l) (HQ : Hid (∀ (z : Ms) (vz uz : Value) (wx : World), Ext w wx → MLs wx vz uz z → Calls Tryz.prog 154 #[magg z vz uz, .pointer (some ⟨B, 0, none⟩)] wx fun e w' => e = .returned (.bool (p z)) ∧ Ext wx w')) :
  Calls Tryz.prog 153 #[v, .func (.func 154) #[] #[.pointer (some ⟨B, 0, none⟩)]] w fun e w' => e = .returned (.bool (l.any p)) ∧ Ext w w' := by
 have HI : Hid (Calls Tryz.prog 174 #[v, .func (.func 154) #[] #[.pointer (some ⟨B, 0, none⟩)]] w fun e w' => ∃ n : Int, e = .returned (.int .i64 n) ∧ decide (0 ≤ n) = l.any p ∧ Ext w w') := indexFuncM_hasSlot B p v l w hS HQ
 obtain ⟨a, cap, rfl, -, -, -⟩ := hS
 generalize l.any p = Bq at *
 go_enter Tryz.func153, Tryz.ntmps153
 go_wp2_with fail
 refine HI.out.mono ?_
 rintro e w1 ⟨n, rfl, hn, hb⟩
 have HN : Hid (decide (0 ≤ n) = Bq) := hn
 have HB : Hid (Ext w w1) := hb
 clear hb hn
 go_wp2
 go_ret
 exact ⟨ret_bool HN.out, HB.out⟩
set_option maxHeartbeats 1000000 in
theorem hasSlot1_any (x : Int) (z : Ms) (vz uz : Value) (B : Nat) (w : World) (hL : MLs w vz uz z) (h : w.cell? ⟨B, 0, none⟩ = some (.int .i64 x)) :
  Calls Tryz.prog 154 #[magg z vz uz, .pointer (some ⟨B, 0, none⟩)] w fun e w' => e = .returned (.bool (decide (z.slot = x))) ∧ Ext w w' := by
 obtain ⟨⟨ac, cc, rfl, -⟩, ⟨ar, cr, rfl, -⟩⟩ := hL
 have h2 : ∀ o : Obj, (w.alloc o).cell? ⟨B, 0, none⟩ = some (.int .i64 x) := fun o => by rw [World.cell?_alloc_past _ _ _ (World.block_lt_of_cell? w _ h)]; exact h
 have hq : (z.slot == x) = decide (z.slot = x) := by by_cases h : z.slot = x <;> simp [h]
 clear h
 unfold magg
 go_enter Tryz.func154, Tryz.ntmps154
 go_wp2
 go_ret
 exact ⟨ret_bool (by first | rfl | exact hq | simp [hq]), (Ext.refl _).alloc _⟩
set_option maxHeartbeats 1000000 in
theorem hasSlot_any (x : Int) (v : Value) (l : List Ms) (w : World) (hS : MSlice w v l) :
  Calls Tryz.prog 111 #[v, .int .i64 x] w fun e w' => e = .returned (.bool (Msg.slotB l x)) ∧ Ext w w' := by
 have hmf : ∀ (fn : Fn) (first cap : Array Value) (w : World), (Instr.makeFunc fn first cap).run Tryz.prog w = .ok (.func fn first cap) w := fun _ _ _ _ => rfl
 have HC : Hid (Calls Tryz.prog 153 #[v, .func (.func 154) #[] #[.pointer (some ⟨w.heap.size, 0, none⟩)]] (w.alloc (.cells #[.int .i64 x] 2)) fun e w' => e = .returned (.bool (Msg.slotB l x)) ∧ Ext (w.alloc (.cells #[.int .i64 x] 2)) w') := containsFuncM_hasSlot w.heap.size (fun z => decide (z.slot = x)) v l _ (hS.ext ((Ext.refl _).alloc _)) (fun z vz uz wx he hL => hasSlot1_any x z vz uz w.heap.size wx hL (((Ext.cell he).1 _ _ (by simp)).trans (by simp)))
 obtain ⟨a, cap, rfl, -, -, -⟩ := hS
 generalize Msg.slotB l x = B at *
 go_enter Tryz.func111, Tryz.ntmps111
 go_wp2_with fail
 refine HC.out.mono ?_
 rintro e w1 ⟨rfl, hb⟩
 have HB : Hid (Ext w w1) := ((Ext.refl _).alloc _).trans hb
 clear hb
 go_wp2
 go_ret
 exact ⟨rfl, HB.out⟩

set_option maxHeartbeats 4000000 in
set_option maxRecDepth 100000 in
theorem indexFuncM_hasValue (B : Nat) (p : Ms → Bool) (v : Value) (l : List Ms) (w : World) (hS : MSlice w v l) (HQ : Hid (∀ (z : Ms) (vz uz : Value) (wx : World), Ext w wx → MLs wx vz uz z → Calls Tryz.prog 155 #[magg z vz uz, .pointer (some ⟨B, 0, none⟩)] wx fun e w' => e = .returned (.bool (p z)) ∧ Ext wx w')) :
  Calls Tryz.prog 174 #[v, .func (.func 155) #[] #[.pointer (some ⟨B, 0, none⟩)]] w fun e w' => ∃ n : Int, e = .returned (.int .i64 n) ∧ decide (0 ≤ n) = l.any p ∧ Ext w w' := by
 have HX : Hid (MSlice w v l) := hS
 obtain ⟨a, cap, rfl, hlc, hcm, -⟩ := hS
 unfold maxLen at hcm
 go_enter Tryz.func174, Tryz.ntmps174
 go_wp2
 go_loopw [8] (fun i wr => ∃ (k : Nat), k ≤ l.length ∧ i = .int .i64 k ∧ Hid (∀ (j : Nat) z, j < k → l[j]? = some z → p z = false) ∧ Hid (Ext w wr)) (fun i _ => l.length - (intOf i).toNat)
 case atStart => exact ⟨0, Nat.zero_le _, rfl, fun j z h => by omega, Ext.refl _⟩
 case round =>
  obtain ⟨k, hk, rfl, HA, HE⟩ := hrel
  by_cases hlt : k < l.length
  ·obtain ⟨z, hzk⟩ : ∃ z, l[k]? = some z := ⟨_, List.getElem?_eq_getElem hlt⟩
   obtain ⟨b1, off1, cap1, e1, hlt1, hlm1, hcm1, hb1, hm⟩ := (HX.out.ext HE.out).at2 hzk
   injection e1 with e1 e4 e5
   subst e1 e5
   obtain ⟨vz, uz, ⟨d0, d1, d2, d3, d4, d5, d6⟩, hml2⟩ := hm
   have HZ : Hid (l[k]? = some z) := hzk
   have HS0 : Hid _ := HQ.out z vz uz wr HE.out hml2
   obtain ⟨⟨ac, cc, rfl, -⟩, ⟨ar, cr, rfl, -⟩⟩ := hml2
   unfold magg at HS0
   clear hzk e4
   cases hs : p z with
   | true =>
    have HF : Hid (l.any p = true) := any_hitM HZ.out hs
    rw [hs] at HS0
    clear hs
    go_wp2_with fail
    refine Calls.mono HS0.out ?_
    rintro e w2 ⟨rfl, hb2⟩
    have HE2 : Hid (Ext w w2) := HE.out.trans hb2
    clear hb2 d0 d1 d2 d3 d4 d5 d6
    go_wp2
    go_ret
    exact ⟨_, rfl, by rw [HF.out]; simp, HE2.out⟩
   | false =>
    have HA2 : Hid (∀ (j : Nat) z, j < k + 1 → l[j]? = some z → p z = false) := by
     intro j z' hj hz'
     by_cases hjk : j = k
     ·subst hjk; rw [HZ.out] at hz'; cases hz'; exact hs
     ·exact HA.out j z' (by omega) hz'
    rw [hs] at HS0
    clear hs
    go_wp2_with fail
    refine Calls.mono HS0.out ?_
    rintro e w2 ⟨rfl, hb2⟩
    have HE2 : Hid (Ext w w2) := HE.out.trans hb2
    clear hb2 d0 d1 d2 d3 d4 d5 d6
    go_wp2
    exact ⟨⟨k + 1, by omega, by go_num, HA2, HE2⟩, by simp [intOf]; omega⟩
  ·have HF : Hid (l.any p = false) := any_noneM (fun j z hz => HA.out j z (by have := (List.getElem?_eq_some_iff.1 hz).1; omega) hz)
   go_wp2
   go_ret
   exact ⟨_, rfl, by rw [HF.out]; decide, HE.out⟩
set_option maxHeartbeats 1000000 in
theorem containsFuncM_hasValue (B : Nat) (p : Ms → Bool) (v : Value) (l : List Ms) (w : World) (hS : MSlice w v l) (HQ : Hid (∀ (z : Ms) (vz uz : Value) (wx : World), Ext w wx → MLs wx vz uz z → Calls Tryz.prog 155 #[magg z vz uz, .pointer (some ⟨B, 0, none⟩)] wx fun e w' => e = .returned (.bool (p z)) ∧ Ext wx w')) :
  Calls Tryz.prog 153 #[v, .func (.func 155) #[] #[.pointer (some ⟨B, 0, none⟩)]] w fun e w' => e = .returned (.bool (l.any p)) ∧ Ext w w' := by
 have HI : Hid (Calls Tryz.prog 174 #[v, .func (.func 155) #[] #[.pointer (some ⟨B, 0, none⟩)]] w fun e w' => ∃ n : Int, e = .returned (.int .i64 n) ∧ decide (0 ≤ n) = l.any p ∧ Ext w w') := indexFuncM_hasValue B p v l w hS HQ
 obtain ⟨a, cap, rfl, -, -, -⟩ := hS
 generalize l.any p = Bq at *
 go_enter Tryz.func153, Tryz.ntmps153
 go_wp2_with fail
 refine HI.out.mono ?_
 rintro e w1 ⟨n, rfl, hn, hb⟩
 have HN : Hid (decide (0 ≤ n) = Bq) := hn
 have HB : Hid (Ext w w1) := hb
 clear hb hn
 go_wp2
 go_ret
 exact ⟨ret_bool HN.out, HB.out⟩
set_option maxHeartbeats 1000000 in
theorem hasValue1_any (x : Int) (z : Ms) (vz uz : Value) (B : Nat) (w : World) (hL : MLs w vz uz z) (h : w.cell? ⟨B, 0, none⟩ = some (.int .i64 x)) :
  Calls Tryz.prog 155 #[magg z vz uz, .pointer (some ⟨B, 0, none⟩)] w fun e w' => e = .returned (.bool (decide (z.value = x))) ∧ Ext w w' := by
 obtain ⟨⟨ac, cc, rfl, -⟩, ⟨ar, cr, rfl, -⟩⟩ := hL
 have h2 : ∀ o : Obj, (w.alloc o).cell? ⟨B, 0, none⟩ = some (.int .i64 x) := fun o => by rw [World.cell?_alloc_past _ _ _ (World.block_lt_of_cell? w _ h)]; exact h
 have hq : (z.value == x) = decide (z.value = x) := by by_cases h : z.value = x <;> simp [h]
 clear h
 unfold magg
 go_enter Tryz.func155, Tryz.ntmps155
 go_wp2
 go_ret
 exact ⟨ret_bool (by first | rfl | exact hq | simp [hq]), (Ext.refl _).alloc _⟩
set_option maxHeartbeats 1000000 in
theorem hasValue_any (x : Int) (v : Value) (l : List Ms) (w : World) (hS : MSlice w v l) :
  Calls Tryz.prog 114 #[v, .int .i64 x] w fun e w' => e = .returned (.bool (Msg.valB l x)) ∧ Ext w w' := by
 have hmf : ∀ (fn : Fn) (first cap : Array Value) (w : World), (Instr.makeFunc fn first cap).run Tryz.prog w = .ok (.func fn first cap) w := fun _ _ _ _ => rfl
 have HC : Hid (Calls Tryz.prog 153 #[v, .func (.func 155) #[] #[.pointer (some ⟨w.heap.size, 0, none⟩)]] (w.alloc (.cells #[.int .i64 x] 2)) fun e w' => e = .returned (.bool (Msg.valB l x)) ∧ Ext (w.alloc (.cells #[.int .i64 x] 2)) w') := containsFuncM_hasValue w.heap.size (fun z => decide (z.value = x)) v l _ (hS.ext ((Ext.refl _).alloc _)) (fun z vz uz wx he hL => hasValue1_any x z vz uz w.heap.size wx hL (((Ext.cell he).1 _ _ (by simp)).trans (by simp)))
 obtain ⟨a, cap, rfl, -, -, -⟩ := hS
 generalize Msg.valB l x = B at *
 go_enter Tryz.func114, Tryz.ntmps114
 go_wp2_with fail
 refine HC.out.mono ?_
 rintro e w1 ⟨rfl, hb⟩
 have HB : Hid (Ext w w1) := ((Ext.refl _).alloc _).trans hb
 clear hb
 go_wp2
 go_ret
 exact ⟨rfl, HB.out⟩
end Go.Proofs.YtecgjdgfjgcmdaaGreat
