/- both PutMsgs: a ledger in memory of its own. -/
import Derived.Test.YtpncnfodgfldlaaDoorLxPM2
import Derived.Test.YtpncnfodgfldlaaDoorLxG3
import Derived.Test.YtpncnfodgfldlaaDoorLxG2
import Derived.Deep.RegionHeld3
import Derived.Test.YtpncnfodgfldlaaDoorLxTk
namespace Go.Proofs.YtpncnfodgfldlaaDoor
open Go.RowKit
namespace Msg
def putM (ms : List Ms) (m : Ms) : Int × List Ms := if 0 ≤ place ms m then (0, ms) else if 240 ≤ ms.length then (2, []) else (0, ms ++ [m])
def putV (f : Int) (ms : List Ms) (m : Ms) : Int × List Ms := if ¬ ledger f ms = 0 then (ledger f ms, []) else if ¬ faultM f m = 0 then (faultM f m, []) else if refsB m ms.length = false then (4, []) else putM ms m
theorem putV_bad {f : Int} {ms : List Ms} {m : Ms} (h : ¬ ledger f ms = 0) : putV f ms m = (ledger f ms, []) := by unfold putV; rw [if_pos h]
theorem putV_msg {f : Int} {ms : List Ms} {m : Ms} (h : ledger f ms = 0) (h2 : ¬ faultM f m = 0) : putV f ms m = (faultM f m, []) := by unfold putV; rw [if_neg (by omega), if_pos h2]
theorem putV_refs {f : Int} {ms : List Ms} {m : Ms} (h : ledger f ms = 0) (h2 : faultM f m = 0) (h3 : refsB m ms.length = false) : putV f ms m = (4, []) := by unfold putV; rw [if_neg (by omega), if_neg (by omega), if_pos h3]
theorem putV_ok {f : Int} {ms : List Ms} {m : Ms} (h : ledger f ms = 0) (h2 : faultM f m = 0) (h3 : refsB m ms.length = true) : putV f ms m = putM ms m := by unfold putV; rw [if_neg (by omega), if_neg (by omega), if_neg (by rw [h3]; decide)]
theorem putM_there {ms : List Ms} {m : Ms} (h : 0 ≤ place ms m) : putM ms m = (0, ms) := by unfold putM; rw [if_pos h]
theorem putM_many {ms : List Ms} {m : Ms} (h : ¬ 0 ≤ place ms m) (h2 : 240 ≤ ms.length) : putM ms m = (2, []) := by unfold putM; rw [if_neg h, if_pos h2]
theorem putM_new {ms : List Ms} {m : Ms} (h : ¬ 0 ≤ place ms m) (h2 : ¬ 240 ≤ ms.length) : putM ms m = (0, ms ++ [m]) := by unfold putM; rw [if_neg h, if_neg h2]
theorem place_ge (ms : List Ms) (m : Ms) : -1 ≤ place ms m := by
  unfold place
  split <;> omega
theorem small_of {f : Int} {m : Ms} (h : faultM f m = 0) (hf : f ≤ 2) : SmallM m := by
  obtain ⟨h1, h2, -⟩ := lists_zero h
  exact ⟨by omega, by omega⟩
end Msg
theorem Dr.MRow.base {base base' : Nat} {W : World} {ov : Value} {ps : List (Ms × Value × Value)} (h : Dr.MRow base W ov ps) (hb : base' ≤ base) : Dr.MRow base' W ov ps := ⟨Dr.own_base h.1 hb, fun p hp => ⟨Dr.own_base (h.2.1 p hp).1 hb, Dr.own_base (h.2.1 p hp).2 hb⟩, h.2.2⟩
theorem Dr.kb_setP {base : Nat} {W W' : World} {R : Nat} (h : Dr.Kb base W W') (hR : R < base) (o : Nat) (x : Value) : Dr.Kb base W (W'.setCell ⟨R, o, none⟩ x) := ⟨by simpa using h.1, fun g h1 h2 => (Below.heap_setCell W' ⟨R, o, none⟩ x g (by show g ≠ R; omega)).trans (h.2 g h1 h2)⟩
theorem Dr.mrow_nil (base : Nat) (W : World) : Dr.MRow base W (.slice none 0 0) [] := ⟨World.ownsRow_nil _ _ _ _, fun p hp => (by cases hp), fun p hp => by cases hp⟩
/-- What PutMsg leaves. -/
def LRet (w : World) (c : Int) (rs : List Ms) (e : Ending) (w' : World) : Prop := ∃ vo ps, e = .returned (Led.jr c vo) ∧ Dr.MRow w.heap.size w' vo ps ∧ Dst ps ∧ ps.map (·.1) = rs ∧ Ext w w'
theorem lret_at {w w2 : World} (c : Int) {vo : Value} {ps : List (Ms × Value × Value)} {r base : Nat} {rs : List Ms} (hE : Ext w w2) (hr : w.heap.size ≤ r) (hb : r < base) (hM : Dr.MRow base w2 vo ps) (hD : Dst ps) (hP : ps.map (·.1) = rs) : LRet w c rs (.returned (Led.jr c vo)) ((w2.setCell ⟨r, 0, none⟩ (.int .i64 c)).setCell ⟨r, 1, none⟩ vo) :=
  ⟨vo, ps, rfl, (hM.kb (Dr.kb_setP (Dr.kb_setP (Dr.Kb.refl _ _) hb _ _) hb _ _)).base (by omega), hD, hP, (hE.setCell (p := ⟨r, 0, none⟩) hr _).setCell (p := ⟨r, 1, none⟩) hr _⟩
theorem lret_bad {w w2 : World} (c : Int) {r : Nat} (hE : Ext w w2) (hr : w.heap.size ≤ r) : LRet w c [] (.returned (Led.jr c (.slice none 0 0))) ((w2.setCell ⟨r, 0, none⟩ (.int .i64 c)).setCell ⟨r, 1, none⟩ (.slice none 0 0)) :=
  lret_at (base := r + 1) c hE hr (Nat.lt_succ_self _) (Dr.mrow_nil _ _) List.Pairwise.nil rfl
/-- What the specification's l8Put leaves. -/
def LPut (w : World) (c : Int) (rs : List Ms) (e : Ending) (w' : World) : Prop := ∃ vo ps, e = .returned (.tuple #[vo, .int .i64 c]) ∧ Dr.MRow w.heap.size w' vo ps ∧ Dst ps ∧ ps.map (·.1) = rs ∧ Ext w w'
set_option linter.unusedSimpArgs false in
set_option maxHeartbeats 4000000 in
set_option maxRecDepth 100000 in
theorem l8Put_any (v : Value) (ms : List Ms) (m : Ms) (B : Nat) (w : World) (hS : MSlice w v ms) (hB : B < w.heap.size) (hm : MAt w B 0 m) (hml : ms.length ≤ 240) (hsm : ∀ z ∈ ms, SmallM z) (hsk : SmallM m) :
    Calls Tryd.prog 26 #[v, .pointer (some ⟨B, 0, none⟩)] w (LPut w (Msg.putM ms m).1 (Msg.putM ms m).2) := by
  have hi9 : (Tryd.prog.info? 28).map (fun i => (i.zero, i.size, i.bytes)) = some (some (.agg #[.int .i64 0, .int .i64 0, .int .i64 0, .int .i64 0, .int .i64 0, .slice none 0 0, .slice none 0 0]), 7, 88) := by kernel_rfl
  obtain ⟨ti, hti, hxx⟩ := Option.map_eq_some_iff.1 hi9
  simp only [Prod.mk.injEq] at hxx
  obtain ⟨hz0, hz1, hz2⟩ := hxx
  clear hi9
  have AT : Hid (Calls Tryd.prog 45 #[v, .pointer (some ⟨B, 0, none⟩)] w fun e w' => e = .returned (.int .i64 (Msg.place ms m)) ∧ Ext w w') := l8At_any v ms m B 0 w hS hB hm
  have CL : Hid (∀ wx, MSlice wx v ms → Calls Tryd.prog 46 #[v] wx (LCp wx ms)) := fun wx h => l8CopyP v ms wx h (by omega) hsm
  have HSk : Hid (SmallM m) := hsk
  have MS0 : Hid (MSlice w v ms) := hS
  obtain ⟨vz, uz, hcs, hls⟩ := hm
  obtain ⟨a1, k1, a2, k2, rfl, rfl, -, -, -, -⟩ := hls.form
  have ML0 : Hid (MLs w (.slice a1 m.certs.length k1) (.slice a2 m.refs.length k2) m) := hls
  have CM : Hid (∀ wx, MLs wx (.slice a1 m.certs.length k1) (.slice a2 m.refs.length k2) m → Calls Tryd.prog 47 #[.agg #[.int .i64 m.kind, .int .i64 m.view, .int .i64 m.from_, .int .i64 m.slot, .int .i64 m.value, .slice a1 m.certs.length k1, .slice a2 m.refs.length k2]] wx (MCp wx m)) := fun wx h => copyOneP m _ _ wx h hsk.1 hsk.2
  have BX0 : Hid (w.cell? ⟨B, 0, none⟩ = some (.int .i64 m.kind) ∧ w.cell? ⟨B, 1, none⟩ = some (.int .i64 m.view) ∧ w.cell? ⟨B, 2, none⟩ = some (.int .i64 m.from_) ∧ w.cell? ⟨B, 3, none⟩ = some (.int .i64 m.slot) ∧ w.cell? ⟨B, 4, none⟩ = some (.int .i64 m.value) ∧ w.cell? ⟨B, 5, none⟩ = some (.slice a1 m.certs.length k1) ∧ w.cell? ⟨B, 6, none⟩ = some (.slice a2 m.refs.length k2)) := by
    obtain ⟨c0, c1, c2, c3, c4, c5, c6⟩ := hcs
    exact ⟨c0, c1, c2, c3, c4, c5, c6⟩
  obtain ⟨a, cap, rfl, -, hcm, -⟩ := hS
  unfold maxLen at hcm
  have hpg := Msg.place_ge ms m
  clear hls hcs hsm hsk
  by_cases hp : 0 ≤ Msg.place ms m
  · rw [Msg.putM_there hp]
    generalize Msg.place ms m = pl at *
    go_enter Tryd.func26, Tryd.ntmps26
    go_wp2_with fail
    refine (AT.out).mono ?_
    rintro e w2 ⟨rfl, hb⟩
    have HE2 : Hid (Ext w w2) := hb
    clear hb
    go_wp2_with fail
    refine (CL.out _ (MS0.out.ext HE2.out)).mono ?_
    rintro e w3 ⟨vo, ps, rfl, hM, hD, hP, hb⟩
    obtain ⟨ad, cp, rfl⟩ := Led.owns_form hM.1
    have HR : Hid (Dr.MRow w2.heap.size w3 (.slice ad ps.length cp) ps ∧ Dst ps ∧ ps.map (·.1) = ms ∧ Ext w w3) := ⟨hM, hD, hP, HE2.out.trans hb⟩
    clear hM hD hP hb
    go_wp2
    go_ret2
    exact ⟨_, ps, rfl, HR.out.1.base HE2.out.size, HR.out.2⟩
  · by_cases hn : 240 ≤ ms.length
    · rw [Msg.putM_many hp hn]
      have hnI : (240 : Int) ≤ (ms.length : Int) := by omega
      generalize Msg.place ms m = pl at *
      go_enter Tryd.func26, Tryd.ntmps26
      go_wp2_with fail
      refine (AT.out).mono ?_
      rintro e w2 ⟨rfl, hb⟩
      have HE2 : Hid (Ext w w2) := hb
      clear hb
      go_wp2
      go_ret2
      exact ⟨_, [], rfl, Dr.mrow_nil _ _, List.Pairwise.nil, rfl, HE2.out⟩
    · rw [Msg.putM_new hp hn]
      have hnI : ¬ (240 : Int) ≤ (ms.length : Int) := by omega
      generalize Msg.place ms m = pl at *
      go_enter Tryd.func26, Tryd.ntmps26
      go_wp2_with fail
      refine (AT.out).mono ?_
      rintro e w2 ⟨rfl, hb⟩
      have HE2 : Hid (Ext w w2) := hb
      clear hb
      have HSx : Hid (∀ W', Ext w2 W' → W'.cell? ⟨B, 0, none⟩ = some (.int .i64 m.kind) ∧ W'.cell? ⟨B, 1, none⟩ = some (.int .i64 m.view) ∧ W'.cell? ⟨B, 2, none⟩ = some (.int .i64 m.from_) ∧ W'.cell? ⟨B, 3, none⟩ = some (.int .i64 m.slot) ∧ W'.cell? ⟨B, 4, none⟩ = some (.int .i64 m.value) ∧ W'.cell? ⟨B, 5, none⟩ = some (.slice a1 m.certs.length k1) ∧ W'.cell? ⟨B, 6, none⟩ = some (.slice a2 m.refs.length k2)) := fun W' he => by
        have hc := (Ext.cell (HE2.out.trans he)).1
        obtain ⟨c0, c1, c2, c3, c4, c5, c6⟩ := BX0.out
        exact ⟨(hc _ _ hB).trans c0, (hc _ _ hB).trans c1, (hc _ _ hB).trans c2, (hc _ _ hB).trans c3, (hc _ _ hB).trans c4, (hc _ _ hB).trans c5, (hc _ _ hB).trans c6⟩
      have MSx : Hid (∀ W', Ext w2 W' → MSlice W' (.slice a ms.length cap) ms) := fun W' he => MS0.out.ext (HE2.out.trans he)
      have MLx : Hid (∀ W', Ext w2 W' → MLs W' (.slice a1 m.certs.length k1) (.slice a2 m.refs.length k2) m) := fun W' he => ML0.out.ext (HE2.out.trans he)
      go_wp2
      refine wp_region_held_drew (S := (fun W' : World => W'.cell? ⟨B, 0, none⟩ = some (.int .i64 m.kind) ∧ W'.cell? ⟨B, 1, none⟩ = some (.int .i64 m.view) ∧ W'.cell? ⟨B, 2, none⟩ = some (.int .i64 m.from_) ∧ W'.cell? ⟨B, 3, none⟩ = some (.int .i64 m.slot) ∧ W'.cell? ⟨B, 4, none⟩ = some (.int .i64 m.value) ∧ W'.cell? ⟨B, 5, none⟩ = some (.slice a1 m.certs.length k1) ∧ W'.cell? ⟨B, 6, none⟩ = some (.slice a2 m.refs.length k2))) (by kernel_rfl) (HSx.out _ ((Ext.refl _).drew)) (fun hHeld => ?_)
      refine tk 0 { dst := some 15, op := Op.move (.tmp 0), type := 24, pos := "l08_msg.go:149", after := #[], guard := none } ?_
      refine tk 2 { dst := some 17, op := Op.move (.tmp 1), type := 50, pos := "l08_msg.go:149", after := #[], guard := none } ?_
      refine tk 3 { dst := some 18, op := Op.nilCheck (.tmp 17), type := 0, pos := "l08_msg.go:149", after := #[⟨2, .data⟩], guard := none } ?_
      refine tk 4 { dst := some 19, op := Op.load 28 (.tmp 18), type := 28, pos := "l08_msg.go:149", after := #[⟨3, .data⟩], guard := none } ?_
      refine wpAnyH_ready (rs := [1]) (by kernel_rfl) (by simp) (AllReadyH.cons rfl (fun K hK => ?_) AllReadyH.nil)
      go_simp
      refine (CL.out _ (MSx.out _ ((Ext.refl _).drew))).mono ?_
      rintro e y1 ⟨vo, ps, rfl, hM, hD, hP, hb⟩
      obtain ⟨ad, cp, rfl⟩ := Led.owns_form hM.1
      have X1 : Hid (Ext w2 y1) := ((Ext.refl _).drew).trans hb
      have Y1 : Hid (Ext w2 y1) := X1.out
      have HM1 : Hid (Dr.MRow w2.heap.size y1 (.slice ad ps.length cp) ps) := hM
      have HD1 : Hid (Dst ps) := hD
      have HP1 : Hid (ps.map (·.1) = ms) := hP
      have HPl : Hid (ps.length = ms.length) := by show _ = _; rw [← hP, List.length_map]
      clear hM hD hP hb
      refine hK.out _ _ (by exact HSx.out _ (X1.out)) (fun hHeld1 => ?_)
      clear hK K
      refine wpAnyH_ready (rs := [5]) (by kernel_rfl) (by simp) (AllReadyH.cons rfl (fun K hK => ?_) AllReadyH.nil)
      go_simp
      refine (CM.out _ (MLx.out _ Y1.out)).mono ?_
      rintro e y2 ⟨vx, vy, rfl, hx, hy, hb⟩
      obtain ⟨ax, cx, rfl⟩ := Led.owns_form hx
      obtain ⟨ay, cy, rfl⟩ := Led.owns_form hy
      have X5 : Hid (Ext w2 y2) := Y1.out.trans hb
      have Y2 : Hid (Ext w2 y2) := X5.out
      have HM2 : Hid (Dr.MRow w2.heap.size y2 (.slice ad ps.length cp) ps) := HM1.out.ext hb
      have HC2 : Hid (y2.ownsRow y1.heap.size 76 3 (.slice ax m.certs.length cx) m.certs.length (cellsCt m.certs) ∧ y2.ownsRow y1.heap.size 2 1 (.slice ay m.refs.length cy) m.refs.length (m.refs.map (Value.int .i64))) := ⟨hx, hy⟩
      have HD2 : Hid (Dst (ps ++ [(m, .slice ax m.certs.length cx, .slice ay m.refs.length cy)])) := Dst.push HD1.out HM1.out HC2.out.1 HC2.out.2
      unfold magg
      clear hx hy hb
      refine hK.out _ _ (by exact HSx.out _ (X5.out)) (fun hHeld5 => ?_)
      clear hK K
      refine wpAnyH_ready (rs := [6]) (by kernel_rfl) (by simp) (AllReadyH.cons rfl (fun K hK => ?_) AllReadyH.nil)
      go_simp
      refine hK.out _ _ (by exact HSx.out _ (Y2.out.alloc _)) (fun hHeld6 => ?_)
      clear hK K
      refine wpAnyH_ready (rs := [7]) (by kernel_rfl) (by simp) (AllReadyH.cons rfl (fun K hK => ?_) AllReadyH.nil)
      refine Dr.step_append_own _ rfl (.tmp 16) (.tmp 21) 24 rfl w2.heap.size 28 ti (.agg #[.int .i64 0, .int .i64 0, .int .i64 0, .int .i64 0, .int .i64 0, .slice none 0 0, .slice none 0 0]) 7 88 Tryd.underlying24 hti hz0 hz1 hz2 rfl (by decide) (.slice ad ps.length cp) ps.length (Dr.cellsP ps) rfl (HM2.out.1.alloc _) ⟨y2.heap.size, 0, none⟩ 1 1 (Dr.cellsP [(m, .slice ax m.certs.length cx, .slice ay m.refs.length cy)]) rfl rfl (Dr.msg_new _ _ _ _ _) (Dr.cellsP_one _ (fun p hp => by rw [List.mem_singleton] at hp; subst hp; exact ⟨rfl, rfl⟩)) (by have := HPl.out; unfold maxLen; omega) (by have := HPl.out; omega) (by have := Y2.out.size; simp; omega) ?_
      intro v6 w6 hown6 hgrow6 hnil6
      obtain ⟨ad6, cp6, rfl⟩ := Led.owns_form hown6
      have HM6 : Hid (Dr.MRow w2.heap.size w6 (.slice ad6 (ps.length + 1) cp6) (ps ++ [(m, .slice ax m.certs.length cx, .slice ay m.refs.length cy)])) := HM2.out.push (Dr.own_base HC2.out.1 (by have := Y1.out.size; omega)) (Dr.own_base HC2.out.2 (by have := Y1.out.size; omega)) hown6 hgrow6 HSk.out
      have Y6 : Hid (Ext w2 w6) := Below.grown (Y2.out.alloc _) hgrow6 (by have := Y2.out.size; simp; omega) (fun q hq => (HM2.out.1.lt q hq).1)
      have HP6 : Hid ((ps ++ [(m, Value.slice ax m.certs.length cx, Value.slice ay m.refs.length cy)]).map (·.1) = ms ++ [m]) := by show _ = _; rw [List.map_append, HP1.out]; try rfl
      clear hown6 hgrow6 hnil6
      refine hK.out _ _ (by exact HSx.out _ (Y6.out)) (fun hHeld7 => ?_)
      clear hK K
      (try dsimp only)
      (try simp only [Act.put, List.setIfInBounds_toArray, List.set_cons_zero, List.set_cons_succ])
      refine tk 8 { dst := some 4, op := Op.assign (.tmp 22), type := 24, pos := "l08_msg.go:149", after := #[⟨7, .data⟩, ⟨7, .chain⟩, ⟨0, .phase⟩, ⟨1, .phase⟩, ⟨2, .phase⟩, ⟨3, .phase⟩, ⟨4, .phase⟩, ⟨5, .phase⟩, ⟨6, .phase⟩, ⟨7, .phase⟩], guard := none } ?_
      refine tk 9 { dst := some 5, op := Op.assign (Operand.const (Value.int IntKind.i64 0)), type := 2, pos := "l08_msg.go:149", after := #[⟨8, .chain⟩, ⟨0, .phase⟩, ⟨1, .phase⟩, ⟨2, .phase⟩, ⟨3, .phase⟩, ⟨4, .phase⟩, ⟨5, .phase⟩, ⟨6, .phase⟩, ⟨7, .phase⟩, ⟨8, .phase⟩], guard := none } ?_
      refine wpAnyH_done (by kernel_rfl) ?_ _
      (try go_wp2)
      (try (rename_i dd hdd; cases hdd))
      go_ret2
      exact ⟨_, _, rfl, HM6.out.base HE2.out.size, HD2.out, HP6.out, HE2.out.trans Y6.out⟩
set_option linter.unusedSimpArgs false in
set_option maxHeartbeats 4000000 in
set_option maxRecDepth 100000 in
theorem specPutMsg_any (f : Int) (v : Value) (ms : List Ms) (m : Ms) (vc uc : Value) (w : World) (hS : MSlice w v ms) (hL : MLs w vc uc m) :
    Calls Tryd.prog 7 #[.int .i64 f, v, magg m vc uc] w (LRet w (Msg.putV f ms m).1 (Msg.putV f ms m).2) := by
  obtain ⟨a1, k1, a2, k2, rfl, rfl, -, -, -, -⟩ := hL.form
  have HF : Hid (∀ wx, Ext w wx → Calls Tryd.prog 23 #[.int .i64 f, v] wx fun e w' => e = .returned (.int .i64 (Msg.ledger f ms)) ∧ Ext wx w') := fun wx he => l8Asked_any f v ms wx (hS.ext he)
  have HM0 : Hid (Msg.ledger f ms = 0 → ∀ wx, Ext w wx → MBoxAt wx w.heap.size m (.slice a1 m.certs.length k1) (.slice a2 m.refs.length k2) → Calls Tryd.prog 24 #[.int .i64 f, .pointer (some ⟨w.heap.size, 0, none⟩)] wx fun e w' => e = .returned (.int .i64 (Msg.faultM f m)) ∧ Ext wx w') := fun h wx he hb => by
    have hb' := hb
    obtain ⟨hbb, -⟩ := hb'
    exact l8Msg_any f m _ _ w.heap.size 0 wx (Msg.ledger_zero h).1 (Msg.ledger_zero h).2.1 hbb hb.cs (hL.ext he)
  have HR0 : Hid (Msg.faultM f m = 0 → ms.length ≤ 240 → ∀ wx, Ext w wx → MBoxAt wx w.heap.size m (.slice a1 m.certs.length k1) (.slice a2 m.refs.length k2) → Calls Tryd.prog 25 #[.pointer (some ⟨w.heap.size, 0, none⟩), .int .i64 (ms.length : Int)] wx fun e w' => e = .returned (.bool (Msg.refsB m ms.length)) ∧ Ext wx w') := fun _ hl wx he hb => l8Refs_any m ms.length w.heap.size 0 wx (by omega) hb.1 ⟨_, _, hb.cs, hL.ext he⟩
  have HU0 : Hid (ms.length ≤ 240 → (∀ z ∈ ms, SmallM z) → SmallM m → ∀ wx, Ext w wx → MBoxAt wx w.heap.size m (.slice a1 m.certs.length k1) (.slice a2 m.refs.length k2) → Calls Tryd.prog 26 #[v, .pointer (some ⟨w.heap.size, 0, none⟩)] wx (LPut wx (Msg.putM ms m).1 (Msg.putM ms m).2)) := fun h1 h2 h3 wx he hb => l8Put_any v ms m w.heap.size wx (hS.ext he) hb.1 ⟨_, _, hb.cs, hL.ext he⟩ h1 h2 h3
  have MS0 : Hid (MSlice w v ms) := hS
  have ML0 : Hid (MLs w (.slice a1 m.certs.length k1) (.slice a2 m.refs.length k2) m) := hL
  obtain ⟨a, cap, rfl, -, hcm, -⟩ := hS
  unfold maxLen at hcm
  clear hL
  unfold magg
  by_cases hc : Msg.ledger f ms = 0
  · obtain ⟨hf0, hf1, hml⟩ := Msg.ledger_zero hc
    have HM : Hid _ := HM0.out hc
    have HSm : Hid (∀ z ∈ ms, SmallM z) := fun z hz => Msg.small_of (Msg.ledger_all hc z hz) hf1
    by_cases hm : Msg.faultM f m = 0
    · have HSk : Hid (SmallM m) := Msg.small_of hm hf1
      have HRf : Hid _ := HR0.out hm hml
      cases hr : Msg.refsB m ms.length with
      | false =>
        rw [Msg.putV_refs hc hm hr]
        rw [hc] at HF
        rw [hm] at HM
        rw [hr] at HRf
        clear HM0 HR0 hc hm hr HU0
        go_enter Tryd.func7, Tryd.ntmps7
        go_wp2_with fail
        refine (HF.out _ (((Ext.refl _).alloc _).alloc _)).mono ?_
        rintro e w2 ⟨rfl, hb⟩
        have HE2 : Hid (Ext w w2) := (((Ext.refl _).alloc _).alloc _).trans hb
        have HB2 : Hid (MBoxAt w2 w.heap.size m (.slice a1 m.certs.length k1) (.slice a2 m.refs.length k2)) := ((mbox_new w m _ _ _).ext ((Ext.refl _).alloc _)).ext hb
        have HZ2 : Hid (Led.JZ w2 (w.heap.size + 1)) := by have h := (Led.jz_new (w.alloc (.cells #[.int .i64 m.kind, .int .i64 m.view, .int .i64 m.from_, .int .i64 m.slot, .int .i64 m.value, .slice a1 m.certs.length k1, .slice a2 m.refs.length k2] 28)) 32).ext hb; simp only [World.size_alloc] at h; exact h
        clear hb
        obtain ⟨-, ⟨p0, p1, p2, p3, p4, p5, p6⟩, -⟩ := HB2.out
        go_wp2_with fail
        refine (HM.out _ HE2.out HB2.out).mono ?_
        rintro e w3 ⟨rfl, hb⟩
        have HE3 : Hid (Ext w w3) := HE2.out.trans hb
        have HB3 : Hid (MBoxAt w3 w.heap.size m (.slice a1 m.certs.length k1) (.slice a2 m.refs.length k2)) := HB2.out.ext hb
        have HZ3 : Hid (Led.JZ w3 (w.heap.size + 1)) := HZ2.out.ext hb
        clear hb p0 p1 p2 p3 p4 p5 p6
        obtain ⟨-, ⟨p0, p1, p2, p3, p4, p5, p6⟩, -⟩ := HB3.out
        go_wp2_with fail
        refine (HRf.out _ HE3.out HB3.out).mono ?_
        rintro e w4 ⟨rfl, hb⟩
        have HE4 : Hid (Ext w w4) := HE3.out.trans hb
        have HB4 : Hid (MBoxAt w4 w.heap.size m (.slice a1 m.certs.length k1) (.slice a2 m.refs.length k2)) := HB3.out.ext hb
        have HZ4 : Hid (Led.JZ w4 (w.heap.size + 1)) := HZ3.out.ext hb
        clear hb p0 p1 p2 p3 p4 p5 p6
        obtain ⟨-, ⟨p0, p1, p2, p3, p4, p5, p6⟩, -⟩ := HB4.out
        obtain ⟨x0, x1, x2, x3, x4⟩ := HZ4.out
        go_wp2
        exact bodyPost_ret (v := Led.jr 4 (.slice none 0 0)) (by simp [results, Tryd.results7, go_sem, Led.jr, x1, x2]) rfl (lret_bad 4 HE4.out (by omega))
      | true =>
        rw [Msg.putV_ok hc hm hr]
        rw [hc] at HF
        rw [hm] at HM
        rw [hr] at HRf
        have HU : Hid _ := HU0.out hml HSm.out HSk.out
        generalize Msg.putM ms m = pu at *
        obtain ⟨c, rs⟩ := pu
        clear HM0 HR0 hc hm hr HU0
        go_enter Tryd.func7, Tryd.ntmps7
        go_wp2_with fail
        refine (HF.out _ (((Ext.refl _).alloc _).alloc _)).mono ?_
        rintro e w2 ⟨rfl, hb⟩
        have HE2 : Hid (Ext w w2) := (((Ext.refl _).alloc _).alloc _).trans hb
        have HB2 : Hid (MBoxAt w2 w.heap.size m (.slice a1 m.certs.length k1) (.slice a2 m.refs.length k2)) := ((mbox_new w m _ _ _).ext ((Ext.refl _).alloc _)).ext hb
        have HZ2 : Hid (Led.JZ w2 (w.heap.size + 1)) := by have h := (Led.jz_new (w.alloc (.cells #[.int .i64 m.kind, .int .i64 m.view, .int .i64 m.from_, .int .i64 m.slot, .int .i64 m.value, .slice a1 m.certs.length k1, .slice a2 m.refs.length k2] 28)) 32).ext hb; simp only [World.size_alloc] at h; exact h
        clear hb
        obtain ⟨-, ⟨p0, p1, p2, p3, p4, p5, p6⟩, -⟩ := HB2.out
        go_wp2_with fail
        refine (HM.out _ HE2.out HB2.out).mono ?_
        rintro e w3 ⟨rfl, hb⟩
        have HE3 : Hid (Ext w w3) := HE2.out.trans hb
        have HB3 : Hid (MBoxAt w3 w.heap.size m (.slice a1 m.certs.length k1) (.slice a2 m.refs.length k2)) := HB2.out.ext hb
        have HZ3 : Hid (Led.JZ w3 (w.heap.size + 1)) := HZ2.out.ext hb
        clear hb p0 p1 p2 p3 p4 p5 p6
        obtain ⟨-, ⟨p0, p1, p2, p3, p4, p5, p6⟩, -⟩ := HB3.out
        go_wp2_with fail
        refine (HRf.out _ HE3.out HB3.out).mono ?_
        rintro e w4 ⟨rfl, hb⟩
        have HE4 : Hid (Ext w w4) := HE3.out.trans hb
        have HB4 : Hid (MBoxAt w4 w.heap.size m (.slice a1 m.certs.length k1) (.slice a2 m.refs.length k2)) := HB3.out.ext hb
        have HZ4 : Hid (Led.JZ w4 (w.heap.size + 1)) := HZ3.out.ext hb
        clear hb p0 p1 p2 p3 p4 p5 p6
        obtain ⟨-, ⟨p0, p1, p2, p3, p4, p5, p6⟩, -⟩ := HB4.out
        go_wp2_with fail
        refine (HU.out _ HE4.out HB4.out).mono ?_
        rintro e w5 ⟨vo, ps, rfl, hM, hD, hP, hb⟩
        obtain ⟨ad, cp, rfl⟩ := Led.owns_form hM.1
        have HE5 : Hid (Ext w w5) := HE4.out.trans hb
        have HZ5 : Hid (Led.JZ w5 (w.heap.size + 1)) := HZ4.out.ext hb
        have HR5 : Hid (Dr.MRow w4.heap.size w5 (.slice ad ps.length cp) ps ∧ Dst ps ∧ ps.map (·.1) = rs) := ⟨hM, hD, hP⟩
        have hz4 := HZ4.out.1
        clear hb hM hD hP
        obtain ⟨x0, x1, x2, x3, x4⟩ := HZ5.out
        go_wp2
        exact bodyPost_ret (v := Led.jr c (.slice ad ps.length cp)) (by simp [results, Tryd.results7, go_sem, Led.jr, x1, x2]) rfl (lret_at c HE5.out (by omega) hz4 HR5.out.1 HR5.out.2.1 HR5.out.2.2)
    · rw [Msg.putV_msg hc hm]
      rw [hc] at HF
      generalize Msg.faultM f m = c at *
      have g2 : (c != 0) = true := by simpa using hm
      clear HM0 HR0 hc HU0
      go_enter Tryd.func7, Tryd.ntmps7
      go_wp2_with fail
      refine (HF.out _ (((Ext.refl _).alloc _).alloc _)).mono ?_
      rintro e w2 ⟨rfl, hb⟩
      have HE2 : Hid (Ext w w2) := (((Ext.refl _).alloc _).alloc _).trans hb
      have HB2 : Hid (MBoxAt w2 w.heap.size m (.slice a1 m.certs.length k1) (.slice a2 m.refs.length k2)) := ((mbox_new w m _ _ _).ext ((Ext.refl _).alloc _)).ext hb
      have HZ2 : Hid (Led.JZ w2 (w.heap.size + 1)) := by have h := (Led.jz_new (w.alloc (.cells #[.int .i64 m.kind, .int .i64 m.view, .int .i64 m.from_, .int .i64 m.slot, .int .i64 m.value, .slice a1 m.certs.length k1, .slice a2 m.refs.length k2] 28)) 32).ext hb; simp only [World.size_alloc] at h; exact h
      clear hb
      obtain ⟨-, ⟨p0, p1, p2, p3, p4, p5, p6⟩, -⟩ := HB2.out
      go_wp2_with fail
      refine (HM.out _ HE2.out HB2.out).mono ?_
      rintro e w3 ⟨rfl, hb⟩
      have HE3 : Hid (Ext w w3) := HE2.out.trans hb
      have HB3 : Hid (MBoxAt w3 w.heap.size m (.slice a1 m.certs.length k1) (.slice a2 m.refs.length k2)) := HB2.out.ext hb
      have HZ3 : Hid (Led.JZ w3 (w.heap.size + 1)) := HZ2.out.ext hb
      clear hb p0 p1 p2 p3 p4 p5 p6
      obtain ⟨-, ⟨p0, p1, p2, p3, p4, p5, p6⟩, -⟩ := HB3.out
      obtain ⟨x0, x1, x2, x3, x4⟩ := HZ3.out
      go_wp2
      exact bodyPost_ret (v := Led.jr c (.slice none 0 0)) (by simp [results, Tryd.results7, go_sem, Led.jr, x1, x2]) rfl (lret_bad c HE3.out (by omega))
  · rw [Msg.putV_bad hc]
    clear HM0 HR0 HU0
    generalize Msg.ledger f ms = c at *
    have g1 : (c != 0) = true := by simpa using hc
    go_enter Tryd.func7, Tryd.ntmps7
    go_wp2_with fail
    refine (HF.out _ (((Ext.refl _).alloc _).alloc _)).mono ?_
    rintro e w2 ⟨rfl, hb⟩
    have HE2 : Hid (Ext w w2) := (((Ext.refl _).alloc _).alloc _).trans hb
    have HB2 : Hid (MBoxAt w2 w.heap.size m (.slice a1 m.certs.length k1) (.slice a2 m.refs.length k2)) := ((mbox_new w m _ _ _).ext ((Ext.refl _).alloc _)).ext hb
    have HZ2 : Hid (Led.JZ w2 (w.heap.size + 1)) := by have h := (Led.jz_new (w.alloc (.cells #[.int .i64 m.kind, .int .i64 m.view, .int .i64 m.from_, .int .i64 m.slot, .int .i64 m.value, .slice a1 m.certs.length k1, .slice a2 m.refs.length k2] 28)) 32).ext hb; simp only [World.size_alloc] at h; exact h
    clear hb
    obtain ⟨-, ⟨p0, p1, p2, p3, p4, p5, p6⟩, -⟩ := HB2.out
    obtain ⟨x0, x1, x2, x3, x4⟩ := HZ2.out
    go_wp2
    exact bodyPost_ret (v := Led.jr c (.slice none 0 0)) (by simp [results, Tryd.results7, go_sem, Led.jr, x1, x2]) rfl (lret_bad c HE2.out (by omega))
set_option linter.unusedSimpArgs false in
set_option maxHeartbeats 4000000 in
set_option maxRecDepth 100000 in
theorem implPutMsg_any (f : Int) (v : Value) (ms : List Ms) (m : Ms) (vc uc : Value) (w : World) (hS : MSlice w v ms) (hL : MLs w vc uc m) :
    Calls Tryd.prog 6 #[.int .i64 f, v, magg m vc uc] w (LRet w (Msg.putV f ms m).1 (Msg.putV f ms m).2) := by
  have hi9 : (Tryd.prog.info? 28).map (fun i => (i.zero, i.size, i.bytes)) = some (some (.agg #[.int .i64 0, .int .i64 0, .int .i64 0, .int .i64 0, .int .i64 0, .slice none 0 0, .slice none 0 0]), 7, 88) := by kernel_rfl
  obtain ⟨ti, hti, hxx⟩ := Option.map_eq_some_iff.1 hi9
  simp only [Prod.mk.injEq] at hxx
  obtain ⟨hz0, hz1, hz2⟩ := hxx
  clear hi9
  obtain ⟨a1, k1, a2, k2, rfl, rfl, -, -, -, -⟩ := hL.form
  have HF : Hid (∀ wx, Ext w wx → Calls Tryd.prog 11 #[.int .i64 f, v] wx fun e w' => e = .returned (.int .i64 (Msg.ledger f ms)) ∧ Ext wx w') := fun wx he => implLedgerFault_any f v ms wx (hS.ext he)
  have HM0 : Hid (Msg.ledger f ms = 0 → ∀ wx, Ext w wx → MBoxAt wx w.heap.size m (.slice a1 m.certs.length k1) (.slice a2 m.refs.length k2) → Calls Tryd.prog 13 #[.int .i64 f, .agg #[.int .i64 m.kind, .int .i64 m.view, .int .i64 m.from_, .int .i64 m.slot, .int .i64 m.value, .slice a1 m.certs.length k1, .slice a2 m.refs.length k2]] wx fun e w' => e = .returned (.int .i64 (Msg.faultM f m)) ∧ Ext wx w') := fun h wx he _ => by
    have q := implMsgFault_any f m _ _ wx (hL.ext he)
    rw [Msg.fault_2 (by have := Msg.ledger_zero h; unfold Msg.fOk; simp; omega)] at q
    exact q
  have HR0 : Hid (Msg.faultM f m = 0 → ms.length ≤ 240 → ∀ wx, Ext w wx → MBoxAt wx w.heap.size m (.slice a1 m.certs.length k1) (.slice a2 m.refs.length k2) → Calls Tryd.prog 19 #[.pointer (some ⟨w.heap.size, 0, none⟩), .int .i64 (ms.length : Int)] wx fun e w' => e = .returned (.bool (Msg.refsB m ms.length)) ∧ Ext wx w') := fun h hl wx he hb => refersAhead_any m ms.length w.heap.size 0 wx (by omega) ⟨_, _, hb.cs, hL.ext he⟩ (Msg.faultM_rises h)
  have HP0 : Hid (∀ wx, Ext w wx → MBoxAt wx w.heap.size m (.slice a1 m.certs.length k1) (.slice a2 m.refs.length k2) → Calls Tryd.prog 20 #[v, .pointer (some ⟨w.heap.size, 0, none⟩)] wx fun e w' => e = .returned (.int .i64 (Msg.place ms m)) ∧ Ext wx w') := fun wx he hb => placeOfMsg_any v ms m w.heap.size 0 wx (hS.ext he) hb.1 ⟨_, _, hb.cs, hL.ext he⟩
  have CL0 : Hid (ms.length ≤ 240 → (∀ z ∈ ms, SmallM z) → ∀ wx, MSlice wx v ms → Calls Tryd.prog 21 #[v] wx (LCp wx ms)) := fun h1 h2 wx h => copyLedgerP v ms wx h (by omega) h2
  have CM0 : Hid (SmallM m → ∀ wx, MLs wx (.slice a1 m.certs.length k1) (.slice a2 m.refs.length k2) m → Calls Tryd.prog 22 #[.agg #[.int .i64 m.kind, .int .i64 m.view, .int .i64 m.from_, .int .i64 m.slot, .int .i64 m.value, .slice a1 m.certs.length k1, .slice a2 m.refs.length k2]] wx (MCp wx m)) := fun hs wx h => copyMsgP m _ _ wx h hs.1 hs.2
  have MS0 : Hid (MSlice w v ms) := hS
  have ML0 : Hid (MLs w (.slice a1 m.certs.length k1) (.slice a2 m.refs.length k2) m) := hL
  obtain ⟨a, cap, rfl, -, hcm, -⟩ := hS
  unfold maxLen at hcm
  clear hL
  unfold magg
  by_cases hc : Msg.ledger f ms = 0
  · obtain ⟨hf0, hf1, hml⟩ := Msg.ledger_zero hc
    have HM : Hid _ := HM0.out hc
    have HSm : Hid (∀ z ∈ ms, SmallM z) := fun z hz => Msg.small_of (Msg.ledger_all hc z hz) hf1
    by_cases hm : Msg.faultM f m = 0
    · have HSk : Hid (SmallM m) := Msg.small_of hm hf1
      have HRf : Hid _ := HR0.out hm hml
      cases hr : Msg.refsB m ms.length with
      | false =>
        rw [Msg.putV_refs hc hm hr]
        rw [hc] at HF
        rw [hm] at HM
        rw [hr] at HRf
        clear HM0 HR0 hc hm hr HP0 CL0 CM0
        go_enter Tryd.func6, Tryd.ntmps6
        go_wp2_with fail
        refine (HF.out _ (((Ext.refl _).alloc _).alloc _)).mono ?_
        rintro e w2 ⟨rfl, hb⟩
        have HE2 : Hid (Ext w w2) := (((Ext.refl _).alloc _).alloc _).trans hb
        have HB2 : Hid (MBoxAt w2 w.heap.size m (.slice a1 m.certs.length k1) (.slice a2 m.refs.length k2)) := ((mbox_new w m _ _ _).ext ((Ext.refl _).alloc _)).ext hb
        have HZ2 : Hid (Led.JZ w2 (w.heap.size + 1)) := by have h := (Led.jz_new (w.alloc (.cells #[.int .i64 m.kind, .int .i64 m.view, .int .i64 m.from_, .int .i64 m.slot, .int .i64 m.value, .slice a1 m.certs.length k1, .slice a2 m.refs.length k2] 28)) 32).ext hb; simp only [World.size_alloc] at h; exact h
        clear hb
        obtain ⟨-, ⟨p0, p1, p2, p3, p4, p5, p6⟩, -⟩ := HB2.out
        go_wp2_with fail
        refine (HM.out _ HE2.out HB2.out).mono ?_
        rintro e w3 ⟨rfl, hb⟩
        have HE3 : Hid (Ext w w3) := HE2.out.trans hb
        have HB3 : Hid (MBoxAt w3 w.heap.size m (.slice a1 m.certs.length k1) (.slice a2 m.refs.length k2)) := HB2.out.ext hb
        have HZ3 : Hid (Led.JZ w3 (w.heap.size + 1)) := HZ2.out.ext hb
        clear hb p0 p1 p2 p3 p4 p5 p6
        obtain ⟨-, ⟨p0, p1, p2, p3, p4, p5, p6⟩, -⟩ := HB3.out
        go_wp2_with fail
        refine (HRf.out _ HE3.out HB3.out).mono ?_
        rintro e w4 ⟨rfl, hb⟩
        have HE4 : Hid (Ext w w4) := HE3.out.trans hb
        have HB4 : Hid (MBoxAt w4 w.heap.size m (.slice a1 m.certs.length k1) (.slice a2 m.refs.length k2)) := HB3.out.ext hb
        have HZ4 : Hid (Led.JZ w4 (w.heap.size + 1)) := HZ3.out.ext hb
        clear hb p0 p1 p2 p3 p4 p5 p6
        obtain ⟨-, ⟨p0, p1, p2, p3, p4, p5, p6⟩, -⟩ := HB4.out
        obtain ⟨x0, x1, x2, x3, x4⟩ := HZ4.out
        go_wp2
        exact bodyPost_ret (v := Led.jr 4 (.slice none 0 0)) (by simp [results, Tryd.results6, go_sem, Led.jr, x1, x2]) rfl (lret_bad 4 HE4.out (by omega))
      | true =>
        rw [Msg.putV_ok hc hm hr]
        rw [hc] at HF
        rw [hm] at HM
        rw [hr] at HRf
        have hpg := Msg.place_ge ms m
        have CL : Hid _ := CL0.out hml HSm.out
        have CM : Hid _ := CM0.out HSk.out
        have HPl0 : Hid _ := HP0.out
        by_cases hp : 0 ≤ Msg.place ms m
        · rw [Msg.putM_there hp]
          have gp : (Msg.place ms m != -1) = true := by simp; omega
          generalize Msg.place ms m = pl at *
          clear HM0 HR0 hc hm hr HP0 CL0 CM0
          go_enter Tryd.func6, Tryd.ntmps6
          go_wp2_with fail
          refine (HF.out _ (((Ext.refl _).alloc _).alloc _)).mono ?_
          rintro e w2 ⟨rfl, hb⟩
          have HE2 : Hid (Ext w w2) := (((Ext.refl _).alloc _).alloc _).trans hb
          have HB2 : Hid (MBoxAt w2 w.heap.size m (.slice a1 m.certs.length k1) (.slice a2 m.refs.length k2)) := ((mbox_new w m _ _ _).ext ((Ext.refl _).alloc _)).ext hb
          have HZ2 : Hid (Led.JZ w2 (w.heap.size + 1)) := by have h := (Led.jz_new (w.alloc (.cells #[.int .i64 m.kind, .int .i64 m.view, .int .i64 m.from_, .int .i64 m.slot, .int .i64 m.value, .slice a1 m.certs.length k1, .slice a2 m.refs.length k2] 28)) 32).ext hb; simp only [World.size_alloc] at h; exact h
          clear hb
          obtain ⟨-, ⟨p0, p1, p2, p3, p4, p5, p6⟩, -⟩ := HB2.out
          go_wp2_with fail
          refine (HM.out _ HE2.out HB2.out).mono ?_
          rintro e w3 ⟨rfl, hb⟩
          have HE3 : Hid (Ext w w3) := HE2.out.trans hb
          have HB3 : Hid (MBoxAt w3 w.heap.size m (.slice a1 m.certs.length k1) (.slice a2 m.refs.length k2)) := HB2.out.ext hb
          have HZ3 : Hid (Led.JZ w3 (w.heap.size + 1)) := HZ2.out.ext hb
          clear hb p0 p1 p2 p3 p4 p5 p6
          obtain ⟨-, ⟨p0, p1, p2, p3, p4, p5, p6⟩, -⟩ := HB3.out
          go_wp2_with fail
          refine (HRf.out _ HE3.out HB3.out).mono ?_
          rintro e w4 ⟨rfl, hb⟩
          have HE4 : Hid (Ext w w4) := HE3.out.trans hb
          have HB4 : Hid (MBoxAt w4 w.heap.size m (.slice a1 m.certs.length k1) (.slice a2 m.refs.length k2)) := HB3.out.ext hb
          have HZ4 : Hid (Led.JZ w4 (w.heap.size + 1)) := HZ3.out.ext hb
          clear hb p0 p1 p2 p3 p4 p5 p6
          obtain ⟨-, ⟨p0, p1, p2, p3, p4, p5, p6⟩, -⟩ := HB4.out
          go_wp2_with fail
          refine (HPl0.out _ HE4.out HB4.out).mono ?_
          rintro e w5 ⟨rfl, hb⟩
          have HE5 : Hid (Ext w w5) := HE4.out.trans hb
          have HB5 : Hid (MBoxAt w5 w.heap.size m (.slice a1 m.certs.length k1) (.slice a2 m.refs.length k2)) := HB4.out.ext hb
          have HZ5 : Hid (Led.JZ w5 (w.heap.size + 1)) := HZ4.out.ext hb
          clear hb p0 p1 p2 p3 p4 p5 p6
          obtain ⟨-, ⟨p0, p1, p2, p3, p4, p5, p6⟩, -⟩ := HB5.out
          go_wp2_with fail
          refine (CL.out _ (MS0.out.ext HE5.out)).mono ?_
          rintro e w6 ⟨vo, ps, rfl, hM, hD, hP, hb⟩
          obtain ⟨ad, cp, rfl⟩ := Led.owns_form hM.1
          have HE6 : Hid (Ext w w6) := HE5.out.trans hb
          have HZ6 : Hid (Led.JZ w6 (w.heap.size + 1)) := HZ5.out.ext hb
          have HR6 : Hid (Dr.MRow w5.heap.size w6 (.slice ad ps.length cp) ps ∧ Dst ps ∧ ps.map (·.1) = ms) := ⟨hM, hD, hP⟩
          have hz5 := HZ5.out.1
          clear hb hM hD hP
          obtain ⟨x0, x1, x2, x3, x4⟩ := HZ6.out
          go_wp2
          exact bodyPost_ret (v := Led.jr 0 (.slice ad ps.length cp)) (by simp [results, Tryd.results6, go_sem, Led.jr, x1, x2]) rfl (lret_at 0 HE6.out (by omega) hz5 HR6.out.1 HR6.out.2.1 HR6.out.2.2)
        · have gp : (Msg.place ms m != -1) = false := by simp; omega
          by_cases hn : 240 ≤ ms.length
          · rw [Msg.putM_many hp hn]
            have gn : ((ms.length : Int) == 240) = true := by simp; omega
            generalize Msg.place ms m = pl at *
            clear HM0 HR0 hc hm hr HP0 CL0 CM0
            go_enter Tryd.func6, Tryd.ntmps6
            go_wp2_with fail
            refine (HF.out _ (((Ext.refl _).alloc _).alloc _)).mono ?_
            rintro e w2 ⟨rfl, hb⟩
            have HE2 : Hid (Ext w w2) := (((Ext.refl _).alloc _).alloc _).trans hb
            have HB2 : Hid (MBoxAt w2 w.heap.size m (.slice a1 m.certs.length k1) (.slice a2 m.refs.length k2)) := ((mbox_new w m _ _ _).ext ((Ext.refl _).alloc _)).ext hb
            have HZ2 : Hid (Led.JZ w2 (w.heap.size + 1)) := by have h := (Led.jz_new (w.alloc (.cells #[.int .i64 m.kind, .int .i64 m.view, .int .i64 m.from_, .int .i64 m.slot, .int .i64 m.value, .slice a1 m.certs.length k1, .slice a2 m.refs.length k2] 28)) 32).ext hb; simp only [World.size_alloc] at h; exact h
            clear hb
            obtain ⟨-, ⟨p0, p1, p2, p3, p4, p5, p6⟩, -⟩ := HB2.out
            go_wp2_with fail
            refine (HM.out _ HE2.out HB2.out).mono ?_
            rintro e w3 ⟨rfl, hb⟩
            have HE3 : Hid (Ext w w3) := HE2.out.trans hb
            have HB3 : Hid (MBoxAt w3 w.heap.size m (.slice a1 m.certs.length k1) (.slice a2 m.refs.length k2)) := HB2.out.ext hb
            have HZ3 : Hid (Led.JZ w3 (w.heap.size + 1)) := HZ2.out.ext hb
            clear hb p0 p1 p2 p3 p4 p5 p6
            obtain ⟨-, ⟨p0, p1, p2, p3, p4, p5, p6⟩, -⟩ := HB3.out
            go_wp2_with fail
            refine (HRf.out _ HE3.out HB3.out).mono ?_
            rintro e w4 ⟨rfl, hb⟩
            have HE4 : Hid (Ext w w4) := HE3.out.trans hb
            have HB4 : Hid (MBoxAt w4 w.heap.size m (.slice a1 m.certs.length k1) (.slice a2 m.refs.length k2)) := HB3.out.ext hb
            have HZ4 : Hid (Led.JZ w4 (w.heap.size + 1)) := HZ3.out.ext hb
            clear hb p0 p1 p2 p3 p4 p5 p6
            obtain ⟨-, ⟨p0, p1, p2, p3, p4, p5, p6⟩, -⟩ := HB4.out
            go_wp2_with fail
            refine (HPl0.out _ HE4.out HB4.out).mono ?_
            rintro e w5 ⟨rfl, hb⟩
            have HE5 : Hid (Ext w w5) := HE4.out.trans hb
            have HB5 : Hid (MBoxAt w5 w.heap.size m (.slice a1 m.certs.length k1) (.slice a2 m.refs.length k2)) := HB4.out.ext hb
            have HZ5 : Hid (Led.JZ w5 (w.heap.size + 1)) := HZ4.out.ext hb
            clear hb p0 p1 p2 p3 p4 p5 p6
            obtain ⟨-, ⟨p0, p1, p2, p3, p4, p5, p6⟩, -⟩ := HB5.out
            obtain ⟨x0, x1, x2, x3, x4⟩ := HZ5.out
            go_wp2
            exact bodyPost_ret (v := Led.jr 2 (.slice none 0 0)) (by simp [results, Tryd.results6, go_sem, Led.jr, x1, x2]) rfl (lret_bad 2 HE5.out (by omega))
          · rw [Msg.putM_new hp hn]
            have gn : ((ms.length : Int) == 240) = false := by simp; omega
            generalize Msg.place ms m = pl at *
            clear HM0 HR0 hc hm hr HP0 CL0 CM0
            go_enter Tryd.func6, Tryd.ntmps6
            go_wp2_with fail
            refine (HF.out _ (((Ext.refl _).alloc _).alloc _)).mono ?_
            rintro e w2 ⟨rfl, hb⟩
            have HE2 : Hid (Ext w w2) := (((Ext.refl _).alloc _).alloc _).trans hb
            have HB2 : Hid (MBoxAt w2 w.heap.size m (.slice a1 m.certs.length k1) (.slice a2 m.refs.length k2)) := ((mbox_new w m _ _ _).ext ((Ext.refl _).alloc _)).ext hb
            have HZ2 : Hid (Led.JZ w2 (w.heap.size + 1)) := by have h := (Led.jz_new (w.alloc (.cells #[.int .i64 m.kind, .int .i64 m.view, .int .i64 m.from_, .int .i64 m.slot, .int .i64 m.value, .slice a1 m.certs.length k1, .slice a2 m.refs.length k2] 28)) 32).ext hb; simp only [World.size_alloc] at h; exact h
            clear hb
            obtain ⟨-, ⟨p0, p1, p2, p3, p4, p5, p6⟩, -⟩ := HB2.out
            go_wp2_with fail
            refine (HM.out _ HE2.out HB2.out).mono ?_
            rintro e w3 ⟨rfl, hb⟩
            have HE3 : Hid (Ext w w3) := HE2.out.trans hb
            have HB3 : Hid (MBoxAt w3 w.heap.size m (.slice a1 m.certs.length k1) (.slice a2 m.refs.length k2)) := HB2.out.ext hb
            have HZ3 : Hid (Led.JZ w3 (w.heap.size + 1)) := HZ2.out.ext hb
            clear hb p0 p1 p2 p3 p4 p5 p6
            obtain ⟨-, ⟨p0, p1, p2, p3, p4, p5, p6⟩, -⟩ := HB3.out
            go_wp2_with fail
            refine (HRf.out _ HE3.out HB3.out).mono ?_
            rintro e w4 ⟨rfl, hb⟩
            have HE4 : Hid (Ext w w4) := HE3.out.trans hb
            have HB4 : Hid (MBoxAt w4 w.heap.size m (.slice a1 m.certs.length k1) (.slice a2 m.refs.length k2)) := HB3.out.ext hb
            have HZ4 : Hid (Led.JZ w4 (w.heap.size + 1)) := HZ3.out.ext hb
            clear hb p0 p1 p2 p3 p4 p5 p6
            obtain ⟨-, ⟨p0, p1, p2, p3, p4, p5, p6⟩, -⟩ := HB4.out
            go_wp2_with fail
            refine (HPl0.out _ HE4.out HB4.out).mono ?_
            rintro e w5 ⟨rfl, hb⟩
            have HE5 : Hid (Ext w w5) := HE4.out.trans hb
            have HB5 : Hid (MBoxAt w5 w.heap.size m (.slice a1 m.certs.length k1) (.slice a2 m.refs.length k2)) := HB4.out.ext hb
            have HZ5 : Hid (Led.JZ w5 (w.heap.size + 1)) := HZ4.out.ext hb
            clear hb p0 p1 p2 p3 p4 p5 p6
            obtain ⟨-, ⟨p0, p1, p2, p3, p4, p5, p6⟩, -⟩ := HB5.out
            have HSx : Hid (∀ W', Ext w5 W' → W'.cell? ⟨w.heap.size, 0, none⟩ = some (.int .i64 m.kind) ∧ W'.cell? ⟨w.heap.size, 1, none⟩ = some (.int .i64 m.view) ∧ W'.cell? ⟨w.heap.size, 2, none⟩ = some (.int .i64 m.from_) ∧ W'.cell? ⟨w.heap.size, 3, none⟩ = some (.int .i64 m.slot) ∧ W'.cell? ⟨w.heap.size, 4, none⟩ = some (.int .i64 m.value) ∧ W'.cell? ⟨w.heap.size, 5, none⟩ = some (.slice a1 m.certs.length k1) ∧ W'.cell? ⟨w.heap.size, 6, none⟩ = some (.slice a2 m.refs.length k2)) := fun W' he => by
              obtain ⟨-, ⟨r0, r1, r2, r3, r4, r5, r6⟩, -⟩ := HB5.out.ext he
              exact ⟨r0, r1, r2, r3, r4, r5, r6⟩
            have HSt : Hid (∀ (W' : World) (x y : Value), Ext w5 W' → ((W'.setCell ⟨w.heap.size + 1, 0, none⟩ x).setCell ⟨w.heap.size + 1, 1, none⟩ y).cell? ⟨w.heap.size, 0, none⟩ = some (.int .i64 m.kind) ∧ ((W'.setCell ⟨w.heap.size + 1, 0, none⟩ x).setCell ⟨w.heap.size + 1, 1, none⟩ y).cell? ⟨w.heap.size, 1, none⟩ = some (.int .i64 m.view) ∧ ((W'.setCell ⟨w.heap.size + 1, 0, none⟩ x).setCell ⟨w.heap.size + 1, 1, none⟩ y).cell? ⟨w.heap.size, 2, none⟩ = some (.int .i64 m.from_) ∧ ((W'.setCell ⟨w.heap.size + 1, 0, none⟩ x).setCell ⟨w.heap.size + 1, 1, none⟩ y).cell? ⟨w.heap.size, 3, none⟩ = some (.int .i64 m.slot) ∧ ((W'.setCell ⟨w.heap.size + 1, 0, none⟩ x).setCell ⟨w.heap.size + 1, 1, none⟩ y).cell? ⟨w.heap.size, 4, none⟩ = some (.int .i64 m.value) ∧ ((W'.setCell ⟨w.heap.size + 1, 0, none⟩ x).setCell ⟨w.heap.size + 1, 1, none⟩ y).cell? ⟨w.heap.size, 5, none⟩ = some (.slice a1 m.certs.length k1) ∧ ((W'.setCell ⟨w.heap.size + 1, 0, none⟩ x).setCell ⟨w.heap.size + 1, 1, none⟩ y).cell? ⟨w.heap.size, 6, none⟩ = some (.slice a2 m.refs.length k2)) := fun W' x y he => by
              obtain ⟨-, ⟨r0, r1, r2, r3, r4, r5, r6⟩, -⟩ := ((HB5.out.ext he).set_ne (g := w.heap.size + 1) (o := 0) (x := x) (by omega)).set_ne (g := w.heap.size + 1) (o := 1) (x := y) (by omega)
              exact ⟨r0, r1, r2, r3, r4, r5, r6⟩
            have HZx : Hid (∀ W', Ext w5 W' → Led.JZ W' (w.heap.size + 1)) := fun W' he => HZ5.out.ext he
            have MSx : Hid (∀ W', Ext w5 W' → MSlice W' (.slice a ms.length cap) ms) := fun W' he => MS0.out.ext (HE5.out.trans he)
            have MLx : Hid (∀ W', Ext w5 W' → MLs W' (.slice a1 m.certs.length k1) (.slice a2 m.refs.length k2) m) := fun W' he => ML0.out.ext (HE5.out.trans he)
            have hz5 := HZ5.out.1
            go_wp2
            refine wp_region_held_drew (S := (fun W' : World => W'.cell? ⟨w.heap.size, 0, none⟩ = some (.int .i64 m.kind) ∧ W'.cell? ⟨w.heap.size, 1, none⟩ = some (.int .i64 m.view) ∧ W'.cell? ⟨w.heap.size, 2, none⟩ = some (.int .i64 m.from_) ∧ W'.cell? ⟨w.heap.size, 3, none⟩ = some (.int .i64 m.slot) ∧ W'.cell? ⟨w.heap.size, 4, none⟩ = some (.int .i64 m.value) ∧ W'.cell? ⟨w.heap.size, 5, none⟩ = some (.slice a1 m.certs.length k1) ∧ W'.cell? ⟨w.heap.size, 6, none⟩ = some (.slice a2 m.refs.length k2))) (by kernel_rfl) (HSx.out _ ((Ext.refl _).drew)) (fun hHeld => ?_)
            refine tk 0 { dst := some 38, op := Op.move (.tmp 1), type := 24, pos := "l08_msg.go:264", after := #[], guard := none } ?_
            refine tk 2 { dst := some 40, op := Op.load 28 (.tmp 5), type := 28, pos := "l08_msg.go:264", after := #[], guard := none } ?_
            refine wpAnyH_ready (rs := [1]) (by kernel_rfl) (by simp) (AllReadyH.cons rfl (fun K hK => ?_) AllReadyH.nil)
            go_simp
            refine (CL.out _ (MSx.out _ ((Ext.refl _).drew))).mono ?_
            rintro e y1 ⟨vo, ps, rfl, hM, hD, hP, hb⟩
            obtain ⟨ad, cp, rfl⟩ := Led.owns_form hM.1
            have X1 : Hid (Ext w5 y1) := ((Ext.refl _).drew).trans hb
            have Y1 : Hid (Ext w5 y1) := X1.out
            have HM1 : Hid (Dr.MRow w5.heap.size y1 (.slice ad ps.length cp) ps) := hM
            have HD1 : Hid (Dst ps) := hD
            have HP1 : Hid (ps.map (·.1) = ms) := hP
            have HPl : Hid (ps.length = ms.length) := by show _ = _; rw [← hP, List.length_map]
            clear hM hD hP hb
            refine hK.out _ _ (by exact HSx.out _ (X1.out)) (fun hHeld1 => ?_)
            clear hK K
            refine wpAnyH_ready (rs := [3]) (by kernel_rfl) (by simp) (AllReadyH.cons rfl (fun K hK => ?_) AllReadyH.nil)
            go_simp
            refine (CM.out _ (MLx.out _ Y1.out)).mono ?_
            rintro e y2 ⟨vx, vy, rfl, hx, hy, hb⟩
            obtain ⟨ax, cx, rfl⟩ := Led.owns_form hx
            obtain ⟨ay, cy, rfl⟩ := Led.owns_form hy
            have X3 : Hid (Ext w5 y2) := Y1.out.trans hb
            have Y2 : Hid (Ext w5 y2) := X3.out
            have HM2 : Hid (Dr.MRow w5.heap.size y2 (.slice ad ps.length cp) ps) := HM1.out.ext hb
            have HC2 : Hid (y2.ownsRow y1.heap.size 76 3 (.slice ax m.certs.length cx) m.certs.length (cellsCt m.certs) ∧ y2.ownsRow y1.heap.size 2 1 (.slice ay m.refs.length cy) m.refs.length (m.refs.map (Value.int .i64))) := ⟨hx, hy⟩
            have HD2 : Hid (Dst (ps ++ [(m, .slice ax m.certs.length cx, .slice ay m.refs.length cy)])) := Dst.push HD1.out HM1.out HC2.out.1 HC2.out.2
            unfold magg
            clear hx hy hb
            refine hK.out _ _ (by exact HSx.out _ (X3.out)) (fun hHeld3 => ?_)
            clear hK K
            refine wpAnyH_ready (rs := [4]) (by kernel_rfl) (by simp) (AllReadyH.cons rfl (fun K hK => ?_) AllReadyH.nil)
            go_simp
            refine hK.out _ _ (by exact HSx.out _ (Y2.out.alloc _)) (fun hHeld4 => ?_)
            clear hK K
            refine wpAnyH_ready (rs := [5]) (by kernel_rfl) (by simp) (AllReadyH.cons rfl (fun K hK => ?_) AllReadyH.nil)
            refine Dr.step_append_own _ rfl (.tmp 39) (.tmp 42) 24 rfl w5.heap.size 28 ti (.agg #[.int .i64 0, .int .i64 0, .int .i64 0, .int .i64 0, .int .i64 0, .slice none 0 0, .slice none 0 0]) 7 88 Tryd.underlying24 hti hz0 hz1 hz2 rfl (by decide) (.slice ad ps.length cp) ps.length (Dr.cellsP ps) rfl (HM2.out.1.alloc _) ⟨y2.heap.size, 0, none⟩ 1 1 (Dr.cellsP [(m, .slice ax m.certs.length cx, .slice ay m.refs.length cy)]) rfl rfl (Dr.msg_new _ _ _ _ _) (Dr.cellsP_one _ (fun p hp => by rw [List.mem_singleton] at hp; subst hp; exact ⟨rfl, rfl⟩)) (by have := HPl.out; unfold maxLen; omega) (by have := HPl.out; omega) (by have := Y2.out.size; simp; omega) ?_
            intro v6 w6 hown6 hgrow6 hnil6
            obtain ⟨ad6, cp6, rfl⟩ := Led.owns_form hown6
            have HM6 : Hid (Dr.MRow w5.heap.size w6 (.slice ad6 (ps.length + 1) cp6) (ps ++ [(m, .slice ax m.certs.length cx, .slice ay m.refs.length cy)])) := HM2.out.push (Dr.own_base HC2.out.1 (by have := Y1.out.size; omega)) (Dr.own_base HC2.out.2 (by have := Y1.out.size; omega)) hown6 hgrow6 HSk.out
            have Y6 : Hid (Ext w5 w6) := Below.grown (Y2.out.alloc _) hgrow6 (by have := Y2.out.size; simp; omega) (fun q hq => (HM2.out.1.lt q hq).1)
            have HP6 : Hid ((ps ++ [(m, Value.slice ax m.certs.length cx, Value.slice ay m.refs.length cy)]).map (·.1) = ms ++ [m]) := by show _ = _; rw [List.map_append, HP1.out]; try rfl
            clear hown6 hgrow6 hnil6
            refine hK.out _ _ (by exact HSx.out _ (Y6.out)) (fun hHeld5 => ?_)
            clear hK K
            (try dsimp only)
            (try simp only [Act.put, List.setIfInBounds_toArray, List.set_cons_zero, List.set_cons_succ])
            refine tk 6 { dst := some 44, op := Op.build 32 #[(1, .tmp 43)], type := 32, pos := "l08_msg.go:264", after := #[⟨5, .data⟩], guard := none } ?_
            refine wpAnyH_ready (rs := [7]) (by kernel_rfl) (by simp) (AllReadyH.cons rfl (fun K hK => ?_) AllReadyH.nil)
            obtain ⟨x0, x1, x2, x3, x4⟩ := HZx.out _ Y6.out
            go_simp
            refine hK.out _ _ (by exact HSt.out _ _ _ Y6.out) (fun hHeldS => ?_)
            clear hK K
            refine wpAnyH_done (by kernel_rfl) ?_ _
            (try go_wp2)
            exact bodyPost_ret (v := Led.jr 0 (.slice ad6 (ps.length + 1) cp6)) (by simp [results, Tryd.results6, go_sem, Led.jr, x1, x2]) rfl (lret_at 0 (HE5.out.trans Y6.out) (by omega) hz5 HM6.out HD2.out HP6.out)
    · rw [Msg.putV_msg hc hm]
      rw [hc] at HF
      generalize Msg.faultM f m = c at *
      have g2 : (c != 0) = true := by simpa using hm
      clear HM0 HR0 hc HP0 CL0 CM0
      go_enter Tryd.func6, Tryd.ntmps6
      go_wp2_with fail
      refine (HF.out _ (((Ext.refl _).alloc _).alloc _)).mono ?_
      rintro e w2 ⟨rfl, hb⟩
      have HE2 : Hid (Ext w w2) := (((Ext.refl _).alloc _).alloc _).trans hb
      have HB2 : Hid (MBoxAt w2 w.heap.size m (.slice a1 m.certs.length k1) (.slice a2 m.refs.length k2)) := ((mbox_new w m _ _ _).ext ((Ext.refl _).alloc _)).ext hb
      have HZ2 : Hid (Led.JZ w2 (w.heap.size + 1)) := by have h := (Led.jz_new (w.alloc (.cells #[.int .i64 m.kind, .int .i64 m.view, .int .i64 m.from_, .int .i64 m.slot, .int .i64 m.value, .slice a1 m.certs.length k1, .slice a2 m.refs.length k2] 28)) 32).ext hb; simp only [World.size_alloc] at h; exact h
      clear hb
      obtain ⟨-, ⟨p0, p1, p2, p3, p4, p5, p6⟩, -⟩ := HB2.out
      go_wp2_with fail
      refine (HM.out _ HE2.out HB2.out).mono ?_
      rintro e w3 ⟨rfl, hb⟩
      have HE3 : Hid (Ext w w3) := HE2.out.trans hb
      have HB3 : Hid (MBoxAt w3 w.heap.size m (.slice a1 m.certs.length k1) (.slice a2 m.refs.length k2)) := HB2.out.ext hb
      have HZ3 : Hid (Led.JZ w3 (w.heap.size + 1)) := HZ2.out.ext hb
      clear hb p0 p1 p2 p3 p4 p5 p6
      obtain ⟨-, ⟨p0, p1, p2, p3, p4, p5, p6⟩, -⟩ := HB3.out
      obtain ⟨x0, x1, x2, x3, x4⟩ := HZ3.out
      go_wp2
      exact bodyPost_ret (v := Led.jr c (.slice none 0 0)) (by simp [results, Tryd.results6, go_sem, Led.jr, x1, x2]) rfl (lret_bad c HE3.out (by omega))
  · rw [Msg.putV_bad hc]
    clear HM0 HR0 HP0 CL0 CM0
    generalize Msg.ledger f ms = c at *
    have g1 : (c != 0) = true := by simpa using hc
    go_enter Tryd.func6, Tryd.ntmps6
    go_wp2_with fail
    refine (HF.out _ (((Ext.refl _).alloc _).alloc _)).mono ?_
    rintro e w2 ⟨rfl, hb⟩
    have HE2 : Hid (Ext w w2) := (((Ext.refl _).alloc _).alloc _).trans hb
    have HB2 : Hid (MBoxAt w2 w.heap.size m (.slice a1 m.certs.length k1) (.slice a2 m.refs.length k2)) := ((mbox_new w m _ _ _).ext ((Ext.refl _).alloc _)).ext hb
    have HZ2 : Hid (Led.JZ w2 (w.heap.size + 1)) := by have h := (Led.jz_new (w.alloc (.cells #[.int .i64 m.kind, .int .i64 m.view, .int .i64 m.from_, .int .i64 m.slot, .int .i64 m.value, .slice a1 m.certs.length k1, .slice a2 m.refs.length k2] 28)) 32).ext hb; simp only [World.size_alloc] at h; exact h
    clear hb
    obtain ⟨-, ⟨p0, p1, p2, p3, p4, p5, p6⟩, -⟩ := HB2.out
    obtain ⟨x0, x1, x2, x3, x4⟩ := HZ2.out
    go_wp2
    exact bodyPost_ret (v := Led.jr c (.slice none 0 0)) (by simp [results, Tryd.results6, go_sem, Led.jr, x1, x2]) rfl (lret_bad c HE2.out (by omega))
end Go.Proofs.YtpncnfodgfldlaaDoor
