/- certificates: those of a slot, the newest, the newest of each slot: the program's. -/
import Derived.Test.YtecgjdgfjgcmdaaGreatRtGV
import Derived.Test.YtecgjdgfjgcmdaaGreatRtLG6
namespace Go.Proofs.YtecgjdgfjgcmdaaGreat
open Go.RowKit
theorem cellsCt_app (l m : List Ct) : cellsCt (l ++ m) = cellsCt l ++ cellsCt m := by simp [cellsCt]
theorem cells_ct (w : World) (c : Ct) (t : TypeId) : ∀ j u, (cellsCt [c])[j]? = some u → (w.alloc (.cells #[.int .i64 c.slot, .int .i64 c.view, .int .i64 c.value] t)).cell? ((⟨w.heap.size, 0, none⟩ : Addr).add j) = some u := by
 intro j u hj
 rw [Addr.add_lit, Nat.zero_add]
 match j, hj with
 | 0, hj => simp [cellsCt] at hj; subst hj; simp
 | 1, hj => simp [cellsCt] at hj; subst hj; simp
 | 2, hj => simp [cellsCt] at hj; subst hj; simp
 | j + 3, hj => simp [cellsCt] at hj
theorem cells_ctg (w : World) (c : Ct) (t : TypeId) {g : Nat} (hg : g = w.heap.size) : ∀ j u, (cellsCt [c])[j]? = some u → (w.alloc (.cells #[.int .i64 c.slot, .int .i64 c.view, .int .i64 c.value] t)).cell? ((⟨g, 0, none⟩ : Addr).add j) = some u := by
 subst hg
 exact cells_ct w c t
/-- A certificate in a box that may be written. -/
def CBx (w : World) (b : Nat) (c : Ct) : Prop := b < w.heap.size ∧ (w.cell? ⟨b, 0, none⟩ = some (.int .i64 c.slot) ∧ w.cell? ⟨b, 1, none⟩ = some (.int .i64 c.view) ∧ w.cell? ⟨b, 2, none⟩ = some (.int .i64 c.value)) ∧ w.frozen? ⟨b, 0, none⟩ = false ∧ w.frozen? ⟨b, 1, none⟩ = false ∧ w.frozen? ⟨b, 2, none⟩ = false
theorem cbx_new (w : World) (c : Ct) (t : TypeId) : CBx (w.alloc (.cells #[.int .i64 c.slot, .int .i64 c.view, .int .i64 c.value] t)) w.heap.size c := ⟨by simp, ⟨by simp, by simp, by simp⟩, by simp, by simp, by simp⟩
theorem CBx.ext {w w' : World} {b : Nat} {c : Ct} (h : CBx w b c) (he : Ext w w') : CBx w' b c := by
 obtain ⟨hc, hf⟩ := Ext.cell he
 obtain ⟨hb, ⟨c0, c1, c2⟩, f0, f1, f2⟩ := h
 exact ⟨Nat.lt_of_lt_of_le hb he.size, ⟨(hc _ _ hb).trans c0, (hc _ _ hb).trans c1, (hc _ _ hb).trans c2⟩, (hf _ _ hb).trans f0, (hf _ _ hb).trans f1, (hf _ _ hb).trans f2⟩
theorem CBx.set_ne {w : World} {b g o : Nat} {c : Ct} {x : Value} (h : CBx w b c) (hne : g ≠ b) : CBx (w.setCell ⟨g, o, none⟩ x) b c := by
 obtain ⟨hb, ⟨c0, c1, c2⟩, f0, f1, f2⟩ := h
 refine ⟨by simpa using hb, ⟨?_, ?_, ?_⟩, by simpa using f0, by simpa using f1, by simpa using f2⟩ <;> rw [iset_ne _ _ _ _ _ _ (Or.inl hne)] <;> assumption
theorem CBx.put {w : World} {b : Nat} {c : Ct} (h : CBx w b c) (d : Ct) : CBx (((w.setCell ⟨b, 0, none⟩ (.int .i64 d.slot)).setCell ⟨b, 1, none⟩ (.int .i64 d.view)).setCell ⟨b, 2, none⟩ (.int .i64 d.value)) b d := by
 obtain ⟨hb, ⟨c0, c1, c2⟩, f0, f1, f2⟩ := h
 have h1 := putCt_eq w b 0 d (fun j hj => by
  match j, hj with
  | 0, _ => exact ⟨_, c0⟩
  | 1, _ => exact ⟨_, c1⟩
  | 2, _ => exact ⟨_, c2⟩)
 unfold putCt at h1
 obtain ⟨e0, e1, e2⟩ := h1
 exact ⟨by simpa using hb, ⟨e0, e1, e2⟩, by simpa using f0, by simpa using f1, by simpa using f2⟩

set_option maxHeartbeats 1000000 in
theorem isOfNewerView_any (c d : Ct) (bb : Bool) (w : World) (h : decide (d.view < c.view) = bb) : Calls Tryz.prog 137 #[ctagg c, ctagg d] w fun e w' => e = .returned (.bool bb) ∧ Ext w w' := by
 unfold ctagg
 go_enter Tryz.func137, Tryz.ntmps137
 go_wp2
 go_ret
 exact ⟨ret_bool (by first | rfl | exact h), ((Ext.refl _).alloc _).alloc _⟩

set_option maxHeartbeats 4000000 in
set_option maxRecDepth 100000 in
theorem newestOf_any (v : Value) (c : Ct) (r : List Ct) (w : World) (hS : CtSlice w v (c :: r)) :
  Calls Tryz.prog 136 #[v, .func (.func 137) #[] #[]] w fun e w' => e = .returned (ctagg (Msg.newestK c r r.length)) ∧ Ext w w' := by
 obtain ⟨a, cap, rfl, hlc, hcm, hx⟩ := hS
 obtain ⟨b, off, rfl, hb, hN⟩ := hx (by simp)
 unfold maxLen at hcm
 rw [List.length_cons] at hlc ⊢
 obtain ⟨a0, a1, a2⟩ := hN 0 c rfl
 simp only [Nat.zero_mul, Nat.add_zero] at a0 a1 a2
 have HC : Hid (CtsAt w b (off + 3) r) := fun i z hz => by
  have := hN (i + 1) z (by simpa using hz)
  rw [show off + (i + 1) * 3 = off + 3 + i * 3 from by omega] at this
  exact this
 have HB0 : Hid (CBx ((w.alloc (.cells #[.int .i64 0, .int .i64 0, .int .i64 0] 57)).alloc (.cells #[.int .i64 c.slot, .int .i64 c.view, .int .i64 c.value] 57)) w.heap.size ⟨0, 0, 0⟩) := (cbx_new w ⟨0, 0, 0⟩ _).ext ((Ext.refl _).alloc _)
 have HB1 : Hid (CBx ((w.alloc (.cells #[.int .i64 0, .int .i64 0, .int .i64 0] 57)).alloc (.cells #[.int .i64 c.slot, .int .i64 c.view, .int .i64 c.value] 57)) (w.heap.size + 1) (Msg.newestK c r 0)) := by
  have h := cbx_new (w.alloc (.cells #[.int .i64 0, .int .i64 0, .int .i64 0] 57)) c 57
  rw [World.size_alloc] at h
  exact h
 have hwn : IntKind.i64.wrap ((r.length : Int) + 1) = (r.length : Int) + 1 := by rw [IntKind.wrap_i64]; omega
 clear hN hx
 by_cases hcap : cap = 1
 ·have hr0 : r = [] := List.eq_nil_of_length_eq_zero (by omega)
  subst hr0
  subst hcap
  go_enter Tryz.func136, Tryz.ntmps136
  go_wp2
  go_loopw [14] (fun i wr => i = .int .i64 0 ∧ Hid (CBx wr (w.heap.size) (⟨0, 0, 0⟩)) ∧ Hid (CBx wr (w.heap.size + 1) (c)) ∧ Hid (Ext w wr)) (fun _ _ => 0)
  case atStart => exact ⟨rfl, HB0, HB1, ((Ext.refl _).alloc _).alloc _⟩
  case round =>
   obtain ⟨rfl, HB, HN, HE⟩ := hrel
   obtain ⟨hbn, ⟨n0, n1, n2⟩, q0, q1, q2⟩ := HN.out
   obtain ⟨hbz, ⟨z0, z1, z2⟩, y0, y1, y2⟩ := HB.out
   go_wp2
   exact bodyPost_ret (v := ctagg c) (by simp [results, Tryz.results136, go_sem, ctagg, *]) rfl ⟨rfl, ((HE.out.setCell (p := ⟨w.heap.size, 0, none⟩) (Nat.le_refl _) _).setCell (p := ⟨w.heap.size, 1, none⟩) (Nat.le_refl _) _).setCell (p := ⟨w.heap.size, 2, none⟩) (Nat.le_refl _) _⟩
 ·have hc1 : r.length ≤ cap - 1 := by omega
  go_enter Tryz.func136, Tryz.ntmps136
  go_wp2
  go_loopw [14] (fun i wr => ∃ (k : Nat), k ≤ r.length ∧ i = .int .i64 k ∧ Hid (CBx wr (w.heap.size) (⟨0, 0, 0⟩)) ∧ Hid (CBx wr (w.heap.size + 1) (Msg.newestK c r k)) ∧ Hid (Ext w wr)) (fun i _ => r.length - (intOf i).toNat)
  case atStart => exact ⟨0, Nat.zero_le _, rfl, HB0, HB1, ((Ext.refl _).alloc _).alloc _⟩
  case round =>
   obtain ⟨k, hk, rfl, HB, HN, HE⟩ := hrel
   by_cases hlt : k < r.length
   ·obtain ⟨d, hdk⟩ : ∃ d, r[k]? = some d := ⟨_, List.getElem?_eq_getElem hlt⟩
    obtain ⟨c0, c1, c2⟩ := (HC.out.ext hb HE.out) k d hdk
    have HZ : Hid (r[k]? = some d) := hdk
    have HStep : Hid (Msg.newestK c r (k + 1) = Msg.newer (Msg.newestK c r k) d) := Msg.newestK_step hdk
    obtain ⟨hbn, ⟨n0, n1, n2⟩, q0, q1, q2⟩ := HN.out
    generalize Msg.newestK c r k = nk at *
    have HNW : Hid (∀ bb wx, decide (nk.view < d.view) = bb → Calls Tryz.prog 137 #[.agg #[.int .i64 d.slot, .int .i64 d.view, .int .i64 d.value], .agg #[.int .i64 nk.slot, .int .i64 nk.view, .int .i64 nk.value]] wx fun e w' => e = .returned (.bool bb) ∧ Ext wx w') := fun bb wx h => isOfNewerView_any d nk bb wx h
    clear hdk
    by_cases hq : nk.view < d.view
    ·have HQ : Hid (Msg.newestK c r (k + 1) = d) := by show _ = _; rw [HStep.out]; unfold Msg.newer; rw [if_pos hq]
     have HD : Hid (decide (nk.view < d.view) = true) := decide_eq_true hq
     clear hq
     go_wp2_with fail
     refine (HNW.out true _ HD.out).mono ?_
     rintro e w2 ⟨rfl, hb2⟩
     have HX2 : Hid (Ext wr w2) := ((Ext.refl _).alloc _).trans hb2
     have HBd : Hid (CBx w2 wr.heap.size d) := (cbx_new wr d _).ext hb2
     clear hb2 c0 c1 c2 n0 n1 n2 q0 q1 q2 HNW
     have HE2 : Hid (Ext w w2) := HE.out.trans HX2.out
     have HB2 : Hid (CBx w2 (w.heap.size) (⟨0, 0, 0⟩)) := HB.out.ext HX2.out
     have HN2 : Hid (CBx w2 (w.heap.size + 1) (nk)) := HN.out.ext HX2.out
     obtain ⟨-, ⟨p0, p1, p2⟩, -⟩ := HBd.out
     obtain ⟨hbm, ⟨n0, n1, n2⟩, q0, q1, q2⟩ := HN2.out
     go_wp2
     refine ⟨⟨k + 1, by omega, by go_num, ((HB2.out.set_ne (by omega)).set_ne (by omega)).set_ne (by omega), ?_, ((HE2.out.setCell (p := ⟨w.heap.size + 1, 0, none⟩) (Nat.le_succ _) _).setCell (p := ⟨w.heap.size + 1, 1, none⟩) (Nat.le_succ _) _).setCell (p := ⟨w.heap.size + 1, 2, none⟩) (Nat.le_succ _) _⟩, by simp [intOf]; omega⟩
     show CBx _ _ _
     rw [HQ.out]
     exact HN2.out.put d
    ·have HQ : Hid (Msg.newestK c r (k + 1) = nk) := by show _ = _; rw [HStep.out]; unfold Msg.newer; rw [if_neg hq]
     have HD : Hid (decide (nk.view < d.view) = false) := decide_eq_false hq
     clear hq
     go_wp2_with fail
     refine (HNW.out false _ HD.out).mono ?_
     rintro e w2 ⟨rfl, hb2⟩
     have HX2 : Hid (Ext wr w2) := ((Ext.refl _).alloc _).trans hb2
     clear hb2 c0 c1 c2 n0 n1 n2 q0 q1 q2 HNW
     have HE2 : Hid (Ext w w2) := HE.out.trans HX2.out
     have HB2 : Hid (CBx w2 (w.heap.size) (⟨0, 0, 0⟩)) := HB.out.ext HX2.out
     have HN2 : Hid (CBx w2 (w.heap.size + 1) (Msg.newestK c r (k + 1))) := by show CBx _ _ _; rw [HQ.out]; exact HN.out.ext HX2.out
     go_wp2
     exact ⟨⟨k + 1, by omega, by go_num, HB2, HN2, HE2⟩, by simp [intOf]; omega⟩
   ·have hke : k = r.length := by omega
    subst hke
    obtain ⟨nk, HK⟩ : ∃ nk, Hid (Msg.newestK c r r.length = nk) := ⟨_, rfl⟩
    rw [HK.out] at HN
    obtain ⟨hbn, ⟨n0, n1, n2⟩, q0, q1, q2⟩ := HN.out
    obtain ⟨hbz, ⟨z0, z1, z2⟩, y0, y1, y2⟩ := HB.out
    go_wp2
    exact bodyPost_ret (v := ctagg nk) (by simp [results, Tryz.results136, go_sem, ctagg, *]) rfl ⟨by rw [HK.out], ((HE.out.setCell (p := ⟨w.heap.size, 0, none⟩) (Nat.le_refl _) _).setCell (p := ⟨w.heap.size, 1, none⟩) (Nat.le_refl _) _).setCell (p := ⟨w.heap.size, 2, none⟩) (Nat.le_refl _) _⟩

set_option maxHeartbeats 4000000 in
set_option maxRecDepth 100000 in
theorem certsOfSlot_any (v : Value) (cs : List Ct) (slot : Int) (w : World) (hS : CtSlice w v cs) (hl : cs.length ≤ 10000) :
  Calls Tryz.prog 135 #[v, .int .i64 slot] w fun e w' => ∃ vo g, e = .returned vo ∧ w.heap.size ≤ g ∧ CtOwn w' vo g (Msg.ofSlot cs slot) ∧ Ext w w' := by
 have hi9 : (Tryz.prog.info? 57).map (fun i => (i.zero, i.size, i.bytes)) = some (some (.agg #[.int .i64 0, .int .i64 0, .int .i64 0]), 3, 24) := by kernel_rfl
 obtain ⟨tc, htc, hxx⟩ := Option.map_eq_some_iff.1 hi9
 simp only [Prod.mk.injEq] at hxx
 obtain ⟨hy0, hy1, hy2⟩ := hxx
 clear hi9
 obtain ⟨a, cap, rfl, hlc, hcm, hx⟩ := hS
 have HX : Hid (0 < cs.length → ∃ b off, a = some ⟨b, off, none⟩ ∧ b < w.heap.size ∧ CtsAt w b off cs) := hx
 clear hx
 unfold maxLen at hcm
 go_enter Tryz.func135, Tryz.ntmps135
 go_wp2
 go_loopw [5, 10] (fun ov i wr => ∃ (k : Nat), k ≤ cs.length ∧ i = .int .i64 k ∧ Hid (wr.ownsRow (w.heap.size) 57 3 ov (Msg.ofSlot (cs.take k) slot).length (cellsCt (Msg.ofSlot (cs.take k) slot))) ∧ Hid (Ext w wr)) (fun _ i _ => cs.length - (intOf i).toNat)
 case atStart => exact ⟨0, Nat.zero_le _, rfl, World.ownsRow_nil _ _ _ _, Ext.refl _⟩
 case round =>
  obtain ⟨k, hk, rfl, HO, HE⟩ := hrel
  by_cases hlt : k < cs.length
  ·obtain ⟨c, hck⟩ : ∃ c, cs[k]? = some c := ⟨_, List.getElem?_eq_getElem hlt⟩
   obtain ⟨b, off, rfl, hb, hN⟩ := HX.out (by omega)
   obtain ⟨d0, d1, d2⟩ := hN.ext hb HE.out k c hck
   have HZ : Hid (cs[k]? = some c) := hck
   have hws : w.heap.size ≤ wr.heap.size := HE.out.size
   have hol : (Msg.ofSlot (cs.take k) slot).length ≤ 10000 := by have := Msg.ofSlot_len (cs.take k) slot; rw [List.length_take] at this; omega
   clear hck hN
   by_cases hq : c.slot = slot
   ·have g : (c.slot == slot) = true := by simpa using hq
    have HK2 : Hid (Msg.ofSlot (cs.take (k + 1)) slot = Msg.ofSlot (cs.take k) slot ++ [c]) := Msg.ofSlot_yes HZ.out hq
    have HO2 : Hid (∀ o, (wr.alloc o).ownsRow (w.heap.size) 57 3 u5 (Msg.ofSlot (cs.take k) slot).length (cellsCt (Msg.ofSlot (cs.take k) slot))) := fun o => HO.out.alloc _
    clear hq
    go_wp2_with (at_builtin; go_must (refine wpList_append_own _ rfl _ _ 37 rfl (w.heap.size) 57 tc (.agg #[.int .i64 0, .int .i64 0, .int .i64 0]) 3 24 Tryz.underlying37 htc hy0 hy1 hy2 rfl (by decide) _ _ _ rfl ((HO.out.alloc _).alloc _) ⟨wr.heap.size + 1, 0, none⟩ 1 1 (cellsCt [c]) rfl rfl (cells_ctg _ _ _ (by simp)) (cellsCt_one _) (by unfold maxLen; omega) (by omega) (by simp; omega) ?_; intro v6 w6 hown6 hgrow6 hnil6))
    refine ⟨⟨k + 1, by omega, by go_num, ?_, Below.grown ((HE.out.alloc _).alloc _) hgrow6 (by simp; omega) (fun q hq => (HO.out.lt q hq).1)⟩, by simp [intOf]; omega⟩
    show w6.ownsRow _ _ _ _ _ _
    rw [HK2.out, cellsCt_app, List.length_append]
    exact hown6
   ·have g : (c.slot == slot) = false := by simpa using hq
    have HK2 : Hid (Msg.ofSlot (cs.take (k + 1)) slot = Msg.ofSlot (cs.take k) slot) := Msg.ofSlot_no HZ.out hq
    have HO9 : Hid (∀ o, (wr.alloc o).ownsRow (w.heap.size) 57 3 u5 (Msg.ofSlot (cs.take (k + 1)) slot).length (cellsCt (Msg.ofSlot (cs.take (k + 1)) slot))) := fun o => by rw [HK2.out]; exact HO.out.alloc _
    clear hq
    go_wp2
    exact ⟨⟨k + 1, by omega, by go_num, HO9.out _, HE.out.alloc _⟩, by simp [intOf]; omega⟩
  ·have hke : k = cs.length := by omega
   have HO2 : Hid (wr.ownsRow (w.heap.size) 57 3 u5 (Msg.ofSlot cs slot).length (cellsCt (Msg.ofSlot cs slot))) := by have h := HO.out; rw [hke, List.take_length] at h; exact h
   clear HO
   subst hke
   obtain ⟨g, hg1, hT⟩ := ctown_of_owns HO2.out
   obtain ⟨a8, c8, rfl, -⟩ := id hT
   have HT : Hid (w.heap.size ≤ g ∧ CtOwn wr (.slice a8 (Msg.ofSlot cs slot).length c8) g (Msg.ofSlot cs slot)) := ⟨hg1, hT⟩
   clear hT hg1
   go_wp2
   go_ret
   exact ⟨_, g, rfl, HT.out.1, HT.out.2, HE.out⟩

set_option maxHeartbeats 4000000 in
set_option maxRecDepth 100000 in
theorem newestOfSlots_any (v : Value) (cs : List Ct) (w : World) (hS : CtSlice w v cs) (hl : cs.length ≤ 10000) :
  Calls Tryz.prog 85 #[v] w fun e w' => ∃ vo g, e = .returned vo ∧ w.heap.size ≤ g ∧ CtOwn w' vo g (Msg.ns cs 30) ∧ Ext w w' := by
 have hi9 : (Tryz.prog.info? 57).map (fun i => (i.zero, i.size, i.bytes)) = some (some (.agg #[.int .i64 0, .int .i64 0, .int .i64 0]), 3, 24) := by kernel_rfl
 obtain ⟨tc, htc, hxx⟩ := Option.map_eq_some_iff.1 hi9
 simp only [Prod.mk.injEq] at hxx
 obtain ⟨hy0, hy1, hy2⟩ := hxx
 clear hi9
 have HC : Hid (∀ (slot : Int) (wx : World), Ext w wx → Calls Tryz.prog 135 #[v, .int .i64 slot] wx fun e w' => ∃ vo g, e = .returned vo ∧ wx.heap.size ≤ g ∧ CtOwn w' vo g (Msg.ofSlot cs slot) ∧ Ext wx w') := fun slot wx he => certsOfSlot_any v cs slot wx (hS.ext he) hl
 have HN : Hid (∀ (u : Value) (c : Ct) (r : List Ct) (wx : World), CtSlice wx u (c :: r) → Calls Tryz.prog 136 #[u, .func (.func 137) #[] #[]] wx fun e w' => e = .returned (ctagg (Msg.newestK c r r.length)) ∧ Ext wx w') := fun u c r wx h => newestOf_any u c r wx h
 obtain ⟨a, cap, rfl, -, -, -⟩ := hS
 unfold ctagg at HN
 go_enter Tryz.func85, Tryz.ntmps85
 go_wp2
 go_loopw [3, 6] (fun ov i wr => ∃ (k : Nat), k ≤ 30 ∧ i = .int .i64 k ∧ Hid (wr.ownsRow (w.heap.size) 57 3 ov (Msg.ns cs k).length (cellsCt (Msg.ns cs k))) ∧ Hid (Ext w wr)) (fun _ i _ => 30 - (intOf i).toNat)
 case atStart => exact ⟨0, Nat.zero_le _, rfl, World.ownsRow_nil _ _ _ _, Ext.refl _⟩
 case round =>
  obtain ⟨k, hk, rfl, HO, HE⟩ := hrel
  by_cases hlt : k < 30
  ·have hkk : (k : Int) < 30 := by omega
   have hwk : IntKind.i64.wrap ((k : Int) + 1) = (k : Int) + 1 := by rw [IntKind.wrap_i64]; omega
   have hnl := Msg.ns_len cs k
   go_wp2_with fail
   refine (HC.out _ _ HE.out).mono ?_
   rintro e w2 ⟨v2, g2, rfl, -, hO2, hb⟩
   obtain ⟨a2, c2, rfl, -⟩ := id hO2
   have HE2 : Hid (Ext w w2) := HE.out.trans hb
   have HR2 : Hid (w2.ownsRow (w.heap.size) 57 3 u3 (Msg.ns cs k).length (cellsCt (Msg.ns cs k))) := owns_ext6 HO.out hb
   have HS2 : Hid (CtSlice w2 (.slice a2 (Msg.ofSlot cs ((k : Int) + 1)).length c2) (Msg.ofSlot cs ((k : Int) + 1))) := hO2.slice
   clear hb hO2 HO HE
   cases hof : Msg.ofSlot cs ((k : Int) + 1) with
   | nil =>
    have HK2 : Hid (Msg.ns cs (k + 1) = Msg.ns cs k) := Msg.ns_no (Msg.best_nil hof)
    have HO9 : Hid (w2.ownsRow (w.heap.size) 57 3 u3 (Msg.ns cs (k + 1)).length (cellsCt (Msg.ns cs (k + 1)))) := by show w2.ownsRow _ _ _ _ _ _; rw [HK2.out]; exact HR2.out
    clear hof HS2
    go_wp2
    exact ⟨⟨k + 1, by omega, by go_num, HO9, HE2⟩, by simp [intOf]; omega⟩
   | cons c r =>
    have HK2 : Hid (Msg.ns cs (k + 1) = Msg.ns cs k ++ [Msg.newestK c r r.length]) := Msg.ns_yes (Msg.best_cons hof)
    have HS3 : Hid (CtSlice w2 (.slice a2 (c :: r).length c2) (c :: r)) := by rw [← hof]; exact HS2.out
    clear hof HS2
    have hlr : (0 : Int) < ((c :: r).length : Int) := by rw [List.length_cons]; omega
    generalize (c :: r).length = nn at *
    go_wp2_with fail
    refine (HN.out _ _ _ _ HS3.out).mono ?_
    rintro e w3 ⟨rfl, hb⟩
    have HE3 : Hid (Ext w w3) := HE2.out.trans hb
    have HR3 : Hid (w3.ownsRow (w.heap.size) 57 3 u3 (Msg.ns cs k).length (cellsCt (Msg.ns cs k))) := owns_ext6 HR2.out hb
    have hws3 : w.heap.size ≤ w3.heap.size := HE3.out.size
    clear hb
    generalize Msg.newestK c r r.length = nk at *
    go_wp2_with (at_builtin; go_must (refine wpList_append_own _ rfl _ _ 37 rfl (w.heap.size) 57 tc (.agg #[.int .i64 0, .int .i64 0, .int .i64 0]) 3 24 Tryz.underlying37 htc hy0 hy1 hy2 rfl (by decide) _ _ _ rfl (HR3.out.alloc _) ⟨w3.heap.size, 0, none⟩ 1 1 (cellsCt [nk]) rfl rfl (cells_ct _ _ _) (cellsCt_one _) (by unfold maxLen; omega) (by omega) (by simp; omega) ?_; intro v6 w6 hown6 hgrow6 hnil6))
    refine ⟨⟨k + 1, by omega, by go_num, ?_, Below.grown (HE3.out.alloc _) hgrow6 (by simp; omega) (fun q hq => (HR3.out.lt q hq).1)⟩, by simp [intOf]; omega⟩
    show w6.ownsRow _ _ _ _ _ _
    rw [HK2.out, cellsCt_app, List.length_append]
    exact hown6
  ·have hke : k = 30 := by omega
   subst hke
   obtain ⟨g, hg1, hT⟩ := ctown_of_owns HO.out
   obtain ⟨a8, c8, rfl, -⟩ := id hT
   have HT : Hid (w.heap.size ≤ g ∧ CtOwn wr (.slice a8 (Msg.ns cs 30).length c8) g (Msg.ns cs 30)) := ⟨hg1, hT⟩
   clear hT hg1
   go_wp2
   go_ret
   exact ⟨_, g, rfl, HT.out.1, HT.out.2, HE.out⟩
end Go.Proofs.YtecgjdgfjgcmdaaGreat
