/- QV9, QV9s, QV9r, MD8, DN, QV5s, MD9, in one text. -/
import Derived.Test.YtecgjdgfjgcmdaaGreatRtQV7a
import Derived.Test.YtecgjdgfjgcmdaaGreatRtQV5
import Derived.Deep.RegionHeld3
import Derived.Test.YtecgjdgfjgcmdaaGreatRtGA
import Derived.Test.YtecgjdgfjgcmdaaGreatRtQV4
import Derived.Test.YtecgjdgfjgcmdaaGreatRtTk
namespace Go.Proofs.YtecgjdgfjgcmdaaGreat
open Go.RowKit
theorem Msg.step_append {P : Program} (w : World) {ops : Array Oper} {o : Oper} {a : Act} {K : Act → World → Prop} {Q : Exit → Act → World → Prop} {E : Prop} (hgd : o.guard = none) (s x : Operand) (t : TypeId)
  (ho : o.op = .call { callee := .builtin .append, args := #[s, x], argTypes := #[t, t] })
  (base : Nat) (e : TypeId) (i : TypeInfo) (z : Value) (size bytes : Nat) (ht : P.underlying t = some (.slice e)) (hi : P.info? e = some i) (hz : i.zero = some z)
  (hsize : i.size = size) (hby : i.bytes = bytes) (hzs : z.cells.size = size) (hsz : 0 < size)
  (v : Value) (n : Nat) (xs : List Value) (hs : a.eval s = v) (hown : w.ownsRow base e size v n xs)
  (ad : Addr) (m c : Nat) (news : List Value) (hx : a.eval x = .slice (some ad) m c) (hl : news.length = m * size) (hnews : ∀ j u, news[j]? = some u → w.cell? (ad.add j) = some u) (h1 : ∀ u ∈ news, u.oneCell' = true)
  (h63 : n + m ≤ maxLen) (hbytes : (n + m) * bytes ≤ 140737488355328) (hbase : base ≤ w.heap.size)
  (h : ∀ v' w', w'.ownsRow base e size v' (n + m) (xs ++ news) → w.grownBy w' v.ownBlock → (v' = .slice none 0 0 ↔ v = .slice none 0 0 ∧ m = 0) → K (a.put o.dst v') w') :
  if Region.wanted o (yielded ops a.tmps) = true then Oper.wp P o a w K Q else E := by
 have hw : Region.wanted o (yielded ops a.tmps) = true := by simp [Region.wanted, hgd]
 rw [if_pos hw]
 exact wp_append_own w s x t ho base e i z size bytes ht hi hz hsize hby hzs hsz v n xs hs hown ad m c news hx hl hnews h1 h63 hbytes hbase h
set_option linter.unusedSimpArgs false in
set_option maxHeartbeats 8000000 in
set_option maxRecDepth 100000 in
theorem commitsOf_any (v : Value) (ms : List Ms) (id view : Int) (w : World) (hS : MSlice w v ms) (hml : ms.length ≤ 240) :
  Calls Tryz.prog 86 #[v, .int .i64 id, .int .i64 view] w fun e w' => ∃ vo g, e = .returned vo ∧ w.heap.size ≤ g ∧ CtOwn w' vo g (Msg.cms ms id view) ∧ Ext w w' := by
 have hi9 : (Tryz.prog.info? 57).map (fun i => (i.zero, i.size, i.bytes)) = some (some (.agg #[.int .i64 0, .int .i64 0, .int .i64 0]), 3, 24) := by kernel_rfl
 obtain ⟨tc, htc, hxx⟩ := Option.map_eq_some_iff.1 hi9
 simp only [Prod.mk.injEq] at hxx
 obtain ⟨hy0, hy1, hy2⟩ := hxx
 clear hi9
 have HSl : Hid (MSlice w v ms) := hS
 obtain ⟨a, cap, rfl, -, -, -⟩ := hS
 go_enter Tryz.func86, Tryz.ntmps86
 go_wp2
 go_loopw [7, 12] (fun ov i wr => ∃ (k : Nat), k ≤ ms.length ∧ i = .int .i64 k ∧ Hid (wr.ownsRow (w.heap.size) 57 3 ov (Msg.cms (ms.take k) id view).length (cellsCt (Msg.cms (ms.take k) id view))) ∧ Hid (Ext w wr)) (fun _ i _ => ms.length - (intOf i).toNat)
 case atStart => exact ⟨0, Nat.zero_le _, rfl, World.ownsRow_nil _ _ _ _, Ext.refl _⟩
 case round =>
  obtain ⟨k, hk, rfl, HO, HE⟩ := hrel
  by_cases hlt : k < ms.length
  ·obtain ⟨z, h2⟩ : ∃ z, ms[k]? = some z := ⟨_, List.getElem?_eq_getElem hlt⟩
   obtain ⟨b1, off1, cap1, e1, hlt1, hlm1, hcm1, hb1, hm⟩ := HSl.out.at2 h2
   injection e1 with e1 e4 e5
   subst e1 e5
   have HZ : Hid (ms[k]? = some z) := h2
   have hws : w.heap.size ≤ wr.heap.size := HE.out.size
   have hcl : (Msg.cms (ms.take k) id view).length ≤ 240 := by have := Msg.cms_len (ms.take k) id view; rw [List.length_take] at this; omega
   obtain ⟨vz, uz, ⟨d0, d1, d2, d3, d4, -, -⟩, -⟩ := hm
   have HS7 : Hid (∀ W', Ext w W' → W'.cell? ⟨b1, off1 + k * 7 + 3, none⟩ = some (.int .i64 z.slot) ∧ W'.cell? ⟨b1, off1 + k * 7 + 1, none⟩ = some (.int .i64 z.view) ∧ W'.cell? ⟨b1, off1 + k * 7 + 4, none⟩ = some (.int .i64 z.value)) := fun W' he => ⟨((Ext.cell he).1 _ _ hb1).trans d3, ((Ext.cell he).1 _ _ hb1).trans d1, ((Ext.cell he).1 _ _ hb1).trans d4⟩
   have c0 := ((Ext.cell HE.out).1 _ _ hb1).trans d0
   have c1 := ((Ext.cell HE.out).1 _ _ hb1).trans d1
   have c2 := ((Ext.cell HE.out).1 _ _ hb1).trans d2
   clear h2 e4 d0 d1 d2 d3 d4
   by_cases h3 : z.kind = 3
   ·have g3 : (z.kind == 3) = true := by simpa using h3
    by_cases h4 : z.from_ = id
    ·have g4 : (z.from_ == id) = true := by simpa using h4
     by_cases h5 : z.view < view
     ·have HK2 : Hid (Msg.cms (ms.take (k + 1)) id view = Msg.cms (ms.take k) id view ++ [⟨z.slot, z.view, z.value⟩]) := Msg.cms_yes HZ.out ⟨h3, h4, h5⟩
      clear h3 h4
      go_wp2
      clear c0 c1 c2
      refine wp_region_held_drew (S := (fun W' : World => W'.cell? ⟨b1, off1 + k * 7 + 3, none⟩ = some (.int .i64 z.slot) ∧ W'.cell? ⟨b1, off1 + k * 7 + 1, none⟩ = some (.int .i64 z.view) ∧ W'.cell? ⟨b1, off1 + k * 7 + 4, none⟩ = some (.int .i64 z.value))) (by kernel_rfl) (HS7.out _ HE.out.drew) (fun hHeld => ?_)
      refine tk 0 ⟨some 39, .move (.tmp 7), 37, oz25, #[], none⟩ ?_
      refine tk 1 ⟨some 40, .move (.tmp 9), 97, oz25, #[], none⟩ ?_
      refine tk 2 ⟨some 41, .nilCheck (.tmp 40), 0, oz25, #[⟨1, .data⟩], none⟩ ?_
      refine tk 3 ⟨some 42, .fieldAddr 40 (.tmp 41) 3, 0, oz25, #[⟨2, .data⟩], none⟩ ?_
      refine tk 4 ⟨some 43, .load 2 (.tmp 42), 2, oz25, #[⟨3, .data⟩], none⟩ ?_
      refine tk 5 ⟨some 44, .move (.tmp 9), 97, oz25, #[], none⟩ ?_
      refine tk 6 ⟨some 45, .nilCheck (.tmp 44), 0, oz25, #[⟨5, .data⟩], none⟩ ?_
      refine tk 7 ⟨some 46, .fieldAddr 40 (.tmp 45) 1, 0, oz25, #[⟨6, .data⟩], none⟩ ?_
      refine tk 8 ⟨some 47, .load 2 (.tmp 46), 2, oz25, #[⟨7, .data⟩], none⟩ ?_
      refine tk 9 ⟨some 48, .move (.tmp 9), 97, oz25, #[], none⟩ ?_
      refine tk 10 ⟨some 49, .nilCheck (.tmp 48), 0, oz25, #[⟨9, .data⟩], none⟩ ?_
      refine tk 11 ⟨some 50, .fieldAddr 40 (.tmp 49) 4, 0, oz25, #[⟨10, .data⟩], none⟩ ?_
      refine tk 12 ⟨some 51, .load 2 (.tmp 50), 2, oz25, #[⟨11, .data⟩], none⟩ ?_
      refine tk 13 ⟨some 52, .build 57 #[(0, .tmp 43), (1, .tmp 47), (2, .tmp 51)], 57, oz25, #[⟨4, .data⟩, ⟨8, .data⟩, ⟨12, .data⟩], none⟩ ?_
      refine wpAnyH_ready (rs := [14]) (by kernel_rfl) (by simp) (AllReadyH.cons rfl (fun K hK => ?_) AllReadyH.nil)
      go_simp
      refine hK.out _ _ (by exact HS7.out _ (HE.out.drew.alloc _)) (fun hHeld1 => ?_)
      clear hK K
      refine wpAnyH_ready (rs := [15]) (by kernel_rfl) (by simp) (AllReadyH.cons rfl (fun K hK => ?_) AllReadyH.nil)
      refine Msg.step_append _ rfl (.tmp 39) (.tmp 53) 37 rfl w.heap.size 57 tc (.agg #[.int .i64 0, .int .i64 0, .int .i64 0]) 3 24 Tryz.underlying37 htc hy0 hy1 hy2 rfl (by decide) _ _ _ rfl (World.ownsRow.alloc (w := wr.drew) HO.out _) ⟨wr.heap.size, 0, none⟩ 1 1 (cellsCt [⟨z.slot, z.view, z.value⟩]) rfl rfl (cells_ct wr.drew ⟨z.slot, z.view, z.value⟩ _) (cellsCt_one _) (by unfold maxLen; omega) (by omega) (by simp; omega) ?_
      intro v6 w6 hown6 hgrow6 hnil6
      have HE6 : Hid (Ext w w6) := Below.grown (HE.out.drew.alloc _) hgrow6 (by simp; omega) (fun q hq => (HO.out.lt q hq).1)
      have HO6 : Hid (w6.ownsRow (w.heap.size) 57 3 v6 (Msg.cms (ms.take (k + 1)) id view).length (cellsCt (Msg.cms (ms.take (k + 1)) id view))) := by show w6.ownsRow _ _ _ _ _ _; rw [HK2.out, cellsCt_app, List.length_append]; exact hown6
      clear hown6 hgrow6 hnil6
      refine hK.out _ _ (by exact HS7.out _ HE6.out) (fun hHeld2 => ?_)
      clear hK K
      refine tk 16 ⟨some 7, .assign (.tmp 54), 37, oz25, #[⟨15, .data⟩, ⟨15, .chain⟩, ⟨0, .phase⟩, ⟨1, .phase⟩, ⟨2, .phase⟩, ⟨3, .phase⟩, ⟨4, .phase⟩, ⟨5, .phase⟩, ⟨6, .phase⟩, ⟨7, .phase⟩, ⟨8, .phase⟩, ⟨9, .phase⟩, ⟨10, .phase⟩, ⟨11, .phase⟩, ⟨12, .phase⟩, ⟨13, .phase⟩, ⟨14, .phase⟩, ⟨15, .phase⟩], none⟩ ?_
      refine wpAnyH_done (by kernel_rfl) ?_ _
      (try go_wp2)
      exact ⟨⟨k + 1, by omega, by go_num, HO6, HE6⟩, by simp [intOf]; omega⟩
     ·have g5 : ¬ z.view < view := h5
      have HK2 : Hid (Msg.cms (ms.take (k + 1)) id view = Msg.cms (ms.take k) id view) := Msg.cms_no HZ.out (fun h => h5 h.2.2)
      have HO9 : Hid (wr.ownsRow (w.heap.size) 57 3 u7 (Msg.cms (ms.take (k + 1)) id view).length (cellsCt (Msg.cms (ms.take (k + 1)) id view))) := by show wr.ownsRow _ _ _ _ _ _; rw [HK2.out]; exact HO.out
      clear h3 h4
      go_wp2
      exact ⟨⟨k + 1, by omega, by go_num, HO9, HE⟩, by simp [intOf]; omega⟩
    ·have g4 : (z.from_ == id) = false := by simpa using h4
     have HK2 : Hid (Msg.cms (ms.take (k + 1)) id view = Msg.cms (ms.take k) id view) := Msg.cms_no HZ.out (fun h => h4 h.2.1)
     have HO9 : Hid (wr.ownsRow (w.heap.size) 57 3 u7 (Msg.cms (ms.take (k + 1)) id view).length (cellsCt (Msg.cms (ms.take (k + 1)) id view))) := by show wr.ownsRow _ _ _ _ _ _; rw [HK2.out]; exact HO.out
     clear h3 h4
     go_wp2
     exact ⟨⟨k + 1, by omega, by go_num, HO9, HE⟩, by simp [intOf]; omega⟩
   ·have g3 : (z.kind == 3) = false := by simpa using h3
    have HK2 : Hid (Msg.cms (ms.take (k + 1)) id view = Msg.cms (ms.take k) id view) := Msg.cms_no HZ.out (fun h => h3 h.1)
    have HO9 : Hid (wr.ownsRow (w.heap.size) 57 3 u7 (Msg.cms (ms.take (k + 1)) id view).length (cellsCt (Msg.cms (ms.take (k + 1)) id view))) := by show wr.ownsRow _ _ _ _ _ _; rw [HK2.out]; exact HO.out
    clear h3
    go_wp2
    exact ⟨⟨k + 1, by omega, by go_num, HO9, HE⟩, by simp [intOf]; omega⟩
  ·have hke : k = ms.length := by omega
   have HO2 : Hid (wr.ownsRow (w.heap.size) 57 3 u7 (Msg.cms ms id view).length (cellsCt (Msg.cms ms id view))) := by have h := HO.out; rw [hke, List.take_length] at h; exact h
   clear HO
   subst hke
   obtain ⟨g, hg1, hT⟩ := ctown_of_owns HO2.out
   obtain ⟨a8, c8, rfl, -⟩ := _root_.id hT
   have HT : Hid (w.heap.size ≤ g ∧ CtOwn wr (.slice a8 (Msg.cms ms id view).length c8) g (Msg.cms ms id view)) := ⟨hg1, hT⟩
   clear hT hg1
   go_wp2
   go_ret
   exact ⟨_, g, rfl, HT.out.1, HT.out.2, HE.out⟩
/-- A CertsResult of code c and certificates rs came back, these in new memory. -/
def Led.KRet (w : World) (c : Int) (rs : List Ct) (e : Ending) (w' : World) : Prop := ∃ v g, e = .returned (Led.jr c v) ∧ w.heap.size ≤ g ∧ CtOwn w' v g rs ∧ Ext w w'
theorem Led.kret_box {w w2 : World} (c : Int) {v : Value} {g : Nat} {rs : List Ct} (hE : Ext w w2) (hO : CtOwn w2 v g rs) (hg : w.heap.size < g) :
  Led.KRet w c rs (.returned (Led.jr c v)) ((w2.setCell ⟨w.heap.size, 0, none⟩ (.int .i64 c)).setCell ⟨w.heap.size, 1, none⟩ v) :=
 ⟨v, g, rfl, Nat.le_of_lt hg, hO.upd' (((Upd.refl w.heap.size w2).setAt _ _).setAt _ _) (fun _ => by omega), hE.two _ _⟩
theorem Led.kret_bad {w w2 : World} (c : Int) (hE : Ext w w2) :
  Led.KRet w c [] (.returned (Led.jr c (.slice none 0 0))) ((w2.setCell ⟨w.heap.size, 0, none⟩ (.int .i64 c)).setCell ⟨w.heap.size, 1, none⟩ (.slice none 0 0)) :=
 Led.kret_box (g := w.heap.size + 1) c hE ⟨none, 0, rfl, Nat.le_refl _, by unfold maxLen; omega, fun h => by simp at h⟩ (by omega)

set_option maxHeartbeats 4000000 in
set_option maxRecDepth 100000 in
theorem implCertsOf_any (f x y : Int) (v : Value) (ms : List Ms) (w : World) (hS : MSlice w v ms) :
  Calls Tryz.prog 38 #[.int .i64 f, v, .int .i64 x, .int .i64 y] w (Led.KRet w (Msg.certsV f ms x y).1 (Msg.certsV f ms x y).2) := by
 have HF : Hid (∀ wx, Ext w wx → Calls Tryz.prog 74 #[.int .i64 f, v] wx fun e w' => e = .returned (.int .i64 (Msg.ledger f ms)) ∧ Ext wx w') := fun wx he => implLedgerFault_any f v ms wx (hS.ext he)
 have HId0 : Hid (∀ bb, 1 ≤ f → f ≤ 2 → (decide (1 ≤ x) && decide (x ≤ 3 * f + 1)) = bb → ∀ wx, Calls Tryz.prog 83 #[.int .i64 f, .int .i64 x] wx fun e w' => e = .returned (.bool bb) ∧ w' = wx) := fun bb h0 h1 hbb wx => by rw [← hbb]; exact isReplica_any f x wx h0 h1
 have HVw0 : Hid (∀ bb, (decide (0 ≤ y) && decide (y ≤ 20)) = bb → ∀ wx, Calls Tryz.prog 84 #[.int .i64 y, .int .i64 20] wx fun e w' => e = .returned (.bool bb) ∧ w' = wx) := fun bb hbb wx => by rw [← hbb]; exact isUpToM_any y 20 wx
 have HCm : Hid (ms.length ≤ 240 → ∀ wx, Ext w wx → Calls Tryz.prog 86 #[v, .int .i64 x, .int .i64 y] wx fun e w' => ∃ vo g, e = .returned vo ∧ wx.heap.size ≤ g ∧ CtOwn w' vo g (Msg.cms ms x y) ∧ Ext wx w') := fun h wx he => commitsOf_any v ms x y wx (hS.ext he) h
 have HNs : Hid (∀ (u : Value) (cs : List Ct) (wx : World), CtSlice wx u cs → cs.length ≤ 10000 → Calls Tryz.prog 85 #[u] wx fun e w' => ∃ vo g, e = .returned vo ∧ wx.heap.size ≤ g ∧ CtOwn w' vo g (Msg.ns cs 30) ∧ Ext wx w') := fun u cs wx h1 h2 => newestOfSlots_any u cs wx h1 h2
 obtain ⟨a, cap, rfl, -, -, -⟩ := hS
 by_cases hc : Msg.ledger f ms = 0
 ·obtain ⟨hf0, hf1, hml⟩ := Msg.ledger_zero hc
  have HC : Hid (Msg.ledger f ms = 0) := hc
  rw [hc] at HF
  by_cases hx : 1 ≤ x ∧ x ≤ 3 * f + 1
  ·have HId : Hid (∀ wx, Calls Tryz.prog 83 #[.int .i64 f, .int .i64 x] wx fun e w' => e = .returned (.bool true) ∧ w' = wx) := HId0.out true hf0 hf1 (by simp; omega)
   by_cases hy : 0 ≤ y ∧ y ≤ 20
   ·have HVw : Hid (∀ wx, Calls Tryz.prog 84 #[.int .i64 y, .int .i64 20] wx fun e w' => e = .returned (.bool true) ∧ w' = wx) := HVw0.out true (by simp; omega)
    rw [Msg.certsV_ok hc hx hy]
    clear hc hx hy HId0 HVw0
    obtain ⟨rs, hrs⟩ : ∃ rs, rs = Msg.ns (Msg.cms ms x y) 30 := ⟨_, rfl⟩
    rw [← hrs]
    have HRS : Hid (rs = Msg.ns (Msg.cms ms x y) 30) := hrs
    clear hrs
    go_enter Tryz.func38, Tryz.ntmps38
    go_wp2_with fail
    refine (HF.out _ ((Ext.refl _).alloc _)).mono ?_
    rintro e w2 ⟨rfl, hb⟩
    have HE2 : Hid (Ext w w2) := ((Ext.refl _).alloc _).trans hb
    have HZ2 : Hid (Led.JZ w2 w.heap.size) := (Led.jz_new w _).ext hb
    clear hb
    obtain ⟨x0, x1, x2, x3, x4⟩ := HZ2.out
    go_wp2_with fail
    refine (HId.out _).mono ?_
    rintro e w9 ⟨rfl, hw⟩
    rw [hw]
    clear hw w9
    go_wp2_with fail
    refine (HVw.out _).mono ?_
    rintro e w9 ⟨rfl, hw⟩
    rw [hw]
    clear hw w9
    go_wp2_with fail
    refine (HCm.out hml _ HE2.out).mono ?_
    rintro e w4 ⟨v4, g4, rfl, -, hO4, hb⟩
    have HE4 : Hid (Ext w w4) := HE2.out.trans hb
    have HZ4 : Hid (Led.JZ w4 w.heap.size) := HZ2.out.ext hb
    have HI4 : Hid (CtSlice w4 v4 (Msg.cms ms x y)) := hO4.slice
    obtain ⟨a4, c4, rfl, -⟩ := id hO4
    have hcl := Msg.cms_len ms x y
    clear hb hO4 x0 x1 x2 x3 x4
    have HNs2 : Hid (∀ wx, CtSlice wx (.slice a4 (Msg.cms ms x y).length c4) (Msg.cms ms x y) → Calls Tryz.prog 85 #[.slice a4 (Msg.cms ms x y).length c4] wx fun e w' => ∃ vo g, e = .returned vo ∧ wx.heap.size ≤ g ∧ CtOwn w' vo g rs ∧ Ext wx w') := fun wx h => by rw [HRS.out]; exact HNs.out _ _ wx h (by omega)
    clear HNs
    go_wp2_with fail
    refine (HNs2.out _ HI4.out).mono ?_
    rintro e w5 ⟨v5, g5, rfl, hg5, hO5, hb⟩
    obtain ⟨a5, c5, rfl, -⟩ := id hO5
    have HE5 : Hid (Ext w w5) := HE4.out.trans hb
    have HZ5 : Hid (Led.JZ w5 w.heap.size) := HZ4.out.ext hb
    have HO5 : Hid (CtOwn w5 (.slice a5 rs.length c5) g5 rs ∧ w.heap.size < g5) := ⟨hO5, Nat.lt_of_lt_of_le HZ4.out.1 hg5⟩
    clear hb hO5 hg5
    obtain ⟨x0, x1, x2, x3, x4⟩ := HZ5.out
    go_wp2
    exact bodyPost_ret (v := Led.jr 0 (.slice a5 rs.length c5)) (by simp [results, Tryz.results38, go_sem, Led.jr, x1, x2]) rfl (Led.kret_box 0 HE5.out HO5.out.1 HO5.out.2)
   ·have HVw : Hid (∀ wx, Calls Tryz.prog 84 #[.int .i64 y, .int .i64 20] wx fun e w' => e = .returned (.bool false) ∧ w' = wx) := HVw0.out false (by rw [Bool.and_eq_false_iff]; simp; omega)
    rw [Msg.certsV_view hc hx hy]
    clear hc hx hy HId0 HVw0
    go_enter Tryz.func38, Tryz.ntmps38
    go_wp2_with fail
    refine (HF.out _ ((Ext.refl _).alloc _)).mono ?_
    rintro e w2 ⟨rfl, hb⟩
    have HE2 : Hid (Ext w w2) := ((Ext.refl _).alloc _).trans hb
    have HZ2 : Hid (Led.JZ w2 w.heap.size) := (Led.jz_new w _).ext hb
    clear hb
    obtain ⟨x0, x1, x2, x3, x4⟩ := HZ2.out
    go_wp2_with fail
    refine (HId.out _).mono ?_
    rintro e w9 ⟨rfl, hw⟩
    rw [hw]
    clear hw w9
    go_wp2_with fail
    refine (HVw.out _).mono ?_
    rintro e w9 ⟨rfl, hw⟩
    rw [hw]
    clear hw w9
    go_wp2
    exact bodyPost_ret (v := Led.jr 3 (.slice none 0 0)) (by simp [results, Tryz.results38, go_sem, Led.jr, x1, x2]) rfl (Led.kret_bad 3 HE2.out)
  ·have HId : Hid (∀ wx, Calls Tryz.prog 83 #[.int .i64 f, .int .i64 x] wx fun e w' => e = .returned (.bool false) ∧ w' = wx) := HId0.out false hf0 hf1 (by rw [Bool.and_eq_false_iff]; simp; omega)
   rw [Msg.certsV_id hc hx]
   clear hc hx HId0 HVw0
   go_enter Tryz.func38, Tryz.ntmps38
   go_wp2_with fail
   refine (HF.out _ ((Ext.refl _).alloc _)).mono ?_
   rintro e w2 ⟨rfl, hb⟩
   have HE2 : Hid (Ext w w2) := ((Ext.refl _).alloc _).trans hb
   have HZ2 : Hid (Led.JZ w2 w.heap.size) := (Led.jz_new w _).ext hb
   clear hb
   obtain ⟨x0, x1, x2, x3, x4⟩ := HZ2.out
   go_wp2_with fail
   refine (HId.out _).mono ?_
   rintro e w9 ⟨rfl, hw⟩
   rw [hw]
   clear hw w9
   go_wp2
   exact bodyPost_ret (v := Led.jr 3 (.slice none 0 0)) (by simp [results, Tryz.results38, go_sem, Led.jr, x1, x2]) rfl (Led.kret_bad 3 HE2.out)
 ·rw [Msg.certsV_bad hc]
  have g2 : (Msg.ledger f ms != 0) = true := by simpa using hc
  clear hc HId0 HVw0
  generalize Msg.ledger f ms = c at *
  go_enter Tryz.func38, Tryz.ntmps38
  go_wp2_with fail
  refine (HF.out _ ((Ext.refl _).alloc _)).mono ?_
  rintro e w2 ⟨rfl, hb⟩
  have HE2 : Hid (Ext w w2) := ((Ext.refl _).alloc _).trans hb
  have HZ2 : Hid (Led.JZ w2 w.heap.size) := (Led.jz_new w _).ext hb
  clear hb
  obtain ⟨x0, x1, x2, x3, x4⟩ := HZ2.out
  go_wp2
  exact bodyPost_ret (v := Led.jr c (.slice none 0 0)) (by simp [results, Tryz.results38, go_sem, Led.jr, x1, x2]) rfl (Led.kret_bad c HE2.out)
end Go.Proofs.YtecgjdgfjgcmdaaGreat
namespace Go.Proofs.YtecgjdgfjgcmdaaGreat
open Go.RowKit
namespace Msg
theorem cms_same {ms : List Ms} {id view slot : Int} {i : Nat} {z : Ms} (h : ms[i]? = some z) (hv : 0 ≤ z.view) (hno : ¬ (z.kind = 3 ∧ z.from_ = id ∧ z.slot = slot ∧ z.view < view ∧ vw (best (cms (ms.take i) id view) slot) < z.view)) : best (cms (ms.take (i + 1)) id view) slot = best (cms (ms.take i) id view) slot := by
 by_cases hc : z.kind = 3 ∧ z.from_ = id ∧ z.view < view
 ·rw [cms_yes h hc, best_snoc]
  by_cases hs : z.slot = slot
  ·exact better_keep hv (fun hl => hno ⟨hc.1, hc.2.1, hs, hc.2.2, hl⟩)
  ·exact better_ne hs
 ·rw [cms_no h hc]
theorem cms_new {ms : List Ms} {id view slot : Int} {i : Nat} {z : Ms} (h : ms[i]? = some z) (hy : z.kind = 3 ∧ z.from_ = id ∧ z.slot = slot ∧ z.view < view ∧ vw (best (cms (ms.take i) id view) slot) < z.view) : best (cms (ms.take (i + 1)) id view) slot = some ⟨z.slot, z.view, z.value⟩ := by
 rw [cms_yes h ⟨hy.1, hy.2.1, hy.2.2.2.1⟩, best_snoc]
 exact better_take hy.2.2.1 hy.2.2.2.2
end Msg
theorem CBx.put12 {w : World} {b : Nat} {x y u s p q : Int} (h : CBx w b ⟨s, x, y⟩) (hu : u = s) : CBx ((w.setCell ⟨b, 1, none⟩ (.int .i64 p)).setCell ⟨b, 2, none⟩ (.int .i64 q)) b ⟨u, p, q⟩ := by
 subst hu
 obtain ⟨hb, ⟨c0, c1, c2⟩, f0, f1, f2⟩ := h
 refine ⟨by simpa using hb, ⟨?_, ?_, ?_⟩, by simpa using f0, by simpa using f1, by simpa using f2⟩
 ·rw [iset_ne _ _ _ _ _ _ (by omega), iset_ne _ _ _ _ _ _ (by omega)]; exact c0
 ·rw [iset_ne _ _ _ _ _ _ (by omega)]; exact iset_eq _ _ _ _ ⟨_, c1⟩
 ·exact iset_eq _ _ _ _ ⟨_, by rw [iset_ne _ _ _ _ _ _ (by omega)]; exact c2⟩
theorem CBx.drew {w : World} {b : Nat} {c : Ct} (h : CBx w b c) : CBx w.drew b c := h.ext (Ext.refl _).drew
theorem own_below {w w' : World} {base B : Nat} {e : TypeId} {size n : Nat} {v : Value} {xs : List Value} (h : w.ownsRow base e size v n xs) (hB : Below B w w') (hq : ∀ q, v.ownBlock = some q → q < B) : w'.ownsRow base e size v n xs := by
 refine ⟨h.1, ?_⟩
 rcases h.2 with hn | ⟨g, cap, cur, rfl, hbg, hgg, rest⟩
 ·exact .inl hn
 ·exact .inr ⟨g, cap, cur, rfl, hbg, (Below.block hB g (hq g rfl)).trans hgg, rest⟩
set_option linter.unusedSimpArgs false in
set_option maxHeartbeats 8000000 in
set_option maxRecDepth 100000 in
theorem l10Certs_any (f : Int) (v : Value) (ms : List Ms) (id view : Int) (w : World) (hS : MSlice w v ms) (hled : Msg.ledger f ms = 0) :
  Calls Tryz.prog 58 #[v, .int .i64 id, .int .i64 view] w fun e w' => ∃ vo g, e = .returned vo ∧ w.heap.size ≤ g ∧ CtOwn w' vo g (Msg.ns (Msg.cms ms id view) 30) ∧ Ext w w' := by
 have hi9 : (Tryz.prog.info? 57).map (fun i => (i.zero, i.size, i.bytes)) = some (some (.agg #[.int .i64 0, .int .i64 0, .int .i64 0]), 3, 24) := by kernel_rfl
 obtain ⟨tc, htc, hxx⟩ := Option.map_eq_some_iff.1 hi9
 simp only [Prod.mk.injEq] at hxx
 obtain ⟨hy0, hy1, hy2⟩ := hxx
 clear hi9
 have HSl : Hid (MSlice w v ms) := hS
 have HVa : Hid (∀ z ∈ ms, 0 ≤ z.view) := fun z hz => (Msg.view_in (Msg.ledger_all hled z hz)).1
 have HCi : Hid (∀ c ∈ Msg.cms ms id view, 0 ≤ c.view) := fun c hc => (Msg.cms_in hled c hc).2.2.1
 obtain ⟨a, cap, rfl, -, -, -⟩ := hS
 clear hled
 go_enter Tryz.func58, Tryz.ntmps58
 go_wp2
 go_loopw [7, 8] (fun ov i wr => ∃ (k : Nat), k ≤ 30 ∧ i = .int .i64 ((k : Int) + 1) ∧ Hid (wr.ownsRow (w.heap.size) 57 3 ov (Msg.ns (Msg.cms ms id view) k).length (cellsCt (Msg.ns (Msg.cms ms id view) k))) ∧ Hid (Ext w wr)) (fun _ i _ => 31 - (intOf i).toNat)
 case atStart => exact ⟨0, Nat.zero_le _, rfl, World.ownsRow_made w #[] 0 (Nat.le_refl _) (by unfold maxLen; omega) rfl, (Ext.refl _).alloc _⟩
 case round =>
  obtain ⟨k, hk, rfl, HO, HE⟩ := hrel
  obtain ⟨wo, hwo⟩ : ∃ wo, wo = wr := ⟨_, rfl⟩
  subst hwo
  by_cases hlt : k < 30
  ·have hkk : (k : Int) + 1 ≤ 30 := by omega
   have hnl := Msg.ns_len (Msg.cms ms id view) k
   have hws : w.heap.size ≤ wo.heap.size := HE.out.size
   have HB0 : Hid (CBx (wo.alloc (.cells #[.int .i64 ((k : Int) + 1), .int .i64 (-1), .int .i64 0] 57)) wo.heap.size ⟨(k : Int) + 1, Msg.vw (Msg.best (Msg.cms (ms.take 0) id view) ((k : Int) + 1)), Msg.vl (Msg.best (Msg.cms (ms.take 0) id view) ((k : Int) + 1))⟩) := cbx_new wo ⟨(k : Int) + 1, Msg.vw (Msg.best (Msg.cms (ms.take 0) id view) ((k : Int) + 1)), Msg.vl (Msg.best (Msg.cms (ms.take 0) id view) ((k : Int) + 1))⟩ _
   have HQ0 : Hid (∀ q, u7.ownBlock = some q → q < wo.heap.size) := fun q hq => (HO.out.lt q hq).2
   obtain ⟨wa, hwa⟩ : ∃ wa, wa = wo.alloc (.cells #[.int .i64 ((k : Int) + 1), .int .i64 (-1), .int .i64 0] 57) := ⟨_, rfl⟩
   have HOa : Hid (wa.ownsRow (w.heap.size) 57 3 u7 (Msg.ns (Msg.cms ms id view) k).length (cellsCt (Msg.ns (Msg.cms ms id view) k))) := by rw [hwa]; exact HO.out.alloc _
   have HEa : Hid (Ext w wa) := by rw [hwa]; exact HE.out.alloc _
   have HBa : Hid (CBx wa wo.heap.size ⟨(k : Int) + 1, Msg.vw (Msg.best (Msg.cms (ms.take 0) id view) ((k : Int) + 1)), Msg.vl (Msg.best (Msg.cms (ms.take 0) id view) ((k : Int) + 1))⟩) := by rw [hwa]; exact HB0.out
   have hsa : wa.heap.size = wo.heap.size + 1 := by rw [hwa]; simp
   go_wp2
   rw [← hwa]
   generalize wo.heap.size = B at *
   clear HB0 HO HE hwa
   go_loopw [10] (fun iv wr => ∃ (i : Nat), i ≤ ms.length ∧ iv = .int .i64 i ∧ Hid (CBx wr B ⟨(k : Int) + 1, Msg.vw (Msg.best (Msg.cms (ms.take i) id view) ((k : Int) + 1)), Msg.vl (Msg.best (Msg.cms (ms.take i) id view) ((k : Int) + 1))⟩) ∧ Hid (Below B wa wr)) (fun iv _ => ms.length - (intOf iv).toNat)
   case atStart => exact ⟨0, Nat.zero_le _, rfl, HBa, Below.refl _ _⟩
   case round =>
    obtain ⟨i, hi, rfl, HB, HX⟩ := hrel
    have HEi : Hid (Ext w wr) := Below.trans HEa.out (Below.mono HX.out hws)
    by_cases hli : i < ms.length
    ·obtain ⟨z, h2⟩ : ∃ z, ms[i]? = some z := ⟨_, List.getElem?_eq_getElem hli⟩
     obtain ⟨b1, off1, cap1, e1, hlt1, hlm1, hcm1, hb1, hm⟩ := HSl.out.at2 h2
     injection e1 with e1 e4 e5
     subst e1 e5
     have hm := hm.ext hb1 HEi.out
     have hbne : Hid (B ≠ b1) := by show B ≠ b1; omega
     have HZ : Hid (ms[i]? = some z) := h2
     have HVi : Hid (0 ≤ z.view) := HVa.out z (List.mem_of_getElem? h2)
     obtain ⟨vz, uz, ⟨c0, c1, c2, c3, c4, -, -⟩, -⟩ := hm
     obtain ⟨o, HOe⟩ : ∃ o, Hid (Msg.best (Msg.cms (ms.take i) id view) ((k : Int) + 1) = o) := ⟨_, rfl⟩
     rw [HOe.out] at HB
     obtain ⟨hbB, ⟨cA, cB, cC⟩, fA, fB, fC⟩ := HB.out
     have HS : Hid (wr.drew.cell? ⟨b1, off1 + i * 7, none⟩ = some (.int .i64 z.kind) ∧ wr.drew.cell? ⟨b1, off1 + i * 7 + 1, none⟩ = some (.int .i64 z.view) ∧ wr.drew.cell? ⟨b1, off1 + i * 7 + 2, none⟩ = some (.int .i64 z.from_) ∧ wr.drew.cell? ⟨b1, off1 + i * 7 + 3, none⟩ = some (.int .i64 z.slot) ∧ wr.drew.cell? ⟨B, 1, none⟩ = some (.int .i64 (Msg.vw o))) := ⟨c0, c1, c2, c3, cB⟩
     clear h2 e4
     by_cases h3 : z.kind = 3
     ·have P4 : Hid ((z.kind == 3) = true) := by show _ = _; simpa using h3
      by_cases h4 : z.from_ = id
      ·have P11 : Hid ((z.from_ == id) = true) := by show _ = _; simpa using h4
       by_cases h5 : z.slot = (k : Int) + 1
       ·have P19 : Hid ((z.slot == (k : Int) + 1) = true) := by show _ = _; simpa using h5
        by_cases h6 : z.view < view
        ·have P27 : Hid (decide (z.view < view) = true) := decide_eq_true h6
         by_cases h7 : Msg.vw o < z.view
         ·have P36 : Hid (decide (Msg.vw o < z.view) = true) := decide_eq_true h7
          have HF : Hid (Msg.best (Msg.cms (ms.take (i + 1)) id view) ((k : Int) + 1) = some ⟨z.slot, z.view, z.value⟩) := Msg.cms_new HZ.out ⟨h3, h4, h5, h6, by rw [HOe.out]; exact h7⟩
          clear h3 h4 h6 h7
          go_wp2
          clear c0 c2 c3 cA cB cC
          refine wp_region_held_drew (S := (fun W' : World => W'.cell? ⟨b1, off1 + i * 7, none⟩ = some (.int .i64 z.kind) ∧ W'.cell? ⟨b1, off1 + i * 7 + 1, none⟩ = some (.int .i64 z.view) ∧ W'.cell? ⟨b1, off1 + i * 7 + 2, none⟩ = some (.int .i64 z.from_) ∧ W'.cell? ⟨b1, off1 + i * 7 + 3, none⟩ = some (.int .i64 z.slot) ∧ W'.cell? ⟨B, 1, none⟩ = some (.int .i64 (Msg.vw o)))) (by kernel_rfl) (HS.out) (fun hHeld => ?_)
          refine tk 0 ⟨some 28, .move (.tmp 11), 97, oz26, #[], none⟩ ?_
          refine tk 1 ⟨some 29, .nilCheck (.tmp 28), 0, oz26, #[⟨0, .data⟩], none⟩ ?_
          refine tk 2 ⟨some 30, .fieldAddr 40 (.tmp 29) 0, 0, oz26, #[⟨1, .data⟩], none⟩ ?_
          refine tk 3 ⟨some 31, .load 2 (.tmp 30), 2, oz26, #[⟨2, .data⟩], none⟩ ?_
          refine tk 4 ⟨some 32, .binOp .eql 2 (.tmp 31) (.const (.int .i64 3)) 2, 4, oz26, #[⟨3, .data⟩], none⟩ ?_
          (try rw [P4.out])
          refine tk 5 ⟨some 33, .move (.tmp 32), 4, oz26, #[⟨4, .data⟩], none⟩ ?_
          refine tk 6 ⟨some 34, .move (.tmp 11), 97, oz26, #[⟨5, .guard⟩], some (5, true)⟩ ?_
          refine tk 7 ⟨some 35, .nilCheck (.tmp 34), 0, oz26, oy27, some (5, true)⟩ ?_
          refine tk 8 ⟨some 36, .fieldAddr 40 (.tmp 35) 2, 0, oz26, oy28, some (5, true)⟩ ?_
          refine tk 9 ⟨some 37, .load 2 (.tmp 36), 2, oz26, oy29, some (5, true)⟩ ?_
          refine tk 10 ⟨some 38, .move (.tmp 1), 2, oz26, #[⟨5, .guard⟩], some (5, true)⟩ ?_
          refine tk 11 ⟨some 39, .binOp .eql 2 (.tmp 37) (.tmp 38) 2, 4, oz26, oy30, some (5, true)⟩ ?_
          (try rw [P11.out])
          refine tk 12 ⟨some 40, .pick (.tmp 33) (.tmp 39) (.const (.bool false)), 4, oz26, oy31, none⟩ ?_
          refine tk 13 ⟨some 41, .move (.tmp 40), 4, oz26, oy32, none⟩ ?_
          refine tk 14 ⟨some 42, .move (.tmp 11), 97, oz26, oy33, some (13, true)⟩ ?_
          refine tk 15 ⟨some 43, .nilCheck (.tmp 42), 0, oz26, oy34, some (13, true)⟩ ?_
          refine tk 16 ⟨some 44, .fieldAddr 40 (.tmp 43) 3, 0, oz26, oy35, some (13, true)⟩ ?_
          refine tk 17 ⟨some 45, .load 2 (.tmp 44), 2, oz26, oy36, some (13, true)⟩ ?_
          refine tk 18 ⟨some 46, .move (.tmp 8), 2, oz26, oy33, some (13, true)⟩ ?_
          refine tk 19 ⟨some 47, .binOp .eql 2 (.tmp 45) (.tmp 46) 2, 4, oz26, oy37, some (13, true)⟩ ?_
          (try rw [P19.out])
          refine tk 20 ⟨some 48, .pick (.tmp 41) (.tmp 47) (.const (.bool false)), 4, oz26, oy38, none⟩ ?_
          refine tk 21 ⟨some 49, .move (.tmp 48), 4, oz26, oy39, none⟩ ?_
          refine tk 22 ⟨some 50, .move (.tmp 11), 97, oz26, oy40, some (21, true)⟩ ?_
          refine tk 23 ⟨some 51, .nilCheck (.tmp 50), 0, oz26, oy41, some (21, true)⟩ ?_
          refine tk 24 ⟨some 52, .fieldAddr 40 (.tmp 51) 1, 0, oz26, oy42, some (21, true)⟩ ?_
          refine tk 25 ⟨some 53, .load 2 (.tmp 52), 2, oz26, oy43, some (21, true)⟩ ?_
          refine tk 26 ⟨some 54, .move (.tmp 2), 2, oz26, oy40, some (21, true)⟩ ?_
          refine tk 27 ⟨some 55, .binOp .lss 2 (.tmp 53) (.tmp 54) 2, 4, oz26, oy44, some (21, true)⟩ ?_
          (try rw [P27.out])
          refine tk 28 ⟨some 56, .pick (.tmp 49) (.tmp 55) (.const (.bool false)), 4, oz26, oy45, none⟩ ?_
          refine tk 29 ⟨some 57, .move (.tmp 56), 4, oz26, oy46, none⟩ ?_
          refine tk 30 ⟨some 58, .move (.tmp 11), 97, oz26, oy47, some (29, true)⟩ ?_
          refine tk 31 ⟨some 59, .nilCheck (.tmp 58), 0, oz26, oy48, some (29, true)⟩ ?_
          refine tk 32 ⟨some 60, .fieldAddr 40 (.tmp 59) 1, 0, oz26, oy49, some (29, true)⟩ ?_
          refine tk 33 ⟨some 61, .load 2 (.tmp 60), 2, oz26, oy50, some (29, true)⟩ ?_
          refine tk 34 ⟨some 62, .fieldAddr 57 (.tmp 9) 1, 0, oz26, oy47, some (29, true)⟩ ?_
          refine tk 35 ⟨some 63, .load 2 (.tmp 62), 2, oz26, oy51, some (29, true)⟩ ?_
          refine tk 36 ⟨some 64, .binOp .gtr 2 (.tmp 61) (.tmp 63) 2, 4, oz26, oy52, some (29, true)⟩ ?_
          (try rw [P36.out])
          refine tk 37 ⟨some 65, .pick (.tmp 57) (.tmp 64) (.const (.bool false)), 4, oz26, oy53, none⟩ ?_
          refine wpAnyH_done (by kernel_rfl) ?_ _
          have HBd : Hid (CBx wr.drew B ⟨(k : Int) + 1, Msg.vw (o), Msg.vl (o)⟩) := HB.out.drew
          have q1 : wr.drew.cell? ⟨b1, off1 + i * 7 + 1, none⟩ = some (.int .i64 z.view) := HS.out.2.1
          have q4 : wr.drew.cell? ⟨b1, off1 + i * 7 + 4, none⟩ = some (.int .i64 z.value) := c4
          have q4' : (wr.drew.setCell ⟨B, 1, none⟩ (.int .i64 z.view)).cell? ⟨b1, off1 + i * 7 + 4, none⟩ = some (.int .i64 z.value) := by rw [iset_ne _ _ _ _ _ _ (Or.inl hbne.out)]; exact q4
          obtain ⟨hb9, ⟨s0, s1, s2⟩, fA, fB, fC⟩ := HBd.out
          have HXd : Hid (Below B wa wr.drew) := Below.drew HX.out
          clear HS HB HX HEi c1 c4
          generalize wr.drew = wd at *
          go_wp2
          refine ⟨⟨i + 1, by omega, by go_num, ?_, ?_⟩, by simp [intOf]; omega⟩
          ·show CBx _ _ _
           rw [HF.out]
           exact HBd.out.put12 rfl
          ·exact Below.setCell (Below.setCell HXd.out (p := ⟨B, 1, none⟩) (Nat.le_refl _) _) (p := ⟨B, 2, none⟩) (Nat.le_refl _) _
         ·have P36 : Hid (decide (Msg.vw o < z.view) = false) := decide_eq_false h7
          have HF : Hid (Msg.best (Msg.cms (ms.take (i + 1)) id view) ((k : Int) + 1) = o) := by show _ = _; rw [← HOe.out]; exact Msg.cms_same HZ.out HVi.out (fun h => h7 (by have h8 := h.2.2.2.2; rw [HOe.out] at h8; exact h8))
          clear h3 h4 h5 h6 h7
          go_wp2
          clear c0 c1 c2 c3 cA cB cC
          refine wp_region_held_drew (S := (fun W' : World => W'.cell? ⟨b1, off1 + i * 7, none⟩ = some (.int .i64 z.kind) ∧ W'.cell? ⟨b1, off1 + i * 7 + 1, none⟩ = some (.int .i64 z.view) ∧ W'.cell? ⟨b1, off1 + i * 7 + 2, none⟩ = some (.int .i64 z.from_) ∧ W'.cell? ⟨b1, off1 + i * 7 + 3, none⟩ = some (.int .i64 z.slot) ∧ W'.cell? ⟨B, 1, none⟩ = some (.int .i64 (Msg.vw o)))) (by kernel_rfl) (HS.out) (fun hHeld => ?_)
          refine tk 0 ⟨some 28, .move (.tmp 11), 97, oz26, #[], none⟩ ?_
          refine tk 1 ⟨some 29, .nilCheck (.tmp 28), 0, oz26, #[⟨0, .data⟩], none⟩ ?_
          refine tk 2 ⟨some 30, .fieldAddr 40 (.tmp 29) 0, 0, oz26, #[⟨1, .data⟩], none⟩ ?_
          refine tk 3 ⟨some 31, .load 2 (.tmp 30), 2, oz26, #[⟨2, .data⟩], none⟩ ?_
          refine tk 4 ⟨some 32, .binOp .eql 2 (.tmp 31) (.const (.int .i64 3)) 2, 4, oz26, #[⟨3, .data⟩], none⟩ ?_
          (try rw [P4.out])
          refine tk 5 ⟨some 33, .move (.tmp 32), 4, oz26, #[⟨4, .data⟩], none⟩ ?_
          refine tk 6 ⟨some 34, .move (.tmp 11), 97, oz26, #[⟨5, .guard⟩], some (5, true)⟩ ?_
          refine tk 7 ⟨some 35, .nilCheck (.tmp 34), 0, oz26, oy27, some (5, true)⟩ ?_
          refine tk 8 ⟨some 36, .fieldAddr 40 (.tmp 35) 2, 0, oz26, oy28, some (5, true)⟩ ?_
          refine tk 9 ⟨some 37, .load 2 (.tmp 36), 2, oz26, oy29, some (5, true)⟩ ?_
          refine tk 10 ⟨some 38, .move (.tmp 1), 2, oz26, #[⟨5, .guard⟩], some (5, true)⟩ ?_
          refine tk 11 ⟨some 39, .binOp .eql 2 (.tmp 37) (.tmp 38) 2, 4, oz26, oy30, some (5, true)⟩ ?_
          (try rw [P11.out])
          refine tk 12 ⟨some 40, .pick (.tmp 33) (.tmp 39) (.const (.bool false)), 4, oz26, oy31, none⟩ ?_
          refine tk 13 ⟨some 41, .move (.tmp 40), 4, oz26, oy32, none⟩ ?_
          refine tk 14 ⟨some 42, .move (.tmp 11), 97, oz26, oy33, some (13, true)⟩ ?_
          refine tk 15 ⟨some 43, .nilCheck (.tmp 42), 0, oz26, oy34, some (13, true)⟩ ?_
          refine tk 16 ⟨some 44, .fieldAddr 40 (.tmp 43) 3, 0, oz26, oy35, some (13, true)⟩ ?_
          refine tk 17 ⟨some 45, .load 2 (.tmp 44), 2, oz26, oy36, some (13, true)⟩ ?_
          refine tk 18 ⟨some 46, .move (.tmp 8), 2, oz26, oy33, some (13, true)⟩ ?_
          refine tk 19 ⟨some 47, .binOp .eql 2 (.tmp 45) (.tmp 46) 2, 4, oz26, oy37, some (13, true)⟩ ?_
          (try rw [P19.out])
          refine tk 20 ⟨some 48, .pick (.tmp 41) (.tmp 47) (.const (.bool false)), 4, oz26, oy38, none⟩ ?_
          refine tk 21 ⟨some 49, .move (.tmp 48), 4, oz26, oy39, none⟩ ?_
          refine tk 22 ⟨some 50, .move (.tmp 11), 97, oz26, oy40, some (21, true)⟩ ?_
          refine tk 23 ⟨some 51, .nilCheck (.tmp 50), 0, oz26, oy41, some (21, true)⟩ ?_
          refine tk 24 ⟨some 52, .fieldAddr 40 (.tmp 51) 1, 0, oz26, oy42, some (21, true)⟩ ?_
          refine tk 25 ⟨some 53, .load 2 (.tmp 52), 2, oz26, oy43, some (21, true)⟩ ?_
          refine tk 26 ⟨some 54, .move (.tmp 2), 2, oz26, oy40, some (21, true)⟩ ?_
          refine tk 27 ⟨some 55, .binOp .lss 2 (.tmp 53) (.tmp 54) 2, 4, oz26, oy44, some (21, true)⟩ ?_
          (try rw [P27.out])
          refine tk 28 ⟨some 56, .pick (.tmp 49) (.tmp 55) (.const (.bool false)), 4, oz26, oy45, none⟩ ?_
          refine tk 29 ⟨some 57, .move (.tmp 56), 4, oz26, oy46, none⟩ ?_
          refine tk 30 ⟨some 58, .move (.tmp 11), 97, oz26, oy47, some (29, true)⟩ ?_
          refine tk 31 ⟨some 59, .nilCheck (.tmp 58), 0, oz26, oy48, some (29, true)⟩ ?_
          refine tk 32 ⟨some 60, .fieldAddr 40 (.tmp 59) 1, 0, oz26, oy49, some (29, true)⟩ ?_
          refine tk 33 ⟨some 61, .load 2 (.tmp 60), 2, oz26, oy50, some (29, true)⟩ ?_
          refine tk 34 ⟨some 62, .fieldAddr 57 (.tmp 9) 1, 0, oz26, oy47, some (29, true)⟩ ?_
          refine tk 35 ⟨some 63, .load 2 (.tmp 62), 2, oz26, oy51, some (29, true)⟩ ?_
          refine tk 36 ⟨some 64, .binOp .gtr 2 (.tmp 61) (.tmp 63) 2, 4, oz26, oy52, some (29, true)⟩ ?_
          (try rw [P36.out])
          refine tk 37 ⟨some 65, .pick (.tmp 57) (.tmp 64) (.const (.bool false)), 4, oz26, oy53, none⟩ ?_
          refine wpAnyH_done (by kernel_rfl) ?_ _
          (try go_wp2)
          exact ⟨⟨i + 1, by omega, by go_num, by show CBx _ _ _; rw [HF.out]; exact HB.out.drew, Below.drew HX.out⟩, by simp [intOf]; omega⟩
        ·have P27 : Hid (decide (z.view < view) = false) := decide_eq_false h6
         have HF : Hid (Msg.best (Msg.cms (ms.take (i + 1)) id view) ((k : Int) + 1) = o) := by show _ = _; rw [← HOe.out]; exact Msg.cms_same HZ.out HVi.out (fun h => h6 h.2.2.2.1)
         clear h3 h4 h5 h6
         go_wp2
         clear c0 c1 c2 c3 cA cB cC
         refine wp_region_held_drew (S := (fun W' : World => W'.cell? ⟨b1, off1 + i * 7, none⟩ = some (.int .i64 z.kind) ∧ W'.cell? ⟨b1, off1 + i * 7 + 1, none⟩ = some (.int .i64 z.view) ∧ W'.cell? ⟨b1, off1 + i * 7 + 2, none⟩ = some (.int .i64 z.from_) ∧ W'.cell? ⟨b1, off1 + i * 7 + 3, none⟩ = some (.int .i64 z.slot) ∧ W'.cell? ⟨B, 1, none⟩ = some (.int .i64 (Msg.vw o)))) (by kernel_rfl) (HS.out) (fun hHeld => ?_)
         refine tk 0 ⟨some 28, .move (.tmp 11), 97, oz26, #[], none⟩ ?_
         refine tk 1 ⟨some 29, .nilCheck (.tmp 28), 0, oz26, #[⟨0, .data⟩], none⟩ ?_
         refine tk 2 ⟨some 30, .fieldAddr 40 (.tmp 29) 0, 0, oz26, #[⟨1, .data⟩], none⟩ ?_
         refine tk 3 ⟨some 31, .load 2 (.tmp 30), 2, oz26, #[⟨2, .data⟩], none⟩ ?_
         refine tk 4 ⟨some 32, .binOp .eql 2 (.tmp 31) (.const (.int .i64 3)) 2, 4, oz26, #[⟨3, .data⟩], none⟩ ?_
         (try rw [P4.out])
         refine tk 5 ⟨some 33, .move (.tmp 32), 4, oz26, #[⟨4, .data⟩], none⟩ ?_
         refine tk 6 ⟨some 34, .move (.tmp 11), 97, oz26, #[⟨5, .guard⟩], some (5, true)⟩ ?_
         refine tk 7 ⟨some 35, .nilCheck (.tmp 34), 0, oz26, oy27, some (5, true)⟩ ?_
         refine tk 8 ⟨some 36, .fieldAddr 40 (.tmp 35) 2, 0, oz26, oy28, some (5, true)⟩ ?_
         refine tk 9 ⟨some 37, .load 2 (.tmp 36), 2, oz26, oy29, some (5, true)⟩ ?_
         refine tk 10 ⟨some 38, .move (.tmp 1), 2, oz26, #[⟨5, .guard⟩], some (5, true)⟩ ?_
         refine tk 11 ⟨some 39, .binOp .eql 2 (.tmp 37) (.tmp 38) 2, 4, oz26, oy30, some (5, true)⟩ ?_
         (try rw [P11.out])
         refine tk 12 ⟨some 40, .pick (.tmp 33) (.tmp 39) (.const (.bool false)), 4, oz26, oy31, none⟩ ?_
         refine tk 13 ⟨some 41, .move (.tmp 40), 4, oz26, oy32, none⟩ ?_
         refine tk 14 ⟨some 42, .move (.tmp 11), 97, oz26, oy33, some (13, true)⟩ ?_
         refine tk 15 ⟨some 43, .nilCheck (.tmp 42), 0, oz26, oy34, some (13, true)⟩ ?_
         refine tk 16 ⟨some 44, .fieldAddr 40 (.tmp 43) 3, 0, oz26, oy35, some (13, true)⟩ ?_
         refine tk 17 ⟨some 45, .load 2 (.tmp 44), 2, oz26, oy36, some (13, true)⟩ ?_
         refine tk 18 ⟨some 46, .move (.tmp 8), 2, oz26, oy33, some (13, true)⟩ ?_
         refine tk 19 ⟨some 47, .binOp .eql 2 (.tmp 45) (.tmp 46) 2, 4, oz26, oy37, some (13, true)⟩ ?_
         (try rw [P19.out])
         refine tk 20 ⟨some 48, .pick (.tmp 41) (.tmp 47) (.const (.bool false)), 4, oz26, oy38, none⟩ ?_
         refine tk 21 ⟨some 49, .move (.tmp 48), 4, oz26, oy39, none⟩ ?_
         refine tk 22 ⟨some 50, .move (.tmp 11), 97, oz26, oy40, some (21, true)⟩ ?_
         refine tk 23 ⟨some 51, .nilCheck (.tmp 50), 0, oz26, oy41, some (21, true)⟩ ?_
         refine tk 24 ⟨some 52, .fieldAddr 40 (.tmp 51) 1, 0, oz26, oy42, some (21, true)⟩ ?_
         refine tk 25 ⟨some 53, .load 2 (.tmp 52), 2, oz26, oy43, some (21, true)⟩ ?_
         refine tk 26 ⟨some 54, .move (.tmp 2), 2, oz26, oy40, some (21, true)⟩ ?_
         refine tk 27 ⟨some 55, .binOp .lss 2 (.tmp 53) (.tmp 54) 2, 4, oz26, oy44, some (21, true)⟩ ?_
         (try rw [P27.out])
         refine tk 28 ⟨some 56, .pick (.tmp 49) (.tmp 55) (.const (.bool false)), 4, oz26, oy45, none⟩ ?_
         refine tk 29 ⟨some 57, .move (.tmp 56), 4, oz26, oy46, none⟩ ?_
         refine tn 30 ⟨some 58, .move (.tmp 11), 97, oz26, oy47, some (29, true)⟩ ?_
         refine tn 31 ⟨some 59, .nilCheck (.tmp 58), 0, oz26, oy48, some (29, true)⟩ ?_
         refine tn 32 ⟨some 60, .fieldAddr 40 (.tmp 59) 1, 0, oz26, oy49, some (29, true)⟩ ?_
         refine tn 33 ⟨some 61, .load 2 (.tmp 60), 2, oz26, oy50, some (29, true)⟩ ?_
         refine tn 34 ⟨some 62, .fieldAddr 57 (.tmp 9) 1, 0, oz26, oy47, some (29, true)⟩ ?_
         refine tn 35 ⟨some 63, .load 2 (.tmp 62), 2, oz26, oy51, some (29, true)⟩ ?_
         refine tn 36 ⟨some 64, .binOp .gtr 2 (.tmp 61) (.tmp 63) 2, 4, oz26, oy52, some (29, true)⟩ ?_
         refine tk 37 ⟨some 65, .pick (.tmp 57) (.tmp 64) (.const (.bool false)), 4, oz26, oy53, none⟩ ?_
         refine wpAnyH_done (by kernel_rfl) ?_ _
         (try go_wp2)
         exact ⟨⟨i + 1, by omega, by go_num, by show CBx _ _ _; rw [HF.out]; exact HB.out.drew, Below.drew HX.out⟩, by simp [intOf]; omega⟩
       ·have P19 : Hid ((z.slot == (k : Int) + 1) = false) := by show _ = _; simpa using h5
        have HF : Hid (Msg.best (Msg.cms (ms.take (i + 1)) id view) ((k : Int) + 1) = o) := by show _ = _; rw [← HOe.out]; exact Msg.cms_same HZ.out HVi.out (fun h => h5 h.2.2.1)
        clear h3 h4 h5
        go_wp2
        clear c0 c1 c2 c3 cA cB cC
        refine wp_region_held_drew (S := (fun W' : World => W'.cell? ⟨b1, off1 + i * 7, none⟩ = some (.int .i64 z.kind) ∧ W'.cell? ⟨b1, off1 + i * 7 + 1, none⟩ = some (.int .i64 z.view) ∧ W'.cell? ⟨b1, off1 + i * 7 + 2, none⟩ = some (.int .i64 z.from_) ∧ W'.cell? ⟨b1, off1 + i * 7 + 3, none⟩ = some (.int .i64 z.slot) ∧ W'.cell? ⟨B, 1, none⟩ = some (.int .i64 (Msg.vw o)))) (by kernel_rfl) (HS.out) (fun hHeld => ?_)
        refine tk 0 ⟨some 28, .move (.tmp 11), 97, oz26, #[], none⟩ ?_
        refine tk 1 ⟨some 29, .nilCheck (.tmp 28), 0, oz26, #[⟨0, .data⟩], none⟩ ?_
        refine tk 2 ⟨some 30, .fieldAddr 40 (.tmp 29) 0, 0, oz26, #[⟨1, .data⟩], none⟩ ?_
        refine tk 3 ⟨some 31, .load 2 (.tmp 30), 2, oz26, #[⟨2, .data⟩], none⟩ ?_
        refine tk 4 ⟨some 32, .binOp .eql 2 (.tmp 31) (.const (.int .i64 3)) 2, 4, oz26, #[⟨3, .data⟩], none⟩ ?_
        (try rw [P4.out])
        refine tk 5 ⟨some 33, .move (.tmp 32), 4, oz26, #[⟨4, .data⟩], none⟩ ?_
        refine tk 6 ⟨some 34, .move (.tmp 11), 97, oz26, #[⟨5, .guard⟩], some (5, true)⟩ ?_
        refine tk 7 ⟨some 35, .nilCheck (.tmp 34), 0, oz26, oy27, some (5, true)⟩ ?_
        refine tk 8 ⟨some 36, .fieldAddr 40 (.tmp 35) 2, 0, oz26, oy28, some (5, true)⟩ ?_
        refine tk 9 ⟨some 37, .load 2 (.tmp 36), 2, oz26, oy29, some (5, true)⟩ ?_
        refine tk 10 ⟨some 38, .move (.tmp 1), 2, oz26, #[⟨5, .guard⟩], some (5, true)⟩ ?_
        refine tk 11 ⟨some 39, .binOp .eql 2 (.tmp 37) (.tmp 38) 2, 4, oz26, oy30, some (5, true)⟩ ?_
        (try rw [P11.out])
        refine tk 12 ⟨some 40, .pick (.tmp 33) (.tmp 39) (.const (.bool false)), 4, oz26, oy31, none⟩ ?_
        refine tk 13 ⟨some 41, .move (.tmp 40), 4, oz26, oy32, none⟩ ?_
        refine tk 14 ⟨some 42, .move (.tmp 11), 97, oz26, oy33, some (13, true)⟩ ?_
        refine tk 15 ⟨some 43, .nilCheck (.tmp 42), 0, oz26, oy34, some (13, true)⟩ ?_
        refine tk 16 ⟨some 44, .fieldAddr 40 (.tmp 43) 3, 0, oz26, oy35, some (13, true)⟩ ?_
        refine tk 17 ⟨some 45, .load 2 (.tmp 44), 2, oz26, oy36, some (13, true)⟩ ?_
        refine tk 18 ⟨some 46, .move (.tmp 8), 2, oz26, oy33, some (13, true)⟩ ?_
        refine tk 19 ⟨some 47, .binOp .eql 2 (.tmp 45) (.tmp 46) 2, 4, oz26, oy37, some (13, true)⟩ ?_
        (try rw [P19.out])
        refine tk 20 ⟨some 48, .pick (.tmp 41) (.tmp 47) (.const (.bool false)), 4, oz26, oy38, none⟩ ?_
        refine tk 21 ⟨some 49, .move (.tmp 48), 4, oz26, oy39, none⟩ ?_
        refine tn 22 ⟨some 50, .move (.tmp 11), 97, oz26, oy40, some (21, true)⟩ ?_
        refine tn 23 ⟨some 51, .nilCheck (.tmp 50), 0, oz26, oy41, some (21, true)⟩ ?_
        refine tn 24 ⟨some 52, .fieldAddr 40 (.tmp 51) 1, 0, oz26, oy42, some (21, true)⟩ ?_
        refine tn 25 ⟨some 53, .load 2 (.tmp 52), 2, oz26, oy43, some (21, true)⟩ ?_
        refine tn 26 ⟨some 54, .move (.tmp 2), 2, oz26, oy40, some (21, true)⟩ ?_
        refine tn 27 ⟨some 55, .binOp .lss 2 (.tmp 53) (.tmp 54) 2, 4, oz26, oy44, some (21, true)⟩ ?_
        refine tk 28 ⟨some 56, .pick (.tmp 49) (.tmp 55) (.const (.bool false)), 4, oz26, oy45, none⟩ ?_
        refine tk 29 ⟨some 57, .move (.tmp 56), 4, oz26, oy46, none⟩ ?_
        refine tn 30 ⟨some 58, .move (.tmp 11), 97, oz26, oy47, some (29, true)⟩ ?_
        refine tn 31 ⟨some 59, .nilCheck (.tmp 58), 0, oz26, oy48, some (29, true)⟩ ?_
        refine tn 32 ⟨some 60, .fieldAddr 40 (.tmp 59) 1, 0, oz26, oy49, some (29, true)⟩ ?_
        refine tn 33 ⟨some 61, .load 2 (.tmp 60), 2, oz26, oy50, some (29, true)⟩ ?_
        refine tn 34 ⟨some 62, .fieldAddr 57 (.tmp 9) 1, 0, oz26, oy47, some (29, true)⟩ ?_
        refine tn 35 ⟨some 63, .load 2 (.tmp 62), 2, oz26, oy51, some (29, true)⟩ ?_
        refine tn 36 ⟨some 64, .binOp .gtr 2 (.tmp 61) (.tmp 63) 2, 4, oz26, oy52, some (29, true)⟩ ?_
        refine tk 37 ⟨some 65, .pick (.tmp 57) (.tmp 64) (.const (.bool false)), 4, oz26, oy53, none⟩ ?_
        refine wpAnyH_done (by kernel_rfl) ?_ _
        (try go_wp2)
        exact ⟨⟨i + 1, by omega, by go_num, by show CBx _ _ _; rw [HF.out]; exact HB.out.drew, Below.drew HX.out⟩, by simp [intOf]; omega⟩
      ·have P11 : Hid ((z.from_ == id) = false) := by show _ = _; simpa using h4
       have HF : Hid (Msg.best (Msg.cms (ms.take (i + 1)) id view) ((k : Int) + 1) = o) := by show _ = _; rw [← HOe.out]; exact Msg.cms_same HZ.out HVi.out (fun h => h4 h.2.1)
       clear h3 h4
       go_wp2
       clear c0 c1 c2 c3 cA cB cC
       refine wp_region_held_drew (S := (fun W' : World => W'.cell? ⟨b1, off1 + i * 7, none⟩ = some (.int .i64 z.kind) ∧ W'.cell? ⟨b1, off1 + i * 7 + 1, none⟩ = some (.int .i64 z.view) ∧ W'.cell? ⟨b1, off1 + i * 7 + 2, none⟩ = some (.int .i64 z.from_) ∧ W'.cell? ⟨b1, off1 + i * 7 + 3, none⟩ = some (.int .i64 z.slot) ∧ W'.cell? ⟨B, 1, none⟩ = some (.int .i64 (Msg.vw o)))) (by kernel_rfl) (HS.out) (fun hHeld => ?_)
       refine tk 0 ⟨some 28, .move (.tmp 11), 97, oz26, #[], none⟩ ?_
       refine tk 1 ⟨some 29, .nilCheck (.tmp 28), 0, oz26, #[⟨0, .data⟩], none⟩ ?_
       refine tk 2 ⟨some 30, .fieldAddr 40 (.tmp 29) 0, 0, oz26, #[⟨1, .data⟩], none⟩ ?_
       refine tk 3 ⟨some 31, .load 2 (.tmp 30), 2, oz26, #[⟨2, .data⟩], none⟩ ?_
       refine tk 4 ⟨some 32, .binOp .eql 2 (.tmp 31) (.const (.int .i64 3)) 2, 4, oz26, #[⟨3, .data⟩], none⟩ ?_
       (try rw [P4.out])
       refine tk 5 ⟨some 33, .move (.tmp 32), 4, oz26, #[⟨4, .data⟩], none⟩ ?_
       refine tk 6 ⟨some 34, .move (.tmp 11), 97, oz26, #[⟨5, .guard⟩], some (5, true)⟩ ?_
       refine tk 7 ⟨some 35, .nilCheck (.tmp 34), 0, oz26, oy27, some (5, true)⟩ ?_
       refine tk 8 ⟨some 36, .fieldAddr 40 (.tmp 35) 2, 0, oz26, oy28, some (5, true)⟩ ?_
       refine tk 9 ⟨some 37, .load 2 (.tmp 36), 2, oz26, oy29, some (5, true)⟩ ?_
       refine tk 10 ⟨some 38, .move (.tmp 1), 2, oz26, #[⟨5, .guard⟩], some (5, true)⟩ ?_
       refine tk 11 ⟨some 39, .binOp .eql 2 (.tmp 37) (.tmp 38) 2, 4, oz26, oy30, some (5, true)⟩ ?_
       (try rw [P11.out])
       refine tk 12 ⟨some 40, .pick (.tmp 33) (.tmp 39) (.const (.bool false)), 4, oz26, oy31, none⟩ ?_
       refine tk 13 ⟨some 41, .move (.tmp 40), 4, oz26, oy32, none⟩ ?_
       refine tn 14 ⟨some 42, .move (.tmp 11), 97, oz26, oy33, some (13, true)⟩ ?_
       refine tn 15 ⟨some 43, .nilCheck (.tmp 42), 0, oz26, oy34, some (13, true)⟩ ?_
       refine tn 16 ⟨some 44, .fieldAddr 40 (.tmp 43) 3, 0, oz26, oy35, some (13, true)⟩ ?_
       refine tn 17 ⟨some 45, .load 2 (.tmp 44), 2, oz26, oy36, some (13, true)⟩ ?_
       refine tn 18 ⟨some 46, .move (.tmp 8), 2, oz26, oy33, some (13, true)⟩ ?_
       refine tn 19 ⟨some 47, .binOp .eql 2 (.tmp 45) (.tmp 46) 2, 4, oz26, oy37, some (13, true)⟩ ?_
       refine tk 20 ⟨some 48, .pick (.tmp 41) (.tmp 47) (.const (.bool false)), 4, oz26, oy38, none⟩ ?_
       refine tk 21 ⟨some 49, .move (.tmp 48), 4, oz26, oy39, none⟩ ?_
       refine tn 22 ⟨some 50, .move (.tmp 11), 97, oz26, oy40, some (21, true)⟩ ?_
       refine tn 23 ⟨some 51, .nilCheck (.tmp 50), 0, oz26, oy41, some (21, true)⟩ ?_
       refine tn 24 ⟨some 52, .fieldAddr 40 (.tmp 51) 1, 0, oz26, oy42, some (21, true)⟩ ?_
       refine tn 25 ⟨some 53, .load 2 (.tmp 52), 2, oz26, oy43, some (21, true)⟩ ?_
       refine tn 26 ⟨some 54, .move (.tmp 2), 2, oz26, oy40, some (21, true)⟩ ?_
       refine tn 27 ⟨some 55, .binOp .lss 2 (.tmp 53) (.tmp 54) 2, 4, oz26, oy44, some (21, true)⟩ ?_
       refine tk 28 ⟨some 56, .pick (.tmp 49) (.tmp 55) (.const (.bool false)), 4, oz26, oy45, none⟩ ?_
       refine tk 29 ⟨some 57, .move (.tmp 56), 4, oz26, oy46, none⟩ ?_
       refine tn 30 ⟨some 58, .move (.tmp 11), 97, oz26, oy47, some (29, true)⟩ ?_
       refine tn 31 ⟨some 59, .nilCheck (.tmp 58), 0, oz26, oy48, some (29, true)⟩ ?_
       refine tn 32 ⟨some 60, .fieldAddr 40 (.tmp 59) 1, 0, oz26, oy49, some (29, true)⟩ ?_
       refine tn 33 ⟨some 61, .load 2 (.tmp 60), 2, oz26, oy50, some (29, true)⟩ ?_
       refine tn 34 ⟨some 62, .fieldAddr 57 (.tmp 9) 1, 0, oz26, oy47, some (29, true)⟩ ?_
       refine tn 35 ⟨some 63, .load 2 (.tmp 62), 2, oz26, oy51, some (29, true)⟩ ?_
       refine tn 36 ⟨some 64, .binOp .gtr 2 (.tmp 61) (.tmp 63) 2, 4, oz26, oy52, some (29, true)⟩ ?_
       refine tk 37 ⟨some 65, .pick (.tmp 57) (.tmp 64) (.const (.bool false)), 4, oz26, oy53, none⟩ ?_
       refine wpAnyH_done (by kernel_rfl) ?_ _
       (try go_wp2)
       exact ⟨⟨i + 1, by omega, by go_num, by show CBx _ _ _; rw [HF.out]; exact HB.out.drew, Below.drew HX.out⟩, by simp [intOf]; omega⟩
     ·have P4 : Hid ((z.kind == 3) = false) := by show _ = _; simpa using h3
      have HF : Hid (Msg.best (Msg.cms (ms.take (i + 1)) id view) ((k : Int) + 1) = o) := by show _ = _; rw [← HOe.out]; exact Msg.cms_same HZ.out HVi.out (fun h => h3 h.1)
      clear h3
      go_wp2
      clear c0 c1 c2 c3 cA cB cC
      refine wp_region_held_drew (S := (fun W' : World => W'.cell? ⟨b1, off1 + i * 7, none⟩ = some (.int .i64 z.kind) ∧ W'.cell? ⟨b1, off1 + i * 7 + 1, none⟩ = some (.int .i64 z.view) ∧ W'.cell? ⟨b1, off1 + i * 7 + 2, none⟩ = some (.int .i64 z.from_) ∧ W'.cell? ⟨b1, off1 + i * 7 + 3, none⟩ = some (.int .i64 z.slot) ∧ W'.cell? ⟨B, 1, none⟩ = some (.int .i64 (Msg.vw o)))) (by kernel_rfl) (HS.out) (fun hHeld => ?_)
      refine tk 0 ⟨some 28, .move (.tmp 11), 97, oz26, #[], none⟩ ?_
      refine tk 1 ⟨some 29, .nilCheck (.tmp 28), 0, oz26, #[⟨0, .data⟩], none⟩ ?_
      refine tk 2 ⟨some 30, .fieldAddr 40 (.tmp 29) 0, 0, oz26, #[⟨1, .data⟩], none⟩ ?_
      refine tk 3 ⟨some 31, .load 2 (.tmp 30), 2, oz26, #[⟨2, .data⟩], none⟩ ?_
      refine tk 4 ⟨some 32, .binOp .eql 2 (.tmp 31) (.const (.int .i64 3)) 2, 4, oz26, #[⟨3, .data⟩], none⟩ ?_
      (try rw [P4.out])
      refine tk 5 ⟨some 33, .move (.tmp 32), 4, oz26, #[⟨4, .data⟩], none⟩ ?_
      refine tn 6 ⟨some 34, .move (.tmp 11), 97, oz26, #[⟨5, .guard⟩], some (5, true)⟩ ?_
      refine tn 7 ⟨some 35, .nilCheck (.tmp 34), 0, oz26, oy27, some (5, true)⟩ ?_
      refine tn 8 ⟨some 36, .fieldAddr 40 (.tmp 35) 2, 0, oz26, oy28, some (5, true)⟩ ?_
      refine tn 9 ⟨some 37, .load 2 (.tmp 36), 2, oz26, oy29, some (5, true)⟩ ?_
      refine tn 10 ⟨some 38, .move (.tmp 1), 2, oz26, #[⟨5, .guard⟩], some (5, true)⟩ ?_
      refine tn 11 ⟨some 39, .binOp .eql 2 (.tmp 37) (.tmp 38) 2, 4, oz26, oy30, some (5, true)⟩ ?_
      refine tk 12 ⟨some 40, .pick (.tmp 33) (.tmp 39) (.const (.bool false)), 4, oz26, oy31, none⟩ ?_
      refine tk 13 ⟨some 41, .move (.tmp 40), 4, oz26, oy32, none⟩ ?_
      refine tn 14 ⟨some 42, .move (.tmp 11), 97, oz26, oy33, some (13, true)⟩ ?_
      refine tn 15 ⟨some 43, .nilCheck (.tmp 42), 0, oz26, oy34, some (13, true)⟩ ?_
      refine tn 16 ⟨some 44, .fieldAddr 40 (.tmp 43) 3, 0, oz26, oy35, some (13, true)⟩ ?_
      refine tn 17 ⟨some 45, .load 2 (.tmp 44), 2, oz26, oy36, some (13, true)⟩ ?_
      refine tn 18 ⟨some 46, .move (.tmp 8), 2, oz26, oy33, some (13, true)⟩ ?_
      refine tn 19 ⟨some 47, .binOp .eql 2 (.tmp 45) (.tmp 46) 2, 4, oz26, oy37, some (13, true)⟩ ?_
      refine tk 20 ⟨some 48, .pick (.tmp 41) (.tmp 47) (.const (.bool false)), 4, oz26, oy38, none⟩ ?_
      refine tk 21 ⟨some 49, .move (.tmp 48), 4, oz26, oy39, none⟩ ?_
      refine tn 22 ⟨some 50, .move (.tmp 11), 97, oz26, oy40, some (21, true)⟩ ?_
      refine tn 23 ⟨some 51, .nilCheck (.tmp 50), 0, oz26, oy41, some (21, true)⟩ ?_
      refine tn 24 ⟨some 52, .fieldAddr 40 (.tmp 51) 1, 0, oz26, oy42, some (21, true)⟩ ?_
      refine tn 25 ⟨some 53, .load 2 (.tmp 52), 2, oz26, oy43, some (21, true)⟩ ?_
      refine tn 26 ⟨some 54, .move (.tmp 2), 2, oz26, oy40, some (21, true)⟩ ?_
      refine tn 27 ⟨some 55, .binOp .lss 2 (.tmp 53) (.tmp 54) 2, 4, oz26, oy44, some (21, true)⟩ ?_
      refine tk 28 ⟨some 56, .pick (.tmp 49) (.tmp 55) (.const (.bool false)), 4, oz26, oy45, none⟩ ?_
      refine tk 29 ⟨some 57, .move (.tmp 56), 4, oz26, oy46, none⟩ ?_
      refine tn 30 ⟨some 58, .move (.tmp 11), 97, oz26, oy47, some (29, true)⟩ ?_
      refine tn 31 ⟨some 59, .nilCheck (.tmp 58), 0, oz26, oy48, some (29, true)⟩ ?_
      refine tn 32 ⟨some 60, .fieldAddr 40 (.tmp 59) 1, 0, oz26, oy49, some (29, true)⟩ ?_
      refine tn 33 ⟨some 61, .load 2 (.tmp 60), 2, oz26, oy50, some (29, true)⟩ ?_
      refine tn 34 ⟨some 62, .fieldAddr 57 (.tmp 9) 1, 0, oz26, oy47, some (29, true)⟩ ?_
      refine tn 35 ⟨some 63, .load 2 (.tmp 62), 2, oz26, oy51, some (29, true)⟩ ?_
      refine tn 36 ⟨some 64, .binOp .gtr 2 (.tmp 61) (.tmp 63) 2, 4, oz26, oy52, some (29, true)⟩ ?_
      refine tk 37 ⟨some 65, .pick (.tmp 57) (.tmp 64) (.const (.bool false)), 4, oz26, oy53, none⟩ ?_
      refine wpAnyH_done (by kernel_rfl) ?_ _
      (try go_wp2)
      exact ⟨⟨i + 1, by omega, by go_num, by show CBx _ _ _; rw [HF.out]; exact HB.out.drew, Below.drew HX.out⟩, by simp [intOf]; omega⟩
    ·have hie : i = ms.length := by omega
     have HFo : Hid (Msg.best (Msg.cms (ms.take i) id view) ((k : Int) + 1) = Msg.best (Msg.cms ms id view) ((k : Int) + 1)) := by show _ = _; rw [hie, List.take_length]
     rw [HFo.out] at HB
     have HOx : Hid (wr.ownsRow (w.heap.size) 57 3 u7 (Msg.ns (Msg.cms ms id view) k).length (cellsCt (Msg.ns (Msg.cms ms id view) k))) := own_below HOa.out HX.out HQ0.out
     have hwx : w.heap.size ≤ wr.heap.size := HEi.out.size
     cases hbs : Msg.best (Msg.cms ms id view) ((k : Int) + 1) with
     | none =>
      have HK2 : Hid (Msg.ns (Msg.cms ms id view) (k + 1) = Msg.ns (Msg.cms ms id view) k) := Msg.ns_no hbs
      rw [hbs] at HB
      have HO9 : Hid (wr.ownsRow (w.heap.size) 57 3 u7 (Msg.ns (Msg.cms ms id view) (k + 1)).length (cellsCt (Msg.ns (Msg.cms ms id view) (k + 1)))) := by show wr.ownsRow _ _ _ _ _ _; rw [HK2.out]; exact HOx.out
      obtain ⟨hbB, ⟨cA, cB, cC⟩, -⟩ := HB.out
      have cB' : wr.cell? ⟨B, 1, none⟩ = some (.int .i64 (-1)) := cB
      clear hbs cA cB cC hie
      go_wp2
      exact ⟨⟨k + 1, by omega, by go_num, HO9, HEi⟩, by simp [intOf]; omega⟩
     | some c =>
      obtain ⟨hcm, hcs⟩ := Msg.best_mem hbs
      have hcv := HCi.out c hcm
      have HK2 : Hid (Msg.ns (Msg.cms ms id view) (k + 1) = Msg.ns (Msg.cms ms id view) k ++ [c]) := Msg.ns_yes hbs
      rw [hbs] at HB
      have HBc : Hid (CBx wr B c) := by
       have h := HB.out
       rw [show (⟨(k : Int) + 1, Msg.vw (some c), Msg.vl (some c)⟩ : Ct) = c from by rw [← hcs]; rfl] at h
       exact h
      obtain ⟨hbB, ⟨cA, cB, cC⟩, -⟩ := HBc.out
      clear hbs hcm hcs hie HB HFo
      go_wp2_with (at_builtin; go_must (refine wpList_append_own _ rfl _ _ 37 rfl (w.heap.size) 57 tc (.agg #[.int .i64 0, .int .i64 0, .int .i64 0]) 3 24 Tryz.underlying37 htc hy0 hy1 hy2 rfl (by decide) _ _ _ rfl (HOx.out.alloc _) ⟨wr.heap.size, 0, none⟩ 1 1 (cellsCt [c]) rfl rfl (cells_ct _ _ _) (cellsCt_one _) (by unfold maxLen; omega) (by omega) (by simp; omega) ?_; intro v6 w6 hown6 hgrow6 hnil6))
      refine ⟨⟨k + 1, by omega, by go_num, ?_, Below.grown (HEi.out.alloc _) hgrow6 (by simp; omega) (fun q hq => (HOx.out.lt q hq).1)⟩, by simp [intOf]; omega⟩
      show w6.ownsRow _ _ _ _ _ _
      rw [HK2.out, cellsCt_app, List.length_append]
      exact hown6
  ·have hke : k = 30 := by omega
   subst hke
   obtain ⟨g, hg1, hT⟩ := ctown_of_owns HO.out
   obtain ⟨a8, c8, rfl, -⟩ := _root_.id hT
   have HT : Hid (w.heap.size ≤ g ∧ CtOwn wo (.slice a8 (Msg.ns (Msg.cms ms id view) 30).length c8) g (Msg.ns (Msg.cms ms id view) 30)) := ⟨hg1, hT⟩
   clear hT hg1
   go_wp2
   go_ret
   first | exact ⟨_, g, rfl, HT.out.1, HT.out.2, HE.out⟩ | exact ⟨_, rfl, g, HT.out.1, HT.out.2, HE.out⟩

end Go.Proofs.YtecgjdgfjgcmdaaGreat
namespace Go.Proofs.YtecgjdgfjgcmdaaGreat
open Go.RowKit
theorem Msg.cms_view {ms : List Ms} {id view : Int} (h : ∀ z ∈ ms, 0 ≤ z.view) : ∀ c ∈ Msg.cms ms id view, 0 ≤ c.view := by
 intro c hc
 unfold Msg.cms at hc
 obtain ⟨z, hz, rfl⟩ := List.mem_map.1 hc
 exact h z (List.mem_filter.1 hz).1
set_option linter.unusedSimpArgs false in
set_option maxHeartbeats 8000000 in
set_option maxRecDepth 100000 in
theorem l10Certs_row (v : Value) (ms : List Ms) (id view : Int) (w : World) (hS : MSlice w v ms) (hvs : ∀ z ∈ ms, 0 ≤ z.view) :
  Calls Tryz.prog 58 #[v, .int .i64 id, .int .i64 view] w fun e w' => ∃ vo, e = .returned vo ∧ w'.ownsRow w.heap.size 57 3 vo (Msg.ns (Msg.cms ms id view) 30).length (cellsCt (Msg.ns (Msg.cms ms id view) 30)) ∧ Ext w w' := by
 have hi9 : (Tryz.prog.info? 57).map (fun i => (i.zero, i.size, i.bytes)) = some (some (.agg #[.int .i64 0, .int .i64 0, .int .i64 0]), 3, 24) := by kernel_rfl
 obtain ⟨tc, htc, hxx⟩ := Option.map_eq_some_iff.1 hi9
 simp only [Prod.mk.injEq] at hxx
 obtain ⟨hy0, hy1, hy2⟩ := hxx
 clear hi9
 have HSl : Hid (MSlice w v ms) := hS
 have HVa : Hid (∀ z ∈ ms, 0 ≤ z.view) := hvs
 have HCi : Hid (∀ c ∈ Msg.cms ms id view, 0 ≤ c.view) := fun c hc => Msg.cms_view hvs c hc
 obtain ⟨a, cap, rfl, -, -, -⟩ := hS
 clear hvs
 go_enter Tryz.func58, Tryz.ntmps58
 go_wp2
 go_loopw [7, 8] (fun ov i wr => ∃ (k : Nat), k ≤ 30 ∧ i = .int .i64 ((k : Int) + 1) ∧ Hid (wr.ownsRow (w.heap.size) 57 3 ov (Msg.ns (Msg.cms ms id view) k).length (cellsCt (Msg.ns (Msg.cms ms id view) k))) ∧ Hid (Ext w wr)) (fun _ i _ => 31 - (intOf i).toNat)
 case atStart => exact ⟨0, Nat.zero_le _, rfl, World.ownsRow_made w #[] 0 (Nat.le_refl _) (by unfold maxLen; omega) rfl, (Ext.refl _).alloc _⟩
 case round =>
  obtain ⟨k, hk, rfl, HO, HE⟩ := hrel
  obtain ⟨wo, hwo⟩ : ∃ wo, wo = wr := ⟨_, rfl⟩
  subst hwo
  by_cases hlt : k < 30
  ·have hkk : (k : Int) + 1 ≤ 30 := by omega
   have hnl := Msg.ns_len (Msg.cms ms id view) k
   have hws : w.heap.size ≤ wo.heap.size := HE.out.size
   have HB0 : Hid (CBx (wo.alloc (.cells #[.int .i64 ((k : Int) + 1), .int .i64 (-1), .int .i64 0] 57)) wo.heap.size ⟨(k : Int) + 1, Msg.vw (Msg.best (Msg.cms (ms.take 0) id view) ((k : Int) + 1)), Msg.vl (Msg.best (Msg.cms (ms.take 0) id view) ((k : Int) + 1))⟩) := cbx_new wo ⟨(k : Int) + 1, Msg.vw (Msg.best (Msg.cms (ms.take 0) id view) ((k : Int) + 1)), Msg.vl (Msg.best (Msg.cms (ms.take 0) id view) ((k : Int) + 1))⟩ _
   have HQ0 : Hid (∀ q, u7.ownBlock = some q → q < wo.heap.size) := fun q hq => (HO.out.lt q hq).2
   obtain ⟨wa, hwa⟩ : ∃ wa, wa = wo.alloc (.cells #[.int .i64 ((k : Int) + 1), .int .i64 (-1), .int .i64 0] 57) := ⟨_, rfl⟩
   have HOa : Hid (wa.ownsRow (w.heap.size) 57 3 u7 (Msg.ns (Msg.cms ms id view) k).length (cellsCt (Msg.ns (Msg.cms ms id view) k))) := by rw [hwa]; exact HO.out.alloc _
   have HEa : Hid (Ext w wa) := by rw [hwa]; exact HE.out.alloc _
   have HBa : Hid (CBx wa wo.heap.size ⟨(k : Int) + 1, Msg.vw (Msg.best (Msg.cms (ms.take 0) id view) ((k : Int) + 1)), Msg.vl (Msg.best (Msg.cms (ms.take 0) id view) ((k : Int) + 1))⟩) := by rw [hwa]; exact HB0.out
   have hsa : wa.heap.size = wo.heap.size + 1 := by rw [hwa]; simp
   go_wp2
   rw [← hwa]
   generalize wo.heap.size = B at *
   clear HB0 HO HE hwa
   go_loopw [10] (fun iv wr => ∃ (i : Nat), i ≤ ms.length ∧ iv = .int .i64 i ∧ Hid (CBx wr B ⟨(k : Int) + 1, Msg.vw (Msg.best (Msg.cms (ms.take i) id view) ((k : Int) + 1)), Msg.vl (Msg.best (Msg.cms (ms.take i) id view) ((k : Int) + 1))⟩) ∧ Hid (Below B wa wr)) (fun iv _ => ms.length - (intOf iv).toNat)
   case atStart => exact ⟨0, Nat.zero_le _, rfl, HBa, Below.refl _ _⟩
   case round =>
    obtain ⟨i, hi, rfl, HB, HX⟩ := hrel
    have HEi : Hid (Ext w wr) := Below.trans HEa.out (Below.mono HX.out hws)
    by_cases hli : i < ms.length
    ·obtain ⟨z, h2⟩ : ∃ z, ms[i]? = some z := ⟨_, List.getElem?_eq_getElem hli⟩
     obtain ⟨b1, off1, cap1, e1, hlt1, hlm1, hcm1, hb1, hm⟩ := HSl.out.at2 h2
     injection e1 with e1 e4 e5
     subst e1 e5
     have hm := hm.ext hb1 HEi.out
     have hbne : Hid (B ≠ b1) := by show B ≠ b1; omega
     have HZ : Hid (ms[i]? = some z) := h2
     have HVi : Hid (0 ≤ z.view) := HVa.out z (List.mem_of_getElem? h2)
     obtain ⟨vz, uz, ⟨c0, c1, c2, c3, c4, -, -⟩, -⟩ := hm
     obtain ⟨o, HOe⟩ : ∃ o, Hid (Msg.best (Msg.cms (ms.take i) id view) ((k : Int) + 1) = o) := ⟨_, rfl⟩
     rw [HOe.out] at HB
     obtain ⟨hbB, ⟨cA, cB, cC⟩, fA, fB, fC⟩ := HB.out
     have HS : Hid (wr.drew.cell? ⟨b1, off1 + i * 7, none⟩ = some (.int .i64 z.kind) ∧ wr.drew.cell? ⟨b1, off1 + i * 7 + 1, none⟩ = some (.int .i64 z.view) ∧ wr.drew.cell? ⟨b1, off1 + i * 7 + 2, none⟩ = some (.int .i64 z.from_) ∧ wr.drew.cell? ⟨b1, off1 + i * 7 + 3, none⟩ = some (.int .i64 z.slot) ∧ wr.drew.cell? ⟨B, 1, none⟩ = some (.int .i64 (Msg.vw o))) := ⟨c0, c1, c2, c3, cB⟩
     clear h2 e4
     by_cases h3 : z.kind = 3
     ·have P4 : Hid ((z.kind == 3) = true) := by show _ = _; simpa using h3
      by_cases h4 : z.from_ = id
      ·have P11 : Hid ((z.from_ == id) = true) := by show _ = _; simpa using h4
       by_cases h5 : z.slot = (k : Int) + 1
       ·have P19 : Hid ((z.slot == (k : Int) + 1) = true) := by show _ = _; simpa using h5
        by_cases h6 : z.view < view
        ·have P27 : Hid (decide (z.view < view) = true) := decide_eq_true h6
         by_cases h7 : Msg.vw o < z.view
         ·have P36 : Hid (decide (Msg.vw o < z.view) = true) := decide_eq_true h7
          have HF : Hid (Msg.best (Msg.cms (ms.take (i + 1)) id view) ((k : Int) + 1) = some ⟨z.slot, z.view, z.value⟩) := Msg.cms_new HZ.out ⟨h3, h4, h5, h6, by rw [HOe.out]; exact h7⟩
          clear h3 h4 h6 h7
          go_wp2
          clear c0 c2 c3 cA cB cC
          refine wp_region_held_drew (S := (fun W' : World => W'.cell? ⟨b1, off1 + i * 7, none⟩ = some (.int .i64 z.kind) ∧ W'.cell? ⟨b1, off1 + i * 7 + 1, none⟩ = some (.int .i64 z.view) ∧ W'.cell? ⟨b1, off1 + i * 7 + 2, none⟩ = some (.int .i64 z.from_) ∧ W'.cell? ⟨b1, off1 + i * 7 + 3, none⟩ = some (.int .i64 z.slot) ∧ W'.cell? ⟨B, 1, none⟩ = some (.int .i64 (Msg.vw o)))) (by kernel_rfl) (HS.out) (fun hHeld => ?_)
          refine tk 0 ⟨some 28, .move (.tmp 11), 97, oz26, #[], none⟩ ?_
          refine tk 1 ⟨some 29, .nilCheck (.tmp 28), 0, oz26, #[⟨0, .data⟩], none⟩ ?_
          refine tk 2 ⟨some 30, .fieldAddr 40 (.tmp 29) 0, 0, oz26, #[⟨1, .data⟩], none⟩ ?_
          refine tk 3 ⟨some 31, .load 2 (.tmp 30), 2, oz26, #[⟨2, .data⟩], none⟩ ?_
          refine tk 4 ⟨some 32, .binOp .eql 2 (.tmp 31) (.const (.int .i64 3)) 2, 4, oz26, #[⟨3, .data⟩], none⟩ ?_
          (try rw [P4.out])
          refine tk 5 ⟨some 33, .move (.tmp 32), 4, oz26, #[⟨4, .data⟩], none⟩ ?_
          refine tk 6 ⟨some 34, .move (.tmp 11), 97, oz26, #[⟨5, .guard⟩], some (5, true)⟩ ?_
          refine tk 7 ⟨some 35, .nilCheck (.tmp 34), 0, oz26, oy27, some (5, true)⟩ ?_
          refine tk 8 ⟨some 36, .fieldAddr 40 (.tmp 35) 2, 0, oz26, oy28, some (5, true)⟩ ?_
          refine tk 9 ⟨some 37, .load 2 (.tmp 36), 2, oz26, oy29, some (5, true)⟩ ?_
          refine tk 10 ⟨some 38, .move (.tmp 1), 2, oz26, #[⟨5, .guard⟩], some (5, true)⟩ ?_
          refine tk 11 ⟨some 39, .binOp .eql 2 (.tmp 37) (.tmp 38) 2, 4, oz26, oy30, some (5, true)⟩ ?_
          (try rw [P11.out])
          refine tk 12 ⟨some 40, .pick (.tmp 33) (.tmp 39) (.const (.bool false)), 4, oz26, oy31, none⟩ ?_
          refine tk 13 ⟨some 41, .move (.tmp 40), 4, oz26, oy32, none⟩ ?_
          refine tk 14 ⟨some 42, .move (.tmp 11), 97, oz26, oy33, some (13, true)⟩ ?_
          refine tk 15 ⟨some 43, .nilCheck (.tmp 42), 0, oz26, oy34, some (13, true)⟩ ?_
          refine tk 16 ⟨some 44, .fieldAddr 40 (.tmp 43) 3, 0, oz26, oy35, some (13, true)⟩ ?_
          refine tk 17 ⟨some 45, .load 2 (.tmp 44), 2, oz26, oy36, some (13, true)⟩ ?_
          refine tk 18 ⟨some 46, .move (.tmp 8), 2, oz26, oy33, some (13, true)⟩ ?_
          refine tk 19 ⟨some 47, .binOp .eql 2 (.tmp 45) (.tmp 46) 2, 4, oz26, oy37, some (13, true)⟩ ?_
          (try rw [P19.out])
          refine tk 20 ⟨some 48, .pick (.tmp 41) (.tmp 47) (.const (.bool false)), 4, oz26, oy38, none⟩ ?_
          refine tk 21 ⟨some 49, .move (.tmp 48), 4, oz26, oy39, none⟩ ?_
          refine tk 22 ⟨some 50, .move (.tmp 11), 97, oz26, oy40, some (21, true)⟩ ?_
          refine tk 23 ⟨some 51, .nilCheck (.tmp 50), 0, oz26, oy41, some (21, true)⟩ ?_
          refine tk 24 ⟨some 52, .fieldAddr 40 (.tmp 51) 1, 0, oz26, oy42, some (21, true)⟩ ?_
          refine tk 25 ⟨some 53, .load 2 (.tmp 52), 2, oz26, oy43, some (21, true)⟩ ?_
          refine tk 26 ⟨some 54, .move (.tmp 2), 2, oz26, oy40, some (21, true)⟩ ?_
          refine tk 27 ⟨some 55, .binOp .lss 2 (.tmp 53) (.tmp 54) 2, 4, oz26, oy44, some (21, true)⟩ ?_
          (try rw [P27.out])
          refine tk 28 ⟨some 56, .pick (.tmp 49) (.tmp 55) (.const (.bool false)), 4, oz26, oy45, none⟩ ?_
          refine tk 29 ⟨some 57, .move (.tmp 56), 4, oz26, oy46, none⟩ ?_
          refine tk 30 ⟨some 58, .move (.tmp 11), 97, oz26, oy47, some (29, true)⟩ ?_
          refine tk 31 ⟨some 59, .nilCheck (.tmp 58), 0, oz26, oy48, some (29, true)⟩ ?_
          refine tk 32 ⟨some 60, .fieldAddr 40 (.tmp 59) 1, 0, oz26, oy49, some (29, true)⟩ ?_
          refine tk 33 ⟨some 61, .load 2 (.tmp 60), 2, oz26, oy50, some (29, true)⟩ ?_
          refine tk 34 ⟨some 62, .fieldAddr 57 (.tmp 9) 1, 0, oz26, oy47, some (29, true)⟩ ?_
          refine tk 35 ⟨some 63, .load 2 (.tmp 62), 2, oz26, oy51, some (29, true)⟩ ?_
          refine tk 36 ⟨some 64, .binOp .gtr 2 (.tmp 61) (.tmp 63) 2, 4, oz26, oy52, some (29, true)⟩ ?_
          (try rw [P36.out])
          refine tk 37 ⟨some 65, .pick (.tmp 57) (.tmp 64) (.const (.bool false)), 4, oz26, oy53, none⟩ ?_
          refine wpAnyH_done (by kernel_rfl) ?_ _
          have HBd : Hid (CBx wr.drew B ⟨(k : Int) + 1, Msg.vw (o), Msg.vl (o)⟩) := HB.out.drew
          have q1 : wr.drew.cell? ⟨b1, off1 + i * 7 + 1, none⟩ = some (.int .i64 z.view) := HS.out.2.1
          have q4 : wr.drew.cell? ⟨b1, off1 + i * 7 + 4, none⟩ = some (.int .i64 z.value) := c4
          have q4' : (wr.drew.setCell ⟨B, 1, none⟩ (.int .i64 z.view)).cell? ⟨b1, off1 + i * 7 + 4, none⟩ = some (.int .i64 z.value) := by rw [iset_ne _ _ _ _ _ _ (Or.inl hbne.out)]; exact q4
          obtain ⟨hb9, ⟨s0, s1, s2⟩, fA, fB, fC⟩ := HBd.out
          have HXd : Hid (Below B wa wr.drew) := Below.drew HX.out
          clear HS HB HX HEi c1 c4
          generalize wr.drew = wd at *
          go_wp2
          refine ⟨⟨i + 1, by omega, by go_num, ?_, ?_⟩, by simp [intOf]; omega⟩
          ·show CBx _ _ _
           rw [HF.out]
           exact HBd.out.put12 rfl
          ·exact Below.setCell (Below.setCell HXd.out (p := ⟨B, 1, none⟩) (Nat.le_refl _) _) (p := ⟨B, 2, none⟩) (Nat.le_refl _) _
         ·have P36 : Hid (decide (Msg.vw o < z.view) = false) := decide_eq_false h7
          have HF : Hid (Msg.best (Msg.cms (ms.take (i + 1)) id view) ((k : Int) + 1) = o) := by show _ = _; rw [← HOe.out]; exact Msg.cms_same HZ.out HVi.out (fun h => h7 (by have h8 := h.2.2.2.2; rw [HOe.out] at h8; exact h8))
          clear h3 h4 h5 h6 h7
          go_wp2
          clear c0 c1 c2 c3 cA cB cC
          refine wp_region_held_drew (S := (fun W' : World => W'.cell? ⟨b1, off1 + i * 7, none⟩ = some (.int .i64 z.kind) ∧ W'.cell? ⟨b1, off1 + i * 7 + 1, none⟩ = some (.int .i64 z.view) ∧ W'.cell? ⟨b1, off1 + i * 7 + 2, none⟩ = some (.int .i64 z.from_) ∧ W'.cell? ⟨b1, off1 + i * 7 + 3, none⟩ = some (.int .i64 z.slot) ∧ W'.cell? ⟨B, 1, none⟩ = some (.int .i64 (Msg.vw o)))) (by kernel_rfl) (HS.out) (fun hHeld => ?_)
          refine tk 0 ⟨some 28, .move (.tmp 11), 97, oz26, #[], none⟩ ?_
          refine tk 1 ⟨some 29, .nilCheck (.tmp 28), 0, oz26, #[⟨0, .data⟩], none⟩ ?_
          refine tk 2 ⟨some 30, .fieldAddr 40 (.tmp 29) 0, 0, oz26, #[⟨1, .data⟩], none⟩ ?_
          refine tk 3 ⟨some 31, .load 2 (.tmp 30), 2, oz26, #[⟨2, .data⟩], none⟩ ?_
          refine tk 4 ⟨some 32, .binOp .eql 2 (.tmp 31) (.const (.int .i64 3)) 2, 4, oz26, #[⟨3, .data⟩], none⟩ ?_
          (try rw [P4.out])
          refine tk 5 ⟨some 33, .move (.tmp 32), 4, oz26, #[⟨4, .data⟩], none⟩ ?_
          refine tk 6 ⟨some 34, .move (.tmp 11), 97, oz26, #[⟨5, .guard⟩], some (5, true)⟩ ?_
          refine tk 7 ⟨some 35, .nilCheck (.tmp 34), 0, oz26, oy27, some (5, true)⟩ ?_
          refine tk 8 ⟨some 36, .fieldAddr 40 (.tmp 35) 2, 0, oz26, oy28, some (5, true)⟩ ?_
          refine tk 9 ⟨some 37, .load 2 (.tmp 36), 2, oz26, oy29, some (5, true)⟩ ?_
          refine tk 10 ⟨some 38, .move (.tmp 1), 2, oz26, #[⟨5, .guard⟩], some (5, true)⟩ ?_
          refine tk 11 ⟨some 39, .binOp .eql 2 (.tmp 37) (.tmp 38) 2, 4, oz26, oy30, some (5, true)⟩ ?_
          (try rw [P11.out])
          refine tk 12 ⟨some 40, .pick (.tmp 33) (.tmp 39) (.const (.bool false)), 4, oz26, oy31, none⟩ ?_
          refine tk 13 ⟨some 41, .move (.tmp 40), 4, oz26, oy32, none⟩ ?_
          refine tk 14 ⟨some 42, .move (.tmp 11), 97, oz26, oy33, some (13, true)⟩ ?_
          refine tk 15 ⟨some 43, .nilCheck (.tmp 42), 0, oz26, oy34, some (13, true)⟩ ?_
          refine tk 16 ⟨some 44, .fieldAddr 40 (.tmp 43) 3, 0, oz26, oy35, some (13, true)⟩ ?_
          refine tk 17 ⟨some 45, .load 2 (.tmp 44), 2, oz26, oy36, some (13, true)⟩ ?_
          refine tk 18 ⟨some 46, .move (.tmp 8), 2, oz26, oy33, some (13, true)⟩ ?_
          refine tk 19 ⟨some 47, .binOp .eql 2 (.tmp 45) (.tmp 46) 2, 4, oz26, oy37, some (13, true)⟩ ?_
          (try rw [P19.out])
          refine tk 20 ⟨some 48, .pick (.tmp 41) (.tmp 47) (.const (.bool false)), 4, oz26, oy38, none⟩ ?_
          refine tk 21 ⟨some 49, .move (.tmp 48), 4, oz26, oy39, none⟩ ?_
          refine tk 22 ⟨some 50, .move (.tmp 11), 97, oz26, oy40, some (21, true)⟩ ?_
          refine tk 23 ⟨some 51, .nilCheck (.tmp 50), 0, oz26, oy41, some (21, true)⟩ ?_
          refine tk 24 ⟨some 52, .fieldAddr 40 (.tmp 51) 1, 0, oz26, oy42, some (21, true)⟩ ?_
          refine tk 25 ⟨some 53, .load 2 (.tmp 52), 2, oz26, oy43, some (21, true)⟩ ?_
          refine tk 26 ⟨some 54, .move (.tmp 2), 2, oz26, oy40, some (21, true)⟩ ?_
          refine tk 27 ⟨some 55, .binOp .lss 2 (.tmp 53) (.tmp 54) 2, 4, oz26, oy44, some (21, true)⟩ ?_
          (try rw [P27.out])
          refine tk 28 ⟨some 56, .pick (.tmp 49) (.tmp 55) (.const (.bool false)), 4, oz26, oy45, none⟩ ?_
          refine tk 29 ⟨some 57, .move (.tmp 56), 4, oz26, oy46, none⟩ ?_
          refine tk 30 ⟨some 58, .move (.tmp 11), 97, oz26, oy47, some (29, true)⟩ ?_
          refine tk 31 ⟨some 59, .nilCheck (.tmp 58), 0, oz26, oy48, some (29, true)⟩ ?_
          refine tk 32 ⟨some 60, .fieldAddr 40 (.tmp 59) 1, 0, oz26, oy49, some (29, true)⟩ ?_
          refine tk 33 ⟨some 61, .load 2 (.tmp 60), 2, oz26, oy50, some (29, true)⟩ ?_
          refine tk 34 ⟨some 62, .fieldAddr 57 (.tmp 9) 1, 0, oz26, oy47, some (29, true)⟩ ?_
          refine tk 35 ⟨some 63, .load 2 (.tmp 62), 2, oz26, oy51, some (29, true)⟩ ?_
          refine tk 36 ⟨some 64, .binOp .gtr 2 (.tmp 61) (.tmp 63) 2, 4, oz26, oy52, some (29, true)⟩ ?_
          (try rw [P36.out])
          refine tk 37 ⟨some 65, .pick (.tmp 57) (.tmp 64) (.const (.bool false)), 4, oz26, oy53, none⟩ ?_
          refine wpAnyH_done (by kernel_rfl) ?_ _
          (try go_wp2)
          exact ⟨⟨i + 1, by omega, by go_num, by show CBx _ _ _; rw [HF.out]; exact HB.out.drew, Below.drew HX.out⟩, by simp [intOf]; omega⟩
        ·have P27 : Hid (decide (z.view < view) = false) := decide_eq_false h6
         have HF : Hid (Msg.best (Msg.cms (ms.take (i + 1)) id view) ((k : Int) + 1) = o) := by show _ = _; rw [← HOe.out]; exact Msg.cms_same HZ.out HVi.out (fun h => h6 h.2.2.2.1)
         clear h3 h4 h5 h6
         go_wp2
         clear c0 c1 c2 c3 cA cB cC
         refine wp_region_held_drew (S := (fun W' : World => W'.cell? ⟨b1, off1 + i * 7, none⟩ = some (.int .i64 z.kind) ∧ W'.cell? ⟨b1, off1 + i * 7 + 1, none⟩ = some (.int .i64 z.view) ∧ W'.cell? ⟨b1, off1 + i * 7 + 2, none⟩ = some (.int .i64 z.from_) ∧ W'.cell? ⟨b1, off1 + i * 7 + 3, none⟩ = some (.int .i64 z.slot) ∧ W'.cell? ⟨B, 1, none⟩ = some (.int .i64 (Msg.vw o)))) (by kernel_rfl) (HS.out) (fun hHeld => ?_)
         refine tk 0 ⟨some 28, .move (.tmp 11), 97, oz26, #[], none⟩ ?_
         refine tk 1 ⟨some 29, .nilCheck (.tmp 28), 0, oz26, #[⟨0, .data⟩], none⟩ ?_
         refine tk 2 ⟨some 30, .fieldAddr 40 (.tmp 29) 0, 0, oz26, #[⟨1, .data⟩], none⟩ ?_
         refine tk 3 ⟨some 31, .load 2 (.tmp 30), 2, oz26, #[⟨2, .data⟩], none⟩ ?_
         refine tk 4 ⟨some 32, .binOp .eql 2 (.tmp 31) (.const (.int .i64 3)) 2, 4, oz26, #[⟨3, .data⟩], none⟩ ?_
         (try rw [P4.out])
         refine tk 5 ⟨some 33, .move (.tmp 32), 4, oz26, #[⟨4, .data⟩], none⟩ ?_
         refine tk 6 ⟨some 34, .move (.tmp 11), 97, oz26, #[⟨5, .guard⟩], some (5, true)⟩ ?_
         refine tk 7 ⟨some 35, .nilCheck (.tmp 34), 0, oz26, oy27, some (5, true)⟩ ?_
         refine tk 8 ⟨some 36, .fieldAddr 40 (.tmp 35) 2, 0, oz26, oy28, some (5, true)⟩ ?_
         refine tk 9 ⟨some 37, .load 2 (.tmp 36), 2, oz26, oy29, some (5, true)⟩ ?_
         refine tk 10 ⟨some 38, .move (.tmp 1), 2, oz26, #[⟨5, .guard⟩], some (5, true)⟩ ?_
         refine tk 11 ⟨some 39, .binOp .eql 2 (.tmp 37) (.tmp 38) 2, 4, oz26, oy30, some (5, true)⟩ ?_
         (try rw [P11.out])
         refine tk 12 ⟨some 40, .pick (.tmp 33) (.tmp 39) (.const (.bool false)), 4, oz26, oy31, none⟩ ?_
         refine tk 13 ⟨some 41, .move (.tmp 40), 4, oz26, oy32, none⟩ ?_
         refine tk 14 ⟨some 42, .move (.tmp 11), 97, oz26, oy33, some (13, true)⟩ ?_
         refine tk 15 ⟨some 43, .nilCheck (.tmp 42), 0, oz26, oy34, some (13, true)⟩ ?_
         refine tk 16 ⟨some 44, .fieldAddr 40 (.tmp 43) 3, 0, oz26, oy35, some (13, true)⟩ ?_
         refine tk 17 ⟨some 45, .load 2 (.tmp 44), 2, oz26, oy36, some (13, true)⟩ ?_
         refine tk 18 ⟨some 46, .move (.tmp 8), 2, oz26, oy33, some (13, true)⟩ ?_
         refine tk 19 ⟨some 47, .binOp .eql 2 (.tmp 45) (.tmp 46) 2, 4, oz26, oy37, some (13, true)⟩ ?_
         (try rw [P19.out])
         refine tk 20 ⟨some 48, .pick (.tmp 41) (.tmp 47) (.const (.bool false)), 4, oz26, oy38, none⟩ ?_
         refine tk 21 ⟨some 49, .move (.tmp 48), 4, oz26, oy39, none⟩ ?_
         refine tk 22 ⟨some 50, .move (.tmp 11), 97, oz26, oy40, some (21, true)⟩ ?_
         refine tk 23 ⟨some 51, .nilCheck (.tmp 50), 0, oz26, oy41, some (21, true)⟩ ?_
         refine tk 24 ⟨some 52, .fieldAddr 40 (.tmp 51) 1, 0, oz26, oy42, some (21, true)⟩ ?_
         refine tk 25 ⟨some 53, .load 2 (.tmp 52), 2, oz26, oy43, some (21, true)⟩ ?_
         refine tk 26 ⟨some 54, .move (.tmp 2), 2, oz26, oy40, some (21, true)⟩ ?_
         refine tk 27 ⟨some 55, .binOp .lss 2 (.tmp 53) (.tmp 54) 2, 4, oz26, oy44, some (21, true)⟩ ?_
         (try rw [P27.out])
         refine tk 28 ⟨some 56, .pick (.tmp 49) (.tmp 55) (.const (.bool false)), 4, oz26, oy45, none⟩ ?_
         refine tk 29 ⟨some 57, .move (.tmp 56), 4, oz26, oy46, none⟩ ?_
         refine tn 30 ⟨some 58, .move (.tmp 11), 97, oz26, oy47, some (29, true)⟩ ?_
         refine tn 31 ⟨some 59, .nilCheck (.tmp 58), 0, oz26, oy48, some (29, true)⟩ ?_
         refine tn 32 ⟨some 60, .fieldAddr 40 (.tmp 59) 1, 0, oz26, oy49, some (29, true)⟩ ?_
         refine tn 33 ⟨some 61, .load 2 (.tmp 60), 2, oz26, oy50, some (29, true)⟩ ?_
         refine tn 34 ⟨some 62, .fieldAddr 57 (.tmp 9) 1, 0, oz26, oy47, some (29, true)⟩ ?_
         refine tn 35 ⟨some 63, .load 2 (.tmp 62), 2, oz26, oy51, some (29, true)⟩ ?_
         refine tn 36 ⟨some 64, .binOp .gtr 2 (.tmp 61) (.tmp 63) 2, 4, oz26, oy52, some (29, true)⟩ ?_
         refine tk 37 ⟨some 65, .pick (.tmp 57) (.tmp 64) (.const (.bool false)), 4, oz26, oy53, none⟩ ?_
         refine wpAnyH_done (by kernel_rfl) ?_ _
         (try go_wp2)
         exact ⟨⟨i + 1, by omega, by go_num, by show CBx _ _ _; rw [HF.out]; exact HB.out.drew, Below.drew HX.out⟩, by simp [intOf]; omega⟩
       ·have P19 : Hid ((z.slot == (k : Int) + 1) = false) := by show _ = _; simpa using h5
        have HF : Hid (Msg.best (Msg.cms (ms.take (i + 1)) id view) ((k : Int) + 1) = o) := by show _ = _; rw [← HOe.out]; exact Msg.cms_same HZ.out HVi.out (fun h => h5 h.2.2.1)
        clear h3 h4 h5
        go_wp2
        clear c0 c1 c2 c3 cA cB cC
        refine wp_region_held_drew (S := (fun W' : World => W'.cell? ⟨b1, off1 + i * 7, none⟩ = some (.int .i64 z.kind) ∧ W'.cell? ⟨b1, off1 + i * 7 + 1, none⟩ = some (.int .i64 z.view) ∧ W'.cell? ⟨b1, off1 + i * 7 + 2, none⟩ = some (.int .i64 z.from_) ∧ W'.cell? ⟨b1, off1 + i * 7 + 3, none⟩ = some (.int .i64 z.slot) ∧ W'.cell? ⟨B, 1, none⟩ = some (.int .i64 (Msg.vw o)))) (by kernel_rfl) (HS.out) (fun hHeld => ?_)
        refine tk 0 ⟨some 28, .move (.tmp 11), 97, oz26, #[], none⟩ ?_
        refine tk 1 ⟨some 29, .nilCheck (.tmp 28), 0, oz26, #[⟨0, .data⟩], none⟩ ?_
        refine tk 2 ⟨some 30, .fieldAddr 40 (.tmp 29) 0, 0, oz26, #[⟨1, .data⟩], none⟩ ?_
        refine tk 3 ⟨some 31, .load 2 (.tmp 30), 2, oz26, #[⟨2, .data⟩], none⟩ ?_
        refine tk 4 ⟨some 32, .binOp .eql 2 (.tmp 31) (.const (.int .i64 3)) 2, 4, oz26, #[⟨3, .data⟩], none⟩ ?_
        (try rw [P4.out])
        refine tk 5 ⟨some 33, .move (.tmp 32), 4, oz26, #[⟨4, .data⟩], none⟩ ?_
        refine tk 6 ⟨some 34, .move (.tmp 11), 97, oz26, #[⟨5, .guard⟩], some (5, true)⟩ ?_
        refine tk 7 ⟨some 35, .nilCheck (.tmp 34), 0, oz26, oy27, some (5, true)⟩ ?_
        refine tk 8 ⟨some 36, .fieldAddr 40 (.tmp 35) 2, 0, oz26, oy28, some (5, true)⟩ ?_
        refine tk 9 ⟨some 37, .load 2 (.tmp 36), 2, oz26, oy29, some (5, true)⟩ ?_
        refine tk 10 ⟨some 38, .move (.tmp 1), 2, oz26, #[⟨5, .guard⟩], some (5, true)⟩ ?_
        refine tk 11 ⟨some 39, .binOp .eql 2 (.tmp 37) (.tmp 38) 2, 4, oz26, oy30, some (5, true)⟩ ?_
        (try rw [P11.out])
        refine tk 12 ⟨some 40, .pick (.tmp 33) (.tmp 39) (.const (.bool false)), 4, oz26, oy31, none⟩ ?_
        refine tk 13 ⟨some 41, .move (.tmp 40), 4, oz26, oy32, none⟩ ?_
        refine tk 14 ⟨some 42, .move (.tmp 11), 97, oz26, oy33, some (13, true)⟩ ?_
        refine tk 15 ⟨some 43, .nilCheck (.tmp 42), 0, oz26, oy34, some (13, true)⟩ ?_
        refine tk 16 ⟨some 44, .fieldAddr 40 (.tmp 43) 3, 0, oz26, oy35, some (13, true)⟩ ?_
        refine tk 17 ⟨some 45, .load 2 (.tmp 44), 2, oz26, oy36, some (13, true)⟩ ?_
        refine tk 18 ⟨some 46, .move (.tmp 8), 2, oz26, oy33, some (13, true)⟩ ?_
        refine tk 19 ⟨some 47, .binOp .eql 2 (.tmp 45) (.tmp 46) 2, 4, oz26, oy37, some (13, true)⟩ ?_
        (try rw [P19.out])
        refine tk 20 ⟨some 48, .pick (.tmp 41) (.tmp 47) (.const (.bool false)), 4, oz26, oy38, none⟩ ?_
        refine tk 21 ⟨some 49, .move (.tmp 48), 4, oz26, oy39, none⟩ ?_
        refine tn 22 ⟨some 50, .move (.tmp 11), 97, oz26, oy40, some (21, true)⟩ ?_
        refine tn 23 ⟨some 51, .nilCheck (.tmp 50), 0, oz26, oy41, some (21, true)⟩ ?_
        refine tn 24 ⟨some 52, .fieldAddr 40 (.tmp 51) 1, 0, oz26, oy42, some (21, true)⟩ ?_
        refine tn 25 ⟨some 53, .load 2 (.tmp 52), 2, oz26, oy43, some (21, true)⟩ ?_
        refine tn 26 ⟨some 54, .move (.tmp 2), 2, oz26, oy40, some (21, true)⟩ ?_
        refine tn 27 ⟨some 55, .binOp .lss 2 (.tmp 53) (.tmp 54) 2, 4, oz26, oy44, some (21, true)⟩ ?_
        refine tk 28 ⟨some 56, .pick (.tmp 49) (.tmp 55) (.const (.bool false)), 4, oz26, oy45, none⟩ ?_
        refine tk 29 ⟨some 57, .move (.tmp 56), 4, oz26, oy46, none⟩ ?_
        refine tn 30 ⟨some 58, .move (.tmp 11), 97, oz26, oy47, some (29, true)⟩ ?_
        refine tn 31 ⟨some 59, .nilCheck (.tmp 58), 0, oz26, oy48, some (29, true)⟩ ?_
        refine tn 32 ⟨some 60, .fieldAddr 40 (.tmp 59) 1, 0, oz26, oy49, some (29, true)⟩ ?_
        refine tn 33 ⟨some 61, .load 2 (.tmp 60), 2, oz26, oy50, some (29, true)⟩ ?_
        refine tn 34 ⟨some 62, .fieldAddr 57 (.tmp 9) 1, 0, oz26, oy47, some (29, true)⟩ ?_
        refine tn 35 ⟨some 63, .load 2 (.tmp 62), 2, oz26, oy51, some (29, true)⟩ ?_
        refine tn 36 ⟨some 64, .binOp .gtr 2 (.tmp 61) (.tmp 63) 2, 4, oz26, oy52, some (29, true)⟩ ?_
        refine tk 37 ⟨some 65, .pick (.tmp 57) (.tmp 64) (.const (.bool false)), 4, oz26, oy53, none⟩ ?_
        refine wpAnyH_done (by kernel_rfl) ?_ _
        (try go_wp2)
        exact ⟨⟨i + 1, by omega, by go_num, by show CBx _ _ _; rw [HF.out]; exact HB.out.drew, Below.drew HX.out⟩, by simp [intOf]; omega⟩
      ·have P11 : Hid ((z.from_ == id) = false) := by show _ = _; simpa using h4
       have HF : Hid (Msg.best (Msg.cms (ms.take (i + 1)) id view) ((k : Int) + 1) = o) := by show _ = _; rw [← HOe.out]; exact Msg.cms_same HZ.out HVi.out (fun h => h4 h.2.1)
       clear h3 h4
       go_wp2
       clear c0 c1 c2 c3 cA cB cC
       refine wp_region_held_drew (S := (fun W' : World => W'.cell? ⟨b1, off1 + i * 7, none⟩ = some (.int .i64 z.kind) ∧ W'.cell? ⟨b1, off1 + i * 7 + 1, none⟩ = some (.int .i64 z.view) ∧ W'.cell? ⟨b1, off1 + i * 7 + 2, none⟩ = some (.int .i64 z.from_) ∧ W'.cell? ⟨b1, off1 + i * 7 + 3, none⟩ = some (.int .i64 z.slot) ∧ W'.cell? ⟨B, 1, none⟩ = some (.int .i64 (Msg.vw o)))) (by kernel_rfl) (HS.out) (fun hHeld => ?_)
       refine tk 0 ⟨some 28, .move (.tmp 11), 97, oz26, #[], none⟩ ?_
       refine tk 1 ⟨some 29, .nilCheck (.tmp 28), 0, oz26, #[⟨0, .data⟩], none⟩ ?_
       refine tk 2 ⟨some 30, .fieldAddr 40 (.tmp 29) 0, 0, oz26, #[⟨1, .data⟩], none⟩ ?_
       refine tk 3 ⟨some 31, .load 2 (.tmp 30), 2, oz26, #[⟨2, .data⟩], none⟩ ?_
       refine tk 4 ⟨some 32, .binOp .eql 2 (.tmp 31) (.const (.int .i64 3)) 2, 4, oz26, #[⟨3, .data⟩], none⟩ ?_
       (try rw [P4.out])
       refine tk 5 ⟨some 33, .move (.tmp 32), 4, oz26, #[⟨4, .data⟩], none⟩ ?_
       refine tk 6 ⟨some 34, .move (.tmp 11), 97, oz26, #[⟨5, .guard⟩], some (5, true)⟩ ?_
       refine tk 7 ⟨some 35, .nilCheck (.tmp 34), 0, oz26, oy27, some (5, true)⟩ ?_
       refine tk 8 ⟨some 36, .fieldAddr 40 (.tmp 35) 2, 0, oz26, oy28, some (5, true)⟩ ?_
       refine tk 9 ⟨some 37, .load 2 (.tmp 36), 2, oz26, oy29, some (5, true)⟩ ?_
       refine tk 10 ⟨some 38, .move (.tmp 1), 2, oz26, #[⟨5, .guard⟩], some (5, true)⟩ ?_
       refine tk 11 ⟨some 39, .binOp .eql 2 (.tmp 37) (.tmp 38) 2, 4, oz26, oy30, some (5, true)⟩ ?_
       (try rw [P11.out])
       refine tk 12 ⟨some 40, .pick (.tmp 33) (.tmp 39) (.const (.bool false)), 4, oz26, oy31, none⟩ ?_
       refine tk 13 ⟨some 41, .move (.tmp 40), 4, oz26, oy32, none⟩ ?_
       refine tn 14 ⟨some 42, .move (.tmp 11), 97, oz26, oy33, some (13, true)⟩ ?_
       refine tn 15 ⟨some 43, .nilCheck (.tmp 42), 0, oz26, oy34, some (13, true)⟩ ?_
       refine tn 16 ⟨some 44, .fieldAddr 40 (.tmp 43) 3, 0, oz26, oy35, some (13, true)⟩ ?_
       refine tn 17 ⟨some 45, .load 2 (.tmp 44), 2, oz26, oy36, some (13, true)⟩ ?_
       refine tn 18 ⟨some 46, .move (.tmp 8), 2, oz26, oy33, some (13, true)⟩ ?_
       refine tn 19 ⟨some 47, .binOp .eql 2 (.tmp 45) (.tmp 46) 2, 4, oz26, oy37, some (13, true)⟩ ?_
       refine tk 20 ⟨some 48, .pick (.tmp 41) (.tmp 47) (.const (.bool false)), 4, oz26, oy38, none⟩ ?_
       refine tk 21 ⟨some 49, .move (.tmp 48), 4, oz26, oy39, none⟩ ?_
       refine tn 22 ⟨some 50, .move (.tmp 11), 97, oz26, oy40, some (21, true)⟩ ?_
       refine tn 23 ⟨some 51, .nilCheck (.tmp 50), 0, oz26, oy41, some (21, true)⟩ ?_
       refine tn 24 ⟨some 52, .fieldAddr 40 (.tmp 51) 1, 0, oz26, oy42, some (21, true)⟩ ?_
       refine tn 25 ⟨some 53, .load 2 (.tmp 52), 2, oz26, oy43, some (21, true)⟩ ?_
       refine tn 26 ⟨some 54, .move (.tmp 2), 2, oz26, oy40, some (21, true)⟩ ?_
       refine tn 27 ⟨some 55, .binOp .lss 2 (.tmp 53) (.tmp 54) 2, 4, oz26, oy44, some (21, true)⟩ ?_
       refine tk 28 ⟨some 56, .pick (.tmp 49) (.tmp 55) (.const (.bool false)), 4, oz26, oy45, none⟩ ?_
       refine tk 29 ⟨some 57, .move (.tmp 56), 4, oz26, oy46, none⟩ ?_
       refine tn 30 ⟨some 58, .move (.tmp 11), 97, oz26, oy47, some (29, true)⟩ ?_
       refine tn 31 ⟨some 59, .nilCheck (.tmp 58), 0, oz26, oy48, some (29, true)⟩ ?_
       refine tn 32 ⟨some 60, .fieldAddr 40 (.tmp 59) 1, 0, oz26, oy49, some (29, true)⟩ ?_
       refine tn 33 ⟨some 61, .load 2 (.tmp 60), 2, oz26, oy50, some (29, true)⟩ ?_
       refine tn 34 ⟨some 62, .fieldAddr 57 (.tmp 9) 1, 0, oz26, oy47, some (29, true)⟩ ?_
       refine tn 35 ⟨some 63, .load 2 (.tmp 62), 2, oz26, oy51, some (29, true)⟩ ?_
       refine tn 36 ⟨some 64, .binOp .gtr 2 (.tmp 61) (.tmp 63) 2, 4, oz26, oy52, some (29, true)⟩ ?_
       refine tk 37 ⟨some 65, .pick (.tmp 57) (.tmp 64) (.const (.bool false)), 4, oz26, oy53, none⟩ ?_
       refine wpAnyH_done (by kernel_rfl) ?_ _
       (try go_wp2)
       exact ⟨⟨i + 1, by omega, by go_num, by show CBx _ _ _; rw [HF.out]; exact HB.out.drew, Below.drew HX.out⟩, by simp [intOf]; omega⟩
     ·have P4 : Hid ((z.kind == 3) = false) := by show _ = _; simpa using h3
      have HF : Hid (Msg.best (Msg.cms (ms.take (i + 1)) id view) ((k : Int) + 1) = o) := by show _ = _; rw [← HOe.out]; exact Msg.cms_same HZ.out HVi.out (fun h => h3 h.1)
      clear h3
      go_wp2
      clear c0 c1 c2 c3 cA cB cC
      refine wp_region_held_drew (S := (fun W' : World => W'.cell? ⟨b1, off1 + i * 7, none⟩ = some (.int .i64 z.kind) ∧ W'.cell? ⟨b1, off1 + i * 7 + 1, none⟩ = some (.int .i64 z.view) ∧ W'.cell? ⟨b1, off1 + i * 7 + 2, none⟩ = some (.int .i64 z.from_) ∧ W'.cell? ⟨b1, off1 + i * 7 + 3, none⟩ = some (.int .i64 z.slot) ∧ W'.cell? ⟨B, 1, none⟩ = some (.int .i64 (Msg.vw o)))) (by kernel_rfl) (HS.out) (fun hHeld => ?_)
      refine tk 0 ⟨some 28, .move (.tmp 11), 97, oz26, #[], none⟩ ?_
      refine tk 1 ⟨some 29, .nilCheck (.tmp 28), 0, oz26, #[⟨0, .data⟩], none⟩ ?_
      refine tk 2 ⟨some 30, .fieldAddr 40 (.tmp 29) 0, 0, oz26, #[⟨1, .data⟩], none⟩ ?_
      refine tk 3 ⟨some 31, .load 2 (.tmp 30), 2, oz26, #[⟨2, .data⟩], none⟩ ?_
      refine tk 4 ⟨some 32, .binOp .eql 2 (.tmp 31) (.const (.int .i64 3)) 2, 4, oz26, #[⟨3, .data⟩], none⟩ ?_
      (try rw [P4.out])
      refine tk 5 ⟨some 33, .move (.tmp 32), 4, oz26, #[⟨4, .data⟩], none⟩ ?_
      refine tn 6 ⟨some 34, .move (.tmp 11), 97, oz26, #[⟨5, .guard⟩], some (5, true)⟩ ?_
      refine tn 7 ⟨some 35, .nilCheck (.tmp 34), 0, oz26, oy27, some (5, true)⟩ ?_
      refine tn 8 ⟨some 36, .fieldAddr 40 (.tmp 35) 2, 0, oz26, oy28, some (5, true)⟩ ?_
      refine tn 9 ⟨some 37, .load 2 (.tmp 36), 2, oz26, oy29, some (5, true)⟩ ?_
      refine tn 10 ⟨some 38, .move (.tmp 1), 2, oz26, #[⟨5, .guard⟩], some (5, true)⟩ ?_
      refine tn 11 ⟨some 39, .binOp .eql 2 (.tmp 37) (.tmp 38) 2, 4, oz26, oy30, some (5, true)⟩ ?_
      refine tk 12 ⟨some 40, .pick (.tmp 33) (.tmp 39) (.const (.bool false)), 4, oz26, oy31, none⟩ ?_
      refine tk 13 ⟨some 41, .move (.tmp 40), 4, oz26, oy32, none⟩ ?_
      refine tn 14 ⟨some 42, .move (.tmp 11), 97, oz26, oy33, some (13, true)⟩ ?_
      refine tn 15 ⟨some 43, .nilCheck (.tmp 42), 0, oz26, oy34, some (13, true)⟩ ?_
      refine tn 16 ⟨some 44, .fieldAddr 40 (.tmp 43) 3, 0, oz26, oy35, some (13, true)⟩ ?_
      refine tn 17 ⟨some 45, .load 2 (.tmp 44), 2, oz26, oy36, some (13, true)⟩ ?_
      refine tn 18 ⟨some 46, .move (.tmp 8), 2, oz26, oy33, some (13, true)⟩ ?_
      refine tn 19 ⟨some 47, .binOp .eql 2 (.tmp 45) (.tmp 46) 2, 4, oz26, oy37, some (13, true)⟩ ?_
      refine tk 20 ⟨some 48, .pick (.tmp 41) (.tmp 47) (.const (.bool false)), 4, oz26, oy38, none⟩ ?_
      refine tk 21 ⟨some 49, .move (.tmp 48), 4, oz26, oy39, none⟩ ?_
      refine tn 22 ⟨some 50, .move (.tmp 11), 97, oz26, oy40, some (21, true)⟩ ?_
      refine tn 23 ⟨some 51, .nilCheck (.tmp 50), 0, oz26, oy41, some (21, true)⟩ ?_
      refine tn 24 ⟨some 52, .fieldAddr 40 (.tmp 51) 1, 0, oz26, oy42, some (21, true)⟩ ?_
      refine tn 25 ⟨some 53, .load 2 (.tmp 52), 2, oz26, oy43, some (21, true)⟩ ?_
      refine tn 26 ⟨some 54, .move (.tmp 2), 2, oz26, oy40, some (21, true)⟩ ?_
      refine tn 27 ⟨some 55, .binOp .lss 2 (.tmp 53) (.tmp 54) 2, 4, oz26, oy44, some (21, true)⟩ ?_
      refine tk 28 ⟨some 56, .pick (.tmp 49) (.tmp 55) (.const (.bool false)), 4, oz26, oy45, none⟩ ?_
      refine tk 29 ⟨some 57, .move (.tmp 56), 4, oz26, oy46, none⟩ ?_
      refine tn 30 ⟨some 58, .move (.tmp 11), 97, oz26, oy47, some (29, true)⟩ ?_
      refine tn 31 ⟨some 59, .nilCheck (.tmp 58), 0, oz26, oy48, some (29, true)⟩ ?_
      refine tn 32 ⟨some 60, .fieldAddr 40 (.tmp 59) 1, 0, oz26, oy49, some (29, true)⟩ ?_
      refine tn 33 ⟨some 61, .load 2 (.tmp 60), 2, oz26, oy50, some (29, true)⟩ ?_
      refine tn 34 ⟨some 62, .fieldAddr 57 (.tmp 9) 1, 0, oz26, oy47, some (29, true)⟩ ?_
      refine tn 35 ⟨some 63, .load 2 (.tmp 62), 2, oz26, oy51, some (29, true)⟩ ?_
      refine tn 36 ⟨some 64, .binOp .gtr 2 (.tmp 61) (.tmp 63) 2, 4, oz26, oy52, some (29, true)⟩ ?_
      refine tk 37 ⟨some 65, .pick (.tmp 57) (.tmp 64) (.const (.bool false)), 4, oz26, oy53, none⟩ ?_
      refine wpAnyH_done (by kernel_rfl) ?_ _
      (try go_wp2)
      exact ⟨⟨i + 1, by omega, by go_num, by show CBx _ _ _; rw [HF.out]; exact HB.out.drew, Below.drew HX.out⟩, by simp [intOf]; omega⟩
    ·have hie : i = ms.length := by omega
     have HFo : Hid (Msg.best (Msg.cms (ms.take i) id view) ((k : Int) + 1) = Msg.best (Msg.cms ms id view) ((k : Int) + 1)) := by show _ = _; rw [hie, List.take_length]
     rw [HFo.out] at HB
     have HOx : Hid (wr.ownsRow (w.heap.size) 57 3 u7 (Msg.ns (Msg.cms ms id view) k).length (cellsCt (Msg.ns (Msg.cms ms id view) k))) := own_below HOa.out HX.out HQ0.out
     have hwx : w.heap.size ≤ wr.heap.size := HEi.out.size
     cases hbs : Msg.best (Msg.cms ms id view) ((k : Int) + 1) with
     | none =>
      have HK2 : Hid (Msg.ns (Msg.cms ms id view) (k + 1) = Msg.ns (Msg.cms ms id view) k) := Msg.ns_no hbs
      rw [hbs] at HB
      have HO9 : Hid (wr.ownsRow (w.heap.size) 57 3 u7 (Msg.ns (Msg.cms ms id view) (k + 1)).length (cellsCt (Msg.ns (Msg.cms ms id view) (k + 1)))) := by show wr.ownsRow _ _ _ _ _ _; rw [HK2.out]; exact HOx.out
      obtain ⟨hbB, ⟨cA, cB, cC⟩, -⟩ := HB.out
      have cB' : wr.cell? ⟨B, 1, none⟩ = some (.int .i64 (-1)) := cB
      clear hbs cA cB cC hie
      go_wp2
      exact ⟨⟨k + 1, by omega, by go_num, HO9, HEi⟩, by simp [intOf]; omega⟩
     | some c =>
      obtain ⟨hcm, hcs⟩ := Msg.best_mem hbs
      have hcv := HCi.out c hcm
      have HK2 : Hid (Msg.ns (Msg.cms ms id view) (k + 1) = Msg.ns (Msg.cms ms id view) k ++ [c]) := Msg.ns_yes hbs
      rw [hbs] at HB
      have HBc : Hid (CBx wr B c) := by
       have h := HB.out
       rw [show (⟨(k : Int) + 1, Msg.vw (some c), Msg.vl (some c)⟩ : Ct) = c from by rw [← hcs]; rfl] at h
       exact h
      obtain ⟨hbB, ⟨cA, cB, cC⟩, -⟩ := HBc.out
      clear hbs hcm hcs hie HB HFo
      go_wp2_with (at_builtin; go_must (refine wpList_append_own _ rfl _ _ 37 rfl (w.heap.size) 57 tc (.agg #[.int .i64 0, .int .i64 0, .int .i64 0]) 3 24 Tryz.underlying37 htc hy0 hy1 hy2 rfl (by decide) _ _ _ rfl (HOx.out.alloc _) ⟨wr.heap.size, 0, none⟩ 1 1 (cellsCt [c]) rfl rfl (cells_ct _ _ _) (cellsCt_one _) (by unfold maxLen; omega) (by omega) (by simp; omega) ?_; intro v6 w6 hown6 hgrow6 hnil6))
      refine ⟨⟨k + 1, by omega, by go_num, ?_, Below.grown (HEi.out.alloc _) hgrow6 (by simp; omega) (fun q hq => (HOx.out.lt q hq).1)⟩, by simp [intOf]; omega⟩
      show w6.ownsRow _ _ _ _ _ _
      rw [HK2.out, cellsCt_app, List.length_append]
      exact hown6
  ·have hke : k = 30 := by omega
   subst hke
   obtain ⟨a8, c8, hrow⟩ := owns_form6 HO.out
   subst hrow
   go_wp2
   go_ret
   first | exact ⟨_, rfl, HO.out, HE.out⟩ | exact ⟨HO.out, HE.out⟩
end Go.Proofs.YtecgjdgfjgcmdaaGreat
namespace Go.Proofs.YtecgjdgfjgcmdaaGreat
open Go.RowKit
theorem Dr.boxg {w w' : World} {R : Nat} {m : Ms} {v u : Value} {k : Option Nat} (h : MBoxAt w R m v u) (hg : w.grownBy w' k) (hne : ∀ q, k = some q → q ≠ R) : MBoxAt w' R m v u := by
 have hb : w'.heap[R]? = w.heap[R]? := hg.block R h.1 (fun e => hne R e.symm rfl)
 obtain ⟨hl, ⟨c0, c1, c2, c3, c4, c5, c6⟩, f0, f1, f2, f3, f4, f5, f6⟩ := h
 have hc := fun o => (Dr.cell_block hb o).1
 have hf := fun o => (Dr.cell_block hb o).2
 exact ⟨Nat.lt_of_lt_of_le hl hg.size, ⟨(hc _).trans c0, (hc _).trans c1, (hc _).trans c2, (hc _).trans c3, (hc _).trans c4, (hc _).trans c5, (hc _).trans c6⟩, (hf _).trans f0, (hf _).trans f1, (hf _).trans f2, (hf _).trans f3, (hf _).trans f4, (hf _).trans f5, (hf _).trans f6⟩
theorem Dr.msg_newS (w : World) (m : Ms) (v u : Value) (t : TypeId) (n : Nat) (hn : n = w.heap.size) : ∀ j x, (Dr.cellsP [(m, v, u)])[j]? = some x → (w.alloc (.cells #[.int .i64 m.kind, .int .i64 m.view, .int .i64 m.from_, .int .i64 m.slot, .int .i64 m.value, v, u] t)).cell? ((⟨n, 0, none⟩ : Addr).add j) = some x := by
 subst hn
 exact Dr.msg_new w m v u t
/-- How a message in a box stands while it is made: its lists are its own. -/
def Dr.Mx (w : World) (b : Nat) (cv : Value) (W : World) (B a : Nat) (m : Ms) (v u : Value) : Prop :=
 MBoxAt W B m v u ∧ w.heap.size ≤ B ∧ W.ownsRow w.heap.size 57 3 v m.certs.length (cellsCt m.certs) ∧ W.ownsRow w.heap.size 2 1 u m.refs.length (m.refs.map (Value.int .i64)) ∧ (∀ q, v.ownBlock = some q → q ≠ B) ∧ (∀ q, u.ownBlock = some q → q ≠ B) ∧ Dr.Tick b a cv w W
theorem Dr.Mx.tick {w : World} {b : Nat} {cv : Value} {W W' : World} {B a a2 : Nat} {m : Ms} {v u : Value} (h : Dr.Mx w b cv W B a m v u) (hb : b < w.heap.size) (ht : Dr.Tick b a2 cv W W') : Dr.Mx w b cv W' B a2 m v u := by
 obtain ⟨h2, h3, h4, h5, h6, h7, h8⟩ := h
 exact ⟨ht.2.2.box h2 (by omega), h3, ht.2.2.own h4 (by omega), ht.2.2.own h5 (by omega), h6, h7, h8.trans ht⟩
theorem Dr.Mx.first {w W : World} {b a : Nat} {cv : Value} {m : Ms} {v u : Value} (ht : Dr.Tick b a cv w W) (h4 : W.ownsRow w.heap.size 57 3 v m.certs.length (cellsCt m.certs)) (h5 : W.ownsRow w.heap.size 2 1 u m.refs.length (m.refs.map (Value.int .i64))) :
  Dr.Mx w b cv (W.alloc (.cells #[.int .i64 m.kind, .int .i64 m.view, .int .i64 m.from_, .int .i64 m.slot, .int .i64 m.value, v, u] 40)) W.heap.size a m v u :=
 ⟨mbox_new W m v u _, ht.2.2.1, h4.alloc _, h5.alloc _, fun q hq => Nat.ne_of_lt (h4.lt q hq).2, fun q hq => Nat.ne_of_lt (h5.lt q hq).2, ht.ext ((Ext.refl _).alloc _)⟩
theorem Dr.Mx.certs {w : World} {b : Nat} {cv : Value} {W W2 : World} {B a : Nat} {m : Ms} {v u v6 : Value} {o : Obj} {z : Ct} (h : Dr.Mx w b cv W B a m v u) (hb : b < w.heap.size) (ho : W2.ownsRow w.heap.size 57 3 v6 (m.certs.length + 1) (cellsCt m.certs ++ cellsCt [z])) (hg : (W.alloc o).grownBy W2 v.ownBlock) (hat : v6.ownBlock = v.ownBlock ∨ v6.ownBlock = some (W.alloc o).heap.size) :
  MBoxAt W2 B m v u ∧ Dr.Mx w b cv (W2.setCell ⟨B, 5, none⟩ v6) B a { m with certs := m.certs ++ [z] } v6 u := by
 obtain ⟨h2, h3, h4, h5, h6, h7, h8⟩ := h
 have hv := h4.lt
 have hB2 := h2.1
 have e2 : MBoxAt W2 B m v u := Dr.boxg (h2.ext ((Ext.refl W).alloc o)) hg h6
 have h6' : ∀ q, v6.ownBlock = some q → q ≠ B := fun q hq => by
  rcases hat with h | h
  ·exact h6 q (h.symm.trans hq)
  ·rw [h] at hq
   cases hq
   simp
   omega
 refine ⟨e2, e2.set5, h3, ?_, ?_, h6', h7, ?_⟩
 ·rw [List.length_append]
  rw [show cellsCt (m.certs ++ [z]) = cellsCt m.certs ++ cellsCt [z] from by simp [cellsCt]]
  exact Dr.own_set ho _ _ _ h6'
 ·exact Dr.own_set (Dr.own_grown (h5.alloc _) hg (Dr.own_ne h4 h5 Dr.ne_types)) _ _ _ h7
 ·exact (Dr.Tick.grown (h8.ext ((Ext.refl _).alloc _)) hb hg (fun q hq => by have := (hv q hq).1; omega)).set hb _ _ (by omega) _
theorem Dr.Mx.refs {w : World} {b : Nat} {cv : Value} {W W2 : World} {B a : Nat} {m : Ms} {v u v6 : Value} {o : Obj} {z : Int} (h : Dr.Mx w b cv W B a m v u) (hb : b < w.heap.size) (ho : W2.ownsRow w.heap.size 2 1 v6 (m.refs.length + 1) (m.refs.map (Value.int .i64) ++ [.int .i64 z])) (hg : (W.alloc o).grownBy W2 u.ownBlock) (hat : v6.ownBlock = u.ownBlock ∨ v6.ownBlock = some (W.alloc o).heap.size) :
  MBoxAt W2 B m v u ∧ Dr.Mx w b cv (W2.setCell ⟨B, 6, none⟩ v6) B a { m with refs := m.refs ++ [z] } v v6 := by
 obtain ⟨h2, h3, h4, h5, h6, h7, h8⟩ := h
 have hv := h5.lt
 have hB2 := h2.1
 have e2 : MBoxAt W2 B m v u := Dr.boxg (h2.ext ((Ext.refl W).alloc o)) hg h7
 have h7' : ∀ q, v6.ownBlock = some q → q ≠ B := fun q hq => by
  rcases hat with h | h
  ·exact h7 q (h.symm.trans hq)
  ·rw [h] at hq
   cases hq
   simp
   omega
 refine ⟨e2, e2.set6, h3, ?_, ?_, h6, h7', ?_⟩
 ·exact Dr.own_set (Dr.own_grown (h4.alloc _) hg (fun q hq e => Dr.own_ne h4 h5 Dr.ne_types q e hq)) _ _ _ h6
 ·rw [List.length_append]
  rw [show (m.refs ++ [z]).map (Value.int .i64) = m.refs.map (Value.int .i64) ++ [Value.int .i64 z] from by simp]
  exact Dr.own_set ho _ _ _ h7'
 ·exact (Dr.Tick.grown (h8.ext ((Ext.refl _).alloc _)) hb hg (fun q hq => by have := (hv q hq).1; omega)).set hb _ _ (by omega) _
set_option maxHeartbeats 16000000 in
set_option maxRecDepth 100000 in
theorem l10World_any (b a : Nat) (cv : Value) (w : World) (h : SrcAt w b a cv) (ha : a ≤ 100) :
  Calls Tryz.prog 161 #[.pointer (some ⟨b, 0, none⟩)] w (Dr.Ledger 60 w b a cv) := by
 have hi9 : (Tryz.prog.info? 40).map (fun i => (i.zero, i.size, i.bytes)) = some (some (.agg #[.int .i64 0, .int .i64 0, .int .i64 0, .int .i64 0, .int .i64 0, .slice none 0 0, .slice none 0 0]), 7, 88) := by kernel_rfl
 obtain ⟨ti, hti, hxx⟩ := Option.map_eq_some_iff.1 hi9
 simp only [Prod.mk.injEq] at hxx
 obtain ⟨hz0, hz1, hz2⟩ := hxx
 clear hi9
 have hi9 : (Tryz.prog.info? 57).map (fun i => (i.zero, i.size, i.bytes)) = some (some (.agg #[.int .i64 0, .int .i64 0, .int .i64 0]), 3, 24) := by kernel_rfl
 obtain ⟨tc, htc, hxx⟩ := Option.map_eq_some_iff.1 hi9
 simp only [Prod.mk.injEq] at hxx
 obtain ⟨hy0, hy1, hy2⟩ := hxx
 clear hi9
 have hi9 : (Tryz.prog.info? 2).map (fun i => (i.zero, i.size, i.bytes)) = some (some (.int .i64 0), 1, 8) := by kernel_rfl
 obtain ⟨tn, htn, hxx⟩ := Option.map_eq_some_iff.1 hi9
 simp only [Prod.mk.injEq] at hxx
 obtain ⟨hn0, hn1, hn2⟩ := hxx
 clear hi9
 have hb := h.lt
 have NX : Hid (∀ (a' : Nat) (k : Int) (wx : World), SrcAt wx b a' cv → 1 ≤ k → k ≤ 200 → a' ≤ 1000 → Calls Tryz.prog 82 #[.pointer (some ⟨b, 0, none⟩), .int .i64 k] wx fun e w' => ∃ r : Int, e = .returned (.int .i64 r) ∧ 0 ≤ r ∧ r < k ∧ Dr.Tick b (a' + 1) cv wx w') := fun a' k wx h1 h2 h3 h4 => Dr.next b a' cv k wx h1 h2 h3 h4
 have CH : Hid (∀ (a' : Nat) (k : Int) (wx : World), SrcAt wx b a' cv → 1 ≤ k → k ≤ 200 → a' ≤ 1000 → Calls Tryz.prog 80 #[.pointer (some ⟨b, 0, none⟩), .int .i64 k] wx fun e w' => ∃ r : Bool, e = .returned (.bool r) ∧ Dr.Tick b (a' + 1) cv wx w') := fun a' k wx h1 h2 h3 h4 => Dr.chance b a' cv k wx h1 h2 h3 h4
 have HCt : Hid (∀ (ov : Value) (ms : List Ms) (id : Int) (wx : World), MSlice wx ov ms → (∀ z ∈ ms, 0 ≤ z.view) → Calls Tryz.prog 58 #[ov, .int .i64 id, .int .i64 1] wx fun e w' => ∃ (vo : Value) (cs : List Ct), e = .returned vo ∧ cs.length ≤ 30 ∧ w'.ownsRow wx.heap.size 57 3 vo cs.length (cellsCt cs) ∧ Ext wx w') := fun ov ms id wx h1 h2 => (l10Certs_row ov ms id 1 wx h1 h2).mono fun e w' ⟨vo, g1, g2, g3⟩ => ⟨vo, _, g1, Msg.ns_len _ _, g2, g3⟩
 have T0 : Hid (Dr.Tick b a cv w (w.alloc (.cells #[] 40))) := (Dr.Tick.start h).ext ((Ext.refl _).alloc _)
 have M0 : Hid (Dr.MRow w.heap.size (w.alloc (.cells #[] 40)) (.slice (some ⟨w.heap.size, 0, none⟩) 0 0) []) := ⟨World.ownsRow_made w #[] 0 (Nat.le_refl _) (by unfold maxLen; omega) rfl, fun p hp => (by cases hp), fun p hp => by cases hp⟩
 have PK0 : Hid (∀ (a' g : Nat) (wx : World), g = wx.heap.size → SrcAt wx b a' cv → a' ≤ 1000 → Calls Tryz.prog 73 #[.pointer (some ⟨b, 0, none⟩), .slice (some ⟨g, 0, none⟩) 4 4] (wx.alloc (.cells #[.int .i64 2, .int .i64 2, .int .i64 2, .int .i64 1] 2)) fun e w' => ∃ x : Int, e = .returned (.int .i64 x) ∧ Dr.Tick b (a' + 1) cv wx w') := fun a' g wx hg h1 h2 => by subst hg; exact Dr.pick b a' cv [2, 2, 2, 1] wx 2 h1 (by decide) (by decide) h2
 have PK1 : Hid (∀ (a' g : Nat) (wx : World), g = wx.heap.size → SrcAt wx b a' cv → a' ≤ 1000 → Calls Tryz.prog 73 #[.pointer (some ⟨b, 0, none⟩), .slice (some ⟨g, 0, none⟩) 3 3] (wx.alloc (.cells #[.int .i64 1, .int .i64 1, .int .i64 0] 2)) fun e w' => ∃ x : Int, e = .returned (.int .i64 x) ∧ Dr.Tick b (a' + 1) cv wx w') := fun a' g wx hg h1 h2 => by subst hg; exact Dr.pick b a' cv [1, 1, 0] wx 2 h1 (by decide) (by decide) h2
 have PK2 : Hid (∀ (a' g : Nat) (wx : World), g = wx.heap.size → SrcAt wx b a' cv → a' ≤ 1000 → Calls Tryz.prog 73 #[.pointer (some ⟨b, 0, none⟩), .slice (some ⟨g, 0, none⟩) 3 3] (wx.alloc (.cells #[.int .i64 2, .int .i64 2, .int .i64 1] 2)) fun e w' => ∃ x : Int, e = .returned (.int .i64 x) ∧ Dr.Tick b (a' + 1) cv wx w') := fun a' g wx hg h1 h2 => by subst hg; exact Dr.pick b a' cv [2, 2, 1] wx 2 h1 (by decide) (by decide) h2
 clear h
 go_enter Tryz.func161, Tryz.ntmps161
 go_wp2
 go_loopw [3, 4] (fun ov i wr => ∃ (s : Nat) (ps : List (Ms × Value × Value)) (a4 : Nat), 1 ≤ s ∧ s ≤ 3 ∧ i = .int .i64 (s : Int) ∧ ps.length + 8 ≤ 8 * s ∧ a4 + 9 ≤ a + 9 * s ∧ Hid (Dr.MRow w.heap.size wr ov ps) ∧ Hid (Dr.Tick b a4 cv w wr) ∧ Hid (∀ p ∈ ps, 0 ≤ p.1.view)) (fun _ i _ => 3 - (intOf i).toNat)
 case atStart => exact ⟨1, [], a, by omega, by omega, rfl, by simp, by omega, M0, T0, fun p hp => by cases hp⟩
 case round =>
  obtain ⟨s, ps, a4, hs1, hs3, rfl, hpl, ha4, HM, HT, HV⟩ := hrel
  obtain ⟨ad, cp, rfl⟩ := Led.owns_form HM.out.1
  by_cases hs : s ≤ 2
  ·have hs2 : (s : Int) ≤ 2 := by omega
   go_wp2_with fail
   refine (NX.out a4 2 _ HT.out.1 (by omega) (by omega) (by omega)).mono ?_
   rintro e w1 ⟨r1, rfl, hr0, hr1, ht⟩
   have HM1 : Hid (Dr.MRow w.heap.size w1 (.slice ad ps.length cp) ps) := HM.out.kp ht.2.2 hb
   have HT1 : Hid (Dr.Tick b (a4 + 1) cv w w1) := HT.out.trans ht
   clear ht HM HT
   have hwr : IntKind.i64.wrap (1 + r1) = 1 + r1 := by rw [IntKind.wrap_i64]; omega
   go_wp2
   go_loopw [3, 6] (fun ov i wy => ∃ (j : Nat) (ps : List (Ms × Value × Value)) (a5 : Nat), 1 ≤ j ∧ j ≤ 5 ∧ i = .int .i64 (j : Int) ∧ ps.length + 10 ≤ 8 * s + 2 * j ∧ a5 + 10 ≤ a + 9 * s + 2 * j ∧ Hid (Dr.MRow w.heap.size wy ov ps) ∧ Hid (Dr.Tick b a5 cv w wy) ∧ Hid (∀ p ∈ ps, 0 ≤ p.1.view)) (fun _ i _ => 5 - (intOf i).toNat)
   case atStart => exact ⟨1, ps, a4 + 1, by omega, by omega, rfl, by omega, by omega, HM1, HT1, HV⟩
   case round =>
    obtain ⟨j, ps, a5, hj1, hj5, rfl, hpl, ha5, HM, HT, HV⟩ := hrel
    obtain ⟨ad, cp, rfl⟩ := Led.owns_form HM.out.1
    by_cases hj : j ≤ 4
    ·have hj4 : (j : Int) ≤ 4 := by omega
     go_wp2_with fail
     refine (CH.out (a5) 8 _ HT.out.1 (by omega) (by omega) (by omega)).mono ?_
     rintro e w3 ⟨ch3, rfl, ht⟩
     have HM3 : Hid (Dr.MRow w.heap.size w3 (.slice ad ps.length cp) ps) := HM.out.kp ht.2.2 hb
     have HT3 : Hid (Dr.Tick b (a5 + 1) cv w w3) := HT.out.trans ht
     have hsz3 : w.heap.size ≤ w3.heap.size := HT3.out.2.2.1
     clear ht HM HT
     cases ch3 with
     | true =>
      go_wp2_with fail
      refine (CH.out (a5 + 1) 2 _ HT3.out.1 (by omega) (by omega) (by omega)).mono ?_
      rintro e w4 ⟨ch4, rfl, ht⟩
      have HM4 : Hid (Dr.MRow w.heap.size w4 (.slice ad ps.length cp) ps) := HM3.out.kp ht.2.2 hb
      have HT4 : Hid (Dr.Tick b (a5 + 1 + 1) cv w w4) := HT3.out.trans ht
      have hsz4 : w.heap.size ≤ w4.heap.size := HT4.out.2.2.1
      clear ht HM3 HT3
      cases ch4 with
      | false =>
       go_wp2
       exact ⟨⟨j + 1, ps, a5 + 1 + 1, by omega, by omega, by go_num, by omega, by omega, HM4, HT4, HV⟩, by simp [intOf]; omega⟩
      | true =>
       have HV6 : Hid (∀ p ∈ ps ++ [((⟨3, 0, (j : Int), (s : Int), 1 + r1, [], []⟩ : Ms), (.slice none 0 0), (.slice none 0 0))], 0 ≤ p.1.view) := fun p hp => by rw [List.mem_append, List.mem_singleton] at hp; rcases hp with hp | rfl; exact HV.out p hp; exact (by decide : (0 : Int) ≤ 0)
       go_wp2_with (at_builtin; go_must (refine wpList_append_own _ rfl _ _ 27 rfl w.heap.size 40 ti (.agg #[.int .i64 0, .int .i64 0, .int .i64 0, .int .i64 0, .int .i64 0, .slice none 0 0, .slice none 0 0]) 7 88 Tryz.underlying27 hti hz0 hz1 hz2 rfl (by decide) _ ps.length _ rfl (HM4.out.1.alloc _) ⟨w4.heap.size, 0, none⟩ 1 1 (Dr.cellsP [((⟨3, 0, (j : Int), (s : Int), 1 + r1, [], []⟩ : Ms), (.slice none 0 0), (.slice none 0 0))]) rfl rfl (Dr.msg_new _ _ _ _ _) (Dr.cellsP_one _ (fun p hp => by rw [List.mem_singleton] at hp; subst hp; exact ⟨rfl, rfl⟩)) (by unfold maxLen; omega) (by omega) (by simp; omega) ?_; intro v6 w6 hown6 hgrow6 hnil6; have HM6 : Hid (Dr.MRow w.heap.size w6 v6 (ps ++ [((⟨3, 0, (j : Int), (s : Int), 1 + r1, [], []⟩ : Ms), (.slice none 0 0), (.slice none 0 0))])) := HM4.out.push (World.ownsRow_nil _ _ _ _) (World.ownsRow_nil _ _ _ _) hown6 hgrow6 ⟨Nat.zero_le _, Nat.zero_le _⟩; have HT6 : Hid (Dr.Tick b (a5 + 1 + 1) cv w w6) := Dr.Tick.grown (HT4.out.ext ((Ext.refl _).alloc _)) hb hgrow6 (fun q hq => (HM4.out.1.lt q hq).1); clear hown6 hgrow6 hnil6))
       exact ⟨⟨j + 1, ps ++ [((⟨3, 0, (j : Int), (s : Int), 1 + r1, [], []⟩ : Ms), (.slice none 0 0), (.slice none 0 0))], a5 + 1 + 1, by omega, by omega, by go_num, by rw [List.length_append]; simp; omega, by omega, HM6, HT6, HV6⟩, by simp [intOf]; omega⟩
     | false =>
      have HV6 : Hid (∀ p ∈ ps ++ [((⟨2, 0, (j : Int), (s : Int), 1 + r1, [], []⟩ : Ms), (.slice none 0 0), (.slice none 0 0))], 0 ≤ p.1.view) := fun p hp => by rw [List.mem_append, List.mem_singleton] at hp; rcases hp with hp | rfl; exact HV.out p hp; exact (by decide : (0 : Int) ≤ 0)
      go_wp2_with (at_builtin; go_must (refine wpList_append_own _ rfl _ _ 27 rfl w.heap.size 40 ti (.agg #[.int .i64 0, .int .i64 0, .int .i64 0, .int .i64 0, .int .i64 0, .slice none 0 0, .slice none 0 0]) 7 88 Tryz.underlying27 hti hz0 hz1 hz2 rfl (by decide) _ ps.length _ rfl (HM3.out.1.alloc _) ⟨w3.heap.size, 0, none⟩ 1 1 (Dr.cellsP [((⟨2, 0, (j : Int), (s : Int), 1 + r1, [], []⟩ : Ms), (.slice none 0 0), (.slice none 0 0))]) rfl rfl (Dr.msg_new _ _ _ _ _) (Dr.cellsP_one _ (fun p hp => by rw [List.mem_singleton] at hp; subst hp; exact ⟨rfl, rfl⟩)) (by unfold maxLen; omega) (by omega) (by simp; omega) ?_; intro v6 w6 hown6 hgrow6 hnil6; have HM6 : Hid (Dr.MRow w.heap.size w6 v6 (ps ++ [((⟨2, 0, (j : Int), (s : Int), 1 + r1, [], []⟩ : Ms), (.slice none 0 0), (.slice none 0 0))])) := HM3.out.push (World.ownsRow_nil _ _ _ _) (World.ownsRow_nil _ _ _ _) hown6 hgrow6 ⟨Nat.zero_le _, Nat.zero_le _⟩; have HT6 : Hid (Dr.Tick b (a5 + 1) cv w w6) := Dr.Tick.grown (HT3.out.ext ((Ext.refl _).alloc _)) hb hgrow6 (fun q hq => (HM3.out.1.lt q hq).1); clear hown6 hgrow6 hnil6))
      obtain ⟨qs, hqs⟩ : ∃ qs, qs = ps ++ [((⟨2, 0, (j : Int), (s : Int), 1 + r1, [], []⟩ : Ms), (.slice none 0 0), (.slice none 0 0))] := ⟨_, rfl⟩
      have hql : Hid (qs.length = ps.length + 1) := by rw [hqs, List.length_append]; rfl
      rw [← hqs] at HM6 HV6
      clear hqs
      obtain ⟨ad7, cp7, rfl⟩ := Led.owns_form HM6.out.1
      refine (CH.out (a5 + 1) 2 _ HT6.out.1 (by omega) (by omega) (by omega)).mono ?_
      rintro e w4 ⟨ch4, rfl, ht⟩
      have HM4 : Hid (Dr.MRow w.heap.size w4 (.slice ad7 qs.length cp7) qs) := HM6.out.kp ht.2.2 hb
      have HT4 : Hid (Dr.Tick b (a5 + 1 + 1) cv w w4) := HT6.out.trans ht
      have hsz4 : w.heap.size ≤ w4.heap.size := HT4.out.2.2.1
      clear ht HM6 HT6 HM3 HT3 HV
      cases ch4 with
      | false =>
       go_wp2
       exact ⟨⟨j + 1, qs, a5 + 1 + 1, by omega, by omega, by go_num, by have := hql.out; omega, by omega, HM4, HT4, HV6⟩, by simp [intOf]; omega⟩
      | true =>
       have HV8 : Hid (∀ p ∈ qs ++ [((⟨3, 0, (j : Int), (s : Int), 1 + r1, [], []⟩ : Ms), (.slice none 0 0), (.slice none 0 0))], 0 ≤ p.1.view) := fun p hp => by rw [List.mem_append, List.mem_singleton] at hp; rcases hp with hp | rfl; exact HV6.out p hp; exact (by decide : (0 : Int) ≤ 0)
       go_wp2_with (at_builtin; go_must (refine wpList_append_own _ rfl _ _ 27 rfl w.heap.size 40 ti (.agg #[.int .i64 0, .int .i64 0, .int .i64 0, .int .i64 0, .int .i64 0, .slice none 0 0, .slice none 0 0]) 7 88 Tryz.underlying27 hti hz0 hz1 hz2 rfl (by decide) _ qs.length _ rfl (HM4.out.1.alloc _) ⟨w4.heap.size, 0, none⟩ 1 1 (Dr.cellsP [((⟨3, 0, (j : Int), (s : Int), 1 + r1, [], []⟩ : Ms), (.slice none 0 0), (.slice none 0 0))]) rfl rfl (Dr.msg_new _ _ _ _ _) (Dr.cellsP_one _ (fun p hp => by rw [List.mem_singleton] at hp; subst hp; exact ⟨rfl, rfl⟩)) (by have := hql.out; unfold maxLen; omega) (by have := hql.out; omega) (by have := hql.out; simp; omega) ?_; intro v8 w8 hown8 hgrow8 hnil8; have HM8 : Hid (Dr.MRow w.heap.size w8 v8 (qs ++ [((⟨3, 0, (j : Int), (s : Int), 1 + r1, [], []⟩ : Ms), (.slice none 0 0), (.slice none 0 0))])) := HM4.out.push (World.ownsRow_nil _ _ _ _) (World.ownsRow_nil _ _ _ _) hown8 hgrow8 ⟨Nat.zero_le _, Nat.zero_le _⟩; have HT8 : Hid (Dr.Tick b (a5 + 1 + 1) cv w w8) := Dr.Tick.grown (HT4.out.ext ((Ext.refl _).alloc _)) hb hgrow8 (fun q hq => (HM4.out.1.lt q hq).1); clear hown8 hgrow8 hnil8))
       exact ⟨⟨j + 1, qs ++ [((⟨3, 0, (j : Int), (s : Int), 1 + r1, [], []⟩ : Ms), (.slice none 0 0), (.slice none 0 0))], a5 + 1 + 1, by omega, by omega, by go_num, by have := hql.out; rw [List.length_append]; simp; omega, by omega, HM8, HT8, HV8⟩, by simp [intOf]; omega⟩
    ·go_wp2
     exact ⟨⟨s + 1, ps, a5, by omega, by omega, by go_num, by omega, by omega, HM, HT, HV⟩, by simp [intOf]; omega⟩
  ·have hs2n : ¬ (s : Int) ≤ 2 := by omega
   have hF16 : ps.length ≤ 16 := by omega
   go_wp2
   go_loopw [3, 8] (fun ov i wr => ∃ (j : Nat) (qs : List (Ms × Value × Value)) (a5 : Nat), 1 ≤ j ∧ j ≤ 5 ∧ i = .int .i64 (j : Int) ∧ qs.length + 1 ≤ 16 + j ∧ ps.length ≤ qs.length ∧ a5 + 2 ≤ a + 18 + 2 * j ∧ Hid (Dr.MRow w.heap.size wr ov qs) ∧ Hid (Dr.Tick b a5 cv w wr) ∧ Hid (∀ p ∈ qs, 0 ≤ p.1.view)) (fun _ i _ => 5 - (intOf i).toNat)
   case atStart => exact ⟨1, ps, a4, by omega, by omega, rfl, by omega, by omega, by omega, HM, HT, HV⟩
   case round =>
    obtain ⟨j, qs, a5, hj1, hj5, rfl, hpl, hpq, ha5, HM, HT, HV⟩ := hrel
    obtain ⟨ad, cp, rfl⟩ := Led.owns_form HM.out.1
    by_cases hj : j ≤ 4
    ·have hj4 : (j : Int) ≤ 4 := by omega
     go_wp2_with fail
     refine (CH.out (a5) 6 _ HT.out.1 (by omega) (by omega) (by omega)).mono ?_
     rintro e w3 ⟨ch3, rfl, ht⟩
     have HM3 : Hid (Dr.MRow w.heap.size w3 (.slice ad qs.length cp) qs) := HM.out.kp ht.2.2 hb
     have HT3 : Hid (Dr.Tick b (a5 + 1) cv w w3) := HT.out.trans ht
     have hsz3 : w.heap.size ≤ w3.heap.size := HT3.out.2.2.1
     clear ht HM HT
     cases ch3 with
     | true =>
      go_wp2
      exact ⟨⟨j + 1, qs, a5 + 1, by omega, by omega, by go_num, by omega, by omega, by omega, HM3, HT3, HV⟩, by simp [intOf]; omega⟩
     | false =>
      have HSl : Hid (MSlice w3 (.slice ad qs.length cp) (qs.map (·.1))) := HM3.out.slice
      have HVs : Hid (∀ z ∈ qs.map (·.1), 0 ≤ z.view) := fun z hz => by obtain ⟨p, hp, rfl⟩ := List.mem_map.1 hz; exact HV.out p hp
      go_wp2_with fail
      refine (HCt.out _ _ _ _ HSl.out HVs.out).mono ?_
      rintro e w4 ⟨vo, cs, rfl, hcl, hrow, hb4⟩
      obtain ⟨avo, cvo, rfl⟩ := Led.owns_form hrow
      obtain ⟨W5, hW5⟩ : ∃ W5, W5 = (w4.alloc (.cells #[.int .i64 4, .int .i64 1, .int .i64 (j : Int), .int .i64 0, .int .i64 0, .slice avo cs.length cvo, .slice none 0 0] 40)) := ⟨_, rfl⟩
      have HX5 : Hid (Dr.Mx w3 b cv W5 w4.heap.size (a5 + 1) ⟨4, 1, (j : Int), 0, 0, cs, []⟩ (.slice avo cs.length cvo) (.slice none 0 0)) := by rw [hW5]; exact Dr.Mx.first (m := ⟨4, 1, (j : Int), 0, 0, cs, []⟩) (v := (.slice avo cs.length cvo)) (u := (.slice none 0 0)) ((Dr.Tick.start HT3.out.1).ext hb4) hrow (World.ownsRow_nil _ _ _ _)
      clear hb4 hrow HSl HVs
      go_wp2_with fail
      rw [← hW5]
      generalize w4.heap.size = Bm at *
      clear hW5
      refine (CH.out (a5 + 1) 8 _ HX5.out.2.2.2.2.2.2.1 (by omega) (by omega) (by omega)).mono ?_
      rintro e w6 ⟨ch6, rfl, ht⟩
      have HX6 : Hid (Dr.Mx w3 b cv w6 Bm (a5 + 1 + 1) ⟨4, 1, (j : Int), 0, 0, cs, []⟩ (.slice avo cs.length cvo) (.slice none 0 0)) := HX5.out.tick (by omega) ht
      clear ht HX5
      cases ch6 with
      | false =>
       have HV8 : Hid (∀ p ∈ qs ++ [((⟨4, 1, (j : Int), 0, 0, cs, []⟩ : Ms), (.slice avo cs.length cvo), (.slice none 0 0))], 0 ≤ p.1.view) := fun p hp => by rw [List.mem_append, List.mem_singleton] at hp; rcases hp with hp | rfl; exact HV.out p hp; exact (by decide : (0 : Int) ≤ 1)
       have HM6 : Hid (Dr.MRow w.heap.size w6 (.slice ad qs.length cp) qs) := HM3.out.kp HX6.out.2.2.2.2.2.2.2.2 hb
       have HT6 : Hid (Dr.Tick b (a5 + 1 + 1) cv w w6) := HT3.out.trans HX6.out.2.2.2.2.2.2
       have hs6 : w.heap.size ≤ w6.heap.size := HT6.out.2.2.1
       obtain ⟨bl9, ⟨q0, q1, q2, q3, q4, q5, q6⟩, f0, f1, f2, f3, f4, f5, f6⟩ := HX6.out.1
       go_wp2_with (at_builtin; go_must (refine wpList_append_own _ rfl _ _ 27 rfl w.heap.size 40 ti (.agg #[.int .i64 0, .int .i64 0, .int .i64 0, .int .i64 0, .int .i64 0, .slice none 0 0, .slice none 0 0]) 7 88 Tryz.underlying27 hti hz0 hz1 hz2 rfl (by decide) _ qs.length _ rfl (HM6.out.1.alloc _) ⟨w6.heap.size, 0, none⟩ 1 1 (Dr.cellsP [((⟨4, 1, (j : Int), 0, 0, cs, []⟩ : Ms), (.slice avo cs.length cvo), (.slice none 0 0))]) rfl rfl (Dr.msg_new _ _ _ _ _) (Dr.cellsP_one _ (fun p hp => by rw [List.mem_singleton] at hp; subst hp; exact ⟨rfl, rfl⟩)) (by unfold maxLen; omega) (by omega) (by simp; omega) ?_; intro v8 w8 hown8 hgrow8 hnil8; have HM8 : Hid (Dr.MRow w.heap.size w8 v8 (qs ++ [((⟨4, 1, (j : Int), 0, 0, cs, []⟩ : Ms), (.slice avo cs.length cvo), (.slice none 0 0))])) := HM6.out.push (Dr.own_base HX6.out.2.2.1 (by omega)) (World.ownsRow_nil _ _ _ _) hown8 hgrow8 ⟨by show cs.length ≤ _; omega, Nat.zero_le _⟩; have HT8 : Hid (Dr.Tick b (a5 + 1 + 1) cv w w8) := Dr.Tick.grown (HT6.out.ext ((Ext.refl _).alloc _)) hb hgrow8 (fun q hq => (HM6.out.1.lt q hq).1); clear hown8 hgrow8 hnil8))
       exact ⟨⟨j + 1, qs ++ [((⟨4, 1, (j : Int), 0, 0, cs, []⟩ : Ms), (.slice avo cs.length cvo), (.slice none 0 0))], a5 + 1 + 1, by omega, by omega, by go_num, by rw [List.length_append]; simp; omega, by rw [List.length_append]; omega, by omega, HM8, HT8, HV8⟩, by simp [intOf]; omega⟩
      | true =>
       have HO6 : Hid (w6.ownsRow w3.heap.size 57 3 (.slice avo cs.length cvo) cs.length (cellsCt cs)) := HX6.out.2.2.1
       have hs36 : w3.heap.size ≤ w6.heap.size := HX6.out.2.2.2.2.2.2.2.2.1
       obtain ⟨bl9, ⟨q0, q1, q2, q3, q4, q5, q6⟩, f0, f1, f2, f3, f4, f5, f6⟩ := HX6.out.1
       go_wp2_with (first | (have h99 := HM9; clear h99; (at_builtin; go_must (refine wpList_append_own _ rfl _ _ 27 rfl w.heap.size 40 ti (.agg #[.int .i64 0, .int .i64 0, .int .i64 0, .int .i64 0, .int .i64 0, .slice none 0 0, .slice none 0 0]) 7 88 Tryz.underlying27 hti hz0 hz1 hz2 rfl (by decide) _ qs.length _ rfl (HM9.out.1.alloc _) ⟨w7.heap.size, 0, none⟩ 1 1 (Dr.cellsP [((⟨4, 1, (j : Int), 0, 0, (cs ++ [⟨9, 0, 1⟩]), []⟩ : Ms), (.slice a7 (cs.length + 1) c7), (.slice none 0 0))]) rfl rfl (Dr.msg_newS _ _ _ _ _ w7.heap.size (by simp)) (Dr.cellsP_one _ (fun p hp => by rw [List.mem_singleton] at hp; subst hp; exact ⟨rfl, rfl⟩)) (by unfold maxLen; omega) (by omega) (by simp; omega) ?_; intro v8 w8 hown8 hgrow8 hnil8; have HM8 : Hid (Dr.MRow w.heap.size w8 v8 (qs ++ [((⟨4, 1, (j : Int), 0, 0, (cs ++ [⟨9, 0, 1⟩]), []⟩ : Ms), (.slice a7 (cs.length + 1) c7), (.slice none 0 0))])) := HM9.out.push (Dr.own_base HX7.out.2.2.1 (by omega)) (World.ownsRow_nil _ _ _ _) hown8 hgrow8 ⟨by show (cs ++ [_]).length ≤ _; rw [List.length_append]; simp; omega, Nat.zero_le _⟩; have HT8 : Hid (Dr.Tick b (a5 + 1 + 1) cv w w8) := Dr.Tick.grown (HT9.out.ext ((Ext.refl _).alloc _)) hb hgrow8 (fun q hq => (HM9.out.1.lt q hq).1); clear hown8 hgrow8 hnil8))) | (at_builtin; (refine wpList_append_own_at _ rfl _ _ 37 rfl w3.heap.size 57 tc (.agg #[.int .i64 0, .int .i64 0, .int .i64 0]) 3 24 Tryz.underlying37 htc hy0 hy1 hy2 rfl (by decide) _ cs.length _ rfl (HO6.out.alloc _) ⟨w6.heap.size, 0, none⟩ 1 1 (cellsCt [⟨9, 0, 1⟩]) rfl rfl (ct_new _ _ _) (cellsCt_one _) (by unfold maxLen; omega) (by omega) (by simp; omega) ?_; intro v7 w7 hown7 hgrow7 hnil7 hat7; have TF : Hid (MBoxAt w7 Bm ⟨4, 1, (j : Int), 0, 0, cs, []⟩ (.slice avo cs.length cvo) (.slice none 0 0) ∧ Dr.Mx w3 b cv (w7.setCell ⟨Bm, 5, none⟩ v7) Bm (a5 + 1 + 1) ⟨4, 1, (j : Int), 0, 0, (cs ++ [⟨9, 0, 1⟩]), []⟩ v7 (.slice none 0 0)) := HX6.out.certs (by omega) hown7 hgrow7 hat7; obtain ⟨a7, c7, rfl⟩ := Led.owns_form hown7; have HX7 : Hid (Dr.Mx w3 b cv (w7.setCell ⟨Bm, 5, none⟩ (.slice a7 (cs.length + 1) c7)) Bm (a5 + 1 + 1) ⟨4, 1, (j : Int), 0, 0, (cs ++ [⟨9, 0, 1⟩]), []⟩ (.slice a7 (cs.length + 1) c7) (.slice none 0 0)) := TF.out.2; clear q0 q1 q2 q3 q4 q5 q6 f0 f1 f2 f3 f4 f5 f6 bl9 hown7 hgrow7 hnil7 hat7; obtain ⟨bl9, ⟨q0, q1, q2, q3, q4, q5, q6⟩, f0, f1, f2, f3, f4, f5, f6⟩ := TF.out.1; clear TF; have HM9 : Hid (Dr.MRow w.heap.size (w7.setCell ⟨Bm, 5, none⟩ (.slice a7 (cs.length + 1) c7)) (.slice ad qs.length cp) qs) := HM3.out.kp HX7.out.2.2.2.2.2.2.2.2 hb; have HT9 : Hid (Dr.Tick b (a5 + 1 + 1) cv w (w7.setCell ⟨Bm, 5, none⟩ (.slice a7 (cs.length + 1) c7))) := HT3.out.trans HX7.out.2.2.2.2.2.2; have hs9 : w.heap.size ≤ (w7.setCell ⟨Bm, 5, none⟩ (.slice a7 (cs.length + 1) c7)).heap.size := HT9.out.2.2.1; have hs97 : w.heap.size ≤ w7.heap.size := (by simpa using hs9); clear hs9)))
       have HV8 : Hid (∀ p ∈ qs ++ [((⟨4, 1, (j : Int), 0, 0, (cs ++ [⟨9, 0, 1⟩]), []⟩ : Ms), (.slice a7 (cs.length + 1) c7), (.slice none 0 0))], 0 ≤ p.1.view) := fun p hp => by rw [List.mem_append, List.mem_singleton] at hp; rcases hp with hp | rfl; exact HV.out p hp; exact (by decide : (0 : Int) ≤ 1)
       exact ⟨⟨j + 1, qs ++ [((⟨4, 1, (j : Int), 0, 0, (cs ++ [⟨9, 0, 1⟩]), []⟩ : Ms), (.slice a7 (cs.length + 1) c7), (.slice none 0 0))], a5 + 1 + 1, by omega, by omega, by go_num, by rw [List.length_append]; simp; omega, by rw [List.length_append]; omega, by omega, HM8, HT8, HV8⟩, by simp [intOf]; omega⟩
    ·have hj4 : ¬ (j : Int) ≤ 4 := by omega
     have hq20 : qs.length ≤ 20 := by omega
     clear hj1 hpl
     obtain ⟨wq, hwq⟩ : ∃ wq, wq = wr := ⟨_, rfl⟩
     subst hwq
     have hbr : Hid (b < wq.heap.size) := HT.out.1.lt
     have ha5' : a5 ≤ a + 26 := by omega
     clear ha5
     go_wp2_with fail
     refine (PK0.out a5 _ _ rfl HT.out.1 (by omega)).mono ?_
     rintro e w5 ⟨x, rfl, ht⟩
     obtain ⟨W6, hW6⟩ : ∃ W6, W6 = (w5.alloc (.cells #[.int .i64 5, .int .i64 1, .int .i64 x, .int .i64 0, .int .i64 0, .slice none 0 0, .slice none 0 0] 40)) := ⟨_, rfl⟩
     have HX : Hid (Dr.Mx wq b cv W6 w5.heap.size (a5 + 1) ⟨5, 1, x, 0, 0, [], []⟩ (.slice none 0 0) (.slice none 0 0)) := by rw [hW6]; exact Dr.Mx.first (m := ⟨5, 1, x, 0, 0, [], []⟩) (v := (.slice none 0 0)) (u := (.slice none 0 0)) ht (World.ownsRow_nil _ _ _ _) (World.ownsRow_nil _ _ _ _)
     clear ht
     go_wp2
     rw [← hW6]
     generalize w5.heap.size = Bn at *
     clear hW6
     go_loopw [11] (fun i wy => ∃ (k : Nat) (rs : List Int) (ur : Value), ps.length ≤ k ∧ k ≤ qs.length ∧ i = .int .i64 (k : Int) ∧ rs.length + ps.length = k ∧ Hid (Dr.Mx wq b cv wy Bn (a5 + 1) ⟨5, 1, x, 0, 0, [], rs⟩ (.slice none 0 0) ur)) (fun i _ => qs.length - (intOf i).toNat)
     case atStart => exact ⟨ps.length, [], _, Nat.le_refl _, hpq, rfl, Nat.zero_add _, HX⟩
     case round =>
      obtain ⟨k, rs, ur, hk1, hk2, rfl, hrl, HY⟩ := hrel
      obtain ⟨au, cu, rfl⟩ := Led.owns_form HY.out.2.2.2.1
      have HRL : Hid (rs.length + ps.length = k) := hrl
      have hr20 : rs.length ≤ 20 := by omega
      clear hrl
      have hsy : wq.heap.size ≤ wr.heap.size := HY.out.2.2.2.2.2.2.2.2.1
      have hswr : w.heap.size ≤ wq.heap.size := HT.out.2.2.1
      by_cases hk : k < qs.length
      ·have hkI : (k : Int) < (qs.length : Int) := by omega
       have HOk : Hid (wr.ownsRow wq.heap.size 2 1 (.slice au rs.length cu) rs.length (rs.map (Value.int .i64))) := HY.out.2.2.2.1
       obtain ⟨bl9, ⟨q0, q1, q2, q3, q4, q5, q6⟩, f0, f1, f2, f3, f4, f5, f6⟩ := HY.out.1
       go_wp2_with (at_builtin; go_must (refine wpList_append_own_at _ rfl _ _ 38 rfl wq.heap.size 2 tn (.int .i64 0) 1 8 Tryz.underlying38 htn hn0 hn1 hn2 rfl (by decide) _ rs.length _ rfl (HOk.out.alloc _) ⟨wr.heap.size, 0, none⟩ 1 1 [.int .i64 (k : Int)] rfl rfl (cell_one_new _ _ _) (by intro u hu; rw [List.mem_singleton] at hu; subst hu; rfl) (by unfold maxLen; omega) (by omega) (by simp; omega) ?_; intro v7 w7 hown7 hgrow7 hnil7 hat7; have TF : Hid (MBoxAt w7 Bn ⟨5, 1, x, 0, 0, [], rs⟩ (.slice none 0 0) (.slice au rs.length cu) ∧ Dr.Mx wq b cv (w7.setCell ⟨Bn, 6, none⟩ v7) Bn (a5 + 1) ⟨5, 1, x, 0, 0, [], (rs ++ [(k : Int)])⟩ (.slice none 0 0) v7) := HY.out.refs hbr.out hown7 hgrow7 hat7; obtain ⟨a7, c7, rfl⟩ := Led.owns_form hown7; have HX7 : Hid (Dr.Mx wq b cv (w7.setCell ⟨Bn, 6, none⟩ (.slice a7 (rs.length + 1) c7)) Bn (a5 + 1) ⟨5, 1, x, 0, 0, [], (rs ++ [(k : Int)])⟩ (.slice none 0 0) (.slice a7 (rs.length + 1) c7)) := TF.out.2; clear q0 q1 q2 q3 q4 q5 q6 f0 f1 f2 f3 f4 f5 f6 bl9 hown7 hgrow7 hnil7 hat7; obtain ⟨bl9, ⟨q0, q1, q2, q3, q4, q5, q6⟩, f0, f1, f2, f3, f4, f5, f6⟩ := TF.out.1; clear TF))
       exact ⟨⟨k + 1, rs ++ [(k : Int)], _, by omega, by omega, by go_num, by have := HRL.out; rw [List.length_append]; simp; omega, HX7⟩, by simp [intOf]; omega⟩
      ·have hkI : ¬ (k : Int) < (qs.length : Int) := by omega
       have HMy : Hid (Dr.MRow w.heap.size wr (.slice ad qs.length cp) qs) := HM.out.kp HY.out.2.2.2.2.2.2.2.2 hb
       have HTy : Hid (Dr.Tick b (a5 + 1) cv w wr) := HT.out.trans HY.out.2.2.2.2.2.2
       obtain ⟨bl9, ⟨q0, q1, q2, q3, q4, q5, q6⟩, f0, f1, f2, f3, f4, f5, f6⟩ := HY.out.1
       go_wp2_with (at_builtin; go_must (refine wpList_append_own _ rfl _ _ 27 rfl w.heap.size 40 ti (.agg #[.int .i64 0, .int .i64 0, .int .i64 0, .int .i64 0, .int .i64 0, .slice none 0 0, .slice none 0 0]) 7 88 Tryz.underlying27 hti hz0 hz1 hz2 rfl (by decide) _ qs.length _ rfl (HMy.out.1.alloc _) ⟨wr.heap.size, 0, none⟩ 1 1 (Dr.cellsP [((⟨5, 1, x, 0, 0, [], rs⟩ : Ms), (.slice none 0 0), (.slice au rs.length cu))]) rfl rfl (Dr.msg_new _ _ _ _ _) (Dr.cellsP_one _ (fun p hp => by rw [List.mem_singleton] at hp; subst hp; exact ⟨rfl, rfl⟩)) (by unfold maxLen; omega) (by omega) (by simp; omega) ?_; intro v8 w8 hown8 hgrow8 hnil8; have HM8 : Hid (Dr.MRow w.heap.size w8 v8 (qs ++ [((⟨5, 1, x, 0, 0, [], rs⟩ : Ms), (.slice none 0 0), (.slice au rs.length cu))])) := HMy.out.push (World.ownsRow_nil _ _ _ _) (Dr.own_base HY.out.2.2.2.1 (by omega)) hown8 hgrow8 ⟨Nat.zero_le _, by show rs.length ≤ _; omega⟩; have HT8 : Hid (Dr.Tick b (a5 + 1) cv w w8) := Dr.Tick.grown (HTy.out.ext ((Ext.refl _).alloc _)) hb hgrow8 (fun q hq => (HMy.out.1.lt q hq).1); clear hown8 hgrow8 hnil8))
       clear q0 q1 q2 q3 q4 q5 q6 f0 f1 f2 f3 f4 f5 f6 bl9
       go_loopw [3, 12] (fun ov i wz => ∃ (j : Nat) (ts : List (Ms × Value × Value)) (a6 : Nat), 1 ≤ j ∧ j ≤ 4 ∧ i = .int .i64 (j : Int) ∧ ts.length ≤ 20 + j ∧ a6 + 3 ≤ a + 27 + 3 * j ∧ Hid (Dr.MRow w.heap.size wz ov ts) ∧ Hid (Dr.Tick b a6 cv w wz)) (fun _ i _ => 4 - (intOf i).toNat)
       case atStart => exact ⟨1, qs ++ [((⟨5, 1, x, 0, 0, [], rs⟩ : Ms), (.slice none 0 0), (.slice au rs.length cu))], a5 + 1, by omega, by omega, rfl, by rw [List.length_append]; simp; omega, by omega, HM8, HT8⟩
       case round =>
        clear HM HT HY HMy HTy HM8 HT8 hk hkI hr20 hk1 hk2
        obtain ⟨j, ts, a6, hj1, hj4, rfl, htl, ha6, HM, HT⟩ := hrel
        obtain ⟨ad, cp, rfl⟩ := Led.owns_form HM.out.1
        by_cases hj : j ≤ 3
        ·have hj3 : (j : Int) ≤ 3 := by omega
         go_wp2_with fail
         refine (PK1.out a6 _ _ rfl HT.out.1 (by omega)).mono ?_
         rintro e w3 ⟨x1, rfl, ht⟩
         have HM3 : Hid (Dr.MRow w.heap.size w3 (.slice ad ts.length cp) ts) := HM.out.kp ht.2.2 hb
         have HT3 : Hid (Dr.Tick b (a6 + 1) cv w w3) := HT.out.trans ht
         have hsz3 : w.heap.size ≤ w3.heap.size := HT3.out.2.2.1
         clear ht HM HT
         go_wp2_with fail
         refine (PK2.out (a6 + 1) _ _ rfl HT3.out.1 (by omega)).mono ?_
         rintro e w4 ⟨x2, rfl, ht⟩
         have HM4 : Hid (Dr.MRow w.heap.size w4 (.slice ad ts.length cp) ts) := HM3.out.kp ht.2.2 hb
         have HT4 : Hid (Dr.Tick b (a6 + 1 + 1) cv w w4) := HT3.out.trans ht
         have hsz4 : w.heap.size ≤ w4.heap.size := HT4.out.2.2.1
         clear ht HM3 HT3
         go_wp2_with fail
         refine (NX.out (a6 + 1 + 1) 3 _ HT4.out.1 (by omega) (by omega) (by omega)).mono ?_
         rintro e w6 ⟨r6, rfl, -, -, ht⟩
         have HM6 : Hid (Dr.MRow w.heap.size w6 (.slice ad ts.length cp) ts) := HM4.out.kp ht.2.2 hb
         have HT6 : Hid (Dr.Tick b (a6 + 1 + 1 + 1) cv w w6) := HT4.out.trans ht
         have hsz6 : w.heap.size ≤ w6.heap.size := HT6.out.2.2.1
         clear ht HM4 HT4
         go_wp2_with (at_builtin; go_must (refine wpList_append_own _ rfl _ _ 27 rfl w.heap.size 40 ti (.agg #[.int .i64 0, .int .i64 0, .int .i64 0, .int .i64 0, .int .i64 0, .slice none 0 0, .slice none 0 0]) 7 88 Tryz.underlying27 hti hz0 hz1 hz2 rfl (by decide) _ ts.length _ rfl (HM6.out.1.alloc _) ⟨w6.heap.size, 0, none⟩ 1 1 (Dr.cellsP [((⟨1, x1, x2, (j : Int), r6, [], []⟩ : Ms), (.slice none 0 0), (.slice none 0 0))]) rfl rfl (Dr.msg_new _ _ _ _ _) (Dr.cellsP_one _ (fun p hp => by rw [List.mem_singleton] at hp; subst hp; exact ⟨rfl, rfl⟩)) (by unfold maxLen; omega) (by omega) (by simp; omega) ?_; intro v8 w8 hown8 hgrow8 hnil8; have HM8 : Hid (Dr.MRow w.heap.size w8 v8 (ts ++ [((⟨1, x1, x2, (j : Int), r6, [], []⟩ : Ms), (.slice none 0 0), (.slice none 0 0))])) := HM6.out.push (World.ownsRow_nil _ _ _ _) (World.ownsRow_nil _ _ _ _) hown8 hgrow8 ⟨Nat.zero_le _, Nat.zero_le _⟩; have HT8 : Hid (Dr.Tick b (a6 + 1 + 1 + 1) cv w w8) := Dr.Tick.grown (HT6.out.ext ((Ext.refl _).alloc _)) hb hgrow8 (fun q hq => (HM6.out.1.lt q hq).1); clear hown8 hgrow8 hnil8))
         exact ⟨⟨j + 1, ts ++ [((⟨1, x1, x2, (j : Int), r6, [], []⟩ : Ms), (.slice none 0 0), (.slice none 0 0))], a6 + 1 + 1 + 1, by omega, by omega, by go_num, by rw [List.length_append]; simp; omega, by omega, HM8, HT8⟩, by simp [intOf]; omega⟩
        ·have hj3 : ¬ (j : Int) ≤ 3 := by omega
         go_wp2
         go_ret
         exact Dr.Ledger.of HM.out (by omega) (by omega) HT.out
end Go.Proofs.YtecgjdgfjgcmdaaGreat
namespace Go.Proofs.YtecgjdgfjgcmdaaGreat
open Go.RowKit
set_option maxHeartbeats 2000000 in
set_option maxRecDepth 100000 in
theorem nextB_empty (b a : Nat) (ad : Option Addr) (cap : Nat) (n : Int) (w : World) (h1 : 1 ≤ n) (h2 : n ≤ 300) (ha : a ≤ 1000)
  (h0 : w.cell? ⟨b, 0, none⟩ = some (.slice ad 0 cap)) (hA : w.cell? ⟨b, 1, none⟩ = some (.int .i64 a)) (hF : w.frozen? ⟨b, 1, none⟩ = false) :
  Calls Tryz.prog 82 #[.pointer (some ⟨b, 0, none⟩), .int .i64 n] w fun e w' => ∃ (r : Int) (q : Nat), e = .returned (.int .i64 r) ∧ 0 ≤ r ∧ r < n ∧ w' = (w.setCell ⟨b, 1, none⟩ (.int .i64 (a + 1 : Nat))).drewN q := by
 go_enter Tryz.func82, Tryz.ntmps82
 go_wp2
 go_ret
 exact ⟨_, 0, rfl, Int.emod_nonneg _ (by omega), Int.emod_lt_of_pos _ (by omega), rfl⟩
set_option maxHeartbeats 4000000 in
set_option maxRecDepth 100000 in
theorem nextB_some (b a cb co len cap : Nat) (x y : Int) (n : Int) (w : World) (h1 : 200 < n) (h2 : n ≤ 300) (ha : a ≤ 1000) (hl : 0 < len) (hl2 : len ≤ 1048576) (hx0 : 0 ≤ x) (hx1 : x ≤ 255) (hy0 : 0 ≤ y) (hy1 : y ≤ 255) (hcb : cb ≠ b)
  (h0 : w.cell? ⟨b, 0, none⟩ = some (.slice (some ⟨cb, co, none⟩) len cap)) (hA : w.cell? ⟨b, 1, none⟩ = some (.int .i64 a)) (hF : w.frozen? ⟨b, 1, none⟩ = false)
  (hx : w.cell? ⟨cb, co + a % len, none⟩ = some (.int .u8 x)) (hy : w.cell? ⟨cb, co + (a + 1) % len, none⟩ = some (.int .u8 y)) :
  Calls Tryz.prog 82 #[.pointer (some ⟨b, 0, none⟩), .int .i64 n] w fun e w' => ∃ (r : Int) (q : Nat), e = .returned (.int .i64 r) ∧ 0 ≤ r ∧ r < n ∧ w' = (w.setCell ⟨b, 1, none⟩ (.int .i64 (a + 1 : Nat))).drewN q := by
 have e0 : ((len : Int) == 0) = false := by simp; omega
 go_enter Tryz.func82, Tryz.ntmps82
 have hm : ((a : Int) % (len : Int)).toNat = a % len := by omega
 have hml : (a : Int) % (len : Int) < (len : Int) := Int.emod_lt_of_pos _ (by omega)
 have hm0 : 0 ≤ (a : Int) % (len : Int) := Int.emod_nonneg _ (by omega)
 have hne : (((a + 1) % len : Nat) : Int) = ((a : Int) + 1) % (len : Int) := by rw [Int.natCast_emod, Int.natCast_add]; rfl
 have hn : (((a : Int) + 1) % (len : Int)).toNat = (a + 1) % len := by rw [← hne]; rfl
 clear hne
 have hnl : ((a : Int) + 1) % (len : Int) < (len : Int) := Int.emod_lt_of_pos _ (by omega)
 have hn0 : 0 ≤ ((a : Int) + 1) % (len : Int) := Int.emod_nonneg _ (by omega)
 have hq0 : 0 ≤ (a : Int) / (len : Int) := Int.ediv_nonneg (by omega) (by omega)
 have hq1 : (a : Int) / (len : Int) ≤ 1000 := by have := Int.ediv_le_self (len : Int) (show (0 : Int) ≤ (a : Int) by omega); omega
 go_wp2
 go_quiet (fail)
 go_wp2
 go_quiet (fail)
 go_wp2
 go_ret
 exact ⟨_, _, rfl, Int.emod_nonneg _ (by omega), Int.emod_lt_of_pos _ (by omega), rfl⟩
theorem Dr.nextB (b a : Nat) (cv : Value) (n : Int) (w : World) (h : SrcAt w b a cv) (h1 : 1 ≤ n) (h2 : n ≤ 300) (ha : a ≤ 1000) :
  Calls Tryz.prog 82 #[.pointer (some ⟨b, 0, none⟩), .int .i64 n] w fun e w' => ∃ r : Int, e = .returned (.int .i64 r) ∧ 0 ≤ r ∧ r < n ∧ Dr.Tick b (a + 1) cv w w' := by
 by_cases hn : n ≤ 200
 ·exact Dr.next b a cv n w h h1 hn ha
 ·have hs := h
  obtain ⟨c0, c1, c2, c3, ad, len, cap, rfl, hl, hc⟩ := h
  rcases Nat.eq_zero_or_pos len with h0 | h0
  ·subst h0
   exact (nextB_empty b a ad cap n w h1 h2 ha c0 c1 c2).mono fun _ _ ⟨r, _, h1, h2, h3, h4⟩ => ⟨r, h1, h2, h3, Dr.tick_of hs h4⟩
  ·obtain ⟨cb, co, rfl, hcb, hx⟩ := hc h0
   obtain ⟨x, x0, x1, hcell⟩ := hx (a % len) (Nat.mod_lt _ h0)
   obtain ⟨y, y0, y1, hcell2⟩ := hx ((a + 1) % len) (Nat.mod_lt _ h0)
   exact (nextB_some b a cb co len cap x y n w (by omega) h2 ha h0 hl x0 x1 y0 y1 (Nat.ne_of_lt hcb) c0 c1 c2 hcell hcell2).mono fun _ _ ⟨r, _, h1, h2, h3, h4⟩ => ⟨r, h1, h2, h3, Dr.tick_of hs h4⟩
end Go.Proofs.YtecgjdgfjgcmdaaGreat
namespace Go.Proofs.YtecgjdgfjgcmdaaGreat
open Go.RowKit Go.Maps
set_option maxHeartbeats 8000000 in
set_option maxRecDepth 100000 in
theorem l10Changes_any (f : Int) (v : Value) (ms : List Ms) (view : Int) (w : World) (hS : MSlice w v ms) (hf0 : 1 ≤ f) (hf1 : f ≤ 2) (hml : ms.length ≤ 240) :
  Calls Tryz.prog 66 #[.int .i64 f, v, .int .i64 view] w fun e w' => ∃ vo g, e = .returned vo ∧ w.heap.size ≤ g ∧ Led.IOwn w' vo g ((Msg.among f ms view (Nst.upto 0 ms.length) ms.length).take (2 * f + 1).toNat) ∧ Ext w w' := by
 have hi9 : (Tryz.prog.info? 2).map (fun i => (i.zero, i.size, i.bytes)) = some (some (.int .i64 0), 1, 8) := by kernel_rfl
 obtain ⟨ti, hti, hxx⟩ := Option.map_eq_some_iff.1 hi9
 simp only [Prod.mk.injEq] at hxx
 obtain ⟨hz0, hz1, hz2⟩ := hxx
 clear hi9
 have HC : Hid (∀ (p : Int) (wx : World), Ext w wx → Calls Tryz.prog 120 #[.int .i64 f, v, .int .i64 p] wx fun e w' => e = .returned (.bool (Msg.changeAt f ms p)) ∧ Ext wx w') := fun p wx he => l10Change_any f v ms p wx (hS.ext he) hf0 hf1
 have HFm : Hid (∀ (u : Value) (l : List Int) (x : Int) (wx : World), Ext w wx → ISlice wx u l → (∀ p ∈ l, 0 ≤ p ∧ p < (ms.length : Int)) → Calls Tryz.prog 121 #[v, u, .int .i64 x] wx fun e w' => e = .returned (.bool (Msg.fromIn ms l x)) ∧ w' = wx) := fun u l x wx he hi hin => l10From_any v ms u l x wx (hS.ext he) hi hin
 have HQ : Hid (∀ wx, Calls Tryz.prog 67 #[.int .i64 f] wx fun e w' => e = .returned (.int .i64 (2 * f + 1)) ∧ w' = wx) := fun wx => l9Need_any f wx hf0 hf1
 have HS : Hid (MSlice w v ms) := hS
 obtain ⟨a, cap, rfl, -, -, -⟩ := hS
 go_enter Tryz.func66, Tryz.ntmps66
 go_wp2
 go_loopw [7, 8] (fun ov i wr => ∃ (k : Nat), k ≤ ms.length ∧ i = .int .i64 k ∧ ((Msg.among f ms view (Nst.upto 0 ms.length) k).length : Int) ≤ 2 * f + 1 ∧ Hid (wr.ownsRow w.heap.size 2 1 ov (Msg.among f ms view (Nst.upto 0 ms.length) k).length ((Msg.among f ms view (Nst.upto 0 ms.length) k).map (Value.int .i64))) ∧ Hid (Ext w wr)) (fun _ i _ => ms.length - (intOf i).toNat)
 case atStart => exact ⟨0, Nat.zero_le _, rfl, by simp [Msg.among]; omega, World.ownsRow_made w #[] 0 (Nat.le_refl _) (by unfold maxLen; omega) rfl, (Ext.refl _).alloc _⟩
 case round =>
  obtain ⟨k, hk, rfl, hl7, HO, HE⟩ := hrel
  obtain ⟨ar, cr, hrow⟩ := Led.owns_form HO.out
  subst hrow
  by_cases hlt : k < ms.length
  ·by_cases hq : ((Msg.among f ms view (Nst.upto 0 ms.length) k).length : Int) < 2 * f + 1
   ·obtain ⟨z, h2⟩ : ∃ z, ms[k]? = some z := ⟨_, List.getElem?_eq_getElem hlt⟩
    have HNt : Hid (Msg.nth ms (k : Int) = some z) := (Msg.nth_nat k).trans h2
    have HZ : Hid ((Nst.upto 0 ms.length)[k]? = some (k : Int)) := Msg.upto_at hlt
    obtain ⟨b1, off1, cap1, e1, hlt1, hlm1, hcm1, hb1, hm⟩ := (HS.out.ext HE.out).at2 h2
    injection e1 with e1 e4 e5
    subst e1 e5
    have HMz : Hid (MAt wr b1 (off1 + k * 7) z) := hm
    obtain ⟨vz, uz, ⟨c0, c1, c2, -, -, -, -⟩, -⟩ := hm
    have hws : w.heap.size ≤ wr.heap.size := HE.out.size
    clear h2 e4 c0
    go_wp2_with fail
    refine (HQ.out _).mono ?_
    rintro e w9 ⟨rfl, hw⟩
    rw [hw]
    clear hw w9
    by_cases hv : z.view = view
    ·have g1 : (z.view == view) = true := by simpa using hv
     go_wp2_with fail
     refine (HC.out _ _ HE.out).mono ?_
     rintro e w3 ⟨rfl, hb3⟩
     rw [Msg.changeAt_some HNt.out]
     have HE3 : Hid (Ext w w3) := HE.out.trans hb3
     have HO3 : Hid (w3.ownsRow w.heap.size 2 1 (.slice ar (Msg.among f ms view (Nst.upto 0 ms.length) k).length cr) (Msg.among f ms view (Nst.upto 0 ms.length) k).length ((Msg.among f ms view (Nst.upto 0 ms.length) k).map (Value.int .i64))) := Led.own_ext HO.out hb3
     obtain ⟨vz4, uz4, ⟨-, -, d2, -, -, -, -⟩, -⟩ := HMz.out.ext hb1 hb3
     clear hb3 c1 c2 HO HE HMz
     cases hc : Msg.changeB f ms z with
     | false =>
      have HK2 : Hid (Msg.among f ms view (Nst.upto 0 ms.length) (k + 1) = Msg.among f ms view (Nst.upto 0 ms.length) k) := Msg.among_no HZ.out (by unfold Msg.okP; rw [Msg.changeAt_some HNt.out, hc]; simp)
      clear hc
      have HO9 : Hid (w3.ownsRow w.heap.size 2 1 (.slice ar (Msg.among f ms view (Nst.upto 0 ms.length) k).length cr) (Msg.among f ms view (Nst.upto 0 ms.length) (k + 1)).length ((Msg.among f ms view (Nst.upto 0 ms.length) (k + 1)).map (Value.int .i64))) := by show w3.ownsRow _ _ _ _ _ _; rw [HK2.out]; exact HO3.out
      have hl9 : (Msg.among f ms view (Nst.upto 0 ms.length) (k + 1)).length ≤ 7 := by rw [HK2.out]; omega
      have hl8 : ((Msg.among f ms view (Nst.upto 0 ms.length) (k + 1)).length : Int) ≤ 2 * f + 1 := by rw [HK2.out]; omega
      go_wp2
      exact ⟨⟨k + 1, by omega, by go_num, hl8, HO9, HE3⟩, by simp [intOf]; omega⟩
     | true =>
      have HI3 : Hid (ISlice w3 (.slice ar (Msg.among f ms view (Nst.upto 0 ms.length) k).length cr) (Msg.among f ms view (Nst.upto 0 ms.length) k)) := by
       obtain ⟨g, -, -, hT⟩ := Led.iown_of_owns HO3.out
       exact hT.slice
      go_wp2_with fail
      refine (HFm.out _ _ _ _ HE3.out HI3.out (fun p hp => by have := Nst.mem_upto.1 (Msg.among_mem k hp); omega)).mono ?_
      rintro e w9 ⟨rfl, hw⟩
      rw [hw]
      clear hw w9
      cases hfr : Msg.fromIn ms (Msg.among f ms view (Nst.upto 0 ms.length) k) z.from_ with
      | true =>
       have HK2 : Hid (Msg.among f ms view (Nst.upto 0 ms.length) (k + 1) = Msg.among f ms view (Nst.upto 0 ms.length) k) := Msg.among_no HZ.out (by unfold Msg.okP; rw [Msg.fromAt_some HNt.out, hfr]; simp)
       clear hc hfr
       have HO9 : Hid (w3.ownsRow w.heap.size 2 1 (.slice ar (Msg.among f ms view (Nst.upto 0 ms.length) k).length cr) (Msg.among f ms view (Nst.upto 0 ms.length) (k + 1)).length ((Msg.among f ms view (Nst.upto 0 ms.length) (k + 1)).map (Value.int .i64))) := by show w3.ownsRow _ _ _ _ _ _; rw [HK2.out]; exact HO3.out
       have hl9 : (Msg.among f ms view (Nst.upto 0 ms.length) (k + 1)).length ≤ 7 := by rw [HK2.out]; omega
       have hl8 : ((Msg.among f ms view (Nst.upto 0 ms.length) (k + 1)).length : Int) ≤ 2 * f + 1 := by rw [HK2.out]; omega
       go_wp2
       exact ⟨⟨k + 1, by omega, by go_num, hl8, HO9, HE3⟩, by simp [intOf]; omega⟩
      | false =>
       have HK2 : Hid (Msg.among f ms view (Nst.upto 0 ms.length) (k + 1) = Msg.among f ms view (Nst.upto 0 ms.length) k ++ [(k : Int)]) := Msg.among_yes HZ.out (by unfold Msg.okP; rw [Msg.changeAt_some HNt.out, hc, Msg.fromAt_some HNt.out, hfr, Msg.viewAt_some HNt.out, hv]; simp)
       have hl8 : ((Msg.among f ms view (Nst.upto 0 ms.length) (k + 1)).length : Int) ≤ 2 * f + 1 := by rw [HK2.out, List.length_append]; simp; omega
       have hws3 : w.heap.size ≤ w3.heap.size := HE3.out.size
       clear hc hfr HI3 d2
       go_wp2_with (at_builtin; go_must (refine wpList_append_own _ rfl _ _ 38 rfl (w.heap.size) 2 ti (.int .i64 0) 1 8 Tryz.underlying38 hti hz0 hz1 hz2 rfl (by decide) _ _ _ rfl (HO3.out.alloc _) ⟨w3.heap.size, 0, none⟩ 1 1 [.int .i64 (k : Int)] rfl rfl (cellM_one _ _ _ _ rfl) (ints_oneCell .i64 [(k : Int)]) (by unfold maxLen; omega) (by omega) (by simp; omega) ?_; intro v6 w6 hown6 hgrow6 hnil6))
       refine ⟨⟨k + 1, by omega, by go_num, hl8, ?_, Below.grown (HE3.out.alloc _) hgrow6 (by simp; omega) (fun q hq => (HO3.out.lt q hq).1)⟩, by simp [intOf]; omega⟩
       show w6.ownsRow _ _ _ _ _ _
       rw [HK2.out, List.map_append, List.length_append]
       exact hown6
    ·have g1 : (z.view == view) = false := by simpa using hv
     have HK2 : Hid (Msg.among f ms view (Nst.upto 0 ms.length) (k + 1) = Msg.among f ms view (Nst.upto 0 ms.length) k) := Msg.among_no HZ.out (by unfold Msg.okP; rw [Msg.viewAt_some HNt.out, decide_eq_false hv]; rfl)
     clear hv
     have HO9 : Hid (wr.ownsRow w.heap.size 2 1 (.slice ar (Msg.among f ms view (Nst.upto 0 ms.length) k).length cr) (Msg.among f ms view (Nst.upto 0 ms.length) (k + 1)).length ((Msg.among f ms view (Nst.upto 0 ms.length) (k + 1)).map (Value.int .i64))) := by show wr.ownsRow _ _ _ _ _ _; rw [HK2.out]; exact HO.out
     have hl9 : (Msg.among f ms view (Nst.upto 0 ms.length) (k + 1)).length ≤ 7 := by rw [HK2.out]; omega
     have hl8 : ((Msg.among f ms view (Nst.upto 0 ms.length) (k + 1)).length : Int) ≤ 2 * f + 1 := by rw [HK2.out]; omega
     go_wp2
     exact ⟨⟨k + 1, by omega, by go_num, hl8, HO9, HE⟩, by simp [intOf]; omega⟩
   ·have hFin : Hid ((Msg.among f ms view (Nst.upto 0 ms.length) ms.length).take (2 * f + 1).toNat = Msg.among f ms view (Nst.upto 0 ms.length) k) := Msg.among_take hk (by omega)
    obtain ⟨g, hg1, hg2, hT⟩ := Led.iown_of_owns HO.out
    have HT : Hid (w.heap.size ≤ g ∧ Led.IOwn wr (.slice ar (Msg.among f ms view (Nst.upto 0 ms.length) k).length cr) g (Msg.among f ms view (Nst.upto 0 ms.length) k)) := ⟨by omega, hT⟩
    clear hT hg1 hg2
    go_wp2_with fail
    refine (HQ.out _).mono ?_
    rintro e w9 ⟨rfl, hw⟩
    rw [hw]
    clear hw w9
    go_wp2
    go_ret
    exact ⟨_, g, rfl, HT.out.1, by rw [hFin.out]; exact HT.out.2, HE.out⟩
  ·have hke : k = ms.length := by omega
   subst hke
   have hFin : Hid ((Msg.among f ms view (Nst.upto 0 ms.length) ms.length).take (2 * f + 1).toNat = Msg.among f ms view (Nst.upto 0 ms.length) ms.length) := List.take_of_length_le (by omega)
   obtain ⟨g, hg1, hg2, hT⟩ := Led.iown_of_owns HO.out
   have HT : Hid (w.heap.size ≤ g ∧ Led.IOwn wr (.slice ar (Msg.among f ms view (Nst.upto 0 ms.length) ms.length).length cr) g (Msg.among f ms view (Nst.upto 0 ms.length) ms.length)) := ⟨by omega, hT⟩
   clear hT hg1 hg2
   go_wp2
   go_ret
   exact ⟨_, g, rfl, HT.out.1, by rw [hFin.out]; exact HT.out.2, HE.out⟩

end Go.Proofs.YtecgjdgfjgcmdaaGreat
namespace Go.Proofs.YtecgjdgfjgcmdaaGreat
open Go.RowKit Go.Maps
theorem Dr.Ledger.later {k k' : Nat} {w w1 : World} {b a a1 : Nat} {cv : Value} {e : Ending} {w' : World} (ht : Dr.Tick b a1 cv w w1) (ha : a1 + k ≤ a + k') (h : Dr.Ledger k w1 b a1 cv e w') : Dr.Ledger k' w b a cv e w' := by
 obtain ⟨ov, ms, a', h1, h2, h3, h4, h5⟩ := h
 exact ⟨ov, ms, a', h1, fun W' hk => h2 W' (hk.mono ht.2.2.1), h3, by omega, ht.trans h5⟩
set_option maxHeartbeats 4000000 in
set_option maxRecDepth 100000 in
theorem l10Wrong_any (b a : Nat) (cv : Value) (w : World) (h : SrcAt w b a cv) (ha : a ≤ 90) :
  Calls Tryz.prog 125 #[.pointer (some ⟨b, 0, none⟩)] w (Dr.Ledger 451 w b a cv) := by
 have CH : Hid (∀ (a' : Nat) (k : Int) (wx : World), SrcAt wx b a' cv → 1 ≤ k → k ≤ 200 → a' ≤ 1000 → Calls Tryz.prog 80 #[.pointer (some ⟨b, 0, none⟩), .int .i64 k] wx fun e w' => ∃ r : Bool, e = .returned (.bool r) ∧ Dr.Tick b (a' + 1) cv wx w') := fun a' k wx h1 h2 h3 h4 => Dr.chance b a' cv k wx h1 h2 h3 h4
 have WR : Hid (∀ (wx : World), SrcAt wx b (a + 1) cv → Calls Tryz.prog 160 #[.pointer (some ⟨b, 0, none⟩)] wx (Dr.Ledger 450 wx b (a + 1) cv)) := fun wx h1 => l8Wrong_any b (a + 1) cv wx h1 (by omega)
 have WO : Hid (∀ (wx : World), SrcAt wx b (a + 1) cv → Calls Tryz.prog 161 #[.pointer (some ⟨b, 0, none⟩)] wx (Dr.Ledger 60 wx b (a + 1) cv)) := fun wx h1 => l10World_any b (a + 1) cv wx h1 (by omega)
 have HS : Hid (SrcAt w b a cv) := h
 clear h
 go_enter Tryz.func125, Tryz.ntmps125
 go_wp2_with fail
 refine (CH.out a 10 _ HS.out (by omega) (by omega) (by omega)).mono ?_
 rintro e w1 ⟨ch, rfl, ht⟩
 have HT : Hid (Dr.Tick b (a + 1) cv w w1) := ht
 clear ht
 cases ch with
 | true =>
  go_wp2_with fail
  refine (WR.out _ HT.out.1).mono ?_
  intro e w2 hL
  obtain ⟨ov, ms, a2, rfl, hL2⟩ := id hL
  obtain ⟨ad9, cp9, rfl, -⟩ := hL2.1 _ (Dr.Kb.refl _ _)
  have HL : Hid (Dr.Ledger 450 w1 b (a + 1) cv (.returned (.slice ad9 ms.length cp9)) w2) := hL
  clear hL hL2
  go_wp2
  go_ret
  exact Dr.Ledger.later HT.out (by omega) HL.out
 | false =>
  go_wp2_with fail
  refine (WO.out _ HT.out.1).mono ?_
  intro e w2 hL
  obtain ⟨ov, ms, a2, rfl, hL2⟩ := id hL
  obtain ⟨ad9, cp9, rfl, -⟩ := hL2.1 _ (Dr.Kb.refl _ _)
  have HL : Hid (Dr.Ledger 60 w1 b (a + 1) cv (.returned (.slice ad9 ms.length cp9)) w2) := hL
  clear hL hL2
  go_wp2
  go_ret
  exact Dr.Ledger.later HT.out (by omega) HL.out
/-- What a draw of a number leaves. -/
def Dr.One (w : World) (b a : Nat) (cv : Value) (e : Ending) (w' : World) : Prop := ∃ (x : Int) (a' : Nat), e = .returned (.int .i64 x) ∧ a' ≤ a + 2 ∧ Dr.Tick b a' cv w w'
set_option maxHeartbeats 4000000 in
set_option maxRecDepth 100000 in
theorem l10Place_any (b a : Nat) (cv : Value) (v : Value) (ms : List Ms) (kind : Int) (w : World) (h : SrcAt w b a cv) (hS : MSlice w v ms) (hml : ms.length ≤ 241) (ha : a ≤ 990) :
  Calls Tryz.prog 72 #[.pointer (some ⟨b, 0, none⟩), v, .int .i64 kind] w (Dr.One w b a cv) := by
 have hi9 : (Tryz.prog.info? 2).map (fun i => (i.zero, i.size, i.bytes)) = some (some (.int .i64 0), 1, 8) := by kernel_rfl
 obtain ⟨ti, hti, hxx⟩ := Option.map_eq_some_iff.1 hi9
 simp only [Prod.mk.injEq] at hxx
 obtain ⟨hz0, hz1, hz2⟩ := hxx
 clear hi9
 have CH : Hid (∀ (a' : Nat) (k : Int) (wx : World), SrcAt wx b a' cv → 1 ≤ k → k ≤ 200 → a' ≤ 1000 → Calls Tryz.prog 80 #[.pointer (some ⟨b, 0, none⟩), .int .i64 k] wx fun e w' => ∃ r : Bool, e = .returned (.bool r) ∧ Dr.Tick b (a' + 1) cv wx w') := fun a' k wx h1 h2 h3 h4 => Dr.chance b a' cv k wx h1 h2 h3 h4
 have NX : Hid (∀ (a' : Nat) (k : Int) (wx : World), SrcAt wx b a' cv → 1 ≤ k → k ≤ 300 → a' ≤ 1000 → Calls Tryz.prog 82 #[.pointer (some ⟨b, 0, none⟩), .int .i64 k] wx fun e w' => ∃ r : Int, e = .returned (.int .i64 r) ∧ 0 ≤ r ∧ r < k ∧ Dr.Tick b (a' + 1) cv wx w') := fun a' k wx h1 h2 h3 h4 => Dr.nextB b a' cv k wx h1 h2 h3 h4
 have hb := h.lt
 have T0 : Hid (Dr.Tick b a cv w w) := Dr.Tick.start h
 have HS : Hid (MSlice w v ms) := hS
 obtain ⟨ad, cap, rfl, -, -, -⟩ := hS
 clear h
 go_enter Tryz.func72, Tryz.ntmps72
 go_wp2
 go_loopw [7, 8] (fun ov i wr => ∃ (k : Nat) (l : List Int), k ≤ ms.length ∧ i = .int .i64 k ∧ l.length ≤ k ∧ Hid (wr.ownsRow w.heap.size 2 1 ov l.length (l.map (Value.int .i64))) ∧ Hid (Ext w wr)) (fun _ i _ => ms.length - (intOf i).toNat)
 case atStart => exact ⟨0, [], Nat.zero_le _, rfl, Nat.le_refl _, World.ownsRow_made w #[] 0 (Nat.le_refl _) (by unfold maxLen; omega) rfl, (Ext.refl _).alloc _⟩
 case round =>
  obtain ⟨k, l, hk, rfl, hlk, HO, HE⟩ := hrel
  obtain ⟨ar, cr, rfl⟩ := Led.owns_form HO.out
  have hws : w.heap.size ≤ wr.heap.size := HE.out.size
  by_cases hlt : k < ms.length
  ·obtain ⟨z, h2⟩ : ∃ z, ms[k]? = some z := ⟨_, List.getElem?_eq_getElem hlt⟩
   obtain ⟨b1, off1, cap1, e1, hlt1, hlm1, hcm1, hb1, hm⟩ := (HS.out.ext HE.out).at2 h2
   injection e1 with e1 e4 e5
   subst e1 e5
   obtain ⟨vz, uz, ⟨c0, -, -, -, -, -, -⟩, -⟩ := hm
   clear h2 e4
   by_cases hv : z.kind = kind
   ·have g1 : (z.kind == kind) = true := by simpa using hv
    go_wp2_with (at_builtin; go_must (refine wpList_append_own _ rfl _ _ 38 rfl (w.heap.size) 2 ti (.int .i64 0) 1 8 Tryz.underlying38 hti hz0 hz1 hz2 rfl (by decide) _ _ _ rfl (HO.out.alloc _) ⟨wr.heap.size, 0, none⟩ 1 1 [.int .i64 (k : Int)] rfl rfl (cellM_one _ _ _ _ rfl) (ints_oneCell .i64 [(k : Int)]) (by unfold maxLen; omega) (by omega) (by simp; omega) ?_; intro v6 w6 hown6 hgrow6 hnil6))
    refine ⟨⟨k + 1, l ++ [(k : Int)], by omega, by go_num, by rw [List.length_append]; simp; omega, ?_, Below.grown (HE.out.alloc _) hgrow6 (by simp; omega) (fun q hq => (HO.out.lt q hq).1)⟩, by simp [intOf]; omega⟩
    show w6.ownsRow _ _ _ _ _ _
    rw [List.map_append, List.length_append]
    exact hown6
   ·have g1 : (z.kind == kind) = false := by simpa using hv
    go_wp2
    exact ⟨⟨k + 1, l, by omega, by go_num, by omega, HO, HE⟩, by simp [intOf]; omega⟩
  ·have hltI : ¬ (k : Int) < (ms.length : Int) := by omega
   have HT : Hid (Dr.Tick b a cv w wr) := T0.out.ext HE.out
   by_cases hl0 : l.length = 0
   ·have g0 : ((l.length : Int) == 0) = true := by simp [hl0]
    obtain rfl : l = [] := List.length_eq_zero_iff.1 hl0
    clear hl0
    go_wp2_with fail
    refine (NX.out a 30 _ HT.out.1 (by omega) (by omega) (by omega)).mono ?_
    rintro e w2 ⟨r, rfl, hr0, hr1, ht⟩
    have HT2 : Hid (Dr.Tick b (a + 1) cv w w2) := HT.out.trans ht
    clear ht
    go_wp2
    go_ret
    exact ⟨_, a + 1, rfl, by omega, HT2.out⟩
   ·have g0 : ((l.length : Int) == 0) = false := by simp; exact fun e => hl0 (by simp [e])
    have hl1 : 1 ≤ l.length := by omega
    clear hl0
    go_wp2_with fail
    refine (CH.out a 8 _ HT.out.1 (by omega) (by omega) (by omega)).mono ?_
    rintro e w1 ⟨ch, rfl, ht⟩
    have HT1 : Hid (Dr.Tick b (a + 1) cv w w1) := HT.out.trans ht
    have HO1 : Hid (w1.ownsRow w.heap.size 2 1 (.slice ar l.length cr) l.length (l.map (Value.int .i64))) := ht.2.2.own HO.out hb
    clear ht
    cases ch with
    | true =>
     go_wp2_with fail
     refine (NX.out (a + 1) 30 _ HT1.out.1 (by omega) (by omega) (by omega)).mono ?_
     rintro e w2 ⟨r, rfl, hr0, hr1, ht⟩
     have HT2 : Hid (Dr.Tick b (a + 1 + 1) cv w w2) := HT1.out.trans ht
     clear ht
     go_wp2
     go_ret
     exact ⟨_, a + 1 + 1, rfl, by omega, HT2.out⟩
    | false =>
     go_wp2_with fail
     refine (NX.out (a + 1) (l.length : Int) _ HT1.out.1 (by omega) (by omega) (by omega)).mono ?_
     rintro e w2 ⟨r, rfl, hr0, hr1, ht⟩
     have HT2 : Hid (Dr.Tick b (a + 1 + 1) cv w w2) := HT1.out.trans ht
     have HO2 : Hid (w2.ownsRow w.heap.size 2 1 (.slice ar l.length cr) l.length (l.map (Value.int .i64))) := ht.2.2.own HO1.out hb
     clear ht
     obtain ⟨n, rfl⟩ : ∃ n : Nat, r = n := ⟨r.toNat, by omega⟩
     have hn : n < l.length := by omega
     obtain ⟨x, hx⟩ : ∃ x, l[n]? = some x := ⟨_, List.getElem?_eq_getElem hn⟩
     obtain ⟨g, -, -, hT⟩ := Led.iown_of_owns HO2.out
     obtain ⟨a8, c8, e8, h81, h82, h83⟩ := hT.slice
     injection e8 with e8 e9 e10
     obtain ⟨b8, o8, e11, hb8, hN⟩ := h83 (by omega)
     subst e8 e10 e11
     clear e9
     have c8 := hN n x hx
     clear hN hx
     go_wp2
     go_ret
     exact ⟨_, a + 1 + 1, rfl, by omega, HT2.out⟩
/-- What a draw of (f, ledger, place) leaves. -/
def Dr.Placed (w : World) (e : Ending) (w' : World) : Prop := ∃ (f : Int) (ov : Value) (ms : List Ms) (x : Int), e = .returned (.tuple #[.int .i64 f, ov, .int .i64 x]) ∧ MSlice w' ov ms ∧ ms.length ≤ 241 ∧ (∀ m ∈ ms, SmallM m) ∧ Ext w w'
end Go.Proofs.YtecgjdgfjgcmdaaGreat
