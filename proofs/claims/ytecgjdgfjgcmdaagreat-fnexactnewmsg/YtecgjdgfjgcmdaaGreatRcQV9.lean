/- what one has committed: CertsOf of the program. -/
import Derived.Test.YtecgjdgfjgcmdaaGreatRcQV7a
import Derived.Test.YtecgjdgfjgcmdaaGreatRcQV5
import Derived.Deep.RegionHeld3
import Derived.Test.YtecgjdgfjgcmdaaGreatRcTk
namespace Go.Proofs.YtecgjdgfjgcmdaaGreat
open Go.RowKit
theorem Msg.step_append {P : Program} (w : World) {ops : Array Oper} {o : Oper} {a : Act} {K : Act → World → Prop} {Q : Exit → Act → World → Prop} {E : Prop} (hgd : o.guard = none) (s x : Operand) (t : TypeId)
    (ho : o.op = .call { callee := .builtin .append, args := #[s, x], argTypes := #[t, t] })
    (base : Nat) (e : TypeId) (i : TypeInfo) (z : Value) (size bytes : Nat) (ht : P.underlying t = some (.slice e)) (hi : P.info? e = some i) (hz : i.zero = some z)
    (hsize : i.size = size) (hby : i.bytes = bytes) (hzs : z.cells.size = size) (hsz : 0 < size)
    (v : Value) (n : Nat) (xs : List Value) (hs : a.eval s = v) (hown : w.ownsRow base e size v n xs)
    (ad : Addr) (m c : Nat) (news : List Value) (hx : a.eval x = .slice (some ad) m c) (hl : news.length = m * size) (hnews : ∀ j u, news[j]? = some u → w.cell? (ad.add j) = some u) (h1 : ∀ u ∈ news, u.oneCell' = true)
    (h63 : n + m ≤ maxLen) (hbytes : (n + m) * bytes ≤ 140737488355328) (hbase : base ≤ w.heap.size)
    (h : ∀ v' w', w'.ownsRow base e size v' (n + m) (xs ++ news) → w.grownBy w' v.ownBlock → (v' = .slice none 0 0 ↔ v = .slice none 0 0 ∧ m = 0) → K (a.put o.dst v') w') :
    if Region.wanted o (yielded ops a.tmps) = true then Oper.wp P o a w K Q else E := by
  have hw : Region.wanted o (yielded ops a.tmps) = true := by simp [Region.wanted, hgd]
  rw [if_pos hw]
  exact wp_append_own w s x t ho base e i z size bytes ht hi hz hsize hby hzs hsz v n xs hs hown ad m c news hx hl hnews h1 h63 hbytes hbase h
set_option linter.unusedSimpArgs false in
set_option maxHeartbeats 8000000 in
set_option maxRecDepth 100000 in
theorem commitsOf_any (v : Value) (ms : List Ms) (id view : Int) (w : World) (hS : MSlice w v ms) (hml : ms.length ≤ 240) :
    Calls Tryz.prog 86 #[v, .int .i64 id, .int .i64 view] w fun e w' => ∃ vo g, e = .returned vo ∧ w.heap.size ≤ g ∧ CtOwn w' vo g (Msg.cms ms id view) ∧ Ext w w' := by
  have hi9 : (Tryz.prog.info? 57).map (fun i => (i.zero, i.size, i.bytes)) = some (some (.agg #[.int .i64 0, .int .i64 0, .int .i64 0]), 3, 24) := by kernel_rfl
  obtain ⟨tc, htc, hxx⟩ := Option.map_eq_some_iff.1 hi9
  simp only [Prod.mk.injEq] at hxx
  obtain ⟨hy0, hy1, hy2⟩ := hxx
  clear hi9
  have HSl : Hid (MSlice w v ms) := hS
  obtain ⟨a, cap, rfl, -, -, -⟩ := hS
  go_enter Tryz.func86, Tryz.ntmps86
  go_wp2
  go_loopw [7, 12] (fun ov i wr => ∃ (k : Nat), k ≤ ms.length ∧ i = .int .i64 k ∧ Hid (wr.ownsRow (w.heap.size) 57 3 ov (Msg.cms (ms.take k) id view).length (cellsCt (Msg.cms (ms.take k) id view))) ∧ Hid (Ext w wr)) (fun _ i _ => ms.length - (intOf i).toNat)
  case atStart => exact ⟨0, Nat.zero_le _, rfl, World.ownsRow_nil _ _ _ _, Ext.refl _⟩
  case round =>
    obtain ⟨k, hk, rfl, HO, HE⟩ := hrel
    by_cases hlt : k < ms.length
    · obtain ⟨z, h2⟩ : ∃ z, ms[k]? = some z := ⟨_, List.getElem?_eq_getElem hlt⟩
      obtain ⟨b1, off1, cap1, e1, hlt1, hlm1, hcm1, hb1, hm⟩ := HSl.out.at2 h2
      injection e1 with e1 e4 e5
      subst e1 e5
      have HZ : Hid (ms[k]? = some z) := h2
      have hws : w.heap.size ≤ wr.heap.size := HE.out.size
      have hcl : (Msg.cms (ms.take k) id view).length ≤ 240 := by have := Msg.cms_len (ms.take k) id view; rw [List.length_take] at this; omega
      obtain ⟨vz, uz, ⟨d0, d1, d2, d3, d4, -, -⟩, -⟩ := hm
      have HS7 : Hid (∀ W', Ext w W' → W'.cell? ⟨b1, off1 + k * 7 + 3, none⟩ = some (.int .i64 z.slot) ∧ W'.cell? ⟨b1, off1 + k * 7 + 1, none⟩ = some (.int .i64 z.view) ∧ W'.cell? ⟨b1, off1 + k * 7 + 4, none⟩ = some (.int .i64 z.value)) := fun W' he => ⟨((Ext.cell he).1 _ _ hb1).trans d3, ((Ext.cell he).1 _ _ hb1).trans d1, ((Ext.cell he).1 _ _ hb1).trans d4⟩
      have c0 := ((Ext.cell HE.out).1 _ _ hb1).trans d0
      have c1 := ((Ext.cell HE.out).1 _ _ hb1).trans d1
      have c2 := ((Ext.cell HE.out).1 _ _ hb1).trans d2
      clear h2 e4 d0 d1 d2 d3 d4
      by_cases h3 : z.kind = 3
      · have g3 : (z.kind == 3) = true := by simpa using h3
        by_cases h4 : z.from_ = id
        · have g4 : (z.from_ == id) = true := by simpa using h4
          by_cases h5 : z.view < view
          · have HK2 : Hid (Msg.cms (ms.take (k + 1)) id view = Msg.cms (ms.take k) id view ++ [⟨z.slot, z.view, z.value⟩]) := Msg.cms_yes HZ.out ⟨h3, h4, h5⟩
            clear h3 h4
            go_wp2
            clear c0 c1 c2
            refine wp_region_held_drew (S := (fun W' : World => W'.cell? ⟨b1, off1 + k * 7 + 3, none⟩ = some (.int .i64 z.slot) ∧ W'.cell? ⟨b1, off1 + k * 7 + 1, none⟩ = some (.int .i64 z.view) ∧ W'.cell? ⟨b1, off1 + k * 7 + 4, none⟩ = some (.int .i64 z.value))) (by kernel_rfl) (HS7.out _ HE.out.drew) (fun hHeld => ?_)
            refine tk 0 { dst := some 39, op := Op.move (.tmp 7), type := 37, pos := "l10_view.go:210", after := #[], guard := none } ?_
            refine tk 1 { dst := some 40, op := Op.move (.tmp 9), type := 97, pos := "l10_view.go:210", after := #[], guard := none } ?_
            refine tk 2 { dst := some 41, op := Op.nilCheck (.tmp 40), type := 0, pos := "l10_view.go:210", after := #[⟨1, .data⟩], guard := none } ?_
            refine tk 3 { dst := some 42, op := Op.fieldAddr 40 (.tmp 41) 3, type := 0, pos := "l10_view.go:210", after := #[⟨2, .data⟩], guard := none } ?_
            refine tk 4 { dst := some 43, op := Op.load 2 (.tmp 42), type := 2, pos := "l10_view.go:210", after := #[⟨3, .data⟩], guard := none } ?_
            refine tk 5 { dst := some 44, op := Op.move (.tmp 9), type := 97, pos := "l10_view.go:210", after := #[], guard := none } ?_
            refine tk 6 { dst := some 45, op := Op.nilCheck (.tmp 44), type := 0, pos := "l10_view.go:210", after := #[⟨5, .data⟩], guard := none } ?_
            refine tk 7 { dst := some 46, op := Op.fieldAddr 40 (.tmp 45) 1, type := 0, pos := "l10_view.go:210", after := #[⟨6, .data⟩], guard := none } ?_
            refine tk 8 { dst := some 47, op := Op.load 2 (.tmp 46), type := 2, pos := "l10_view.go:210", after := #[⟨7, .data⟩], guard := none } ?_
            refine tk 9 { dst := some 48, op := Op.move (.tmp 9), type := 97, pos := "l10_view.go:210", after := #[], guard := none } ?_
            refine tk 10 { dst := some 49, op := Op.nilCheck (.tmp 48), type := 0, pos := "l10_view.go:210", after := #[⟨9, .data⟩], guard := none } ?_
            refine tk 11 { dst := some 50, op := Op.fieldAddr 40 (.tmp 49) 4, type := 0, pos := "l10_view.go:210", after := #[⟨10, .data⟩], guard := none } ?_
            refine tk 12 { dst := some 51, op := Op.load 2 (.tmp 50), type := 2, pos := "l10_view.go:210", after := #[⟨11, .data⟩], guard := none } ?_
            refine tk 13 { dst := some 52, op := Op.build 57 #[(0, .tmp 43), (1, .tmp 47), (2, .tmp 51)], type := 57, pos := "l10_view.go:210", after := #[⟨4, .data⟩, ⟨8, .data⟩, ⟨12, .data⟩], guard := none } ?_
            refine wpAnyH_ready (rs := [14]) (by kernel_rfl) (by simp) (AllReadyH.cons rfl (fun K hK => ?_) AllReadyH.nil)
            go_simp
            refine hK.out _ _ (by exact HS7.out _ (HE.out.drew.alloc _)) (fun hHeld1 => ?_)
            clear hK K
            refine wpAnyH_ready (rs := [15]) (by kernel_rfl) (by simp) (AllReadyH.cons rfl (fun K hK => ?_) AllReadyH.nil)
            refine Msg.step_append _ rfl (.tmp 39) (.tmp 53) 37 rfl w.heap.size 57 tc (.agg #[.int .i64 0, .int .i64 0, .int .i64 0]) 3 24 Tryz.underlying37 htc hy0 hy1 hy2 rfl (by decide) _ _ _ rfl (World.ownsRow.alloc (w := wr.drew) HO.out _) ⟨wr.heap.size, 0, none⟩ 1 1 (cellsCt [⟨z.slot, z.view, z.value⟩]) rfl rfl (cells_ct wr.drew ⟨z.slot, z.view, z.value⟩ _) (cellsCt_one _) (by unfold maxLen; omega) (by omega) (by simp; omega) ?_
            intro v6 w6 hown6 hgrow6 hnil6
            have HE6 : Hid (Ext w w6) := Below.grown (HE.out.drew.alloc _) hgrow6 (by simp; omega) (fun q hq => (HO.out.lt q hq).1)
            have HO6 : Hid (w6.ownsRow (w.heap.size) 57 3 v6 (Msg.cms (ms.take (k + 1)) id view).length (cellsCt (Msg.cms (ms.take (k + 1)) id view))) := by show w6.ownsRow _ _ _ _ _ _; rw [HK2.out, cellsCt_app, List.length_append]; exact hown6
            clear hown6 hgrow6 hnil6
            refine hK.out _ _ (by exact HS7.out _ HE6.out) (fun hHeld2 => ?_)
            clear hK K
            refine tk 16 { dst := some 7, op := Op.assign (.tmp 54), type := 37, pos := "l10_view.go:210", after := #[⟨15, .data⟩, ⟨15, .chain⟩, ⟨0, .phase⟩, ⟨1, .phase⟩, ⟨2, .phase⟩, ⟨3, .phase⟩, ⟨4, .phase⟩, ⟨5, .phase⟩, ⟨6, .phase⟩, ⟨7, .phase⟩, ⟨8, .phase⟩, ⟨9, .phase⟩, ⟨10, .phase⟩, ⟨11, .phase⟩, ⟨12, .phase⟩, ⟨13, .phase⟩, ⟨14, .phase⟩, ⟨15, .phase⟩], guard := none } ?_
            refine wpAnyH_done (by kernel_rfl) ?_ _
            (try go_wp2)
            exact ⟨⟨k + 1, by omega, by go_num, HO6, HE6⟩, by simp [intOf]; omega⟩
          · have g5 : ¬ z.view < view := h5
            have HK2 : Hid (Msg.cms (ms.take (k + 1)) id view = Msg.cms (ms.take k) id view) := Msg.cms_no HZ.out (fun h => h5 h.2.2)
            have HO9 : Hid (wr.ownsRow (w.heap.size) 57 3 u7 (Msg.cms (ms.take (k + 1)) id view).length (cellsCt (Msg.cms (ms.take (k + 1)) id view))) := by show wr.ownsRow _ _ _ _ _ _; rw [HK2.out]; exact HO.out
            clear h3 h4
            go_wp2
            exact ⟨⟨k + 1, by omega, by go_num, HO9, HE⟩, by simp [intOf]; omega⟩
        · have g4 : (z.from_ == id) = false := by simpa using h4
          have HK2 : Hid (Msg.cms (ms.take (k + 1)) id view = Msg.cms (ms.take k) id view) := Msg.cms_no HZ.out (fun h => h4 h.2.1)
          have HO9 : Hid (wr.ownsRow (w.heap.size) 57 3 u7 (Msg.cms (ms.take (k + 1)) id view).length (cellsCt (Msg.cms (ms.take (k + 1)) id view))) := by show wr.ownsRow _ _ _ _ _ _; rw [HK2.out]; exact HO.out
          clear h3 h4
          go_wp2
          exact ⟨⟨k + 1, by omega, by go_num, HO9, HE⟩, by simp [intOf]; omega⟩
      · have g3 : (z.kind == 3) = false := by simpa using h3
        have HK2 : Hid (Msg.cms (ms.take (k + 1)) id view = Msg.cms (ms.take k) id view) := Msg.cms_no HZ.out (fun h => h3 h.1)
        have HO9 : Hid (wr.ownsRow (w.heap.size) 57 3 u7 (Msg.cms (ms.take (k + 1)) id view).length (cellsCt (Msg.cms (ms.take (k + 1)) id view))) := by show wr.ownsRow _ _ _ _ _ _; rw [HK2.out]; exact HO.out
        clear h3
        go_wp2
        exact ⟨⟨k + 1, by omega, by go_num, HO9, HE⟩, by simp [intOf]; omega⟩
    · have hke : k = ms.length := by omega
      have HO2 : Hid (wr.ownsRow (w.heap.size) 57 3 u7 (Msg.cms ms id view).length (cellsCt (Msg.cms ms id view))) := by have h := HO.out; rw [hke, List.take_length] at h; exact h
      clear HO
      subst hke
      obtain ⟨g, hg1, hT⟩ := ctown_of_owns HO2.out
      obtain ⟨a8, c8, rfl, -⟩ := _root_.id hT
      have HT : Hid (w.heap.size ≤ g ∧ CtOwn wr (.slice a8 (Msg.cms ms id view).length c8) g (Msg.cms ms id view)) := ⟨hg1, hT⟩
      clear hT hg1
      go_wp2
      go_ret
      exact ⟨_, g, rfl, HT.out.1, HT.out.2, HE.out⟩
/-- A CertsResult of code c and certificates rs came back, these in new memory. -/
def Led.KRet (w : World) (c : Int) (rs : List Ct) (e : Ending) (w' : World) : Prop := ∃ v g, e = .returned (Led.jr c v) ∧ w.heap.size ≤ g ∧ CtOwn w' v g rs ∧ Ext w w'
end Go.Proofs.YtecgjdgfjgcmdaaGreat
