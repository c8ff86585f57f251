/- what one has committed: CertsOf of the program. -/
import Derived.Test.YtflojfkalnojbaaQV7a
import Derived.Test.YtflojfkalnojbaaQV5
import Derived.Deep.RegionHeld3
namespace Go.Proofs.Ytflojfkalnojbaa
open Go.RowKit
theorem Msg.step_append {P : Program} (w : World) {ops : Array Oper} {o : Oper} {a : Act} {K : Act → World → Prop} {Q : Exit → Act → World → Prop} {E : Prop} (hgd : o.guard = none) (s x : Operand) (t : TypeId)
    (ho : o.op = .call { callee := .builtin .append, args := #[s, x], argTypes := #[t, t] })
    (base : Nat) (e : TypeId) (i : TypeInfo) (z : Value) (size bytes : Nat) (ht : P.underlying t = some (.slice e)) (hi : P.info? e = some i) (hz : i.zero = some z)
    (hsize : i.size = size) (hby : i.bytes = bytes) (hzs : z.cells.size = size) (hsz : 0 < size)
    (v : Value) (n : Nat) (xs : List Value) (hs : a.eval s = v) (hown : w.ownsRow base e size v n xs)
    (ad : Addr) (m c : Nat) (news : List Value) (hx : a.eval x = .slice (some ad) m c) (hl : news.length = m * size) (hnews : ∀ j u, news[j]? = some u → w.cell? (ad.add j) = some u) (h1 : ∀ u ∈ news, u.oneCell' = true)
    (h63 : n + m ≤ maxLen) (hbytes : (n + m) * bytes ≤ 140737488355328) (hbase : base ≤ w.heap.size)
    (h : ∀ v' w', w'.ownsRow base e size v' (n + m) (xs ++ news) → w.grownBy w' v.ownBlock → (v' = .slice none 0 0 ↔ v = .slice none 0 0 ∧ m = 0) → K (a.put o.dst v') w') :
    if Region.wanted o (yielded ops a.tmps) = true then Oper.wp P o a w K Q else E := by
  have hw : Region.wanted o (yielded ops a.tmps) = true := by simp [Region.wanted, hgd]
  rw [if_pos hw]
  exact wp_append_own w s x t ho base e i z size bytes ht hi hz hsize hby hzs hsz v n xs hs hown ad m c news hx hl hnews h1 h63 hbytes hbase h
set_option linter.unusedSimpArgs false in
set_option maxHeartbeats 8000000 in
set_option maxRecDepth 100000 in
theorem commitsOf_any (v : Value) (ms : List Ms) (id view : Int) (w : World) (hS : MSlice w v ms) (hml : ms.length ≤ 240) :
    Calls Try.prog 121 #[v, .int .i64 id, .int .i64 view] w fun e w' => ∃ vo g, e = .returned vo ∧ w.heap.size ≤ g ∧ CtOwn w' vo g (Msg.cms ms id view) ∧ Ext w w' := by
  have hi9 : (Try.prog.info? 38).map (fun i => (i.zero, i.size, i.bytes)) = some (some (.agg #[.int .i64 0, .int .i64 0, .int .i64 0]), 3, 24) := by kernel_rfl
  obtain ⟨tc, htc, hxx⟩ := Option.map_eq_some_iff.1 hi9
  simp only [Prod.mk.injEq] at hxx
  obtain ⟨hy0, hy1, hy2⟩ := hxx
  clear hi9
  have HSl : Hid (MSlice w v ms) := hS
  obtain ⟨a, cap, rfl, -, -, -⟩ := hS
  go_enter Try.func121, Try.ntmps121
  go_wp2
  go_loopw [7, 12] (fun ov i wr => ∃ (k : Nat), k ≤ ms.length ∧ i = .int .i64 k ∧ Hid (wr.ownsRow (w.heap.size) 38 3 ov (Msg.cms (ms.take k) id view).length (cellsCt (Msg.cms (ms.take k) id view))) ∧ Hid (Ext w wr)) (fun _ i _ => ms.length - (intOf i).toNat)
  case atStart => exact ⟨0, Nat.zero_le _, rfl, World.ownsRow_nil _ _ _ _, Ext.refl _⟩
  case round =>
    obtain ⟨k, hk, rfl, HO, HE⟩ := hrel
    by_cases hlt : k < ms.length
    · obtain ⟨z, h2⟩ : ∃ z, ms[k]? = some z := ⟨_, List.getElem?_eq_getElem hlt⟩
      obtain ⟨b1, off1, cap1, e1, hlt1, hlm1, hcm1, hb1, hm⟩ := HSl.out.at2 h2
      injection e1 with e1 e4 e5
      subst e1 e5
      have HZ : Hid (ms[k]? = some z) := h2
      have hws : w.heap.size ≤ wr.heap.size := HE.out.size
      have hcl : (Msg.cms (ms.take k) id view).length ≤ 240 := by have := Msg.cms_len (ms.take k) id view; rw [List.length_take] at this; omega
      obtain ⟨vz, uz, ⟨d0, d1, d2, d3, d4, -, -⟩, -⟩ := hm
      have HS7 : Hid (∀ W', Ext w W' → W'.cell? ⟨b1, off1 + k * 7 + 3, none⟩ = some (.int .i64 z.slot) ∧ W'.cell? ⟨b1, off1 + k * 7 + 1, none⟩ = some (.int .i64 z.view) ∧ W'.cell? ⟨b1, off1 + k * 7 + 4, none⟩ = some (.int .i64 z.value)) := fun W' he => ⟨((Ext.cell he).1 _ _ hb1).trans d3, ((Ext.cell he).1 _ _ hb1).trans d1, ((Ext.cell he).1 _ _ hb1).trans d4⟩
      have c0 := ((Ext.cell HE.out).1 _ _ hb1).trans d0
      have c1 := ((Ext.cell HE.out).1 _ _ hb1).trans d1
      have c2 := ((Ext.cell HE.out).1 _ _ hb1).trans d2
      clear h2 e4 d0 d1 d2 d3 d4
      by_cases h3 : z.kind = 3
      · have g3 : (z.kind == 3) = true := by simpa using h3
        by_cases h4 : z.from_ = id
        · have g4 : (z.from_ == id) = true := by simpa using h4
          by_cases h5 : z.view < view
          · have HK2 : Hid (Msg.cms (ms.take (k + 1)) id view = Msg.cms (ms.take k) id view ++ [⟨z.slot, z.view, z.value⟩]) := Msg.cms_yes HZ.out ⟨h3, h4, h5⟩
            clear h3 h4
            go_wp2
            clear c0 c1 c2
            refine wp_region_held_drew (S := (fun W' : World => W'.cell? ⟨b1, off1 + k * 7 + 3, none⟩ = some (.int .i64 z.slot) ∧ W'.cell? ⟨b1, off1 + k * 7 + 1, none⟩ = some (.int .i64 z.view) ∧ W'.cell? ⟨b1, off1 + k * 7 + 4, none⟩ = some (.int .i64 z.value))) (by kernel_rfl) (HS7.out _ HE.out.drew) (fun hHeld => ?_)
            refine wpAnyH_take (i := 0) (oi := { dst := some 39, op := Op.move (Operand.tmp 7), type := 25, pos := "l10_view.go:197", after := #[], guard := none }) (v := ?_) rfl (by kernel_rfl) (by kernel_rfl) (by kernel_rfl) (fun _ _ _ h => h) (Or.inl ⟨by rfl, ?_⟩) (by assumption) ?_
            rotate_left
            · intro w' hSw; (try dsimp only at hSw); go_simp; try with_reducible rfl
            (try simp only [Act.put, List.setIfInBounds_toArray, List.set_cons_zero, List.set_cons_succ])
            refine wpAnyH_take (i := 1) (oi := { dst := some 40, op := Op.move (Operand.tmp 9), type := 99, pos := "l10_view.go:197", after := #[], guard := none }) (v := ?_) rfl (by kernel_rfl) (by kernel_rfl) (by kernel_rfl) (fun _ _ _ h => h) (Or.inl ⟨by rfl, ?_⟩) (by assumption) ?_
            rotate_left
            · intro w' hSw; (try dsimp only at hSw); go_simp; try with_reducible rfl
            (try simp only [Act.put, List.setIfInBounds_toArray, List.set_cons_zero, List.set_cons_succ])
            refine wpAnyH_take (i := 2) (oi := { dst := some 41, op := Op.nilCheck (Operand.tmp 40), type := 0, pos := "l10_view.go:197", after := #[{ on := 1, ground := Ground.data }], guard := none }) (v := ?_) rfl (by kernel_rfl) (by kernel_rfl) (by kernel_rfl) (fun _ _ _ h => h) (Or.inl ⟨by rfl, ?_⟩) (by assumption) ?_
            rotate_left
            · intro w' hSw; (try dsimp only at hSw); go_simp; try with_reducible rfl
            (try simp only [Act.put, List.setIfInBounds_toArray, List.set_cons_zero, List.set_cons_succ])
            refine wpAnyH_take (i := 3) (oi := { dst := some 42, op := Op.fieldAddr 28 (Operand.tmp 41) 3, type := 0, pos := "l10_view.go:197", after := #[{ on := 2, ground := Ground.data }], guard := none }) (v := ?_) rfl (by kernel_rfl) (by kernel_rfl) (by kernel_rfl) (fun _ _ _ h => h) (Or.inl ⟨by rfl, ?_⟩) (by assumption) ?_
            rotate_left
            · intro w' hSw; (try dsimp only at hSw); go_simp; try with_reducible rfl
            (try simp only [Act.put, List.setIfInBounds_toArray, List.set_cons_zero, List.set_cons_succ])
            refine wpAnyH_take (i := 4) (oi := { dst := some 43, op := Op.load 2 (Operand.tmp 42), type := 2, pos := "l10_view.go:197", after := #[{ on := 3, ground := Ground.data }], guard := none }) (v := ?_) rfl (by kernel_rfl) (by kernel_rfl) (by kernel_rfl) (fun _ _ _ h => h) (Or.inl ⟨by rfl, ?_⟩) (by assumption) ?_
            rotate_left
            · intro w' hSw; (try dsimp only at hSw); go_simp; try with_reducible rfl
            (try simp only [Act.put, List.setIfInBounds_toArray, List.set_cons_zero, List.set_cons_succ])
            refine wpAnyH_take (i := 5) (oi := { dst := some 44, op := Op.move (Operand.tmp 9), type := 99, pos := "l10_view.go:197", after := #[], guard := none }) (v := ?_) rfl (by kernel_rfl) (by kernel_rfl) (by kernel_rfl) (fun _ _ _ h => h) (Or.inl ⟨by rfl, ?_⟩) (by assumption) ?_
            rotate_left
            · intro w' hSw; (try dsimp only at hSw); go_simp; try with_reducible rfl
            (try simp only [Act.put, List.setIfInBounds_toArray, List.set_cons_zero, List.set_cons_succ])
            refine wpAnyH_take (i := 6) (oi := { dst := some 45, op := Op.nilCheck (Operand.tmp 44), type := 0, pos := "l10_view.go:197", after := #[{ on := 5, ground := Ground.data }], guard := none }) (v := ?_) rfl (by kernel_rfl) (by kernel_rfl) (by kernel_rfl) (fun _ _ _ h => h) (Or.inl ⟨by rfl, ?_⟩) (by assumption) ?_
            rotate_left
            · intro w' hSw; (try dsimp only at hSw); go_simp; try with_reducible rfl
            (try simp only [Act.put, List.setIfInBounds_toArray, List.set_cons_zero, List.set_cons_succ])
            refine wpAnyH_take (i := 7) (oi := { dst := some 46, op := Op.fieldAddr 28 (Operand.tmp 45) 1, type := 0, pos := "l10_view.go:197", after := #[{ on := 6, ground := Ground.data }], guard := none }) (v := ?_) rfl (by kernel_rfl) (by kernel_rfl) (by kernel_rfl) (fun _ _ _ h => h) (Or.inl ⟨by rfl, ?_⟩) (by assumption) ?_
            rotate_left
            · intro w' hSw; (try dsimp only at hSw); go_simp; try with_reducible rfl
            (try simp only [Act.put, List.setIfInBounds_toArray, List.set_cons_zero, List.set_cons_succ])
            refine wpAnyH_take (i := 8) (oi := { dst := some 47, op := Op.load 2 (Operand.tmp 46), type := 2, pos := "l10_view.go:197", after := #[{ on := 7, ground := Ground.data }], guard := none }) (v := ?_) rfl (by kernel_rfl) (by kernel_rfl) (by kernel_rfl) (fun _ _ _ h => h) (Or.inl ⟨by rfl, ?_⟩) (by assumption) ?_
            rotate_left
            · intro w' hSw; (try dsimp only at hSw); go_simp; try with_reducible rfl
            (try simp only [Act.put, List.setIfInBounds_toArray, List.set_cons_zero, List.set_cons_succ])
            refine wpAnyH_take (i := 9) (oi := { dst := some 48, op := Op.move (Operand.tmp 9), type := 99, pos := "l10_view.go:197", after := #[], guard := none }) (v := ?_) rfl (by kernel_rfl) (by kernel_rfl) (by kernel_rfl) (fun _ _ _ h => h) (Or.inl ⟨by rfl, ?_⟩) (by assumption) ?_
            rotate_left
            · intro w' hSw; (try dsimp only at hSw); go_simp; try with_reducible rfl
            (try simp only [Act.put, List.setIfInBounds_toArray, List.set_cons_zero, List.set_cons_succ])
            refine wpAnyH_take (i := 10) (oi := { dst := some 49, op := Op.nilCheck (Operand.tmp 48), type := 0, pos := "l10_view.go:197", after := #[{ on := 9, ground := Ground.data }], guard := none }) (v := ?_) rfl (by kernel_rfl) (by kernel_rfl) (by kernel_rfl) (fun _ _ _ h => h) (Or.inl ⟨by rfl, ?_⟩) (by assumption) ?_
            rotate_left
            · intro w' hSw; (try dsimp only at hSw); go_simp; try with_reducible rfl
            (try simp only [Act.put, List.setIfInBounds_toArray, List.set_cons_zero, List.set_cons_succ])
            refine wpAnyH_take (i := 11) (oi := { dst := some 50, op := Op.fieldAddr 28 (Operand.tmp 49) 4, type := 0, pos := "l10_view.go:197", after := #[{ on := 10, ground := Ground.data }], guard := none }) (v := ?_) rfl (by kernel_rfl) (by kernel_rfl) (by kernel_rfl) (fun _ _ _ h => h) (Or.inl ⟨by rfl, ?_⟩) (by assumption) ?_
            rotate_left
            · intro w' hSw; (try dsimp only at hSw); go_simp; try with_reducible rfl
            (try simp only [Act.put, List.setIfInBounds_toArray, List.set_cons_zero, List.set_cons_succ])
            refine wpAnyH_take (i := 12) (oi := { dst := some 51, op := Op.load 2 (Operand.tmp 50), type := 2, pos := "l10_view.go:197", after := #[{ on := 11, ground := Ground.data }], guard := none }) (v := ?_) rfl (by kernel_rfl) (by kernel_rfl) (by kernel_rfl) (fun _ _ _ h => h) (Or.inl ⟨by rfl, ?_⟩) (by assumption) ?_
            rotate_left
            · intro w' hSw; (try dsimp only at hSw); go_simp; try with_reducible rfl
            (try simp only [Act.put, List.setIfInBounds_toArray, List.set_cons_zero, List.set_cons_succ])
            refine wpAnyH_take (i := 13) (oi := { dst := some 52, op := Op.build 38 #[(0, Operand.tmp 43), (1, Operand.tmp 47), (2, Operand.tmp 51)], type := 38, pos := "l10_view.go:197", after := #[{ on := 4, ground := Ground.data }, { on := 8, ground := Ground.data }, { on := 12, ground := Ground.data }], guard := none }) (v := ?_) rfl (by kernel_rfl) (by kernel_rfl) (by kernel_rfl) (fun _ _ _ h => h) (Or.inl ⟨by rfl, ?_⟩) (by assumption) ?_
            rotate_left
            · intro w' hSw; (try dsimp only at hSw); go_simp; try with_reducible rfl
            (try simp only [Act.put, List.setIfInBounds_toArray, List.set_cons_zero, List.set_cons_succ])
            refine wpAnyH_ready (rs := [14]) (by kernel_rfl) (by simp) (AllReadyH.cons rfl (fun K hK => ?_) AllReadyH.nil)
            go_simp
            refine hK.out _ _ (by exact HS7.out _ (HE.out.drew.alloc _)) (fun hHeld1 => ?_)
            clear hK K
            refine wpAnyH_ready (rs := [15]) (by kernel_rfl) (by simp) (AllReadyH.cons rfl (fun K hK => ?_) AllReadyH.nil)
            refine Msg.step_append _ rfl (.tmp 39) (.tmp 53) 25 rfl w.heap.size 38 tc (.agg #[.int .i64 0, .int .i64 0, .int .i64 0]) 3 24 Try.underlying25 htc hy0 hy1 hy2 rfl (by decide) _ _ _ rfl (World.ownsRow.alloc (w := wr.drew) HO.out _) ⟨wr.heap.size, 0, none⟩ 1 1 (cellsCt [⟨z.slot, z.view, z.value⟩]) rfl rfl (cells_ct wr.drew ⟨z.slot, z.view, z.value⟩ _) (cellsCt_one _) (by unfold maxLen; omega) (by omega) (by simp; omega) ?_
            intro v6 w6 hown6 hgrow6 hnil6
            have HE6 : Hid (Ext w w6) := Below.grown (HE.out.drew.alloc _) hgrow6 (by simp; omega) (fun q hq => (HO.out.lt q hq).1)
            have HO6 : Hid (w6.ownsRow (w.heap.size) 38 3 v6 (Msg.cms (ms.take (k + 1)) id view).length (cellsCt (Msg.cms (ms.take (k + 1)) id view))) := by show w6.ownsRow _ _ _ _ _ _; rw [HK2.out, cellsCt_app, List.length_append]; exact hown6
            clear hown6 hgrow6 hnil6
            refine hK.out _ _ (by exact HS7.out _ HE6.out) (fun hHeld2 => ?_)
            clear hK K
            refine wpAnyH_take (i := 16) (oi := { dst := some 7, op := Op.assign (Operand.tmp 54), type := 25, pos := "l10_view.go:197", after := #[{ on := 15, ground := Ground.data }, { on := 15, ground := Ground.chain }, { on := 0, ground := Ground.phase }, { on := 1, ground := Ground.phase }, { on := 2, ground := Ground.phase }, { on := 3, ground := Ground.phase }, { on := 4, ground := Ground.phase }, { on := 5, ground := Ground.phase }, { on := 6, ground := Ground.phase }, { on := 7, ground := Ground.phase }, { on := 8, ground := Ground.phase }, { on := 9, ground := Ground.phase }, { on := 10, ground := Ground.phase }, { on := 11, ground := Ground.phase }, { on := 12, ground := Ground.phase }, { on := 13, ground := Ground.phase }, { on := 14, ground := Ground.phase }, { on := 15, ground := Ground.phase }], guard := none }) (v := ?_) rfl (by kernel_rfl) (by kernel_rfl) (by kernel_rfl) (fun _ _ _ h => h) (Or.inl ⟨by rfl, ?_⟩) (by assumption) ?_
            rotate_left
            · intro w' hSw; (try dsimp only at hSw); go_simp; try with_reducible rfl
            (try simp only [Act.put, List.setIfInBounds_toArray, List.set_cons_zero, List.set_cons_succ])
            refine wpAnyH_done (by kernel_rfl) ?_ _
            (try go_wp2)
            exact ⟨⟨k + 1, by omega, by go_num, HO6, HE6⟩, by simp [intOf]; omega⟩
          · have g5 : ¬ z.view < view := h5
            have HK2 : Hid (Msg.cms (ms.take (k + 1)) id view = Msg.cms (ms.take k) id view) := Msg.cms_no HZ.out (fun h => h5 h.2.2)
            have HO9 : Hid (wr.ownsRow (w.heap.size) 38 3 u7 (Msg.cms (ms.take (k + 1)) id view).length (cellsCt (Msg.cms (ms.take (k + 1)) id view))) := by show wr.ownsRow _ _ _ _ _ _; rw [HK2.out]; exact HO.out
            clear h3 h4
            go_wp2
            exact ⟨⟨k + 1, by omega, by go_num, HO9, HE⟩, by simp [intOf]; omega⟩
        · have g4 : (z.from_ == id) = false := by simpa using h4
          have HK2 : Hid (Msg.cms (ms.take (k + 1)) id view = Msg.cms (ms.take k) id view) := Msg.cms_no HZ.out (fun h => h4 h.2.1)
          have HO9 : Hid (wr.ownsRow (w.heap.size) 38 3 u7 (Msg.cms (ms.take (k + 1)) id view).length (cellsCt (Msg.cms (ms.take (k + 1)) id view))) := by show wr.ownsRow _ _ _ _ _ _; rw [HK2.out]; exact HO.out
          clear h3 h4
          go_wp2
          exact ⟨⟨k + 1, by omega, by go_num, HO9, HE⟩, by simp [intOf]; omega⟩
      · have g3 : (z.kind == 3) = false := by simpa using h3
        have HK2 : Hid (Msg.cms (ms.take (k + 1)) id view = Msg.cms (ms.take k) id view) := Msg.cms_no HZ.out (fun h => h3 h.1)
        have HO9 : Hid (wr.ownsRow (w.heap.size) 38 3 u7 (Msg.cms (ms.take (k + 1)) id view).length (cellsCt (Msg.cms (ms.take (k + 1)) id view))) := by show wr.ownsRow _ _ _ _ _ _; rw [HK2.out]; exact HO.out
        clear h3
        go_wp2
        exact ⟨⟨k + 1, by omega, by go_num, HO9, HE⟩, by simp [intOf]; omega⟩
    · have hke : k = ms.length := by omega
      have HO2 : Hid (wr.ownsRow (w.heap.size) 38 3 u7 (Msg.cms ms id view).length (cellsCt (Msg.cms ms id view))) := by have h := HO.out; rw [hke, List.take_length] at h; exact h
      clear HO
      subst hke
      obtain ⟨g, hg1, hT⟩ := ctown_of_owns HO2.out
      obtain ⟨a8, c8, rfl, -⟩ := _root_.id hT
      have HT : Hid (w.heap.size ≤ g ∧ CtOwn wr (.slice a8 (Msg.cms ms id view).length c8) g (Msg.cms ms id view)) := ⟨hg1, hT⟩
      clear hT hg1
      go_wp2
      go_ret
      exact ⟨_, g, rfl, HT.out.1, HT.out.2, HE.out⟩
/-- A CertsResult of code c and certificates rs came back, these in new memory. -/
def Led.KRet (w : World) (c : Int) (rs : List Ct) (e : Ending) (w' : World) : Prop := ∃ v g, e = .returned (Led.jr c v) ∧ w.heap.size ≤ g ∧ CtOwn w' v g rs ∧ Ext w w'
theorem Led.kret_box {w w2 : World} (c : Int) {v : Value} {g : Nat} {rs : List Ct} (hE : Ext w w2) (hO : CtOwn w2 v g rs) (hg : w.heap.size < g) :
    Led.KRet w c rs (.returned (Led.jr c v)) ((w2.setCell ⟨w.heap.size, 0, none⟩ (.int .i64 c)).setCell ⟨w.heap.size, 1, none⟩ v) :=
  ⟨v, g, rfl, Nat.le_of_lt hg, hO.upd' (((Upd.refl w.heap.size w2).setAt _ _).setAt _ _) (fun _ => by omega), hE.two _ _⟩
theorem Led.kret_bad {w w2 : World} (c : Int) (hE : Ext w w2) :
    Led.KRet w c [] (.returned (Led.jr c (.slice none 0 0))) ((w2.setCell ⟨w.heap.size, 0, none⟩ (.int .i64 c)).setCell ⟨w.heap.size, 1, none⟩ (.slice none 0 0)) :=
  Led.kret_box (g := w.heap.size + 1) c hE ⟨none, 0, rfl, Nat.le_refl _, by unfold maxLen; omega, fun h => by simp at h⟩ (by omega)

set_option maxHeartbeats 4000000 in
set_option maxRecDepth 100000 in
theorem implCertsOf_any (f x y : Int) (v : Value) (ms : List Ms) (w : World) (hS : MSlice w v ms) :
    Calls Try.prog 58 #[.int .i64 f, v, .int .i64 x, .int .i64 y] w (Led.KRet w (Msg.certsV f ms x y).1 (Msg.certsV f ms x y).2) := by
  have HF : Hid (∀ wx, Ext w wx → Calls Try.prog 69 #[.int .i64 f, v] wx fun e w' => e = .returned (.int .i64 (Msg.ledger f ms)) ∧ Ext wx w') := fun wx he => implLedgerFault_any f v ms wx (hS.ext he)
  have HId0 : Hid (∀ bb, 1 ≤ f → f ≤ 2 → (decide (1 ≤ x) && decide (x ≤ 3 * f + 1)) = bb → ∀ wx, Calls Try.prog 119 #[.int .i64 f, .int .i64 x] wx fun e w' => e = .returned (.bool bb) ∧ w' = wx) := fun bb h0 h1 hbb wx => by rw [← hbb]; exact isReplica_any f x wx h0 h1
  have HVw0 : Hid (∀ bb, (decide (0 ≤ y) && decide (y ≤ 20)) = bb → ∀ wx, Calls Try.prog 81 #[.int .i64 y, .int .i64 20] wx fun e w' => e = .returned (.bool bb) ∧ w' = wx) := fun bb hbb wx => by rw [← hbb]; exact isUpToM_any y 20 wx
  have HCm : Hid (ms.length ≤ 240 → ∀ wx, Ext w wx → Calls Try.prog 121 #[v, .int .i64 x, .int .i64 y] wx fun e w' => ∃ vo g, e = .returned vo ∧ wx.heap.size ≤ g ∧ CtOwn w' vo g (Msg.cms ms x y) ∧ Ext wx w') := fun h wx he => commitsOf_any v ms x y wx (hS.ext he) h
  have HNs : Hid (∀ (u : Value) (cs : List Ct) (wx : World), CtSlice wx u cs → cs.length ≤ 10000 → Calls Try.prog 120 #[u] wx fun e w' => ∃ vo g, e = .returned vo ∧ wx.heap.size ≤ g ∧ CtOwn w' vo g (Msg.ns cs 30) ∧ Ext wx w') := fun u cs wx h1 h2 => newestOfSlots_any u cs wx h1 h2
  obtain ⟨a, cap, rfl, -, -, -⟩ := hS
  by_cases hc : Msg.ledger f ms = 0
  · obtain ⟨hf0, hf1, hml⟩ := Msg.ledger_zero hc
    have HC : Hid (Msg.ledger f ms = 0) := hc
    rw [hc] at HF
    by_cases hx : 1 ≤ x ∧ x ≤ 3 * f + 1
    · have HId : Hid (∀ wx, Calls Try.prog 119 #[.int .i64 f, .int .i64 x] wx fun e w' => e = .returned (.bool true) ∧ w' = wx) := HId0.out true hf0 hf1 (by simp; omega)
      by_cases hy : 0 ≤ y ∧ y ≤ 20
      · have HVw : Hid (∀ wx, Calls Try.prog 81 #[.int .i64 y, .int .i64 20] wx fun e w' => e = .returned (.bool true) ∧ w' = wx) := HVw0.out true (by simp; omega)
        rw [Msg.certsV_ok hc hx hy]
        clear hc hx hy HId0 HVw0
        obtain ⟨rs, hrs⟩ : ∃ rs, rs = Msg.ns (Msg.cms ms x y) 30 := ⟨_, rfl⟩
        rw [← hrs]
        have HRS : Hid (rs = Msg.ns (Msg.cms ms x y) 30) := hrs
        clear hrs
        go_enter Try.func58, Try.ntmps58
        go_wp2_with fail
        refine (HF.out _ ((Ext.refl _).alloc _)).mono ?_
        rintro e w2 ⟨rfl, hb⟩
        have HE2 : Hid (Ext w w2) := ((Ext.refl _).alloc _).trans hb
        have HZ2 : Hid (Led.JZ w2 w.heap.size) := (Led.jz_new w _).ext hb
        clear hb
        obtain ⟨x0, x1, x2, x3, x4⟩ := HZ2.out
        go_wp2_with fail
        refine (HId.out _).mono ?_
        rintro e w9 ⟨rfl, hw⟩
        rw [hw]
        clear hw w9
        go_wp2_with fail
        refine (HVw.out _).mono ?_
        rintro e w9 ⟨rfl, hw⟩
        rw [hw]
        clear hw w9
        go_wp2_with fail
        refine (HCm.out hml _ HE2.out).mono ?_
        rintro e w4 ⟨v4, g4, rfl, -, hO4, hb⟩
        have HE4 : Hid (Ext w w4) := HE2.out.trans hb
        have HZ4 : Hid (Led.JZ w4 w.heap.size) := HZ2.out.ext hb
        have HI4 : Hid (CtSlice w4 v4 (Msg.cms ms x y)) := hO4.slice
        obtain ⟨a4, c4, rfl, -⟩ := id hO4
        have hcl := Msg.cms_len ms x y
        clear hb hO4 x0 x1 x2 x3 x4
        have HNs2 : Hid (∀ wx, CtSlice wx (.slice a4 (Msg.cms ms x y).length c4) (Msg.cms ms x y) → Calls Try.prog 120 #[.slice a4 (Msg.cms ms x y).length c4] wx fun e w' => ∃ vo g, e = .returned vo ∧ wx.heap.size ≤ g ∧ CtOwn w' vo g rs ∧ Ext wx w') := fun wx h => by rw [HRS.out]; exact HNs.out _ _ wx h (by omega)
        clear HNs
        go_wp2_with fail
        refine (HNs2.out _ HI4.out).mono ?_
        rintro e w5 ⟨v5, g5, rfl, hg5, hO5, hb⟩
        obtain ⟨a5, c5, rfl, -⟩ := id hO5
        have HE5 : Hid (Ext w w5) := HE4.out.trans hb
        have HZ5 : Hid (Led.JZ w5 w.heap.size) := HZ4.out.ext hb
        have HO5 : Hid (CtOwn w5 (.slice a5 rs.length c5) g5 rs ∧ w.heap.size < g5) := ⟨hO5, Nat.lt_of_lt_of_le HZ4.out.1 hg5⟩
        clear hb hO5 hg5
        obtain ⟨x0, x1, x2, x3, x4⟩ := HZ5.out
        go_wp2
        exact bodyPost_ret (v := Led.jr 0 (.slice a5 rs.length c5)) (by simp [results, Try.results58, go_sem, Led.jr, x1, x2]) rfl (Led.kret_box 0 HE5.out HO5.out.1 HO5.out.2)
      · have HVw : Hid (∀ wx, Calls Try.prog 81 #[.int .i64 y, .int .i64 20] wx fun e w' => e = .returned (.bool false) ∧ w' = wx) := HVw0.out false (by rw [Bool.and_eq_false_iff]; simp; omega)
        rw [Msg.certsV_view hc hx hy]
        clear hc hx hy HId0 HVw0
        go_enter Try.func58, Try.ntmps58
        go_wp2_with fail
        refine (HF.out _ ((Ext.refl _).alloc _)).mono ?_
        rintro e w2 ⟨rfl, hb⟩
        have HE2 : Hid (Ext w w2) := ((Ext.refl _).alloc _).trans hb
        have HZ2 : Hid (Led.JZ w2 w.heap.size) := (Led.jz_new w _).ext hb
        clear hb
        obtain ⟨x0, x1, x2, x3, x4⟩ := HZ2.out
        go_wp2_with fail
        refine (HId.out _).mono ?_
        rintro e w9 ⟨rfl, hw⟩
        rw [hw]
        clear hw w9
        go_wp2_with fail
        refine (HVw.out _).mono ?_
        rintro e w9 ⟨rfl, hw⟩
        rw [hw]
        clear hw w9
        go_wp2
        exact bodyPost_ret (v := Led.jr 3 (.slice none 0 0)) (by simp [results, Try.results58, go_sem, Led.jr, x1, x2]) rfl (Led.kret_bad 3 HE2.out)
    · have HId : Hid (∀ wx, Calls Try.prog 119 #[.int .i64 f, .int .i64 x] wx fun e w' => e = .returned (.bool false) ∧ w' = wx) := HId0.out false hf0 hf1 (by rw [Bool.and_eq_false_iff]; simp; omega)
      rw [Msg.certsV_id hc hx]
      clear hc hx HId0 HVw0
      go_enter Try.func58, Try.ntmps58
      go_wp2_with fail
      refine (HF.out _ ((Ext.refl _).alloc _)).mono ?_
      rintro e w2 ⟨rfl, hb⟩
      have HE2 : Hid (Ext w w2) := ((Ext.refl _).alloc _).trans hb
      have HZ2 : Hid (Led.JZ w2 w.heap.size) := (Led.jz_new w _).ext hb
      clear hb
      obtain ⟨x0, x1, x2, x3, x4⟩ := HZ2.out
      go_wp2_with fail
      refine (HId.out _).mono ?_
      rintro e w9 ⟨rfl, hw⟩
      rw [hw]
      clear hw w9
      go_wp2
      exact bodyPost_ret (v := Led.jr 3 (.slice none 0 0)) (by simp [results, Try.results58, go_sem, Led.jr, x1, x2]) rfl (Led.kret_bad 3 HE2.out)
  · rw [Msg.certsV_bad hc]
    have g2 : (Msg.ledger f ms != 0) = true := by simpa using hc
    clear hc HId0 HVw0
    generalize Msg.ledger f ms = c at *
    go_enter Try.func58, Try.ntmps58
    go_wp2_with fail
    refine (HF.out _ ((Ext.refl _).alloc _)).mono ?_
    rintro e w2 ⟨rfl, hb⟩
    have HE2 : Hid (Ext w w2) := ((Ext.refl _).alloc _).trans hb
    have HZ2 : Hid (Led.JZ w2 w.heap.size) := (Led.jz_new w _).ext hb
    clear hb
    obtain ⟨x0, x1, x2, x3, x4⟩ := HZ2.out
    go_wp2
    exact bodyPost_ret (v := Led.jr c (.slice none 0 0)) (by simp [results, Try.results58, go_sem, Led.jr, x1, x2]) rfl (Led.kret_bad c HE2.out)
end Go.Proofs.Ytflojfkalnojbaa
