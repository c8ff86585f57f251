/- what one has committed: CertsOf of the specification. -/
import Derived.Test.YtecgjdgfjgcmdaaGreatRcQV9
import Derived.Test.YtecgjdgfjgcmdaaGreatRcTk
namespace Go.Proofs.YtecgjdgfjgcmdaaGreat
open Go.RowKit
namespace Msg
theorem cms_same {ms : List Ms} {id view slot : Int} {i : Nat} {z : Ms} (h : ms[i]? = some z) (hv : 0 ≤ z.view) (hno : ¬ (z.kind = 3 ∧ z.from_ = id ∧ z.slot = slot ∧ z.view < view ∧ vw (best (cms (ms.take i) id view) slot) < z.view)) : best (cms (ms.take (i + 1)) id view) slot = best (cms (ms.take i) id view) slot := by
  by_cases hc : z.kind = 3 ∧ z.from_ = id ∧ z.view < view
  · rw [cms_yes h hc, best_snoc]
    by_cases hs : z.slot = slot
    · exact better_keep hv (fun hl => hno ⟨hc.1, hc.2.1, hs, hc.2.2, hl⟩)
    · exact better_ne hs
  · rw [cms_no h hc]
theorem cms_new {ms : List Ms} {id view slot : Int} {i : Nat} {z : Ms} (h : ms[i]? = some z) (hy : z.kind = 3 ∧ z.from_ = id ∧ z.slot = slot ∧ z.view < view ∧ vw (best (cms (ms.take i) id view) slot) < z.view) : best (cms (ms.take (i + 1)) id view) slot = some ⟨z.slot, z.view, z.value⟩ := by
  rw [cms_yes h ⟨hy.1, hy.2.1, hy.2.2.2.1⟩, best_snoc]
  exact better_take hy.2.2.1 hy.2.2.2.2
end Msg
theorem CBx.put12 {w : World} {b : Nat} {x y u s p q : Int} (h : CBx w b ⟨s, x, y⟩) (hu : u = s) : CBx ((w.setCell ⟨b, 1, none⟩ (.int .i64 p)).setCell ⟨b, 2, none⟩ (.int .i64 q)) b ⟨u, p, q⟩ := by
  subst hu
  obtain ⟨hb, ⟨c0, c1, c2⟩, f0, f1, f2⟩ := h
  refine ⟨by simpa using hb, ⟨?_, ?_, ?_⟩, by simpa using f0, by simpa using f1, by simpa using f2⟩
  · rw [iset_ne _ _ _ _ _ _ (by omega), iset_ne _ _ _ _ _ _ (by omega)]; exact c0
  · rw [iset_ne _ _ _ _ _ _ (by omega)]; exact iset_eq _ _ _ _ ⟨_, c1⟩
  · exact iset_eq _ _ _ _ ⟨_, by rw [iset_ne _ _ _ _ _ _ (by omega)]; exact c2⟩
theorem CBx.drew {w : World} {b : Nat} {c : Ct} (h : CBx w b c) : CBx w.drew b c := h.ext (Ext.refl _).drew
theorem own_below {w w' : World} {base B : Nat} {e : TypeId} {size n : Nat} {v : Value} {xs : List Value} (h : w.ownsRow base e size v n xs) (hB : Below B w w') (hq : ∀ q, v.ownBlock = some q → q < B) : w'.ownsRow base e size v n xs := by
  refine ⟨h.1, ?_⟩
  rcases h.2 with hn | ⟨g, cap, cur, rfl, hbg, hgg, rest⟩
  · exact .inl hn
  · exact .inr ⟨g, cap, cur, rfl, hbg, (Below.block hB g (hq g rfl)).trans hgg, rest⟩
set_option linter.unusedSimpArgs false in
set_option maxHeartbeats 8000000 in
set_option maxRecDepth 100000 in
theorem l10Certs_any (f : Int) (v : Value) (ms : List Ms) (id view : Int) (w : World) (hS : MSlice w v ms) (hled : Msg.ledger f ms = 0) :
    Calls Tryz.prog 58 #[v, .int .i64 id, .int .i64 view] w fun e w' => ∃ vo g, e = .returned vo ∧ w.heap.size ≤ g ∧ CtOwn w' vo g (Msg.ns (Msg.cms ms id view) 30) ∧ Ext w w' := by
  have hi9 : (Tryz.prog.info? 57).map (fun i => (i.zero, i.size, i.bytes)) = some (some (.agg #[.int .i64 0, .int .i64 0, .int .i64 0]), 3, 24) := by kernel_rfl
  obtain ⟨tc, htc, hxx⟩ := Option.map_eq_some_iff.1 hi9
  simp only [Prod.mk.injEq] at hxx
  obtain ⟨hy0, hy1, hy2⟩ := hxx
  clear hi9
  have HSl : Hid (MSlice w v ms) := hS
  have HVa : Hid (∀ z ∈ ms, 0 ≤ z.view) := fun z hz => (Msg.view_in (Msg.ledger_all hled z hz)).1
  have HCi : Hid (∀ c ∈ Msg.cms ms id view, 0 ≤ c.view) := fun c hc => (Msg.cms_in hled c hc).2.2.1
  obtain ⟨a, cap, rfl, -, -, -⟩ := hS
  clear hled
  go_enter Tryz.func58, Tryz.ntmps58
  go_wp2
  go_loopw [7, 8] (fun ov i wr => ∃ (k : Nat), k ≤ 30 ∧ i = .int .i64 ((k : Int) + 1) ∧ Hid (wr.ownsRow (w.heap.size) 57 3 ov (Msg.ns (Msg.cms ms id view) k).length (cellsCt (Msg.ns (Msg.cms ms id view) k))) ∧ Hid (Ext w wr)) (fun _ i _ => 31 - (intOf i).toNat)
  case atStart => exact ⟨0, Nat.zero_le _, rfl, World.ownsRow_made w #[] 0 (Nat.le_refl _) (by unfold maxLen; omega) rfl, (Ext.refl _).alloc _⟩
  case round =>
    obtain ⟨k, hk, rfl, HO, HE⟩ := hrel
    obtain ⟨wo, hwo⟩ : ∃ wo, wo = wr := ⟨_, rfl⟩
    subst hwo
    by_cases hlt : k < 30
    · have hkk : (k : Int) + 1 ≤ 30 := by omega
      have hnl := Msg.ns_len (Msg.cms ms id view) k
      have hws : w.heap.size ≤ wo.heap.size := HE.out.size
      have HB0 : Hid (CBx (wo.alloc (.cells #[.int .i64 ((k : Int) + 1), .int .i64 (-1), .int .i64 0] 57)) wo.heap.size ⟨(k : Int) + 1, Msg.vw (Msg.best (Msg.cms (ms.take 0) id view) ((k : Int) + 1)), Msg.vl (Msg.best (Msg.cms (ms.take 0) id view) ((k : Int) + 1))⟩) := cbx_new wo ⟨(k : Int) + 1, Msg.vw (Msg.best (Msg.cms (ms.take 0) id view) ((k : Int) + 1)), Msg.vl (Msg.best (Msg.cms (ms.take 0) id view) ((k : Int) + 1))⟩ _
      have HQ0 : Hid (∀ q, u7.ownBlock = some q → q < wo.heap.size) := fun q hq => (HO.out.lt q hq).2
      obtain ⟨wa, hwa⟩ : ∃ wa, wa = wo.alloc (.cells #[.int .i64 ((k : Int) + 1), .int .i64 (-1), .int .i64 0] 57) := ⟨_, rfl⟩
      have HOa : Hid (wa.ownsRow (w.heap.size) 57 3 u7 (Msg.ns (Msg.cms ms id view) k).length (cellsCt (Msg.ns (Msg.cms ms id view) k))) := by rw [hwa]; exact HO.out.alloc _
      have HEa : Hid (Ext w wa) := by rw [hwa]; exact HE.out.alloc _
      have HBa : Hid (CBx wa wo.heap.size ⟨(k : Int) + 1, Msg.vw (Msg.best (Msg.cms (ms.take 0) id view) ((k : Int) + 1)), Msg.vl (Msg.best (Msg.cms (ms.take 0) id view) ((k : Int) + 1))⟩) := by rw [hwa]; exact HB0.out
      have hsa : wa.heap.size = wo.heap.size + 1 := by rw [hwa]; simp
      go_wp2
      rw [← hwa]
      generalize wo.heap.size = B at *
      clear HB0 HO HE hwa
      go_loopw [10] (fun iv wr => ∃ (i : Nat), i ≤ ms.length ∧ iv = .int .i64 i ∧ Hid (CBx wr B ⟨(k : Int) + 1, Msg.vw (Msg.best (Msg.cms (ms.take i) id view) ((k : Int) + 1)), Msg.vl (Msg.best (Msg.cms (ms.take i) id view) ((k : Int) + 1))⟩) ∧ Hid (Below B wa wr)) (fun iv _ => ms.length - (intOf iv).toNat)
      case atStart => exact ⟨0, Nat.zero_le _, rfl, HBa, Below.refl _ _⟩
      case round =>
        obtain ⟨i, hi, rfl, HB, HX⟩ := hrel
        have HEi : Hid (Ext w wr) := Below.trans HEa.out (Below.mono HX.out hws)
        by_cases hli : i < ms.length
        · obtain ⟨z, h2⟩ : ∃ z, ms[i]? = some z := ⟨_, List.getElem?_eq_getElem hli⟩
          obtain ⟨b1, off1, cap1, e1, hlt1, hlm1, hcm1, hb1, hm⟩ := HSl.out.at2 h2
          injection e1 with e1 e4 e5
          subst e1 e5
          have hm := hm.ext hb1 HEi.out
          have hbne : Hid (B ≠ b1) := by show B ≠ b1; omega
          have HZ : Hid (ms[i]? = some z) := h2
          have HVi : Hid (0 ≤ z.view) := HVa.out z (List.mem_of_getElem? h2)
          obtain ⟨vz, uz, ⟨c0, c1, c2, c3, c4, -, -⟩, -⟩ := hm
          obtain ⟨o, HOe⟩ : ∃ o, Hid (Msg.best (Msg.cms (ms.take i) id view) ((k : Int) + 1) = o) := ⟨_, rfl⟩
          rw [HOe.out] at HB
          obtain ⟨hbB, ⟨cA, cB, cC⟩, fA, fB, fC⟩ := HB.out
          have HS : Hid (wr.drew.cell? ⟨b1, off1 + i * 7, none⟩ = some (.int .i64 z.kind) ∧ wr.drew.cell? ⟨b1, off1 + i * 7 + 1, none⟩ = some (.int .i64 z.view) ∧ wr.drew.cell? ⟨b1, off1 + i * 7 + 2, none⟩ = some (.int .i64 z.from_) ∧ wr.drew.cell? ⟨b1, off1 + i * 7 + 3, none⟩ = some (.int .i64 z.slot) ∧ wr.drew.cell? ⟨B, 1, none⟩ = some (.int .i64 (Msg.vw o))) := ⟨c0, c1, c2, c3, cB⟩
          clear h2 e4
          by_cases h3 : z.kind = 3
          · have P4 : Hid ((z.kind == 3) = true) := by show _ = _; simpa using h3
            by_cases h4 : z.from_ = id
            · have P11 : Hid ((z.from_ == id) = true) := by show _ = _; simpa using h4
              by_cases h5 : z.slot = (k : Int) + 1
              · have P19 : Hid ((z.slot == (k : Int) + 1) = true) := by show _ = _; simpa using h5
                by_cases h6 : z.view < view
                · have P27 : Hid (decide (z.view < view) = true) := decide_eq_true h6
                  by_cases h7 : Msg.vw o < z.view
                  · have P36 : Hid (decide (Msg.vw o < z.view) = true) := decide_eq_true h7
                    have HF : Hid (Msg.best (Msg.cms (ms.take (i + 1)) id view) ((k : Int) + 1) = some ⟨z.slot, z.view, z.value⟩) := Msg.cms_new HZ.out ⟨h3, h4, h5, h6, by rw [HOe.out]; exact h7⟩
                    clear h3 h4 h6 h7
                    go_wp2
                    clear c0 c2 c3 cA cB cC
                    refine wp_region_held_drew (S := (fun W' : World => W'.cell? ⟨b1, off1 + i * 7, none⟩ = some (.int .i64 z.kind) ∧ W'.cell? ⟨b1, off1 + i * 7 + 1, none⟩ = some (.int .i64 z.view) ∧ W'.cell? ⟨b1, off1 + i * 7 + 2, none⟩ = some (.int .i64 z.from_) ∧ W'.cell? ⟨b1, off1 + i * 7 + 3, none⟩ = some (.int .i64 z.slot) ∧ W'.cell? ⟨B, 1, none⟩ = some (.int .i64 (Msg.vw o)))) (by kernel_rfl) (HS.out) (fun hHeld => ?_)
                    refine tk 0 { dst := some 28, op := Op.move (.tmp 11), type := 97, pos := "l10_view.go:159", after := #[], guard := none } ?_
                    refine tk 1 { dst := some 29, op := Op.nilCheck (.tmp 28), type := 0, pos := "l10_view.go:159", after := #[⟨0, .data⟩], guard := none } ?_
                    refine tk 2 { dst := some 30, op := Op.fieldAddr 40 (.tmp 29) 0, type := 0, pos := "l10_view.go:159", after := #[⟨1, .data⟩], guard := none } ?_
                    refine tk 3 { dst := some 31, op := Op.load 2 (.tmp 30), type := 2, pos := "l10_view.go:159", after := #[⟨2, .data⟩], guard := none } ?_
                    refine tk 4 { dst := some 32, op := Op.binOp BinOp.eql 2 (.tmp 31) (Operand.const (Value.int IntKind.i64 3)) 2, type := 4, pos := "l10_view.go:159", after := #[⟨3, .data⟩], guard := none } ?_
                    (try rw [P4.out])
                    refine tk 5 { dst := some 33, op := Op.move (.tmp 32), type := 4, pos := "l10_view.go:159", after := #[⟨4, .data⟩], guard := none } ?_
                    refine tk 6 { dst := some 34, op := Op.move (.tmp 11), type := 97, pos := "l10_view.go:159", after := #[⟨5, .guard⟩], guard := some (5, true) } ?_
                    refine tk 7 { dst := some 35, op := Op.nilCheck (.tmp 34), type := 0, pos := "l10_view.go:159", after := #[⟨6, .data⟩, ⟨5, .guard⟩], guard := some (5, true) } ?_
                    refine tk 8 { dst := some 36, op := Op.fieldAddr 40 (.tmp 35) 2, type := 0, pos := "l10_view.go:159", after := #[⟨7, .data⟩, ⟨5, .guard⟩], guard := some (5, true) } ?_
                    refine tk 9 { dst := some 37, op := Op.load 2 (.tmp 36), type := 2, pos := "l10_view.go:159", after := #[⟨8, .data⟩, ⟨5, .guard⟩], guard := some (5, true) } ?_
                    refine tk 10 { dst := some 38, op := Op.move (.tmp 1), type := 2, pos := "l10_view.go:159", after := #[⟨5, .guard⟩], guard := some (5, true) } ?_
                    refine tk 11 { dst := some 39, op := Op.binOp BinOp.eql 2 (.tmp 37) (.tmp 38) 2, type := 4, pos := "l10_view.go:159", after := #[⟨9, .data⟩, ⟨10, .data⟩, ⟨5, .guard⟩], guard := some (5, true) } ?_
                    (try rw [P11.out])
                    refine tk 12 { dst := some 40, op := Op.pick (.tmp 33) (.tmp 39) (Operand.const (Value.bool false)), type := 4, pos := "l10_view.go:159", after := #[⟨5, .data⟩, ⟨11, .data⟩], guard := none } ?_
                    refine tk 13 { dst := some 41, op := Op.move (.tmp 40), type := 4, pos := "l10_view.go:159", after := #[⟨12, .data⟩, ⟨5, .chain⟩], guard := none } ?_
                    refine tk 14 { dst := some 42, op := Op.move (.tmp 11), type := 97, pos := "l10_view.go:159", after := #[⟨13, .guard⟩], guard := some (13, true) } ?_
                    refine tk 15 { dst := some 43, op := Op.nilCheck (.tmp 42), type := 0, pos := "l10_view.go:159", after := #[⟨14, .data⟩, ⟨13, .guard⟩], guard := some (13, true) } ?_
                    refine tk 16 { dst := some 44, op := Op.fieldAddr 40 (.tmp 43) 3, type := 0, pos := "l10_view.go:159", after := #[⟨15, .data⟩, ⟨13, .guard⟩], guard := some (13, true) } ?_
                    refine tk 17 { dst := some 45, op := Op.load 2 (.tmp 44), type := 2, pos := "l10_view.go:159", after := #[⟨16, .data⟩, ⟨13, .guard⟩], guard := some (13, true) } ?_
                    refine tk 18 { dst := some 46, op := Op.move (.tmp 8), type := 2, pos := "l10_view.go:159", after := #[⟨13, .guard⟩], guard := some (13, true) } ?_
                    refine tk 19 { dst := some 47, op := Op.binOp BinOp.eql 2 (.tmp 45) (.tmp 46) 2, type := 4, pos := "l10_view.go:159", after := #[⟨17, .data⟩, ⟨18, .data⟩, ⟨13, .guard⟩], guard := some (13, true) } ?_
                    (try rw [P19.out])
                    refine tk 20 { dst := some 48, op := Op.pick (.tmp 41) (.tmp 47) (Operand.const (Value.bool false)), type := 4, pos := "l10_view.go:159", after := #[⟨13, .data⟩, ⟨19, .data⟩], guard := none } ?_
                    refine tk 21 { dst := some 49, op := Op.move (.tmp 48), type := 4, pos := "l10_view.go:159", after := #[⟨20, .data⟩, ⟨13, .chain⟩], guard := none } ?_
                    refine tk 22 { dst := some 50, op := Op.move (.tmp 11), type := 97, pos := "l10_view.go:159", after := #[⟨21, .guard⟩], guard := some (21, true) } ?_
                    refine tk 23 { dst := some 51, op := Op.nilCheck (.tmp 50), type := 0, pos := "l10_view.go:159", after := #[⟨22, .data⟩, ⟨21, .guard⟩], guard := some (21, true) } ?_
                    refine tk 24 { dst := some 52, op := Op.fieldAddr 40 (.tmp 51) 1, type := 0, pos := "l10_view.go:159", after := #[⟨23, .data⟩, ⟨21, .guard⟩], guard := some (21, true) } ?_
                    refine tk 25 { dst := some 53, op := Op.load 2 (.tmp 52), type := 2, pos := "l10_view.go:159", after := #[⟨24, .data⟩, ⟨21, .guard⟩], guard := some (21, true) } ?_
                    refine tk 26 { dst := some 54, op := Op.move (.tmp 2), type := 2, pos := "l10_view.go:159", after := #[⟨21, .guard⟩], guard := some (21, true) } ?_
                    refine tk 27 { dst := some 55, op := Op.binOp BinOp.lss 2 (.tmp 53) (.tmp 54) 2, type := 4, pos := "l10_view.go:159", after := #[⟨25, .data⟩, ⟨26, .data⟩, ⟨21, .guard⟩], guard := some (21, true) } ?_
                    (try rw [P27.out])
                    refine tk 28 { dst := some 56, op := Op.pick (.tmp 49) (.tmp 55) (Operand.const (Value.bool false)), type := 4, pos := "l10_view.go:159", after := #[⟨21, .data⟩, ⟨27, .data⟩], guard := none } ?_
                    refine tk 29 { dst := some 57, op := Op.move (.tmp 56), type := 4, pos := "l10_view.go:159", after := #[⟨28, .data⟩, ⟨21, .chain⟩], guard := none } ?_
                    refine tk 30 { dst := some 58, op := Op.move (.tmp 11), type := 97, pos := "l10_view.go:159", after := #[⟨29, .guard⟩], guard := some (29, true) } ?_
                    refine tk 31 { dst := some 59, op := Op.nilCheck (.tmp 58), type := 0, pos := "l10_view.go:159", after := #[⟨30, .data⟩, ⟨29, .guard⟩], guard := some (29, true) } ?_
                    refine tk 32 { dst := some 60, op := Op.fieldAddr 40 (.tmp 59) 1, type := 0, pos := "l10_view.go:159", after := #[⟨31, .data⟩, ⟨29, .guard⟩], guard := some (29, true) } ?_
                    refine tk 33 { dst := some 61, op := Op.load 2 (.tmp 60), type := 2, pos := "l10_view.go:159", after := #[⟨32, .data⟩, ⟨29, .guard⟩], guard := some (29, true) } ?_
                    refine tk 34 { dst := some 62, op := Op.fieldAddr 57 (.tmp 9) 1, type := 0, pos := "l10_view.go:159", after := #[⟨29, .guard⟩], guard := some (29, true) } ?_
                    refine tk 35 { dst := some 63, op := Op.load 2 (.tmp 62), type := 2, pos := "l10_view.go:159", after := #[⟨34, .data⟩, ⟨29, .guard⟩], guard := some (29, true) } ?_
                    refine tk 36 { dst := some 64, op := Op.binOp BinOp.gtr 2 (.tmp 61) (.tmp 63) 2, type := 4, pos := "l10_view.go:159", after := #[⟨33, .data⟩, ⟨35, .data⟩, ⟨29, .guard⟩], guard := some (29, true) } ?_
                    (try rw [P36.out])
                    refine tk 37 { dst := some 65, op := Op.pick (.tmp 57) (.tmp 64) (Operand.const (Value.bool false)), type := 4, pos := "l10_view.go:159", after := #[⟨29, .data⟩, ⟨36, .data⟩], guard := none } ?_
                    refine wpAnyH_done (by kernel_rfl) ?_ _
                    have HBd : Hid (CBx wr.drew B ⟨(k : Int) + 1, Msg.vw (o), Msg.vl (o)⟩) := HB.out.drew
                    have q1 : wr.drew.cell? ⟨b1, off1 + i * 7 + 1, none⟩ = some (.int .i64 z.view) := HS.out.2.1
                    have q4 : wr.drew.cell? ⟨b1, off1 + i * 7 + 4, none⟩ = some (.int .i64 z.value) := c4
                    have q4' : (wr.drew.setCell ⟨B, 1, none⟩ (.int .i64 z.view)).cell? ⟨b1, off1 + i * 7 + 4, none⟩ = some (.int .i64 z.value) := by rw [iset_ne _ _ _ _ _ _ (Or.inl hbne.out)]; exact q4
                    obtain ⟨hb9, ⟨s0, s1, s2⟩, fA, fB, fC⟩ := HBd.out
                    have HXd : Hid (Below B wa wr.drew) := Below.drew HX.out
                    clear HS HB HX HEi c1 c4
                    generalize wr.drew = wd at *
                    go_wp2
                    refine ⟨⟨i + 1, by omega, by go_num, ?_, ?_⟩, by simp [intOf]; omega⟩
                    · show CBx _ _ _
                      rw [HF.out]
                      exact HBd.out.put12 rfl
                    · exact Below.setCell (Below.setCell HXd.out (p := ⟨B, 1, none⟩) (Nat.le_refl _) _) (p := ⟨B, 2, none⟩) (Nat.le_refl _) _
                  · have P36 : Hid (decide (Msg.vw o < z.view) = false) := decide_eq_false h7
                    have HF : Hid (Msg.best (Msg.cms (ms.take (i + 1)) id view) ((k : Int) + 1) = o) := by show _ = _; rw [← HOe.out]; exact Msg.cms_same HZ.out HVi.out (fun h => h7 (by have h8 := h.2.2.2.2; rw [HOe.out] at h8; exact h8))
                    clear h3 h4 h5 h6 h7
                    go_wp2
                    clear c0 c1 c2 c3 cA cB cC
                    refine wp_region_held_drew (S := (fun W' : World => W'.cell? ⟨b1, off1 + i * 7, none⟩ = some (.int .i64 z.kind) ∧ W'.cell? ⟨b1, off1 + i * 7 + 1, none⟩ = some (.int .i64 z.view) ∧ W'.cell? ⟨b1, off1 + i * 7 + 2, none⟩ = some (.int .i64 z.from_) ∧ W'.cell? ⟨b1, off1 + i * 7 + 3, none⟩ = some (.int .i64 z.slot) ∧ W'.cell? ⟨B, 1, none⟩ = some (.int .i64 (Msg.vw o)))) (by kernel_rfl) (HS.out) (fun hHeld => ?_)
                    refine tk 0 { dst := some 28, op := Op.move (.tmp 11), type := 97, pos := "l10_view.go:159", after := #[], guard := none } ?_
                    refine tk 1 { dst := some 29, op := Op.nilCheck (.tmp 28), type := 0, pos := "l10_view.go:159", after := #[⟨0, .data⟩], guard := none } ?_
                    refine tk 2 { dst := some 30, op := Op.fieldAddr 40 (.tmp 29) 0, type := 0, pos := "l10_view.go:159", after := #[⟨1, .data⟩], guard := none } ?_
                    refine tk 3 { dst := some 31, op := Op.load 2 (.tmp 30), type := 2, pos := "l10_view.go:159", after := #[⟨2, .data⟩], guard := none } ?_
                    refine tk 4 { dst := some 32, op := Op.binOp BinOp.eql 2 (.tmp 31) (Operand.const (Value.int IntKind.i64 3)) 2, type := 4, pos := "l10_view.go:159", after := #[⟨3, .data⟩], guard := none } ?_
                    (try rw [P4.out])
                    refine tk 5 { dst := some 33, op := Op.move (.tmp 32), type := 4, pos := "l10_view.go:159", after := #[⟨4, .data⟩], guard := none } ?_
                    refine tk 6 { dst := some 34, op := Op.move (.tmp 11), type := 97, pos := "l10_view.go:159", after := #[⟨5, .guard⟩], guard := some (5, true) } ?_
                    refine tk 7 { dst := some 35, op := Op.nilCheck (.tmp 34), type := 0, pos := "l10_view.go:159", after := #[⟨6, .data⟩, ⟨5, .guard⟩], guard := some (5, true) } ?_
                    refine tk 8 { dst := some 36, op := Op.fieldAddr 40 (.tmp 35) 2, type := 0, pos := "l10_view.go:159", after := #[⟨7, .data⟩, ⟨5, .guard⟩], guard := some (5, true) } ?_
                    refine tk 9 { dst := some 37, op := Op.load 2 (.tmp 36), type := 2, pos := "l10_view.go:159", after := #[⟨8, .data⟩, ⟨5, .guard⟩], guard := some (5, true) } ?_
                    refine tk 10 { dst := some 38, op := Op.move (.tmp 1), type := 2, pos := "l10_view.go:159", after := #[⟨5, .guard⟩], guard := some (5, true) } ?_
                    refine tk 11 { dst := some 39, op := Op.binOp BinOp.eql 2 (.tmp 37) (.tmp 38) 2, type := 4, pos := "l10_view.go:159", after := #[⟨9, .data⟩, ⟨10, .data⟩, ⟨5, .guard⟩], guard := some (5, true) } ?_
                    (try rw [P11.out])
                    refine tk 12 { dst := some 40, op := Op.pick (.tmp 33) (.tmp 39) (Operand.const (Value.bool false)), type := 4, pos := "l10_view.go:159", after := #[⟨5, .data⟩, ⟨11, .data⟩], guard := none } ?_
                    refine tk 13 { dst := some 41, op := Op.move (.tmp 40), type := 4, pos := "l10_view.go:159", after := #[⟨12, .data⟩, ⟨5, .chain⟩], guard := none } ?_
                    refine tk 14 { dst := some 42, op := Op.move (.tmp 11), type := 97, pos := "l10_view.go:159", after := #[⟨13, .guard⟩], guard := some (13, true) } ?_
                    refine tk 15 { dst := some 43, op := Op.nilCheck (.tmp 42), type := 0, pos := "l10_view.go:159", after := #[⟨14, .data⟩, ⟨13, .guard⟩], guard := some (13, true) } ?_
                    refine tk 16 { dst := some 44, op := Op.fieldAddr 40 (.tmp 43) 3, type := 0, pos := "l10_view.go:159", after := #[⟨15, .data⟩, ⟨13, .guard⟩], guard := some (13, true) } ?_
                    refine tk 17 { dst := some 45, op := Op.load 2 (.tmp 44), type := 2, pos := "l10_view.go:159", after := #[⟨16, .data⟩, ⟨13, .guard⟩], guard := some (13, true) } ?_
                    refine tk 18 { dst := some 46, op := Op.move (.tmp 8), type := 2, pos := "l10_view.go:159", after := #[⟨13, .guard⟩], guard := some (13, true) } ?_
                    refine tk 19 { dst := some 47, op := Op.binOp BinOp.eql 2 (.tmp 45) (.tmp 46) 2, type := 4, pos := "l10_view.go:159", after := #[⟨17, .data⟩, ⟨18, .data⟩, ⟨13, .guard⟩], guard := some (13, true) } ?_
                    (try rw [P19.out])
                    refine tk 20 { dst := some 48, op := Op.pick (.tmp 41) (.tmp 47) (Operand.const (Value.bool false)), type := 4, pos := "l10_view.go:159", after := #[⟨13, .data⟩, ⟨19, .data⟩], guard := none } ?_
                    refine tk 21 { dst := some 49, op := Op.move (.tmp 48), type := 4, pos := "l10_view.go:159", after := #[⟨20, .data⟩, ⟨13, .chain⟩], guard := none } ?_
                    refine tk 22 { dst := some 50, op := Op.move (.tmp 11), type := 97, pos := "l10_view.go:159", after := #[⟨21, .guard⟩], guard := some (21, true) } ?_
                    refine tk 23 { dst := some 51, op := Op.nilCheck (.tmp 50), type := 0, pos := "l10_view.go:159", after := #[⟨22, .data⟩, ⟨21, .guard⟩], guard := some (21, true) } ?_
                    refine tk 24 { dst := some 52, op := Op.fieldAddr 40 (.tmp 51) 1, type := 0, pos := "l10_view.go:159", after := #[⟨23, .data⟩, ⟨21, .guard⟩], guard := some (21, true) } ?_
                    refine tk 25 { dst := some 53, op := Op.load 2 (.tmp 52), type := 2, pos := "l10_view.go:159", after := #[⟨24, .data⟩, ⟨21, .guard⟩], guard := some (21, true) } ?_
                    refine tk 26 { dst := some 54, op := Op.move (.tmp 2), type := 2, pos := "l10_view.go:159", after := #[⟨21, .guard⟩], guard := some (21, true) } ?_
                    refine tk 27 { dst := some 55, op := Op.binOp BinOp.lss 2 (.tmp 53) (.tmp 54) 2, type := 4, pos := "l10_view.go:159", after := #[⟨25, .data⟩, ⟨26, .data⟩, ⟨21, .guard⟩], guard := some (21, true) } ?_
                    (try rw [P27.out])
                    refine tk 28 { dst := some 56, op := Op.pick (.tmp 49) (.tmp 55) (Operand.const (Value.bool false)), type := 4, pos := "l10_view.go:159", after := #[⟨21, .data⟩, ⟨27, .data⟩], guard := none } ?_
                    refine tk 29 { dst := some 57, op := Op.move (.tmp 56), type := 4, pos := "l10_view.go:159", after := #[⟨28, .data⟩, ⟨21, .chain⟩], guard := none } ?_
                    refine tk 30 { dst := some 58, op := Op.move (.tmp 11), type := 97, pos := "l10_view.go:159", after := #[⟨29, .guard⟩], guard := some (29, true) } ?_
                    refine tk 31 { dst := some 59, op := Op.nilCheck (.tmp 58), type := 0, pos := "l10_view.go:159", after := #[⟨30, .data⟩, ⟨29, .guard⟩], guard := some (29, true) } ?_
                    refine tk 32 { dst := some 60, op := Op.fieldAddr 40 (.tmp 59) 1, type := 0, pos := "l10_view.go:159", after := #[⟨31, .data⟩, ⟨29, .guard⟩], guard := some (29, true) } ?_
                    refine tk 33 { dst := some 61, op := Op.load 2 (.tmp 60), type := 2, pos := "l10_view.go:159", after := #[⟨32, .data⟩, ⟨29, .guard⟩], guard := some (29, true) } ?_
                    refine tk 34 { dst := some 62, op := Op.fieldAddr 57 (.tmp 9) 1, type := 0, pos := "l10_view.go:159", after := #[⟨29, .guard⟩], guard := some (29, true) } ?_
                    refine tk 35 { dst := some 63, op := Op.load 2 (.tmp 62), type := 2, pos := "l10_view.go:159", after := #[⟨34, .data⟩, ⟨29, .guard⟩], guard := some (29, true) } ?_
                    refine tk 36 { dst := some 64, op := Op.binOp BinOp.gtr 2 (.tmp 61) (.tmp 63) 2, type := 4, pos := "l10_view.go:159", after := #[⟨33, .data⟩, ⟨35, .data⟩, ⟨29, .guard⟩], guard := some (29, true) } ?_
                    (try rw [P36.out])
                    refine tk 37 { dst := some 65, op := Op.pick (.tmp 57) (.tmp 64) (Operand.const (Value.bool false)), type := 4, pos := "l10_view.go:159", after := #[⟨29, .data⟩, ⟨36, .data⟩], guard := none } ?_
                    refine wpAnyH_done (by kernel_rfl) ?_ _
                    (try go_wp2)
                    exact ⟨⟨i + 1, by omega, by go_num, by show CBx _ _ _; rw [HF.out]; exact HB.out.drew, Below.drew HX.out⟩, by simp [intOf]; omega⟩
                · have P27 : Hid (decide (z.view < view) = false) := decide_eq_false h6
                  have HF : Hid (Msg.best (Msg.cms (ms.take (i + 1)) id view) ((k : Int) + 1) = o) := by show _ = _; rw [← HOe.out]; exact Msg.cms_same HZ.out HVi.out (fun h => h6 h.2.2.2.1)
                  clear h3 h4 h5 h6
                  go_wp2
                  clear c0 c1 c2 c3 cA cB cC
                  refine wp_region_held_drew (S := (fun W' : World => W'.cell? ⟨b1, off1 + i * 7, none⟩ = some (.int .i64 z.kind) ∧ W'.cell? ⟨b1, off1 + i * 7 + 1, none⟩ = some (.int .i64 z.view) ∧ W'.cell? ⟨b1, off1 + i * 7 + 2, none⟩ = some (.int .i64 z.from_) ∧ W'.cell? ⟨b1, off1 + i * 7 + 3, none⟩ = some (.int .i64 z.slot) ∧ W'.cell? ⟨B, 1, none⟩ = some (.int .i64 (Msg.vw o)))) (by kernel_rfl) (HS.out) (fun hHeld => ?_)
                  refine tk 0 { dst := some 28, op := Op.move (.tmp 11), type := 97, pos := "l10_view.go:159", after := #[], guard := none } ?_
                  refine tk 1 { dst := some 29, op := Op.nilCheck (.tmp 28), type := 0, pos := "l10_view.go:159", after := #[⟨0, .data⟩], guard := none } ?_
                  refine tk 2 { dst := some 30, op := Op.fieldAddr 40 (.tmp 29) 0, type := 0, pos := "l10_view.go:159", after := #[⟨1, .data⟩], guard := none } ?_
                  refine tk 3 { dst := some 31, op := Op.load 2 (.tmp 30), type := 2, pos := "l10_view.go:159", after := #[⟨2, .data⟩], guard := none } ?_
                  refine tk 4 { dst := some 32, op := Op.binOp BinOp.eql 2 (.tmp 31) (Operand.const (Value.int IntKind.i64 3)) 2, type := 4, pos := "l10_view.go:159", after := #[⟨3, .data⟩], guard := none } ?_
                  (try rw [P4.out])
                  refine tk 5 { dst := some 33, op := Op.move (.tmp 32), type := 4, pos := "l10_view.go:159", after := #[⟨4, .data⟩], guard := none } ?_
                  refine tk 6 { dst := some 34, op := Op.move (.tmp 11), type := 97, pos := "l10_view.go:159", after := #[⟨5, .guard⟩], guard := some (5, true) } ?_
                  refine tk 7 { dst := some 35, op := Op.nilCheck (.tmp 34), type := 0, pos := "l10_view.go:159", after := #[⟨6, .data⟩, ⟨5, .guard⟩], guard := some (5, true) } ?_
                  refine tk 8 { dst := some 36, op := Op.fieldAddr 40 (.tmp 35) 2, type := 0, pos := "l10_view.go:159", after := #[⟨7, .data⟩, ⟨5, .guard⟩], guard := some (5, true) } ?_
                  refine tk 9 { dst := some 37, op := Op.load 2 (.tmp 36), type := 2, pos := "l10_view.go:159", after := #[⟨8, .data⟩, ⟨5, .guard⟩], guard := some (5, true) } ?_
                  refine tk 10 { dst := some 38, op := Op.move (.tmp 1), type := 2, pos := "l10_view.go:159", after := #[⟨5, .guard⟩], guard := some (5, true) } ?_
                  refine tk 11 { dst := some 39, op := Op.binOp BinOp.eql 2 (.tmp 37) (.tmp 38) 2, type := 4, pos := "l10_view.go:159", after := #[⟨9, .data⟩, ⟨10, .data⟩, ⟨5, .guard⟩], guard := some (5, true) } ?_
                  (try rw [P11.out])
                  refine tk 12 { dst := some 40, op := Op.pick (.tmp 33) (.tmp 39) (Operand.const (Value.bool false)), type := 4, pos := "l10_view.go:159", after := #[⟨5, .data⟩, ⟨11, .data⟩], guard := none } ?_
                  refine tk 13 { dst := some 41, op := Op.move (.tmp 40), type := 4, pos := "l10_view.go:159", after := #[⟨12, .data⟩, ⟨5, .chain⟩], guard := none } ?_
                  refine tk 14 { dst := some 42, op := Op.move (.tmp 11), type := 97, pos := "l10_view.go:159", after := #[⟨13, .guard⟩], guard := some (13, true) } ?_
                  refine tk 15 { dst := some 43, op := Op.nilCheck (.tmp 42), type := 0, pos := "l10_view.go:159", after := #[⟨14, .data⟩, ⟨13, .guard⟩], guard := some (13, true) } ?_
                  refine tk 16 { dst := some 44, op := Op.fieldAddr 40 (.tmp 43) 3, type := 0, pos := "l10_view.go:159", after := #[⟨15, .data⟩, ⟨13, .guard⟩], guard := some (13, true) } ?_
                  refine tk 17 { dst := some 45, op := Op.load 2 (.tmp 44), type := 2, pos := "l10_view.go:159", after := #[⟨16, .data⟩, ⟨13, .guard⟩], guard := some (13, true) } ?_
                  refine tk 18 { dst := some 46, op := Op.move (.tmp 8), type := 2, pos := "l10_view.go:159", after := #[⟨13, .guard⟩], guard := some (13, true) } ?_
                  refine tk 19 { dst := some 47, op := Op.binOp BinOp.eql 2 (.tmp 45) (.tmp 46) 2, type := 4, pos := "l10_view.go:159", after := #[⟨17, .data⟩, ⟨18, .data⟩, ⟨13, .guard⟩], guard := some (13, true) } ?_
                  (try rw [P19.out])
                  refine tk 20 { dst := some 48, op := Op.pick (.tmp 41) (.tmp 47) (Operand.const (Value.bool false)), type := 4, pos := "l10_view.go:159", after := #[⟨13, .data⟩, ⟨19, .data⟩], guard := none } ?_
                  refine tk 21 { dst := some 49, op := Op.move (.tmp 48), type := 4, pos := "l10_view.go:159", after := #[⟨20, .data⟩, ⟨13, .chain⟩], guard := none } ?_
                  refine tk 22 { dst := some 50, op := Op.move (.tmp 11), type := 97, pos := "l10_view.go:159", after := #[⟨21, .guard⟩], guard := some (21, true) } ?_
                  refine tk 23 { dst := some 51, op := Op.nilCheck (.tmp 50), type := 0, pos := "l10_view.go:159", after := #[⟨22, .data⟩, ⟨21, .guard⟩], guard := some (21, true) } ?_
                  refine tk 24 { dst := some 52, op := Op.fieldAddr 40 (.tmp 51) 1, type := 0, pos := "l10_view.go:159", after := #[⟨23, .data⟩, ⟨21, .guard⟩], guard := some (21, true) } ?_
                  refine tk 25 { dst := some 53, op := Op.load 2 (.tmp 52), type := 2, pos := "l10_view.go:159", after := #[⟨24, .data⟩, ⟨21, .guard⟩], guard := some (21, true) } ?_
                  refine tk 26 { dst := some 54, op := Op.move (.tmp 2), type := 2, pos := "l10_view.go:159", after := #[⟨21, .guard⟩], guard := some (21, true) } ?_
                  refine tk 27 { dst := some 55, op := Op.binOp BinOp.lss 2 (.tmp 53) (.tmp 54) 2, type := 4, pos := "l10_view.go:159", after := #[⟨25, .data⟩, ⟨26, .data⟩, ⟨21, .guard⟩], guard := some (21, true) } ?_
                  (try rw [P27.out])
                  refine tk 28 { dst := some 56, op := Op.pick (.tmp 49) (.tmp 55) (Operand.const (Value.bool false)), type := 4, pos := "l10_view.go:159", after := #[⟨21, .data⟩, ⟨27, .data⟩], guard := none } ?_
                  refine tk 29 { dst := some 57, op := Op.move (.tmp 56), type := 4, pos := "l10_view.go:159", after := #[⟨28, .data⟩, ⟨21, .chain⟩], guard := none } ?_
                  refine tn 30 { dst := some 58, op := Op.move (.tmp 11), type := 97, pos := "l10_view.go:159", after := #[⟨29, .guard⟩], guard := some (29, true) } ?_
                  refine tn 31 { dst := some 59, op := Op.nilCheck (.tmp 58), type := 0, pos := "l10_view.go:159", after := #[⟨30, .data⟩, ⟨29, .guard⟩], guard := some (29, true) } ?_
                  refine tn 32 { dst := some 60, op := Op.fieldAddr 40 (.tmp 59) 1, type := 0, pos := "l10_view.go:159", after := #[⟨31, .data⟩, ⟨29, .guard⟩], guard := some (29, true) } ?_
                  refine tn 33 { dst := some 61, op := Op.load 2 (.tmp 60), type := 2, pos := "l10_view.go:159", after := #[⟨32, .data⟩, ⟨29, .guard⟩], guard := some (29, true) } ?_
                  refine tn 34 { dst := some 62, op := Op.fieldAddr 57 (.tmp 9) 1, type := 0, pos := "l10_view.go:159", after := #[⟨29, .guard⟩], guard := some (29, true) } ?_
                  refine tn 35 { dst := some 63, op := Op.load 2 (.tmp 62), type := 2, pos := "l10_view.go:159", after := #[⟨34, .data⟩, ⟨29, .guard⟩], guard := some (29, true) } ?_
                  refine tn 36 { dst := some 64, op := Op.binOp BinOp.gtr 2 (.tmp 61) (.tmp 63) 2, type := 4, pos := "l10_view.go:159", after := #[⟨33, .data⟩, ⟨35, .data⟩, ⟨29, .guard⟩], guard := some (29, true) } ?_
                  refine tk 37 { dst := some 65, op := Op.pick (.tmp 57) (.tmp 64) (Operand.const (Value.bool false)), type := 4, pos := "l10_view.go:159", after := #[⟨29, .data⟩, ⟨36, .data⟩], guard := none } ?_
                  refine wpAnyH_done (by kernel_rfl) ?_ _
                  (try go_wp2)
                  exact ⟨⟨i + 1, by omega, by go_num, by show CBx _ _ _; rw [HF.out]; exact HB.out.drew, Below.drew HX.out⟩, by simp [intOf]; omega⟩
              · have P19 : Hid ((z.slot == (k : Int) + 1) = false) := by show _ = _; simpa using h5
                have HF : Hid (Msg.best (Msg.cms (ms.take (i + 1)) id view) ((k : Int) + 1) = o) := by show _ = _; rw [← HOe.out]; exact Msg.cms_same HZ.out HVi.out (fun h => h5 h.2.2.1)
                clear h3 h4 h5
                go_wp2
                clear c0 c1 c2 c3 cA cB cC
                refine wp_region_held_drew (S := (fun W' : World => W'.cell? ⟨b1, off1 + i * 7, none⟩ = some (.int .i64 z.kind) ∧ W'.cell? ⟨b1, off1 + i * 7 + 1, none⟩ = some (.int .i64 z.view) ∧ W'.cell? ⟨b1, off1 + i * 7 + 2, none⟩ = some (.int .i64 z.from_) ∧ W'.cell? ⟨b1, off1 + i * 7 + 3, none⟩ = some (.int .i64 z.slot) ∧ W'.cell? ⟨B, 1, none⟩ = some (.int .i64 (Msg.vw o)))) (by kernel_rfl) (HS.out) (fun hHeld => ?_)
                refine tk 0 { dst := some 28, op := Op.move (.tmp 11), type := 97, pos := "l10_view.go:159", after := #[], guard := none } ?_
                refine tk 1 { dst := some 29, op := Op.nilCheck (.tmp 28), type := 0, pos := "l10_view.go:159", after := #[⟨0, .data⟩], guard := none } ?_
                refine tk 2 { dst := some 30, op := Op.fieldAddr 40 (.tmp 29) 0, type := 0, pos := "l10_view.go:159", after := #[⟨1, .data⟩], guard := none } ?_
                refine tk 3 { dst := some 31, op := Op.load 2 (.tmp 30), type := 2, pos := "l10_view.go:159", after := #[⟨2, .data⟩], guard := none } ?_
                refine tk 4 { dst := some 32, op := Op.binOp BinOp.eql 2 (.tmp 31) (Operand.const (Value.int IntKind.i64 3)) 2, type := 4, pos := "l10_view.go:159", after := #[⟨3, .data⟩], guard := none } ?_
                (try rw [P4.out])
                refine tk 5 { dst := some 33, op := Op.move (.tmp 32), type := 4, pos := "l10_view.go:159", after := #[⟨4, .data⟩], guard := none } ?_
                refine tk 6 { dst := some 34, op := Op.move (.tmp 11), type := 97, pos := "l10_view.go:159", after := #[⟨5, .guard⟩], guard := some (5, true) } ?_
                refine tk 7 { dst := some 35, op := Op.nilCheck (.tmp 34), type := 0, pos := "l10_view.go:159", after := #[⟨6, .data⟩, ⟨5, .guard⟩], guard := some (5, true) } ?_
                refine tk 8 { dst := some 36, op := Op.fieldAddr 40 (.tmp 35) 2, type := 0, pos := "l10_view.go:159", after := #[⟨7, .data⟩, ⟨5, .guard⟩], guard := some (5, true) } ?_
                refine tk 9 { dst := some 37, op := Op.load 2 (.tmp 36), type := 2, pos := "l10_view.go:159", after := #[⟨8, .data⟩, ⟨5, .guard⟩], guard := some (5, true) } ?_
                refine tk 10 { dst := some 38, op := Op.move (.tmp 1), type := 2, pos := "l10_view.go:159", after := #[⟨5, .guard⟩], guard := some (5, true) } ?_
                refine tk 11 { dst := some 39, op := Op.binOp BinOp.eql 2 (.tmp 37) (.tmp 38) 2, type := 4, pos := "l10_view.go:159", after := #[⟨9, .data⟩, ⟨10, .data⟩, ⟨5, .guard⟩], guard := some (5, true) } ?_
                (try rw [P11.out])
                refine tk 12 { dst := some 40, op := Op.pick (.tmp 33) (.tmp 39) (Operand.const (Value.bool false)), type := 4, pos := "l10_view.go:159", after := #[⟨5, .data⟩, ⟨11, .data⟩], guard := none } ?_
                refine tk 13 { dst := some 41, op := Op.move (.tmp 40), type := 4, pos := "l10_view.go:159", after := #[⟨12, .data⟩, ⟨5, .chain⟩], guard := none } ?_
                refine tk 14 { dst := some 42, op := Op.move (.tmp 11), type := 97, pos := "l10_view.go:159", after := #[⟨13, .guard⟩], guard := some (13, true) } ?_
                refine tk 15 { dst := some 43, op := Op.nilCheck (.tmp 42), type := 0, pos := "l10_view.go:159", after := #[⟨14, .data⟩, ⟨13, .guard⟩], guard := some (13, true) } ?_
                refine tk 16 { dst := some 44, op := Op.fieldAddr 40 (.tmp 43) 3, type := 0, pos := "l10_view.go:159", after := #[⟨15, .data⟩, ⟨13, .guard⟩], guard := some (13, true) } ?_
                refine tk 17 { dst := some 45, op := Op.load 2 (.tmp 44), type := 2, pos := "l10_view.go:159", after := #[⟨16, .data⟩, ⟨13, .guard⟩], guard := some (13, true) } ?_
                refine tk 18 { dst := some 46, op := Op.move (.tmp 8), type := 2, pos := "l10_view.go:159", after := #[⟨13, .guard⟩], guard := some (13, true) } ?_
                refine tk 19 { dst := some 47, op := Op.binOp BinOp.eql 2 (.tmp 45) (.tmp 46) 2, type := 4, pos := "l10_view.go:159", after := #[⟨17, .data⟩, ⟨18, .data⟩, ⟨13, .guard⟩], guard := some (13, true) } ?_
                (try rw [P19.out])
                refine tk 20 { dst := some 48, op := Op.pick (.tmp 41) (.tmp 47) (Operand.const (Value.bool false)), type := 4, pos := "l10_view.go:159", after := #[⟨13, .data⟩, ⟨19, .data⟩], guard := none } ?_
                refine tk 21 { dst := some 49, op := Op.move (.tmp 48), type := 4, pos := "l10_view.go:159", after := #[⟨20, .data⟩, ⟨13, .chain⟩], guard := none } ?_
                refine tn 22 { dst := some 50, op := Op.move (.tmp 11), type := 97, pos := "l10_view.go:159", after := #[⟨21, .guard⟩], guard := some (21, true) } ?_
                refine tn 23 { dst := some 51, op := Op.nilCheck (.tmp 50), type := 0, pos := "l10_view.go:159", after := #[⟨22, .data⟩, ⟨21, .guard⟩], guard := some (21, true) } ?_
                refine tn 24 { dst := some 52, op := Op.fieldAddr 40 (.tmp 51) 1, type := 0, pos := "l10_view.go:159", after := #[⟨23, .data⟩, ⟨21, .guard⟩], guard := some (21, true) } ?_
                refine tn 25 { dst := some 53, op := Op.load 2 (.tmp 52), type := 2, pos := "l10_view.go:159", after := #[⟨24, .data⟩, ⟨21, .guard⟩], guard := some (21, true) } ?_
                refine tn 26 { dst := some 54, op := Op.move (.tmp 2), type := 2, pos := "l10_view.go:159", after := #[⟨21, .guard⟩], guard := some (21, true) } ?_
                refine tn 27 { dst := some 55, op := Op.binOp BinOp.lss 2 (.tmp 53) (.tmp 54) 2, type := 4, pos := "l10_view.go:159", after := #[⟨25, .data⟩, ⟨26, .data⟩, ⟨21, .guard⟩], guard := some (21, true) } ?_
                refine tk 28 { dst := some 56, op := Op.pick (.tmp 49) (.tmp 55) (Operand.const (Value.bool false)), type := 4, pos := "l10_view.go:159", after := #[⟨21, .data⟩, ⟨27, .data⟩], guard := none } ?_
                refine tk 29 { dst := some 57, op := Op.move (.tmp 56), type := 4, pos := "l10_view.go:159", after := #[⟨28, .data⟩, ⟨21, .chain⟩], guard := none } ?_
                refine tn 30 { dst := some 58, op := Op.move (.tmp 11), type := 97, pos := "l10_view.go:159", after := #[⟨29, .guard⟩], guard := some (29, true) } ?_
                refine tn 31 { dst := some 59, op := Op.nilCheck (.tmp 58), type := 0, pos := "l10_view.go:159", after := #[⟨30, .data⟩, ⟨29, .guard⟩], guard := some (29, true) } ?_
                refine tn 32 { dst := some 60, op := Op.fieldAddr 40 (.tmp 59) 1, type := 0, pos := "l10_view.go:159", after := #[⟨31, .data⟩, ⟨29, .guard⟩], guard := some (29, true) } ?_
                refine tn 33 { dst := some 61, op := Op.load 2 (.tmp 60), type := 2, pos := "l10_view.go:159", after := #[⟨32, .data⟩, ⟨29, .guard⟩], guard := some (29, true) } ?_
                refine tn 34 { dst := some 62, op := Op.fieldAddr 57 (.tmp 9) 1, type := 0, pos := "l10_view.go:159", after := #[⟨29, .guard⟩], guard := some (29, true) } ?_
                refine tn 35 { dst := some 63, op := Op.load 2 (.tmp 62), type := 2, pos := "l10_view.go:159", after := #[⟨34, .data⟩, ⟨29, .guard⟩], guard := some (29, true) } ?_
                refine tn 36 { dst := some 64, op := Op.binOp BinOp.gtr 2 (.tmp 61) (.tmp 63) 2, type := 4, pos := "l10_view.go:159", after := #[⟨33, .data⟩, ⟨35, .data⟩, ⟨29, .guard⟩], guard := some (29, true) } ?_
                refine tk 37 { dst := some 65, op := Op.pick (.tmp 57) (.tmp 64) (Operand.const (Value.bool false)), type := 4, pos := "l10_view.go:159", after := #[⟨29, .data⟩, ⟨36, .data⟩], guard := none } ?_
                refine wpAnyH_done (by kernel_rfl) ?_ _
                (try go_wp2)
                exact ⟨⟨i + 1, by omega, by go_num, by show CBx _ _ _; rw [HF.out]; exact HB.out.drew, Below.drew HX.out⟩, by simp [intOf]; omega⟩
            · have P11 : Hid ((z.from_ == id) = false) := by show _ = _; simpa using h4
              have HF : Hid (Msg.best (Msg.cms (ms.take (i + 1)) id view) ((k : Int) + 1) = o) := by show _ = _; rw [← HOe.out]; exact Msg.cms_same HZ.out HVi.out (fun h => h4 h.2.1)
              clear h3 h4
              go_wp2
              clear c0 c1 c2 c3 cA cB cC
              refine wp_region_held_drew (S := (fun W' : World => W'.cell? ⟨b1, off1 + i * 7, none⟩ = some (.int .i64 z.kind) ∧ W'.cell? ⟨b1, off1 + i * 7 + 1, none⟩ = some (.int .i64 z.view) ∧ W'.cell? ⟨b1, off1 + i * 7 + 2, none⟩ = some (.int .i64 z.from_) ∧ W'.cell? ⟨b1, off1 + i * 7 + 3, none⟩ = some (.int .i64 z.slot) ∧ W'.cell? ⟨B, 1, none⟩ = some (.int .i64 (Msg.vw o)))) (by kernel_rfl) (HS.out) (fun hHeld => ?_)
              refine tk 0 { dst := some 28, op := Op.move (.tmp 11), type := 97, pos := "l10_view.go:159", after := #[], guard := none } ?_
              refine tk 1 { dst := some 29, op := Op.nilCheck (.tmp 28), type := 0, pos := "l10_view.go:159", after := #[⟨0, .data⟩], guard := none } ?_
              refine tk 2 { dst := some 30, op := Op.fieldAddr 40 (.tmp 29) 0, type := 0, pos := "l10_view.go:159", after := #[⟨1, .data⟩], guard := none } ?_
              refine tk 3 { dst := some 31, op := Op.load 2 (.tmp 30), type := 2, pos := "l10_view.go:159", after := #[⟨2, .data⟩], guard := none } ?_
              refine tk 4 { dst := some 32, op := Op.binOp BinOp.eql 2 (.tmp 31) (Operand.const (Value.int IntKind.i64 3)) 2, type := 4, pos := "l10_view.go:159", after := #[⟨3, .data⟩], guard := none } ?_
              (try rw [P4.out])
              refine tk 5 { dst := some 33, op := Op.move (.tmp 32), type := 4, pos := "l10_view.go:159", after := #[⟨4, .data⟩], guard := none } ?_
              refine tk 6 { dst := some 34, op := Op.move (.tmp 11), type := 97, pos := "l10_view.go:159", after := #[⟨5, .guard⟩], guard := some (5, true) } ?_
              refine tk 7 { dst := some 35, op := Op.nilCheck (.tmp 34), type := 0, pos := "l10_view.go:159", after := #[⟨6, .data⟩, ⟨5, .guard⟩], guard := some (5, true) } ?_
              refine tk 8 { dst := some 36, op := Op.fieldAddr 40 (.tmp 35) 2, type := 0, pos := "l10_view.go:159", after := #[⟨7, .data⟩, ⟨5, .guard⟩], guard := some (5, true) } ?_
              refine tk 9 { dst := some 37, op := Op.load 2 (.tmp 36), type := 2, pos := "l10_view.go:159", after := #[⟨8, .data⟩, ⟨5, .guard⟩], guard := some (5, true) } ?_
              refine tk 10 { dst := some 38, op := Op.move (.tmp 1), type := 2, pos := "l10_view.go:159", after := #[⟨5, .guard⟩], guard := some (5, true) } ?_
              refine tk 11 { dst := some 39, op := Op.binOp BinOp.eql 2 (.tmp 37) (.tmp 38) 2, type := 4, pos := "l10_view.go:159", after := #[⟨9, .data⟩, ⟨10, .data⟩, ⟨5, .guard⟩], guard := some (5, true) } ?_
              (try rw [P11.out])
              refine tk 12 { dst := some 40, op := Op.pick (.tmp 33) (.tmp 39) (Operand.const (Value.bool false)), type := 4, pos := "l10_view.go:159", after := #[⟨5, .data⟩, ⟨11, .data⟩], guard := none } ?_
              refine tk 13 { dst := some 41, op := Op.move (.tmp 40), type := 4, pos := "l10_view.go:159", after := #[⟨12, .data⟩, ⟨5, .chain⟩], guard := none } ?_
              refine tn 14 { dst := some 42, op := Op.move (.tmp 11), type := 97, pos := "l10_view.go:159", after := #[⟨13, .guard⟩], guard := some (13, true) } ?_
              refine tn 15 { dst := some 43, op := Op.nilCheck (.tmp 42), type := 0, pos := "l10_view.go:159", after := #[⟨14, .data⟩, ⟨13, .guard⟩], guard := some (13, true) } ?_
              refine tn 16 { dst := some 44, op := Op.fieldAddr 40 (.tmp 43) 3, type := 0, pos := "l10_view.go:159", after := #[⟨15, .data⟩, ⟨13, .guard⟩], guard := some (13, true) } ?_
              refine tn 17 { dst := some 45, op := Op.load 2 (.tmp 44), type := 2, pos := "l10_view.go:159", after := #[⟨16, .data⟩, ⟨13, .guard⟩], guard := some (13, true) } ?_
              refine tn 18 { dst := some 46, op := Op.move (.tmp 8), type := 2, pos := "l10_view.go:159", after := #[⟨13, .guard⟩], guard := some (13, true) } ?_
              refine tn 19 { dst := some 47, op := Op.binOp BinOp.eql 2 (.tmp 45) (.tmp 46) 2, type := 4, pos := "l10_view.go:159", after := #[⟨17, .data⟩, ⟨18, .data⟩, ⟨13, .guard⟩], guard := some (13, true) } ?_
              refine tk 20 { dst := some 48, op := Op.pick (.tmp 41) (.tmp 47) (Operand.const (Value.bool false)), type := 4, pos := "l10_view.go:159", after := #[⟨13, .data⟩, ⟨19, .data⟩], guard := none } ?_
              refine tk 21 { dst := some 49, op := Op.move (.tmp 48), type := 4, pos := "l10_view.go:159", after := #[⟨20, .data⟩, ⟨13, .chain⟩], guard := none } ?_
              refine tn 22 { dst := some 50, op := Op.move (.tmp 11), type := 97, pos := "l10_view.go:159", after := #[⟨21, .guard⟩], guard := some (21, true) } ?_
              refine tn 23 { dst := some 51, op := Op.nilCheck (.tmp 50), type := 0, pos := "l10_view.go:159", after := #[⟨22, .data⟩, ⟨21, .guard⟩], guard := some (21, true) } ?_
              refine tn 24 { dst := some 52, op := Op.fieldAddr 40 (.tmp 51) 1, type := 0, pos := "l10_view.go:159", after := #[⟨23, .data⟩, ⟨21, .guard⟩], guard := some (21, true) } ?_
              refine tn 25 { dst := some 53, op := Op.load 2 (.tmp 52), type := 2, pos := "l10_view.go:159", after := #[⟨24, .data⟩, ⟨21, .guard⟩], guard := some (21, true) } ?_
              refine tn 26 { dst := some 54, op := Op.move (.tmp 2), type := 2, pos := "l10_view.go:159", after := #[⟨21, .guard⟩], guard := some (21, true) } ?_
              refine tn 27 { dst := some 55, op := Op.binOp BinOp.lss 2 (.tmp 53) (.tmp 54) 2, type := 4, pos := "l10_view.go:159", after := #[⟨25, .data⟩, ⟨26, .data⟩, ⟨21, .guard⟩], guard := some (21, true) } ?_
              refine tk 28 { dst := some 56, op := Op.pick (.tmp 49) (.tmp 55) (Operand.const (Value.bool false)), type := 4, pos := "l10_view.go:159", after := #[⟨21, .data⟩, ⟨27, .data⟩], guard := none } ?_
              refine tk 29 { dst := some 57, op := Op.move (.tmp 56), type := 4, pos := "l10_view.go:159", after := #[⟨28, .data⟩, ⟨21, .chain⟩], guard := none } ?_
              refine tn 30 { dst := some 58, op := Op.move (.tmp 11), type := 97, pos := "l10_view.go:159", after := #[⟨29, .guard⟩], guard := some (29, true) } ?_
              refine tn 31 { dst := some 59, op := Op.nilCheck (.tmp 58), type := 0, pos := "l10_view.go:159", after := #[⟨30, .data⟩, ⟨29, .guard⟩], guard := some (29, true) } ?_
              refine tn 32 { dst := some 60, op := Op.fieldAddr 40 (.tmp 59) 1, type := 0, pos := "l10_view.go:159", after := #[⟨31, .data⟩, ⟨29, .guard⟩], guard := some (29, true) } ?_
              refine tn 33 { dst := some 61, op := Op.load 2 (.tmp 60), type := 2, pos := "l10_view.go:159", after := #[⟨32, .data⟩, ⟨29, .guard⟩], guard := some (29, true) } ?_
              refine tn 34 { dst := some 62, op := Op.fieldAddr 57 (.tmp 9) 1, type := 0, pos := "l10_view.go:159", after := #[⟨29, .guard⟩], guard := some (29, true) } ?_
              refine tn 35 { dst := some 63, op := Op.load 2 (.tmp 62), type := 2, pos := "l10_view.go:159", after := #[⟨34, .data⟩, ⟨29, .guard⟩], guard := some (29, true) } ?_
              refine tn 36 { dst := some 64, op := Op.binOp BinOp.gtr 2 (.tmp 61) (.tmp 63) 2, type := 4, pos := "l10_view.go:159", after := #[⟨33, .data⟩, ⟨35, .data⟩, ⟨29, .guard⟩], guard := some (29, true) } ?_
              refine tk 37 { dst := some 65, op := Op.pick (.tmp 57) (.tmp 64) (Operand.const (Value.bool false)), type := 4, pos := "l10_view.go:159", after := #[⟨29, .data⟩, ⟨36, .data⟩], guard := none } ?_
              refine wpAnyH_done (by kernel_rfl) ?_ _
              (try go_wp2)
              exact ⟨⟨i + 1, by omega, by go_num, by show CBx _ _ _; rw [HF.out]; exact HB.out.drew, Below.drew HX.out⟩, by simp [intOf]; omega⟩
          · have P4 : Hid ((z.kind == 3) = false) := by show _ = _; simpa using h3
            have HF : Hid (Msg.best (Msg.cms (ms.take (i + 1)) id view) ((k : Int) + 1) = o) := by show _ = _; rw [← HOe.out]; exact Msg.cms_same HZ.out HVi.out (fun h => h3 h.1)
            clear h3
            go_wp2
            clear c0 c1 c2 c3 cA cB cC
            refine wp_region_held_drew (S := (fun W' : World => W'.cell? ⟨b1, off1 + i * 7, none⟩ = some (.int .i64 z.kind) ∧ W'.cell? ⟨b1, off1 + i * 7 + 1, none⟩ = some (.int .i64 z.view) ∧ W'.cell? ⟨b1, off1 + i * 7 + 2, none⟩ = some (.int .i64 z.from_) ∧ W'.cell? ⟨b1, off1 + i * 7 + 3, none⟩ = some (.int .i64 z.slot) ∧ W'.cell? ⟨B, 1, none⟩ = some (.int .i64 (Msg.vw o)))) (by kernel_rfl) (HS.out) (fun hHeld => ?_)
            refine tk 0 { dst := some 28, op := Op.move (.tmp 11), type := 97, pos := "l10_view.go:159", after := #[], guard := none } ?_
            refine tk 1 { dst := some 29, op := Op.nilCheck (.tmp 28), type := 0, pos := "l10_view.go:159", after := #[⟨0, .data⟩], guard := none } ?_
            refine tk 2 { dst := some 30, op := Op.fieldAddr 40 (.tmp 29) 0, type := 0, pos := "l10_view.go:159", after := #[⟨1, .data⟩], guard := none } ?_
            refine tk 3 { dst := some 31, op := Op.load 2 (.tmp 30), type := 2, pos := "l10_view.go:159", after := #[⟨2, .data⟩], guard := none } ?_
            refine tk 4 { dst := some 32, op := Op.binOp BinOp.eql 2 (.tmp 31) (Operand.const (Value.int IntKind.i64 3)) 2, type := 4, pos := "l10_view.go:159", after := #[⟨3, .data⟩], guard := none } ?_
            (try rw [P4.out])
            refine tk 5 { dst := some 33, op := Op.move (.tmp 32), type := 4, pos := "l10_view.go:159", after := #[⟨4, .data⟩], guard := none } ?_
            refine tn 6 { dst := some 34, op := Op.move (.tmp 11), type := 97, pos := "l10_view.go:159", after := #[⟨5, .guard⟩], guard := some (5, true) } ?_
            refine tn 7 { dst := some 35, op := Op.nilCheck (.tmp 34), type := 0, pos := "l10_view.go:159", after := #[⟨6, .data⟩, ⟨5, .guard⟩], guard := some (5, true) } ?_
            refine tn 8 { dst := some 36, op := Op.fieldAddr 40 (.tmp 35) 2, type := 0, pos := "l10_view.go:159", after := #[⟨7, .data⟩, ⟨5, .guard⟩], guard := some (5, true) } ?_
            refine tn 9 { dst := some 37, op := Op.load 2 (.tmp 36), type := 2, pos := "l10_view.go:159", after := #[⟨8, .data⟩, ⟨5, .guard⟩], guard := some (5, true) } ?_
            refine tn 10 { dst := some 38, op := Op.move (.tmp 1), type := 2, pos := "l10_view.go:159", after := #[⟨5, .guard⟩], guard := some (5, true) } ?_
            refine tn 11 { dst := some 39, op := Op.binOp BinOp.eql 2 (.tmp 37) (.tmp 38) 2, type := 4, pos := "l10_view.go:159", after := #[⟨9, .data⟩, ⟨10, .data⟩, ⟨5, .guard⟩], guard := some (5, true) } ?_
            refine tk 12 { dst := some 40, op := Op.pick (.tmp 33) (.tmp 39) (Operand.const (Value.bool false)), type := 4, pos := "l10_view.go:159", after := #[⟨5, .data⟩, ⟨11, .data⟩], guard := none } ?_
            refine tk 13 { dst := some 41, op := Op.move (.tmp 40), type := 4, pos := "l10_view.go:159", after := #[⟨12, .data⟩, ⟨5, .chain⟩], guard := none } ?_
            refine tn 14 { dst := some 42, op := Op.move (.tmp 11), type := 97, pos := "l10_view.go:159", after := #[⟨13, .guard⟩], guard := some (13, true) } ?_
            refine tn 15 { dst := some 43, op := Op.nilCheck (.tmp 42), type := 0, pos := "l10_view.go:159", after := #[⟨14, .data⟩, ⟨13, .guard⟩], guard := some (13, true) } ?_
            refine tn 16 { dst := some 44, op := Op.fieldAddr 40 (.tmp 43) 3, type := 0, pos := "l10_view.go:159", after := #[⟨15, .data⟩, ⟨13, .guard⟩], guard := some (13, true) } ?_
            refine tn 17 { dst := some 45, op := Op.load 2 (.tmp 44), type := 2, pos := "l10_view.go:159", after := #[⟨16, .data⟩, ⟨13, .guard⟩], guard := some (13, true) } ?_
            refine tn 18 { dst := some 46, op := Op.move (.tmp 8), type := 2, pos := "l10_view.go:159", after := #[⟨13, .guard⟩], guard := some (13, true) } ?_
            refine tn 19 { dst := some 47, op := Op.binOp BinOp.eql 2 (.tmp 45) (.tmp 46) 2, type := 4, pos := "l10_view.go:159", after := #[⟨17, .data⟩, ⟨18, .data⟩, ⟨13, .guard⟩], guard := some (13, true) } ?_
            refine tk 20 { dst := some 48, op := Op.pick (.tmp 41) (.tmp 47) (Operand.const (Value.bool false)), type := 4, pos := "l10_view.go:159", after := #[⟨13, .data⟩, ⟨19, .data⟩], guard := none } ?_
            refine tk 21 { dst := some 49, op := Op.move (.tmp 48), type := 4, pos := "l10_view.go:159", after := #[⟨20, .data⟩, ⟨13, .chain⟩], guard := none } ?_
            refine tn 22 { dst := some 50, op := Op.move (.tmp 11), type := 97, pos := "l10_view.go:159", after := #[⟨21, .guard⟩], guard := some (21, true) } ?_
            refine tn 23 { dst := some 51, op := Op.nilCheck (.tmp 50), type := 0, pos := "l10_view.go:159", after := #[⟨22, .data⟩, ⟨21, .guard⟩], guard := some (21, true) } ?_
            refine tn 24 { dst := some 52, op := Op.fieldAddr 40 (.tmp 51) 1, type := 0, pos := "l10_view.go:159", after := #[⟨23, .data⟩, ⟨21, .guard⟩], guard := some (21, true) } ?_
            refine tn 25 { dst := some 53, op := Op.load 2 (.tmp 52), type := 2, pos := "l10_view.go:159", after := #[⟨24, .data⟩, ⟨21, .guard⟩], guard := some (21, true) } ?_
            refine tn 26 { dst := some 54, op := Op.move (.tmp 2), type := 2, pos := "l10_view.go:159", after := #[⟨21, .guard⟩], guard := some (21, true) } ?_
            refine tn 27 { dst := some 55, op := Op.binOp BinOp.lss 2 (.tmp 53) (.tmp 54) 2, type := 4, pos := "l10_view.go:159", after := #[⟨25, .data⟩, ⟨26, .data⟩, ⟨21, .guard⟩], guard := some (21, true) } ?_
            refine tk 28 { dst := some 56, op := Op.pick (.tmp 49) (.tmp 55) (Operand.const (Value.bool false)), type := 4, pos := "l10_view.go:159", after := #[⟨21, .data⟩, ⟨27, .data⟩], guard := none } ?_
            refine tk 29 { dst := some 57, op := Op.move (.tmp 56), type := 4, pos := "l10_view.go:159", after := #[⟨28, .data⟩, ⟨21, .chain⟩], guard := none } ?_
            refine tn 30 { dst := some 58, op := Op.move (.tmp 11), type := 97, pos := "l10_view.go:159", after := #[⟨29, .guard⟩], guard := some (29, true) } ?_
            refine tn 31 { dst := some 59, op := Op.nilCheck (.tmp 58), type := 0, pos := "l10_view.go:159", after := #[⟨30, .data⟩, ⟨29, .guard⟩], guard := some (29, true) } ?_
            refine tn 32 { dst := some 60, op := Op.fieldAddr 40 (.tmp 59) 1, type := 0, pos := "l10_view.go:159", after := #[⟨31, .data⟩, ⟨29, .guard⟩], guard := some (29, true) } ?_
            refine tn 33 { dst := some 61, op := Op.load 2 (.tmp 60), type := 2, pos := "l10_view.go:159", after := #[⟨32, .data⟩, ⟨29, .guard⟩], guard := some (29, true) } ?_
            refine tn 34 { dst := some 62, op := Op.fieldAddr 57 (.tmp 9) 1, type := 0, pos := "l10_view.go:159", after := #[⟨29, .guard⟩], guard := some (29, true) } ?_
            refine tn 35 { dst := some 63, op := Op.load 2 (.tmp 62), type := 2, pos := "l10_view.go:159", after := #[⟨34, .data⟩, ⟨29, .guard⟩], guard := some (29, true) } ?_
            refine tn 36 { dst := some 64, op := Op.binOp BinOp.gtr 2 (.tmp 61) (.tmp 63) 2, type := 4, pos := "l10_view.go:159", after := #[⟨33, .data⟩, ⟨35, .data⟩, ⟨29, .guard⟩], guard := some (29, true) } ?_
            refine tk 37 { dst := some 65, op := Op.pick (.tmp 57) (.tmp 64) (Operand.const (Value.bool false)), type := 4, pos := "l10_view.go:159", after := #[⟨29, .data⟩, ⟨36, .data⟩], guard := none } ?_
            refine wpAnyH_done (by kernel_rfl) ?_ _
            (try go_wp2)
            exact ⟨⟨i + 1, by omega, by go_num, by show CBx _ _ _; rw [HF.out]; exact HB.out.drew, Below.drew HX.out⟩, by simp [intOf]; omega⟩
        · have hie : i = ms.length := by omega
          have HFo : Hid (Msg.best (Msg.cms (ms.take i) id view) ((k : Int) + 1) = Msg.best (Msg.cms ms id view) ((k : Int) + 1)) := by show _ = _; rw [hie, List.take_length]
          rw [HFo.out] at HB
          have HOx : Hid (wr.ownsRow (w.heap.size) 57 3 u7 (Msg.ns (Msg.cms ms id view) k).length (cellsCt (Msg.ns (Msg.cms ms id view) k))) := own_below HOa.out HX.out HQ0.out
          have hwx : w.heap.size ≤ wr.heap.size := HEi.out.size
          cases hbs : Msg.best (Msg.cms ms id view) ((k : Int) + 1) with
          | none =>
            have HK2 : Hid (Msg.ns (Msg.cms ms id view) (k + 1) = Msg.ns (Msg.cms ms id view) k) := Msg.ns_no hbs
            rw [hbs] at HB
            have HO9 : Hid (wr.ownsRow (w.heap.size) 57 3 u7 (Msg.ns (Msg.cms ms id view) (k + 1)).length (cellsCt (Msg.ns (Msg.cms ms id view) (k + 1)))) := by show wr.ownsRow _ _ _ _ _ _; rw [HK2.out]; exact HOx.out
            obtain ⟨hbB, ⟨cA, cB, cC⟩, -⟩ := HB.out
            have cB' : wr.cell? ⟨B, 1, none⟩ = some (.int .i64 (-1)) := cB
            clear hbs cA cB cC hie
            go_wp2
            exact ⟨⟨k + 1, by omega, by go_num, HO9, HEi⟩, by simp [intOf]; omega⟩
          | some c =>
            obtain ⟨hcm, hcs⟩ := Msg.best_mem hbs
            have hcv := HCi.out c hcm
            have HK2 : Hid (Msg.ns (Msg.cms ms id view) (k + 1) = Msg.ns (Msg.cms ms id view) k ++ [c]) := Msg.ns_yes hbs
            rw [hbs] at HB
            have HBc : Hid (CBx wr B c) := by
              have h := HB.out
              rw [show (⟨(k : Int) + 1, Msg.vw (some c), Msg.vl (some c)⟩ : Ct) = c from by rw [← hcs]; rfl] at h
              exact h
            obtain ⟨hbB, ⟨cA, cB, cC⟩, -⟩ := HBc.out
            clear hbs hcm hcs hie HB HFo
            go_wp2_with (at_builtin; go_must (refine wpList_append_own _ rfl _ _ 37 rfl (w.heap.size) 57 tc (.agg #[.int .i64 0, .int .i64 0, .int .i64 0]) 3 24 Tryz.underlying37 htc hy0 hy1 hy2 rfl (by decide) _ _ _ rfl (HOx.out.alloc _) ⟨wr.heap.size, 0, none⟩ 1 1 (cellsCt [c]) rfl rfl (cells_ct _ _ _) (cellsCt_one _) (by unfold maxLen; omega) (by omega) (by simp; omega) ?_; intro v6 w6 hown6 hgrow6 hnil6))
            refine ⟨⟨k + 1, by omega, by go_num, ?_, Below.grown (HEi.out.alloc _) hgrow6 (by simp; omega) (fun q hq => (HOx.out.lt q hq).1)⟩, by simp [intOf]; omega⟩
            show w6.ownsRow _ _ _ _ _ _
            rw [HK2.out, cellsCt_app, List.length_append]
            exact hown6
    · have hke : k = 30 := by omega
      subst hke
      obtain ⟨g, hg1, hT⟩ := ctown_of_owns HO.out
      obtain ⟨a8, c8, rfl, -⟩ := _root_.id hT
      have HT : Hid (w.heap.size ≤ g ∧ CtOwn wo (.slice a8 (Msg.ns (Msg.cms ms id view) 30).length c8) g (Msg.ns (Msg.cms ms id view) 30)) := ⟨hg1, hT⟩
      clear hT hg1
      go_wp2
      go_ret
      first | exact ⟨_, g, rfl, HT.out.1, HT.out.2, HE.out⟩ | exact ⟨_, rfl, g, HT.out.1, HT.out.2, HE.out⟩

end Go.Proofs.YtecgjdgfjgcmdaaGreat
