/- what a new view takes over: the program's. -/
import Derived.Test.YtecgjdgfjgcmdaaGreatRcQV7a
import Derived.Test.YtecgjdgfjgcmdaaGreatRcQV5
namespace Go.Proofs.YtecgjdgfjgcmdaaGreat
open Go.RowKit
theorem append_none_cap {P : Program} {w : World} {ops : Array Oper} {rest : List Oper} {o : Oper} {a : Act} {Q : Exit → Act → World → Prop} (hgd : o.guard = none) (s x : Operand) (t : TypeId)
    (ho : o.op = .call { callee := .builtin .append, args := #[s, x], argTypes := #[t, t] })
    (base : Nat) (e : TypeId) (i : TypeInfo) (size : Nat) (ht : P.underlying t = some (.slice e)) (hi : P.info? e = some i)
    (v : Value) (n : Nat) (xs : List Value) (hs : a.eval s = v) (hown : w.ownsRow base e size v n xs) (c : Nat) (hx : a.eval x = .slice none 0 c)
    (h : wpList P ops Q rest (a.put o.dst v) w) : wpList P ops Q (o :: rest) a w := by
  refine wpList_plain hgd fun K hK => ?_
  have hrun : (Builtin.append_ #[t, t] o.type #[v, .slice none 0 c]).run P w = .ok v w := by
    rcases hown.2 with ⟨rfl, rfl⟩ | ⟨g, cap, cur, rfl, _, _, hnc, _⟩
    · simp [Builtin.append_, run_underlying ht, sizeOf, typeInfo, hi, Builtin.lenOf, Builtin.firstCells]
    · simp [Builtin.append_, run_underlying ht, sizeOf, typeInfo, hi, Builtin.lenOf, Builtin.firstCells, hnc, storeCells]
  unfold Oper.wp
  simp [execOp, ho, resolve, invoke, builtin, hs, hx, hrun, Result.andThen]
  exact hK _ _ h
theorem row_ne {w : World} {base : Nat} {e e' : TypeId} {size n : Nat} {v : Value} {xs : List Value} (h : w.ownsRow base e size v n xs) {b : Nat} {cs : Array Value} (hb : w.heap[b]? = some (.cells cs e')) (hne : e ≠ e') : v.ownBlock ≠ some b := by
  intro hq
  rcases h.2 with ⟨rfl, -⟩ | ⟨g, cap, cur, rfl, hg, hgg, -⟩
  · cases hq
  · cases hq
    rw [hgg] at hb
    injection hb with hb
    injection hb with h1 h2
    exact hne h2
theorem block_cells {w : World} {b : Nat} {c : Ct} {t : TypeId} (h : w.heap[b]? = some (.cells #[.int .i64 c.slot, .int .i64 c.view, .int .i64 c.value] t)) : w.cell? ⟨b, 0, none⟩ = some (.int .i64 c.slot) ∧ w.cell? ⟨b, 1, none⟩ = some (.int .i64 c.view) ∧ w.cell? ⟨b, 2, none⟩ = some (.int .i64 c.value) := by
  unfold World.cell?
  simp [h]
theorem Msg.zeros_snoc (n : Nat) : Msg.zeros (n + 1) = Msg.zeros n ++ [0] := by unfold Msg.zeros; rw [List.replicate_succ']
theorem Msg.zeros_len (n : Nat) : (Msg.zeros n).length = n := by unfold Msg.zeros; rw [List.length_replicate]

set_option maxHeartbeats 8000000 in
set_option maxRecDepth 100000 in
theorem valuesTakenOver_any (f : Int) (v : Value) (ms : List Ms) (u : Value) (ps : List Int) (w : World) (hS : MSlice w v ms) (hI : ISlice w u ps) (hled : Msg.ledger f ms = 0) (hin : ∀ p ∈ ps, 0 ≤ p ∧ p < (ms.length : Int)) (hpl : ps.length ≤ 240) :
    Calls Tryz.prog 164 #[v, u] w fun e w' => ∃ vo g, e = .returned vo ∧ w.heap.size ≤ g ∧ Led.IOwn w' vo g (Msg.picks ms ps) ∧ Ext w w' := by
  have hi9 : (Tryz.prog.info? 2).map (fun i => (i.zero, i.size, i.bytes)) = some (some (.int .i64 0), 1, 8) := by kernel_rfl
  obtain ⟨ti, hti, hxx⟩ := Option.map_eq_some_iff.1 hi9
  simp only [Prod.mk.injEq] at hxx
  obtain ⟨hz0, hz1, hz2⟩ := hxx
  clear hi9
  have hi9 : (Tryz.prog.info? 57).map (fun i => (i.zero, i.size, i.bytes)) = some (some (.agg #[.int .i64 0, .int .i64 0, .int .i64 0]), 3, 24) := by kernel_rfl
  obtain ⟨tc, htc, hxx⟩ := Option.map_eq_some_iff.1 hi9
  simp only [Prod.mk.injEq] at hxx
  obtain ⟨hy0, hy1, hy2⟩ := hxx
  clear hi9
  have HNS : Hid (∀ (x : Value) (cs : List Ct) (wx : World), CtSlice wx x cs → cs.length ≤ 10000 → Calls Tryz.prog 85 #[x] wx fun e w' => ∃ vo g, e = .returned vo ∧ wx.heap.size ≤ g ∧ CtOwn w' vo g (Msg.ns cs 30) ∧ Ext wx w') := fun x cs wx h1 h2 => newestOfSlots_any x cs wx h1 h2
  have HCl : Hid (∀ l : List Int, (Msg.cat ms l).length ≤ 30 * l.length) := fun l => Msg.cat_len hled l
  have HS : Hid (MSlice w v ms) := hS
  obtain ⟨a, cap, rfl, -, -, -⟩ := hS
  obtain ⟨a2, cap2, rfl, hlc, hcm, hx⟩ := hI
  have HX : Hid (0 < ps.length → ∃ b off, a2 = some ⟨b, off, none⟩ ∧ b < w.heap.size ∧ NumsAt w b off ps) := hx
  have HIn : Hid (∀ p ∈ ps, 0 ≤ p ∧ p < (ms.length : Int)) := hin
  clear hx hin hled
  unfold maxLen at hcm
  go_enter Tryz.func164, Tryz.ntmps164
  go_wp2
  go_loopw [5, 13] (fun ov i wr => ∃ (k : Nat), k ≤ ps.length ∧ i = .int .i64 k ∧ Hid (wr.ownsRow (w.heap.size) 57 3 ov (Msg.cat ms (ps.take k)).length (cellsCt (Msg.cat ms (ps.take k)))) ∧ Hid (Ext w wr)) (fun _ i _ => ps.length - (intOf i).toNat)
  case atStart => exact ⟨0, Nat.zero_le _, rfl, World.ownsRow_nil _ _ _ _, Ext.refl _⟩
  case round =>
    obtain ⟨k, hk, rfl, HO, HE⟩ := hrel
    by_cases hlt : k < ps.length
    · obtain ⟨p, hpk⟩ : ∃ p, ps[k]? = some p := ⟨_, List.getElem?_eq_getElem hlt⟩
      obtain ⟨b, off, rfl, hb, hN⟩ := HX.out (by omega)
      have d0 := hN.ext hb HE.out k p hpk
      have hp := HIn.out p (List.mem_of_getElem? hpk)
      obtain ⟨z, h2, h3⟩ := Msg.nth_at hp.1 hp.2
      obtain ⟨q, rfl⟩ : ∃ k : Nat, p = k := ⟨p.toNat, by omega⟩
      have h2 : ms[q]? = some z := h2
      obtain ⟨b1, off1, cap1, e1, hlt1, hlm1, hcm1, hb1, hm⟩ := (HS.out.ext HE.out).at2 h2
      injection e1 with e1 e4 e5
      subst e1 e5
      obtain ⟨vz, uz, ⟨-, -, -, -, -, c5, -⟩, hL⟩ := hm
      obtain ⟨⟨ac, cc, rfl, hcc, hccm, hcx⟩, -⟩ := hL
      have HK2 : Hid (Msg.cat ms (ps.take (k + 1)) = Msg.cat ms (ps.take k) ++ z.certs) := by show _ = _; rw [Msg.cat_step hpk, Msg.certsAt_some h3]
      have hc1 : (Msg.cat ms (ps.take k)).length ≤ 7200 := by have := HCl.out (ps.take k); rw [List.length_take] at this; omega
      have hc2 : (Msg.cat ms (ps.take (k + 1))).length ≤ 7200 := by have := HCl.out (ps.take (k + 1)); rw [List.length_take] at this; omega
      have hc3 : (Msg.cat ms (ps.take k)).length + z.certs.length ≤ 7200 := by rw [HK2.out, List.length_append] at hc2; exact hc2
      have hws : w.heap.size ≤ wr.heap.size := HE.out.size
      clear hpk hN h2 h3 hp e4
      cases ac with
      | none =>
        have hz0' : z.certs = [] := by
          by_cases h0 : 0 < z.certs.length
          · obtain ⟨b9, o9, e9, -⟩ := hcx h0; cases e9
          · exact List.eq_nil_of_length_eq_zero (by omega)
        rw [hz0'] at HK2 c5
        rw [List.append_nil] at HK2
        have HO9 : Hid (wr.ownsRow (w.heap.size) 57 3 u5 (Msg.cat ms (ps.take (k + 1))).length (cellsCt (Msg.cat ms (ps.take (k + 1))))) := by show wr.ownsRow _ _ _ _ _ _; rw [HK2.out]; exact HO.out
        rw [List.length_nil] at c5
        clear hcx hz0'
        go_wp2_with (at_builtin; go_must (refine append_none_cap rfl _ _ 37 rfl w.heap.size 57 tc 3 Tryz.underlying37 htc _ _ _ rfl HO.out cc rfl ?_))
        exact ⟨⟨k + 1, by omega, by go_num, HO9, HE⟩, by simp [intOf]; omega⟩
      | some ad =>
        have HNw : Hid (∀ j u, (cellsCt z.certs)[j]? = some u → wr.cell? (ad.add j) = some u) := by
          by_cases h0 : 0 < z.certs.length
          · obtain ⟨b9, o9, e9, hb9, hC9⟩ := hcx h0
            cases e9
            exact hC9.news
          · intro j u hj
            rw [List.eq_nil_of_length_eq_zero (show z.certs.length = 0 by omega)] at hj
            simp [cellsCt] at hj
        clear hcx
        go_wp2_with (at_builtin; go_must (refine wpList_append_own _ rfl _ _ 37 rfl (w.heap.size) 57 tc (.agg #[.int .i64 0, .int .i64 0, .int .i64 0]) 3 24 Tryz.underlying37 htc hy0 hy1 hy2 rfl (by decide) _ _ _ rfl HO.out ad z.certs.length cc (cellsCt z.certs) rfl (cellsCt_len _) HNw.out (cellsCt_one _) (by unfold maxLen; omega) (by omega) (by omega) ?_; intro v6 w6 hown6 hgrow6 hnil6))
        refine ⟨⟨k + 1, by omega, by go_num, ?_, Below.grown HE.out hgrow6 hws (fun q hq => (HO.out.lt q hq).1)⟩, by simp [intOf]; omega⟩
        show w6.ownsRow _ _ _ _ _ _
        rw [HK2.out, cellsCt_app, List.length_append]
        exact hown6
    · have hke : k = ps.length := by omega
      have HO2 : Hid (wr.ownsRow (w.heap.size) 57 3 u5 (Msg.cat ms ps).length (cellsCt (Msg.cat ms ps))) := by have h := HO.out; rw [hke, List.take_length] at h; exact h
      have hcl := HCl.out ps
      clear HO
      obtain ⟨g, hg1, hT⟩ := ctown_of_owns HO2.out
      obtain ⟨a8, c8, rfl, -⟩ := id hT
      have HT : Hid (CtSlice wr (.slice a8 (Msg.cat ms ps).length c8) (Msg.cat ms ps)) := hT.slice
      clear hT hg1 HO2
      subst hke
      go_wp2_with fail
      refine (HNS.out _ _ _ HT.out (by omega)).mono ?_
      rintro e w3 ⟨v3, g3, rfl, -, hO3, hb3⟩
      have HE3 : Hid (Ext w w3) := HE.out.trans hb3
      have HFi : Hid (Msg.picks ms ps = Msg.fillK (Msg.ns (Msg.cat ms ps) 30) (Msg.ns (Msg.cat ms ps) 30).length) := by
        show _ = _
        rw [Msg.fill_ns]; rfl
      have hnl := Msg.ns_len (Msg.cat ms ps) 30
      have HMem : Hid (∀ c ∈ Msg.ns (Msg.cat ms ps) 30, 1 ≤ c.slot ∧ c.slot ≤ 30) := fun c hc => by have := (Msg.ns_mem 30 hc).2; omega
      have HRis : Hid (∀ (i j : Nat) c d, i < j → (Msg.ns (Msg.cat ms ps) 30)[i]? = some c → (Msg.ns (Msg.cat ms ps) 30)[j]? = some d → c.slot < d.slot) := Msg.ns_ris _ _
      obtain ⟨a3, c3, rfl, hlc3, hcm3, hx3⟩ := hO3.slice
      unfold maxLen at hcm3
      have HP : Hid (Msg.picks ms ps = Msg.picks ms ps) := rfl
      generalize Msg.ns (Msg.cat ms ps) 30 = l at *
      have HX3 : Hid (0 < l.length → ∃ b off, a3 = some ⟨b, off, none⟩ ∧ b < w3.heap.size ∧ CtsAt w3 b off l) := hx3
      clear hx3 hO3 hb3 HT hcl HE HP
      go_wp2
      go_loopw [8, 28] (fun ov i wy => ∃ (k : Nat), k ≤ l.length ∧ i = .int .i64 k ∧ Hid (wy.ownsRow (w3.heap.size) 2 1 ov (Msg.fillK l k).length ((Msg.fillK l k).map (Value.int .i64))) ∧ Hid (Ext w3 wy)) (fun _ i _ => l.length - (intOf i).toNat)
      case atStart => exact ⟨0, Nat.zero_le _, rfl, World.ownsRow_nil _ _ _ _, Ext.refl _⟩
      case round =>
        obtain ⟨k, hk, rfl, HO, HE⟩ := hrel
        obtain ⟨wo, hwo⟩ : ∃ wo, wo = wr := ⟨_, rfl⟩
        subst hwo
        by_cases hlt2 : k < l.length
        · obtain ⟨c, hck⟩ : ∃ c, l[k]? = some c := ⟨_, List.getElem?_eq_getElem hlt2⟩
          obtain ⟨b, off, rfl, hb, hN⟩ := HX3.out (by omega)
          obtain ⟨d0, d1, d2⟩ := hN.ext hb HE.out k c hck
          have HStep : Hid (Msg.fillK l (k + 1) = Msg.fill1 (Msg.fillK l k) c) := Msg.fillK_step hck
          obtain ⟨hcs1, hcs2⟩ := HMem.out c (List.mem_of_getElem? hck)
          have hfl := Msg.fillK_len l HMem.out HRis.out k c hck
          have hwc : IntKind.i64.wrap (c.slot - 1) = c.slot - 1 := by rw [IntKind.wrap_i64]; omega
          have hws : w3.heap.size ≤ wo.heap.size := HE.out.size
          have HB0 : Hid ((wo.alloc (.cells #[.int .i64 c.slot, .int .i64 c.view, .int .i64 c.value] 57)).heap[wo.heap.size]? = some (.cells #[.int .i64 c.slot, .int .i64 c.view, .int .i64 c.value] 57)) := heap_alloc_new wo _
          obtain ⟨fk, HFk⟩ : ∃ fk, Hid (Msg.fillK l k = fk) := ⟨_, rfl⟩
          rw [HFk.out] at HO HStep hfl
          obtain ⟨n, hn⟩ : ∃ n : Nat, n = (c.slot - 1).toNat - fk.length := ⟨_, rfl⟩
          have hnn : (n : Int) = c.slot - 1 - fk.length := by omega
          have HSt2 : Hid (Msg.fillK l (k + 1) = fk ++ Msg.zeros n ++ [c.value]) := by show _ = _; rw [HStep.out, hn]; rfl
          clear hck hN hn HStep HFk
          go_wp2
          clear d0 d1 d2
          go_loopw [8] (fun ov wy => ∃ (j : Nat), j ≤ n ∧ Hid (wy.ownsRow (w3.heap.size) 2 1 ov (fk ++ Msg.zeros j).length ((fk ++ Msg.zeros j).map (Value.int .i64))) ∧ Hid (wy.heap[wo.heap.size]? = some (.cells #[.int .i64 c.slot, .int .i64 c.view, .int .i64 c.value] 57)) ∧ Hid (Ext w3 wy)) (fun ov _ => match ov with | .slice _ m _ => 40 - m | _ => 0)
          case atStart => exact ⟨0, Nat.zero_le _, by show _; rw [show Msg.zeros 0 = [] from rfl, List.append_nil]; exact HO.out.alloc _, HB0, HE.out.alloc _⟩
          case round =>
            obtain ⟨j, hj, HOj, HBj, HEj⟩ := hrel
            obtain ⟨ar, cr, hrow⟩ := Led.owns_form HOj.out
            have hlj : (fk ++ Msg.zeros j).length = fk.length + j := by rw [List.length_append, Msg.zeros_len]
            rw [hlj] at HOj hrow
            subst hrow
            obtain ⟨x0, x1, x2⟩ := block_cells HBj.out
            have hwsj : w3.heap.size ≤ wr.heap.size := HEj.out.size
            have hlt9 : wo.heap.size < wr.heap.size := (Array.getElem?_eq_some_iff.1 HBj.out).1
            have hBd : Hid (∀ o, (wr.alloc o).heap[wo.heap.size]? = some (.cells #[.int .i64 c.slot, .int .i64 c.view, .int .i64 c.value] 57)) := fun o => by rw [heap_alloc_old _ _ hlt9]; exact HBj.out
            by_cases hlj2 : j < n
            · have ht : ((fk.length + j : Nat) : Int) < c.slot - 1 := by omega
              go_wp2_with (at_builtin; go_must (refine wpList_append_own _ rfl _ _ 38 rfl (w3.heap.size) 2 ti (.int .i64 0) 1 8 Tryz.underlying38 hti hz0 hz1 hz2 rfl (by decide) _ _ _ rfl (HOj.out.alloc _) ⟨wr.heap.size, 0, none⟩ 1 1 [.int .i64 (0)] rfl rfl (cellM_one _ _ _ _ rfl) (ints_oneCell .i64 [(0)]) (by unfold maxLen; omega) (by omega) (by simp; omega) ?_; intro v6 w6 hown6 hgrow6 hnil6))
              refine ⟨⟨j + 1, by omega, ?_, ?_, Below.grown (HEj.out.alloc _) hgrow6 (by simp; omega) (fun q hq => (HOj.out.lt q hq).1)⟩, ?_⟩
              · show w6.ownsRow _ _ _ _ _ _
                rw [Msg.zeros_snoc, ← List.append_assoc, List.length_append, hlj, List.map_append]
                exact hown6
              · exact (hgrow6.block _ (by simp; omega) (fun e => row_ne HOj.out HBj.out (by decide) e.symm)).trans (hBd.out _)
              · obtain ⟨a9, c9, h9⟩ := Led.owns_form hown6
                rw [h9]
                simp
                omega
            · have hje : j = n := by omega
              have ht : ¬ ((fk.length + j : Nat) : Int) < c.slot - 1 := by omega
              subst hje
              go_wp2_with (at_builtin; go_must (refine wpList_append_own _ rfl _ _ 38 rfl (w3.heap.size) 2 ti (.int .i64 0) 1 8 Tryz.underlying38 hti hz0 hz1 hz2 rfl (by decide) _ _ _ rfl (HOj.out.alloc _) ⟨wr.heap.size, 0, none⟩ 1 1 [.int .i64 (c.value)] rfl rfl (cellM_one _ _ _ _ rfl) (ints_oneCell .i64 [(c.value)]) (by unfold maxLen; omega) (by omega) (by simp; omega) ?_; intro v6 w6 hown6 hgrow6 hnil6))
              refine ⟨⟨k + 1, by omega, by go_num, ?_, Below.grown (HEj.out.alloc _) hgrow6 (by simp; omega) (fun q hq => (HOj.out.lt q hq).1)⟩, by simp [intOf]; omega⟩
              show w6.ownsRow _ _ _ _ _ _
              rw [HSt2.out, List.length_append, hlj, List.map_append]
              exact hown6
        · have hke : k = l.length := by omega
          subst hke
          rw [← HFi.out] at HO
          obtain ⟨g, hg1, hg2, hT⟩ := Led.iown_of_owns HO.out
          obtain ⟨a8, c8, rfl, -⟩ := id hT
          have HT : Hid (w.heap.size ≤ g ∧ Led.IOwn wo (.slice a8 (Msg.picks ms ps).length c8) g (Msg.picks ms ps)) := ⟨Nat.le_trans HE3.out.size hg1, hT⟩
          clear hT hg1 hg2
          go_wp2
          go_ret
          exact ⟨_, g, rfl, HT.out.1, HT.out.2, HE3.out.trans HE.out⟩
end Go.Proofs.YtecgjdgfjgcmdaaGreat
