/- QV7b, QV6, QV8, QS8, in one text. -/
import Derived.Test.YtecgjdgfjgcmdaaGreatRtQV7a
import Derived.Test.YtecgjdgfjgcmdaaGreatRtQV5
import Derived.Deep.RegionHeld3
import Derived.Test.YtecgjdgfjgcmdaaGreatRtG3
import Derived.Test.YtecgjdgfjgcmdaaGreatRtQS5
import Derived.Test.YtecgjdgfjgcmdaaGreatRtTk
namespace Go.Proofs.YtecgjdgfjgcmdaaGreat
open Go.RowKit
theorem append_none_cap {P : Program} {w : World} {ops : Array Oper} {rest : List Oper} {o : Oper} {a : Act} {Q : Exit → Act → World → Prop} (hgd : o.guard = none) (s x : Operand) (t : TypeId)
  (ho : o.op = .call { callee := .builtin .append, args := #[s, x], argTypes := #[t, t] })
  (base : Nat) (e : TypeId) (i : TypeInfo) (size : Nat) (ht : P.underlying t = some (.slice e)) (hi : P.info? e = some i)
  (v : Value) (n : Nat) (xs : List Value) (hs : a.eval s = v) (hown : w.ownsRow base e size v n xs) (c : Nat) (hx : a.eval x = .slice none 0 c)
  (h : wpList P ops Q rest (a.put o.dst v) w) : wpList P ops Q (o :: rest) a w := by
 refine wpList_plain hgd fun K hK => ?_
 have hrun : (Builtin.append_ #[t, t] o.type #[v, .slice none 0 c]).run P w = .ok v w := by
  rcases hown.2 with ⟨rfl, rfl⟩ | ⟨g, cap, cur, rfl, _, _, hnc, _⟩
  ·simp [Builtin.append_, run_underlying ht, sizeOf, typeInfo, hi, Builtin.lenOf, Builtin.firstCells]
  ·simp [Builtin.append_, run_underlying ht, sizeOf, typeInfo, hi, Builtin.lenOf, Builtin.firstCells, hnc, storeCells]
 unfold Oper.wp
 simp [execOp, ho, resolve, invoke, builtin, hs, hx, hrun, Result.andThen]
 exact hK _ _ h
theorem row_ne {w : World} {base : Nat} {e e' : TypeId} {size n : Nat} {v : Value} {xs : List Value} (h : w.ownsRow base e size v n xs) {b : Nat} {cs : Array Value} (hb : w.heap[b]? = some (.cells cs e')) (hne : e ≠ e') : v.ownBlock ≠ some b := by
 intro hq
 rcases h.2 with ⟨rfl, -⟩ | ⟨g, cap, cur, rfl, hg, hgg, -⟩
 ·cases hq
 ·cases hq
  rw [hgg] at hb
  injection hb with hb
  injection hb with h1 h2
  exact hne h2
theorem block_cells {w : World} {b : Nat} {c : Ct} {t : TypeId} (h : w.heap[b]? = some (.cells #[.int .i64 c.slot, .int .i64 c.view, .int .i64 c.value] t)) : w.cell? ⟨b, 0, none⟩ = some (.int .i64 c.slot) ∧ w.cell? ⟨b, 1, none⟩ = some (.int .i64 c.view) ∧ w.cell? ⟨b, 2, none⟩ = some (.int .i64 c.value) := by
 unfold World.cell?
 simp [h]
theorem Msg.zeros_snoc (n : Nat) : Msg.zeros (n + 1) = Msg.zeros n ++ [0] := by unfold Msg.zeros; rw [List.replicate_succ']
theorem Msg.zeros_len (n : Nat) : (Msg.zeros n).length = n := by unfold Msg.zeros; rw [List.length_replicate]

set_option maxHeartbeats 8000000 in
set_option maxRecDepth 100000 in
theorem valuesTakenOver_any (f : Int) (v : Value) (ms : List Ms) (u : Value) (ps : List Int) (w : World) (hS : MSlice w v ms) (hI : ISlice w u ps) (hled : Msg.ledger f ms = 0) (hin : ∀ p ∈ ps, 0 ≤ p ∧ p < (ms.length : Int)) (hpl : ps.length ≤ 240) :
  Calls Tryz.prog 164 #[v, u] w fun e w' => ∃ vo g, e = .returned vo ∧ w.heap.size ≤ g ∧ Led.IOwn w' vo g (Msg.picks ms ps) ∧ Ext w w' := by
 have hi9 : (Tryz.prog.info? 2).map (fun i => (i.zero, i.size, i.bytes)) = some (some (.int .i64 0), 1, 8) := by kernel_rfl
 obtain ⟨ti, hti, hxx⟩ := Option.map_eq_some_iff.1 hi9
 simp only [Prod.mk.injEq] at hxx
 obtain ⟨hz0, hz1, hz2⟩ := hxx
 clear hi9
 have hi9 : (Tryz.prog.info? 57).map (fun i => (i.zero, i.size, i.bytes)) = some (some (.agg #[.int .i64 0, .int .i64 0, .int .i64 0]), 3, 24) := by kernel_rfl
 obtain ⟨tc, htc, hxx⟩ := Option.map_eq_some_iff.1 hi9
 simp only [Prod.mk.injEq] at hxx
 obtain ⟨hy0, hy1, hy2⟩ := hxx
 clear hi9
 have HNS : Hid (∀ (x : Value) (cs : List Ct) (wx : World), CtSlice wx x cs → cs.length ≤ 10000 → Calls Tryz.prog 85 #[x] wx fun e w' => ∃ vo g, e = .returned vo ∧ wx.heap.size ≤ g ∧ CtOwn w' vo g (Msg.ns cs 30) ∧ Ext wx w') := fun x cs wx h1 h2 => newestOfSlots_any x cs wx h1 h2
 have HCl : Hid (∀ l : List Int, (Msg.cat ms l).length ≤ 30 * l.length) := fun l => Msg.cat_len hled l
 have HS : Hid (MSlice w v ms) := hS
 obtain ⟨a, cap, rfl, -, -, -⟩ := hS
 obtain ⟨a2, cap2, rfl, hlc, hcm, hx⟩ := hI
 have HX : Hid (0 < ps.length → ∃ b off, a2 = some ⟨b, off, none⟩ ∧ b < w.heap.size ∧ NumsAt w b off ps) := hx
 have HIn : Hid (∀ p ∈ ps, 0 ≤ p ∧ p < (ms.length : Int)) := hin
 clear hx hin hled
 unfold maxLen at hcm
 go_enter Tryz.func164, Tryz.ntmps164
 go_wp2
 go_loopw [5, 13] (fun ov i wr => ∃ (k : Nat), k ≤ ps.length ∧ i = .int .i64 k ∧ Hid (wr.ownsRow (w.heap.size) 57 3 ov (Msg.cat ms (ps.take k)).length (cellsCt (Msg.cat ms (ps.take k)))) ∧ Hid (Ext w wr)) (fun _ i _ => ps.length - (intOf i).toNat)
 case atStart => exact ⟨0, Nat.zero_le _, rfl, World.ownsRow_nil _ _ _ _, Ext.refl _⟩
 case round =>
  obtain ⟨k, hk, rfl, HO, HE⟩ := hrel
  by_cases hlt : k < ps.length
  ·obtain ⟨p, hpk⟩ : ∃ p, ps[k]? = some p := ⟨_, List.getElem?_eq_getElem hlt⟩
   obtain ⟨b, off, rfl, hb, hN⟩ := HX.out (by omega)
   have d0 := hN.ext hb HE.out k p hpk
   have hp := HIn.out p (List.mem_of_getElem? hpk)
   obtain ⟨z, h2, h3⟩ := Msg.nth_at hp.1 hp.2
   obtain ⟨q, rfl⟩ : ∃ k : Nat, p = k := ⟨p.toNat, by omega⟩
   have h2 : ms[q]? = some z := h2
   obtain ⟨b1, off1, cap1, e1, hlt1, hlm1, hcm1, hb1, hm⟩ := (HS.out.ext HE.out).at2 h2
   injection e1 with e1 e4 e5
   subst e1 e5
   obtain ⟨vz, uz, ⟨-, -, -, -, -, c5, -⟩, hL⟩ := hm
   obtain ⟨⟨ac, cc, rfl, hcc, hccm, hcx⟩, -⟩ := hL
   have HK2 : Hid (Msg.cat ms (ps.take (k + 1)) = Msg.cat ms (ps.take k) ++ z.certs) := by show _ = _; rw [Msg.cat_step hpk, Msg.certsAt_some h3]
   have hc1 : (Msg.cat ms (ps.take k)).length ≤ 7200 := by have := HCl.out (ps.take k); rw [List.length_take] at this; omega
   have hc2 : (Msg.cat ms (ps.take (k + 1))).length ≤ 7200 := by have := HCl.out (ps.take (k + 1)); rw [List.length_take] at this; omega
   have hc3 : (Msg.cat ms (ps.take k)).length + z.certs.length ≤ 7200 := by rw [HK2.out, List.length_append] at hc2; exact hc2
   have hws : w.heap.size ≤ wr.heap.size := HE.out.size
   clear hpk hN h2 h3 hp e4
   cases ac with
   | none =>
    have hz0' : z.certs = [] := by
     by_cases h0 : 0 < z.certs.length
     ·obtain ⟨b9, o9, e9, -⟩ := hcx h0; cases e9
     ·exact List.eq_nil_of_length_eq_zero (by omega)
    rw [hz0'] at HK2 c5
    rw [List.append_nil] at HK2
    have HO9 : Hid (wr.ownsRow (w.heap.size) 57 3 u5 (Msg.cat ms (ps.take (k + 1))).length (cellsCt (Msg.cat ms (ps.take (k + 1))))) := by show wr.ownsRow _ _ _ _ _ _; rw [HK2.out]; exact HO.out
    rw [List.length_nil] at c5
    clear hcx hz0'
    go_wp2_with (at_builtin; go_must (refine append_none_cap rfl _ _ 37 rfl w.heap.size 57 tc 3 Tryz.underlying37 htc _ _ _ rfl HO.out cc rfl ?_))
    exact ⟨⟨k + 1, by omega, by go_num, HO9, HE⟩, by simp [intOf]; omega⟩
   | some ad =>
    have HNw : Hid (∀ j u, (cellsCt z.certs)[j]? = some u → wr.cell? (ad.add j) = some u) := by
     by_cases h0 : 0 < z.certs.length
     ·obtain ⟨b9, o9, e9, hb9, hC9⟩ := hcx h0
      cases e9
      exact hC9.news
     ·intro j u hj
      rw [List.eq_nil_of_length_eq_zero (show z.certs.length = 0 by omega)] at hj
      simp [cellsCt] at hj
    clear hcx
    go_wp2_with (at_builtin; go_must (refine wpList_append_own _ rfl _ _ 37 rfl (w.heap.size) 57 tc (.agg #[.int .i64 0, .int .i64 0, .int .i64 0]) 3 24 Tryz.underlying37 htc hy0 hy1 hy2 rfl (by decide) _ _ _ rfl HO.out ad z.certs.length cc (cellsCt z.certs) rfl (cellsCt_len _) HNw.out (cellsCt_one _) (by unfold maxLen; omega) (by omega) (by omega) ?_; intro v6 w6 hown6 hgrow6 hnil6))
    refine ⟨⟨k + 1, by omega, by go_num, ?_, Below.grown HE.out hgrow6 hws (fun q hq => (HO.out.lt q hq).1)⟩, by simp [intOf]; omega⟩
    show w6.ownsRow _ _ _ _ _ _
    rw [HK2.out, cellsCt_app, List.length_append]
    exact hown6
  ·have hke : k = ps.length := by omega
   have HO2 : Hid (wr.ownsRow (w.heap.size) 57 3 u5 (Msg.cat ms ps).length (cellsCt (Msg.cat ms ps))) := by have h := HO.out; rw [hke, List.take_length] at h; exact h
   have hcl := HCl.out ps
   clear HO
   obtain ⟨g, hg1, hT⟩ := ctown_of_owns HO2.out
   obtain ⟨a8, c8, rfl, -⟩ := id hT
   have HT : Hid (CtSlice wr (.slice a8 (Msg.cat ms ps).length c8) (Msg.cat ms ps)) := hT.slice
   clear hT hg1 HO2
   subst hke
   go_wp2_with fail
   refine (HNS.out _ _ _ HT.out (by omega)).mono ?_
   rintro e w3 ⟨v3, g3, rfl, -, hO3, hb3⟩
   have HE3 : Hid (Ext w w3) := HE.out.trans hb3
   have HFi : Hid (Msg.picks ms ps = Msg.fillK (Msg.ns (Msg.cat ms ps) 30) (Msg.ns (Msg.cat ms ps) 30).length) := by
    show _ = _
    rw [Msg.fill_ns]; rfl
   have hnl := Msg.ns_len (Msg.cat ms ps) 30
   have HMem : Hid (∀ c ∈ Msg.ns (Msg.cat ms ps) 30, 1 ≤ c.slot ∧ c.slot ≤ 30) := fun c hc => by have := (Msg.ns_mem 30 hc).2; omega
   have HRis : Hid (∀ (i j : Nat) c d, i < j → (Msg.ns (Msg.cat ms ps) 30)[i]? = some c → (Msg.ns (Msg.cat ms ps) 30)[j]? = some d → c.slot < d.slot) := Msg.ns_ris _ _
   obtain ⟨a3, c3, rfl, hlc3, hcm3, hx3⟩ := hO3.slice
   unfold maxLen at hcm3
   have HP : Hid (Msg.picks ms ps = Msg.picks ms ps) := rfl
   generalize Msg.ns (Msg.cat ms ps) 30 = l at *
   have HX3 : Hid (0 < l.length → ∃ b off, a3 = some ⟨b, off, none⟩ ∧ b < w3.heap.size ∧ CtsAt w3 b off l) := hx3
   clear hx3 hO3 hb3 HT hcl HE HP
   go_wp2
   go_loopw [8, 28] (fun ov i wy => ∃ (k : Nat), k ≤ l.length ∧ i = .int .i64 k ∧ Hid (wy.ownsRow (w3.heap.size) 2 1 ov (Msg.fillK l k).length ((Msg.fillK l k).map (Value.int .i64))) ∧ Hid (Ext w3 wy)) (fun _ i _ => l.length - (intOf i).toNat)
   case atStart => exact ⟨0, Nat.zero_le _, rfl, World.ownsRow_nil _ _ _ _, Ext.refl _⟩
   case round =>
    obtain ⟨k, hk, rfl, HO, HE⟩ := hrel
    obtain ⟨wo, hwo⟩ : ∃ wo, wo = wr := ⟨_, rfl⟩
    subst hwo
    by_cases hlt2 : k < l.length
    ·obtain ⟨c, hck⟩ : ∃ c, l[k]? = some c := ⟨_, List.getElem?_eq_getElem hlt2⟩
     obtain ⟨b, off, rfl, hb, hN⟩ := HX3.out (by omega)
     obtain ⟨d0, d1, d2⟩ := hN.ext hb HE.out k c hck
     have HStep : Hid (Msg.fillK l (k + 1) = Msg.fill1 (Msg.fillK l k) c) := Msg.fillK_step hck
     obtain ⟨hcs1, hcs2⟩ := HMem.out c (List.mem_of_getElem? hck)
     have hfl := Msg.fillK_len l HMem.out HRis.out k c hck
     have hwc : IntKind.i64.wrap (c.slot - 1) = c.slot - 1 := by rw [IntKind.wrap_i64]; omega
     have hws : w3.heap.size ≤ wo.heap.size := HE.out.size
     have HB0 : Hid ((wo.alloc (.cells #[.int .i64 c.slot, .int .i64 c.view, .int .i64 c.value] 57)).heap[wo.heap.size]? = some (.cells #[.int .i64 c.slot, .int .i64 c.view, .int .i64 c.value] 57)) := heap_alloc_new wo _
     obtain ⟨fk, HFk⟩ : ∃ fk, Hid (Msg.fillK l k = fk) := ⟨_, rfl⟩
     rw [HFk.out] at HO HStep hfl
     obtain ⟨n, hn⟩ : ∃ n : Nat, n = (c.slot - 1).toNat - fk.length := ⟨_, rfl⟩
     have hnn : (n : Int) = c.slot - 1 - fk.length := by omega
     have HSt2 : Hid (Msg.fillK l (k + 1) = fk ++ Msg.zeros n ++ [c.value]) := by show _ = _; rw [HStep.out, hn]; rfl
     clear hck hN hn HStep HFk
     go_wp2
     clear d0 d1 d2
     go_loopw [8] (fun ov wy => ∃ (j : Nat), j ≤ n ∧ Hid (wy.ownsRow (w3.heap.size) 2 1 ov (fk ++ Msg.zeros j).length ((fk ++ Msg.zeros j).map (Value.int .i64))) ∧ Hid (wy.heap[wo.heap.size]? = some (.cells #[.int .i64 c.slot, .int .i64 c.view, .int .i64 c.value] 57)) ∧ Hid (Ext w3 wy)) (fun ov _ => match ov with | .slice _ m _ => 40 - m | _ => 0)
     case atStart => exact ⟨0, Nat.zero_le _, by show _; rw [show Msg.zeros 0 = [] from rfl, List.append_nil]; exact HO.out.alloc _, HB0, HE.out.alloc _⟩
     case round =>
      obtain ⟨j, hj, HOj, HBj, HEj⟩ := hrel
      obtain ⟨ar, cr, hrow⟩ := Led.owns_form HOj.out
      have hlj : (fk ++ Msg.zeros j).length = fk.length + j := by rw [List.length_append, Msg.zeros_len]
      rw [hlj] at HOj hrow
      subst hrow
      obtain ⟨x0, x1, x2⟩ := block_cells HBj.out
      have hwsj : w3.heap.size ≤ wr.heap.size := HEj.out.size
      have hlt9 : wo.heap.size < wr.heap.size := (Array.getElem?_eq_some_iff.1 HBj.out).1
      have hBd : Hid (∀ o, (wr.alloc o).heap[wo.heap.size]? = some (.cells #[.int .i64 c.slot, .int .i64 c.view, .int .i64 c.value] 57)) := fun o => by rw [heap_alloc_old _ _ hlt9]; exact HBj.out
      by_cases hlj2 : j < n
      ·have ht : ((fk.length + j : Nat) : Int) < c.slot - 1 := by omega
       go_wp2_with (at_builtin; go_must (refine wpList_append_own _ rfl _ _ 38 rfl (w3.heap.size) 2 ti (.int .i64 0) 1 8 Tryz.underlying38 hti hz0 hz1 hz2 rfl (by decide) _ _ _ rfl (HOj.out.alloc _) ⟨wr.heap.size, 0, none⟩ 1 1 [.int .i64 (0)] rfl rfl (cellM_one _ _ _ _ rfl) (ints_oneCell .i64 [(0)]) (by unfold maxLen; omega) (by omega) (by simp; omega) ?_; intro v6 w6 hown6 hgrow6 hnil6))
       refine ⟨⟨j + 1, by omega, ?_, ?_, Below.grown (HEj.out.alloc _) hgrow6 (by simp; omega) (fun q hq => (HOj.out.lt q hq).1)⟩, ?_⟩
       ·show w6.ownsRow _ _ _ _ _ _
        rw [Msg.zeros_snoc, ← List.append_assoc, List.length_append, hlj, List.map_append]
        exact hown6
       ·exact (hgrow6.block _ (by simp; omega) (fun e => row_ne HOj.out HBj.out (by decide) e.symm)).trans (hBd.out _)
       ·obtain ⟨a9, c9, h9⟩ := Led.owns_form hown6
        rw [h9]
        simp
        omega
      ·have hje : j = n := by omega
       have ht : ¬ ((fk.length + j : Nat) : Int) < c.slot - 1 := by omega
       subst hje
       go_wp2_with (at_builtin; go_must (refine wpList_append_own _ rfl _ _ 38 rfl (w3.heap.size) 2 ti (.int .i64 0) 1 8 Tryz.underlying38 hti hz0 hz1 hz2 rfl (by decide) _ _ _ rfl (HOj.out.alloc _) ⟨wr.heap.size, 0, none⟩ 1 1 [.int .i64 (c.value)] rfl rfl (cellM_one _ _ _ _ rfl) (ints_oneCell .i64 [(c.value)]) (by unfold maxLen; omega) (by omega) (by simp; omega) ?_; intro v6 w6 hown6 hgrow6 hnil6))
       refine ⟨⟨k + 1, by omega, by go_num, ?_, Below.grown (HEj.out.alloc _) hgrow6 (by simp; omega) (fun q hq => (HOj.out.lt q hq).1)⟩, by simp [intOf]; omega⟩
       show w6.ownsRow _ _ _ _ _ _
       rw [HSt2.out, List.length_append, hlj, List.map_append]
       exact hown6
    ·have hke : k = l.length := by omega
     subst hke
     rw [← HFi.out] at HO
     obtain ⟨g, hg1, hg2, hT⟩ := Led.iown_of_owns HO.out
     obtain ⟨a8, c8, rfl, -⟩ := id hT
     have HT : Hid (w.heap.size ≤ g ∧ Led.IOwn wo (.slice a8 (Msg.picks ms ps).length c8) g (Msg.picks ms ps)) := ⟨Nat.le_trans HE3.out.size hg1, hT⟩
     clear hT hg1 hg2
     go_wp2
     go_ret
     exact ⟨_, g, rfl, HT.out.1, HT.out.2, HE3.out.trans HE.out⟩
end Go.Proofs.YtecgjdgfjgcmdaaGreat
namespace Go.Proofs.YtecgjdgfjgcmdaaGreat
open Go.RowKit Go.Maps
set_option linter.unusedSimpArgs false in
set_option maxHeartbeats 4000000 in
set_option maxRecDepth 100000 in
theorem isPrimary_any (f : Int) (z : Ms) (b o : Nat) (bb : Bool) (w : World) (hf0 : 1 ≤ f) (hf1 : f ≤ 2) (hv : 0 ≤ z.view ∧ z.view ≤ 20) (hb : b < w.heap.size) (hm : MAt w b o z) (hbb : decide (Msg.primary f z.view = z.from_) = bb) :
  Calls Tryz.prog 130 #[.int .i64 f, .pointer (some ⟨b, o, none⟩)] w fun e w' => e = .returned (.bool bb) ∧ Ext w w' := by
 have HP : Hid (∀ wx, Calls Tryz.prog 152 #[.int .i64 f, .int .i64 z.view] wx fun e w' => e = .returned (.agg #[.int .i64 0, .int .i64 (Msg.primary f z.view)]) ∧ Ext wx w') := fun wx => by
  have q := implPrimaryOf_any f z.view wx
  have e : Msg.primV f z.view = (0, Msg.primary f z.view) := by
   unfold Msg.primV
   rw [show Msg.fOk f = true from by unfold Msg.fOk; simp; omega, if_neg (by decide), if_neg (by simp; omega)]
  rw [e] at q
  exact q
 obtain ⟨vz, uz, ⟨-, d1, d2, -, -, -, -⟩, -⟩ := hm
 have HS : Hid (∀ W', Ext w W' → W'.cell? ⟨b, o + 1, none⟩ = some (.int .i64 z.view) ∧ W'.cell? ⟨b, o + 2, none⟩ = some (.int .i64 z.from_)) := fun W' he => ⟨((Ext.cell he).1 _ _ hb).trans d1, ((Ext.cell he).1 _ _ hb).trans d2⟩
 clear d1 d2 hf0 hf1 hv hb
 generalize Msg.primary f z.view = pv at *
 have hq : (pv == z.from_) = bb := by rw [← hbb]; by_cases h : pv = z.from_ <;> simp [h]
 clear hbb
 have hf2 : ∀ (x y : Int) (W : World), (Instr.field 65 (.agg #[.int .i64 x, .int .i64 y]) 1).run Tryz.prog W = .ok (.int .i64 y) W := fun _ _ _ => by kernel_rfl
 go_enter Tryz.func130, Tryz.ntmps130
 go_wp2
 refine wp_region_held_drew (S := (fun W' : World => W'.cell? ⟨b, o + 1, none⟩ = some (.int .i64 z.view) ∧ W'.cell? ⟨b, o + 2, none⟩ = some (.int .i64 z.from_))) (by kernel_rfl) (HS.out _ ((Ext.refl _).drew)) (fun hHeld => ?_)
 refine tk 0 ⟨some 5, .move (.tmp 0), 2, oz9, #[], none⟩ ?_
 refine tk 1 ⟨some 6, .move (.tmp 1), 97, oz9, #[], none⟩ ?_
 refine tk 2 ⟨some 7, .nilCheck (.tmp 6), 0, oz9, #[⟨1, .data⟩], none⟩ ?_
 refine tk 3 ⟨some 8, .fieldAddr 40 (.tmp 7) 1, 0, oz9, #[⟨2, .data⟩], none⟩ ?_
 refine tk 4 ⟨some 9, .load 2 (.tmp 8), 2, oz9, #[⟨3, .data⟩], none⟩ ?_
 refine tk 7 ⟨some 12, .move (.tmp 1), 97, oz9, #[], none⟩ ?_
 refine tk 8 ⟨some 13, .nilCheck (.tmp 12), 0, oz9, #[⟨7, .data⟩], none⟩ ?_
 refine tk 9 ⟨some 14, .fieldAddr 40 (.tmp 13) 2, 0, oz9, #[⟨8, .data⟩], none⟩ ?_
 refine tk 10 ⟨some 15, .load 2 (.tmp 14), 2, oz9, #[⟨9, .data⟩], none⟩ ?_
 refine wpAnyH_ready (rs := [5]) (by kernel_rfl) (by simp) (AllReadyH.cons rfl (fun K hK => ?_) AllReadyH.nil)
 go_simp
 refine (HP.out _).mono ?_
 rintro e y1 ⟨rfl, hb⟩
 have X1 : Hid (Ext w y1) := ((Ext.refl _).drew).trans hb
 clear hb
 refine hK.out _ _ (by exact HS.out _ X1.out) (fun hHeld1 => ?_)
 clear hK K
 refine tk 6 ⟨some 11, .field 65 (.tmp 10) 1, 2, oz9, #[⟨5, .data⟩], none⟩ ?_
 refine tk 11 ⟨some 16, .binOp .eql 2 (.tmp 11) (.tmp 15) 2, 4, oz9, #[⟨6, .data⟩, ⟨10, .data⟩], none⟩ ?_
 refine tk 12 ⟨some 4, .assign (.tmp 16), 4, oz9, #[⟨11, .data⟩, ⟨5, .chain⟩, ⟨0, .phase⟩, ⟨1, .phase⟩, ⟨2, .phase⟩, ⟨3, .phase⟩, ⟨4, .phase⟩, ⟨5, .phase⟩, ⟨6, .phase⟩, ⟨7, .phase⟩, ⟨8, .phase⟩, ⟨9, .phase⟩, ⟨10, .phase⟩, ⟨11, .phase⟩], none⟩ ?_
 refine wpAnyH_done (by kernel_rfl) ?_ _
 (try go_wp2)
 go_ret
 exact ⟨ret_bool (by first | exact hq | simp [hq]), X1.out⟩

set_option linter.unusedSimpArgs false in
set_option maxHeartbeats 8000000 in
set_option maxRecDepth 100000 in
theorem isRightNew_any (f : Int) (v : Value) (ms : List Ms) (z : Ms) (b o k : Nat) (w : World) (hS : MSlice w v ms) (hled : Msg.ledger f ms = 0) (hk : ms[k]? = some z) (h5 : z.kind = 5) (hb : b < w.heap.size) (hm : MAt w b o z) :
  Calls Tryz.prog 163 #[.int .i64 f, v, .pointer (some ⟨b, o, none⟩)] w fun e w' => e = .returned (.bool (Msg.newB f ms z)) ∧ Ext w w' := by
 obtain ⟨hf0, hf1, hml⟩ := Msg.ledger_zero hled
 have hfa := Msg.ledger_all hled z (List.mem_of_getElem? hk)
 have hvw := Msg.view_in hfa
 have hrl := (Msg.lists_zero hfa).2.1
 rw [Msg.newB_prog h5 hf0]
 have HPr0 : Hid (∀ (bb : Bool) (wx : World), Ext w wx → decide (Msg.primary f z.view = z.from_) = bb → Calls Tryz.prog 130 #[.int .i64 f, .pointer (some ⟨b, o, none⟩)] wx fun e w' => e = .returned (.bool bb) ∧ Ext wx w') := fun bb wx he h => isPrimary_any f z b o bb wx hf0 hf1 hvw (Nat.lt_of_lt_of_le hb he.size) (hm.ext hb he) h
 have HQ : Hid (∀ wx, Calls Tryz.prog 90 #[.int .i64 f] wx fun e w' => e = .returned (.int .i64 (2 * f + 1)) ∧ w' = wx) := fun wx => quorumOf_any f wx hf0 hf1
 obtain ⟨vz, uz, ⟨-, d1, d2, -, -, -, d6⟩, hL⟩ := hm
 have HA0 : Hid (∀ wx, Ext w wx → Calls Tryz.prog 158 #[.int .i64 f, v, uz, .int .i64 z.view] wx fun e w' => ∃ vo g, e = .returned vo ∧ wx.heap.size ≤ g ∧ Led.IOwn w' vo g (Msg.among f ms z.view z.refs z.refs.length) ∧ Ext wx w') := fun wx he => changesAmong_any f v ms uz z.refs z.view wx (hS.ext he) (hL.2.ext he) hled (Msg.refs_zero hled hk) (by omega)
 obtain ⟨-, ⟨ar, cr, rfl, -, -, -⟩⟩ := hL
 obtain ⟨a, cap, rfl, -, -, -⟩ := hS
 have HA : Hid (∀ wx, Ext w wx → Calls Tryz.prog 158 #[.int .i64 f, .slice a ms.length cap, .slice ar z.refs.length cr, .int .i64 z.view] wx fun e w' => ∃ vo g, e = .returned vo ∧ wx.heap.size ≤ g ∧ Led.IOwn w' vo g (Msg.among f ms z.view z.refs z.refs.length) ∧ Ext wx w') := HA0.out
 have HS : Hid (∀ W', Ext w W' → W'.cell? ⟨b, o + 1, none⟩ = some (.int .i64 z.view) ∧ W'.cell? ⟨b, o + 6, none⟩ = some (.slice ar z.refs.length cr)) := fun W' he => ⟨((Ext.cell he).1 _ _ hb).trans d1, ((Ext.cell he).1 _ _ hb).trans d6⟩
 clear HA0 hled hk hfa hvw h5
 by_cases h1 : Msg.primary f z.view = z.from_
 ·have HPr : Hid (∀ wx, Ext w wx → Calls Tryz.prog 130 #[.int .i64 f, .pointer (some ⟨b, o, none⟩)] wx fun e w' => e = .returned (.bool true) ∧ Ext wx w') := fun wx he => HPr0.out true wx he (decide_eq_true h1)
  rw [decide_eq_true h1, Bool.true_and]
  clear h1 HPr0
  by_cases h2 : 2 * f + 1 ≤ (z.refs.length : Int)
  ·rw [decide_eq_true h2, Bool.true_and]
   have P7 : Hid (decide (2 * f + 1 ≤ (z.refs.length : Int)) = true) := decide_eq_true h2
   clear h2
   generalize Msg.among f ms z.view z.refs z.refs.length = rs at *
   go_enter Tryz.func163, Tryz.ntmps163
   go_wp2
   clear d1 d2 d6
   refine wp_region_held_drew (S := (fun W' : World => W'.cell? ⟨b, o + 1, none⟩ = some (.int .i64 z.view) ∧ W'.cell? ⟨b, o + 6, none⟩ = some (.slice ar z.refs.length cr))) (by kernel_rfl) (HS.out _ ((Ext.refl _).drew)) (fun hHeld => ?_)
   refine tk 0 ⟨some 13, .move (.tmp 0), 2, oz10, #[], none⟩ ?_
   refine tk 1 ⟨some 14, .move (.tmp 2), 97, oz10, #[], none⟩ ?_
   refine wpAnyH_ready (rs := [2]) (by kernel_rfl) (by simp) (AllReadyH.cons rfl (fun K hK => ?_) AllReadyH.nil)
   go_simp
   refine (HPr.out _ ((Ext.refl _).drew)).mono ?_
   rintro e y1 ⟨rfl, hb⟩
   have X1 : Hid (Ext w y1) := ((Ext.refl _).drew).trans hb
   clear hb
   refine hK.out _ _ (by exact HS.out _ X1.out) (fun hHeld1 => ?_)
   clear hK K
   refine tk 3 ⟨some 16, .move (.tmp 15), 4, oz10, oy11, none⟩ ?_
   refine tk 4 ⟨some 17, .move (.tmp 7), 2, oz10, #[⟨3, .guard⟩], some (3, true)⟩ ?_
   refine tk 5 ⟨some 18, .move (.tmp 0), 2, oz10, #[⟨3, .guard⟩], some (3, true)⟩ ?_
   refine wpAnyH_ready (rs := [6]) (by kernel_rfl) (by simp) (AllReadyH.cons rfl (fun K hK => ?_) AllReadyH.nil)
   go_simp
   refine (HQ.out _).mono ?_
   rintro e y2 ⟨rfl, hw⟩
   have X2 : Hid (Ext w y2) := by rw [hw]; exact X1.out
   clear hw
   refine hK.out _ _ (by exact HS.out _ X2.out) (fun hHeld2 => ?_)
   clear hK K
   refine tk 7 ⟨some 20, .binOp .geq 2 (.tmp 17) (.tmp 19) 2, 4, oz10, oy12, some (3, true)⟩ ?_
   (try rw [P7.out])
   refine tk 8 ⟨some 21, .pick (.tmp 16) (.tmp 20) (.const (.bool false)), 4, oz10, oy13, none⟩ ?_
   refine tk 9 ⟨some 22, .move (.tmp 21), 4, oz10, oy14, none⟩ ?_
   refine tk 10 ⟨some 23, .move (.tmp 0), 2, oz10, #[⟨9, .guard⟩], some (9, true)⟩ ?_
   refine tk 11 ⟨some 24, .move (.tmp 1), 27, oz10, #[⟨9, .guard⟩], some (9, true)⟩ ?_
   refine tk 12 ⟨some 25, .move (.tmp 2), 97, oz10, #[⟨9, .guard⟩], some (9, true)⟩ ?_
   refine tk 13 ⟨some 26, .nilCheck (.tmp 25), 0, oz10, oy15, some (9, true)⟩ ?_
   refine tk 14 ⟨some 27, .fieldAddr 40 (.tmp 26) 6, 0, oz10, oy16, some (9, true)⟩ ?_
   refine tk 15 ⟨some 28, .load 38 (.tmp 27), 38, oz10, oy17, some (9, true)⟩ ?_
   refine tk 16 ⟨some 29, .move (.tmp 2), 97, oz10, #[⟨9, .guard⟩], some (9, true)⟩ ?_
   refine tk 17 ⟨some 30, .nilCheck (.tmp 29), 0, oz10, oy18, some (9, true)⟩ ?_
   refine tk 18 ⟨some 31, .fieldAddr 40 (.tmp 30) 1, 0, oz10, oy19, some (9, true)⟩ ?_
   refine tk 19 ⟨some 32, .load 2 (.tmp 31), 2, oz10, oy20, some (9, true)⟩ ?_
   refine tk 22 ⟨some 35, .move (.tmp 7), 2, oz10, #[⟨9, .guard⟩], some (9, true)⟩ ?_
   refine wpAnyH_ready (rs := [20]) (by kernel_rfl) (by simp) (AllReadyH.cons rfl (fun K hK => ?_) AllReadyH.nil)
   go_simp
   refine (HA.out _ X2.out).mono ?_
   rintro e y3 ⟨v5, g5, rfl, -, hO5, hb⟩
   obtain ⟨a5, c5, rfl, -⟩ := id hO5
   have X3 : Hid (Ext w y3) := X2.out.trans hb
   clear hb hO5
   refine hK.out _ _ (by exact HS.out _ X3.out) (fun hHeld3 => ?_)
   clear hK K
   refine tk 21 ⟨some 34, .call { callee := .builtin .len, args := #[.tmp 33], argTypes := #[38] }, 3, oz10, oy21, some (9, true)⟩ ?_
   refine tk 23 ⟨some 36, .binOp .eql 2 (.tmp 34) (.tmp 35) 2, 4, oz10, oy22, some (9, true)⟩ ?_
   refine tk 24 ⟨some 37, .pick (.tmp 22) (.tmp 36) (.const (.bool false)), 4, oz10, oy23, none⟩ ?_
   refine tk 25 ⟨some 6, .assign (.tmp 37), 4, oz10, oy24, none⟩ ?_
   refine wpAnyH_done (by kernel_rfl) ?_ _
   (try go_wp2)
   go_ret
   exact ⟨ret_bool (by rw [Bool.eq_iff_iff]; simp; omega), X3.out⟩
  ·rw [decide_eq_false h2, Bool.false_and]
   have P7 : Hid (decide (2 * f + 1 ≤ (z.refs.length : Int)) = false) := decide_eq_false h2
   clear h2
   go_enter Tryz.func163, Tryz.ntmps163
   go_wp2
   clear d1 d2 d6
   refine wp_region_held_drew (S := (fun W' : World => W'.cell? ⟨b, o + 1, none⟩ = some (.int .i64 z.view) ∧ W'.cell? ⟨b, o + 6, none⟩ = some (.slice ar z.refs.length cr))) (by kernel_rfl) (HS.out _ ((Ext.refl _).drew)) (fun hHeld => ?_)
   refine tk 0 ⟨some 13, .move (.tmp 0), 2, oz10, #[], none⟩ ?_
   refine tk 1 ⟨some 14, .move (.tmp 2), 97, oz10, #[], none⟩ ?_
   refine wpAnyH_ready (rs := [2]) (by kernel_rfl) (by simp) (AllReadyH.cons rfl (fun K hK => ?_) AllReadyH.nil)
   go_simp
   refine (HPr.out _ ((Ext.refl _).drew)).mono ?_
   rintro e y1 ⟨rfl, hb⟩
   have X1 : Hid (Ext w y1) := ((Ext.refl _).drew).trans hb
   clear hb
   refine hK.out _ _ (by exact HS.out _ X1.out) (fun hHeld1 => ?_)
   clear hK K
   refine tk 3 ⟨some 16, .move (.tmp 15), 4, oz10, oy11, none⟩ ?_
   refine tk 4 ⟨some 17, .move (.tmp 7), 2, oz10, #[⟨3, .guard⟩], some (3, true)⟩ ?_
   refine tk 5 ⟨some 18, .move (.tmp 0), 2, oz10, #[⟨3, .guard⟩], some (3, true)⟩ ?_
   refine wpAnyH_ready (rs := [6]) (by kernel_rfl) (by simp) (AllReadyH.cons rfl (fun K hK => ?_) AllReadyH.nil)
   go_simp
   refine (HQ.out _).mono ?_
   rintro e y2 ⟨rfl, hw⟩
   have X2 : Hid (Ext w y2) := by rw [hw]; exact X1.out
   clear hw
   refine hK.out _ _ (by exact HS.out _ X2.out) (fun hHeld2 => ?_)
   clear hK K
   refine tk 7 ⟨some 20, .binOp .geq 2 (.tmp 17) (.tmp 19) 2, 4, oz10, oy12, some (3, true)⟩ ?_
   (try rw [P7.out])
   refine tk 8 ⟨some 21, .pick (.tmp 16) (.tmp 20) (.const (.bool false)), 4, oz10, oy13, none⟩ ?_
   refine tk 9 ⟨some 22, .move (.tmp 21), 4, oz10, oy14, none⟩ ?_
   refine tn 10 ⟨some 23, .move (.tmp 0), 2, oz10, #[⟨9, .guard⟩], some (9, true)⟩ ?_
   refine tn 11 ⟨some 24, .move (.tmp 1), 27, oz10, #[⟨9, .guard⟩], some (9, true)⟩ ?_
   refine tn 12 ⟨some 25, .move (.tmp 2), 97, oz10, #[⟨9, .guard⟩], some (9, true)⟩ ?_
   refine tn 13 ⟨some 26, .nilCheck (.tmp 25), 0, oz10, oy15, some (9, true)⟩ ?_
   refine tn 14 ⟨some 27, .fieldAddr 40 (.tmp 26) 6, 0, oz10, oy16, some (9, true)⟩ ?_
   refine tn 15 ⟨some 28, .load 38 (.tmp 27), 38, oz10, oy17, some (9, true)⟩ ?_
   refine tn 16 ⟨some 29, .move (.tmp 2), 97, oz10, #[⟨9, .guard⟩], some (9, true)⟩ ?_
   refine tn 17 ⟨some 30, .nilCheck (.tmp 29), 0, oz10, oy18, some (9, true)⟩ ?_
   refine tn 18 ⟨some 31, .fieldAddr 40 (.tmp 30) 1, 0, oz10, oy19, some (9, true)⟩ ?_
   refine tn 19 ⟨some 32, .load 2 (.tmp 31), 2, oz10, oy20, some (9, true)⟩ ?_
   refine tn 20 ⟨some 33, .call { callee := .value (.func 158), args := #[.tmp 23, .tmp 24, .tmp 28, .tmp 32], argTypes := #[2, 27, 38, 2] }, 38, oz10, #[⟨10, .data⟩, ⟨11, .data⟩, ⟨15, .data⟩, ⟨19, .data⟩, ⟨9, .chain⟩, ⟨9, .guard⟩], some (9, true)⟩ ?_
   refine tn 21 ⟨some 34, .call { callee := .builtin .len, args := #[.tmp 33], argTypes := #[38] }, 3, oz10, oy21, some (9, true)⟩ ?_
   refine tn 22 ⟨some 35, .move (.tmp 7), 2, oz10, #[⟨9, .guard⟩], some (9, true)⟩ ?_
   refine tn 23 ⟨some 36, .binOp .eql 2 (.tmp 34) (.tmp 35) 2, 4, oz10, oy22, some (9, true)⟩ ?_
   refine tk 24 ⟨some 37, .pick (.tmp 22) (.tmp 36) (.const (.bool false)), 4, oz10, oy23, none⟩ ?_
   refine tk 25 ⟨some 6, .assign (.tmp 37), 4, oz10, oy24, none⟩ ?_
   refine wpAnyH_done (by kernel_rfl) ?_ _
   (try go_wp2)
   go_ret
   exact ⟨rfl, X2.out⟩
 ·have HPr : Hid (∀ wx, Ext w wx → Calls Tryz.prog 130 #[.int .i64 f, .pointer (some ⟨b, o, none⟩)] wx fun e w' => e = .returned (.bool false) ∧ Ext wx w') := fun wx he => HPr0.out false wx he (decide_eq_false h1)
  rw [decide_eq_false h1, Bool.false_and, Bool.false_and]
  clear h1 HPr0
  go_enter Tryz.func163, Tryz.ntmps163
  go_wp2
  clear d1 d2 d6
  refine wp_region_held_drew (S := (fun W' : World => W'.cell? ⟨b, o + 1, none⟩ = some (.int .i64 z.view) ∧ W'.cell? ⟨b, o + 6, none⟩ = some (.slice ar z.refs.length cr))) (by kernel_rfl) (HS.out _ ((Ext.refl _).drew)) (fun hHeld => ?_)
  refine tk 0 ⟨some 13, .move (.tmp 0), 2, oz10, #[], none⟩ ?_
  refine tk 1 ⟨some 14, .move (.tmp 2), 97, oz10, #[], none⟩ ?_
  refine wpAnyH_ready (rs := [2]) (by kernel_rfl) (by simp) (AllReadyH.cons rfl (fun K hK => ?_) AllReadyH.nil)
  go_simp
  refine (HPr.out _ ((Ext.refl _).drew)).mono ?_
  rintro e y1 ⟨rfl, hb⟩
  have X1 : Hid (Ext w y1) := ((Ext.refl _).drew).trans hb
  clear hb
  refine hK.out _ _ (by exact HS.out _ X1.out) (fun hHeld1 => ?_)
  clear hK K
  refine tk 3 ⟨some 16, .move (.tmp 15), 4, oz10, oy11, none⟩ ?_
  refine tn 4 ⟨some 17, .move (.tmp 7), 2, oz10, #[⟨3, .guard⟩], some (3, true)⟩ ?_
  refine tn 5 ⟨some 18, .move (.tmp 0), 2, oz10, #[⟨3, .guard⟩], some (3, true)⟩ ?_
  refine tn 6 ⟨some 19, .call ⟨.value (.func 90), #[.tmp 18], #[2]⟩, 2, oz10, #[⟨5, .data⟩, ⟨3, .chain⟩, ⟨3, .guard⟩], some (3, true)⟩ ?_
  refine tn 7 ⟨some 20, .binOp .geq 2 (.tmp 17) (.tmp 19) 2, 4, oz10, oy12, some (3, true)⟩ ?_
  refine tk 8 ⟨some 21, .pick (.tmp 16) (.tmp 20) (.const (.bool false)), 4, oz10, oy13, none⟩ ?_
  refine tk 9 ⟨some 22, .move (.tmp 21), 4, oz10, oy14, none⟩ ?_
  refine tn 10 ⟨some 23, .move (.tmp 0), 2, oz10, #[⟨9, .guard⟩], some (9, true)⟩ ?_
  refine tn 11 ⟨some 24, .move (.tmp 1), 27, oz10, #[⟨9, .guard⟩], some (9, true)⟩ ?_
  refine tn 12 ⟨some 25, .move (.tmp 2), 97, oz10, #[⟨9, .guard⟩], some (9, true)⟩ ?_
  refine tn 13 ⟨some 26, .nilCheck (.tmp 25), 0, oz10, oy15, some (9, true)⟩ ?_
  refine tn 14 ⟨some 27, .fieldAddr 40 (.tmp 26) 6, 0, oz10, oy16, some (9, true)⟩ ?_
  refine tn 15 ⟨some 28, .load 38 (.tmp 27), 38, oz10, oy17, some (9, true)⟩ ?_
  refine tn 16 ⟨some 29, .move (.tmp 2), 97, oz10, #[⟨9, .guard⟩], some (9, true)⟩ ?_
  refine tn 17 ⟨some 30, .nilCheck (.tmp 29), 0, oz10, oy18, some (9, true)⟩ ?_
  refine tn 18 ⟨some 31, .fieldAddr 40 (.tmp 30) 1, 0, oz10, oy19, some (9, true)⟩ ?_
  refine tn 19 ⟨some 32, .load 2 (.tmp 31), 2, oz10, oy20, some (9, true)⟩ ?_
  refine tn 20 ⟨some 33, .call { callee := .value (.func 158), args := #[.tmp 23, .tmp 24, .tmp 28, .tmp 32], argTypes := #[2, 27, 38, 2] }, 38, oz10, #[⟨10, .data⟩, ⟨11, .data⟩, ⟨15, .data⟩, ⟨19, .data⟩, ⟨9, .chain⟩, ⟨9, .guard⟩], some (9, true)⟩ ?_
  refine tn 21 ⟨some 34, .call { callee := .builtin .len, args := #[.tmp 33], argTypes := #[38] }, 3, oz10, oy21, some (9, true)⟩ ?_
  refine tn 22 ⟨some 35, .move (.tmp 7), 2, oz10, #[⟨9, .guard⟩], some (9, true)⟩ ?_
  refine tn 23 ⟨some 36, .binOp .eql 2 (.tmp 34) (.tmp 35) 2, 4, oz10, oy22, some (9, true)⟩ ?_
  refine tk 24 ⟨some 37, .pick (.tmp 22) (.tmp 36) (.const (.bool false)), 4, oz10, oy23, none⟩ ?_
  refine tk 25 ⟨some 6, .assign (.tmp 37), 4, oz10, oy24, none⟩ ?_
  refine wpAnyH_done (by kernel_rfl) ?_ _
  (try go_wp2)
  go_ret
  exact ⟨rfl, X1.out⟩

end Go.Proofs.YtecgjdgfjgcmdaaGreat
namespace Go.Proofs.YtecgjdgfjgcmdaaGreat
open Go.RowKit
namespace Msg
/-- What a view takes over that begins at start. -/
def startL (ms : List Ms) (view start : Int) : List Int := if view = 0 then [] else picks ms (refsAt ms start)
def holdB (l : List Int) (slot value : Int) : Bool := if slot ≤ (l.length : Int) then decide (value = l.getD (slot - 1).toNat 0) else decide (¬ value = 0)
theorem startB_zero {f : Int} {ms : List Ms} {start : Int} : startB f ms 0 start = decide (start = -1) := by unfold startB; rw [if_pos rfl]
theorem startB_no {f : Int} {ms : List Ms} {view start : Int} (h0 : ¬ view = 0) (h : newAt f ms start = false ∨ ¬ viewAt ms start = view) : startB f ms view start = false := by
 unfold startB
 rw [if_neg h0, Bool.and_eq_false_iff]
 rcases h with h | h
 ·exact Or.inl h
 ·exact Or.inr (decide_eq_false h)
theorem startB_is {f : Int} {ms : List Ms} {view start : Int} (h0 : ¬ view = 0) (h : viewAt ms start = view) : startB f ms view start = newAt f ms start := by
 unfold startB
 rw [if_neg h0, decide_eq_true h, Bool.and_true]
theorem startL_is {ms : List Ms} {view start : Int} {z : Ms} (h0 : ¬ view = 0) (h : nth ms start = some z) : startL ms view start = picks ms z.refs := by
 unfold startL
 rw [if_neg h0, refsAt_some h]
theorem new_no {f : Int} {ms : List Ms} {x : Int} (h : kindAt ms x 5 = false) : newAt f ms x = false := by
 cases hn : nth ms x with
 | none => exact newAt_none hn
 | some z =>
  rw [kindAt_some hn, decide_eq_false_iff_not] at h
  rw [newAt_some hn]
  exact newB_no (fun h2 => h h2.1)
end Msg
theorem empty_own (w : World) (g : Nat) : Led.IOwn w (.slice none 0 0) g [] := ⟨none, 0, rfl, Nat.le_refl _, by unfold maxLen; omega, fun h => by simp at h⟩
set_option maxHeartbeats 8000000 in
set_option maxRecDepth 100000 in
theorem valuesAtStart_any (f : Int) (v : Value) (ms : List Ms) (view start : Int) (w : World) (hS : MSlice w v ms) (hled : Msg.ledger f ms = 0) :
  Calls Tryz.prog 129 #[.int .i64 f, v, .int .i64 view, .int .i64 start] w fun e w' => ∃ vo g, e = .returned (.tuple #[vo, .bool (Msg.startB f ms view start)]) ∧ w.heap.size ≤ g ∧ Led.IOwn w' vo g (if Msg.startB f ms view start = true then Msg.startL ms view start else []) ∧ Ext w w' := by
 have HNo : Hid (Msg.kindAt ms start 5 = false → Calls Tryz.prog 75 #[v, .int .i64 start, .int .i64 5] w fun e w' => e = .returned (.pointer none) ∧ w' = w) := fun h => findMsg_no v ms start 5 w hS h
 have HYe : Hid (∀ z, Msg.nth ms start = some z → z.kind = 5 → Calls Tryz.prog 75 #[v, .int .i64 start, .int .i64 5] w fun e w' => ∃ b o, e = .returned (.pointer (some ⟨b, o, none⟩)) ∧ b < w.heap.size ∧ MAt w b o z ∧ w' = w) := fun z h1 h2 => findMsg_yes v ms start 5 z w hS h1 h2
 have HNw : Hid (∀ z b o, Msg.nth ms start = some z → z.kind = 5 → b < w.heap.size → MAt w b o z → Calls Tryz.prog 163 #[.int .i64 f, v, .pointer (some ⟨b, o, none⟩)] w fun e w' => e = .returned (.bool (Msg.newB f ms z)) ∧ Ext w w') := fun z b o h1 h2 hb hm => isRightNew_any f v ms z b o start.toNat w hS hled (Msg.nth_some h1).2.2 h2 hb hm
 have HTk : Hid (∀ z u wx, Msg.nth ms start = some z → Ext w wx → ISlice wx u z.refs → Calls Tryz.prog 164 #[v, u] wx fun e w' => ∃ vo g, e = .returned vo ∧ wx.heap.size ≤ g ∧ Led.IOwn w' vo g (Msg.picks ms z.refs) ∧ Ext wx w') := fun z u wx h1 he hi => valuesTakenOver_any f v ms u z.refs wx (hS.ext he) hi hled (Msg.refs_zero hled (Msg.nth_some h1).2.2) (by have h2 := (Msg.lists_zero (Msg.ledger_all hled z (List.mem_of_getElem? (Msg.nth_some h1).2.2))).2.1; have h3 := Msg.ledger_zero hled; omega)
 obtain ⟨a, cap, rfl, -, -, -⟩ := hS
 clear hled
 by_cases h0 : view = 0
 ·subst h0
  rw [Msg.startB_zero]
  have hL : Msg.startL ms 0 start = [] := by unfold Msg.startL; rw [if_pos rfl]
  rw [hL]
  have hq : (start == -1) = decide (start = -1) := by by_cases h : start = -1 <;> simp [h]
  have hE : (if decide (start = -1) = true then ([] : List Int) else []) = [] := by split <;> rfl
  rw [hE]
  generalize decide (start = -1) = bb at *
  clear HNo HYe HNw HTk hE hL
  go_enter Tryz.func129, Tryz.ntmps129
  go_wp2
  go_ret2
  exact ⟨_, _, rfl, Nat.le_refl _, empty_own _ _, Ext.refl _⟩
 ·have g0 : (view == 0) = false := by simpa using h0
  cases hk : Msg.kindAt ms start 5 with
  | false =>
   rw [Msg.startB_no h0 (Or.inl (Msg.new_no hk)), if_neg (by decide)]
   have HN2 : Hid (Calls Tryz.prog 75 #[.slice a ms.length cap, .int .i64 start, .int .i64 5] w fun e w' => e = .returned (.pointer none) ∧ w' = w) := HNo.out hk
   clear HNo HYe HNw HTk h0 hk
   go_enter Tryz.func129, Tryz.ntmps129
   go_wp2_with fail
   refine HN2.out.mono ?_
   rintro e w9 ⟨rfl, hw⟩
   rw [hw]
   clear hw w9
   go_wp2
   go_ret2
   exact ⟨_, _, rfl, Nat.le_refl _, empty_own _ _, Ext.refl _⟩
  | true =>
   cases hn : Msg.nth ms start with
   | none => rw [Msg.kindAt_none hn] at hk; cases hk
   | some z =>
    rw [Msg.kindAt_some hn, decide_eq_true_eq] at hk
    have HY2 : Hid (Calls Tryz.prog 75 #[.slice a ms.length cap, .int .i64 start, .int .i64 5] w fun e w' => ∃ b o, e = .returned (.pointer (some ⟨b, o, none⟩)) ∧ b < w.heap.size ∧ MAt w b o z ∧ w' = w) := HYe.out z hn hk
    have HZ : Hid (Msg.nth ms start = some z ∧ z.kind = 5) := ⟨hn, hk⟩
    by_cases hv : z.view = view
    ·have g1 : (z.view != view) = false := by simpa using hv
     rw [Msg.startB_is h0 (by rw [Msg.viewAt_some hn]; exact hv), Msg.newAt_some hn, Msg.startL_is h0 hn]
     have HNz : Hid (∀ b o, b < w.heap.size → MAt w b o z → Calls Tryz.prog 163 #[.int .i64 f, .slice a ms.length cap, .pointer (some ⟨b, o, none⟩)] w fun e w' => e = .returned (.bool (Msg.newB f ms z)) ∧ Ext w w') := fun b o => HNw.out z b o hn hk
     clear HNo HYe h0 hk hn hv HNw
     cases hB : Msg.newB f ms z with
     | true =>
      rw [hB] at HNz
      rw [if_pos rfl]
      clear hB
      go_enter Tryz.func129, Tryz.ntmps129
      go_wp2_with fail
      refine HY2.out.mono ?_
      rintro e w9 ⟨b, o, rfl, hb, hm, hw⟩
      rw [hw]
      clear hw w9
      have HM : Hid (MAt w b o z ∧ b < w.heap.size) := ⟨hm, hb⟩
      obtain ⟨vz, uz, ⟨-, d1, -, -, -, -, -⟩, -⟩ := hm
      go_wp2_with fail
      refine (HNz.out b o HM.out.2 HM.out.1).mono ?_
      rintro e w2 ⟨rfl, hb2⟩
      have HE2 : Hid (Ext w w2) := hb2
      obtain ⟨vy, uy, ⟨-, -, -, -, -, -, d6⟩, hL⟩ := HM.out.1.ext HM.out.2 hb2
      have HIr : Hid (ISlice w2 uy z.refs) := hL.2
      obtain ⟨-, ⟨ar, cr, rfl, -, -, -⟩⟩ := hL
      clear hb2 d1
      go_wp2_with fail
      refine (HTk.out z _ _ HZ.out.1 HE2.out HIr.out).mono ?_
      rintro e w5 ⟨v5, g5, rfl, hg5, hO5, hb5⟩
      have HE5 : Hid (Ext w w5) := HE2.out.trans hb5
      have HI5 : Hid (Led.IOwn w5 v5 g5 (Msg.picks ms z.refs) ∧ w.heap.size ≤ g5) := ⟨hO5, Nat.le_trans HE2.out.size hg5⟩
      obtain ⟨a5, c5, rfl, -⟩ := id hO5
      clear hb5 hO5 hg5
      go_wp2
      go_ret2
      exact ⟨_, g5, rfl, HI5.out.2, HI5.out.1, HE5.out⟩
     | false =>
      rw [hB] at HNz
      rw [if_neg (by decide)]
      clear hB HTk
      go_enter Tryz.func129, Tryz.ntmps129
      go_wp2_with fail
      refine HY2.out.mono ?_
      rintro e w9 ⟨b, o, rfl, hb, hm, hw⟩
      rw [hw]
      clear hw w9
      have HM : Hid (MAt w b o z ∧ b < w.heap.size) := ⟨hm, hb⟩
      obtain ⟨vz, uz, ⟨-, d1, -, -, -, -, -⟩, -⟩ := hm
      go_wp2_with fail
      refine (HNz.out b o HM.out.2 HM.out.1).mono ?_
      rintro e w2 ⟨rfl, hb2⟩
      have HE2 : Hid (Ext w w2) := hb2
      clear hb2 d1
      go_wp2
      go_ret2
      exact ⟨_, _, rfl, Nat.le_refl _, empty_own _ _, HE2.out⟩
    ·have g1 : (z.view != view) = true := by simpa using hv
     rw [Msg.startB_no h0 (Or.inr (by rw [Msg.viewAt_some hn]; exact hv)), if_neg (by decide)]
     clear HNo HYe h0 hk hn hv HNw HTk
     go_enter Tryz.func129, Tryz.ntmps129
     go_wp2_with fail
     refine HY2.out.mono ?_
     rintro e w9 ⟨b, o, rfl, hb, hm, hw⟩
     rw [hw]
     clear hw w9
     obtain ⟨vz, uz, ⟨-, d1, -, -, -, -, -⟩, -⟩ := hm
     go_wp2
     go_ret2
     exact ⟨_, _, rfl, Nat.le_refl _, empty_own _ _, Ext.refl _⟩

end Go.Proofs.YtecgjdgfjgcmdaaGreat
namespace Go.Proofs.YtecgjdgfjgcmdaaGreat
open Go.RowKit Go.Maps
set_option maxHeartbeats 8000000 in
set_option maxRecDepth 100000 in
theorem decidedIn_any (f : Int) (v : Value) (ms : List Ms) (slot : Int) (w : World) (hS : MSlice w v ms) (hled : Msg.ledger f ms = 0) :
  Calls Tryz.prog 173 #[.int .i64 f, v, .int .i64 slot] w fun e w' => ∃ vo g, e = .returned vo ∧ w.heap.size ≤ g ∧ Led.IOwn w' vo g (Msg.decided f ms slot) ∧ Ext w w' := by
 obtain ⟨hf0, hf1, hlen⟩ := Msg.ledger_zero hled
 have HQ : Hid (∀ (z : Ms) (vz uz : Value) (wx : World), Ext w wx → z ∈ ms → z.kind = 3 → MLs wx vz uz z → Calls Tryz.prog 132 #[.int .i64 f, v, magg z vz uz] wx fun e w' => e = .returned (.bool (Msg.enough f ms 3 ⟨z.slot, z.view, z.value⟩)) ∧ Ext wx w') := fun z vz uz wx he hz hk hL => by
  have hsl := Msg.of_slot (Msg.ledger_all hled z hz) (Or.inr hk)
  have h := hasQuorum_any f v ms z vz uz wx (hS.ext he) hL hled hsl.1 hsl.2.1
  rw [hk] at h
  exact h
 have HV : Hid (∀ z ∈ ms, z.kind = 3 → 0 ≤ z.value ∧ z.value ≤ 12) := fun z hz hk => by
  obtain ⟨-, -, -, -, -, -, v1, v2, -⟩ := Msg.of_slot (Msg.ledger_all hled z hz) (Or.inr hk)
  exact ⟨v1, v2⟩
 have HD : Hid (Msg.dset f ms slot ms.length = Msg.decided f ms slot) := Msg.dset_decided hled
 have HR0 : Hid (∀ (b n : Nat) (wx : World), Nst.SMap wx b n (Msg.decided f ms slot) → Calls Tryz.prog 186 #[.map (some b)] wx fun e w' => ∃ v g, e = .returned v ∧ wx.heap.size ≤ g ∧ Led.IOwn w' v g (Msg.decided f ms slot) ∧ Ext wx w') := fun b n wx h => Nst.rising_any b n _ wx h (Msg.decidedK_ris _ _ _ _) (by have := Msg.decidedK_len f ms slot 13; unfold Msg.decided; omega)
 obtain ⟨a, cap, rfl, hlc, hcm, hx⟩ := hS
 have HX : Hid (0 < ms.length → ∃ b off, a = some ⟨b, off, none⟩ ∧ b < w.heap.size ∧ MsAt w b off ms) := hx
 clear hx hled
 unfold maxLen at hcm
 have hmk := Nst.make_set
 go_enter Tryz.func173, Tryz.ntmps173
 go_wp2
 go_loopw [13] (fun i wr => ∃ (k n : Nat), k ≤ ms.length ∧ i = .int .i64 k ∧ n ≤ k ∧ Hid (Nst.SMap wr w.heap.size n (Msg.dset f ms slot k)) ∧ Hid (Ext w wr)) (fun i _ => ms.length - (intOf i).toNat)
 case atStart => exact ⟨0, 0, Nat.zero_le _, rfl, Nat.le_refl _, Nst.SMap.made w, (Ext.refl _).alloc _⟩
 case round =>
  obtain ⟨k, n, hk, rfl, hn, HM, HE⟩ := hrel
  by_cases hlt : k < ms.length
  ·obtain ⟨z, hzk⟩ : ∃ z, ms[k]? = some z := ⟨_, List.getElem?_eq_getElem hlt⟩
   obtain ⟨b, off, rfl, hb, hN⟩ := HX.out (by omega)
   obtain ⟨vz, uz, ⟨d0, d1, d2, d3, d4, d5, d6⟩, hLz⟩ := hN.ext hb HE.out k z hzk
   have HLz : Hid (MLs wr vz uz z) := hLz
   have HZ : Hid (ms[k]? = some z) := hzk
   have HZm : Hid (z ∈ ms) := List.mem_of_getElem? hzk
   obtain ⟨y0, y1, y2, y3, rfl, rfl, -, -, -, -⟩ := hLz.form
   clear hzk hN hLz
   by_cases h1 : z.kind = 3
   ·by_cases h2 : z.slot = slot
    ·have HC : Hid (Calls Tryz.prog 132 #[.int .i64 f, .slice (some ⟨b, off, none⟩) ms.length cap, magg z (.slice y0 z.certs.length y1) (.slice y2 z.refs.length y3)] (wr.alloc (.cells #[.int .i64 z.kind, .int .i64 z.view, .int .i64 z.from_, .int .i64 z.slot, .int .i64 z.value, .slice y0 z.certs.length y1, .slice y2 z.refs.length y3] 40)) fun e w' => e = .returned (.bool (Msg.enough f ms 3 ⟨z.slot, z.view, z.value⟩)) ∧ Ext (wr.alloc (.cells #[.int .i64 z.kind, .int .i64 z.view, .int .i64 z.from_, .int .i64 z.slot, .int .i64 z.value, .slice y0 z.certs.length y1, .slice y2 z.refs.length y3] 40)) w') := HQ.out z _ _ _ (HE.out.alloc _) HZm.out h1 (HLz.out.ext ((Ext.refl _).alloc _))
     unfold magg at HC
     have g1 : (z.kind == 3) = true := by simpa using h1
     have g2 : (z.slot == slot) = true := by simpa using h2
     have HK : Hid (z.kind = 3 ∧ z.slot = slot) := ⟨h1, h2⟩
     clear h1 h2
     go_wp2_with fail
     refine HC.out.mono ?_
     rintro e w2 ⟨rfl, hb2⟩
     have HE2 : Hid (Ext w w2) := (HE.out.alloc _).trans hb2
     have HM2 : Hid (Nst.SMap w2 w.heap.size n (Msg.dset f ms slot k)) := HM.out.ext (((Ext.refl _).alloc _).trans hb2)
     obtain ⟨-, ⟨p0, p1, p2, p3, p4, p5, p6⟩, -⟩ := (mbox_new wr z (.slice y0 z.certs.length y1) (.slice y2 z.refs.length y3) 40).ext hb2
     clear hb2 d0 d1 d2 d3 d4 d5 d6 HC
     cases hq : Msg.enough f ms 3 ⟨z.slot, z.view, z.value⟩ with
     | true =>
      have hv := HV.out z HZm.out HK.out.1
      have HK2 : Hid (Msg.dset f ms slot (k + 1) = Nst.put z.value (Msg.dset f ms slot k)) := Msg.dset_yes HZ.out ⟨HK.out.1, HK.out.2, hq⟩
      have HA : Hid (Calls Tryz.prog 177 #[.map (some w.heap.size), .int .i64 z.value] w2 fun e w' => e = .returned (.tuple #[]) ∧ Nst.SMap w' w.heap.size (n + 1) (Nst.put z.value (Msg.dset f ms slot k)) ∧ Upd w.heap.size w2 w') := Nst.add_any _ _ _ _ _ HM2.out (Msg.dset_ris _ _ _ _) (by omega) (by omega)
      clear hq
      go_wp2_with fail
      refine HA.out.mono ?_
      rintro e w3 ⟨rfl, hM3, hu3⟩
      have HE3 : Hid (Ext w w3) := hu3.to_ext HE2.out (Nat.le_refl _)
      have HM3 : Hid (Nst.SMap w3 w.heap.size (n + 1) (Msg.dset f ms slot (k + 1))) := by rw [HK2.out]; exact hM3
      clear hM3 hu3
      go_wp2
      exact ⟨⟨k + 1, n + 1, by omega, by go_num, by omega, HM3, HE3⟩, by simp [intOf]; omega⟩
     | false =>
      have HK2 : Hid (Msg.dset f ms slot (k + 1) = Msg.dset f ms slot k) := Msg.dset_no HZ.out (fun h => by rw [hq] at h; exact absurd h.2.2 (by decide))
      have HM3 : Hid (Nst.SMap w2 w.heap.size n (Msg.dset f ms slot (k + 1))) := by rw [HK2.out]; exact HM2.out
      clear hq
      go_wp2
      exact ⟨⟨k + 1, n, by omega, by go_num, by omega, HM3, HE2⟩, by simp [intOf]; omega⟩
    ·have g1 : (z.kind == 3) = true := by simpa using h1
     have g2 : (z.slot == slot) = false := by simpa using h2
     have HK2 : Hid (Msg.dset f ms slot (k + 1) = Msg.dset f ms slot k) := Msg.dset_no HZ.out (fun h => h2 h.2.1)
     have HM3 : Hid (∀ o, Nst.SMap (wr.alloc o) w.heap.size n (Msg.dset f ms slot (k + 1))) := fun o => by rw [HK2.out]; exact HM.out.ext ((Ext.refl _).alloc _)
     clear h1 h2
     go_wp2
     exact ⟨⟨k + 1, n, by omega, by go_num, by omega, HM3.out _, HE.out.alloc _⟩, by simp [intOf]; omega⟩
   ·have g1 : (z.kind == 3) = false := by simpa using h1
    have HK2 : Hid (Msg.dset f ms slot (k + 1) = Msg.dset f ms slot k) := Msg.dset_no HZ.out (fun h => h1 h.1)
    have HM3 : Hid (∀ o, Nst.SMap (wr.alloc o) w.heap.size n (Msg.dset f ms slot (k + 1))) := fun o => by rw [HK2.out]; exact HM.out.ext ((Ext.refl _).alloc _)
    clear h1
    go_wp2
    exact ⟨⟨k + 1, n, by omega, by go_num, by omega, HM3.out _, HE.out.alloc _⟩, by simp [intOf]; omega⟩
  ·have hke : k = ms.length := by omega
   have HM3 : Hid (Nst.SMap wr w.heap.size n (Msg.decided f ms slot)) := by rw [← HD.out, ← hke]; exact HM.out
   clear HM
   subst hke
   go_wp2_with fail
   refine (HR0.out _ _ _ HM3.out).mono ?_
   rintro e w5 ⟨v5, g5, rfl, hg5, hO5, hb⟩
   obtain ⟨a5, c5, rfl, -⟩ := id hO5
   have HE5 : Hid (Ext w w5) := HE.out.trans hb
   have HO5 : Hid (Led.IOwn w5 (.slice a5 (Msg.decided f ms slot).length c5) g5 (Msg.decided f ms slot) ∧ w.heap.size ≤ g5) := ⟨hO5, Nat.le_trans HE.out.size hg5⟩
   clear hb hO5 hg5
   go_wp2
   go_ret
   exact ⟨_, g5, rfl, HO5.out.2, HO5.out.1, HE5.out⟩

set_option maxHeartbeats 8000000 in
set_option maxRecDepth 100000 in
theorem logIn_any (f : Int) (v : Value) (ms : List Ms) (w : World) (hS : MSlice w v ms) (hled : Msg.ledger f ms = 0) :
  Calls Tryz.prog 149 #[.int .i64 f, v] w fun e w' => ∃ vo g, e = .returned vo ∧ w.heap.size ≤ g ∧ Led.IOwn w' vo g (Msg.log f ms) ∧ Ext w w' := by
 have hi9 : (Tryz.prog.info? 2).map (fun i => (i.zero, i.size, i.bytes)) = some (some (.int .i64 0), 1, 8) := by kernel_rfl
 obtain ⟨ti, hti, hxx⟩ := Option.map_eq_some_iff.1 hi9
 simp only [Prod.mk.injEq] at hxx
 obtain ⟨hz0, hz1, hz2⟩ := hxx
 clear hi9
 have HV : Hid (∀ (x : Int) (wx : World), Ext w wx → Calls Tryz.prog 173 #[.int .i64 f, v, .int .i64 x] wx fun e w' => ∃ vo g, e = .returned vo ∧ wx.heap.size ≤ g ∧ Led.IOwn w' vo g (Msg.decided f ms x) ∧ Ext wx w') := fun x wx he => decidedIn_any f v ms x wx (hS.ext he) hled
 obtain ⟨a, cap, rfl, -, -, -⟩ := hS
 clear hled
 go_enter Tryz.func149, Tryz.ntmps149
 go_wp2
 go_loopw [5, 8] (fun ov i wr => ∃ (k : Nat), k ≤ 30 ∧ i = .int .i64 (k : Int) ∧ Hid (∀ j, j < k → ¬ Msg.decided f ms ((j : Int) + 1) = []) ∧ Hid (wr.ownsRow w.heap.size 2 1 ov k ((Msg.heads f ms k).map (Value.int .i64))) ∧ Hid (Ext w wr)) (fun _ i _ => 30 - (intOf i).toNat)
 case atStart => exact ⟨0, Nat.zero_le _, rfl, fun j h => by omega, World.ownsRow_nil _ _ _ _, Ext.refl _⟩
 case round =>
  obtain ⟨k, hk, rfl, HH, HO, HE⟩ := hrel
  by_cases hlt : k < 30
  ·have hkk : (k : Int) < 30 := by omega
   have hwk : IntKind.i64.wrap ((k : Int) + 1) = (k : Int) + 1 := by rw [IntKind.wrap_i64]; omega
   go_wp2_with fail
   refine (HV.out _ _ (HE.out)).mono ?_
   rintro e w3 ⟨vo, g, rfl, hg, hO, hb⟩
   obtain ⟨a8, c8, rfl, -⟩ := id hO
   have HO2 : Hid (w3.ownsRow w.heap.size 2 1 u5 k ((Msg.heads f ms k).map (Value.int .i64))) := Led.own_ext HO.out hb
   have HE2 : Hid (Ext w w3) := HE.out.trans hb
   have hws2 : w.heap.size ≤ w3.heap.size := HE2.out.size
   clear hb HO HE
   by_cases hd : Msg.decided f ms ((k : Int) + 1) = []
   ·have HFl : Hid (Msg.log f ms = Msg.heads f ms k) := Msg.log_stop HH.out hd (by omega)
    rw [hd]
    clear hO hd hwk
    have hlk : Hid ((Msg.heads f ms k).length = k) := Msg.heads_len f ms k
    obtain ⟨g3, hg1, hg2, hT⟩ := Led.iown_of_owns (l := Msg.heads f ms k) (by rw [hlk.out]; exact HO2.out)
    obtain ⟨a9, c9, rfl, -⟩ := id hT
    have HT : Hid (w.heap.size ≤ g3 ∧ Led.IOwn w3 (.slice a9 (Msg.heads f ms k).length c9) g3 (Msg.heads f ms k)) := ⟨by omega, hT⟩
    clear hT hg1 hg2
    go_wp2
    go_ret
    rw [HFl.out]
    exact ⟨_, g3, rfl, HT.out.1, HT.out.2, HE2.out⟩
   ·have HH2 : Hid (∀ j, j < k + 1 → ¬ Msg.decided f ms ((j : Int) + 1) = []) := fun j hj => by
     by_cases hjk : j = k
     ·subst hjk; exact hd
     ·exact HH.out j (by omega)
    obtain ⟨off, rfl, d0, hl0, hl1⟩ := Msg.head_at hO hd
    have HK2 : Hid (Msg.heads f ms (k + 1) = Msg.heads f ms k ++ [(Msg.decided f ms ((k : Int) + 1)).headD 0]) := rfl
    clear hO hd hwk
    generalize (Msg.decided f ms ((k : Int) + 1)).headD 0 = x at *
    generalize (Msg.decided f ms ((k : Int) + 1)).length = n at *
    go_wp2_with (at_builtin; go_must (refine wpList_append_own _ rfl _ _ 38 rfl w.heap.size 2 ti (.int .i64 0) 1 8 Tryz.underlying38 hti hz0 hz1 hz2 rfl (by decide) _ _ _ rfl (HO2.out.alloc _) ⟨w3.heap.size, 0, none⟩ 1 1 [.int .i64 (x)] rfl rfl (cellM_one _ _ _ _ rfl) (ints_oneCell .i64 [(x)]) (by unfold maxLen; omega) (by omega) (by simp; omega) ?_; intro v6 w6 hown6 hgrow6 hnil6))
    refine ⟨⟨k + 1, by omega, by go_num, HH2, ?_, Below.grown (HE2.out.alloc _) hgrow6 (by simp; omega) (fun q hq => by have := (HO2.out.lt q hq).1; simpa using this)⟩, by simp [intOf]; omega⟩
    show w6.ownsRow _ _ _ _ _ _
    rw [HK2.out, List.map_append]
    exact hown6
  ·have hke : k = 30 := by omega
   subst hke
   have HFl : Hid (Msg.log f ms = Msg.heads f ms 30) := Msg.log_full HH.out
   have hlk : Hid ((Msg.heads f ms 30).length = 30) := Msg.heads_len f ms 30
   obtain ⟨g3, hg1, hg2, hT⟩ := Led.iown_of_owns (l := Msg.heads f ms 30) (by rw [hlk.out]; exact HO.out)
   obtain ⟨a9, c9, rfl, -⟩ := id hT
   have HT : Hid (w.heap.size ≤ g3 ∧ Led.IOwn wr (.slice a9 (Msg.heads f ms 30).length c9) g3 (Msg.heads f ms 30)) := ⟨by omega, hT⟩
   clear hT hg1 hg2
   go_wp2
   go_ret
   rw [HFl.out]
   exact ⟨_, g3, rfl, HT.out.1, HT.out.2, HE.out⟩

end Go.Proofs.YtecgjdgfjgcmdaaGreat
