/- the changes among some places; both ChangesFors. -/
import Derived.Test.YtecgjdgfjgcmdaaGreatRtQV3
import Derived.Test.YtecgjdgfjgcmdaaGreatRtQV4
namespace Go.Proofs.YtecgjdgfjgcmdaaGreat
open Go.RowKit Go.Maps
theorem Nst.SMap.below {B : Nat} {w w' : World} {b n : Nat} {l : List Int} (h : Nst.SMap w b n l) (he : Below B w w') (hb : b < B) : Nst.SMap w' b n l := by
 obtain ⟨es, clock, hb2, F, hs, hD⟩ := h
 exact ⟨es, clock, (Below.block he b hb).trans hb2, F, hs, hD⟩
theorem Led.owns_upd {w w' : World} {base b : Nat} {e : TypeId} {size : Nat} {v : Value} {n : Nat} {xs : List Value} (h : w.ownsRow base e size v n xs) (hb : b < base) (he : ∀ c, c ≠ b → c < w.heap.size → w'.heap[c]? = w.heap[c]?) : w'.ownsRow base e size v n xs := by
 refine ⟨h.1, ?_⟩
 rcases h.2 with hn | ⟨g, cap, cur, rfl, hbg, hgg, rest⟩
 ·exact .inl hn
 ·exact .inr ⟨g, cap, cur, rfl, hbg, (he g (by omega) (Array.getElem?_eq_some_iff.1 hgg).1).trans hgg, rest⟩
theorem Led.IOwn.take {w : World} {a : Option Addr} {n cap g : Nat} {l : List Int} (h : Led.IOwn w (.slice a n cap) g l) {k m : Nat} (hk : m = (l.take k).length) : Led.IOwn w (.slice a m cap) g (l.take k) := by
 obtain ⟨a0, cap0, h1, h2, h3, h4⟩ := h
 injection h1 with e1 e2 e3
 subst e1 e3
 have hl : (l.take k).length ≤ l.length := by rw [List.length_take]; omega
 refine ⟨a, cap, by rw [hk], by omega, h3, fun h0 => ?_⟩
 obtain ⟨off, e, hr, hN⟩ := h4 (by omega)
 refine ⟨off, e, ⟨hr.1, fun j hj => hr.2 j (by omega)⟩, fun i x hx => hN i x ?_⟩
 rw [List.getElem?_take] at hx
 split at hx
 ·exact hx
 ·cases hx

set_option maxHeartbeats 1000000 in
set_option maxRecDepth 100000 in
theorem Nst.add_all (b n : Nat) (l : List Int) (x : Int) (w : World) (hM : Nst.SMap w b n l) (hr : Nst.Ris l) (hx : -100000 ≤ x ∧ x ≤ 100000) (hn : n ≤ 1000) :
  Calls Tryz.prog 177 #[.map (some b), .int .i64 x] w fun e w' => e = .returned (.tuple #[]) ∧ Nst.SMap w' b (n + 1) (Nst.put x l) ∧ Upd b w w' ∧ ∀ c, c ≠ b → c < w.heap.size → w'.heap[c]? = w.heap[c]? := by
 have hkey := Nst.key64 hx
 have hlt := hM.lt
 have hput : (Nst.map l).put (.int .i64 x) (.agg []) = Nst.map (Nst.put x l) := Nst.map_put x l hr
 have HM : Hid (Nst.SMap w b n l) := hM
 clear hM hr
 go_enter Tryz.func177, Tryz.ntmps177
 go_wp2_with (at_mapUpdate; refine wpList_mapUpdate_own _ rfl _ _ _ 167 rfl 2 178 Nst.law64 Tryz.underlying167 _ b n _ rfl HM.out (by unfold maxLen; omega) _ _ _ rfl rfl hkey _ [] unitElem_mk ?_; intro w1 hown1 hgrow1)
 go_end0
 rw [hput] at hown1
 exact ⟨rfl, hown1, Nst.upd_grown (Upd.refl _ _) hgrow1 (Nat.le_of_lt hlt), fun c hc hl => hgrow1.block c hl (fun e => by cases e; exact hc rfl)⟩

set_option maxHeartbeats 8000000 in
set_option maxRecDepth 100000 in
theorem changesAmong_any (f : Int) (v : Value) (ms : List Ms) (u : Value) (ps : List Int) (view : Int) (w : World) (hS : MSlice w v ms) (hI : ISlice w u ps) (hled : Msg.ledger f ms = 0) (hin : ∀ p ∈ ps, 0 ≤ p ∧ p < (ms.length : Int)) (hpl : ps.length ≤ 240) :
  Calls Tryz.prog 158 #[.int .i64 f, v, u, .int .i64 view] w fun e w' => ∃ vo g, e = .returned vo ∧ w.heap.size ≤ g ∧ Led.IOwn w' vo g (Msg.among f ms view ps ps.length) ∧ Ext w w' := by
 have hi9 : (Tryz.prog.info? 2).map (fun i => (i.zero, i.size, i.bytes)) = some (some (.int .i64 0), 1, 8) := by kernel_rfl
 obtain ⟨ti, hti, hxx⟩ := Option.map_eq_some_iff.1 hi9
 simp only [Prod.mk.injEq] at hxx
 obtain ⟨hz0, hz1, hz2⟩ := hxx
 clear hi9
 have HHas : Hid (∀ (n : Nat) (l : List Int) (x : Int) (bb : Bool) (wx : World), Nst.SMap wx w.heap.size n l → -100000 ≤ x ∧ x ≤ 100000 → decide (x ∈ l) = bb → Calls Tryz.prog 175 #[.map (some w.heap.size), .int .i64 x] wx fun e w' => e = .returned (.bool bb) ∧ Ext wx w') := fun n l x bb wx h1 h2 h3 => Nst.has_any _ _ _ _ _ _ h1 h2 h3
 have HRc : Hid (∀ (z : Ms) (b o : Nat) (wx : World), Ext w wx → MAt wx b o z → 0 ≤ z.view → Calls Tryz.prog 176 #[.int .i64 f, v, .pointer (some ⟨b, o, none⟩)] wx fun e w' => e = .returned (.bool (Msg.changeB f ms z)) ∧ Ext wx w') := fun z b o wx he hm h0 => isRightChange_any f v ms z b o wx (hS.ext he) hled hm h0
 have HFr : Hid (∀ z ∈ ms, (1 ≤ z.from_ ∧ z.from_ ≤ 7) ∧ 0 ≤ z.view) := fun z hz => by
  have h1 := Msg.ledger_all hled z hz
  have h2 := Msg.from_in h1
  have h3 := Msg.view_in h1
  have h4 := Msg.ledger_zero hled
  omega
 have HS : Hid (MSlice w v ms) := hS
 obtain ⟨a, cap, rfl, -, -, -⟩ := hS
 obtain ⟨a2, cap2, rfl, hlc, hcm, hx⟩ := hI
 have HX : Hid (0 < ps.length → ∃ b off, a2 = some ⟨b, off, none⟩ ∧ b < w.heap.size ∧ NumsAt w b off ps) := hx
 have HIn : Hid (∀ p ∈ ps, 0 ≤ p ∧ p < (ms.length : Int)) := hin
 clear hx hin hled
 unfold maxLen at hcm
 have hmk := Nst.make_set
 have HM0 : Hid (Nst.SMap (w.alloc (.map #[] 0)) w.heap.size 0 []) := Nst.SMap.made w
 go_enter Tryz.func158, Tryz.ntmps158
 go_wp2
 go_loopw [9, 17] (fun ov i wr => ∃ (k n : Nat), k ≤ ps.length ∧ i = .int .i64 k ∧ n ≤ k ∧ Hid (wr.ownsRow (w.heap.size + 1) 2 1 ov (Msg.among f ms view ps k).length ((Msg.among f ms view ps k).map (Value.int .i64))) ∧ Hid (Nst.SMap wr w.heap.size n (Msg.sset ms (Msg.among f ms view ps k))) ∧ Hid (Ext w wr)) (fun _ i _ => ps.length - (intOf i).toNat)
 case atStart => exact ⟨0, 0, Nat.zero_le _, rfl, Nat.le_refl _, World.ownsRow_nil _ _ _ _, HM0, (Ext.refl _).alloc _⟩
 case round =>
  obtain ⟨k, n, hk, rfl, hn, HO, HM, HE⟩ := hrel
  by_cases hlt : k < ps.length
  ·obtain ⟨p, hpk⟩ : ∃ p, ps[k]? = some p := ⟨_, List.getElem?_eq_getElem hlt⟩
   obtain ⟨b, off, rfl, hb, hN⟩ := HX.out (by omega)
   have d0 := hN.ext hb HE.out k p hpk
   have hp := HIn.out p (List.mem_of_getElem? hpk)
   obtain ⟨z, h2, h3⟩ := Msg.nth_at hp.1 hp.2
   obtain ⟨q, rfl⟩ : ∃ k : Nat, p = k := ⟨p.toNat, by omega⟩
   have h2 : ms[q]? = some z := h2
   obtain ⟨b1, off1, cap1, e1, hlt1, hlm1, hcm1, hb1, hm⟩ := (HS.out.ext HE.out).at2 h2
   injection e1 with e1 e4 e5
   subst e1 e5
   have HMz : Hid (MAt wr b1 (off1 + q * 7) z) := hm
   obtain ⟨vz, uz, ⟨c0, c1, c2, -, -, -, -⟩, -⟩ := hm
   have HZ : Hid (ps[k]? = some (q : Int)) := hpk
   have HNt : Hid (Msg.nth ms (q : Int) = some z) := h3
   obtain ⟨hzf, hzv⟩ := HFr.out z (List.mem_of_getElem? h2)
   have HV : Hid (0 ≤ z.view) := hzv
   have hal := Msg.among_len f ms view ps k
   clear hpk hN h2 h3 hp c0 e4 hzv
   by_cases hv : z.view = view
   ·have g1 : (z.view == view) = true := by simpa using hv
    cases hf : Msg.fromIn ms (Msg.among f ms view ps k) z.from_ with
    | true =>
     have HK2 : Hid (Msg.among f ms view ps (k + 1) = Msg.among f ms view ps k) := Msg.among_no HZ.out (by unfold Msg.okP; rw [Msg.fromAt_some HNt.out, hf]; simp)
     have HH : Hid (Calls Tryz.prog 175 #[.map (some w.heap.size), .int .i64 z.from_] wr fun e w' => e = .returned (.bool true) ∧ Ext wr w') := HHas.out n _ _ true wr HM.out (by omega) (by rw [Msg.sset_has]; exact hf)
     clear hf hv
     go_wp2_with fail
     refine HH.out.mono ?_
     rintro e w3 ⟨rfl, hb3⟩
     have HE3 : Hid (Ext w w3) := HE.out.trans hb3
     have HO3 : Hid (w3.ownsRow (w.heap.size + 1) 2 1 u9 (Msg.among f ms view ps k).length ((Msg.among f ms view ps k).map (Value.int .i64))) := Led.own_ext HO.out hb3
     have HM3 : Hid (Nst.SMap w3 w.heap.size n (Msg.sset ms (Msg.among f ms view ps k))) := HM.out.ext hb3
     clear hb3
     have HO9 : Hid (w3.ownsRow (w.heap.size + 1) 2 1 u9 (Msg.among f ms view ps (k + 1)).length ((Msg.among f ms view ps (k + 1)).map (Value.int .i64))) := by show w3.ownsRow _ _ _ _ _ _; rw [HK2.out]; exact HO3.out
     have HM9 : Hid (Nst.SMap w3 w.heap.size n (Msg.sset ms (Msg.among f ms view ps (k + 1)))) := by show Nst.SMap _ _ _ _; rw [HK2.out]; exact HM3.out
     go_wp2
     exact ⟨⟨k + 1, n, by omega, by go_num, by omega, HO9, HM9, HE3⟩, by simp [intOf]; omega⟩
    | false =>
     have HH : Hid (Calls Tryz.prog 175 #[.map (some w.heap.size), .int .i64 z.from_] wr fun e w' => e = .returned (.bool false) ∧ Ext wr w') := HHas.out n _ _ false wr HM.out (by omega) (by rw [Msg.sset_has]; exact hf)
     have HHf : Hid (Msg.fromIn ms (Msg.among f ms view ps k) z.from_ = false ∧ z.view = view) := ⟨hf, hv⟩
     clear hf hv
     go_wp2_with fail
     refine HH.out.mono ?_
     rintro e w3 ⟨rfl, hb3⟩
     have HE3 : Hid (Ext w w3) := HE.out.trans hb3
     have HO3 : Hid (w3.ownsRow (w.heap.size + 1) 2 1 u9 (Msg.among f ms view ps k).length ((Msg.among f ms view ps k).map (Value.int .i64))) := Led.own_ext HO.out hb3
     have HM3 : Hid (Nst.SMap w3 w.heap.size n (Msg.sset ms (Msg.among f ms view ps k))) := HM.out.ext hb3
     have HMz3 : Hid (MAt w3 b1 (off1 + q * 7) z) := HMz.out.ext hb1 hb3
     have hb13 : b1 < w3.heap.size := Nat.lt_of_lt_of_le hb1 hb3.size
     clear hb3 c1 c2 HO HM HE HMz HH
     go_wp2_with fail
     refine (HRc.out z _ _ _ HE3.out HMz3.out HV.out).mono ?_
     rintro e w4 ⟨rfl, hb4⟩
     have HE4 : Hid (Ext w w4) := HE3.out.trans hb4
     have HO4 : Hid (w4.ownsRow (w.heap.size + 1) 2 1 u9 (Msg.among f ms view ps k).length ((Msg.among f ms view ps k).map (Value.int .i64))) := Led.own_ext HO3.out hb4
     have HM4 : Hid (Nst.SMap w4 w.heap.size n (Msg.sset ms (Msg.among f ms view ps k))) := HM3.out.ext hb4
     obtain ⟨vz4, uz4, ⟨-, -, c2, -, -, -, -⟩, -⟩ := HMz3.out.ext hb13 hb4
     clear hb4 HO3 HM3 HE3 HMz3
     cases hc : Msg.changeB f ms z with
     | false =>
      have HK2 : Hid (Msg.among f ms view ps (k + 1) = Msg.among f ms view ps k) := Msg.among_no HZ.out (by unfold Msg.okP; rw [Msg.changeAt_some HNt.out, hc]; simp)
      clear hc
      have HO9 : Hid (w4.ownsRow (w.heap.size + 1) 2 1 u9 (Msg.among f ms view ps (k + 1)).length ((Msg.among f ms view ps (k + 1)).map (Value.int .i64))) := by show w4.ownsRow _ _ _ _ _ _; rw [HK2.out]; exact HO4.out
      have HM9 : Hid (Nst.SMap w4 w.heap.size n (Msg.sset ms (Msg.among f ms view ps (k + 1)))) := by show Nst.SMap _ _ _ _; rw [HK2.out]; exact HM4.out
      go_wp2
      exact ⟨⟨k + 1, n, by omega, by go_num, by omega, HO9, HM9, HE4⟩, by simp [intOf]; omega⟩
     | true =>
      have HK2 : Hid (Msg.among f ms view ps (k + 1) = Msg.among f ms view ps k ++ [(q : Int)]) := Msg.among_yes HZ.out (by unfold Msg.okP; rw [Msg.changeAt_some HNt.out, hc, Msg.fromAt_some HNt.out, HHf.out.1, Msg.viewAt_some HNt.out, HHf.out.2]; simp)
      have HK3 : Hid (Msg.sset ms (Msg.among f ms view ps (k + 1)) = Nst.put z.from_ (Msg.sset ms (Msg.among f ms view ps k))) := by show _ = _; rw [HK2.out, Msg.sset_snoc, Msg.fromAt_some HNt.out]
      have HA : Hid (Calls Tryz.prog 177 #[.map (some w.heap.size), .int .i64 z.from_] w4 fun e w' => e = .returned (.tuple #[]) ∧ Nst.SMap w' w.heap.size (n + 1) (Nst.put z.from_ (Msg.sset ms (Msg.among f ms view ps k))) ∧ Upd w.heap.size w4 w' ∧ ∀ c, c ≠ w.heap.size → c < w4.heap.size → w'.heap[c]? = w4.heap[c]?) := Nst.add_all _ _ _ _ _ HM4.out (Msg.sset_ris _ _) (by omega) (by omega)
      clear hc
      go_wp2_with fail
      refine HA.out.mono ?_
      rintro e w5 ⟨rfl, hM5, hu5, hk5⟩
      have HE5 : Hid (Ext w w5) := hu5.to_ext HE4.out (Nat.le_refl _)
      have HM5 : Hid (Nst.SMap w5 w.heap.size (n + 1) (Msg.sset ms (Msg.among f ms view ps (k + 1)))) := by show Nst.SMap _ _ _ _; rw [HK3.out]; exact hM5
      have HO5 : Hid (w5.ownsRow (w.heap.size + 1) 2 1 u9 (Msg.among f ms view ps k).length ((Msg.among f ms view ps k).map (Value.int .i64))) := Led.owns_upd HO4.out (Nat.lt_succ_self _) hk5
      have hws5 : w.heap.size + 1 ≤ w5.heap.size := hM5.lt
      clear hM5 hu5 hk5 HA c2 HO4 HM4 HE4
      go_wp2_with (at_builtin; go_must (refine wpList_append_own _ rfl _ _ 38 rfl (w.heap.size + 1) 2 ti (.int .i64 0) 1 8 Tryz.underlying38 hti hz0 hz1 hz2 rfl (by decide) _ _ _ rfl (HO5.out.alloc _) ⟨w5.heap.size, 0, none⟩ 1 1 [.int .i64 (q : Int)] rfl rfl (cellM_one _ _ _ _ rfl) (ints_oneCell .i64 [(q : Int)]) (by unfold maxLen; omega) (by omega) (by simp; omega) ?_; intro v6 w6 hown6 hgrow6 hnil6))
      have hB : Below (w.heap.size + 1) w5 w6 := Below.grown (Below.alloc (Below.refl _ _) hws5 _) hgrow6 (by simp; omega) (fun r hr => (HO5.out.lt r hr).1)
      refine ⟨⟨k + 1, n + 1, by omega, by go_num, by omega, ?_, HM5.out.below hB (Nat.lt_succ_self _), Below.trans HE5.out (Below.mono hB (Nat.le_succ _))⟩, by simp [intOf]; omega⟩
      show w6.ownsRow _ _ _ _ _ _
      rw [HK2.out, List.map_append, List.length_append]
      exact hown6
   ·have g1 : (z.view == view) = false := by simpa using hv
    have HK2 : Hid (Msg.among f ms view ps (k + 1) = Msg.among f ms view ps k) := Msg.among_no HZ.out (by unfold Msg.okP; rw [Msg.viewAt_some HNt.out, decide_eq_false hv]; rfl)
    clear hv
    have HO9 : Hid (wr.ownsRow (w.heap.size + 1) 2 1 u9 (Msg.among f ms view ps (k + 1)).length ((Msg.among f ms view ps (k + 1)).map (Value.int .i64))) := by show wr.ownsRow _ _ _ _ _ _; rw [HK2.out]; exact HO.out
    have HM9 : Hid (Nst.SMap wr w.heap.size n (Msg.sset ms (Msg.among f ms view ps (k + 1)))) := by show Nst.SMap _ _ _ _; rw [HK2.out]; exact HM.out
    go_wp2
    exact ⟨⟨k + 1, n, by omega, by go_num, by omega, HO9, HM9, HE⟩, by simp [intOf]; omega⟩
  ·have hke : k = ps.length := by omega
   subst hke
   obtain ⟨g, hg1, hg2, hT⟩ := Led.iown_of_owns HO.out
   obtain ⟨a8, c8, rfl, -⟩ := id hT
   have HT : Hid (w.heap.size ≤ g ∧ Led.IOwn wr (.slice a8 (Msg.among f ms view ps ps.length).length c8) g (Msg.among f ms view ps ps.length)) := ⟨by omega, hT⟩
   clear hT hg1 hg2
   go_wp2
   go_ret
   exact ⟨_, g, rfl, HT.out.1, HT.out.2, HE.out⟩

set_option maxHeartbeats 4000000 in
set_option maxRecDepth 100000 in
theorem placesIn_any (v : Value) (ms : List Ms) (w : World) (hS : MSlice w v ms) (hml : ms.length ≤ 240) :
  Calls Tryz.prog 159 #[v] w fun e w' => ∃ vo g, e = .returned vo ∧ w.heap.size ≤ g ∧ Led.IOwn w' vo g (Nst.upto 0 ms.length) ∧ Ext w w' := by
 have hi9 : (Tryz.prog.info? 2).map (fun i => (i.zero, i.size, i.bytes)) = some (some (.int .i64 0), 1, 8) := by kernel_rfl
 obtain ⟨ti, hti, hxx⟩ := Option.map_eq_some_iff.1 hi9
 simp only [Prod.mk.injEq] at hxx
 obtain ⟨hz0, hz1, hz2⟩ := hxx
 clear hi9
 obtain ⟨a, cap, rfl, -, -, -⟩ := hS
 go_enter Tryz.func159, Tryz.ntmps159
 go_wp2
 go_loopw [3, 7] (fun ov i wr => ∃ (k : Nat), k ≤ ms.length ∧ i = .int .i64 k ∧ Hid (wr.ownsRow w.heap.size 2 1 ov k ((Nst.upto 0 k).map (Value.int .i64))) ∧ Hid (Ext w wr)) (fun _ i _ => ms.length - (intOf i).toNat)
 case atStart => exact ⟨0, Nat.zero_le _, rfl, World.ownsRow_nil _ _ _ _, Ext.refl _⟩
 case round =>
  obtain ⟨k, hk, rfl, HO, HE⟩ := hrel
  by_cases hlt : k < ms.length
  ·have hws : w.heap.size ≤ wr.heap.size := HE.out.size
   go_wp2_with (at_builtin; go_must (refine wpList_append_own _ rfl _ _ 38 rfl (w.heap.size) 2 ti (.int .i64 0) 1 8 Tryz.underlying38 hti hz0 hz1 hz2 rfl (by decide) _ _ _ rfl (HO.out.alloc _) ⟨wr.heap.size, 0, none⟩ 1 1 [.int .i64 (k : Int)] rfl rfl (cellM_one _ _ _ _ rfl) (ints_oneCell .i64 [(k : Int)]) (by unfold maxLen; omega) (by omega) (by simp; omega) ?_; intro v6 w6 hown6 hgrow6 hnil6))
   refine ⟨⟨k + 1, by omega, by go_num, ?_, Below.grown (HE.out.alloc _) hgrow6 (by simp; omega) (fun q hq => (HO.out.lt q hq).1)⟩, by simp [intOf]; omega⟩
   show w6.ownsRow _ _ _ _ _ _
   rw [Nst.upto, List.map_append, Int.zero_add]
   exact hown6
  ·have hke : k = ms.length := by omega
   subst hke
   obtain ⟨g, hg1, hg2, hT⟩ := Led.iown_of_owns (l := Nst.upto 0 ms.length) (by rw [Nst.len_upto]; exact HO.out)
   obtain ⟨a8, c8, rfl, -⟩ := id hT
   have hlu := Nst.len_upto 0 ms.length
   have HT : Hid (w.heap.size ≤ g ∧ Led.IOwn wr (.slice a8 (Nst.upto 0 ms.length).length c8) g (Nst.upto 0 ms.length)) := ⟨by omega, hT⟩
   clear hT hg1 hg2 hlu
   go_wp2
   go_ret
   exact ⟨_, g, rfl, HT.out.1, HT.out.2, HE.out⟩

set_option maxHeartbeats 4000000 in
set_option maxRecDepth 100000 in
theorem changesFor_any (f x : Int) (v : Value) (ms : List Ms) (w : World) (hS : MSlice w v ms) (hled : Msg.ledger f ms = 0) :
  Calls Tryz.prog 122 #[.int .i64 f, v, .int .i64 x] w fun e w' => ∃ vo g, e = .returned vo ∧ w.heap.size ≤ g ∧ Led.IOwn w' vo g ((Msg.among f ms x (Nst.upto 0 ms.length) ms.length).take (2 * f + 1).toNat) ∧ Ext w w' := by
 have HP : Hid (∀ wx, Ext w wx → ms.length ≤ 240 → Calls Tryz.prog 159 #[v] wx fun e w' => ∃ vo g, e = .returned vo ∧ wx.heap.size ≤ g ∧ Led.IOwn w' vo g (Nst.upto 0 ms.length) ∧ Ext wx w') := fun wx he h => placesIn_any v ms wx (hS.ext he) h
 have HQ : Hid (1 ≤ f → f ≤ 2 → ∀ wx, Calls Tryz.prog 90 #[.int .i64 f] wx fun e w' => e = .returned (.int .i64 (2 * f + 1)) ∧ w' = wx) := fun h0 h1 wx => quorumOf_any f wx h0 h1
 have HA : Hid (∀ (u : Value) (wx : World), Ext w wx → ISlice wx u (Nst.upto 0 ms.length) → ms.length ≤ 240 → Calls Tryz.prog 158 #[.int .i64 f, v, u, .int .i64 x] wx fun e w' => ∃ vo g, e = .returned vo ∧ wx.heap.size ≤ g ∧ Led.IOwn w' vo g (Msg.among f ms x (Nst.upto 0 ms.length) ms.length) ∧ Ext wx w') := fun u wx he hi hl => by
  have q := changesAmong_any f v ms u (Nst.upto 0 ms.length) x wx (hS.ext he) hi hled (fun p hp => by have := Nst.mem_upto.1 hp; omega) (by rw [Nst.len_upto]; exact hl)
  rw [Nst.len_upto] at q
  exact q
 obtain ⟨a, cap, rfl, -, -, -⟩ := hS
 obtain ⟨hf0, hf1, hml⟩ := Msg.ledger_zero hled
 clear hled
 go_enter Tryz.func122, Tryz.ntmps122
 go_wp2_with fail
 refine (HP.out _ (Ext.refl _) hml).mono ?_
 rintro e w3 ⟨v3, g3, rfl, -, hO3, hb⟩
 obtain ⟨a3, c3, rfl, -⟩ := id hO3
 have HE3 : Hid (Ext w w3) := hb
 have HI3 : Hid (ISlice w3 (.slice a3 (Nst.upto 0 ms.length).length c3) (Nst.upto 0 ms.length)) := hO3.slice
 clear hb hO3
 go_wp2_with fail
 refine (HA.out _ _ HE3.out HI3.out hml).mono ?_
 rintro e w5 ⟨v5, g5, rfl, hg5, hO5, hb⟩
 have HE5 : Hid (Ext w w5) := HE3.out.trans hb
 obtain ⟨a5, c5, rfl, hlc5, hcm5, -⟩ := id hO5
 have hal := Msg.among_len f ms x (Nst.upto 0 ms.length) ms.length
 generalize hrs : Msg.among f ms x (Nst.upto 0 ms.length) ms.length = rs at *
 have HRS : Hid (_ = _) := hrs
 clear hrs
 have HO5 : Hid (Led.IOwn w5 (.slice a5 rs.length c5) g5 rs ∧ w.heap.size ≤ g5) := ⟨hO5, Nat.le_trans HE3.out.size hg5⟩
 have hnil : a5 = none → rs.length = 0 := fun h => by
  by_cases h0 : 0 < rs.length
  ·obtain ⟨q1, q2, e1, -, -, h4⟩ := id hO5
   injection e1 with e1 e2 e3
   obtain ⟨off, e, -⟩ := h4 h0
   rw [← e1, h] at e; cases e
  ·omega
 clear hb hO5 hg5
 unfold maxLen at hcm5
 obtain ⟨m, hm⟩ : ∃ m : Nat, m = (rs.take (2 * f + 1).toNat).length := ⟨_, rfl⟩
 have hmL := hm
 rw [List.length_take] at hm
 have hmm : min (rs.length : Int) (2 * f + 1) = (m : Int) := by omega
 have HT : Hid (Led.IOwn w5 (.slice a5 m c5) g5 (rs.take (2 * f + 1).toNat)) := HO5.out.1.take hmL
 have hmr : m ≤ rs.length := by omega
 have hmc : m ≤ c5 := by omega
 clear hm hmL
 go_wp2_with fail
 refine (HQ.out hf0 hf1 _).mono ?_
 rintro e w9 ⟨rfl, hw⟩
 rw [hw]
 clear hw w9
 go_wp2
 go_ret
 exact ⟨.slice a5 m c5, g5, rfl, HO5.out.2, by rw [HRS.out]; exact HT.out, HE5.out⟩

end Go.Proofs.YtecgjdgfjgcmdaaGreat
