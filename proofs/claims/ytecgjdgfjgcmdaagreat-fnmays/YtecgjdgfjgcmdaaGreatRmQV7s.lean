/- what a new view takes over: the specification's. -/
import Derived.Test.YtecgjdgfjgcmdaaGreatRmGV
import Derived.Test.YtecgjdgfjgcmdaaGreatRmQV4
import Derived.Test.YtecgjdgfjgcmdaaGreatRmQV5
namespace Go.Proofs.YtecgjdgfjgcmdaaGreat
open Go.RowKit
set_option maxHeartbeats 8000000 in
set_option maxRecDepth 100000 in
theorem l10Best_any (f : Int) (v : Value) (ms : List Ms) (u : Value) (ps : List Int) (slot : Int) (w : World) (hS : MSlice w v ms) (hI : ISlice w u ps) (hled : Msg.ledger f ms = 0) (hin : ∀ p ∈ ps, 0 ≤ p ∧ p < (ms.length : Int)) :
  Calls Tryz.prog 151 #[v, u, .int .i64 slot] w fun e w' => e = .returned (.tuple #[.int .i64 (Msg.vl (Msg.best (Msg.cat ms ps) slot)), .bool (Msg.best (Msg.cat ms ps) slot).isSome]) ∧ w' = w := by
 have HVw : Hid (∀ z ∈ ms, ∀ c ∈ z.certs, 0 ≤ c.view) := fun z hz c hc => ((Msg.lists_zero (Msg.ledger_all hled z hz)).2.2.1 c hc).2.2.1
 have HCi : Hid (∀ c ∈ Msg.cat ms ps, 0 ≤ c.view) := fun c hc => (Msg.cat_in hled c hc).2.2.1
 have HS : Hid (MSlice w v ms) := hS
 obtain ⟨a, cap, rfl, -, -, -⟩ := hS
 obtain ⟨a2, cap2, rfl, hlc, hcm, hx⟩ := hI
 have HX : Hid (0 < ps.length → ∃ b off, a2 = some ⟨b, off, none⟩ ∧ b < w.heap.size ∧ NumsAt w b off ps) := hx
 have HIn : Hid (∀ p ∈ ps, 0 ≤ p ∧ p < (ms.length : Int)) := hin
 clear hx hin hled
 unfold maxLen at hcm
 go_enter Tryz.func151, Tryz.ntmps151
 go_wp2
 go_loopw [8, 9, 10] (fun vv lv i wr => ∃ (k : Nat), k ≤ ps.length ∧ i = .int .i64 k ∧ vv = .int .i64 (Msg.vw (Msg.best (Msg.cat ms (ps.take k)) slot)) ∧ lv = .int .i64 (Msg.vl (Msg.best (Msg.cat ms (ps.take k)) slot)) ∧ Hid (wr = w)) (fun _ _ i _ => ps.length - (intOf i).toNat)
 case atStart => exact ⟨0, Nat.zero_le _, rfl, rfl, rfl, rfl⟩
 case round =>
  obtain ⟨k, hk, rfl, rfl, rfl, HW⟩ := hrel
  obtain rfl : wr = w := HW.out
  by_cases hlt : k < ps.length
  ·obtain ⟨p, hpk⟩ : ∃ p, ps[k]? = some p := ⟨_, List.getElem?_eq_getElem hlt⟩
   obtain ⟨b, off, rfl, hb, hN⟩ := HX.out (by omega)
   have d0 := hN k p hpk
   have hp := HIn.out p (List.mem_of_getElem? hpk)
   obtain ⟨z, h2, h3⟩ := Msg.nth_at hp.1 hp.2
   obtain ⟨q, rfl⟩ : ∃ k : Nat, p = k := ⟨p.toNat, by omega⟩
   have h2 : ms[q]? = some z := h2
   obtain ⟨b1, off1, cap1, e1, hlt1, hlm1, hcm1, hb1, hm⟩ := HS.out.at2 h2
   injection e1 with e1 e4 e5
   subst e1 e5
   obtain ⟨vz, uz, ⟨-, -, -, -, -, c5, -⟩, hL⟩ := hm
   obtain ⟨⟨ac, cc, rfl, hcc, hccm, hcx⟩, -⟩ := hL
   have HCX : Hid (0 < z.certs.length → ∃ b off, ac = some ⟨b, off, none⟩ ∧ b < wr.heap.size ∧ CtsAt wr b off z.certs) := hcx
   have HV : Hid (∀ c ∈ z.certs, 0 ≤ c.view) := HVw.out z (List.mem_of_getElem? h2)
   have HK2 : Hid (Msg.cat ms (ps.take (k + 1)) = Msg.cat ms (ps.take k) ++ z.certs) := by show _ = _; rw [Msg.cat_step hpk, Msg.certsAt_some h3]
   have HB0 : Hid (Msg.best (Msg.cat ms (ps.take k) ++ z.certs.take 0) slot = Msg.best (Msg.cat ms (ps.take k)) slot) := by show _ = _; rw [List.take_zero, List.append_nil]
   unfold maxLen at hccm
   clear hpk hN h2 h3 hp e4 hcx
   go_wp2
   clear d0 c5
   go_loopw [8, 9, 12] (fun vv lv i wr' => ∃ (j : Nat), j ≤ z.certs.length ∧ i = .int .i64 j ∧ vv = .int .i64 (Msg.vw (Msg.best (Msg.cat ms (ps.take k) ++ z.certs.take j) slot)) ∧ lv = .int .i64 (Msg.vl (Msg.best (Msg.cat ms (ps.take k) ++ z.certs.take j) slot)) ∧ Hid (wr' = wr)) (fun _ _ i _ => z.certs.length - (intOf i).toNat)
   case atStart => exact ⟨0, Nat.zero_le _, rfl, by rw [HB0.out], by rw [HB0.out], rfl⟩
   case round =>
    obtain ⟨j, hj, rfl, rfl, rfl, HW2⟩ := hrel
    have hw2 := HW2.out
    subst hw2
    by_cases hlj : j < z.certs.length
    ·obtain ⟨c, hcj⟩ : ∃ c, z.certs[j]? = some c := ⟨_, List.getElem?_eq_getElem hlj⟩
     obtain ⟨b9, o9, rfl, hb9, hN9⟩ := HCX.out (by omega)
     obtain ⟨d0, d1, d2⟩ := hN9 j c hcj
     have HSt : Hid (Msg.best (Msg.cat ms (ps.take k) ++ z.certs.take (j + 1)) slot = Msg.better slot (Msg.best (Msg.cat ms (ps.take k) ++ z.certs.take j) slot) c) := by
      show _ = _
      obtain ⟨hj', rfl⟩ := List.getElem?_eq_some_iff.1 hcj
      rw [List.take_succ_eq_append_getElem hj', ← List.append_assoc, Msg.best_snoc]
     have hc0 := HV.out c (List.mem_of_getElem? hcj)
     clear hcj hN9
     generalize Msg.best (Msg.cat ms (ps.take k) ++ z.certs.take j) slot = o at *
     by_cases hs : c.slot = slot
     ·have g1 : (c.slot == slot) = true := by simpa using hs
      by_cases hv : Msg.vw o < c.view
      ·have HF : Hid (Msg.best (Msg.cat ms (ps.take k) ++ z.certs.take (j + 1)) slot = some c) := by show _ = _; rw [HSt.out]; exact Msg.better_take hs hv
       clear hs
       go_wp2
       exact ⟨⟨j + 1, by omega, by go_num, by rw [HF.out]; rfl, by rw [HF.out]; rfl, by first | exact rfl | exact (trivial : True)⟩, by simp [intOf]; omega⟩
      ·have HF : Hid (Msg.best (Msg.cat ms (ps.take k) ++ z.certs.take (j + 1)) slot = o) := by show _ = _; rw [HSt.out]; exact Msg.better_keep hc0 hv
       clear hs
       go_wp2
       exact ⟨⟨j + 1, by omega, by go_num, by rw [HF.out], by rw [HF.out], by first | exact rfl | exact (trivial : True)⟩, by simp [intOf]; omega⟩
     ·have g1 : (c.slot == slot) = false := by simpa using hs
      have HF : Hid (Msg.best (Msg.cat ms (ps.take k) ++ z.certs.take (j + 1)) slot = o) := by show _ = _; rw [HSt.out]; exact Msg.better_ne hs
      clear hs
      go_wp2
      exact ⟨⟨j + 1, by omega, by go_num, by rw [HF.out], by rw [HF.out], by first | exact rfl | exact (trivial : True)⟩, by simp [intOf]; omega⟩
    ·have hje : j = z.certs.length := by omega
     have HF : Hid (Msg.best (Msg.cat ms (ps.take k) ++ z.certs.take j) slot = Msg.best (Msg.cat ms (ps.take (k + 1))) slot) := by show _ = _; rw [HK2.out, hje, List.take_length]
     clear hje
     generalize Msg.best (Msg.cat ms (ps.take k) ++ z.certs.take j) slot = o at *
     go_wp2
     exact ⟨⟨k + 1, by omega, by go_num, by rw [HF.out], by rw [HF.out], by first | exact rfl | exact (trivial : True)⟩, by simp [intOf]; omega⟩
  ·have hke : k = ps.length := by omega
   have HF : Hid (Msg.best (Msg.cat ms (ps.take k)) slot = Msg.best (Msg.cat ms ps) slot) := by show _ = _; rw [hke, List.take_length]
   have HG : Hid (decide (0 ≤ Msg.vw (Msg.best (Msg.cat ms ps) slot)) = (Msg.best (Msg.cat ms ps) slot).isSome) := by
    show _ = _
    rw [Bool.eq_iff_iff, decide_eq_true_eq]
    exact Msg.vw_none HCi.out
   rw [HF.out]
   subst hke
   go_wp2
   go_ret2
   exact ⟨by rw [HG.out]; rfl, rfl⟩

set_option maxHeartbeats 8000000 in
set_option maxRecDepth 100000 in
theorem l10Pick_any (f : Int) (v : Value) (ms : List Ms) (u : Value) (ps : List Int) (w : World) (hS : MSlice w v ms) (hI : ISlice w u ps) (hled : Msg.ledger f ms = 0) (hin : ∀ p ∈ ps, 0 ≤ p ∧ p < (ms.length : Int)) (_hl : ps.length ≤ 240) :
  Calls Tryz.prog 105 #[v, u] w fun e w' => ∃ vo g, e = .returned vo ∧ w.heap.size ≤ g ∧ Led.IOwn w' vo g (Msg.picks ms ps) ∧ Ext w w' := by
 have hi9 : (Tryz.prog.info? 2).map (fun i => (i.zero, i.size, i.bytes)) = some (some (.int .i64 0), 1, 8) := by kernel_rfl
 obtain ⟨ti, hti, hxx⟩ := Option.map_eq_some_iff.1 hi9
 simp only [Prod.mk.injEq] at hxx
 obtain ⟨hz0, hz1, hz2⟩ := hxx
 clear hi9
 have HB : Hid (∀ (slot : Int) (wx : World), Ext w wx → Calls Tryz.prog 151 #[v, u, .int .i64 slot] wx fun e w' => e = .returned (.tuple #[.int .i64 (Msg.vl (Msg.best (Msg.cat ms ps) slot)), .bool (Msg.best (Msg.cat ms ps) slot).isSome]) ∧ w' = wx) := fun slot wx he => l10Best_any f v ms u ps slot wx (hS.ext he) (hI.ext he) hled hin
 obtain ⟨a, cap, rfl, -, -, -⟩ := hS
 obtain ⟨a2, cap2, rfl, -, -, -⟩ := hI
 unfold Msg.picks
 generalize Msg.cat ms ps = cs at *
 clear hled hin
 go_enter Tryz.func105, Tryz.ntmps105
 go_wp2
 go_loopw [5, 6, 7] (fun ov tv i wr => ∃ (k : Nat), k ≤ 30 ∧ i = .int .i64 ((k : Int) + 1) ∧ tv = .int .i64 ((Msg.pick cs k).length : Int) ∧ Hid (wr.ownsRow (w.heap.size) 2 1 ov k ((Msg.vals cs k).map (Value.int .i64))) ∧ Hid (Ext w wr)) (fun _ _ i _ => 31 - (intOf i).toNat)
 case atStart => exact ⟨0, Nat.zero_le _, rfl, rfl, World.ownsRow_made w #[] 0 (Nat.le_refl _) (by unfold maxLen; omega) rfl, (Ext.refl _).alloc _⟩
 case round =>
  obtain ⟨k, hk, rfl, rfl, HO, HE⟩ := hrel
  obtain ⟨ar, cr, hrow⟩ := Led.owns_form HO.out
  subst hrow
  by_cases hlt : k < 30
  ·have hkk : (k : Int) + 1 ≤ 30 := by omega
   have hws : w.heap.size ≤ wr.heap.size := HE.out.size
   have hVa : Hid (Msg.vals cs (k + 1) = Msg.vals cs k ++ [Msg.vl (Msg.best cs ((k : Int) + 1))]) := rfl
   go_wp2_with fail
   refine (HB.out _ _ HE.out).mono ?_
   rintro e w9 ⟨rfl, hw⟩
   rw [hw]
   clear hw w9
   cases hbs : Msg.best cs ((k : Int) + 1) with
   | none =>
    have HPk : Hid ((Msg.pick cs (k + 1)).length = (Msg.pick cs k).length) := by show _ = _; rw [Msg.pick_no hbs]
    rw [hbs] at hVa
    unfold Msg.vl at *
    clear hbs
    go_wp2_with (at_builtin; go_must (refine wpList_append_own _ rfl _ _ 38 rfl (w.heap.size) 2 ti (.int .i64 0) 1 8 Tryz.underlying38 hti hz0 hz1 hz2 rfl (by decide) _ _ _ rfl (HO.out.alloc _) ⟨wr.heap.size, 0, none⟩ 1 1 [.int .i64 (0)] rfl rfl (cellM_one _ _ _ _ rfl) (ints_oneCell .i64 [(0)]) (by unfold maxLen; omega) (by omega) (by simp; omega) ?_; intro v6 w6 hown6 hgrow6 hnil6))
    refine ⟨⟨k + 1, by omega, by go_num, by rw [HPk.out], ?_, Below.grown (HE.out.alloc _) hgrow6 (by simp; omega) (fun q hq => (HO.out.lt q hq).1)⟩, by simp [intOf]; omega⟩
    show w6.ownsRow _ _ _ _ _ _
    rw [hVa.out, List.map_append]
    exact hown6
   | some c =>
    have HPk : Hid ((Msg.pick cs (k + 1)).length = k + 1) := Msg.pick_len_yes hbs
    rw [hbs] at hVa
    unfold Msg.vl at *
    clear hbs
    go_wp2_with (first | at_builtin; go_must (refine wpList_append_own _ rfl _ _ 38 rfl (w.heap.size) 2 ti (.int .i64 0) 1 8 Tryz.underlying38 hti hz0 hz1 hz2 rfl (by decide) _ _ _ rfl (HO.out.alloc _) ⟨wr.heap.size, 0, none⟩ 1 1 [.int .i64 (c.value)] rfl rfl (cellM_one _ _ _ _ rfl) (ints_oneCell .i64 [(c.value)]) (by unfold maxLen; omega) (by omega) (by simp; omega) ?_; intro v6 w6 hown6 hgrow6 hnil6); obtain ⟨a7, c7, h7⟩ := Led.owns_form hown6; subst h7)
    refine ⟨⟨k + 1, by omega, by go_num, by rw [HPk.out]; exact congrArg (Value.int .i64) (by omega), ?_, Below.grown (HE.out.alloc _) hgrow6 (by simp; omega) (fun q hq => (HO.out.lt q hq).1)⟩, by simp [intOf]; omega⟩
    show w6.ownsRow _ _ _ _ _ _
    rw [hVa.out, List.map_append]
    exact hown6
  ·have hke : k = 30 := by omega
   subst hke
   obtain ⟨g, hg1, hg2, hT⟩ := Led.iown_of_owns (l := Msg.vals cs 30) (by rw [Msg.vals_len]; exact HO.out)
   have hpl := Msg.pick_len cs 30
   obtain ⟨m, hm⟩ : ∃ m, m = (Msg.pick cs 30).length := ⟨_, rfl⟩
   have hlm : m = ((Msg.vals cs 30).take m).length := by rw [hm, Msg.vals_take]
   have HT0 := hT.take (k := m) hlm
   rw [hm, Msg.vals_take] at HT0
   rw [← hm] at HT0 hpl ⊢
   have HT : Hid (w.heap.size ≤ g ∧ Led.IOwn wr (.slice ar m cr) g (Msg.pick cs 30)) := ⟨hg1, HT0⟩
   obtain ⟨q8, q9, e8, hlc8, hcm8, -⟩ := id hT
   rw [Msg.vals_len] at hlc8 e8
   injection e8 with e5 e6 e7
   subst e7
   unfold maxLen at hcm8
   have hmc : m ≤ cr := by omega
   have hm30 : m ≤ 30 := by omega
   clear hT hg1 hg2 HT0 hlm hm e5
   go_wp2
   go_ret
   first | exact ⟨_, g, rfl, HT.out.1, HT.out.2, HE.out⟩ | exact ⟨_, rfl, g, HT.out.1, HT.out.2, HE.out⟩

end Go.Proofs.YtecgjdgfjgcmdaaGreat
