/- the program's lists of numbers: whether they rise, the slots of certificates; whether the parts are in bounds. -/
import Derived.Test.YtecgjdgfjgcmdaaGreatRtH9
namespace Go.Proofs.YtecgjdgfjgcmdaaGreat
open Go.RowKit
set_option maxHeartbeats 4000000 in
set_option maxRecDepth 100000 in
theorem rises_any (v : Value) (l : List Int) (w : World) (hS : ISlice w v l) : Calls Tryz.prog 140 #[v] w fun e w' => e = .returned (.bool (Msg.rises l)) ∧ Ext w w' := by
 obtain ⟨a, cap, rfl, hlc, hcm, hx⟩ := hS
 have HX : Hid (0 < l.length → ∃ b off, a = some ⟨b, off, none⟩ ∧ b < w.heap.size ∧ NumsAt w b off l) := hx
 clear hx
 unfold maxLen at hcm
 go_enter Tryz.func140, Tryz.ntmps140
 go_wp2
 go_loopw [3] (fun i wr => ∃ (k : Nat), 1 ≤ k ∧ (k ≤ l.length ∨ k = 1) ∧ i = .int .i64 k ∧ Hid (∀ j x y, j + 1 < k → l[j]? = some x → l[j + 1]? = some y → x < y) ∧ Hid (Ext w wr)) (fun i _ => l.length - (intOf i).toNat)
 case atStart => exact ⟨1, by omega, Or.inr rfl, rfl, fun j x y h => by omega, Ext.refl _⟩
 case round =>
  obtain ⟨k, hk1, hk, rfl, HA, HE⟩ := hrel
  by_cases hlt : k < l.length
  ·obtain ⟨j, hj⟩ : ∃ j, k = j + 1 := ⟨k - 1, by omega⟩
   have hjl : j < l.length := by omega
   obtain ⟨z, hzk⟩ : ∃ z, l[k]? = some z := ⟨_, List.getElem?_eq_getElem hlt⟩
   obtain ⟨y, hyk⟩ : ∃ y, l[j]? = some y := ⟨_, List.getElem?_eq_getElem hjl⟩
   obtain ⟨b1, off, rfl, hb, hN⟩ := HX.out (by omega)
   have d0 := hN.ext hb HE.out k z hzk
   have e0 := hN.ext hb HE.out j y hyk
   have hsub : IntKind.i64.wrap ((k : Int) - 1) = (j : Int) := by rw [IntKind.wrap_i64]; omega
   have HZ : Hid (k = j + 1 ∧ l[k]? = some z ∧ l[j]? = some y) := ⟨hj, hzk, hyk⟩
   clear hzk hyk hN hj
   by_cases hg : z ≤ y
   ·have HF : Hid (Msg.rises l = false) := by
     obtain ⟨h1, h2, h3⟩ := HZ.out
     subst h1
     exact Msg.rises_ne (i := j) h3 h2 (by omega)
    go_wp2
    go_region
    all_goals
     go_wp2
     go_ret
     exact ⟨ret_bool HF.out.symm, HE.out.drew⟩
   ·have HA2 : Hid (∀ i x y', i + 1 < k + 1 → l[i]? = some x → l[i + 1]? = some y' → x < y') := by
     intro i x y' hi hx hy
     by_cases hik : i + 1 < k
     ·exact HA.out i x y' hik hx hy
     ·obtain ⟨h1, h2, h3⟩ := HZ.out
      have : i = j := by omega
      subst this
      subst h1
      have q1 := h3
      have q2 := h2
      rw [q1] at hx
      rw [q2] at hy
      cases hx
      cases hy
      omega
    go_wp2
    go_region
    all_goals
     go_wp2
     exact ⟨⟨k + 1, by omega, by omega, by go_num, HA2, HE.out.drew⟩, by simp [intOf]; omega⟩
  ·have H1 : Hid (Msg.rises l = true) := Msg.rises_all (fun i x y hx hy => HA.out i x y (by have := (List.getElem?_eq_some_iff.1 hy).1; omega) hx hy)
   clear HA
   go_wp2
   go_ret
   exact ⟨ret_bool H1.out.symm, HE.out⟩
theorem islice_of_owns {w : World} {base : Nat} {v : Value} {l : List Int} (h : w.ownsRow base 2 1 v l.length (l.map (Value.int .i64))) : ISlice w v l := by
 have hlt := h.lt
 rcases h.2 with ⟨hv, h0⟩ | ⟨g, cap, cur, hv, hb, hh, hn, hm, hcs, htk⟩
 ·exact ⟨none, 0, by rw [hv, h0], by omega, by unfold maxLen; omega, fun h => by omega⟩
 ·subst hv
  refine ⟨some ⟨g, 0, none⟩, cap, rfl, hn, hm, fun h0 => ⟨g, 0, rfl, (hlt g rfl).2, fun i x hx => ?_⟩⟩
  have hi := (List.getElem?_eq_some_iff.1 hx).1
  rw [Nat.zero_add, h.cellAt i (by omega), List.getElem?_map, hx]; rfl
theorem cellM_one (w : World) (x : Value) (t : TypeId) (m : Nat) (hm : w.heap.size = m) : ∀ j u, [x][j]? = some u → (w.alloc (.cells #[x] t)).cell? ((⟨m, 0, none⟩ : Addr).add j) = some u := by subst hm; exact cell_one_new w x t
theorem slots_take {l : List Ct} {k : Nat} {z : Ct} (h : l[k]? = some z) : Msg.slots (l.take (k + 1)) = Msg.slots (l.take k) ++ [z.slot] := by
 obtain ⟨hk, rfl⟩ := List.getElem?_eq_some_iff.1 h
 unfold Msg.slots
 rw [List.take_succ_eq_append_getElem hk, List.map_append]
 rfl
set_option maxHeartbeats 4000000 in
set_option maxRecDepth 100000 in
theorem slotsOf_any (v : Value) (zs : List Ct) (w : World) (hS : CtSlice w v zs) (hl : zs.length ≤ 1048576) : Calls Tryz.prog 141 #[v] w fun e w' => ∃ v', e = .returned v' ∧ ISlice w' v' (Msg.slots zs) ∧ Ext w w' := by
 have hi9 : (Tryz.prog.info? 2).map (fun i => (i.zero, i.size, i.bytes)) = some (some (.int .i64 0), 1, 8) := by kernel_rfl
 obtain ⟨ti, hti, hxx⟩ := Option.map_eq_some_iff.1 hi9
 simp only [Prod.mk.injEq] at hxx
 obtain ⟨hz0, hz1, hz2⟩ := hxx
 clear hi9
 obtain ⟨a, cap, rfl, hlc, hcm, hx⟩ := hS
 have HX : Hid (0 < zs.length → ∃ b off, a = some ⟨b, off, none⟩ ∧ b < w.heap.size ∧ CtsAt w b off zs) := hx
 clear hx
 unfold maxLen at hcm
 go_enter Tryz.func141, Tryz.ntmps141
 go_wp2
 go_loopw [3, 8] (fun ov i wr => ∃ (k : Nat), k ≤ zs.length ∧ i = .int .i64 k ∧ Hid (wr.ownsRow w.heap.size 2 1 ov (Msg.slots (zs.take k)).length ((Msg.slots (zs.take k)).map (Value.int .i64))) ∧ Hid (Ext w wr)) (fun _ i _ => zs.length - (intOf i).toNat)
 case atStart => exact ⟨0, Nat.zero_le _, rfl, World.ownsRow_nil _ _ _ _, Ext.refl _⟩
 case round =>
  obtain ⟨k, hk, rfl, HO, HE⟩ := hrel
  by_cases hlt : k < zs.length
  ·obtain ⟨z, hzk⟩ : ∃ z, zs[k]? = some z := ⟨_, List.getElem?_eq_getElem hlt⟩
   obtain ⟨b, off, rfl, hb, hN⟩ := HX.out (by omega)
   obtain ⟨d0, d1, d2⟩ := hN.ext hb HE.out k z hzk
   have HK2 : Hid (Msg.slots (zs.take (k + 1)) = Msg.slots (zs.take k) ++ [z.slot]) := slots_take hzk
   have hkl : (Msg.slots (zs.take k)).length ≤ 1048576 := by unfold Msg.slots; rw [List.length_map, List.length_take]; omega
   have hws : w.heap.size ≤ wr.heap.size := HE.out.size
   clear hzk hN
   go_wp2_with (at_builtin; go_must (refine wpList_append_own _ rfl _ _ 38 rfl w.heap.size 2 ti (.int .i64 0) 1 8 Tryz.underlying38 hti hz0 hz1 hz2 rfl (by decide) _ _ _ rfl ((HO.out.alloc _).alloc _) ⟨wr.heap.size + 1, 0, none⟩ 1 1 [.int .i64 z.slot] rfl rfl (cellM_one _ _ _ _ (by simp)) (ints_oneCell .i64 [z.slot]) (by unfold maxLen; omega) (by omega) (by simp; omega) ?_; intro v6 w6 hown6 hgrow6 hnil6))
   refine ⟨⟨k + 1, by omega, by go_num, ?_, Below.grown ((HE.out.alloc _).alloc _) hgrow6 (by simp; omega) (fun q hq => (HO.out.lt q hq).1)⟩, by simp [intOf]; omega⟩
   show w6.ownsRow _ _ _ _ _ _
   rw [HK2.out, List.map_append, List.length_append]
   exact hown6
  ·have hke : k = zs.length := by omega
   subst hke
   have hI := islice_of_owns HO.out
   rw [List.take_length] at hI
   have HI : Hid (ISlice wr u3 (Msg.slots zs)) := hI
   clear hI
   go_wp2
   go_ret
   exact ⟨_, rfl, HI.out, HE.out⟩

set_option maxHeartbeats 8000000 in
set_option maxRecDepth 100000 in
theorem hasParts_any (m : Ms) (v u : Value) (w : World) (hS : MLs w v u m) (hv1 : m.view ≤ 20) : Calls Tryz.prog 142 #[pagg m v u] w fun e w' => e = .returned (.bool (Msg.parts m)) ∧ Ext w w' := by
 have HS : Hid (MLs w v u m) := hS
 obtain ⟨a, c, a', c', rfl, rfl, hc1, hc2, hc3, hc4⟩ := hS.form
 unfold maxLen at hc2 hc4
 clear hS
 have HX5 : Hid (0 < m.certs.length → ∃ b off, a = some ⟨b, off, none⟩ ∧ b < w.heap.size ∧ CtsAt w b off m.certs) := by
  obtain ⟨⟨a0, c0, h1, -, -, h4⟩, -⟩ := HS.out
  injection h1 with h1 _ _; subst h1; exact h4
 have HX6 : Hid (0 < m.refs.length → ∃ b off, a' = some ⟨b, off, none⟩ ∧ b < w.heap.size ∧ NumsAt w b off m.refs) := by
  obtain ⟨-, ⟨a0, c0, h1, -, -, h4⟩⟩ := HS.out
  injection h1 with h1 _ _; subst h1; exact h4
 clear HS
 have HT : Hid (∀ (z : Ct) (wx : World), Calls Tryz.prog 167 #[pagg m (.slice a m.certs.length c) (.slice a' m.refs.length c'), ctagg z] wx fun e w' => e = .returned (.bool (Msg.certOk m.view z)) ∧ Ext wx w') := fun z wx => takesCert_any m a a' _ _ c c' z wx hv1
 unfold pagg ctagg at *
 have HP : Hid (∀ wx : World, Ext (w.alloc (.cells #[.int .i64 m.view, .int .i64 m.kind, .int .i64 m.from_, .int .i64 m.slot, .int .i64 m.value, .slice a m.certs.length c, .slice a' m.refs.length c'] 112)) wx → PBoxAt wx w.heap.size m (.slice a m.certs.length c) (.slice a' m.refs.length c') ∧ Ext w wx) := fun wx he => ⟨(pbox_new w m _ _ _).ext he, ((Ext.refl _).alloc _).trans he⟩
 go_enter Tryz.func142, Tryz.ntmps142
 go_wp2
 generalize hW0 : (w.alloc (.cells #[.int .i64 m.view, .int .i64 m.kind, .int .i64 m.from_, .int .i64 m.slot, .int .i64 m.value, .slice a m.certs.length c, .slice a' m.refs.length c'] 112)) = W0 at *
 clear hW0
 go_loopw [10] (fun i wr => ∃ (k : Nat), k ≤ m.certs.length ∧ i = .int .i64 k ∧ Hid (∀ j c, j < k → m.certs[j]? = some c → Msg.certOk m.view c = true) ∧ Hid (Ext W0 wr)) (fun i _ => m.certs.length - (intOf i).toNat)
 case atStart => exact ⟨0, Nat.zero_le _, rfl, fun j c h => by omega, Ext.refl _⟩
 case round =>
  obtain ⟨k, hk, rfl, HA, HE⟩ := hrel
  by_cases hlt : k < m.certs.length
  ·obtain ⟨z, hzk⟩ : ∃ z, m.certs[k]? = some z := ⟨_, List.getElem?_eq_getElem hlt⟩
   obtain ⟨b, off, rfl, hb, hN⟩ := HX5.out (by omega)
   obtain ⟨d0, d1, d2⟩ := hN.ext hb (HP.out _ HE.out).2 k z hzk
   have HZ : Hid (m.certs[k]? = some z) := hzk
   obtain ⟨⟨hbl, c0, c1, c2, c3, c4, c5, c6⟩, -⟩ := HP.out _ HE.out
   have HTz := HT.out z
   have HF : Hid (Msg.certOk m.view z = false → Msg.parts m = false) := fun h => Msg.parts_c HZ.out h
   have HA2 : Hid (Msg.certOk m.view z = true → ∀ j c, j < k + 1 → m.certs[j]? = some c → Msg.certOk m.view c = true) := by
    intro h j c hj hc
    by_cases hjk : j = k
    ·subst hjk; rw [HZ.out] at hc; cases hc; exact h
    ·exact HA.out j c (by omega) hc
   clear hzk hN
   generalize hq : Msg.certOk m.view z = q at *
   have HT2 : Hid _ := HTz
   clear HTz hq
   go_wp2_with fail
   refine (HT2.out _).mono ?_
   rintro e w2 ⟨rfl, hb⟩
   have HE2 : Hid (Ext W0 w2) := (HE.out.alloc _).trans hb
   clear hb
   cases q with
   | false =>
    go_wp2
    go_ret
    exact ⟨ret_bool (HF.out (by first | rfl | trivial)).symm, (HP.out _ HE2.out).2⟩
   | true =>
    go_wp2
    exact ⟨⟨k + 1, by omega, by go_num, HA2.out (by first | rfl | trivial), HE2.out⟩, by simp [intOf]; omega⟩
  ·have H3 : Hid (∀ (i : Nat) c, i < m.certs.length → m.certs[i]? = some c → Msg.certOk m.view c = true) := fun i c hi hc => HA.out i c (by omega) hc
   have HE3 : Hid (Ext W0 wr) := HE
   obtain ⟨⟨hbl, c0, c1, c2, c3, c4, c5, c6⟩, -⟩ := HP.out _ HE.out
   clear HA HE
   go_wp2
   clear hbl c0 c1 c2 c3 c4 c5 c6 HX5 HT
   generalize hwr : wr = w7 at *
   clear hwr
   go_loopw [22] (fun i wr => ∃ (k : Nat), k ≤ m.refs.length ∧ i = .int .i64 k ∧ Hid (∀ j r, j < k → m.refs[j]? = some r → Msg.refOk r = true) ∧ Hid (Ext W0 wr)) (fun i _ => m.refs.length - (intOf i).toNat)
   case atStart => exact ⟨0, Nat.zero_le _, rfl, fun j r h => by omega, HE3.out⟩
   case round =>
    obtain ⟨k, hk, rfl, HA, HE⟩ := hrel
    by_cases hlt : k < m.refs.length
    ·obtain ⟨z, hzk⟩ : ∃ z, m.refs[k]? = some z := ⟨_, List.getElem?_eq_getElem hlt⟩
     obtain ⟨b, off, rfl, hb, hN⟩ := HX6.out (by omega)
     have d0 := hN.ext hb (HP.out _ HE.out).2 k z hzk
     have HZ : Hid (m.refs[k]? = some z) := hzk
     have HU : Hid (∀ wx : World, Calls Tryz.prog 84 #[.int .i64 z, .int .i64 239] wx fun e w' => e = .returned (.bool (Msg.refOk z)) ∧ w' = wx) := fun wx => by
      have h := isUpToM_any z 239 wx
      have h2 : (decide (0 ≤ z) && decide (z ≤ 239)) = Msg.refOk z := by unfold Msg.refOk; rw [Bool.eq_iff_iff]; simp
      rw [h2] at h
      exact h
     have HF : Hid (Msg.refOk z = false → Msg.parts m = false) := fun h => Msg.parts_r HZ.out h
     have HA2 : Hid (Msg.refOk z = true → ∀ j r, j < k + 1 → m.refs[j]? = some r → Msg.refOk r = true) := by
      intro h j c hj hc
      by_cases hjk : j = k
      ·subst hjk; rw [HZ.out] at hc; cases hc; exact h
      ·exact HA.out j c (by omega) hc
     clear hzk hN
     generalize hq : Msg.refOk z = q at *
     clear hq
     go_wp2_with fail
     refine (HU.out _).mono ?_
     rintro e w9 ⟨rfl, hw⟩
     rw [hw]
     clear hw w9
     cases q with
     | false =>
      go_wp2
      go_ret
      exact ⟨ret_bool (HF.out (by first | rfl | trivial)).symm, (HP.out _ HE.out).2⟩
     | true =>
      go_wp2
      exact ⟨⟨k + 1, by omega, by go_num, HA2.out (by first | rfl | trivial), HE.out⟩, by simp [intOf]; omega⟩
    ·have HF : Hid (Msg.parts m = true) := Msg.parts_all H3.out (fun i r hi hr => HA.out i r (by omega) hr)
     go_wp2
     go_ret
     exact ⟨ret_bool HF.out.symm, (HP.out _ HE.out).2⟩
end Go.Proofs.YtecgjdgfjgcmdaaGreat
