/- votes: the program's votersOf, the specification's l14Voters. -/
import Derived.Test.YtfgjodnjahhanaaDoorVvVT3
import Derived.Test.YtfgjodnjahhanaaDoorVvQS2
import Derived.Test.YtfgjodnjahhanaaDoorVvQS5
import Derived.Deep.RegionHeld3
namespace Go.Proofs.YtfgjodnjahhanaaDoor
open Go.RowKit Go.Maps
namespace Vot
theorem ry_upd {w w' : World} {b g : Nat} {v0 v1 v2 : Value} (h : RyAt w b v0 v1 v2) (hu : Upd g w w') (hne : b ≠ g) : RyAt w' b v0 v1 v2 := by
  obtain ⟨hb, ⟨c0, c1, c2⟩, f0, f1, f2⟩ := h
  have hc := fun k => (hu.at_ne b k hne hb).1
  have hf := fun k => (hu.at_ne b k hne hb).2
  exact ⟨Nat.lt_of_lt_of_le hb hu.2.1, ⟨(hc _).trans c0, (hc _).trans c1, (hc _).trans c2⟩, (hf _).trans f0, (hf _).trans f1, (hf _).trans f2⟩

set_option maxHeartbeats 8000000 in
set_option maxRecDepth 100000 in
theorem votersOf_any (c r : Int) (p : ByteArray) (v : Value) (zs : List Vt) (w : World) (hS : VtSlice w v zs) (hlen : zs.length ≤ 40) (hin : ∀ z ∈ zs, 1 ≤ z.frm ∧ z.frm ≤ 7) :
    Calls Tryd.prog 28 #[yagg c r p, v] w fun e w' => ∃ b n, e = .returned (.map (some b)) ∧ w.heap.size ≤ b ∧ Nst.SMap w' b n (vset zs c r p zs.length) ∧ Ext w w' := by
  obtain ⟨a, cap, rfl, hlc, hcm, hx⟩ := hS
  have HX : Hid (0 < zs.length → ∃ b off, a = some ⟨b, off, none⟩ ∧ b < w.heap.size ∧ VtsAt w b off zs) := hx
  have HIn : Hid (∀ z ∈ zs, 1 ≤ z.frm ∧ z.frm ≤ 7) := hin
  clear hx hin
  unfold maxLen at hcm
  have hmk := Nst.make_set
  unfold yagg
  have HB0 : Hid (RyAt ((w.alloc (.cells #[.int .i64 c, .int .i64 r, .string p] 28)).alloc (.map #[] 0)) w.heap.size (.int .i64 c) (.int .i64 r) (.string p)) := (ry_new w _ _ _ _).ext ((Ext.refl _).alloc _)
  have HS0 : Hid (Nst.SMap ((w.alloc (.cells #[.int .i64 c, .int .i64 r, .string p] 28)).alloc (.map #[] 0)) (w.heap.size + 1) 0 []) := by
    have h := Nst.SMap.made (w.alloc (.cells #[.int .i64 c, .int .i64 r, .string p] 28))
    simp only [World.size_alloc] at h
    exact h
  go_enter Tryd.func28, Tryd.ntmps28
  go_wp2
  go_loopw [11] (fun i wr => ∃ (k n : Nat), k ≤ zs.length ∧ i = .int .i64 k ∧ n ≤ k ∧ Hid (RyAt wr w.heap.size (.int .i64 c) (.int .i64 r) (.string p)) ∧ Hid (Nst.SMap wr (w.heap.size + 1) n (vset zs c r p k)) ∧ Hid (Ext w wr)) (fun i _ => zs.length - (intOf i).toNat)
  case atStart => exact ⟨0, 0, Nat.zero_le _, rfl, Nat.le_refl _, HB0, HS0, ((Ext.refl _).alloc _).alloc _⟩
  case round =>
    obtain ⟨k, n, hk, rfl, hn, HB, HM, HE⟩ := hrel
    by_cases hlt : k < zs.length
    · obtain ⟨z, hzk⟩ : ∃ z, zs[k]? = some z := ⟨_, List.getElem?_eq_getElem hlt⟩
      obtain ⟨b, off, rfl, hb, hN⟩ := HX.out (by omega)
      have hzin := HIn.out z (List.mem_of_getElem? hzk)
      obtain ⟨d0, d1, d2, d3⟩ := hN.ext hb HE.out k z hzk
      obtain ⟨x, ⟨x0, x1, x2⟩, -, -, -⟩ := HB.out
      have HZ : Hid (zs[k]? = some z) := hzk
      have HN : Hid (∀ t, Nst.SMap (wr.alloc t) (w.heap.size + 1) n (vset zs c r p k)) := fun t => HM.out.ext ((Ext.refl _).alloc _)
      have HBt : Hid (∀ t, RyAt (wr.alloc t) w.heap.size (.int .i64 c) (.int .i64 r) (.string p)) := fun t => HB.out.ext ((Ext.refl _).alloc _)
      have HEt : Hid (∀ t, Ext w (wr.alloc t)) := fun t => HE.out.alloc _
      clear hzk hN
      by_cases g0 : z.code = c
      · by_cases g1 : z.value = r
        · by_cases g2 : z.path.toList = p.toList
          · have HK2 : Hid (vset zs c r p (k + 1) = Nst.put z.frm (vset zs c r p k)) := vset_yes HZ.out (isR_of g0 g1 g2)
            have HA : Hid (∀ wx, Nst.SMap wx (w.heap.size + 1) n (vset zs c r p k) → Calls Tryd.prog 45 #[.map (some (w.heap.size + 1)), .int .i64 z.frm] wx fun e w' => e = .returned (.tuple #[]) ∧ Nst.SMap w' (w.heap.size + 1) (n + 1) (Nst.put z.frm (vset zs c r p k)) ∧ Upd (w.heap.size + 1) wx w') := fun wx h => Nst.add_any _ _ _ _ _ h (vset_ris _ _ _ _ _) (by omega) (by omega)
            go_wp2_with fail
            refine (HA.out _ (HN.out _)).mono ?_
            rintro e w3 ⟨rfl, hM3, hu3⟩
            have HE3 : Hid (Ext w w3) := hu3.to_ext (HEt.out _) (by omega)
            have HB3 : Hid (RyAt w3 w.heap.size (.int .i64 c) (.int .i64 r) (.string p)) := ry_upd (HBt.out _) hu3 (by omega)
            have HM3 : Hid (Nst.SMap w3 (w.heap.size + 1) (n + 1) (vset zs c r p (k + 1))) := by rw [HK2.out]; exact hM3
            clear hM3 hu3
            go_wp2
            exact ⟨⟨k + 1, n + 1, by omega, by go_num, by omega, HB3, HM3, HE3⟩, by simp [intOf]; omega⟩
          · have HK2 : Hid (vset zs c r p (k + 1) = vset zs c r p k) := vset_no HZ.out (fun h => g2 (by rw [h.2.2]))
            go_wp2
            exact ⟨⟨k + 1, n, by omega, by go_num, by omega, HBt.out _, by rw [HK2.out]; exact HN.out _, HEt.out _⟩, by simp [intOf]; omega⟩
        · have HK2 : Hid (vset zs c r p (k + 1) = vset zs c r p k) := vset_no HZ.out (fun h => g1 h.2.1)
          go_wp2
          exact ⟨⟨k + 1, n, by omega, by go_num, by omega, HBt.out _, by rw [HK2.out]; exact HN.out _, HEt.out _⟩, by simp [intOf]; omega⟩
      · have HK2 : Hid (vset zs c r p (k + 1) = vset zs c r p k) := vset_no HZ.out (fun h => g0 h.1)
        go_wp2
        exact ⟨⟨k + 1, n, by omega, by go_num, by omega, HBt.out _, by rw [HK2.out]; exact HN.out _, HEt.out _⟩, by simp [intOf]; omega⟩
    · have hke : k = zs.length := by omega
      subst hke
      go_wp2
      go_ret
      exact ⟨_, n, rfl, by omega, HM.out, HE.out⟩

set_option maxHeartbeats 8000000 in
set_option maxRecDepth 100000 in
theorem l14Voters_any (f c r : Int) (p : ByteArray) (v : Value) (zs : List Vt) (w : World) (hS : VtSlice w v zs) (hf0 : 1 ≤ f) (hf1 : f ≤ 2) (hlen : zs.length ≤ 40) :
    Calls Tryd.prog 25 #[.int .i64 f, v, yagg c r p] w fun e w' => ∃ vo g, e = .returned vo ∧ w.heap.size ≤ g ∧ Led.IOwn w' vo g (voters f zs c r p) ∧ Ext w w' := by
  have hi9 : (Tryd.prog.info? 2).map (fun i => (i.zero, i.size, i.bytes)) = some (some (.int .i64 0), 1, 8) := by kernel_rfl
  obtain ⟨ti, hti, hxx⟩ := Option.map_eq_some_iff.1 hi9
  simp only [Prod.mk.injEq] at hxx
  obtain ⟨hz0, hz1, hz2⟩ := hxx
  clear hi9
  have e1 : IntKind.i64.wrap (3 * f) = 3 * f := by rw [IntKind.wrap_i64]; omega
  have e2 : IntKind.i64.wrap (3 * f + 1) = 3 * f + 1 := by rw [IntKind.wrap_i64]; omega
  unfold voters
  obtain ⟨N, hN⟩ : ∃ N : Nat, N = (3 * f + 1).toNat := ⟨_, rfl⟩
  rw [← hN]
  have hNf : (N : Int) = 3 * f + 1 := by omega
  have hN7 : N ≤ 7 := by omega
  clear hN
  obtain ⟨a, cap, rfl, hlc, hcm, hx⟩ := hS
  have HX : Hid (0 < zs.length → ∃ b off, a = some ⟨b, off, none⟩ ∧ b < w.heap.size ∧ VtsAt w b off zs) := hx
  clear hx
  unfold maxLen at hcm
  unfold yagg
  go_enter Tryd.func25, Tryd.ntmps25
  go_wp2
  have HB0 : Hid (Ext (w.alloc (.cells #[.int .i64 c, .int .i64 r, .string p] 28)) ((w.alloc (.cells #[.int .i64 c, .int .i64 r, .string p] 28)).alloc (.cells #[] 2))) := (Ext.refl _).alloc _
  go_loopw [7, 8] (fun ov i wr => ∃ (k : Nat), k ≤ N ∧ i = .int .i64 (1 + (k : Int)) ∧ Hid (wr.ownsRow (w.heap.size + 1) 2 1 ov (votersK zs c r p k).length ((votersK zs c r p k).map (Value.int .i64))) ∧ Hid (Ext (w.alloc (.cells #[.int .i64 c, .int .i64 r, .string p] 28)) wr)) (fun _ i _ => (N + 1) - (intOf i).toNat)
  case atStart =>
    have h0 := World.ownsRow_made (base := w.heap.size + 1) (e := 2) (size := 1) (w.alloc (.cells #[.int .i64 c, .int .i64 r, .string p] 28)) #[] 0 (by simp) (by unfold maxLen; omega) rfl
    simp only [World.size_alloc] at h0
    exact ⟨0, Nat.zero_le _, rfl, h0, HB0⟩
  case round =>
    obtain ⟨k, hk, rfl, HO, HE⟩ := hrel
    by_cases hlt : k < N
    · have hws : w.heap.size + 1 ≤ wr.heap.size := by have := HE.out.size; simpa using this
      have hkl : (votersK zs c r p k).length ≤ 7 := by have := votersK_len zs c r p k; omega
      have hle : 1 + (k : Int) ≤ 3 * f + 1 := by omega
      have HEw : Hid (Ext w wr) := ((Ext.refl _).alloc _).trans HE.out
      go_wp2
      obtain ⟨w0, hw0⟩ : ∃ w0, w0 = wr := ⟨_, rfl⟩
      subst hw0
      go_loopw [9, 10] (fun fv j wr => ∃ (q : Nat), q ≤ zs.length ∧ j = .int .i64 q ∧ fv = .bool (hasV zs c r p (1 + k) q) ∧ Hid (Ext w0 wr)) (fun _ j _ => zs.length - (intOf j).toNat)
      case atStart => exact ⟨0, Nat.zero_le _, rfl, rfl, Ext.refl _⟩
      case round =>
        obtain ⟨q, hq, rfl, rfl, HF⟩ := hrel
        by_cases hlq : q < zs.length
        · obtain ⟨z, hzk⟩ : ∃ z, zs[q]? = some z := ⟨_, List.getElem?_eq_getElem hlq⟩
          obtain ⟨b, off, rfl, hb, hNN⟩ := HX.out (by omega)
          obtain ⟨d0, d1, d2, d3⟩ := hNN.ext hb (HEw.out.trans HF.out) q z hzk
          have hcc := fun j => (Ext.cell (HE.out.trans HF.out)).1 w.heap.size j (by simp)
          have c0 := (hcc 0).trans (show _ = some (.int .i64 c) by simp)
          have c1 := (hcc 1).trans (show _ = some (.int .i64 r) by simp)
          have c2 := (hcc 2).trans (show _ = some (.string p) by simp)
          have HZ : Hid (zs[q]? = some z) := hzk
          clear hcc hzk hNN
          by_cases hv : hasV zs c r p (1 + k) q = true
          · have HV : Hid (hasV zs c r p (1 + k) (q + 1) = true) := hasV_was HZ.out hv
            rw [hv]
            clear hv
            go_wp2
            go_region
            all_goals
              go_wp2
              exact ⟨⟨q + 1, by omega, by go_num, by rw [HV.out], HF.out.drew⟩, by simp [intOf]; omega⟩
          have hv' : hasV zs c r p (1 + k) q = false := by simpa using hv
          have HVf : Hid (hasV zs c r p (1 + k) q = false) := hv'
          rw [hv']
          clear hv hv'
          by_cases g3 : z.frm = 1 + (k : Int)
          · by_cases g0 : z.code = c
            · by_cases g1 : z.value = r
              · by_cases g2 : z.path.toList = p.toList
                · have HV : Hid (hasV zs c r p (1 + k) (q + 1) = true) := hasV_yes HZ.out g3 (isR_of g0 g1 g2)
                  go_wp2
                  go_region
                  all_goals
                    go_wp2
                    exact ⟨⟨q + 1, by omega, by go_num, by rw [HV.out], HF.out.drew⟩, by simp [intOf]; omega⟩
                · have HV : Hid (hasV zs c r p (1 + k) (q + 1) = false) := hasV_no HZ.out HVf.out (fun h => g2 (by rw [h.2.2]))
                  go_wp2
                  go_region
                  all_goals
                    go_wp2
                    exact ⟨⟨q + 1, by omega, by go_num, by rw [HV.out], HF.out.drew⟩, by simp [intOf]; omega⟩
              · have HV : Hid (hasV zs c r p (1 + k) (q + 1) = false) := hasV_no HZ.out HVf.out (fun h => g1 h.2.1)
                go_wp2
                go_region
                all_goals
                  go_wp2
                  exact ⟨⟨q + 1, by omega, by go_num, by rw [HV.out], HF.out.drew⟩, by simp [intOf]; omega⟩
            · have HV : Hid (hasV zs c r p (1 + k) (q + 1) = false) := hasV_no HZ.out HVf.out (fun h => g0 h.1)
              go_wp2
              go_region
              all_goals
                go_wp2
                exact ⟨⟨q + 1, by omega, by go_num, by rw [HV.out], HF.out.drew⟩, by simp [intOf]; omega⟩
          · have HV : Hid (hasV zs c r p (1 + k) (q + 1) = false) := hasV_id HZ.out HVf.out g3
            have g4 : (z.frm == 1 + (k : Int)) = false := by simpa using g3
            go_wp2
            go_region
            all_goals
              go_wp2
              exact ⟨⟨q + 1, by omega, by go_num, by rw [HV.out], HF.out.drew⟩, by simp [intOf]; omega⟩
        · have hqe : q = zs.length := by omega
          have HE2 : Hid (Ext (w.alloc (.cells #[.int .i64 c, .int .i64 r, .string p] 28)) wr) := HE.out.trans HF.out
          have HO2 : Hid (wr.ownsRow (w.heap.size + 1) 2 1 u7 (votersK zs c r p k).length ((votersK zs c r p k).map (Value.int .i64))) := Led.own_ext HO.out HF.out
          have hws2 : w.heap.size + 1 ≤ wr.heap.size := by have := HE2.out.size; simpa using this
          cases hv : hasV zs c r p (1 + k) zs.length with
          | true =>
            have HK2 : Hid (votersK zs c r p (k + 1) = votersK zs c r p k ++ [1 + (k : Int)]) := votersK_yes hv
            rw [hqe, hv]
            clear hqe hv HF HEw HE HO
            go_wp2_with (at_builtin; go_must (refine wpList_append_own _ rfl _ _ 41 rfl (w.heap.size + 1) 2 ti (.int .i64 0) 1 8 Tryd.underlying41 hti hz0 hz1 hz2 rfl (by decide) _ _ _ rfl (HO2.out.alloc _) ⟨wr.heap.size, 0, none⟩ 1 1 [.int .i64 (1 + (k : Int))] rfl rfl (cellM_one _ _ _ _ rfl) (ints_oneCell .i64 [(1 + (k : Int))]) (by unfold maxLen; omega) (by omega) (by simp; omega) ?_; intro v6 w6 hown6 hgrow6 hnil6))
            refine ⟨⟨k + 1, by omega, by go_num, ?_, Below.grown (HE2.out.alloc _) hgrow6 (by simp; omega) (fun q hq => by have := (HO2.out.lt q hq).1; simpa using this)⟩, by simp [intOf]; omega⟩
            show w6.ownsRow _ _ _ _ _ _
            rw [HK2.out, List.map_append, List.length_append]
            exact hown6
          | false =>
            have HK2 : Hid (votersK zs c r p (k + 1) = votersK zs c r p k) := votersK_no hv
            rw [hqe, hv]
            clear hqe hv HF HEw HE HO
            go_wp2
            refine ⟨⟨k + 1, by omega, by go_num, ?_, HE2.out⟩, by simp [intOf]; omega⟩
            show wr.ownsRow _ _ _ _ _ _
            rw [HK2.out]
            exact HO2.out
    · have hke : k = N := by omega
      subst hke
      obtain ⟨g, hg1, hg2, hT⟩ := Led.iown_of_owns HO.out
      obtain ⟨a8, c8, rfl, -⟩ := id hT
      have HT : Hid (w.heap.size ≤ g ∧ Led.IOwn wr (.slice a8 (votersK zs c r p k).length c8) g (votersK zs c r p k)) := ⟨by omega, hT⟩
      have hgt : ¬ 1 + (k : Int) ≤ 3 * f + 1 := by omega
      clear hT hg1 hg2 hNf hN7
      go_wp2
      go_ret
      first | exact ⟨_, g, rfl, HT.out.1, HT.out.2, ((Ext.refl _).alloc _).trans HE.out⟩ | exact ⟨_, rfl, g, HT.out.1, HT.out.2, ((Ext.refl _).alloc _).trans HE.out⟩
end Vot
end Go.Proofs.YtfgjodnjahhanaaDoor
