/- DropOwned: the specification's. -/
import Derived.Test.YtjlmkjcahnnjpaaDoorG3
import Derived.Test.YtjlmkjcahnnjpaaDoorT7
import Derived.Deep.RegionHeld3
namespace Go.Proofs.YtjlmkjcahnnjpaaDoor
open Go.RowKit

theorem hasI_take {l : List Int} {k : Nat} {y : Int} (x : Int) (h : l[k]? = some y) : hasI (l.take (k + 1)) x = (hasI (l.take k) x || (x == y)) := by
  obtain ⟨hk, rfl⟩ := List.getElem?_eq_some_iff.1 h
  unfold hasI
  rw [List.take_succ_eq_append_getElem hk, List.any_append]
  simp
set_option maxHeartbeats 1000000 in
set_option maxRecDepth 100000 in
theorem l4Drop_any (v u : Value) (zs : List Zn) (ids : List Int) (w : World) (hS : NSlice w v zs) (hI : ISlice w u ids) (hl : zs.length ≤ 1000) :
    Calls Tryd.prog 26 #[v, u] w fun e w' => ∃ v' g, e = .returned v' ∧ w.heap.size ≤ g ∧ Own w' v' g (dropL ids zs) ∧ Ext w w' := by
  have hi9 : (Tryd.prog.info? 45).map (fun i => (i.zero, i.size, i.bytes)) = some (some (.agg #[.string ByteArray.empty, .int .i64 0, .int .i64 0, .int .i64 0, .int .i64 0]), 5, 48) := by kernel_rfl
  obtain ⟨i0, hi, hx9⟩ := Option.map_eq_some_iff.1 hi9
  simp only [Prod.mk.injEq] at hx9
  obtain ⟨hz0, hz1, hz2⟩ := hx9
  clear hi9
  obtain ⟨a, cap, rfl, hlc, hcm, hx⟩ := hS
  obtain ⟨b, cbp, rfl, hlb, hcb, hy⟩ := hI
  have HX : Hid (0 < zs.length → ∃ b off, a = some ⟨b, off, none⟩ ∧ b < w.heap.size ∧ NodesAt w b off zs) := hx
  have HY : Hid (0 < ids.length → ∃ b' off, b = some ⟨b', off, none⟩ ∧ b' < w.heap.size ∧ NumsAt w b' off ids) := hy
  clear hx hy
  unfold maxLen at hcm hcb
  go_enter Tryd.func26, Tryd.ntmps26
  go_wp2
  go_loopw [5, 6] (fun ov iv wr => ∃ (k : Nat), k ≤ zs.length ∧ iv = .int .i64 k ∧ Hid (wr.ownsRow w.heap.size 45 5 ov (dropL ids (zs.take k)).length (cellsZ (dropL ids (zs.take k)))) ∧ Hid (Ext w wr)) (fun _ iv _ => zs.length - (intOf iv).toNat)
  case atStart => exact ⟨0, Nat.zero_le _, rfl, World.ownsRow_made w #[] 0 (Nat.le_refl _) (by unfold maxLen; omega) rfl, (Ext.refl _).alloc _⟩
  case round =>
    obtain ⟨k, hk, rfl, HO, HE⟩ := hrel
    by_cases hlt : k < zs.length
    · obtain ⟨z, hzk⟩ : ∃ z, zs[k]? = some z := ⟨_, List.getElem?_eq_getElem hlt⟩
      obtain ⟨bb, off, rfl, hb, hN⟩ := HX.out (by omega)
      have HNk : Hid (∀ wx, Ext w wx → wx.cell? ⟨bb, off + k * 5, none⟩ = some (.string z.path) ∧ wx.cell? ⟨bb, off + k * 5 + 1, none⟩ = some (.int .i64 z.data) ∧ wx.cell? ⟨bb, off + k * 5 + 2, none⟩ = some (.int .i64 z.version) ∧ wx.cell? ⟨bb, off + k * 5 + 3, none⟩ = some (.int .i64 z.owner) ∧ wx.cell? ⟨bb, off + k * 5 + 4, none⟩ = some (.int .i64 z.next)) := fun wx he => hN.ext hb he k z hzk
      have HZk : Hid (zs[k]? = some z) := hzk
      clear hN hzk hb
      go_wp2
      go_loopw [7, 8] (fun gv jv wy => ∃ (j : Nat), j ≤ ids.length ∧ jv = .int .i64 j ∧ gv = .bool ((z.owner != 0) && hasI (ids.take j) z.owner) ∧ Hid (wy.ownsRow w.heap.size 45 5 u5 (dropL ids (zs.take k)).length (cellsZ (dropL ids (zs.take k)))) ∧ Hid (Ext w wy)) (fun _ jv _ => ids.length - (intOf jv).toNat)
      case atStart => exact ⟨0, Nat.zero_le _, rfl, by simp [hasI], HO, HE⟩
      case round =>
        obtain ⟨j, hj, rfl, rfl, HOy, HEy⟩ := hrel
        by_cases hjl : j < ids.length
        · obtain ⟨y, hyj⟩ : ∃ y, ids[j]? = some y := ⟨_, List.getElem?_eq_getElem hjl⟩
          obtain ⟨b', off', rfl, hb', hNy⟩ := HY.out (by omega)
          have e0 := hNy.ext hb' HEy.out j y hyj
          have ht := hasI_take z.owner hyj
          obtain ⟨-, -, -, d3, -⟩ := HNk.out _ HEy.out
          have HOd : Hid (wr.drew.ownsRow w.heap.size 45 5 u5 (dropL ids (zs.take k)).length (cellsZ (dropL ids (zs.take k)))) := HOy.out.drew
          clear hNy hyj
          by_cases h0 : z.owner = 0
          · have hg : ((z.owner != 0) && hasI (ids.take j) z.owner) = false := by simp [h0]
            have HG : Hid (((z.owner != 0) && hasI (ids.take (j + 1)) z.owner) = false) := by show _ = _; simp [h0]
            rw [hg]
            clear ht hg
            go_wp2
            go_region
            all_goals go_wp2
            all_goals exact ⟨⟨j + 1, by omega, by go_num, by rw [HG.out], HOd, HEy.out.drew⟩, by simp [intOf]; omega⟩
          · have hn0 : (z.owner != 0) = true := by simp [h0]
            rw [hn0, Bool.true_and]
            cases hg : hasI (ids.take j) z.owner with
            | true =>
              have HG : Hid (hasI (ids.take (j + 1)) z.owner = true) := by show _ = _; rw [ht, hg]; rfl
              clear ht hg
              go_wp2
              go_region
              all_goals go_wp2
              all_goals exact ⟨⟨j + 1, by omega, by go_num, by rw [HG.out]; rfl, HOd, HEy.out.drew⟩, by simp [intOf]; omega⟩
            | false =>
              by_cases hy : z.owner = y
              · subst hy
                have HG : Hid (hasI (ids.take (j + 1)) z.owner = true) := by show _ = _; rw [ht, hg]; simp
                clear ht hg
                go_wp2
                go_region_held3 (fun W => W.cell? ⟨bb, off + k * 5 + 3, none⟩ = some (.int .i64 z.owner) ∧ W.cell? ⟨b', off' + j, none⟩ = some (.int .i64 z.owner)) (first | exact ⟨d3, e0⟩ | go_keep) (fail)
                all_goals go_wp2
                all_goals exact ⟨⟨j + 1, by omega, by go_num, by rw [HG.out]; rfl, HOd, HEy.out.drew⟩, by simp [intOf]; omega⟩
              · have HG : Hid (hasI (ids.take (j + 1)) z.owner = false) := by show _ = _; rw [ht, hg]; simp [hy]
                clear ht hg
                go_wp2
                go_region_held3 (fun W => W.cell? ⟨bb, off + k * 5 + 3, none⟩ = some (.int .i64 z.owner) ∧ W.cell? ⟨b', off' + j, none⟩ = some (.int .i64 y)) (first | exact ⟨d3, e0⟩ | go_keep) (fail)
                all_goals go_wp2
                all_goals exact ⟨⟨j + 1, by omega, by go_num, by rw [HG.out]; simp [hy], HOd, HEy.out.drew⟩, by simp [intOf]; omega⟩
        · have hje : j = ids.length := by omega
          subst hje
          rw [List.take_length]
          obtain ⟨d0, d1, d2, d3, d4⟩ := HNk.out _ HEy.out
          have hl4 : (dropL ids (zs.take k)).length ≤ 1000 := by have := dropL_len ids (zs.take k); rw [List.length_take] at this; omega
          cases hg : ((z.owner != 0) && hasI ids z.owner) with
          | true =>
            have HD : Hid (dropL ids (zs.take (k + 1)) = dropL ids (zs.take k)) := by show _ = _; rw [dropL_take HZk.out, if_pos (by unfold goneB; exact hg), List.append_nil]
            clear hg
            go_wp2
            exact ⟨⟨k + 1, by omega, by go_num, by rw [HD.out]; exact HOy.out, HEy⟩, by simp [intOf]; omega⟩
          | false =>
            have HD : Hid (dropL ids (zs.take (k + 1)) = dropL ids (zs.take k) ++ [z]) := by show _ = _; rw [dropL_take HZk.out, if_neg (by unfold goneB; rw [hg]; simp)]
            clear hg
            have hws := HEy.out.size
            generalize dropL ids (zs.take k) = ds at *
            go_wp2_with (at_builtin; go_must (refine wpList_append_own _ rfl _ _ 25 rfl w.heap.size 45 i0 (.agg #[.string ByteArray.empty, .int .i64 0, .int .i64 0, .int .i64 0, .int .i64 0]) 5 48 Tryd.underlying25 hi hz0 hz1 hz2 rfl (by decide) u5 _ _ rfl (HOy.out.alloc _) ⟨wr.heap.size, 0, none⟩ 1 1 (cellsZ [z]) rfl rfl (cells_new wr z _) (cellsZ_one _) (by unfold maxLen; omega) (by omega) (by simp; omega) ?_; intro v6 w6 hown6 hgrow6 hnil6; have HO6 : Hid (w6.ownsRow w.heap.size 45 5 v6 (ds.length + 1) (cellsZ ds ++ cellsZ [z])) := hown6; have HE6 : Hid (Ext w w6) := Below.trans HEy.out (((Below.refl _ _).alloc HEy.out.size _).grown hgrow6 (by have := HEy.out.size; simp; omega) (fun q hq => (HOy.out.lt q hq).1)); clear hown6 hgrow6 hnil6))
            exact ⟨⟨k + 1, by omega, by go_num, by rw [HD.out, List.length_append, cellsZ_append]; exact HO6.out, HE6⟩, by simp [intOf]; omega⟩
    · have hke : k = zs.length := by omega
      subst hke
      rw [List.take_length] at HO
      obtain ⟨g, a5, cap5, hg5, hv5, hO5⟩ := zret_own3 HO.out rfl rfl
      subst hv5
      have HF : Hid (Own wr (.slice a5 (dropL ids zs).length cap5) g (dropL ids zs)) := hO5
      clear hO5
      go_wp2
      go_ret
      exact ⟨_, g, rfl, hg5, by exact HF.out, HE.out⟩

set_option maxHeartbeats 1000000 in
theorem specDropOwned_any (v u : Value) (zs : List Zn) (ids : List Int) (w : World) (hS : NSlice w v zs) (hI : ISlice w u ids) :
    Calls Tryd.prog 6 #[v, u] w (ZRet w (dropV zs ids).1 (dropV zs ids).2.1 (dropV zs ids).2.2) := by
  have HT : Hid (∀ wx, Ext w wx → Calls Tryd.prog 24 #[v] wx fun e w' => e = .returned (.int .i64 (Tre.fault zs)) ∧ Ext wx w') := fun wx he => l2Fault_any v zs wx (hS.ext he)
  have HD : Hid (zs.length ≤ 1000 → ∀ wx, Ext w wx → Calls Tryd.prog 26 #[v, u] wx fun e w' => ∃ v' g, e = .returned v' ∧ wx.heap.size ≤ g ∧ Own w' v' g (dropL ids zs) ∧ Ext wx w') := fun hl wx he => l4Drop_any v u zs ids wx (hS.ext he) (hI.ext he) hl
  obtain ⟨a, cap, rfl, -⟩ := hS
  obtain ⟨b, cbp, rfl, hlc, hcm, -⟩ := hI
  unfold maxLen at hcm
  unfold dropV
  by_cases hc : Tre.fault zs ≠ 0
  · rw [if_pos hc]
    generalize Tre.fault zs = c at *
    go_enter Tryd.func6, Tryd.ntmps6
    go_wp2_with fail
    refine (HT.out _ ((Ext.refl _).alloc _)).mono ?_
    rintro e w2 ⟨rfl, hb⟩
    have HB : Hid (Ext w w2) := ((Ext.refl _).alloc _).trans hb
    have HQ : Hid (RBox w2 w.heap.size) := (RBox.new w _).ext hb
    clear hb
    go_wp2_with fail
    refine (l2Bad_any c _).mono ?_
    rintro e w3 ⟨rfl, hb⟩
    have HB3 : Hid (Ext w w3) := HB.out.trans hb
    obtain ⟨q, q0, q1, q2, f0, f1, f2⟩ := HQ.out.ext hb
    clear hb
    unfold zr
    go_wp2
    exact bodyPost_ret (v := zr c ⟨#[]⟩ (.slice none 0 0)) (by simp [results, Tryd.results6, go_sem, zr, q0, q1, q2]) rfl (zret_bad _ _ (HB3.out.box3 _ _ _))
  · rw [if_neg hc]
    have hc0 : Tre.fault zs = 0 := by omega
    rw [hc0] at HT
    obtain ⟨h20, -, -⟩ := Tre.fault_len hc0
    clear hc hc0
    by_cases h9 : 9 < ids.length
    · rw [if_pos h9]
      go_enter Tryd.func6, Tryd.ntmps6
      go_wp2_with fail
      refine (HT.out _ ((Ext.refl _).alloc _)).mono ?_
      rintro e w2 ⟨rfl, hb⟩
      have HB : Hid (Ext w w2) := ((Ext.refl _).alloc _).trans hb
      have HQ : Hid (RBox w2 w.heap.size) := (RBox.new w _).ext hb
      clear hb
      go_wp2_with fail
      refine (l2Bad_any 2 _).mono ?_
      rintro e w3 ⟨rfl, hb⟩
      have HB3 : Hid (Ext w w3) := HB.out.trans hb
      obtain ⟨q, q0, q1, q2, f0, f1, f2⟩ := HQ.out.ext hb
      clear hb
      unfold zr
      go_wp2
      exact bodyPost_ret (v := zr 2 ⟨#[]⟩ (.slice none 0 0)) (by simp [results, Tryd.results6, go_sem, zr, q0, q1, q2]) rfl (zret_bad _ _ (HB3.out.box3 _ _ _))
    · rw [if_neg h9]
      have HD' : Hid (∀ wx, Ext w wx → Calls Tryd.prog 26 #[.slice a zs.length cap, .slice b ids.length cbp] wx fun e w' => ∃ v' g, e = .returned v' ∧ wx.heap.size ≤ g ∧ Own w' v' g (dropL ids zs) ∧ Ext wx w') := HD.out (by omega)
      clear HD
      generalize dropL ids zs = rs at *
      go_enter Tryd.func6, Tryd.ntmps6
      go_wp2_with fail
      refine (HT.out _ ((Ext.refl _).alloc _)).mono ?_
      rintro e w2 ⟨rfl, hb⟩
      have HB : Hid (Ext w w2) := ((Ext.refl _).alloc _).trans hb
      have HQ : Hid (RBox w2 w.heap.size) := (RBox.new w _).ext hb
      clear hb
      go_wp2_with fail
      refine (HD'.out _ HB.out).mono ?_
      rintro e w3 ⟨v3, g, rfl, hg3, hO, hb⟩
      obtain ⟨a3, cap3, rfl, -⟩ := id hO
      have HO : Hid (Own w3 (.slice a3 rs.length cap3) g rs) := hO
      have HG : Hid (w.heap.size + 1 ≤ g) := by have := HQ.out.1; show _ ≤ _; omega
      have HB3 : Hid (Ext w w3) := HB.out.trans hb
      obtain ⟨q, q0, q1, q2, f0, f1, f2⟩ := HQ.out.ext hb
      clear hb hO
      go_wp2
      exact bodyPost_ret (v := zr 0 ⟨#[]⟩ (.slice a3 rs.length cap3)) (by simp [results, Tryd.results6, go_sem, zr, q0, q1, q2]) rfl (zret_own 0 ⟨#[]⟩ HO.out HG.out HB3.out _ _ _)
end Go.Proofs.YtjlmkjcahnnjpaaDoor
