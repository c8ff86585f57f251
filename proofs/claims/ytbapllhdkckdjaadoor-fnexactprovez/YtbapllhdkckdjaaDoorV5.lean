/- the program's LeafSum. -/
import Derived.Test.YtbapllhdkckdjaaDoorV4
import Derived.Test.YtbapllhdkckdjaaDoorW4
import Derived.Test.YtbapllhdkckdjaaDoorI3
import Derived.Lib.ConvBytes
import Derived.Maps.AppendAt
namespace Go.Proofs.YtbapllhdkckdjaaDoor
open Go.RowKit

theorem ownsRow_ext {w w' : World} {base : Nat} {e : TypeId} {size : Nat} {v : Value} {n : Nat} {xs : List Value} (h : w.ownsRow base e size v n xs) (he : Ext w w') : w'.ownsRow base e size v n xs := by
  refine ⟨h.1, ?_⟩
  rcases h.2 with hn | ⟨g, cap, cur, rfl, hb, hgg, rest⟩
  · exact .inl hn
  · refine .inr ⟨g, cap, cur, rfl, hb, ?_, rest⟩
    have hk : g < w.heap.size := (Array.getElem?_eq_some_iff.1 hgg).1
    exact (he.block g hk).trans hgg
theorem IBox.below {w w2 : World} {r B : Nat} (h : IBox w r) (he : Below B w w2) (hr : r < B) : IBox w2 r := by
  obtain ⟨h1, h2, h3, h5, h6⟩ := h
  exact ⟨Nat.lt_of_lt_of_le h1 (Below.size he), (Below.cell he (p := ⟨r, 0, none⟩) hr).trans h2, (Below.cell he (p := ⟨r, 1, none⟩) hr).trans h3, (Below.frozen he (p := ⟨r, 0, none⟩) hr).trans h5, (Below.frozen he (p := ⟨r, 1, none⟩) hr).trans h6⟩
theorem conv_bytes (W : World) (s : ByteArray) (g : Nat) (hg : g = W.heap.size) : ∃ (cp : Nat) (W' : World), (convert 9 22 (.string s)).run Tryd.prog W = .ok (.slice (some ⟨g, 0, none⟩) s.size cp) W' ∧ Ext W W' ∧ W'.heap.size = g + 1 ∧ ∀ (j : Nat) (h : j < s.size), W'.cell? ⟨g, j, none⟩ = some (.int .u8 (s[j].toNat : Int)) := by
  subst hg
  refine ⟨_, _, Lib.run_convert_string_bytes W 9 22 5 s Tryd.underlying9 Tryd.underlying22 Tryd.underlying5, ⟨rfl, rfl, rfl, ?_, fun k hk => Lib.bytesWorld_at_old W _ s k hk⟩, Lib.bytesWorld_size W _ s, fun j h => ?_⟩
  · rw [Lib.bytesWorld_size]; omega
  · rw [Lib.bytesWorld_cell W _ s j h]
    rw [List.getD_eq_getElem?_getD, List.getElem?_eq_getElem (by simpa using h)]
    rfl

set_option maxHeartbeats 2000000 in
set_option maxRecDepth 100000 in
theorem implLeafSum_any (z : Zn) (w : World) (hg : Gd w) :
    Calls Tryd.prog 17 #[zagg z] w fun e w' => e = .returned (ir (Sm.leafV z)) ∧ Ext w w' := by
  have HP : Hid (∀ wx : World, Ext w wx → Calls Tryd.prog 52 #[.string z.path] wx fun e w' => e = .returned (.int .i64 (Pth.faultI z.path.data.toList)) ∧ Ext wx w') := fun wx h => pathFault_any z.path wx (hg.ext h)
  have HH : Hid (∀ (b : Nat) (wx : World), ZAt wx b 0 z → Calls Tryd.prog 53 #[.pointer (some ⟨b, 0, none⟩)] wx fun e w' => e = .returned (.bool (Tre.okNums z)) ∧ Ext wx w') := fun b wx h => hasBounds_any b 0 z wx h.2.2.1 h.2.2.2.1 h.2.2.2.2.1 h.2.2.2.2.2
  clear hg
  unfold zagg
  have hi9 : (Tryd.prog.info? 2).map (fun i => (i.zero, i.size, i.bytes)) = some (some (.int .i64 0), 1, 8) := by kernel_rfl
  obtain ⟨i0, hi, hx⟩ := Option.map_eq_some_iff.1 hi9
  simp only [Prod.mk.injEq] at hx
  obtain ⟨hz0, hz1, hz2⟩ := hx
  clear hi9
  by_cases hc0 : Pth.faultI z.path.data.toList ≠ 0
  · rw [leafV_bad (Sm.nodeC_path rfl hc0) hc0]
    generalize Pth.faultI z.path.data.toList = c at *
    clear hi hz0 hz1 hz2
    go_enter Tryd.func17, Tryd.ntmps17
    go_wp2_with fail
    refine (HP.out _ (((Ext.refl _).alloc _).alloc _)).mono ?_
    rintro e w2 ⟨rfl, hb⟩
    have HB : Hid (Ext w w2) := (((Ext.refl _).alloc _).alloc _).trans hb
    obtain ⟨q, q0, q1, f0, f1⟩ := (two_boxes w z _ _).2.ext hb
    clear hb
    go_wp2
    exact bodyPost_ret (v := ir (c, 0)) (by simp [results, Tryd.results17, go_sem, ir, q0, q1]) rfl ⟨rfl, HB.out.two1 _ _⟩
  · have hc1 : Pth.faultI z.path.data.toList = 0 := by omega
    rw [hc1] at HP
    cases hn : Tre.okNums z with
    | false =>
      rw [hn] at HH
      rw [leafV_bad (c := 3) (by rw [Sm.nodeC_nums hc1 hn]; rfl) (by decide)]
      clear hi hz0 hz1 hz2 hc0 hc1 hn
      go_enter Tryd.func17, Tryd.ntmps17
      go_wp2_with fail
      refine (HP.out _ (((Ext.refl _).alloc _).alloc _)).mono ?_
      rintro e w2 ⟨rfl, hb⟩
      have HB : Hid (Ext w w2) := (((Ext.refl _).alloc _).alloc _).trans hb
      have HZ2 : Hid (ZAt w2 w.heap.size 0 z) := (two_boxes w z _ _).1.ext hb
      have HQ2 : Hid (IBox w2 (w.heap.size + 1)) := (two_boxes w z _ _).2.ext hb
      clear hb
      go_wp2_with fail
      refine (HH.out _ _ HZ2.out).mono ?_
      rintro e w3 ⟨rfl, hb⟩
      have HB3 : Hid (Ext w w3) := HB.out.trans hb
      obtain ⟨q, q0, q1, f0, f1⟩ := HQ2.out.ext hb
      clear hb
      go_wp2
      exact bodyPost_ret (v := ir (3, 0)) (by simp [results, Tryd.results17, go_sem, ir, q0, q1]) rfl ⟨rfl, HB3.out.two1 _ _⟩
    | true =>
      rw [hn] at HH
      have hN0 : Sm.nodeC z = 0 := by rw [Sm.nodeC_nums hc1 hn]; rfl
      have hs : z.path.size ≤ 24 := by have := fault_short hc1; rw [len_eq] at this; exact this
      rw [leafV_ok hN0]
      have HI : Hid (∀ (v : Value) (wx : World), ISlice wx v (Sm.lf z z.path.size) → Calls Tryd.prog 54 #[v] wx fun e w' => e = .returned (ir (0, Sm.leaf z)) ∧ Ext wx w') := fun v wx h => by
        have h2 := implSumOf_any v _ wx h
        rw [Sm.sumV_ok (by rw [Sm.lf_len (Nat.le_refl _)]; omega) (Sm.lf_ok _ hn)] at h2
        exact h2
      clear hc0 hc1 hn hN0
      generalize Sm.leaf z = r at *
      go_enter Tryd.func17, Tryd.ntmps17
      go_wp2_with fail
      refine (HP.out _ (((Ext.refl _).alloc _).alloc _)).mono ?_
      rintro e w2 ⟨rfl, hb⟩
      have HB : Hid (Ext w w2) := (((Ext.refl _).alloc _).alloc _).trans hb
      have HZ2 : Hid (ZAt w2 w.heap.size 0 z) := (two_boxes w z _ _).1.ext hb
      have HQ2 : Hid (IBox w2 (w.heap.size + 1)) := (two_boxes w z _ _).2.ext hb
      clear hb
      go_wp2_with fail
      refine (HH.out _ _ HZ2.out).mono ?_
      rintro e w3 ⟨rfl, hb⟩
      have HB3 : Hid (Ext w w3) := HB.out.trans hb
      have HZ3 : Hid (ZAt w3 w.heap.size 0 z) := HZ2.out.ext hb
      have HQ3 : Hid (IBox w3 (w.heap.size + 1)) := HQ2.out.ext hb
      clear hb
      obtain ⟨hbr, d0, d1, d2, d3, d4⟩ := HZ3.out
      obtain ⟨cp, w4, hcv, hE4, hz4, hby⟩ := conv_bytes (w3.alloc (.cells #[.int .i64 0, .int .i64 z.data, .int .i64 z.version, .int .i64 z.owner, .int .i64 z.next] 2)) z.path (w3.heap.size + 1) (by simp)
      have HE4 : Hid (Ext w w4) := (HB3.out.alloc _).trans hE4
      have HQ4 : Hid (IBox w4 (w.heap.size + 1)) := (HQ3.out.ext ((Ext.refl _).alloc _)).ext hE4
      have HY4 : Hid (w4.heap.size = w3.heap.size + 2 ∧ ∀ (j : Nat) (h : j < z.path.size), w4.cell? ⟨w3.heap.size + 1, j, none⟩ = some (.int .u8 (z.path[j].toNat : Int))) := ⟨hz4, hby⟩
      have HO4 : Hid (w4.ownsRow w3.heap.size 2 1 (.slice (some ⟨w3.heap.size, 0, none⟩) 5 5) 5 ((Sm.lf z 0).map (Value.int .i64))) := by
        have h := World.ownsRow_lit (base := w3.heap.size) (e := 2) (size := 1) w3 #[.int .i64 0, .int .i64 z.data, .int .i64 z.version, .int .i64 z.owner, .int .i64 z.next] 5 (Nat.le_refl _) (by unfold maxLen; omega) rfl
        exact ownsRow_ext h hE4
      clear hE4 hz4 hby
      have hlt3 : w.heap.size + 1 < w3.heap.size := HQ3.out.1
      go_wp2
      go_loopw [4, 30] (fun lv i wr => ∃ (k : Nat), k ≤ z.path.size ∧ i = .int .i64 k ∧ Hid (wr.ownsRow w3.heap.size 2 1 lv (5 + k) ((Sm.lf z k).map (Value.int .i64)) ∧ lv.ownBlock ≠ some (w3.heap.size + 1)) ∧ Hid (w3.heap.size + 2 ≤ wr.heap.size ∧ ∀ (j : Nat) (h : j < z.path.size), wr.cell? ⟨w3.heap.size + 1, j, none⟩ = some (.int .u8 (z.path[j].toNat : Int))) ∧ Hid (Below w3.heap.size w4 wr)) (fun _ i _ => z.path.size - (intOf i).toNat)
      case atStart => exact ⟨0, Nat.zero_le _, rfl, ⟨HO4.out, by simp [Value.ownBlock]⟩, ⟨by rw [HY4.out.1]; exact Nat.le_refl _, HY4.out.2⟩, Below.refl _ _⟩
      case round =>
        obtain ⟨k, hk, rfl, HO, HY, HE⟩ := hrel
        by_cases hlt : k < z.path.size
        · have hyk := HY.out.2 k hlt
          go_wp2_with (at_builtin; go_must (refine wpList_append_own_at _ rfl _ _ 81 rfl w3.heap.size 2 i0 (.int .i64 0) 1 8 Tryd.underlying81 hi hz0 hz1 hz2 rfl (by decide) _ _ _ rfl (HO.out.1.alloc _) ⟨wr.heap.size, 0, none⟩ 1 1 [.int .i64 (wrap64 (z.path[k].toNat : Int))] rfl rfl (cell_one_new _ _ _) (fun x hx => by simp at hx; subst hx; rfl) (by unfold maxLen; omega) (by omega) (by have := HY.out.1; simp; omega) ?_; intro v' w5 hown' hgrow hnil hlies))
          have hB5 : Below w3.heap.size w4 w5 := (HE.out.alloc (by have := HY.out.1; omega) _).grown hgrow (by have := HY.out.1; simp; omega) (fun q hq => (HO.out.1.lt q hq).1)
          refine ⟨⟨k + 1, by omega, by go_num, ⟨?_, ?_⟩, ⟨?_, ?_⟩, hB5⟩, by simp [intOf]; omega⟩
          · rw [Sm.lf_succ hlt, List.map_append]
            rw [wrap_byte] at hown'
            exact hown'
          · rcases hlies with h | h
            · rw [h]; exact HO.out.2
            · rw [h]; have := HY.out.1; simp; omega
          · have := hgrow.size; have := HY.out.1; simp at *; omega
          · intro j hj
            refine hgrow.cell (a := ⟨w3.heap.size + 1, j, none⟩) ?_ (fun h => HO.out.2 h.symm)
            rw [alloc_cell _ _ _ _ (by have := HY.out.1; omega)]
            exact HY.out.2 j hj
        · have hke : k = z.path.size := by omega
          subst hke
          have hIS : ISlice wr u4 (Sm.lf z z.path.size) := by
            refine nums_of_owns4 (base := w3.heap.size) ?_
            rw [Sm.lf_len (Nat.le_refl _)]
            exact HO.out.1
          have HIS : Hid (ISlice wr u4 (Sm.lf z z.path.size)) := hIS
          clear hIS
          have HQr : Hid (IBox wr (w.heap.size + 1)) := HQ4.out.below HE.out hlt3
          have HEr : Hid (Ext w wr) := Below.trans HE4.out (Below.mono HE.out (by omega))
          unfold ir at HI
          go_wp2_with fail
          refine (HI.out _ _ HIS.out).mono ?_
          rintro e w6 ⟨rfl, hb⟩
          have HB6 : Hid (Ext w w6) := HEr.out.trans hb
          obtain ⟨q, q0, q1, f0, f1⟩ := HQr.out.ext hb
          clear hb
          go_wp2
          exact bodyPost_ret (v := ir (0, r)) (by simp [results, Tryd.results17, go_sem, ir, q0, q1]) rfl ⟨rfl, HB6.out.two1 _ _⟩
end Go.Proofs.YtbapllhdkckdjaaDoor
