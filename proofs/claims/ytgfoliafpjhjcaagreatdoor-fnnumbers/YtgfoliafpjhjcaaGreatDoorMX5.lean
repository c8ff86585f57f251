/- D7s, D10, in one text. -/
import Derived.Test.YtgfoliafpjhjcaaGreatDoorMX3
import Derived.Test.YtgfoliafpjhjcaaGreatDoorMX1
import Derived.Deep.RegionHeld3
/- draws of bent trees, with short paths. -/
namespace Go.Proofs.YtgfoliafpjhjcaaGreatDoor
open Go.RowKit
def FewS (zs : List Zn) : Prop := Few zs ∧ ∀ z ∈ zs, z.path.size ≤ 30
theorem bent_storeS {w wr : World} {b a a0 k g off cap i : Nat} {cv : Value} {zs : List Zn} {z : Zn} (h : St w b a cv (.slice (some ⟨g, off, none⟩) zs.length cap) g zs wr) (hb : b < w.heap.size) (hg : w.heap.size ≤ g) (hz : zs[i]? = some z) (hl : zs.length ≤ 20) (ha : a ≤ a0 + k) (r : Nat) (hr : r < 5) (u : Value) (z' : Zn) (hz' : zcells z' = (zcells z).set r u) (hsh : ∀ z ∈ zs, z.path.size ≤ 30) (hs' : z'.path.size ≤ 30) :
    DrawnT FewS b a0 k cv w (.returned (.slice (some ⟨g, off, none⟩) zs.length cap)) (wr.setCell ⟨g, off + i * 5 + r, none⟩ u) := by
  have hu : Upd g wr (wr.setCell ⟨g, off + i * 5 + r, none⟩ u) := (Upd.refl _ _).setAt _ u
  have hi := (List.getElem?_eq_some_iff.1 hz).1
  refine ⟨g, off, cap, a, zs.set i z', by rw [List.length_set], ⟨⟨by rw [List.length_set]; omega, by rw [List.length_set]; omega⟩, fun x hx => by rcases List.mem_or_eq_of_mem_set hx with hx | rfl; exact hsh x hx; exact hs'⟩, hg, ?_, ha, h.1.kept (Below.mono hu.1 (by omega)), h.2.1.above hb hg _ _⟩
  rw [List.length_set]
  exact h.2.2.1.field hz r hr u z' hz'

set_option maxHeartbeats 4000000 in
set_option maxRecDepth 100000 in
theorem l2BentS_any (b a : Nat) (cv : Value) (w : World) (h : SrcAt w b a cv) (ha : a ≤ 600) :
    Calls Tryz.prog 32 #[.pointer (some ⟨b, 0, none⟩)] w (DrawnT FewS b a 109 cv w) := by
  have hi9 : (Tryz.prog.info? 39).map (fun i => (i.zero, i.size, i.bytes)) = some (some (.agg #[.string ⟨#[]⟩, .int .i64 0, .int .i64 0, .int .i64 0, .int .i64 0]), 5, 48) := by kernel_rfl
  obtain ⟨i0, hi, hx⟩ := Option.map_eq_some_iff.1 hi9
  simp only [Prod.mk.injEq] at hx
  obtain ⟨hz0, hz1, hz2⟩ := hx
  clear hi9
  have hbl : b < w.heap.size := h.2.2.2.1
  have HS : Hid (SrcAt w b a cv) := h
  clear h
  go_enter Tryz.func32, Tryz.ntmps32
  go_wp2_with fail
  refine (l2Right_any b a cv _ (by exact HS.out) (by omega)).mono ?_
  rintro e w1 ⟨g, off, cap, a1, zs, rfl, hK, hgw, hO, ha1, hS1, hU1⟩
  have hpos := hK.pos
  have hl20 := hK.1
  have HT1 : Hid (St w b a1 cv (.slice (some ⟨g, off, none⟩) zs.length cap) g zs w1) := ⟨hS1, hU1, hO, by omega⟩
  have HSh : Hid (∀ z ∈ zs, z.path.size ≤ 30) := fun z hz => by have := few_of_ok (s := z.path) (hK.2.2 z hz).1; omega
  clear hK hO hS1 hU1
  go_wp2_with fail
  refine (next_any b a1 cv zs.length _ (by exact HT1.out.1) (by omega) (by omega) (by omega)).mono ?_
  rintro e w2 ⟨ri, q2, rfl, hi0, hi1, hw⟩
  obtain ⟨i, rfl⟩ := Int.eq_ofNat_of_zero_le hi0
  have hil : i < zs.length := by omega
  have HT2 : Hid (St w b (a1 + 1) cv (.slice (some ⟨g, off, none⟩) zs.length cap) g zs w2) := by rw [hw]; exact HT1.out.place _ _
  clear hw HT1
  go_wp2_with fail
  refine (next_any b (a1 + 1) cv 14 _ (by exact HT2.out.1) (by omega) (by omega) (by omega)).mono ?_
  rintro e w3 ⟨r, q3, rfl, hr0, hr1, hw⟩
  have HT3 : Hid (St w b (a1 + 2) cv (.slice (some ⟨g, off, none⟩) zs.length cap) g zs w3) := by rw [hw]; exact HT2.out.place _ _
  clear hw HT2
  obtain ⟨z, hzi⟩ : ∃ z, zs[i]? = some z := ⟨_, List.getElem?_eq_getElem hil⟩
  have HZ : Hid (zs[i]? = some z) := hzi
  clear hzi
  by_cases h0 : r = 0
  · subst h0
    go_wp2_with fail
    refine (bent_any b (a1 + 2) cv _ (by exact HT3.out.1) (by omega)).mono ?_
    rintro e w4 ⟨t, a4, rfl, ht4, ha4, hS4, hU4⟩
    have HTt : Hid (t.size ≤ 30) := ht4
    clear ht4
    have HT4 : Hid (St w b a4 cv (.slice (some ⟨g, off, none⟩) zs.length cap) g zs w4) := HT3.out.upd hS4 hU4
    clear hS4 hU4 HT3
    obtain ⟨hR9, hlc9, hcm9⟩ := HT4.out.2.2.1.room hpos
    obtain ⟨⟨y1, r1⟩, s1⟩ := hR9.2 (i * 5 + 0) (by omega)
    rw [← Nat.add_assoc] at r1 s1
    unfold maxLen at hcm9
    clear hR9
    simp only [Nat.add_zero] at r1 s1
    go_wp2
    go_ret
    exact bent_storeS HT4.out hbl hgw HZ.out hl20 (by omega) 0 (by omega) (.string t) { z with path := t } rfl HSh.out HTt.out
  have e0 : (r == 0) = false := by simp [h0]
  by_cases h1 : r = 1
  · subst h1
    go_wp2_with fail
    have hl3 : b < w3.heap.size := HT3.out.1.lt
    refine (pick_any b (a1 + 2) w3.heap.size 0 2 cv [-1, 10000] _ (by exact (HT3.out.alloc _).1) (by omega) (nums2 _ _ _ _) (by simp) (by simp) (by omega)).mono ?_
    rintro e w4 ⟨x, q4, rfl, hw⟩
    have HT4 : Hid (St w b (a1 + 3) cv (.slice (some ⟨g, off, none⟩) zs.length cap) g zs w4) := by rw [hw]; exact (HT3.out.alloc _).place _ _
    clear hw HT3
    obtain ⟨hR9, hlc9, hcm9⟩ := HT4.out.2.2.1.room hpos
    obtain ⟨⟨y1, r1⟩, s1⟩ := hR9.2 (i * 5 + 1) (by omega)
    rw [← Nat.add_assoc] at r1 s1
    unfold maxLen at hcm9
    clear hR9
    go_wp2
    go_ret
    exact bent_storeS HT4.out hbl hgw HZ.out hl20 (by omega) 1 (by omega) (.int .i64 x) { z with data := x } rfl HSh.out (HSh.out z (List.mem_of_getElem? HZ.out))
  have e1 : (r == 1) = false := by simp [h1]
  by_cases h2 : r = 2
  · subst h2
    go_wp2_with fail
    have hl3 : b < w3.heap.size := HT3.out.1.lt
    refine (pick_any b (a1 + 2) w3.heap.size 0 3 cv [-1, 999, 1000] _ (by exact (HT3.out.alloc _).1) (by omega) (nums3 _ _ _ _ _) (by simp) (by simp) (by omega)).mono ?_
    rintro e w4 ⟨x, q4, rfl, hw⟩
    have HT4 : Hid (St w b (a1 + 3) cv (.slice (some ⟨g, off, none⟩) zs.length cap) g zs w4) := by rw [hw]; exact (HT3.out.alloc _).place _ _
    clear hw HT3
    obtain ⟨hR9, hlc9, hcm9⟩ := HT4.out.2.2.1.room hpos
    obtain ⟨⟨y1, r1⟩, s1⟩ := hR9.2 (i * 5 + 2) (by omega)
    rw [← Nat.add_assoc] at r1 s1
    unfold maxLen at hcm9
    clear hR9
    go_wp2
    go_ret
    exact bent_storeS HT4.out hbl hgw HZ.out hl20 (by omega) 2 (by omega) (.int .i64 x) { z with version := x } rfl HSh.out (HSh.out z (List.mem_of_getElem? HZ.out))
  have e2 : (r == 2) = false := by simp [h2]
  by_cases h3 : r = 3
  · subst h3
    go_wp2_with fail
    have hl3 : b < w3.heap.size := HT3.out.1.lt
    refine (pick_any b (a1 + 2) w3.heap.size 0 2 cv [3, 10] _ (by exact (HT3.out.alloc _).1) (by omega) (nums2 _ _ _ _) (by simp) (by simp) (by omega)).mono ?_
    rintro e w4 ⟨x, q4, rfl, hw⟩
    have HT4 : Hid (St w b (a1 + 3) cv (.slice (some ⟨g, off, none⟩) zs.length cap) g zs w4) := by rw [hw]; exact (HT3.out.alloc _).place _ _
    clear hw HT3
    obtain ⟨hR9, hlc9, hcm9⟩ := HT4.out.2.2.1.room hpos
    obtain ⟨⟨y1, r1⟩, s1⟩ := hR9.2 (i * 5 + 3) (by omega)
    rw [← Nat.add_assoc] at r1 s1
    unfold maxLen at hcm9
    clear hR9
    go_wp2
    go_ret
    exact bent_storeS HT4.out hbl hgw HZ.out hl20 (by omega) 3 (by omega) (.int .i64 x) { z with owner := x } rfl HSh.out (HSh.out z (List.mem_of_getElem? HZ.out))
  have e3 : (r == 3) = false := by simp [h3]
  by_cases h4 : r = 4
  · subst h4
    go_wp2_with fail
    have hl3 : b < w3.heap.size := HT3.out.1.lt
    refine (pick_any b (a1 + 2) w3.heap.size 0 2 cv [100, 101] _ (by exact (HT3.out.alloc _).1) (by omega) (nums2 _ _ _ _) (by simp) (by simp) (by omega)).mono ?_
    rintro e w4 ⟨x, q4, rfl, hw⟩
    have HT4 : Hid (St w b (a1 + 3) cv (.slice (some ⟨g, off, none⟩) zs.length cap) g zs w4) := by rw [hw]; exact (HT3.out.alloc _).place _ _
    clear hw HT3
    obtain ⟨hR9, hlc9, hcm9⟩ := HT4.out.2.2.1.room hpos
    obtain ⟨⟨y1, r1⟩, s1⟩ := hR9.2 (i * 5 + 4) (by omega)
    rw [← Nat.add_assoc] at r1 s1
    unfold maxLen at hcm9
    clear hR9
    go_wp2
    go_ret
    exact bent_storeS HT4.out hbl hgw HZ.out hl20 (by omega) 4 (by omega) (.int .i64 x) { z with next := x } rfl HSh.out (HSh.out z (List.mem_of_getElem? HZ.out))
  have e4 : (r == 4) = false := by simp [h4]
  by_cases h5 : r = 5
  · subst h5
    have hmk : ∀ W : World, (Instr.makeSlice 24 (.int .i64 21) (.int .i64 21)).run Tryz.prog W = .ok (.slice (some ⟨W.heap.size, 0, none⟩) 21 21) (W.alloc (.cells (madeCells #[.string ⟨#[]⟩, .int .i64 0, .int .i64 0, .int .i64 0, .int .i64 0] 105) 39)) := fun W => by
      have h := run_make (P := Tryz.prog) W 24 39 i0 _ Tryz.underlying24 hi hz0 .i64 .i64 21 21 (by omega) (by omega) (by rw [hz2]; omega) (by omega)
      rw [hz1] at h
      exact h
    have HM : Hid ((madeCells #[.string ⟨#[]⟩, .int .i64 0, .int .i64 0, .int .i64 0, .int .i64 0] 105).toList = cellsZ (List.replicate 21 z0)) := made21
    generalize madeCells #[.string ⟨#[]⟩, .int .i64 0, .int .i64 0, .int .i64 0, .int .i64 0] 105 = M at hmk HM
    go_wp2
    go_ret
    obtain ⟨g9, hg9, hO9⟩ := own_lit w3 (List.replicate 21 z0) M 39 HM.out (by unfold maxLen; simp)
    obtain ⟨off9, cap9, he9⟩ := hO9.at (by simp)
    injection he9 with e91 _ _
    injection e91 with e91
    injection e91 with e91 _ _
    subst e91
    exact ⟨w3.heap.size, 0, 21, a1 + 2, List.replicate 21 z0, by simp, ⟨⟨by simp, by simp⟩, fun z hz => by rw [List.eq_of_mem_replicate hz]; decide⟩, HT3.out.2.1.2.1, hO9, by omega, (HT3.out.alloc _).1, (HT3.out.alloc _).2.1⟩
  have e5 : (r == 5) = false := by simp [h5]
  go_wp2
  go_ret
  exact ⟨g, off, cap, a1 + 2, zs, rfl, ⟨⟨hpos, by omega⟩, HSh.out⟩, hgw, HT3.out.2.2.1, by omega, HT3.out.1, HT3.out.2.1⟩
end Go.Proofs.YtgfoliafpjhjcaaGreatDoor

/- draws: DrawCreateZ, DrawSeqName. -/
namespace Go.Proofs.YtgfoliafpjhjcaaGreatDoor
open Go.RowKit
set_option maxHeartbeats 4000000 in
set_option maxRecDepth 100000 in
theorem drawCreateZ_any (cv : Value) (w : World) (hc : CodeOk w w.heap.size cv) :
    Calls Tryz.prog 8 #[cv] w (DrawnW (fun l => ∃ (d o : Int) (q : Bool), l = [.int .i64 d, .int .i64 o, .bool q]) w) := by
  have HS : Hid (SrcAt (w.alloc (.cells #[cv, .int .i64 0] 118)) w.heap.size 0 cv) := src_new hc
  obtain ⟨ad, len, cap0, hcv, -⟩ := hc
  have HC := source_any cv w ad len cap0 hcv
  clear hcv
  go_enter Tryz.func8, Tryz.ntmps8
  go_wp2_with fail
  refine HC.mono ?_
  rintro e w1 ⟨rfl, rfl⟩
  clear HC
  go_wp2_with fail
  refine (l2BentS_any w.heap.size 0 cv _ (by exact HS.out) (by omega)).mono ?_
  rintro e w2 ⟨g, off, cap, a2, zs, rfl, hF, hg, hO, ha2, hS2, hU2⟩
  have hg2 : w.heap.size < g := by have h2 := hg; simp at h2; omega
  have hpos := hF.1.1
  have h21 := hF.1.2
  have HSh : Hid (∀ z ∈ zs, z.path.size ≤ 30) := hF.2
  have HT2 : Hid (St (w.alloc (.cells #[cv, .int .i64 0] 118)) w.heap.size a2 cv (.slice (some ⟨g, off, none⟩) zs.length cap) g zs w2) := ⟨hS2, hU2, hO, by omega⟩
  clear hF hg hO hS2 hU2
  go_wp2_with fail
  refine (bent_any w.heap.size a2 cv _ (by exact HT2.out.1) (by omega)).mono ?_
  rintro e w3 ⟨t, a3, rfl, -, ha3, hS3, hU3⟩
  have HT3 : Hid (St (w.alloc (.cells #[cv, .int .i64 0] 118)) w.heap.size a3 cv (.slice (some ⟨g, off, none⟩) zs.length cap) g zs w3) := HT2.out.upd hS3 hU3
  clear hS3 hU3 HT2
  go_wp2_with fail
  refine (chance_any w.heap.size a3 cv 2 _ (by exact HT3.out.1) (by omega) (by omega) (by omega)).mono ?_
  rintro e w4 ⟨c, q, rfl, hw⟩
  have HT4 : Hid (St (w.alloc (.cells #[cv, .int .i64 0] 118)) w.heap.size (a3 + 1) cv (.slice (some ⟨g, off, none⟩) zs.length cap) g zs w4) := by rw [hw]; exact HT3.out.place _ _
  clear hw HT3
  have hcm := (HT4.out.2.2.1.room hpos).2
  unfold maxLen at hcm
  have HFin : Hid (∀ (W : World) (a : Nat) (t : ByteArray), St (w.alloc (.cells #[cv, .int .i64 0] 118)) w.heap.size a cv (.slice (some ⟨g, off, none⟩) zs.length cap) g zs W → a ≤ 700 → True) := fun _ _ _ _ _ => trivial
  clear HFin
  cases c
  · go_wp2_with fail
    refine (next_any w.heap.size (a3 + 1) cv 99 _ (by exact HT4.out.1) (by omega) (by omega) (by omega)).mono ?_
    rintro e w5 ⟨x, q5, rfl, -, -, hw⟩
    have HT5 : Hid (St (w.alloc (.cells #[cv, .int .i64 0] 118)) w.heap.size (a3 + 2) cv (.slice (some ⟨g, off, none⟩) zs.length cap) g zs w5) := by rw [hw]; exact HT4.out.place _ _
    have hl5 := HT5.out.1.lt
    clear hw HT4
    go_wp2_with fail
    refine (pick_any w.heap.size (a3 + 2) w5.heap.size 0 2 cv [x, 10000] _ (by exact (HT5.out.alloc _).1) (by omega) (nums2 _ _ _ _) (by simp) (by simp) (by omega)).mono ?_
    rintro e w6 ⟨d, q6, rfl, hw⟩
    have HT6 : Hid (St (w.alloc (.cells #[cv, .int .i64 0] 118)) w.heap.size (a3 + 3) cv (.slice (some ⟨g, off, none⟩) zs.length cap) g zs w6) := by rw [hw]; exact (HT5.out.alloc _).place _ _
    have hl6 := HT6.out.1.lt
    clear hw HT5 hl5
    go_wp2_with fail
    refine (pick_any w.heap.size (a3 + 3) w6.heap.size 0 4 cv [0, 0, 1, 10] _ (by exact (HT6.out.alloc _).1) (by omega) (nums4 _ _ _ _ _ _) (by simp) (by simp) (by omega)).mono ?_
    rintro e w7 ⟨o, q7, rfl, hw⟩
    have HT7 : Hid (St (w.alloc (.cells #[cv, .int .i64 0] 118)) w.heap.size (a3 + 4) cv (.slice (some ⟨g, off, none⟩) zs.length cap) g zs w7) := by rw [hw]; exact (HT6.out.alloc _).place _ _
    clear hw HT6 hl6
    go_wp2_with fail
    refine (chance_any w.heap.size (a3 + 4) cv 3 _ (by exact HT7.out.1) (by omega) (by omega) (by omega)).mono ?_
    rintro e w8 ⟨c8, q8, rfl, hw⟩
    have HT8 : Hid (St (w.alloc (.cells #[cv, .int .i64 0] 118)) w.heap.size (a3 + 5) cv (.slice (some ⟨g, off, none⟩) zs.length cap) g zs w8) := by rw [hw]; exact HT7.out.place _ _
    clear hw HT7
    go_wp2
    exact bodyPost_ret (v := .tuple #[.slice (some ⟨g, off, none⟩) zs.length cap, .string t, .int .i64 d, .int .i64 o, .bool c8]) (by simp [results, Tryz.results8, go_sem]) rfl ⟨g, off, cap, zs, t, _, rfl, ⟨d, o, c8, rfl⟩, ⟨hpos, h21⟩, HT8.out.2.2.1, ext_of_upd HT8.out.2.1⟩
  · have HN : Hid (∀ W : World, (W = w4 ∨ W = w4.drewN 1) → Calls Tryz.prog 36 #[.pointer (some ⟨w.heap.size, 0, none⟩), .int .i64 zs.length] W fun e w5 => ∃ (i : Nat) (z : Zn), e = .returned (.int .i64 i) ∧ i < zs.length ∧ z.path.size ≤ 30 ∧ w5.cell? ⟨g, off + i * 5, none⟩ = some (.string z.path) ∧ Hid (zs[i]? = some z) ∧ Hid (St (w.alloc (.cells #[cv, .int .i64 0] 118)) w.heap.size (a3 + 2) cv (.slice (some ⟨g, off, none⟩) zs.length cap) g zs w5)) := by
      intro W hW
      have HW : St (w.alloc (.cells #[cv, .int .i64 0] 118)) w.heap.size (a3 + 1) cv (.slice (some ⟨g, off, none⟩) zs.length cap) g zs W := by
        rcases hW with rfl | rfl
        · exact HT4.out
        · exact HT4.out.upd (HT4.out.1.drewN 1) ((Upd.refl _ _).drewN 1)
      refine (next_any w.heap.size (a3 + 1) cv zs.length W HW.1 (by omega) (by omega) (by omega)).mono ?_
      rintro e w5 ⟨ri, q5, rfl, hi0, hi1, hw⟩
      obtain ⟨i, rfl⟩ := Int.eq_ofNat_of_zero_le hi0
      have hil : i < zs.length := by omega
      have HT5 : St (w.alloc (.cells #[cv, .int .i64 0] 118)) w.heap.size (a3 + 2) cv (.slice (some ⟨g, off, none⟩) zs.length cap) g zs w5 := by rw [hw]; exact HW.place _ _
      obtain ⟨z, hzi⟩ : ∃ z, zs[i]? = some z := ⟨_, List.getElem?_eq_getElem hil⟩
      exact ⟨i, z, rfl, hil, HSh.out z (List.mem_of_getElem? hzi), HT5.2.2.1.node hzi, hzi, HT5⟩
    clear HSh
    go_wp2
    go_region_with (first
      | (go_at_call 36; refine (HN.out _ (by first | exact Or.inl rfl | exact Or.inr rfl)).mono ?_; rintro e w5 ⟨i, z, rfl, hil, hzs, hcz, HZi, HT5⟩)
      | (go_at_call 37; refine (drawName_any w.heap.size (a3 + 2) cv _ HT5.out.1 (by omega)).mono ?_; rintro e w6 ⟨nm, a6, rfl, hnm, ha6, hS6, hU6⟩; have HT6 : Hid (St (w.alloc (.cells #[cv, .int .i64 0] 118)) w.heap.size a6 cv (.slice (some ⟨g, off, none⟩) zs.length cap) g zs w6) := HT5.out.upd hS6 hU6; have hcz6 := HT6.out.2.2.1.node HZi.out; clear hS6 hU6)
      | (go_at_call 35; refine (l1Join_any z.path nm _ (by omega) (by omega)).mono ?_; rintro e w7 ⟨rfl, hw7⟩; rw [hw7]; clear hw7 w7))
    all_goals
      clear hcz hcz6 HZi HT5 HN
      go_wp2_with fail
      refine (next_any w.heap.size a6 cv 99 _ (by exact HT6.out.1) (by omega) (by omega) (by omega)).mono ?_
      rintro e u5 ⟨x, q5, rfl, -, -, hw⟩
      have HV5 : Hid (St (w.alloc (.cells #[cv, .int .i64 0] 118)) w.heap.size (a6 + 1) cv (.slice (some ⟨g, off, none⟩) zs.length cap) g zs u5) := by rw [hw]; exact HT6.out.place _ _
      have hl5 := HV5.out.1.lt
      clear hw HT6
      go_wp2_with fail
      refine (pick_any w.heap.size (a6 + 1) u5.heap.size 0 2 cv [x, 10000] _ (by exact (HV5.out.alloc _).1) (by omega) (nums2 _ _ _ _) (by simp) (by simp) (by omega)).mono ?_
      rintro e u6 ⟨d, q6, rfl, hw⟩
      have HV6 : Hid (St (w.alloc (.cells #[cv, .int .i64 0] 118)) w.heap.size (a6 + 2) cv (.slice (some ⟨g, off, none⟩) zs.length cap) g zs u6) := by rw [hw]; exact (HV5.out.alloc _).place _ _
      have hl6 := HV6.out.1.lt
      clear hw HV5 hl5
      go_wp2_with fail
      refine (pick_any w.heap.size (a6 + 2) u6.heap.size 0 4 cv [0, 0, 1, 10] _ (by exact (HV6.out.alloc _).1) (by omega) (nums4 _ _ _ _ _ _) (by simp) (by simp) (by omega)).mono ?_
      rintro e u7 ⟨o, q7, rfl, hw⟩
      have HV7 : Hid (St (w.alloc (.cells #[cv, .int .i64 0] 118)) w.heap.size (a6 + 3) cv (.slice (some ⟨g, off, none⟩) zs.length cap) g zs u7) := by rw [hw]; exact (HV6.out.alloc _).place _ _
      clear hw HV6 hl6
      go_wp2_with fail
      refine (chance_any w.heap.size (a6 + 3) cv 3 _ (by exact HV7.out.1) (by omega) (by omega) (by omega)).mono ?_
      rintro e u8 ⟨c8, q8, rfl, hw⟩
      have HV8 : Hid (St (w.alloc (.cells #[cv, .int .i64 0] 118)) w.heap.size (a6 + 4) cv (.slice (some ⟨g, off, none⟩) zs.length cap) g zs u8) := by rw [hw]; exact HV7.out.place _ _
      clear hw HV7
      go_wp2
      exact bodyPost_ret (v := .tuple #[.slice (some ⟨g, off, none⟩) zs.length cap, .string (mkB (Pth.joined z.path.data.toList nm.data.toList)), .int .i64 d, .int .i64 o, .bool c8]) (by simp [results, Tryz.results8, go_sem]) rfl ⟨g, off, cap, zs, mkB (Pth.joined z.path.data.toList nm.data.toList), _, rfl, ⟨d, o, c8, rfl⟩, ⟨hpos, h21⟩, HV8.out.2.2.1, ext_of_upd HV8.out.2.1⟩
end Go.Proofs.YtgfoliafpjhjcaaGreatDoor
