/- D7, D8, in one text. -/
import Derived.Test.YtilinjjimiiplaaGreatDoorKqD6
namespace Go.Proofs.YtilinjjimiiplaaGreatDoor
open Go.RowKit
/-- A tree that is not empty, nor too great. -/
def Few (zs : List Zn) : Prop := 0 < zs.length ∧ zs.length ≤ 21
theorem Upd.above {w wr : World} {b rb : Nat} (h : Upd b w wr) (hb : b < w.heap.size) (h1 : w.heap.size ≤ rb) (o : Nat) (u : Value) : Upd b w (wr.setCell ⟨rb, o, none⟩ u) := by
  have hu : Upd rb wr (wr.setCell ⟨rb, o, none⟩ u) := (Upd.refl _ _).setAt o u
  refine ⟨Below.trans h.1 (Below.mono hu.1 (by omega)), Nat.le_trans h.2.1 hu.2.1, fun c o' hc hl => ?_⟩
  have e1 := hu.at_ne c o' (by omega) (Nat.lt_of_lt_of_le hl h.2.1)
  have e2 := h.2.2 c o' hc hl
  exact ⟨e1.1.trans e2.1, e1.2.trans e2.2⟩
theorem bent_store {w wr : World} {b a a0 k g off cap i : Nat} {cv : Value} {zs : List Zn} {z : Zn} (h : St w b a cv (.slice (some ⟨g, off, none⟩) zs.length cap) g zs wr) (hb : b < w.heap.size) (hg : w.heap.size ≤ g) (hz : zs[i]? = some z) (hl : zs.length ≤ 20) (ha : a ≤ a0 + k) (r : Nat) (hr : r < 5) (u : Value) (z' : Zn) (hz' : zcells z' = (zcells z).set r u) :
    DrawnT Few b a0 k cv w (.returned (.slice (some ⟨g, off, none⟩) zs.length cap)) (wr.setCell ⟨g, off + i * 5 + r, none⟩ u) := by
  have hu : Upd g wr (wr.setCell ⟨g, off + i * 5 + r, none⟩ u) := (Upd.refl _ _).setAt _ u
  have hi := (List.getElem?_eq_some_iff.1 hz).1
  refine ⟨g, off, cap, a, zs.set i z', by rw [List.length_set], ⟨by rw [List.length_set]; omega, by rw [List.length_set]; omega⟩, hg, ?_, ha, h.1.kept (Below.mono hu.1 (by omega)), h.2.1.above hb hg _ _⟩
  rw [List.length_set]
  exact h.2.2.1.field hz r hr u z' hz'
theorem nums2 (w : World) (x y : Int) (t : TypeId) : NumsAt (w.alloc (.cells #[.int .i64 x, .int .i64 y] t)) w.heap.size 0 [x, y] := by
  intro i u hu
  match i, hu with
  | 0, hu => cases hu; simp
  | 1, hu => cases hu; simp
theorem Own.room {w : World} {g off cap : Nat} {zs : List Zn} (h : Own w (.slice (some ⟨g, off, none⟩) zs.length cap) g zs) (hp : 0 < zs.length) : Room w g off zs.length ∧ zs.length ≤ cap ∧ cap ≤ maxLen := by
  obtain ⟨a, cap', he, h2, h3, h4⟩ := h
  obtain ⟨off', ha, hR, -⟩ := h4 hp
  injection he with e1 _ e3
  subst e3
  rw [← e1] at ha
  injection ha with ha
  injection ha with _ ha _
  subst ha
  exact ⟨hR, h2, h3⟩
def z0 : Zn := ⟨⟨#[]⟩, 0, 0, 0, 0⟩
theorem made21 : (madeCells #[.string ⟨#[]⟩, .int .i64 0, .int .i64 0, .int .i64 0, .int .i64 0] 105).toList = cellsZ (List.replicate 21 z0) := by kernel_rfl

set_option maxHeartbeats 4000000 in
set_option maxRecDepth 100000 in
theorem l2Bent_any (b a : Nat) (cv : Value) (w : World) (h : SrcAt w b a cv) (ha : a ≤ 600) :
    Calls Tryz.prog 41 #[.pointer (some ⟨b, 0, none⟩)] w (DrawnT Few b a 109 cv w) := by
  have hi9 : (Tryz.prog.info? 38).map (fun i => (i.zero, i.size, i.bytes)) = some (some (.agg #[.string ⟨#[]⟩, .int .i64 0, .int .i64 0, .int .i64 0, .int .i64 0]), 5, 48) := by kernel_rfl
  obtain ⟨i0, hi, hx⟩ := Option.map_eq_some_iff.1 hi9
  simp only [Prod.mk.injEq] at hx
  obtain ⟨hz0, hz1, hz2⟩ := hx
  clear hi9
  have hbl : b < w.heap.size := h.2.2.2.1
  have HS : Hid (SrcAt w b a cv) := h
  clear h
  go_enter Tryz.func41, Tryz.ntmps41
  go_wp2_with fail
  refine (l2Right_any b a cv _ (by exact HS.out) (by omega)).mono ?_
  rintro e w1 ⟨g, off, cap, a1, zs, rfl, hK, hgw, hO, ha1, hS1, hU1⟩
  have hpos := hK.pos
  have hl20 := hK.1
  have HT1 : Hid (St w b a1 cv (.slice (some ⟨g, off, none⟩) zs.length cap) g zs w1) := ⟨hS1, hU1, hO, by omega⟩
  clear hK hO hS1 hU1
  go_wp2_with fail
  refine (next_any b a1 cv zs.length _ (by exact HT1.out.1) (by omega) (by omega) (by omega)).mono ?_
  rintro e w2 ⟨ri, q2, rfl, hi0, hi1, hw⟩
  obtain ⟨i, rfl⟩ := Int.eq_ofNat_of_zero_le hi0
  have hil : i < zs.length := by omega
  have HT2 : Hid (St w b (a1 + 1) cv (.slice (some ⟨g, off, none⟩) zs.length cap) g zs w2) := by rw [hw]; exact HT1.out.place _ _
  clear hw HT1
  go_wp2_with fail
  refine (next_any b (a1 + 1) cv 14 _ (by exact HT2.out.1) (by omega) (by omega) (by omega)).mono ?_
  rintro e w3 ⟨r, q3, rfl, hr0, hr1, hw⟩
  have HT3 : Hid (St w b (a1 + 2) cv (.slice (some ⟨g, off, none⟩) zs.length cap) g zs w3) := by rw [hw]; exact HT2.out.place _ _
  clear hw HT2
  obtain ⟨z, hzi⟩ : ∃ z, zs[i]? = some z := ⟨_, List.getElem?_eq_getElem hil⟩
  have HZ : Hid (zs[i]? = some z) := hzi
  clear hzi
  by_cases h0 : r = 0
  · subst h0
    go_wp2_with fail
    refine (bent_any b (a1 + 2) cv _ (by exact HT3.out.1) (by omega)).mono ?_
    rintro e w4 ⟨t, a4, rfl, -, ha4, hS4, hU4⟩
    have HT4 : Hid (St w b a4 cv (.slice (some ⟨g, off, none⟩) zs.length cap) g zs w4) := HT3.out.upd hS4 hU4
    clear hS4 hU4 HT3
    obtain ⟨hR9, hlc9, hcm9⟩ := HT4.out.2.2.1.room hpos
    obtain ⟨⟨y1, r1⟩, s1⟩ := hR9.2 (i * 5 + 0) (by omega)
    rw [← Nat.add_assoc] at r1 s1
    unfold maxLen at hcm9
    clear hR9
    simp only [Nat.add_zero] at r1 s1
    go_wp2
    go_ret
    exact bent_store HT4.out hbl hgw HZ.out hl20 (by omega) 0 (by omega) (.string t) { z with path := t } rfl
  have e0 : (r == 0) = false := by simp [h0]
  by_cases h1 : r = 1
  · subst h1
    go_wp2_with fail
    have hl3 : b < w3.heap.size := HT3.out.1.lt
    refine (pick_any b (a1 + 2) w3.heap.size 0 2 cv [-1, 10000] _ (by exact (HT3.out.alloc _).1) (by omega) (nums2 _ _ _ _) (by simp) (by simp) (by omega)).mono ?_
    rintro e w4 ⟨x, q4, rfl, hw⟩
    have HT4 : Hid (St w b (a1 + 3) cv (.slice (some ⟨g, off, none⟩) zs.length cap) g zs w4) := by rw [hw]; exact (HT3.out.alloc _).place _ _
    clear hw HT3
    obtain ⟨hR9, hlc9, hcm9⟩ := HT4.out.2.2.1.room hpos
    obtain ⟨⟨y1, r1⟩, s1⟩ := hR9.2 (i * 5 + 1) (by omega)
    rw [← Nat.add_assoc] at r1 s1
    unfold maxLen at hcm9
    clear hR9
    go_wp2
    go_ret
    exact bent_store HT4.out hbl hgw HZ.out hl20 (by omega) 1 (by omega) (.int .i64 x) { z with data := x } rfl
  have e1 : (r == 1) = false := by simp [h1]
  by_cases h2 : r = 2
  · subst h2
    go_wp2_with fail
    have hl3 : b < w3.heap.size := HT3.out.1.lt
    refine (pick_any b (a1 + 2) w3.heap.size 0 3 cv [-1, 999, 1000] _ (by exact (HT3.out.alloc _).1) (by omega) (nums3 _ _ _ _ _) (by simp) (by simp) (by omega)).mono ?_
    rintro e w4 ⟨x, q4, rfl, hw⟩
    have HT4 : Hid (St w b (a1 + 3) cv (.slice (some ⟨g, off, none⟩) zs.length cap) g zs w4) := by rw [hw]; exact (HT3.out.alloc _).place _ _
    clear hw HT3
    obtain ⟨hR9, hlc9, hcm9⟩ := HT4.out.2.2.1.room hpos
    obtain ⟨⟨y1, r1⟩, s1⟩ := hR9.2 (i * 5 + 2) (by omega)
    rw [← Nat.add_assoc] at r1 s1
    unfold maxLen at hcm9
    clear hR9
    go_wp2
    go_ret
    exact bent_store HT4.out hbl hgw HZ.out hl20 (by omega) 2 (by omega) (.int .i64 x) { z with version := x } rfl
  have e2 : (r == 2) = false := by simp [h2]
  by_cases h3 : r = 3
  · subst h3
    go_wp2_with fail
    have hl3 : b < w3.heap.size := HT3.out.1.lt
    refine (pick_any b (a1 + 2) w3.heap.size 0 2 cv [3, 10] _ (by exact (HT3.out.alloc _).1) (by omega) (nums2 _ _ _ _) (by simp) (by simp) (by omega)).mono ?_
    rintro e w4 ⟨x, q4, rfl, hw⟩
    have HT4 : Hid (St w b (a1 + 3) cv (.slice (some ⟨g, off, none⟩) zs.length cap) g zs w4) := by rw [hw]; exact (HT3.out.alloc _).place _ _
    clear hw HT3
    obtain ⟨hR9, hlc9, hcm9⟩ := HT4.out.2.2.1.room hpos
    obtain ⟨⟨y1, r1⟩, s1⟩ := hR9.2 (i * 5 + 3) (by omega)
    rw [← Nat.add_assoc] at r1 s1
    unfold maxLen at hcm9
    clear hR9
    go_wp2
    go_ret
    exact bent_store HT4.out hbl hgw HZ.out hl20 (by omega) 3 (by omega) (.int .i64 x) { z with owner := x } rfl
  have e3 : (r == 3) = false := by simp [h3]
  by_cases h4 : r = 4
  · subst h4
    go_wp2_with fail
    have hl3 : b < w3.heap.size := HT3.out.1.lt
    refine (pick_any b (a1 + 2) w3.heap.size 0 2 cv [100, 101] _ (by exact (HT3.out.alloc _).1) (by omega) (nums2 _ _ _ _) (by simp) (by simp) (by omega)).mono ?_
    rintro e w4 ⟨x, q4, rfl, hw⟩
    have HT4 : Hid (St w b (a1 + 3) cv (.slice (some ⟨g, off, none⟩) zs.length cap) g zs w4) := by rw [hw]; exact (HT3.out.alloc _).place _ _
    clear hw HT3
    obtain ⟨hR9, hlc9, hcm9⟩ := HT4.out.2.2.1.room hpos
    obtain ⟨⟨y1, r1⟩, s1⟩ := hR9.2 (i * 5 + 4) (by omega)
    rw [← Nat.add_assoc] at r1 s1
    unfold maxLen at hcm9
    clear hR9
    go_wp2
    go_ret
    exact bent_store HT4.out hbl hgw HZ.out hl20 (by omega) 4 (by omega) (.int .i64 x) { z with next := x } rfl
  have e4 : (r == 4) = false := by simp [h4]
  by_cases h5 : r = 5
  · subst h5
    have hmk : ∀ W : World, (Instr.makeSlice 24 (.int .i64 21) (.int .i64 21)).run Tryz.prog W = .ok (.slice (some ⟨W.heap.size, 0, none⟩) 21 21) (W.alloc (.cells (madeCells #[.string ⟨#[]⟩, .int .i64 0, .int .i64 0, .int .i64 0, .int .i64 0] 105) 38)) := fun W => by
      have h := run_make (P := Tryz.prog) W 24 38 i0 _ Tryz.underlying24 hi hz0 .i64 .i64 21 21 (by omega) (by omega) (by rw [hz2]; omega) (by omega)
      rw [hz1] at h
      exact h
    have HM : Hid ((madeCells #[.string ⟨#[]⟩, .int .i64 0, .int .i64 0, .int .i64 0, .int .i64 0] 105).toList = cellsZ (List.replicate 21 z0)) := made21
    generalize madeCells #[.string ⟨#[]⟩, .int .i64 0, .int .i64 0, .int .i64 0, .int .i64 0] 105 = M at hmk HM
    go_wp2
    go_ret
    obtain ⟨g9, hg9, hO9⟩ := own_lit w3 (List.replicate 21 z0) M 38 HM.out (by unfold maxLen; simp)
    obtain ⟨off9, cap9, he9⟩ := hO9.at (by simp)
    injection he9 with e91 _ _
    injection e91 with e91
    injection e91 with e91 _ _
    subst e91
    exact ⟨w3.heap.size, 0, 21, a1 + 2, List.replicate 21 z0, by simp, ⟨by simp, by simp⟩, HT3.out.2.1.2.1, hO9, by omega, (HT3.out.alloc _).1, (HT3.out.alloc _).2.1⟩
  have e5 : (r == 5) = false := by simp [h5]
  go_wp2
  go_ret
  exact ⟨g, off, cap, a1 + 2, zs, rfl, ⟨hpos, by omega⟩, hgw, HT3.out.2.2.1, by omega, HT3.out.1, HT3.out.2.1⟩
end Go.Proofs.YtilinjjimiiplaaGreatDoor
namespace Go.Proofs.YtilinjjimiiplaaGreatDoor
open Go.RowKit
/-- What a draw of a tree and more leaves. -/
def DrawnW (us : List Value → Prop) (w : World) (e : Ending) (w' : World) : Prop :=
  ∃ (g off cap : Nat) (zs : List Zn) (p : ByteArray) (l : List Value), e = .returned (.tuple (.slice (some ⟨g, off, none⟩) zs.length cap :: .string p :: l).toArray) ∧ us l ∧ Few zs ∧ Own w' (.slice (some ⟨g, off, none⟩) zs.length cap) g zs ∧ Ext w w'
theorem Own.node {w : World} {g off cap i : Nat} {zs : List Zn} {z : Zn} (h : Own w (.slice (some ⟨g, off, none⟩) zs.length cap) g zs) (hz : zs[i]? = some z) : w.cell? ⟨g, off + i * 5, none⟩ = some (.string z.path) := by
  have hi := (List.getElem?_eq_some_iff.1 hz).1
  obtain ⟨a, cap', he, h2, h3, h4⟩ := h
  obtain ⟨off', ha, -, hN⟩ := h4 (by omega)
  injection he with e1 _ e3
  subst e3
  rw [← e1] at ha
  injection ha with ha
  injection ha with _ ha _
  subst ha
  exact (hN i z hz).1

set_option maxHeartbeats 2000000 in
set_option maxRecDepth 100000 in
theorem l2With_any (cv : Value) (w : World) (hc : CodeOk w w.heap.size cv) :
    Calls Tryz.prog 15 #[cv] w (DrawnW (fun l => l = []) w) := by
  have HS : Hid (SrcAt (w.alloc (.cells #[cv, .int .i64 0] 85)) w.heap.size 0 cv) := src_new hc
  obtain ⟨ad, len, cap0, hcv, -⟩ := hc
  have HC := source_any cv w ad len cap0 hcv
  clear hcv
  go_enter Tryz.func15, Tryz.ntmps15
  go_wp2_with fail
  refine HC.mono ?_
  rintro e w1 ⟨rfl, rfl⟩
  clear HC
  go_wp2_with fail
  refine (l2Bent_any w.heap.size 0 cv _ (by exact HS.out) (by omega)).mono ?_
  rintro e w2 ⟨g, off, cap, a2, zs, rfl, hF, hg, hO, ha2, hS2, hU2⟩
  have hg2 : w.heap.size < g := by have h2 := hg; simp at h2; omega
  have hpos := hF.1
  have h21 := hF.2
  have HT2 : Hid (St (w.alloc (.cells #[cv, .int .i64 0] 85)) w.heap.size a2 cv (.slice (some ⟨g, off, none⟩) zs.length cap) g zs w2) := ⟨hS2, hU2, hO, by omega⟩
  clear hF hg hO hS2 hU2
  go_wp2_with fail
  refine (chance_any w.heap.size a2 cv 2 _ (by exact HT2.out.1) (by omega) (by omega) (by omega)).mono ?_
  rintro e w3 ⟨c, q, rfl, hw⟩
  have HT3 : Hid (St (w.alloc (.cells #[cv, .int .i64 0] 85)) w.heap.size (a2 + 1) cv (.slice (some ⟨g, off, none⟩) zs.length cap) g zs w3) := by rw [hw]; exact HT2.out.place _ _
  clear hw HT2
  cases c
  · go_wp2_with fail
    refine (bent_any w.heap.size (a2 + 1) cv _ (by exact HT3.out.1) (by omega)).mono ?_
    rintro e w4 ⟨t, a4, rfl, -, ha4, hS4, hU4⟩
    have HT4 : Hid (St (w.alloc (.cells #[cv, .int .i64 0] 85)) w.heap.size a4 cv (.slice (some ⟨g, off, none⟩) zs.length cap) g zs w4) := HT3.out.upd hS4 hU4
    clear hS4 hU4 HT3
    go_wp2
    go_ret2
    exact ⟨g, off, cap, zs, t, [], rfl, rfl, ⟨hpos, h21⟩, HT4.out.2.2.1, ext_of_upd HT4.out.2.1⟩
  · have HX : Hid (∀ (W : World) (i q4 : Nat), (W = w3 ∨ ∃ n, W = w3.drewN n) → i < zs.length → ∀ w4, w4 = (W.setCell ⟨w.heap.size, 1, none⟩ (.int .i64 (a2 + 1 + 1 : Nat))).drewN q4 → ∃ z : Zn, w4.cell? ⟨g, off + i * 5, none⟩ = some (.string z.path) ∧ Hid (St (w.alloc (.cells #[cv, .int .i64 0] 85)) w.heap.size (a2 + 2) cv (.slice (some ⟨g, off, none⟩) zs.length cap) g zs w4)) := by
      intro W i q4 hW hi w4 hw
      have HW : St (w.alloc (.cells #[cv, .int .i64 0] 85)) w.heap.size (a2 + 1) cv (.slice (some ⟨g, off, none⟩) zs.length cap) g zs W := by
        rcases hW with rfl | ⟨n, rfl⟩
        · exact HT3.out
        · exact HT3.out.upd (HT3.out.1.drewN n) ((Upd.refl _ _).drewN n)
      have HT4 : St (w.alloc (.cells #[cv, .int .i64 0] 85)) w.heap.size (a2 + 2) cv (.slice (some ⟨g, off, none⟩) zs.length cap) g zs w4 := by rw [hw]; exact HW.place _ _
      obtain ⟨z, hzi⟩ : ∃ z, zs[i]? = some z := ⟨_, List.getElem?_eq_getElem hi⟩
      exact ⟨z, HT4.2.2.1.node hzi, HT4⟩
    have HN : Hid (∀ W : World, (W = w3 ∨ W = w3.drewN 1) → Calls Tryz.prog 30 #[.pointer (some ⟨w.heap.size, 0, none⟩), .int .i64 zs.length] W fun e w4 => ∃ (i : Nat) (z : Zn), e = .returned (.int .i64 i) ∧ i < zs.length ∧ w4.cell? ⟨g, off + i * 5, none⟩ = some (.string z.path) ∧ Hid (St (w.alloc (.cells #[cv, .int .i64 0] 85)) w.heap.size (a2 + 2) cv (.slice (some ⟨g, off, none⟩) zs.length cap) g zs w4)) := by
      intro W hW
      refine (next_any w.heap.size (a2 + 1) cv zs.length W (by rcases hW with rfl | rfl <;> first | exact HT3.out.1 | exact HT3.out.1.drewN 1) (by omega) (by omega) (by omega)).mono ?_
      rintro e w4 ⟨ri, q4, rfl, hi0, hi1, hw⟩
      obtain ⟨i, rfl⟩ := Int.eq_ofNat_of_zero_le hi0
      have hil : i < zs.length := by omega
      obtain ⟨z, hcz, HT4⟩ := HX.out W i q4 (by rcases hW with rfl | rfl <;> first | exact Or.inl rfl | exact Or.inr ⟨1, rfl⟩) hil w4 hw
      exact ⟨i, z, rfl, hil, hcz, HT4⟩
    have hcm := (HT3.out.2.2.1.room hpos).2
    unfold maxLen at hcm
    clear HX
    go_wp2
    go_region_with (go_at_call 30; refine (HN.out _ (by first | exact Or.inl rfl | exact Or.inr rfl)).mono ?_; rintro e w4 ⟨i, z, rfl, hil, hcz, HT4⟩)
    all_goals
      go_wp2
      go_ret2
      exact ⟨g, off, cap, zs, z.path, [], rfl, rfl, ⟨hpos, h21⟩, HT4.out.2.2.1, ext_of_upd HT4.out.2.1⟩
end Go.Proofs.YtilinjjimiiplaaGreatDoor
