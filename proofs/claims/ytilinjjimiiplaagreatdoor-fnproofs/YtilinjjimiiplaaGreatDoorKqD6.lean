/- draws of trees: l2Right. -/
import Derived.Test.YtilinjjimiiplaaGreatDoorKqJ22
namespace Go.Proofs.YtilinjjimiiplaaGreatDoor
open Go.RowKit
/-- What a draw of a tree leaves. -/
def DrawnT (K : List Zn → Prop) (b a k : Nat) (cv : Value) (w : World) (e : Ending) (w' : World) : Prop :=
  ∃ (g off cap a' : Nat) (zs : List Zn), e = .returned (.slice (some ⟨g, off, none⟩) zs.length cap) ∧ K zs ∧ w.heap.size ≤ g ∧ Own w' (.slice (some ⟨g, off, none⟩) zs.length cap) g zs ∧ a' ≤ a + k ∧ SrcAt w' b a' cv ∧ Upd b w w'
theorem Own.at {w : World} {v : Value} {g : Nat} {zs : List Zn} (h : Own w v g zs) (hp : 0 < zs.length) : ∃ off cap, v = .slice (some ⟨g, off, none⟩) zs.length cap := by
  obtain ⟨a, cap, rfl, -, -, hx⟩ := h
  obtain ⟨off, rfl, -⟩ := hx hp
  exact ⟨off, cap, rfl⟩

/-- Under way: the source at a, nothing of w turned, the nodes zs in block g. -/
def St (w : World) (b a : Nat) (cv v : Value) (g : Nat) (zs : List Zn) (wr : World) : Prop := SrcAt wr b a cv ∧ Upd b w wr ∧ Own wr v g zs ∧ g ≠ b
theorem St.ext {w : World} {b a g : Nat} {cv v : Value} {zs : List Zn} {wr w' : World} (h : St w b a cv v g zs wr) (he : Ext wr w') : St w b a cv v g zs w' :=
  ⟨h.1.ext he, h.2.1.trans (Upd.ext he (Nat.le_of_lt h.1.lt)), h.2.2.1.ext he, h.2.2.2⟩
theorem St.alloc {w : World} {b a g : Nat} {cv v : Value} {zs : List Zn} {wr : World} (h : St w b a cv v g zs wr) (o : Obj) : St w b a cv v g zs (wr.alloc o) := h.ext ((Ext.refl _).alloc _)
theorem St.place {w : World} {b a g : Nat} {cv v : Value} {zs : List Zn} {wr : World} (h : St w b a cv v g zs wr) (a' q : Nat) : St w b a' cv v g zs ((wr.setCell ⟨b, 1, none⟩ (.int .i64 (a' : Int))).drewN q) :=
  ⟨h.1.place a' q, h.2.1.trans (Upd.place _ _ _), h.2.2.1.upd (Upd.place _ _ _) h.2.2.2, h.2.2.2⟩
theorem St.upd {w : World} {b a a' g : Nat} {cv v : Value} {zs : List Zn} {wr w' : World} (h : St w b a cv v g zs wr) (hs : SrcAt w' b a' cv) (hu : Upd b wr w') : St w b a' cv v g zs w' :=
  ⟨hs, h.2.1.trans hu, h.2.2.1.upd hu h.2.2.2, h.2.2.2⟩
theorem St.box {w : World} {b a g : Nat} {cv v : Value} {zs : List Zn} {wr : World} (h : St w b a cv v g zs wr) (hb : b < w.heap.size) {rb : Nat} (h1 : w.heap.size ≤ rb) (h2 : rb ≠ g) (o : Nat) (u : Value) : St w b a cv v g zs (wr.setCell ⟨rb, o, none⟩ u) := by
  have hu : Upd rb wr (wr.setCell ⟨rb, o, none⟩ u) := (Upd.refl _ _).setAt o u
  refine ⟨h.1.kept (Below.mono hu.1 (by omega)), ⟨Below.trans h.2.1.1 (Below.mono hu.1 (by omega)), Nat.le_trans h.2.1.2.1 hu.2.1, fun c o' hc hl => ?_⟩, h.2.2.1.upd hu (Ne.symm h2), h.2.2.2⟩
  have e1 := hu.at_ne c o' (by omega) (Nat.lt_of_lt_of_le hl h.2.1.2.1)
  have e2 := h.2.1.2.2 c o' hc hl
  exact ⟨e1.1.trans e2.1, e1.2.trans e2.2⟩
theorem fieldZ_nodes (c : Int) (t : ByteArray) (v : Value) (w : World) : (Instr.field 32 (.agg #[.int .i64 c, .string t, v]) 2).run Tryz.prog w = .ok v w := by kernel_rfl

set_option maxHeartbeats 4000000 in
set_option maxRecDepth 100000 in
theorem l2Right_any (b a : Nat) (cv : Value) (w : World) (h : SrcAt w b a cv) (ha : a ≤ 600) :
    Calls Tryz.prog 29 #[.pointer (some ⟨b, 0, none⟩)] w (DrawnT Tre.Kept b a 101 cv w) := by
  have hbl : b < w.heap.size := h.2.2.2.1
  have HS : Hid (SrcAt w b a cv) := h
  clear h
  have hfz := fieldZ_nodes
  go_enter Tryz.func29, Tryz.ntmps29
  go_wp2_with fail
  refine (next_any b a cv 9 _ (by exact HS.out) (by omega) (by omega) (by omega)).mono ?_
  rintro e w1 ⟨r, q, rfl, hr0, hr1, hw⟩
  have HS1 : Hid (SrcAt w1 b (a + 1) cv) := by rw [hw]; exact HS.out.place _ _
  have HU1 : Hid (Upd b w w1) := by rw [hw]; exact Upd.place _ _ _
  clear hw
  have hN := specNewTree_any r w1
  have hN0 : Tre.newT r = (0, ⟨#[]⟩, [⟨Tre.top, r, 0, 0, 0⟩]) := by unfold Tre.newT Tre.okData; rw [if_pos (by simp; omega)]
  have HK1 : Hid (Tre.Kept (Tre.newT r).2.2) := Tre.kept_new (by rw [hN0])
  rw [hN0] at hN HK1
  clear hN0
  dsimp only at hN HK1
  have HN : Hid (Calls Tryz.prog 54 #[.int .i64 r] w1 (ZRet w1 0 ⟨#[]⟩ [⟨Tre.top, r, 0, 0, 0⟩])) := hN
  clear hN
  go_wp2_with fail
  refine HN.out.mono ?_
  rintro e w2 ⟨v, g, rfl, hg, hO, hE⟩
  obtain ⟨off, cap, rfl⟩ := hO.at (by simp)
  generalize hzs : ([⟨Tre.top, r, 0, 0, 0⟩] : List Zn) = zs0 at *
  have HS2 : Hid (SrcAt w2 b (a + 1) cv) := HS1.out.ext hE
  have HU2 : Hid (Upd b w w2) := HU1.out.trans (Upd.ext hE (Nat.le_of_lt HS1.out.lt))
  have HO2 : Hid (Own w2 (.slice (some ⟨g, off, none⟩) zs0.length cap) g zs0) := hO
  have hg2 : w.heap.size ≤ g := Nat.le_trans HU1.out.2.1 hg
  clear hO hE hg
  unfold zr
  go_wp2_with fail
  refine (next_any b (a + 1) cv 12 _ (by exact HS2.out) (by omega) (by omega) (by omega)).mono ?_
  rintro e w3 ⟨r3, q3, rfl, hr30, hr31, hw⟩
  obtain ⟨k0, rfl⟩ := Int.eq_ofNat_of_zero_le hr30
  have HS3 : Hid (SrcAt w3 b (a + 2) cv) := by rw [hw]; exact HS2.out.place _ _
  have HU3 : Hid (Upd b w w3) := by rw [hw]; exact HU2.out.trans (Upd.place _ _ _)
  have HO3 : Hid (Own w3 (.slice (some ⟨g, off, none⟩) zs0.length cap) g zs0) := by rw [hw]; exact HO2.out.upd (Upd.place _ _ _) (by omega)
  clear hw
  go_wp2
  go_loopw [3, 4] (fun ov kv wr => ∃ (g off cap k a' : Nat) (zs : List Zn), ov = .slice (some ⟨g, off, none⟩) zs.length cap ∧ kv = .int .i64 k ∧ k ≤ 11 ∧ Hid (Tre.Kept zs) ∧ w.heap.size ≤ g ∧ Hid (Own wr (.slice (some ⟨g, off, none⟩) zs.length cap) g zs) ∧ a' + 9 * k ≤ a + 101 ∧ Hid (SrcAt wr b a' cv) ∧ Hid (Upd b w wr)) (fun _ kv _ => (intOf kv).toNat)
  case atStart => exact ⟨g, off, cap, k0, a + 2, zs0, rfl, rfl, by omega, HK1, hg2, HO3, by omega, HS3, HU3⟩
  case round =>
    clear HO3 HK1 HS3 HU3 HS2 HU2 HS1 HU1 HN HO2
    obtain ⟨g, off, cap, k, a', zs, rfl, rfl, hk11, HK, hgw, HO, hak, HS4, HU4⟩ := hrel
    by_cases hk : 0 < k
    · go_wp2_with fail
      refine (draw_right b a' cv _ (by exact HS4.out) (by omega)).mono ?_
      rintro e w5 ⟨p, a5, rfl, hpf, ha5, hS5, hU5⟩
      have HT5 : Hid (St w b a5 cv (.slice (some ⟨g, off, none⟩) zs.length cap) g zs w5) := (show St w b a' cv (.slice (some ⟨g, off, none⟩) zs.length cap) g zs wr from ⟨HS4.out, HU4.out, HO.out, by omega⟩).upd hS5 hU5
      clear hS5 hU5 HS4 HU4 HO
      go_wp2_with fail
      refine (next_any b a5 cv 99 _ (by first | exact HT5.out.1 | exact (HT5.out.alloc _).1) (by omega) (by omega) (by omega)).mono ?_
      rintro e w6 ⟨d, q6, rfl, hd0, hd1, hw⟩
      have HT6 : Hid (St w b (a5 + 1) cv (.slice (some ⟨g, off, none⟩) zs.length cap) g zs w6) := by rw [hw]; first | exact HT5.out.place _ _ | exact (HT5.out.alloc _).place _ _
      clear hw HT5
      have hlt6 : b < w6.heap.size := HT6.out.1.lt
      go_wp2_with fail
      refine (pick_any b (a5 + 1) w6.heap.size 0 4 cv [0, 0, 1, 2] _ (by exact (HT6.out.alloc _).1) (by omega) (nums4 _ _ _ _ _ _) (by simp) (by simp) (by omega)).mono ?_
      rintro e w7 ⟨o, q7, rfl, hw⟩
      have HT7 : Hid (St w b (a5 + 2) cv (.slice (some ⟨g, off, none⟩) zs.length cap) g zs w7) := by rw [hw]; exact (HT6.out.alloc _).place _ _
      clear hw HT6
      go_wp2_with fail
      refine (chance_any b (a5 + 2) cv 5 _ (by exact HT7.out.1) (by omega) (by omega) (by omega)).mono ?_
      rintro e w8 ⟨qb, q8, rfl, hw⟩
      have HT8 : Hid (St w b (a5 + 3) cv (.slice (some ⟨g, off, none⟩) zs.length cap) g zs w8) := by rw [hw]; exact HT7.out.place _ _
      clear hw HT7
      go_wp2_with fail
      have hcr := l2Create_any g off cap zs p d o qb w8 HT8.out.2.2.1.slice (Nat.le_trans HK.out.1 (by omega)) HK.out.pos hpf (fun z hz => (HK.out.2.2 z hz).2.2)
      have HK9 : Hid ((Tre.createT zs p d o qb).1 = 0 → Tre.Kept (Tre.createT zs p d o qb).2.2) := fun h => Tre.kept_create HK.out hpf h
      generalize (Tre.createT zs p d o qb).1 = c at *
      generalize (Tre.createT zs p d o qb).2.1 = t at *
      generalize (Tre.createT zs p d o qb).2.2 = rs at *
      refine hcr.mono ?_
      rintro e w9 ⟨v', g', rfl, hg', hO', hE'⟩
      obtain ⟨ad', cap', rfl⟩ : ∃ ad' cap', v' = .slice ad' rs.length cap' := by obtain ⟨a0, c0, h0, -⟩ := hO'; exact ⟨a0, c0, h0⟩
      have hg8 : b < g' := Nat.lt_of_lt_of_le HT8.out.1.lt hg'
      have hg9 : w.heap.size ≤ g' := Nat.le_trans HT8.out.2.1.2.1 hg'
      have HT9 : Hid (St w b (a5 + 3) cv (.slice (some ⟨g, off, none⟩) zs.length cap) g zs w9) := HT8.out.ext hE'
      have HO9 : Hid (Own w9 (.slice ad' rs.length cap') g' rs) := hO'
      clear hO' hE' HT8 hcr hg'
      unfold zr
      go_wp2_with fail
      refine (next_any b (a5 + 3) cv 6 _ (by exact (HT9.out.alloc _).1) (by omega) (by omega) (by omega)).mono ?_
      rintro e w10 ⟨r6, q10, rfl, h60, h61, hw⟩
      have hgl := HT9.out.2.2.1.lt HK.out.pos
      have hb9 := HT9.out.1.lt
      have hw9 := HT9.out.2.1.2.1
      have hr9 : 0 < rs.length → g' < w9.heap.size := fun h => HO9.out.lt h
      have HT10 : Hid (St w b (a5 + 4) cv (.slice (some ⟨g, off, none⟩) zs.length cap) g zs w10) := by rw [hw]; exact (HT9.out.alloc _).place _ _
      have HO10 : Hid (Own w10 (.slice ad' rs.length cap') g' rs) := by rw [hw]; exact (HO9.out.ext ((Ext.refl _).alloc _)).upd (Upd.place _ _ _) (by omega)
      have hat := fun i => (Upd.place (b := b) (w9.alloc (.cells #[.int .i64 c,   .string t, .slice ad' rs.length cap'] 32)) (.int .i64 (a5 + 3 + 1 : Nat)) q10).at_ne w9.heap.size i (by omega) (by simp)
      rw [← hw] at hat
      have c0 : w10.cell? ⟨w9.heap.size, 0, none⟩ = some (.int .i64 c) := (hat 0).1.trans (by simp)
      have c1 : w10.cell? ⟨w9.heap.size, 1, none⟩ = some (.string t) := (hat 1).1.trans (by simp)
      have c2 : w10.cell? ⟨w9.heap.size, 2, none⟩ = some (.slice ad' rs.length cap') := (hat 2).1.trans (by simp)
      have f0 : w10.frozen? ⟨w9.heap.size, 0, none⟩ = false := (hat 0).2.trans (by simp)
      have f1 : w10.frozen? ⟨w9.heap.size, 1, none⟩ = false := (hat 1).2.trans (by simp)
      have f2 : w10.frozen? ⟨w9.heap.size, 2, none⟩ = false := (hat 2).2.trans (by simp)
      have hlt10 : w9.heap.size < w10.heap.size := by rw [hw]; simp
      clear hw hat HT9 HO9
      generalize w9.heap.size = rb at *
      by_cases h6 : r6 = 0
      · subst h6
        go_wp2_with fail
        refine (next_any b (a5 + 4) cv 99 _ (by exact HT10.out.1) (by omega) (by omega) (by omega)).mono ?_
        rintro e w11 ⟨d2, q11, rfl, hd20, hd21, hw⟩
        have HT11 : Hid (St w b (a5 + 5) cv (.slice (some ⟨g, off, none⟩) zs.length cap) g zs w11) := by rw [hw]; exact HT10.out.place _ _
        have hat := fun i => (Upd.place (b := b) w10 (.int .i64 (a5 + 4 + 1 : Nat)) q11).at_ne rb i (by omega) hlt10
        rw [← hw] at hat
        have c0' := (hat 0).1.trans c0
        have c1' := (hat 1).1.trans c1
        have c2' := (hat 2).1.trans c2
        have f0' := (hat 0).2.trans f0
        have f1' := (hat 1).2.trans f1
        have f2' := (hat 2).2.trans f2
        have hlt11 : rb < w11.heap.size := by rw [hw]; simpa using hlt10
        clear hw hat HT10 HO10 c0 c1 c2 f0 f1 f2 HK9
        go_wp2_with fail
        have hcr := l2Set_any (.slice (some ⟨g, off, none⟩) zs.length cap) zs p d2 (-1) w11 HT11.out.2.2.1.slice (Nat.le_trans HK.out.1 (by omega)) (fun z hz => (HK.out.2.2 z hz).2.1)
        have HK12 : Hid ((Tre.setT zs p d2 (-1)).1 = 0 → Tre.Kept (Tre.setT zs p d2 (-1)).2.2) := fun h => Tre.kept_set HK.out h
        generalize (Tre.setT zs p d2 (-1)).1 = c3 at *
        generalize (Tre.setT zs p d2 (-1)).2.1 = t3 at *
        generalize (Tre.setT zs p d2 (-1)).2.2 = rs3 at *
        refine hcr.mono ?_
        rintro e w12 ⟨v3, g3, rfl, hg3, hO3, hE3⟩
        obtain ⟨ad3, cap3, rfl⟩ : ∃ ad' cap', v3 = .slice ad' rs3.length cap' := by obtain ⟨a0, c0, h0, -⟩ := hO3; exact ⟨a0, c0, h0⟩
        have hgb : rb < g3 := Nat.lt_of_lt_of_le hlt11 hg3
        have hg9 : w.heap.size ≤ g3 := Nat.le_trans HT11.out.2.1.2.1 hg3
        have HT12 : Hid (St w b (a5 + 5) cv (.slice (some ⟨g, off, none⟩) zs.length cap) g zs w12) := HT11.out.ext hE3
        have HO12 : Hid (Own w12 (.slice ad3 rs3.length cap3) g3 rs3) := hO3
        have x0 := (Below.cell hE3 (p := ⟨rb, 0, none⟩) hlt11).trans c0'
        have x1 := (Below.cell hE3 (p := ⟨rb, 1, none⟩) hlt11).trans c1'
        have x2 := (Below.cell hE3 (p := ⟨rb, 2, none⟩) hlt11).trans c2'
        have y0 := (Below.frozen hE3 (p := ⟨rb, 0, none⟩) hlt11).trans f0'
        have y1 := (Below.frozen hE3 (p := ⟨rb, 1, none⟩) hlt11).trans f1'
        have y2 := (Below.frozen hE3 (p := ⟨rb, 2, none⟩) hlt11).trans f2'
        clear hO3 hE3 hcr hg3 c0' c1' c2' f0' f1' f2' HT11
        unfold zr
        by_cases hc : c3 = 0
        · subst hc
          have HKz : Hid (Tre.Kept rs3) := HK12.out rfl
          clear HK12
          go_wp2
          obtain ⟨off', cap2, hv'⟩ := HO12.out.at HKz.out.pos
          exact ⟨⟨g3, off', cap2, k - 1, (a5 + 5), rs3, hv', by rw [show ((k - 1 : Nat) : Int) = (k : Int) - 1 from by omega], by omega, HKz, hg9, hv' ▸ ((HO12.out.upd ((Upd.refl rb _).setAt 0 _) (by omega)).upd ((Upd.refl rb _).setAt 1 _) (by omega)).upd ((Upd.refl rb _).setAt 2 _) (by omega), by omega, (((HT12.out.box hbl (by omega) (by omega) 0 _).box hbl (by omega) (by omega) 1 _).box hbl (by omega) (by omega) 2 _).1, (((HT12.out.box hbl (by omega) (by omega) 0 _).box hbl (by omega) (by omega) 1 _).box hbl (by omega) (by omega) 2 _).2.1⟩, by simp [intOf]; omega⟩
        · have ec : (c3 == 0) = false := by simp [hc]
          go_wp2
          have hX := ((HT12.out.box hbl (rb := rb) (by omega) (by omega) 0 (.int .i64 c3)).box hbl (rb := rb) (by omega) (by omega) 1 (.string t3)).box hbl (rb := rb) (by omega) (by omega) 2 (.slice ad3 rs3.length cap3)
          exact ⟨⟨g, off, cap, k - 1, (a5 + 5), zs, rfl, by rw [show ((k - 1 : Nat) : Int) = (k : Int) - 1 from by omega], by omega, HK, hgw, hX.2.2.1, by omega, hX.1, hX.2.1⟩, by simp [intOf]; omega⟩
      · have e0 : (r6 == 0) = false := by simp [h6]
        by_cases h7 : r6 = 1
        · subst h7
          go_wp2_with fail
          have hcr := l2Delete_any (.slice (some ⟨g, off, none⟩) zs.length cap) zs p (-1) w10 HT10.out.2.2.1.slice (Nat.le_trans HK.out.1 (by omega)) (fun z hz => (HK.out.2.2 z hz).1)
          have HK12 : Hid ((Tre.delT zs p (-1)).1 = 0 → Tre.Kept (Tre.delT zs p (-1)).2.2) := fun h => Tre.kept_del HK.out h
          generalize (Tre.delT zs p (-1)).1 = c3 at *
          generalize (Tre.delT zs p (-1)).2.1 = t3 at *
          generalize (Tre.delT zs p (-1)).2.2 = rs3 at *
          refine hcr.mono ?_
          rintro e w12 ⟨v3, g3, rfl, hg3, hO3, hE3⟩
          obtain ⟨ad3, cap3, rfl⟩ : ∃ ad' cap', v3 = .slice ad' rs3.length cap' := by obtain ⟨a0, c0, h0, -⟩ := hO3; exact ⟨a0, c0, h0⟩
          have hgb : rb < g3 := Nat.lt_of_lt_of_le hlt10 hg3
          have hg9 : w.heap.size ≤ g3 := Nat.le_trans HT10.out.2.1.2.1 hg3
          have HT12 : Hid (St w b (a5 + 4) cv (.slice (some ⟨g, off, none⟩) zs.length cap) g zs w12) := HT10.out.ext hE3
          have HO12 : Hid (Own w12 (.slice ad3 rs3.length cap3) g3 rs3) := hO3
          have x0 := (Below.cell hE3 (p := ⟨rb, 0, none⟩) hlt10).trans c0
          have x1 := (Below.cell hE3 (p := ⟨rb, 1, none⟩) hlt10).trans c1
          have x2 := (Below.cell hE3 (p := ⟨rb, 2, none⟩) hlt10).trans c2
          have y0 := (Below.frozen hE3 (p := ⟨rb, 0, none⟩) hlt10).trans f0
          have y1 := (Below.frozen hE3 (p := ⟨rb, 1, none⟩) hlt10).trans f1
          have y2 := (Below.frozen hE3 (p := ⟨rb, 2, none⟩) hlt10).trans f2
          clear hO3 hE3 hcr hg3 c0 c1 c2 f0 f1 f2 HT10 HO10 HK9
          unfold zr
          by_cases hc : c3 = 0
          · subst hc
            have HKz : Hid (Tre.Kept rs3) := HK12.out rfl
            clear HK12
            go_wp2
            obtain ⟨off', cap2, hv'⟩ := HO12.out.at HKz.out.pos
            exact ⟨⟨g3, off', cap2, k - 1, (a5 + 4), rs3, hv', by rw [show ((k - 1 : Nat) : Int) = (k : Int) - 1 from by omega], by omega, HKz, hg9, hv' ▸ ((HO12.out.upd ((Upd.refl rb _).setAt 0 _) (by omega)).upd ((Upd.refl rb _).setAt 1 _) (by omega)).upd ((Upd.refl rb _).setAt 2 _) (by omega), by omega, (((HT12.out.box hbl (by omega) (by omega) 0 _).box hbl (by omega) (by omega) 1 _).box hbl (by omega) (by omega) 2 _).1, (((HT12.out.box hbl (by omega) (by omega) 0 _).box hbl (by omega) (by omega) 1 _).box hbl (by omega) (by omega) 2 _).2.1⟩, by simp [intOf]; omega⟩
          · have ec : (c3 == 0) = false := by simp [hc]
            go_wp2
            have hX := ((HT12.out.box hbl (rb := rb) (by omega) (by omega) 0 (.int .i64 c3)).box hbl (rb := rb) (by omega) (by omega) 1 (.string t3)).box hbl (rb := rb) (by omega) (by omega) 2 (.slice ad3 rs3.length cap3)
            exact ⟨⟨g, off, cap, k - 1, (a5 + 4), zs, rfl, by rw [show ((k - 1 : Nat) : Int) = (k : Int) - 1 from by omega], by omega, HK, hgw, hX.2.2.1, by omega, hX.1, hX.2.1⟩, by simp [intOf]; omega⟩
        · have e1 : (r6 == 1) = false := by simp [h7]
          by_cases hc : c = 0
          · subst hc
            have HKz : Hid (Tre.Kept rs) := HK9.out rfl
            clear HK9
            go_wp2
            obtain ⟨off', cap2, hv'⟩ := HO10.out.at HKz.out.pos
            exact ⟨⟨g', off', cap2, k - 1, a5 + 4, rs, hv', by rw [show ((k - 1 : Nat) : Int) = (k : Int) - 1 from by omega], by omega, HKz, hg9, hv' ▸ HO10, by omega, HT10.out.1, HT10.out.2.1⟩, by simp [intOf]; omega⟩
          · have ec : (c == 0) = false := by simp [hc]
            go_wp2
            exact ⟨⟨g, off, cap, k - 1, a5 + 4, zs, rfl, by rw [show ((k - 1 : Nat) : Int) = (k : Int) - 1 from by omega], by omega, HK, hgw, HT10.out.2.2.1, by omega, HT10.out.1, HT10.out.2.1⟩, by simp [intOf]; omega⟩
    · go_wp2
      go_ret
      exact ⟨g, off, cap, a', zs, rfl, HK.out, hgw, HO.out, by omega, HS4.out, HU4.out⟩
end Go.Proofs.YtilinjjimiiplaaGreatDoor
