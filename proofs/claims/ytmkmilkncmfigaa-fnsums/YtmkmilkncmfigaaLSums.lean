/- laws.FnSums, walked: it answers true at every code. -/
import Derived.Test.YtmkmilkncmfigaaV3
import Derived.Test.YtmkmilkncmfigaaLSumOf
import Derived.Deep.RegionHeld3
namespace Go.Proofs.Ytmkmilkncmfigaa
open Go.RowKit
set_option maxHeartbeats 400000 in
theorem lwBigS_any (ad : Option Addr) (len cap : Nat) (w : World) :
    Calls Try.prog 18 #[.slice ad len cap] w fun e w' => e = .returned (.bool (decide (1048576 < len))) ∧ w' = w := by
  go_enter Try.func18, Try.ntmps18
  go_wp2
  go_ret
  exact ⟨ret_bool (by rw [Bool.eq_iff_iff]; simp; omega), rfl⟩
set_option maxHeartbeats 400000 in
theorem lawSums_big (ad : Option Addr) (len cap : Nat) (w : World) (hl : 1048576 < len) :
    Calls Try.prog 5 #[.slice ad len cap] w fun e w' => e = .returned (.bool true) ∧ Ext w w' := by
  have hbig : decide (1048576 < len) = true := by simpa using hl
  have hB := lwBigS_any ad len cap w
  rw [hbig] at hB
  clear hbig
  go_enter Try.func5, Try.ntmps5
  go_wp2_with fail
  refine hB.mono ?_
  rintro e w0 ⟨rfl, hw⟩
  subst hw
  clear hB
  go_wp2
  go_ret
  exact ⟨rfl, Ext.refl _⟩
theorem Sm.ok_of {l : List Int} {n : Int} (h : Sm.sumV l = (0, n)) : l.length ≤ 200 ∧ n = Sm.sum l ∧ Sm.ok l = true := by
  unfold Sm.sumV at h
  split at h
  · simp at h
  · split at h
    · simp at h; exact ⟨by omega, h.symm, by assumption⟩
    · simp at h
theorem Sm.more {l : List Int} {n : Int} (h : Sm.sumV l = (0, n)) (hl : l.length ≤ 9) : Sm.sumV (l ++ [3]) = (0, (n * 31 + 4) % 1000003) := by
  obtain ⟨_, rfl, ho⟩ := Sm.ok_of h
  rw [Sm.sumV_ok (by simp; omega) (by unfold Sm.ok at *; rw [List.all_append, ho]; decide)]
  congr 1
  unfold Sm.sum
  rw [List.foldl_append]
  show (_ * 31 + 3 + 1) % 1000003 = _
  congr 1
  omega
theorem news_of {w : World} {g off cap : Nat} {l : List Int} (h : ISlice w (.slice (some ⟨g, off, none⟩) l.length cap) l) : ∀ j u, (l.map (Value.int .i64))[j]? = some u → w.cell? ((⟨g, off, none⟩ : Addr).add j) = some u := by
  intro j u hj
  rw [List.getElem?_map] at hj
  obtain ⟨x, hx, rfl⟩ := Option.map_eq_some_iff.1 hj
  obtain ⟨a, c, he, _, _, h4⟩ := h
  obtain ⟨b, o, e2, _, hN⟩ := h4 (by have := (List.getElem?_eq_some_iff.1 hx).1; omega)
  injection he with he
  rw [← he] at e2
  injection e2 with e2
  injection e2 with e3 e4 _
  subst e3 e4
  rw [Addr.add_lit]
  exact hN j x hx
theorem IBoxAt.below {w w' : World} {b B : Nat} {c n : Int} (h : IBoxAt w b c n) (hb : b < B) (he : Below B w w') : IBoxAt w' b c n :=
  ⟨Nat.lt_of_lt_of_le h.1 (Below.size he), (Below.cell he (p := ⟨b, 0, none⟩) hb).trans h.2.1, (Below.cell he (p := ⟨b, 1, none⟩) hb).trans h.2.2⟩
/-- The three boxes that the last statement reads, and the numbers. -/
def SBx (w0 w : World) (b1 b2 b3 : Nat) (n pc pn mc mn : Int) (v : Value) (l : List Int) : Prop :=
  IBoxAt w b1 0 n ∧ IBoxAt w b2 pc pn ∧ IBoxAt w b3 mc mn ∧ ISlice w v l ∧ Ext w0 w
theorem SBx.ext {w0 w w' : World} {b1 b2 b3 : Nat} {n pc pn mc mn : Int} {v : Value} {l : List Int} (h : SBx w0 w b1 b2 b3 n pc pn mc mn v l) (he : Ext w w') : SBx w0 w' b1 b2 b3 n pc pn mc mn v l :=
  ⟨h.1.ext he, h.2.1.ext he, h.2.2.1.ext he, h.2.2.2.1.ext he, h.2.2.2.2.trans he⟩
theorem made_empty {w : World} (b : Nat) (t : TypeId) (hb : b = w.heap.size) : (w.alloc (.cells #[] t)).ownsRow b t 1 (.slice (some ⟨b, 0, none⟩) 0 0) 0 [] := by
  subst hb
  exact World.ownsRow_made w #[] 0 (Nat.le_refl _) (by unfold maxLen; omega) rfl

set_option maxHeartbeats 4000000 in
set_option maxRecDepth 100000 in
theorem lawSums (cv : Value) (w : World) (hc : CodeOk w w.heap.size cv) :
    Calls Try.prog 5 #[cv] w fun e w' => e = .returned (.bool true) ∧ Ext w w' := by
  have hi9 : (Try.prog.info? 2).map (fun i => (i.zero, i.size, i.bytes)) = some (some (.int .i64 0), 1, 8) := by kernel_rfl
  obtain ⟨i0, hi, hx⟩ := Option.map_eq_some_iff.1 hi9
  simp only [Prod.mk.injEq] at hx
  obtain ⟨hz0, hz1, hz2⟩ := hx
  clear hi9
  have hc' := hc
  obtain ⟨ad, len, cap, rfl, hl, -⟩ := hc'
  have HC : Hid (CodeOk w w.heap.size (.slice ad len cap)) := hc
  have hbig : decide (1048576 < len) = false := by simpa using hl
  have hB := lwBigS_any ad len cap w
  rw [hbig] at hB
  clear hc hbig
  go_enter Try.func5, Try.ntmps5
  go_wp2_with fail
  refine hB.mono ?_
  rintro e w0 ⟨rfl, hw⟩
  subst hw
  clear hB
  go_wp2_with fail
  refine (drawSumOf_any _ _ HC.out).mono ?_
  rintro e w1 ⟨g, off, gcap, l, rfl, hS, hl2, hb⟩
  have HS1 : Hid (ISlice w1 (.slice (some ⟨g, off, none⟩) l.length gcap) l) := hS
  have HB1 : Hid (Ext w0 w1) := hb
  have hIm := fun w h => implSumOf_any (.slice (some ⟨g, off, none⟩) l.length gcap) l w h
  have hSp := fun w h => specSumOf_any (.slice (some ⟨g, off, none⟩) l.length gcap) l w h
  clear hS hb
  obtain ⟨r, hr⟩ : ∃ r, Sm.sumV l = r := ⟨_, rfl⟩
  rw [hr] at hIm hSp
  obtain ⟨c, n⟩ := r
  have HR : Hid (Sm.sumV l = (c, n)) := hr
  clear hr
  have HIm : Hid (∀ w : World, ISlice w (.slice (some ⟨g, off, none⟩) l.length gcap) l → Calls Try.prog 20 #[.slice (some ⟨g, off, none⟩) l.length gcap] w fun e w' => e = .returned (.agg #[.int .i64 c, .int .i64 n]) ∧ Ext w w') := hIm
  have HSp : Hid (∀ w : World, ISlice w (.slice (some ⟨g, off, none⟩) l.length gcap) l → Calls Try.prog 21 #[.slice (some ⟨g, off, none⟩) l.length gcap] w fun e w' => e = .returned (.agg #[.int .i64 c, .int .i64 n]) ∧ Ext w w') := hSp
  clear hIm hSp
  go_wp2_with fail
  refine (HIm.out _ HS1.out).mono ?_
  rintro e w2 ⟨rfl, hb⟩
  have HS2 : Hid (ISlice w2 (.slice (some ⟨g, off, none⟩) l.length gcap) l) := HS1.out.ext hb
  have HB2 : Hid (Ext w0 w2) := HB1.out.trans hb
  clear hb
  have hf0 : ∀ (c d : Int) (w : World), (Instr.field 39 (.agg #[.int .i64 c, .int .i64 d]) 0).run Try.prog w = .ok (.int .i64 c) w := fun _ _ _ => by kernel_rfl
  have hf1 : ∀ (c d : Int) (w : World), (Instr.field 39 (.agg #[.int .i64 c, .int .i64 d]) 1).run Try.prog w = .ok (.int .i64 d) w := fun _ _ _ => by kernel_rfl
  by_cases hc0 : c = 0
  · subst hc0
    obtain ⟨hl200, hn, -⟩ := Sm.ok_of HR.out
    have hl9 : l.length ≤ 9 := by omega
    obtain ⟨hn0, hn1⟩ : 0 ≤ n ∧ n ≤ 1000002 := by rw [hn]; exact Sm.sum_is l
    clear hn
    go_wp2_with fail
    refine (drawPairSum_any _ _ (HC.out.rise (HB2.out.alloc _) (HB2.out.alloc _).size)).mono ?_
    rintro e w3 ⟨x, y, rfl, hb⟩
    have HB3 : Hid (Ext w0 w3) := (HB2.out.alloc _).trans hb
    have HS3 : Hid (ISlice w3 (.slice (some ⟨g, off, none⟩) l.length gcap) l) := (HS2.out.ext ((Ext.refl _).alloc _)).ext hb
    have HX3 : Hid (IBoxAt w3 w2.heap.size 0 n) := (ibox_new w2 0 n _).ext hb
    clear hb
    have hPI := fun w => implPairSum_any x y w
    have hPS := fun w => specPairSum_any x y w
    obtain ⟨rp, hrp⟩ : ∃ r, Sm.pairV x y = r := ⟨_, rfl⟩
    rw [hrp] at hPI hPS
    clear hrp
    obtain ⟨pc, pn⟩ := rp
    have HPI : Hid (∀ w : World, Calls Try.prog 23 #[.int .i64 x, .int .i64 y] w fun e w' => e = .returned (.agg #[.int .i64 pc, .int .i64 pn]) ∧ Ext w w') := hPI
    have HPS : Hid (∀ w : World, Calls Try.prog 24 #[.int .i64 x, .int .i64 y] w fun e w' => e = .returned (.agg #[.int .i64 pc, .int .i64 pn]) ∧ Ext w w') := hPS
    clear hPI hPS
    go_wp2_with fail
    refine (HPI.out _).mono ?_
    rintro e w4 ⟨rfl, hb⟩
    have HB4 : Hid (Ext w0 w4) := HB3.out.trans hb
    have HS4 : Hid (ISlice w4 (.slice (some ⟨g, off, none⟩) l.length gcap) l) := HS3.out.ext hb
    have HX4 : Hid (IBoxAt w4 w2.heap.size 0 n) := HX3.out.ext hb
    clear hb
    have HN4 : Hid (∀ W : World, Ext w4 W → ∀ j u, (l.map (Value.int .i64))[j]? = some u → W.cell? ((⟨g, off, none⟩ : Addr).add j) = some u) := fun W he => news_of (HS4.out.ext he)
    have HM4 : Hid (∀ (W : World), W.heap.size = w4.heap.size + 1 → (W.alloc (.cells #[] 2)).ownsRow (w4.heap.size + 1) 2 1 (.slice (some ⟨w4.heap.size + 1, 0, none⟩) 0 0) 0 []) := fun W h => made_empty (w := W) (w4.heap.size + 1) _ h.symm
    go_wp2_with (at_builtin; first | (refine wpList_append_own _ rfl _ _ 36 rfl (w4.heap.size + 1) 2 i0 (.int .i64 0) 1 8 Try.underlying36 hi hz0 hz1 hz2 rfl (by decide) _ _ _ rfl (HM4.out _ (by simp)) ⟨g, off, none⟩ l.length gcap (l.map (Value.int .i64)) rfl (by simp) (HN4.out _ (((Ext.refl _).alloc _).alloc _)) (fun x hx => by simp at hx; obtain ⟨y, _, rfl⟩ := hx; rfl) (by unfold maxLen; omega) (by omega) (by simp) ?_; intro v5 w5 hown5 hgrow5 hnil5) | (refine wpList_append_own _ rfl _ _ 36 rfl (w4.heap.size + 1) 2 i0 (.int .i64 0) 1 8 Try.underlying36 hi hz0 hz1 hz2 rfl (by decide) _ _ _ rfl (hown5.alloc _) ⟨w5.heap.size, 0, none⟩ 1 1 [.int .i64 3] rfl rfl (cell_one_new _ _ _) (fun x hx => by simp at hx; subst hx; rfl) (by unfold maxLen; omega) (by omega) (by have := hgrow5.size; simp at this; simp; omega) ?_; intro v6 w6 hown6 hgrow6 hnil6))
    have hB5 : Below (w4.heap.size + 1) (w4.alloc (.cells #[.int .i64 pc, .int .i64 pn] 39)) w5 := ((Below.refl _ _).alloc (by simp) _).grown hgrow5 (by simp) (fun q hq => Nat.le_of_eq (Option.some.inj hq))
    have hB6 : Below (w4.heap.size + 1) (w4.alloc (.cells #[.int .i64 pc, .int .i64 pn] 39)) w6 := (hB5.alloc (by have := Below.size hB5; simp at this; omega) _).grown hgrow6 (by have := Below.size hB5; simp at this; simp; omega) (fun q hq => (hown5.lt q hq).1)
    have HB6 : Hid (Ext w0 w6) := Below.trans (HB4.out.alloc _) (Below.mono hB6 (by have := HB4.out.size; omega))
    have HS6 : Hid (ISlice w6 (.slice (some ⟨g, off, none⟩) l.length gcap) l) := (HS4.out.ext ((Ext.refl _).alloc _)).ext (Below.mono hB6 (by simp))
    have HX6 : Hid (IBoxAt w6 w2.heap.size 0 n) := (HX4.out.ext ((Ext.refl _).alloc _)).below (by have := HX4.out.1; omega) hB6
    have HP6 : Hid (IBoxAt w6 w4.heap.size pc pn) := (ibox_new w4 pc pn _).below (by omega) hB6
    have hM6 : ISlice w6 v6 (l ++ [3]) := by
      refine nums_of_owns (base := w4.heap.size + 1) ?_
      rw [List.map_append, List.length_append]
      have h := hown6
      simp only [Nat.zero_add, List.nil_append] at h
      exact h
    have HI6 : Hid (Calls Try.prog 20 #[v6] w6 fun e w' => e = .returned (ir (Sm.sumV (l ++ [3]))) ∧ Ext w6 w') := implSumOf_any v6 _ w6 hM6
    clear hB5 hB6 hM6 hown5 hown6 hgrow5 hgrow6 hnil5 hnil6
    rw [Sm.more HR.out hl9] at HI6
    unfold ir at HI6
    refine HI6.out.mono ?_
    rintro e w7 ⟨rfl, hb⟩
    have HB7 : Hid (Ext w0 w7) := HB6.out.trans hb
    have HS7 : Hid (ISlice w7 (.slice (some ⟨g, off, none⟩) l.length gcap) l) := HS6.out.ext hb
    have HX7 : Hid (IBoxAt w7 w2.heap.size 0 n) := HX6.out.ext hb
    have HP7 : Hid (IBoxAt w7 w4.heap.size pc pn) := HP6.out.ext hb
    clear hb
    have HA7 : Hid (SBx w0 (w7.alloc (.cells #[.int .i64 0, .int .i64 ((n * 31 + 4) % 1000003)] 39)) w2.heap.size w4.heap.size w7.heap.size n pc pn 0 ((n * 31 + 4) % 1000003) (.slice (some ⟨g, off, none⟩) l.length gcap) l) := ⟨HX7.out.ext ((Ext.refl _).alloc _), HP7.out.ext ((Ext.refl _).alloc _), ibox_new w7 0 ((n * 31 + 4) % 1000003) _, HS7.out.ext ((Ext.refl _).alloc _), HB7.out.alloc _⟩
    clear HX7 HP7 HS7 HB7 HX6 HP6 HS6 HB6 HX4 HS4 HB4 HX3 HS3 HB3 HS2 HB2 HS1 HB1 HI6 HN4 HM4 HC
    obtain ⟨⟨x0, x1, x2⟩, ⟨p0, p1, p2⟩, ⟨m0, m1, m2⟩, -⟩ := HA7.out
    have hpp : (pc == pc) = true := by simp
    have hqq : (pn == pn) = true := by simp
    have hnn : (n == n) = true := by simp
    have hn3 : n < 1000003 := by omega
    have hee : ((n * 31 + 4) % 1000003 == (n * 31 + 4) % 1000003) = true := by simp
    have k1 : IntKind.i64.wrap (n * 31) = n * 31 := by rw [IntKind.wrap_i64]; omega
    have k2 : IntKind.i64.wrap (n * 31 + 4) = n * 31 + 4 := by rw [IntKind.wrap_i64]; omega
    have k3 : (n * 31 + 4).tmod 1000003 = (n * 31 + 4) % 1000003 := Int.tmod_eq_emod_of_nonneg (by omega)
    go_wp2
    go_region_held3 (fun W => W.cell? ⟨w2.heap.size, 1, none⟩ = some (.int .i64 n) ∧ W.cell? ⟨w4.heap.size, 0, none⟩ = some (.int .i64 pc) ∧ W.cell? ⟨w4.heap.size, 1, none⟩ = some (.int .i64 pn) ∧ W.cell? ⟨w7.heap.size, 0, none⟩ = some (.int .i64 0) ∧ W.cell? ⟨w7.heap.size, 1, none⟩ = some (.int .i64 ((n * 31 + 4) % 1000003))) (first | exact ⟨x2, p1, p2, m1, m2⟩ | exact ⟨y2, z1, z2, v1, v2⟩ | go_keep) (first | (go_at_call 21; refine (HSp.out _ (HA7.out.ext ((Ext.refl _).drew)).2.2.2.1).mono ?_; rintro e w8 ⟨rfl, hb8⟩; have HA8 : Hid _ := (HA7.out.ext ((Ext.refl _).drew)).ext hb8; clear x0 x1 x2 p0 p1 p2 m0 m1 m2 hb8; obtain ⟨⟨x0, x1, x2⟩, ⟨p0, p1, p2⟩, ⟨m0, m1, m2⟩, -⟩ := HA8.out) | (go_at_call 24; refine (HPS.out _).mono ?_; rintro e w9 ⟨rfl, hb9⟩; have HA9 : Hid (SBx w0 w9 w2.heap.size w4.heap.size w7.heap.size n pc pn 0 ((n * 31 + 4) % 1000003) (.slice (some ⟨g, off, none⟩) l.length gcap) l) := SBx.ext (Hid.out (by assumption)) hb9; have HE9 : Hid (Ext w0 w9) := HA9.out.2.2.2.2; obtain ⟨⟨y0, y1, y2⟩, ⟨z0, z1, z2⟩, ⟨v0, v1, v2⟩, -⟩ := HA9.out))
    all_goals
      go_wp2
      go_ret
      exact ⟨rfl, Hid.out (by assumption)⟩
  · have e0 : (c != 0) = true := by simp [hc0]
    go_wp2
    go_region_with (go_at_call 21; refine (HSp.out _ (HS2.out.ext (((Ext.refl _).alloc _).drew))).mono ?_; rintro e w3 ⟨rfl, hb3⟩; obtain ⟨q, q0, q1⟩ := (ibox_new w2 c n 39).ext (((Ext.refl _).drew).trans hb3))
    all_goals
      go_wp2
      go_ret
      exact ⟨ret_bool (by simp), HB2.out.trans ((((Ext.refl _).alloc _).drew).trans hb3)⟩
theorem lawSums_all (v : Value) (w : World) (h : ∃ ad len cap, v = .slice ad len cap ∧ (len ≤ 1048576 → CodeOk w w.heap.size v)) :
    Calls Try.prog 5 #[v] w fun e w' => e = .returned (.bool true) ∧ Ext w w' := by
  obtain ⟨ad, len, cap, rfl, hc⟩ := h
  by_cases hl : 1048576 < len
  · exact lawSums_big ad len cap w hl
  · exact lawSums _ w (hc (by omega))
end Go.Proofs.Ytmkmilkncmfigaa
