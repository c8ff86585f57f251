/- PF4, PF5, in one text. -/
import Derived.Test.YtilinjjimiiplaaGreatDoorKqJ40
import Derived.Deep.RegionHeld3
import Derived.Test.YtilinjjimiiplaaGreatDoorKqJ15
import Derived.Test.YtilinjjimiiplaaGreatDoorKqV16
import Derived.Test.YtilinjjimiiplaaGreatDoorKqJ34
import Derived.Test.YtilinjjimiiplaaGreatDoorKqJ30
namespace Go.Proofs.YtilinjjimiiplaaGreatDoor
open Go.RowKit
set_option maxHeartbeats 4000000 in
set_option maxRecDepth 100000 in
theorem drawCheckProof_any (cv : Value) (w : World) (hc : CodeOk w w.heap.size cv) :
    Calls Tryz.prog 10 #[cv] w (DrawnC w) := by
  have hi9 : (Tryz.prog.info? 59).map (fun i => (i.zero, i.size, i.bytes)) = some (some (.agg #[.bool false, .int .i64 0]), 2, 16) := by kernel_rfl
  obtain ⟨ti, hti, hxx⟩ := Option.map_eq_some_iff.1 hi9
  simp only [Prod.mk.injEq] at hxx
  obtain ⟨hz0, hz1, hz2⟩ := hxx
  clear hi9
  have hc' := hc
  obtain ⟨ad, len, cap0, rfl, hl, -⟩ := hc'
  have HC : Hid (CodeOk w w.heap.size (.slice ad len cap0)) := hc
  clear hc
  go_enter Tryz.func10, Tryz.ntmps10
  go_wp2_with fail
  refine (source_any _ _ ad len cap0 rfl).mono ?_
  rintro e w1 ⟨rfl, hw⟩
  have HS1 : Hid (SrcAt w1 (w.heap.size + 1) 0 (.slice ad len cap0)) := by rw [hw]; exact src_new3 _ HC.out
  have HE1 : Hid (Ext w w1) := by rw [hw]; exact ((Ext.refl _).alloc _).alloc _
  have HR1 : Hid (Room w1 w.heap.size 0 1) := by rw [hw]; exact (room_new w _).ext ((Ext.refl _).alloc _)
  have hz : w1.heap.size = w.heap.size + 2 := by rw [hw]; simp
  clear hw HC
  have hzb : (w.alloc (.cells #[.string ⟨#[]⟩, .int .i64 0, .int .i64 0, .int .i64 0, .int .i64 0] 38)).heap.size = w.heap.size + 1 := by simp
  try rw [hzb]
  clear hzb
  go_wp2_with fail
  refine (l2Right_good (w.heap.size + 1) 0 (.slice ad len cap0) _ (by exact HS1.out) (by omega)).mono ?_
  rintro e w2 ⟨g, off, cap, a2, zs, rfl, hK, hg, hO, ha2, hS2, hU2⟩
  have hpos : 0 < zs.length := hK.kept.pos
  have h20 : zs.length ≤ 20 := hK.few
  have hgl := hO.lt hpos
  have hgw : w.heap.size + 1 < g := by omega
  have HT : Hid (Tre.Good zs) := hK
  have HO2 : Hid (Own w2 (.slice (some ⟨g, off, none⟩) zs.length cap) g zs) := hO
  have HS2 : Hid (SrcAt w2 (w.heap.size + 1) a2 (.slice ad len cap0)) := hS2
  have HE2 : Hid (Ext w w2) := hU2.to_ext HE1.out (by omega)
  have HR2 : Hid (Room w2 w.heap.size 0 1) := HR1.out.upd hU2 (by omega)
  clear hK hg hO hS2 hU2 HS1 HE1 HR1
  go_wp2_with fail
  refine (next_any (w.heap.size + 1) a2 (.slice ad len cap0) (zs.length : Nat) _ (by exact HS2.out) (by omega) (by omega) (by omega)).mono ?_
  rintro e w3 ⟨r, q, rfl, hr0, hr1, hw⟩
  obtain ⟨i, rfl⟩ := Int.eq_ofNat_of_zero_le hr0
  have hil : i < zs.length := by omega
  have HS3 : Hid (SrcAt w3 (w.heap.size + 1) (a2 + 1) (.slice ad len cap0)) := by rw [hw]; exact HS2.out.place _ _
  have HO3 : Hid (Own w3 (.slice (some ⟨g, off, none⟩) zs.length cap) g zs) := by rw [hw]; exact HO2.out.upd (Upd.place _ _ _) (by omega)
  have HE3 : Hid (Ext w w3) := by rw [hw]; exact (Upd.place _ _ _).to_ext HE2.out (by omega)
  have HR3 : Hid (Room w3 w.heap.size 0 1) := by rw [hw]; exact HR2.out.upd (Upd.place _ _ _) (by omega)
  have hz3 : g < w3.heap.size := HO3.out.lt hpos
  clear hw HS2 HO2 HE2 HR2
  obtain ⟨z, hzi⟩ : ∃ z, zs[i]? = some z := ⟨_, List.getElem?_eq_getElem hil⟩
  have HZ : Hid (zs[i]? = some z) := hzi
  have hzp := HO3.out.node hzi
  have HP := specProveZ_own (.slice (some ⟨g, off, none⟩) zs.length cap) zs z.path w3 HO3.out.slice
  have hL : ∀ W : World, NSlice W (.slice (some ⟨g, off, none⟩) zs.length cap) zs → Calls Tryz.prog 31 #[.slice (some ⟨g, off, none⟩) zs.length cap] W fun e w' => e = .returned (.int .i64 (Sm.root (zs.map Sm.leaf))) ∧ Ext W w' := fun W h => l3Root_any _ zs W h h20 (by omega) (fault_nodeC HT.out.fault)
  have htl := Sm.proveT_len zs z.path
  generalize (Sm.proveT zs z.path).1 = c at HP
  generalize (Sm.proveT zs z.path).2.1 = n at HP
  generalize (Sm.proveT zs z.path).2.2 = ts at HP htl
  generalize Sm.root (zs.map Sm.leaf) = ro at hL
  have HL : Hid (∀ W : World, NSlice W (.slice (some ⟨g, off, none⟩) zs.length cap) zs → Calls Tryz.prog 31 #[.slice (some ⟨g, off, none⟩) zs.length cap] W fun e w' => e = .returned (.int .i64 ro) ∧ Ext W w') := hL
  clear hL hzi
  have HPh : Hid (Calls Tryz.prog 7 #[.slice (some ⟨g, off, none⟩) zs.length cap, .string z.path] w3 (PRetO w3 c n ts)) := HP
  clear HP
  go_wp2_with fail
  refine HPh.out.mono ?_
  rintro e w4 ⟨pv, rfl, hO4, hE4⟩
  clear HPh
  obtain ⟨pa, pcap, rfl⟩ := owns_slice hO4
  obtain ⟨htc, hpm⟩ := owns_cap hO4
  unfold maxLen at hpm
  have hs4 := hE4.size
  have HS4 : Hid (CSt w (a2 + 1) (.slice ad len cap0) g off cap zs w3.heap.size w4.heap.size (.slice pa ts.length pcap) ts (w4.alloc (.cells #[.int .i64 c, .int .i64 n, .slice pa ts.length pcap] 29))) :=
    ⟨(HS3.out.ext hE4).alloc _, (HO3.out.ext hE4).ext ((Ext.refl _).alloc _), ⟨by simp, by simp, by simp⟩, ⟨own_ext hO4 ((Ext.refl _).alloc _), fun e => by have := (hO4.lt _ e).2; omega⟩, (HR3.out.ext hE4).ext ((Ext.refl _).alloc _), (HE3.out.trans hE4).alloc _, hgw, hz3, hs4⟩
  clear HS3 HO3 HE3 HR3 hzp hO4 hE4
  unfold pr
  go_wp2_with fail
  refine (HL.out _ HS4.out.tree.slice).mono ?_
  rintro e w5 ⟨rfl, hE5⟩
  have HS5 : Hid (CSt w (a2 + 1) (.slice ad len cap0) g off cap zs w3.heap.size w4.heap.size (.slice pa ts.length pcap) ts w5) := HS4.out.next hE5 (HS4.out.src.ext hE5)
  clear hE5 HS4 HL
  generalize w4.heap.size = B at *
  generalize w3.heap.size = b3 at *
  go_wp2_with fail
  refine (next_any (w.heap.size + 1) (a2 + 1) (.slice ad len cap0) 8 _ (by exact HS5.out.src) (by omega) (by omega) (by omega)).mono ?_
  rintro e w6 ⟨r, q6, rfl, hr60, hr61, hw⟩
  have HS6 : Hid (CSt w (a2 + 2) (.slice ad len cap0) g off cap zs b3 B (.slice pa ts.length pcap) ts w6) := by rw [hw]; exact HS5.out.place _ _
  clear hw HS5
  by_cases h0 : r = 0
  · subst h0
    have HF : Hid (CEnd w g (off + i * 5) B z (.slice pa ts.length pcap) ts w6) := HS6.out.fin HZ.out
    clear HS6
    obtain ⟨d0, d1, d2, d3, d4⟩ := HF.out.node
    have b1 := HF.out.box
    obtain ⟨-, o1⟩ := HF.out.out
    obtain ⟨⟨y0, x0⟩, f0⟩ := o1 0 (by omega)
    obtain ⟨⟨y1, x1⟩, f1⟩ := o1 1 (by omega)
    obtain ⟨⟨y2, x2⟩, f2⟩ := o1 2 (by omega)
    obtain ⟨⟨y3, x3⟩, f3⟩ := o1 3 (by omega)
    obtain ⟨⟨y4, x4⟩, f4⟩ := o1 4 (by omega)
    rw [Nat.zero_add] at x0 x1 x2 x3 x4 f0 f1 f2 f3 f4
    clear o1
    go_wp2
    go_region
    all_goals
      go_wp2
    all_goals exact bodyPost_ret (v := .tuple #[zagg z, (.slice pa ts.length pcap), .int .i64 (wrap64 (ro + 1))]) (by simp [results, Tryz.results10, go_sem, zagg, x0, x1, x2, x3, x4]) rfl (HF.out.drawn _)
  have e0 : (r == 0) = false := by simp [h0]
  by_cases h1 : r = 1
  · subst h1
    have hl6 := HS6.out.src.lt
    go_wp2_with fail
    refine (pick_any (w.heap.size + 1) (a2 + 2) w6.heap.size 0 2 (.slice ad len cap0) [7, 10000] _ (by exact (HS6.out.alloc _).src) (by omega) (nums2 _ _ _ _) (by simp) (by simp) (by omega)).mono ?_
    rintro e w7 ⟨x, q7, rfl, hw⟩
    have HS7 : Hid (CSt w (a2 + 3) (.slice ad len cap0) g off cap zs b3 B (.slice pa ts.length pcap) ts w7) := by rw [hw]; exact (HS6.out.alloc _).place _ _
    clear hw HS6 hl6
    obtain ⟨hR9, hlc9, hcm9⟩ := HS7.out.tree.room hpos
    obtain ⟨⟨y1, r1⟩, s1⟩ := hR9.2 (i * 5 + 1) (by omega)
    rw [← Nat.add_assoc] at r1 s1
    unfold maxLen at hcm9
    have HF : Hid (CEnd w g (off + i * 5) B { z with data := x } (.slice pa ts.length pcap) ts (w7.setCell ⟨g, off + i * 5 + 1, none⟩ (.int .i64 x))) := HS7.out.data HZ.out x
    clear hR9 HS7
    go_wp2
    generalize w7.setCell ⟨g, off + i * 5 + 1, none⟩ (.int .i64 x) = w8 at *
    generalize ({ z with data := x } : Zn) = z8 at *
    clear r1 s1
    obtain ⟨d0, d1, d2, d3, d4⟩ := HF.out.node
    have b1 := HF.out.box
    obtain ⟨-, o1⟩ := HF.out.out
    obtain ⟨⟨y0, x0⟩, f0⟩ := o1 0 (by omega)
    obtain ⟨⟨y1, x1⟩, f1⟩ := o1 1 (by omega)
    obtain ⟨⟨y2, x2⟩, f2⟩ := o1 2 (by omega)
    obtain ⟨⟨y3, x3⟩, f3⟩ := o1 3 (by omega)
    obtain ⟨⟨y4, x4⟩, f4⟩ := o1 4 (by omega)
    rw [Nat.zero_add] at x0 x1 x2 x3 x4 f0 f1 f2 f3 f4
    clear o1
    go_wp2
    go_region
    all_goals
      go_wp2
    all_goals exact bodyPost_ret (v := .tuple #[zagg z8, (.slice pa ts.length pcap), .int .i64 ro]) (by simp [results, Tryz.results10, go_sem, zagg, x0, x1, x2, x3, x4]) rfl (HF.out.drawn _)
  have e1 : (r == 1) = false := by simp [h1]
  by_cases h2 : r = 2
  · subst h2
    cases ts with
    | nil =>
      have HF : Hid (CEnd w g (off + i * 5) B z (.slice pa 0 pcap) [] w6) := HS6.out.fin HZ.out
      clear HS6
      dsimp only [List.length_nil] at *
      have b1 := HF.out.box
      obtain ⟨d0, d1, d2, d3, d4⟩ := HF.out.node
      have b1 := HF.out.box
      obtain ⟨-, o1⟩ := HF.out.out
      obtain ⟨⟨y0, x0⟩, f0⟩ := o1 0 (by omega)
      obtain ⟨⟨y1, x1⟩, f1⟩ := o1 1 (by omega)
      obtain ⟨⟨y2, x2⟩, f2⟩ := o1 2 (by omega)
      obtain ⟨⟨y3, x3⟩, f3⟩ := o1 3 (by omega)
      obtain ⟨⟨y4, x4⟩, f4⟩ := o1 4 (by omega)
      rw [Nat.zero_add] at x0 x1 x2 x3 x4 f0 f1 f2 f3 f4
      clear o1
      go_wp2
      go_region
      all_goals
        go_wp2
      all_goals exact bodyPost_ret (v := .tuple #[zagg z, (.slice pa 0 pcap), .int .i64 ro]) (by simp [results, Tryz.results10, go_sem, zagg, x0, x1, x2, x3, x4]) rfl (HF.out.drawn _)
    | cons s sr =>
      obtain ⟨g2, o2, rfl, s0, r0, hF⟩ := HS6.out.side HZ.out (!s.left)
      have HF0 : Hid (CEnd w g (off + i * 5) B z (.slice (some ⟨g2, o2, none⟩) (s :: sr).length pcap) (⟨!s.left, s.sum⟩ :: sr) (w6.setCell ⟨g2, o2, none⟩ (.bool (!s.left)))) := hF
      have b1 := HS6.out.box.2.1
      have i9 : (0 : Int) < ((s :: sr).length : Int) := by simp only [List.length_cons]; omega
      clear hF HS6
      generalize (s :: sr).length = n2 at *
      go_wp2
      go_region
      all_goals
        go_wp2
      have HF : Hid (CEnd w g (off + i * 5) B z (.slice (some ⟨g2, o2, none⟩) n2 pcap) (⟨!s.left, s.sum⟩ :: sr) (w6.setCell ⟨g2, o2, none⟩ (.bool (!s.left))).drew) := HF0.out.drew
      clear HF0 s0 r0 b1
      generalize (w6.setCell ⟨g2, o2, none⟩ (.bool (!s.left))).drew = w8 at *
      obtain ⟨d0, d1, d2, d3, d4⟩ := HF.out.node
      have b1 := HF.out.box
      obtain ⟨-, o1⟩ := HF.out.out
      obtain ⟨⟨y0, x0⟩, f0⟩ := o1 0 (by omega)
      obtain ⟨⟨y1, x1⟩, f1⟩ := o1 1 (by omega)
      obtain ⟨⟨y2, x2⟩, f2⟩ := o1 2 (by omega)
      obtain ⟨⟨y3, x3⟩, f3⟩ := o1 3 (by omega)
      obtain ⟨⟨y4, x4⟩, f4⟩ := o1 4 (by omega)
      rw [Nat.zero_add] at x0 x1 x2 x3 x4 f0 f1 f2 f3 f4
      clear o1
      go_wp2
      go_region
      all_goals
        go_wp2
      all_goals exact bodyPost_ret (v := .tuple #[zagg z, (.slice (some ⟨g2, o2, none⟩) n2 pcap), .int .i64 ro]) (by simp [results, Tryz.results10, go_sem, zagg, x0, x1, x2, x3, x4]) rfl (HF.out.drawn _)
  have e2 : (r == 2) = false := by simp [h2]
  by_cases h3 : r = 3
  · subst h3
    have hl6 := HS6.out.src.lt
    obtain ⟨b06, b16, b26⟩ := HS6.out.box
    have k1 : w6.heap.size ≠ w.heap.size + 1 := by omega
    have k2 : ts.length + 1 ≤ maxLen := by unfold maxLen; omega
    have k3 : (ts.length + 1) * 16 ≤ 140737488355328 := by omega
    have k4 : ∀ (c : Int) (t : TypeId), Calls Tryz.prog 32 #[.pointer (some ⟨w.heap.size + 1, 0, none⟩), .slice (some ⟨w6.heap.size, 0, none⟩) 2 2] (w6.alloc (.cells #[.int .i64 1, .int .i64 (-1)] t)).drew fun e w' => ∃ (x : Int) (q : Nat), e = .returned (.int .i64 x) ∧ CSt w (a2 + 3) (.slice ad len cap0) g off cap zs b3 B (.slice pa ts.length pcap) ts w' := fun c t => (pick_any (w.heap.size + 1) (a2 + 2) w6.heap.size 0 2 (.slice ad len cap0) [1, -1] _ (HS6.out.alloc _).drew.src k1 (nums2 w6.drew 1 (-1) t) (by simp) (by simp) (by omega)).mono fun e w7 => fun ⟨x, q7, he, hw⟩ => ⟨x, q7, he, by rw [hw]; exact (HS6.out.alloc _).drew.place _ _⟩
    go_wp2
    have hal := alloc_cell
    go_region_law (first
      | (refine step_append_at _ rfl (.tmp 61) (.tmp 66) 27 rfl b3 59 ti (.agg #[.bool false, .int .i64 0]) 2 16 Tryz.underlying27 hti hz0 hz1 hz2 rfl (by decide) (.slice pa ts.length pcap) ts.length (cellsS ts) (by simp [Act.eval]) (World.ownsRow.alloc (w := w7) HS7.out.row.1 _) ⟨w7.heap.size, 0, none⟩ 1 1 (cellsS [⟨false, x⟩]) (by simp [Act.eval]) rfl (cells_side w7 false x _) (cellsS_one _) k2 k3 (by rw [World.size_alloc]; exact k5) ?_; intro v6 w8 hown6 hgrow6 hnil6; obtain ⟨s6, c6, rfl⟩ := owns_slice hown6; have HM8 := HS7.out.more HZ.out hown6 hgrow6 hnil6; obtain ⟨⟨b08, b18, b28⟩, hF8⟩ := HM8; have HF8 : Hid (CEnd w g (off + i * 5) B z (.slice s6 (ts.length + 1) c6) (ts ++ [⟨false, x⟩]) (w8.setCell ⟨B, 2, none⟩ (.slice s6 (ts.length + 1) c6))) := hF8; clear hF8 hown6 hgrow6 hnil6)
      | (rw [if_pos (by simp [Region.wanted])]; go_simp; refine (k4 0 _).mono ?_; rintro e w7 ⟨x, q7, rfl, hs7⟩; have HS7 : Hid (CSt w (a2 + 3) (.slice ad len cap0) g off cap zs b3 B (.slice pa ts.length pcap) ts w7) := hs7; obtain ⟨b07, b17, b27⟩ := hs7.box; have k5 : b3 ≤ w7.heap.size + 1 := Nat.le_succ_of_le (Nat.le_of_lt (Nat.lt_of_le_of_lt hs7.num.2.2 b07)); clear hs7; (try dsimp only)))
    all_goals
      go_wp2
    all_goals
      have HF : Hid (CEnd w g (off + i * 5) B z (.slice s6 (ts.length + 1) c6) (ts ++ [⟨false, x⟩]) (w8.setCell ⟨B, 2, none⟩ (.slice s6 (ts.length + 1) c6))) := HF8.out
      clear HF8 b16 b26 b18 b28 b06 b08
      generalize w8.setCell ⟨B, 2, none⟩ (.slice s6 (ts.length + 1) c6) = w9 at *
      obtain ⟨d0, d1, d2, d3, d4⟩ := HF.out.node
      have b1 := HF.out.box
      obtain ⟨-, o1⟩ := HF.out.out
      obtain ⟨⟨y0, x0⟩, f0⟩ := o1 0 (by omega)
      obtain ⟨⟨y1, x1⟩, f1⟩ := o1 1 (by omega)
      obtain ⟨⟨y2, x2⟩, f2⟩ := o1 2 (by omega)
      obtain ⟨⟨y3, x3⟩, f3⟩ := o1 3 (by omega)
      obtain ⟨⟨y4, x4⟩, f4⟩ := o1 4 (by omega)
      rw [Nat.zero_add] at x0 x1 x2 x3 x4 f0 f1 f2 f3 f4
      clear o1
      go_wp2
      go_region
      all_goals
        go_wp2
      all_goals exact bodyPost_ret (v := .tuple #[zagg z, (.slice s6 (ts.length + 1) c6), .int .i64 ro]) (by simp [results, Tryz.results10, go_sem, zagg, x0, x1, x2, x3, x4]) rfl (HF.out.drawn _)
  have e3 : (r == 3) = false := by simp [h3]
  have HF : Hid (CEnd w g (off + i * 5) B z (.slice pa ts.length pcap) ts w6) := HS6.out.fin HZ.out
  clear HS6
  obtain ⟨d0, d1, d2, d3, d4⟩ := HF.out.node
  have b1 := HF.out.box
  obtain ⟨-, o1⟩ := HF.out.out
  obtain ⟨⟨y0, x0⟩, f0⟩ := o1 0 (by omega)
  obtain ⟨⟨y1, x1⟩, f1⟩ := o1 1 (by omega)
  obtain ⟨⟨y2, x2⟩, f2⟩ := o1 2 (by omega)
  obtain ⟨⟨y3, x3⟩, f3⟩ := o1 3 (by omega)
  obtain ⟨⟨y4, x4⟩, f4⟩ := o1 4 (by omega)
  rw [Nat.zero_add] at x0 x1 x2 x3 x4 f0 f1 f2 f3 f4
  clear o1
  go_wp2
  go_region
  all_goals
    go_wp2
  all_goals exact bodyPost_ret (v := .tuple #[zagg z, (.slice pa ts.length pcap), .int .i64 ro]) (by simp [results, Tryz.results10, go_sem, zagg, x0, x1, x2, x3, x4]) rfl (HF.out.drawn _)
end Go.Proofs.YtilinjjimiiplaaGreatDoor
namespace Go.Proofs.YtilinjjimiiplaaGreatDoor
open Go.RowKit
/-- What is so where ProveZ has no code. -/
theorem Sm.proved {zs : List Zn} {p : ByteArray} (h : (Sm.proveT zs p).1 = 0) : ∃ z ts, Sm.proveT zs p = (0, Sm.leaf z, ts) ∧ Tre.getT zs p = (0, ⟨#[]⟩, [z]) ∧ Sm.rootV zs = (0, Sm.root (zs.map Sm.leaf)) ∧ Sm.leafV z = (0, Sm.leaf z) ∧ ts.length ≤ 5 ∧ Sm.check z ts (Sm.root (zs.map Sm.leaf)) = true := by
  have ha : Tre.asked zs p = 0 := by
    by_cases h0 : Tre.asked zs p = 0
    · exact h0
    · rw [Sm.proveT_bad rfl h0] at h; exact absurd h h0
  rcases Tre.atI_range zs p with ⟨hm, -⟩ | ⟨k, z, hat, hkl, hz, -⟩
  · rw [Sm.proveT_none ha (by omega)] at h; exact absurd h (by decide)
  · obtain ⟨h20, -, -, -⟩ := Tre.asked_len ha
    have hF := (Tre.asked_fault ha).1
    have hn := fault_nodeC hF z (List.mem_of_getElem? hz)
    obtain ⟨h5, hc⟩ := Sm.shown hz h20 hn
    exact ⟨z, _, Sm.proveT_ok ha hat (by rw [List.getElem?_map, hz]; rfl), Tre.getT_ok ha hat hz, Sm.rootV_ok hF, leafV_ok hn, h5, hc⟩
set_option maxHeartbeats 400000 in
theorem drawProveZ_any (cv : Value) (w : World) (hc : CodeOk w w.heap.size cv) :
    Calls Tryz.prog 5 #[cv] w (DrawnW (fun l => l = []) w) := by
  have hc' := hc
  obtain ⟨ad, len, cap0, rfl, hl, -⟩ := hc'
  have HC : Hid (CodeOk w w.heap.size (.slice ad len cap0)) := hc
  clear hc
  go_enter Tryz.func5, Tryz.ntmps5
  go_wp2_with fail
  refine (l2With_any _ _ HC.out).mono ?_
  rintro e w1 ⟨g, off, cap, zs, p, l, rfl, rfl, hF, hO, hE⟩
  have HF : Hid (Few zs ∧ Own w1 (.slice (some ⟨g, off, none⟩) zs.length cap) g zs ∧ Ext w w1) := ⟨hF, hO, hE⟩
  clear hF hO hE
  go_wp2
  exact bodyPost_ret (v := .tuple #[.slice (some ⟨g, off, none⟩) zs.length cap, .string p]) (by simp [results, Tryz.results5, go_sem]) rfl ⟨g, off, cap, zs, p, [], rfl, rfl, HF.out.1, HF.out.2.1, HF.out.2.2⟩
/-- The cells that the last statement loads. -/
def PfC (bp bg br bz gg go gc : Nat) (z zz : Zn) (sv : Value) (lf ro : Int) (W : World) : Prop :=
  W.cell? ⟨bp, 1, none⟩ = some (.int .i64 lf) ∧ W.cell? ⟨bp, 2, none⟩ = some sv ∧ W.cell? ⟨bg, 2, none⟩ = some (.slice (some ⟨gg, go, none⟩) 1 gc) ∧ W.cell? ⟨br, 0, none⟩ = some (.int .i64 0) ∧ W.cell? ⟨br, 1, none⟩ = some (.int .i64 ro) ∧
  W.cell? ⟨gg, go, none⟩ = some (.string z.path) ∧ W.cell? ⟨gg, go + 1, none⟩ = some (.int .i64 z.data) ∧ W.cell? ⟨gg, go + 2, none⟩ = some (.int .i64 z.version) ∧ W.cell? ⟨gg, go + 3, none⟩ = some (.int .i64 z.owner) ∧ W.cell? ⟨gg, go + 4, none⟩ = some (.int .i64 z.next) ∧
  W.cell? ⟨bz, 0, none⟩ = some (.string zz.path) ∧ W.cell? ⟨bz, 1, none⟩ = some (.int .i64 zz.data) ∧ W.cell? ⟨bz, 2, none⟩ = some (.int .i64 zz.version) ∧ W.cell? ⟨bz, 3, none⟩ = some (.int .i64 zz.owner) ∧ W.cell? ⟨bz, 4, none⟩ = some (.int .i64 zz.next)
/-- What the law holds at its last statement. -/
structure PfS (w0 : World) (bp bg br bz gg go gc : Nat) (z zz : Zn) (v sv sv2 : Value) (zs : List Zn) (ts t2 : List Sd) (lf ro : Int) (W : World) : Prop where
  cells : PfC bp bg br bz gg go gc z zz sv lf ro W
  lt : bp < W.heap.size ∧ bg < W.heap.size ∧ br < W.heap.size ∧ bz < W.heap.size ∧ gg < W.heap.size
  tree : NSlice W v zs
  one : SSlice W sv ts
  two : SSlice W sv2 t2
  ext : Ext w0 W
  gd : Gd W
theorem PfS.next {w0 : World} {bp bg br bz gg go gc : Nat} {z zz : Zn} {v sv sv2 : Value} {zs : List Zn} {ts t2 : List Sd} {lf ro : Int} {W W' : World} (h : PfS w0 bp bg br bz gg go gc z zz v sv sv2 zs ts t2 lf ro W) (he : Ext W W') : PfS w0 bp bg br bz gg go gc z zz v sv sv2 zs ts t2 lf ro W' := by
  obtain ⟨l1, l2, l3, l4, l5⟩ := h.lt
  obtain ⟨c1, c2, c3, c4, c5, c6, c7, c8, c9, c10, c11, c12, c13, c14, c15⟩ := h.cells
  have hs := he.size
  have hc := fun b o hb => (Ext.cell he).1 b o hb
  exact ⟨⟨(hc _ _ l1).trans c1, (hc _ _ l1).trans c2, (hc _ _ l2).trans c3, (hc _ _ l3).trans c4, (hc _ _ l3).trans c5, (hc _ _ l5).trans c6, (hc _ _ l5).trans c7, (hc _ _ l5).trans c8, (hc _ _ l5).trans c9, (hc _ _ l5).trans c10, (hc _ _ l4).trans c11, (hc _ _ l4).trans c12, (hc _ _ l4).trans c13, (hc _ _ l4).trans c14, (hc _ _ l4).trans c15⟩, ⟨by omega, by omega, by omega, by omega, by omega⟩, h.tree.ext he, h.one.ext he, h.two.ext he, h.ext.trans he, h.gd.ext he⟩
end Go.Proofs.YtilinjjimiiplaaGreatDoor
