/- laws.FnSets, walked: it answers true at every code. -/
import Derived.Test.YtlnkheopmagacaaDoorMSets
import Derived.Deep.RegionHeld3
namespace Go.Proofs.YtlnkheopmagacaaDoor
open Go.RowKit
set_option maxHeartbeats 400000 in
theorem lwBigT_any (ad : Option Addr) (len cap : Nat) (w : World) :
    Calls Tryd.prog 4 #[.slice ad len cap] w fun e w' => e = .returned (.bool (decide (1048576 < len))) ∧ w' = w := by
  go_enter Tryd.func4, Tryd.ntmps4
  go_wp2
  go_ret
  exact ⟨ret_bool (by rw [Bool.eq_iff_iff]; simp; omega), rfl⟩
set_option maxHeartbeats 400000 in
theorem lawSets_big (ad : Option Addr) (len cap : Nat) (w : World) (hl : 1048576 < len) :
    Calls Tryd.prog 3 #[.slice ad len cap] w fun e w' => e = .returned (.bool true) ∧ Ext w w' := by
  have hbig : decide (1048576 < len) = true := by simpa using hl
  have hB := lwBigT_any ad len cap w
  rw [hbig] at hB
  clear hbig
  go_enter Tryd.func3, Tryd.ntmps3
  go_wp2_with fail
  refine hB.mono ?_
  rintro e w0 ⟨rfl, hw⟩
  subst hw
  clear hB
  go_wp2
  go_ret
  exact ⟨rfl, Ext.refl _⟩
/-- What the law holds while it goes on: the nodes, what was set, got and was, and their boxes. -/
def SSt (w0 : World) (v rv gv wv : Value) (zs zs' : List Zn) (z z' : Zn) (br bg bw : Nat) (W : World) : Prop :=
  NSlice W v zs ∧ NSlice W rv zs' ∧ NSlice W gv [z'] ∧ NSlice W wv [z] ∧ BoxAt W br 0 ⟨#[]⟩ rv ∧ BoxAt W bg 0 ⟨#[]⟩ gv ∧ BoxAt W bw 0 ⟨#[]⟩ wv ∧ Ext w0 W ∧ Gd W
theorem SSt.ext {w0 W W' : World} {v rv gv wv : Value} {zs zs' : List Zn} {z z' : Zn} {br bg bw : Nat} (h : SSt w0 v rv gv wv zs zs' z z' br bg bw W) (he : Ext W W') : SSt w0 v rv gv wv zs zs' z z' br bg bw W' :=
  ⟨h.1.ext he, h.2.1.ext he, h.2.2.1.ext he, h.2.2.2.1.ext he, h.2.2.2.2.1.ext he, h.2.2.2.2.2.1.ext he, h.2.2.2.2.2.2.1.ext he, h.2.2.2.2.2.2.2.1.trans he, h.2.2.2.2.2.2.2.2.ext he⟩
theorem NSlice.one {W : World} {g off cap n : Nat} {zs : List Zn} (h : NSlice W (.slice (some ⟨g, off, none⟩) n cap) zs) (hp : 0 < zs.length) : NodesAt W g off zs ∧ n ≤ cap ∧ cap ≤ maxLen := by
  obtain ⟨a, cap', he, h2, h3, h4⟩ := h
  obtain ⟨b', off', ha, -, hN⟩ := h4 hp
  injection he with e1 e2 e3
  subst e3
  rw [← e1] at ha
  injection ha with ha
  injection ha with ha1 ha2 _
  subst ha1 ha2
  exact ⟨hN, by omega, h3⟩
theorem keep3 {w : World} {b c o : Nat} {x y u v : Value} (h : ¬ c = b) (hv : w.cell? ⟨c, o, none⟩ = some v) : (((w.setCell ⟨b, 0, none⟩ x).setCell ⟨b, 1, none⟩ y).setCell ⟨b, 2, none⟩ u).cell? ⟨c, o, none⟩ = some v := by
  rw [set_ne _ _ _ _ _ _ (Or.inl (Ne.symm h)), set_ne _ _ _ _ _ _ (Or.inl (Ne.symm h)), set_ne _ _ _ _ _ _ (Or.inl (Ne.symm h))]
  exact hv
theorem keepA {w : World} {ob : Obj} {c o : Nat} {v : Value} (h : c < w.heap.size) (hv : w.cell? ⟨c, o, none⟩ = some v) : (w.alloc ob).cell? ⟨c, o, none⟩ = some v :=
  (Below.cell ((Ext.refl w).alloc ob) (p := ⟨c, o, none⟩) h).trans hv

set_option linter.unusedSimpArgs false in
set_option maxHeartbeats 60000000 in
set_option maxRecDepth 100000 in
theorem lawSets (cv : Value) (w : World) (hg : Gd w) (hc : CodeOk w w.heap.size cv) :
    Calls Tryd.prog 3 #[cv] w fun e w' => e = .returned (.bool true) ∧ Ext w w' := by
  have hc' := hc
  obtain ⟨ad, len, cap0, rfl, hl, -⟩ := hc'
  have HC : Hid (CodeOk w w.heap.size (.slice ad len cap0)) := hc
  have HG : Hid (Gd w) := hg
  have hbig : decide (1048576 < len) = false := by simpa using hl
  have hB := lwBigT_any ad len cap0 w
  rw [hbig] at hB
  clear hc hbig hg
  go_enter Tryd.func3, Tryd.ntmps3
  go_wp2_with fail
  refine hB.mono ?_
  rintro e w0 ⟨rfl, hw⟩
  subst hw
  clear hB
  go_wp2_with fail
  refine (drawSetZ_any _ _ HC.out).mono ?_
  rintro e w1 ⟨g, off, cap, zs, p, l, rfl, ⟨d, n, rfl⟩, hF, hO, hE⟩
  have hpos := hF.1
  have h21 := hF.2
  have HS1 : Hid (NSlice w1 (.slice (some ⟨g, off, none⟩) zs.length cap) zs) := hO.slice
  have HE1 : Hid (Ext w0 w1) := hE
  clear hF hO hE HC
  have HIm : Hid (∀ W : World, Gd W → NSlice W (.slice (some ⟨g, off, none⟩) zs.length cap) zs → Calls Tryd.prog 6 #[.slice (some ⟨g, off, none⟩) zs.length cap, .string p, .int .i64 d, .int .i64 n] W (ZRet W (Tre.setV zs p d n).1 (Tre.setV zs p d n).2.1 (Tre.setV zs p d n).2.2)) := fun W hg hS => implSetZ_any _ zs p d n W hg hS
  have HSp : Hid (∀ W : World, NSlice W (.slice (some ⟨g, off, none⟩) zs.length cap) zs → Calls Tryd.prog 7 #[.slice (some ⟨g, off, none⟩) zs.length cap, .string p, .int .i64 d, .int .i64 n] W (ZRet W (Tre.setV zs p d n).1 (Tre.setV zs p d n).2.1 (Tre.setV zs p d n).2.2)) := fun W hS => specSetZ_any _ zs p d n W hS (by omega)
  go_wp2_with fail
  refine (HIm.out _ (HG.out.ext HE1.out) HS1.out).mono ?_
  rintro e w2 ⟨v2, g2, rfl, hg2, hO2, hE2⟩
  have HS2 : Hid (NSlice w2 (.slice (some ⟨g, off, none⟩) zs.length cap) zs) := HS1.out.ext hE2
  have HE2 : Hid (Ext w0 w2) := HE1.out.trans hE2
  have hfz := fieldZ_code
  by_cases hc0 : (Tre.setV zs p d n).1 = 0
  · obtain ⟨k, z, hz, hd, hv0, hv9, hn, hset, hflt, hget, hwas, hold⟩ := Tre.set_all hc0
    have hkl := (List.getElem?_eq_some_iff.1 hz).1
    rw [hset] at hO2
    rw [hset]
    clear hset hc0 HIm HSp hfz
    dsimp only at hO2
    have hln : (zs.set k { z with data := d, version := z.version + 1 }).length = zs.length := by simp
    obtain ⟨off2, cap2, hv2⟩ := hO2.at (by rw [hln]; exact hpos)
    rw [hln] at hv2
    subst hv2
    obtain ⟨z', hz'⟩ : ∃ z', z' = ({ z with data := d, version := z.version + 1 } : Zn) := ⟨_, rfl⟩
    rw [← hz'] at hO2 hflt hget hold hln
    obtain ⟨y0, y1, y2, y3, y4⟩ : z'.path = z.path ∧ z'.data = d ∧ z'.version = z.version + 1 ∧ z'.owner = z.owner ∧ z'.next = z.next := by rw [hz']; exact ⟨rfl, rfl, rfl, rfl, rfl⟩
    have HZk : Hid ((zs.set k z')[k]? = some z') := List.getElem?_set_self hkl
    have HZj : Hid (∀ j, j ≠ k → (zs.set k z')[j]? = zs[j]?) := fun j hj => List.getElem?_set_ne (Ne.symm hj)
    clear hz'
    generalize zs.set k z' = zs' at *
    have HZ : Hid (zs[k]? = some z) := hz
    have HL : Hid (zs'.length = zs.length) := hln
    have HR2 : Hid (NSlice w2 (.slice (some ⟨g2, off2, none⟩) zs.length cap2) zs') := hO2.slice
    have HG2 : Hid (Gd w2) := HG.out.ext HE2.out
    have HGr : Hid (∀ W : World, Gd W → NSlice W (.slice (some ⟨g2, off2, none⟩) zs.length cap2) zs' → Calls Tryd.prog 8 #[.slice (some ⟨g2, off2, none⟩) zs.length cap2, .string p] W (ZRet W 0 ⟨#[]⟩ [z'])) := fun W hg hS => by have h := implGetZ_any _ zs' p W hg hS; rw [hget] at h; exact h
    have HGw : Hid (∀ W : World, Gd W → NSlice W (.slice (some ⟨g, off, none⟩) zs.length cap) zs → Calls Tryd.prog 8 #[.slice (some ⟨g, off, none⟩) zs.length cap, .string p] W (ZRet W 0 ⟨#[]⟩ [z])) := fun W hg hS => by have h := implGetZ_any _ zs p W hg hS; rw [hwas] at h; exact h
    have HSo : Hid (∀ W : World, Gd W → NSlice W (.slice (some ⟨g2, off2, none⟩) zs.length cap2) zs' → Calls Tryd.prog 6 #[.slice (some ⟨g2, off2, none⟩) zs.length cap2, .string p, .int .i64 d, .int .i64 z.version] W (ZRet W 7 ⟨#[]⟩ [])) := fun W hg hS => by have h := implSetZ_any _ zs' p d z.version W hg hS; rw [hold] at h; exact h
    have HFt : Hid (∀ W : World, Gd W → NSlice W (.slice (some ⟨g2, off2, none⟩) zs.length cap2) zs' → Calls Tryd.prog 9 #[.slice (some ⟨g2, off2, none⟩) zs.length cap2] W fun e w' => e = .returned (.int .i64 0) ∧ Ext W w') := fun W hg hS => by have h := implTreeFault_any _ zs' W hg hS; rw [hflt] at h; exact h
    clear hz hln hO2 hE2 hg2 hget hwas hold hflt HS1 HE1 hd HG
    unfold zr
    go_wp2_with fail
    refine (HGr.out _ (HG2.out.ext ((Ext.refl _).alloc _)) (HR2.out.ext ((Ext.refl _).alloc _))).mono ?_
    rintro e w3 ⟨v3, g3, rfl, hg3, hO3, hE3⟩
    obtain ⟨off3, cap3, rfl⟩ := hO3.at (by simp)
    have HE23 : Hid (Ext w2 w3) := ((Ext.refl _).alloc _).trans hE3
    have HB3 : Hid (BoxAt w3 w2.heap.size 0 ⟨#[]⟩ (.slice (some ⟨g2, off2, none⟩) zs.length cap2)) := (box_new w2 _ _ _ _).ext hE3
    have HO3 : Hid (NSlice w3 (.slice (some ⟨g3, off3, none⟩) 1 cap3) [z']) := hO3.slice
    clear hO3 hE3 hg3
    unfold zr
    go_wp2_with fail
    refine (HGw.out _ ((HG2.out.ext HE23.out).ext ((Ext.refl _).alloc _)) ((HS2.out.ext HE23.out).ext ((Ext.refl _).alloc _))).mono ?_
    rintro e w4 ⟨v4, g4, rfl, hg4, hO4, hE4⟩
    obtain ⟨off4, cap4, rfl⟩ := hO4.at (by simp)
    have HE34 : Hid (Ext w3 w4) := ((Ext.refl _).alloc _).trans hE4
    have HB4 : Hid (BoxAt w4 w3.heap.size 0 ⟨#[]⟩ (.slice (some ⟨g3, off3, none⟩) 1 cap3)) := (box_new w3 _ _ _ _).ext hE4
    have HO4 : Hid (NSlice w4 (.slice (some ⟨g4, off4, none⟩) 1 cap4) [z]) := hO4.slice
    have n3l : g4 < w4.heap.size ∧ w2.heap.size < w4.heap.size ∧ w3.heap.size < w4.heap.size := ⟨hO4.lt (by simp), by have := HB3.out.1; have := HE34.out.size; omega, by have := HB4.out.1; omega⟩
    clear hO4 hE4 hg4
    have HT5 : Hid (SSt w0 (.slice (some ⟨g, off, none⟩) zs.length cap) (.slice (some ⟨g2, off2, none⟩) zs.length cap2) (.slice (some ⟨g3, off3, none⟩) 1 cap3) (.slice (some ⟨g4, off4, none⟩) 1 cap4) zs zs' z z' w2.heap.size w3.heap.size w4.heap.size (w4.alloc (.cells #[.int .i64 0, .string ⟨#[]⟩, .slice (some ⟨g4, off4, none⟩) 1 cap4] 28))) :=
      ⟨((HS2.out.ext HE23.out).ext HE34.out).ext ((Ext.refl _).alloc _), ((HR2.out.ext HE23.out).ext HE34.out).ext ((Ext.refl _).alloc _), (HO3.out.ext HE34.out).ext ((Ext.refl _).alloc _), HO4.out.ext ((Ext.refl _).alloc _), (HB3.out.ext HE34.out).ext ((Ext.refl _).alloc _), HB4.out.ext ((Ext.refl _).alloc _), box_new w4 _ _ _ _, ((HE2.out.trans HE23.out).trans HE34.out).trans ((Ext.refl _).alloc _), ((HG2.out.ext HE23.out).ext HE34.out).ext ((Ext.refl _).alloc _)⟩
    have hgl := n3l
    clear HS2 HE2 HR2 HG2 HE23 HB3 HO3 HE34 HB4 HO4
    unfold zr
    have hz5 : (w4.alloc (.cells #[.int .i64 0, .string ⟨#[]⟩, .slice (some ⟨g4, off4, none⟩) 1 cap4] 28)).heap.size = w4.heap.size + 1 := by simp
    obtain ⟨-, -, -, hw5, ⟨a0, a4, a5, a6⟩, ⟨b0, b4, b5, b6⟩, ⟨c0, c4, c5, c6⟩, -⟩ := HT5.out
    obtain ⟨hw5, hc4, hm4⟩ := hw5.one (by simp)
    obtain ⟨-, -, d5, -, -⟩ := hw5 0 z rfl
    rw [Nat.zero_mul, Nat.add_zero] at d5
    unfold maxLen at hm4
    clear hw5
    have HZ5 : Hid ((w4.alloc (.cells #[.int .i64 0, .string ⟨#[]⟩, .slice (some ⟨g4, off4, none⟩) 1 cap4] 28)).heap.size = w4.heap.size + 1) := hz5
    clear hz5
    go_wp2
    have hz5 := HZ5.out
    generalize (w4.alloc (.cells #[.int .i64 0, .string ⟨#[]⟩, .slice (some ⟨g4, off4, none⟩) 1 cap4] 28)) = w5 at *
    generalize w4.heap.size = bw at *
    generalize w3.heap.size = bg at *
    generalize w2.heap.size = br at *
    have m1 : ¬ g4 = w5.heap.size := by omega
    have m2 : ¬ br = w5.heap.size := by omega
    have m3 : ¬ bw = w5.heap.size := by omega
    have m4 : ¬ bg = w5.heap.size := by omega
    clear hz5 HZ5
    have HA5 : Hid (Ext w5 (w5.alloc (.cells #[.int .i64 0, .string ⟨#[]⟩, .slice none 0 0] 28))) := (Ext.refl _).alloc _
    have d6 : (w5.alloc (.cells #[.int .i64 0, .string ⟨#[]⟩, .slice none 0 0] 28)).cell? ⟨g4, off4 + 2, none⟩ = some (.int .i64 z.version) := (Below.cell HA5.out (p := ⟨g4, off4 + 2, none⟩) (by show g4 < _; omega)).trans d5
    have a7 : (w5.alloc (.cells #[.int .i64 0, .string ⟨#[]⟩, .slice none 0 0] 28)).cell? ⟨br, 2, none⟩ = some (.slice (some ⟨g2, off2, none⟩) zs.length cap2) := (Below.cell HA5.out (p := ⟨br, 2, none⟩) a0).trans a6
    have c7 : (w5.alloc (.cells #[.int .i64 0, .string ⟨#[]⟩, .slice none 0 0] 28)).cell? ⟨bw, 2, none⟩ = some (.slice (some ⟨g4, off4, none⟩) 1 cap4) := (Below.cell HA5.out (p := ⟨bw, 2, none⟩) c0).trans c6
    go_region_held3 (fun W => W.cell? ⟨br, 2, none⟩ = some (.slice (some ⟨g2, off2, none⟩) zs.length cap2) ∧ W.cell? ⟨bw, 2, none⟩ = some (.slice (some ⟨g4, off4, none⟩) 1 cap4) ∧ W.cell? ⟨g4, off4 + 2, none⟩ = some (.int .i64 z.version)) (first | exact ⟨a6, c6, d5⟩ | exact ⟨a7, c7, d6⟩ | exact ⟨a8, c8, d8⟩ | exact ⟨keep3 m2 a8, keep3 m3 c8, keep3 m1 d8⟩ | exact ⟨keepA l1 a8, keepA l2 c8, keepA l3 d8⟩ | go_keep) (first | (go_at_call 6; refine (HSo.out _ (HT5.out.ext (by first | exact (Ext.refl _).drew | exact ((Ext.refl _).drew).alloc _)).2.2.2.2.2.2.2.2 (HT5.out.ext (by first | exact (Ext.refl _).drew | exact ((Ext.refl _).drew).alloc _)).2.1).mono ?_; rintro e w6 ⟨v6, g6, rfl, hg6, hO6, hE6⟩; obtain ⟨ad6, cap6, rfl⟩ : ∃ ad' cap', v6 = .slice ad' 0 cap' := (by obtain ⟨a0, c0, h0, -⟩ := hO6; exact ⟨a0, c0, h0⟩); have HT6 : Hid (SSt w0 (.slice (some ⟨g, off, none⟩) zs.length cap) (.slice (some ⟨g2, off2, none⟩) zs.length cap2) (.slice (some ⟨g3, off3, none⟩) 1 cap3) (.slice (some ⟨g4, off4, none⟩) 1 cap4) zs zs' z z' br bg bw w6) := HT5.out.ext (by first | exact ((Ext.refl _).drew).trans hE6 | exact (((Ext.refl _).drew).alloc _).trans hE6); (first | (have hQ : RBox w6 w5.heap.size := (by have hQ0 := (RBox.new (World.drew w5) 28).ext hE6; simpa using hQ0); obtain ⟨q, q0, q1, q2, f0, f1, f2⟩ := hQ) | skip); have HX6 : Hid (w6.cell? ⟨br, 2, none⟩ = some (.slice (some ⟨g2, off2, none⟩) zs.length cap2) ∧ w6.cell? ⟨bw, 2, none⟩ = some (.slice (some ⟨g4, off4, none⟩) 1 cap4) ∧ w6.cell? ⟨g4, off4 + 2, none⟩ = some (.int .i64 z.version)) := (by obtain ⟨-, -, -, hw6, ⟨-, -, -, t1⟩, -, ⟨-, -, -, t2⟩, -⟩ := HT6.out; have t3 := ((hw6.one (by simp)).1 0 z rfl).2.2.1; rw [Nat.zero_mul, Nat.add_zero] at t3; exact ⟨t1, t2, t3⟩); obtain ⟨a8, c8, d8⟩ := HX6.out; have hl6 : w5.heap.size ≤ w6.heap.size := (by have h := hE6.size; simp at h; omega); have l1 : br < w6.heap.size := (by omega); have l2 : bw < w6.heap.size := (by omega); have l3 : g4 < w6.heap.size := (by omega); clear hl6; unfold zr))
    all_goals
      first
      | (have HTE : Hid (SSt w0 (.slice (some ⟨g, off, none⟩) zs.length cap) (.slice (some ⟨g2, off2, none⟩) zs.length cap2) (.slice (some ⟨g3, off3, none⟩) 1 cap3) (.slice (some ⟨g4, off4, none⟩) 1 cap4) zs zs' z z' br bg bw (w6.alloc (.cells #[.int .i64 7, .string ⟨#[]⟩, .slice ad6 0 cap6] 28))) := HT5.out.ext ((((Ext.refl _).drew).trans hE6).alloc _)
         have o0 : (w6.alloc (.cells #[.int .i64 7, .string ⟨#[]⟩, .slice ad6 0 cap6] 28)).cell? ⟨w6.heap.size, 0, none⟩ = some (.int .i64 7) := by simp
         generalize (w6.alloc (.cells #[.int .i64 7, .string ⟨#[]⟩, .slice ad6 0 cap6] 28)) = wE at HTE o0 ⊢
         generalize w6.heap.size = bo at o0 ⊢)
      | (have HTE : Hid (SSt w0 (.slice (some ⟨g, off, none⟩) zs.length cap) (.slice (some ⟨g2, off2, none⟩) zs.length cap2) (.slice (some ⟨g3, off3, none⟩) 1 cap3) (.slice (some ⟨g4, off4, none⟩) 1 cap4) zs zs' z z' br bg bw (((w6.setCell ⟨w5.heap.size, 0, none⟩ (.int .i64 7)).setCell ⟨w5.heap.size, 1, none⟩ (.string ⟨#[]⟩)).setCell ⟨w5.heap.size, 2, none⟩ (.slice ad6 0 cap6))) := HT5.out.ext ((((((((Ext.refl w5).drew).alloc _).trans hE6).setCell (p := ⟨w5.heap.size, 0, none⟩) (Nat.le_refl _) _).setCell (p := ⟨w5.heap.size, 1, none⟩) (Nat.le_refl _) _).setCell (p := ⟨w5.heap.size, 2, none⟩) (Nat.le_refl _) _))
         have o0 : (((w6.setCell ⟨w5.heap.size, 0, none⟩ (.int .i64 7)).setCell ⟨w5.heap.size, 1, none⟩ (.string ⟨#[]⟩)).setCell ⟨w5.heap.size, 2, none⟩ (.slice ad6 0 cap6)).cell? ⟨w5.heap.size, 0, none⟩ = some (.int .i64 7) := by rw [set_ne _ _ _ _ _ _ (by omega), set_ne _ _ _ _ _ _ (by omega)]; exact set_eq _ _ _ _ ⟨_, q0⟩
         generalize (((w6.setCell ⟨w5.heap.size, 0, none⟩ (.int .i64 7)).setCell ⟨w5.heap.size, 1, none⟩ (.string ⟨#[]⟩)).setCell ⟨w5.heap.size, 2, none⟩ (.slice ad6 0 cap6)) = wE at HTE o0 ⊢
         generalize w5.heap.size = bo at o0 ⊢)
    all_goals
      go_wp2
    all_goals
      clear d5 d6 a4 a5 a6 a7 b4 b5 b6 c4 c5 c6 c7
      have HO0 : Hid (wE.cell? ⟨bo, 0, none⟩ = some (.int .i64 7) ∧ bo < wE.heap.size) := ⟨o0, World.block_lt_of_cell? _ _ o0⟩
      clear o0
      go_loopw [11, 12] (fun tv iv wr => ∃ (i : Nat), i ≤ zs.length ∧ iv = .int .i64 i ∧ tv = .int .i64 (if k < i then 1 else 0) ∧ Hid (SSt w0 (.slice (some ⟨g, off, none⟩) zs.length cap) (.slice (some ⟨g2, off2, none⟩) zs.length cap2) (.slice (some ⟨g3, off3, none⟩) 1 cap3) (.slice (some ⟨g4, off4, none⟩) 1 cap4) zs zs' z z' br bg bw wr) ∧ Hid (wr.cell? ⟨bo, 0, none⟩ = some (.int .i64 7) ∧ bo < wr.heap.size)) (fun _ iv _ => zs.length - (intOf iv).toNat)
      case atStart => exact ⟨0, by omega, rfl, by simp, HTE, HO0⟩
      case round =>
        obtain ⟨i, hi, rfl, rfl, HTr, HOr⟩ := hrel
        by_cases hlt : i < zs.length
        · obtain ⟨x, hxi⟩ : ∃ x, zs[i]? = some x := ⟨_, List.getElem?_eq_getElem hlt⟩
          obtain ⟨hv, hrv, -, -, ⟨a0, a4, a5, a6⟩, -⟩ := HTr.out
          obtain ⟨hNv, hcv1, hcv2⟩ := hv.one hpos
          obtain ⟨hNr, hcr1, hcr2⟩ := hrv.one (by rw [HL.out]; exact hpos)
          obtain ⟨d0, d1, d2, d3, d4⟩ := hNv i x hxi
          unfold maxLen at hcv2 hcr2
          by_cases hik : i = k
          · subst hik
            obtain rfl : x = z := Option.some.inj (hxi.symm.trans HZ.out)
            obtain ⟨e0, e1, e2, e3, e4⟩ := hNr i z' HZk.out
            rw [y0] at e0
            rw [y1] at e1
            rw [y2] at e2
            rw [y3] at e3
            rw [y4] at e4
            have g2' : ¬ x.version = x.version + 1 := by omega
            rw [if_neg (Nat.lt_irrefl i)]
            have HT2 : Hid (SSt w0 (.slice (some ⟨g, off, none⟩) zs.length cap) (.slice (some ⟨g2, off2, none⟩) zs.length cap2) (.slice (some ⟨g3, off3, none⟩) 1 cap3) (.slice (some ⟨g4, off4, none⟩) 1 cap4) zs zs' x z' br bg bw wr.drew) := HTr.out.ext ((Ext.refl _).drew)
            have HO2 : Hid (wr.drew.cell? ⟨bo, 0, none⟩ = some (.int .i64 7) ∧ bo < wr.drew.heap.size) := HOr.out
            have HOne : Hid ((1 : Int) = if i < i + 1 then 1 else 0) := by show _ = _; rw [if_pos (Nat.lt_succ_self i)]
            clear hv hrv hNv hNr hxi HTE HO0 HGr HGw HSo
            by_cases g1 : x.data = d
            · go_wp2
              go_region
              all_goals go_wp2
              all_goals exact ⟨⟨i + 1, by omega, by go_num, by rw [← HOne.out], HT2, HO2⟩, by simp [intOf]; omega⟩
            · go_wp2
              go_region
              all_goals go_wp2
              all_goals exact ⟨⟨i + 1, by omega, by go_num, by rw [← HOne.out], HT2, HO2⟩, by simp [intOf]; omega⟩
          · obtain ⟨e0, e1, e2, e3, e4⟩ := hNr i x (by rw [HZj.out i hik]; exact hxi)
            have HT2 : Hid (SSt w0 (.slice (some ⟨g, off, none⟩) zs.length cap) (.slice (some ⟨g2, off2, none⟩) zs.length cap2) (.slice (some ⟨g3, off3, none⟩) 1 cap3) (.slice (some ⟨g4, off4, none⟩) 1 cap4) zs zs' z z' br bg bw wr.drew) := HTr.out.ext ((Ext.refl _).drew)
            have HO2 : Hid (wr.drew.cell? ⟨bo, 0, none⟩ = some (.int .i64 7) ∧ bo < wr.drew.heap.size) := HOr.out
            have HSame : Hid ((if k < i then (1 : Int) else 0) = if k < i + 1 then 1 else 0) := by
              show _ = _
              by_cases h : k < i
              · rw [if_pos h, if_pos (by omega)]
              · rw [if_neg h, if_neg (by omega)]
            clear hv hrv hNv hNr hxi HTE HO0 HGr HGw HSo
            generalize (if k < i then (1 : Int) else 0) = tt at *
            go_wp2
            go_region
            all_goals go_wp2
            all_goals exact ⟨⟨i + 1, by omega, by go_num, by rw [← HSame.out], HT2, HO2⟩, by simp [intOf]; omega⟩
        · have hil : i = zs.length := by omega
          subst hil
          rw [if_pos hkl]
          obtain ⟨hv, hrv, hgv, hwv, ⟨a0, a4, a5, a6⟩, ⟨b0, b4, b5, b6⟩, ⟨c0, c4, c5, c6⟩, -⟩ := HTr.out
          obtain ⟨hNg, hcg1, hcg2⟩ := hgv.one (by simp)
          obtain ⟨hNw, hcw1, hcw2⟩ := hwv.one (by simp)
          obtain ⟨-, p1, p2, -, -⟩ := hNg 0 z' rfl
          obtain ⟨-, -, r2, -, -⟩ := hNw 0 z rfl
          rw [Nat.zero_mul, Nat.add_zero] at p1 p2 r2
          rw [y1] at p1
          rw [y2] at p2
          have o0 := HOr.out.1
          unfold maxLen at hcg2 hcw2
          clear hv hrv hgv hwv hNg hNw HTE HO0 HGr HGw HSo
          have hvb : z.version + 1 ≤ 1000 := by omega
          have hwr : IntKind.i64.wrap (z.version + 1) = z.version + 1 := by rw [IntKind.wrap_i64]; omega
          have hvw : (z.version + 1 == IntKind.i64.wrap (z.version + 1)) = true := by rw [hwr]; simp
          have hdd : (d == d) = true := by simp
          have hvv : (z.version + 1 == z.version + 1) = true := by simp
          by_cases hn1 : n = -1
          · subst hn1
            go_wp2
            refine wp_region_held_drew (S := (fun W => W.cell? ⟨br, 2, none⟩ = some (.slice (some ⟨g2, off2, none⟩) zs.length cap2) ∧ W.cell? ⟨bg, 2, none⟩ = some (.slice (some ⟨g3, off3, none⟩) 1 cap3) ∧ W.cell? ⟨bw, 2, none⟩ = some (.slice (some ⟨g4, off4, none⟩) 1 cap4) ∧ W.cell? ⟨g3, off3 + 1, none⟩ = some (.int .i64 d) ∧ W.cell? ⟨g3, off3 + 2, none⟩ = some (.int .i64 (z.version + 1)) ∧ W.cell? ⟨g4, off4 + 2, none⟩ = some (.int .i64 z.version) ∧ W.cell? ⟨bo, 0, none⟩ = some (.int .i64 7))) (by kernel_rfl) ⟨a6, b6, c6, p1, p2, r2, o0⟩ (fun hHeld => ?_)
            refine wpAnyH_take (i := 0) (oi := { dst := some 96, op := Op.fieldAddr 28 (Operand.tmp 7) 2, type := 0, pos := "laws.go:129", after := #[], guard := none }) (v := ?_) rfl (by kernel_rfl) (by kernel_rfl) (by kernel_rfl) (fun _ _ _ h => h) (Or.inl ⟨by rfl, ?_⟩) (by assumption) ?_
            rotate_left
            · intro w' hSw; (try dsimp only at hSw); go_simp; try with_reducible rfl
            (try simp only [Act.put, List.setIfInBounds_toArray, List.set_cons_zero, List.set_cons_succ])
            refine wpAnyH_take (i := 1) (oi := { dst := some 97, op := Op.load 24 (Operand.tmp 96), type := 24, pos := "laws.go:129", after := #[{ on := 0, ground := Ground.data }], guard := none }) (v := ?_) rfl (by kernel_rfl) (by kernel_rfl) (by kernel_rfl) (fun _ _ _ h => h) (Or.inl ⟨by rfl, ?_⟩) (by assumption) ?_
            rotate_left
            · intro w' hSw; (try dsimp only at hSw); go_simp; try with_reducible rfl
            (try simp only [Act.put, List.setIfInBounds_toArray, List.set_cons_zero, List.set_cons_succ])
            refine wpAnyH_ready (rs := [2]) (by kernel_rfl) (by simp) (AllReadyH.cons rfl (fun K hK => ?_) AllReadyH.nil)
            go_simp
            (go_at_call 9; refine (HFt.out _ (HTr.out.ext (by first | exact (Ext.refl _).drew | exact Ext.refl _)).2.2.2.2.2.2.2.2 (HTr.out.ext (by first | exact (Ext.refl _).drew | exact Ext.refl _)).2.1).mono ?_; rintro e w9 ⟨rfl, hb9⟩; have HT9 : Hid (SSt w0 (.slice (some ⟨g, off, none⟩) zs.length cap) (.slice (some ⟨g2, off2, none⟩) zs.length cap2) (.slice (some ⟨g3, off3, none⟩) 1 cap3) (.slice (some ⟨g4, off4, none⟩) 1 cap4) zs zs' z z' br bg bw w9) := HTr.out.ext (by first | exact ((Ext.refl _).drew).trans hb9 | exact hb9); have O0 : w9.cell? ⟨bo, 0, none⟩ = some (.int .i64 7) := ((Ext.cell hb9).1 bo 0 (by simpa using HOr.out.2)).trans (by simpa using o0); obtain ⟨-, -, hgv9, hwv9, ⟨-, -, -, A6⟩, ⟨-, -, -, B6⟩, ⟨-, -, -, C6⟩, -⟩ := HT9.out; obtain ⟨-, P1, P2, -, -⟩ := (hgv9.one (by simp)).1 0 z' rfl; obtain ⟨-, -, R2, -, -⟩ := (hwv9.one (by simp)).1 0 z rfl; rw [Nat.zero_mul, Nat.add_zero] at P1 P2 R2; rw [y1] at P1; rw [y2] at P2; clear hgv9 hwv9 hb9)
            refine hK.out _ _ ⟨A6, B6, C6, P1, P2, R2, O0⟩ (fun hHeld2 => ?_)
            clear hK K
            refine wpAnyH_take (i := 3) (oi := { dst := some 99, op := Op.binOp BinOp.eql 2 (Operand.tmp 98) (Operand.const (Value.int IntKind.i64 0)) 2, type := 4, pos := "laws.go:129", after := #[{ on := 2, ground := Ground.data }], guard := none }) (v := ?_) rfl (by kernel_rfl) (by kernel_rfl) (by kernel_rfl) (fun _ _ _ h => h) (Or.inl ⟨by rfl, ?_⟩) (by assumption) ?_
            rotate_left
            · intro w' hSw; (try dsimp only at hSw); go_simp; try with_reducible rfl
            (try simp only [Act.put, List.setIfInBounds_toArray, List.set_cons_zero, List.set_cons_succ])
            refine wpAnyH_take (i := 4) (oi := { dst := some 100, op := Op.move (Operand.tmp 99), type := 4, pos := "laws.go:129", after := #[{ on := 3, ground := Ground.data }, { on := 2, ground := Ground.chain }], guard := none }) (v := ?_) rfl (by kernel_rfl) (by kernel_rfl) (by kernel_rfl) (fun _ _ _ h => h) (Or.inl ⟨by rfl, ?_⟩) (by assumption) ?_
            rotate_left
            · intro w' hSw; (try dsimp only at hSw); go_simp; try with_reducible rfl
            (try simp only [Act.put, List.setIfInBounds_toArray, List.set_cons_zero, List.set_cons_succ])
            refine wpAnyH_take (i := 5) (oi := { dst := some 101, op := Op.fieldAddr 28 (Operand.tmp 8) 2, type := 0, pos := "laws.go:129", after := #[{ on := 4, ground := Ground.guard }], guard := some (4, true) }) (v := ?_) rfl (by kernel_rfl) (by kernel_rfl) (by kernel_rfl) (fun _ _ _ h => h) (Or.inl ⟨by rfl, ?_⟩) (by assumption) ?_
            rotate_left
            · intro w' hSw; (try dsimp only at hSw); go_simp; try with_reducible rfl
            (try simp only [Act.put, List.setIfInBounds_toArray, List.set_cons_zero, List.set_cons_succ])
            refine wpAnyH_take (i := 6) (oi := { dst := some 102, op := Op.load 24 (Operand.tmp 101), type := 24, pos := "laws.go:129", after := #[{ on := 5, ground := Ground.data }, { on := 4, ground := Ground.guard }], guard := some (4, true) }) (v := ?_) rfl (by kernel_rfl) (by kernel_rfl) (by kernel_rfl) (fun _ _ _ h => h) (Or.inl ⟨by rfl, ?_⟩) (by assumption) ?_
            rotate_left
            · intro w' hSw; (try dsimp only at hSw); go_simp; try with_reducible rfl
            (try simp only [Act.put, List.setIfInBounds_toArray, List.set_cons_zero, List.set_cons_succ])
            refine wpAnyH_take (i := 7) (oi := { dst := some 103, op := Op.indexAddr 24 (Operand.tmp 102) (Operand.const (Value.int IntKind.i64 0)), type := 0, pos := "laws.go:129", after := #[{ on := 6, ground := Ground.data }, { on := 4, ground := Ground.guard }], guard := some (4, true) }) (v := ?_) rfl (by kernel_rfl) (by kernel_rfl) (by kernel_rfl) (fun _ _ _ h => h) (Or.inl ⟨by rfl, ?_⟩) (by assumption) ?_
            rotate_left
            · intro w' hSw; (try dsimp only at hSw); go_simp; try with_reducible rfl
            (try simp only [Act.put, List.setIfInBounds_toArray, List.set_cons_zero, List.set_cons_succ])
            refine wpAnyH_take (i := 8) (oi := { dst := some 104, op := Op.fieldAddr 32 (Operand.tmp 103) 1, type := 0, pos := "laws.go:129", after := #[{ on := 7, ground := Ground.data }, { on := 4, ground := Ground.guard }], guard := some (4, true) }) (v := ?_) rfl (by kernel_rfl) (by kernel_rfl) (by kernel_rfl) (fun _ _ _ h => h) (Or.inl ⟨by rfl, ?_⟩) (by assumption) ?_
            rotate_left
            · intro w' hSw; (try dsimp only at hSw); go_simp; try with_reducible rfl
            (try simp only [Act.put, List.setIfInBounds_toArray, List.set_cons_zero, List.set_cons_succ])
            refine wpAnyH_take (i := 9) (oi := { dst := some 105, op := Op.load 2 (Operand.tmp 104), type := 2, pos := "laws.go:129", after := #[{ on := 8, ground := Ground.data }, { on := 4, ground := Ground.guard }], guard := some (4, true) }) (v := ?_) rfl (by kernel_rfl) (by kernel_rfl) (by kernel_rfl) (fun _ _ _ h => h) (Or.inl ⟨by rfl, ?_⟩) (by assumption) ?_
            rotate_left
            · intro w' hSw; (try dsimp only at hSw); go_simp; try with_reducible rfl
            (try simp only [Act.put, List.setIfInBounds_toArray, List.set_cons_zero, List.set_cons_succ])
            refine wpAnyH_take (i := 10) (oi := { dst := some 106, op := Op.move (Operand.tmp 5), type := 2, pos := "laws.go:129", after := #[{ on := 4, ground := Ground.guard }], guard := some (4, true) }) (v := ?_) rfl (by kernel_rfl) (by kernel_rfl) (by kernel_rfl) (fun _ _ _ h => h) (Or.inl ⟨by rfl, ?_⟩) (by assumption) ?_
            rotate_left
            · intro w' hSw; (try dsimp only at hSw); go_simp; try with_reducible rfl
            (try simp only [Act.put, List.setIfInBounds_toArray, List.set_cons_zero, List.set_cons_succ])
            refine wpAnyH_take (i := 11) (oi := { dst := some 107, op := Op.binOp BinOp.eql 2 (Operand.tmp 105) (Operand.tmp 106) 2, type := 4, pos := "laws.go:129", after := #[{ on := 9, ground := Ground.data }, { on := 10, ground := Ground.data }, { on := 4, ground := Ground.guard }], guard := some (4, true) }) (v := ?_) rfl (by kernel_rfl) (by kernel_rfl) (by kernel_rfl) (fun _ _ _ h => h) (Or.inl ⟨by rfl, ?_⟩) (by assumption) ?_
            rotate_left
            · intro w' hSw; (try dsimp only at hSw); go_simp; try with_reducible rfl
            (try simp only [Act.put, List.setIfInBounds_toArray, List.set_cons_zero, List.set_cons_succ])
            refine wpAnyH_take (i := 12) (oi := { dst := some 108, op := Op.pick (Operand.tmp 100) (Operand.tmp 107) (Operand.const (Value.bool false)), type := 4, pos := "laws.go:129", after := #[{ on := 4, ground := Ground.data }, { on := 11, ground := Ground.data }], guard := none }) (v := ?_) rfl (by kernel_rfl) (by kernel_rfl) (by kernel_rfl) (fun _ _ _ h => h) (Or.inl ⟨by rfl, ?_⟩) (by assumption) ?_
            rotate_left
            · intro w' hSw; (try dsimp only at hSw); go_simp; try with_reducible rfl
            (try simp only [Act.put, List.setIfInBounds_toArray, List.set_cons_zero, List.set_cons_succ])
            refine wpAnyH_take (i := 13) (oi := { dst := some 109, op := Op.move (Operand.tmp 108), type := 4, pos := "laws.go:129", after := #[{ on := 12, ground := Ground.data }, { on := 4, ground := Ground.chain }], guard := none }) (v := ?_) rfl (by kernel_rfl) (by kernel_rfl) (by kernel_rfl) (fun _ _ _ h => h) (Or.inl ⟨by rfl, ?_⟩) (by assumption) ?_
            rotate_left
            · intro w' hSw; (try dsimp only at hSw); go_simp; try with_reducible rfl
            (try simp only [Act.put, List.setIfInBounds_toArray, List.set_cons_zero, List.set_cons_succ])
            refine wpAnyH_take (i := 14) (oi := { dst := some 110, op := Op.fieldAddr 28 (Operand.tmp 8) 2, type := 0, pos := "laws.go:129", after := #[{ on := 13, ground := Ground.guard }], guard := some (13, true) }) (v := ?_) rfl (by kernel_rfl) (by kernel_rfl) (by kernel_rfl) (fun _ _ _ h => h) (Or.inl ⟨by rfl, ?_⟩) (by assumption) ?_
            rotate_left
            · intro w' hSw; (try dsimp only at hSw); go_simp; try with_reducible rfl
            (try simp only [Act.put, List.setIfInBounds_toArray, List.set_cons_zero, List.set_cons_succ])
            refine wpAnyH_take (i := 15) (oi := { dst := some 111, op := Op.load 24 (Operand.tmp 110), type := 24, pos := "laws.go:129", after := #[{ on := 14, ground := Ground.data }, { on := 13, ground := Ground.guard }], guard := some (13, true) }) (v := ?_) rfl (by kernel_rfl) (by kernel_rfl) (by kernel_rfl) (fun _ _ _ h => h) (Or.inl ⟨by rfl, ?_⟩) (by assumption) ?_
            rotate_left
            · intro w' hSw; (try dsimp only at hSw); go_simp; try with_reducible rfl
            (try simp only [Act.put, List.setIfInBounds_toArray, List.set_cons_zero, List.set_cons_succ])
            refine wpAnyH_take (i := 16) (oi := { dst := some 112, op := Op.indexAddr 24 (Operand.tmp 111) (Operand.const (Value.int IntKind.i64 0)), type := 0, pos := "laws.go:129", after := #[{ on := 15, ground := Ground.data }, { on := 13, ground := Ground.guard }], guard := some (13, true) }) (v := ?_) rfl (by kernel_rfl) (by kernel_rfl) (by kernel_rfl) (fun _ _ _ h => h) (Or.inl ⟨by rfl, ?_⟩) (by assumption) ?_
            rotate_left
            · intro w' hSw; (try dsimp only at hSw); go_simp; try with_reducible rfl
            (try simp only [Act.put, List.setIfInBounds_toArray, List.set_cons_zero, List.set_cons_succ])
            refine wpAnyH_take (i := 17) (oi := { dst := some 113, op := Op.fieldAddr 32 (Operand.tmp 112) 2, type := 0, pos := "laws.go:129", after := #[{ on := 16, ground := Ground.data }, { on := 13, ground := Ground.guard }], guard := some (13, true) }) (v := ?_) rfl (by kernel_rfl) (by kernel_rfl) (by kernel_rfl) (fun _ _ _ h => h) (Or.inl ⟨by rfl, ?_⟩) (by assumption) ?_
            rotate_left
            · intro w' hSw; (try dsimp only at hSw); go_simp; try with_reducible rfl
            (try simp only [Act.put, List.setIfInBounds_toArray, List.set_cons_zero, List.set_cons_succ])
            refine wpAnyH_take (i := 18) (oi := { dst := some 114, op := Op.load 2 (Operand.tmp 113), type := 2, pos := "laws.go:129", after := #[{ on := 17, ground := Ground.data }, { on := 13, ground := Ground.guard }], guard := some (13, true) }) (v := ?_) rfl (by kernel_rfl) (by kernel_rfl) (by kernel_rfl) (fun _ _ _ h => h) (Or.inl ⟨by rfl, ?_⟩) (by assumption) ?_
            rotate_left
            · intro w' hSw; (try dsimp only at hSw); go_simp; try with_reducible rfl
            (try simp only [Act.put, List.setIfInBounds_toArray, List.set_cons_zero, List.set_cons_succ])
            refine wpAnyH_take (i := 19) (oi := { dst := some 115, op := Op.fieldAddr 28 (Operand.tmp 9) 2, type := 0, pos := "laws.go:129", after := #[{ on := 13, ground := Ground.guard }], guard := some (13, true) }) (v := ?_) rfl (by kernel_rfl) (by kernel_rfl) (by kernel_rfl) (fun _ _ _ h => h) (Or.inl ⟨by rfl, ?_⟩) (by assumption) ?_
            rotate_left
            · intro w' hSw; (try dsimp only at hSw); go_simp; try with_reducible rfl
            (try simp only [Act.put, List.setIfInBounds_toArray, List.set_cons_zero, List.set_cons_succ])
            refine wpAnyH_take (i := 20) (oi := { dst := some 116, op := Op.load 24 (Operand.tmp 115), type := 24, pos := "laws.go:129", after := #[{ on := 19, ground := Ground.data }, { on := 13, ground := Ground.guard }], guard := some (13, true) }) (v := ?_) rfl (by kernel_rfl) (by kernel_rfl) (by kernel_rfl) (fun _ _ _ h => h) (Or.inl ⟨by rfl, ?_⟩) (by assumption) ?_
            rotate_left
            · intro w' hSw; (try dsimp only at hSw); go_simp; try with_reducible rfl
            (try simp only [Act.put, List.setIfInBounds_toArray, List.set_cons_zero, List.set_cons_succ])
            refine wpAnyH_take (i := 21) (oi := { dst := some 117, op := Op.indexAddr 24 (Operand.tmp 116) (Operand.const (Value.int IntKind.i64 0)), type := 0, pos := "laws.go:129", after := #[{ on := 20, ground := Ground.data }, { on := 13, ground := Ground.guard }], guard := some (13, true) }) (v := ?_) rfl (by kernel_rfl) (by kernel_rfl) (by kernel_rfl) (fun _ _ _ h => h) (Or.inl ⟨by rfl, ?_⟩) (by assumption) ?_
            rotate_left
            · intro w' hSw; (try dsimp only at hSw); go_simp; try with_reducible rfl
            (try simp only [Act.put, List.setIfInBounds_toArray, List.set_cons_zero, List.set_cons_succ])
            refine wpAnyH_take (i := 22) (oi := { dst := some 118, op := Op.fieldAddr 32 (Operand.tmp 117) 2, type := 0, pos := "laws.go:129", after := #[{ on := 21, ground := Ground.data }, { on := 13, ground := Ground.guard }], guard := some (13, true) }) (v := ?_) rfl (by kernel_rfl) (by kernel_rfl) (by kernel_rfl) (fun _ _ _ h => h) (Or.inl ⟨by rfl, ?_⟩) (by assumption) ?_
            rotate_left
            · intro w' hSw; (try dsimp only at hSw); go_simp; try with_reducible rfl
            (try simp only [Act.put, List.setIfInBounds_toArray, List.set_cons_zero, List.set_cons_succ])
            refine wpAnyH_take (i := 23) (oi := { dst := some 119, op := Op.load 2 (Operand.tmp 118), type := 2, pos := "laws.go:129", after := #[{ on := 22, ground := Ground.data }, { on := 13, ground := Ground.guard }], guard := some (13, true) }) (v := ?_) rfl (by kernel_rfl) (by kernel_rfl) (by kernel_rfl) (fun _ _ _ h => h) (Or.inl ⟨by rfl, ?_⟩) (by assumption) ?_
            rotate_left
            · intro w' hSw; (try dsimp only at hSw); go_simp; try with_reducible rfl
            (try simp only [Act.put, List.setIfInBounds_toArray, List.set_cons_zero, List.set_cons_succ])
            refine wpAnyH_take (i := 24) (oi := { dst := some 120, op := Op.binOp BinOp.add 2 (Operand.tmp 119) (Operand.const (Value.int IntKind.i64 1)) 2, type := 2, pos := "laws.go:129", after := #[{ on := 23, ground := Ground.data }, { on := 13, ground := Ground.guard }], guard := some (13, true) }) (v := ?_) rfl (by kernel_rfl) (by kernel_rfl) (by kernel_rfl) (fun _ _ _ h => h) (Or.inl ⟨by rfl, ?_⟩) (by assumption) ?_
            rotate_left
            · intro w' hSw; (try dsimp only at hSw); go_simp; try with_reducible rfl
            (try simp only [Act.put, List.setIfInBounds_toArray, List.set_cons_zero, List.set_cons_succ])
            refine wpAnyH_take (i := 25) (oi := { dst := some 121, op := Op.binOp BinOp.eql 2 (Operand.tmp 114) (Operand.tmp 120) 2, type := 4, pos := "laws.go:129", after := #[{ on := 18, ground := Ground.data }, { on := 24, ground := Ground.data }, { on := 13, ground := Ground.guard }], guard := some (13, true) }) (v := ?_) rfl (by kernel_rfl) (by kernel_rfl) (by kernel_rfl) (fun _ _ _ h => h) (Or.inl ⟨by rfl, ?_⟩) (by assumption) ?_
            rotate_left
            · intro w' hSw; (try dsimp only at hSw); go_simp; try with_reducible rfl
            (try simp only [Act.put, List.setIfInBounds_toArray, List.set_cons_zero, List.set_cons_succ])
            refine wpAnyH_take (i := 26) (oi := { dst := some 122, op := Op.pick (Operand.tmp 109) (Operand.tmp 121) (Operand.const (Value.bool false)), type := 4, pos := "laws.go:129", after := #[{ on := 13, ground := Ground.data }, { on := 25, ground := Ground.data }], guard := none }) (v := ?_) rfl (by kernel_rfl) (by kernel_rfl) (by kernel_rfl) (fun _ _ _ h => h) (Or.inl ⟨by rfl, ?_⟩) (by assumption) ?_
            rotate_left
            · intro w' hSw; (try dsimp only at hSw); go_simp; try with_reducible rfl
            (try simp only [Act.put, List.setIfInBounds_toArray, List.set_cons_zero, List.set_cons_succ])
            refine wpAnyH_take (i := 27) (oi := { dst := some 123, op := Op.move (Operand.tmp 122), type := 4, pos := "laws.go:129", after := #[{ on := 26, ground := Ground.data }, { on := 13, ground := Ground.chain }], guard := none }) (v := ?_) rfl (by kernel_rfl) (by kernel_rfl) (by kernel_rfl) (fun _ _ _ h => h) (Or.inl ⟨by rfl, ?_⟩) (by assumption) ?_
            rotate_left
            · intro w' hSw; (try dsimp only at hSw); go_simp; try with_reducible rfl
            (try simp only [Act.put, List.setIfInBounds_toArray, List.set_cons_zero, List.set_cons_succ])
            refine wpAnyH_take (i := 28) (oi := { dst := some 124, op := Op.move (Operand.tmp 6), type := 2, pos := "laws.go:129", after := #[{ on := 27, ground := Ground.guard }], guard := some (27, true) }) (v := ?_) rfl (by kernel_rfl) (by kernel_rfl) (by kernel_rfl) (fun _ _ _ h => h) (Or.inl ⟨by rfl, ?_⟩) (by assumption) ?_
            rotate_left
            · intro w' hSw; (try dsimp only at hSw); go_simp; try with_reducible rfl
            (try simp only [Act.put, List.setIfInBounds_toArray, List.set_cons_zero, List.set_cons_succ])
            refine wpAnyH_take (i := 29) (oi := { dst := some 125, op := Op.binOp BinOp.eql 2 (Operand.tmp 124) (Operand.const (Value.int IntKind.i64 (-1))) 2, type := 4, pos := "laws.go:129", after := #[{ on := 28, ground := Ground.data }, { on := 27, ground := Ground.guard }], guard := some (27, true) }) (v := ?_) rfl (by kernel_rfl) (by kernel_rfl) (by kernel_rfl) (fun _ _ _ h => h) (Or.inl ⟨by rfl, ?_⟩) (by assumption) ?_
            rotate_left
            · intro w' hSw; (try dsimp only at hSw); go_simp; try with_reducible rfl
            (try simp only [Act.put, List.setIfInBounds_toArray, List.set_cons_zero, List.set_cons_succ])
            refine wpAnyH_take (i := 30) (oi := { dst := some 126, op := Op.move (Operand.tmp 125), type := 4, pos := "laws.go:129", after := #[{ on := 29, ground := Ground.data }, { on := 27, ground := Ground.chain }, { on := 27, ground := Ground.guard }], guard := some (27, true) }) (v := ?_) rfl (by kernel_rfl) (by kernel_rfl) (by kernel_rfl) (fun _ _ _ h => h) (Or.inl ⟨by rfl, ?_⟩) (by assumption) ?_
            rotate_left
            · intro w' hSw; (try dsimp only at hSw); go_simp; try with_reducible rfl
            (try simp only [Act.put, List.setIfInBounds_toArray, List.set_cons_zero, List.set_cons_succ])
            refine wpAnyH_take (i := 31) (oi := { dst := some 127, op := Op.move (Operand.tmp 6), type := 2, pos := "laws.go:129", after := #[{ on := 30, ground := Ground.guard }], guard := some (30, false) }) (v := undef) rfl (by kernel_rfl) (by kernel_rfl) (by kernel_rfl) (fun _ _ _ h => h) (Or.inr ⟨by rfl, rfl⟩) (by assumption) ?_
            (try simp only [Act.put, List.setIfInBounds_toArray, List.set_cons_zero, List.set_cons_succ])
            refine wpAnyH_take (i := 32) (oi := { dst := some 128, op := Op.fieldAddr 28 (Operand.tmp 9) 2, type := 0, pos := "laws.go:129", after := #[{ on := 30, ground := Ground.guard }], guard := some (30, false) }) (v := undef) rfl (by kernel_rfl) (by kernel_rfl) (by kernel_rfl) (fun _ _ _ h => h) (Or.inr ⟨by rfl, rfl⟩) (by assumption) ?_
            (try simp only [Act.put, List.setIfInBounds_toArray, List.set_cons_zero, List.set_cons_succ])
            refine wpAnyH_take (i := 33) (oi := { dst := some 129, op := Op.load 24 (Operand.tmp 128), type := 24, pos := "laws.go:129", after := #[{ on := 32, ground := Ground.data }, { on := 30, ground := Ground.guard }], guard := some (30, false) }) (v := undef) rfl (by kernel_rfl) (by kernel_rfl) (by kernel_rfl) (fun _ _ _ h => h) (Or.inr ⟨by rfl, rfl⟩) (by assumption) ?_
            (try simp only [Act.put, List.setIfInBounds_toArray, List.set_cons_zero, List.set_cons_succ])
            refine wpAnyH_take (i := 34) (oi := { dst := some 130, op := Op.indexAddr 24 (Operand.tmp 129) (Operand.const (Value.int IntKind.i64 0)), type := 0, pos := "laws.go:129", after := #[{ on := 33, ground := Ground.data }, { on := 30, ground := Ground.guard }], guard := some (30, false) }) (v := undef) rfl (by kernel_rfl) (by kernel_rfl) (by kernel_rfl) (fun _ _ _ h => h) (Or.inr ⟨by rfl, rfl⟩) (by assumption) ?_
            (try simp only [Act.put, List.setIfInBounds_toArray, List.set_cons_zero, List.set_cons_succ])
            refine wpAnyH_take (i := 35) (oi := { dst := some 131, op := Op.fieldAddr 32 (Operand.tmp 130) 2, type := 0, pos := "laws.go:129", after := #[{ on := 34, ground := Ground.data }, { on := 30, ground := Ground.guard }], guard := some (30, false) }) (v := undef) rfl (by kernel_rfl) (by kernel_rfl) (by kernel_rfl) (fun _ _ _ h => h) (Or.inr ⟨by rfl, rfl⟩) (by assumption) ?_
            (try simp only [Act.put, List.setIfInBounds_toArray, List.set_cons_zero, List.set_cons_succ])
            refine wpAnyH_take (i := 36) (oi := { dst := some 132, op := Op.load 2 (Operand.tmp 131), type := 2, pos := "laws.go:129", after := #[{ on := 35, ground := Ground.data }, { on := 30, ground := Ground.guard }], guard := some (30, false) }) (v := undef) rfl (by kernel_rfl) (by kernel_rfl) (by kernel_rfl) (fun _ _ _ h => h) (Or.inr ⟨by rfl, rfl⟩) (by assumption) ?_
            (try simp only [Act.put, List.setIfInBounds_toArray, List.set_cons_zero, List.set_cons_succ])
            refine wpAnyH_take (i := 37) (oi := { dst := some 133, op := Op.binOp BinOp.eql 2 (Operand.tmp 127) (Operand.tmp 132) 2, type := 4, pos := "laws.go:129", after := #[{ on := 31, ground := Ground.data }, { on := 36, ground := Ground.data }, { on := 30, ground := Ground.guard }], guard := some (30, false) }) (v := undef) rfl (by kernel_rfl) (by kernel_rfl) (by kernel_rfl) (fun _ _ _ h => h) (Or.inr ⟨by rfl, rfl⟩) (by assumption) ?_
            (try simp only [Act.put, List.setIfInBounds_toArray, List.set_cons_zero, List.set_cons_succ])
            refine wpAnyH_take (i := 38) (oi := { dst := some 134, op := Op.pick (Operand.tmp 126) (Operand.const (Value.bool true)) (Operand.tmp 133), type := 4, pos := "laws.go:129", after := #[{ on := 30, ground := Ground.data }, { on := 37, ground := Ground.data }, { on := 27, ground := Ground.guard }], guard := some (27, true) }) (v := ?_) rfl (by kernel_rfl) (by kernel_rfl) (by kernel_rfl) (fun _ _ _ h => h) (Or.inl ⟨by rfl, ?_⟩) (by assumption) ?_
            rotate_left
            · intro w' hSw; (try dsimp only at hSw); go_simp; try with_reducible rfl
            (try simp only [Act.put, List.setIfInBounds_toArray, List.set_cons_zero, List.set_cons_succ])
            refine wpAnyH_take (i := 39) (oi := { dst := some 135, op := Op.pick (Operand.tmp 123) (Operand.tmp 134) (Operand.const (Value.bool false)), type := 4, pos := "laws.go:129", after := #[{ on := 27, ground := Ground.data }, { on := 38, ground := Ground.data }], guard := none }) (v := ?_) rfl (by kernel_rfl) (by kernel_rfl) (by kernel_rfl) (fun _ _ _ h => h) (Or.inl ⟨by rfl, ?_⟩) (by assumption) ?_
            rotate_left
            · intro w' hSw; (try dsimp only at hSw); go_simp; try with_reducible rfl
            (try simp only [Act.put, List.setIfInBounds_toArray, List.set_cons_zero, List.set_cons_succ])
            refine wpAnyH_take (i := 40) (oi := { dst := some 136, op := Op.move (Operand.tmp 135), type := 4, pos := "laws.go:129", after := #[{ on := 39, ground := Ground.data }, { on := 30, ground := Ground.chain }], guard := none }) (v := ?_) rfl (by kernel_rfl) (by kernel_rfl) (by kernel_rfl) (fun _ _ _ h => h) (Or.inl ⟨by rfl, ?_⟩) (by assumption) ?_
            rotate_left
            · intro w' hSw; (try dsimp only at hSw); go_simp; try with_reducible rfl
            (try simp only [Act.put, List.setIfInBounds_toArray, List.set_cons_zero, List.set_cons_succ])
            refine wpAnyH_take (i := 41) (oi := { dst := some 137, op := Op.fieldAddr 28 (Operand.tmp 10) 0, type := 0, pos := "laws.go:129", after := #[{ on := 40, ground := Ground.guard }], guard := some (40, true) }) (v := ?_) rfl (by kernel_rfl) (by kernel_rfl) (by kernel_rfl) (fun _ _ _ h => h) (Or.inl ⟨by rfl, ?_⟩) (by assumption) ?_
            rotate_left
            · intro w' hSw; (try dsimp only at hSw); go_simp; try with_reducible rfl
            (try simp only [Act.put, List.setIfInBounds_toArray, List.set_cons_zero, List.set_cons_succ])
            refine wpAnyH_take (i := 42) (oi := { dst := some 138, op := Op.load 2 (Operand.tmp 137), type := 2, pos := "laws.go:129", after := #[{ on := 41, ground := Ground.data }, { on := 40, ground := Ground.guard }], guard := some (40, true) }) (v := ?_) rfl (by kernel_rfl) (by kernel_rfl) (by kernel_rfl) (fun _ _ _ h => h) (Or.inl ⟨by rfl, ?_⟩) (by assumption) ?_
            rotate_left
            · intro w' hSw; (try dsimp only at hSw); go_simp; try with_reducible rfl
            (try simp only [Act.put, List.setIfInBounds_toArray, List.set_cons_zero, List.set_cons_succ])
            refine wpAnyH_take (i := 43) (oi := { dst := some 139, op := Op.binOp BinOp.eql 2 (Operand.tmp 138) (Operand.const (Value.int IntKind.i64 7)) 2, type := 4, pos := "laws.go:129", after := #[{ on := 42, ground := Ground.data }, { on := 40, ground := Ground.guard }], guard := some (40, true) }) (v := ?_) rfl (by kernel_rfl) (by kernel_rfl) (by kernel_rfl) (fun _ _ _ h => h) (Or.inl ⟨by rfl, ?_⟩) (by assumption) ?_
            rotate_left
            · intro w' hSw; (try dsimp only at hSw); go_simp; try with_reducible rfl
            (try simp only [Act.put, List.setIfInBounds_toArray, List.set_cons_zero, List.set_cons_succ])
            refine wpAnyH_take (i := 44) (oi := { dst := some 140, op := Op.pick (Operand.tmp 136) (Operand.tmp 139) (Operand.const (Value.bool false)), type := 4, pos := "laws.go:129", after := #[{ on := 40, ground := Ground.data }, { on := 43, ground := Ground.data }], guard := none }) (v := ?_) rfl (by kernel_rfl) (by kernel_rfl) (by kernel_rfl) (fun _ _ _ h => h) (Or.inl ⟨by rfl, ?_⟩) (by assumption) ?_
            rotate_left
            · intro w' hSw; (try dsimp only at hSw); go_simp; try with_reducible rfl
            (try simp only [Act.put, List.setIfInBounds_toArray, List.set_cons_zero, List.set_cons_succ])
            refine wpAnyH_take (i := 45) (oi := { dst := some 141, op := Op.move (Operand.tmp 140), type := 4, pos := "laws.go:129", after := #[{ on := 44, ground := Ground.data }, { on := 40, ground := Ground.chain }], guard := none }) (v := ?_) rfl (by kernel_rfl) (by kernel_rfl) (by kernel_rfl) (fun _ _ _ h => h) (Or.inl ⟨by rfl, ?_⟩) (by assumption) ?_
            rotate_left
            · intro w' hSw; (try dsimp only at hSw); go_simp; try with_reducible rfl
            (try simp only [Act.put, List.setIfInBounds_toArray, List.set_cons_zero, List.set_cons_succ])
            refine wpAnyH_take (i := 46) (oi := { dst := some 142, op := Op.move (Operand.tmp 11), type := 3, pos := "laws.go:129", after := #[{ on := 45, ground := Ground.guard }], guard := some (45, true) }) (v := ?_) rfl (by kernel_rfl) (by kernel_rfl) (by kernel_rfl) (fun _ _ _ h => h) (Or.inl ⟨by rfl, ?_⟩) (by assumption) ?_
            rotate_left
            · intro w' hSw; (try dsimp only at hSw); go_simp; try with_reducible rfl
            (try simp only [Act.put, List.setIfInBounds_toArray, List.set_cons_zero, List.set_cons_succ])
            refine wpAnyH_take (i := 47) (oi := { dst := some 143, op := Op.binOp BinOp.eql 3 (Operand.tmp 142) (Operand.const (Value.int IntKind.i64 1)) 3, type := 4, pos := "laws.go:129", after := #[{ on := 46, ground := Ground.data }, { on := 45, ground := Ground.guard }], guard := some (45, true) }) (v := ?_) rfl (by kernel_rfl) (by kernel_rfl) (by kernel_rfl) (fun _ _ _ h => h) (Or.inl ⟨by rfl, ?_⟩) (by assumption) ?_
            rotate_left
            · intro w' hSw; (try dsimp only at hSw); go_simp; try with_reducible rfl
            (try simp only [Act.put, List.setIfInBounds_toArray, List.set_cons_zero, List.set_cons_succ])
            refine wpAnyH_take (i := 48) (oi := { dst := some 144, op := Op.pick (Operand.tmp 141) (Operand.tmp 143) (Operand.const (Value.bool false)), type := 4, pos := "laws.go:129", after := #[{ on := 45, ground := Ground.data }, { on := 47, ground := Ground.data }], guard := none }) (v := ?_) rfl (by kernel_rfl) (by kernel_rfl) (by kernel_rfl) (fun _ _ _ h => h) (Or.inl ⟨by rfl, ?_⟩) (by assumption) ?_
            rotate_left
            · intro w' hSw; (try dsimp only at hSw); go_simp; try with_reducible rfl
            (try simp only [Act.put, List.setIfInBounds_toArray, List.set_cons_zero, List.set_cons_succ])
            refine wpAnyH_take (i := 49) (oi := { dst := some 145, op := Op.move (Operand.tmp 144), type := 4, pos := "laws.go:129", after := #[{ on := 48, ground := Ground.data }, { on := 45, ground := Ground.chain }], guard := none }) (v := ?_) rfl (by kernel_rfl) (by kernel_rfl) (by kernel_rfl) (fun _ _ _ h => h) (Or.inl ⟨by rfl, ?_⟩) (by assumption) ?_
            rotate_left
            · intro w' hSw; (try dsimp only at hSw); go_simp; try with_reducible rfl
            (try simp only [Act.put, List.setIfInBounds_toArray, List.set_cons_zero, List.set_cons_succ])
            refine wpAnyH_take (i := 50) (oi := { dst := some 146, op := Op.fieldAddr 28 (Operand.tmp 7) 2, type := 0, pos := "laws.go:129", after := #[{ on := 49, ground := Ground.guard }], guard := some (49, true) }) (v := ?_) rfl (by kernel_rfl) (by kernel_rfl) (by kernel_rfl) (fun _ _ _ h => h) (Or.inl ⟨by rfl, ?_⟩) (by assumption) ?_
            rotate_left
            · intro w' hSw; (try dsimp only at hSw); go_simp; try with_reducible rfl
            (try simp only [Act.put, List.setIfInBounds_toArray, List.set_cons_zero, List.set_cons_succ])
            refine wpAnyH_take (i := 51) (oi := { dst := some 147, op := Op.load 24 (Operand.tmp 146), type := 24, pos := "laws.go:129", after := #[{ on := 50, ground := Ground.data }, { on := 49, ground := Ground.guard }], guard := some (49, true) }) (v := ?_) rfl (by kernel_rfl) (by kernel_rfl) (by kernel_rfl) (fun _ _ _ h => h) (Or.inl ⟨by rfl, ?_⟩) (by assumption) ?_
            rotate_left
            · intro w' hSw; (try dsimp only at hSw); go_simp; try with_reducible rfl
            (try simp only [Act.put, List.setIfInBounds_toArray, List.set_cons_zero, List.set_cons_succ])
            refine wpAnyH_take (i := 52) (oi := { dst := some 148, op := Op.call { callee := Callee.builtin Builtin.len, args := #[Operand.tmp 147], argTypes := #[24] }, type := 3, pos := "laws.go:129", after := #[{ on := 51, ground := Ground.data }, { on := 49, ground := Ground.guard }], guard := some (49, true) }) (v := ?_) rfl (by kernel_rfl) (by kernel_rfl) (by kernel_rfl) (fun _ _ _ h => h) (Or.inl ⟨by rfl, ?_⟩) (by assumption) ?_
            rotate_left
            · intro w' hSw; (try dsimp only at hSw); go_simp; try with_reducible rfl
            (try simp only [Act.put, List.setIfInBounds_toArray, List.set_cons_zero, List.set_cons_succ])
            refine wpAnyH_take (i := 53) (oi := { dst := some 149, op := Op.move (Operand.tmp 3), type := 24, pos := "laws.go:129", after := #[{ on := 49, ground := Ground.guard }], guard := some (49, true) }) (v := ?_) rfl (by kernel_rfl) (by kernel_rfl) (by kernel_rfl) (fun _ _ _ h => h) (Or.inl ⟨by rfl, ?_⟩) (by assumption) ?_
            rotate_left
            · intro w' hSw; (try dsimp only at hSw); go_simp; try with_reducible rfl
            (try simp only [Act.put, List.setIfInBounds_toArray, List.set_cons_zero, List.set_cons_succ])
            refine wpAnyH_take (i := 54) (oi := { dst := some 150, op := Op.call { callee := Callee.builtin Builtin.len, args := #[Operand.tmp 149], argTypes := #[24] }, type := 3, pos := "laws.go:129", after := #[{ on := 53, ground := Ground.data }, { on := 49, ground := Ground.guard }], guard := some (49, true) }) (v := ?_) rfl (by kernel_rfl) (by kernel_rfl) (by kernel_rfl) (fun _ _ _ h => h) (Or.inl ⟨by rfl, ?_⟩) (by assumption) ?_
            rotate_left
            · intro w' hSw; (try dsimp only at hSw); go_simp; try with_reducible rfl
            (try simp only [Act.put, List.setIfInBounds_toArray, List.set_cons_zero, List.set_cons_succ])
            refine wpAnyH_take (i := 55) (oi := { dst := some 151, op := Op.binOp BinOp.eql 3 (Operand.tmp 148) (Operand.tmp 150) 3, type := 4, pos := "laws.go:129", after := #[{ on := 52, ground := Ground.data }, { on := 54, ground := Ground.data }, { on := 49, ground := Ground.guard }], guard := some (49, true) }) (v := ?_) rfl (by kernel_rfl) (by kernel_rfl) (by kernel_rfl) (fun _ _ _ h => h) (Or.inl ⟨by rfl, ?_⟩) (by assumption) ?_
            rotate_left
            · intro w' hSw; (try dsimp only at hSw); go_simp; try with_reducible rfl
            (try simp only [Act.put, List.setIfInBounds_toArray, List.set_cons_zero, List.set_cons_succ])
            refine wpAnyH_take (i := 56) (oi := { dst := some 152, op := Op.pick (Operand.tmp 145) (Operand.tmp 151) (Operand.const (Value.bool false)), type := 4, pos := "laws.go:129", after := #[{ on := 49, ground := Ground.data }, { on := 55, ground := Ground.data }], guard := none }) (v := ?_) rfl (by kernel_rfl) (by kernel_rfl) (by kernel_rfl) (fun _ _ _ h => h) (Or.inl ⟨by rfl, ?_⟩) (by assumption) ?_
            rotate_left
            · intro w' hSw; (try dsimp only at hSw); go_simp; try with_reducible rfl
            (try simp only [Act.put, List.setIfInBounds_toArray, List.set_cons_zero, List.set_cons_succ])
            refine wpAnyH_take (i := 57) (oi := { dst := some 2, op := Op.assign (Operand.tmp 152), type := 4, pos := "laws.go:129", after := #[{ on := 56, ground := Ground.data }, { on := 49, ground := Ground.chain }, { on := 0, ground := Ground.phase }, { on := 1, ground := Ground.phase }, { on := 2, ground := Ground.phase }, { on := 3, ground := Ground.phase }, { on := 4, ground := Ground.phase }, { on := 5, ground := Ground.phase }, { on := 6, ground := Ground.phase }, { on := 7, ground := Ground.phase }, { on := 8, ground := Ground.phase }, { on := 9, ground := Ground.phase }, { on := 10, ground := Ground.phase }, { on := 11, ground := Ground.phase }, { on := 12, ground := Ground.phase }, { on := 13, ground := Ground.phase }, { on := 14, ground := Ground.phase }, { on := 15, ground := Ground.phase }, { on := 16, ground := Ground.phase }, { on := 17, ground := Ground.phase }, { on := 18, ground := Ground.phase }, { on := 19, ground := Ground.phase }, { on := 20, ground := Ground.phase }, { on := 21, ground := Ground.phase }, { on := 22, ground := Ground.phase }, { on := 23, ground := Ground.phase }, { on := 24, ground := Ground.phase }, { on := 25, ground := Ground.phase }, { on := 26, ground := Ground.phase }, { on := 27, ground := Ground.phase }, { on := 28, ground := Ground.phase }, { on := 29, ground := Ground.phase }, { on := 30, ground := Ground.phase }, { on := 31, ground := Ground.phase }, { on := 32, ground := Ground.phase }, { on := 33, ground := Ground.phase }, { on := 34, ground := Ground.phase }, { on := 35, ground := Ground.phase }, { on := 36, ground := Ground.phase }, { on := 37, ground := Ground.phase }, { on := 38, ground := Ground.phase }, { on := 39, ground := Ground.phase }, { on := 40, ground := Ground.phase }, { on := 41, ground := Ground.phase }, { on := 42, ground := Ground.phase }, { on := 43, ground := Ground.phase }, { on := 44, ground := Ground.phase }, { on := 45, ground := Ground.phase }, { on := 46, ground := Ground.phase }, { on := 47, ground := Ground.phase }, { on := 48, ground := Ground.phase }, { on := 49, ground := Ground.phase }, { on := 50, ground := Ground.phase }, { on := 51, ground := Ground.phase }, { on := 52, ground := Ground.phase }, { on := 53, ground := Ground.phase }, { on := 54, ground := Ground.phase }, { on := 55, ground := Ground.phase }, { on := 56, ground := Ground.phase }], guard := none }) (v := ?_) rfl (by kernel_rfl) (by kernel_rfl) (by kernel_rfl) (fun _ _ _ h => h) (Or.inl ⟨by rfl, ?_⟩) (by assumption) ?_
            rotate_left
            · intro w' hSw; (try dsimp only at hSw); go_simp; try with_reducible rfl
            (try simp only [Act.put, List.setIfInBounds_toArray, List.set_cons_zero, List.set_cons_succ])
            refine wpAnyH_done (by kernel_rfl) ?_ _
            go_simp
            go_wp2
            go_ret
            exact ⟨rfl, HT9.out.2.2.2.2.2.2.2.1⟩
          · have hn2 : n = z.version := by omega
            subst hn2
            have hn3 : (z.version == -1) = false := by simp; omega
            have hn4 : (z.version == z.version) = true := by simp
            go_wp2
            go_region_held3 (fun W => W.cell? ⟨br, 2, none⟩ = some (.slice (some ⟨g2, off2, none⟩) zs.length cap2) ∧ W.cell? ⟨bg, 2, none⟩ = some (.slice (some ⟨g3, off3, none⟩) 1 cap3) ∧ W.cell? ⟨bw, 2, none⟩ = some (.slice (some ⟨g4, off4, none⟩) 1 cap4) ∧ W.cell? ⟨g3, off3 + 1, none⟩ = some (.int .i64 d) ∧ W.cell? ⟨g3, off3 + 2, none⟩ = some (.int .i64 (z.version + 1)) ∧ W.cell? ⟨g4, off4 + 2, none⟩ = some (.int .i64 z.version) ∧ W.cell? ⟨bo, 0, none⟩ = some (.int .i64 7)) (first | exact ⟨a6, b6, c6, p1, p2, r2, o0⟩ | exact ⟨A6, B6, C6, P1, P2, R2, O0⟩ | go_keep) (first | (go_at_call 9; refine (HFt.out _ (HTr.out.ext (by first | exact (Ext.refl _).drew | exact Ext.refl _)).2.2.2.2.2.2.2.2 (HTr.out.ext (by first | exact (Ext.refl _).drew | exact Ext.refl _)).2.1).mono ?_; rintro e w9 ⟨rfl, hb9⟩; have HT9 : Hid (SSt w0 (.slice (some ⟨g, off, none⟩) zs.length cap) (.slice (some ⟨g2, off2, none⟩) zs.length cap2) (.slice (some ⟨g3, off3, none⟩) 1 cap3) (.slice (some ⟨g4, off4, none⟩) 1 cap4) zs zs' z z' br bg bw w9) := HTr.out.ext (by first | exact ((Ext.refl _).drew).trans hb9 | exact hb9); have O0 : w9.cell? ⟨bo, 0, none⟩ = some (.int .i64 7) := ((Ext.cell hb9).1 bo 0 (by simpa using HOr.out.2)).trans (by simpa using o0); obtain ⟨-, -, hgv9, hwv9, ⟨-, -, -, A6⟩, ⟨-, -, -, B6⟩, ⟨-, -, -, C6⟩, -⟩ := HT9.out; obtain ⟨-, P1, P2, -, -⟩ := (hgv9.one (by simp)).1 0 z' rfl; obtain ⟨-, -, R2, -, -⟩ := (hwv9.one (by simp)).1 0 z rfl; rw [Nat.zero_mul, Nat.add_zero] at P1 P2 R2; rw [y1] at P1; rw [y2] at P2; clear hgv9 hwv9 hb9))
            all_goals
              go_wp2
              go_ret
              exact ⟨rfl, HT9.out.2.2.2.2.2.2.2.1⟩
  · obtain ⟨ad2, cap2, rfl⟩ : ∃ ad' cap', v2 = .slice ad' (Tre.setV zs p d n).2.2.length cap' := by obtain ⟨a0, c0, h0, -⟩ := hO2; exact ⟨a0, c0, h0⟩
    clear hO2 hE2 hg2 HIm
    unfold zr
    generalize (Tre.setV zs p d n).1 = c at *
    generalize (Tre.setV zs p d n).2.1 = t at *
    generalize (Tre.setV zs p d n).2.2 = rs at *
    have e0 : (c != 0) = true := by simp [hc0]
    have ecc : (c == c) = true := by simp
    go_wp2
    go_region_with (go_at_call 7; refine (HSp.out _ (HS2.out.ext (((Ext.refl _).alloc _).drew))).mono ?_; rintro e w3 ⟨v3, g3, rfl, hg3, hO3, hb3⟩; obtain ⟨q, q0, q1, q2⟩ := (box_new w2 c t (.slice ad2 rs.length cap2) 28).ext (((Ext.refl _).drew).trans hb3); unfold zr)
    all_goals
      go_wp2
      go_ret
      exact ⟨ret_bool (by simp), HE2.out.trans ((((Ext.refl _).alloc _).drew).trans hb3)⟩
theorem lawSets_all (v : Value) (w : World) (hg : Gd w) (h : ∃ ad len cap, v = .slice ad len cap ∧ (len ≤ 1048576 → CodeOk w w.heap.size v)) :
    Calls Tryd.prog 3 #[v] w fun e w' => e = .returned (.bool true) ∧ Ext w w' := by
  obtain ⟨ad, len, cap, rfl, hc⟩ := h
  by_cases hl : 1048576 < len
  · exact lawSets_big ad len cap w hl
  · exact lawSets _ w hg (hc (by omega))
end Go.Proofs.YtlnkheopmagacaaDoor
