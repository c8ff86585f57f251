/- LProofs, RowB, RowZ, in one text. -/
import Derived.Test.YtilinjjimiiplaaGreatDoorKqJ41
import Derived.Test.YtilinjjimiiplaaGreatDoorKqV10
import Derived.Deep.RegionHeld3
import Derived.Test.YtilinjjimiiplaaGreatDoorKqJ20
import Derived.ChangeSame
import Derived.ChangeVars
import Derived.ChangeOld
import Derived.ChangeSlices
import Derived.Below
import Derived.Carry
import Derived.RowKit
import Derived.ProofKit
import Derived.OpenShut
import Derived.Deep.Slices
import Derived.Test.YtilinjjimiiplaaGreatDoorKqJ1
namespace Go.Proofs.YtilinjjimiiplaaGreatDoor
open Go.RowKit
set_option maxHeartbeats 400000 in
theorem lwBigD_any (ad : Option Addr) (len cap : Nat) (w : World) :
    Calls Tryz.prog 4 #[.slice ad len cap] w fun e w' => e = .returned (.bool (decide (1048576 < len))) ∧ w' = w := by
  go_enter Tryz.func4, Tryz.ntmps4
  go_wp2
  go_ret
  exact ⟨ret_bool (by rw [Bool.eq_iff_iff]; simp; omega), rfl⟩
set_option maxHeartbeats 400000 in
theorem lawProofs_big (ad : Option Addr) (len cap : Nat) (w : World) (hl : 1048576 < len) :
    Calls Tryz.prog 3 #[.slice ad len cap] w fun e w' => e = .returned (.bool true) ∧ Ext w w' := by
  have hbig : decide (1048576 < len) = true := by simpa using hl
  have hB := lwBigD_any ad len cap w
  rw [hbig] at hB
  clear hbig
  go_enter Tryz.func3, Tryz.ntmps3
  go_wp2_with fail
  refine hB.mono ?_
  rintro e w0 ⟨rfl, hw⟩
  subst hw
  clear hB
  go_wp2
  go_ret
  exact ⟨rfl, Ext.refl _⟩

set_option maxHeartbeats 8000000 in
set_option maxRecDepth 100000 in
theorem lawProofs (cv : Value) (w : World) (hg : Gd w) (hc : CodeOk w w.heap.size cv) :
    Calls Tryz.prog 3 #[cv] w fun e w' => e = .returned (.bool true) ∧ Ext w w' := by
  have hc' := hc
  obtain ⟨ad, len, cap0, rfl, hl, -⟩ := hc'
  have HC : Hid (CodeOk w w.heap.size (.slice ad len cap0)) := hc
  have HG : Hid (Gd w) := hg
  have hbig : decide (1048576 < len) = false := by simpa using hl
  have hB := lwBigD_any ad len cap0 w
  rw [hbig] at hB
  clear hc hbig hg
  go_enter Tryz.func3, Tryz.ntmps3
  go_wp2_with fail
  refine hB.mono ?_
  rintro e w0 ⟨rfl, hw⟩
  subst hw
  clear hB
  go_wp2_with fail
  refine (drawProveZ_any _ _ HC.out).mono ?_
  rintro e w1 ⟨g, off, cap, zs, p, l, rfl, rfl, hF, hO, hE⟩
  have HS1 : Hid (NSlice w1 (.slice (some ⟨g, off, none⟩) zs.length cap) zs ∧ Ext w0 w1 ∧ Gd w1) := ⟨hO.slice, hE, HG.out.ext hE⟩
  clear hF hO hE HG
  have HIm : Hid (∀ W : World, Gd W → NSlice W (.slice (some ⟨g, off, none⟩) zs.length cap) zs → Calls Tryz.prog 6 #[.slice (some ⟨g, off, none⟩) zs.length cap, .string p] W (PRet W (Sm.proveT zs p).1 (Sm.proveT zs p).2.1 (Sm.proveT zs p).2.2)) := fun W hg hS => implProveZ_any _ zs p W hg hS
  have HSp : Hid (∀ W : World, NSlice W (.slice (some ⟨g, off, none⟩) zs.length cap) zs → Calls Tryz.prog 7 #[.slice (some ⟨g, off, none⟩) zs.length cap, .string p] W (PRet W (Sm.proveT zs p).1 (Sm.proveT zs p).2.1 (Sm.proveT zs p).2.2)) := fun W hS => specProveZ_any _ zs p W hS
  go_wp2_with fail
  refine (HIm.out _ HS1.out.2.2 HS1.out.1).mono ?_
  rintro e w2 ⟨sv, g2, rfl, hg2, hO2, hE2⟩
  have HS2 : Hid (NSlice w2 (.slice (some ⟨g, off, none⟩) zs.length cap) zs ∧ Ext w0 w2 ∧ Gd w2) := ⟨HS1.out.1.ext hE2, HS1.out.2.1.trans hE2, HS1.out.2.2.ext hE2⟩
  clear HS1
  by_cases hc0 : (Sm.proveT zs p).1 = 0
  · obtain ⟨z, ts, hp, hget, hroot, hleaf, h5, hck⟩ := Sm.proved hc0
    rw [hp] at hO2
    rw [hp]
    clear hp hc0 HIm HSp
    dsimp only at hO2
    obtain ⟨sa, sc, rfl, hsc, hscm, -⟩ := id hO2
    have HGz : Hid (∀ W : World, Gd W → NSlice W (.slice (some ⟨g, off, none⟩) zs.length cap) zs → Calls Tryz.prog 8 #[.slice (some ⟨g, off, none⟩) zs.length cap, .string p] W (ZRet W 0 ⟨#[]⟩ [z])) := fun W hg hS => by have h := implGetZ_any _ zs p W hg hS; rw [hget] at h; exact h
    have HRo : Hid (∀ W : World, Gd W → NSlice W (.slice (some ⟨g, off, none⟩) zs.length cap) zs → Calls Tryz.prog 9 #[.slice (some ⟨g, off, none⟩) zs.length cap] W fun e w' => e = .returned (ir (0, Sm.root (zs.map Sm.leaf))) ∧ Ext W w') := fun W hg hS => by have h := implRootOf_any _ zs W hg hS; rw [hroot] at h; exact h
    have HRs : Hid (∀ W : World, NSlice W (.slice (some ⟨g, off, none⟩) zs.length cap) zs → Calls Tryz.prog 13 #[.slice (some ⟨g, off, none⟩) zs.length cap] W fun e w' => e = .returned (ir (0, Sm.root (zs.map Sm.leaf))) ∧ Ext W w') := fun W hS => by have h := specRootOf_any _ zs W hS; rw [hroot] at h; exact h
    have HLf : Hid (∀ W : World, Gd W → Calls Tryz.prog 12 #[zagg z] W fun e w' => e = .returned (ir (0, Sm.leaf z)) ∧ Ext W w') := fun W hg => by have h := implLeafSum_any z W hg; rw [hleaf] at h; exact h
    have HCk : Hid (∀ W : World, Gd W → SSlice W (.slice sa ts.length sc) ts → Calls Tryz.prog 11 #[zagg z, .slice sa ts.length sc, .int .i64 (Sm.root (zs.map Sm.leaf))] W fun e w' => e = .returned (.bool true) ∧ Ext W w') := fun W hg hS => by have h := implCheckProof_any z _ ts (Sm.root (zs.map Sm.leaf)) W hg hS; rw [hck] at h; exact h
    clear hget hroot hleaf hck
    generalize Sm.root (zs.map Sm.leaf) = ro at *
    obtain ⟨lf, hlf⟩ : ∃ lf, lf = Sm.leaf z := ⟨_, rfl⟩
    have HLE : Hid (lf = Sm.leaf z) := hlf
    have HLf2 : Hid (∀ W : World, Gd W → Calls Tryz.prog 12 #[zagg z] W fun e w' => e = .returned (ir (0, lf)) ∧ Ext W w') := by rw [hlf]; exact HLf.out
    rw [← hlf]
    clear hlf HLf
    have HS3 : Hid (NSlice (w2.alloc (.cells #[.int .i64 0, .int .i64 lf, .slice sa ts.length sc] 29)) (.slice (some ⟨g, off, none⟩) zs.length cap) zs ∧ Ext w0 (w2.alloc (.cells #[.int .i64 0, .int .i64 lf, .slice sa ts.length sc] 29)) ∧ Gd (w2.alloc (.cells #[.int .i64 0, .int .i64 lf, .slice sa ts.length sc] 29)) ∧ SSlice (w2.alloc (.cells #[.int .i64 0, .int .i64 lf, .slice sa ts.length sc] 29)) (.slice sa ts.length sc) ts ∧ PBoxAt (w2.alloc (.cells #[.int .i64 0, .int .i64 lf, .slice sa ts.length sc] 29)) w2.heap.size 0 lf (.slice sa ts.length sc)) :=
      ⟨HS2.out.1.ext ((Ext.refl _).alloc _), HS2.out.2.1.alloc _, HS2.out.2.2.ext ((Ext.refl _).alloc _), hO2.slice.ext ((Ext.refl _).alloc _), pbox_new _ _ _ _ _⟩
    clear hO2 hE2 hg2 HS2
    unfold pr
    go_wp2_with fail
    refine (HGz.out _ HS3.out.2.2.1 HS3.out.1).mono ?_
    rintro e w4 ⟨v4, gg, rfl, hgg, hO4, hE4⟩
    obtain ⟨go, gc, rfl⟩ := hO4.at (by simp)
    generalize w2.heap.size = bp at *
    have HS4 : Hid (NSlice w4 (.slice (some ⟨g, off, none⟩) zs.length cap) zs ∧ Ext w0 w4 ∧ Gd w4 ∧ SSlice w4 (.slice sa ts.length sc) ts ∧ PBoxAt w4 bp 0 lf (.slice sa ts.length sc) ∧ Own w4 (.slice (some ⟨gg, go, none⟩) 1 gc) gg [z]) := ⟨HS3.out.1.ext hE4, HS3.out.2.1.trans hE4, HS3.out.2.2.1.ext hE4, HS3.out.2.2.2.1.ext hE4, HS3.out.2.2.2.2.ext hE4, hO4⟩
    clear hO4 hE4 hgg HS3 HGz
    have HS5 : Hid (∀ t, NSlice (w4.alloc (.cells #[.int .i64 0, .string ⟨#[]⟩, .slice (some ⟨gg, go, none⟩) 1 gc] t)) (.slice (some ⟨g, off, none⟩) zs.length cap) zs ∧ Gd (w4.alloc (.cells #[.int .i64 0, .string ⟨#[]⟩, .slice (some ⟨gg, go, none⟩) 1 gc] t))) := fun t => ⟨HS4.out.1.ext ((Ext.refl _).alloc _), HS4.out.2.2.1.ext ((Ext.refl _).alloc _)⟩
    unfold zr
    go_wp2_with fail
    refine (HRo.out _ (HS5.out _).2 (HS5.out _).1).mono ?_
    rintro e w6 ⟨rfl, hE6⟩
    clear HS5 HRo
    have hbg := box_new w4 0 ⟨#[]⟩ (.slice (some ⟨gg, go, none⟩) 1 gc) 32
    have HS6 : Hid (NSlice w6 (.slice (some ⟨g, off, none⟩) zs.length cap) zs ∧ Ext w0 w6 ∧ Gd w6 ∧ SSlice w6 (.slice sa ts.length sc) ts ∧ PBoxAt w6 bp 0 lf (.slice sa ts.length sc) ∧ Own w6 (.slice (some ⟨gg, go, none⟩) 1 gc) gg [z] ∧ BoxAt w6 w4.heap.size 0 ⟨#[]⟩ (.slice (some ⟨gg, go, none⟩) 1 gc)) := ⟨(HS4.out.1.ext ((Ext.refl _).alloc _)).ext hE6, (HS4.out.2.1.alloc _).trans hE6, (HS4.out.2.2.1.ext ((Ext.refl _).alloc _)).ext hE6, (HS4.out.2.2.2.1.ext ((Ext.refl _).alloc _)).ext hE6, (HS4.out.2.2.2.2.1.ext ((Ext.refl _).alloc _)).ext hE6, (HS4.out.2.2.2.2.2.ext ((Ext.refl _).alloc _)).ext hE6, hbg.ext hE6⟩
    clear HS4 hE6 hbg
    generalize w4.heap.size = bg at *
    obtain ⟨l6, -, -, c6⟩ := HS6.out.2.2.2.2.2.2
    have hal := alloc_cell
    have HC6 : Hid (∀ o, CodeOk (w6.alloc o) (w6.alloc o).heap.size (.slice ad len cap0)) := fun o => HC.out.rise (HS6.out.2.1.alloc o) (HS6.out.2.1.alloc o).size
    have e1 : ((1 : Int) != 1) = false := by decide
    unfold ir
    go_wp2_with fail
    refine (drawCheckProof_any _ _ (HC6.out _)).mono ?_
    rintro e w8 ⟨zz, sv2, t2, r2, rfl, hS8, hE8⟩
    obtain ⟨s2, c2, rfl, -⟩ := id hS8
    have HS9 : Hid (PfS w0 bp bg w6.heap.size w8.heap.size gg go gc z zz (.slice (some ⟨g, off, none⟩) zs.length cap) (.slice sa ts.length sc) (.slice s2 t2.length c2) zs ts t2 lf ro (w8.alloc (.cells #[.string zz.path, .int .i64 zz.data, .int .i64 zz.version, .int .i64 zz.owner, .int .i64 zz.next] 38))) := by
      obtain ⟨k1, k2, k3, k4, k5, k6, k7⟩ := HS6.out
      have hE68 : Ext w6 w8 := ((Ext.refl _).alloc _).trans hE8
      have hE69 : ∀ t, Ext w6 (w8.alloc (.cells #[.string zz.path, .int .i64 zz.data, .int .i64 zz.version, .int .i64 zz.owner, .int .i64 zz.next] t)) := fun t => hE68.alloc _
      have hE89 : ∀ t, Ext w8 (w8.alloc (.cells #[.string zz.path, .int .i64 zz.data, .int .i64 zz.version, .int .i64 zz.owner, .int .i64 zz.next] t)) := fun t => (Ext.refl _).alloc _
      obtain ⟨m1, -, m2, m3⟩ := k5.ext (hE69 _)
      obtain ⟨m4, -, -, m5⟩ := k7.ext (hE69 _)
      have hgl := k6.lt (by simp)
      obtain ⟨n1, n2, n3, n4, n5⟩ := Own.nodes (zs := [z]) (cap := gc) (i := 0) (z := z) (k6.ext (hE69 _)) rfl
      have h68 : w6.heap.size < w8.heap.size := by have := hE8.size; simp at this; omega
      have r0 : ∀ o, w8.cell? ⟨w6.heap.size, o, none⟩ = _ := fun o => (Ext.cell hE8).1 w6.heap.size o (by simp)
      simp only [Nat.zero_mul, Nat.add_zero] at n1 n2 n3 n4 n5
      exact ⟨⟨m2, m3, m5, (alloc_cell _ _ _ _ h68).trans ((r0 0).trans (by simp)), (alloc_cell _ _ _ _ h68).trans ((r0 1).trans (by simp)), n1, n2, n3, n4, n5, by simp, by simp, by simp, by simp, by simp⟩, ⟨m1, m4, by simp; omega, by simp, by have := hE68.size; simp; omega⟩, k1.ext (hE69 _), k4.ext (hE69 _), hS8.ext (hE89 _), k2.trans (hE69 _), k3.ext (hE69 _)⟩
    have HI2 : Hid (∀ W : World, Gd W → SSlice W (.slice s2 t2.length c2) t2 → Calls Tryz.prog 11 #[zagg zz, .slice s2 t2.length c2, .int .i64 r2] W fun e w' => e = .returned (.bool (Sm.check zz t2 r2)) ∧ Ext W w') := fun W hg hS => implCheckProof_any zz _ t2 r2 W hg hS
    have HS2c : Hid (∀ W : World, SSlice W (.slice s2 t2.length c2) t2 → Calls Tryz.prog 14 #[zagg zz, .slice s2 t2.length c2, .int .i64 r2] W fun e w' => e = .returned (.bool (Sm.check zz t2 r2)) ∧ Ext W w') := fun W hS => specCheckProof_any zz _ t2 r2 W hS
    generalize Sm.check zz t2 r2 = ck at *
    clear hS8 hE8 HS6 HC6 l6 c6 e1 HC hal
    unfold zagg at HI2 HS2c HCk HLf2 ⊢
    have i5 : ((ts.length : Nat) : Int) ≤ 5 := by omega
    unfold maxLen at hscm
    have hfi := field_val
    go_wp2
    generalize w6.heap.size = br at *
    generalize w8.heap.size = bz at *
    go_region_held3 (fun W : World => W.cell? ⟨bp, 1, none⟩ = some (.int .i64 lf) ∧ W.cell? ⟨bp, 2, none⟩ = some (.slice sa ts.length sc) ∧ W.cell? ⟨bg, 2, none⟩ = some (.slice (some ⟨gg, go, none⟩) 1 gc) ∧ W.cell? ⟨br, 0, none⟩ = some (.int .i64 0) ∧ W.cell? ⟨br, 1, none⟩ = some (.int .i64 ro) ∧ W.cell? ⟨gg, go, none⟩ = some (.string z.path) ∧ W.cell? ⟨gg, go + 1, none⟩ = some (.int .i64 z.data) ∧ W.cell? ⟨gg, go + 2, none⟩ = some (.int .i64 z.version) ∧ W.cell? ⟨gg, go + 3, none⟩ = some (.int .i64 z.owner) ∧ W.cell? ⟨gg, go + 4, none⟩ = some (.int .i64 z.next) ∧ W.cell? ⟨bz, 0, none⟩ = some (.string zz.path) ∧ W.cell? ⟨bz, 1, none⟩ = some (.int .i64 zz.data) ∧ W.cell? ⟨bz, 2, none⟩ = some (.int .i64 zz.version) ∧ W.cell? ⟨bz, 3, none⟩ = some (.int .i64 zz.owner) ∧ W.cell? ⟨bz, 4, none⟩ = some (.int .i64 zz.next)) (first | exact HS9.out.cells | exact (HS9.out.next (Ext.refl _).drew).cells | exact Hwa.out.cells | exact Hwb.out.cells | exact Hwc.out.cells | exact Hwd.out.cells | exact Hwe.out.cells | go_keep)
      (first
      | (go_at_call 11; refine (HCk.out _ (HS9.out.next (by first | exact (Ext.refl _).drew | exact Ext.refl _)).gd (HS9.out.next (by first | exact (Ext.refl _).drew | exact Ext.refl _)).one).mono ?_; rintro e wa ⟨rfl, hx⟩; have Hwa : Hid (PfS w0 bp bg br bz gg go gc z zz (.slice (some ⟨g, off, none⟩) zs.length cap) (.slice sa ts.length sc) (.slice s2 t2.length c2) zs ts t2 lf ro wa) := HS9.out.next (by first | exact ((Ext.refl _).drew).trans hx | exact hx); clear hx HS9)
      | (go_at_call 12; refine (HLf2.out _ Hwa.out.gd).mono ?_; rintro e wb ⟨rfl, hx⟩; have Hwb : Hid (PfS w0 bp bg br bz gg go gc z zz (.slice (some ⟨g, off, none⟩) zs.length cap) (.slice sa ts.length sc) (.slice s2 t2.length c2) zs ts t2 lf ro wb) := Hwa.out.next (by first | exact ((Ext.refl _).drew).trans hx | exact hx); clear hx Hwa; unfold ir)
      | (go_at_call 13; refine (HRs.out _ Hwb.out.tree).mono ?_; rintro e wc ⟨rfl, hx⟩; have Hwc : Hid (PfS w0 bp bg br bz gg go gc z zz (.slice (some ⟨g, off, none⟩) zs.length cap) (.slice sa ts.length sc) (.slice s2 t2.length c2) zs ts t2 lf ro wc) := Hwb.out.next (by first | exact ((Ext.refl _).drew).trans hx | exact hx); clear hx Hwb; unfold ir)
      | (go_at_call 11; refine (HI2.out _ Hwc.out.gd Hwc.out.two).mono ?_; rintro e wd ⟨rfl, hx⟩; have Hwd : Hid (PfS w0 bp bg br bz gg go gc z zz (.slice (some ⟨g, off, none⟩) zs.length cap) (.slice sa ts.length sc) (.slice s2 t2.length c2) zs ts t2 lf ro wd) := Hwc.out.next (by first | exact ((Ext.refl _).drew).trans hx | exact hx); clear hx Hwc)
      | (go_at_call 14; refine (HS2c.out _ Hwd.out.two).mono ?_; rintro e we ⟨rfl, hx⟩; have Hwe : Hid (PfS w0 bp bg br bz gg go gc z zz (.slice (some ⟨g, off, none⟩) zs.length cap) (.slice sa ts.length sc) (.slice s2 t2.length c2) zs ts t2 lf ro we) := Hwd.out.next (by first | exact ((Ext.refl _).drew).trans hx | exact hx); clear hx Hwd))
    all_goals
      go_wp2
      go_ret
      exact ⟨ret_bool (by simp), Hwe.out.ext⟩
  · obtain ⟨sa, sc, rfl, hsc, hscm, -⟩ := id hO2
    clear hO2 hE2 hg2 HIm
    unfold pr
    generalize (Sm.proveT zs p).1 = c at *
    generalize (Sm.proveT zs p).2.1 = n at *
    generalize (Sm.proveT zs p).2.2 = ts at *
    have e0 : (c != 0) = true := by simp [hc0]
    have ecc : (c == c) = true := by simp
    have hfp : ∀ (c n : Int) (v : Value) (w : World), (Instr.field 29 (.agg #[.int .i64 c, .int .i64 n, v]) 0).run Tryz.prog w = .ok (.int .i64 c) w := fun _ _ _ _ => by kernel_rfl
    go_wp2
    go_region_with (go_at_call 7; refine (HSp.out _ (HS2.out.1.ext (((Ext.refl _).alloc _).drew))).mono ?_; rintro e w3 ⟨v3, g3, rfl, hg3, hO3, hb3⟩; obtain ⟨q, q0, q1, q2⟩ := (pbox_new w2 c n (.slice sa ts.length sc) 29).ext (((Ext.refl _).drew).trans hb3); unfold pr)
    all_goals
      go_wp2
      go_ret
      exact ⟨ret_bool (by simp), HS2.out.2.1.trans ((((Ext.refl _).alloc _).drew).trans hb3)⟩
theorem lawProofs_all (v : Value) (w : World) (hg : Gd w) (h : ∃ ad len cap, v = .slice ad len cap ∧ (len ≤ 1048576 → CodeOk w w.heap.size v)) :
    Calls Tryz.prog 3 #[v] w fun e w' => e = .returned (.bool true) ∧ Ext w w' := by
  obtain ⟨ad, len, cap, rfl, hc⟩ := h
  by_cases hl : 1048576 < len
  · exact lawProofs_big ad len cap w hl
  · exact lawProofs _ w hg (hc (by omega))
end Go.Proofs.YtilinjjimiiplaaGreatDoor
namespace Go.Proofs.YtilinjjimiiplaaGreatDoor
open Go.ChangeShapes Go.WideShapes Go.ChangeAt Go.RowKit
set_option maxRecDepth 100000 in
theorem open_code {H : Type} {enc : TypeId × Value → H} {W : World} {v : Value} {d : DataW H} {ps : List MemPlace}
    (h : DataW.Trod enc Tryz.prog W 0 (fun _ => true) true 22 v d ps) (hv : ∃ a l c, v = .slice a l c) : ∃ ad len cap, v = .slice ad len cap ∧ (len ≤ 1048576 → CodeOk W W.heap.size v) := by
  obtain ⟨a0, l0, c0, rfl⟩ := hv
  obtain ⟨fuel, hf⟩ := h
  refine ⟨a0, l0, c0, rfl, fun hl0 => ?_⟩
  rcases open_ints Tryz.underlying22 Tryz.underlying5 (by kernel_rfl) hf with ⟨hcs, _⟩ | ⟨x, l, c, zs, hcs, _, hl, hm, hz, _, hcell, hwz⟩
  · simp [Value.cells] at hcs
    obtain ⟨rfl, rfl, rfl⟩ := hcs
    exact ⟨none, 0, 0, rfl, by omega, fun h => by omega⟩
  · simp [Value.cells] at hcs
    obtain ⟨rfl, rfl, rfl⟩ := hcs
    have hz' : zs.length = c0 := by simpa using hz
    refine ⟨some x, l0, c0, rfl, hl0, fun h0 => ?_⟩
    obtain ⟨b, off, rfl, hc⟩ := ints_at hcell (by omega)
    refine ⟨b, off, rfl, World.block_lt_of_cell? W ⟨b, off + 0, none⟩ (hc 0 (by omega)), fun i hi => ⟨zs.getD i 0, ?_, ?_, hc i (by omega)⟩⟩
    all_goals
      have hm : zs.getD i 0 ∈ zs := by
        rw [List.getD_eq_getElem?_getD, List.getElem?_eq_getElem (by omega)]; exact List.getElem_mem _
      have := bounds_u8 (hwz _ hm)
      omega
end Go.Proofs.YtilinjjimiiplaaGreatDoor
namespace Go.Proofs.YtilinjjimiiplaaGreatDoor
open Go.ChangeShapes Go.WideShapes Go.ChangeAt Go.RowKit
theorem laid_outZ : laidOutB Tryz.prog = true := by kernel_rfl
instance : Inhabited Zn := ⟨⟨ByteArray.empty, 0, 0, 0, 0⟩⟩
end Go.Proofs.YtilinjjimiiplaaGreatDoor
