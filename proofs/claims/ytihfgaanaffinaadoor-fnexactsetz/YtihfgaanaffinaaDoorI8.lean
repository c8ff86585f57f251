/- The program's SetZ. -/
import Derived.Test.YtihfgaanaffinaaDoorI7
namespace Go.Proofs.YtihfgaanaffinaaDoor
open Go.RowKit

set_option maxHeartbeats 2000000 in
set_option maxRecDepth 100000 in
theorem implSetZ_any (v : Value) (zs : List Zn) (p : ByteArray) (d n : Int) (w : World) (hg : Gd w) (hS : NSlice w v zs) :
    Calls Tryd.prog 29 #[v, .string p, .int .i64 d, .int .i64 n] w (ZRet w (Tre.setV zs p d n).1 (Tre.setV zs p d n).2.1 (Tre.setV zs p d n).2.2) := by
  have HL : Hid (∀ wx : World, Ext w wx → Calls Tryd.prog 74 #[v, .string p] wx fun e w' => e = .returned (.int .i64 (Tre.asked zs p)) ∧ Ext wx w') := fun wx h => treeOrPath_any v zs p wx (hg.ext h) (hS.ext h)
  have HD : Hid (∀ wx : World, Calls Tryd.prog 75 #[.int .i64 d, .int .i64 9999] wx fun e w' => e = .returned (.bool (Tre.okData d)) ∧ w' = wx) := isUpTo_any d 9999
  have HS : Hid (NSlice w v zs) := hS
  obtain ⟨a, cap, rfl, -⟩ := hS
  by_cases h0 : Tre.asked zs p ≠ 0
  · rw [Tre.setV_bad rfl h0]
    generalize Tre.asked zs p = F at *
    go_enter Tryd.func29, Tryd.ntmps29
    go_wp2_with fail
    refine (HL.out _ ((Ext.refl _).alloc _)).mono ?_
    rintro e w2 ⟨rfl, hb⟩
    have HB : Hid (Ext w w2) := ((Ext.refl _).alloc _).trans hb
    have HQ : Hid (RBox w2 w.heap.size) := (RBox.new w _).ext hb
    clear hb
    obtain ⟨q, q0, q1, q2, f0, f1, f2⟩ := HQ.out
    go_wp2
    exact bodyPost_ret (v := zr F ⟨#[]⟩ (.slice none 0 0)) (by simp [results, Tryd.results29, go_sem, zr, q0, q1, q2]) rfl (zret_bad _ _ (HB.out.box3 _ _ _))
  have h00 : Tre.asked zs p = 0 := by omega
  rw [h00] at HL
  rw [Tre.setV_ok h00]
  cases hd : Tre.okData d with
  | false =>
    rw [Tre.setT_data hd]
    rw [hd] at HD
    clear hd
    go_enter Tryd.func29, Tryd.ntmps29
    go_wp2_with fail
    refine (HL.out _ ((Ext.refl _).alloc _)).mono ?_
    rintro e w2 ⟨rfl, hb⟩
    have HB : Hid (Ext w w2) := ((Ext.refl _).alloc _).trans hb
    have HQ : Hid (RBox w2 w.heap.size) := (RBox.new w _).ext hb
    clear hb
    go_wp2_with fail
    refine (HD.out _).mono ?_
    rintro e w3 ⟨rfl, rfl⟩
    obtain ⟨q, q0, q1, q2, f0, f1, f2⟩ := HQ.out
    go_wp2
    exact bodyPost_ret (v := zr 3 ⟨#[]⟩ (.slice none 0 0)) (by simp [results, Tryd.results29, go_sem, zr, q0, q1, q2]) rfl (zret_bad _ _ (HB.out.box3 _ _ _))
  | true =>
  rw [hd] at HD
  obtain ⟨h20, hU, hpos, h24⟩ := Tre.asked_len h00
  have HC : Hid (∀ wx : World, Ext w wx → Calls Tryd.prog 76 #[.slice a zs.length cap] wx fun e w' => ∃ v' g, e = .returned v' ∧ wx.heap.size ≤ g ∧ Own w' v' g zs ∧ Ext wx w') := fun wx h => copyNodes_any _ zs wx (HS.out.ext h) (by omega) hpos (fun z hz => by have := h24 z hz; omega)
  have HF : Hid (∀ (wx : World) (g off4 cap4 : Nat), Ext w wx → NSlice wx (.slice (some ⟨g, off4, none⟩) zs.length cap4) zs → Calls Tryd.prog 77 #[.slice (some ⟨g, off4, none⟩) zs.length cap4, .string p] wx fun e w' => e = .returned (ptrV g off4 zs p) ∧ Ext wx w') := fun wx g off4 cap4 _ h => findNode_any g off4 cap4 zs p wx h hU (by omega)
  cases hh : Tre.has zs p with
  | false =>
    rw [Tre.setT_none hd (Tre.has_not hh)]
    simp only [ptrV_miss hh] at HF
    clear hd hh hU h24
    go_enter Tryd.func29, Tryd.ntmps29
    go_wp2_with fail
    refine (HL.out _ ((Ext.refl _).alloc _)).mono ?_
    rintro e w2 ⟨rfl, hb⟩
    have HB : Hid (Ext w w2) := ((Ext.refl _).alloc _).trans hb
    have HQ : Hid (RBox w2 w.heap.size) := (RBox.new w _).ext hb
    clear hb
    go_wp2_with fail
    refine (HD.out _).mono ?_
    rintro e w3 ⟨rfl, rfl⟩
    go_wp2_with fail
    refine (HC.out _ HB.out).mono ?_
    rintro e w4 ⟨v4, g, rfl, hg4, hO, hb⟩
    obtain ⟨a4, cap4, rfl, hlc4, hcm4, hx4⟩ := id hO
    obtain ⟨off4, rfl, hR4, hN4⟩ := hx4 hpos
    have HO : Hid (Own w4 (.slice (some ⟨g, off4, none⟩) zs.length cap4) g zs) := hO
    have HG : Hid (w.heap.size + 1 ≤ g) := by have := HQ.out.1; show _ ≤ _; omega
    have HQ4 : Hid (RBox w4 w.heap.size) := HQ.out.ext hb
    have HB4 : Hid (Ext w w4) := HB.out.trans hb
    clear hb hO hg4 hx4 hR4 hN4
    unfold maxLen at hcm4
    go_wp2_with fail
    refine (HF.out _ _ _ _ HB4.out HO.out.slice).mono ?_
    rintro e w5 ⟨rfl, hb⟩
    have HO5 : Hid (Own w5 (.slice (some ⟨g, off4, none⟩) zs.length cap4) g zs) := HO.out.ext hb
    have HQ5 : Hid (RBox w5 w.heap.size) := HQ4.out.ext hb
    have HB5 : Hid (Ext w w5) := HB4.out.trans hb
    clear hb
    obtain ⟨q, q0, q1, q2, f0, f1, f2⟩ := HQ5.out
    go_wp2
    exact bodyPost_ret (v := zr 4 ⟨#[]⟩ (.slice none 0 0)) (by simp [results, Tryd.results29, go_sem, zr, q0, q1, q2]) rfl (zret_bad _ _ (HB5.out.box3 _ _ _))
  | true =>
    obtain ⟨z, hat, hz, -⟩ := Tre.has_at hU hh
    rw [Tre.setT_some hd hat hz]
    simp only [ptrV_hit hh rfl] at HF
    generalize Tre.cut zs p.data.toList = k at *
    have HZ : Hid (zs[k]? = some z) := hz
    have hkl := (List.getElem?_eq_some_iff.1 hz).1
    have hv0 : 0 ≤ z.version ∧ z.version ≤ 999 := by
      have := (Tre.fault_nums (Tre.asked_fault h00).1 z (List.mem_of_getElem? hz)).2
      unfold Tre.okNums at this
      simp at this
      exact ⟨this.2.1.1, this.2.1.2⟩
    clear hd hh hU h24 hz hat
    by_cases hnv : n = -1 ∨ n = z.version
    · have HNV : Hid (decide (n = -1 ∨ n = z.version) = true) := by show _ = _; simpa using hnv
      rw [if_neg (by omega)]
      clear hnv
      by_cases h9 : 999 ≤ z.version
      · rw [if_pos h9]
        have h9e : (z.version == 999) = true := by simp; omega
        go_enter Tryd.func29, Tryd.ntmps29
        go_wp2_with fail
        refine (HL.out _ ((Ext.refl _).alloc _)).mono ?_
        rintro e w2 ⟨rfl, hb⟩
        have HB : Hid (Ext w w2) := ((Ext.refl _).alloc _).trans hb
        have HQ : Hid (RBox w2 w.heap.size) := (RBox.new w _).ext hb
        clear hb
        go_wp2_with fail
        refine (HD.out _).mono ?_
        rintro e w3 ⟨rfl, rfl⟩
        go_wp2_with fail
        refine (HC.out _ HB.out).mono ?_
        rintro e w4 ⟨v4, g, rfl, hg4, hO, hb⟩
        obtain ⟨a4, cap4, rfl, hlc4, hcm4, hx4⟩ := id hO
        obtain ⟨off4, rfl, hR4, hN4⟩ := hx4 hpos
        have HO : Hid (Own w4 (.slice (some ⟨g, off4, none⟩) zs.length cap4) g zs) := hO
        have HG : Hid (w.heap.size + 1 ≤ g) := by have := HQ.out.1; show _ ≤ _; omega
        have HQ4 : Hid (RBox w4 w.heap.size) := HQ.out.ext hb
        have HB4 : Hid (Ext w w4) := HB.out.trans hb
        clear hb hO hg4 hx4 hR4 hN4
        unfold maxLen at hcm4
        go_wp2_with fail
        refine (HF.out _ _ _ _ HB4.out HO.out.slice).mono ?_
        rintro e w5 ⟨rfl, hb⟩
        have HO5 : Hid (Own w5 (.slice (some ⟨g, off4, none⟩) zs.length cap4) g zs) := HO.out.ext hb
        have HQ5 : Hid (RBox w5 w.heap.size) := HQ4.out.ext hb
        have HB5 : Hid (Ext w w5) := HB4.out.trans hb
        clear hb
        obtain ⟨a6, cap6, he6, -, -, hx6⟩ := id HO5.out
        injection he6 with e1 e2 e3
        subst e1 e3
        obtain ⟨off6, ho6, hR, hN⟩ := hx6 hpos
        injection ho6 with ho6
        injection ho6 with _ ho6 _
        subst ho6
        obtain ⟨-, -, d2, -, -⟩ := hN k z HZ.out
        obtain ⟨⟨y1, r1⟩, s1⟩ := hR.2 (k * 5 + 1) (by omega)
        obtain ⟨-, s2⟩ := hR.2 (k * 5 + 2) (by omega)
        rw [← Nat.add_assoc] at r1 s1 s2
        have HV : Hid (Calls Tryd.prog 78 #[.pointer (some ⟨g, off4 + k * 5, none⟩), .int .i64 n] w5 fun e w' => e = .returned (.bool true) ∧ Ext w5 w') := by
          have := hasVersion_any g (off4 + k * 5) z.version n w5 d2
          rw [HNV.out] at this
          exact this
        have HD5 : Hid (w5.cell? ⟨g, off4 + k * 5 + 2, none⟩ = some (.int .i64 z.version) ∧ w5.cell? ⟨g, off4 + k * 5 + 1, none⟩ = some y1 ∧ w5.frozen? ⟨g, off4 + k * 5 + 1, none⟩ = false ∧ w5.frozen? ⟨g, off4 + k * 5 + 2, none⟩ = false ∧ g < w5.heap.size) := ⟨d2, r1, s1, s2, hR.1⟩
        clear d2 r1 s1 s2 hR hN hx6
        go_wp2_with fail
        refine HV.out.mono ?_
        rintro e w6 ⟨rfl, hb⟩
        have HO6 : Hid (Own w6 (.slice (some ⟨g, off4, none⟩) zs.length cap4) g zs) := HO5.out.ext hb
        have HQ6 : Hid (RBox w6 w.heap.size) := HQ5.out.ext hb
        have HB6 : Hid (Ext w w6) := HB5.out.trans hb
        have d2 := (Below.cell hb (p := ⟨g, off4 + k * 5 + 2, none⟩) HD5.out.2.2.2.2).trans HD5.out.1
        have r1 := (Below.cell hb (p := ⟨g, off4 + k * 5 + 1, none⟩) HD5.out.2.2.2.2).trans HD5.out.2.1
        have s1 := (Below.frozen hb (p := ⟨g, off4 + k * 5 + 1, none⟩) HD5.out.2.2.2.2).trans HD5.out.2.2.1
        have s2 := (Below.frozen hb (p := ⟨g, off4 + k * 5 + 2, none⟩) HD5.out.2.2.2.2).trans HD5.out.2.2.2.1
        clear hb
        obtain ⟨q, q0, q1, q2, f0, f1, f2⟩ := HQ6.out
        go_wp2
        exact bodyPost_ret (v := zr 2 ⟨#[]⟩ (.slice none 0 0)) (by simp [results, Tryd.results29, go_sem, zr, q0, q1, q2]) rfl (zret_bad _ _ (HB6.out.box3 _ _ _))
      · rw [if_neg h9]
        have h9e : (z.version == 999) = false := by simp; omega
        go_enter Tryd.func29, Tryd.ntmps29
        go_wp2_with fail
        refine (HL.out _ ((Ext.refl _).alloc _)).mono ?_
        rintro e w2 ⟨rfl, hb⟩
        have HB : Hid (Ext w w2) := ((Ext.refl _).alloc _).trans hb
        have HQ : Hid (RBox w2 w.heap.size) := (RBox.new w _).ext hb
        clear hb
        go_wp2_with fail
        refine (HD.out _).mono ?_
        rintro e w3 ⟨rfl, rfl⟩
        go_wp2_with fail
        refine (HC.out _ HB.out).mono ?_
        rintro e w4 ⟨v4, g, rfl, hg4, hO, hb⟩
        obtain ⟨a4, cap4, rfl, hlc4, hcm4, hx4⟩ := id hO
        obtain ⟨off4, rfl, hR4, hN4⟩ := hx4 hpos
        have HO : Hid (Own w4 (.slice (some ⟨g, off4, none⟩) zs.length cap4) g zs) := hO
        have HG : Hid (w.heap.size + 1 ≤ g) := by have := HQ.out.1; show _ ≤ _; omega
        have HQ4 : Hid (RBox w4 w.heap.size) := HQ.out.ext hb
        have HB4 : Hid (Ext w w4) := HB.out.trans hb
        clear hb hO hg4 hx4 hR4 hN4
        unfold maxLen at hcm4
        go_wp2_with fail
        refine (HF.out _ _ _ _ HB4.out HO.out.slice).mono ?_
        rintro e w5 ⟨rfl, hb⟩
        have HO5 : Hid (Own w5 (.slice (some ⟨g, off4, none⟩) zs.length cap4) g zs) := HO.out.ext hb
        have HQ5 : Hid (RBox w5 w.heap.size) := HQ4.out.ext hb
        have HB5 : Hid (Ext w w5) := HB4.out.trans hb
        clear hb
        obtain ⟨a6, cap6, he6, -, -, hx6⟩ := id HO5.out
        injection he6 with e1 e2 e3
        subst e1 e3
        obtain ⟨off6, ho6, hR, hN⟩ := hx6 hpos
        injection ho6 with ho6
        injection ho6 with _ ho6 _
        subst ho6
        obtain ⟨-, -, d2, -, -⟩ := hN k z HZ.out
        obtain ⟨⟨y1, r1⟩, s1⟩ := hR.2 (k * 5 + 1) (by omega)
        obtain ⟨-, s2⟩ := hR.2 (k * 5 + 2) (by omega)
        rw [← Nat.add_assoc] at r1 s1 s2
        have HV : Hid (Calls Tryd.prog 78 #[.pointer (some ⟨g, off4 + k * 5, none⟩), .int .i64 n] w5 fun e w' => e = .returned (.bool true) ∧ Ext w5 w') := by
          have := hasVersion_any g (off4 + k * 5) z.version n w5 d2
          rw [HNV.out] at this
          exact this
        have HD5 : Hid (w5.cell? ⟨g, off4 + k * 5 + 2, none⟩ = some (.int .i64 z.version) ∧ w5.cell? ⟨g, off4 + k * 5 + 1, none⟩ = some y1 ∧ w5.frozen? ⟨g, off4 + k * 5 + 1, none⟩ = false ∧ w5.frozen? ⟨g, off4 + k * 5 + 2, none⟩ = false ∧ g < w5.heap.size) := ⟨d2, r1, s1, s2, hR.1⟩
        clear d2 r1 s1 s2 hR hN hx6
        go_wp2_with fail
        refine HV.out.mono ?_
        rintro e w6 ⟨rfl, hb⟩
        have HO6 : Hid (Own w6 (.slice (some ⟨g, off4, none⟩) zs.length cap4) g zs) := HO5.out.ext hb
        have HQ6 : Hid (RBox w6 w.heap.size) := HQ5.out.ext hb
        have HB6 : Hid (Ext w w6) := HB5.out.trans hb
        have d2 := (Below.cell hb (p := ⟨g, off4 + k * 5 + 2, none⟩) HD5.out.2.2.2.2).trans HD5.out.1
        have r1 := (Below.cell hb (p := ⟨g, off4 + k * 5 + 1, none⟩) HD5.out.2.2.2.2).trans HD5.out.2.1
        have s1 := (Below.frozen hb (p := ⟨g, off4 + k * 5 + 1, none⟩) HD5.out.2.2.2.2).trans HD5.out.2.2.1
        have s2 := (Below.frozen hb (p := ⟨g, off4 + k * 5 + 2, none⟩) HD5.out.2.2.2.2).trans HD5.out.2.2.2.1
        clear hb
        have hgn : ¬ w.heap.size = g := by have := HG.out; omega
        have hgn2 : ¬ g = w.heap.size := by have := HG.out; omega
        obtain ⟨q, q0, q1, q2, f0, f1, f2⟩ := HQ6.out
        go_wp2
        refine bodyPost_ret (v := zr 0 ⟨#[]⟩ (.slice (some ⟨g, off4, none⟩) zs.length cap4)) (by simp [results, Tryd.results29, go_sem, zr, q0, q1, q2]) rfl ?_
        exact zret_own 0 ⟨#[]⟩ (own_setDV HO6.out HZ.out d (z.version + 1)) HG.out ((HB6.out.setCell (p := ⟨g, off4 + k * 5 + 1, none⟩) (by have := HG.out; show _ ≤ g; omega) _).setCell (p := ⟨g, off4 + k * 5 + 2, none⟩) (by have := HG.out; show _ ≤ g; omega) _) _ _ _
    · have HNV : Hid (decide (n = -1 ∨ n = z.version) = false) := by show _ = _; simpa using hnv
      rw [if_pos (by omega)]
      clear hnv
      go_enter Tryd.func29, Tryd.ntmps29
      go_wp2_with fail
      refine (HL.out _ ((Ext.refl _).alloc _)).mono ?_
      rintro e w2 ⟨rfl, hb⟩
      have HB : Hid (Ext w w2) := ((Ext.refl _).alloc _).trans hb
      have HQ : Hid (RBox w2 w.heap.size) := (RBox.new w _).ext hb
      clear hb
      go_wp2_with fail
      refine (HD.out _).mono ?_
      rintro e w3 ⟨rfl, rfl⟩
      go_wp2_with fail
      refine (HC.out _ HB.out).mono ?_
      rintro e w4 ⟨v4, g, rfl, hg4, hO, hb⟩
      obtain ⟨a4, cap4, rfl, hlc4, hcm4, hx4⟩ := id hO
      obtain ⟨off4, rfl, hR4, hN4⟩ := hx4 hpos
      have HO : Hid (Own w4 (.slice (some ⟨g, off4, none⟩) zs.length cap4) g zs) := hO
      have HG : Hid (w.heap.size + 1 ≤ g) := by have := HQ.out.1; show _ ≤ _; omega
      have HQ4 : Hid (RBox w4 w.heap.size) := HQ.out.ext hb
      have HB4 : Hid (Ext w w4) := HB.out.trans hb
      clear hb hO hg4 hx4 hR4 hN4
      unfold maxLen at hcm4
      go_wp2_with fail
      refine (HF.out _ _ _ _ HB4.out HO.out.slice).mono ?_
      rintro e w5 ⟨rfl, hb⟩
      have HO5 : Hid (Own w5 (.slice (some ⟨g, off4, none⟩) zs.length cap4) g zs) := HO.out.ext hb
      have HQ5 : Hid (RBox w5 w.heap.size) := HQ4.out.ext hb
      have HB5 : Hid (Ext w w5) := HB4.out.trans hb
      clear hb
      obtain ⟨a6, cap6, he6, -, -, hx6⟩ := id HO5.out
      injection he6 with e1 e2 e3
      subst e1 e3
      obtain ⟨off6, ho6, hR, hN⟩ := hx6 hpos
      injection ho6 with ho6
      injection ho6 with _ ho6 _
      subst ho6
      obtain ⟨-, -, d2, -, -⟩ := hN k z HZ.out
      obtain ⟨⟨y1, r1⟩, s1⟩ := hR.2 (k * 5 + 1) (by omega)
      obtain ⟨-, s2⟩ := hR.2 (k * 5 + 2) (by omega)
      rw [← Nat.add_assoc] at r1 s1 s2
      have HV : Hid (Calls Tryd.prog 78 #[.pointer (some ⟨g, off4 + k * 5, none⟩), .int .i64 n] w5 fun e w' => e = .returned (.bool false) ∧ Ext w5 w') := by
        have := hasVersion_any g (off4 + k * 5) z.version n w5 d2
        rw [HNV.out] at this
        exact this
      have HD5 : Hid (w5.cell? ⟨g, off4 + k * 5 + 2, none⟩ = some (.int .i64 z.version) ∧ w5.cell? ⟨g, off4 + k * 5 + 1, none⟩ = some y1 ∧ w5.frozen? ⟨g, off4 + k * 5 + 1, none⟩ = false ∧ w5.frozen? ⟨g, off4 + k * 5 + 2, none⟩ = false ∧ g < w5.heap.size) := ⟨d2, r1, s1, s2, hR.1⟩
      clear d2 r1 s1 s2 hR hN hx6
      go_wp2_with fail
      refine HV.out.mono ?_
      rintro e w6 ⟨rfl, hb⟩
      have HO6 : Hid (Own w6 (.slice (some ⟨g, off4, none⟩) zs.length cap4) g zs) := HO5.out.ext hb
      have HQ6 : Hid (RBox w6 w.heap.size) := HQ5.out.ext hb
      have HB6 : Hid (Ext w w6) := HB5.out.trans hb
      have d2 := (Below.cell hb (p := ⟨g, off4 + k * 5 + 2, none⟩) HD5.out.2.2.2.2).trans HD5.out.1
      have r1 := (Below.cell hb (p := ⟨g, off4 + k * 5 + 1, none⟩) HD5.out.2.2.2.2).trans HD5.out.2.1
      have s1 := (Below.frozen hb (p := ⟨g, off4 + k * 5 + 1, none⟩) HD5.out.2.2.2.2).trans HD5.out.2.2.1
      have s2 := (Below.frozen hb (p := ⟨g, off4 + k * 5 + 2, none⟩) HD5.out.2.2.2.2).trans HD5.out.2.2.2.1
      clear hb
      obtain ⟨q, q0, q1, q2, f0, f1, f2⟩ := HQ6.out
      go_wp2
      exact bodyPost_ret (v := zr 7 ⟨#[]⟩ (.slice none 0 0)) (by simp [results, Tryd.results29, go_sem, zr, q0, q1, q2]) rfl (zret_bad _ _ (HB6.out.box3 _ _ _))
end Go.Proofs.YtihfgaanaffinaaDoor
