/- The program's DeleteZ. -/
import Derived.Test.YtihfgaanaffinaaDoorT6
import Derived.Test.YtihfgaanaffinaaDoorI9
import Derived.Test.YtihfgaanaffinaaDoorI12
namespace Go.Proofs.YtihfgaanaffinaaDoor
open Go.RowKit
theorem RBox.upd {w w2 : World} {r b : Nat} (h : RBox w r) (he : Upd b w w2) (hne : r ≠ b) : RBox w2 r := by
  obtain ⟨h1, h2, h3, h4, h5, h6, h7⟩ := h
  exact ⟨Nat.lt_of_lt_of_le h1 he.2.1, (he.at_ne _ _ hne h1).1.trans h2, (he.at_ne _ _ hne h1).1.trans h3, (he.at_ne _ _ hne h1).1.trans h4, (he.at_ne _ _ hne h1).2.trans h5, (he.at_ne _ _ hne h1).2.trans h6, (he.at_ne _ _ hne h1).2.trans h7⟩

set_option maxHeartbeats 2000000 in
set_option maxRecDepth 100000 in
theorem implDeleteZ_any (v : Value) (zs : List Zn) (p : ByteArray) (n : Int) (w : World) (hg : Gd w) (hS : NSlice w v zs) :
    Calls Tryd.prog 46 #[v, .string p, .int .i64 n] w (ZRet w (Tre.delV zs p n).1 (Tre.delV zs p n).2.1 (Tre.delV zs p n).2.2) := by
  have HL : Hid (∀ wx : World, Ext w wx → Calls Tryd.prog 74 #[v, .string p] wx fun e w' => e = .returned (.int .i64 (Tre.asked zs p)) ∧ Ext wx w') := fun wx h => treeOrPath_any v zs p wx (hg.ext h) (hS.ext h)
  have HS : Hid (NSlice w v zs) := hS
  have HG0 : Hid (Gd w) := hg
  obtain ⟨a, cap, rfl, hlc, hcm, hx⟩ := hS
  by_cases h0 : Tre.asked zs p ≠ 0
  · rw [Tre.delV_bad rfl h0]
    generalize Tre.asked zs p = F at *
    clear hx
    go_enter Tryd.func46, Tryd.ntmps46
    go_wp2_with fail
    refine (HL.out _ ((Ext.refl _).alloc _)).mono ?_
    rintro e w2 ⟨rfl, hb⟩
    have HB : Hid (Ext w w2) := ((Ext.refl _).alloc _).trans hb
    have HQ : Hid (RBox w2 w.heap.size) := (RBox.new w _).ext hb
    clear hb
    obtain ⟨q, q0, q1, q2, f0, f1, f2⟩ := HQ.out
    go_wp2
    exact bodyPost_ret (v := zr F ⟨#[]⟩ (.slice none 0 0)) (by simp [results, Tryd.results46, go_sem, zr, q0, q1, q2]) rfl (zret_bad _ _ (HB.out.box3 _ _ _))
  have h00 : Tre.asked zs p = 0 := by omega
  rw [h00] at HL
  rw [Tre.delV_ok h00]
  obtain ⟨h20, hU, hpos, h24⟩ := Tre.asked_len h00
  have HF : Hid (zs.length ≤ 1048576 ∧ ∀ z ∈ zs, Pth.faultI z.path.data.toList = 0) := ⟨by omega, fun z hz => (Tre.fault_nums (Tre.asked_fault h00).1 z hz).1⟩
  obtain ⟨b, off, rfl, hb, hN⟩ := hx hpos
  clear hx
  cases ht : (p.toList == [47]) with
  | true =>
    rw [Tre.delT_top ht]
    clear hN hU h24 hb
    go_enter Tryd.func46, Tryd.ntmps46
    go_wp2_with fail
    refine (HL.out _ ((Ext.refl _).alloc _)).mono ?_
    rintro e w2 ⟨rfl, hb⟩
    have HB : Hid (Ext w w2) := ((Ext.refl _).alloc _).trans hb
    have HQ : Hid (RBox w2 w.heap.size) := (RBox.new w _).ext hb
    clear hb
    obtain ⟨q, q0, q1, q2, f0, f1, f2⟩ := HQ.out
    go_wp2
    exact bodyPost_ret (v := zr 1 ⟨#[]⟩ (.slice none 0 0)) (by simp [results, Tryd.results46, go_sem, zr, q0, q1, q2]) rfl (zret_bad _ _ (HB.out.box3 _ _ _))
  | false =>
  have HPl : Hid (∀ wx : World, Ext w wx → Calls Tryd.prog 82 #[.slice (some ⟨b, off, none⟩) zs.length cap, .string p] wx fun e w' => e = .returned (.tuple #[.int .i64 (Tre.cut zs p.data.toList : Nat), .bool (Tre.has zs p)]) ∧ Ext wx w') := fun wx h => placeOf_any _ zs p wx (HS.out.ext h) hU (by omega)
  cases hh : Tre.has zs p with
  | false =>
    rw [Tre.delT_none ht (Tre.has_not hh)]
    rw [hh] at HPl
    generalize Tre.cut zs p.data.toList = k at *
    clear hN hU h24 hb hh
    go_enter Tryd.func46, Tryd.ntmps46
    go_wp2_with fail
    refine (HL.out _ ((Ext.refl _).alloc _)).mono ?_
    rintro e w2 ⟨rfl, hb⟩
    have HB : Hid (Ext w w2) := ((Ext.refl _).alloc _).trans hb
    have HQ : Hid (RBox w2 w.heap.size) := (RBox.new w _).ext hb
    clear hb
    go_wp2_with fail
    refine (HPl.out _ HB.out).mono ?_
    rintro e w3 ⟨rfl, hb⟩
    have HB3 : Hid (Ext w w3) := HB.out.trans hb
    have HQ3 : Hid (RBox w3 w.heap.size) := HQ.out.ext hb
    clear hb
    obtain ⟨q, q0, q1, q2, f0, f1, f2⟩ := HQ3.out
    go_wp2
    exact bodyPost_ret (v := zr 4 ⟨#[]⟩ (.slice none 0 0)) (by simp [results, Tryd.results46, go_sem, zr, q0, q1, q2]) rfl (zret_bad _ _ (HB3.out.box3 _ _ _))
  | true =>
    obtain ⟨z, hat, hz, -⟩ := Tre.has_at hU hh
    rw [Tre.delT_some ht hat hz]
    rw [hh] at HPl
    have hkl := (List.getElem?_eq_some_iff.1 hz).1
    have HV0 : Hid (∀ wx : World, Ext w wx → Calls Tryd.prog 78 #[.pointer (some ⟨b, off + Tre.cut zs p.data.toList * 5, none⟩), .int .i64 n] wx fun e w' => e = .returned (.bool (decide (n = -1 ∨ n = z.version))) ∧ Ext wx w') := fun wx h => hasVersion_any b _ z.version n wx ((hN.ext hb h _ z hz).2.2.1)
    have HK : Hid (∀ wx : World, Ext w wx → Calls Tryd.prog 96 #[.slice (some ⟨b, off, none⟩) zs.length cap, .string p] wx fun e w' => ∃ v' g, e = .returned v' ∧ wx.heap.size ≤ g ∧ TOwn w' v' g (Tre.kids zs p) ∧ Ext wx w') := fun wx h => kidNames_any _ zs p wx (HG0.out.ext h) (HS.out.ext h) HF.out.1 HF.out.2
    have HC : Hid (∀ wx : World, Ext w wx → Calls Tryd.prog 76 #[.slice (some ⟨b, off, none⟩) zs.length cap] wx fun e w' => ∃ v' g, e = .returned v' ∧ wx.heap.size ≤ g ∧ Own w' v' g zs ∧ Ext wx w') := fun wx h => copyNodes_any _ zs wx (HS.out.ext h) (by omega) hpos (fun z hz => by have := h24 z hz; omega)
    generalize Tre.cut zs p.data.toList = k at *
    have HDl : Hid (∀ (wx : World) (g off6 cap6 : Nat), Own wx (.slice (some ⟨g, off6, none⟩) zs.length cap6) g zs → Calls Tryd.prog 97 #[.slice (some ⟨g, off6, none⟩) zs.length cap6, .int .i64 k, .int .i64 ((k : Int) + 1)] wx fun e w' =>
      e = .returned (.slice (some ⟨g, off6, none⟩) (zs.take k ++ zs.drop (k + 1)).length cap6) ∧ Own w' (.slice (some ⟨g, off6, none⟩) (zs.take k ++ zs.drop (k + 1)).length cap6) g (zs.take k ++ zs.drop (k + 1)) ∧ Upd g wx w') := fun wx g off6 cap6 hO => by
      have := deleteS_any g off6 cap6 k (k + 1) zs wx hO hkl rfl
      rw [show ((k + 1 : Nat) : Int) = (k : Int) + 1 from by omega] at this
      exact this
    clear hN hU h24 hh hz hat
    unfold maxLen at hcm
    by_cases hnv : n = -1 ∨ n = z.version
    · rw [if_neg (by omega)]
      have HV : Hid (∀ wx : World, Ext w wx → Calls Tryd.prog 78 #[.pointer (some ⟨b, off + k * 5, none⟩), .int .i64 n] wx fun e w' => e = .returned (.bool true) ∧ Ext wx w') := by
        have h := HV0.out; rw [show decide (n = -1 ∨ n = z.version) = true from by simpa using hnv] at h; exact h
      clear HV0 hnv
      by_cases hk0 : 0 < (Tre.kids zs p).length
      · rw [if_pos hk0]
        go_enter Tryd.func46, Tryd.ntmps46
        go_wp2_with fail
        refine (HL.out _ ((Ext.refl _).alloc _)).mono ?_
        rintro e w2 ⟨rfl, hb⟩
        have HB : Hid (Ext w w2) := ((Ext.refl _).alloc _).trans hb
        have HQ : Hid (RBox w2 w.heap.size) := (RBox.new w _).ext hb
        clear hb
        go_wp2_with fail
        refine (HPl.out _ HB.out).mono ?_
        rintro e w3 ⟨rfl, hb⟩
        have HB3 : Hid (Ext w w3) := HB.out.trans hb
        have HQ3 : Hid (RBox w3 w.heap.size) := HQ.out.ext hb
        clear hb
        go_wp2_with fail
        refine (HV.out _ HB3.out).mono ?_
        rintro e w4 ⟨rfl, hb⟩
        have HB4 : Hid (Ext w w4) := HB3.out.trans hb
        have HQ4 : Hid (RBox w4 w.heap.size) := HQ3.out.ext hb
        clear hb
        go_wp2_with fail
        refine (HK.out _ HB4.out).mono ?_
        rintro e w5 ⟨v5, g5, rfl, hg5, hO5, hb⟩
        obtain ⟨a5, cap5, rfl, -⟩ := hO5
        have HB5 : Hid (Ext w w5) := HB4.out.trans hb
        have HQ5 : Hid (RBox w5 w.heap.size) := HQ4.out.ext hb
        clear hb hg5
        obtain ⟨q, q0, q1, q2, f0, f1, f2⟩ := HQ5.out
        go_wp2
        exact bodyPost_ret (v := zr 8 ⟨#[]⟩ (.slice none 0 0)) (by simp [results, Tryd.results46, go_sem, zr, q0, q1, q2]) rfl (zret_bad _ _ (HB5.out.box3 _ _ _))
      · rw [if_neg hk0]
        have hkz : (Tre.kids zs p).length = 0 := by omega
        go_enter Tryd.func46, Tryd.ntmps46
        go_wp2_with fail
        refine (HL.out _ ((Ext.refl _).alloc _)).mono ?_
        rintro e w2 ⟨rfl, hb⟩
        have HB : Hid (Ext w w2) := ((Ext.refl _).alloc _).trans hb
        have HQ : Hid (RBox w2 w.heap.size) := (RBox.new w _).ext hb
        clear hb
        go_wp2_with fail
        refine (HPl.out _ HB.out).mono ?_
        rintro e w3 ⟨rfl, hb⟩
        have HB3 : Hid (Ext w w3) := HB.out.trans hb
        have HQ3 : Hid (RBox w3 w.heap.size) := HQ.out.ext hb
        clear hb
        go_wp2_with fail
        refine (HV.out _ HB3.out).mono ?_
        rintro e w4 ⟨rfl, hb⟩
        have HB4 : Hid (Ext w w4) := HB3.out.trans hb
        have HQ4 : Hid (RBox w4 w.heap.size) := HQ3.out.ext hb
        clear hb
        go_wp2_with fail
        refine (HK.out _ HB4.out).mono ?_
        rintro e w5 ⟨v5, g5, rfl, hg5, hO5, hb⟩
        obtain ⟨a5, cap5, rfl, -⟩ := hO5
        have HB5 : Hid (Ext w w5) := HB4.out.trans hb
        have HQ5 : Hid (RBox w5 w.heap.size) := HQ4.out.ext hb
        clear hb hg5
        rw [hkz]
        go_wp2_with fail
        refine (HC.out _ HB5.out).mono ?_
        rintro e w6 ⟨v6, g, rfl, hg6, hO, hb⟩
        obtain ⟨a6, cap6, rfl, hlc6, hcm6, hx6⟩ := id hO
        obtain ⟨off6, rfl, -, -⟩ := hx6 hpos
        have HO : Hid (Own w6 (.slice (some ⟨g, off6, none⟩) zs.length cap6) g zs) := hO
        have HG : Hid (w.heap.size + 1 ≤ g) := by have := HQ5.out.1; show _ ≤ _; omega
        have HQ6 : Hid (RBox w6 w.heap.size) := HQ5.out.ext hb
        have HB6 : Hid (Ext w w6) := HB5.out.trans hb
        clear hb hO hg6 hx6
        go_wp2_with fail
        refine (HDl.out _ _ _ _ HO.out).mono ?_
        rintro e w7 ⟨rfl, hO7, hU7⟩
        have HO7 : Hid (Own w7 (.slice (some ⟨g, off6, none⟩) (zs.take k ++ zs.drop (k + 1)).length cap6) g (zs.take k ++ zs.drop (k + 1))) := hO7
        have HB7 : Hid (Ext w w7) := hU7.to_ext HB6.out (by have := HG.out; omega)
        obtain ⟨q, q0, q1, q2, f0, f1, f2⟩ := HQ6.out.upd hU7 (by have := HG.out; omega)
        clear hU7 hO7
        go_wp2
        exact bodyPost_ret (v := zr 0 ⟨#[]⟩ (.slice (some ⟨g, off6, none⟩) (zs.take k ++ zs.drop (k + 1)).length cap6)) (by simp [results, Tryd.results46, go_sem, zr, q0, q1, q2]) rfl (zret_own 0 ⟨#[]⟩ HO7.out HG.out HB7.out _ _ _)
    · rw [if_pos (by omega)]
      have HV : Hid (∀ wx : World, Ext w wx → Calls Tryd.prog 78 #[.pointer (some ⟨b, off + k * 5, none⟩), .int .i64 n] wx fun e w' => e = .returned (.bool false) ∧ Ext wx w') := by
        have h := HV0.out; rw [show decide (n = -1 ∨ n = z.version) = false from by simpa using hnv] at h; exact h
      clear HV0 hnv
      go_enter Tryd.func46, Tryd.ntmps46
      go_wp2_with fail
      refine (HL.out _ ((Ext.refl _).alloc _)).mono ?_
      rintro e w2 ⟨rfl, hb⟩
      have HB : Hid (Ext w w2) := ((Ext.refl _).alloc _).trans hb
      have HQ : Hid (RBox w2 w.heap.size) := (RBox.new w _).ext hb
      clear hb
      go_wp2_with fail
      refine (HPl.out _ HB.out).mono ?_
      rintro e w3 ⟨rfl, hb⟩
      have HB3 : Hid (Ext w w3) := HB.out.trans hb
      have HQ3 : Hid (RBox w3 w.heap.size) := HQ.out.ext hb
      clear hb
      go_wp2_with fail
      refine (HV.out _ HB3.out).mono ?_
      rintro e w4 ⟨rfl, hb⟩
      have HB4 : Hid (Ext w w4) := HB3.out.trans hb
      have HQ4 : Hid (RBox w4 w.heap.size) := HQ3.out.ext hb
      clear hb
      obtain ⟨q, q0, q1, q2, f0, f1, f2⟩ := HQ4.out
      go_wp2
      exact bodyPost_ret (v := zr 7 ⟨#[]⟩ (.slice none 0 0)) (by simp [results, Tryd.results46, go_sem, zr, q0, q1, q2]) rfl (zret_bad _ _ (HB4.out.box3 _ _ _))
end Go.Proofs.YtihfgaanaffinaaDoor
