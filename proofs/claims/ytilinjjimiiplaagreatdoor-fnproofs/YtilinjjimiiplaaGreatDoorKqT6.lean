/- l2Delete, DeleteZ. -/
import Derived.Test.YtilinjjimiiplaaGreatDoorKqJ8
import Derived.Test.YtilinjjimiiplaaGreatDoorKqJ15
namespace Go.Proofs.YtilinjjimiiplaaGreatDoor
open Go.RowKit
namespace Tre
def delT (zs : List Zn) (p : ByteArray) (n : Int) : Int × ByteArray × List Zn :=
  if (p.toList == [47]) = true then (1, ⟨#[]⟩, [])
  else if atI zs p < 0 then (4, ⟨#[]⟩, [])
  else match zs[(atI zs p).toNat]? with
    | none => (4, ⟨#[]⟩, [])
    | some z => if n ≠ -1 ∧ n ≠ z.version then (7, ⟨#[]⟩, []) else if 0 < (kids zs p).length then (8, ⟨#[]⟩, []) else (0, ⟨#[]⟩, zs.take (atI zs p).toNat ++ zs.drop ((atI zs p).toNat + 1))
theorem delT_top {zs : List Zn} {p : ByteArray} {n : Int} (h : (p.toList == [47]) = true) : delT zs p n = (1, ⟨#[]⟩, []) := by unfold delT; rw [if_pos h]
theorem delT_none {zs : List Zn} {p : ByteArray} {n : Int} (h : (p.toList == [47]) = false) (ha : atI zs p < 0) : delT zs p n = (4, ⟨#[]⟩, []) := by unfold delT; rw [if_neg (by rw [h]; simp), if_pos ha]
theorem delT_some {zs : List Zn} {p : ByteArray} {n : Int} {k : Nat} {z : Zn} (h : (p.toList == [47]) = false) (ha : atI zs p = k) (hz : zs[k]? = some z) : delT zs p n = if n ≠ -1 ∧ n ≠ z.version then (7, ⟨#[]⟩, []) else if 0 < (kids zs p).length then (8, ⟨#[]⟩, []) else (0, ⟨#[]⟩, zs.take k ++ zs.drop (k + 1)) := by
  unfold delT
  rw [if_neg (by rw [h]; simp), ha, if_neg (by omega), Int.toNat_natCast, hz]
def delV (zs : List Zn) (p : ByteArray) (n : Int) : Int × ByteArray × List Zn := if asked zs p ≠ 0 then (asked zs p, ⟨#[]⟩, []) else delT zs p n
theorem delV_bad {zs : List Zn} {p : ByteArray} {n c : Int} (h : asked zs p = c) (h0 : c ≠ 0) : delV zs p n = (c, ⟨#[]⟩, []) := by unfold delV; rw [h, if_pos h0]
theorem delV_ok {zs : List Zn} {p : ByteArray} {n : Int} (h : asked zs p = 0) : delV zs p n = delT zs p n := by unfold delV; rw [h, if_neg (by simp)]
end Tre
theorem zret_own3 {w5 : World} {base : Nat} {v5 : Value} {rs : List Zn} {m : Nat} {cs : List Value} {t : TypeId} (h : w5.ownsRow base t 5 v5 m cs) (hm : m = rs.length) (hcs : cs = cellsZ rs) : ∃ g a5 cap5, base ≤ g ∧ v5 = .slice a5 rs.length cap5 ∧ Own w5 (.slice a5 rs.length cap5) g rs := by
  subst hm hcs
  obtain ⟨g, hg, hO⟩ := Own.of_row h
  obtain ⟨a5, cap5, rfl, -⟩ := id hO
  exact ⟨g, a5, cap5, hg, rfl, hO⟩

set_option maxHeartbeats 2000000 in
set_option maxRecDepth 100000 in
theorem l2Delete_top (a : Option Addr) (cap : Nat) (zs : List Zn) (p : ByteArray) (n : Int) (w : World) (hS : NSlice w (.slice a zs.length cap) zs) (hl : zs.length ≤ 1048576) (hf : ∀ z ∈ zs, Pth.faultI z.path.data.toList = 0) (ht : (p.toList == [47]) = true) :
    Calls Tryz.prog 58 #[.slice a zs.length cap, .string p, .int .i64 n] w (ZRet w 1 ⟨#[]⟩ []) := by
  have HK : Hid (∀ wx : World, Ext w wx → Calls Tryz.prog 81 #[.slice a zs.length cap, .string p] wx fun e w' => ∃ v' g, e = .returned v' ∧ wx.heap.size ≤ g ∧ TOwn w' v' g (Tre.kids zs p) ∧ Ext wx w') := fun wx h => l2Kids_any _ zs p wx (hS.ext h) hl hf
  have HT : Hid (∀ wx : World, Ext w wx → Calls Tryz.prog 21 #[.slice a zs.length cap, .string p] wx fun e w' => e = .returned (.int .i64 (Tre.atI zs p)) ∧ w' = wx) := fun wx h => l2At_any _ zs p wx (hS.ext h)
  have HB0 : Hid (∀ (c : Int) (wx : World), Calls Tryz.prog 75 #[.int .i64 c] wx fun e w' => e = .returned (zr c ⟨#[]⟩ (.slice none 0 0)) ∧ Ext wx w') := l2Bad_any
  unfold zr at HB0
  obtain ⟨a', cap', he, hlc, hcm, hx⟩ := hS
  injection he with e1 _ e3
  subst e1 e3
  clear hx HK HT
  go_enter Tryz.func58, Tryz.ntmps58
  go_wp2_with fail
  refine (HB0.out _ _).mono ?_
  rintro e w4 ⟨rfl, hb4⟩
  obtain ⟨q, q0, q1, q2, f0, f1, f2⟩ := (RBox.new w _).ext hb4
  have HB4 : Hid (Ext w w4) := ((Ext.refl _).alloc _).trans hb4
  clear hb4
  go_wp2
  exact bodyPost_ret (v := zr 1 ⟨#[]⟩ (.slice none 0 0)) (by simp [results, Tryz.results58, go_sem, zr, q0, q1, q2]) rfl (zret_bad _ _ (HB4.out.box3 _ _ _))

set_option maxHeartbeats 2000000 in
set_option maxRecDepth 100000 in
theorem l2Delete_none (a : Option Addr) (cap : Nat) (zs : List Zn) (p : ByteArray) (n : Int) (w : World) (hS : NSlice w (.slice a zs.length cap) zs) (hl : zs.length ≤ 1048576) (hf : ∀ z ∈ zs, Pth.faultI z.path.data.toList = 0) (ht : (p.toList == [47]) = false) (hm : Tre.atI zs p < 0) :
    Calls Tryz.prog 58 #[.slice a zs.length cap, .string p, .int .i64 n] w (ZRet w 4 ⟨#[]⟩ []) := by
  have HK : Hid (∀ wx : World, Ext w wx → Calls Tryz.prog 81 #[.slice a zs.length cap, .string p] wx fun e w' => ∃ v' g, e = .returned v' ∧ wx.heap.size ≤ g ∧ TOwn w' v' g (Tre.kids zs p) ∧ Ext wx w') := fun wx h => l2Kids_any _ zs p wx (hS.ext h) hl hf
  have HT : Hid (∀ wx : World, Ext w wx → Calls Tryz.prog 21 #[.slice a zs.length cap, .string p] wx fun e w' => e = .returned (.int .i64 (Tre.atI zs p)) ∧ w' = wx) := fun wx h => l2At_any _ zs p wx (hS.ext h)
  have HB0 : Hid (∀ (c : Int) (wx : World), Calls Tryz.prog 75 #[.int .i64 c] wx fun e w' => e = .returned (zr c ⟨#[]⟩ (.slice none 0 0)) ∧ Ext wx w') := l2Bad_any
  unfold zr at HB0
  obtain ⟨a', cap', he, hlc, hcm, hx⟩ := hS
  injection he with e1 _ e3
  subst e1 e3
  generalize Tre.atI zs p = t at *
  clear hx HK
  go_enter Tryz.func58, Tryz.ntmps58
  go_wp2_with fail
  refine (HT.out _ ((Ext.refl _).alloc _)).mono ?_
  rintro e w3 ⟨rfl, rfl⟩
  go_wp2_with fail
  refine (HB0.out _ _).mono ?_
  rintro e w4 ⟨rfl, hb4⟩
  obtain ⟨q, q0, q1, q2, f0, f1, f2⟩ := (RBox.new w _).ext hb4
  have HB4 : Hid (Ext w w4) := ((Ext.refl _).alloc _).trans hb4
  clear hb4
  go_wp2
  exact bodyPost_ret (v := zr 4 ⟨#[]⟩ (.slice none 0 0)) (by simp [results, Tryz.results58, go_sem, zr, q0, q1, q2]) rfl (zret_bad _ _ (HB4.out.box3 _ _ _))

set_option maxHeartbeats 2000000 in
set_option maxRecDepth 100000 in
theorem l2Delete_vers (a : Option Addr) (cap : Nat) (zs : List Zn) (p : ByteArray) (n : Int) (w : World) (hS : NSlice w (.slice a zs.length cap) zs) (hl : zs.length ≤ 1048576) (hf : ∀ z ∈ zs, Pth.faultI z.path.data.toList = 0) (ht : (p.toList == [47]) = false) (k : Nat) (z : Zn) (hk : Tre.atI zs p = k) (hz : zs[k]? = some z) (h1 : ¬ n = -1) (h2 : ¬ n = z.version) :
    Calls Tryz.prog 58 #[.slice a zs.length cap, .string p, .int .i64 n] w (ZRet w 7 ⟨#[]⟩ []) := by
  have HK : Hid (∀ wx : World, Ext w wx → Calls Tryz.prog 81 #[.slice a zs.length cap, .string p] wx fun e w' => ∃ v' g, e = .returned v' ∧ wx.heap.size ≤ g ∧ TOwn w' v' g (Tre.kids zs p) ∧ Ext wx w') := fun wx h => l2Kids_any _ zs p wx (hS.ext h) hl hf
  have HT : Hid (∀ wx : World, Ext w wx → Calls Tryz.prog 21 #[.slice a zs.length cap, .string p] wx fun e w' => e = .returned (.int .i64 (Tre.atI zs p)) ∧ w' = wx) := fun wx h => l2At_any _ zs p wx (hS.ext h)
  have HB0 : Hid (∀ (c : Int) (wx : World), Calls Tryz.prog 75 #[.int .i64 c] wx fun e w' => e = .returned (zr c ⟨#[]⟩ (.slice none 0 0)) ∧ Ext wx w') := l2Bad_any
  unfold zr at HB0
  obtain ⟨a', cap', he, hlc, hcm, hx⟩ := hS
  injection he with e1 _ e3
  subst e1 e3
  rw [hk] at HT
  have hkl := (List.getElem?_eq_some_iff.1 hz).1
  obtain ⟨b, off, rfl, hb, hN⟩ := hx (by omega)
  have HN : Hid (b < w.heap.size ∧ NodesAt w b off zs) := ⟨hb, hN⟩
  obtain ⟨-, -, d2, -, -⟩ := hN k z hz
  clear hN hz hx hk
  have g1 : (n != -1) = true := by simp [h1]
  have g2 : (n != z.version) = true := by simp [h2]
  go_enter Tryz.func58, Tryz.ntmps58
  go_wp2_with fail
  refine (HT.out _ ((Ext.refl _).alloc _)).mono ?_
  rintro e w3 ⟨rfl, rfl⟩
  go_wp2_with fail
  refine (HB0.out _ _).mono ?_
  rintro e w4 ⟨rfl, hb4⟩
  obtain ⟨q, q0, q1, q2, f0, f1, f2⟩ := (RBox.new w _).ext hb4
  have HB4 : Hid (Ext w w4) := ((Ext.refl _).alloc _).trans hb4
  clear hb4
  go_wp2
  exact bodyPost_ret (v := zr 7 ⟨#[]⟩ (.slice none 0 0)) (by simp [results, Tryz.results58, go_sem, zr, q0, q1, q2]) rfl (zret_bad _ _ (HB4.out.box3 _ _ _))

set_option maxHeartbeats 2000000 in
set_option maxRecDepth 100000 in
theorem l2Delete_kids (a : Option Addr) (cap : Nat) (zs : List Zn) (p : ByteArray) (n : Int) (w : World) (hS : NSlice w (.slice a zs.length cap) zs) (hl : zs.length ≤ 1048576) (hf : ∀ z ∈ zs, Pth.faultI z.path.data.toList = 0) (ht : (p.toList == [47]) = false) (k : Nat) (z : Zn) (hk : Tre.atI zs p = k) (hz : zs[k]? = some z) (hv : n = -1 ∨ (¬ n = -1 ∧ n = z.version)) (hk0 : 0 < (Tre.kids zs p).length) :
    Calls Tryz.prog 58 #[.slice a zs.length cap, .string p, .int .i64 n] w (ZRet w 8 ⟨#[]⟩ []) := by
  have HK : Hid (∀ wx : World, Ext w wx → Calls Tryz.prog 81 #[.slice a zs.length cap, .string p] wx fun e w' => ∃ v' g, e = .returned v' ∧ wx.heap.size ≤ g ∧ TOwn w' v' g (Tre.kids zs p) ∧ Ext wx w') := fun wx h => l2Kids_any _ zs p wx (hS.ext h) hl hf
  have HT : Hid (∀ wx : World, Ext w wx → Calls Tryz.prog 21 #[.slice a zs.length cap, .string p] wx fun e w' => e = .returned (.int .i64 (Tre.atI zs p)) ∧ w' = wx) := fun wx h => l2At_any _ zs p wx (hS.ext h)
  have HB0 : Hid (∀ (c : Int) (wx : World), Calls Tryz.prog 75 #[.int .i64 c] wx fun e w' => e = .returned (zr c ⟨#[]⟩ (.slice none 0 0)) ∧ Ext wx w') := l2Bad_any
  unfold zr at HB0
  obtain ⟨a', cap', he, hlc, hcm, hx⟩ := hS
  injection he with e1 _ e3
  subst e1 e3
  rw [hk] at HT
  have hkl := (List.getElem?_eq_some_iff.1 hz).1
  obtain ⟨b, off, rfl, hb, hN⟩ := hx (by omega)
  have HN : Hid (b < w.heap.size ∧ NodesAt w b off zs) := ⟨hb, hN⟩
  obtain ⟨-, -, d2, -, -⟩ := hN k z hz
  clear hN hz hx hk
  rcases hv with h1 | ⟨h1, h2⟩
  · have g1 : (n != -1) = false := by simp [h1]
    go_enter Tryz.func58, Tryz.ntmps58
    go_wp2_with fail
    refine (HT.out _ ((Ext.refl _).alloc _)).mono ?_
    rintro e w3 ⟨rfl, rfl⟩
    go_wp2_with fail
    refine (HK.out _ ((Ext.refl _).alloc _)).mono ?_
    rintro e w3 ⟨v3, g, rfl, hg, hO, hb3⟩
    obtain ⟨a3, cap3, rfl, -⟩ := hO
    have HB3 : Hid (Ext w w3) := ((Ext.refl _).alloc _).trans hb3
    have HQ : Hid (RBox w3 w.heap.size) := (RBox.new w _).ext hb3
    clear hb3 hg
    go_wp2_with fail
    refine (HB0.out _ _).mono ?_
    rintro e w4 ⟨rfl, hb4⟩
    obtain ⟨q, q0, q1, q2, f0, f1, f2⟩ := (HQ.out).ext hb4
    have HB4 : Hid (Ext w w4) := (HB3.out).trans hb4
    clear hb4
    go_wp2
    exact bodyPost_ret (v := zr 8 ⟨#[]⟩ (.slice none 0 0)) (by simp [results, Tryz.results58, go_sem, zr, q0, q1, q2]) rfl (zret_bad _ _ (HB4.out.box3 _ _ _))
  · have g1 : (n != -1) = true := by simp [h1]
    have g2 : (n != z.version) = false := by simp [h2]
    go_enter Tryz.func58, Tryz.ntmps58
    go_wp2_with fail
    refine (HT.out _ ((Ext.refl _).alloc _)).mono ?_
    rintro e w3 ⟨rfl, rfl⟩
    go_wp2_with fail
    refine (HK.out _ ((Ext.refl _).alloc _)).mono ?_
    rintro e w3 ⟨v3, g, rfl, hg, hO, hb3⟩
    obtain ⟨a3, cap3, rfl, -⟩ := hO
    have HB3 : Hid (Ext w w3) := ((Ext.refl _).alloc _).trans hb3
    have HQ : Hid (RBox w3 w.heap.size) := (RBox.new w _).ext hb3
    clear hb3 hg
    go_wp2_with fail
    refine (HB0.out _ _).mono ?_
    rintro e w4 ⟨rfl, hb4⟩
    obtain ⟨q, q0, q1, q2, f0, f1, f2⟩ := (HQ.out).ext hb4
    have HB4 : Hid (Ext w w4) := (HB3.out).trans hb4
    clear hb4
    go_wp2
    exact bodyPost_ret (v := zr 8 ⟨#[]⟩ (.slice none 0 0)) (by simp [results, Tryz.results58, go_sem, zr, q0, q1, q2]) rfl (zret_bad _ _ (HB4.out.box3 _ _ _))

set_option maxHeartbeats 2000000 in
set_option maxRecDepth 100000 in
theorem l2Delete_ok (a : Option Addr) (cap : Nat) (zs : List Zn) (p : ByteArray) (n : Int) (w : World) (hS : NSlice w (.slice a zs.length cap) zs) (hl : zs.length ≤ 1048576) (hf : ∀ z ∈ zs, Pth.faultI z.path.data.toList = 0) (ht : (p.toList == [47]) = false) (k : Nat) (z : Zn) (hk : Tre.atI zs p = k) (hz : zs[k]? = some z) (hv : n = -1 ∨ (¬ n = -1 ∧ n = z.version)) (hkz : (Tre.kids zs p).length = 0) :
    Calls Tryz.prog 58 #[.slice a zs.length cap, .string p, .int .i64 n] w (ZRet w 0 ⟨#[]⟩ (zs.take k ++ zs.drop (k + 1))) := by
  have HK : Hid (∀ wx : World, Ext w wx → Calls Tryz.prog 81 #[.slice a zs.length cap, .string p] wx fun e w' => ∃ v' g, e = .returned v' ∧ wx.heap.size ≤ g ∧ TOwn w' v' g (Tre.kids zs p) ∧ Ext wx w') := fun wx h => l2Kids_any _ zs p wx (hS.ext h) hl hf
  have HT : Hid (∀ wx : World, Ext w wx → Calls Tryz.prog 21 #[.slice a zs.length cap, .string p] wx fun e w' => e = .returned (.int .i64 (Tre.atI zs p)) ∧ w' = wx) := fun wx h => l2At_any _ zs p wx (hS.ext h)
  have HB0 : Hid (∀ (c : Int) (wx : World), Calls Tryz.prog 75 #[.int .i64 c] wx fun e w' => e = .returned (zr c ⟨#[]⟩ (.slice none 0 0)) ∧ Ext wx w') := l2Bad_any
  unfold zr at HB0
  obtain ⟨a', cap', he, hlc, hcm, hx⟩ := hS
  injection he with e1 _ e3
  subst e1 e3
  have hi9 : (Tryz.prog.info? 38).map (fun i => (i.zero, i.size, i.bytes)) = some (some (.agg #[.string ByteArray.empty, .int .i64 0, .int .i64 0, .int .i64 0, .int .i64 0]), 5, 48) := by kernel_rfl
  obtain ⟨i0, hi, hx9⟩ := Option.map_eq_some_iff.1 hi9
  simp only [Prod.mk.injEq] at hx9
  obtain ⟨hz0, hz1, hz2⟩ := hx9
  clear hi9
  rw [hk] at HT
  have hkl := (List.getElem?_eq_some_iff.1 hz).1
  obtain ⟨b, off, rfl, hb, hN⟩ := hx (by omega)
  have HN : Hid (b < w.heap.size ∧ NodesAt w b off zs) := ⟨hb, hN⟩
  obtain ⟨-, -, d2, -, -⟩ := hN k z hz
  clear hN hz hx hk
  have hlt : (cellsZ (zs.take k)).length = k * 5 := by rw [cellsZ_length, List.length_take]; omega
  have hld : (cellsZ (zs.drop (k + 1))).length = (zs.length - (k + 1)) * 5 := by rw [cellsZ_length, List.length_drop]
  obtain ⟨A, hA, HSrc⟩ : ∃ A : Addr, (if cap = k + 1 then some (⟨b, off, none⟩ : Addr) else some ⟨b, off + (k + 1) * 5, none⟩) = some A ∧ Hid (∀ wx : World, NodesAt wx b off zs → ∀ j u, (cellsZ (zs.drop (k + 1)))[j]? = some u → wx.cell? (A.add j) = some u) := by
    by_cases h : cap = k + 1
    · refine ⟨⟨b, off, none⟩, by simp [h], fun wx _ t u hu => ?_⟩
      rw [List.drop_of_length_le (by omega)] at hu
      simp [cellsZ] at hu
    · refine ⟨⟨b, off + (k + 1) * 5, none⟩, by simp [h], fun wx hN => (hN.drop (k + 1)).news⟩
  unfold maxLen at hcm
  rcases hv with h1 | ⟨h1, h2⟩
  · have g1 : (n != -1) = false := by simp [h1]
    go_enter Tryz.func58, Tryz.ntmps58
    go_wp2_with fail
    refine (HT.out _ ((Ext.refl _).alloc _)).mono ?_
    rintro e w3 ⟨rfl, rfl⟩
    go_wp2_with fail
    refine (HK.out _ ((Ext.refl _).alloc _)).mono ?_
    rintro e w3 ⟨v3, g, rfl, hg, hO, hb3⟩
    obtain ⟨a3, cap3, rfl, -⟩ := hO
    have HB3 : Hid (Ext w w3) := ((Ext.refl _).alloc _).trans hb3
    have HQ : Hid (RBox w3 w.heap.size) := (RBox.new w _).ext hb3
    clear hb3 hg
    rw [hkz]
    have hbl : b < w3.heap.size := Nat.lt_of_lt_of_le hb HB3.out.size
    have HN3 : Hid (NodesAt (w3.alloc (.cells #[] 38)) b off zs) := HN.out.2.ext HN.out.1 (HB3.out.alloc _)
    have HO : Hid ((w3.alloc (.cells #[] 38)).ownsRow w3.heap.size 38 5 (.slice (some ⟨w3.heap.size, 0, none⟩) 0 0) 0 []) := World.ownsRow_made w3 #[] 0 (Nat.le_refl _) (by unfold maxLen; omega) rfl
    go_wp2_with first | (at_builtin; refine wpList_append_own _ rfl _ _ 24 rfl w3.heap.size 38 i0 (.agg #[.string ByteArray.empty, .int .i64 0, .int .i64 0, .int .i64 0, .int .i64 0]) 5 48 Tryz.underlying24 hi hz0 hz1 hz2 rfl (by decide) v4 (0 + k) ([] ++ cellsZ (zs.take k)) rfl HO4.out A (zs.length - (k + 1)) _ (cellsZ (zs.drop (k + 1))) rfl hld (HSrc.out w4 HN4.out) (cellsZ_one _) (by unfold maxLen; omega) (by omega) (by have := HS4.out; omega) ?_; intro v5 w5 hown5 hgrow5 hnil5; obtain ⟨g5, a5, cap5, hg5, rfl, hO5⟩ := zret_own3 (rs := zs.take k ++ zs.drop (k + 1)) hown5 (by simp; omega) (by rw [cellsZ_append]; simp); have HE5 : Hid (Ext w3 w5) := Below.grown HE34.out hgrow5 (by have := HS4.out; omega) (fun q hq => (HO4.out.lt q hq).1); have HO5 : Hid (Own w5 (.slice a5 (zs.take k ++ zs.drop (k + 1)).length cap5) g5 (zs.take k ++ zs.drop (k + 1)) ∧ w3.heap.size ≤ g5) := ⟨hO5, hg5⟩; obtain ⟨q, q0, q1, q2, f0, f1, f2⟩ := HQ.out.ext HE5.out; clear hown5 hgrow5 hnil5 hO5 hg5) | (at_builtin; refine wpList_append_own _ rfl _ _ 24 rfl w3.heap.size 38 i0 (.agg #[.string ByteArray.empty, .int .i64 0, .int .i64 0, .int .i64 0, .int .i64 0]) 5 48 Tryz.underlying24 hi hz0 hz1 hz2 rfl (by decide) (.slice (some ⟨w3.heap.size, 0, none⟩) 0 0) 0 [] rfl HO.out ⟨b, off, none⟩ k _ (cellsZ (zs.take k)) rfl hlt (HN3.out.take k).news (cellsZ_one _) (by unfold maxLen; omega) (by omega) (by simp) ?_; intro v4 w4 hown4 hgrow4 hnil4; have HE34 : Hid (Ext w3 w4) := Below.grown ((Ext.refl _).alloc _) hgrow4 (by simp) (fun q hq => (HO.out.lt q hq).1); have HS4 : Hid (w3.heap.size ≤ w4.heap.size) := HE34.out.size; have HN4 : Hid (NodesAt w4 b off zs) := HN.out.2.ext HN.out.1 (HB3.out.trans HE34.out); have HO4 : Hid (w4.ownsRow w3.heap.size 38 5 v4 (0 + k) ([] ++ cellsZ (zs.take k))) := hown4; clear hown4 hgrow4 hnil4)
    exact bodyPost_ret (v := zr 0 ⟨#[]⟩ (.slice a5 (zs.take k ++ zs.drop (k + 1)).length cap5)) (by simp [results, Tryz.results58, go_sem, zr, q0, q1, q2]) rfl (zret_own 0 ⟨#[]⟩ HO5.out.1 (by have := HO5.out.2; have := HQ.out.1; omega) (HB3.out.trans HE5.out) _ _ _)
  · have g1 : (n != -1) = true := by simp [h1]
    have g2 : (n != z.version) = false := by simp [h2]
    go_enter Tryz.func58, Tryz.ntmps58
    go_wp2_with fail
    refine (HT.out _ ((Ext.refl _).alloc _)).mono ?_
    rintro e w3 ⟨rfl, rfl⟩
    go_wp2_with fail
    refine (HK.out _ ((Ext.refl _).alloc _)).mono ?_
    rintro e w3 ⟨v3, g, rfl, hg, hO, hb3⟩
    obtain ⟨a3, cap3, rfl, -⟩ := hO
    have HB3 : Hid (Ext w w3) := ((Ext.refl _).alloc _).trans hb3
    have HQ : Hid (RBox w3 w.heap.size) := (RBox.new w _).ext hb3
    clear hb3 hg
    rw [hkz]
    have hbl : b < w3.heap.size := Nat.lt_of_lt_of_le hb HB3.out.size
    have HN3 : Hid (NodesAt (w3.alloc (.cells #[] 38)) b off zs) := HN.out.2.ext HN.out.1 (HB3.out.alloc _)
    have HO : Hid ((w3.alloc (.cells #[] 38)).ownsRow w3.heap.size 38 5 (.slice (some ⟨w3.heap.size, 0, none⟩) 0 0) 0 []) := World.ownsRow_made w3 #[] 0 (Nat.le_refl _) (by unfold maxLen; omega) rfl
    go_wp2_with first | (at_builtin; refine wpList_append_own _ rfl _ _ 24 rfl w3.heap.size 38 i0 (.agg #[.string ByteArray.empty, .int .i64 0, .int .i64 0, .int .i64 0, .int .i64 0]) 5 48 Tryz.underlying24 hi hz0 hz1 hz2 rfl (by decide) v4 (0 + k) ([] ++ cellsZ (zs.take k)) rfl HO4.out A (zs.length - (k + 1)) _ (cellsZ (zs.drop (k + 1))) rfl hld (HSrc.out w4 HN4.out) (cellsZ_one _) (by unfold maxLen; omega) (by omega) (by have := HS4.out; omega) ?_; intro v5 w5 hown5 hgrow5 hnil5; obtain ⟨g5, a5, cap5, hg5, rfl, hO5⟩ := zret_own3 (rs := zs.take k ++ zs.drop (k + 1)) hown5 (by simp; omega) (by rw [cellsZ_append]; simp); have HE5 : Hid (Ext w3 w5) := Below.grown HE34.out hgrow5 (by have := HS4.out; omega) (fun q hq => (HO4.out.lt q hq).1); have HO5 : Hid (Own w5 (.slice a5 (zs.take k ++ zs.drop (k + 1)).length cap5) g5 (zs.take k ++ zs.drop (k + 1)) ∧ w3.heap.size ≤ g5) := ⟨hO5, hg5⟩; obtain ⟨q, q0, q1, q2, f0, f1, f2⟩ := HQ.out.ext HE5.out; clear hown5 hgrow5 hnil5 hO5 hg5) | (at_builtin; refine wpList_append_own _ rfl _ _ 24 rfl w3.heap.size 38 i0 (.agg #[.string ByteArray.empty, .int .i64 0, .int .i64 0, .int .i64 0, .int .i64 0]) 5 48 Tryz.underlying24 hi hz0 hz1 hz2 rfl (by decide) (.slice (some ⟨w3.heap.size, 0, none⟩) 0 0) 0 [] rfl HO.out ⟨b, off, none⟩ k _ (cellsZ (zs.take k)) rfl hlt (HN3.out.take k).news (cellsZ_one _) (by unfold maxLen; omega) (by omega) (by simp) ?_; intro v4 w4 hown4 hgrow4 hnil4; have HE34 : Hid (Ext w3 w4) := Below.grown ((Ext.refl _).alloc _) hgrow4 (by simp) (fun q hq => (HO.out.lt q hq).1); have HS4 : Hid (w3.heap.size ≤ w4.heap.size) := HE34.out.size; have HN4 : Hid (NodesAt w4 b off zs) := HN.out.2.ext HN.out.1 (HB3.out.trans HE34.out); have HO4 : Hid (w4.ownsRow w3.heap.size 38 5 v4 (0 + k) ([] ++ cellsZ (zs.take k))) := hown4; clear hown4 hgrow4 hnil4)
    exact bodyPost_ret (v := zr 0 ⟨#[]⟩ (.slice a5 (zs.take k ++ zs.drop (k + 1)).length cap5)) (by simp [results, Tryz.results58, go_sem, zr, q0, q1, q2]) rfl (zret_own 0 ⟨#[]⟩ HO5.out.1 (by have := HO5.out.2; have := HQ.out.1; omega) (HB3.out.trans HE5.out) _ _ _)

theorem l2Delete_any (v : Value) (zs : List Zn) (p : ByteArray) (n : Int) (w : World) (hS : NSlice w v zs) (hl : zs.length ≤ 1048576) (hf : ∀ z ∈ zs, Pth.faultI z.path.data.toList = 0) :
    Calls Tryz.prog 58 #[v, .string p, .int .i64 n] w (ZRet w (Tre.delT zs p n).1 (Tre.delT zs p n).2.1 (Tre.delT zs p n).2.2) := by
  obtain ⟨a, cap, rfl, -⟩ := id hS
  cases ht : (p.toList == [47]) with
  | true => rw [Tre.delT_top ht]; exact l2Delete_top a cap zs p n w hS hl hf ht
  | false =>
    rcases Tre.atI_range zs p with ⟨hm, -⟩ | ⟨k, z, hk, hkl, hz, -⟩
    · rw [Tre.delT_none ht (by omega)]; exact l2Delete_none a cap zs p n w hS hl hf ht (by omega)
    · rw [Tre.delT_some ht hk hz]
      by_cases hv : n ≠ -1 ∧ n ≠ z.version
      · rw [if_pos hv]; exact l2Delete_vers a cap zs p n w hS hl hf ht k z hk hz hv.1 hv.2
      · rw [if_neg hv]
        have hv2 : n = -1 ∨ (¬ n = -1 ∧ n = z.version) := by
          by_cases h1 : n = -1
          · exact .inl h1
          · exact .inr ⟨h1, by apply Classical.byContradiction; intro h2; exact hv ⟨h1, h2⟩⟩
        by_cases hk0 : 0 < (Tre.kids zs p).length
        · rw [if_pos hk0]; exact l2Delete_kids a cap zs p n w hS hl hf ht k z hk hz hv2 hk0
        · rw [if_neg hk0]
          exact l2Delete_ok a cap zs p n w hS hl hf ht k z hk hz hv2 (by omega)

end Go.Proofs.YtilinjjimiiplaaGreatDoor
