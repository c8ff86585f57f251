/- l2Create. -/
import Derived.Test.YtilinjjimiiplaaGreatDoorKqJ17
namespace Go.Proofs.YtilinjjimiiplaaGreatDoor
open Go.RowKit
namespace Tre
def okOwner (o : Int) : Bool := decide (0 ≤ o) && decide (o ≤ 9)
def seqN (p : ByteArray) (n : Int) : ByteArray := lastName p ++ dig (n / 10) ++ dig (n % 10)
def seqP (p : ByteArray) (n : Int) : ByteArray := mkB (Pth.joined (par p).data.toList (seqN p n).data.toList)
/-- The path that a numbered node gets, and the nodes with the parent's number turned on. -/
def seqT (zs : List Zn) (p : ByteArray) (k : Nat) (y : Zn) : Int × ByteArray × List Zn :=
  if 100 ≤ y.next then (3, ⟨#[]⟩, [])
  else if Pth.okName (seqN p y.next).data.toList = false then (5, ⟨#[]⟩, [])
  else if Pth.faultI (seqP p y.next).data.toList ≠ 0 then (Pth.faultI (seqP p y.next).data.toList, ⟨#[]⟩, [])
  else (0, seqP p y.next, zs.set k { y with next := y.next + 1 })
def finT (zs : List Zn) (p : ByteArray) (bs : List Zn) (d o : Int) : Int × ByteArray × List Zn :=
  if 0 ≤ atI zs p then (6, ⟨#[]⟩, []) else if 20 ≤ zs.length then (2, ⟨#[]⟩, []) else (0, p, putT bs ⟨p, d, 0, o, 0⟩)
def createT (zs : List Zn) (p : ByteArray) (d o : Int) (q : Bool) : Int × ByteArray × List Zn :=
  if (okData d && okOwner o) = false then (3, ⟨#[]⟩, [])
  else if (p.toList == [47]) = true then (1, ⟨#[]⟩, [])
  else if atI zs (par p) < 0 then (4, ⟨#[]⟩, [])
  else match zs[(atI zs (par p)).toNat]? with
    | none => (4, ⟨#[]⟩, [])
    | some y => if y.owner ≠ 0 then (8, ⟨#[]⟩, [])
      else if q = true then (if (seqT zs p (atI zs (par p)).toNat y).1 ≠ 0 then ((seqT zs p (atI zs (par p)).toNat y).1, ⟨#[]⟩, []) else finT zs (seqT zs p (atI zs (par p)).toNat y).2.1 (seqT zs p (atI zs (par p)).toNat y).2.2 d o)
      else finT zs p zs d o
theorem createT_range {zs : List Zn} {p : ByteArray} {d o : Int} {q : Bool} (h : (okData d && okOwner o) = false) : createT zs p d o q = (3, ⟨#[]⟩, []) := by unfold createT; rw [if_pos h]
theorem createT_top {zs : List Zn} {p : ByteArray} {d o : Int} {q : Bool} (h : (okData d && okOwner o) = true) (ht : (p.toList == [47]) = true) : createT zs p d o q = (1, ⟨#[]⟩, []) := by unfold createT; rw [if_neg (by rw [h]; simp), if_pos ht]
theorem createT_none {zs : List Zn} {p : ByteArray} {d o : Int} {q : Bool} (h : (okData d && okOwner o) = true) (ht : (p.toList == [47]) = false) (ha : atI zs (par p) < 0) : createT zs p d o q = (4, ⟨#[]⟩, []) := by unfold createT; rw [if_neg (by rw [h]; simp), if_neg (by rw [ht]; simp), if_pos ha]
theorem createT_some {zs : List Zn} {p : ByteArray} {d o : Int} {q : Bool} {k : Nat} {y : Zn} (h : (okData d && okOwner o) = true) (ht : (p.toList == [47]) = false) (ha : atI zs (par p) = k) (hy : zs[k]? = some y) : createT zs p d o q = if y.owner ≠ 0 then (8, ⟨#[]⟩, []) else if q = true then (if (seqT zs p k y).1 ≠ 0 then ((seqT zs p k y).1, ⟨#[]⟩, []) else finT zs (seqT zs p k y).2.1 (seqT zs p k y).2.2 d o) else finT zs p zs d o := by
  unfold createT
  rw [if_neg (by rw [h]; simp), if_neg (by rw [ht]; simp), ha, if_neg (by omega), Int.toNat_natCast, hy]
theorem finT_taken {zs bs : List Zn} {p : ByteArray} {d o : Int} (h : 0 ≤ atI zs p) : finT zs p bs d o = (6, ⟨#[]⟩, []) := by unfold finT; rw [if_pos h]
theorem finT_many {zs bs : List Zn} {p : ByteArray} {d o : Int} (h : ¬ 0 ≤ atI zs p) (h2 : 20 ≤ zs.length) : finT zs p bs d o = (2, ⟨#[]⟩, []) := by unfold finT; rw [if_neg h, if_pos h2]
theorem finT_ok {zs bs : List Zn} {p : ByteArray} {d o : Int} (h : ¬ 0 ≤ atI zs p) (h2 : ¬ 20 ≤ zs.length) : finT zs p bs d o = (0, p, putT bs ⟨p, d, 0, o, 0⟩) := by unfold finT; rw [if_neg h, if_neg h2]
theorem seqN_size (p : ByteArray) (n : Int) : (seqN p n).size ≤ p.size + 2 := by
  have h1 := dig_size (n / 10)
  have h2 := dig_size (n % 10)
  have h3 : (lastName p).size ≤ p.size := by unfold lastName; simp [ByteArray.size_extract]
  unfold seqN
  simp only [ByteArray.size_append]
  omega
theorem par_size (p : ByteArray) : (par p).size ≤ p.size + 1 := by
  unfold par
  rw [← len_eq, mkB_list]
  split
  · simp
  · rw [List.length_take, len_eq]; omega
end Tre
theorem RBox.updS {w w2 : World} {r b : Nat} (h : RBox w r) (he : Upd b w w2) (hne : r ≠ b) : RBox w2 r := by
  obtain ⟨h1, h2, h3, h4, h5, h6, h7⟩ := h
  exact ⟨Nat.lt_of_lt_of_le h1 he.2.1, (he.at_ne _ _ hne h1).1.trans h2, (he.at_ne _ _ hne h1).1.trans h3, (he.at_ne _ _ hne h1).1.trans h4, (he.at_ne _ _ hne h1).2.trans h5, (he.at_ne _ _ hne h1).2.trans h6, (he.at_ne _ _ hne h1).2.trans h7⟩

set_option maxHeartbeats 4000000 in
set_option maxRecDepth 100000 in
theorem l2Create_data (b off cap : Nat) (zs : List Zn) (p : ByteArray) (d o : Int) (q : Bool) (w : World) (hS : NSlice w (.slice (some ⟨b, off, none⟩) zs.length cap) zs) (hl : zs.length ≤ 1000) (hp : 0 < zs.length) (hf : Pth.faultI p.data.toList = 0) (hd : Tre.okData d = false) :
    Calls Tryz.prog 56 #[.slice (some ⟨b, off, none⟩) zs.length cap, .string p, .int .i64 d, .int .i64 o, .bool q] w (ZRet w 3 ⟨#[]⟩ []) := by
  have HS : Hid (NSlice w (.slice (some ⟨b, off, none⟩) zs.length cap) zs) := hS
  have h24 := few_of_ok hf
  have HD : Hid (∀ wx : World, Calls Tryz.prog 64 #[.int .i64 d] wx fun e w' => e = .returned (.bool (Tre.okData d)) ∧ w' = wx) := l2Data_any d
  have HW : Hid (∀ wx : World, Calls Tryz.prog 66 #[.int .i64 o] wx fun e w' => e = .returned (.bool (Tre.okOwner o)) ∧ w' = wx) := l2Owner_any o
  have HP : Hid (∀ wx : World, Calls Tryz.prog 67 #[.string p] wx fun e w' => e = .returned (.string (Tre.par p)) ∧ w' = wx) := fun wx => l1Parent_any p wx h24
  have HT : Hid (∀ (wx : World) (s : ByteArray), Ext w wx → Calls Tryz.prog 21 #[.slice (some ⟨b, off, none⟩) zs.length cap, .string s] wx fun e w' => e = .returned (.int .i64 (Tre.atI zs s)) ∧ w' = wx) := fun wx s h => l2At_any _ zs s wx (hS.ext h)
  have HB0 : Hid (∀ (c : Int) (wx : World), Calls Tryz.prog 75 #[.int .i64 c] wx fun e w' => e = .returned (zr c ⟨#[]⟩ (.slice none 0 0)) ∧ Ext wx w') := l2Bad_any
  unfold zr at HB0
  have HC : Hid (∀ wx : World, Ext w wx → Calls Tryz.prog 76 #[.slice (some ⟨b, off, none⟩) zs.length cap] wx fun e w' => ∃ v' g, e = .returned v' ∧ wx.heap.size ≤ g ∧ Own w' v' g zs ∧ Ext wx w') := fun wx h => l2Copy_any _ zs wx (hS.ext h) (by omega) hp
  obtain ⟨a', cap', he, hlc, hcm, hx⟩ := hS
  injection he with e1 _ e3
  subst e1 e3
  obtain ⟨b', off', he, hb, hN⟩ := hx hp
  injection he with he
  injection he with e1 e2 _
  subst e1 e2
  have HN : Hid (b < w.heap.size ∧ NodesAt w b off zs) := ⟨hb, hN⟩
  clear hx hN
  unfold maxLen at hcm
  rw [hd] at HD
  go_enter Tryz.func56, Tryz.ntmps56
  go_wp2_with fail
  refine (HD.out _).mono ?_
  rintro e w0 ⟨rfl, rfl⟩
  go_wp2_with fail
  refine (HB0.out _ _).mono ?_
  rintro e w9 ⟨rfl, hb9⟩
  obtain ⟨q9, q0, q1, q2, f0, f1, f2⟩ := (RBox.new w _).ext hb9
  have HB9 : Hid (Ext w w9) := ((Ext.refl _).alloc _).trans hb9
  clear hb9
  go_wp2
  exact bodyPost_ret (v := zr 3 ⟨#[]⟩ (.slice none 0 0)) (by simp [results, Tryz.results56, go_sem, zr, q0, q1, q2]) rfl (zret_bad _ _ (HB9.out.box3 _ _ _))

set_option maxHeartbeats 4000000 in
set_option maxRecDepth 100000 in
theorem l2Create_owner (b off cap : Nat) (zs : List Zn) (p : ByteArray) (d o : Int) (q : Bool) (w : World) (hS : NSlice w (.slice (some ⟨b, off, none⟩) zs.length cap) zs) (hl : zs.length ≤ 1000) (hp : 0 < zs.length) (hf : Pth.faultI p.data.toList = 0) (hd : Tre.okData d = true) (ho : Tre.okOwner o = false) :
    Calls Tryz.prog 56 #[.slice (some ⟨b, off, none⟩) zs.length cap, .string p, .int .i64 d, .int .i64 o, .bool q] w (ZRet w 3 ⟨#[]⟩ []) := by
  have HS : Hid (NSlice w (.slice (some ⟨b, off, none⟩) zs.length cap) zs) := hS
  have h24 := few_of_ok hf
  have HD : Hid (∀ wx : World, Calls Tryz.prog 64 #[.int .i64 d] wx fun e w' => e = .returned (.bool (Tre.okData d)) ∧ w' = wx) := l2Data_any d
  have HW : Hid (∀ wx : World, Calls Tryz.prog 66 #[.int .i64 o] wx fun e w' => e = .returned (.bool (Tre.okOwner o)) ∧ w' = wx) := l2Owner_any o
  have HP : Hid (∀ wx : World, Calls Tryz.prog 67 #[.string p] wx fun e w' => e = .returned (.string (Tre.par p)) ∧ w' = wx) := fun wx => l1Parent_any p wx h24
  have HT : Hid (∀ (wx : World) (s : ByteArray), Ext w wx → Calls Tryz.prog 21 #[.slice (some ⟨b, off, none⟩) zs.length cap, .string s] wx fun e w' => e = .returned (.int .i64 (Tre.atI zs s)) ∧ w' = wx) := fun wx s h => l2At_any _ zs s wx (hS.ext h)
  have HB0 : Hid (∀ (c : Int) (wx : World), Calls Tryz.prog 75 #[.int .i64 c] wx fun e w' => e = .returned (zr c ⟨#[]⟩ (.slice none 0 0)) ∧ Ext wx w') := l2Bad_any
  unfold zr at HB0
  have HC : Hid (∀ wx : World, Ext w wx → Calls Tryz.prog 76 #[.slice (some ⟨b, off, none⟩) zs.length cap] wx fun e w' => ∃ v' g, e = .returned v' ∧ wx.heap.size ≤ g ∧ Own w' v' g zs ∧ Ext wx w') := fun wx h => l2Copy_any _ zs wx (hS.ext h) (by omega) hp
  obtain ⟨a', cap', he, hlc, hcm, hx⟩ := hS
  injection he with e1 _ e3
  subst e1 e3
  obtain ⟨b', off', he, hb, hN⟩ := hx hp
  injection he with he
  injection he with e1 e2 _
  subst e1 e2
  have HN : Hid (b < w.heap.size ∧ NodesAt w b off zs) := ⟨hb, hN⟩
  clear hx hN
  unfold maxLen at hcm
  rw [hd] at HD
  rw [ho] at HW
  go_enter Tryz.func56, Tryz.ntmps56
  go_wp2_with fail
  refine (HD.out _).mono ?_
  rintro e w0 ⟨rfl, rfl⟩
  go_wp2_with fail
  refine (HW.out _).mono ?_
  rintro e w0 ⟨rfl, rfl⟩
  go_wp2_with fail
  refine (HB0.out _ _).mono ?_
  rintro e w9 ⟨rfl, hb9⟩
  obtain ⟨q9, q0, q1, q2, f0, f1, f2⟩ := (RBox.new w _).ext hb9
  have HB9 : Hid (Ext w w9) := ((Ext.refl _).alloc _).trans hb9
  clear hb9
  go_wp2
  exact bodyPost_ret (v := zr 3 ⟨#[]⟩ (.slice none 0 0)) (by simp [results, Tryz.results56, go_sem, zr, q0, q1, q2]) rfl (zret_bad _ _ (HB9.out.box3 _ _ _))

set_option maxHeartbeats 4000000 in
set_option maxRecDepth 100000 in
theorem l2Create_top (b off cap : Nat) (zs : List Zn) (p : ByteArray) (d o : Int) (q : Bool) (w : World) (hS : NSlice w (.slice (some ⟨b, off, none⟩) zs.length cap) zs) (hl : zs.length ≤ 1000) (hp : 0 < zs.length) (hf : Pth.faultI p.data.toList = 0) (hd : Tre.okData d = true) (ho : Tre.okOwner o = true) (ht : (p.toList == [47]) = true) :
    Calls Tryz.prog 56 #[.slice (some ⟨b, off, none⟩) zs.length cap, .string p, .int .i64 d, .int .i64 o, .bool q] w (ZRet w 1 ⟨#[]⟩ []) := by
  have HS : Hid (NSlice w (.slice (some ⟨b, off, none⟩) zs.length cap) zs) := hS
  have h24 := few_of_ok hf
  have HD : Hid (∀ wx : World, Calls Tryz.prog 64 #[.int .i64 d] wx fun e w' => e = .returned (.bool (Tre.okData d)) ∧ w' = wx) := l2Data_any d
  have HW : Hid (∀ wx : World, Calls Tryz.prog 66 #[.int .i64 o] wx fun e w' => e = .returned (.bool (Tre.okOwner o)) ∧ w' = wx) := l2Owner_any o
  have HP : Hid (∀ wx : World, Calls Tryz.prog 67 #[.string p] wx fun e w' => e = .returned (.string (Tre.par p)) ∧ w' = wx) := fun wx => l1Parent_any p wx h24
  have HT : Hid (∀ (wx : World) (s : ByteArray), Ext w wx → Calls Tryz.prog 21 #[.slice (some ⟨b, off, none⟩) zs.length cap, .string s] wx fun e w' => e = .returned (.int .i64 (Tre.atI zs s)) ∧ w' = wx) := fun wx s h => l2At_any _ zs s wx (hS.ext h)
  have HB0 : Hid (∀ (c : Int) (wx : World), Calls Tryz.prog 75 #[.int .i64 c] wx fun e w' => e = .returned (zr c ⟨#[]⟩ (.slice none 0 0)) ∧ Ext wx w') := l2Bad_any
  unfold zr at HB0
  have HC : Hid (∀ wx : World, Ext w wx → Calls Tryz.prog 76 #[.slice (some ⟨b, off, none⟩) zs.length cap] wx fun e w' => ∃ v' g, e = .returned v' ∧ wx.heap.size ≤ g ∧ Own w' v' g zs ∧ Ext wx w') := fun wx h => l2Copy_any _ zs wx (hS.ext h) (by omega) hp
  obtain ⟨a', cap', he, hlc, hcm, hx⟩ := hS
  injection he with e1 _ e3
  subst e1 e3
  obtain ⟨b', off', he, hb, hN⟩ := hx hp
  injection he with he
  injection he with e1 e2 _
  subst e1 e2
  have HN : Hid (b < w.heap.size ∧ NodesAt w b off zs) := ⟨hb, hN⟩
  clear hx hN
  unfold maxLen at hcm
  rw [hd] at HD
  rw [ho] at HW
  go_enter Tryz.func56, Tryz.ntmps56
  go_wp2_with fail
  refine (HD.out _).mono ?_
  rintro e w0 ⟨rfl, rfl⟩
  go_wp2_with fail
  refine (HW.out _).mono ?_
  rintro e w0 ⟨rfl, rfl⟩
  go_wp2_with fail
  refine (HB0.out _ _).mono ?_
  rintro e w9 ⟨rfl, hb9⟩
  obtain ⟨q9, q0, q1, q2, f0, f1, f2⟩ := (RBox.new w _).ext hb9
  have HB9 : Hid (Ext w w9) := ((Ext.refl _).alloc _).trans hb9
  clear hb9
  go_wp2
  exact bodyPost_ret (v := zr 1 ⟨#[]⟩ (.slice none 0 0)) (by simp [results, Tryz.results56, go_sem, zr, q0, q1, q2]) rfl (zret_bad _ _ (HB9.out.box3 _ _ _))

set_option maxHeartbeats 4000000 in
set_option maxRecDepth 100000 in
theorem l2Create_none (b off cap : Nat) (zs : List Zn) (p : ByteArray) (d o : Int) (q : Bool) (w : World) (hS : NSlice w (.slice (some ⟨b, off, none⟩) zs.length cap) zs) (hl : zs.length ≤ 1000) (hp : 0 < zs.length) (hf : Pth.faultI p.data.toList = 0) (hd : Tre.okData d = true) (ho : Tre.okOwner o = true) (ht : (p.toList == [47]) = false) (ha : Tre.atI zs (Tre.par p) < 0) :
    Calls Tryz.prog 56 #[.slice (some ⟨b, off, none⟩) zs.length cap, .string p, .int .i64 d, .int .i64 o, .bool q] w (ZRet w 4 ⟨#[]⟩ []) := by
  have HS : Hid (NSlice w (.slice (some ⟨b, off, none⟩) zs.length cap) zs) := hS
  have h24 := few_of_ok hf
  have HD : Hid (∀ wx : World, Calls Tryz.prog 64 #[.int .i64 d] wx fun e w' => e = .returned (.bool (Tre.okData d)) ∧ w' = wx) := l2Data_any d
  have HW : Hid (∀ wx : World, Calls Tryz.prog 66 #[.int .i64 o] wx fun e w' => e = .returned (.bool (Tre.okOwner o)) ∧ w' = wx) := l2Owner_any o
  have HP : Hid (∀ wx : World, Calls Tryz.prog 67 #[.string p] wx fun e w' => e = .returned (.string (Tre.par p)) ∧ w' = wx) := fun wx => l1Parent_any p wx h24
  have HT : Hid (∀ (wx : World) (s : ByteArray), Ext w wx → Calls Tryz.prog 21 #[.slice (some ⟨b, off, none⟩) zs.length cap, .string s] wx fun e w' => e = .returned (.int .i64 (Tre.atI zs s)) ∧ w' = wx) := fun wx s h => l2At_any _ zs s wx (hS.ext h)
  have HB0 : Hid (∀ (c : Int) (wx : World), Calls Tryz.prog 75 #[.int .i64 c] wx fun e w' => e = .returned (zr c ⟨#[]⟩ (.slice none 0 0)) ∧ Ext wx w') := l2Bad_any
  unfold zr at HB0
  have HC : Hid (∀ wx : World, Ext w wx → Calls Tryz.prog 76 #[.slice (some ⟨b, off, none⟩) zs.length cap] wx fun e w' => ∃ v' g, e = .returned v' ∧ wx.heap.size ≤ g ∧ Own w' v' g zs ∧ Ext wx w') := fun wx h => l2Copy_any _ zs wx (hS.ext h) (by omega) hp
  obtain ⟨a', cap', he, hlc, hcm, hx⟩ := hS
  injection he with e1 _ e3
  subst e1 e3
  obtain ⟨b', off', he, hb, hN⟩ := hx hp
  injection he with he
  injection he with e1 e2 _
  subst e1 e2
  have HN : Hid (b < w.heap.size ∧ NodesAt w b off zs) := ⟨hb, hN⟩
  clear hx hN
  unfold maxLen at hcm
  rw [hd] at HD
  rw [ho] at HW
  have HT1 := HT.out
  generalize hpp : Tre.par p = pp at *
  generalize hat : Tre.atI zs pp = t at *
  have HT2 : Hid (∀ (wx : World), Ext w wx → Calls Tryz.prog 21 #[.slice (some ⟨b, off, none⟩) zs.length cap, .string pp] wx fun e w' => e = .returned (.int .i64 t) ∧ w' = wx) := fun wx h => by have := HT1 wx pp h; rw [hat] at this; exact this
  clear HT1 hpp hat
  go_enter Tryz.func56, Tryz.ntmps56
  go_wp2_with fail
  refine (HD.out _).mono ?_
  rintro e w0 ⟨rfl, rfl⟩
  go_wp2_with fail
  refine (HW.out _).mono ?_
  rintro e w0 ⟨rfl, rfl⟩
  go_wp2_with fail
  refine (HP.out _).mono ?_
  rintro e w0 ⟨rfl, rfl⟩
  go_wp2_with fail
  refine (HT2.out _ ((Ext.refl _).alloc _)).mono ?_
  rintro e w0 ⟨rfl, rfl⟩
  go_wp2_with fail
  refine (HB0.out _ _).mono ?_
  rintro e w9 ⟨rfl, hb9⟩
  obtain ⟨q9, q0, q1, q2, f0, f1, f2⟩ := (RBox.new w _).ext hb9
  have HB9 : Hid (Ext w w9) := ((Ext.refl _).alloc _).trans hb9
  clear hb9
  go_wp2
  exact bodyPost_ret (v := zr 4 ⟨#[]⟩ (.slice none 0 0)) (by simp [results, Tryz.results56, go_sem, zr, q0, q1, q2]) rfl (zret_bad _ _ (HB9.out.box3 _ _ _))

set_option maxHeartbeats 4000000 in
set_option maxRecDepth 100000 in
theorem l2Create_owned (b off cap : Nat) (zs : List Zn) (p : ByteArray) (d o : Int) (q : Bool) (w : World) (hS : NSlice w (.slice (some ⟨b, off, none⟩) zs.length cap) zs) (hl : zs.length ≤ 1000) (hp : 0 < zs.length) (hf : Pth.faultI p.data.toList = 0) (hd : Tre.okData d = true) (ho : Tre.okOwner o = true) (ht : (p.toList == [47]) = false) (k : Nat) (y : Zn) (ha : Tre.atI zs (Tre.par p) = k) (hy : zs[k]? = some y) (hw : y.owner ≠ 0) :
    Calls Tryz.prog 56 #[.slice (some ⟨b, off, none⟩) zs.length cap, .string p, .int .i64 d, .int .i64 o, .bool q] w (ZRet w 8 ⟨#[]⟩ []) := by
  have HS : Hid (NSlice w (.slice (some ⟨b, off, none⟩) zs.length cap) zs) := hS
  have h24 := few_of_ok hf
  have HD : Hid (∀ wx : World, Calls Tryz.prog 64 #[.int .i64 d] wx fun e w' => e = .returned (.bool (Tre.okData d)) ∧ w' = wx) := l2Data_any d
  have HW : Hid (∀ wx : World, Calls Tryz.prog 66 #[.int .i64 o] wx fun e w' => e = .returned (.bool (Tre.okOwner o)) ∧ w' = wx) := l2Owner_any o
  have HP : Hid (∀ wx : World, Calls Tryz.prog 67 #[.string p] wx fun e w' => e = .returned (.string (Tre.par p)) ∧ w' = wx) := fun wx => l1Parent_any p wx h24
  have HT : Hid (∀ (wx : World) (s : ByteArray), Ext w wx → Calls Tryz.prog 21 #[.slice (some ⟨b, off, none⟩) zs.length cap, .string s] wx fun e w' => e = .returned (.int .i64 (Tre.atI zs s)) ∧ w' = wx) := fun wx s h => l2At_any _ zs s wx (hS.ext h)
  have HB0 : Hid (∀ (c : Int) (wx : World), Calls Tryz.prog 75 #[.int .i64 c] wx fun e w' => e = .returned (zr c ⟨#[]⟩ (.slice none 0 0)) ∧ Ext wx w') := l2Bad_any
  unfold zr at HB0
  have HC : Hid (∀ wx : World, Ext w wx → Calls Tryz.prog 76 #[.slice (some ⟨b, off, none⟩) zs.length cap] wx fun e w' => ∃ v' g, e = .returned v' ∧ wx.heap.size ≤ g ∧ Own w' v' g zs ∧ Ext wx w') := fun wx h => l2Copy_any _ zs wx (hS.ext h) (by omega) hp
  obtain ⟨a', cap', he, hlc, hcm, hx⟩ := hS
  injection he with e1 _ e3
  subst e1 e3
  obtain ⟨b', off', he, hb, hN⟩ := hx hp
  injection he with he
  injection he with e1 e2 _
  subst e1 e2
  have HN : Hid (b < w.heap.size ∧ NodesAt w b off zs) := ⟨hb, hN⟩
  clear hx hN
  unfold maxLen at hcm
  rw [hd] at HD
  rw [ho] at HW
  have hkl := (List.getElem?_eq_some_iff.1 hy).1
  have HY : Hid (zs[k]? = some y) := hy
  have HTp : Hid (∀ (wx : World), Ext w wx → Calls Tryz.prog 21 #[.slice (some ⟨b, off, none⟩) zs.length cap, .string (Tre.par p)] wx fun e w' => e = .returned (.int .i64 k) ∧ w' = wx) := fun wx h => by have := HT.out wx (Tre.par p) h; rw [ha] at this; exact this
  have HDy : Hid (∀ wx : World, Ext w wx → wx.cell? ⟨b, off + k * 5 + 3, none⟩ = some (.int .i64 y.owner) ∧ wx.cell? ⟨b, off + k * 5 + 4, none⟩ = some (.int .i64 y.next)) := fun wx h => ⟨(HN.out.2.ext HN.out.1 h k y HY.out).2.2.2.1, (HN.out.2.ext HN.out.1 h k y HY.out).2.2.2.2⟩
  clear hy ha
  have hw1 : (y.owner != 0) = true := by simpa using hw
  clear hw
  go_enter Tryz.func56, Tryz.ntmps56
  go_wp2_with fail
  refine (HD.out _).mono ?_
  rintro e w0 ⟨rfl, rfl⟩
  go_wp2_with fail
  refine (HW.out _).mono ?_
  rintro e w0 ⟨rfl, rfl⟩
  go_wp2_with fail
  refine (HP.out _).mono ?_
  rintro e w0 ⟨rfl, rfl⟩
  go_wp2_with fail
  refine (HTp.out _ ((Ext.refl _).alloc _)).mono ?_
  rintro e w0 ⟨rfl, rfl⟩
  have hdy := (HDy.out _ ((Ext.refl w).alloc (.cells #[.int .i64 0, .string ⟨#[]⟩, .slice none 0 0] 32))).1
  go_wp2_with fail
  refine (HB0.out _ _).mono ?_
  rintro e w9 ⟨rfl, hb9⟩
  obtain ⟨q9, q0, q1, q2, f0, f1, f2⟩ := (RBox.new w _).ext hb9
  have HB9 : Hid (Ext w w9) := ((Ext.refl _).alloc _).trans hb9
  clear hb9
  go_wp2
  exact bodyPost_ret (v := zr 8 ⟨#[]⟩ (.slice none 0 0)) (by simp [results, Tryz.results56, go_sem, zr, q0, q1, q2]) rfl (zret_bad _ _ (HB9.out.box3 _ _ _))

set_option maxHeartbeats 4000000 in
set_option maxRecDepth 100000 in
theorem l2Create_p6 (b off cap : Nat) (zs : List Zn) (p : ByteArray) (d o : Int) (q : Bool) (w : World) (hS : NSlice w (.slice (some ⟨b, off, none⟩) zs.length cap) zs) (hl : zs.length ≤ 1000) (hp : 0 < zs.length) (hf : Pth.faultI p.data.toList = 0) (hd : Tre.okData d = true) (ho : Tre.okOwner o = true) (ht : (p.toList == [47]) = false) (k : Nat) (y : Zn) (ha : Tre.atI zs (Tre.par p) = k) (hy : zs[k]? = some y) (hw : y.owner = 0) (hq : q = false) (hm : 0 ≤ Tre.atI zs p) :
    Calls Tryz.prog 56 #[.slice (some ⟨b, off, none⟩) zs.length cap, .string p, .int .i64 d, .int .i64 o, .bool q] w (ZRet w 6 ⟨#[]⟩ []) := by
  have HS : Hid (NSlice w (.slice (some ⟨b, off, none⟩) zs.length cap) zs) := hS
  have h24 := few_of_ok hf
  have HD : Hid (∀ wx : World, Calls Tryz.prog 64 #[.int .i64 d] wx fun e w' => e = .returned (.bool (Tre.okData d)) ∧ w' = wx) := l2Data_any d
  have HW : Hid (∀ wx : World, Calls Tryz.prog 66 #[.int .i64 o] wx fun e w' => e = .returned (.bool (Tre.okOwner o)) ∧ w' = wx) := l2Owner_any o
  have HP : Hid (∀ wx : World, Calls Tryz.prog 67 #[.string p] wx fun e w' => e = .returned (.string (Tre.par p)) ∧ w' = wx) := fun wx => l1Parent_any p wx h24
  have HT : Hid (∀ (wx : World) (s : ByteArray), Ext w wx → Calls Tryz.prog 21 #[.slice (some ⟨b, off, none⟩) zs.length cap, .string s] wx fun e w' => e = .returned (.int .i64 (Tre.atI zs s)) ∧ w' = wx) := fun wx s h => l2At_any _ zs s wx (hS.ext h)
  have HB0 : Hid (∀ (c : Int) (wx : World), Calls Tryz.prog 75 #[.int .i64 c] wx fun e w' => e = .returned (zr c ⟨#[]⟩ (.slice none 0 0)) ∧ Ext wx w') := l2Bad_any
  unfold zr at HB0
  have HC : Hid (∀ wx : World, Ext w wx → Calls Tryz.prog 76 #[.slice (some ⟨b, off, none⟩) zs.length cap] wx fun e w' => ∃ v' g, e = .returned v' ∧ wx.heap.size ≤ g ∧ Own w' v' g zs ∧ Ext wx w') := fun wx h => l2Copy_any _ zs wx (hS.ext h) (by omega) hp
  obtain ⟨a', cap', he, hlc, hcm, hx⟩ := hS
  injection he with e1 _ e3
  subst e1 e3
  obtain ⟨b', off', he, hb, hN⟩ := hx hp
  injection he with he
  injection he with e1 e2 _
  subst e1 e2
  have HN : Hid (b < w.heap.size ∧ NodesAt w b off zs) := ⟨hb, hN⟩
  clear hx hN
  unfold maxLen at hcm
  subst hq
  rw [hd] at HD
  rw [ho] at HW
  have hkl := (List.getElem?_eq_some_iff.1 hy).1
  have HY : Hid (zs[k]? = some y) := hy
  have HTp : Hid (∀ (wx : World), Ext w wx → Calls Tryz.prog 21 #[.slice (some ⟨b, off, none⟩) zs.length cap, .string (Tre.par p)] wx fun e w' => e = .returned (.int .i64 k) ∧ w' = wx) := fun wx h => by have := HT.out wx (Tre.par p) h; rw [ha] at this; exact this
  have HDy : Hid (∀ wx : World, Ext w wx → wx.cell? ⟨b, off + k * 5 + 3, none⟩ = some (.int .i64 y.owner) ∧ wx.cell? ⟨b, off + k * 5 + 4, none⟩ = some (.int .i64 y.next)) := fun wx h => ⟨(HN.out.2.ext HN.out.1 h k y HY.out).2.2.2.1, (HN.out.2.ext HN.out.1 h k y HY.out).2.2.2.2⟩
  clear hy ha
  have hw1 : (y.owner != 0) = false := by simp [hw]
  clear hw
  have HT2 : Hid (∀ (wx : World), Ext w wx → Calls Tryz.prog 21 #[.slice (some ⟨b, off, none⟩) zs.length cap, .string p] wx fun e w' => e = .returned (.int .i64 (Tre.atI zs p)) ∧ w' = wx) := fun wx h => HT.out wx p h
  generalize Tre.atI zs p = t at *
  go_enter Tryz.func56, Tryz.ntmps56
  go_wp2_with fail
  refine (HD.out _).mono ?_
  rintro e w0 ⟨rfl, rfl⟩
  go_wp2_with fail
  refine (HW.out _).mono ?_
  rintro e w0 ⟨rfl, rfl⟩
  go_wp2_with fail
  refine (HP.out _).mono ?_
  rintro e w0 ⟨rfl, rfl⟩
  go_wp2_with fail
  refine (HTp.out _ ((Ext.refl _).alloc _)).mono ?_
  rintro e w0 ⟨rfl, rfl⟩
  have hdy := (HDy.out _ ((Ext.refl w).alloc (.cells #[.int .i64 0, .string ⟨#[]⟩, .slice none 0 0] 32))).1
  go_wp2_with fail
  refine (HC.out _ ((Ext.refl _).alloc _)).mono ?_
  rintro e w3 ⟨v3, g, rfl, hg, hO, hb3⟩
  obtain ⟨a3, cap3, rfl, hlc3, hcm3, hx3⟩ := id hO
  obtain ⟨off3, rfl, -, -⟩ := hx3 hp
  have HO : Hid (Own w3 (.slice (some ⟨g, off3, none⟩) zs.length cap3) g zs) := hO
  have HG : Hid (w.heap.size + 1 ≤ g) := by have h := hg; simp at h; exact h
  have HQ : Hid (RBox w3 w.heap.size) := (RBox.new w _).ext hb3
  have HB3 : Hid (Ext w w3) := ((Ext.refl _).alloc _).trans hb3
  clear hb3 hO hg hx3
  unfold maxLen at hcm3
  go_wp2_with fail
  refine (HT2.out _ HB3.out).mono ?_
  rintro e w0 ⟨rfl, rfl⟩
  go_wp2_with fail
  refine (HB0.out _ _).mono ?_
  rintro e w9 ⟨rfl, hb9⟩
  obtain ⟨q9, q0, q1, q2, f0, f1, f2⟩ := (HQ.out).ext hb9
  have HB9 : Hid (Ext w w9) := (HB3.out).trans hb9
  clear hb9
  go_wp2
  exact bodyPost_ret (v := zr 6 ⟨#[]⟩ (.slice none 0 0)) (by simp [results, Tryz.results56, go_sem, zr, q0, q1, q2]) rfl (zret_bad _ _ (HB9.out.box3 _ _ _))

set_option maxHeartbeats 4000000 in
set_option maxRecDepth 100000 in
theorem l2Create_p2 (b off cap : Nat) (zs : List Zn) (p : ByteArray) (d o : Int) (q : Bool) (w : World) (hS : NSlice w (.slice (some ⟨b, off, none⟩) zs.length cap) zs) (hl : zs.length ≤ 1000) (hp : 0 < zs.length) (hf : Pth.faultI p.data.toList = 0) (hd : Tre.okData d = true) (ho : Tre.okOwner o = true) (ht : (p.toList == [47]) = false) (k : Nat) (y : Zn) (ha : Tre.atI zs (Tre.par p) = k) (hy : zs[k]? = some y) (hw : y.owner = 0) (hq : q = false) (hm : ¬ 0 ≤ Tre.atI zs p) (h20 : 20 ≤ zs.length) :
    Calls Tryz.prog 56 #[.slice (some ⟨b, off, none⟩) zs.length cap, .string p, .int .i64 d, .int .i64 o, .bool q] w (ZRet w 2 ⟨#[]⟩ []) := by
  have HS : Hid (NSlice w (.slice (some ⟨b, off, none⟩) zs.length cap) zs) := hS
  have h24 := few_of_ok hf
  have HD : Hid (∀ wx : World, Calls Tryz.prog 64 #[.int .i64 d] wx fun e w' => e = .returned (.bool (Tre.okData d)) ∧ w' = wx) := l2Data_any d
  have HW : Hid (∀ wx : World, Calls Tryz.prog 66 #[.int .i64 o] wx fun e w' => e = .returned (.bool (Tre.okOwner o)) ∧ w' = wx) := l2Owner_any o
  have HP : Hid (∀ wx : World, Calls Tryz.prog 67 #[.string p] wx fun e w' => e = .returned (.string (Tre.par p)) ∧ w' = wx) := fun wx => l1Parent_any p wx h24
  have HT : Hid (∀ (wx : World) (s : ByteArray), Ext w wx → Calls Tryz.prog 21 #[.slice (some ⟨b, off, none⟩) zs.length cap, .string s] wx fun e w' => e = .returned (.int .i64 (Tre.atI zs s)) ∧ w' = wx) := fun wx s h => l2At_any _ zs s wx (hS.ext h)
  have HB0 : Hid (∀ (c : Int) (wx : World), Calls Tryz.prog 75 #[.int .i64 c] wx fun e w' => e = .returned (zr c ⟨#[]⟩ (.slice none 0 0)) ∧ Ext wx w') := l2Bad_any
  unfold zr at HB0
  have HC : Hid (∀ wx : World, Ext w wx → Calls Tryz.prog 76 #[.slice (some ⟨b, off, none⟩) zs.length cap] wx fun e w' => ∃ v' g, e = .returned v' ∧ wx.heap.size ≤ g ∧ Own w' v' g zs ∧ Ext wx w') := fun wx h => l2Copy_any _ zs wx (hS.ext h) (by omega) hp
  obtain ⟨a', cap', he, hlc, hcm, hx⟩ := hS
  injection he with e1 _ e3
  subst e1 e3
  obtain ⟨b', off', he, hb, hN⟩ := hx hp
  injection he with he
  injection he with e1 e2 _
  subst e1 e2
  have HN : Hid (b < w.heap.size ∧ NodesAt w b off zs) := ⟨hb, hN⟩
  clear hx hN
  unfold maxLen at hcm
  subst hq
  rw [hd] at HD
  rw [ho] at HW
  have hkl := (List.getElem?_eq_some_iff.1 hy).1
  have HY : Hid (zs[k]? = some y) := hy
  have HTp : Hid (∀ (wx : World), Ext w wx → Calls Tryz.prog 21 #[.slice (some ⟨b, off, none⟩) zs.length cap, .string (Tre.par p)] wx fun e w' => e = .returned (.int .i64 k) ∧ w' = wx) := fun wx h => by have := HT.out wx (Tre.par p) h; rw [ha] at this; exact this
  have HDy : Hid (∀ wx : World, Ext w wx → wx.cell? ⟨b, off + k * 5 + 3, none⟩ = some (.int .i64 y.owner) ∧ wx.cell? ⟨b, off + k * 5 + 4, none⟩ = some (.int .i64 y.next)) := fun wx h => ⟨(HN.out.2.ext HN.out.1 h k y HY.out).2.2.2.1, (HN.out.2.ext HN.out.1 h k y HY.out).2.2.2.2⟩
  clear hy ha
  have hw1 : (y.owner != 0) = false := by simp [hw]
  clear hw
  have HT2 : Hid (∀ (wx : World), Ext w wx → Calls Tryz.prog 21 #[.slice (some ⟨b, off, none⟩) zs.length cap, .string p] wx fun e w' => e = .returned (.int .i64 (Tre.atI zs p)) ∧ w' = wx) := fun wx h => HT.out wx p h
  generalize Tre.atI zs p = t at *
  go_enter Tryz.func56, Tryz.ntmps56
  go_wp2_with fail
  refine (HD.out _).mono ?_
  rintro e w0 ⟨rfl, rfl⟩
  go_wp2_with fail
  refine (HW.out _).mono ?_
  rintro e w0 ⟨rfl, rfl⟩
  go_wp2_with fail
  refine (HP.out _).mono ?_
  rintro e w0 ⟨rfl, rfl⟩
  go_wp2_with fail
  refine (HTp.out _ ((Ext.refl _).alloc _)).mono ?_
  rintro e w0 ⟨rfl, rfl⟩
  have hdy := (HDy.out _ ((Ext.refl w).alloc (.cells #[.int .i64 0, .string ⟨#[]⟩, .slice none 0 0] 32))).1
  go_wp2_with fail
  refine (HC.out _ ((Ext.refl _).alloc _)).mono ?_
  rintro e w3 ⟨v3, g, rfl, hg, hO, hb3⟩
  obtain ⟨a3, cap3, rfl, hlc3, hcm3, hx3⟩ := id hO
  obtain ⟨off3, rfl, -, -⟩ := hx3 hp
  have HO : Hid (Own w3 (.slice (some ⟨g, off3, none⟩) zs.length cap3) g zs) := hO
  have HG : Hid (w.heap.size + 1 ≤ g) := by have h := hg; simp at h; exact h
  have HQ : Hid (RBox w3 w.heap.size) := (RBox.new w _).ext hb3
  have HB3 : Hid (Ext w w3) := ((Ext.refl _).alloc _).trans hb3
  clear hb3 hO hg hx3
  unfold maxLen at hcm3
  go_wp2_with fail
  refine (HT2.out _ HB3.out).mono ?_
  rintro e w0 ⟨rfl, rfl⟩
  go_wp2_with fail
  refine (HB0.out _ _).mono ?_
  rintro e w9 ⟨rfl, hb9⟩
  obtain ⟨q9, q0, q1, q2, f0, f1, f2⟩ := (HQ.out).ext hb9
  have HB9 : Hid (Ext w w9) := (HB3.out).trans hb9
  clear hb9
  go_wp2
  exact bodyPost_ret (v := zr 2 ⟨#[]⟩ (.slice none 0 0)) (by simp [results, Tryz.results56, go_sem, zr, q0, q1, q2]) rfl (zret_bad _ _ (HB9.out.box3 _ _ _))

set_option maxHeartbeats 4000000 in
set_option maxRecDepth 100000 in
theorem l2Create_p0 (b off cap : Nat) (zs : List Zn) (p : ByteArray) (d o : Int) (q : Bool) (w : World) (hS : NSlice w (.slice (some ⟨b, off, none⟩) zs.length cap) zs) (hl : zs.length ≤ 1000) (hp : 0 < zs.length) (hf : Pth.faultI p.data.toList = 0) (hd : Tre.okData d = true) (ho : Tre.okOwner o = true) (ht : (p.toList == [47]) = false) (k : Nat) (y : Zn) (ha : Tre.atI zs (Tre.par p) = k) (hy : zs[k]? = some y) (hw : y.owner = 0) (hq : q = false) (hm : ¬ 0 ≤ Tre.atI zs p) (h20 : ¬ 20 ≤ zs.length) :
    Calls Tryz.prog 56 #[.slice (some ⟨b, off, none⟩) zs.length cap, .string p, .int .i64 d, .int .i64 o, .bool q] w (ZRet w 0 p (Tre.putT zs ⟨p, d, 0, o, 0⟩)) := by
  have HS : Hid (NSlice w (.slice (some ⟨b, off, none⟩) zs.length cap) zs) := hS
  have h24 := few_of_ok hf
  have HD : Hid (∀ wx : World, Calls Tryz.prog 64 #[.int .i64 d] wx fun e w' => e = .returned (.bool (Tre.okData d)) ∧ w' = wx) := l2Data_any d
  have HW : Hid (∀ wx : World, Calls Tryz.prog 66 #[.int .i64 o] wx fun e w' => e = .returned (.bool (Tre.okOwner o)) ∧ w' = wx) := l2Owner_any o
  have HP : Hid (∀ wx : World, Calls Tryz.prog 67 #[.string p] wx fun e w' => e = .returned (.string (Tre.par p)) ∧ w' = wx) := fun wx => l1Parent_any p wx h24
  have HT : Hid (∀ (wx : World) (s : ByteArray), Ext w wx → Calls Tryz.prog 21 #[.slice (some ⟨b, off, none⟩) zs.length cap, .string s] wx fun e w' => e = .returned (.int .i64 (Tre.atI zs s)) ∧ w' = wx) := fun wx s h => l2At_any _ zs s wx (hS.ext h)
  have HB0 : Hid (∀ (c : Int) (wx : World), Calls Tryz.prog 75 #[.int .i64 c] wx fun e w' => e = .returned (zr c ⟨#[]⟩ (.slice none 0 0)) ∧ Ext wx w') := l2Bad_any
  unfold zr at HB0
  have HC : Hid (∀ wx : World, Ext w wx → Calls Tryz.prog 76 #[.slice (some ⟨b, off, none⟩) zs.length cap] wx fun e w' => ∃ v' g, e = .returned v' ∧ wx.heap.size ≤ g ∧ Own w' v' g zs ∧ Ext wx w') := fun wx h => l2Copy_any _ zs wx (hS.ext h) (by omega) hp
  obtain ⟨a', cap', he, hlc, hcm, hx⟩ := hS
  injection he with e1 _ e3
  subst e1 e3
  obtain ⟨b', off', he, hb, hN⟩ := hx hp
  injection he with he
  injection he with e1 e2 _
  subst e1 e2
  have HN : Hid (b < w.heap.size ∧ NodesAt w b off zs) := ⟨hb, hN⟩
  clear hx hN
  unfold maxLen at hcm
  subst hq
  rw [hd] at HD
  rw [ho] at HW
  have hkl := (List.getElem?_eq_some_iff.1 hy).1
  have HY : Hid (zs[k]? = some y) := hy
  have HTp : Hid (∀ (wx : World), Ext w wx → Calls Tryz.prog 21 #[.slice (some ⟨b, off, none⟩) zs.length cap, .string (Tre.par p)] wx fun e w' => e = .returned (.int .i64 k) ∧ w' = wx) := fun wx h => by have := HT.out wx (Tre.par p) h; rw [ha] at this; exact this
  have HDy : Hid (∀ wx : World, Ext w wx → wx.cell? ⟨b, off + k * 5 + 3, none⟩ = some (.int .i64 y.owner) ∧ wx.cell? ⟨b, off + k * 5 + 4, none⟩ = some (.int .i64 y.next)) := fun wx h => ⟨(HN.out.2.ext HN.out.1 h k y HY.out).2.2.2.1, (HN.out.2.ext HN.out.1 h k y HY.out).2.2.2.2⟩
  clear hy ha
  have hw1 : (y.owner != 0) = false := by simp [hw]
  clear hw
  have HPut : Hid (∀ (wx : World) (g off3 cap3 : Nat), NSlice wx (.slice (some ⟨g, off3, none⟩) zs.length cap3) zs → Calls Tryz.prog 80 #[.slice (some ⟨g, off3, none⟩) zs.length cap3, .agg #[.string p, .int .i64 d, .int .i64 0, .int .i64 o, .int .i64 0]] wx fun e w' => ∃ v' g, e = .returned v' ∧ wx.heap.size ≤ g ∧ Own w' v' g (Tre.putT zs ⟨p, d, 0, o, 0⟩) ∧ Ext wx w') := fun wx g off3 cap3 h => by
    have := l2Put_any g off3 cap3 zs ⟨p, d, 0, o, 0⟩ wx (by exact h) (by omega) (by omega)
    skip
    exact this
  have HT2 : Hid (∀ (wx : World), Ext w wx → Calls Tryz.prog 21 #[.slice (some ⟨b, off, none⟩) zs.length cap, .string p] wx fun e w' => e = .returned (.int .i64 (Tre.atI zs p)) ∧ w' = wx) := fun wx h => HT.out wx p h
  generalize Tre.atI zs p = t at *
  go_enter Tryz.func56, Tryz.ntmps56
  go_wp2_with fail
  refine (HD.out _).mono ?_
  rintro e w0 ⟨rfl, rfl⟩
  go_wp2_with fail
  refine (HW.out _).mono ?_
  rintro e w0 ⟨rfl, rfl⟩
  go_wp2_with fail
  refine (HP.out _).mono ?_
  rintro e w0 ⟨rfl, rfl⟩
  go_wp2_with fail
  refine (HTp.out _ ((Ext.refl _).alloc _)).mono ?_
  rintro e w0 ⟨rfl, rfl⟩
  have hdy := (HDy.out _ ((Ext.refl w).alloc (.cells #[.int .i64 0, .string ⟨#[]⟩, .slice none 0 0] 32))).1
  go_wp2_with fail
  refine (HC.out _ ((Ext.refl _).alloc _)).mono ?_
  rintro e w3 ⟨v3, g, rfl, hg, hO, hb3⟩
  obtain ⟨a3, cap3, rfl, hlc3, hcm3, hx3⟩ := id hO
  obtain ⟨off3, rfl, -, -⟩ := hx3 hp
  have HO : Hid (Own w3 (.slice (some ⟨g, off3, none⟩) zs.length cap3) g zs) := hO
  have HG : Hid (w.heap.size + 1 ≤ g) := by have h := hg; simp at h; exact h
  have HQ : Hid (RBox w3 w.heap.size) := (RBox.new w _).ext hb3
  have HB3 : Hid (Ext w w3) := ((Ext.refl _).alloc _).trans hb3
  clear hb3 hO hg hx3
  unfold maxLen at hcm3
  go_wp2_with fail
  refine (HT2.out _ HB3.out).mono ?_
  rintro e w0 ⟨rfl, rfl⟩
  go_wp2_with fail
  refine (HPut.out _ _ _ _ HO.out.slice).mono ?_
  rintro e w7 ⟨v7, g7, rfl, hg7, hO7, hb7⟩
  obtain ⟨a7, cap7, rfl, -⟩ := id hO7
  have HO7 : Hid (Own w7 (.slice a7 (Tre.putT zs ⟨p, d, 0, o, 0⟩).length cap7) g7 (Tre.putT zs ⟨p, d, 0, o, 0⟩)) := hO7
  have HG7 : Hid (w.heap.size + 1 ≤ g7) := by have := (HQ.out).1; show _ ≤ _; omega
  obtain ⟨q9, q0, q1, q2, f0, f1, f2⟩ := (HQ.out).ext hb7
  have HB7 : Hid (Ext w w7) := (HB3.out).trans hb7
  clear hb7 hO7 hg7
  go_wp2
  exact bodyPost_ret (v := zr 0 p (.slice a7 (Tre.putT zs ⟨p, d, 0, o, 0⟩).length cap7)) (by simp [results, Tryz.results56, go_sem, zr, q0, q1, q2]) rfl (zret_own 0 p HO7.out HG7.out HB7.out _ _ _)
end Go.Proofs.YtilinjjimiiplaaGreatDoor
