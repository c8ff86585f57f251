/- l2Create with a number; l2Create, CreateZ whole. -/
import Derived.Test.YtilinjjimiiplaaGreatDoorKqT8
namespace Go.Proofs.YtilinjjimiiplaaGreatDoor
open Go.RowKit
set_option maxHeartbeats 4000000 in
set_option maxRecDepth 100000 in
theorem l2Create_s3 (b off cap : Nat) (zs : List Zn) (p : ByteArray) (d o : Int) (q : Bool) (w : World) (hS : NSlice w (.slice (some ⟨b, off, none⟩) zs.length cap) zs) (hl : zs.length ≤ 1000) (hp : 0 < zs.length) (hf : Pth.faultI p.data.toList = 0) (hd : Tre.okData d = true) (ho : Tre.okOwner o = true) (ht : (p.toList == [47]) = false) (k : Nat) (y : Zn) (ha : Tre.atI zs (Tre.par p) = k) (hy : zs[k]? = some y) (hw : y.owner = 0) (hq : q = true) (_hn0 : 0 ≤ y.next) (hn9 : 100 ≤ y.next) :
    Calls Tryz.prog 56 #[.slice (some ⟨b, off, none⟩) zs.length cap, .string p, .int .i64 d, .int .i64 o, .bool q] w (ZRet w 3 ⟨#[]⟩ []) := by
  have HS : Hid (NSlice w (.slice (some ⟨b, off, none⟩) zs.length cap) zs) := hS
  have h24 := few_of_ok hf
  have HD : Hid (∀ wx : World, Calls Tryz.prog 64 #[.int .i64 d] wx fun e w' => e = .returned (.bool (Tre.okData d)) ∧ w' = wx) := l2Data_any d
  have HW : Hid (∀ wx : World, Calls Tryz.prog 66 #[.int .i64 o] wx fun e w' => e = .returned (.bool (Tre.okOwner o)) ∧ w' = wx) := l2Owner_any o
  have HP : Hid (∀ wx : World, Calls Tryz.prog 67 #[.string p] wx fun e w' => e = .returned (.string (Tre.par p)) ∧ w' = wx) := fun wx => l1Parent_any p wx h24
  have HT : Hid (∀ (wx : World) (s : ByteArray), Ext w wx → Calls Tryz.prog 21 #[.slice (some ⟨b, off, none⟩) zs.length cap, .string s] wx fun e w' => e = .returned (.int .i64 (Tre.atI zs s)) ∧ w' = wx) := fun wx s h => l2At_any _ zs s wx (hS.ext h)
  have HB0 : Hid (∀ (c : Int) (wx : World), Calls Tryz.prog 75 #[.int .i64 c] wx fun e w' => e = .returned (zr c ⟨#[]⟩ (.slice none 0 0)) ∧ Ext wx w') := l2Bad_any
  unfold zr at HB0
  have HC : Hid (∀ wx : World, Ext w wx → Calls Tryz.prog 76 #[.slice (some ⟨b, off, none⟩) zs.length cap] wx fun e w' => ∃ v' g, e = .returned v' ∧ wx.heap.size ≤ g ∧ Own w' v' g zs ∧ Ext wx w') := fun wx h => l2Copy_any _ zs wx (hS.ext h) (by omega) hp
  obtain ⟨a', cap', he, hlc, hcm, hx⟩ := hS
  injection he with e1 _ e3
  subst e1 e3
  obtain ⟨b', off', he, hb, hN⟩ := hx hp
  injection he with he
  injection he with e1 e2 _
  subst e1 e2
  have HN : Hid (b < w.heap.size ∧ NodesAt w b off zs) := ⟨hb, hN⟩
  clear hx hN
  unfold maxLen at hcm
  subst hq
  rw [hd] at HD
  rw [ho] at HW
  have hkl := (List.getElem?_eq_some_iff.1 hy).1
  have HY : Hid (zs[k]? = some y) := hy
  have HTp : Hid (∀ (wx : World), Ext w wx → Calls Tryz.prog 21 #[.slice (some ⟨b, off, none⟩) zs.length cap, .string (Tre.par p)] wx fun e w' => e = .returned (.int .i64 k) ∧ w' = wx) := fun wx h => by have := HT.out wx (Tre.par p) h; rw [ha] at this; exact this
  have HDy : Hid (∀ wx : World, Ext w wx → wx.cell? ⟨b, off + k * 5 + 3, none⟩ = some (.int .i64 y.owner) ∧ wx.cell? ⟨b, off + k * 5 + 4, none⟩ = some (.int .i64 y.next)) := fun wx h => ⟨(HN.out.2.ext HN.out.1 h k y HY.out).2.2.2.1, (HN.out.2.ext HN.out.1 h k y HY.out).2.2.2.2⟩
  clear hy ha
  have hw1 : (y.owner != 0) = false := by simp [hw]
  clear hw
  go_enter Tryz.func56, Tryz.ntmps56
  go_wp2_with fail
  refine (HD.out _).mono ?_
  rintro e w0 ⟨rfl, rfl⟩
  go_wp2_with fail
  refine (HW.out _).mono ?_
  rintro e w0 ⟨rfl, rfl⟩
  go_wp2_with fail
  refine (HP.out _).mono ?_
  rintro e w0 ⟨rfl, rfl⟩
  go_wp2_with fail
  refine (HTp.out _ ((Ext.refl _).alloc _)).mono ?_
  rintro e w0 ⟨rfl, rfl⟩
  have hdy := (HDy.out _ ((Ext.refl w).alloc (.cells #[.int .i64 0, .string ⟨#[]⟩, .slice none 0 0] 32))).1
  go_wp2_with fail
  refine (HC.out _ ((Ext.refl _).alloc _)).mono ?_
  rintro e w3 ⟨v3, g, rfl, hg, hO, hb3⟩
  obtain ⟨a3, cap3, rfl, hlc3, hcm3, hx3⟩ := id hO
  obtain ⟨off3, rfl, -, -⟩ := hx3 hp
  have HO : Hid (Own w3 (.slice (some ⟨g, off3, none⟩) zs.length cap3) g zs) := hO
  have HG : Hid (w.heap.size + 1 ≤ g) := by have h := hg; simp at h; exact h
  have HQ : Hid (RBox w3 w.heap.size) := (RBox.new w _).ext hb3
  have HB3 : Hid (Ext w w3) := ((Ext.refl _).alloc _).trans hb3
  clear hb3 hO hg hx3
  unfold maxLen at hcm3
  have hny := (HDy.out _ HB3.out).2
  go_wp2_with fail
  refine (HB0.out _ _).mono ?_
  rintro e w9 ⟨rfl, hb9⟩
  obtain ⟨q9, q0, q1, q2, f0, f1, f2⟩ := (HQ.out).ext hb9
  have HB9 : Hid (Ext w w9) := (HB3.out).trans hb9
  clear hb9
  go_wp2
  exact bodyPost_ret (v := zr 3 ⟨#[]⟩ (.slice none 0 0)) (by simp [results, Tryz.results56, go_sem, zr, q0, q1, q2]) rfl (zret_bad _ _ (HB9.out.box3 _ _ _))

set_option maxHeartbeats 4000000 in
set_option maxRecDepth 100000 in
theorem l2Create_s5 (b off cap : Nat) (zs : List Zn) (p : ByteArray) (d o : Int) (q : Bool) (w : World) (hS : NSlice w (.slice (some ⟨b, off, none⟩) zs.length cap) zs) (hl : zs.length ≤ 1000) (hp : 0 < zs.length) (hf : Pth.faultI p.data.toList = 0) (hd : Tre.okData d = true) (ho : Tre.okOwner o = true) (ht : (p.toList == [47]) = false) (k : Nat) (y : Zn) (ha : Tre.atI zs (Tre.par p) = k) (hy : zs[k]? = some y) (hw : y.owner = 0) (hq : q = true) (hn0 : 0 ≤ y.next) (hn9 : ¬ 100 ≤ y.next) (hk5 : Pth.okName (Tre.seqN p y.next).data.toList = false) :
    Calls Tryz.prog 56 #[.slice (some ⟨b, off, none⟩) zs.length cap, .string p, .int .i64 d, .int .i64 o, .bool q] w (ZRet w 5 ⟨#[]⟩ []) := by
  have HS : Hid (NSlice w (.slice (some ⟨b, off, none⟩) zs.length cap) zs) := hS
  have h24 := few_of_ok hf
  have HD : Hid (∀ wx : World, Calls Tryz.prog 64 #[.int .i64 d] wx fun e w' => e = .returned (.bool (Tre.okData d)) ∧ w' = wx) := l2Data_any d
  have HW : Hid (∀ wx : World, Calls Tryz.prog 66 #[.int .i64 o] wx fun e w' => e = .returned (.bool (Tre.okOwner o)) ∧ w' = wx) := l2Owner_any o
  have HP : Hid (∀ wx : World, Calls Tryz.prog 67 #[.string p] wx fun e w' => e = .returned (.string (Tre.par p)) ∧ w' = wx) := fun wx => l1Parent_any p wx h24
  have HT : Hid (∀ (wx : World) (s : ByteArray), Ext w wx → Calls Tryz.prog 21 #[.slice (some ⟨b, off, none⟩) zs.length cap, .string s] wx fun e w' => e = .returned (.int .i64 (Tre.atI zs s)) ∧ w' = wx) := fun wx s h => l2At_any _ zs s wx (hS.ext h)
  have HB0 : Hid (∀ (c : Int) (wx : World), Calls Tryz.prog 75 #[.int .i64 c] wx fun e w' => e = .returned (zr c ⟨#[]⟩ (.slice none 0 0)) ∧ Ext wx w') := l2Bad_any
  unfold zr at HB0
  have HC : Hid (∀ wx : World, Ext w wx → Calls Tryz.prog 76 #[.slice (some ⟨b, off, none⟩) zs.length cap] wx fun e w' => ∃ v' g, e = .returned v' ∧ wx.heap.size ≤ g ∧ Own w' v' g zs ∧ Ext wx w') := fun wx h => l2Copy_any _ zs wx (hS.ext h) (by omega) hp
  obtain ⟨a', cap', he, hlc, hcm, hx⟩ := hS
  injection he with e1 _ e3
  subst e1 e3
  obtain ⟨b', off', he, hb, hN⟩ := hx hp
  injection he with he
  injection he with e1 e2 _
  subst e1 e2
  have HN : Hid (b < w.heap.size ∧ NodesAt w b off zs) := ⟨hb, hN⟩
  clear hx hN
  unfold maxLen at hcm
  subst hq
  have hll := lastSl_le2 p hf ht
  have HL : Hid (∀ wx : World, Calls Tryz.prog 77 #[.string p] wx fun e w' => e = .returned (.int .i64 (Pth.lastSl p.data.toList 0 0 : Nat)) ∧ w' = wx) := fun wx => l1Last_any p wx h24
  rw [hd] at HD
  rw [ho] at HW
  have hkl := (List.getElem?_eq_some_iff.1 hy).1
  have HY : Hid (zs[k]? = some y) := hy
  have HTp : Hid (∀ (wx : World), Ext w wx → Calls Tryz.prog 21 #[.slice (some ⟨b, off, none⟩) zs.length cap, .string (Tre.par p)] wx fun e w' => e = .returned (.int .i64 k) ∧ w' = wx) := fun wx h => by have := HT.out wx (Tre.par p) h; rw [ha] at this; exact this
  have HDy : Hid (∀ wx : World, Ext w wx → wx.cell? ⟨b, off + k * 5 + 3, none⟩ = some (.int .i64 y.owner) ∧ wx.cell? ⟨b, off + k * 5 + 4, none⟩ = some (.int .i64 y.next)) := fun wx h => ⟨(HN.out.2.ext HN.out.1 h k y HY.out).2.2.2.1, (HN.out.2.ext HN.out.1 h k y HY.out).2.2.2.2⟩
  clear hy ha
  have hw1 : (y.owner != 0) = false := by simp [hw]
  clear hw
  have HSq : Hid (∀ wx : World, Calls Tryz.prog 79 #[.string (p.extract (Pth.lastSl p.data.toList 0 0 + 1) p.size), .int .i64 y.next] wx fun e w' => e = .returned (.string (Tre.seqN p y.next)) ∧ Ext wx w') := fun wx => l1Seq_any _ y.next wx (by simp [ByteArray.size_extract]; omega) hn0 (by omega)
  have hsn := Tre.seqN_size p y.next
  have hps := Tre.par_size p
  have HNm : Hid (∀ wx : World, Calls Tryz.prog 78 #[.string (Tre.seqN p y.next)] wx fun e w' => e = .returned (.bool (Pth.okName (Tre.seqN p y.next).data.toList)) ∧ w' = wx) := fun wx => l1Name_any _ wx (by unfold maxLen; omega)
  have HJ : Hid (∀ wx : World, Calls Tryz.prog 74 #[.string (Tre.par p), .string (Tre.seqN p y.next)] wx fun e w' => e = .returned (.string (Tre.seqP p y.next)) ∧ w' = wx) := fun wx => l1Join_any _ _ wx (by omega) (by omega)
  have HFt : Hid (∀ wx : World, Calls Tryz.prog 47 #[.string (Tre.seqP p y.next)] wx fun e w' => e = .returned (.int .i64 (Pth.faultI (Tre.seqP p y.next).data.toList)) ∧ Ext wx w') := l1FaultI_any _
  rw [hk5] at HNm
  generalize Pth.lastSl p.data.toList 0 0 = la at *
  generalize Tre.seqN p y.next = sn at *
  go_enter Tryz.func56, Tryz.ntmps56
  go_wp2_with fail
  refine (HD.out _).mono ?_
  rintro e w0 ⟨rfl, rfl⟩
  go_wp2_with fail
  refine (HW.out _).mono ?_
  rintro e w0 ⟨rfl, rfl⟩
  go_wp2_with fail
  refine (HP.out _).mono ?_
  rintro e w0 ⟨rfl, rfl⟩
  go_wp2_with fail
  refine (HTp.out _ ((Ext.refl _).alloc _)).mono ?_
  rintro e w0 ⟨rfl, rfl⟩
  have hdy := (HDy.out _ ((Ext.refl w).alloc (.cells #[.int .i64 0, .string ⟨#[]⟩, .slice none 0 0] 32))).1
  go_wp2_with fail
  refine (HC.out _ ((Ext.refl _).alloc _)).mono ?_
  rintro e w3 ⟨v3, g, rfl, hg, hO, hb3⟩
  obtain ⟨a3, cap3, rfl, hlc3, hcm3, hx3⟩ := id hO
  obtain ⟨off3, rfl, -, -⟩ := hx3 hp
  have HO : Hid (Own w3 (.slice (some ⟨g, off3, none⟩) zs.length cap3) g zs) := hO
  have HG : Hid (w.heap.size + 1 ≤ g) := by have h := hg; simp at h; exact h
  have HQ : Hid (RBox w3 w.heap.size) := (RBox.new w _).ext hb3
  have HB3 : Hid (Ext w w3) := ((Ext.refl _).alloc _).trans hb3
  clear hb3 hO hg hx3
  unfold maxLen at hcm3
  have hny := (HDy.out _ HB3.out).2
  go_wp2_with fail
  refine (HL.out _).mono ?_
  rintro e w0 ⟨rfl, rfl⟩
  go_wp2_with fail
  refine (HSq.out _).mono ?_
  rintro e w4 ⟨rfl, hb4⟩
  have HB4 : Hid (Ext w w4) := HB3.out.trans hb4
  have HQ4 : Hid (RBox w4 w.heap.size) := HQ.out.ext hb4
  have HO4 : Hid (Own w4 (.slice (some ⟨g, off3, none⟩) zs.length cap3) g zs) := HO.out.ext hb4
  clear hb4
  go_wp2_with fail
  refine (HNm.out _).mono ?_
  rintro e w0 ⟨rfl, rfl⟩
  go_wp2_with fail
  refine (HB0.out _ _).mono ?_
  rintro e w9 ⟨rfl, hb9⟩
  obtain ⟨q9, q0, q1, q2, f0, f1, f2⟩ := (HQ4.out).ext hb9
  have HB9 : Hid (Ext w w9) := (HB4.out).trans hb9
  clear hb9
  go_wp2
  exact bodyPost_ret (v := zr 5 ⟨#[]⟩ (.slice none 0 0)) (by simp [results, Tryz.results56, go_sem, zr, q0, q1, q2]) rfl (zret_bad _ _ (HB9.out.box3 _ _ _))

set_option maxHeartbeats 4000000 in
set_option maxRecDepth 100000 in
theorem l2Create_sf (b off cap : Nat) (zs : List Zn) (p : ByteArray) (d o : Int) (q : Bool) (w : World) (hS : NSlice w (.slice (some ⟨b, off, none⟩) zs.length cap) zs) (hl : zs.length ≤ 1000) (hp : 0 < zs.length) (hf : Pth.faultI p.data.toList = 0) (hd : Tre.okData d = true) (ho : Tre.okOwner o = true) (ht : (p.toList == [47]) = false) (k : Nat) (y : Zn) (ha : Tre.atI zs (Tre.par p) = k) (hy : zs[k]? = some y) (hw : y.owner = 0) (hq : q = true) (hn0 : 0 ≤ y.next) (hn9 : ¬ 100 ≤ y.next) (hk5 : Pth.okName (Tre.seqN p y.next).data.toList = true) (hfs : Pth.faultI (Tre.seqP p y.next).data.toList ≠ 0) :
    Calls Tryz.prog 56 #[.slice (some ⟨b, off, none⟩) zs.length cap, .string p, .int .i64 d, .int .i64 o, .bool q] w (ZRet w (Pth.faultI (Tre.seqP p y.next).data.toList) ⟨#[]⟩ []) := by
  have HS : Hid (NSlice w (.slice (some ⟨b, off, none⟩) zs.length cap) zs) := hS
  have h24 := few_of_ok hf
  have HD : Hid (∀ wx : World, Calls Tryz.prog 64 #[.int .i64 d] wx fun e w' => e = .returned (.bool (Tre.okData d)) ∧ w' = wx) := l2Data_any d
  have HW : Hid (∀ wx : World, Calls Tryz.prog 66 #[.int .i64 o] wx fun e w' => e = .returned (.bool (Tre.okOwner o)) ∧ w' = wx) := l2Owner_any o
  have HP : Hid (∀ wx : World, Calls Tryz.prog 67 #[.string p] wx fun e w' => e = .returned (.string (Tre.par p)) ∧ w' = wx) := fun wx => l1Parent_any p wx h24
  have HT : Hid (∀ (wx : World) (s : ByteArray), Ext w wx → Calls Tryz.prog 21 #[.slice (some ⟨b, off, none⟩) zs.length cap, .string s] wx fun e w' => e = .returned (.int .i64 (Tre.atI zs s)) ∧ w' = wx) := fun wx s h => l2At_any _ zs s wx (hS.ext h)
  have HB0 : Hid (∀ (c : Int) (wx : World), Calls Tryz.prog 75 #[.int .i64 c] wx fun e w' => e = .returned (zr c ⟨#[]⟩ (.slice none 0 0)) ∧ Ext wx w') := l2Bad_any
  unfold zr at HB0
  have HC : Hid (∀ wx : World, Ext w wx → Calls Tryz.prog 76 #[.slice (some ⟨b, off, none⟩) zs.length cap] wx fun e w' => ∃ v' g, e = .returned v' ∧ wx.heap.size ≤ g ∧ Own w' v' g zs ∧ Ext wx w') := fun wx h => l2Copy_any _ zs wx (hS.ext h) (by omega) hp
  obtain ⟨a', cap', he, hlc, hcm, hx⟩ := hS
  injection he with e1 _ e3
  subst e1 e3
  obtain ⟨b', off', he, hb, hN⟩ := hx hp
  injection he with he
  injection he with e1 e2 _
  subst e1 e2
  have HN : Hid (b < w.heap.size ∧ NodesAt w b off zs) := ⟨hb, hN⟩
  clear hx hN
  unfold maxLen at hcm
  subst hq
  have hll := lastSl_le2 p hf ht
  have HL : Hid (∀ wx : World, Calls Tryz.prog 77 #[.string p] wx fun e w' => e = .returned (.int .i64 (Pth.lastSl p.data.toList 0 0 : Nat)) ∧ w' = wx) := fun wx => l1Last_any p wx h24
  rw [hd] at HD
  rw [ho] at HW
  have hkl := (List.getElem?_eq_some_iff.1 hy).1
  have HY : Hid (zs[k]? = some y) := hy
  have HTp : Hid (∀ (wx : World), Ext w wx → Calls Tryz.prog 21 #[.slice (some ⟨b, off, none⟩) zs.length cap, .string (Tre.par p)] wx fun e w' => e = .returned (.int .i64 k) ∧ w' = wx) := fun wx h => by have := HT.out wx (Tre.par p) h; rw [ha] at this; exact this
  have HDy : Hid (∀ wx : World, Ext w wx → wx.cell? ⟨b, off + k * 5 + 3, none⟩ = some (.int .i64 y.owner) ∧ wx.cell? ⟨b, off + k * 5 + 4, none⟩ = some (.int .i64 y.next)) := fun wx h => ⟨(HN.out.2.ext HN.out.1 h k y HY.out).2.2.2.1, (HN.out.2.ext HN.out.1 h k y HY.out).2.2.2.2⟩
  clear hy ha
  have hw1 : (y.owner != 0) = false := by simp [hw]
  clear hw
  have HSq : Hid (∀ wx : World, Calls Tryz.prog 79 #[.string (p.extract (Pth.lastSl p.data.toList 0 0 + 1) p.size), .int .i64 y.next] wx fun e w' => e = .returned (.string (Tre.seqN p y.next)) ∧ Ext wx w') := fun wx => l1Seq_any _ y.next wx (by simp [ByteArray.size_extract]; omega) hn0 (by omega)
  have hsn := Tre.seqN_size p y.next
  have hps := Tre.par_size p
  have HNm : Hid (∀ wx : World, Calls Tryz.prog 78 #[.string (Tre.seqN p y.next)] wx fun e w' => e = .returned (.bool (Pth.okName (Tre.seqN p y.next).data.toList)) ∧ w' = wx) := fun wx => l1Name_any _ wx (by unfold maxLen; omega)
  have HJ : Hid (∀ wx : World, Calls Tryz.prog 74 #[.string (Tre.par p), .string (Tre.seqN p y.next)] wx fun e w' => e = .returned (.string (Tre.seqP p y.next)) ∧ w' = wx) := fun wx => l1Join_any _ _ wx (by omega) (by omega)
  have HFt : Hid (∀ wx : World, Calls Tryz.prog 47 #[.string (Tre.seqP p y.next)] wx fun e w' => e = .returned (.int .i64 (Pth.faultI (Tre.seqP p y.next).data.toList)) ∧ Ext wx w') := l1FaultI_any _
  rw [hk5] at HNm
  generalize Tre.seqP p y.next = sp at *
  generalize Pth.faultI sp.data.toList = fc at *
  generalize Pth.lastSl p.data.toList 0 0 = la at *
  generalize Tre.seqN p y.next = sn at *
  go_enter Tryz.func56, Tryz.ntmps56
  go_wp2_with fail
  refine (HD.out _).mono ?_
  rintro e w0 ⟨rfl, rfl⟩
  go_wp2_with fail
  refine (HW.out _).mono ?_
  rintro e w0 ⟨rfl, rfl⟩
  go_wp2_with fail
  refine (HP.out _).mono ?_
  rintro e w0 ⟨rfl, rfl⟩
  go_wp2_with fail
  refine (HTp.out _ ((Ext.refl _).alloc _)).mono ?_
  rintro e w0 ⟨rfl, rfl⟩
  have hdy := (HDy.out _ ((Ext.refl w).alloc (.cells #[.int .i64 0, .string ⟨#[]⟩, .slice none 0 0] 32))).1
  go_wp2_with fail
  refine (HC.out _ ((Ext.refl _).alloc _)).mono ?_
  rintro e w3 ⟨v3, g, rfl, hg, hO, hb3⟩
  obtain ⟨a3, cap3, rfl, hlc3, hcm3, hx3⟩ := id hO
  obtain ⟨off3, rfl, -, -⟩ := hx3 hp
  have HO : Hid (Own w3 (.slice (some ⟨g, off3, none⟩) zs.length cap3) g zs) := hO
  have HG : Hid (w.heap.size + 1 ≤ g) := by have h := hg; simp at h; exact h
  have HQ : Hid (RBox w3 w.heap.size) := (RBox.new w _).ext hb3
  have HB3 : Hid (Ext w w3) := ((Ext.refl _).alloc _).trans hb3
  clear hb3 hO hg hx3
  unfold maxLen at hcm3
  have hny := (HDy.out _ HB3.out).2
  go_wp2_with fail
  refine (HL.out _).mono ?_
  rintro e w0 ⟨rfl, rfl⟩
  go_wp2_with fail
  refine (HSq.out _).mono ?_
  rintro e w4 ⟨rfl, hb4⟩
  have HB4 : Hid (Ext w w4) := HB3.out.trans hb4
  have HQ4 : Hid (RBox w4 w.heap.size) := HQ.out.ext hb4
  have HO4 : Hid (Own w4 (.slice (some ⟨g, off3, none⟩) zs.length cap3) g zs) := HO.out.ext hb4
  clear hb4
  go_wp2_with fail
  refine (HNm.out _).mono ?_
  rintro e w0 ⟨rfl, rfl⟩
  go_wp2_with fail
  refine (HP.out _).mono ?_
  rintro e w0 ⟨rfl, rfl⟩
  go_wp2_with fail
  refine (HSq.out _).mono ?_
  rintro e w5 ⟨rfl, hb5⟩
  have HB5 : Hid (Ext w w5) := HB4.out.trans hb5
  have HQ5 : Hid (RBox w5 w.heap.size) := HQ4.out.ext hb5
  have HO5 : Hid (Own w5 (.slice (some ⟨g, off3, none⟩) zs.length cap3) g zs) := HO4.out.ext hb5
  clear hb5
  go_wp2_with fail
  refine (HJ.out _).mono ?_
  rintro e w0 ⟨rfl, rfl⟩
  go_wp2_with fail
  refine (HFt.out _).mono ?_
  rintro e w6 ⟨rfl, hb6⟩
  have HB6 : Hid (Ext w w6) := HB5.out.trans hb6
  have HQ6 : Hid (RBox w6 w.heap.size) := HQ5.out.ext hb6
  have HO6 : Hid (Own w6 (.slice (some ⟨g, off3, none⟩) zs.length cap3) g zs) := HO5.out.ext hb6
  clear hb6
  go_wp2_with fail
  refine (HB0.out _ _).mono ?_
  rintro e w9 ⟨rfl, hb9⟩
  obtain ⟨q9, q0, q1, q2, f0, f1, f2⟩ := (HQ6.out).ext hb9
  have HB9 : Hid (Ext w w9) := (HB6.out).trans hb9
  clear hb9
  go_wp2
  exact bodyPost_ret (v := zr fc ⟨#[]⟩ (.slice none 0 0)) (by simp [results, Tryz.results56, go_sem, zr, q0, q1, q2]) rfl (zret_bad _ _ (HB9.out.box3 _ _ _))

set_option maxHeartbeats 4000000 in
set_option maxRecDepth 100000 in
theorem l2Create_s6 (b off cap : Nat) (zs : List Zn) (p : ByteArray) (d o : Int) (q : Bool) (w : World) (hS : NSlice w (.slice (some ⟨b, off, none⟩) zs.length cap) zs) (hl : zs.length ≤ 1000) (hp : 0 < zs.length) (hf : Pth.faultI p.data.toList = 0) (hd : Tre.okData d = true) (ho : Tre.okOwner o = true) (ht : (p.toList == [47]) = false) (k : Nat) (y : Zn) (ha : Tre.atI zs (Tre.par p) = k) (hy : zs[k]? = some y) (hw : y.owner = 0) (hq : q = true) (hn0 : 0 ≤ y.next) (hn9 : ¬ 100 ≤ y.next) (hk5 : Pth.okName (Tre.seqN p y.next).data.toList = true) (hfs : Pth.faultI (Tre.seqP p y.next).data.toList = 0) (hm : 0 ≤ Tre.atI zs (Tre.seqP p y.next)) :
    Calls Tryz.prog 56 #[.slice (some ⟨b, off, none⟩) zs.length cap, .string p, .int .i64 d, .int .i64 o, .bool q] w (ZRet w 6 ⟨#[]⟩ []) := by
  have HS : Hid (NSlice w (.slice (some ⟨b, off, none⟩) zs.length cap) zs) := hS
  have h24 := few_of_ok hf
  have HD : Hid (∀ wx : World, Calls Tryz.prog 64 #[.int .i64 d] wx fun e w' => e = .returned (.bool (Tre.okData d)) ∧ w' = wx) := l2Data_any d
  have HW : Hid (∀ wx : World, Calls Tryz.prog 66 #[.int .i64 o] wx fun e w' => e = .returned (.bool (Tre.okOwner o)) ∧ w' = wx) := l2Owner_any o
  have HP : Hid (∀ wx : World, Calls Tryz.prog 67 #[.string p] wx fun e w' => e = .returned (.string (Tre.par p)) ∧ w' = wx) := fun wx => l1Parent_any p wx h24
  have HT : Hid (∀ (wx : World) (s : ByteArray), Ext w wx → Calls Tryz.prog 21 #[.slice (some ⟨b, off, none⟩) zs.length cap, .string s] wx fun e w' => e = .returned (.int .i64 (Tre.atI zs s)) ∧ w' = wx) := fun wx s h => l2At_any _ zs s wx (hS.ext h)
  have HB0 : Hid (∀ (c : Int) (wx : World), Calls Tryz.prog 75 #[.int .i64 c] wx fun e w' => e = .returned (zr c ⟨#[]⟩ (.slice none 0 0)) ∧ Ext wx w') := l2Bad_any
  unfold zr at HB0
  have HC : Hid (∀ wx : World, Ext w wx → Calls Tryz.prog 76 #[.slice (some ⟨b, off, none⟩) zs.length cap] wx fun e w' => ∃ v' g, e = .returned v' ∧ wx.heap.size ≤ g ∧ Own w' v' g zs ∧ Ext wx w') := fun wx h => l2Copy_any _ zs wx (hS.ext h) (by omega) hp
  obtain ⟨a', cap', he, hlc, hcm, hx⟩ := hS
  injection he with e1 _ e3
  subst e1 e3
  obtain ⟨b', off', he, hb, hN⟩ := hx hp
  injection he with he
  injection he with e1 e2 _
  subst e1 e2
  have HN : Hid (b < w.heap.size ∧ NodesAt w b off zs) := ⟨hb, hN⟩
  clear hx hN
  unfold maxLen at hcm
  subst hq
  have hll := lastSl_le2 p hf ht
  have HL : Hid (∀ wx : World, Calls Tryz.prog 77 #[.string p] wx fun e w' => e = .returned (.int .i64 (Pth.lastSl p.data.toList 0 0 : Nat)) ∧ w' = wx) := fun wx => l1Last_any p wx h24
  rw [hd] at HD
  rw [ho] at HW
  have hkl := (List.getElem?_eq_some_iff.1 hy).1
  have HY : Hid (zs[k]? = some y) := hy
  have HTp : Hid (∀ (wx : World), Ext w wx → Calls Tryz.prog 21 #[.slice (some ⟨b, off, none⟩) zs.length cap, .string (Tre.par p)] wx fun e w' => e = .returned (.int .i64 k) ∧ w' = wx) := fun wx h => by have := HT.out wx (Tre.par p) h; rw [ha] at this; exact this
  have HDy : Hid (∀ wx : World, Ext w wx → wx.cell? ⟨b, off + k * 5 + 3, none⟩ = some (.int .i64 y.owner) ∧ wx.cell? ⟨b, off + k * 5 + 4, none⟩ = some (.int .i64 y.next)) := fun wx h => ⟨(HN.out.2.ext HN.out.1 h k y HY.out).2.2.2.1, (HN.out.2.ext HN.out.1 h k y HY.out).2.2.2.2⟩
  clear hy ha
  have hw1 : (y.owner != 0) = false := by simp [hw]
  clear hw
  have HSq : Hid (∀ wx : World, Calls Tryz.prog 79 #[.string (p.extract (Pth.lastSl p.data.toList 0 0 + 1) p.size), .int .i64 y.next] wx fun e w' => e = .returned (.string (Tre.seqN p y.next)) ∧ Ext wx w') := fun wx => l1Seq_any _ y.next wx (by simp [ByteArray.size_extract]; omega) hn0 (by omega)
  have hsn := Tre.seqN_size p y.next
  have hps := Tre.par_size p
  have HNm : Hid (∀ wx : World, Calls Tryz.prog 78 #[.string (Tre.seqN p y.next)] wx fun e w' => e = .returned (.bool (Pth.okName (Tre.seqN p y.next).data.toList)) ∧ w' = wx) := fun wx => l1Name_any _ wx (by unfold maxLen; omega)
  have HJ : Hid (∀ wx : World, Calls Tryz.prog 74 #[.string (Tre.par p), .string (Tre.seqN p y.next)] wx fun e w' => e = .returned (.string (Tre.seqP p y.next)) ∧ w' = wx) := fun wx => l1Join_any _ _ wx (by omega) (by omega)
  have HFt : Hid (∀ wx : World, Calls Tryz.prog 47 #[.string (Tre.seqP p y.next)] wx fun e w' => e = .returned (.int .i64 (Pth.faultI (Tre.seqP p y.next).data.toList)) ∧ Ext wx w') := l1FaultI_any _
  rw [hk5] at HNm
  rw [hfs] at HFt
  have HT2 : Hid (∀ (wx : World), Ext w wx → Calls Tryz.prog 21 #[.slice (some ⟨b, off, none⟩) zs.length cap, .string (Tre.seqP p y.next)] wx fun e w' => e = .returned (.int .i64 (Tre.atI zs (Tre.seqP p y.next))) ∧ w' = wx) := fun wx h => HT.out wx (Tre.seqP p y.next) h
  generalize Tre.atI zs (Tre.seqP p y.next) = t at *
  generalize Tre.seqP p y.next = sp at *
  generalize Pth.lastSl p.data.toList 0 0 = la at *
  generalize Tre.seqN p y.next = sn at *
  go_enter Tryz.func56, Tryz.ntmps56
  go_wp2_with fail
  refine (HD.out _).mono ?_
  rintro e w0 ⟨rfl, rfl⟩
  go_wp2_with fail
  refine (HW.out _).mono ?_
  rintro e w0 ⟨rfl, rfl⟩
  go_wp2_with fail
  refine (HP.out _).mono ?_
  rintro e w0 ⟨rfl, rfl⟩
  go_wp2_with fail
  refine (HTp.out _ ((Ext.refl _).alloc _)).mono ?_
  rintro e w0 ⟨rfl, rfl⟩
  have hdy := (HDy.out _ ((Ext.refl w).alloc (.cells #[.int .i64 0, .string ⟨#[]⟩, .slice none 0 0] 32))).1
  go_wp2_with fail
  refine (HC.out _ ((Ext.refl _).alloc _)).mono ?_
  rintro e w3 ⟨v3, g, rfl, hg, hO, hb3⟩
  obtain ⟨a3, cap3, rfl, hlc3, hcm3, hx3⟩ := id hO
  obtain ⟨off3, rfl, -, -⟩ := hx3 hp
  have HO : Hid (Own w3 (.slice (some ⟨g, off3, none⟩) zs.length cap3) g zs) := hO
  have HG : Hid (w.heap.size + 1 ≤ g) := by have h := hg; simp at h; exact h
  have HQ : Hid (RBox w3 w.heap.size) := (RBox.new w _).ext hb3
  have HB3 : Hid (Ext w w3) := ((Ext.refl _).alloc _).trans hb3
  clear hb3 hO hg hx3
  unfold maxLen at hcm3
  have hny := (HDy.out _ HB3.out).2
  go_wp2_with fail
  refine (HL.out _).mono ?_
  rintro e w0 ⟨rfl, rfl⟩
  go_wp2_with fail
  refine (HSq.out _).mono ?_
  rintro e w4 ⟨rfl, hb4⟩
  have HB4 : Hid (Ext w w4) := HB3.out.trans hb4
  have HQ4 : Hid (RBox w4 w.heap.size) := HQ.out.ext hb4
  have HO4 : Hid (Own w4 (.slice (some ⟨g, off3, none⟩) zs.length cap3) g zs) := HO.out.ext hb4
  clear hb4
  go_wp2_with fail
  refine (HNm.out _).mono ?_
  rintro e w0 ⟨rfl, rfl⟩
  go_wp2_with fail
  refine (HP.out _).mono ?_
  rintro e w0 ⟨rfl, rfl⟩
  go_wp2_with fail
  refine (HSq.out _).mono ?_
  rintro e w5 ⟨rfl, hb5⟩
  have HB5 : Hid (Ext w w5) := HB4.out.trans hb5
  have HQ5 : Hid (RBox w5 w.heap.size) := HQ4.out.ext hb5
  have HO5 : Hid (Own w5 (.slice (some ⟨g, off3, none⟩) zs.length cap3) g zs) := HO4.out.ext hb5
  clear hb5
  go_wp2_with fail
  refine (HJ.out _).mono ?_
  rintro e w0 ⟨rfl, rfl⟩
  go_wp2_with fail
  refine (HFt.out _).mono ?_
  rintro e w6 ⟨rfl, hb6⟩
  have HB6 : Hid (Ext w w6) := HB5.out.trans hb6
  have HQ6 : Hid (RBox w6 w.heap.size) := HQ5.out.ext hb6
  have HO6 : Hid (Own w6 (.slice (some ⟨g, off3, none⟩) zs.length cap3) g zs) := HO5.out.ext hb6
  clear hb6
  obtain ⟨a8, cap8, he8, -, -, hx8⟩ := id HO6.out
  injection he8 with e1 e2 e3
  subst e1 e3
  obtain ⟨off8, ho8, hR8, hN8⟩ := hx8 hp
  injection ho8 with ho8
  injection ho8 with _ ho8 _
  subst ho8
  obtain ⟨⟨u4, r4⟩, s4⟩ := hR8.2 (k * 5 + 4) (by omega)
  rw [← Nat.add_assoc] at r4 s4
  have HS7 : Hid (Own (w6.setCell ⟨g, off3 + k * 5 + 4, none⟩ (.int .i64 (y.next + 1))) (.slice (some ⟨g, off3, none⟩) zs.length cap3) g (zs.set k { y with next := y.next + 1 })) := HO6.out.field HY.out 4 (by omega) (.int .i64 (y.next + 1)) { y with next := y.next + 1 } rfl
  have HB7s : Hid (Ext w (w6.setCell ⟨g, off3 + k * 5 + 4, none⟩ (.int .i64 (y.next + 1)))) := HB6.out.setCell (p := ⟨g, off3 + k * 5 + 4, none⟩) (by have := HG.out; show _ ≤ g; omega) _
  have HQ7s : Hid (RBox (w6.setCell ⟨g, off3 + k * 5 + 4, none⟩ (.int .i64 (y.next + 1))) w.heap.size) := HQ6.out.updS ((Upd.refl g w6).setAt _ _) (by have := HG.out; omega)
  clear hR8 hN8 hx8
  go_wp2_with fail
  refine (HT2.out _ HB7s.out).mono ?_
  rintro e w0 ⟨rfl, rfl⟩
  go_wp2_with fail
  refine (HB0.out _ _).mono ?_
  rintro e w9 ⟨rfl, hb9⟩
  obtain ⟨q9, q0, q1, q2, f0, f1, f2⟩ := (HQ7s.out).ext hb9
  have HB9 : Hid (Ext w w9) := (HB7s.out).trans hb9
  clear hb9
  go_wp2
  exact bodyPost_ret (v := zr 6 ⟨#[]⟩ (.slice none 0 0)) (by simp [results, Tryz.results56, go_sem, zr, q0, q1, q2]) rfl (zret_bad _ _ (HB9.out.box3 _ _ _))

set_option maxHeartbeats 4000000 in
set_option maxRecDepth 100000 in
theorem l2Create_s2 (b off cap : Nat) (zs : List Zn) (p : ByteArray) (d o : Int) (q : Bool) (w : World) (hS : NSlice w (.slice (some ⟨b, off, none⟩) zs.length cap) zs) (hl : zs.length ≤ 1000) (hp : 0 < zs.length) (hf : Pth.faultI p.data.toList = 0) (hd : Tre.okData d = true) (ho : Tre.okOwner o = true) (ht : (p.toList == [47]) = false) (k : Nat) (y : Zn) (ha : Tre.atI zs (Tre.par p) = k) (hy : zs[k]? = some y) (hw : y.owner = 0) (hq : q = true) (hn0 : 0 ≤ y.next) (hn9 : ¬ 100 ≤ y.next) (hk5 : Pth.okName (Tre.seqN p y.next).data.toList = true) (hfs : Pth.faultI (Tre.seqP p y.next).data.toList = 0) (hm : ¬ 0 ≤ Tre.atI zs (Tre.seqP p y.next)) (h20 : 20 ≤ zs.length) :
    Calls Tryz.prog 56 #[.slice (some ⟨b, off, none⟩) zs.length cap, .string p, .int .i64 d, .int .i64 o, .bool q] w (ZRet w 2 ⟨#[]⟩ []) := by
  have HS : Hid (NSlice w (.slice (some ⟨b, off, none⟩) zs.length cap) zs) := hS
  have h24 := few_of_ok hf
  have HD : Hid (∀ wx : World, Calls Tryz.prog 64 #[.int .i64 d] wx fun e w' => e = .returned (.bool (Tre.okData d)) ∧ w' = wx) := l2Data_any d
  have HW : Hid (∀ wx : World, Calls Tryz.prog 66 #[.int .i64 o] wx fun e w' => e = .returned (.bool (Tre.okOwner o)) ∧ w' = wx) := l2Owner_any o
  have HP : Hid (∀ wx : World, Calls Tryz.prog 67 #[.string p] wx fun e w' => e = .returned (.string (Tre.par p)) ∧ w' = wx) := fun wx => l1Parent_any p wx h24
  have HT : Hid (∀ (wx : World) (s : ByteArray), Ext w wx → Calls Tryz.prog 21 #[.slice (some ⟨b, off, none⟩) zs.length cap, .string s] wx fun e w' => e = .returned (.int .i64 (Tre.atI zs s)) ∧ w' = wx) := fun wx s h => l2At_any _ zs s wx (hS.ext h)
  have HB0 : Hid (∀ (c : Int) (wx : World), Calls Tryz.prog 75 #[.int .i64 c] wx fun e w' => e = .returned (zr c ⟨#[]⟩ (.slice none 0 0)) ∧ Ext wx w') := l2Bad_any
  unfold zr at HB0
  have HC : Hid (∀ wx : World, Ext w wx → Calls Tryz.prog 76 #[.slice (some ⟨b, off, none⟩) zs.length cap] wx fun e w' => ∃ v' g, e = .returned v' ∧ wx.heap.size ≤ g ∧ Own w' v' g zs ∧ Ext wx w') := fun wx h => l2Copy_any _ zs wx (hS.ext h) (by omega) hp
  obtain ⟨a', cap', he, hlc, hcm, hx⟩ := hS
  injection he with e1 _ e3
  subst e1 e3
  obtain ⟨b', off', he, hb, hN⟩ := hx hp
  injection he with he
  injection he with e1 e2 _
  subst e1 e2
  have HN : Hid (b < w.heap.size ∧ NodesAt w b off zs) := ⟨hb, hN⟩
  clear hx hN
  unfold maxLen at hcm
  subst hq
  have hll := lastSl_le2 p hf ht
  have HL : Hid (∀ wx : World, Calls Tryz.prog 77 #[.string p] wx fun e w' => e = .returned (.int .i64 (Pth.lastSl p.data.toList 0 0 : Nat)) ∧ w' = wx) := fun wx => l1Last_any p wx h24
  rw [hd] at HD
  rw [ho] at HW
  have hkl := (List.getElem?_eq_some_iff.1 hy).1
  have HY : Hid (zs[k]? = some y) := hy
  have HTp : Hid (∀ (wx : World), Ext w wx → Calls Tryz.prog 21 #[.slice (some ⟨b, off, none⟩) zs.length cap, .string (Tre.par p)] wx fun e w' => e = .returned (.int .i64 k) ∧ w' = wx) := fun wx h => by have := HT.out wx (Tre.par p) h; rw [ha] at this; exact this
  have HDy : Hid (∀ wx : World, Ext w wx → wx.cell? ⟨b, off + k * 5 + 3, none⟩ = some (.int .i64 y.owner) ∧ wx.cell? ⟨b, off + k * 5 + 4, none⟩ = some (.int .i64 y.next)) := fun wx h => ⟨(HN.out.2.ext HN.out.1 h k y HY.out).2.2.2.1, (HN.out.2.ext HN.out.1 h k y HY.out).2.2.2.2⟩
  clear hy ha
  have hw1 : (y.owner != 0) = false := by simp [hw]
  clear hw
  have HSq : Hid (∀ wx : World, Calls Tryz.prog 79 #[.string (p.extract (Pth.lastSl p.data.toList 0 0 + 1) p.size), .int .i64 y.next] wx fun e w' => e = .returned (.string (Tre.seqN p y.next)) ∧ Ext wx w') := fun wx => l1Seq_any _ y.next wx (by simp [ByteArray.size_extract]; omega) hn0 (by omega)
  have hsn := Tre.seqN_size p y.next
  have hps := Tre.par_size p
  have HNm : Hid (∀ wx : World, Calls Tryz.prog 78 #[.string (Tre.seqN p y.next)] wx fun e w' => e = .returned (.bool (Pth.okName (Tre.seqN p y.next).data.toList)) ∧ w' = wx) := fun wx => l1Name_any _ wx (by unfold maxLen; omega)
  have HJ : Hid (∀ wx : World, Calls Tryz.prog 74 #[.string (Tre.par p), .string (Tre.seqN p y.next)] wx fun e w' => e = .returned (.string (Tre.seqP p y.next)) ∧ w' = wx) := fun wx => l1Join_any _ _ wx (by omega) (by omega)
  have HFt : Hid (∀ wx : World, Calls Tryz.prog 47 #[.string (Tre.seqP p y.next)] wx fun e w' => e = .returned (.int .i64 (Pth.faultI (Tre.seqP p y.next).data.toList)) ∧ Ext wx w') := l1FaultI_any _
  rw [hk5] at HNm
  rw [hfs] at HFt
  have HT2 : Hid (∀ (wx : World), Ext w wx → Calls Tryz.prog 21 #[.slice (some ⟨b, off, none⟩) zs.length cap, .string (Tre.seqP p y.next)] wx fun e w' => e = .returned (.int .i64 (Tre.atI zs (Tre.seqP p y.next))) ∧ w' = wx) := fun wx h => HT.out wx (Tre.seqP p y.next) h
  generalize Tre.atI zs (Tre.seqP p y.next) = t at *
  generalize Tre.seqP p y.next = sp at *
  generalize Pth.lastSl p.data.toList 0 0 = la at *
  generalize Tre.seqN p y.next = sn at *
  go_enter Tryz.func56, Tryz.ntmps56
  go_wp2_with fail
  refine (HD.out _).mono ?_
  rintro e w0 ⟨rfl, rfl⟩
  go_wp2_with fail
  refine (HW.out _).mono ?_
  rintro e w0 ⟨rfl, rfl⟩
  go_wp2_with fail
  refine (HP.out _).mono ?_
  rintro e w0 ⟨rfl, rfl⟩
  go_wp2_with fail
  refine (HTp.out _ ((Ext.refl _).alloc _)).mono ?_
  rintro e w0 ⟨rfl, rfl⟩
  have hdy := (HDy.out _ ((Ext.refl w).alloc (.cells #[.int .i64 0, .string ⟨#[]⟩, .slice none 0 0] 32))).1
  go_wp2_with fail
  refine (HC.out _ ((Ext.refl _).alloc _)).mono ?_
  rintro e w3 ⟨v3, g, rfl, hg, hO, hb3⟩
  obtain ⟨a3, cap3, rfl, hlc3, hcm3, hx3⟩ := id hO
  obtain ⟨off3, rfl, -, -⟩ := hx3 hp
  have HO : Hid (Own w3 (.slice (some ⟨g, off3, none⟩) zs.length cap3) g zs) := hO
  have HG : Hid (w.heap.size + 1 ≤ g) := by have h := hg; simp at h; exact h
  have HQ : Hid (RBox w3 w.heap.size) := (RBox.new w _).ext hb3
  have HB3 : Hid (Ext w w3) := ((Ext.refl _).alloc _).trans hb3
  clear hb3 hO hg hx3
  unfold maxLen at hcm3
  have hny := (HDy.out _ HB3.out).2
  go_wp2_with fail
  refine (HL.out _).mono ?_
  rintro e w0 ⟨rfl, rfl⟩
  go_wp2_with fail
  refine (HSq.out _).mono ?_
  rintro e w4 ⟨rfl, hb4⟩
  have HB4 : Hid (Ext w w4) := HB3.out.trans hb4
  have HQ4 : Hid (RBox w4 w.heap.size) := HQ.out.ext hb4
  have HO4 : Hid (Own w4 (.slice (some ⟨g, off3, none⟩) zs.length cap3) g zs) := HO.out.ext hb4
  clear hb4
  go_wp2_with fail
  refine (HNm.out _).mono ?_
  rintro e w0 ⟨rfl, rfl⟩
  go_wp2_with fail
  refine (HP.out _).mono ?_
  rintro e w0 ⟨rfl, rfl⟩
  go_wp2_with fail
  refine (HSq.out _).mono ?_
  rintro e w5 ⟨rfl, hb5⟩
  have HB5 : Hid (Ext w w5) := HB4.out.trans hb5
  have HQ5 : Hid (RBox w5 w.heap.size) := HQ4.out.ext hb5
  have HO5 : Hid (Own w5 (.slice (some ⟨g, off3, none⟩) zs.length cap3) g zs) := HO4.out.ext hb5
  clear hb5
  go_wp2_with fail
  refine (HJ.out _).mono ?_
  rintro e w0 ⟨rfl, rfl⟩
  go_wp2_with fail
  refine (HFt.out _).mono ?_
  rintro e w6 ⟨rfl, hb6⟩
  have HB6 : Hid (Ext w w6) := HB5.out.trans hb6
  have HQ6 : Hid (RBox w6 w.heap.size) := HQ5.out.ext hb6
  have HO6 : Hid (Own w6 (.slice (some ⟨g, off3, none⟩) zs.length cap3) g zs) := HO5.out.ext hb6
  clear hb6
  obtain ⟨a8, cap8, he8, -, -, hx8⟩ := id HO6.out
  injection he8 with e1 e2 e3
  subst e1 e3
  obtain ⟨off8, ho8, hR8, hN8⟩ := hx8 hp
  injection ho8 with ho8
  injection ho8 with _ ho8 _
  subst ho8
  obtain ⟨⟨u4, r4⟩, s4⟩ := hR8.2 (k * 5 + 4) (by omega)
  rw [← Nat.add_assoc] at r4 s4
  have HS7 : Hid (Own (w6.setCell ⟨g, off3 + k * 5 + 4, none⟩ (.int .i64 (y.next + 1))) (.slice (some ⟨g, off3, none⟩) zs.length cap3) g (zs.set k { y with next := y.next + 1 })) := HO6.out.field HY.out 4 (by omega) (.int .i64 (y.next + 1)) { y with next := y.next + 1 } rfl
  have HB7s : Hid (Ext w (w6.setCell ⟨g, off3 + k * 5 + 4, none⟩ (.int .i64 (y.next + 1)))) := HB6.out.setCell (p := ⟨g, off3 + k * 5 + 4, none⟩) (by have := HG.out; show _ ≤ g; omega) _
  have HQ7s : Hid (RBox (w6.setCell ⟨g, off3 + k * 5 + 4, none⟩ (.int .i64 (y.next + 1))) w.heap.size) := HQ6.out.updS ((Upd.refl g w6).setAt _ _) (by have := HG.out; omega)
  clear hR8 hN8 hx8
  go_wp2_with fail
  refine (HT2.out _ HB7s.out).mono ?_
  rintro e w0 ⟨rfl, rfl⟩
  go_wp2_with fail
  refine (HB0.out _ _).mono ?_
  rintro e w9 ⟨rfl, hb9⟩
  obtain ⟨q9, q0, q1, q2, f0, f1, f2⟩ := (HQ7s.out).ext hb9
  have HB9 : Hid (Ext w w9) := (HB7s.out).trans hb9
  clear hb9
  go_wp2
  exact bodyPost_ret (v := zr 2 ⟨#[]⟩ (.slice none 0 0)) (by simp [results, Tryz.results56, go_sem, zr, q0, q1, q2]) rfl (zret_bad _ _ (HB9.out.box3 _ _ _))

set_option maxHeartbeats 4000000 in
set_option maxRecDepth 100000 in
theorem l2Create_s0 (b off cap : Nat) (zs : List Zn) (p : ByteArray) (d o : Int) (q : Bool) (w : World) (hS : NSlice w (.slice (some ⟨b, off, none⟩) zs.length cap) zs) (hl : zs.length ≤ 1000) (hp : 0 < zs.length) (hf : Pth.faultI p.data.toList = 0) (hd : Tre.okData d = true) (ho : Tre.okOwner o = true) (ht : (p.toList == [47]) = false) (k : Nat) (y : Zn) (ha : Tre.atI zs (Tre.par p) = k) (hy : zs[k]? = some y) (hw : y.owner = 0) (hq : q = true) (hn0 : 0 ≤ y.next) (hn9 : ¬ 100 ≤ y.next) (hk5 : Pth.okName (Tre.seqN p y.next).data.toList = true) (hfs : Pth.faultI (Tre.seqP p y.next).data.toList = 0) (hm : ¬ 0 ≤ Tre.atI zs (Tre.seqP p y.next)) (h20 : ¬ 20 ≤ zs.length) :
    Calls Tryz.prog 56 #[.slice (some ⟨b, off, none⟩) zs.length cap, .string p, .int .i64 d, .int .i64 o, .bool q] w (ZRet w 0 (Tre.seqP p y.next) (Tre.putT (zs.set k { y with next := y.next + 1 }) ⟨(Tre.seqP p y.next), d, 0, o, 0⟩)) := by
  have HS : Hid (NSlice w (.slice (some ⟨b, off, none⟩) zs.length cap) zs) := hS
  have h24 := few_of_ok hf
  have HD : Hid (∀ wx : World, Calls Tryz.prog 64 #[.int .i64 d] wx fun e w' => e = .returned (.bool (Tre.okData d)) ∧ w' = wx) := l2Data_any d
  have HW : Hid (∀ wx : World, Calls Tryz.prog 66 #[.int .i64 o] wx fun e w' => e = .returned (.bool (Tre.okOwner o)) ∧ w' = wx) := l2Owner_any o
  have HP : Hid (∀ wx : World, Calls Tryz.prog 67 #[.string p] wx fun e w' => e = .returned (.string (Tre.par p)) ∧ w' = wx) := fun wx => l1Parent_any p wx h24
  have HT : Hid (∀ (wx : World) (s : ByteArray), Ext w wx → Calls Tryz.prog 21 #[.slice (some ⟨b, off, none⟩) zs.length cap, .string s] wx fun e w' => e = .returned (.int .i64 (Tre.atI zs s)) ∧ w' = wx) := fun wx s h => l2At_any _ zs s wx (hS.ext h)
  have HB0 : Hid (∀ (c : Int) (wx : World), Calls Tryz.prog 75 #[.int .i64 c] wx fun e w' => e = .returned (zr c ⟨#[]⟩ (.slice none 0 0)) ∧ Ext wx w') := l2Bad_any
  unfold zr at HB0
  have HC : Hid (∀ wx : World, Ext w wx → Calls Tryz.prog 76 #[.slice (some ⟨b, off, none⟩) zs.length cap] wx fun e w' => ∃ v' g, e = .returned v' ∧ wx.heap.size ≤ g ∧ Own w' v' g zs ∧ Ext wx w') := fun wx h => l2Copy_any _ zs wx (hS.ext h) (by omega) hp
  obtain ⟨a', cap', he, hlc, hcm, hx⟩ := hS
  injection he with e1 _ e3
  subst e1 e3
  obtain ⟨b', off', he, hb, hN⟩ := hx hp
  injection he with he
  injection he with e1 e2 _
  subst e1 e2
  have HN : Hid (b < w.heap.size ∧ NodesAt w b off zs) := ⟨hb, hN⟩
  clear hx hN
  unfold maxLen at hcm
  subst hq
  have hll := lastSl_le2 p hf ht
  have HL : Hid (∀ wx : World, Calls Tryz.prog 77 #[.string p] wx fun e w' => e = .returned (.int .i64 (Pth.lastSl p.data.toList 0 0 : Nat)) ∧ w' = wx) := fun wx => l1Last_any p wx h24
  rw [hd] at HD
  rw [ho] at HW
  have hkl := (List.getElem?_eq_some_iff.1 hy).1
  have HY : Hid (zs[k]? = some y) := hy
  have HTp : Hid (∀ (wx : World), Ext w wx → Calls Tryz.prog 21 #[.slice (some ⟨b, off, none⟩) zs.length cap, .string (Tre.par p)] wx fun e w' => e = .returned (.int .i64 k) ∧ w' = wx) := fun wx h => by have := HT.out wx (Tre.par p) h; rw [ha] at this; exact this
  have HDy : Hid (∀ wx : World, Ext w wx → wx.cell? ⟨b, off + k * 5 + 3, none⟩ = some (.int .i64 y.owner) ∧ wx.cell? ⟨b, off + k * 5 + 4, none⟩ = some (.int .i64 y.next)) := fun wx h => ⟨(HN.out.2.ext HN.out.1 h k y HY.out).2.2.2.1, (HN.out.2.ext HN.out.1 h k y HY.out).2.2.2.2⟩
  clear hy ha
  have hw1 : (y.owner != 0) = false := by simp [hw]
  clear hw
  have HSq : Hid (∀ wx : World, Calls Tryz.prog 79 #[.string (p.extract (Pth.lastSl p.data.toList 0 0 + 1) p.size), .int .i64 y.next] wx fun e w' => e = .returned (.string (Tre.seqN p y.next)) ∧ Ext wx w') := fun wx => l1Seq_any _ y.next wx (by simp [ByteArray.size_extract]; omega) hn0 (by omega)
  have hsn := Tre.seqN_size p y.next
  have hps := Tre.par_size p
  have HNm : Hid (∀ wx : World, Calls Tryz.prog 78 #[.string (Tre.seqN p y.next)] wx fun e w' => e = .returned (.bool (Pth.okName (Tre.seqN p y.next).data.toList)) ∧ w' = wx) := fun wx => l1Name_any _ wx (by unfold maxLen; omega)
  have HJ : Hid (∀ wx : World, Calls Tryz.prog 74 #[.string (Tre.par p), .string (Tre.seqN p y.next)] wx fun e w' => e = .returned (.string (Tre.seqP p y.next)) ∧ w' = wx) := fun wx => l1Join_any _ _ wx (by omega) (by omega)
  have HFt : Hid (∀ wx : World, Calls Tryz.prog 47 #[.string (Tre.seqP p y.next)] wx fun e w' => e = .returned (.int .i64 (Pth.faultI (Tre.seqP p y.next).data.toList)) ∧ Ext wx w') := l1FaultI_any _
  rw [hk5] at HNm
  rw [hfs] at HFt
  have HPut : Hid (∀ (wx : World) (g off3 cap3 : Nat), NSlice wx (.slice (some ⟨g, off3, none⟩) zs.length cap3) (zs.set k { y with next := y.next + 1 }) → Calls Tryz.prog 80 #[.slice (some ⟨g, off3, none⟩) zs.length cap3, .agg #[.string (Tre.seqP p y.next), .int .i64 d, .int .i64 0, .int .i64 o, .int .i64 0]] wx fun e w' => ∃ v' g, e = .returned v' ∧ wx.heap.size ≤ g ∧ Own w' v' g (Tre.putT (zs.set k { y with next := y.next + 1 }) ⟨(Tre.seqP p y.next), d, 0, o, 0⟩) ∧ Ext wx w') := fun wx g off3 cap3 h => by
    have := l2Put_any g off3 cap3 (zs.set k { y with next := y.next + 1 }) ⟨(Tre.seqP p y.next), d, 0, o, 0⟩ wx (by rw [List.length_set]; exact h) (by rw [List.length_set]; omega) (by rw [List.length_set]; omega)
    rw [List.length_set] at this
    exact this
  have HT2 : Hid (∀ (wx : World), Ext w wx → Calls Tryz.prog 21 #[.slice (some ⟨b, off, none⟩) zs.length cap, .string (Tre.seqP p y.next)] wx fun e w' => e = .returned (.int .i64 (Tre.atI zs (Tre.seqP p y.next))) ∧ w' = wx) := fun wx h => HT.out wx (Tre.seqP p y.next) h
  generalize Tre.atI zs (Tre.seqP p y.next) = t at *
  generalize Tre.seqP p y.next = sp at *
  generalize Pth.lastSl p.data.toList 0 0 = la at *
  generalize Tre.seqN p y.next = sn at *
  go_enter Tryz.func56, Tryz.ntmps56
  go_wp2_with fail
  refine (HD.out _).mono ?_
  rintro e w0 ⟨rfl, rfl⟩
  go_wp2_with fail
  refine (HW.out _).mono ?_
  rintro e w0 ⟨rfl, rfl⟩
  go_wp2_with fail
  refine (HP.out _).mono ?_
  rintro e w0 ⟨rfl, rfl⟩
  go_wp2_with fail
  refine (HTp.out _ ((Ext.refl _).alloc _)).mono ?_
  rintro e w0 ⟨rfl, rfl⟩
  have hdy := (HDy.out _ ((Ext.refl w).alloc (.cells #[.int .i64 0, .string ⟨#[]⟩, .slice none 0 0] 32))).1
  go_wp2_with fail
  refine (HC.out _ ((Ext.refl _).alloc _)).mono ?_
  rintro e w3 ⟨v3, g, rfl, hg, hO, hb3⟩
  obtain ⟨a3, cap3, rfl, hlc3, hcm3, hx3⟩ := id hO
  obtain ⟨off3, rfl, -, -⟩ := hx3 hp
  have HO : Hid (Own w3 (.slice (some ⟨g, off3, none⟩) zs.length cap3) g zs) := hO
  have HG : Hid (w.heap.size + 1 ≤ g) := by have h := hg; simp at h; exact h
  have HQ : Hid (RBox w3 w.heap.size) := (RBox.new w _).ext hb3
  have HB3 : Hid (Ext w w3) := ((Ext.refl _).alloc _).trans hb3
  clear hb3 hO hg hx3
  unfold maxLen at hcm3
  have hny := (HDy.out _ HB3.out).2
  go_wp2_with fail
  refine (HL.out _).mono ?_
  rintro e w0 ⟨rfl, rfl⟩
  go_wp2_with fail
  refine (HSq.out _).mono ?_
  rintro e w4 ⟨rfl, hb4⟩
  have HB4 : Hid (Ext w w4) := HB3.out.trans hb4
  have HQ4 : Hid (RBox w4 w.heap.size) := HQ.out.ext hb4
  have HO4 : Hid (Own w4 (.slice (some ⟨g, off3, none⟩) zs.length cap3) g zs) := HO.out.ext hb4
  clear hb4
  go_wp2_with fail
  refine (HNm.out _).mono ?_
  rintro e w0 ⟨rfl, rfl⟩
  go_wp2_with fail
  refine (HP.out _).mono ?_
  rintro e w0 ⟨rfl, rfl⟩
  go_wp2_with fail
  refine (HSq.out _).mono ?_
  rintro e w5 ⟨rfl, hb5⟩
  have HB5 : Hid (Ext w w5) := HB4.out.trans hb5
  have HQ5 : Hid (RBox w5 w.heap.size) := HQ4.out.ext hb5
  have HO5 : Hid (Own w5 (.slice (some ⟨g, off3, none⟩) zs.length cap3) g zs) := HO4.out.ext hb5
  clear hb5
  go_wp2_with fail
  refine (HJ.out _).mono ?_
  rintro e w0 ⟨rfl, rfl⟩
  go_wp2_with fail
  refine (HFt.out _).mono ?_
  rintro e w6 ⟨rfl, hb6⟩
  have HB6 : Hid (Ext w w6) := HB5.out.trans hb6
  have HQ6 : Hid (RBox w6 w.heap.size) := HQ5.out.ext hb6
  have HO6 : Hid (Own w6 (.slice (some ⟨g, off3, none⟩) zs.length cap3) g zs) := HO5.out.ext hb6
  clear hb6
  obtain ⟨a8, cap8, he8, -, -, hx8⟩ := id HO6.out
  injection he8 with e1 e2 e3
  subst e1 e3
  obtain ⟨off8, ho8, hR8, hN8⟩ := hx8 hp
  injection ho8 with ho8
  injection ho8 with _ ho8 _
  subst ho8
  obtain ⟨⟨u4, r4⟩, s4⟩ := hR8.2 (k * 5 + 4) (by omega)
  rw [← Nat.add_assoc] at r4 s4
  have HS7 : Hid (Own (w6.setCell ⟨g, off3 + k * 5 + 4, none⟩ (.int .i64 (y.next + 1))) (.slice (some ⟨g, off3, none⟩) zs.length cap3) g (zs.set k { y with next := y.next + 1 })) := HO6.out.field HY.out 4 (by omega) (.int .i64 (y.next + 1)) { y with next := y.next + 1 } rfl
  have HB7s : Hid (Ext w (w6.setCell ⟨g, off3 + k * 5 + 4, none⟩ (.int .i64 (y.next + 1)))) := HB6.out.setCell (p := ⟨g, off3 + k * 5 + 4, none⟩) (by have := HG.out; show _ ≤ g; omega) _
  have HQ7s : Hid (RBox (w6.setCell ⟨g, off3 + k * 5 + 4, none⟩ (.int .i64 (y.next + 1))) w.heap.size) := HQ6.out.updS ((Upd.refl g w6).setAt _ _) (by have := HG.out; omega)
  clear hR8 hN8 hx8
  go_wp2_with fail
  refine (HT2.out _ HB7s.out).mono ?_
  rintro e w0 ⟨rfl, rfl⟩
  go_wp2_with fail
  refine (HPut.out _ _ _ _ (by have h := HS7.out.slice; exact h)).mono ?_
  rintro e w7 ⟨v7, g7, rfl, hg7, hO7, hb7⟩
  obtain ⟨a7, cap7, rfl, -⟩ := id hO7
  have HO7 : Hid (Own w7 (.slice a7 (Tre.putT (zs.set k { y with next := y.next + 1 }) ⟨sp, d, 0, o, 0⟩).length cap7) g7 (Tre.putT (zs.set k { y with next := y.next + 1 }) ⟨sp, d, 0, o, 0⟩)) := hO7
  have HG7 : Hid (w.heap.size + 1 ≤ g7) := by have := (HQ7s.out).1; show _ ≤ _; omega
  obtain ⟨q9, q0, q1, q2, f0, f1, f2⟩ := (HQ7s.out).ext hb7
  have HB7 : Hid (Ext w w7) := (HB7s.out).trans hb7
  clear hb7 hO7 hg7
  go_wp2
  exact bodyPost_ret (v := zr 0 sp (.slice a7 (Tre.putT (zs.set k { y with next := y.next + 1 }) ⟨sp, d, 0, o, 0⟩).length cap7)) (by simp [results, Tryz.results56, go_sem, zr, q0, q1, q2]) rfl (zret_own 0 sp HO7.out HG7.out HB7.out _ _ _)

theorem l2Create_any (b off cap : Nat) (zs : List Zn) (p : ByteArray) (d o : Int) (q : Bool) (w : World) (hS : NSlice w (.slice (some ⟨b, off, none⟩) zs.length cap) zs) (hl : zs.length ≤ 1000) (hp : 0 < zs.length) (hf : Pth.faultI p.data.toList = 0) (hn : ∀ z ∈ zs, 0 ≤ z.next) :
    Calls Tryz.prog 56 #[.slice (some ⟨b, off, none⟩) zs.length cap, .string p, .int .i64 d, .int .i64 o, .bool q] w (ZRet w (Tre.createT zs p d o q).1 (Tre.createT zs p d o q).2.1 (Tre.createT zs p d o q).2.2) := by
  cases hd : Tre.okData d with
  | false => rw [Tre.createT_range (by rw [hd]; rfl)]; exact l2Create_data b off cap zs p d o q w hS hl hp hf hd
  | true =>
  cases ho : Tre.okOwner o with
  | false => rw [Tre.createT_range (by rw [hd, ho]; rfl)]; exact l2Create_owner b off cap zs p d o q w hS hl hp hf hd ho
  | true =>
  have hdo : (Tre.okData d && Tre.okOwner o) = true := by rw [hd, ho]; rfl
  cases ht : (p.toList == [47]) with
  | true => rw [Tre.createT_top hdo ht]; exact l2Create_top b off cap zs p d o q w hS hl hp hf hd ho ht
  | false =>
  rcases Tre.atI_range zs (Tre.par p) with ⟨hm, -⟩ | ⟨k, y, ha, hkl, hy, -⟩
  · rw [Tre.createT_none hdo ht (by omega)]; exact l2Create_none b off cap zs p d o q w hS hl hp hf hd ho ht (by omega)
  rw [Tre.createT_some hdo ht ha hy]
  by_cases hw : y.owner = 0
  · rw [if_neg (by simpa using hw)]
    have hn0 := hn y (List.mem_of_getElem? hy)
    cases q with
    | false =>
      rw [if_neg (by simp)]
      by_cases hm : 0 ≤ Tre.atI zs p
      · rw [Tre.finT_taken hm]; exact l2Create_p6 b off cap zs p d o false w hS hl hp hf hd ho ht k y ha hy hw rfl hm
      by_cases h20 : 20 ≤ zs.length
      · rw [Tre.finT_many hm h20]; exact l2Create_p2 b off cap zs p d o false w hS hl hp hf hd ho ht k y ha hy hw rfl hm h20
      · rw [Tre.finT_ok hm h20]; exact l2Create_p0 b off cap zs p d o false w hS hl hp hf hd ho ht k y ha hy hw rfl hm h20
    | true =>
      rw [if_pos rfl]
      by_cases hn9 : 100 ≤ y.next
      · rw [show Tre.seqT zs p k y = (3, ⟨#[]⟩, []) from by unfold Tre.seqT; rw [if_pos hn9]]
        rw [if_pos (by simp)]
        exact l2Create_s3 b off cap zs p d o true w hS hl hp hf hd ho ht k y ha hy hw rfl hn0 hn9
      cases hk5 : Pth.okName (Tre.seqN p y.next).data.toList with
      | false =>
        rw [show Tre.seqT zs p k y = (5, ⟨#[]⟩, []) from by unfold Tre.seqT; rw [if_neg hn9, if_pos hk5]]
        rw [if_pos (by simp)]
        exact l2Create_s5 b off cap zs p d o true w hS hl hp hf hd ho ht k y ha hy hw rfl hn0 hn9 hk5
      | true =>
      by_cases hfs : Pth.faultI (Tre.seqP p y.next).data.toList ≠ 0
      · rw [show Tre.seqT zs p k y = (Pth.faultI (Tre.seqP p y.next).data.toList, ⟨#[]⟩, []) from by unfold Tre.seqT; rw [if_neg hn9, if_neg (by rw [hk5]; simp), if_pos hfs]]
        rw [if_pos hfs]
        exact l2Create_sf b off cap zs p d o true w hS hl hp hf hd ho ht k y ha hy hw rfl hn0 hn9 hk5 hfs
      have hf0 : Pth.faultI (Tre.seqP p y.next).data.toList = 0 := by omega
      rw [show Tre.seqT zs p k y = (0, Tre.seqP p y.next, zs.set k { y with next := y.next + 1 }) from by unfold Tre.seqT; rw [if_neg hn9, if_neg (by rw [hk5]; simp), if_neg hfs]]
      rw [if_neg (by simp)]
      show Calls _ _ _ _ (ZRet w (Tre.finT zs (Tre.seqP p y.next) (zs.set k { y with next := y.next + 1 }) d o).1 _ _)
      by_cases hm : 0 ≤ Tre.atI zs (Tre.seqP p y.next)
      · rw [Tre.finT_taken hm]; exact l2Create_s6 b off cap zs p d o true w hS hl hp hf hd ho ht k y ha hy hw rfl hn0 hn9 hk5 hf0 hm
      by_cases h20 : 20 ≤ zs.length
      · rw [Tre.finT_many hm h20]; exact l2Create_s2 b off cap zs p d o true w hS hl hp hf hd ho ht k y ha hy hw rfl hn0 hn9 hk5 hf0 hm h20
      · rw [Tre.finT_ok hm h20]; exact l2Create_s0 b off cap zs p d o true w hS hl hp hf hd ho ht k y ha hy hw rfl hn0 hn9 hk5 hf0 hm h20
  · rw [if_pos (by simpa using hw)]; exact l2Create_owned b off cap zs p d o q w hS hl hp hf hd ho ht k y ha hy (by simpa using hw)
end Go.Proofs.YtilinjjimiiplaaGreatDoor
