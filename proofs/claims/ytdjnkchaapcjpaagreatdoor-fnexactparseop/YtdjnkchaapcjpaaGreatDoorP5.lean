/- the specification's l5Text, kind by kind. -/
import Derived.Test.YtdjnkchaapcjpaaGreatDoorP4
namespace Go.Proofs.YtdjnkchaapcjpaaGreatDoor
open Go.RowKit
theorem ret_str {a b : ByteArray} (h : a.data.toList = b.data.toList) : Ending.returned (.string a) = .returned (.string b) := by rw [ba_eq h]
theorem mkB_size (l : List UInt8) : (mkB l).size = l.length := by rw [← len_eq, mkB_list]
theorem cat_data (a b : ByteArray) : (a ++ b).data.toList = a.data.toList ++ b.data.toList := by simp [ByteArray.data_append]

set_option maxHeartbeats 4000000 in
set_option maxRecDepth 100000 in
theorem l5Text_1 (b off : Nat) (p : ByteArray) (d v : Int) (w : World) (hb : b < w.heap.size) (hO : OAt w b off ⟨1, p, d, v, false, false⟩)  :
    Calls Tryz.prog 67 #[.pointer (some ⟨b, off, none⟩)] w fun e w' => e = .returned (.string (mkB (Opr.text ⟨1, p, d, v, false, false⟩))) ∧ Ext w w' := by
  have HO : Hid (∀ wx : World, Ext w wx → OAt wx b off ⟨1, p, d, v, false, false⟩) := fun wx he => hO.ext hb he
  have c0 : w.cell? ⟨b, off, none⟩ = some (.int .i64 1) := hO.1
  have c1 : w.cell? ⟨b, off + 1, none⟩ = some (.string p) := hO.2.1
  have c2 : w.cell? ⟨b, off + 2, none⟩ = some (.int .i64 d) := hO.2.2.1
  have c3 : w.cell? ⟨b, off + 3, none⟩ = some (.int .i64 (v)) := hO.2.2.2.1
  have c4 : w.cell? ⟨b, off + 4, none⟩ = some (.bool false) := hO.2.2.2.2.1
  have c5 : w.cell? ⟨b, off + 5, none⟩ = some (.bool false) := hO.2.2.2.2.2
  clear hO
  have CP : Hid (∀ wx : World, Calls Tryz.prog 130 #[.int .i64 1] wx fun e w' => e = .returned (.bool false) ∧ w' = wx) := l5Path_any 1
  have CD : Hid (∀ wx : World, Calls Tryz.prog 121 #[.int .i64 1] wx fun e w' => e = .returned (.bool false) ∧ w' = wx) := l5Data_any 1
  have CV : Hid (∀ wx : World, Calls Tryz.prog 122 #[.int .i64 1] wx fun e w' => e = .returned (.bool false) ∧ w' = wx) := l5Version_any 1
  have HE : Hid (Opr.text ⟨1, p, d, v, false, false⟩ = (Opr.word 1)) := by
    show _ = _
    unfold Opr.text
    rw [show Opr.words ⟨1, p, d, v, false, false⟩ = [Opr.word 1] from by rfl]
    simp [Lib.join, List.intercalate]
  rw [HE.out]
  clear HE
  have E0 : Hid (Ext w w) := Ext.refl _
  have TK : True := trivial
  go_enter Tryz.func67, Tryz.ntmps67
  go_wp2_with (first | (go_at_call 130; refine (CP.out _).mono ?_; rintro e w9 ⟨rfl, hw9⟩; rw [hw9]; clear hw9 w9) | (go_at_call 121; refine (CD.out _).mono ?_; rintro e w9 ⟨rfl, hw9⟩; rw [hw9]; clear hw9 w9) | (go_at_call 122; refine (CV.out _).mono ?_; rintro e w9 ⟨rfl, hw9⟩; rw [hw9]; clear hw9 w9))
  go_ret
  refine ⟨ret_str ?_, ?_⟩
  · simp only [mkB_list]
    skip
    skip
    simp [Opr.word]
  · first | exact E0.out | exact E0.out.alloc _ | exact (E0.out.alloc _).trans (Ext.refl _)

set_option maxHeartbeats 4000000 in
set_option maxRecDepth 100000 in
theorem l5Text_2 (b off : Nat) (p : ByteArray) (d v : Int) (w : World) (hb : b < w.heap.size) (hO : OAt w b off ⟨2, p, d, v, false, false⟩)  :
    Calls Tryz.prog 67 #[.pointer (some ⟨b, off, none⟩)] w fun e w' => e = .returned (.string (mkB (Opr.text ⟨2, p, d, v, false, false⟩))) ∧ Ext w w' := by
  have HO : Hid (∀ wx : World, Ext w wx → OAt wx b off ⟨2, p, d, v, false, false⟩) := fun wx he => hO.ext hb he
  have c0 : w.cell? ⟨b, off, none⟩ = some (.int .i64 2) := hO.1
  have c1 : w.cell? ⟨b, off + 1, none⟩ = some (.string p) := hO.2.1
  have c2 : w.cell? ⟨b, off + 2, none⟩ = some (.int .i64 d) := hO.2.2.1
  have c3 : w.cell? ⟨b, off + 3, none⟩ = some (.int .i64 (v)) := hO.2.2.2.1
  have c4 : w.cell? ⟨b, off + 4, none⟩ = some (.bool false) := hO.2.2.2.2.1
  have c5 : w.cell? ⟨b, off + 5, none⟩ = some (.bool false) := hO.2.2.2.2.2
  clear hO
  have CP : Hid (∀ wx : World, Calls Tryz.prog 130 #[.int .i64 2] wx fun e w' => e = .returned (.bool false) ∧ w' = wx) := l5Path_any 2
  have CD : Hid (∀ wx : World, Calls Tryz.prog 121 #[.int .i64 2] wx fun e w' => e = .returned (.bool false) ∧ w' = wx) := l5Data_any 2
  have CV : Hid (∀ wx : World, Calls Tryz.prog 122 #[.int .i64 2] wx fun e w' => e = .returned (.bool false) ∧ w' = wx) := l5Version_any 2
  have HE : Hid (Opr.text ⟨2, p, d, v, false, false⟩ = (Opr.word 2)) := by
    show _ = _
    unfold Opr.text
    rw [show Opr.words ⟨2, p, d, v, false, false⟩ = [Opr.word 2] from by rfl]
    simp [Lib.join, List.intercalate]
  rw [HE.out]
  clear HE
  have E0 : Hid (Ext w w) := Ext.refl _
  have TK : True := trivial
  go_enter Tryz.func67, Tryz.ntmps67
  go_wp2_with (first | (go_at_call 130; refine (CP.out _).mono ?_; rintro e w9 ⟨rfl, hw9⟩; rw [hw9]; clear hw9 w9) | (go_at_call 121; refine (CD.out _).mono ?_; rintro e w9 ⟨rfl, hw9⟩; rw [hw9]; clear hw9 w9) | (go_at_call 122; refine (CV.out _).mono ?_; rintro e w9 ⟨rfl, hw9⟩; rw [hw9]; clear hw9 w9))
  go_ret
  refine ⟨ret_str ?_, ?_⟩
  · simp only [mkB_list]
    skip
    skip
    simp [Opr.word]
  · first | exact E0.out | exact E0.out.alloc _ | exact (E0.out.alloc _).trans (Ext.refl _)

set_option maxHeartbeats 4000000 in
set_option maxRecDepth 100000 in
theorem l5Text_3_ff (b off : Nat) (p : ByteArray) (d v : Int) (w : World) (hb : b < w.heap.size) (hO : OAt w b off ⟨3, p, d, v, false, false⟩) (hp : p.size ≤ 24) (hd0 : 0 ≤ d) (hd1 : d ≤ 9999) :
    Calls Tryz.prog 67 #[.pointer (some ⟨b, off, none⟩)] w fun e w' => e = .returned (.string (mkB (Opr.text ⟨3, p, d, v, false, false⟩))) ∧ Ext w w' := by
  have HO : Hid (∀ wx : World, Ext w wx → OAt wx b off ⟨3, p, d, v, false, false⟩) := fun wx he => hO.ext hb he
  have c0 : w.cell? ⟨b, off, none⟩ = some (.int .i64 3) := hO.1
  have c1 : w.cell? ⟨b, off + 1, none⟩ = some (.string p) := hO.2.1
  have c2 : w.cell? ⟨b, off + 2, none⟩ = some (.int .i64 d) := hO.2.2.1
  have c3 : w.cell? ⟨b, off + 3, none⟩ = some (.int .i64 (v)) := hO.2.2.2.1
  have c4 : w.cell? ⟨b, off + 4, none⟩ = some (.bool false) := hO.2.2.2.2.1
  have c5 : w.cell? ⟨b, off + 5, none⟩ = some (.bool false) := hO.2.2.2.2.2
  clear hO
  have CP : Hid (∀ wx : World, Calls Tryz.prog 130 #[.int .i64 3] wx fun e w' => e = .returned (.bool true) ∧ w' = wx) := l5Path_any 3
  have CD : Hid (∀ wx : World, Calls Tryz.prog 121 #[.int .i64 3] wx fun e w' => e = .returned (.bool true) ∧ w' = wx) := l5Data_any 3
  have CV : Hid (∀ wx : World, Calls Tryz.prog 122 #[.int .i64 3] wx fun e w' => e = .returned (.bool false) ∧ w' = wx) := l5Version_any 3
  have HN : Hid (∀ wx : World, Calls Tryz.prog 131 #[.int .i64 d] wx fun e w' => e = .returned (.string (mkB (Lib.itoa d))) ∧ Ext wx w') := by
    obtain ⟨n, rfl⟩ : ∃ n : Nat, d = (n : Int) := ⟨d.toNat, by omega⟩
    rw [Lib.itoa_nonneg]
    exact l1Digits_any n (by omega)
  have hdl : (mkB (Lib.itoa d)).size ≤ 21 := by rw [mkB_size]; exact Lib.itoa_length_le d (by omega) (by omega)
  have HE : Hid (Opr.text ⟨3, p, d, v, false, false⟩ = (Opr.word 3) ++ ([32] ++ ((p.data.toList) ++ ([32] ++ ((Lib.itoa d)))))) := by
    show _ = _
    unfold Opr.text
    rw [show Opr.words ⟨3, p, d, v, false, false⟩ = [Opr.word 3, p.data.toList, Lib.itoa d] from by rfl]
    simp [Lib.join, List.intercalate]
  rw [HE.out]
  clear HE hd0 hd1
  obtain ⟨dt, hdt⟩ : ∃ dt, dt = mkB (Lib.itoa d) := ⟨_, rfl⟩
  have HDT : Hid (dt.data.toList = Lib.itoa d) := (by rw [hdt, mkB_list] : dt.data.toList = Lib.itoa d)
  rw [← hdt] at HN hdl
  clear hdt
  have E0 : Hid (Ext w w) := Ext.refl _
  have TK : True := trivial
  go_enter Tryz.func67, Tryz.ntmps67
  go_wp2_with (first | (go_at_call 130; refine (CP.out _).mono ?_; rintro e w9 ⟨rfl, hw9⟩; rw [hw9]; clear hw9 w9) | (go_at_call 121; refine (CD.out _).mono ?_; rintro e w9 ⟨rfl, hw9⟩; rw [hw9]; clear hw9 w9) | (go_at_call 122; refine (CV.out _).mono ?_; rintro e w9 ⟨rfl, hw9⟩; rw [hw9]; clear hw9 w9) | (go_at_call 131; clear TK; refine (HN.out _).mono ?_; rintro e w2 ⟨rfl, hb9⟩; have Ew2 : Hid (Ext w w2) := (by first | exact E0.out.trans hb9 | exact (E0.out.alloc _).trans hb9); clear hb9 c0 c1 c2 c3 c4 c5; obtain ⟨c0, c1, c2, c3, c4, c5⟩ := HO.out _ Ew2.out))
  go_ret
  refine ⟨ret_str ?_, ?_⟩
  · simp only [cat_data, mkB_list]
    rw [HDT.out]
    skip
    simp [Opr.word]
  · first | exact Ew2.out | exact Ew2.out.alloc _ | exact (Ew2.out.alloc _).trans (Ext.refl _)

set_option maxHeartbeats 4000000 in
set_option maxRecDepth 100000 in
theorem l5Text_3_ft (b off : Nat) (p : ByteArray) (d v : Int) (w : World) (hb : b < w.heap.size) (hO : OAt w b off ⟨3, p, d, v, false, true⟩) (hp : p.size ≤ 24) (hd0 : 0 ≤ d) (hd1 : d ≤ 9999) :
    Calls Tryz.prog 67 #[.pointer (some ⟨b, off, none⟩)] w fun e w' => e = .returned (.string (mkB (Opr.text ⟨3, p, d, v, false, true⟩))) ∧ Ext w w' := by
  have HO : Hid (∀ wx : World, Ext w wx → OAt wx b off ⟨3, p, d, v, false, true⟩) := fun wx he => hO.ext hb he
  have c0 : w.cell? ⟨b, off, none⟩ = some (.int .i64 3) := hO.1
  have c1 : w.cell? ⟨b, off + 1, none⟩ = some (.string p) := hO.2.1
  have c2 : w.cell? ⟨b, off + 2, none⟩ = some (.int .i64 d) := hO.2.2.1
  have c3 : w.cell? ⟨b, off + 3, none⟩ = some (.int .i64 (v)) := hO.2.2.2.1
  have c4 : w.cell? ⟨b, off + 4, none⟩ = some (.bool false) := hO.2.2.2.2.1
  have c5 : w.cell? ⟨b, off + 5, none⟩ = some (.bool true) := hO.2.2.2.2.2
  clear hO
  have CP : Hid (∀ wx : World, Calls Tryz.prog 130 #[.int .i64 3] wx fun e w' => e = .returned (.bool true) ∧ w' = wx) := l5Path_any 3
  have CD : Hid (∀ wx : World, Calls Tryz.prog 121 #[.int .i64 3] wx fun e w' => e = .returned (.bool true) ∧ w' = wx) := l5Data_any 3
  have CV : Hid (∀ wx : World, Calls Tryz.prog 122 #[.int .i64 3] wx fun e w' => e = .returned (.bool false) ∧ w' = wx) := l5Version_any 3
  have HN : Hid (∀ wx : World, Calls Tryz.prog 131 #[.int .i64 d] wx fun e w' => e = .returned (.string (mkB (Lib.itoa d))) ∧ Ext wx w') := by
    obtain ⟨n, rfl⟩ : ∃ n : Nat, d = (n : Int) := ⟨d.toNat, by omega⟩
    rw [Lib.itoa_nonneg]
    exact l1Digits_any n (by omega)
  have hdl : (mkB (Lib.itoa d)).size ≤ 21 := by rw [mkB_size]; exact Lib.itoa_length_le d (by omega) (by omega)
  have HE : Hid (Opr.text ⟨3, p, d, v, false, true⟩ = (Opr.word 3) ++ ([32] ++ ((p.data.toList) ++ ([32] ++ ((Lib.itoa d) ++ ([32] ++ ((Opr.ownW)))))))) := by
    show _ = _
    unfold Opr.text
    rw [show Opr.words ⟨3, p, d, v, false, true⟩ = [Opr.word 3, p.data.toList, Lib.itoa d, Opr.ownW] from by rfl]
    simp [Lib.join, List.intercalate]
  rw [HE.out]
  clear HE hd0 hd1
  obtain ⟨dt, hdt⟩ : ∃ dt, dt = mkB (Lib.itoa d) := ⟨_, rfl⟩
  have HDT : Hid (dt.data.toList = Lib.itoa d) := (by rw [hdt, mkB_list] : dt.data.toList = Lib.itoa d)
  rw [← hdt] at HN hdl
  clear hdt
  have E0 : Hid (Ext w w) := Ext.refl _
  have TK : True := trivial
  go_enter Tryz.func67, Tryz.ntmps67
  go_wp2_with (first | (go_at_call 130; refine (CP.out _).mono ?_; rintro e w9 ⟨rfl, hw9⟩; rw [hw9]; clear hw9 w9) | (go_at_call 121; refine (CD.out _).mono ?_; rintro e w9 ⟨rfl, hw9⟩; rw [hw9]; clear hw9 w9) | (go_at_call 122; refine (CV.out _).mono ?_; rintro e w9 ⟨rfl, hw9⟩; rw [hw9]; clear hw9 w9) | (go_at_call 131; clear TK; refine (HN.out _).mono ?_; rintro e w2 ⟨rfl, hb9⟩; have Ew2 : Hid (Ext w w2) := (by first | exact E0.out.trans hb9 | exact (E0.out.alloc _).trans hb9); clear hb9 c0 c1 c2 c3 c4 c5; obtain ⟨c0, c1, c2, c3, c4, c5⟩ := HO.out _ Ew2.out))
  go_ret
  refine ⟨ret_str ?_, ?_⟩
  · simp only [cat_data, mkB_list]
    rw [HDT.out]
    skip
    simp [Opr.word, Opr.ownW]
  · first | exact Ew2.out | exact Ew2.out.alloc _ | exact (Ew2.out.alloc _).trans (Ext.refl _)

set_option maxHeartbeats 4000000 in
set_option maxRecDepth 100000 in
theorem l5Text_3_tf (b off : Nat) (p : ByteArray) (d v : Int) (w : World) (hb : b < w.heap.size) (hO : OAt w b off ⟨3, p, d, v, true, false⟩) (hp : p.size ≤ 24) (hd0 : 0 ≤ d) (hd1 : d ≤ 9999) :
    Calls Tryz.prog 67 #[.pointer (some ⟨b, off, none⟩)] w fun e w' => e = .returned (.string (mkB (Opr.text ⟨3, p, d, v, true, false⟩))) ∧ Ext w w' := by
  have HO : Hid (∀ wx : World, Ext w wx → OAt wx b off ⟨3, p, d, v, true, false⟩) := fun wx he => hO.ext hb he
  have c0 : w.cell? ⟨b, off, none⟩ = some (.int .i64 3) := hO.1
  have c1 : w.cell? ⟨b, off + 1, none⟩ = some (.string p) := hO.2.1
  have c2 : w.cell? ⟨b, off + 2, none⟩ = some (.int .i64 d) := hO.2.2.1
  have c3 : w.cell? ⟨b, off + 3, none⟩ = some (.int .i64 (v)) := hO.2.2.2.1
  have c4 : w.cell? ⟨b, off + 4, none⟩ = some (.bool true) := hO.2.2.2.2.1
  have c5 : w.cell? ⟨b, off + 5, none⟩ = some (.bool false) := hO.2.2.2.2.2
  clear hO
  have CP : Hid (∀ wx : World, Calls Tryz.prog 130 #[.int .i64 3] wx fun e w' => e = .returned (.bool true) ∧ w' = wx) := l5Path_any 3
  have CD : Hid (∀ wx : World, Calls Tryz.prog 121 #[.int .i64 3] wx fun e w' => e = .returned (.bool true) ∧ w' = wx) := l5Data_any 3
  have CV : Hid (∀ wx : World, Calls Tryz.prog 122 #[.int .i64 3] wx fun e w' => e = .returned (.bool false) ∧ w' = wx) := l5Version_any 3
  have HN : Hid (∀ wx : World, Calls Tryz.prog 131 #[.int .i64 d] wx fun e w' => e = .returned (.string (mkB (Lib.itoa d))) ∧ Ext wx w') := by
    obtain ⟨n, rfl⟩ : ∃ n : Nat, d = (n : Int) := ⟨d.toNat, by omega⟩
    rw [Lib.itoa_nonneg]
    exact l1Digits_any n (by omega)
  have hdl : (mkB (Lib.itoa d)).size ≤ 21 := by rw [mkB_size]; exact Lib.itoa_length_le d (by omega) (by omega)
  have HE : Hid (Opr.text ⟨3, p, d, v, true, false⟩ = (Opr.word 3) ++ ([32] ++ ((p.data.toList) ++ ([32] ++ ((Lib.itoa d) ++ ([32] ++ ((Opr.seqW)))))))) := by
    show _ = _
    unfold Opr.text
    rw [show Opr.words ⟨3, p, d, v, true, false⟩ = [Opr.word 3, p.data.toList, Lib.itoa d, Opr.seqW] from by rfl]
    simp [Lib.join, List.intercalate]
  rw [HE.out]
  clear HE hd0 hd1
  obtain ⟨dt, hdt⟩ : ∃ dt, dt = mkB (Lib.itoa d) := ⟨_, rfl⟩
  have HDT : Hid (dt.data.toList = Lib.itoa d) := (by rw [hdt, mkB_list] : dt.data.toList = Lib.itoa d)
  rw [← hdt] at HN hdl
  clear hdt
  have E0 : Hid (Ext w w) := Ext.refl _
  have TK : True := trivial
  go_enter Tryz.func67, Tryz.ntmps67
  go_wp2_with (first | (go_at_call 130; refine (CP.out _).mono ?_; rintro e w9 ⟨rfl, hw9⟩; rw [hw9]; clear hw9 w9) | (go_at_call 121; refine (CD.out _).mono ?_; rintro e w9 ⟨rfl, hw9⟩; rw [hw9]; clear hw9 w9) | (go_at_call 122; refine (CV.out _).mono ?_; rintro e w9 ⟨rfl, hw9⟩; rw [hw9]; clear hw9 w9) | (go_at_call 131; clear TK; refine (HN.out _).mono ?_; rintro e w2 ⟨rfl, hb9⟩; have Ew2 : Hid (Ext w w2) := (by first | exact E0.out.trans hb9 | exact (E0.out.alloc _).trans hb9); clear hb9 c0 c1 c2 c3 c4 c5; obtain ⟨c0, c1, c2, c3, c4, c5⟩ := HO.out _ Ew2.out))
  go_ret
  refine ⟨ret_str ?_, ?_⟩
  · simp only [cat_data, mkB_list]
    rw [HDT.out]
    skip
    simp [Opr.word, Opr.seqW]
  · first | exact Ew2.out | exact Ew2.out.alloc _ | exact (Ew2.out.alloc _).trans (Ext.refl _)

set_option maxHeartbeats 4000000 in
set_option maxRecDepth 100000 in
theorem l5Text_3_tt (b off : Nat) (p : ByteArray) (d v : Int) (w : World) (hb : b < w.heap.size) (hO : OAt w b off ⟨3, p, d, v, true, true⟩) (hp : p.size ≤ 24) (hd0 : 0 ≤ d) (hd1 : d ≤ 9999) :
    Calls Tryz.prog 67 #[.pointer (some ⟨b, off, none⟩)] w fun e w' => e = .returned (.string (mkB (Opr.text ⟨3, p, d, v, true, true⟩))) ∧ Ext w w' := by
  have HO : Hid (∀ wx : World, Ext w wx → OAt wx b off ⟨3, p, d, v, true, true⟩) := fun wx he => hO.ext hb he
  have c0 : w.cell? ⟨b, off, none⟩ = some (.int .i64 3) := hO.1
  have c1 : w.cell? ⟨b, off + 1, none⟩ = some (.string p) := hO.2.1
  have c2 : w.cell? ⟨b, off + 2, none⟩ = some (.int .i64 d) := hO.2.2.1
  have c3 : w.cell? ⟨b, off + 3, none⟩ = some (.int .i64 (v)) := hO.2.2.2.1
  have c4 : w.cell? ⟨b, off + 4, none⟩ = some (.bool true) := hO.2.2.2.2.1
  have c5 : w.cell? ⟨b, off + 5, none⟩ = some (.bool true) := hO.2.2.2.2.2
  clear hO
  have CP : Hid (∀ wx : World, Calls Tryz.prog 130 #[.int .i64 3] wx fun e w' => e = .returned (.bool true) ∧ w' = wx) := l5Path_any 3
  have CD : Hid (∀ wx : World, Calls Tryz.prog 121 #[.int .i64 3] wx fun e w' => e = .returned (.bool true) ∧ w' = wx) := l5Data_any 3
  have CV : Hid (∀ wx : World, Calls Tryz.prog 122 #[.int .i64 3] wx fun e w' => e = .returned (.bool false) ∧ w' = wx) := l5Version_any 3
  have HN : Hid (∀ wx : World, Calls Tryz.prog 131 #[.int .i64 d] wx fun e w' => e = .returned (.string (mkB (Lib.itoa d))) ∧ Ext wx w') := by
    obtain ⟨n, rfl⟩ : ∃ n : Nat, d = (n : Int) := ⟨d.toNat, by omega⟩
    rw [Lib.itoa_nonneg]
    exact l1Digits_any n (by omega)
  have hdl : (mkB (Lib.itoa d)).size ≤ 21 := by rw [mkB_size]; exact Lib.itoa_length_le d (by omega) (by omega)
  have HE : Hid (Opr.text ⟨3, p, d, v, true, true⟩ = (Opr.word 3) ++ ([32] ++ ((p.data.toList) ++ ([32] ++ ((Lib.itoa d) ++ ([32] ++ ((Opr.seqW) ++ ([32] ++ ((Opr.ownW)))))))))) := by
    show _ = _
    unfold Opr.text
    rw [show Opr.words ⟨3, p, d, v, true, true⟩ = [Opr.word 3, p.data.toList, Lib.itoa d, Opr.seqW, Opr.ownW] from by rfl]
    simp [Lib.join, List.intercalate]
  rw [HE.out]
  clear HE hd0 hd1
  obtain ⟨dt, hdt⟩ : ∃ dt, dt = mkB (Lib.itoa d) := ⟨_, rfl⟩
  have HDT : Hid (dt.data.toList = Lib.itoa d) := (by rw [hdt, mkB_list] : dt.data.toList = Lib.itoa d)
  rw [← hdt] at HN hdl
  clear hdt
  have E0 : Hid (Ext w w) := Ext.refl _
  have TK : True := trivial
  go_enter Tryz.func67, Tryz.ntmps67
  go_wp2_with (first | (go_at_call 130; refine (CP.out _).mono ?_; rintro e w9 ⟨rfl, hw9⟩; rw [hw9]; clear hw9 w9) | (go_at_call 121; refine (CD.out _).mono ?_; rintro e w9 ⟨rfl, hw9⟩; rw [hw9]; clear hw9 w9) | (go_at_call 122; refine (CV.out _).mono ?_; rintro e w9 ⟨rfl, hw9⟩; rw [hw9]; clear hw9 w9) | (go_at_call 131; clear TK; refine (HN.out _).mono ?_; rintro e w2 ⟨rfl, hb9⟩; have Ew2 : Hid (Ext w w2) := (by first | exact E0.out.trans hb9 | exact (E0.out.alloc _).trans hb9); clear hb9 c0 c1 c2 c3 c4 c5; obtain ⟨c0, c1, c2, c3, c4, c5⟩ := HO.out _ Ew2.out))
  go_ret
  refine ⟨ret_str ?_, ?_⟩
  · simp only [cat_data, mkB_list]
    rw [HDT.out]
    skip
    simp [Opr.word, Opr.seqW, Opr.ownW]
  · first | exact Ew2.out | exact Ew2.out.alloc _ | exact (Ew2.out.alloc _).trans (Ext.refl _)

set_option maxHeartbeats 4000000 in
set_option maxRecDepth 100000 in
theorem l5Text_4_num (b off : Nat) (p : ByteArray) (d v : Int) (w : World) (hb : b < w.heap.size) (hO : OAt w b off ⟨4, p, d, v, false, false⟩) (hp : p.size ≤ 24) (hv0 : 0 ≤ v) (hv1 : v ≤ 999) :
    Calls Tryz.prog 67 #[.pointer (some ⟨b, off, none⟩)] w fun e w' => e = .returned (.string (mkB (Opr.text ⟨4, p, d, v, false, false⟩))) ∧ Ext w w' := by
  have HO : Hid (∀ wx : World, Ext w wx → OAt wx b off ⟨4, p, d, v, false, false⟩) := fun wx he => hO.ext hb he
  have c0 : w.cell? ⟨b, off, none⟩ = some (.int .i64 4) := hO.1
  have c1 : w.cell? ⟨b, off + 1, none⟩ = some (.string p) := hO.2.1
  have c2 : w.cell? ⟨b, off + 2, none⟩ = some (.int .i64 d) := hO.2.2.1
  have c3 : w.cell? ⟨b, off + 3, none⟩ = some (.int .i64 (v)) := hO.2.2.2.1
  have c4 : w.cell? ⟨b, off + 4, none⟩ = some (.bool false) := hO.2.2.2.2.1
  have c5 : w.cell? ⟨b, off + 5, none⟩ = some (.bool false) := hO.2.2.2.2.2
  clear hO
  have CP : Hid (∀ wx : World, Calls Tryz.prog 130 #[.int .i64 4] wx fun e w' => e = .returned (.bool true) ∧ w' = wx) := l5Path_any 4
  have CD : Hid (∀ wx : World, Calls Tryz.prog 121 #[.int .i64 4] wx fun e w' => e = .returned (.bool false) ∧ w' = wx) := l5Data_any 4
  have CV : Hid (∀ wx : World, Calls Tryz.prog 122 #[.int .i64 4] wx fun e w' => e = .returned (.bool true) ∧ w' = wx) := l5Version_any 4
  have HVn : Hid (∀ wx : World, Calls Tryz.prog 131 #[.int .i64 v] wx fun e w' => e = .returned (.string (mkB (Lib.itoa v))) ∧ Ext wx w') := by
    obtain ⟨n, rfl⟩ : ∃ n : Nat, v = (n : Int) := ⟨v.toNat, by omega⟩
    rw [Lib.itoa_nonneg]
    exact l1Digits_any n (by omega)
  have hvl : (mkB (Lib.itoa v)).size ≤ 21 := by rw [mkB_size]; exact Lib.itoa_length_le v (by omega) (by omega)
  have hvn : ¬ v < 0 := by omega
  have HE : Hid (Opr.text ⟨4, p, d, v, false, false⟩ = (Opr.word 4) ++ ([32] ++ ((p.data.toList) ++ ([32] ++ ((Lib.itoa v)))))) := by
    show _ = _
    unfold Opr.text
    rw [show Opr.words ⟨4, p, d, v, false, false⟩ = [Opr.word 4, p.data.toList, Lib.itoa v] from by (unfold Opr.words Opr.verT; rw [if_neg hvn]; rfl)]
    simp [Lib.join, List.intercalate]
  rw [HE.out]
  clear HE hv0 hv1
  obtain ⟨vt, hvt⟩ : ∃ vt, vt = mkB (Lib.itoa v) := ⟨_, rfl⟩
  have HVT : Hid (vt.data.toList = Lib.itoa v) := (by rw [hvt, mkB_list] : vt.data.toList = Lib.itoa v)
  rw [← hvt] at HVn hvl
  clear hvt
  have E0 : Hid (Ext w w) := Ext.refl _
  have TK : True := trivial
  go_enter Tryz.func67, Tryz.ntmps67
  go_wp2_with (first | (go_at_call 130; refine (CP.out _).mono ?_; rintro e w9 ⟨rfl, hw9⟩; rw [hw9]; clear hw9 w9) | (go_at_call 121; refine (CD.out _).mono ?_; rintro e w9 ⟨rfl, hw9⟩; rw [hw9]; clear hw9 w9) | (go_at_call 122; refine (CV.out _).mono ?_; rintro e w9 ⟨rfl, hw9⟩; rw [hw9]; clear hw9 w9) | (go_at_call 131; refine (HVn.out _).mono ?_; rintro e w3 ⟨rfl, hb9⟩; have Ew3 : Hid (Ext w w3) := (by first | exact E0.out.trans hb9 | exact (E0.out.alloc _).trans hb9); clear hb9 c0 c1 c2 c3 c4 c5; obtain ⟨c0, c1, c2, c3, c4, c5⟩ := HO.out _ Ew3.out))
  go_ret
  refine ⟨ret_str ?_, ?_⟩
  · simp only [cat_data, mkB_list]
    skip
    rw [HVT.out]
    simp [Opr.word]
  · first | exact Ew3.out | exact Ew3.out.alloc _ | exact (Ew3.out.alloc _).trans (Ext.refl _)

set_option maxHeartbeats 4000000 in
set_option maxRecDepth 100000 in
theorem l5Text_4_any (b off : Nat) (p : ByteArray) (d v : Int) (w : World) (hb : b < w.heap.size) (hO : OAt w b off ⟨4, p, d, v, false, false⟩) (hp : p.size ≤ 24) (hv : v = -1) :
    Calls Tryz.prog 67 #[.pointer (some ⟨b, off, none⟩)] w fun e w' => e = .returned (.string (mkB (Opr.text ⟨4, p, d, v, false, false⟩))) ∧ Ext w w' := by
  subst hv
  have HO : Hid (∀ wx : World, Ext w wx → OAt wx b off ⟨4, p, d, -1, false, false⟩) := fun wx he => hO.ext hb he
  have c0 : w.cell? ⟨b, off, none⟩ = some (.int .i64 4) := hO.1
  have c1 : w.cell? ⟨b, off + 1, none⟩ = some (.string p) := hO.2.1
  have c2 : w.cell? ⟨b, off + 2, none⟩ = some (.int .i64 d) := hO.2.2.1
  have c3 : w.cell? ⟨b, off + 3, none⟩ = some (.int .i64 (-1)) := hO.2.2.2.1
  have c4 : w.cell? ⟨b, off + 4, none⟩ = some (.bool false) := hO.2.2.2.2.1
  have c5 : w.cell? ⟨b, off + 5, none⟩ = some (.bool false) := hO.2.2.2.2.2
  clear hO
  have CP : Hid (∀ wx : World, Calls Tryz.prog 130 #[.int .i64 4] wx fun e w' => e = .returned (.bool true) ∧ w' = wx) := l5Path_any 4
  have CD : Hid (∀ wx : World, Calls Tryz.prog 121 #[.int .i64 4] wx fun e w' => e = .returned (.bool false) ∧ w' = wx) := l5Data_any 4
  have CV : Hid (∀ wx : World, Calls Tryz.prog 122 #[.int .i64 4] wx fun e w' => e = .returned (.bool true) ∧ w' = wx) := l5Version_any 4
  have HE : Hid (Opr.text ⟨4, p, d, -1, false, false⟩ = (Opr.word 4) ++ ([32] ++ ((p.data.toList) ++ ([32] ++ (([97, 110, 121])))))) := by
    show _ = _
    unfold Opr.text
    rw [show Opr.words ⟨4, p, d, -1, false, false⟩ = [Opr.word 4, p.data.toList, [97, 110, 121]] from by rfl]
    simp [Lib.join, List.intercalate]
  rw [HE.out]
  clear HE
  have E0 : Hid (Ext w w) := Ext.refl _
  have TK : True := trivial
  go_enter Tryz.func67, Tryz.ntmps67
  go_wp2_with (first | (go_at_call 130; refine (CP.out _).mono ?_; rintro e w9 ⟨rfl, hw9⟩; rw [hw9]; clear hw9 w9) | (go_at_call 121; refine (CD.out _).mono ?_; rintro e w9 ⟨rfl, hw9⟩; rw [hw9]; clear hw9 w9) | (go_at_call 122; refine (CV.out _).mono ?_; rintro e w9 ⟨rfl, hw9⟩; rw [hw9]; clear hw9 w9))
  go_ret
  refine ⟨ret_str ?_, ?_⟩
  · simp only [cat_data, mkB_list]
    skip
    skip
    simp [Opr.word]
  · first | exact E0.out | exact E0.out.alloc _ | exact (E0.out.alloc _).trans (Ext.refl _)

set_option maxHeartbeats 4000000 in
set_option maxRecDepth 100000 in
theorem l5Text_5_num (b off : Nat) (p : ByteArray) (d v : Int) (w : World) (hb : b < w.heap.size) (hO : OAt w b off ⟨5, p, d, v, false, false⟩) (hp : p.size ≤ 24) (hd0 : 0 ≤ d) (hd1 : d ≤ 9999) (hv0 : 0 ≤ v) (hv1 : v ≤ 999) :
    Calls Tryz.prog 67 #[.pointer (some ⟨b, off, none⟩)] w fun e w' => e = .returned (.string (mkB (Opr.text ⟨5, p, d, v, false, false⟩))) ∧ Ext w w' := by
  have HO : Hid (∀ wx : World, Ext w wx → OAt wx b off ⟨5, p, d, v, false, false⟩) := fun wx he => hO.ext hb he
  have c0 : w.cell? ⟨b, off, none⟩ = some (.int .i64 5) := hO.1
  have c1 : w.cell? ⟨b, off + 1, none⟩ = some (.string p) := hO.2.1
  have c2 : w.cell? ⟨b, off + 2, none⟩ = some (.int .i64 d) := hO.2.2.1
  have c3 : w.cell? ⟨b, off + 3, none⟩ = some (.int .i64 (v)) := hO.2.2.2.1
  have c4 : w.cell? ⟨b, off + 4, none⟩ = some (.bool false) := hO.2.2.2.2.1
  have c5 : w.cell? ⟨b, off + 5, none⟩ = some (.bool false) := hO.2.2.2.2.2
  clear hO
  have CP : Hid (∀ wx : World, Calls Tryz.prog 130 #[.int .i64 5] wx fun e w' => e = .returned (.bool true) ∧ w' = wx) := l5Path_any 5
  have CD : Hid (∀ wx : World, Calls Tryz.prog 121 #[.int .i64 5] wx fun e w' => e = .returned (.bool true) ∧ w' = wx) := l5Data_any 5
  have CV : Hid (∀ wx : World, Calls Tryz.prog 122 #[.int .i64 5] wx fun e w' => e = .returned (.bool true) ∧ w' = wx) := l5Version_any 5
  have HN : Hid (∀ wx : World, Calls Tryz.prog 131 #[.int .i64 d] wx fun e w' => e = .returned (.string (mkB (Lib.itoa d))) ∧ Ext wx w') := by
    obtain ⟨n, rfl⟩ : ∃ n : Nat, d = (n : Int) := ⟨d.toNat, by omega⟩
    rw [Lib.itoa_nonneg]
    exact l1Digits_any n (by omega)
  have hdl : (mkB (Lib.itoa d)).size ≤ 21 := by rw [mkB_size]; exact Lib.itoa_length_le d (by omega) (by omega)
  have HVn : Hid (∀ wx : World, Calls Tryz.prog 131 #[.int .i64 v] wx fun e w' => e = .returned (.string (mkB (Lib.itoa v))) ∧ Ext wx w') := by
    obtain ⟨n, rfl⟩ : ∃ n : Nat, v = (n : Int) := ⟨v.toNat, by omega⟩
    rw [Lib.itoa_nonneg]
    exact l1Digits_any n (by omega)
  have hvl : (mkB (Lib.itoa v)).size ≤ 21 := by rw [mkB_size]; exact Lib.itoa_length_le v (by omega) (by omega)
  have hvn : ¬ v < 0 := by omega
  have HE : Hid (Opr.text ⟨5, p, d, v, false, false⟩ = (Opr.word 5) ++ ([32] ++ ((p.data.toList) ++ ([32] ++ ((Lib.itoa d) ++ ([32] ++ ((Lib.itoa v)))))))) := by
    show _ = _
    unfold Opr.text
    rw [show Opr.words ⟨5, p, d, v, false, false⟩ = [Opr.word 5, p.data.toList, Lib.itoa d, Lib.itoa v] from by (unfold Opr.words Opr.verT; rw [if_neg hvn]; rfl)]
    simp [Lib.join, List.intercalate]
  rw [HE.out]
  clear HE hd0 hd1 hv0 hv1
  obtain ⟨dt, hdt⟩ : ∃ dt, dt = mkB (Lib.itoa d) := ⟨_, rfl⟩
  have HDT : Hid (dt.data.toList = Lib.itoa d) := (by rw [hdt, mkB_list] : dt.data.toList = Lib.itoa d)
  rw [← hdt] at HN hdl
  clear hdt
  obtain ⟨vt, hvt⟩ : ∃ vt, vt = mkB (Lib.itoa v) := ⟨_, rfl⟩
  have HVT : Hid (vt.data.toList = Lib.itoa v) := (by rw [hvt, mkB_list] : vt.data.toList = Lib.itoa v)
  rw [← hvt] at HVn hvl
  clear hvt
  have E0 : Hid (Ext w w) := Ext.refl _
  have TK : True := trivial
  go_enter Tryz.func67, Tryz.ntmps67
  go_wp2_with (first | (go_at_call 130; refine (CP.out _).mono ?_; rintro e w9 ⟨rfl, hw9⟩; rw [hw9]; clear hw9 w9) | (go_at_call 121; refine (CD.out _).mono ?_; rintro e w9 ⟨rfl, hw9⟩; rw [hw9]; clear hw9 w9) | (go_at_call 122; refine (CV.out _).mono ?_; rintro e w9 ⟨rfl, hw9⟩; rw [hw9]; clear hw9 w9) | (go_at_call 131; clear TK; refine (HN.out _).mono ?_; rintro e w2 ⟨rfl, hb9⟩; have Ew2 : Hid (Ext w w2) := (by first | exact E0.out.trans hb9 | exact (E0.out.alloc _).trans hb9); clear hb9 c0 c1 c2 c3 c4 c5; obtain ⟨c0, c1, c2, c3, c4, c5⟩ := HO.out _ Ew2.out) | (go_at_call 131; refine (HVn.out _).mono ?_; rintro e w3 ⟨rfl, hb9⟩; have Ew3 : Hid (Ext w w3) := (by first | exact Ew2.out.trans hb9 | exact (Ew2.out.alloc _).trans hb9); clear hb9 c0 c1 c2 c3 c4 c5; obtain ⟨c0, c1, c2, c3, c4, c5⟩ := HO.out _ Ew3.out))
  go_ret
  refine ⟨ret_str ?_, ?_⟩
  · simp only [cat_data, mkB_list]
    rw [HDT.out]
    rw [HVT.out]
    simp [Opr.word]
  · first | exact Ew3.out | exact Ew3.out.alloc _ | exact (Ew3.out.alloc _).trans (Ext.refl _)

set_option maxHeartbeats 4000000 in
set_option maxRecDepth 100000 in
theorem l5Text_5_any (b off : Nat) (p : ByteArray) (d v : Int) (w : World) (hb : b < w.heap.size) (hO : OAt w b off ⟨5, p, d, v, false, false⟩) (hp : p.size ≤ 24) (hd0 : 0 ≤ d) (hd1 : d ≤ 9999) (hv : v = -1) :
    Calls Tryz.prog 67 #[.pointer (some ⟨b, off, none⟩)] w fun e w' => e = .returned (.string (mkB (Opr.text ⟨5, p, d, v, false, false⟩))) ∧ Ext w w' := by
  subst hv
  have HO : Hid (∀ wx : World, Ext w wx → OAt wx b off ⟨5, p, d, -1, false, false⟩) := fun wx he => hO.ext hb he
  have c0 : w.cell? ⟨b, off, none⟩ = some (.int .i64 5) := hO.1
  have c1 : w.cell? ⟨b, off + 1, none⟩ = some (.string p) := hO.2.1
  have c2 : w.cell? ⟨b, off + 2, none⟩ = some (.int .i64 d) := hO.2.2.1
  have c3 : w.cell? ⟨b, off + 3, none⟩ = some (.int .i64 (-1)) := hO.2.2.2.1
  have c4 : w.cell? ⟨b, off + 4, none⟩ = some (.bool false) := hO.2.2.2.2.1
  have c5 : w.cell? ⟨b, off + 5, none⟩ = some (.bool false) := hO.2.2.2.2.2
  clear hO
  have CP : Hid (∀ wx : World, Calls Tryz.prog 130 #[.int .i64 5] wx fun e w' => e = .returned (.bool true) ∧ w' = wx) := l5Path_any 5
  have CD : Hid (∀ wx : World, Calls Tryz.prog 121 #[.int .i64 5] wx fun e w' => e = .returned (.bool true) ∧ w' = wx) := l5Data_any 5
  have CV : Hid (∀ wx : World, Calls Tryz.prog 122 #[.int .i64 5] wx fun e w' => e = .returned (.bool true) ∧ w' = wx) := l5Version_any 5
  have HN : Hid (∀ wx : World, Calls Tryz.prog 131 #[.int .i64 d] wx fun e w' => e = .returned (.string (mkB (Lib.itoa d))) ∧ Ext wx w') := by
    obtain ⟨n, rfl⟩ : ∃ n : Nat, d = (n : Int) := ⟨d.toNat, by omega⟩
    rw [Lib.itoa_nonneg]
    exact l1Digits_any n (by omega)
  have hdl : (mkB (Lib.itoa d)).size ≤ 21 := by rw [mkB_size]; exact Lib.itoa_length_le d (by omega) (by omega)
  have HE : Hid (Opr.text ⟨5, p, d, -1, false, false⟩ = (Opr.word 5) ++ ([32] ++ ((p.data.toList) ++ ([32] ++ ((Lib.itoa d) ++ ([32] ++ (([97, 110, 121])))))))) := by
    show _ = _
    unfold Opr.text
    rw [show Opr.words ⟨5, p, d, -1, false, false⟩ = [Opr.word 5, p.data.toList, Lib.itoa d, [97, 110, 121]] from by rfl]
    simp [Lib.join, List.intercalate]
  rw [HE.out]
  clear HE hd0 hd1
  obtain ⟨dt, hdt⟩ : ∃ dt, dt = mkB (Lib.itoa d) := ⟨_, rfl⟩
  have HDT : Hid (dt.data.toList = Lib.itoa d) := (by rw [hdt, mkB_list] : dt.data.toList = Lib.itoa d)
  rw [← hdt] at HN hdl
  clear hdt
  have E0 : Hid (Ext w w) := Ext.refl _
  have TK : True := trivial
  go_enter Tryz.func67, Tryz.ntmps67
  go_wp2_with (first | (go_at_call 130; refine (CP.out _).mono ?_; rintro e w9 ⟨rfl, hw9⟩; rw [hw9]; clear hw9 w9) | (go_at_call 121; refine (CD.out _).mono ?_; rintro e w9 ⟨rfl, hw9⟩; rw [hw9]; clear hw9 w9) | (go_at_call 122; refine (CV.out _).mono ?_; rintro e w9 ⟨rfl, hw9⟩; rw [hw9]; clear hw9 w9) | (go_at_call 131; clear TK; refine (HN.out _).mono ?_; rintro e w2 ⟨rfl, hb9⟩; have Ew2 : Hid (Ext w w2) := (by first | exact E0.out.trans hb9 | exact (E0.out.alloc _).trans hb9); clear hb9 c0 c1 c2 c3 c4 c5; obtain ⟨c0, c1, c2, c3, c4, c5⟩ := HO.out _ Ew2.out))
  go_ret
  refine ⟨ret_str ?_, ?_⟩
  · simp only [cat_data, mkB_list]
    rw [HDT.out]
    skip
    simp [Opr.word]
  · first | exact Ew2.out | exact Ew2.out.alloc _ | exact (Ew2.out.alloc _).trans (Ext.refl _)

set_option maxHeartbeats 4000000 in
set_option maxRecDepth 100000 in
theorem l5Text_8_num (b off : Nat) (p : ByteArray) (d v : Int) (w : World) (hb : b < w.heap.size) (hO : OAt w b off ⟨8, p, d, v, false, false⟩) (hp : p.size ≤ 24) (hv0 : 0 ≤ v) (hv1 : v ≤ 999) :
    Calls Tryz.prog 67 #[.pointer (some ⟨b, off, none⟩)] w fun e w' => e = .returned (.string (mkB (Opr.text ⟨8, p, d, v, false, false⟩))) ∧ Ext w w' := by
  have HO : Hid (∀ wx : World, Ext w wx → OAt wx b off ⟨8, p, d, v, false, false⟩) := fun wx he => hO.ext hb he
  have c0 : w.cell? ⟨b, off, none⟩ = some (.int .i64 8) := hO.1
  have c1 : w.cell? ⟨b, off + 1, none⟩ = some (.string p) := hO.2.1
  have c2 : w.cell? ⟨b, off + 2, none⟩ = some (.int .i64 d) := hO.2.2.1
  have c3 : w.cell? ⟨b, off + 3, none⟩ = some (.int .i64 (v)) := hO.2.2.2.1
  have c4 : w.cell? ⟨b, off + 4, none⟩ = some (.bool false) := hO.2.2.2.2.1
  have c5 : w.cell? ⟨b, off + 5, none⟩ = some (.bool false) := hO.2.2.2.2.2
  clear hO
  have CP : Hid (∀ wx : World, Calls Tryz.prog 130 #[.int .i64 8] wx fun e w' => e = .returned (.bool true) ∧ w' = wx) := l5Path_any 8
  have CD : Hid (∀ wx : World, Calls Tryz.prog 121 #[.int .i64 8] wx fun e w' => e = .returned (.bool false) ∧ w' = wx) := l5Data_any 8
  have CV : Hid (∀ wx : World, Calls Tryz.prog 122 #[.int .i64 8] wx fun e w' => e = .returned (.bool true) ∧ w' = wx) := l5Version_any 8
  have HVn : Hid (∀ wx : World, Calls Tryz.prog 131 #[.int .i64 v] wx fun e w' => e = .returned (.string (mkB (Lib.itoa v))) ∧ Ext wx w') := by
    obtain ⟨n, rfl⟩ : ∃ n : Nat, v = (n : Int) := ⟨v.toNat, by omega⟩
    rw [Lib.itoa_nonneg]
    exact l1Digits_any n (by omega)
  have hvl : (mkB (Lib.itoa v)).size ≤ 21 := by rw [mkB_size]; exact Lib.itoa_length_le v (by omega) (by omega)
  have hvn : ¬ v < 0 := by omega
  have HE : Hid (Opr.text ⟨8, p, d, v, false, false⟩ = (Opr.word 8) ++ ([32] ++ ((p.data.toList) ++ ([32] ++ ((Lib.itoa v)))))) := by
    show _ = _
    unfold Opr.text
    rw [show Opr.words ⟨8, p, d, v, false, false⟩ = [Opr.word 8, p.data.toList, Lib.itoa v] from by (unfold Opr.words Opr.verT; rw [if_neg hvn]; rfl)]
    simp [Lib.join, List.intercalate]
  rw [HE.out]
  clear HE hv0 hv1
  obtain ⟨vt, hvt⟩ : ∃ vt, vt = mkB (Lib.itoa v) := ⟨_, rfl⟩
  have HVT : Hid (vt.data.toList = Lib.itoa v) := (by rw [hvt, mkB_list] : vt.data.toList = Lib.itoa v)
  rw [← hvt] at HVn hvl
  clear hvt
  have E0 : Hid (Ext w w) := Ext.refl _
  have TK : True := trivial
  go_enter Tryz.func67, Tryz.ntmps67
  go_wp2_with (first | (go_at_call 130; refine (CP.out _).mono ?_; rintro e w9 ⟨rfl, hw9⟩; rw [hw9]; clear hw9 w9) | (go_at_call 121; refine (CD.out _).mono ?_; rintro e w9 ⟨rfl, hw9⟩; rw [hw9]; clear hw9 w9) | (go_at_call 122; refine (CV.out _).mono ?_; rintro e w9 ⟨rfl, hw9⟩; rw [hw9]; clear hw9 w9) | (go_at_call 131; refine (HVn.out _).mono ?_; rintro e w3 ⟨rfl, hb9⟩; have Ew3 : Hid (Ext w w3) := (by first | exact E0.out.trans hb9 | exact (E0.out.alloc _).trans hb9); clear hb9 c0 c1 c2 c3 c4 c5; obtain ⟨c0, c1, c2, c3, c4, c5⟩ := HO.out _ Ew3.out))
  go_ret
  refine ⟨ret_str ?_, ?_⟩
  · simp only [cat_data, mkB_list]
    skip
    rw [HVT.out]
    simp [Opr.word]
  · first | exact Ew3.out | exact Ew3.out.alloc _ | exact (Ew3.out.alloc _).trans (Ext.refl _)

set_option maxHeartbeats 4000000 in
set_option maxRecDepth 100000 in
theorem l5Text_8_any (b off : Nat) (p : ByteArray) (d v : Int) (w : World) (hb : b < w.heap.size) (hO : OAt w b off ⟨8, p, d, v, false, false⟩) (hp : p.size ≤ 24) (hv : v = -1) :
    Calls Tryz.prog 67 #[.pointer (some ⟨b, off, none⟩)] w fun e w' => e = .returned (.string (mkB (Opr.text ⟨8, p, d, v, false, false⟩))) ∧ Ext w w' := by
  subst hv
  have HO : Hid (∀ wx : World, Ext w wx → OAt wx b off ⟨8, p, d, -1, false, false⟩) := fun wx he => hO.ext hb he
  have c0 : w.cell? ⟨b, off, none⟩ = some (.int .i64 8) := hO.1
  have c1 : w.cell? ⟨b, off + 1, none⟩ = some (.string p) := hO.2.1
  have c2 : w.cell? ⟨b, off + 2, none⟩ = some (.int .i64 d) := hO.2.2.1
  have c3 : w.cell? ⟨b, off + 3, none⟩ = some (.int .i64 (-1)) := hO.2.2.2.1
  have c4 : w.cell? ⟨b, off + 4, none⟩ = some (.bool false) := hO.2.2.2.2.1
  have c5 : w.cell? ⟨b, off + 5, none⟩ = some (.bool false) := hO.2.2.2.2.2
  clear hO
  have CP : Hid (∀ wx : World, Calls Tryz.prog 130 #[.int .i64 8] wx fun e w' => e = .returned (.bool true) ∧ w' = wx) := l5Path_any 8
  have CD : Hid (∀ wx : World, Calls Tryz.prog 121 #[.int .i64 8] wx fun e w' => e = .returned (.bool false) ∧ w' = wx) := l5Data_any 8
  have CV : Hid (∀ wx : World, Calls Tryz.prog 122 #[.int .i64 8] wx fun e w' => e = .returned (.bool true) ∧ w' = wx) := l5Version_any 8
  have HE : Hid (Opr.text ⟨8, p, d, -1, false, false⟩ = (Opr.word 8) ++ ([32] ++ ((p.data.toList) ++ ([32] ++ (([97, 110, 121])))))) := by
    show _ = _
    unfold Opr.text
    rw [show Opr.words ⟨8, p, d, -1, false, false⟩ = [Opr.word 8, p.data.toList, [97, 110, 121]] from by rfl]
    simp [Lib.join, List.intercalate]
  rw [HE.out]
  clear HE
  have E0 : Hid (Ext w w) := Ext.refl _
  have TK : True := trivial
  go_enter Tryz.func67, Tryz.ntmps67
  go_wp2_with (first | (go_at_call 130; refine (CP.out _).mono ?_; rintro e w9 ⟨rfl, hw9⟩; rw [hw9]; clear hw9 w9) | (go_at_call 121; refine (CD.out _).mono ?_; rintro e w9 ⟨rfl, hw9⟩; rw [hw9]; clear hw9 w9) | (go_at_call 122; refine (CV.out _).mono ?_; rintro e w9 ⟨rfl, hw9⟩; rw [hw9]; clear hw9 w9))
  go_ret
  refine ⟨ret_str ?_, ?_⟩
  · simp only [cat_data, mkB_list]
    skip
    skip
    simp [Opr.word]
  · first | exact E0.out | exact E0.out.alloc _ | exact (E0.out.alloc _).trans (Ext.refl _)

set_option maxHeartbeats 4000000 in
set_option maxRecDepth 100000 in
theorem l5Text_6 (b off : Nat) (p : ByteArray) (d v : Int) (w : World) (hb : b < w.heap.size) (hO : OAt w b off ⟨6, p, d, v, false, false⟩) (hp : p.size ≤ 24) :
    Calls Tryz.prog 67 #[.pointer (some ⟨b, off, none⟩)] w fun e w' => e = .returned (.string (mkB (Opr.text ⟨6, p, d, v, false, false⟩))) ∧ Ext w w' := by
  have HO : Hid (∀ wx : World, Ext w wx → OAt wx b off ⟨6, p, d, v, false, false⟩) := fun wx he => hO.ext hb he
  have c0 : w.cell? ⟨b, off, none⟩ = some (.int .i64 6) := hO.1
  have c1 : w.cell? ⟨b, off + 1, none⟩ = some (.string p) := hO.2.1
  have c2 : w.cell? ⟨b, off + 2, none⟩ = some (.int .i64 d) := hO.2.2.1
  have c3 : w.cell? ⟨b, off + 3, none⟩ = some (.int .i64 (v)) := hO.2.2.2.1
  have c4 : w.cell? ⟨b, off + 4, none⟩ = some (.bool false) := hO.2.2.2.2.1
  have c5 : w.cell? ⟨b, off + 5, none⟩ = some (.bool false) := hO.2.2.2.2.2
  clear hO
  have CP : Hid (∀ wx : World, Calls Tryz.prog 130 #[.int .i64 6] wx fun e w' => e = .returned (.bool true) ∧ w' = wx) := l5Path_any 6
  have CD : Hid (∀ wx : World, Calls Tryz.prog 121 #[.int .i64 6] wx fun e w' => e = .returned (.bool false) ∧ w' = wx) := l5Data_any 6
  have CV : Hid (∀ wx : World, Calls Tryz.prog 122 #[.int .i64 6] wx fun e w' => e = .returned (.bool false) ∧ w' = wx) := l5Version_any 6
  have HE : Hid (Opr.text ⟨6, p, d, v, false, false⟩ = (Opr.word 6) ++ ([32] ++ ((p.data.toList)))) := by
    show _ = _
    unfold Opr.text
    rw [show Opr.words ⟨6, p, d, v, false, false⟩ = [Opr.word 6, p.data.toList] from by rfl]
    simp [Lib.join, List.intercalate]
  rw [HE.out]
  clear HE
  have E0 : Hid (Ext w w) := Ext.refl _
  have TK : True := trivial
  go_enter Tryz.func67, Tryz.ntmps67
  go_wp2_with (first | (go_at_call 130; refine (CP.out _).mono ?_; rintro e w9 ⟨rfl, hw9⟩; rw [hw9]; clear hw9 w9) | (go_at_call 121; refine (CD.out _).mono ?_; rintro e w9 ⟨rfl, hw9⟩; rw [hw9]; clear hw9 w9) | (go_at_call 122; refine (CV.out _).mono ?_; rintro e w9 ⟨rfl, hw9⟩; rw [hw9]; clear hw9 w9))
  go_ret
  refine ⟨ret_str ?_, ?_⟩
  · simp only [cat_data, mkB_list]
    skip
    skip
    simp [Opr.word]
  · first | exact E0.out | exact E0.out.alloc _ | exact (E0.out.alloc _).trans (Ext.refl _)

set_option maxHeartbeats 4000000 in
set_option maxRecDepth 100000 in
theorem l5Text_7 (b off : Nat) (p : ByteArray) (d v : Int) (w : World) (hb : b < w.heap.size) (hO : OAt w b off ⟨7, p, d, v, false, false⟩) (hp : p.size ≤ 24) :
    Calls Tryz.prog 67 #[.pointer (some ⟨b, off, none⟩)] w fun e w' => e = .returned (.string (mkB (Opr.text ⟨7, p, d, v, false, false⟩))) ∧ Ext w w' := by
  have HO : Hid (∀ wx : World, Ext w wx → OAt wx b off ⟨7, p, d, v, false, false⟩) := fun wx he => hO.ext hb he
  have c0 : w.cell? ⟨b, off, none⟩ = some (.int .i64 7) := hO.1
  have c1 : w.cell? ⟨b, off + 1, none⟩ = some (.string p) := hO.2.1
  have c2 : w.cell? ⟨b, off + 2, none⟩ = some (.int .i64 d) := hO.2.2.1
  have c3 : w.cell? ⟨b, off + 3, none⟩ = some (.int .i64 (v)) := hO.2.2.2.1
  have c4 : w.cell? ⟨b, off + 4, none⟩ = some (.bool false) := hO.2.2.2.2.1
  have c5 : w.cell? ⟨b, off + 5, none⟩ = some (.bool false) := hO.2.2.2.2.2
  clear hO
  have CP : Hid (∀ wx : World, Calls Tryz.prog 130 #[.int .i64 7] wx fun e w' => e = .returned (.bool true) ∧ w' = wx) := l5Path_any 7
  have CD : Hid (∀ wx : World, Calls Tryz.prog 121 #[.int .i64 7] wx fun e w' => e = .returned (.bool false) ∧ w' = wx) := l5Data_any 7
  have CV : Hid (∀ wx : World, Calls Tryz.prog 122 #[.int .i64 7] wx fun e w' => e = .returned (.bool false) ∧ w' = wx) := l5Version_any 7
  have HE : Hid (Opr.text ⟨7, p, d, v, false, false⟩ = (Opr.word 7) ++ ([32] ++ ((p.data.toList)))) := by
    show _ = _
    unfold Opr.text
    rw [show Opr.words ⟨7, p, d, v, false, false⟩ = [Opr.word 7, p.data.toList] from by rfl]
    simp [Lib.join, List.intercalate]
  rw [HE.out]
  clear HE
  have E0 : Hid (Ext w w) := Ext.refl _
  have TK : True := trivial
  go_enter Tryz.func67, Tryz.ntmps67
  go_wp2_with (first | (go_at_call 130; refine (CP.out _).mono ?_; rintro e w9 ⟨rfl, hw9⟩; rw [hw9]; clear hw9 w9) | (go_at_call 121; refine (CD.out _).mono ?_; rintro e w9 ⟨rfl, hw9⟩; rw [hw9]; clear hw9 w9) | (go_at_call 122; refine (CV.out _).mono ?_; rintro e w9 ⟨rfl, hw9⟩; rw [hw9]; clear hw9 w9))
  go_ret
  refine ⟨ret_str ?_, ?_⟩
  · simp only [cat_data, mkB_list]
    skip
    skip
    simp [Opr.word]
  · first | exact E0.out | exact E0.out.alloc _ | exact (E0.out.alloc _).trans (Ext.refl _)
end Go.Proofs.YtdjnkchaapcjpaaGreatDoor
