/- ChangeOf: of the specification and of the program. -/
import Derived.Test.YtgofggmgnodplaaDoorK5
namespace Go.Proofs.YtgofggmgnodplaaDoor
open Go.RowKit
namespace Wch
/-- What is wrong with one of two trees. -/
def twoC (zs ys : List Zn) : Int := if Tre.fault zs ≠ 0 then Tre.fault zs else Tre.fault ys
theorem twoC_1 {zs ys : List Zn} {c : Int} (h : Tre.fault zs = c) (h0 : c ≠ 0) : twoC zs ys = c := by unfold twoC; rw [h, if_pos h0]
theorem twoC_2 {zs ys : List Zn} (h : Tre.fault zs = 0) : twoC zs ys = Tre.fault ys := by unfold twoC; rw [h, if_neg (by decide)]
theorem twoC_0 {zs ys : List Zn} (h : twoC zs ys = 0) : Tre.fault zs = 0 ∧ Tre.fault ys = 0 := by
  by_cases h0 : Tre.fault zs = 0
  · exact ⟨h0, by rw [← twoC_2 h0]; exact h⟩
  · rw [twoC_1 rfl h0] at h; exact absurd h h0
theorem changeV_two {zs ys : List Zn} {p : ByteArray} {c : Int} (h : twoC zs ys = c) (h0 : c ≠ 0) : changeV zs ys p = (c, 0) := by
  by_cases h1 : Tre.fault zs = 0
  · refine changeV_2 h1 ?_ h0
    rw [twoC_2 h1] at h
    unfold Tre.asked; rw [h, if_pos h0]
  · rw [twoC_1 rfl h1] at h; exact changeV_1 h h0
theorem changeV_path {zs ys : List Zn} {p : ByteArray} {c : Int} (h : twoC zs ys = 0) (h1 : Pth.faultI p.data.toList = c) (h0 : c ≠ 0) : changeV zs ys p = (c, 0) := by
  obtain ⟨h2, h3⟩ := twoC_0 h
  refine changeV_2 h2 ?_ h0
  unfold Tre.asked; rw [h3, if_neg (by decide)]; exact h1
theorem changeV_ok {zs ys : List Zn} {p : ByteArray} (h : twoC zs ys = 0) (h1 : Pth.faultI p.data.toList = 0) : changeV zs ys p = (0, change zs ys p) := by
  obtain ⟨h2, h3⟩ := twoC_0 h
  refine changeV_3 h2 ?_
  unfold Tre.asked; rw [h3, if_neg (by decide)]; exact h1
end Wch
set_option maxHeartbeats 1000000 in
theorem treesFault_any (v v' : Value) (zs ys : List Zn) (w : World) (hg : Gd w) (hS : NSlice w v zs) (hS' : NSlice w v' ys) :
    Calls Tryd.prog 34 #[v, v'] w fun e w' => e = .returned (.int .i64 (Wch.twoC zs ys)) ∧ Ext w w' := by
  have HL : Hid (Calls Tryd.prog 53 #[v] w fun e w' => e = .returned (.int .i64 (Tre.fault zs)) ∧ Ext w w') := implTreeFault_any v zs w hg hS
  have HP : Hid (∀ wx : World, Ext w wx → Calls Tryd.prog 53 #[v'] wx fun e w' => e = .returned (.int .i64 (Tre.fault ys)) ∧ Ext wx w') := fun wx h => implTreeFault_any v' ys wx (hg.ext h) (hS'.ext h)
  obtain ⟨a, cap, rfl, -⟩ := hS
  obtain ⟨a', cap', rfl, -⟩ := hS'
  by_cases h0 : Tre.fault zs ≠ 0
  · rw [Wch.twoC_1 rfl h0]
    generalize Tre.fault zs = F at *
    go_enter Tryd.func34, Tryd.ntmps34
    go_wp2_with fail
    refine HL.out.mono ?_
    rintro e w2 ⟨rfl, hb⟩
    have HB : Hid (Ext w w2) := hb
    clear hb
    go_wp2
    go_ret
    exact ⟨rfl, HB.out⟩
  · rw [Wch.twoC_2 (by omega)]
    rw [show Tre.fault zs = 0 from by omega] at HL
    generalize Tre.fault ys = F at *
    go_enter Tryd.func34, Tryd.ntmps34
    go_wp2_with fail
    refine HL.out.mono ?_
    rintro e w2 ⟨rfl, hb⟩
    have HB : Hid (Ext w w2) := hb
    clear hb
    go_wp2_with fail
    refine (HP.out _ HB.out).mono ?_
    rintro e w3 ⟨rfl, hb⟩
    have HB3 : Hid (Ext w w3) := HB.out.trans hb
    clear hb
    go_wp2
    go_ret
    exact ⟨rfl, HB3.out⟩

set_option maxHeartbeats 2000000 in
theorem specChangeOf_any (v v' : Value) (zs ys : List Zn) (p : ByteArray) (w : World) (hS : NSlice w v zs) (hS' : NSlice w v' ys) :
    Calls Tryd.prog 12 #[v, v', .string p] w fun e w' => e = .returned (ir (Wch.changeV zs ys p)) ∧ Ext w w' := by
  have HF : Hid (∀ wx : World, Ext w wx → Calls Tryd.prog 30 #[v] wx fun e w' => e = .returned (.int .i64 (Tre.fault zs)) ∧ Ext wx w') := fun wx h => l2Fault_any v zs wx (hS.ext h)
  have HA : Hid (∀ wx : World, Ext w wx → Calls Tryd.prog 31 #[v', .string p] wx fun e w' => e = .returned (.int .i64 (Tre.asked ys p)) ∧ Ext wx w') := fun wx h => l2Asked_any v' ys p wx (hS'.ext h)
  have HC : Hid (∀ wx : World, Ext w wx → Calls Tryd.prog 32 #[v, v', .string p] wx fun e w' => e = .returned (.int .i64 (Wch.change zs ys p)) ∧ Ext wx w') := fun wx h => l7Change_any v v' zs ys p wx (hS.ext h) (hS'.ext h)
  obtain ⟨a, cap, rfl, -⟩ := hS
  obtain ⟨a', cap', rfl, -⟩ := hS'
  by_cases hc0 : Tre.fault zs ≠ 0
  · rw [Wch.changeV_1 rfl hc0]
    generalize Tre.fault zs = c at *
    go_enter Tryd.func12, Tryd.ntmps12
    go_wp2_with fail
    refine (HF.out _ ((Ext.refl _).alloc _)).mono ?_
    rintro e w2 ⟨rfl, hb⟩
    have HB : Hid (Ext w w2) := ((Ext.refl _).alloc _).trans hb
    obtain ⟨q, q0, q1, f0, f1⟩ := (IBox.new w _).ext hb
    clear hb
    go_wp2
    exact bodyPost_ret (v := ir (c, 0)) (by simp [results, Tryd.results12, go_sem, ir, q0, q1]) rfl ⟨rfl, HB.out.two _ _⟩
  · have hc1 : Tre.fault zs = 0 := by omega
    rw [hc1] at HF
    by_cases hd0 : Tre.asked ys p ≠ 0
    · rw [Wch.changeV_2 hc1 rfl hd0]
      generalize Tre.asked ys p = c at *
      clear hc0 hc1
      go_enter Tryd.func12, Tryd.ntmps12
      go_wp2_with fail
      refine (HF.out _ ((Ext.refl _).alloc _)).mono ?_
      rintro e w2 ⟨rfl, hb⟩
      have HB : Hid (Ext w w2) := ((Ext.refl _).alloc _).trans hb
      have HQ2 : Hid (IBox w2 w.heap.size) := (IBox.new w _).ext hb
      clear hb
      go_wp2_with fail
      refine (HA.out _ HB.out).mono ?_
      rintro e w3 ⟨rfl, hb⟩
      have HB3 : Hid (Ext w w3) := HB.out.trans hb
      obtain ⟨q, q0, q1, f0, f1⟩ := HQ2.out.ext hb
      clear hb
      go_wp2
      exact bodyPost_ret (v := ir (c, 0)) (by simp [results, Tryd.results12, go_sem, ir, q0, q1]) rfl ⟨rfl, HB3.out.two _ _⟩
    · have hd1 : Tre.asked ys p = 0 := by omega
      rw [hd1] at HA
      rw [Wch.changeV_3 hc1 hd1]
      generalize Wch.change zs ys p = r at *
      clear hc0 hc1 hd0 hd1
      go_enter Tryd.func12, Tryd.ntmps12
      go_wp2_with fail
      refine (HF.out _ ((Ext.refl _).alloc _)).mono ?_
      rintro e w2 ⟨rfl, hb⟩
      have HB : Hid (Ext w w2) := ((Ext.refl _).alloc _).trans hb
      have HQ2 : Hid (IBox w2 w.heap.size) := (IBox.new w _).ext hb
      clear hb
      go_wp2_with fail
      refine (HA.out _ HB.out).mono ?_
      rintro e w3 ⟨rfl, hb⟩
      have HB3 : Hid (Ext w w3) := HB.out.trans hb
      have HQ3 : Hid (IBox w3 w.heap.size) := HQ2.out.ext hb
      clear hb
      go_wp2_with fail
      refine (HC.out _ HB3.out).mono ?_
      rintro e w4 ⟨rfl, hb⟩
      have HB4 : Hid (Ext w w4) := HB3.out.trans hb
      obtain ⟨q, q0, q1, f0, f1⟩ := HQ3.out.ext hb
      clear hb
      go_wp2
      exact bodyPost_ret (v := ir (0, r)) (by simp [results, Tryd.results12, go_sem, ir, q0, q1]) rfl ⟨rfl, HB4.out.two _ _⟩

set_option maxHeartbeats 2000000 in
theorem implChangeOf_any (v v' : Value) (zs ys : List Zn) (p : ByteArray) (w : World) (hg : Gd w) (hS : NSlice w v zs) (hS' : NSlice w v' ys) :
    Calls Tryd.prog 14 #[v, v', .string p] w fun e w' => e = .returned (ir (Wch.changeV zs ys p)) ∧ Ext w w' := by
  have HF : Hid (∀ wx : World, Ext w wx → Calls Tryd.prog 34 #[v, v'] wx fun e w' => e = .returned (.int .i64 (Wch.twoC zs ys)) ∧ Ext wx w') := fun wx h => treesFault_any v v' zs ys wx (hg.ext h) (hS.ext h) (hS'.ext h)
  have HA : Hid (∀ wx : World, Ext w wx → Calls Tryd.prog 35 #[.string p] wx fun e w' => e = .returned (.int .i64 (Pth.faultI p.data.toList)) ∧ Ext wx w') := fun wx h => pathFault_any p wx (hg.ext h)
  have HC : Hid (Wch.twoC zs ys = 0 → ∀ wx : World, Ext w wx → Calls Tryd.prog 36 #[v, v', .string p] wx fun e w' => e = .returned (.int .i64 (Wch.change zs ys p)) ∧ Ext wx w') := fun h0 wx h => changeAt_any v v' zs ys p wx (hS.ext h) (hS'.ext h) (Wch.twoC_0 h0).1 (Wch.twoC_0 h0).2
  obtain ⟨a, cap, rfl, -⟩ := hS
  obtain ⟨a', cap', rfl, -⟩ := hS'
  clear hg
  by_cases hc0 : Wch.twoC zs ys ≠ 0
  · rw [Wch.changeV_two rfl hc0]
    clear HC
    generalize Wch.twoC zs ys = c at *
    go_enter Tryd.func14, Tryd.ntmps14
    go_wp2_with fail
    refine (HF.out _ ((Ext.refl _).alloc _)).mono ?_
    rintro e w2 ⟨rfl, hb⟩
    have HB : Hid (Ext w w2) := ((Ext.refl _).alloc _).trans hb
    obtain ⟨q, q0, q1, f0, f1⟩ := (IBox.new w _).ext hb
    clear hb
    go_wp2
    exact bodyPost_ret (v := ir (c, 0)) (by simp [results, Tryd.results14, go_sem, ir, q0, q1]) rfl ⟨rfl, HB.out.two _ _⟩
  · have hc1 : Wch.twoC zs ys = 0 := by omega
    have HC1 : Hid (∀ wx : World, Ext w wx → Calls Tryd.prog 36 #[.slice a zs.length cap, .slice a' ys.length cap', .string p] wx fun e w' => e = .returned (.int .i64 (Wch.change zs ys p)) ∧ Ext wx w') := HC.out hc1
    clear HC
    rw [hc1] at HF
    by_cases hd0 : Pth.faultI p.data.toList ≠ 0
    · rw [Wch.changeV_path hc1 rfl hd0]
      generalize Pth.faultI p.data.toList = c at *
      clear hc0 hc1
      go_enter Tryd.func14, Tryd.ntmps14
      go_wp2_with fail
      refine (HF.out _ ((Ext.refl _).alloc _)).mono ?_
      rintro e w2 ⟨rfl, hb⟩
      have HB : Hid (Ext w w2) := ((Ext.refl _).alloc _).trans hb
      have HQ2 : Hid (IBox w2 w.heap.size) := (IBox.new w _).ext hb
      clear hb
      go_wp2_with fail
      refine (HA.out _ HB.out).mono ?_
      rintro e w3 ⟨rfl, hb⟩
      have HB3 : Hid (Ext w w3) := HB.out.trans hb
      obtain ⟨q, q0, q1, f0, f1⟩ := HQ2.out.ext hb
      clear hb
      go_wp2
      exact bodyPost_ret (v := ir (c, 0)) (by simp [results, Tryd.results14, go_sem, ir, q0, q1]) rfl ⟨rfl, HB3.out.two _ _⟩
    · have hd1 : Pth.faultI p.data.toList = 0 := by omega
      rw [hd1] at HA
      rw [Wch.changeV_ok hc1 hd1]
      generalize Wch.change zs ys p = r at *
      clear hc0 hc1 hd0 hd1
      go_enter Tryd.func14, Tryd.ntmps14
      go_wp2_with fail
      refine (HF.out _ ((Ext.refl _).alloc _)).mono ?_
      rintro e w2 ⟨rfl, hb⟩
      have HB : Hid (Ext w w2) := ((Ext.refl _).alloc _).trans hb
      have HQ2 : Hid (IBox w2 w.heap.size) := (IBox.new w _).ext hb
      clear hb
      go_wp2_with fail
      refine (HA.out _ HB.out).mono ?_
      rintro e w3 ⟨rfl, hb⟩
      have HB3 : Hid (Ext w w3) := HB.out.trans hb
      have HQ3 : Hid (IBox w3 w.heap.size) := HQ2.out.ext hb
      clear hb
      go_wp2_with fail
      refine (HC1.out _ HB3.out).mono ?_
      rintro e w4 ⟨rfl, hb⟩
      have HB4 : Hid (Ext w w4) := HB3.out.trans hb
      obtain ⟨q, q0, q1, f0, f1⟩ := HQ3.out.ext hb
      clear hb
      go_wp2
      exact bodyPost_ret (v := ir (0, r)) (by simp [results, Tryd.results14, go_sem, ir, q0, q1]) rfl ⟨rfl, HB4.out.two _ _⟩
end Go.Proofs.YtgofggmgnodplaaDoor
