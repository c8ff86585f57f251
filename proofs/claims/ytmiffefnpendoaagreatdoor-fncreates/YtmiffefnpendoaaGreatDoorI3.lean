/- The program's hasBounds, nodeFault. -/
import Derived.Test.YtmiffefnpendoaaGreatDoorI2
namespace Go.Proofs.YtmiffefnpendoaaGreatDoor
open Go.RowKit

set_option maxHeartbeats 1000000 in
set_option maxRecDepth 100000 in
theorem hasBounds_any (b o : Nat) (z : Zn) (w : World) (d1 : w.cell? ⟨b, o + 1, none⟩ = some (.int .i64 z.data)) (d2 : w.cell? ⟨b, o + 2, none⟩ = some (.int .i64 z.version)) (d3 : w.cell? ⟨b, o + 3, none⟩ = some (.int .i64 z.owner)) (d4 : w.cell? ⟨b, o + 4, none⟩ = some (.int .i64 z.next)) :
    Calls Tryz.prog 71 #[.pointer (some ⟨b, o, none⟩)] w fun e w' => e = .returned (.bool (Tre.okNums z)) ∧ Ext w w' := by
  have C1 : Hid (∀ wx, Calls Tryz.prog 43 #[.int .i64 z.data, .int .i64 9999] wx fun e w' => e = .returned (.bool (decide (0 ≤ z.data) && decide (z.data ≤ 9999))) ∧ w' = wx) := isUpTo_any z.data 9999
  have C2 : Hid (∀ wx, Calls Tryz.prog 43 #[.int .i64 z.version, .int .i64 999] wx fun e w' => e = .returned (.bool (decide (0 ≤ z.version) && decide (z.version ≤ 999))) ∧ w' = wx) := isUpTo_any z.version 999
  have C3 : Hid (∀ wx, Calls Tryz.prog 43 #[.int .i64 z.owner, .int .i64 9] wx fun e w' => e = .returned (.bool (decide (0 ≤ z.owner) && decide (z.owner ≤ 9))) ∧ w' = wx) := isUpTo_any z.owner 9
  have C4 : Hid (∀ wx, Calls Tryz.prog 43 #[.int .i64 z.next, .int .i64 100] wx fun e w' => e = .returned (.bool (decide (0 ≤ z.next) && decide (z.next ≤ 100))) ∧ w' = wx) := isUpTo_any z.next 100
  unfold Tre.okNums
  cases hb1 : (decide (0 ≤ z.data) && decide (z.data ≤ 9999)) with
  | false =>
    rw [hb1] at C1
    rw [Bool.false_and]
    clear hb1
    go_enter Tryz.func71, Tryz.ntmps71
    go_wp2_with fail
    refine (C1.out _).mono ?_
    rintro e w3 ⟨rfl, rfl⟩
    go_wp2
    go_ret
    exact ⟨rfl, Ext.refl _⟩
  | true =>
  rw [hb1] at C1
  cases hb2 : (decide (0 ≤ z.version) && decide (z.version ≤ 999)) with
  | false =>
    rw [hb2] at C2
    rw [Bool.false_and, Bool.and_false]
    clear hb1 hb2
    go_enter Tryz.func71, Tryz.ntmps71
    go_wp2_with fail
    refine (C1.out _).mono ?_
    rintro e w3 ⟨rfl, rfl⟩
    go_wp2_with fail
    refine (C2.out _).mono ?_
    rintro e w3 ⟨rfl, rfl⟩
    go_wp2
    go_ret
    exact ⟨rfl, Ext.refl _⟩
  | true =>
  rw [hb2] at C2
  cases hb3 : (decide (0 ≤ z.owner) && decide (z.owner ≤ 9)) with
  | false =>
    rw [hb3] at C3
    rw [Bool.false_and, Bool.and_false, Bool.and_false]
    clear hb1 hb2 hb3
    go_enter Tryz.func71, Tryz.ntmps71
    go_wp2_with fail
    refine (C1.out _).mono ?_
    rintro e w3 ⟨rfl, rfl⟩
    go_wp2_with fail
    refine (C2.out _).mono ?_
    rintro e w3 ⟨rfl, rfl⟩
    go_wp2_with fail
    refine (C3.out _).mono ?_
    rintro e w3 ⟨rfl, rfl⟩
    go_wp2
    go_ret
    exact ⟨rfl, Ext.refl _⟩
  | true =>
  rw [hb3] at C3
  rw [Bool.true_and, Bool.true_and, Bool.true_and]
  clear hb1 hb2 hb3
  generalize (decide (0 ≤ z.next) && decide (z.next ≤ 100)) = B at *
  go_enter Tryz.func71, Tryz.ntmps71
  go_wp2_with fail
  refine (C1.out _).mono ?_
  rintro e w3 ⟨rfl, rfl⟩
  go_wp2_with fail
  refine (C2.out _).mono ?_
  rintro e w3 ⟨rfl, rfl⟩
  go_wp2_with fail
  refine (C3.out _).mono ?_
  rintro e w3 ⟨rfl, rfl⟩
  go_wp2_with fail
  refine (C4.out _).mono ?_
  rintro e w3 ⟨rfl, rfl⟩
  go_wp2
  go_ret
  exact ⟨rfl, Ext.refl _⟩

set_option maxHeartbeats 2000000 in
set_option maxRecDepth 100000 in
theorem nodeFault_any (b off k : Nat) (zs : List Zn) (z : Zn) (ah : Option Addr) (w : World) (hg : Gd w) (hb : b < w.heap.size) (hN : NodesAt w b off zs) (hz : zs[k]? = some z) (ha : (k = 0 ∧ ah = none) ∨ ∃ m, k = m + 1 ∧ ah = some ⟨b, off + m * 5, none⟩) :
    Calls Tryz.prog 57 #[.pointer (some ⟨b, off + k * 5, none⟩), .pointer ah] w fun e w' => e = .returned (.int .i64 (Tre.nodeC zs k)) ∧ Ext w w' := by
  obtain ⟨R, hR⟩ : ∃ R, R = Tre.nodeC zs k := ⟨_, rfl⟩
  have HR : Hid (R = Tre.nodeC zs k) := hR
  rw [← hR]
  clear hR
  have HN : Hid (b < w.heap.size ∧ NodesAt w b off zs) := ⟨hb, hN⟩
  have HZ : Hid (zs[k]? = some z) := hz
  have HP := pathFault_any z.path w hg
  have HB := hasBounds_any b (off + k * 5) z
  obtain ⟨d0, d1, d2, d3, d4⟩ := hN k z hz
  obtain ⟨c, hc⟩ : ∃ c, c = Pth.faultI z.path.data.toList := ⟨_, rfl⟩
  have HC : Hid (c = Pth.faultI z.path.data.toList) := hc
  rw [← hc] at HP
  have HP1 : Hid (Calls Tryz.prog 70 #[.string z.path] w fun e w' => e = .returned (.int .i64 c) ∧ Ext w w') := HP
  have HB1 : Hid (∀ wx : World, Ext w wx → Calls Tryz.prog 71 #[.pointer (some ⟨b, off + k * 5, none⟩)] wx fun e w' => e = .returned (.bool (Tre.okNums z)) ∧ Ext wx w') := fun wx h => by
    obtain ⟨-, e1, e2, e3, e4⟩ := HN.out.2.ext HN.out.1 h k z HZ.out
    exact HB wx e1 e2 e3 e4
  have HD : Hid (∀ wx : World, Ext w wx → wx.cell? ⟨b, off + k * 5, none⟩ = some (.string z.path)) := fun wx h => (HN.out.2.ext HN.out.1 h k z HZ.out).1
  obtain ⟨o, ho⟩ : ∃ o, o = off + k * 5 := ⟨_, rfl⟩
  rw [← ho] at HD HB1 d0 ⊢
  clear ho
  clear hc hN hb hz HP HB d1 d2 d3 d4
  by_cases hc0 : c ≠ 0
  · have HF : Hid (R = c) := HR.out.trans (Tre.nodeC_path HZ.out HC.out hc0)
    go_enter Tryz.func57, Tryz.ntmps57
    go_wp2_with fail
    refine HP1.out.mono ?_
    rintro e w2 ⟨rfl, hb⟩
    have HE : Hid (Ext w w2) := hb
    clear hb
    go_wp2
    go_ret
    exact ⟨ret_int HF.out.symm, HE.out⟩
  have hc1 : c = 0 := by omega
  subst hc1
  clear hc0
  cases hn : Tre.okNums z with
  | false =>
    have HF : Hid (R = 3) := HR.out.trans (Tre.nodeC_nums HZ.out HC.out hn)
    rw [hn] at HB1
    clear hn
    go_enter Tryz.func57, Tryz.ntmps57
    go_wp2_with fail
    refine HP1.out.mono ?_
    rintro e w2 ⟨rfl, hb⟩
    have HE : Hid (Ext w w2) := hb
    clear hb
    go_wp2_with fail
    refine (HB1.out _ HE.out).mono ?_
    rintro e w3 ⟨rfl, hb⟩
    have HE3 : Hid (Ext w w3) := HE.out.trans hb
    clear hb
    go_wp2
    go_ret
    exact ⟨ret_int HF.out.symm, HE3.out⟩
  | true =>
    rw [hn] at HB1
    rcases ha with ⟨rfl, rfl⟩ | ⟨m, rfl, rfl⟩
    · have HF : Hid (R = 0) := HR.out.trans (Tre.nodeC_zero HZ.out HC.out hn)
      clear hn
      go_enter Tryz.func57, Tryz.ntmps57
      go_wp2_with fail
      refine HP1.out.mono ?_
      rintro e w2 ⟨rfl, hb⟩
      have HE : Hid (Ext w w2) := hb
      clear hb
      go_wp2_with fail
      refine (HB1.out _ HE.out).mono ?_
      rintro e w3 ⟨rfl, hb⟩
      have HE3 : Hid (Ext w w3) := HE.out.trans hb
      clear hb
      go_wp2
      go_region
      all_goals go_wp2
      go_ret
      exact ⟨ret_int HF.out.symm, HE3.out.drew⟩
    · obtain ⟨y, hy⟩ : ∃ y, zs[m]? = some y := ⟨_, List.getElem?_eq_getElem (by have := (List.getElem?_eq_some_iff.1 HZ.out).1; omega)⟩
      have HN2 := Tre.nodeC_succ HZ.out hy HC.out hn
      have HY : Hid (zs[m]? = some y) := hy
      have HU : Hid (Op.bytesLess z.path.toList y.path.toList = true ∨ (z.path.toList == y.path.toList) = true → R = 1) := by
        intro h; rw [HR.out, HN2, if_pos]; unfold Tre.notUp; rcases h with h | h <;> rw [h] <;> simp
      have HV0 : Hid (Op.bytesLess z.path.toList y.path.toList = false ∧ (z.path.toList == y.path.toList) = false → R = 0) := by
        intro h; rw [HR.out, HN2, if_neg]; unfold Tre.notUp; rw [h.1, h.2]; simp
      have HD2 : Hid (∀ wx : World, Ext w wx → wx.cell? ⟨b, off + m * 5, none⟩ = some (.string y.path)) := fun wx h => (HN.out.2.ext HN.out.1 h m y HY.out).1
      generalize off + m * 5 = o2 at *
      clear hn hy HN2
      go_enter Tryz.func57, Tryz.ntmps57
      go_wp2_with fail
      refine HP1.out.mono ?_
      rintro e w2 ⟨rfl, hb⟩
      have HE : Hid (Ext w w2) := hb
      clear hb
      go_wp2_with fail
      refine (HB1.out _ HE.out).mono ?_
      rintro e w3 ⟨rfl, hb⟩
      have HE3 : Hid (Ext w w3) := HE.out.trans hb
      clear hb d0
      have d0 := HD.out _ HE3.out
      have e0 := HD2.out _ HE3.out
      go_wp2
      go_region
      all_goals go_wp2
      · go_ret
        exact ⟨ret_int (HU.out (by assumption)).symm, HE3.out.drew⟩
      · go_ret
        exact ⟨ret_int (HV0.out (by assumption)).symm, HE3.out.drew⟩
end Go.Proofs.YtmiffefnpendoaaGreatDoor
