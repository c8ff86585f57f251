/- laws.FnExactCheckProof answers true at every argument. -/
import Derived.Test.YtbapllhdkckdjaaDoorV7
import Derived.Test.YtbapllhdkckdjaaDoorLLeafSum
namespace Go.Proofs.YtbapllhdkckdjaaDoor
open Go.RowKit
set_option maxHeartbeats 4000000 in
set_option maxRecDepth 100000 in
theorem lawCheckProof (z : Zn) (v : Value) (l : List Sd) (root : Int) (w : World) (hg : Gd w) (hz : z.path.size ≤ maxLen) (hS : SSlice w v l) :
    Calls Tryd.prog 7 #[zagg z, v, .int .i64 root] w fun e w' => e = .returned (.bool true) ∧ Ext w w' := by
  have hZ := fun wx => szZnode_any z 1048576 wx (by omega) (by omega) hz
  have HA : Hid (SSlice w v l) := hS
  obtain ⟨a, cap, rfl, hlc, hcm, -⟩ := hS
  have HT : Hid (∀ wx : World, Calls Tryd.prog 16 #[zagg z] wx fun e w' => e = .returned (zagg z) ∧ Ext wx w') := toZnode_any z
  have HTS : Hid (l.length ≤ 1048576 → ∀ wx : World, Ext w wx → Calls Tryd.prog 32 #[.slice a l.length cap] wx fun e w' => ∃ v', e = .returned v' ∧ SSlice w' v' l ∧ Ext wx w') := fun hl wx he => toSideS_any _ l wx (HA.out.ext he) hl
  have HSp : Hid (∀ (wx : World) (vx : Value), SSlice wx vx l → Calls Tryd.prog 31 #[zagg z, vx, .int .i64 root] wx fun e w' => e = .returned (.bool (Sm.check z l root)) ∧ Ext wx w') := fun wx vx h => specCheckProof_any z vx l root wx h
  have HIm : Hid (∀ (wx : World) (vx : Value), Ext w wx → SSlice wx vx l → Calls Tryd.prog 33 #[zagg z, vx, .int .i64 root] wx fun e w' => e = .returned (.bool (Sm.check z l root)) ∧ Ext wx w') := fun wx vx he h => implCheckProof_any z vx l root wx (hg.ext he) h
  have HE : Hid (∀ (wx : World) (vx ux : Value), SSlice wx vx l → SSlice wx ux l → Calls Tryd.prog 34 #[vx, ux] wx fun e w' => e = .returned (.bool true) ∧ Ext wx w') := fun wx vx ux h1 h2 => eqSideS_same vx ux l wx h1 h2
  clear hg hz
  generalize Sm.check z l root = R at *
  unfold zagg at hZ HT HSp HIm ⊢
  unfold maxLen at hcm
  by_cases h : (1048576 : Int) < z.path.size
  · simp only [if_pos h] at hZ
    go_enter Tryd.func7, Tryd.ntmps7
    go_wp2_with fail
    refine (hZ _).mono ?_
    rintro e w1 ⟨rfl, hb⟩
    have HB1 : Hid (Ext w w1) := ((Ext.refl _).alloc _).trans hb
    clear hb hZ
    go_wp2
    go_ret
    exact ⟨rfl, HB1.out⟩
  · simp only [if_neg h] at hZ
    have HZS : Hid (∀ wx : World, Ext w wx → Calls Tryd.prog 30 #[.slice a l.length cap, .int .i64 (1048576 - (z.path.size : Int))] wx fun e w' => e = .returned (.int .i64 (if 1048576 - (z.path.size : Int) < l.length then -1 else 1048576 - (z.path.size : Int) - l.length)) ∧ w' = wx) := fun wx he => szSideS_any _ l _ wx (by omega) (by omega) (HA.out.ext he)
    by_cases h2 : 1048576 - (z.path.size : Int) < l.length
    · rw [if_pos h2] at HZS
      go_enter Tryd.func7, Tryd.ntmps7
      go_wp2_with fail
      refine (hZ _).mono ?_
      rintro e w1 ⟨rfl, hb⟩
      have HB1 : Hid (Ext w w1) := ((Ext.refl _).alloc _).trans hb
      clear hb hZ
      go_wp2_with fail
      refine (HZS.out _ HB1.out).mono ?_
      rintro e w2 ⟨rfl, hw⟩
      subst hw
      go_wp2
      go_ret
      exact ⟨rfl, HB1.out⟩
    · rw [if_neg h2] at HZS
      have hl : l.length ≤ 1048576 := by omega
      have HTS' : Hid (∀ wx : World, Ext w wx → Calls Tryd.prog 32 #[.slice a l.length cap] wx fun e w' => ∃ v', e = .returned v' ∧ SSlice w' v' l ∧ Ext wx w') := HTS.out hl
      have uu : (R != R) = false := by simp
      clear HTS
      go_enter Tryd.func7, Tryd.ntmps7
      go_wp2_with fail
      refine (hZ _).mono ?_
      rintro e w1 ⟨rfl, hb⟩
      have HB1 : Hid (Ext w w1) := ((Ext.refl _).alloc _).trans hb
      have HZ1 : Hid (ZAt w1 w.heap.size 0 z) := (ZAt.new w z _).ext hb
      clear hb hZ
      go_wp2_with fail
      refine (HZS.out _ HB1.out).mono ?_
      rintro e w2 ⟨rfl, hw⟩
      subst hw
      obtain ⟨d0, d1, d2, d3, d4⟩ := HZ1.out.flat
      go_wp2_with fail
      refine (HT.out _).mono ?_
      rintro e w3 ⟨rfl, hb⟩
      have HB3 : Hid (Ext w w3) := HB1.out.trans hb
      have HZ3 : Hid (ZAt w3 w.heap.size 0 z) := HZ1.out.ext hb
      clear hb d0 d1 d2 d3 d4
      go_wp2_with fail
      refine (HTS'.out _ HB3.out).mono ?_
      rintro e w4 ⟨v4, rfl, h4, hb⟩
      have H4 : Hid (SSlice w4 v4 l) := h4
      have HB4 : Hid (Ext w w4) := HB3.out.trans hb
      have HZ4 : Hid (ZAt w4 w.heap.size 0 z) := HZ3.out.ext hb
      clear hb h4
      go_wp2_with fail
      refine (HSp.out _ _ H4.out).mono ?_
      rintro e w5 ⟨rfl, hb⟩
      have HB5 : Hid (Ext w w5) := HB4.out.trans hb
      have HZ5 : Hid (ZAt w5 w.heap.size 0 z) := HZ4.out.ext hb
      clear hb
      go_wp2_with fail
      refine (HTS'.out _ HB5.out).mono ?_
      rintro e w6 ⟨v6, rfl, h6, hb⟩
      have H6 : Hid (SSlice w6 v6 l) := h6
      have HB6 : Hid (Ext w w6) := HB5.out.trans hb
      have HZ6 : Hid (ZAt w6 w.heap.size 0 z) := HZ5.out.ext hb
      clear hb h6
      obtain ⟨d0, d1, d2, d3, d4⟩ := HZ6.out.flat
      go_wp2_with fail
      refine (HT.out _).mono ?_
      rintro e w7 ⟨rfl, hb⟩
      have HB7 : Hid (Ext w w7) := HB6.out.trans hb
      have H7 : Hid (SSlice w7 v6 l) := H6.out.ext hb
      clear hb d0 d1 d2 d3 d4
      go_wp2_with fail
      refine (HIm.out _ _ HB7.out H7.out).mono ?_
      rintro e w8 ⟨rfl, hb⟩
      have HB8 : Hid (Ext w w8) := HB7.out.trans hb
      have H8 : Hid (SSlice w8 v6 l) := H7.out.ext hb
      clear hb
      go_wp2_with fail
      refine (HTS'.out _ HB8.out).mono ?_
      rintro e w9 ⟨v9, rfl, h9, hb⟩
      have H9 : Hid (SSlice w9 v9 l) := h9
      have H9' : Hid (SSlice w9 v6 l) := H8.out.ext hb
      have HB9 : Hid (Ext w w9) := HB8.out.trans hb
      clear hb h9
      go_wp2_with fail
      refine (HE.out _ _ _ H9'.out H9.out).mono ?_
      rintro e w10 ⟨rfl, hb⟩
      have HB10 : Hid (Ext w w10) := HB9.out.trans hb
      clear hb
      go_wp2
      go_ret
      exact ⟨rfl, HB10.out⟩
end Go.Proofs.YtbapllhdkckdjaaDoor
