/- laws.FnExactEventText answers true at every event. -/
import Derived.Test.YtgofggmgnodplaaDoorK7c
namespace Go.Proofs.YtgofggmgnodplaaDoor
open Go.RowKit
/-- An event in a box of its own. -/
def EvBox (w : World) (b : Nat) (z : Ev) : Prop := b < w.heap.size ∧ w.cell? ⟨b, 0, none⟩ = some (.int .i64 z.client) ∧ w.cell? ⟨b, 1, none⟩ = some (.string z.path) ∧ w.cell? ⟨b, 2, none⟩ = some (.int .i64 z.kind)
theorem EvBox.ext {w w' : World} {b : Nat} {z : Ev} (h : EvBox w b z) (he : Ext w w') : EvBox w' b z := by
  obtain ⟨hc, _⟩ := Ext.cell he
  exact ⟨Nat.lt_of_lt_of_le h.1 he.size, (hc _ _ h.1).trans h.2.1, (hc _ _ h.1).trans h.2.2.1, (hc _ _ h.1).trans h.2.2.2⟩
theorem evbox_new (w : World) (z : Ev) (t : TypeId) : EvBox (w.alloc (.cells #[.int .i64 z.client, .string z.path, .int .i64 z.kind] t)) w.heap.size z := ⟨by simp, by simp, by simp, by simp⟩
set_option maxHeartbeats 4000000 in
set_option maxRecDepth 100000 in
theorem lawEventText (z : Ev) (w : World) (hg : Gd w) (ht : Tb w) (hz : z.path.size ≤ maxLen) :
    Calls Tryd.prog 5 #[evagg z] w fun e w' => e = .returned (.bool true) ∧ Ext w w' := by
  have hS := fun wx => szEvent_any z 1048576 wx (by omega) (by omega) hz
  have HT : Hid (∀ wx : World, Calls Tryd.prog 19 #[evagg z] wx fun e w' => e = .returned (evagg z) ∧ Ext wx w') := toEvent_any z
  have HS : Hid (∀ wx : World, Calls Tryd.prog 18 #[evagg z] wx fun e w' => e = .returned (tr (Wch.evV z)) ∧ Ext wx w') := fun wx => specEventText_any z wx
  have HI : Hid (∀ wx : World, Ext w wx → Calls Tryd.prog 20 #[evagg z] wx fun e w' => e = .returned (tr (Wch.evV z)) ∧ Ext wx w') := fun wx h => implEventText_any z wx (hg.ext h) (ht.ext h)
  have HQ : Hid (∀ wx : World, Calls Tryd.prog 21 #[tr (Wch.evV z), tr (Wch.evV z)] wx fun e w' => e = .returned (.bool true) ∧ Ext wx w') := eqText_any (Wch.evV z)
  clear hg hz ht
  generalize Wch.evV z = x at *
  obtain ⟨c, l⟩ := x
  unfold tr at *
  unfold evagg at *
  simp only at *
  generalize mkB l = sx at *
  by_cases h : (1048576 : Int) < z.path.size
  · simp only [if_pos h] at hS
    go_enter Tryd.func5, Tryd.ntmps5
    go_wp2_with fail
    refine (hS _).mono ?_
    rintro e w1 ⟨rfl, hb⟩
    have HB1 : Hid (Ext w w1) := ((Ext.refl _).alloc _).trans hb
    clear hb hS
    go_wp2
    go_ret
    exact ⟨rfl, HB1.out⟩
  simp only [if_neg h] at hS
  have HSz : Hid _ := hS
  clear hS
  go_enter Tryd.func5, Tryd.ntmps5
  go_wp2_with fail
  refine (HSz.out _).mono ?_
  rintro e w1 ⟨rfl, hb⟩
  have E1 : Hid (Ext w w1) := ((Ext.refl _).alloc _).trans hb
  have AN0 := (evbox_new w z _).ext hb
  have AN : Hid (EvBox w1 w.heap.size z) := by (try simp only [World.size_alloc] at AN0); exact AN0
  clear AN0
  clear hb 
  have AB := AN; clear AN
  obtain ⟨Alt, Ac0, Ac1, Ac2⟩ := AB.out
  go_wp2_with fail
  refine (HT.out _).mono ?_
  rintro e w2 ⟨rfl, hb⟩
  have E2 : Hid (Ext w w2) := E1.out.trans hb
  have AN : Hid (EvBox w2 w.heap.size z) := AB.out.ext hb
  clear hb AB E1 Alt Ac0 Ac1 Ac2
  have AB := AN; clear AN
  go_wp2_with fail
  refine (HS.out _).mono ?_
  rintro e w3 ⟨rfl, hb⟩
  have E3 : Hid (Ext w w3) := E2.out.trans hb
  have AN : Hid (EvBox w3 w.heap.size z) := AB.out.ext hb
  clear hb AB E2
  have AB := AN; clear AN
  obtain ⟨Alt, Ac0, Ac1, Ac2⟩ := AB.out
  have hal := alloc_cell
  go_wp2_with fail
  refine (HT.out _).mono ?_
  rintro e w4 ⟨rfl, hb⟩
  have E4 : Hid (Ext w w4) := (E3.out.alloc _).trans hb
  have AN : Hid (EvBox w4 w.heap.size z) := AB.out.ext (((Ext.refl _).alloc _).trans hb)
  have XN0 := (tbox_new w3 c sx _).ext hb
  have XN : Hid (TBoxAt w4 w3.heap.size c sx) := by (try simp only [World.size_alloc] at XN0); exact XN0
  clear XN0
  clear hb AB E3 Alt Ac0 Ac1 Ac2 hal
  have AB := AN; clear AN
  have XB := XN; clear XN
  go_wp2_with fail
  refine (HI.out _ E4.out).mono ?_
  rintro e w5 ⟨rfl, hb⟩
  have E5 : Hid (Ext w w5) := E4.out.trans hb
  have AN : Hid (EvBox w5 w.heap.size z) := AB.out.ext hb
  have XN : Hid (TBoxAt w5 w3.heap.size c sx) := XB.out.ext hb
  clear hb AB XB E4
  have AB := AN; clear AN
  have XB := XN; clear XN
  obtain ⟨Xlt, Xc0, Xc1, -, -⟩ := XB.out
  have hal := alloc_cell
  go_wp2_with fail
  refine (HQ.out _).mono ?_
  rintro e w6 ⟨rfl, hb⟩
  have E6 : Hid (Ext w w6) := (E5.out.alloc _).trans hb
  have AN : Hid (EvBox w6 w.heap.size z) := AB.out.ext (((Ext.refl _).alloc _).trans hb)
  have XN : Hid (TBoxAt w6 w3.heap.size c sx) := XB.out.ext (((Ext.refl _).alloc _).trans hb)
  have YN0 := (tbox_new w5 c sx _).ext hb
  have YN : Hid (TBoxAt w6 w5.heap.size c sx) := by (try simp only [World.size_alloc] at YN0); exact YN0
  clear YN0
  clear hb AB XB E5 Xlt Xc0 Xc1 hal
  have AB := AN; clear AN
  have XB := XN; clear XN
  have YB := YN; clear YN
  go_wp2
  go_ret
  exact ⟨rfl, E6.out⟩
end Go.Proofs.YtgofggmgnodplaaDoor
