/- laws.FnExactSumOf answers true at every slice of numbers. -/
import Derived.Test.YtmkmilkncmfigaaV2
namespace Go.Proofs.Ytmkmilkncmfigaa
open Go.RowKit
/-- Block b holds an IntResult. -/
def IBoxAt (w : World) (b : Nat) (c n : Int) : Prop := b < w.heap.size ∧ w.cell? ⟨b, 0, none⟩ = some (.int .i64 c) ∧ w.cell? ⟨b, 1, none⟩ = some (.int .i64 n)
theorem IBoxAt.ext {w w' : World} {b : Nat} {c n : Int} (h : IBoxAt w b c n) (he : Ext w w') : IBoxAt w' b c n := by
  obtain ⟨hc, _⟩ := Ext.cell he
  exact ⟨Nat.lt_of_lt_of_le h.1 he.size, (hc _ _ h.1).trans h.2.1, (hc _ _ h.1).trans h.2.2⟩
theorem ibox_new (w : World) (c n : Int) (t : TypeId) : IBoxAt (w.alloc (.cells #[.int .i64 c, .int .i64 n] t)) w.heap.size c n := ⟨by simp, by simp, by simp⟩

set_option maxHeartbeats 2000000 in
set_option maxRecDepth 100000 in
theorem lawSumOf (v : Value) (l : List Int) (w : World) (hS : ISlice w v l) :
    Calls Try.prog 6 #[v] w fun e w' => e = .returned (.bool true) ∧ Ext w w' := by
  have HA : Hid (ISlice w v l) := hS
  obtain ⟨a, cap, rfl, hlc, hcm, -⟩ := hS
  unfold maxLen at hcm
  by_cases h : 1048576 < l.length
  · go_enter Try.func6, Try.ntmps6
    go_wp2
    go_ret
    exact ⟨rfl, Ext.refl _⟩
  · have hl : l.length ≤ 1048576 := by omega
    have HT : Hid (∀ wx : World, Ext w wx → Calls Try.prog 25 #[.slice a l.length cap] wx fun e w' => ∃ v', e = .returned v' ∧ ISlice w' v' l ∧ Ext wx w') := fun wx he => toInt64S_any _ l wx (HA.out.ext he) hl
    have HS : Hid (∀ (wx : World) (vx : Value), ISlice wx vx l → Calls Try.prog 21 #[vx] wx fun e w' => e = .returned (ir (Sm.sumV l)) ∧ Ext wx w') := fun wx vx h => specSumOf_any vx l wx h
    have HI : Hid (∀ (wx : World) (vx : Value), ISlice wx vx l → Calls Try.prog 20 #[vx] wx fun e w' => e = .returned (ir (Sm.sumV l)) ∧ Ext wx w') := fun wx vx h => implSumOf_any vx l wx h
    have HE : Hid (∀ (wx : World) (vx ux : Value), ISlice wx vx l → ISlice wx ux l → Calls Try.prog 27 #[vx, ux] wx fun e w' => e = .returned (.bool true) ∧ Ext wx w') := fun wx vx ux h1 h2 => eqInt64S_same vx ux l wx h1 h2
    generalize Sm.sumV l = r at *
    obtain ⟨c, n⟩ := r
    have HQ : Hid (∀ w : World, Calls Try.prog 26 #[ir (c, n), ir (c, n)] w fun e w' => e = .returned (.bool true) ∧ Ext w w') := eqIntR_same c n
    unfold ir at HS HI HQ
    go_enter Try.func6, Try.ntmps6
    go_wp2_with fail
    refine (HT.out _ (Ext.refl _)).mono ?_
    rintro e w1 ⟨v1, rfl, h1, hb1⟩
    have H1 : Hid (ISlice w1 v1 l) := h1
    have HB1 : Hid (Ext w w1) := hb1
    clear h1 hb1
    go_wp2_with fail
    refine (HS.out _ _ H1.out).mono ?_
    rintro e w2 ⟨rfl, hb2⟩
    have HB2 : Hid (Ext w w2) := HB1.out.trans hb2
    clear hb2
    go_wp2_with fail
    refine (HT.out _ (HB2.out.alloc _)).mono ?_
    rintro e w3 ⟨v3, rfl, h3, hb3⟩
    have H3 : Hid (ISlice w3 v3 l) := h3
    have HB3 : Hid (Ext w w3) := (HB2.out.alloc _).trans hb3
    have HX3 : Hid (IBoxAt w3 w2.heap.size c n) := (ibox_new w2 c n _).ext hb3
    clear h3 hb3
    go_wp2_with fail
    refine (HI.out _ _ H3.out).mono ?_
    rintro e w4 ⟨rfl, hb4⟩
    have H4 : Hid (ISlice w4 v3 l) := H3.out.ext hb4
    have HB4 : Hid (Ext w w4) := HB3.out.trans hb4
    obtain ⟨q, q0, q1⟩ := HX3.out.ext hb4
    clear hb4
    have hal := alloc_cell
    go_wp2_with fail
    refine (HQ.out _).mono ?_
    rintro e w5 ⟨rfl, hb5⟩
    have H5 : Hid (ISlice w5 v3 l) := (H4.out.ext ((Ext.refl _).alloc _)).ext hb5
    have HB5 : Hid (Ext w w5) := (HB4.out.alloc _).trans hb5
    clear hb5 hal q q0 q1
    go_wp2_with fail
    refine (HT.out _ HB5.out).mono ?_
    rintro e w6 ⟨v6, rfl, h6, hb6⟩
    have H6 : Hid (ISlice w6 v6 l) := h6
    have H6' : Hid (ISlice w6 v3 l) := H5.out.ext hb6
    have HB6 : Hid (Ext w w6) := HB5.out.trans hb6
    clear h6 hb6
    go_wp2_with fail
    refine (HE.out _ _ _ H6'.out H6.out).mono ?_
    rintro e w7 ⟨rfl, hb7⟩
    have HB7 : Hid (Ext w w7) := HB6.out.trans hb7
    clear hb7
    go_wp2
    go_ret
    exact ⟨rfl, HB7.out⟩

set_option maxHeartbeats 2000000 in
set_option maxRecDepth 100000 in
theorem lawPairSum (x y : Int) (w : World) :
    Calls Try.prog 7 #[.int .i64 x, .int .i64 y] w fun e w' => e = .returned (.bool true) ∧ Ext w w' := by
  have HS : Hid (∀ (wx : World), Calls Try.prog 24 #[.int .i64 x, .int .i64 y] wx fun e w' => e = .returned (ir (Sm.pairV x y)) ∧ Ext wx w') := fun wx => specPairSum_any x y wx
  have HI : Hid (∀ (wx : World), Calls Try.prog 23 #[.int .i64 x, .int .i64 y] wx fun e w' => e = .returned (ir (Sm.pairV x y)) ∧ Ext wx w') := fun wx => implPairSum_any x y wx
  generalize Sm.pairV x y = r at *
  obtain ⟨c, n⟩ := r
  have HQ : Hid (∀ w : World, Calls Try.prog 26 #[ir (c, n), ir (c, n)] w fun e w' => e = .returned (.bool true) ∧ Ext w w') := eqIntR_same c n
  unfold ir at HS HI HQ
  go_enter Try.func7, Try.ntmps7
  go_wp2_with fail
  refine (HS.out _).mono ?_
  rintro e w2 ⟨rfl, hb2⟩
  have HB2 : Hid (Ext w w2) := hb2
  clear hb2
  go_wp2_with fail
  refine (HI.out _).mono ?_
  rintro e w4 ⟨rfl, hb4⟩
  have HB4 : Hid (Ext w w4) := (HB2.out.alloc _).trans hb4
  obtain ⟨q, q0, q1⟩ := (ibox_new w2 c n _).ext hb4
  clear hb4
  have hal := alloc_cell
  go_wp2_with fail
  refine (HQ.out _).mono ?_
  rintro e w5 ⟨rfl, hb5⟩
  have HB5 : Hid (Ext w w5) := (HB4.out.alloc _).trans hb5
  clear hb5 hal q q0 q1
  go_wp2
  go_ret
  exact ⟨rfl, HB5.out⟩
end Go.Proofs.Ytmkmilkncmfigaa
