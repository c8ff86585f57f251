/- what turned at a path between two trees: l7Change, changeAt, ChangeOf of the specification and of the program. -/
import Derived.Test.YtgofggmgnodplaaDoorI7
import Derived.Test.YtgofggmgnodplaaDoorV2
import Derived.Deep.RegionHeld3
namespace Go.Proofs.YtgofggmgnodplaaDoor
open Go.RowKit
namespace Wch
def nodeAt (zs : List Zn) (p : ByteArray) : Option Zn := if Tre.atI zs p < 0 then none else zs[(Tre.atI zs p).toNat]?
def chg : Option Zn → Option Zn → Int
  | none, none => 0
  | none, some _ => 1
  | some _, none => 2
  | some x, some y => if x.version ≠ y.version ∨ x.data ≠ y.data then 3 else 0
def change (zs ys : List Zn) (p : ByteArray) : Int := chg (nodeAt zs p) (nodeAt ys p)
theorem nodeAt_hit {zs : List Zn} {p : ByteArray} {k : Nat} {z : Zn} (h : Tre.atI zs p = k) (hz : zs[k]? = some z) : nodeAt zs p = some z := by
  unfold nodeAt; rw [h, if_neg (by omega), Int.toNat_natCast, hz]
theorem nodeAt_miss {zs : List Zn} {p : ByteArray} (h : Tre.atI zs p < 0) : nodeAt zs p = none := by unfold nodeAt; rw [if_pos h]
def changeV (zs ys : List Zn) (p : ByteArray) : Int × Int :=
  if Tre.fault zs ≠ 0 then (Tre.fault zs, 0) else if Tre.asked ys p ≠ 0 then (Tre.asked ys p, 0) else (0, change zs ys p)
theorem changeV_1 {zs ys : List Zn} {p : ByteArray} {c : Int} (h : Tre.fault zs = c) (h0 : c ≠ 0) : changeV zs ys p = (c, 0) := by unfold changeV; rw [h, if_pos h0]
theorem changeV_2 {zs ys : List Zn} {p : ByteArray} {c : Int} (h : Tre.fault zs = 0) (h1 : Tre.asked ys p = c) (h0 : c ≠ 0) : changeV zs ys p = (c, 0) := by unfold changeV; rw [h, if_neg (by decide), h1, if_pos h0]
theorem changeV_3 {zs ys : List Zn} {p : ByteArray} (h : Tre.fault zs = 0) (h1 : Tre.asked ys p = 0) : changeV zs ys p = (0, change zs ys p) := by unfold changeV; rw [h, if_neg (by decide), h1, if_neg (by decide)]
theorem chg_0 {x y : Zn} (hv : x.version = y.version) (hd : x.data = y.data) : chg (some x) (some y) = 0 := by
  show (if _ then _ else _) = _; rw [if_neg (by simp [hv, hd])]
theorem chg_3 {x y : Zn} (h : x.version ≠ y.version ∨ x.data ≠ y.data) : chg (some x) (some y) = 3 := by
  show (if _ then _ else _) = _; rw [if_pos h]
theorem few {zs : List Zn} (h1 : Tre.fault zs = 0) : zs.length ≤ 20 ∧ 1 ≤ zs.length := by
  refine ⟨(Tre.fault_nodes h1).1, ?_⟩
  rcases Tre.atI_range zs Tre.top with ⟨hm, _⟩ | ⟨k, z, _, hk, _, _⟩
  · have := (Tre.fault_hang h1).1; omega
  · omega
end Wch

set_option maxHeartbeats 2000000 in
set_option maxRecDepth 100000 in
theorem l7Change_any (v v' : Value) (zs ys : List Zn) (p : ByteArray) (w : World) (hS : NSlice w v zs) (hS' : NSlice w v' ys) :
    Calls Tryd.prog 32 #[v, v', .string p] w fun e w' => e = .returned (.int .i64 (Wch.change zs ys p)) ∧ Ext w w' := by
  have HA : Hid (Calls Tryd.prog 51 #[v, .string p] w fun e w' => e = .returned (.int .i64 (Tre.atI zs p)) ∧ w' = w) := l2At_any v zs p w hS
  have HA' : Hid (Calls Tryd.prog 51 #[v', .string p] w fun e w' => e = .returned (.int .i64 (Tre.atI ys p)) ∧ w' = w) := l2At_any v' ys p w hS'
  obtain ⟨a, cap, rfl, hlc, hcm, hx⟩ := hS
  obtain ⟨a', cap', rfl, hlc', hcm', hx'⟩ := hS'
  unfold maxLen at hcm hcm'
  unfold Wch.change
  rcases Tre.atI_range zs p with ⟨hm, -⟩ | ⟨k, z, hk, hkl, hz, -⟩
  · rw [Wch.nodeAt_miss (by omega)]
    rw [hm] at HA
    rcases Tre.atI_range ys p with ⟨hm', -⟩ | ⟨k', z', hk', hkl', hz', -⟩
    · rw [Wch.nodeAt_miss (by omega)]
      rw [hm'] at HA'
      clear hx hx' hm hm'
      show Calls _ _ _ _ fun e w' => e = .returned (.int .i64 0) ∧ Ext w w'
      go_enter Tryd.func32, Tryd.ntmps32
      go_wp2_with fail
      refine HA.out.mono ?_
      rintro e w1 ⟨rfl, hw1⟩; rw [hw1]; clear hw1 w1
      go_wp2_with fail
      refine HA'.out.mono ?_
      rintro e w1 ⟨rfl, hw1⟩; rw [hw1]; clear hw1 w1
      go_wp2
      go_region
      all_goals
        go_wp2
        go_ret
        exact ⟨rfl, (Ext.refl _).drew⟩
    · rw [Wch.nodeAt_hit hk' hz']
      rw [hk'] at HA'
      clear hx hx' hm hk' hz'
      show Calls _ _ _ _ fun e w' => e = .returned (.int .i64 1) ∧ Ext w w'
      go_enter Tryd.func32, Tryd.ntmps32
      go_wp2_with fail
      refine HA.out.mono ?_
      rintro e w1 ⟨rfl, hw1⟩; rw [hw1]; clear hw1 w1
      go_wp2_with fail
      refine HA'.out.mono ?_
      rintro e w1 ⟨rfl, hw1⟩; rw [hw1]; clear hw1 w1
      go_wp2
      go_ret
      exact ⟨rfl, Ext.refl _⟩
  · rw [Wch.nodeAt_hit hk hz]
    rw [hk] at HA
    obtain ⟨b, off, rfl, hb, hN⟩ := hx (by omega)
    obtain ⟨d0, d1, d2, d3, d4⟩ := hN k z hz
    rcases Tre.atI_range ys p with ⟨hm', -⟩ | ⟨k', z', hk', hkl', hz', -⟩
    · rw [Wch.nodeAt_miss (by omega)]
      rw [hm'] at HA'
      clear hx hx' hk hz hN hm' d0 d1 d2 d3 d4
      show Calls _ _ _ _ fun e w' => e = .returned (.int .i64 2) ∧ Ext w w'
      go_enter Tryd.func32, Tryd.ntmps32
      go_wp2_with fail
      refine HA.out.mono ?_
      rintro e w1 ⟨rfl, hw1⟩; rw [hw1]; clear hw1 w1
      go_wp2_with fail
      refine HA'.out.mono ?_
      rintro e w1 ⟨rfl, hw1⟩; rw [hw1]; clear hw1 w1
      go_wp2
      go_ret
      exact ⟨rfl, Ext.refl _⟩
    · rw [Wch.nodeAt_hit hk' hz']
      rw [hk'] at HA'
      obtain ⟨b', off', rfl, hb', hN'⟩ := hx' (by omega)
      obtain ⟨e0, e1, e2, e3, e4⟩ := hN' k' z' hz'
      clear hx hx' hk hz hN hk' hz' hN' d0 d3 d4 e0 e3 e4
      by_cases hv : z.version = z'.version
      · have hvb : (z.version != z'.version) = false := by simpa using hv
        by_cases hd : z.data = z'.data
        · have hdb : (z.data != z'.data) = false := by simpa using hd
          rw [Wch.chg_0 hv hd]
          clear hv hd
          go_enter Tryd.func32, Tryd.ntmps32
          go_wp2_with fail
          refine HA.out.mono ?_
          rintro e w1 ⟨rfl, hw1⟩; rw [hw1]; clear hw1 w1
          go_wp2_with fail
          refine HA'.out.mono ?_
          rintro e w1 ⟨rfl, hw1⟩; rw [hw1]; clear hw1 w1
          go_wp2
          go_region
          all_goals
            go_wp2
            go_ret
            exact ⟨rfl, (Ext.refl _).drew⟩
        · have hdb : (z.data != z'.data) = true := by simpa using hd
          rw [Wch.chg_3 (Or.inr hd)]
          clear hv hd
          go_enter Tryd.func32, Tryd.ntmps32
          go_wp2_with fail
          refine HA.out.mono ?_
          rintro e w1 ⟨rfl, hw1⟩; rw [hw1]; clear hw1 w1
          go_wp2_with fail
          refine HA'.out.mono ?_
          rintro e w1 ⟨rfl, hw1⟩; rw [hw1]; clear hw1 w1
          go_wp2
          go_region
          all_goals
            go_wp2
            go_ret
            exact ⟨rfl, (Ext.refl _).drew⟩
      · have hvb : (z.version != z'.version) = true := by simpa using hv
        rw [Wch.chg_3 (Or.inl hv)]
        clear hv
        go_enter Tryd.func32, Tryd.ntmps32
        go_wp2_with fail
        refine HA.out.mono ?_
        rintro e w1 ⟨rfl, hw1⟩; rw [hw1]; clear hw1 w1
        go_wp2_with fail
        refine HA'.out.mono ?_
        rintro e w1 ⟨rfl, hw1⟩; rw [hw1]; clear hw1 w1
        go_wp2
        go_region
        all_goals
          go_wp2
          go_ret
          exact ⟨rfl, (Ext.refl _).drew⟩

set_option maxHeartbeats 2000000 in
set_option maxRecDepth 100000 in
theorem changeAt_any (v v' : Value) (zs ys : List Zn) (p : ByteArray) (w : World) (hS : NSlice w v zs) (hS' : NSlice w v' ys) (h0 : Tre.fault zs = 0) (h0' : Tre.fault ys = 0) :
    Calls Tryd.prog 36 #[v, v', .string p] w fun e w' => e = .returned (.int .i64 (Wch.change zs ys p)) ∧ Ext w w' := by
  have hU := Tre.fault_up h0
  have hU' := Tre.fault_up h0'
  have hf := Wch.few h0
  have hf' := Wch.few h0'
  have HS : Hid (NSlice w v zs) := hS
  have HS' : Hid (NSlice w v' ys) := hS'
  obtain ⟨a, cap, rfl, hlc, hcm, hx⟩ := hS
  obtain ⟨a', cap', rfl, hlc', hcm', hx'⟩ := hS'
  obtain ⟨b, off, rfl, hb, hN⟩ := hx (by omega)
  obtain ⟨b', off', rfl, hb', hN'⟩ := hx' (by omega)
  have HF : Hid (∀ wx : World, Ext w wx → Calls Tryd.prog 56 #[.slice (some ⟨b, off, none⟩) zs.length cap, .string p] wx fun e w' => e = .returned (ptrV b off zs p) ∧ Ext wx w') := fun wx h => findNode_any b off cap zs p wx (HS.out.ext h) hU (by omega)
  have HF' : Hid (∀ wx : World, Ext w wx → Calls Tryd.prog 56 #[.slice (some ⟨b', off', none⟩) ys.length cap', .string p] wx fun e w' => e = .returned (ptrV b' off' ys p) ∧ Ext wx w') := fun wx h => findNode_any b' off' cap' ys p wx (HS'.out.ext h) hU' (by omega)
  clear hx hx'
  unfold Wch.change
  cases hh : Tre.has zs p with
  | false =>
    rw [Wch.nodeAt_miss (Tre.has_not hh)]
    rw [ptrV_miss hh] at HF
    cases hh' : Tre.has ys p with
    | false =>
      rw [Wch.nodeAt_miss (Tre.has_not hh')]
      rw [ptrV_miss hh'] at HF'
      clear hU hU' hf hf' hN hN' hh hh' h0 h0'
      show Calls _ _ _ _ fun e w' => e = .returned (.int .i64 0) ∧ Ext w w'
      go_enter Tryd.func36, Tryd.ntmps36
      go_wp2_with fail
      refine (HF.out _ (Ext.refl _)).mono ?_
      rintro e w1 ⟨rfl, hb1⟩
      have HB1 : Hid (Ext w w1) := hb1
      clear hb1
      go_wp2_with fail
      refine (HF'.out _ HB1.out).mono ?_
      rintro e w2 ⟨rfl, hb2⟩
      have HB2 : Hid (Ext w w2) := HB1.out.trans hb2
      clear hb2
      go_wp2
      go_ret
      exact ⟨rfl, HB2.out⟩
    | true =>
      obtain ⟨z', hat', hz', -⟩ := Tre.has_at hU' hh'
      rw [Wch.nodeAt_hit hat' hz']
      rw [ptrV_hit hh' rfl] at HF'
      clear hU hU' hf hf' hN hN' hh hh' hat' hz' h0 h0'
      generalize Tre.cut ys p.data.toList = k' at *
      show Calls _ _ _ _ fun e w' => e = .returned (.int .i64 1) ∧ Ext w w'
      go_enter Tryd.func36, Tryd.ntmps36
      go_wp2_with fail
      refine (HF.out _ (Ext.refl _)).mono ?_
      rintro e w1 ⟨rfl, hb1⟩
      have HB1 : Hid (Ext w w1) := hb1
      clear hb1
      go_wp2_with fail
      refine (HF'.out _ HB1.out).mono ?_
      rintro e w2 ⟨rfl, hb2⟩
      have HB2 : Hid (Ext w w2) := HB1.out.trans hb2
      clear hb2
      go_wp2
      go_ret
      exact ⟨rfl, HB2.out⟩
  | true =>
    obtain ⟨z, hat, hz, -⟩ := Tre.has_at hU hh
    rw [Wch.nodeAt_hit hat hz]
    rw [ptrV_hit hh rfl] at HF
    cases hh' : Tre.has ys p with
    | false =>
      rw [Wch.nodeAt_miss (Tre.has_not hh')]
      rw [ptrV_miss hh'] at HF'
      clear hU hU' hf hf' hN hN' hh hh' hat hz h0 h0'
      generalize Tre.cut zs p.data.toList = k at *
      show Calls _ _ _ _ fun e w' => e = .returned (.int .i64 2) ∧ Ext w w'
      go_enter Tryd.func36, Tryd.ntmps36
      go_wp2_with fail
      refine (HF.out _ (Ext.refl _)).mono ?_
      rintro e w1 ⟨rfl, hb1⟩
      have HB1 : Hid (Ext w w1) := hb1
      clear hb1
      go_wp2_with fail
      refine (HF'.out _ HB1.out).mono ?_
      rintro e w2 ⟨rfl, hb2⟩
      have HB2 : Hid (Ext w w2) := HB1.out.trans hb2
      clear hb2
      go_wp2
      go_ret
      exact ⟨rfl, HB2.out⟩
    | true =>
      obtain ⟨z', hat', hz', -⟩ := Tre.has_at hU' hh'
      rw [Wch.nodeAt_hit hat' hz']
      rw [ptrV_hit hh' rfl] at HF'
      have HC : Hid (∀ wx : World, Ext w wx → (wx.cell? ⟨b, off + Tre.cut zs p.data.toList * 5 + 1, none⟩ = some (.int .i64 z.data) ∧ wx.cell? ⟨b, off + Tre.cut zs p.data.toList * 5 + 2, none⟩ = some (.int .i64 z.version)) ∧ wx.cell? ⟨b', off' + Tre.cut ys p.data.toList * 5 + 1, none⟩ = some (.int .i64 z'.data) ∧ wx.cell? ⟨b', off' + Tre.cut ys p.data.toList * 5 + 2, none⟩ = some (.int .i64 z'.version)) := fun wx h => by
        obtain ⟨d0, d1, d2, d3, d4⟩ := hN.ext hb h _ z hz
        obtain ⟨e0, e1, e2, e3, e4⟩ := hN'.ext hb' h _ z' hz'
        exact ⟨⟨d1, d2⟩, e1, e2⟩
      clear hU hU' hf hf' hN hN' hh hh' hat hz hat' hz' h0 h0'
      generalize Tre.cut zs p.data.toList = k at *
      generalize Tre.cut ys p.data.toList = k' at *
      by_cases hv : z.version = z'.version
      · have hvb : (z.version != z'.version) = false := by simpa using hv
        by_cases hd : z.data = z'.data
        · have hdb : (z.data != z'.data) = false := by simpa using hd
          rw [Wch.chg_0 hv hd]
          clear hv hd
          go_enter Tryd.func36, Tryd.ntmps36
          go_wp2_with fail
          refine (HF.out _ (Ext.refl _)).mono ?_
          rintro e w1 ⟨rfl, hb1⟩
          have HB1 : Hid (Ext w w1) := hb1
          clear hb1
          go_wp2_with fail
          refine (HF'.out _ HB1.out).mono ?_
          rintro e w2 ⟨rfl, hb2⟩
          have HB2 : Hid (Ext w w2) := HB1.out.trans hb2
          obtain ⟨⟨d1, d2⟩, e1, e2⟩ := HC.out _ HB2.out
          clear hb2
          go_wp2
          go_region
          all_goals
            go_wp2
            go_ret
            exact ⟨rfl, HB2.out.drew⟩
        · have hdb : (z.data != z'.data) = true := by simpa using hd
          rw [Wch.chg_3 (Or.inr hd)]
          clear hv hd
          go_enter Tryd.func36, Tryd.ntmps36
          go_wp2_with fail
          refine (HF.out _ (Ext.refl _)).mono ?_
          rintro e w1 ⟨rfl, hb1⟩
          have HB1 : Hid (Ext w w1) := hb1
          clear hb1
          go_wp2_with fail
          refine (HF'.out _ HB1.out).mono ?_
          rintro e w2 ⟨rfl, hb2⟩
          have HB2 : Hid (Ext w w2) := HB1.out.trans hb2
          obtain ⟨⟨d1, d2⟩, e1, e2⟩ := HC.out _ HB2.out
          clear hb2
          go_wp2
          go_region
          all_goals
            go_wp2
            go_ret
            exact ⟨rfl, HB2.out.drew⟩
      · have hvb : (z.version != z'.version) = true := by simpa using hv
        rw [Wch.chg_3 (Or.inl hv)]
        clear hv
        go_enter Tryd.func36, Tryd.ntmps36
        go_wp2_with fail
        refine (HF.out _ (Ext.refl _)).mono ?_
        rintro e w1 ⟨rfl, hb1⟩
        have HB1 : Hid (Ext w w1) := hb1
        clear hb1
        go_wp2_with fail
        refine (HF'.out _ HB1.out).mono ?_
        rintro e w2 ⟨rfl, hb2⟩
        have HB2 : Hid (Ext w w2) := HB1.out.trans hb2
        obtain ⟨⟨d1, d2⟩, e1, e2⟩ := HC.out _ HB2.out
        clear hb2
        go_wp2
        go_region
        all_goals
          go_wp2
          go_ret
          exact ⟨rfl, HB2.out.drew⟩
end Go.Proofs.YtgofggmgnodplaaDoor
