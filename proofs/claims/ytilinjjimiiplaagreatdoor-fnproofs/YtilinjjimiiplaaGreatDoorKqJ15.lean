/- I6, I7, I11, in one text. -/
import Derived.Test.YtilinjjimiiplaaGreatDoorKqJ14
import Derived.Test.YtilinjjimiiplaaGreatDoorKqJ12
import Derived.Lib.SliceRun
import Derived.Laws.IdiomCopy
import Derived.Deep.RegionLaw
namespace Go.Proofs.YtilinjjimiiplaaGreatDoor
open Go.RowKit
set_option maxHeartbeats 1000000 in
set_option maxRecDepth 100000 in
theorem cloneZ_any (v : Value) (zs : List Zn) (w : World) (hS : NSlice w v zs) (hl : zs.length ≤ 1048576) (hp : 0 < zs.length) :
    Calls Tryz.prog 49 #[v] w fun e w' => ∃ v' g, e = .returned v' ∧ w.heap.size ≤ g ∧ Own w' v' g zs ∧ Ext w w' := by
  have hi9 : (Tryz.prog.info? 38).map (fun i => (i.zero, i.size, i.bytes)) = some (some (.agg #[.string ByteArray.empty, .int .i64 0, .int .i64 0, .int .i64 0, .int .i64 0]), 5, 48) := by kernel_rfl
  obtain ⟨i0, hi, hx⟩ := Option.map_eq_some_iff.1 hi9
  simp only [Prod.mk.injEq] at hx
  obtain ⟨hz0, hz1, hz2⟩ := hx
  clear hi9
  obtain ⟨a, cap, rfl, hlc, hcm, hx⟩ := hS
  obtain ⟨b, off, rfl, hb, hN⟩ := hx hp
  have HN : Hid (NodesAt (w.alloc (.cells #[] 38)) b off zs) := hN.ext hb ((Ext.refl _).alloc _)
  clear hN hx
  unfold maxLen at hcm
  have HO : Hid ((w.alloc (.cells #[] 38)).ownsRow w.heap.size 38 5 (.slice (some ⟨w.heap.size, 0, none⟩) 0 0) 0 []) := World.ownsRow_made w #[] 0 (Nat.le_refl _) (by unfold maxLen; omega) rfl
  have q22 : ∀ (w : World) (a : Option Addr) (n c n' c' : Nat), (binOp .eql 24 (.slice a n c) (.slice none n' c')).run Tryz.prog w = .ok (.bool a.isNone) w := fun w a n c n' c' => Lib.run_eql_slice_nil w _ _ a n c n' c' Tryz.underlying24
  go_enter Tryz.func49, Tryz.ntmps49
  go_wp2_with (at_builtin; go_must (refine wpList_append_own _ rfl _ _ 24 rfl w.heap.size 38 i0 (.agg #[.string ByteArray.empty, .int .i64 0, .int .i64 0, .int .i64 0, .int .i64 0]) 5 48 Tryz.underlying24 hi hz0 hz1 hz2 rfl (by decide) _ 0 [] rfl HO.out ⟨b, off, none⟩ zs.length cap (cellsZ zs) rfl (cellsZ_length zs) HN.out.news (cellsZ_one zs) (by unfold maxLen; omega) (by omega) (by simp) ?_; intro v' w3 hown' hgrow3 hnil3))
  have hown2 : w3.ownsRow w.heap.size 38 5 v' zs.length (cellsZ zs) := by simpa using hown'
  obtain ⟨g, hg, hO⟩ := Own.of_row hown2
  have HE : Ext w w3 := ((Below.refl _ _).alloc (Nat.le_refl _) _).grown hgrow3 (by simp) (fun q hq => (HO.out.lt q hq).1)
  go_ret
  exact ⟨_, g, rfl, hg, hO, HE⟩

theorem List.set_getElem?_self' {α : Type} {l : List α} {k : Nat} {z : α} (h : l[k]? = some z) : l.set k z = l := by
  apply List.ext_getElem?
  intro i
  rw [List.getElem?_set]
  split
  · rename_i hi; subst hi; rw [h]; split
    · rfl
    · rename_i hn; exact absurd (List.getElem?_eq_some_iff.1 h).1 hn
  · rfl

set_option maxHeartbeats 1000000 in
set_option maxRecDepth 100000 in
theorem copyNodes_any (v : Value) (zs : List Zn) (w : World) (hS : NSlice w v zs) (hl : zs.length ≤ 1048576) (hp : 0 < zs.length) (hz : ∀ z ∈ zs, z.path.size ≤ 1048576) :
    Calls Tryz.prog 25 #[v] w fun e w' => ∃ v' g, e = .returned v' ∧ w.heap.size ≤ g ∧ Own w' v' g zs ∧ Ext w w' := by
  have HL : Hid (∀ wx : World, Ext w wx → Calls Tryz.prog 49 #[v] wx fun e w' => ∃ v' g, e = .returned v' ∧ wx.heap.size ≤ g ∧ Own w' v' g zs ∧ Ext wx w') := fun wx h => cloneZ_any v zs wx (hS.ext h) hl hp
  have HZ : Hid (∀ z ∈ zs, z.path.size ≤ 1048576) := hz
  clear hz
  obtain ⟨a, cap, rfl, -⟩ := hS
  go_enter Tryz.func25, Tryz.ntmps25
  go_wp2_with fail
  refine (HL.out _ (Ext.refl _)).mono ?_
  rintro e w2 ⟨v2, g, rfl, hg, hO, hb⟩
  obtain ⟨a2, cap2, rfl, hlc2, hcm2, hx2⟩ := id hO
  obtain ⟨off, rfl, -, -⟩ := hx2 hp
  have HO : Hid (Own w2 (.slice (some ⟨g, off, none⟩) zs.length cap2) g zs) := hO
  have HE : Hid (Ext w w2) := hb
  have HG : Hid (w.heap.size ≤ g) := hg
  clear hb hO hx2 hg
  unfold maxLen at hcm2
  go_wp2
  go_loopw [9] (fun i wr => ∃ (k : Nat), k ≤ zs.length ∧ i = .int .i64 k ∧ Hid (Own wr (.slice (some ⟨g, off, none⟩) zs.length cap2) g zs) ∧ Hid (Ext w wr)) (fun i _ => zs.length - (intOf i).toNat)
  case atStart => exact ⟨0, Nat.zero_le _, rfl, HO.out, HE.out⟩
  case round =>
    clear HO HE
    obtain ⟨k, hk, rfl, HO, HE⟩ := hrel
    by_cases hlt : k < zs.length
    · obtain ⟨z, hzk⟩ : ∃ z, zs[k]? = some z := ⟨_, List.getElem?_eq_getElem hlt⟩
      have HK : Hid (zs[k]? = some z) := hzk
      obtain ⟨a3, cap3, he, -, -, hx3⟩ := id HO.out
      injection he with e1 e2 e3
      subst e1 e3
      obtain ⟨off3, ho, hR, hN⟩ := hx3 hp
      injection ho with ho
      injection ho with _ ho _
      subst ho
      obtain ⟨d0, -, -, -, -⟩ := hN k z hzk
      have hf := (hR.2 (k * 5) (by omega)).2
      have HC : Hid (∀ wx : World, Calls Tryz.prog 50 #[.string z.path] wx fun e w' => e = .returned (.string z.path) ∧ Ext wx w') := fun wx => clone_any z.path wx (HZ.out z (List.mem_of_getElem? hzk))
      have HF : Hid (wr.frozen? ⟨g, off + k * 5, none⟩ = false) := hf
      have HLt : Hid (g < wr.heap.size) := hR.1
      clear hzk hx3 hR hN hf
      go_wp2_with fail
      refine (HC.out _).mono ?_
      rintro e w3 ⟨rfl, hb⟩
      have HO3 : Hid (Own w3 (.slice (some ⟨g, off, none⟩) zs.length cap2) g zs) := HO.out.ext hb
      have HE3 : Hid (Ext w w3) := HE.out.trans hb
      have d3 := (Below.cell hb (p := ⟨g, off + k * 5, none⟩) HLt.out).trans d0
      have f3 := (Below.frozen hb (p := ⟨g, off + k * 5, none⟩) HLt.out).trans HF.out
      clear hb d0
      go_wp2
      have HO4 : Hid (Own (w3.setCell ⟨g, off + k * 5, none⟩ (.string z.path)) (.slice (some ⟨g, off, none⟩) zs.length cap2) g zs) := by
        have h := HO3.out.field HK.out 0 (by omega) (.string z.path) z rfl
        rw [List.set_getElem?_self' HK.out] at h
        exact h
      exact ⟨⟨k + 1, by omega, by go_num, HO4, HE3.out.setCell (p := ⟨g, off + k * 5, none⟩) HG.out _⟩, by simp [intOf]; omega⟩
    · go_wp2
      go_ret
      exact ⟨_, g, rfl, HG.out, HO.out, HE.out⟩
end Go.Proofs.YtilinjjimiiplaaGreatDoor
namespace Go.Proofs.YtilinjjimiiplaaGreatDoor
open Go.RowKit
theorem NodesAt.one {w : World} {b off k : Nat} {zs : List Zn} {z : Zn} (h : NodesAt w b off zs) (hz : zs[k]? = some z) : NodesAt w b (off + k * 5) [z] := by
  intro i y hy
  cases i with
  | zero => simp at hy; subst hy; simpa using h k z hz
  | succ i => simp at hy

namespace Tre
theorem asked_len {zs : List Zn} {p : ByteArray} (h : asked zs p = 0) : zs.length ≤ 20 ∧ Up zs ∧ 0 < zs.length ∧ ∀ z ∈ zs, z.path.size ≤ 24 := by
  obtain ⟨h1, _⟩ := asked_fault h
  refine ⟨(fault_nodes h1).1, fault_up h1, ?_, fun z hz => few_of_ok (fault_nums h1 z hz).1⟩
  rcases atI_range zs top with ⟨hm, _⟩ | ⟨k, z, _, hk, _, _⟩
  · have := (fault_hang h1).1; omega
  · omega
end Tre
set_option maxHeartbeats 1000000 in
set_option maxRecDepth 100000 in
theorem implGetZ_any (v : Value) (zs : List Zn) (p : ByteArray) (w : World) (hg : Gd w) (hS : NSlice w v zs) :
    Calls Tryz.prog 8 #[v, .string p] w (ZRet w (Tre.getT zs p).1 (Tre.getT zs p).2.1 (Tre.getT zs p).2.2) := by
  have HL : Hid (∀ wx : World, Ext w wx → Calls Tryz.prog 16 #[v, .string p] wx fun e w' => e = .returned (.int .i64 (Tre.asked zs p)) ∧ Ext wx w') := fun wx h => treeOrPath_any v zs p wx (hg.ext h) (hS.ext h)
  have HS : Hid (NSlice w v zs) := hS
  obtain ⟨a, cap, rfl, hlc, hcm, hx⟩ := hS
  have HX : Hid (0 < zs.length → ∃ b off, a = some ⟨b, off, none⟩ ∧ b < w.heap.size ∧ NodesAt w b off zs) := hx
  clear hx
  unfold maxLen at hcm
  by_cases h0 : Tre.asked zs p ≠ 0
  · rw [Tre.getT_bad rfl h0]
    generalize Tre.asked zs p = F at *
    go_enter Tryz.func8, Tryz.ntmps8
    go_wp2_with fail
    refine (HL.out _ ((Ext.refl _).alloc _)).mono ?_
    rintro e w2 ⟨rfl, hb⟩
    have HB : Hid (Ext w w2) := ((Ext.refl _).alloc _).trans hb
    have HQ : Hid (RBox w2 w.heap.size) := (RBox.new w _).ext hb
    clear hb
    obtain ⟨q, q0, q1, q2, f0, f1, f2⟩ := HQ.out
    go_wp2
    exact bodyPost_ret (v := zr F ⟨#[]⟩ (.slice none 0 0)) (by simp [results, Tryz.results8, go_sem, zr, q0, q1, q2]) rfl (zret_bad _ _ (HB.out.box3 _ _ _))
  have h00 : Tre.asked zs p = 0 := by omega
  rw [h00] at HL
  obtain ⟨h20, hU, hpos, h24⟩ := Tre.asked_len h00
  have HPl : Hid (∀ wx : World, Ext w wx → Calls Tryz.prog 17 #[.slice a zs.length cap, .string p] wx fun e w' => e = .returned (.tuple #[.int .i64 (Tre.cut zs p.data.toList : Nat), .bool (Tre.has zs p)]) ∧ Ext wx w') := fun wx h => placeOf_any _ zs p wx (HS.out.ext h) hU (by omega)
  cases hh : Tre.has zs p with
  | false =>
    rw [Tre.getT_none h00 (Tre.has_not hh)]
    rw [hh] at HPl
    generalize Tre.cut zs p.data.toList = k at *
    clear hU h24 hh
    go_enter Tryz.func8, Tryz.ntmps8
    go_wp2_with fail
    refine (HL.out _ ((Ext.refl _).alloc _)).mono ?_
    rintro e w2 ⟨rfl, hb⟩
    have HB : Hid (Ext w w2) := ((Ext.refl _).alloc _).trans hb
    have HQ : Hid (RBox w2 w.heap.size) := (RBox.new w _).ext hb
    clear hb
    go_wp2_with fail
    refine (HPl.out _ HB.out).mono ?_
    rintro e w3 ⟨rfl, hb⟩
    have HB3 : Hid (Ext w w3) := HB.out.trans hb
    obtain ⟨q, q0, q1, q2, f0, f1, f2⟩ := HQ.out.ext hb
    clear hb
    go_wp2
    exact bodyPost_ret (v := zr 4 ⟨#[]⟩ (.slice none 0 0)) (by simp [results, Tryz.results8, go_sem, zr, q0, q1, q2]) rfl (zret_bad _ _ (HB3.out.box3 _ _ _))
  | true =>
    obtain ⟨z, hat, hz, -⟩ := Tre.has_at hU hh
    rw [Tre.getT_ok h00 hat hz]
    rw [hh] at HPl
    have hkl := (List.getElem?_eq_some_iff.1 hz).1
    obtain ⟨b, off, rfl, hb, hN⟩ := HX.out (by omega)
    have HC : Hid (∀ wx : World, Ext w wx → Calls Tryz.prog 25 #[.slice (some ⟨b, off + Tre.cut zs p.data.toList * 5, none⟩) 1 (cap - Tre.cut zs p.data.toList)] wx fun e w' => ∃ v' g, e = .returned v' ∧ wx.heap.size ≤ g ∧ Own w' v' g [z] ∧ Ext wx w') := fun wx h =>
      copyNodes_any _ [z] wx ⟨_, cap - Tre.cut zs p.data.toList, rfl, by simp; omega, by unfold maxLen; omega, fun _ => ⟨b, _, rfl, Nat.lt_of_lt_of_le hb h.size, (hN.ext hb h).one hz⟩⟩ (by simp) (by simp) (fun y hy => by simp at hy; subst hy; have := h24 y (List.mem_of_getElem? hz); omega)
    generalize Tre.cut zs p.data.toList = k at *
    clear hU h24 hh hz hat hN
    go_enter Tryz.func8, Tryz.ntmps8
    go_wp2_with fail
    refine (HL.out _ ((Ext.refl _).alloc _)).mono ?_
    rintro e w2 ⟨rfl, hb⟩
    have HB : Hid (Ext w w2) := ((Ext.refl _).alloc _).trans hb
    have HQ : Hid (RBox w2 w.heap.size) := (RBox.new w _).ext hb
    clear hb
    go_wp2_with fail
    refine (HPl.out _ HB.out).mono ?_
    rintro e w3 ⟨rfl, hb⟩
    have HB3 : Hid (Ext w w3) := HB.out.trans hb
    have HQ3 : Hid (RBox w3 w.heap.size) := HQ.out.ext hb
    clear hb
    go_wp2_with fail
    refine (HC.out _ HB3.out).mono ?_
    rintro e w4 ⟨v4, g, rfl, hg4, hO, hb⟩
    obtain ⟨a4, cap4, rfl, -⟩ := id hO
    have HO : Hid (Own w4 (.slice a4 [z].length cap4) g [z]) := hO
    have HG : Hid (w.heap.size + 1 ≤ g) := by have := HQ3.out.1; show _ ≤ _; omega
    obtain ⟨q, q0, q1, q2, f0, f1, f2⟩ := HQ3.out.ext hb
    have HB4 : Hid (Ext w w4) := HB3.out.trans hb
    clear hb hO hg4
    go_wp2
    exact bodyPost_ret (v := zr 0 ⟨#[]⟩ (.slice a4 [z].length cap4)) (by simp [results, Tryz.results8, go_sem, zr, q0, q1, q2]) rfl (zret_own 0 ⟨#[]⟩ HO.out HG.out HB4.out _ _ _)
end Go.Proofs.YtilinjjimiiplaaGreatDoor
namespace Go.Proofs.YtilinjjimiiplaaGreatDoor
open Go.RowKit
theorem size_setCells (g : Nat) : ∀ (cs : List Value) (o : Nat) (w : World), (w.setCells g o cs).heap.size = w.heap.size
  | [], _, _ => rfl
  | _ :: cs, o, w => (size_setCells g cs (o + 1) _).trans (by simp)
theorem isSome_setC (g : Nat) (cs : List Value) (o : Nat) (w : World) (k : Nat) (h : ∃ u, w.cell? ⟨g, k, none⟩ = some u) (hall : ∀ j, j < cs.length → (w.cell? ⟨g, o + j, none⟩).isSome = true) : ∃ u, (w.setCells g o cs).cell? ⟨g, k, none⟩ = some u := by
  by_cases hh : k < o ∨ o + cs.length ≤ k
  · rw [World.cell?_setCells_out g cs o w _ (fun _ _ => hh)]; exact h
  · obtain ⟨j, rfl⟩ : ∃ j, k = o + j := ⟨k - o, by omega⟩
    exact ⟨_, World.cell?_setCells_in g cs o w hall j (by omega)⟩
theorem Room.setCells {w : World} {g off n : Nat} (h : Room w g off n) (o : Nat) (cs : List Value) (hall : ∀ j, j < cs.length → (w.cell? ⟨g, o + j, none⟩).isSome = true) : Room (w.setCells g o cs) g off n :=
  ⟨by rw [size_setCells]; exact h.1, fun j hj => ⟨isSome_setC g cs o w _ (h.2 j hj).1 hall, by rw [World.frozen?_setCells]; exact (h.2 j hj).2⟩⟩
theorem NodesAt.take {w : World} {b off : Nat} {zs : List Zn} (h : NodesAt w b off zs) (k : Nat) : NodesAt w b off (zs.take k) := by
  intro i z hz
  rw [List.getElem?_take] at hz
  split at hz
  · exact h i z hz
  · cases hz
theorem NodesAt.drop {w : World} {b off : Nat} {zs : List Zn} (h : NodesAt w b off zs) (k : Nat) : NodesAt w b (off + k * 5) (zs.drop k) := by
  intro i z hz
  rw [List.getElem?_drop] at hz
  have := h (k + i) z hz
  rw [show off + (k + i) * 5 = off + k * 5 + i * 5 from by omega] at this
  exact this
theorem Room.some {w : World} {g off n : Nat} (h : Room w g off n) (o m : Nat) (h1 : off ≤ o) (h2 : o + m ≤ off + n * 5) : ∀ j, j < m → (w.cell? ⟨g, o + j, none⟩).isSome = true ∧ w.frozen? ⟨g, o + j, none⟩ = false := by
  intro j hj
  obtain ⟨⟨u, hu⟩, hf⟩ := h.2 (o + j - off) (by omega)
  rw [show off + (o + j - off) = o + j from by omega] at hu hf
  exact ⟨by rw [hu]; rfl, hf⟩
end Go.Proofs.YtilinjjimiiplaaGreatDoor
