/- The program's hasVersion, GetZ, SetZ. -/
import Derived.Test.YtmiffefnpendoaaGreatDoorI6
namespace Go.Proofs.YtmiffefnpendoaaGreatDoor
open Go.RowKit

theorem NodesAt.one {w : World} {b off k : Nat} {zs : List Zn} {z : Zn} (h : NodesAt w b off zs) (hz : zs[k]? = some z) : NodesAt w b (off + k * 5) [z] := by
  intro i y hy
  cases i with
  | zero => simp at hy; subst hy; simpa using h k z hz
  | succ i => simp at hy

namespace Tre
theorem asked_len {zs : List Zn} {p : ByteArray} (h : asked zs p = 0) : zs.length ≤ 20 ∧ Up zs ∧ 0 < zs.length ∧ ∀ z ∈ zs, z.path.size ≤ 24 := by
  obtain ⟨h1, _⟩ := asked_fault h
  refine ⟨(fault_nodes h1).1, fault_up h1, ?_, fun z hz => few_of_ok (fault_nums h1 z hz).1⟩
  rcases atI_range zs top with ⟨hm, _⟩ | ⟨k, z, _, hk, _, _⟩
  · have := (fault_hang h1).1; omega
  · omega
end Tre

set_option maxHeartbeats 1000000 in
set_option maxRecDepth 100000 in
theorem implGetZ_any (v : Value) (zs : List Zn) (p : ByteArray) (w : World) (hg : Gd w) (hS : NSlice w v zs) :
    Calls Tryz.prog 10 #[v, .string p] w (ZRet w (Tre.getT zs p).1 (Tre.getT zs p).2.1 (Tre.getT zs p).2.2) := by
  have HL : Hid (∀ wx : World, Ext w wx → Calls Tryz.prog 42 #[v, .string p] wx fun e w' => e = .returned (.int .i64 (Tre.asked zs p)) ∧ Ext wx w') := fun wx h => treeOrPath_any v zs p wx (hg.ext h) (hS.ext h)
  have HS : Hid (NSlice w v zs) := hS
  obtain ⟨a, cap, rfl, hlc, hcm, hx⟩ := hS
  have HX : Hid (0 < zs.length → ∃ b off, a = some ⟨b, off, none⟩ ∧ b < w.heap.size ∧ NodesAt w b off zs) := hx
  clear hx
  unfold maxLen at hcm
  by_cases h0 : Tre.asked zs p ≠ 0
  · rw [Tre.getT_bad rfl h0]
    generalize Tre.asked zs p = F at *
    go_enter Tryz.func10, Tryz.ntmps10
    go_wp2_with fail
    refine (HL.out _ ((Ext.refl _).alloc _)).mono ?_
    rintro e w2 ⟨rfl, hb⟩
    have HB : Hid (Ext w w2) := ((Ext.refl _).alloc _).trans hb
    have HQ : Hid (RBox w2 w.heap.size) := (RBox.new w _).ext hb
    clear hb
    obtain ⟨q, q0, q1, q2, f0, f1, f2⟩ := HQ.out
    go_wp2
    exact bodyPost_ret (v := zr F ⟨#[]⟩ (.slice none 0 0)) (by simp [results, Tryz.results10, go_sem, zr, q0, q1, q2]) rfl (zret_bad _ _ (HB.out.box3 _ _ _))
  have h00 : Tre.asked zs p = 0 := by omega
  rw [h00] at HL
  obtain ⟨h20, hU, hpos, h24⟩ := Tre.asked_len h00
  have HPl : Hid (∀ wx : World, Ext w wx → Calls Tryz.prog 48 #[.slice a zs.length cap, .string p] wx fun e w' => e = .returned (.tuple #[.int .i64 (Tre.cut zs p.data.toList : Nat), .bool (Tre.has zs p)]) ∧ Ext wx w') := fun wx h => placeOf_any _ zs p wx (HS.out.ext h) hU (by omega)
  cases hh : Tre.has zs p with
  | false =>
    rw [Tre.getT_none h00 (Tre.has_not hh)]
    rw [hh] at HPl
    generalize Tre.cut zs p.data.toList = k at *
    clear hU h24 hh
    go_enter Tryz.func10, Tryz.ntmps10
    go_wp2_with fail
    refine (HL.out _ ((Ext.refl _).alloc _)).mono ?_
    rintro e w2 ⟨rfl, hb⟩
    have HB : Hid (Ext w w2) := ((Ext.refl _).alloc _).trans hb
    have HQ : Hid (RBox w2 w.heap.size) := (RBox.new w _).ext hb
    clear hb
    go_wp2_with fail
    refine (HPl.out _ HB.out).mono ?_
    rintro e w3 ⟨rfl, hb⟩
    have HB3 : Hid (Ext w w3) := HB.out.trans hb
    obtain ⟨q, q0, q1, q2, f0, f1, f2⟩ := HQ.out.ext hb
    clear hb
    go_wp2
    exact bodyPost_ret (v := zr 4 ⟨#[]⟩ (.slice none 0 0)) (by simp [results, Tryz.results10, go_sem, zr, q0, q1, q2]) rfl (zret_bad _ _ (HB3.out.box3 _ _ _))
  | true =>
    obtain ⟨z, hat, hz, -⟩ := Tre.has_at hU hh
    rw [Tre.getT_ok h00 hat hz]
    rw [hh] at HPl
    have hkl := (List.getElem?_eq_some_iff.1 hz).1
    obtain ⟨b, off, rfl, hb, hN⟩ := HX.out (by omega)
    have HC : Hid (∀ wx : World, Ext w wx → Calls Tryz.prog 44 #[.slice (some ⟨b, off + Tre.cut zs p.data.toList * 5, none⟩) 1 (cap - Tre.cut zs p.data.toList)] wx fun e w' => ∃ v' g, e = .returned v' ∧ wx.heap.size ≤ g ∧ Own w' v' g [z] ∧ Ext wx w') := fun wx h =>
      copyNodes_any _ [z] wx ⟨_, cap - Tre.cut zs p.data.toList, rfl, by simp; omega, by unfold maxLen; omega, fun _ => ⟨b, _, rfl, Nat.lt_of_lt_of_le hb h.size, (hN.ext hb h).one hz⟩⟩ (by simp) (by simp) (fun y hy => by simp at hy; subst hy; have := h24 y (List.mem_of_getElem? hz); omega)
    generalize Tre.cut zs p.data.toList = k at *
    clear hU h24 hh hz hat hN
    go_enter Tryz.func10, Tryz.ntmps10
    go_wp2_with fail
    refine (HL.out _ ((Ext.refl _).alloc _)).mono ?_
    rintro e w2 ⟨rfl, hb⟩
    have HB : Hid (Ext w w2) := ((Ext.refl _).alloc _).trans hb
    have HQ : Hid (RBox w2 w.heap.size) := (RBox.new w _).ext hb
    clear hb
    go_wp2_with fail
    refine (HPl.out _ HB.out).mono ?_
    rintro e w3 ⟨rfl, hb⟩
    have HB3 : Hid (Ext w w3) := HB.out.trans hb
    have HQ3 : Hid (RBox w3 w.heap.size) := HQ.out.ext hb
    clear hb
    go_wp2_with fail
    refine (HC.out _ HB3.out).mono ?_
    rintro e w4 ⟨v4, g, rfl, hg4, hO, hb⟩
    obtain ⟨a4, cap4, rfl, -⟩ := id hO
    have HO : Hid (Own w4 (.slice a4 [z].length cap4) g [z]) := hO
    have HG : Hid (w.heap.size + 1 ≤ g) := by have := HQ3.out.1; show _ ≤ _; omega
    obtain ⟨q, q0, q1, q2, f0, f1, f2⟩ := HQ3.out.ext hb
    have HB4 : Hid (Ext w w4) := HB3.out.trans hb
    clear hb hO hg4
    go_wp2
    exact bodyPost_ret (v := zr 0 ⟨#[]⟩ (.slice a4 [z].length cap4)) (by simp [results, Tryz.results10, go_sem, zr, q0, q1, q2]) rfl (zret_own 0 ⟨#[]⟩ HO.out HG.out HB4.out _ _ _)
end Go.Proofs.YtmiffefnpendoaaGreatDoor
