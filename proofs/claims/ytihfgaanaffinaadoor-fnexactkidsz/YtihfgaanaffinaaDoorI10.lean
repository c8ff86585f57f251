/- The program's KidsZ. -/
import Derived.Test.YtihfgaanaffinaaDoorI9
namespace Go.Proofs.YtihfgaanaffinaaDoor
open Go.RowKit

set_option maxHeartbeats 1000000 in
set_option maxRecDepth 100000 in
theorem implKidsZ_any (v : Value) (zs : List Zn) (p : ByteArray) (w : World) (hg : Gd w) (hS : NSlice w v zs) :
    Calls Tryd.prog 53 #[v, .string p] w (XRet w (Tre.kidsV zs p).1 (Tre.kidsV zs p).2) := by
  have HL : Hid (∀ wx : World, Ext w wx → Calls Tryd.prog 74 #[v, .string p] wx fun e w' => e = .returned (.int .i64 (Tre.asked zs p)) ∧ Ext wx w') := fun wx h => treeOrPath_any v zs p wx (hg.ext h) (hS.ext h)
  have HS : Hid (NSlice w v zs) := hS
  have HG0 : Hid (Gd w) := hg
  obtain ⟨a, cap, rfl, hlc, hcm, hx⟩ := hS
  by_cases h0 : Tre.asked zs p ≠ 0
  · rw [Tre.kidsV_bad rfl h0]
    generalize Tre.asked zs p = F at *
    go_enter Tryd.func53, Tryd.ntmps53
    go_wp2_with fail
    refine (HL.out _ ((Ext.refl _).alloc _)).mono ?_
    rintro e w2 ⟨rfl, hb⟩
    have HB : Hid (Ext w w2) := ((Ext.refl _).alloc _).trans hb
    obtain ⟨q, q0, q1, f0, f1⟩ := (XBox.new w _).ext hb
    clear hb
    go_wp2
    exact bodyPost_ret (v := xr F (.slice none 0 0)) (by simp [results, Tryd.results53, go_sem, xr, q0, q1]) rfl (xret_bad _ (HB.out.box2 _ _))
  · have h00 : Tre.asked zs p = 0 := by omega
    rw [h00] at HL
    obtain ⟨h20, hU, hpos, h24⟩ := Tre.asked_len h00
    have HF : Hid (zs.length ≤ 1048576 ∧ ∀ z ∈ zs, Pth.faultI z.path.data.toList = 0) := ⟨by omega, fun z hz => (Tre.fault_nums (Tre.asked_fault h00).1 z hz).1⟩
    obtain ⟨b, off, rfl, hb, hN⟩ := hx hpos
    have HN : Hid (∀ wx : World, Ext w wx → Calls Tryd.prog 77 #[.slice (some ⟨b, off, none⟩) zs.length cap, .string p] wx fun e w' => e = .returned (ptrV b off zs p) ∧ Ext wx w') := fun wx h => findNode_any b off cap zs p wx (HS.out.ext h) hU (by omega)
    clear hx hN hb
    cases hh : Tre.has zs p with
    | false =>
      rw [Tre.kidsV_none h00 (Tre.has_not hh)]
      rw [ptrV_miss hh] at HN
      clear hh hU h24
      go_enter Tryd.func53, Tryd.ntmps53
      go_wp2_with fail
      refine (HL.out _ ((Ext.refl _).alloc _)).mono ?_
      rintro e w2 ⟨rfl, hb⟩
      have HB : Hid (Ext w w2) := ((Ext.refl _).alloc _).trans hb
      have HQ : Hid (XBox w2 w.heap.size) := (XBox.new w _).ext hb
      clear hb
      go_wp2_with fail
      refine (HN.out _ HB.out).mono ?_
      rintro e w3 ⟨rfl, hb⟩
      have HB3 : Hid (Ext w w3) := HB.out.trans hb
      obtain ⟨q, q0, q1, f0, f1⟩ := HQ.out.ext hb
      clear hb
      go_wp2
      exact bodyPost_ret (v := xr 4 (.slice none 0 0)) (by simp [results, Tryd.results53, go_sem, xr, q0, q1]) rfl (xret_bad _ (HB3.out.box2 _ _))
    | true =>
      have ha : ¬ Tre.atI zs p < 0 := by obtain ⟨z, h1, _⟩ := Tre.has_at hU hh; omega
      rw [Tre.kidsV_ok h00 ha]
      rw [ptrV_hit hh rfl] at HN
      have HK : Hid (∀ wx : World, Ext w wx → Calls Tryd.prog 96 #[.slice (some ⟨b, off, none⟩) zs.length cap, .string p] wx fun e w' => ∃ v' g, e = .returned v' ∧ wx.heap.size ≤ g ∧ TOwn w' v' g (Tre.kids zs p) ∧ Ext wx w') := fun wx h => kidNames_any _ zs p wx (HG0.out.ext h) (HS.out.ext h) HF.out.1 HF.out.2
      generalize Tre.kids zs p = rs at *
      generalize Tre.cut zs p.data.toList = k at *
      clear hh hU h24 ha
      go_enter Tryd.func53, Tryd.ntmps53
      go_wp2_with fail
      refine (HL.out _ ((Ext.refl _).alloc _)).mono ?_
      rintro e w2 ⟨rfl, hb⟩
      have HB : Hid (Ext w w2) := ((Ext.refl _).alloc _).trans hb
      have HQ : Hid (XBox w2 w.heap.size) := (XBox.new w _).ext hb
      clear hb
      go_wp2_with fail
      refine (HN.out _ HB.out).mono ?_
      rintro e w3 ⟨rfl, hb⟩
      have HB3 : Hid (Ext w w3) := HB.out.trans hb
      have HQ3 : Hid (XBox w3 w.heap.size) := HQ.out.ext hb
      clear hb
      go_wp2_with fail
      refine (HK.out _ HB3.out).mono ?_
      rintro e w4 ⟨v3, g, rfl, hg, hO, hb⟩
      obtain ⟨a3, cap3, rfl, -⟩ := id hO
      have HO : Hid (TOwn w4 (.slice a3 rs.length cap3) g rs) := hO
      have HG : Hid (w.heap.size + 1 ≤ g) := by have := HQ3.out.1; show _ ≤ _; omega
      obtain ⟨q, q0, q1, f0, f1⟩ := HQ3.out.ext hb
      have HB4 : Hid (Ext w w4) := HB3.out.trans hb
      clear hb hO hg
      go_wp2
      exact bodyPost_ret (v := xr 0 (.slice a3 rs.length cap3)) (by simp [results, Tryd.results53, go_sem, xr, q0, q1]) rfl (xret_own 0 HO.out HG.out HB4.out _ _)
end Go.Proofs.YtihfgaanaffinaaDoor
