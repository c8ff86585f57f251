/- laws.FnExactJoinPath, walked: it answers true at every two texts. -/
import Derived.Test.YtihfgaanaffinaaDoorW7
namespace Go.Proofs.YtihfgaanaffinaaDoor
open Go.RowKit

set_option maxHeartbeats 1000000 in
theorem lawJoinPath (s m : ByteArray) (w : World) (hg : Gd w) :
    Calls Tryd.prog 8 #[.string s, .string m] w fun e w' => e = .returned (.bool true) ∧ Ext w w' := by
  have HG : Hid (Gd w) := hg
  clear hg
  by_cases h : 1048576 < s.size
  · go_enter Tryd.func8, Tryd.ntmps8
    go_wp2
    go_ret
    exact ⟨rfl, Ext.refl _⟩
  · by_cases h2 : 1048576 < m.size
    · go_enter Tryd.func8, Tryd.ntmps8
      go_wp2
      go_ret
      exact ⟨rfl, Ext.refl _⟩
    · have hms : m.size ≤ 1048576 := by omega
      have hS := specJoinPath_any s m
      have hI := joinPath_any s m
      have hE := eqText_any (Pth.joinV s.data.toList m.data.toList)
      generalize Pth.joinV s.data.toList m.data.toList = x at *
      have HS : Hid (∀ w : World, m.size ≤ 1048576 → Calls Tryd.prog 20 #[.string s, .string m] w fun e w' => e = .returned (tr x) ∧ Ext w w') := hS
      have HI : Hid (∀ w : World, Gd w → m.size ≤ 1048576 → Calls Tryd.prog 19 #[.string s, .string m] w fun e w' => e = .returned (tr x) ∧ Ext w w') := hI
      have HE : Hid (∀ w : World, Calls Tryd.prog 35 #[tr x, tr x] w fun e w' => e = .returned (.bool true) ∧ Ext w w') := hE
      clear hS hI hE
      obtain ⟨c, t⟩ := x
      go_enter Tryd.func8, Tryd.ntmps8
      go_wp2_with fail
      refine (HS.out _ hms).mono ?_
      rintro e w1 ⟨rfl, hb⟩
      have HB : Hid (Ext w w1) := hb
      clear hb
      unfold tr
      go_wp2_with fail
      refine (HI.out _ (by exact (HG.out.ext HB.out).alloc _) hms).mono ?_
      rintro e w2 ⟨rfl, hb⟩
      have HB2 : Hid (Ext w1 w2) := ((Ext.refl _).alloc _).trans hb
      obtain ⟨hc, hf⟩ := Ext.cell hb
      have hlt : w1.heap.size < w2.heap.size := by have := hb.size; simp at this; omega
      have hal := alloc_cell
      clear hb
      unfold tr
      go_wp2_with fail
      refine (HE.out _).mono ?_
      rintro e w3 ⟨rfl, hb⟩
      go_wp2
      go_ret
      exact ⟨rfl, (HB.out.trans HB2.out).trans (((Ext.refl _).alloc _).trans hb)⟩
end Go.Proofs.YtihfgaanaffinaaDoor
