/- laws.FnExactNameIn, walked: it answers true at every text. -/
import Derived.Test.YtihfgaanaffinaaDoorW5
import Derived.Test.YtihfgaanaffinaaDoorS4
namespace Go.Proofs.YtihfgaanaffinaaDoor
open Go.RowKit

set_option maxHeartbeats 1000000 in
theorem lawNameIn (s : ByteArray) (w : World) (hg : Gd w) :
    Calls Tryd.prog 7 #[.string s] w fun e w' => e = .returned (.bool true) ∧ Ext w w' := by
  have HG : Hid (Gd w) := hg
  clear hg
  by_cases h : 1048576 < s.size
  · go_enter Tryd.func7, Tryd.ntmps7
    go_wp2
    go_ret
    exact ⟨rfl, Ext.refl _⟩
  · have hS := specNameIn_any s
    have hI := nameIn_any s
    have hE := eqText_any (Pth.nameV s.data.toList)
    generalize Pth.nameV s.data.toList = x at *
    have HS : Hid (∀ w : World, Calls Tryd.prog 36 #[.string s] w fun e w' => e = .returned (tr x) ∧ Ext w w') := hS
    have HI : Hid (∀ w : World, Gd w → Calls Tryd.prog 25 #[.string s] w fun e w' => e = .returned (tr x) ∧ Ext w w') := hI
    have HE : Hid (∀ w : World, Calls Tryd.prog 35 #[tr x, tr x] w fun e w' => e = .returned (.bool true) ∧ Ext w w') := hE
    clear hS hI hE
    obtain ⟨c, t⟩ := x
    go_enter Tryd.func7, Tryd.ntmps7
    go_wp2_with fail
    refine (HS.out _).mono ?_
    rintro e w1 ⟨rfl, hb⟩
    have HB : Hid (Ext w w1) := hb
    clear hb
    unfold tr
    go_wp2_with fail
    refine (HI.out _ (by exact (HG.out.ext HB.out).alloc _)).mono ?_
    rintro e w2 ⟨rfl, hb⟩
    have HB2 : Hid (Ext w1 w2) := ((Ext.refl _).alloc _).trans hb
    obtain ⟨hc, hf⟩ := Ext.cell hb
    have hlt : w1.heap.size < w2.heap.size := by have := hb.size; simp at this; omega
    have hal := alloc_cell
    clear hb
    unfold tr
    go_wp2_with fail
    refine (HE.out _).mono ?_
    rintro e w3 ⟨rfl, hb⟩
    go_wp2
    go_ret
    exact ⟨rfl, (HB.out.trans HB2.out).trans (((Ext.refl _).alloc _).trans hb)⟩
end Go.Proofs.YtihfgaanaffinaaDoor
