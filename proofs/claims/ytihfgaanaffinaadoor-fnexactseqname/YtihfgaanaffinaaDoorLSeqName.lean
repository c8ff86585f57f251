/- laws.FnExactSeqName, walked: it answers true at every text and number. -/
import Derived.Test.YtihfgaanaffinaaDoorW9
namespace Go.Proofs.YtihfgaanaffinaaDoor
open Go.RowKit

set_option maxHeartbeats 1000000 in
theorem lawSeqName (s : ByteArray) (n : Int) (w : World) :
    Calls Tryd.prog 11 #[.string s, .int .i64 n] w fun e w' => e = .returned (.bool true) ∧ Ext w w' := by
  by_cases h : 1048576 < s.size
  · go_enter Tryd.func11, Tryd.ntmps11
    go_wp2
    go_ret
    exact ⟨rfl, Ext.refl _⟩
  · have hs : s.size ≤ 1048576 := by omega
    have hS := specSeqName_any s n
    have hI := seqName_any s n
    have hE := eqText_any (Pth.seqV s.data.toList n)
    generalize Pth.seqV s.data.toList n = x at *
    have HS : Hid (∀ w : World, s.size ≤ 1048576 → Calls Tryd.prog 39 #[.string s, .int .i64 n] w fun e w' => e = .returned (tr x) ∧ Ext w w') := hS
    have HI : Hid (∀ w : World, s.size ≤ 1048576 → Calls Tryd.prog 40 #[.string s, .int .i64 n] w fun e w' => e = .returned (tr x) ∧ Ext w w') := hI
    have HE : Hid (∀ w : World, Calls Tryd.prog 35 #[tr x, tr x] w fun e w' => e = .returned (.bool true) ∧ Ext w w') := hE
    clear hS hI hE
    obtain ⟨c, t⟩ := x
    go_enter Tryd.func11, Tryd.ntmps11
    go_wp2_with fail
    refine (HS.out _ hs).mono ?_
    rintro e w1 ⟨rfl, hb⟩
    have HB : Hid (Ext w w1) := hb
    clear hb
    unfold tr
    go_wp2_with fail
    refine (HI.out _ hs).mono ?_
    rintro e w2 ⟨rfl, hb⟩
    have HB2 : Hid (Ext w1 w2) := ((Ext.refl _).alloc _).trans hb
    obtain ⟨hc, hf⟩ := Ext.cell hb
    have hlt : w1.heap.size < w2.heap.size := by have := hb.size; simp at this; omega
    have hal := alloc_cell
    clear hb
    unfold tr
    go_wp2_with fail
    refine (HE.out _).mono ?_
    rintro e w3 ⟨rfl, hb⟩
    go_wp2
    go_ret
    exact ⟨rfl, (HB.out.trans HB2.out).trans (((Ext.refl _).alloc _).trans hb)⟩
end Go.Proofs.YtihfgaanaffinaaDoor
