/- RequestText of the program, at every request. -/
import Derived.Test.YtdfokjjkhabneaaGreatDoorU2
namespace Go.Proofs.YtdfokjjkhabneaaGreatDoor
open Go.RowKit
set_option maxHeartbeats 2000000 in
set_option maxRecDepth 100000 in
theorem implRequestText_any (r : Rq) (v : Value) (w : World) (hg : Gd w) (ht : Tb w) (hS : OSlice w v r.ops) : Calls Tryz.prog 14 #[ragg r v] w fun e w' => e = .returned (tr (Opr.textRV r)) ∧ Ext w w' := by
  by_cases hf : Opr.faultR r = 0
  · rw [Opr.textRV_ok hf]
    exact implRequestText_ok r v w hg ht hS hf
  · rw [Opr.textRV_bad rfl hf]
    have HF : Hid (∀ wx : World, Ext w wx → Calls Tryz.prog 15 #[ragg r v] wx fun e w' => e = .returned (.int .i64 (Opr.faultR r)) ∧ Ext wx w') := fun wx he => implRequestFault_any r v wx (hg.ext he) (hS.ext he)
    obtain ⟨a, cap, rfl, -, -, -⟩ := hS
    clear hg ht
    generalize Opr.faultR r = c at *
    have hcb : (c != 0) = true := by simpa using hf
    unfold ragg at *
    unfold tr
    go_enter Tryz.func14, Tryz.ntmps14
    go_wp2_with fail
    refine (HF.out _ (((Ext.refl _).alloc _).alloc _)).mono ?_
    rintro e w1 ⟨rfl, hb⟩
    have HB : Hid (Ext w w1) := (((Ext.refl _).alloc _).alloc _).trans hb
    have HT0 := (tbox_new (w.alloc _) 0 ⟨#[]⟩ _).ext hb
    rw [World.size_alloc] at HT0
    obtain ⟨t0, t1, t2, t3, t4⟩ := HT0
    clear hb
    go_wp2
    exact bodyPost_ret (v := tr (c, [])) (by simp [results, Tryz.results14, go_sem, tr, mkB, *]) rfl ⟨rfl, (HB.out.setCell (by simp) _).setCell (by simp) _⟩
end Go.Proofs.YtdfokjjkhabneaaGreatDoor
