/- laws.FnExactPathFault, walked: it answers true at every text. -/
import Derived.Test.YtihfgaanaffinaaDoorW4
import Derived.Test.YtihfgaanaffinaaDoorS2
namespace Go.Proofs.YtihfgaanaffinaaDoor
open Go.RowKit

set_option maxHeartbeats 1000000 in
theorem lawPathFault (s : ByteArray) (w : World) (hg : Gd w) :
    Calls Tryd.prog 5 #[.string s] w fun e w' => e = .returned (.bool true) ∧ Ext w w' := by
  have HG : Hid (Gd w) := hg
  clear hg
  by_cases h : 1048576 < s.size
  · go_enter Tryd.func5, Tryd.ntmps5
    go_wp2
    go_ret
    exact ⟨rfl, Ext.refl _⟩
  · go_enter Tryd.func5, Tryd.ntmps5
    go_wp2_with fail
    refine (specFault_any s _).mono ?_
    rintro e w1 ⟨rfl, hb⟩
    have HB : Hid (Ext w w1) := hb
    clear hb
    go_wp2_with fail
    refine (pathFault_any s _ (HG.out.ext HB.out)).mono ?_
    rintro e w2 ⟨rfl, hb⟩
    have HB2 : Hid (Ext w1 w2) := hb
    clear hb
    generalize Pth.faultI s.data.toList = c
    go_wp2
    go_ret
    exact ⟨rfl, HB.out.trans HB2.out⟩
end Go.Proofs.YtihfgaanaffinaaDoor
