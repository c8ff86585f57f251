/- laws.FnExactIsUnder, walked: it answers true at every two texts. -/
import Derived.Test.YtihfgaanaffinaaDoorW6
namespace Go.Proofs.YtihfgaanaffinaaDoor
open Go.RowKit

set_option maxHeartbeats 1000000 in
theorem lawIsUnder (s m : ByteArray) (w : World) (hg : Gd w) :
    Calls Tryd.prog 9 #[.string s, .string m] w fun e w' => e = .returned (.bool true) ∧ Ext w w' := by
  have HG : Hid (Gd w) := hg
  clear hg
  by_cases h : 1048576 < s.size
  · go_enter Tryd.func9, Tryd.ntmps9
    go_wp2
    go_ret
    exact ⟨rfl, Ext.refl _⟩
  · by_cases h2 : 1048576 < m.size
    · go_enter Tryd.func9, Tryd.ntmps9
      go_wp2
      go_ret
      exact ⟨rfl, Ext.refl _⟩
    · have hms : m.size ≤ 1048576 := by omega
      have hS := specIsUnder_any s m
      have hI := isUnder_any s m
      generalize Pth.underV s.data.toList m.data.toList = x at *
      have HS : Hid (∀ w : World, m.size ≤ 1048576 → Calls Tryd.prog 23 #[.string s, .string m] w fun e w' => e = .returned (.bool x) ∧ Ext w w') := hS
      have HI : Hid (∀ w : World, Gd w → m.size ≤ 1048576 → Calls Tryd.prog 22 #[.string s, .string m] w fun e w' => e = .returned (.bool x) ∧ Ext w w') := hI
      clear hS hI
      cases x
      all_goals
        go_enter Tryd.func9, Tryd.ntmps9
        go_wp2_with fail
        refine (HS.out _ hms).mono ?_
        rintro e w1 ⟨rfl, hb⟩
        have HB : Hid (Ext w w1) := hb
        clear hb
        go_wp2_with fail
        refine (HI.out _ (by exact HG.out.ext HB.out) hms).mono ?_
        rintro e w2 ⟨rfl, hb⟩
        go_wp2
        go_ret
        exact ⟨rfl, HB.out.trans hb⟩
end Go.Proofs.YtihfgaanaffinaaDoor
