/- numberText: digits by the library's table of powers. -/
import Derived.Test.YtfgjodnjahhanaaDoorBase
import Derived.Test.YtfgjodnjahhanaaDoorSh
import Derived.Lib.SmallJoins
import Derived.Lib.AppendIntMem
namespace Go.Proofs.YtfgjodnjahhanaaDoor
open Go.RowKit
/-- The library's table of powers is as it is. -/
def Tb (w : World) : Prop := Lib.TabIs Tryd.prog w "internal/strconv.uint64pow10" .u64 Lib.pow10Tab
theorem gPow : Tryd.prog.globalNamed "internal/strconv.uint64pow10" = some 0 := by kernel_rfl
theorem Tb.ext {w w' : World} (h : Tb w) (he : Ext w w') : Tb w' := Joins.tab_stays gPow h he (Nat.le_refl _)
theorem formatInt_any (n : Int) (w : World) (h0 : -1 ≤ n) (h1 : n ≤ 99999) (ht : Tb w) : Calls Tryd.prog 34 #[.int .i64 n, .int .i64 10] w fun e w' => e = .returned (.string (mkB (Lib.itoa n))) ∧ Ext w w' :=
  (strconv_FormatInt_10 n (by omega) (by omega) w ht).mono fun _ _ ⟨he, k, os, hw⟩ => ⟨he, hw ▸ Lib.below_grow _ _ (Nat.le_refl _) _ _⟩
set_option maxHeartbeats 1000000 in
theorem numberText_any (n : Int) (w : World) (h0 : -1 ≤ n) (h1 : n ≤ 99999) (ht : Tb w) : Calls Tryd.prog 20 #[.int .i64 n] w fun e w' => e = .returned (.string (mkB (Lib.itoa n))) ∧ Ext w w' := by
  have HF : Hid (Calls Tryd.prog 34 #[.int .i64 n, .int .i64 10] w fun e w' => e = .returned (.string (mkB (Lib.itoa n))) ∧ Ext w w') := formatInt_any n w h0 h1 ht
  generalize mkB (Lib.itoa n) = s at *
  go_enter Tryd.func20, Tryd.ntmps20
  go_wp2_with fail
  refine HF.out.mono ?_
  rintro e w1 ⟨rfl, hb⟩
  go_wp2
  go_ret
  exact ⟨rfl, hb⟩
end Go.Proofs.YtfgjodnjahhanaaDoor
