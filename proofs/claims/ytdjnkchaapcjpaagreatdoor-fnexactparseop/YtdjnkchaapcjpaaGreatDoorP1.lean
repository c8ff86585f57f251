/- the text of an operation: what it is; numberText, versionText, deedOf of the program. -/
import Derived.Test.YtdjnkchaapcjpaaGreatDoorO6
import Derived.Test.YtdjnkchaapcjpaaGreatDoorSh
import Derived.Lib.SmallJoins
import Derived.Lib.AppendIntMem
namespace Go.Proofs.YtdjnkchaapcjpaaGreatDoor
open Go.RowKit
/-- The library's table of powers is as it is. -/
def Tb (w : World) : Prop := Lib.TabIs Tryz.prog w "internal/strconv.uint64pow10" .u64 Lib.pow10Tab
theorem gPow : Tryz.prog.globalNamed "internal/strconv.uint64pow10" = some 2 := by kernel_rfl
theorem Tb.ext {w w' : World} (h : Tb w) (he : Ext w w') : Tb w' := Joins.tab_stays gPow h he (Nat.le_refl _)
theorem formatInt_any (n : Int) (w : World) (h0 : -1 ≤ n) (h1 : n ≤ 99999) (ht : Tb w) : Calls Tryz.prog 142 #[.int .i64 n, .int .i64 10] w fun e w' => e = .returned (.string (mkB (Lib.itoa n))) ∧ Ext w w' :=
  (strconv_FormatInt_10 n (by omega) (by omega) w ht).mono fun _ _ ⟨he, k, os, hw⟩ => ⟨he, hw ▸ Lib.below_grow _ _ (Nat.le_refl _) _ _⟩
set_option maxHeartbeats 1000000 in
theorem numberText_any (n : Int) (w : World) (h0 : -1 ≤ n) (h1 : n ≤ 99999) (ht : Tb w) : Calls Tryz.prog 78 #[.int .i64 n] w fun e w' => e = .returned (.string (mkB (Lib.itoa n))) ∧ Ext w w' := by
  have HF : Hid (Calls Tryz.prog 142 #[.int .i64 n, .int .i64 10] w fun e w' => e = .returned (.string (mkB (Lib.itoa n))) ∧ Ext w w') := formatInt_any n w h0 h1 ht
  generalize mkB (Lib.itoa n) = s at *
  go_enter Tryz.func78, Tryz.ntmps78
  go_wp2_with fail
  refine HF.out.mono ?_
  rintro e w1 ⟨rfl, hb⟩
  go_wp2
  go_ret
  exact ⟨rfl, hb⟩
namespace Opr
def verT (v : Int) : List UInt8 := if v < 0 then [97, 110, 121] else Lib.itoa v
def word (k : Int) : List UInt8 :=
  if k = 1 then [111, 112, 101, 110] else if k = 2 then [99, 108, 111, 115, 101] else if k = 3 then [99, 114, 101, 97, 116, 101] else if k = 4 then [100, 101, 108, 101, 116, 101]
  else if k = 5 then [115, 101, 116] else if k = 6 then [103, 101, 116] else if k = 7 then [107, 105, 100, 115] else [99, 104, 101, 99, 107]
def seqW : List UInt8 := [115, 101, 113]
def ownW : List UInt8 := [111, 119, 110]
def words (o : Opn) : List (List UInt8) :=
  word o.kind :: ((if hasPath o.kind then [o.path.data.toList] else []) ++ ((if hasData o.kind then [Lib.itoa o.data] else []) ++ ((if hasVer o.kind then [verT o.version] else []) ++ ((if o.seq then [seqW] else []) ++ (if o.own then [ownW] else [])))))
def text (o : Opn) : List UInt8 := Lib.join (words o) [32]
def textV (o : Opn) : Int × List UInt8 := if fault o ≠ 0 then (fault o, []) else (0, text o)
end Opr
set_option maxHeartbeats 1000000 in
theorem versionText_any (v : Int) (w : World) (h0 : -1 ≤ v) (h1 : v ≤ 999) (ht : Tb w) : Calls Tryz.prog 133 #[.int .i64 v] w fun e w' => e = .returned (.string (mkB (Opr.verT v))) ∧ Ext w w' := by
  by_cases h : v = -1
  · subst h
    go_enter Tryz.func133, Tryz.ntmps133
    go_wp2
    go_ret
    exact ⟨rfl, Ext.refl _⟩
  · have hb : (v == -1) = false := by simpa using h
    have HF : Hid (Calls Tryz.prog 78 #[.int .i64 v] w fun e w' => e = .returned (.string (mkB (Opr.verT v))) ∧ Ext w w') := by
      unfold Opr.verT; rw [if_neg (by omega)]; exact numberText_any v w h0 (by omega) ht
    generalize mkB (Opr.verT v) = s at *
    go_enter Tryz.func133, Tryz.ntmps133
    go_wp2_with fail
    refine HF.out.mono ?_
    rintro e w1 ⟨rfl, hb1⟩
    go_wp2
    go_ret
    exact ⟨rfl, hb1⟩
end Go.Proofs.YtdjnkchaapcjpaaGreatDoor
