/- the text of a reply: mathematics; digits of -1; the specification's. -/
import Derived.Test.YtfgjodnjahhanaaDoorVvJ26
import Derived.Test.YtfgjodnjahhanaaDoorVvP4
import Derived.Deep.RegionHeld3
namespace Go.Proofs.YtfgjodnjahhanaaDoor
open Go.RowKit
namespace Rpy
def words (c r : Int) (p : ByteArray) : List (List UInt8) := [[99, 111, 100, 101], Lib.itoa c, Lib.itoa r] ++ (if p.size = 0 then [] else [p.data.toList])
def textV (c r : Int) (p : ByteArray) : Int × List UInt8 := if okY c r p = false then (3, []) else (0, Lib.join (words c r p) [32])
theorem textV_bad {c r : Int} {p : ByteArray} (h : okY c r p = false) : textV c r p = (3, []) := by unfold textV; rw [if_pos h]
theorem textV_ok {c r : Int} {p : ByteArray} (h : okY c r p = true) : textV c r p = (0, Lib.join (words c r p) [32]) := by unfold textV; rw [if_neg (by simp [h])]
theorem join3 (c r : Int) {p : ByteArray} (h : p.size = 0) : Lib.join (words c r p) [32] = [99, 111, 100, 101, 32] ++ Lib.itoa c ++ [32] ++ Lib.itoa r := by
  unfold words; rw [if_pos h, List.append_nil, Lib.join_cons]; simp [Lib.joinTail]
theorem join4 (c r : Int) {p : ByteArray} (h : ¬ p.size = 0) : Lib.join (words c r p) [32] = [99, 111, 100, 101, 32] ++ Lib.itoa c ++ [32] ++ Lib.itoa r ++ [32] ++ p.data.toList := by
  unfold words; rw [if_neg h]; simp only [List.cons_append, List.nil_append]; rw [Lib.join_cons]; simp [Lib.joinTail]
theorem ok_in {c r : Int} {p : ByteArray} (h : okY c r p = true) : 0 ≤ c ∧ c ≤ 10 ∧ -1 ≤ r ∧ r ≤ 9999 ∧ p.size ≤ 24 := by
  unfold okY at h
  simp only [Bool.and_eq_true, decide_eq_true_eq] at h
  omega
theorem empty_of {p : ByteArray} (h : p.size = 0) : p = ⟨#[]⟩ := by
  cases p with | mk d => exact congrArg _ (Array.eq_empty_of_size_eq_zero h)
end Rpy
set_option maxHeartbeats 2000000 in
set_option maxRecDepth 100000 in
theorem l1Digits_minus (w : World) : Calls Tryd.prog 31 #[.int .i64 (-1)] w fun e w' => e = .returned (.string (mkB (Lib.itoa (-1)))) ∧ Ext w w' := by
  have HD : Hid (∀ wx : World, Calls Tryd.prog 31 #[.int .i64 1] wx fun e w' => e = .returned (.string (mkB (Lib.itoa 1))) ∧ Ext wx w') := fun wx => digits_any 1 (by omega) (by omega) wx
  have e1 : mkB (Lib.itoa 1) = ⟨#[49]⟩ := by rw [show Lib.itoa 1 = Lib.decDigits 1 from Lib.itoa_nonneg 1, Lib.decDigits_one (by decide)]; rfl
  have e2 : mkB (Lib.itoa (-1)) = ⟨#[45, 49]⟩ := by rw [show Lib.itoa (-1) = 45 :: Lib.decDigits 1 from rfl, Lib.decDigits_one (by decide)]; rfl
  rw [e1] at HD
  rw [e2]
  have hA : ∀ W : World, (Op.stringOp .add ⟨#[45]⟩ ⟨#[49]⟩).run Tryd.prog W = .ok (.string ⟨#[45, 49]⟩) W := fun W => run_string_add W ⟨#[45]⟩ ⟨#[49]⟩ (by decide) (by decide)
  go_enter Tryd.func31, Tryd.ntmps31
  go_wp2_with fail
  refine (HD.out _).mono ?_
  rintro e w2 ⟨rfl, hb⟩
  have HB : Hid (Ext w w2) := hb
  clear hb
  go_wp2
  go_ret
  exact ⟨rfl, HB.out⟩
theorem digitsV_any (n : Int) (h0 : -1 ≤ n) (h1 : n ≤ 99999) (w : World) : Calls Tryd.prog 31 #[.int .i64 n] w fun e w' => e = .returned (.string (mkB (Lib.itoa n))) ∧ Ext w w' := by
  by_cases h : n = -1
  · subst h; exact l1Digits_minus w
  · exact digits_any n (by omega) h1 w

end Go.Proofs.YtfgjodnjahhanaaDoor
