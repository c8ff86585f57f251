/- The leaves of chapter 1's reading of paths: what isNameByte, strings.Count at one byte and hasTooMany answer. -/
import Derived.Test.YtmiffefnpendoaaGreatDoorProg
import Derived.Test.YtmiffefnpendoaaGreatDoorBase
namespace Go.Proofs.YtmiffefnpendoaaGreatDoor
open Go.RowKit

set_option maxHeartbeats 400000 in
theorem isNameByte_any (n : Int) (w : World) :
    Calls Tryz.prog 115 #[.int .u8 n] w fun e w' => e = .returned (.bool (nbI n)) ∧ w' = w := by
  go_enter Tryz.func115, Tryz.ntmps115
  go_wp2
  all_goals (go_ret; refine ⟨ret_bool ?_, rfl⟩; unfold nbI; rw [Bool.eq_iff_iff]; simp; omega)

set_option maxHeartbeats 400000 in
theorem count_any (s : ByteArray) (w : World) :
    Calls Tryz.prog 150 #[.string s, .string ⟨#[47]⟩] w fun e w' => e = .returned (.int .i64 (s.data.toList.count 47 : Nat)) ∧ w' = w := by
  have h44 := @run_callFunc_extern Tryz.prog 165 _ Extern.BytealgCount.count Tryz.func165 (by kernel_rfl) (by kernel_rfl) (by kernel_rfl) (by kernel_rfl)
  have hr := fun (c : Int) wx => Lib.run_countString (P := Tryz.prog) s c wx
  go_enter Tryz.func150, Tryz.ntmps150
  go_wp2
  go_ret
  exact ⟨ret_int rfl, rfl⟩

theorem many_val (s : ByteArray) : (decide (24 < (s.size : Int)) || decide (4 < ((Array.count 47 s.data : Nat) : Int))) = Pth.many s.data.toList := by
  unfold Pth.many
  rw [len_eq, Bool.eq_iff_iff]
  simp
  omega

set_option maxHeartbeats 400000 in
theorem tooMany_any (s : ByteArray) (w : World) :
    Calls Tryz.prog 114 #[.string s] w fun e w' => e = .returned (.bool (Pth.many s.data.toList)) ∧ w' = w := by
  by_cases h : 24 < s.size
  · go_enter Tryz.func114, Tryz.ntmps114
    go_wp2
    go_ret
    refine ⟨ret_bool ?_, rfl⟩
    unfold Pth.many
    simp [h]
  · go_enter Tryz.func114, Tryz.ntmps114
    go_wp2_with (first | (go_at_call 150; refine (count_any _ _).mono ?_; rintro e w' ⟨rfl, rfl⟩))
    go_ret
    exact ⟨ret_bool (many_val s), rfl⟩
end Go.Proofs.YtmiffefnpendoaaGreatDoor
