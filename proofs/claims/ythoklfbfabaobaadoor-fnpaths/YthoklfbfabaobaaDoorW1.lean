/- The leaves of chapter 1's reading of paths: what isNameByte, strings.Count at one byte and hasTooMany answer. -/
import Derived.Test.YthoklfbfabaobaaDoorProg
import Derived.Test.YthoklfbfabaobaaDoorPure
import Derived.WalkKit
import Derived.WalkLawsBesides
import Derived.WalkSpells
import Derived.Lib.Bytealg
namespace Go.Proofs.YthoklfbfabaobaaDoor
open Go.RowKit

def nbI (n : Int) : Bool := (decide (97 ≤ n) && decide (n ≤ 122)) || (decide (48 ≤ n) && decide (n ≤ 57))
theorem nbI_eq (c : UInt8) : nbI (c.toNat : Int) = Pth.nb c := by
  unfold nbI Pth.nb
  simp only [UInt8.le_iff_toNat_le]
  rw [Bool.eq_iff_iff]
  simp
  omega

theorem ret_bool {a b : Bool} (h : a = b) : Ending.returned (.bool a) = .returned (.bool b) := by rw [h]
theorem ret_int {k : IntKind} {a b : Int} (h : a = b) : Ending.returned (.int k a) = .returned (.int k b) := by rw [h]

set_option maxHeartbeats 400000 in
theorem isNameByte_any (n : Int) (w : World) :
    Calls Tryd.prog 52 #[.int .u8 n] w fun e w' => e = .returned (.bool (nbI n)) ∧ w' = w := by
  go_enter Tryd.func52, Tryd.ntmps52
  go_wp2
  all_goals (go_ret; refine ⟨ret_bool ?_, rfl⟩; unfold nbI; rw [Bool.eq_iff_iff]; simp; omega)

set_option maxHeartbeats 400000 in
theorem count_any (s : ByteArray) (w : World) :
    Calls Tryd.prog 59 #[.string s, .string ⟨#[47]⟩] w fun e w' => e = .returned (.int .i64 (s.data.toList.count 47 : Nat)) ∧ w' = w := by
  have h44 := @run_callFunc_extern Tryd.prog 69 _ Extern.BytealgCount.count Tryd.func69 (by kernel_rfl) (by kernel_rfl) (by kernel_rfl) (by kernel_rfl)
  have hr := fun (c : Int) wx => Lib.run_countString (P := Tryd.prog) s c wx
  go_enter Tryd.func59, Tryd.ntmps59
  go_wp2
  go_ret
  exact ⟨ret_int rfl, rfl⟩

theorem len_eq (s : ByteArray) : s.data.toList.length = s.size := rfl
theorem many_val (s : ByteArray) : (decide (24 < (s.size : Int)) || decide (4 < ((Array.count 47 s.data : Nat) : Int))) = Pth.many s.data.toList := by
  unfold Pth.many
  rw [len_eq, Bool.eq_iff_iff]
  simp
  omega

set_option maxHeartbeats 400000 in
theorem tooMany_any (s : ByteArray) (w : World) :
    Calls Tryd.prog 51 #[.string s] w fun e w' => e = .returned (.bool (Pth.many s.data.toList)) ∧ w' = w := by
  by_cases h : 24 < s.size
  · go_enter Tryd.func51, Tryd.ntmps51
    go_wp2
    go_ret
    refine ⟨ret_bool ?_, rfl⟩
    unfold Pth.many
    simp [h]
  · go_enter Tryd.func51, Tryd.ntmps51
    go_wp2_with (first | (go_at_call 59; refine (count_any _ _).mono ?_; rintro e w' ⟨rfl, rfl⟩))
    go_ret
    exact ⟨ret_bool (many_val s), rfl⟩
end Go.Proofs.YthoklfbfabaobaaDoor
