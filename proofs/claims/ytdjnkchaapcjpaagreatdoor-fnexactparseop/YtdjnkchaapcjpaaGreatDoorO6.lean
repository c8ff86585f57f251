/- operations: OpFault of the specification and of the program, at every operation. -/
import Derived.Test.YtdjnkchaapcjpaaGreatDoorO4a
import Derived.Test.YtdjnkchaapcjpaaGreatDoorO4b
import Derived.Test.YtdjnkchaapcjpaaGreatDoorO5a
import Derived.Test.YtdjnkchaapcjpaaGreatDoorO5b
namespace Go.Proofs.YtdjnkchaapcjpaaGreatDoor
open Go.RowKit
theorem kinds8 {k : Int} (h1 : 1 ≤ k) (h8 : k ≤ 8) : k = 1 ∨ k = 2 ∨ k = 3 ∨ k = 4 ∨ k = 5 ∨ k = 6 ∨ k = 7 ∨ k = 8 := by omega
set_option maxHeartbeats 1000000 in
theorem l5Op_any (b off : Nat) (z : Opn) (w : World) (hb : b < w.heap.size) (hO : OAt w b off z) :
    Calls Tryz.prog 73 #[.pointer (some ⟨b, off, none⟩)] w fun e w' => e = .returned (.int .i64 (Opr.fault z)) ∧ Ext w w' := by
  by_cases hk : 1 ≤ z.kind ∧ z.kind ≤ 8
  · obtain ⟨k, p, d, v, s, q⟩ := z
    rcases kinds8 hk.1 hk.2 with h | h | h | h | h | h | h | h <;> simp only at h <;> subst h
    · exact l5Op_1 b off p d v s q w hb hO
    · exact l5Op_2 b off p d v s q w hb hO
    · exact l5Op_3 b off p d v s q w hb hO
    · exact l5Op_4 b off p d v s q w hb hO
    · exact l5Op_5 b off p d v s q w hb hO
    · exact l5Op_6 b off p d v s q w hb hO
    · exact l5Op_7 b off p d v s q w hb hO
    · exact l5Op_8 b off p d v s q w hb hO
  · have HF : Hid (Opr.fault z = 1) := Opr.fault_kind (by omega)
    have hbv : (decide (1 ≤ z.kind) && decide (z.kind ≤ 8)) = false := by simp; omega
    have HC : Hid (∀ wx : World, Calls Tryz.prog 102 #[.int .i64 z.kind, .int .i64 1, .int .i64 8] wx fun e w' => e = .returned (.bool false) ∧ w' = wx) := by intro wx; rw [← hbv]; exact l1In_any z.kind 1 8 wx
    have c0 := hO.1
    generalize z.kind = k at *
    clear hbv hO hk
    go_enter Tryz.func73, Tryz.ntmps73
    go_wp2_with (go_at_call 102; refine (HC.out _).mono ?_; rintro e w9 ⟨rfl, hw9⟩; rw [hw9]; clear hw9 w9)
    go_ret
    exact ⟨ret_int HF.out.symm, Ext.refl _⟩
set_option maxHeartbeats 2000000 in
set_option maxRecDepth 100000 in
theorem implOpFault_any (z : Opn) (w : World) (hg : Gd w) : Calls Tryz.prog 28 #[oagg z] w fun e w' => e = .returned (.int .i64 (Opr.fault z)) ∧ Ext w w' := by
  by_cases hk : 1 ≤ z.kind ∧ z.kind ≤ 8
  · obtain ⟨k, p, d, v, s, q⟩ := z
    rcases kinds8 hk.1 hk.2 with h | h | h | h | h | h | h | h <;> simp only at h <;> subst h
    · exact implOpFault_1 p d v s q w hg
    · exact implOpFault_2 p d v s q w hg
    · exact implOpFault_3 p d v s q w hg
    · exact implOpFault_4 p d v s q w hg
    · exact implOpFault_5 p d v s q w hg
    · exact implOpFault_6 p d v s q w hg
    · exact implOpFault_7 p d v s q w hg
    · exact implOpFault_8 p d v s q w hg
  · have HF : Hid (Opr.fault z = 1) := Opr.fault_kind (by omega)
    have hbv : (decide (1 ≤ z.kind) && decide (z.kind ≤ 8)) = false := by simp; omega
    have HC : Hid (∀ wx : World, Calls Tryz.prog 74 #[.int .i64 z.kind, .int .i64 1, .int .i64 8] wx fun e w' => e = .returned (.bool false) ∧ w' = wx) := by intro wx; rw [← hbv]; exact isWithin_any z.kind 1 8 wx
    clear hbv hk hg
    unfold oagg
    go_enter Tryz.func28, Tryz.ntmps28
    go_wp2
    first | (go_region_with (go_at_call 74; refine (HC.out _).mono ?_; rintro e w9 ⟨rfl, hw9⟩; rw [hw9]; clear hw9 w9)) | fail
    all_goals
      go_wp2
      go_ret
      exact ⟨ret_int HF.out.symm, ((Ext.refl _).alloc _).drew⟩
end Go.Proofs.YtdjnkchaapcjpaaGreatDoor
