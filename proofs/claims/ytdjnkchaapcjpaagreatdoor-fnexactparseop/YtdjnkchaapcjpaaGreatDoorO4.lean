/- operations: what the two OpFaults lean on: an operation in a box, isOfSession. -/
import Derived.Test.YtdjnkchaapcjpaaGreatDoorO3
import Derived.Test.YtdjnkchaapcjpaaGreatDoorW4
namespace Go.Proofs.YtdjnkchaapcjpaaGreatDoor
open Go.RowKit
theorem bytes_ne {p : ByteArray} (h : ¬ p = ⟨#[]⟩) : (p.toList == ([] : List UInt8)) = false := by
  rw [Lib.toList_data]
  simp only [beq_eq_false_iff_ne, ne_eq]
  intro e
  exact h (ba_eq e)
def OBoxAt (w : World) (b : Nat) (z : Opn) : Prop := b < w.heap.size ∧ w.cell? ⟨b, 0, none⟩ = some (.int .i64 z.kind) ∧ w.cell? ⟨b, 1, none⟩ = some (.string z.path) ∧ w.cell? ⟨b, 2, none⟩ = some (.int .i64 z.data) ∧ w.cell? ⟨b, 3, none⟩ = some (.int .i64 z.version) ∧ w.cell? ⟨b, 4, none⟩ = some (.bool z.seq) ∧ w.cell? ⟨b, 5, none⟩ = some (.bool z.own)
theorem OBoxAt.ext {w w' : World} {b : Nat} {z : Opn} (h : OBoxAt w b z) (he : Ext w w') : OBoxAt w' b z := by
  obtain ⟨hb, c0, c1, c2, c3, c4, c5⟩ := h
  obtain ⟨hc, _⟩ := Ext.cell he
  exact ⟨Nat.lt_of_lt_of_le hb he.size, (hc _ _ hb).trans c0, (hc _ _ hb).trans c1, (hc _ _ hb).trans c2, (hc _ _ hb).trans c3, (hc _ _ hb).trans c4, (hc _ _ hb).trans c5⟩
theorem obox_new (w : World) (z : Opn) (t : TypeId) : OBoxAt (w.alloc (.cells #[.int .i64 z.kind, .string z.path, .int .i64 z.data, .int .i64 z.version, .bool z.seq, .bool z.own] t)) w.heap.size z := ⟨by simp, by simp, by simp, by simp, by simp, by simp, by simp⟩
set_option maxHeartbeats 1000000 in
theorem isOfSession_any (z : Opn) (w : World) : Calls Tryz.prog 76 #[oagg z] w fun e w' => e = .returned (.bool (decide (z.kind = 1) || decide (z.kind = 2))) ∧ Ext w w' := by
  unfold oagg
  by_cases h1 : z.kind = 1
  · go_enter Tryz.func76, Tryz.ntmps76
    go_wp2
    go_ret
    exact ⟨ret_bool (by simp [h1]), (Ext.refl _).alloc _⟩
  · by_cases h2 : z.kind = 2
    · go_enter Tryz.func76, Tryz.ntmps76
      go_wp2
      go_ret
      exact ⟨ret_bool (by simp [h2]), (Ext.refl _).alloc _⟩
    · go_enter Tryz.func76, Tryz.ntmps76
      go_wp2
      go_ret
      exact ⟨ret_bool (by simp [h1, h2]), (Ext.refl _).alloc _⟩
end Go.Proofs.YtdjnkchaapcjpaaGreatDoor
