/- the laws' comparisons and marks of a ZResult. -/
import Derived.Test.YtdjnkchaapcjpaaGreatDoorZ3
namespace Go.Proofs.YtdjnkchaapcjpaaGreatDoor
open Go.RowKit

/-- A ZResult as a value. -/
def zr (c : Int) (p : ByteArray) (v : Value) : Value := .agg #[.int .i64 c, .string p, v]

set_option maxHeartbeats 1000000 in
theorem eqZResult_same (c : Int) (p : ByteArray) (v v' : Value) (zs : List Zn) (w : World) (h : NSlice w v zs) (h' : NSlice w v' zs) :
    Calls Tryz.prog 37 #[zr c p v, zr c p v'] w fun e w' => e = .returned (.bool true) ∧ Ext w w' := by
  have HS : Hid (NSlice w v zs) := h
  have HS' : Hid (NSlice w v' zs) := h'
  obtain ⟨a, cap, rfl, _⟩ := h
  obtain ⟨a', cap', rfl, _⟩ := h'
  unfold zr
  go_enter Tryz.func37, Tryz.ntmps37
  go_wp2_with fail
  refine (eqZnodeS_same _ _ zs _ (by exact HS.out.ext (((Ext.refl _).alloc _).alloc _)) (by exact HS'.out.ext (((Ext.refl _).alloc _).alloc _))).mono ?_
  rintro e w2 ⟨rfl, hb⟩
  go_wp2
  go_ret
  exact ⟨rfl, (((Ext.refl _).alloc _).alloc _).trans hb⟩

set_option maxHeartbeats 1000000 in
theorem markZResult_any (c : Int) (p : ByteArray) (v : Value) (g : Nat) (zs : List Zn) (k : Nat) (w : World) (hO : Own w v g zs) (hg : g ≤ w.heap.size) (hk : k ≤ 100) (hl : zs.length ≤ 1048576) :
    Calls Tryz.prog 40 #[zr c p v, .int .i64 k] w fun e w' => e = .returned (.int .i64 (k + 5 * zs.length : Nat)) ∧ Own w' v g (marks k zs.length) ∧ Upd g w w' := by
  have HO : Hid (Own w v g zs) := hO
  obtain ⟨a, cap, rfl, _⟩ := hO
  unfold zr
  go_enter Tryz.func40, Tryz.ntmps40
  go_wp2_with fail
  refine (markZnodeS_any _ g zs k _ (by exact HO.out.ext ((Ext.refl _).alloc _)) hk hl).mono ?_
  rintro e w2 ⟨rfl, hO2, hU⟩
  have HO2 : Hid (Own w2 (.slice a zs.length cap) g (marks k zs.length)) := hO2
  have HU : Hid (Upd g w w2) := (Upd.alloc _ _ hg).trans hU
  clear hO2 hU
  go_wp2
  go_ret
  exact ⟨rfl, HO2.out, HU.out⟩

set_option maxHeartbeats 1000000 in
theorem heldZResult_any (c : Int) (p : ByteArray) (v : Value) (n k : Nat) (w : World) (hO : NSlice w v (marks k n)) (hk : k ≤ 100) (hl : n ≤ 1048576) :
    Calls Tryz.prog 41 #[zr c p v, .int .i64 k] w fun e w' => e = .returned (.int .i64 (k + 5 * n : Nat)) ∧ Ext w w' := by
  have HO : Hid (NSlice w v (marks k n)) := hO
  obtain ⟨a, cap, rfl, _⟩ := hO
  unfold zr
  go_enter Tryz.func41, Tryz.ntmps41
  go_wp2_with fail
  refine (heldZnodeS_any _ n k _ (by exact HO.out.ext ((Ext.refl _).alloc _)) hk hl).mono ?_
  rintro e w2 ⟨rfl, hb⟩
  obtain ⟨m, hm⟩ : ∃ m, m = k + 5 * n := ⟨_, rfl⟩
  rw [← hm]
  have HM : Hid (m = k + 5 * n) := hm
  clear hm
  go_wp2
  go_ret
  exact ⟨ret_int (by rw [HM.out]), ((Ext.refl _).alloc _).trans hb⟩
end Go.Proofs.YtdjnkchaapcjpaaGreatDoor
