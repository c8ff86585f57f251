/- RowB, RowZ, in one text. -/
import Derived.Test.YtecgjdgfjgcmdaaGreatRtGD
import Derived.ChangeSame
import Derived.ChangeVars
import Derived.ChangeOld
import Derived.ChangeSlices
import Derived.Below
import Derived.Carry
import Derived.RowKit
import Derived.ProofKit
import Derived.OpenShut
import Derived.Deep.Slices
import Derived.Test.YtecgjdgfjgcmdaaGreatRtA1
namespace Go.Proofs.YtecgjdgfjgcmdaaGreat
open Go.ChangeShapes Go.WideShapes Go.ChangeAt Go.RowKit
set_option maxRecDepth 100000 in
theorem open_code {H : Type} {enc : TypeId × Value → H} {W : World} {v : Value} {d : DataW H} {ps : List MemPlace}
  (h : DataW.Trod enc Tryz.prog W 0 (fun _ => true) true 48 v d ps) (hv : ∃ a l c, v = .slice a l c) : ∃ ad len cap, v = .slice ad len cap ∧ (len ≤ 1048576 → CodeOk W W.heap.size v) := by
 obtain ⟨a0, l0, c0, rfl⟩ := hv
 obtain ⟨fuel, hf⟩ := h
 refine ⟨a0, l0, c0, rfl, fun hl0 => ?_⟩
 rcases open_ints Tryz.underlying48 Tryz.underlying5 (by kernel_rfl) hf with ⟨hcs, _⟩ | ⟨x, l, c, zs, hcs, _, hl, hm, hz, _, hcell, hwz⟩
 ·simp [Value.cells] at hcs
  obtain ⟨rfl, rfl, rfl⟩ := hcs
  exact ⟨none, 0, 0, rfl, by omega, fun h => by omega⟩
 ·simp [Value.cells] at hcs
  obtain ⟨rfl, rfl, rfl⟩ := hcs
  have hz' : zs.length = c0 := by simpa using hz
  refine ⟨some x, l0, c0, rfl, hl0, fun h0 => ?_⟩
  obtain ⟨b, off, rfl, hc⟩ := ints_at hcell (by omega)
  refine ⟨b, off, rfl, World.block_lt_of_cell? W ⟨b, off + 0, none⟩ (hc 0 (by omega)), fun i hi => ⟨zs.getD i 0, ?_, ?_, hc i (by omega)⟩⟩
  all_goals
   have hm : zs.getD i 0 ∈ zs := by
    rw [List.getD_eq_getElem?_getD, List.getElem?_eq_getElem (by omega)]; exact List.getElem_mem _
   have := bounds_u8 (hwz _ hm)
   omega
end Go.Proofs.YtecgjdgfjgcmdaaGreat
namespace Go.Proofs.YtecgjdgfjgcmdaaGreat
open Go.ChangeShapes Go.WideShapes Go.ChangeAt Go.RowKit
theorem laid_outZ : laidOutB Tryz.prog = true := by kernel_rfl
instance : Inhabited Zn := ⟨⟨ByteArray.empty, 0, 0, 0, 0⟩⟩
end Go.Proofs.YtecgjdgfjgcmdaaGreat
