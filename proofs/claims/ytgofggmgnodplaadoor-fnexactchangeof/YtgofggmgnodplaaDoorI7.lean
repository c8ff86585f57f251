/- The program's hasVersion, GetZ, SetZ. -/
import Derived.Test.YtgofggmgnodplaaDoorI6
namespace Go.Proofs.YtgofggmgnodplaaDoor
open Go.RowKit

theorem NodesAt.one {w : World} {b off k : Nat} {zs : List Zn} {z : Zn} (h : NodesAt w b off zs) (hz : zs[k]? = some z) : NodesAt w b (off + k * 5) [z] := by
  intro i y hy
  cases i with
  | zero => simp at hy; subst hy; simpa using h k z hz
  | succ i => simp at hy

namespace Tre
theorem asked_len {zs : List Zn} {p : ByteArray} (h : asked zs p = 0) : zs.length ≤ 20 ∧ Up zs ∧ 0 < zs.length ∧ ∀ z ∈ zs, z.path.size ≤ 24 := by
  obtain ⟨h1, _⟩ := asked_fault h
  refine ⟨(fault_nodes h1).1, fault_up h1, ?_, fun z hz => few_of_ok (fault_nums h1 z hz).1⟩
  rcases atI_range zs top with ⟨hm, _⟩ | ⟨k, z, _, hk, _, _⟩
  · have := (fault_hang h1).1; omega
  · omega
end Tre

end Go.Proofs.YtgofggmgnodplaaDoor
