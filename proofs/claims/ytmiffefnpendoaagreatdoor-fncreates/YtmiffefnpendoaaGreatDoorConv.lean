/- one byte as a text. -/
import Derived.Test.YtmiffefnpendoaaGreatDoorProg
import Derived.Test.YtmiffefnpendoaaGreatDoorBase
namespace Go.Proofs.YtmiffefnpendoaaGreatDoor
open Go.RowKit

theorem conv_one (w : World) (n : Int) :
    (convert 22 9 (.slice (some ⟨w.heap.size, 0, none⟩) 1 1)).run Tryz.prog (w.alloc (.cells #[.int .u8 n] 5)) = .ok (.string (mkB [UInt8.ofNat n.toNat])) (w.alloc (.cells #[.int .u8 n] 5)) := by
  rw [run_convert_bytes_string _ _ _ 5 _ _ _ Tryz.underlying22 Tryz.underlying5 Tryz.underlying9]
  rw [run_bytesToString _ _ 1 1 [n] (by simp [loadCells, loadCellsFrom, Addr.add])]
  rfl

end Go.Proofs.YtmiffefnpendoaaGreatDoor
