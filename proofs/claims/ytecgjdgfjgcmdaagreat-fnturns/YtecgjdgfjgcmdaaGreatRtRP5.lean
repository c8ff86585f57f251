/- what a replica says who is heard: boxes of a message; nothing at all; the program's ReplicaFault. -/
import Derived.Test.YtecgjdgfjgcmdaaGreatRtRP4
namespace Go.Proofs.YtecgjdgfjgcmdaaGreat
open Go.RowKit
theorem Ext.seven {w W : World} (h : Ext w W) (b : Nat) (hb : w.heap.size ≤ b) (a0 a1 a2 a3 a4 a5 a6 : Value) : Ext w (((((((W.setCell ⟨b, 0, none⟩ a0).setCell ⟨b, 1, none⟩ a1).setCell ⟨b, 2, none⟩ a2).setCell ⟨b, 3, none⟩ a3).setCell ⟨b, 4, none⟩ a4).setCell ⟨b, 5, none⟩ a5).setCell ⟨b, 6, none⟩ a6) :=
 ((((((h.setCell (p := ⟨b, 0, none⟩) hb _).setCell (p := ⟨b, 1, none⟩) hb _).setCell (p := ⟨b, 2, none⟩) hb _).setCell (p := ⟨b, 3, none⟩) hb _).setCell (p := ⟨b, 4, none⟩) hb _).setCell (p := ⟨b, 5, none⟩) hb _).setCell (p := ⟨b, 6, none⟩) hb _
theorem Upd.seven (W : World) (b : Nat) (a0 a1 a2 a3 a4 a5 a6 : Value) : Upd b W (((((((W.setCell ⟨b, 0, none⟩ a0).setCell ⟨b, 1, none⟩ a1).setCell ⟨b, 2, none⟩ a2).setCell ⟨b, 3, none⟩ a3).setCell ⟨b, 4, none⟩ a4).setCell ⟨b, 5, none⟩ a5).setCell ⟨b, 6, none⟩ a6) :=
 ((((((((Upd.refl b W).setAt _ _).setAt _ _).setAt _ _).setAt _ _).setAt _ _).setAt _ _).setAt _ _)
def KT : World → World → Value → Value → Prop := fun _ _ _ _ => True
end Go.Proofs.YtecgjdgfjgcmdaaGreat
