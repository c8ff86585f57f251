/- a reply's copy. -/
import Derived.Test.YtfgjodnjahhanaaVfRY0
import Derived.Test.YtfgjodnjahhanaaVfClone
namespace Go.Proofs.Ytfgjodnjahhanaa
open Go.RowKit
def yr (c d v : Int) (p : ByteArray) : Value := .agg #[.int .i64 c, .int .i64 d, .int .i64 v, .string p]
def YBoxAt (w : World) (b : Nat) (c d v : Int) (p : ByteArray) : Prop := b < w.heap.size ∧ w.cell? ⟨b, 0, none⟩ = some (.int .i64 c) ∧ w.cell? ⟨b, 1, none⟩ = some (.int .i64 d) ∧ w.cell? ⟨b, 2, none⟩ = some (.int .i64 v) ∧ w.cell? ⟨b, 3, none⟩ = some (.string p)
theorem YBoxAt.ext {w w' : World} {b : Nat} {c d v : Int} {p : ByteArray} (h : YBoxAt w b c d v p) (he : Ext w w') : YBoxAt w' b c d v p := by
  obtain ⟨hc, hf⟩ := Ext.cell he
  obtain ⟨hb, c0, c1, c2, c3⟩ := h
  exact ⟨Nat.lt_of_lt_of_le hb he.size, (hc _ _ hb).trans c0, (hc _ _ hb).trans c1, (hc _ _ hb).trans c2, (hc _ _ hb).trans c3⟩
def yrT (x : Int × Int × Int × ByteArray) : Value := yr x.1 x.2.1 x.2.2.1 x.2.2.2

end Go.Proofs.Ytfgjodnjahhanaa
