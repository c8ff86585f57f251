/- the program's votes: who has said a message, whether they are enough. -/
import Derived.Test.YtfgjodnjahhanaaVfQS2
namespace Go.Proofs.Ytfgjodnjahhanaa
open Go.RowKit Go.Maps
theorem MBoxAt.upd {w w' : World} {b g : Nat} {m : Ms} {v u : Value} (h : MBoxAt w b m v u) (hu : Upd g w w') (hne : b ≠ g) : MBoxAt w' b m v u := by
  obtain ⟨hb, ⟨c0, c1, c2, c3, c4, c5, c6⟩, f0, f1, f2, f3, f4, f5, f6⟩ := h
  have hc := fun k => (hu.at_ne b k hne hb).1
  have hf := fun k => (hu.at_ne b k hne hb).2
  exact ⟨Nat.lt_of_lt_of_le hb hu.2.1, ⟨(hc _).trans c0, (hc _).trans c1, (hc _).trans c2, (hc _).trans c3, (hc _).trans c4, (hc _).trans c5, (hc _).trans c6⟩, (hf _).trans f0, (hf _).trans f1, (hf _).trans f2, (hf _).trans f3, (hf _).trans f4, (hf _).trans f5, (hf _).trans f6⟩
end Go.Proofs.Ytfgjodnjahhanaa
