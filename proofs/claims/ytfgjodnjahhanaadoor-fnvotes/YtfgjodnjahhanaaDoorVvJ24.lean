/- QS3, Jumps, W2, W3, in one text. -/
import Derived.Test.YtfgjodnjahhanaaDoorVvQS2
import Derived.ScopeJumps
import Derived.WalkMore
import Derived.Test.YtfgjodnjahhanaaDoorProg
import Derived.Test.YtfgjodnjahhanaaDoorVvBase
namespace Go.Proofs.YtfgjodnjahhanaaDoor
open Go.RowKit Go.Maps
theorem MBoxAt.upd {w w' : World} {b g : Nat} {m : Ms} {v u : Value} (h : MBoxAt w b m v u) (hu : Upd g w w') (hne : b ≠ g) : MBoxAt w' b m v u := by
  obtain ⟨hb, ⟨c0, c1, c2, c3, c4, c5, c6⟩, f0, f1, f2, f3, f4, f5, f6⟩ := h
  have hc := fun k => (hu.at_ne b k hne hb).1
  have hf := fun k => (hu.at_ne b k hne hb).2
  exact ⟨Nat.lt_of_lt_of_le hb hu.2.1, ⟨(hc _).trans c0, (hc _).trans c1, (hc _).trans c2, (hc _).trans c3, (hc _).trans c4, (hc _).trans c5, (hc _).trans c6⟩, (hf _).trans f0, (hf _).trans f1, (hf _).trans f2, (hf _).trans f3, (hf _).trans f4, (hf _).trans f5, (hf _).trans f6⟩
end Go.Proofs.YtfgjodnjahhanaaDoor
namespace Go.Proofs.YtfgjodnjahhanaaDoor
open Go
/-- As Q; by a goto: J of its label. -/
def Jumped (J : Nat → Act → World → Prop) (Q : Exit → Act → World → Prop) : Exit → Act → World → Prop
  | .goto l, a, w => J l a w
  | e, a, w => Q e a w

section
variable {P : Program} {a : Act} {w : World} {Q : Exit → Act → World → Prop}
def J4 (J0 J1 J2 J3 : Act → World → Prop) : Nat → Act → World → Prop
  | 0, a, w => J0 a w
  | 1, a, w => J1 a w
  | 2, a, w => J2 a w
  | 3, a, w => J3 a w
  | _, _, _ => False

end
end Go.Proofs.YtfgjodnjahhanaaDoor
namespace Go.Proofs.YtfgjodnjahhanaaDoor
open Go.RowKit
def Rwrong (l : List UInt8) (_ _ _ : Nat) : Prop := Pth.rd l = none
def Rdone (l : List UInt8) (_ last names : Nat) : Prop := Pth.rd l = some (names, last)
def Rname (l : List UInt8) (at_ last names : Nat) : Prop :=
  at_ ≤ l.length ∧ last ≤ at_ ∧ at_ - last ≤ 8 ∧ 1 ≤ last ∧ names ≤ at_ ∧ l.length ≠ 1 ∧ Pth.scan (l.drop at_) (at_ - last) at_ last names = Pth.rd l
def Rslash (l : List UInt8) (at_ last names : Nat) : Prop :=
  at_ ≤ l.length ∧ names ≤ at_ ∧ (l.length = 1 → at_ = 0 ∧ names = 0 ∧ last = 0) ∧ (l ≠ [47] → Pth.slashAt (l.drop at_) at_ names = Pth.rd l)

end Go.Proofs.YtfgjodnjahhanaaDoor
namespace Go.Proofs.YtfgjodnjahhanaaDoor
open Go.RowKit
def rpShape (n la : Nat) : Value := .tuple #[.agg #[.int .i64 n, .int .i64 la], .nilIface]
end Go.Proofs.YtfgjodnjahhanaaDoor
