/- impl.readPath: the machine with goto: what it answers at every text. -/
import Derived.Test.YtfgjodnjahhanaaProg
import Derived.Test.YtfgjodnjahhanaaVfBase
import Derived.Test.YtfgjodnjahhanaaVfJumps
namespace Go.Proofs.Ytfgjodnjahhanaa
open Go.RowKit
def Rwrong (l : List UInt8) (_ _ _ : Nat) : Prop := Pth.rd l = none
def Rdone (l : List UInt8) (_ last names : Nat) : Prop := Pth.rd l = some (names, last)
def Rname (l : List UInt8) (at_ last names : Nat) : Prop :=
  at_ ≤ l.length ∧ last ≤ at_ ∧ at_ - last ≤ 8 ∧ 1 ≤ last ∧ names ≤ at_ ∧ l.length ≠ 1 ∧ Pth.scan (l.drop at_) (at_ - last) at_ last names = Pth.rd l
def Rslash (l : List UInt8) (at_ last names : Nat) : Prop :=
  at_ ≤ l.length ∧ names ≤ at_ ∧ (l.length = 1 → at_ = 0 ∧ names = 0 ∧ last = 0) ∧ (l ≠ [47] → Pth.slashAt (l.drop at_) at_ names = Pth.rd l)

end Go.Proofs.Ytfgjodnjahhanaa
