/- A scope in which the run jumps to several labels, forward and back: what holds at each jump, and a measure that every pass from a label lowers. -/
import Derived.ScopeJumps
import Derived.WalkMore
namespace Go.Proofs.Ytfgjodnjahhanaa
open Go
/-- As Q; by a goto: J of its label. -/
def Jumped (J : Nat → Act → World → Prop) (Q : Exit → Act → World → Prop) : Exit → Act → World → Prop
  | .goto l, a, w => J l a w
  | e, a, w => Q e a w

section
variable {P : Program} {a : Act} {w : World} {Q : Exit → Act → World → Prop}
def J4 (J0 J1 J2 J3 : Act → World → Prop) : Nat → Act → World → Prop
  | 0, a, w => J0 a w
  | 1, a, w => J1 a w
  | 2, a, w => J2 a w
  | 3, a, w => J3 a w
  | _, _, _ => False

end
end Go.Proofs.Ytfgjodnjahhanaa
