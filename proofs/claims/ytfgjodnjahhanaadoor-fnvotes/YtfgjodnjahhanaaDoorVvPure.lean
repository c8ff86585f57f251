/- Plain mathematics of chapter 1: what it is to read a path byte by byte, and to cut it at its slashes; that both tell the same. Nothing here speaks of a program. -/

namespace Go.Proofs.YtfgjodnjahhanaaDoor
namespace Pth
def nb (c : UInt8) : Bool := (decide (97 ≤ c) && decide (c ≤ 122)) || (decide (48 ≤ c) && decide (c ≤ 57))

/-- The machine inside a name: k bytes of it are read; at: the place; last: where the name begins; names: how many. -/
def scan : List UInt8 → Nat → Nat → Nat → Nat → Option (Nat × Nat)
  | [], k, _, last, names => if k = 0 then none else some (names, last)
  | c :: r, k, at_, last, names =>
    if k < 8 ∧ nb c = true then scan r (k + 1) (at_ + 1) last names
    else if k = 0 then none
    else if c = 47 then scan r 0 (at_ + 1) (at_ + 1) (names + 1) else none

def slashAt : List UInt8 → Nat → Nat → Option (Nat × Nat)
  | [], _, _ => none
  | c :: r, at_, names => if c = 47 then scan r 0 (at_ + 1) (at_ + 1) (names + 1) else none

def rd (l : List UInt8) : Option (Nat × Nat) := if l = [47] then some (0, 0) else slashAt l 0 0

def many (l : List UInt8) : Bool := decide (24 < l.length) || decide (4 < l.count 47)

def faultI (l : List UInt8) : Int := if many l then 2 else if (rd l).isNone then 5 else 0

def cut : List UInt8 → List UInt8 → List (List UInt8)
  | cur, [] => [cur]
  | cur, c :: r => if c = 47 then cur :: cut [] r else cut (cur ++ [c]) r

def okName (n : List UInt8) : Bool := n.all nb && (decide (1 ≤ n.length) && decide (n.length ≤ 8))

def namesS (l : List UInt8) : Option (List (List UInt8)) :=
  if l = [47] then some [] else
  if (cut [] l).length < 2 ∨ (cut [] l).head? ≠ some [] then none
  else if (cut [] l).tail.all okName then some (cut [] l).tail else none

def manyS (l : List UInt8) : Bool := decide (24 < l.length) || (decide (l ≠ [47]) && decide (5 < (cut [] l).length))
def faultS (l : List UInt8) : Int := if manyS l then 2 else if (namesS l).isNone then 5 else 0

def lastSl : List UInt8 → Nat → Nat → Nat
  | [], _, a => a
  | c :: r, i, a => if c = 47 then lastSl r (i + 1) i else lastSl r (i + 1) a

/-! ### What the functions answer -/
def parentV (l : List UInt8) : Int × List UInt8 :=
  if faultI l ≠ 0 then (faultI l, []) else if l = [47] then (4, []) else (0, if lastSl l 0 0 = 0 then [47] else l.take (lastSl l 0 0))
def nameV (l : List UInt8) : Int × List UInt8 :=
  if faultI l ≠ 0 then (faultI l, []) else if l = [47] then (4, []) else (0, l.drop (lastSl l 0 0 + 1))
def deepV (l : List UInt8) : Int × Int :=
  if faultI l ≠ 0 then (faultI l, 0) else (0, if l = [47] then 0 else (l.count 47 : Nat))
def joined (l n : List UInt8) : List UInt8 := if l = [47] then 47 :: n else l ++ 47 :: n
def joinV (l n : List UInt8) : Int × List UInt8 :=
  if faultI l ≠ 0 then (faultI l, []) else if okName n = false then (5, []) else if faultI (joined l n) ≠ 0 then (faultI (joined l n), []) else (0, joined l n)
def under (p t : List UInt8) : Bool := decide (p = t) || (decide (t = [47]) || (t ++ [47]).isPrefixOf p)
def underV (p t : List UInt8) : Bool := decide (faultI p = 0) && (decide (faultI t = 0) && under p t)
def seqd (n : List UInt8) (k : Nat) : List UInt8 := n ++ [UInt8.ofNat (48 + k / 10), UInt8.ofNat (48 + k % 10)]
def seqV (n : List UInt8) (k : Int) : Int × List UInt8 :=
  if okName n = false then (5, []) else if k < 0 ∨ 99 < k then (3, []) else if okName (seqd n k.toNat) = false then (5, []) else (0, seqd n k.toNat)

end Pth
end Go.Proofs.YtfgjodnjahhanaaDoor
