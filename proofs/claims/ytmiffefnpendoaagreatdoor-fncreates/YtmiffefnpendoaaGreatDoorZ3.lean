/- the laws' marks: markText, markZnodeS, heldZnodeS: what they write and read back. -/
import Derived.Test.YtmiffefnpendoaaGreatDoorZ2
import Derived.Test.YtmiffefnpendoaaGreatDoorConv
namespace Go.Proofs.YtmiffefnpendoaaGreatDoor
open Go.RowKit

def dgsF : Nat → Nat → List UInt8 → List UInt8
  | 0, _, acc => acc
  | f + 1, n, acc => if n = 0 then acc else dgsF f (n / 10) ((48 + UInt8.ofNat (n % 10)) :: acc)
/-- The text of a mark. -/
def mtext (k : Nat) : ByteArray := if k = 0 then ⟨#[109, 48]⟩ else (⟨#[109]⟩ : ByteArray) ++ mkB (dgsF k k [])

theorem dgsF_zero (f : Nat) (acc : List UInt8) : dgsF f 0 acc = acc := by cases f <;> simp [dgsF]
theorem cat_mkB (x : UInt8) (s : ByteArray) : mkB [x] ++ s = mkB (x :: s.data.toList) := by
  apply ba_eq; simp [mkB, ByteArray.data_append]

/-- The mark that begins with k. -/
def mz (k : Nat) : Zn := ⟨mtext k, (k + 1 : Nat), (k + 2 : Nat), (k + 3 : Nat), (k + 4 : Nat)⟩
def marks (k n : Nat) : List Zn := (List.range n).map fun i => mz (k + 5 * i)
theorem marks_length (k n : Nat) : (marks k n).length = n := by simp [marks]
theorem marks_get (k n i : Nat) (h : i < n) : (marks k n)[i]? = some (mz (k + 5 * i)) := by
  unfold marks
  rw [List.getElem?_map, List.getElem?_range h]; rfl

end Go.Proofs.YtmiffefnpendoaaGreatDoor
