/- votes: who has said what; what is decided; the log (mathematics). -/
import Derived.Test.YtfgjodnjahhanaaDoorVvLG5
import Derived.Test.YtfgjodnjahhanaaDoorVvQS0
namespace Go.Proofs.YtfgjodnjahhanaaDoor
namespace Msg
/-- The message that id would send. -/
def vm (k : Int) (c : Ct) (id : Int) : Ms := ⟨k, c.view, id, c.slot, c.value, [], []⟩
def votesK (ms : List Ms) (k : Int) (c : Ct) (n : Nat) : List Int := (Nst.upto 1 n).filter (fun id => decide (vm k c id ∈ ms))
def votes (f : Int) (ms : List Ms) (k : Int) (c : Ct) : List Int := votesK ms k c (3 * f + 1).toNat
def enough (f : Int) (ms : List Ms) (k : Int) (c : Ct) : Bool := decide (2 * f + 1 ≤ ((votes f ms k c).length : Int))
/-- The message m as id would say it. -/
def as_ (m : Ms) (id : Int) : Ms := { m with from_ := id }
/-- The program's set: who of the first k has said m. -/
def voters (ms : List Ms) (m : Ms) : Nat → List Int
  | 0 => []
  | k + 1 => match ms[k]? with
    | some z => if z = as_ m z.from_ then Nst.put z.from_ (voters ms m k) else voters ms m k
    | none => voters ms m k
theorem voters_yes {ms : List Ms} {m z : Ms} {k : Nat} (h : ms[k]? = some z) (h2 : z = as_ m z.from_) : voters ms m (k + 1) = Nst.put z.from_ (voters ms m k) := by
  rw [voters, h]; simp only; rw [if_pos h2]
theorem voters_no {ms : List Ms} {m z : Ms} {k : Nat} (h : ms[k]? = some z) (h2 : ¬ z = as_ m z.from_) : voters ms m (k + 1) = voters ms m k := by
  rw [voters, h]; simp only; rw [if_neg h2]
theorem mem_voters {ms : List Ms} {m : Ms} {x : Int} (k : Nat) (hk : k ≤ ms.length) : x ∈ voters ms m k ↔ as_ m x ∈ ms.take k := by
  induction k with
  | zero => simp [voters]
  | succ k ih =>
    have ih := ih (by omega)
    obtain ⟨z, h⟩ : ∃ z, ms[k]? = some z := ⟨_, List.getElem?_eq_getElem (by omega)⟩
    have ht : as_ m x ∈ ms.take (k + 1) ↔ as_ m x ∈ ms.take k ∨ z = as_ m x := by
      rw [mem_take, mem_take]
      constructor
      · rintro ⟨j, hj, e⟩
        by_cases hjk : j = k
        · subst hjk; rw [h] at e; cases e; exact Or.inr rfl
        · exact Or.inl ⟨j, by omega, e⟩
      · rintro (⟨j, hj, e⟩ | e)
        · exact ⟨j, by omega, e⟩
        · exact ⟨k, by omega, by rw [h, e]⟩
    rw [ht]
    by_cases h2 : z = as_ m z.from_
    · rw [voters_yes h h2, Nst.mem_put, ih]
      constructor
      · rintro (e | e)
        · exact Or.inr (by rw [e]; exact h2)
        · exact Or.inl e
      · rintro (e | e)
        · exact Or.inr e
        · exact Or.inl (by rw [e]; rfl)
    · rw [voters_no h h2, ih]
      constructor
      · exact Or.inl
      · rintro (e | e)
        · exact e
        · exact absurd (show z = as_ m z.from_ from by rw [e]; rfl) h2
def votesV (f : Int) (ms : List Ms) (m : Ms) : Int × List Int := if ¬ ledger f ms = 0 then (ledger f ms, []) else if ¬ faultM f m = 0 then (faultM f m, []) else if ¬ (m.kind = 2 ∨ m.kind = 3) then (1, []) else (0, votes f ms m.kind ⟨m.slot, m.view, m.value⟩)
def certRight (f : Int) (ms : List Ms) (c : Ct) : Bool := decide (ledger f ms = 0) && certIn c && enough f ms 2 c
/-! ### what is decided -/
def dec (f : Int) (ms : List Ms) (slot v : Int) (m : Ms) : Bool := decide (m.kind = 3 ∧ m.slot = slot ∧ m.value = v) && enough f ms 3 ⟨slot, m.view, v⟩
def decB (f : Int) (ms : List Ms) (slot v : Int) : Bool := ms.any (dec f ms slot v)
def decidedK (f : Int) (ms : List Ms) (slot : Int) (n : Nat) : List Int := (Nst.upto 0 n).filter (decB f ms slot)
def decided (f : Int) (ms : List Ms) (slot : Int) : List Int := decidedK f ms slot 13
/-- The program's set of the values that the first k decide. -/
def dset (f : Int) (ms : List Ms) (slot : Int) : Nat → List Int
  | 0 => []
  | k + 1 => match ms[k]? with
    | some z => if z.kind = 3 ∧ z.slot = slot ∧ enough f ms 3 ⟨z.slot, z.view, z.value⟩ = true then Nst.put z.value (dset f ms slot k) else dset f ms slot k
    | none => dset f ms slot k
def decidedV (f : Int) (ms : List Ms) (x : Int) : Int × List Int := if ¬ ledger f ms = 0 then (ledger f ms, []) else if ¬ (1 ≤ x ∧ x ≤ 30) then (3, []) else (0, decided f ms x)
/-! ### the log -/
/-- What is decided first of each of the first k slots. -/
def heads (f : Int) (ms : List Ms) : Nat → List Int
  | 0 => []
  | k + 1 => heads f ms k ++ [(decided f ms ((k : Int) + 1)).headD 0]
/-- How many slots of the first n are decided without a gap. -/
def run (f : Int) (ms : List Ms) : Nat → Nat
  | 0 => 0
  | n + 1 => if run f ms n = n ∧ ¬ decided f ms ((n : Int) + 1) = [] then n + 1 else run f ms n
def log (f : Int) (ms : List Ms) : List Int := heads f ms (run f ms 30)
def logV (f : Int) (ms : List Ms) : Int × List Int := if ¬ ledger f ms = 0 then (ledger f ms, []) else (0, log f ms)
end Msg
end Go.Proofs.YtfgjodnjahhanaaDoor
