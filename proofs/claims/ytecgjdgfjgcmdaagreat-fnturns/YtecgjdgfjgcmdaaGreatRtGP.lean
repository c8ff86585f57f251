/- RP0, RP1, in one text. -/
import Derived.Test.YtecgjdgfjgcmdaaGreatRtQS4
import Derived.Test.YtecgjdgfjgcmdaaGreatRtQV4
import Derived.Test.YtecgjdgfjgcmdaaGreatRtG7
namespace Go.Proofs.YtecgjdgfjgcmdaaGreat
open Go.RowKit
structure Rp where
 id : Int
 view : Int
 start : Int
 done : Int
def ragg (r : Rp) : Value := .agg #[.int .i64 r.id, .int .i64 r.view, .int .i64 r.start, .int .i64 r.done]
def RpAt (w : World) (b : Nat) (r : Rp) : Prop := b < w.heap.size ∧ w.cell? ⟨b, 0, none⟩ = some (.int .i64 r.id) ∧ w.cell? ⟨b, 1, none⟩ = some (.int .i64 r.view) ∧ w.cell? ⟨b, 2, none⟩ = some (.int .i64 r.start) ∧ w.cell? ⟨b, 3, none⟩ = some (.int .i64 r.done)
theorem RpAt.ext {w w' : World} {b : Nat} {r : Rp} (h : RpAt w b r) (he : Ext w w') : RpAt w' b r := by
 obtain ⟨hc, _⟩ := Ext.cell he
 exact ⟨Nat.lt_of_lt_of_le h.1 he.size, (hc _ _ h.1).trans h.2.1, (hc _ _ h.1).trans h.2.2.1, (hc _ _ h.1).trans h.2.2.2.1, (hc _ _ h.1).trans h.2.2.2.2⟩
theorem rbox_new (w : World) (r : Rp) (t : TypeId) : RpAt (w.alloc (.cells #[.int .i64 r.id, .int .i64 r.view, .int .i64 r.start, .int .i64 r.done] t)) w.heap.size r := ⟨by simp, by simp, by simp, by simp, by simp⟩
namespace Msg
def saidB (r : Rp) (k : Int) (z : Ms) : Bool := decide (z.kind = k) && decide (z.view = r.view) && decide (z.from_ = r.id)
def saidL (ms : List Ms) (r : Rp) (k : Int) : List Ms := ms.filter (saidB r k)
def slotB (l : List Ms) (s : Int) : Bool := l.any (fun z => decide (z.slot = s))
def valB (l : List Ms) (x : Int) : Bool := l.any (fun z => decide (z.value = x))
end Msg
end Go.Proofs.YtecgjdgfjgcmdaaGreat
namespace Go.Proofs.YtecgjdgfjgcmdaaGreat
open Go.RowKit
namespace Msg
def inV (r : Rp) : Bool := decide (r.view = 0) || decide (¬ r.start = -1)
def repIn (f : Int) (r : Rp) : Bool := decide (1 ≤ r.id ∧ r.id ≤ 3 * f + 1) && decide (0 ≤ r.view ∧ r.view ≤ 20) && decide (0 ≤ r.done ∧ r.done ≤ 30)
def repF (f : Int) (ms : List Ms) (r : Rp) : Int := if repIn f r = false then 3 else if ¬ r.start = -1 ∧ startB f ms r.view r.start = false then 1 else if ((log f ms).length : Int) < r.done then 8 else 0
def repC (f : Int) (ms : List Ms) (r : Rp) : Int := if ¬ ledger f ms = 0 then ledger f ms else repF f ms r
theorem repC_bad {f : Int} {ms : List Ms} {r : Rp} (h : ¬ ledger f ms = 0) : repC f ms r = ledger f ms := by unfold repC; rw [if_pos h]
theorem repC_ok {f : Int} {ms : List Ms} {r : Rp} (h : ledger f ms = 0) : repC f ms r = repF f ms r := by unfold repC; rw [if_neg (by simp [h])]
theorem repC_led {f : Int} {ms : List Ms} {r : Rp} (h : repC f ms r = 0) : ledger f ms = 0 := by
 by_cases h1 : ledger f ms = 0
 ·exact h1
 ·rw [repC_bad h1] at h; exact h
theorem repF_zero {f : Int} {ms : List Ms} {r : Rp} (h : repF f ms r = 0) : (1 ≤ r.id ∧ r.id ≤ 3 * f + 1) ∧ (0 ≤ r.view ∧ r.view ≤ 20) ∧ (0 ≤ r.done ∧ r.done ≤ 30) ∧ (r.start = -1 ∨ startB f ms r.view r.start = true) := by
 unfold repF at h
 split at h
 ·omega
 ·rename_i h1
  have h2 : repIn f r = true := by simpa using h1
  unfold repIn at h2
  simp only [Bool.and_eq_true, decide_eq_true_eq] at h2
  split at h
  ·omega
  ·rename_i h3
   refine ⟨h2.1.1, h2.1.2, h2.2, ?_⟩
   by_cases h4 : r.start = -1
   ·exact Or.inl h4
   ·right
    cases h5 : startB f ms r.view r.start
    ·exact absurd ⟨h4, h5⟩ h3
    ·rfl
theorem newAt_neg {f : Int} {ms : List Ms} {p : Int} (h : p < 0) : newAt f ms p = false := by
 refine newAt_none ?_
 unfold nth
 rw [if_neg (by omega)]
theorem startB_inV {f : Int} {ms : List Ms} {r : Rp} (h : repF f ms r = 0) : startB f ms r.view r.start = inV r := by
 obtain ⟨-, -, -, h4⟩ := repF_zero h
 unfold inV
 rcases h4 with h4 | h4
 ·rw [h4]
  by_cases h0 : r.view = 0
  ·rw [h0, startB_zero]; rfl
  ·rw [startB_no h0 (Or.inl (newAt_neg (by omega)))]
   simp [h0]
 ·rw [h4]
  by_cases h0 : r.view = 0
  ·simp [h0]
  ·have h1 : ¬ r.start = -1 := by
    intro h5
    rw [h5, startB_no h0 (Or.inl (newAt_neg (by omega)))] at h4
    cases h4
   simp [h1]
def sentB (r : Rp) (k s x : Int) (z : Ms) : Bool := decide (z.kind = k) && decide (z.from_ = r.id) && decide (z.view = r.view) && (decide (s = 0) || decide (z.slot = s)) && (decide (x < 0) || decide (z.value = x))
def sent (ms : List Ms) (r : Rp) (k s x : Int) : Bool := ms.any (sentB r k s x)
def rangeB (slot value : Int) : Bool := decide (1 ≤ slot ∧ slot ≤ 30) && decide (0 ≤ value ∧ value ≤ 12)
def propC (f : Int) (ms : List Ms) (r : Rp) (slot value : Int) : Int := if rangeB slot value = false then 3 else if (inV r && decide (r.id = primary f r.view)) = false then 8 else if slotB (saidL ms r 1) slot = true then 6 else if 1 < slot ∧ slotB (saidL ms r 1) (slot - 1) = false then 4 else if holdB (startL ms r.view r.start) slot value = false then 1 else if slot ≤ ((startL ms r.view r.start).length : Int) then 0 else if valB (saidL ms r 1) value = true then 1 else 0
def slotAt (ms : List Ms) (p : Int) : Int := match nth ms p with
 | some z => z.slot
 | none => 0
def prepC (f : Int) (ms : List Ms) (r : Rp) (p : Int) : Int := if (proposeAt f ms p r.start && decide (viewAt ms p = r.view)) = false then 1 else if slotB (saidL ms r 2) (slotAt ms p) = true then 6 else 0
def comC (f : Int) (ms : List Ms) (r : Rp) (slot value : Int) : Int := if rangeB slot value = false then 3 else if inV r = false then 8 else if enough f ms 2 ⟨slot, r.view, value⟩ = false then 10 else if slotB (saidL ms r 3) slot = true then 6 else 0
def chC (r : Rp) (view : Int) : Int := if ¬ (0 ≤ view ∧ view ≤ 20) then 3 else if view ≤ r.view then 8 else 0
def refsN (f : Int) (ms : List Ms) (r : Rp) : List Int := (among f ms r.view (Nst.upto 0 ms.length) ms.length).take (2 * f + 1).toNat
def newC (f : Int) (ms : List Ms) (r : Rp) : Int := if (inV r || !decide (r.id = primary f r.view)) = true then 8 else if ((refsN f ms r).length : Int) < 2 * f + 1 then 10 else 0
def askC (f : Int) (ms : List Ms) (r : Rp) (c : Int) : Int := if ¬ repC f ms r = 0 then repC f ms r else c
end Msg
end Go.Proofs.YtecgjdgfjgcmdaaGreat
