/- the laws' marks of sessions. -/
import Derived.Test.YtdjnkchaapcjpaaGreatDoorE1
namespace Go.Proofs.YtdjnkchaapcjpaaGreatDoor
open Go.RowKit

theorem SesAt.upd {w w' : World} {g off b : Nat} {ts : List Se} (h : SesAt w g off ts) (he : Upd b w w') (hne : g ≠ b) (hg : g < w.heap.size) : SesAt w' g off ts :=
  fun i t ht => ⟨(he.at_ne _ _ hne hg).1.trans (h i t ht).1, (he.at_ne _ _ hne hg).1.trans (h i t ht).2⟩
theorem ERoom.upd {w w' : World} {g off n b : Nat} (h : ERoom w g off n) (he : Upd b w w') (hne : g ≠ b) : ERoom w' g off n :=
  ⟨Nat.lt_of_lt_of_le h.1 he.2.1, fun j hj => ⟨by rw [(he.at_ne _ _ hne h.1).1]; exact (h.2 j hj).1, by rw [(he.at_ne _ _ hne h.1).2]; exact (h.2 j hj).2⟩⟩
def EOwn (w : World) (v : Value) (g : Nat) (ts : List Se) : Prop :=
  ∃ a cap, v = .slice a ts.length cap ∧ ts.length ≤ cap ∧ cap ≤ maxLen ∧ (0 < ts.length → ∃ off, a = some ⟨g, off, none⟩ ∧ ERoom w g off ts.length ∧ SesAt w g off ts)
theorem EOwn.slice {w : World} {v : Value} {g : Nat} {ts : List Se} (h : EOwn w v g ts) : ESlice w v ts := by
  obtain ⟨a, cap, h1, h2, h3, h4⟩ := h
  refine ⟨a, cap, h1, h2, h3, fun h0 => ?_⟩
  obtain ⟨off, e, hr, hN⟩ := h4 h0
  exact ⟨g, off, e, hr.1, hN⟩
theorem EOwn.ext {w w' : World} {v : Value} {g : Nat} {ts : List Se} (h : EOwn w v g ts) (he : Ext w w') : EOwn w' v g ts := by
  obtain ⟨a, cap, h1, h2, h3, h4⟩ := h
  refine ⟨a, cap, h1, h2, h3, fun h0 => ?_⟩
  obtain ⟨off, e, hr, hN⟩ := h4 h0
  exact ⟨off, e, hr.ext he, hN.ext hr.1 he⟩
theorem EOwn.lt {w : World} {v : Value} {g : Nat} {ts : List Se} (h : EOwn w v g ts) (h0 : 0 < ts.length) : g < w.heap.size := by
  obtain ⟨a, cap, -, -, -, h4⟩ := h
  obtain ⟨off, -, hr, -⟩ := h4 h0
  exact hr.1
theorem EOwn.nil {w w' : World} {v : Value} {g g' : Nat} {ts : List Se} (h : EOwn w v g ts) (h0 : ¬ 0 < ts.length) : EOwn w' v g' ts := by
  obtain ⟨a, cap, h1, h2, h3, -⟩ := h
  exact ⟨a, cap, h1, h2, h3, fun h => absurd h h0⟩
theorem EOwn.upd' {w w' : World} {v : Value} {g b : Nat} {ts : List Se} (h : EOwn w v g ts) (he : Upd b w w') (hne : 0 < ts.length → g ≠ b) : EOwn w' v g ts := by
  by_cases h0 : 0 < ts.length
  · obtain ⟨a, cap, h1, h2, h3, h4⟩ := h
    refine ⟨a, cap, h1, h2, h3, fun _ => ?_⟩
    obtain ⟨off, e, hr, hN⟩ := h4 h0
    exact ⟨off, e, hr.upd he (hne h0), hN.upd he (hne h0) hr.1⟩
  · exact h.nil h0
theorem EOwn.pick {w : World} {v : Value} {g : Nat} {ts : List Se} (h : EOwn w v g ts) : ∃ g', g' ≤ w.heap.size ∧ EOwn w v g' ts ∧ (g' = w.heap.size ∧ ¬ 0 < ts.length ∨ (g' = g ∧ g < w.heap.size ∧ 0 < ts.length)) := by
  by_cases h0 : 0 < ts.length
  · exact ⟨g, Nat.le_of_lt (h.lt h0), h, Or.inr ⟨rfl, h.lt h0, h0⟩⟩
  · exact ⟨_, Nat.le_refl _, h.nil h0, Or.inl ⟨rfl, h0⟩⟩

def emark (k : Nat) : Se := ⟨(k : Nat), (k + 1 : Nat)⟩
def emarks (k n : Nat) : List Se := (List.range n).map fun i => emark (k + 2 * i)
theorem emarks_length (k n : Nat) : (emarks k n).length = n := by simp [emarks]
theorem emarks_get (k n i : Nat) (h : i < n) : (emarks k n)[i]? = some (emark (k + 2 * i)) := by
  unfold emarks
  rw [List.getElem?_map, List.getElem?_range h]; rfl

/-- The slice value has an address. -/
def SomeS (v : Value) : Prop := ∃ b off n cap, v = .slice (some ⟨b, off, none⟩) n cap
theorem toSessionS_own (v : Value) (l : List Se) (w : World) (hS : ESlice w v l) (hl : l.length ≤ 1048576) :
    Calls Tryz.prog 45 #[v] w fun e w' => ∃ v', e = .returned v' ∧ SomeS v' ∧ EOwn w' v' w.heap.size l ∧ Ext w w' :=
  (toSessionS_at v l w hS hl).mono fun _ _ ⟨he, hr, hN, hE⟩ => ⟨_, he, ⟨_, _, _, _, rfl⟩, ⟨_, _, rfl, Nat.le_refl _, by unfold maxLen; omega, fun _ => ⟨0, rfl, hr, hN⟩⟩, hE⟩
end Go.Proofs.YtdjnkchaapcjpaaGreatDoor
