/- H3, LG2, H9, H10, in one text. -/
import Derived.Test.YtfgjodnjahhanaaDoorVvH2
import Derived.Deep.RegionHeld3
import Derived.Test.YtfgjodnjahhanaaDoorVvLG1
import Derived.Test.YtfgjodnjahhanaaDoorVvH5
import Derived.Test.YtfgjodnjahhanaaDoorVvH8
namespace Go.Proofs.YtfgjodnjahhanaaDoor
open Go.RowKit
namespace Msg
def same {α : Type} [DecidableEq α] (zs ys : List α) : Bool := decide (zs = ys)
/-- Are they the same message? -/
def sameM (m n : Ms) : Bool := decide (m = n)
end Msg
end Go.Proofs.YtfgjodnjahhanaaDoor
namespace Go.Proofs.YtfgjodnjahhanaaDoor
open Go.RowKit
namespace Msg
def placeF : List Ms → Ms → Option Nat
  | [], _ => none
  | z :: l, m => if z = m then some 0 else (placeF l m).map (fun k => k + 1)
def place (ms : List Ms) (m : Ms) : Int := match placeF ms m with
  | some k => (k : Int)
  | none => -1
def refsB (m : Ms) (n : Nat) : Bool := m.refs.all (fun r => decide (r < (n : Int)))
def firstNZ (g : Nat → Int) : Nat → Int
  | 0 => 0
  | n + 1 => if firstNZ g n = 0 then g n else firstNZ g n
/-- What is wrong with the message m at place k of the ledger ms, those ahead of it being right. -/
def stepF (f : Int) (ms : List Ms) (k : Nat) (m : Ms) : Int := if ¬ faultM f m = 0 then faultM f m else if refsB m k = false then 4 else if m ∈ ms.take k then 6 else 0
def stepG (f : Int) (ms : List Ms) (k : Nat) : Int := match ms[k]? with
  | some m => stepF f ms k m
  | none => 0
theorem mem_take {ms : List Ms} {m : Ms} {k : Nat} : m ∈ ms.take k ↔ ∃ j, j < k ∧ ms[j]? = some m := by
  constructor
  · intro h
    obtain ⟨j, hj⟩ := List.getElem?_of_mem h
    rw [List.getElem?_take] at hj
    split at hj
    · rename_i h1; exact ⟨j, h1, hj⟩
    · cases hj
  · rintro ⟨j, hj, h⟩
    exact List.mem_of_getElem? (i := j) (by rw [List.getElem?_take, if_pos hj]; exact h)
def ledgerM (f : Int) (ms : List Ms) : Int := if 240 < ms.length then 2 else firstNZ (stepG f ms) ms.length
def ledger (f : Int) (ms : List Ms) : Int := if fOk f = false then 3 else ledgerM f ms
end Msg
theorem MSlice.take {w : World} {a : Option Addr} {cap k : Nat} {ms : List Ms} (h : MSlice w (.slice a ms.length cap) ms) (hk : k ≤ ms.length) : MSlice w (.slice a k cap) (ms.take k) := by
  obtain ⟨a0, cap0, h1, h2, h3, h4⟩ := h
  injection h1 with e1 e2 e3
  subst e1 e3
  have hl : (ms.take k).length = k := by rw [List.length_take]; omega
  refine ⟨a, cap, by rw [hl], by omega, h3, fun h0 => ?_⟩
  obtain ⟨b, off, e, hb, hN⟩ := h4 (by omega)
  refine ⟨b, off, e, hb, fun i m hm => hN i m ?_⟩
  rw [List.getElem?_take] at hm
  split at hm
  · exact hm
  · cases hm

end Go.Proofs.YtfgjodnjahhanaaDoor
namespace Go.Proofs.YtfgjodnjahhanaaDoor
open Go.RowKit
/-- A message in the program's own form, in a box. -/
def PBoxAt (w : World) (b : Nat) (m : Ms) (v u : Value) : Prop := b < w.heap.size ∧ w.cell? ⟨b, 0, none⟩ = some (.int .i64 m.view) ∧ w.cell? ⟨b, 1, none⟩ = some (.int .i64 m.kind) ∧ w.cell? ⟨b, 2, none⟩ = some (.int .i64 m.from_) ∧ w.cell? ⟨b, 3, none⟩ = some (.int .i64 m.slot) ∧ w.cell? ⟨b, 4, none⟩ = some (.int .i64 m.value) ∧ w.cell? ⟨b, 5, none⟩ = some v ∧ w.cell? ⟨b, 6, none⟩ = some u
theorem PBoxAt.ext {w w' : World} {b : Nat} {m : Ms} {v u : Value} (h : PBoxAt w b m v u) (he : Ext w w') : PBoxAt w' b m v u := by
  obtain ⟨hc, hf⟩ := Ext.cell he
  obtain ⟨hb, c0, c1, c2, c3, c4, c5, c6⟩ := h
  exact ⟨Nat.lt_of_lt_of_le hb he.size, (hc _ _ hb).trans c0, (hc _ _ hb).trans c1, (hc _ _ hb).trans c2, (hc _ _ hb).trans c3, (hc _ _ hb).trans c4, (hc _ _ hb).trans c5, (hc _ _ hb).trans c6⟩
namespace Msg
def beyondN (kind slot value : Int) (nc nr : Nat) : Bool := decide (¬ (1 ≤ kind ∧ kind ≤ 3) ∧ (slot ≠ 0 ∨ value ≠ 0) ∨ kind ≠ 4 ∧ 0 < nc ∨ kind ≠ 5 ∧ 0 < nr)
end Msg
def Msg.certIn (c : Ct) : Bool := decide (1 ≤ c.slot ∧ c.slot ≤ 30 ∧ 0 ≤ c.view ∧ c.view ≤ 20 ∧ 0 ≤ c.value ∧ c.value ≤ 12)
end Go.Proofs.YtfgjodnjahhanaaDoor
namespace Go.Proofs.YtfgjodnjahhanaaDoor
open Go.RowKit
theorem cellM_one (w : World) (x : Value) (t : TypeId) (m : Nat) (hm : w.heap.size = m) : ∀ j u, [x][j]? = some u → (w.alloc (.cells #[x] t)).cell? ((⟨m, 0, none⟩ : Addr).add j) = some u := by subst hm; exact cell_one_new w x t
end Go.Proofs.YtfgjodnjahhanaaDoor
