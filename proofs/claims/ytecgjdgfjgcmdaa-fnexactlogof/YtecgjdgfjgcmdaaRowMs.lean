/- how arguments that are ledgers are opened. -/
import Derived.Test.YtecgjdgfjgcmdaaRowM
import Derived.Test.YtecgjdgfjgcmdaaLG1
namespace Go.Proofs.Ytecgjdgfjgcmdaa
open Go.RowKit

open Go.ChangeShapes Go.WideShapes Go.ChangeAt Go.RowKit
set_option maxRecDepth 100000 in
theorem open_msgs {H : Type} {enc : TypeId × Value → H} {W : World} {v : Value} {d : DataW H} {ps : List MemPlace}
    (h : DataW.Trod enc Try.prog W 0 (fun _ => true) true 22 v d ps) (hv : ∃ a l c, v = .slice a l c) : ∃ zs : List Ms, MSlice W v zs := by
  obtain ⟨a0, l0, c0, rfl⟩ := hv
  obtain ⟨fuel, hf⟩ := h
  have c5 : Try.prog.cellsOf 50 = 7 := by kernel_rfl
  rcases Deep.open_slice Try.underlying22 hf with ⟨hcs, _⟩ | ⟨a, len, cap, m, n, D, Pl, hcs, _, hl, hm, hmm, _, hx⟩
  · simp [Value.cells] at hcs
    obtain ⟨rfl, rfl, rfl⟩ := hcs
    exact ⟨[], ⟨none, 0, rfl, Nat.le_refl _, by unfold maxLen; omega, fun h => by simp at h⟩⟩
  · simp [Value.cells] at hcs
    obtain ⟨rfl, rfl, rfl⟩ := hcs
    have hmc : m = c0 := by simpa using hmm
    subst hmc
    rw [c5] at hx
    obtain ⟨f, hfz⟩ := Deep.choose_lt (α := Ms × Value × Value) (p := fun i p => MLs W p.2.1 p.2.2 p.1 ∧ W.cell? (a.add (i * 7 + 0)) = some (.int .i64 p.1.kind) ∧ W.cell? (a.add (i * 7 + 1)) = some (.int .i64 p.1.view) ∧ W.cell? (a.add (i * 7 + 2)) = some (.int .i64 p.1.from_) ∧ W.cell? (a.add (i * 7 + 3)) = some (.int .i64 p.1.slot) ∧ W.cell? (a.add (i * 7 + 4)) = some (.int .i64 p.1.value) ∧ W.cell? (a.add (i * 7 + 5)) = some p.2.1 ∧ W.cell? (a.add (i * 7 + 6)) = some p.2.2) (n := m) (fun i hi => by
      obtain ⟨cs', h1, h2⟩ := hx i hi
      obtain ⟨_, hl6, hcell⟩ := World.cells?_some h1
      obtain ⟨z, x, y, hz, hcs⟩ := open_msgL hl6 h2
      subst hcs
      have q0 := hcell 0 (by omega)
      have q1 := hcell 1 (by omega)
      have q2 := hcell 2 (by omega)
      have q3 := hcell 3 (by omega)
      have q4 := hcell 4 (by omega)
      have q5 := hcell 5 (by omega)
      have q6 := hcell 6 (by omega)
      simp only [nodes_add] at q0 q1 q2 q3 q4 q5 q6
      exact ⟨(z, x, y), hz, q0, q1, q2, q3, q4, q5, q6⟩)
    refine ⟨(List.range l0).map (fun i => (f i).1), ⟨some a, m, by simp, by simpa using hl, hm, fun h0 => ?_⟩⟩
    have h0' : 0 < l0 := by simpa using h0
    have hs : a = ⟨a.block, a.off, none⟩ := spot_none (by have := (hfz 0 (by omega)).2.1; simpa [Addr.add] using this)
    refine ⟨a.block, a.off, by rw [← hs], World.block_lt_of_cell? W _ (hfz 0 (by omega)).2.1, ?_⟩
    intro i z hz
    rw [List.getElem?_map] at hz
    obtain ⟨j, hj, rfl⟩ := Option.map_eq_some_iff.1 hz
    have hi := (List.getElem?_eq_some_iff.1 hj).1
    rw [List.length_range] at hi
    have hj2 : i = j := by rw [List.getElem?_range hi] at hj; exact Option.some.inj hj
    subst hj2
    obtain ⟨hls, q0, q1, q2, q3, q4, q5, q6⟩ := hfz i (by omega)
    rw [hs, Addr.add_lit] at q0 q1 q2 q3 q4 q5 q6
    simp only [Nat.add_zero, ← Nat.add_assoc] at q0 q1 q2 q3 q4 q5 q6
    exact ⟨_, _, ⟨q0, q1, q2, q3, q4, q5, q6⟩, hls⟩
end Go.Proofs.Ytecgjdgfjgcmdaa
