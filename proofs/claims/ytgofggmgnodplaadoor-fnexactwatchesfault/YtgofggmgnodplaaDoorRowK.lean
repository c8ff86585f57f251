/- How arguments that are watches are opened. -/
import Derived.Test.YtgofggmgnodplaaDoorRowZ
import Derived.Test.YtgofggmgnodplaaDoorK1
namespace Go.Proofs.YtgofggmgnodplaaDoor
open Go.ChangeShapes Go.WideShapes Go.ChangeAt Go.RowKit

set_option maxRecDepth 100000 in
theorem open_watchL {H : Type} {enc : TypeId × Value → H} {W : World} {fuel : Nat} {cs : List Value} {x : DataW H × List MemPlace} (hl : cs.length = 2)
    (hf : DataW.trod enc Tryd.prog W 0 (fun _ => true) true fuel 51 cs = some x) : ∃ z : Wt, z.path.size ≤ maxLen ∧ cs = [.int .i64 z.client, .string z.path] := by
  obtain ⟨xs, n', _, _, _, hlen, hfl⟩ := DataW.trod_struct Tryd.underlying51 hf
  match cs, hl with
  | [u0, u1], _ =>
   match xs, hlen with
   | [y0, y1], _ =>
    have f0 := hfl 0 _ rfl
    have f1 := hfl 1 _ rfl
    simp only [List.getElem?_cons_zero, List.getElem?_cons_succ] at f0 f1
    obtain ⟨m0, e0, _, _⟩ := DataW.trod_int Tryd.underlying2 f0
    obtain ⟨m1, e1, _, hs⟩ := DataW.trod_string Tryd.underlying9 f1
    have g0 : u0 = .int .i64 m0 := by injection e0
    have g1 : u1 = .string m1 := by injection e1
    subst g0 g1
    exact ⟨⟨m0, m1⟩, hs, rfl⟩
set_option maxRecDepth 100000 in
theorem open_watchV {H : Type} {enc : TypeId × Value → H} {W : World} {v : Value} {d : DataW H} {ps : List MemPlace}
    (h : DataW.Trod enc Tryd.prog W 0 (fun _ => true) true 51 v d ps) (hv : ∃ cs, v = .agg cs ∧ cs.size = Tryd.prog.cellsOf 51) : ∃ z : Wt, v = wtagg z ∧ z.path.size ≤ maxLen := by
  obtain ⟨cs, rfl, hsz⟩ := hv
  have c5 : Tryd.prog.cellsOf 51 = 2 := by kernel_rfl
  rw [c5] at hsz
  obtain ⟨fuel, hf⟩ := h
  obtain ⟨z, hz, hcs⟩ := open_watchL (cs := cs.toList) (by simpa using hsz) hf
  refine ⟨z, ?_, hz⟩
  unfold wtagg
  congr 1
  exact Array.toList_inj.1 (by rw [hcs])
set_option maxRecDepth 100000 in
theorem open_watches {H : Type} {enc : TypeId × Value → H} {W : World} {v : Value} {d : DataW H} {ps : List MemPlace}
    (h : DataW.Trod enc Tryd.prog W 0 (fun _ => true) true 22 v d ps) (hv : ∃ a l c, v = .slice a l c) : ∃ zs : List Wt, WtSlice W v zs ∧ ∀ z ∈ zs, z.path.size ≤ maxLen := by
  obtain ⟨a0, l0, c0, rfl⟩ := hv
  obtain ⟨fuel, hf⟩ := h
  have c5 : Tryd.prog.cellsOf 51 = 2 := by kernel_rfl
  rcases Deep.open_slice Tryd.underlying22 hf with ⟨hcs, _⟩ | ⟨a, len, cap, m, n, D, Pl, hcs, _, hl, hm, hmm, _, hx⟩
  · simp [Value.cells] at hcs
    obtain ⟨rfl, rfl, rfl⟩ := hcs
    exact ⟨[], ⟨none, 0, rfl, Nat.le_refl _, by unfold maxLen; omega, fun h => by simp at h⟩, fun z hz => by cases hz⟩
  · simp [Value.cells] at hcs
    obtain ⟨rfl, rfl, rfl⟩ := hcs
    have hmc : m = c0 := by simpa using hmm
    subst hmc
    rw [c5] at hx
    obtain ⟨f, hfz⟩ := Deep.choose_lt (α := Wt) (p := fun i z => z.path.size ≤ maxLen ∧ W.cell? (a.add (i * 2 + 0)) = some (.int .i64 z.client) ∧ W.cell? (a.add (i * 2 + 1)) = some (.string z.path)) (n := m) (fun i hi => by
      obtain ⟨cs', h1, h2⟩ := hx i hi
      obtain ⟨_, hl6, hcell⟩ := World.cells?_some h1
      obtain ⟨z, hz, hcs⟩ := open_watchL hl6 h2
      subst hcs
      have q0 := hcell 0 (by omega)
      have q1 := hcell 1 (by omega)
      simp only [nodes_add] at q0 q1
      exact ⟨z, hz, q0, q1⟩)
    refine ⟨(List.range l0).map f, ⟨some a, m, by simp, by simpa using hl, hm, fun h0 => ?_⟩, fun z hz => ?_⟩
    · have h0' : 0 < l0 := by simpa using h0
      have hs : a = ⟨a.block, a.off, none⟩ := spot_none (by have := (hfz 0 (by omega)).2.1; simpa [Addr.add] using this)
      refine ⟨a.block, a.off, by rw [← hs], World.block_lt_of_cell? W _ (hfz 0 (by omega)).2.1, ?_⟩
      intro i z hz
      rw [List.getElem?_map] at hz
      obtain ⟨j, hj, rfl⟩ := Option.map_eq_some_iff.1 hz
      have hi := (List.getElem?_eq_some_iff.1 hj).1
      rw [List.length_range] at hi
      have hj2 : i = j := by rw [List.getElem?_range hi] at hj; exact Option.some.inj hj
      subst hj2
      obtain ⟨_, q0, q1⟩ := hfz i (by omega)
      rw [hs, Addr.add_lit] at q0 q1
      simp only [Nat.add_zero, ← Nat.add_assoc] at q0 q1
      exact ⟨q0, q1⟩
    · obtain ⟨i, hi, rfl⟩ := List.mem_map.1 hz
      rw [List.mem_range] at hi
      exact (hfz i (by omega)).1
end Go.Proofs.YtgofggmgnodplaaDoor
