/- How arguments that are votes are opened. -/
import Derived.Test.YtfgjodnjahhanaaVfRowY
import Derived.Test.YtfgjodnjahhanaaVfVT1
namespace Go.Proofs.Ytfgjodnjahhanaa
open Go.ChangeShapes Go.WideShapes Go.ChangeAt Go.RowKit
set_option maxRecDepth 100000 in
theorem open_voteL {H : Type} {enc : TypeId × Value → H} {W : World} {n : Nat} {cs : List Value} {x : DataW H × List MemPlace}
    (hl : cs.length = 4) (h : DataW.trod enc Try.prog W 0 (fun _ => true) true n 48 cs = some x) :
    ∃ z : Vt, z.path.size ≤ maxLen ∧ cs = [.int .i64 z.frm, .int .i64 z.code, .int .i64 z.value, .string z.path] := by
  obtain ⟨xs, n', _, _, _, hlen, hf⟩ := DataW.trod_struct Try.underlying48 h
  match cs, hl with
  | [u0, u1, u2, u3], _ =>
    match xs, hlen with
    | [y0, y1], _ =>
      have f0 := hf 0 _ rfl
      have f1 := hf 1 _ rfl
      simp only [List.getElem?_cons_zero, List.getElem?_cons_succ] at f0 f1
      obtain ⟨m0, e0, _, _⟩ := DataW.trod_int Try.underlying2 f0
      obtain ⟨m1, m2, s, hs, e1⟩ := open_replyL (cs := [u1, u2, u3]) rfl f1
      injection e0 with e0 _
      injection e1 with e1 e2
      injection e2 with e2 e3
      injection e3 with e3 _
      subst e0 e1 e2 e3
      exact ⟨⟨m0, m1, m2, s⟩, hs, rfl⟩
set_option maxRecDepth 100000 in
theorem open_votes {H : Type} {enc : TypeId × Value → H} {W : World} {v : Value} {d : DataW H} {ps : List MemPlace}
    (h : DataW.Trod enc Try.prog W 0 (fun _ => true) true 22 v d ps) (hv : ∃ a l c, v = .slice a l c) : ∃ zs : List Vt, VtSlice W v zs ∧ ∀ z ∈ zs, z.path.size ≤ maxLen := by
  obtain ⟨a0, l0, c0, rfl⟩ := hv
  obtain ⟨fuel, hf⟩ := h
  have c5 : Try.prog.cellsOf 48 = 4 := by kernel_rfl
  rcases Deep.open_slice Try.underlying22 hf with ⟨hcs, _⟩ | ⟨a, len, cap, m, n, D, Pl, hcs, _, hl, hm, hmm, _, hx⟩
  · simp [Value.cells] at hcs
    obtain ⟨rfl, rfl, rfl⟩ := hcs
    exact ⟨[], ⟨none, 0, rfl, Nat.le_refl _, by unfold maxLen; omega, fun h => by simp at h⟩, fun z hz => by cases hz⟩
  · simp [Value.cells] at hcs
    obtain ⟨rfl, rfl, rfl⟩ := hcs
    have hmc : m = c0 := by simpa using hmm
    subst hmc
    rw [c5] at hx
    obtain ⟨f, hfz⟩ := Deep.choose_lt (α := Vt) (p := fun i z => z.path.size ≤ maxLen ∧ W.cell? (a.add (i * 4 + 0)) = some (.int .i64 z.frm) ∧ W.cell? (a.add (i * 4 + 1)) = some (.int .i64 z.code) ∧ W.cell? (a.add (i * 4 + 2)) = some (.int .i64 z.value) ∧ W.cell? (a.add (i * 4 + 3)) = some (.string z.path)) (n := m) (fun i hi => by
      obtain ⟨cs', h1, h2⟩ := hx i hi
      obtain ⟨_, hl6, hcell⟩ := World.cells?_some h1
      obtain ⟨z, hz, hcs⟩ := open_voteL hl6 h2
      subst hcs
      have q0 := hcell 0 (by omega)
      have q1 := hcell 1 (by omega)
      have q2 := hcell 2 (by omega)
      have q3 := hcell 3 (by omega)
      simp only [nodes_add] at q0 q1 q2 q3
      exact ⟨z, hz, q0, q1, q2, q3⟩)
    refine ⟨(List.range l0).map f, ⟨some a, m, by simp, by simpa using hl, hm, fun h0 => ?_⟩, fun z hz => ?_⟩
    · have h0' : 0 < l0 := by simpa using h0
      have hs : a = ⟨a.block, a.off, none⟩ := spot_none (by have := (hfz 0 (by omega)).2.1; simpa [Addr.add] using this)
      refine ⟨a.block, a.off, by rw [← hs], World.block_lt_of_cell? W _ (hfz 0 (by omega)).2.1, ?_⟩
      intro i z hz
      rw [List.getElem?_map] at hz
      obtain ⟨j, hj, rfl⟩ := Option.map_eq_some_iff.1 hz
      have hi := (List.getElem?_eq_some_iff.1 hj).1
      rw [List.length_range] at hi
      have hj2 : i = j := by rw [List.getElem?_range hi] at hj; exact Option.some.inj hj
      subst hj2
      obtain ⟨_, q0, q1, q2, q3⟩ := hfz i (by omega)
      rw [hs, Addr.add_lit] at q0 q1 q2 q3
      simp only [Nat.add_zero, ← Nat.add_assoc] at q0 q1 q2 q3
      exact ⟨q0, q1, q2, q3⟩
    · obtain ⟨i, hi, rfl⟩ := List.mem_map.1 hz
      rw [List.mem_range] at hi
      exact (hfz i (by omega)).1
end Go.Proofs.Ytfgjodnjahhanaa
