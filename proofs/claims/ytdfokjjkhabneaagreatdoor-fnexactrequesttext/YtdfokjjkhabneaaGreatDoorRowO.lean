/- How arguments that are operations and requests are opened. -/
import Derived.Test.YtdfokjjkhabneaaGreatDoorRowZ
import Derived.Test.YtdfokjjkhabneaaGreatDoorO1
namespace Go.Proofs.YtdfokjjkhabneaaGreatDoor
open Go.ChangeShapes Go.WideShapes Go.ChangeAt Go.RowKit
set_option maxRecDepth 100000 in
theorem open_opL {H : Type} {enc : TypeId × Value → H} {W : World} {n : Nat} {cs : List Value} {x : DataW H × List MemPlace}
    (hl : cs.length = 6) (h : DataW.trod enc Tryz.prog W 0 (fun _ => true) true n 125 cs = some x) :
    ∃ z : Opn, z.path.size ≤ maxLen ∧ cs = [.int .i64 z.kind, .string z.path, .int .i64 z.data, .int .i64 z.version, .bool z.seq, .bool z.own] := by
  obtain ⟨xs, n', _, _, _, hlen, hf⟩ := DataW.trod_struct Tryz.underlying125 h
  match cs, hl with
  | [u0, u1, u2, u3, u4, u5], _ =>
    match xs, hlen with
    | [y0, y1, y2, y3, y4, y5], _ =>
      have f0 := hf 0 _ rfl
      have f1 := hf 1 _ rfl
      have f2 := hf 2 _ rfl
      have f3 := hf 3 _ rfl
      have f4 := hf 4 _ rfl
      have f5 := hf 5 _ rfl
      simp only [List.getElem?_cons_zero, List.getElem?_cons_succ] at f0 f1 f2 f3 f4 f5
      obtain ⟨m0, e0, _, _⟩ := DataW.trod_int Tryz.underlying2 f0
      obtain ⟨s, e1, _, hs⟩ := DataW.trod_string Tryz.underlying9 f1
      obtain ⟨m2, e2, _, _⟩ := DataW.trod_int Tryz.underlying2 f2
      obtain ⟨m3, e3, _, _⟩ := DataW.trod_int Tryz.underlying2 f3
      obtain ⟨m4, e4, _⟩ := DataW.trod_bool Tryz.underlying4 f4
      obtain ⟨m5, e5, _⟩ := DataW.trod_bool Tryz.underlying4 f5
      injection e0 with e0 _
      injection e1 with e1 _
      injection e2 with e2 _
      injection e3 with e3 _
      injection e4 with e4 _
      injection e5 with e5 _
      subst e0 e1 e2 e3 e4 e5
      exact ⟨⟨m0, s, m2, m3, m4, m5⟩, hs, rfl⟩
set_option maxRecDepth 100000 in
theorem open_opV {H : Type} {enc : TypeId × Value → H} {W : World} {v : Value} {d : DataW H} {ps : List MemPlace}
    (h : DataW.Trod enc Tryz.prog W 0 (fun _ => true) true 125 v d ps) (hv : ∃ cs, v = .agg cs ∧ cs.size = Tryz.prog.cellsOf 125) : ∃ z : Opn, v = oagg z ∧ z.path.size ≤ maxLen := by
  obtain ⟨cs, rfl, hsz⟩ := hv
  have c5 : Tryz.prog.cellsOf 125 = 6 := by kernel_rfl
  rw [c5] at hsz
  obtain ⟨fuel, hf⟩ := h
  obtain ⟨z, hz, hcs⟩ := open_opL (cs := cs.toList) (by simpa using hsz) hf
  refine ⟨z, ?_, hz⟩
  unfold oagg
  congr 1
  exact Array.toList_inj.1 (by rw [hcs])
set_option maxRecDepth 100000 in
theorem open_opsL {H : Type} {enc : TypeId × Value → H} {W : World} {n : Nat} {u : Value} {x : DataW H × List MemPlace}
    (hf : DataW.trod enc Tryz.prog W 0 (fun _ => true) true n 43 [u] = some x) : ∃ zs, OSlice W u zs ∧ ∀ z ∈ zs, z.path.size ≤ maxLen := by
  have c5 : Tryz.prog.cellsOf 125 = 6 := by kernel_rfl
  rcases Deep.open_slice Tryz.underlying43 hf with ⟨hcs, _⟩ | ⟨a, l0, cap, m, n, D, Pl, hcs, _, hl, hm, hmm, _, hx⟩
  · simp at hcs
    subst hcs
    exact ⟨[], ⟨none, 0, rfl, Nat.le_refl _, by unfold maxLen; omega, fun h => by simp at h⟩, fun z hz => by cases hz⟩
  · simp at hcs
    subst hcs
    have hmc : m = cap := by simpa using hmm
    subst hmc
    rw [c5] at hx
    obtain ⟨f, hfz⟩ := Deep.choose_lt (α := Opn) (p := fun i z => z.path.size ≤ maxLen ∧ W.cell? (a.add (i * 6 + 0)) = some (.int .i64 z.kind) ∧ W.cell? (a.add (i * 6 + 1)) = some (.string z.path) ∧ W.cell? (a.add (i * 6 + 2)) = some (.int .i64 z.data) ∧ W.cell? (a.add (i * 6 + 3)) = some (.int .i64 z.version) ∧ W.cell? (a.add (i * 6 + 4)) = some (.bool z.seq) ∧ W.cell? (a.add (i * 6 + 5)) = some (.bool z.own)) (n := m) (fun i hi => by
      obtain ⟨cs', h1, h2⟩ := hx i hi
      obtain ⟨_, hl6, hcell⟩ := World.cells?_some h1
      obtain ⟨z, hz, hcs⟩ := open_opL hl6 h2
      subst hcs
      have q0 := hcell 0 (by omega)
      have q1 := hcell 1 (by omega)
      have q2 := hcell 2 (by omega)
      have q3 := hcell 3 (by omega)
      have q4 := hcell 4 (by omega)
      have q5 := hcell 5 (by omega)
      simp only [nodes_add] at q0 q1 q2 q3 q4 q5
      exact ⟨z, hz, q0, q1, q2, q3, q4, q5⟩)
    refine ⟨(List.range l0).map f, ⟨some a, m, by simp, by simpa using hl, hm, fun h0 => ?_⟩, fun z hz => ?_⟩
    · have h0' : 0 < l0 := by simpa using h0
      have hs : a = ⟨a.block, a.off, none⟩ := spot_none (by have := (hfz 0 (by omega)).2.1; simpa [Addr.add] using this)
      refine ⟨a.block, a.off, by rw [← hs], World.block_lt_of_cell? W _ (hfz 0 (by omega)).2.1, ?_⟩
      intro i z hz
      rw [List.getElem?_map] at hz
      obtain ⟨j, hj, rfl⟩ := Option.map_eq_some_iff.1 hz
      have hi := (List.getElem?_eq_some_iff.1 hj).1
      rw [List.length_range] at hi
      have hj2 : i = j := by rw [List.getElem?_range hi] at hj; exact Option.some.inj hj
      subst hj2
      obtain ⟨_, q0, q1, q2, q3, q4, q5⟩ := hfz i (by omega)
      rw [hs, Addr.add_lit] at q0 q1 q2 q3 q4 q5
      simp only [Nat.add_zero, ← Nat.add_assoc] at q0 q1 q2 q3 q4 q5
      exact ⟨q0, q1, q2, q3, q4, q5⟩
    · obtain ⟨i, hi, rfl⟩ := List.mem_map.1 hz
      rw [List.mem_range] at hi
      exact (hfz i (by omega)).1
set_option maxRecDepth 100000 in
theorem open_req {H : Type} {enc : TypeId × Value → H} {W : World} {v : Value} {d : DataW H} {ps : List MemPlace}
    (h : DataW.Trod enc Tryz.prog W 0 (fun _ => true) true 45 v d ps) (hv : ∃ cs, v = .agg cs ∧ cs.size = Tryz.prog.cellsOf 45) :
    ∃ (r : Rq) (u : Value), v = ragg r u ∧ OSlice W u r.ops ∧ ∀ z ∈ r.ops, z.path.size ≤ maxLen := by
  obtain ⟨cs, rfl, hsz⟩ := hv
  have c5 : Tryz.prog.cellsOf 45 = 4 := by kernel_rfl
  rw [c5] at hsz
  obtain ⟨fuel, hf⟩ := h
  obtain ⟨xs, n', _, _, _, hlen, hfl⟩ := DataW.trod_struct Tryz.underlying45 hf
  match xs, hlen with
  | [y0, y1, y2, y3], _ =>
    obtain ⟨u0, u1, u2, u3, rfl⟩ : ∃ u0 u1 u2 u3, cs = #[u0, u1, u2, u3] := by
      match cs, hsz with
      | ⟨[u0, u1, u2, u3]⟩, _ => exact ⟨u0, u1, u2, u3, rfl⟩
    have f0 := hfl 0 _ rfl
    have f1 := hfl 1 _ rfl
    have f2 := hfl 2 _ rfl
    have f3 := hfl 3 _ rfl
    simp only [List.getElem?_cons_zero, List.getElem?_cons_succ] at f0 f1 f2 f3
    obtain ⟨m0, e0, _, _⟩ := DataW.trod_int Tryz.underlying2 f0
    obtain ⟨m1, e1, _, _⟩ := DataW.trod_int Tryz.underlying2 f1
    obtain ⟨m2, e2, _, _⟩ := DataW.trod_int Tryz.underlying2 f2
    have g0 : u0 = .int .i64 m0 := by injection e0
    have g1 : u1 = .int .i64 m1 := by injection e1
    have g2 : u2 = .int .i64 m2 := by injection e2
    subst g0 g1 g2
    obtain ⟨zs, hS, hz⟩ := open_opsL f3
    exact ⟨⟨m0, m1, m2, zs⟩, u3, rfl, hS, hz⟩
end Go.Proofs.YtdfokjjkhabneaaGreatDoor
