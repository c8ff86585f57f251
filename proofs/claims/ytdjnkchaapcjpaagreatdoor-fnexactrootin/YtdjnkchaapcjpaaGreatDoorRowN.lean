/- How arguments that are states are opened. -/
import Derived.Test.YtdjnkchaapcjpaaGreatDoorRowE
import Derived.Test.YtdjnkchaapcjpaaGreatDoorN1
namespace Go.Proofs.YtdjnkchaapcjpaaGreatDoor
open Go.ChangeShapes Go.WideShapes Go.ChangeAt Go.RowKit
set_option maxRecDepth 100000 in
theorem open_replyL {H : Type} {enc : TypeId × Value → H} {W : World} {n : Nat} {cs : List Value} {x : DataW H × List MemPlace}
    (hl : cs.length = 3) (h : DataW.trod enc Tryz.prog W 0 (fun _ => true) true n 147 cs = some x) :
    ∃ (c v : Int) (p : ByteArray), p.size ≤ maxLen ∧ cs = [.int .i64 c, .int .i64 v, .string p] := by
  obtain ⟨xs, n', _, _, _, hlen, hf⟩ := DataW.trod_struct Tryz.underlying147 h
  match cs, hl with
  | [u0, u1, u2], _ =>
    match xs, hlen with
    | [y0, y1, y2], _ =>
      have f0 := hf 0 _ rfl
      have f1 := hf 1 _ rfl
      have f2 := hf 2 _ rfl
      simp only [List.getElem?_cons_zero, List.getElem?_cons_succ] at f0 f1 f2
      obtain ⟨m0, e0, _, _⟩ := DataW.trod_int Tryz.underlying2 f0
      obtain ⟨m1, e1, _, _⟩ := DataW.trod_int Tryz.underlying2 f1
      obtain ⟨s, e2, _, hs⟩ := DataW.trod_string Tryz.underlying9 f2
      injection e0 with e0 _
      injection e1 with e1 _
      injection e2 with e2 _
      subst e0 e1 e2
      exact ⟨m0, m1, s, hs, rfl⟩
set_option maxRecDepth 100000 in
theorem open_markL {H : Type} {enc : TypeId × Value → H} {W : World} {n : Nat} {cs : List Value} {x : DataW H × List MemPlace}
    (hl : cs.length = 5) (h : DataW.trod enc Tryz.prog W 0 (fun _ => true) true n 149 cs = some x) :
    ∃ z : Mk, z.path.size ≤ maxLen ∧ cs = [.int .i64 z.client, .int .i64 z.number, .int .i64 z.code, .int .i64 z.value, .string z.path] := by
  obtain ⟨xs, n', _, _, _, hlen, hf⟩ := DataW.trod_struct Tryz.underlying149 h
  match cs, hl with
  | [u0, u1, u2, u3, u4], _ =>
    match xs, hlen with
    | [y0, y1, y2], _ =>
      have f0 := hf 0 _ rfl
      have f1 := hf 1 _ rfl
      have f2 := hf 2 _ rfl
      simp only [List.getElem?_cons_zero, List.getElem?_cons_succ] at f0 f1 f2
      obtain ⟨m0, e0, _, _⟩ := DataW.trod_int Tryz.underlying2 f0
      obtain ⟨m1, e1, _, _⟩ := DataW.trod_int Tryz.underlying2 f1
      obtain ⟨m2, m3, s, hs, e2⟩ := open_replyL (cs := [u2, u3, u4]) rfl f2
      injection e0 with e0 _
      injection e1 with e1 _
      injection e2 with e2 e3
      injection e3 with e3 e4
      injection e4 with e4 _
      subst e0 e1 e2 e3 e4
      exact ⟨⟨m0, m1, m2, m3, s⟩, hs, rfl⟩
set_option maxRecDepth 100000 in
theorem open_marksL {H : Type} {enc : TypeId × Value → H} {W : World} {n : Nat} {u : Value} {x : DataW H × List MemPlace}
    (hf : DataW.trod enc Tryz.prog W 0 (fun _ => true) true n 24 [u] = some x) : ∃ zs, MSlice W u zs ∧ ∀ z ∈ zs, z.path.size ≤ maxLen := by
  have c5 : Tryz.prog.cellsOf 149 = 5 := by kernel_rfl
  rcases Deep.open_slice Tryz.underlying24 hf with ⟨hcs, _⟩ | ⟨a, l0, cap, m, n, D, Pl, hcs, _, hl, hm, hmm, _, hx⟩
  · simp at hcs
    subst hcs
    exact ⟨[], ⟨none, 0, rfl, Nat.le_refl _, by unfold maxLen; omega, fun h => by simp at h⟩, fun z hz => by cases hz⟩
  · simp at hcs
    subst hcs
    have hmc : m = cap := by simpa using hmm
    subst hmc
    rw [c5] at hx
    obtain ⟨f, hfz⟩ := Deep.choose_lt (α := Mk) (p := fun i z => z.path.size ≤ maxLen ∧ W.cell? (a.add (i * 5 + 0)) = some (.int .i64 z.client) ∧ W.cell? (a.add (i * 5 + 1)) = some (.int .i64 z.number) ∧ W.cell? (a.add (i * 5 + 2)) = some (.int .i64 z.code) ∧ W.cell? (a.add (i * 5 + 3)) = some (.int .i64 z.value) ∧ W.cell? (a.add (i * 5 + 4)) = some (.string z.path)) (n := m) (fun i hi => by
      obtain ⟨cs', h1, h2⟩ := hx i hi
      obtain ⟨_, hl6, hcell⟩ := World.cells?_some h1
      obtain ⟨z, hz, hcs⟩ := open_markL hl6 h2
      subst hcs
      have q0 := hcell 0 (by omega)
      have q1 := hcell 1 (by omega)
      have q2 := hcell 2 (by omega)
      have q3 := hcell 3 (by omega)
      have q4 := hcell 4 (by omega)
      simp only [nodes_add] at q0 q1 q2 q3 q4
      exact ⟨z, hz, q0, q1, q2, q3, q4⟩)
    refine ⟨(List.range l0).map f, ⟨some a, m, by simp, by simpa using hl, hm, fun h0 => ?_⟩, fun z hz => ?_⟩
    · have h0' : 0 < l0 := by simpa using h0
      have hs : a = ⟨a.block, a.off, none⟩ := spot_none (by have := (hfz 0 (by omega)).2.1; simpa [Addr.add] using this)
      refine ⟨a.block, a.off, by rw [← hs], World.block_lt_of_cell? W _ (hfz 0 (by omega)).2.1, ?_⟩
      intro i z hz
      rw [List.getElem?_map] at hz
      obtain ⟨j, hj, rfl⟩ := Option.map_eq_some_iff.1 hz
      have hi := (List.getElem?_eq_some_iff.1 hj).1
      rw [List.length_range] at hi
      have hj2 : i = j := by rw [List.getElem?_range hi] at hj; exact Option.some.inj hj
      subst hj2
      obtain ⟨_, q0, q1, q2, q3, q4⟩ := hfz i (by omega)
      rw [hs, Addr.add_lit] at q0 q1 q2 q3 q4
      simp only [Nat.add_zero, ← Nat.add_assoc] at q0 q1 q2 q3 q4
      exact ⟨q0, q1, q2, q3, q4⟩
    · obtain ⟨i, hi, rfl⟩ := List.mem_map.1 hz
      rw [List.mem_range] at hi
      exact (hfz i (by omega)).1
set_option maxRecDepth 100000 in
theorem open_state {H : Type} {enc : TypeId × Value → H} {W : World} {v : Value} {d : DataW H} {ps : List MemPlace}
    (h : DataW.Trod enc Tryz.prog W 0 (fun _ => true) true 26 v d ps) (hv : ∃ cs, v = .agg cs ∧ cs.size = Tryz.prog.cellsOf 26) :
    ∃ (s : Stt) (vn vs vm : Value), v = sagg vn vs s.now vm ∧ SSlice W vn vs vm s ∧ s.fits := by
  obtain ⟨cs, rfl, hsz⟩ := hv
  have c5 : Tryz.prog.cellsOf 26 = 4 := by kernel_rfl
  rw [c5] at hsz
  obtain ⟨fuel, hf⟩ := h
  obtain ⟨xs, n', _, _, _, hlen, hfl⟩ := DataW.trod_struct Tryz.underlying26 hf
  match xs, hlen with
  | [y0, y1, y2, y3], _ =>
    obtain ⟨u0, u1, u2, u3, rfl⟩ : ∃ u0 u1 u2 u3, cs = #[u0, u1, u2, u3] := by
      match cs, hsz with
      | ⟨[u0, u1, u2, u3]⟩, _ => exact ⟨u0, u1, u2, u3, rfl⟩
    have f0 := hfl 0 _ rfl
    have f1 := hfl 1 _ rfl
    have f2 := hfl 2 _ rfl
    have f3 := hfl 3 _ rfl
    simp only [List.getElem?_cons_zero, List.getElem?_cons_succ] at f0 f1 f2 f3
    obtain ⟨m2, e2, _, _⟩ := DataW.trod_int Tryz.underlying2 f2
    have g2 : u2 = .int .i64 m2 := by injection e2
    subst g2
    have hu0 : ∃ a l c, u0 = .slice a l c := by
      rcases Deep.open_slice Tryz.underlying22 f0 with ⟨hcs, _⟩ | ⟨a, l0, cap, m, n, D, Pl, hcs, _⟩
      · exact ⟨_, _, _, (List.cons.inj hcs).1⟩
      · exact ⟨_, _, _, (List.cons.inj hcs).1⟩
    have hu1 : ∃ a l c, u1 = .slice a l c := by
      rcases Deep.open_slice Tryz.underlying23 f1 with ⟨hcs, _⟩ | ⟨a, l0, cap, m, n, D, Pl, hcs, _⟩
      · exact ⟨_, _, _, (List.cons.inj hcs).1⟩
      · exact ⟨_, _, _, (List.cons.inj hcs).1⟩
    obtain ⟨a0, l0, k0, rfl⟩ := hu0
    obtain ⟨a1, l1, k1, rfl⟩ := hu1
    obtain ⟨zs, hS, hz⟩ := open_nodes (v := .slice a0 l0 k0) (d := y0.1) (ps := y0.2) ⟨_, f0⟩ ⟨_, _, _, rfl⟩
    obtain ⟨es, hE⟩ := open_sess (v := .slice a1 l1 k1) (d := y1.1) (ps := y1.2) ⟨_, f1⟩ ⟨_, _, _, rfl⟩
    obtain ⟨ms, hM, hy⟩ := open_marksL f3
    exact ⟨⟨zs, es, m2, ms⟩, .slice a0 l0 k0, .slice a1 l1 k1, u3, rfl, ⟨hS, hE, hM⟩, hz, hy⟩
end Go.Proofs.YtdjnkchaapcjpaaGreatDoor
