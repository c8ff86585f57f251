/- How an argument of nodes is opened. -/
import Derived.Test.YtgofggmgnodplaaDoorZ1
import Derived.ChangeSame
import Derived.ChangeVars
import Derived.ChangeOld
import Derived.Below
import Derived.Carry
import Derived.RowKit
import Derived.ProofKit
import Derived.OpenShut
import Derived.Deep.Slices
namespace Go.Proofs.YtgofggmgnodplaaDoor
open Go.ChangeShapes Go.WideShapes Go.ChangeAt Go.RowKit
theorem laid_outZ : laidOutB Tryd.prog = true := by kernel_rfl
instance : Inhabited Zn := ⟨⟨ByteArray.empty, 0, 0, 0, 0⟩⟩
theorem nodes_add (a : Addr) (i k : Nat) : (a.add i).add k = a.add (i + k) := Deep.add_add a i k
theorem spot_none {W : World} {a : Addr} {v : Value} (h : W.cell? a = some v) : a = ⟨a.block, a.off, none⟩ := by
  obtain ⟨b, o, s⟩ := a
  cases s with
  | none => rfl
  | some x => simp [World.cell?] at h; split at h <;> simp at h
set_option maxRecDepth 100000 in
theorem open_node {H : Type} {enc : TypeId × Value → H} {W : World} {n : Nat} {cs : List Value} {x : DataW H × List MemPlace} {a : Addr}
    (hc : W.cells? 0 a 5 = some cs) (h : DataW.trod enc Tryd.prog W 0 (fun _ => true) true n 62 cs = some x) :
    ∃ z : Zn, z.path.size ≤ maxLen ∧ W.cell? (a.add 0) = some (.string z.path) ∧ W.cell? (a.add 1) = some (.int .i64 z.data) ∧ W.cell? (a.add 2) = some (.int .i64 z.version) ∧ W.cell? (a.add 3) = some (.int .i64 z.owner) ∧ W.cell? (a.add 4) = some (.int .i64 z.next) := by
  obtain ⟨_, hl, hcell⟩ := World.cells?_some hc
  obtain ⟨xs, n', _, _, _, hlen, hf⟩ := DataW.trod_struct Tryd.underlying62 h
  match cs, hl with
  | [u0, u1, u2, u3, u4], _ =>
    match xs, hlen with
    | [y0, y1, y2, y3, y4], _ =>
      have f0 := hf 0 _ rfl
      have f1 := hf 1 _ rfl
      have f2 := hf 2 _ rfl
      have f3 := hf 3 _ rfl
      have f4 := hf 4 _ rfl
      simp only [List.getElem?_cons_zero, List.getElem?_cons_succ] at f0 f1 f2 f3 f4
      obtain ⟨s, e0, _, hs⟩ := DataW.trod_string Tryd.underlying9 f0
      obtain ⟨m1, e1, _, _⟩ := DataW.trod_int Tryd.underlying2 f1
      obtain ⟨m2, e2, _, _⟩ := DataW.trod_int Tryd.underlying2 f2
      obtain ⟨m3, e3, _, _⟩ := DataW.trod_int Tryd.underlying2 f3
      obtain ⟨m4, e4, _, _⟩ := DataW.trod_int Tryd.underlying2 f4
      injection e0 with e0 _
      injection e1 with e1 _
      injection e2 with e2 _
      injection e3 with e3 _
      injection e4 with e4 _
      subst e0 e1 e2 e3 e4
      exact ⟨⟨s, m1, m2, m3, m4⟩, hs, hcell 0 (by omega), hcell 1 (by omega), hcell 2 (by omega), hcell 3 (by omega), hcell 4 (by omega)⟩
set_option maxRecDepth 100000 in
theorem open_nodes {H : Type} {enc : TypeId × Value → H} {W : World} {v : Value} {d : DataW H} {ps : List MemPlace}
    (h : DataW.Trod enc Tryd.prog W 0 (fun _ => true) true 29 v d ps) (hv : ∃ a l c, v = .slice a l c) : ∃ zs, NSlice W v zs ∧ ∀ z ∈ zs, z.path.size ≤ maxLen := by
  obtain ⟨a0, l0, c0, rfl⟩ := hv
  obtain ⟨fuel, hf⟩ := h
  have c5 : Tryd.prog.cellsOf 62 = 5 := by kernel_rfl
  rcases Deep.open_slice Tryd.underlying29 hf with ⟨hcs, _⟩ | ⟨a, len, cap, m, n, D, Pl, hcs, _, hl, hm, hmm, _, hx⟩
  · simp [Value.cells] at hcs
    obtain ⟨rfl, rfl, rfl⟩ := hcs
    exact ⟨[], ⟨none, 0, rfl, Nat.le_refl _, by unfold maxLen; omega, fun h => by simp at h⟩, fun z hz => by cases hz⟩
  · simp [Value.cells] at hcs
    obtain ⟨rfl, rfl, rfl⟩ := hcs
    have hmc : m = c0 := by simpa using hmm
    subst hmc
    rw [c5] at hx
    obtain ⟨f, hfz⟩ := Deep.choose_lt (α := Zn) (p := fun i z => z.path.size ≤ maxLen ∧ W.cell? (a.add (i * 5 + 0)) = some (.string z.path) ∧ W.cell? (a.add (i * 5 + 1)) = some (.int .i64 z.data) ∧ W.cell? (a.add (i * 5 + 2)) = some (.int .i64 z.version) ∧ W.cell? (a.add (i * 5 + 3)) = some (.int .i64 z.owner) ∧ W.cell? (a.add (i * 5 + 4)) = some (.int .i64 z.next)) (n := m) (fun i hi => by
      obtain ⟨cs', h1, h2⟩ := hx i hi
      obtain ⟨z, h3⟩ := open_node h1 h2
      simp only [nodes_add] at h3
      exact ⟨z, h3⟩)
    refine ⟨(List.range l0).map f, ⟨some a, m, by simp, by simpa using hl, hm, fun h0 => ?_⟩, fun z hz => ?_⟩
    · have h0' : 0 < l0 := by simpa using h0
      have hs : a = ⟨a.block, a.off, none⟩ := spot_none (by have := (hfz 0 (by omega)).2.1; simpa [Addr.add] using this)
      refine ⟨a.block, a.off, by rw [← hs], World.block_lt_of_cell? W _ (hfz 0 (by omega)).2.1, ?_⟩
      intro i z hz
      rw [List.getElem?_map] at hz
      obtain ⟨j, hj, rfl⟩ := Option.map_eq_some_iff.1 hz
      have hi := (List.getElem?_eq_some_iff.1 hj).1
      rw [List.length_range] at hi
      have hj2 : i = j := by rw [List.getElem?_range hi] at hj; exact Option.some.inj hj
      subst hj2
      obtain ⟨_, q0, q1, q2, q3, q4⟩ := hfz i (by omega)
      rw [hs, Addr.add_lit] at q0 q1 q2 q3 q4
      simp only [Nat.add_zero, ← Nat.add_assoc] at q0 q1 q2 q3 q4
      exact ⟨q0, q1, q2, q3, q4⟩
    · obtain ⟨i, hi, rfl⟩ := List.mem_map.1 hz
      rw [List.mem_range] at hi
      exact (hfz i (by omega)).1
end Go.Proofs.YtgofggmgnodplaaDoor
