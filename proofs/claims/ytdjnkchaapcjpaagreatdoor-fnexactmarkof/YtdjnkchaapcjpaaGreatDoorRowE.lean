/- How an argument of sessions is opened. -/
import Derived.Test.YtdjnkchaapcjpaaGreatDoorRowZ
import Derived.Test.YtdjnkchaapcjpaaGreatDoorE1
namespace Go.Proofs.YtdjnkchaapcjpaaGreatDoor
open Go.ChangeShapes Go.WideShapes Go.ChangeAt Go.RowKit
set_option maxRecDepth 100000 in
theorem open_ses {H : Type} {enc : TypeId × Value → H} {W : World} {n : Nat} {cs : List Value} {x : DataW H × List MemPlace} {a : Addr}
    (hc : W.cells? 0 a 2 = some cs) (h : DataW.trod enc Tryz.prog W 0 (fun _ => true) true n 156 cs = some x) :
    ∃ s : Se, W.cell? (a.add 0) = some (.int .i64 s.id) ∧ W.cell? (a.add 1) = some (.int .i64 s.til) := by
  obtain ⟨_, hl, hcell⟩ := World.cells?_some hc
  obtain ⟨xs, n', _, _, _, hlen, hf⟩ := DataW.trod_struct Tryz.underlying156 h
  match cs, hl with
  | [u0, u1], _ =>
    match xs, hlen with
    | [y0, y1], _ =>
      have f0 := hf 0 _ rfl
      have f1 := hf 1 _ rfl
      simp only [List.getElem?_cons_zero, List.getElem?_cons_succ] at f0 f1
      obtain ⟨b0, e0, _, _⟩ := DataW.trod_int Tryz.underlying2 f0
      obtain ⟨m1, e1, _, _⟩ := DataW.trod_int Tryz.underlying2 f1
      injection e0 with e0 _
      injection e1 with e1 _
      subst e0 e1
      exact ⟨⟨b0, m1⟩, hcell 0 (by omega), hcell 1 (by omega)⟩
set_option maxRecDepth 100000 in
theorem open_sess {H : Type} {enc : TypeId × Value → H} {W : World} {v : Value} {d : DataW H} {ps : List MemPlace}
    (h : DataW.Trod enc Tryz.prog W 0 (fun _ => true) true 23 v d ps) (hv : ∃ a l c, v = .slice a l c) : ∃ l, ESlice W v l := by
  obtain ⟨a0, l0, c0, rfl⟩ := hv
  obtain ⟨fuel, hf⟩ := h
  have c5 : Tryz.prog.cellsOf 156 = 2 := by kernel_rfl
  rcases Deep.open_slice Tryz.underlying23 hf with ⟨hcs, _⟩ | ⟨a, len, cap, m, n, D, Pl, hcs, _, hl, hm, hmm, _, hx⟩
  · simp [Value.cells] at hcs
    obtain ⟨rfl, rfl, rfl⟩ := hcs
    exact ⟨[], none, 0, rfl, Nat.le_refl _, by unfold maxLen; omega, fun h => by simp at h⟩
  · simp [Value.cells] at hcs
    obtain ⟨rfl, rfl, rfl⟩ := hcs
    have hmc : m = c0 := by simpa using hmm
    subst hmc
    rw [c5] at hx
    obtain ⟨f, hfz⟩ := Deep.choose_lt (α := Se) (p := fun i z => W.cell? (a.add (i * 2 + 0)) = some (.int .i64 z.id) ∧ W.cell? (a.add (i * 2 + 1)) = some (.int .i64 z.til)) (n := m) (fun i hi => by
      obtain ⟨cs', h1, h2⟩ := hx i hi
      obtain ⟨z, h3⟩ := open_ses h1 h2
      simp only [nodes_add] at h3
      exact ⟨z, h3⟩)
    refine ⟨(List.range l0).map f, some a, m, by simp, by simpa using hl, hm, fun h0 => ?_⟩
    have h0' : 0 < l0 := by simpa using h0
    have hs : a = ⟨a.block, a.off, none⟩ := spot_none (by have := (hfz 0 (by omega)).1; simpa [Addr.add] using this)
    refine ⟨a.block, a.off, by rw [← hs], World.block_lt_of_cell? W _ (hfz 0 (by omega)).1, ?_⟩
    intro i z hz
    rw [List.getElem?_map] at hz
    obtain ⟨j, hj, rfl⟩ := Option.map_eq_some_iff.1 hz
    have hi := (List.getElem?_eq_some_iff.1 hj).1
    rw [List.length_range] at hi
    have hj2 : i = j := by rw [List.getElem?_range hi] at hj; exact Option.some.inj hj
    subst hj2
    obtain ⟨q0, q1⟩ := hfz i (by omega)
    rw [hs, Addr.add_lit] at q0 q1
    simp only [Nat.add_zero, ← Nat.add_assoc] at q0 q1
    exact ⟨q0, q1⟩
end Go.Proofs.YtdjnkchaapcjpaaGreatDoor
