/- How an argument that is one node, and one of sides, is opened. -/
import Derived.Test.YtbapllhdkckdjaaDoorRowZ
import Derived.Test.YtbapllhdkckdjaaDoorV6
namespace Go.Proofs.YtbapllhdkckdjaaDoor
open Go.ChangeShapes Go.WideShapes Go.ChangeAt Go.RowKit
set_option maxRecDepth 100000 in
theorem open_nodeV {H : Type} {enc : TypeId × Value → H} {W : World} {v : Value} {d : DataW H} {ps : List MemPlace}
    (h : DataW.Trod enc Tryd.prog W 0 (fun _ => true) true 34 v d ps) (hv : ∃ cs, v = .agg cs ∧ cs.size = Tryd.prog.cellsOf 34) : ∃ z : Zn, v = zagg z ∧ z.path.size ≤ maxLen := by
  obtain ⟨cs, rfl, hsz⟩ := hv
  have c5 : Tryd.prog.cellsOf 34 = 5 := by kernel_rfl
  rw [c5] at hsz
  obtain ⟨fuel, hf⟩ := h
  obtain ⟨xs, n', _, _, _, hlen, hfl⟩ := DataW.trod_struct Tryd.underlying34 hf
  match xs, hlen with
  | [y0, y1, y2, y3, y4], _ =>
    obtain ⟨u0, u1, u2, u3, u4, rfl⟩ : ∃ u0 u1 u2 u3 u4, cs = #[u0, u1, u2, u3, u4] := by
      match cs, hsz with
      | ⟨[u0, u1, u2, u3, u4]⟩, _ => exact ⟨u0, u1, u2, u3, u4, rfl⟩
    have f0 := hfl 0 _ rfl
    have f1 := hfl 1 _ rfl
    have f2 := hfl 2 _ rfl
    have f3 := hfl 3 _ rfl
    have f4 := hfl 4 _ rfl
    simp only [List.getElem?_cons_zero, List.getElem?_cons_succ] at f0 f1 f2 f3 f4
    obtain ⟨s, e0, _, hs⟩ := DataW.trod_string Tryd.underlying9 f0
    obtain ⟨m1, e1, _, _⟩ := DataW.trod_int Tryd.underlying2 f1
    obtain ⟨m2, e2, _, _⟩ := DataW.trod_int Tryd.underlying2 f2
    obtain ⟨m3, e3, _, _⟩ := DataW.trod_int Tryd.underlying2 f3
    obtain ⟨m4, e4, _, _⟩ := DataW.trod_int Tryd.underlying2 f4
    have g0 : u0 = .string s := by injection e0
    have g1 : u1 = .int .i64 m1 := by injection e1
    have g2 : u2 = .int .i64 m2 := by injection e2
    have g3 : u3 = .int .i64 m3 := by injection e3
    have g4 : u4 = .int .i64 m4 := by injection e4
    subst g0 g1 g2 g3 g4
    exact ⟨⟨s, m1, m2, m3, m4⟩, rfl, hs⟩
end Go.Proofs.YtbapllhdkckdjaaDoor
