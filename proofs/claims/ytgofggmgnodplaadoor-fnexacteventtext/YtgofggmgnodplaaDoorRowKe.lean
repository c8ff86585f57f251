/- How an argument that is an event is opened. -/
import Derived.Test.YtgofggmgnodplaaDoorRowZ
import Derived.Test.YtgofggmgnodplaaDoorK8
namespace Go.Proofs.YtgofggmgnodplaaDoor
open Go.ChangeShapes Go.WideShapes Go.ChangeAt Go.RowKit

set_option maxRecDepth 100000 in
theorem open_eventL {H : Type} {enc : TypeId × Value → H} {W : World} {fuel : Nat} {cs : List Value} {x : DataW H × List MemPlace} (hl : cs.length = 3)
    (hf : DataW.trod enc Tryd.prog W 0 (fun _ => true) true fuel 40 cs = some x) : ∃ z : Ev, z.path.size ≤ maxLen ∧ cs = [.int .i64 z.client, .string z.path, .int .i64 z.kind] := by
  obtain ⟨xs, n', _, _, _, hlen, hfl⟩ := DataW.trod_struct Tryd.underlying40 hf
  match cs, hl with
  | [u0, u1, u2], _ =>
   match xs, hlen with
   | [y0, y1, y2], _ =>
    have f0 := hfl 0 _ rfl
    have f1 := hfl 1 _ rfl
    have f2 := hfl 2 _ rfl
    simp only [List.getElem?_cons_zero, List.getElem?_cons_succ] at f0 f1 f2
    obtain ⟨m0, e0, _, _⟩ := DataW.trod_int Tryd.underlying2 f0
    obtain ⟨m1, e1, _, hs⟩ := DataW.trod_string Tryd.underlying9 f1
    obtain ⟨m2, e2, _, _⟩ := DataW.trod_int Tryd.underlying2 f2
    have g0 : u0 = .int .i64 m0 := by injection e0
    have g1 : u1 = .string m1 := by injection e1
    have g2 : u2 = .int .i64 m2 := by injection e2
    subst g0 g1 g2
    exact ⟨⟨m0, m1, m2⟩, hs, rfl⟩
set_option maxRecDepth 100000 in
theorem open_eventV {H : Type} {enc : TypeId × Value → H} {W : World} {v : Value} {d : DataW H} {ps : List MemPlace}
    (h : DataW.Trod enc Tryd.prog W 0 (fun _ => true) true 40 v d ps) (hv : ∃ cs, v = .agg cs ∧ cs.size = Tryd.prog.cellsOf 40) : ∃ z : Ev, v = evagg z ∧ z.path.size ≤ maxLen := by
  obtain ⟨cs, rfl, hsz⟩ := hv
  have c5 : Tryd.prog.cellsOf 40 = 3 := by kernel_rfl
  rw [c5] at hsz
  obtain ⟨fuel, hf⟩ := h
  obtain ⟨z, hz, hcs⟩ := open_eventL (cs := cs.toList) (by simpa using hsz) hf
  refine ⟨z, ?_, hz⟩
  unfold evagg
  congr 1
  exact Array.toList_inj.1 (by rw [hcs])
end Go.Proofs.YtgofggmgnodplaaDoor
