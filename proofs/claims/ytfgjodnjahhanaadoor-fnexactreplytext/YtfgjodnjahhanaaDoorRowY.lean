/- How arguments that are replies are opened. -/
import Derived.Test.YtfgjodnjahhanaaDoorRowZ
import Derived.Test.YtfgjodnjahhanaaDoorRY0
namespace Go.Proofs.YtfgjodnjahhanaaDoor
open Go.ChangeShapes Go.WideShapes Go.ChangeAt Go.RowKit
set_option maxRecDepth 100000 in
theorem open_replyL {H : Type} {enc : TypeId × Value → H} {W : World} {n : Nat} {cs : List Value} {x : DataW H × List MemPlace}
    (hl : cs.length = 3) (h : DataW.trod enc Tryd.prog W 0 (fun _ => true) true n 23 cs = some x) :
    ∃ (c v : Int) (p : ByteArray), p.size ≤ maxLen ∧ cs = [.int .i64 c, .int .i64 v, .string p] := by
  obtain ⟨xs, n', _, _, _, hlen, hf⟩ := DataW.trod_struct Tryd.underlying23 h
  match cs, hl with
  | [u0, u1, u2], _ =>
    match xs, hlen with
    | [y0, y1, y2], _ =>
      have f0 := hf 0 _ rfl
      have f1 := hf 1 _ rfl
      have f2 := hf 2 _ rfl
      simp only [List.getElem?_cons_zero, List.getElem?_cons_succ] at f0 f1 f2
      obtain ⟨m0, e0, _, _⟩ := DataW.trod_int Tryd.underlying2 f0
      obtain ⟨m1, e1, _, _⟩ := DataW.trod_int Tryd.underlying2 f1
      obtain ⟨s, e2, _, hs⟩ := DataW.trod_string Tryd.underlying9 f2
      injection e0 with e0 _
      injection e1 with e1 _
      injection e2 with e2 _
      subst e0 e1 e2
      exact ⟨m0, m1, s, hs, rfl⟩
set_option maxRecDepth 100000 in
theorem open_replyV {H : Type} {enc : TypeId × Value → H} {W : World} {v : Value} {d : DataW H} {ps : List MemPlace}
    (h : DataW.Trod enc Tryd.prog W 0 (fun _ => true) true 23 v d ps) (hv : ∃ cs, v = .agg cs ∧ cs.size = Tryd.prog.cellsOf 23) : ∃ (c r : Int) (p : ByteArray), v = yagg c r p ∧ p.size ≤ maxLen := by
  obtain ⟨cs, rfl, hsz⟩ := hv
  have c5 : Tryd.prog.cellsOf 23 = 3 := by kernel_rfl
  rw [c5] at hsz
  obtain ⟨fuel, hf⟩ := h
  obtain ⟨c, r, p, hp, hcs⟩ := open_replyL (cs := cs.toList) (by simpa using hsz) hf
  refine ⟨c, r, p, ?_, hp⟩
  unfold yagg
  congr 1
  exact Array.toList_inj.1 (by rw [hcs])
end Go.Proofs.YtfgjodnjahhanaaDoor
