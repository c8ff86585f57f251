/- a row of messages, cell by cell. -/
import Derived.Test.YtecgjdgfjgcmdaaGreatRbLG2
namespace Go.Proofs.YtecgjdgfjgcmdaaGreat
open Go.RowKit
namespace Dr
def cellsP (l : List (Ms × Value × Value)) : List Value := l.flatMap fun p => [.int .i64 p.1.kind, .int .i64 p.1.view, .int .i64 p.1.from_, .int .i64 p.1.slot, .int .i64 p.1.value, p.2.1, p.2.2]
theorem cellsP_app (l k : List (Ms × Value × Value)) : cellsP (l ++ k) = cellsP l ++ cellsP k := by simp [cellsP]
theorem cellsP_at : ∀ (l : List (Ms × Value × Value)) (i : Nat) (p : Ms × Value × Value), l[i]? = some p → (cellsP l)[i * 7]? = some (.int .i64 p.1.kind) ∧ (cellsP l)[i * 7 + 1]? = some (.int .i64 p.1.view) ∧ (cellsP l)[i * 7 + 2]? = some (.int .i64 p.1.from_) ∧ (cellsP l)[i * 7 + 3]? = some (.int .i64 p.1.slot) ∧ (cellsP l)[i * 7 + 4]? = some (.int .i64 p.1.value) ∧ (cellsP l)[i * 7 + 5]? = some p.2.1 ∧ (cellsP l)[i * 7 + 6]? = some p.2.2
  | [], i, p, h => by simp at h
  | q :: r, 0, p, h => by simp at h; subst h; simp [cellsP]
  | q :: r, i + 1, p, h => by
    simp only [List.getElem?_cons_succ] at h
    have := cellsP_at r i p h
    have e : ∀ j, (cellsP (q :: r))[(i + 1) * 7 + j]? = (cellsP r)[i * 7 + j]? := fun j => by
      rw [show cellsP (q :: r) = [.int .i64 q.1.kind, .int .i64 q.1.view, .int .i64 q.1.from_, .int .i64 q.1.slot, .int .i64 q.1.value, q.2.1, q.2.2] ++ cellsP r from rfl, List.getElem?_append_right (by simp; omega)]
      congr 1
      simp
      omega
    have e0 := e 0
    rw [Nat.add_zero, Nat.add_zero] at e0
    rw [e0, e 1, e 2, e 3, e 4, e 5, e 6]
    exact this
theorem cellsP_one (l : List (Ms × Value × Value)) (h : ∀ p ∈ l, p.2.1.oneCell' = true ∧ p.2.2.oneCell' = true) : ∀ u ∈ cellsP l, u.oneCell' = true := by
  intro u hu
  simp only [cellsP, List.mem_flatMap] at hu
  obtain ⟨p, hp, hs⟩ := hu
  obtain ⟨q1, q2⟩ := h p hp
  simp at hs
  rcases hs with rfl | rfl | rfl | rfl | rfl | rfl | rfl <;> first | rfl | assumption
end Dr
theorem Dr.msg_new (w : World) (m : Ms) (v u : Value) (t : TypeId) : ∀ j x, (Dr.cellsP [(m, v, u)])[j]? = some x → (w.alloc (.cells #[.int .i64 m.kind, .int .i64 m.view, .int .i64 m.from_, .int .i64 m.slot, .int .i64 m.value, v, u] t)).cell? ((⟨w.heap.size, 0, none⟩ : Addr).add j) = some x := by
  intro j x hx
  have e : Dr.cellsP [(m, v, u)] = [.int .i64 m.kind, .int .i64 m.view, .int .i64 m.from_, .int .i64 m.slot, .int .i64 m.value, v, u] := rfl
  rw [e] at hx
  rw [Addr.add_lit, Nat.zero_add, World.cell?_alloc_at _ _ _ _ rfl]
  simpa using hx
end Go.Proofs.YtecgjdgfjgcmdaaGreat
