/- rows of drawn messages. -/
import Derived.Test.YtflojfkalnojbaaVwMD1
import Derived.Test.YtflojfkalnojbaaVwLG2
namespace Go.Proofs.Ytflojfkalnojbaa
open Go.RowKit
namespace Dr
def cellsP (l : List (Ms × Value × Value)) : List Value := l.flatMap fun p => [.int .i64 p.1.kind, .int .i64 p.1.view, .int .i64 p.1.from_, .int .i64 p.1.slot, .int .i64 p.1.value, p.2.1, p.2.2]
theorem cellsP_app (l k : List (Ms × Value × Value)) : cellsP (l ++ k) = cellsP l ++ cellsP k := by simp [cellsP]
theorem cellsP_at : ∀ (l : List (Ms × Value × Value)) (i : Nat) (p : Ms × Value × Value), l[i]? = some p → (cellsP l)[i * 7]? = some (.int .i64 p.1.kind) ∧ (cellsP l)[i * 7 + 1]? = some (.int .i64 p.1.view) ∧ (cellsP l)[i * 7 + 2]? = some (.int .i64 p.1.from_) ∧ (cellsP l)[i * 7 + 3]? = some (.int .i64 p.1.slot) ∧ (cellsP l)[i * 7 + 4]? = some (.int .i64 p.1.value) ∧ (cellsP l)[i * 7 + 5]? = some p.2.1 ∧ (cellsP l)[i * 7 + 6]? = some p.2.2
  | [], i, p, h => by simp at h
  | q :: r, 0, p, h => by simp at h; subst h; simp [cellsP]
  | q :: r, i + 1, p, h => by
    simp only [List.getElem?_cons_succ] at h
    have := cellsP_at r i p h
    have e : ∀ j, (cellsP (q :: r))[(i + 1) * 7 + j]? = (cellsP r)[i * 7 + j]? := fun j => by
      rw [show cellsP (q :: r) = [.int .i64 q.1.kind, .int .i64 q.1.view, .int .i64 q.1.from_, .int .i64 q.1.slot, .int .i64 q.1.value, q.2.1, q.2.2] ++ cellsP r from rfl, List.getElem?_append_right (by simp; omega)]
      congr 1
      simp
      omega
    have e0 := e 0
    rw [Nat.add_zero, Nat.add_zero] at e0
    rw [e0, e 1, e 2, e 3, e 4, e 5, e 6]
    exact this
theorem cellsP_one (l : List (Ms × Value × Value)) (h : ∀ p ∈ l, p.2.1.oneCell' = true ∧ p.2.2.oneCell' = true) : ∀ u ∈ cellsP l, u.oneCell' = true := by
  intro u hu
  simp only [cellsP, List.mem_flatMap] at hu
  obtain ⟨p, hp, hs⟩ := hu
  obtain ⟨q1, q2⟩ := h p hp
  simp at hs
  rcases hs with rfl | rfl | rfl | rfl | rfl | rfl | rfl <;> first | rfl | assumption
/-- The messages of ps lie in a row of their own, their lists in rows of their own. -/
def MRow (base : Nat) (W : World) (ov : Value) (ps : List (Ms × Value × Value)) : Prop :=
  W.ownsRow base 28 7 ov ps.length (cellsP ps) ∧ (∀ p ∈ ps, W.ownsRow base 38 3 p.2.1 p.1.certs.length (cellsCt p.1.certs) ∧ W.ownsRow base 2 1 p.2.2 p.1.refs.length (p.1.refs.map (Value.int .i64))) ∧ ∀ p ∈ ps, SmallM p.1
theorem MRow.kp {base b : Nat} {W W' : World} {ov : Value} {ps : List (Ms × Value × Value)} (h : MRow base W ov ps) (hk : Kp b W W') (hb : b < base) : MRow base W' ov ps :=
  ⟨hk.own h.1 hb, fun p hp => ⟨hk.own (h.2.1 p hp).1 hb, hk.own (h.2.1 p hp).2 hb⟩, h.2.2⟩
theorem MRow.ext {base : Nat} {W W' : World} {ov : Value} {ps : List (Ms × Value × Value)} (h : MRow base W ov ps) (he : Ext W W') : MRow base W' ov ps :=
  ⟨Led.own_ext h.1 he, fun p hp => ⟨Led.own_ext (h.2.1 p hp).1 he, Led.own_ext (h.2.1 p hp).2 he⟩, h.2.2⟩
theorem ne_cm : (28 : TypeId) ≠ 38 := by decide
theorem ne_im : (28 : TypeId) ≠ 2 := by decide
theorem MRow.push {base : Nat} {W W2 : World} {ov v6 : Value} {ps : List (Ms × Value × Value)} {p : Ms × Value × Value} {o : Obj} (h : MRow base W ov ps) (h1 : W.ownsRow base 38 3 p.2.1 p.1.certs.length (cellsCt p.1.certs)) (h2 : W.ownsRow base 2 1 p.2.2 p.1.refs.length (p.1.refs.map (Value.int .i64))) (ho : W2.ownsRow base 28 7 v6 (ps.length + 1) (cellsP ps ++ cellsP [p])) (hg : (W.alloc o).grownBy W2 ov.ownBlock) (hs : SmallM p.1) : MRow base W2 v6 (ps ++ [p]) := by
  have hr := h.1
  refine ⟨by rw [cellsP_app, List.length_append]; exact ho, fun q hq => ?_, fun q hq => by
    rw [List.mem_append, List.mem_singleton] at hq
    rcases hq with hq | rfl
    · exact h.2.2 q hq
    · exact hs⟩
  have hkeep : ∀ q : Ms × Value × Value, W.ownsRow base 38 3 q.2.1 q.1.certs.length (cellsCt q.1.certs) ∧ W.ownsRow base 2 1 q.2.2 q.1.refs.length (q.1.refs.map (Value.int .i64)) → W2.ownsRow base 38 3 q.2.1 q.1.certs.length (cellsCt q.1.certs) ∧ W2.ownsRow base 2 1 q.2.2 q.1.refs.length (q.1.refs.map (Value.int .i64)) := fun q hq =>
    ⟨own_grown (hq.1.alloc _) hg (own_ne hr hq.1 ne_cm), own_grown (hq.2.alloc _) hg (own_ne hr hq.2 ne_im)⟩
  rw [List.mem_append, List.mem_singleton] at hq
  rcases hq with hq | rfl
  · exact hkeep q (h.2.1 q hq)
  · exact hkeep q ⟨h1, h2⟩
theorem MRow.slice {base : Nat} {W : World} {ov : Value} {ps : List (Ms × Value × Value)} (h : MRow base W ov ps) : MSlice W ov (ps.map (·.1)) := by
  have hlt := h.1.lt
  rcases h.1.2 with ⟨hv, h0⟩ | ⟨g, cap, cur, hv, hb, hh, hn, hm, hcs, htk⟩
  · exact ⟨none, 0, by rw [hv, List.length_map, h0], by rw [List.length_map]; omega, by unfold maxLen; omega, fun hp => by rw [List.length_map] at hp; omega⟩
  · subst hv
    refine ⟨some ⟨g, 0, none⟩, cap, by rw [List.length_map], by rw [List.length_map]; exact hn, hm, fun hp => ⟨g, 0, rfl, (hlt g rfl).2, fun i m hi => ?_⟩⟩
    rw [List.getElem?_map] at hi
    obtain ⟨p, hpi, rfl⟩ := Option.map_eq_some_iff.1 hi
    have hil := (List.getElem?_eq_some_iff.1 hpi).1
    obtain ⟨c0, c1, c2, c3, c4, c5, c6⟩ := cellsP_at ps i p hpi
    obtain ⟨q1, q2⟩ := h.2.1 p (List.mem_of_getElem? hpi)
    obtain ⟨g1, -, hC⟩ := ctown_of_owns q1
    refine ⟨p.2.1, p.2.2, ?_, hC.slice, islice_of_owns q2⟩
    rw [Nat.zero_add]
    have e := fun j (hj : j < 7) => h.1.cellAt (i * 7 + j) (by omega)
    exact ⟨(by have := e 0 (by omega); rw [Nat.add_zero] at this; exact this.trans c0), (e 1 (by omega)).trans c1, (e 2 (by omega)).trans c2, (e 3 (by omega)).trans c3, (e 4 (by omega)).trans c4, (e 5 (by omega)).trans c5, (e 6 (by omega)).trans c6⟩
end Dr
end Go.Proofs.Ytflojfkalnojbaa
