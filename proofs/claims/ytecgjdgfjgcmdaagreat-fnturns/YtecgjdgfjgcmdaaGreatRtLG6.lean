/- copies of a message: certificates' cells in a row, lists copied by append. -/
import Derived.Test.YtecgjdgfjgcmdaaGreatRtLG4
import Derived.Test.YtecgjdgfjgcmdaaGreatRtH10
import Derived.Laws.AppendOwnNone
namespace Go.Proofs.YtecgjdgfjgcmdaaGreat
open Go.RowKit
def cellsCt (l : List Ct) : List Value := l.flatMap fun s => [.int .i64 s.slot, .int .i64 s.view, .int .i64 s.value]
theorem cellsCt_len (l : List Ct) : (cellsCt l).length = l.length * 3 := by
 induction l with
 | nil => rfl
 | cons s r ih => simp only [cellsCt, List.flatMap_cons, List.length_append, List.length_cons, List.length_nil] at ih ⊢; omega
theorem cellsCt_at : ∀ (l : List Ct) (i : Nat) (s : Ct), l[i]? = some s → (cellsCt l)[i * 3]? = some (.int .i64 s.slot) ∧ (cellsCt l)[i * 3 + 1]? = some (.int .i64 s.view) ∧ (cellsCt l)[i * 3 + 2]? = some (.int .i64 s.value)
 | s :: r, 0, t, h => by simp at h; subst h; exact ⟨rfl, rfl, rfl⟩
 | s :: r, i + 1, t, h => by
  simp only [List.getElem?_cons_succ] at h
  have := cellsCt_at r i t h
  rw [show (i + 1) * 3 = i * 3 + 1 + 1 + 1 from by omega]
  exact this
 | [], i, t, h => by simp at h
theorem cellsCt_get : ∀ (l : List Ct) (j : Nat) (u : Value), (cellsCt l)[j]? = some u → ∃ i s, l[i]? = some s ∧ ((j = i * 3 ∧ u = .int .i64 s.slot) ∨ (j = i * 3 + 1 ∧ u = .int .i64 s.view) ∨ (j = i * 3 + 2 ∧ u = .int .i64 s.value))
 | [], j, u, h => by simp [cellsCt] at h
 | s :: r, 0, u, h => by simp [cellsCt] at h; exact ⟨0, s, rfl, Or.inl ⟨rfl, h.symm⟩⟩
 | s :: r, 1, u, h => by simp [cellsCt] at h; exact ⟨0, s, rfl, Or.inr (Or.inl ⟨rfl, h.symm⟩)⟩
 | s :: r, 2, u, h => by simp [cellsCt] at h; exact ⟨0, s, rfl, Or.inr (Or.inr ⟨rfl, h.symm⟩)⟩
 | s :: r, j + 3, u, h => by
  have h' : (cellsCt r)[j]? = some u := by simpa [cellsCt] using h
  obtain ⟨i, t, q1, q2⟩ := cellsCt_get r j u h'
  refine ⟨i + 1, t, by simpa using q1, ?_⟩
  rcases q2 with ⟨q, e⟩ | ⟨q, e⟩ | ⟨q, e⟩
  ·exact Or.inl ⟨by omega, e⟩
  ·exact Or.inr (Or.inl ⟨by omega, e⟩)
  ·exact Or.inr (Or.inr ⟨by omega, e⟩)
theorem CtsAt.news {w : World} {b off : Nat} {l : List Ct} (h : CtsAt w b off l) : ∀ j u, (cellsCt l)[j]? = some u → w.cell? ((⟨b, off, none⟩ : Addr).add j) = some u := by
 intro j u hu
 rw [Addr.add_lit]
 obtain ⟨i, s, hs, q⟩ := cellsCt_get l j u hu
 obtain ⟨c0, c1, c2⟩ := h i s hs
 rcases q with ⟨rfl, rfl⟩ | ⟨rfl, rfl⟩ | ⟨rfl, rfl⟩
 ·exact c0
 ·rw [← Nat.add_assoc]; exact c1
 ·rw [← Nat.add_assoc]; exact c2
theorem cellsCt_one (l : List Ct) : ∀ u ∈ cellsCt l, u.oneCell' = true := by
 intro u hu
 simp only [cellsCt, List.mem_flatMap] at hu
 obtain ⟨s, _, hs⟩ := hu
 simp at hs
 rcases hs with rfl | rfl | rfl <;> rfl
theorem NumsAt.news {w : World} {b off : Nat} {l : List Int} (h : NumsAt w b off l) : ∀ j u, (l.map (Value.int .i64))[j]? = some u → w.cell? ((⟨b, off, none⟩ : Addr).add j) = some u := by
 intro j u hu
 rw [Addr.add_lit]
 rw [List.getElem?_map] at hu
 obtain ⟨x, hx, rfl⟩ := Option.map_eq_some_iff.1 hu
 exact h j x hx
theorem owns_form6 {w : World} {B : Nat} {e : TypeId} {s : Nat} {v : Value} {n : Nat} {xs : List Value} (h : w.ownsRow B e s v n xs) : ∃ a c, v = .slice a n c := by
 rcases h.2 with ⟨hv, h0⟩ | ⟨g, cap, cur, hv, -⟩
 ·exact ⟨none, 0, by rw [hv, h0]⟩
 ·exact ⟨_, cap, hv⟩
theorem owns_ext6 {B : Nat} {e : TypeId} {k : Nat} {v : Value} {n : Nat} {xs : List Value} {w w' : World} (h : w.ownsRow B e k v n xs) (hb : Ext w w') : w'.ownsRow B e k v n xs := by
 refine ⟨h.1, ?_⟩
 rcases h.2 with h0 | ⟨g, cap, cur, h1, h2, h3, h4⟩
 ·exact .inl h0
 ·exact .inr ⟨g, cap, cur, h1, h2, (Below.block hb g (Array.getElem?_eq_some_iff.1 h3).1).trans h3, h4⟩
theorem ctown_of_owns {w : World} {base : Nat} {v : Value} {l : List Ct} (h : w.ownsRow base 57 3 v l.length (cellsCt l)) : ∃ g, base ≤ g ∧ CtOwn w v g l := by
 have hlt := h.lt
 rcases h.2 with ⟨hv, h0⟩ | ⟨g, cap, cur, hv, hb, hh, hn, hm, hcs, htk⟩
 ·exact ⟨base, Nat.le_refl _, none, 0, by rw [hv, h0], by omega, by unfold maxLen; omega, fun h => by omega⟩
 ·subst hv
  refine ⟨g, hb, some ⟨g, 0, none⟩, cap, rfl, hn, hm, fun h0 => ⟨0, rfl, ⟨(hlt g rfl).2, fun j hj => ⟨?_, h.frozenAt _⟩⟩, fun i s hs => ?_⟩⟩
  ·have hj' : j < (cellsCt l).length := by rw [cellsCt_len]; exact hj
   rw [Nat.zero_add]
   exact ⟨(cellsCt l)[j], by rw [h.cellAt j hj, List.getElem?_eq_getElem hj']⟩
  ·obtain ⟨h1, h2, h3⟩ := cellsCt_at l i s hs
   have hi := (List.getElem?_eq_some_iff.1 hs).1
   rw [Nat.zero_add]
   exact ⟨by rw [h.cellAt _ (by omega)]; exact h1, by rw [h.cellAt _ (by omega)]; exact h2, by rw [h.cellAt _ (by omega)]; exact h3⟩

/-- A copy of m came back, its lists in new memory, each in its own. -/
def MCopy (w : World) (m : Ms) (e : Ending) (w' : World) : Prop := ∃ x y g h, e = .returned (magg m x y) ∧ w.heap.size ≤ g ∧ g < h ∧ h ≤ w'.heap.size ∧ CtOwn w' x g m.certs ∧ Led.IOwn w' y h m.refs ∧ Ext w w'
end Go.Proofs.YtecgjdgfjgcmdaaGreat
