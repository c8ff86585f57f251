/- what the walk of the specification's l5Parse wants. -/
import Derived.Test.YtdjnkchaapcjpaaGreatDoorY4
namespace Go.Proofs.YtdjnkchaapcjpaaGreatDoor
open Go.RowKit
theorem OWr.below {n : Nat} {w w' : World} {b : Nat} {z : Opn} (h : OWr w b z) (hb : Below n w w') (hl : b < n) : OWr w' b z := by
  obtain ⟨⟨h0, c0, c1, c2, c3, c4, c5⟩, hf⟩ := h
  exact ⟨⟨Nat.lt_of_lt_of_le h0 hb.size, (hb.cell (p := ⟨b, 0, none⟩) hl).trans c0, (hb.cell (p := ⟨b, 1, none⟩) hl).trans c1, (hb.cell (p := ⟨b, 2, none⟩) hl).trans c2, (hb.cell (p := ⟨b, 3, none⟩) hl).trans c3, (hb.cell (p := ⟨b, 4, none⟩) hl).trans c4, (hb.cell (p := ⟨b, 5, none⟩) hl).trans c5⟩, fun k hk => (hb.frozen (p := ⟨b, k, none⟩) hl).trans (hf k hk)⟩
theorem ORes.below {n : Nat} {w w' : World} {b : Nat} (h : ORes w b) (hb : Below n w w') (hl : b < n) : ORes w' b :=
  ⟨Nat.lt_of_lt_of_le h.1 hb.size, fun k hk => ⟨by rw [hb.cell (p := ⟨b, k, none⟩) hl]; exact (h.2 k hk).1, (hb.frozen (p := ⟨b, k, none⟩) hl).trans (h.2 k hk).2⟩⟩
/-- The cells of a row of texts. -/
def CW (w : World) (g off : Nat) (ps : List ByteArray) : Prop := ∀ j b, ps[j]? = some b → w.cell? ⟨g, off + j, none⟩ = some (.string b)
theorem CW.below {n : Nat} {w w' : World} {g off : Nat} {ps : List ByteArray} (h : CW w g off ps) (hb : Below n w w') (hl : g < n) : CW w' g off ps := fun j b hj => (hb.cell (p := ⟨g, off + j, none⟩) hl).trans (h j b hj)
theorem CW.set {w : World} {g off b o : Nat} {ps : List ByteArray} {v : Value} (h : CW w g off ps) (hne : b ≠ g) : CW (w.setCell ⟨b, o, none⟩ v) g off ps := fun j x hj => by
  rw [iset_ne _ _ _ _ _ _ (Or.inl hne)]; exact h j x hj
theorem OWr.path1 {w : World} {b : Nat} {k : Int} {p : ByteArray} {d v : Int} {s q : Bool} (h : OWr w b ⟨k, p, d, v, s, q⟩) (m : ByteArray) : OWr (w.setCell ⟨b, 1, none⟩ (.string m)) b ⟨k, m, d, v, s, q⟩ := by
  obtain ⟨⟨hb, c0, c1, c2, c3, c4, c5⟩, hf⟩ := h
  refine ⟨⟨by simpa using hb, ?_, ?_, ?_, ?_, ?_, ?_⟩, fun k hk => by simpa using hf k hk⟩
  · rw [iset_ne _ _ _ _ _ _ (by omega)]; exact c0
  · exact iset_eq _ _ _ _ ⟨_, c1⟩
  · rw [iset_ne _ _ _ _ _ _ (by omega)]; exact c2
  · rw [iset_ne _ _ _ _ _ _ (by omega)]; exact c3
  · rw [iset_ne _ _ _ _ _ _ (by omega)]; exact c4
  · rw [iset_ne _ _ _ _ _ _ (by omega)]; exact c5
theorem OWr.ownd {w : World} {b : Nat} {k : Int} {p : ByteArray} {d v : Int} {s q : Bool} (h : OWr w b ⟨k, p, d, v, s, q⟩) (m : Bool) : OWr (w.setCell ⟨b, 5, none⟩ (.bool m)) b ⟨k, p, d, v, s, m⟩ := by
  obtain ⟨⟨hb, c0, c1, c2, c3, c4, c5⟩, hf⟩ := h
  refine ⟨⟨by simpa using hb, ?_, ?_, ?_, ?_, ?_, ?_⟩, fun k hk => by simpa using hf k hk⟩
  · rw [iset_ne _ _ _ _ _ _ (by omega)]; exact c0
  · rw [iset_ne _ _ _ _ _ _ (by omega)]; exact c1
  · rw [iset_ne _ _ _ _ _ _ (by omega)]; exact c2
  · rw [iset_ne _ _ _ _ _ _ (by omega)]; exact c3
  · rw [iset_ne _ _ _ _ _ _ (by omega)]; exact c4
  · exact iset_eq _ _ _ _ ⟨_, c5⟩
theorem Opr.cutB_small : ∀ (l cur x : List UInt8), x ∈ Opr.cutB cur l → x.length ≤ cur.length + l.length
  | [], cur, x, h => by rw [Opr.cutB, List.mem_singleton] at h; rw [h]; exact Nat.le_add_right _ _
  | c :: r, cur, x, h => by
    by_cases hc : c = 32
    · rw [hc, Opr.cutB_sl] at h
      rcases List.mem_cons.1 h with h | h
      · rw [h]; exact Nat.le_add_right _ _
      · have := Opr.cutB_small r [] x h; simp only [List.length_nil, List.length_cons] at this ⊢; omega
    · rw [Opr.cutB_ne _ _ _ hc] at h
      have := Opr.cutB_small r _ x h
      simp only [List.length_append, List.length_cons, List.length_nil] at this ⊢; omega
/-- The pieces behind the second, up to the k-th. -/
def Opr.back (ps : List ByteArray) (k : Nat) : List ByteArray := (ps.take k).drop 2
theorem Opr.back_on {ps : List ByteArray} {k : Nat} {x : ByteArray} (h : ps[k]? = some x) (h2 : 2 ≤ k) : Opr.back ps (k + 1) = Opr.back ps k ++ [x] := by
  have hl := (List.getElem?_eq_some_iff.1 h).1
  have e : ps[k] = x := (List.getElem?_eq_some_iff.1 h).2
  unfold Opr.back
  rw [List.take_succ_eq_append_getElem hl, List.drop_append_of_le_length (by rw [List.length_take]; omega), e]
theorem Opr.back_few (ps : List ByteArray) {k : Nat} (h : k ≤ 2) : Opr.back ps k = [] := by
  unfold Opr.back; exact List.drop_eq_nil_of_le (by rw [List.length_take]; omega)
theorem Opr.nums_snoc (l : List ByteArray) {x : ByteArray} {n : Int} (h : Opr.numV x.data.toList = (n, true)) : Opr.nums (l ++ [x]) = Opr.nums l ++ [n] := by
  unfold Opr.nums; rw [List.filterMap_append]; congr 1; rw [List.filterMap_cons, h]; rfl
theorem Opr.nums_pass (l : List ByteArray) {x : ByteArray} {n : Int} (h : Opr.numV x.data.toList = (n, false)) : Opr.nums (l ++ [x]) = Opr.nums l := by
  unfold Opr.nums; rw [List.filterMap_append, List.filterMap_cons, h]; simp
theorem Opr.has_snoc (l : List ByteArray) (x : ByteArray) (y : List UInt8) : Opr.has (l ++ [x]) y = (Opr.has l y || decide (x.data.toList = y)) := by
  unfold Opr.has; rw [List.any_append]; simp
theorem Opr.nums_few (l : List ByteArray) : (Opr.nums l).length ≤ l.length := by unfold Opr.nums; exact List.length_filterMap_le _ _
theorem Opr.back_len (ps : List ByteArray) (k : Nat) : (Opr.back ps k).length ≤ k := by unfold Opr.back; rw [List.length_drop, List.length_take]; omega
end Go.Proofs.YtdjnkchaapcjpaaGreatDoor
