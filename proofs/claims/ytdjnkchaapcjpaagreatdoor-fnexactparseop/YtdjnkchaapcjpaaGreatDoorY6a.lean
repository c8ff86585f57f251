/- l5Parse: the cases of its end. -/
import Derived.Test.YtdjnkchaapcjpaaGreatDoorY5
import Derived.Test.YtdjnkchaapcjpaaGreatDoorP6
import Derived.Test.YtdjnkchaapcjpaaGreatDoorO6
namespace Go.Proofs.YtdjnkchaapcjpaaGreatDoor
open Go.RowKit
/-- What the slice of numbers holds. -/
theorem nums_at {w : World} {base : Nat} {v : Value} {l : List Int} (h : w.ownsRow base 2 1 v l.length (l.map (Value.int .i64))) : ∃ a cap, v = .slice a l.length cap ∧ l.length ≤ cap ∧ cap ≤ maxLen ∧ ∀ (j : Nat) x, l[j]? = some x → ∃ g, a = some ⟨g, 0, none⟩ ∧ base ≤ g ∧ g < w.heap.size ∧ w.cell? ⟨g, j, none⟩ = some (.int .i64 x) := by
  rcases h.2 with ⟨hv, h0⟩ | ⟨g, cap, cur, hv, hb, hh, hn, hm, hs, ht⟩
  · exact ⟨none, 0, by rw [hv, h0], by omega, by unfold maxLen; omega, fun j x hx => by have := (List.getElem?_eq_some_iff.1 hx).1; omega⟩
  · refine ⟨some ⟨g, 0, none⟩, cap, hv, hn, hm, fun j x hx => ⟨g, rfl, hb, (Array.getElem?_eq_some_iff.1 hh).1, ?_⟩⟩
    have hj := (List.getElem?_eq_some_iff.1 hx).1
    have h1 : (cur.toList.take (l.length * 1))[j]? = some (.int .i64 x) := by rw [ht, List.getElem?_map, hx]; rfl
    rw [List.getElem?_take, if_pos (by omega)] at h1
    simp only [World.cell?, hh]
    simpa using h1
theorem OWr.ver {w : World} {b : Nat} {k : Int} {p : ByteArray} {d v : Int} {s q : Bool} (h : OWr w b ⟨k, p, d, v, s, q⟩) (m : Int) : OWr (w.setCell ⟨b, 3, none⟩ (.int .i64 m)) b ⟨k, p, d, m, s, q⟩ := by
  obtain ⟨⟨hb, c0, c1, c2, c3, c4, c5⟩, hf⟩ := h
  refine ⟨⟨by simpa using hb, ?_, ?_, ?_, ?_, ?_, ?_⟩, fun k hk => by simpa using hf k hk⟩
  · rw [iset_ne _ _ _ _ _ _ (by omega)]; exact c0
  · rw [iset_ne _ _ _ _ _ _ (by omega)]; exact c1
  · rw [iset_ne _ _ _ _ _ _ (by omega)]; exact c2
  · exact iset_eq _ _ _ _ ⟨_, c3⟩
  · rw [iset_ne _ _ _ _ _ _ (by omega)]; exact c4
  · rw [iset_ne _ _ _ _ _ _ (by omega)]; exact c5
def Opr.case1 (ps : List ByteArray) : Prop := Opr.hasData (Opr.kindW (ps.getD 0 ⟨#[]⟩).data.toList) = false ∧ Opr.hasVer (Opr.kindW (ps.getD 0 ⟨#[]⟩).data.toList) = false ∧ (True)
def Opr.case2 (ps : List ByteArray) : Prop := Opr.hasData (Opr.kindW (ps.getD 0 ⟨#[]⟩).data.toList) = false ∧ Opr.hasVer (Opr.kindW (ps.getD 0 ⟨#[]⟩).data.toList) = true ∧ (Opr.nums (ps.drop 2) = [])
def Opr.case3 (ps : List ByteArray) : Prop := Opr.hasData (Opr.kindW (ps.getD 0 ⟨#[]⟩).data.toList) = false ∧ Opr.hasVer (Opr.kindW (ps.getD 0 ⟨#[]⟩).data.toList) = true ∧ (∃ n0 r, Opr.nums (ps.drop 2) = n0 :: r)
def Opr.case4 (ps : List ByteArray) : Prop := Opr.hasData (Opr.kindW (ps.getD 0 ⟨#[]⟩).data.toList) = true ∧ Opr.hasVer (Opr.kindW (ps.getD 0 ⟨#[]⟩).data.toList) = false ∧ (Opr.nums (ps.drop 2) = [])
def Opr.case5 (ps : List ByteArray) : Prop := Opr.hasData (Opr.kindW (ps.getD 0 ⟨#[]⟩).data.toList) = true ∧ Opr.hasVer (Opr.kindW (ps.getD 0 ⟨#[]⟩).data.toList) = true ∧ (Opr.nums (ps.drop 2) = [])
def Opr.case6 (ps : List ByteArray) : Prop := Opr.hasData (Opr.kindW (ps.getD 0 ⟨#[]⟩).data.toList) = true ∧ Opr.hasVer (Opr.kindW (ps.getD 0 ⟨#[]⟩).data.toList) = false ∧ (∃ n0, Opr.nums (ps.drop 2) = [n0])
def Opr.case7 (ps : List ByteArray) : Prop := Opr.hasData (Opr.kindW (ps.getD 0 ⟨#[]⟩).data.toList) = true ∧ Opr.hasVer (Opr.kindW (ps.getD 0 ⟨#[]⟩).data.toList) = true ∧ (∃ n0, Opr.nums (ps.drop 2) = [n0])
def Opr.case8 (ps : List ByteArray) : Prop := Opr.hasData (Opr.kindW (ps.getD 0 ⟨#[]⟩).data.toList) = true ∧ Opr.hasVer (Opr.kindW (ps.getD 0 ⟨#[]⟩).data.toList) = false ∧ (∃ n0 n1 r, Opr.nums (ps.drop 2) = n0 :: n1 :: r)
def Opr.case9 (ps : List ByteArray) : Prop := Opr.hasData (Opr.kindW (ps.getD 0 ⟨#[]⟩).data.toList) = true ∧ Opr.hasVer (Opr.kindW (ps.getD 0 ⟨#[]⟩).data.toList) = true ∧ (∃ n0 n1 r, Opr.nums (ps.drop 2) = n0 :: n1 :: r)
end Go.Proofs.YtdjnkchaapcjpaaGreatDoor
