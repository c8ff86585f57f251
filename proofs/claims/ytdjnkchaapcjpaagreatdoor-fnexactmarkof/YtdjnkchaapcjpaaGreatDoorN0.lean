/- marks: what the document tells of lists of them; a state's fault. -/
import Derived.Test.YtdjnkchaapcjpaaGreatDoorN1
import Derived.Test.YtdjnkchaapcjpaaGreatDoorT2
namespace Go.Proofs.YtdjnkchaapcjpaaGreatDoor
open Go.RowKit
def keyM (c n : Int) (m : Mk) : Bool := decide (m.client = c) && decide (m.number = n)
/-- The first place of a mark of c and n, counted from k on, or -1. -/
def idxM (c n : Int) : Nat → List Mk → Int
  | _, [] => -1
  | k, m :: r => if keyM c n m = true then (k : Int) else idxM c n (k + 1) r
theorem idxM_at {c n : Int} {l : List Mk} {k : Nat} {m : Mk} (h : l[k]? = some m) : idxM c n k (l.drop k) = if keyM c n m = true then (k : Int) else idxM c n (k + 1) (l.drop (k + 1)) := by
  obtain ⟨hk, rfl⟩ := List.getElem?_eq_some_iff.1 h
  rw [List.drop_eq_getElem_cons hk, idxM]
theorem idxM_is (c n : Int) : ∀ (l : List Mk) (k : Nat), (idxM c n k l = -1 ∧ l.any (keyM c n) = false) ∨ ∃ j, j < l.length ∧ idxM c n k l = ((k + j : Nat) : Int) ∧ (l.take j).any (keyM c n) = false ∧ ∃ m, l[j]? = some m ∧ keyM c n m = true
  | [], k => Or.inl ⟨rfl, rfl⟩
  | m :: r, k => by
    rw [idxM]
    by_cases h : keyM c n m = true
    · exact Or.inr ⟨0, by simp, by rw [if_pos h]; rfl, rfl, m, rfl, h⟩
    · rw [if_neg h]
      have h' : keyM c n m = false := by simpa using h
      rcases idxM_is c n r (k + 1) with ⟨q1, q2⟩ | ⟨j, q1, q2, q3, z, q4, q5⟩
      · refine Or.inl ⟨q1, ?_⟩
        rw [List.any_cons, h', q2]; rfl
      · refine Or.inr ⟨j + 1, by simp; omega, by rw [q2]; omega, ?_, z, by simpa using q4, q5⟩
        rw [List.take_succ_cons, List.any_cons, h', q3]; rfl
/-- At its own place a mark is the first of its key just where none ahead has that. -/
theorem idxM_own {l : List Mk} {k : Nat} {m : Mk} (h : l[k]? = some m) : (idxM m.client m.number 0 l = (k : Int) ∧ (l.take k).any (keyM m.client m.number) = false) ∨ (idxM m.client m.number 0 l ≠ (k : Int) ∧ (l.take k).any (keyM m.client m.number) = true) := by
  have hk := (List.getElem?_eq_some_iff.1 h).1
  have hm : keyM m.client m.number m = true := by simp [keyM]
  rcases idxM_is m.client m.number l 0 with ⟨_, q2⟩ | ⟨j, q1, q2, q3, z, q4, q5⟩
  · rw [List.any_eq_false] at q2
    exact absurd hm (q2 m (List.mem_of_getElem? h))
  · rw [Nat.zero_add] at q2
    by_cases hjk : j = k
    · subst hjk; exact Or.inl ⟨q2, q3⟩
    · have hlt : j < k := by
        rcases Nat.lt_or_ge j k with hh | hh
        · exact hh
        · exfalso
          rw [List.any_eq_false] at q3
          have : m ∈ l.take j := List.mem_of_getElem? (i := k) (by rw [List.getElem?_take, if_pos (by omega)]; exact h)
          exact q3 m this hm
      refine Or.inr ⟨by rw [q2]; omega, ?_⟩
      rw [List.any_eq_true]
      exact ⟨z, List.mem_of_getElem? (i := j) (by rw [List.getElem?_take, if_pos hlt]; exact q4), q5⟩
def okY (c v : Int) (p : ByteArray) : Bool := (decide (0 ≤ c) && decide (c ≤ 10)) && ((decide (-1 ≤ v) && decide (v ≤ 9999)) && decide (p.size ≤ 24))
def okNum (n : Int) : Bool := decide (1 ≤ n) && decide (n ≤ 99)
def okM (m : Mk) : Bool := Ses.idOk m.client && (okNum m.number && okY m.code m.value m.path)
def markFrom : List Mk → List Mk → Int
  | _, [] => 0
  | ah, m :: r => if okM m = false then 3 else if ah.any (keyM m.client m.number) = true then 6 else markFrom (ah ++ [m]) r
theorem markFrom_at {l : List Mk} {k : Nat} {m : Mk} (h : l[k]? = some m) : markFrom (l.take k) (l.drop k) = if okM m = false then 3 else if (l.take k).any (keyM m.client m.number) = true then 6 else markFrom (l.take (k + 1)) (l.drop (k + 1)) := by
  obtain ⟨hk, rfl⟩ := List.getElem?_eq_some_iff.1 h
  rw [List.drop_eq_getElem_cons hk, markFrom, List.take_succ_eq_append_getElem hk]
namespace Sta
def fault (s : Stt) : Int := if Tre.fault s.nodes ≠ 0 then Tre.fault s.nodes else if Ses.fault s.ses ≠ 0 then Ses.fault s.ses else if Ses.nowOk s.now = false then 3 else if 40 < s.marks.length then 2 else markFrom [] s.marks
theorem fault_t {s : Stt} (h : Tre.fault s.nodes ≠ 0) : fault s = Tre.fault s.nodes := by unfold fault; rw [if_pos h]
theorem fault_e {s : Stt} (h : Tre.fault s.nodes = 0) (h1 : Ses.fault s.ses ≠ 0) : fault s = Ses.fault s.ses := by unfold fault; rw [if_neg (by omega), if_pos h1]
theorem fault_n {s : Stt} (h : Tre.fault s.nodes = 0) (h1 : Ses.fault s.ses = 0) (h2 : Ses.nowOk s.now = false) : fault s = 3 := by unfold fault; rw [if_neg (by omega), if_neg (by omega), if_pos h2]
theorem fault_m {s : Stt} (h : Tre.fault s.nodes = 0) (h1 : Ses.fault s.ses = 0) (h2 : Ses.nowOk s.now = true) (h3 : 40 < s.marks.length) : fault s = 2 := by unfold fault; rw [if_neg (by omega), if_neg (by omega), if_neg (by rw [h2]; decide), if_pos h3]
theorem fault_r {s : Stt} (h : Tre.fault s.nodes = 0) (h1 : Ses.fault s.ses = 0) (h2 : Ses.nowOk s.now = true) (h3 : ¬ 40 < s.marks.length) : fault s = markFrom [] s.marks := by unfold fault; rw [if_neg (by omega), if_neg (by omega), if_neg (by rw [h2]; decide), if_neg h3]
theorem fault_zero {s : Stt} (h : fault s = 0) : Tre.fault s.nodes = 0 ∧ Ses.fault s.ses = 0 ∧ Ses.nowOk s.now = true ∧ s.marks.length ≤ 40 ∧ markFrom [] s.marks = 0 := by
  unfold fault at h
  split at h
  · rename_i h0; exact absurd h h0
  · rename_i h0
    split at h
    · rename_i h1; exact absurd h h1
    · rename_i h1
      split at h
      · cases h
      · rename_i h2
        split at h
        · cases h
        · rename_i h3
          exact ⟨by omega, by omega, by simpa using h2, by omega, h⟩
end Sta
end Go.Proofs.YtdjnkchaapcjpaaGreatDoor
