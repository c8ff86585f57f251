/- the specification's functions over sessions that are asked first: SessionsFault, l4At, l4Asked, LiveSession. -/
import Derived.Test.YtdjnkchaapcjpaaE1
import Derived.Test.YtdjnkchaapcjpaaS1
namespace Go.Proofs.Ytdjnkchaapcjpaa
open Go.RowKit

set_option maxHeartbeats 1000000 in
theorem l4Now_any (n : Int) (w : World) : Calls Try.prog 15 #[.int .i64 n] w fun e w' => e = .returned (.bool (Ses.nowOk n)) ∧ w' = w := by
  go_enter Try.func15, Try.ntmps15
  go_wp2_with fail
  refine (l1In_any _ _ _ _).mono ?_
  rintro e w' ⟨rfl, rfl⟩
  go_wp2
  go_ret
  exact ⟨rfl, rfl⟩
def Ses.tilOk (n : Int) : Bool := decide (0 ≤ n) && decide (n ≤ 9999)
theorem Ses.ok_eq (s : Se) : Ses.ok s = (Ses.idOk s.id && Ses.tilOk s.til) := rfl
def Ses.pre (l : List Se) (k : Nat) : Int := if k = 0 then 0 else ((l[k - 1]?).map (·.id)).getD 0
theorem Ses.pre_succ {l : List Se} {k : Nat} {s : Se} (h : l[k]? = some s) : Ses.pre l (k + 1) = s.id := by unfold Ses.pre; simp [h]
theorem Ses.idOk_pos {i : Int} (h : Ses.idOk i = true) : 1 ≤ i ∧ i ≤ 9 := by unfold Ses.idOk at h; simpa using h

/-- Where an Id stands, or -1. -/
def Ses.atF (i : Int) : Nat → List Se → Int
  | _, [] => -1
  | k, s :: r => if s.id = i then (k : Int) else Ses.atF i (k + 1) r
theorem Ses.atF_at {l : List Se} {k : Nat} {s : Se} (i : Int) (h : l[k]? = some s) : Ses.atF i k (l.drop k) = if s.id = i then (k : Int) else Ses.atF i (k + 1) (l.drop (k + 1)) := by
  obtain ⟨hk, rfl⟩ := List.getElem?_eq_some_iff.1 h
  rw [List.drop_eq_getElem_cons hk, Ses.atF]
theorem Ses.atF_is (i : Int) : ∀ (l : List Se) (k : Nat), (Ses.atF i k l = -1 ∧ hasE l i = false) ∨ ∃ j s, l[j]? = some s ∧ Ses.atF i k l = ((k + j : Nat) : Int) ∧ s.id = i ∧ hasE l i = true ∧ tilE l i = s.til
  | [], k => Or.inl ⟨rfl, rfl⟩
  | s :: r, k => by
    rw [Ses.atF]
    by_cases h : s.id = i
    · refine Or.inr ⟨0, s, rfl, by rw [if_pos h]; rfl, h, ?_, ?_⟩
      · unfold hasE; simp [h]
      · unfold tilE; rw [List.find?_cons_of_pos (by simp [h])]
    · rw [if_neg h]
      have e1 : hasE (s :: r) i = hasE r i := by unfold hasE; rw [List.any_cons]; simp [h]
      have e2 : tilE (s :: r) i = tilE r i := by unfold tilE; rw [List.find?_cons_of_neg (by simp [h])]
      rcases Ses.atF_is i r (k + 1) with ⟨q1, q2⟩ | ⟨j, t, q1, q2, q3, q4, q5⟩
      · exact Or.inl ⟨q1, by rw [e1]; exact q2⟩
      · exact Or.inr ⟨j + 1, t, by simpa using q1, by rw [q2]; omega, q3, by rw [e1]; exact q4, by rw [e2]; exact q5⟩

end Go.Proofs.Ytdjnkchaapcjpaa
