/- rows of sums: how they lie in memory; the program's above. -/
import Derived.Test.YtbapllhdkckdjaaDoorV5
import Derived.Deep.MidRow
import Derived.Deep.RegionHeld3
namespace Go.Proofs.YtbapllhdkckdjaaDoor
open Go.RowKit

/-- The cells of a row that holds the sums l. -/
def RowV (R : List Value) (l : List Int) : Prop :=
  R.length = 21 ∧ l.length ≤ 20 ∧ R[0]? = some (.int .i64 (l.length : Int)) ∧ (∀ j x, l[j]? = some x → R[j + 1]? = some (.int .u64 x)) ∧ ∀ v ∈ R, v.oneCell' = true
/-- The row R lies in block b, and may be written. -/
def RowAt (w : World) (b : Nat) (R : List Value) : Prop := b < w.heap.size ∧ w.rangeAt b 0 R ∧ ∀ j, j < R.length → w.frozen? ⟨b, j, none⟩ = false
theorem RowAt.ext {w w' : World} {b : Nat} {R : List Value} (h : RowAt w b R) (he : Ext w w') : RowAt w' b R := by
  obtain ⟨hc, hf⟩ := Ext.cell he
  exact ⟨Nat.lt_of_lt_of_le h.1 he.size, fun j v hv => (hc _ _ h.1).trans (h.2.1 j v hv), fun j hj => (hf _ _ h.1).trans (h.2.2 j hj)⟩
theorem RowAt.there {w : World} {b : Nat} {R : List Value} (h : RowAt w b R) : w.there b 0 R.length := fun j hj => by
  rw [Nat.zero_add]
  refine ⟨?_, h.2.2 j hj⟩
  have := h.2.1 j _ (List.getElem?_eq_getElem hj)
  rw [Nat.zero_add] at this
  rw [this]; rfl
theorem RowAt.cell {w : World} {b j : Nat} {R : List Value} {v : Value} (h : RowAt w b R) (hv : R[j]? = some v) : w.cell? ⟨b, j, none⟩ = some v ∧ w.frozen? ⟨b, j, none⟩ = false := by
  have := h.2.1 j v hv
  rw [Nat.zero_add] at this
  exact ⟨this, h.2.2 j (List.getElem?_eq_some_iff.1 hv).1⟩
theorem RowAt.other {w : World} {b : Nat} {R : List Value} (h : RowAt w b R) (b' o : Nat) (v : Value) (hb : b ≠ b') : RowAt (w.setCell ⟨b', o, none⟩ v) b R :=
  ⟨by simpa using h.1, fun j u hu => by rw [iset_ne _ _ _ _ _ _ (Or.inl (Ne.symm hb))]; exact h.2.1 j u hu, fun j hj => by simpa using h.2.2 j hj⟩
theorem RowAt.set {w : World} {b o : Nat} {R : List Value} (h : RowAt w b R) (v : Value) (ho : o < R.length) : RowAt (w.setCell ⟨b, o, none⟩ v) b (R.set o v) := by
  refine ⟨by simpa using h.1, fun j u hu => ?_, fun j hj => by rw [List.length_set] at hj; simpa using h.2.2 j hj⟩
  rw [Nat.zero_add]
  rw [List.getElem?_set] at hu
  have hat := h.cell (List.getElem?_eq_getElem ho)
  split at hu
  · rename_i he
    subst he
    cases hu
    exact iset_eq _ _ _ _ ⟨_, hat.1⟩
  · rename_i he
    rw [iset_ne _ _ _ _ _ _ (Or.inr he)]
    exact (h.cell hu).1
theorem RowAt.new (w : World) (R : List Value) (t : TypeId) : RowAt (w.alloc (.cells R.toArray t)) w.heap.size R := by
  refine ⟨by simp, fun j v hv => ?_, fun j hj => by simp⟩
  rw [Nat.zero_add, World.cell?_alloc_at _ _ _ _ rfl]
  simpa using hv
theorem setCells_size (b : Nat) : ∀ (vs : List Value) (o : Nat) (w : World), (w.setCells b o vs).heap.size = w.heap.size
  | [], _, _ => rfl
  | v :: r, o, w => by rw [World.setCells, setCells_size b r]; simp
theorem RowAt.stored {w : World} {b : Nat} {R R' : List Value} (h : RowAt w b R) (hl : R'.length = R.length) : RowAt (w.setCells b 0 R') b R' := by
  refine ⟨?_, World.rangeAt_setCells_same w b 0 R' (by rw [hl]; exact h.there), fun j hj => ?_⟩
  · rw [setCells_size]; exact h.1
  · rw [World.frozen?_setCells]; exact h.2.2 j (by omega)
theorem RowAt.storedOther {w : World} {b b' : Nat} {R R' : List Value} (h : RowAt w b R) (hb : b ≠ b') : RowAt (w.setCells b' 0 R') b R := by
  refine ⟨?_, World.rangeAt_setCells_apart h.2.1 b' 0 R' (Or.inl hb), fun j hj => ?_⟩
  · rw [setCells_size]; exact h.1
  · rw [World.frozen?_setCells]; exact h.2.2 j hj
def zeroRow : List Value := .int .i64 0 :: List.replicate 20 (.int .u64 0)
/-- One more sum. -/
theorem RowV.push {R : List Value} {l : List Int} (h : RowV R l) (hl : l.length < 20) (a : Value) (y : Int) (ha : a.oneCell' = true) : RowV (((R.set (l.length + 1) a).set (l.length + 1) (.int .u64 y)).set 0 (.int .i64 ((l.length : Int) + 1))) (l ++ [y]) := by
  obtain ⟨h1, h2, h3, h4, h5⟩ := h
  refine ⟨by simp [h1], by simp; omega, by simp [h1], fun j x hj => ?_, fun v hv => ?_⟩
  · rw [List.getElem?_set_ne (by omega), List.set_set]
    by_cases hjl : j = l.length
    · subst hjl
      rw [List.getElem?_append_right (Nat.le_refl _)] at hj
      simp at hj
      subst hj
      rw [List.getElem?_set_self (by omega)]
    · have hjx : j < l.length := by
        have := (List.getElem?_eq_some_iff.1 hj).1
        simp at this
        omega
      rw [List.getElem?_append_left hjx] at hj
      rw [List.getElem?_set_ne (by omega)]
      exact h4 j x hj
  · rcases List.mem_or_eq_of_mem_set hv with hv | rfl
    · rcases List.mem_or_eq_of_mem_set hv with hv | rfl
      · rcases List.mem_or_eq_of_mem_set hv with hv | rfl
        · exact h5 v hv
        · exact ha
      · rfl
    · rfl
theorem RowV.push1 {R : List Value} {l : List Int} (h : RowV R l) (hl : l.length < 20) (y : Int) : RowV ((R.set (l.length + 1) (.int .u64 y)).set 0 (.int .i64 ((l.length : Int) + 1))) (l ++ [y]) := by
  have := h.push hl (.int .u64 y) y rfl
  rw [List.set_set] at this
  exact this
theorem RowV.none {R : List Value} {l : List Int} (h : RowV R l) : RowV (R.set 0 (.int .i64 0)) [] := by
  obtain ⟨h1, h2, h3, h4, h5⟩ := h
  refine ⟨by simp [h1], by simp, by simp [h1], fun j x hj => by simp at hj, fun v hv => ?_⟩
  rcases List.mem_or_eq_of_mem_set hv with hv | rfl
  · exact h5 v hv
  · rfl
theorem RowV.many {R : List Value} {l : List Int} (h : RowV R l) : R[0]? = some (.int .i64 (l.length : Int)) := h.2.2.1
theorem RowV.at {R : List Value} {l : List Int} {j : Nat} {x : Int} (h : RowV R l) (hx : l[j]? = some x) : R[j + 1]? = some (.int .u64 x) := h.2.2.2.1 j x hx

/-! ### the row above -/
def Sm.up : List Int → List Int
  | [] => []
  | [a] => [a]
  | a :: b :: r => Sm.sum [1, a, b] :: Sm.up r
theorem Sm.up_len : ∀ l : List Int, (Sm.up l).length = (l.length + 1) / 2
  | [] => rfl
  | [_] => by simp [Sm.up]
  | a :: b :: r => by simp [Sm.up, Sm.up_len r]; omega
theorem Sm.up_pair : ∀ (j : Nat) (l : List Int) (x y : Int), l[2 * j]? = some x → l[2 * j + 1]? = some y → Sm.up (l.take (2 * j + 2)) = Sm.up (l.take (2 * j)) ++ [Sm.sum [1, x, y]]
  | 0, a :: b :: r, x, y, h1, h2 => by simp at h1 h2; subst h1 h2; rfl
  | 0, [a], x, y, h1, h2 => by simp at h2
  | 0, [], x, y, h1, h2 => by simp at h2
  | j + 1, a :: b :: r, x, y, h1, h2 => by
    have e1 : 2 * (j + 1) = 2 * j + 1 + 1 := by omega
    rw [e1] at h1 h2
    simp only [List.getElem?_cons_succ] at h1 h2
    have := Sm.up_pair j r x y h1 h2
    rw [show 2 * (j + 1) + 2 = (2 * j + 2) + 1 + 1 from by omega, e1]
    simp only [List.take_succ_cons, Sm.up, this, List.cons_append]
  | j + 1, [a], x, y, h1, h2 => by simp at h1
  | j + 1, [], x, y, h1, h2 => by simp at h1
theorem Sm.up_one : ∀ (j : Nat) (l : List Int) (x : Int), l[2 * j]? = some x → l.length = 2 * j + 1 → Sm.up l = Sm.up (l.take (2 * j)) ++ [x]
  | 0, [a], x, h1, _ => by simp at h1; subst h1; rfl
  | 0, a :: b :: r, x, h1, h2 => by simp at h2
  | 0, [], x, h1, h2 => by simp at h1
  | j + 1, a :: b :: r, x, h1, h2 => by
    have e1 : 2 * (j + 1) = 2 * j + 1 + 1 := by omega
    rw [e1] at h1
    simp only [List.getElem?_cons_succ] at h1
    have := Sm.up_one j r x h1 (by simp at h2; omega)
    rw [e1]
    simp only [List.take_succ_cons, Sm.up, this, List.cons_append]
  | j + 1, [a], x, h1, h2 => by simp at h1
  | j + 1, [], x, h1, h2 => by simp at h1
end Go.Proofs.YtbapllhdkckdjaaDoor
