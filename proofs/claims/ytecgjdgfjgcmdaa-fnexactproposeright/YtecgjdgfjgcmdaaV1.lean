/- sums of numbers: what the specification and the program answer at a slice of numbers. -/
import Derived.Test.YtecgjdgfjgcmdaaProg
import Derived.Test.YtecgjdgfjgcmdaaBase
import Derived.Test.YtecgjdgfjgcmdaaS1
import Derived.Deep.RegionWith
import Derived.Laws.MakeOwn
namespace Go.Proofs.Ytecgjdgfjgcmdaa
open Go.RowKit

/-- One more number in a sum. -/
def Sm.step (n x : Int) : Int := (n * 31 + x + 1) % 1000003
def Sm.sum (l : List Int) : Int := l.foldl Sm.step 7
def Sm.is (n : Int) : Bool := decide (0 ≤ n) && decide (n ≤ 1000002)
def Sm.ok (l : List Int) : Bool := l.all Sm.is
def Sm.sumV (l : List Int) : Int × Int := if 200 < l.length then (2, 0) else if Sm.ok l = true then (0, Sm.sum l) else (3, 0)
theorem Sm.is_iff {n : Int} : Sm.is n = true ↔ 0 ≤ n ∧ n ≤ 1000002 := by unfold Sm.is; simp
theorem Sm.step_is (n x : Int) : 0 ≤ Sm.step n x ∧ Sm.step n x ≤ 1000002 := by unfold Sm.step; omega
theorem Sm.sum_take {l : List Int} {k : Nat} {x : Int} (h : l[k]? = some x) : Sm.sum (l.take (k + 1)) = Sm.step (Sm.sum (l.take k)) x := by
  obtain ⟨hk, rfl⟩ := List.getElem?_eq_some_iff.1 h
  unfold Sm.sum
  rw [List.take_succ_eq_append_getElem hk, List.foldl_append]; rfl
theorem Sm.sum_is (l : List Int) : 0 ≤ Sm.sum l ∧ Sm.sum l ≤ 1000002 := by
  rcases List.eq_nil_or_concat l with rfl | ⟨m, x, rfl⟩
  · decide
  · unfold Sm.sum; rw [List.concat_eq_append, List.foldl_append]; exact Sm.step_is _ _
theorem Sm.ok_at {l : List Int} {k : Nat} {x : Int} (h : l[k]? = some x) (ho : Sm.ok l = true) : 0 ≤ x ∧ x ≤ 1000002 := by
  unfold Sm.ok at ho
  rw [List.all_eq_true] at ho
  exact Sm.is_iff.1 (ho x (List.mem_of_getElem? h))
theorem Sm.ok_bad {l : List Int} {k : Nat} {x : Int} (h : l[k]? = some x) (hx : Sm.is x = false) : Sm.ok l = false := by
  unfold Sm.ok
  rw [List.all_eq_false]
  exact ⟨x, List.mem_of_getElem? h, by simp [hx]⟩
theorem Sm.ok_all {l : List Int} (h : ∀ j x, j < l.length → l[j]? = some x → Sm.is x = true) : Sm.ok l = true := by
  unfold Sm.ok
  rw [List.all_eq_true]
  intro x hx
  obtain ⟨j, hj⟩ := List.getElem?_of_mem hx
  exact h j x (List.getElem?_eq_some_iff.1 hj).1 hj
theorem Sm.sumV_many {l : List Int} (h : 200 < l.length) : Sm.sumV l = (2, 0) := by unfold Sm.sumV; rw [if_pos h]
theorem Sm.sumV_bad {l : List Int} (h : ¬ 200 < l.length) (ho : Sm.ok l = false) : Sm.sumV l = (3, 0) := by unfold Sm.sumV; rw [if_neg h, if_neg (by simp [ho])]
theorem Sm.sumV_ok {l : List Int} (h : ¬ 200 < l.length) (ho : Sm.ok l = true) : Sm.sumV l = (0, Sm.sum l) := by unfold Sm.sumV; rw [if_neg h, if_pos ho]

/-- The numbers l lie in block b, from off on. -/
def NumsAt (w : World) (b off : Nat) (l : List Int) : Prop := ∀ (i : Nat) x, l[i]? = some x → w.cell? ⟨b, off + i, none⟩ = some (.int .i64 x)
theorem NumsAt.ext {w w' : World} {b off : Nat} {l : List Int} (h : NumsAt w b off l) (hb : b < w.heap.size) (he : Ext w w') : NumsAt w' b off l := by
  intro i x hx
  exact ((Ext.cell he).1 _ _ hb).trans (h i x hx)
/-- The slice value v reads as the numbers l. -/
def ISlice (w : World) (v : Value) (l : List Int) : Prop :=
  ∃ a cap, v = .slice a l.length cap ∧ l.length ≤ cap ∧ cap ≤ maxLen ∧ (0 < l.length → ∃ b off, a = some ⟨b, off, none⟩ ∧ b < w.heap.size ∧ NumsAt w b off l)
theorem ISlice.ext {w w' : World} {v : Value} {l : List Int} (h : ISlice w v l) (he : Ext w w') : ISlice w' v l := by
  obtain ⟨a, cap, h1, h2, h3, h4⟩ := h
  refine ⟨a, cap, h1, h2, h3, fun h0 => ?_⟩
  obtain ⟨b, off, e, hb, hN⟩ := h4 h0
  exact ⟨b, off, e, Nat.lt_of_lt_of_le hb he.size, hN.ext hb he⟩

/-- Block r holds an IntResult that nobody has written yet, and may be written. -/
def IBox (w : World) (r : Nat) : Prop :=
  r < w.heap.size ∧ w.cell? ⟨r, 0, none⟩ = some (.int .i64 0) ∧ w.cell? ⟨r, 1, none⟩ = some (.int .i64 0) ∧ w.frozen? ⟨r, 0, none⟩ = false ∧ w.frozen? ⟨r, 1, none⟩ = false
theorem IBox.new (w : World) (t : TypeId) : IBox (w.alloc (.cells #[.int .i64 0, .int .i64 0] t)) w.heap.size := ⟨by simp, by simp, by simp, by simp, by simp⟩
theorem IBox.ext {w w2 : World} {r : Nat} (h : IBox w r) (he : Ext w w2) : IBox w2 r := by
  obtain ⟨hc, hf⟩ := Ext.cell he
  obtain ⟨h1, h2, h3, h5, h6⟩ := h
  exact ⟨Nat.lt_of_lt_of_le h1 he.size, (hc _ _ h1).trans h2, (hc _ _ h1).trans h3, (hf _ _ h1).trans h5, (hf _ _ h1).trans h6⟩
theorem Ext.two {w w2 : World} (h : Ext w w2) (a b : Value) : Ext w ((w2.setCell ⟨w.heap.size, 0, none⟩ a).setCell ⟨w.heap.size, 1, none⟩ b) :=
  (h.setCell (p := ⟨w.heap.size, 0, none⟩) (Nat.le_refl _) a).setCell (p := ⟨w.heap.size, 1, none⟩) (Nat.le_refl _) b

def Sm.pairV (x y : Int) : Int × Int := Sm.sumV [1, x, y]
theorem three_lie (w : World) (x y : Int) (t : TypeId) (g : Nat) (hg : g = w.heap.size) : ISlice (w.alloc (.cells #[.int .i64 1, .int .i64 x, .int .i64 y] t)) (.slice (some ⟨g, 0, none⟩) 3 3) [1, x, y] := by
  subst hg
  refine ⟨_, 3, rfl, by simp, by unfold maxLen; omega, fun _ => ⟨w.heap.size, 0, rfl, by simp, ?_⟩⟩
  intro i z hz
  match i, hz with
  | 0, hz => cases hz; simp
  | 1, hz => cases hz; simp
  | 2, hz => cases hz; simp
end Go.Proofs.Ytecgjdgfjgcmdaa
