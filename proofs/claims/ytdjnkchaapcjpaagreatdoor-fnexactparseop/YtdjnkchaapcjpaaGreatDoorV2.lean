/- the pair's sum. -/
import Derived.Test.YtdjnkchaapcjpaaGreatDoorV1
namespace Go.Proofs.YtdjnkchaapcjpaaGreatDoor
open Go.RowKit
set_option maxHeartbeats 1000000 in
theorem implPairSum_any (x y : Int) (w : World) : Calls Tryz.prog 170 #[.int .i64 x, .int .i64 y] w fun e w' => e = .returned (ir (Sm.pairV x y)) ∧ Ext w w' := by
  have HI : Hid (∀ (v : Value) (w : World), ISlice w v [1, x, y] → Calls Tryz.prog 185 #[v] w fun e w' => e = .returned (ir (Sm.pairV x y)) ∧ Ext w w') := by
    intro v w h
    unfold Sm.pairV
    exact implSumOf_any v _ w h
  have HL : Hid (∀ (w : World) (t : TypeId) (g : Nat), g = w.heap.size → ISlice (w.alloc (.cells #[.int .i64 1, .int .i64 x, .int .i64 y] t)) (.slice (some ⟨g, 0, none⟩) 3 3) [1, x, y]) := fun w t g hg => three_lie w x y t g hg
  generalize Sm.pairV x y = r at *
  obtain ⟨c, n⟩ := r
  go_enter Tryz.func170, Tryz.ntmps170
  go_wp2_with fail
  refine (HI.out _ _ (HL.out _ _ _ (by simp))).mono ?_
  rintro e w2 ⟨rfl, hb⟩
  have HB : Hid (Ext w w2) := (((Ext.refl _).alloc _).alloc _).trans hb
  obtain ⟨q, q0, q1, f0, f1⟩ := ((IBox.new w _).ext ((Ext.refl _).alloc _)).ext hb
  clear hb
  unfold ir
  go_wp2
  exact bodyPost_ret (v := ir (c, n)) (by simp [results, Tryz.results170, go_sem, ir, q0, q1]) rfl ⟨rfl, HB.out.two _ _⟩

/-! ### the laws' functions over numbers -/
set_option maxHeartbeats 1000000 in
theorem eqIntR_same (c n : Int) (w : World) : Calls Tryz.prog 19 #[ir (c, n), ir (c, n)] w fun e w' => e = .returned (.bool true) ∧ Ext w w' := by
  unfold ir
  go_enter Tryz.func19, Tryz.ntmps19
  go_wp2
  go_ret
  exact ⟨rfl, ((Ext.refl _).alloc _).alloc _⟩

/-- Block g holds room for n cells from off on, and may be written there. -/
def IRoom (w : World) (g off n : Nat) : Prop := g < w.heap.size ∧ ∀ j, j < n → (∃ u, w.cell? ⟨g, off + j, none⟩ = some u) ∧ w.frozen? ⟨g, off + j, none⟩ = false
theorem iset_ne (w : World) (g o b k : Nat) (v : Value) (h : g ≠ b ∨ o ≠ k) : (w.setCell ⟨g, o, none⟩ v).cell? ⟨b, k, none⟩ = w.cell? ⟨b, k, none⟩ :=
  World.cell?_setCell_other _ _ _ _ (by intro e; injection e with e1 e2 _; rcases h with h | h; exact h e1; exact h e2)
theorem iset_eq (w : World) (g o : Nat) (v : Value) (h : ∃ u, w.cell? ⟨g, o, none⟩ = some u) : (w.setCell ⟨g, o, none⟩ v).cell? ⟨g, o, none⟩ = some v := by
  obtain ⟨u, hu⟩ := h; exact World.cell?_setCell_same _ _ _ hu
theorem IRoom.set {w : World} {g off n k : Nat} (h : IRoom w g off n) (v : Value) (hk : k < n) : IRoom (w.setCell ⟨g, off + k, none⟩ v) g off n := by
  refine ⟨by simpa using h.1, fun j hj => ⟨?_, by simpa using (h.2 j hj).2⟩⟩
  by_cases hjk : j = k
  · subst hjk; exact ⟨_, iset_eq _ _ _ _ (h.2 j hj).1⟩
  · rw [iset_ne _ _ _ _ _ _ (by omega)]; exact (h.2 j hj).1
theorem NumsAt.set {w : World} {g off n k : Nat} {l : List Int} {x : Int} (hr : IRoom w g off n) (hk : k < n) (hx : l[k]? = some x) (h : NumsAt w g off (l.take k)) : NumsAt (w.setCell ⟨g, off + k, none⟩ (.int .i64 x)) g off (l.take (k + 1)) := by
  intro i y hi
  rw [List.getElem?_take] at hi
  split at hi
  · by_cases hik : i = k
    · subst hik
      rw [hx] at hi
      cases hi
      exact iset_eq _ _ _ _ (hr.2 i hk).1
    · rw [iset_ne _ _ _ _ _ _ (by omega)]
      exact h i y (by rw [List.getElem?_take, if_pos (by omega)]; exact hi)
  · cases hi

end Go.Proofs.YtdjnkchaapcjpaaGreatDoor
