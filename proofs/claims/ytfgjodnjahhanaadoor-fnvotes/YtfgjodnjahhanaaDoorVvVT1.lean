/- votes: slices of them, the laws' functions over them; -/
import Derived.Test.YtfgjodnjahhanaaDoorVvV2
import Derived.Test.YtfgjodnjahhanaaDoorVvZ1
import Derived.Test.YtfgjodnjahhanaaDoorVvRY0
namespace Go.Proofs.YtfgjodnjahhanaaDoor
open Go.RowKit
structure Vt where
  frm : Int
  code : Int
  value : Int
  path : ByteArray
  deriving DecidableEq
instance : Inhabited Vt := ⟨⟨0, 0, 0, ByteArray.empty⟩⟩

def vtagg (z : Vt) : Value := .agg #[.int .i64 z.frm, .int .i64 z.code, .int .i64 z.value, .string z.path]
/-- A mark in a box of its own. -/
def VtBoxAt (w : World) (b : Nat) (z : Vt) : Prop := b < w.heap.size ∧ (w.cell? ⟨b, 0, none⟩ = some (.int .i64 z.frm) ∧ w.cell? ⟨b, 1, none⟩ = some (.int .i64 z.code) ∧ w.cell? ⟨b, 2, none⟩ = some (.int .i64 z.value) ∧ w.cell? ⟨b, 3, none⟩ = some (.string z.path)) ∧ w.frozen? ⟨b, 0, none⟩ = false ∧ w.frozen? ⟨b, 1, none⟩ = false ∧ w.frozen? ⟨b, 2, none⟩ = false ∧ w.frozen? ⟨b, 3, none⟩ = false
theorem VtBoxAt.ext {w w' : World} {b : Nat} {z : Vt} (h : VtBoxAt w b z) (he : Ext w w') : VtBoxAt w' b z := by
  obtain ⟨hc, hf⟩ := Ext.cell he
  obtain ⟨hb, ⟨c0, c1, c2, c3⟩, f0, f1, f2, f3⟩ := h
  exact ⟨Nat.lt_of_lt_of_le hb he.size, ⟨(hc _ _ hb).trans c0, (hc _ _ hb).trans c1, (hc _ _ hb).trans c2, (hc _ _ hb).trans c3⟩, (hf _ _ hb).trans f0, (hf _ _ hb).trans f1, (hf _ _ hb).trans f2, (hf _ _ hb).trans f3⟩
theorem vtbox_new (w : World) (z : Vt) (t : TypeId) : VtBoxAt (w.alloc (.cells #[.int .i64 z.frm, .int .i64 z.code, .int .i64 z.value, .string z.path] t)) w.heap.size z := ⟨by simp, ⟨by simp, by simp, by simp, by simp⟩, by simp, by simp, by simp, by simp⟩

/-- The mark z lies in block b from o on. -/
def VtAt (w : World) (b o : Nat) (z : Vt) : Prop := w.cell? ⟨b, o, none⟩ = some (.int .i64 z.frm) ∧ w.cell? ⟨b, o + 1, none⟩ = some (.int .i64 z.code) ∧ w.cell? ⟨b, o + 2, none⟩ = some (.int .i64 z.value) ∧ w.cell? ⟨b, o + 3, none⟩ = some (.string z.path)
theorem VtAt.ext {w w' : World} {b o : Nat} {z : Vt} (h : VtAt w b o z) (hb : b < w.heap.size) (he : Ext w w') : VtAt w' b o z := by
  obtain ⟨c0, c1, c2, c3⟩ := h
  obtain ⟨hc, _⟩ := Ext.cell he
  exact ⟨(hc _ _ hb).trans c0, (hc _ _ hb).trans c1, (hc _ _ hb).trans c2, (hc _ _ hb).trans c3⟩
/-- The marks zs lie in block b, from off on. -/
def VtsAt (w : World) (b off : Nat) (zs : List Vt) : Prop := ∀ (i : Nat) z, zs[i]? = some z → VtAt w b (off + i * 4) z
theorem VtsAt.ext {w w' : World} {b off : Nat} {zs : List Vt} (h : VtsAt w b off zs) (hb : b < w.heap.size) (he : Ext w w') : VtsAt w' b off zs :=
  fun i z hz => (h i z hz).ext hb he
/-- The slice value v reads as the marks zs. -/
def VtSlice (w : World) (v : Value) (zs : List Vt) : Prop :=
  ∃ a cap, v = .slice a zs.length cap ∧ zs.length ≤ cap ∧ cap ≤ maxLen ∧ (0 < zs.length → ∃ b off, a = some ⟨b, off, none⟩ ∧ b < w.heap.size ∧ VtsAt w b off zs)
theorem VtSlice.ext {w w' : World} {v : Value} {zs : List Vt} (h : VtSlice w v zs) (he : Ext w w') : VtSlice w' v zs := by
  obtain ⟨a, cap, h1, h2, h3, h4⟩ := h
  refine ⟨a, cap, h1, h2, h3, fun h0 => ?_⟩
  obtain ⟨b, off, e, hb, hN⟩ := h4 h0
  exact ⟨b, off, e, Nat.lt_of_lt_of_le hb he.size, hN.ext hb he⟩

/-! ### Marks that are stored -/
def VtRoom (w : World) (g off n : Nat) : Prop := g < w.heap.size ∧ ∀ j, j < n * 4 → (∃ u, w.cell? ⟨g, off + j, none⟩ = some u) ∧ w.frozen? ⟨g, off + j, none⟩ = false
def putVt (w : World) (g o : Nat) (z : Vt) : World := ((((w.setCell ⟨g, o, none⟩ (.int .i64 z.frm)).setCell ⟨g, o + 1, none⟩ (.int .i64 z.code)).setCell ⟨g, o + 2, none⟩ (.int .i64 z.value)).setCell ⟨g, o + 3, none⟩ (.string z.path))
theorem putVt_ne (w : World) (g o b k : Nat) (z : Vt) (h : g ≠ b ∨ k < o ∨ o + 4 ≤ k) : (putVt w g o z).cell? ⟨b, k, none⟩ = w.cell? ⟨b, k, none⟩ := by
  unfold putVt
  rw [iset_ne _ _ _ _ _ _ (by omega), iset_ne _ _ _ _ _ _ (by omega), iset_ne _ _ _ _ _ _ (by omega), iset_ne _ _ _ _ _ _ (by omega)]
theorem putVt_eq (w : World) (g o : Nat) (z : Vt) (h : ∀ j, j < 4 → ∃ u, w.cell? ⟨g, o + j, none⟩ = some u) : VtAt (putVt w g o z) g o z := by
  unfold putVt
  refine ⟨?_, ?_, ?_, ?_⟩
  · rw [iset_ne _ _ _ _ _ _ (by omega), iset_ne _ _ _ _ _ _ (by omega), iset_ne _ _ _ _ _ _ (by omega)]; apply iset_eq; exact h 0 (by omega)
  · rw [iset_ne _ _ _ _ _ _ (by omega), iset_ne _ _ _ _ _ _ (by omega)]; apply iset_eq; rw [iset_ne _ _ _ _ _ _ (by omega)]; exact h 1 (by omega)
  · rw [iset_ne _ _ _ _ _ _ (by omega)]; apply iset_eq; rw [iset_ne _ _ _ _ _ _ (by omega), iset_ne _ _ _ _ _ _ (by omega)]; exact h 2 (by omega)
  · apply iset_eq; rw [iset_ne _ _ _ _ _ _ (by omega), iset_ne _ _ _ _ _ _ (by omega), iset_ne _ _ _ _ _ _ (by omega)]; exact h 3 (by omega)
theorem putVt_size (w : World) (g o : Nat) (z : Vt) : (putVt w g o z).heap.size = w.heap.size := by simp [putVt]
theorem putVt_frozen (w : World) (g o : Nat) (z : Vt) (a : Addr) : (putVt w g o z).frozen? a = w.frozen? a := by simp [putVt]
theorem VtRoom.put {w : World} {g off n k : Nat} (h : VtRoom w g off n) (z : Vt) (hk : k < n) : VtRoom (putVt w g (off + k * 4) z) g off n := by
  refine ⟨by rw [putVt_size]; exact h.1, fun j hj => ⟨?_, by rw [putVt_frozen]; exact (h.2 j hj).2⟩⟩
  obtain ⟨q0, q1, q2, q3⟩ := putVt_eq w g (off + k * 4) z (fun i hi => by rw [Nat.add_assoc]; exact (h.2 (k * 4 + i) (by omega)).1)
  by_cases hh : off + j < off + k * 4 ∨ off + k * 4 + 4 ≤ off + j
  · rw [putVt_ne _ _ _ _ _ _ (Or.inr hh)]; exact (h.2 j hj).1
  · have hj5 : j = k * 4 ∨ j = k * 4 + 1 ∨ j = k * 4 + 2 ∨ j = k * 4 + 3 := by omega
    rcases hj5 with e | e | e | e <;> subst e
    · exact ⟨_, q0⟩
    · exact ⟨_, q1⟩
    · exact ⟨_, q2⟩
    · exact ⟨_, q3⟩
theorem VtRoom.ext {w w' : World} {g off n : Nat} (h : VtRoom w g off n) (he : Ext w w') : VtRoom w' g off n := by
  obtain ⟨hc, hf⟩ := Ext.cell he
  exact ⟨Nat.lt_of_lt_of_le h.1 he.size, fun j hj => ⟨by rw [hc _ _ h.1]; exact (h.2 j hj).1, by rw [hf _ _ h.1]; exact (h.2 j hj).2⟩⟩
theorem VtsAt.put {w : World} {g off n k : Nat} {zs : List Vt} {z : Vt} (hr : VtRoom w g off n) (hk : k < n) (hz : zs[k]? = some z) (h : VtsAt w g off (zs.take k)) : VtsAt (putVt w g (off + k * 4) z) g off (zs.take (k + 1)) := by
  intro i z' hi
  rw [List.getElem?_take] at hi
  split at hi
  · by_cases hik : i = k
    · subst hik
      rw [hz] at hi
      cases hi
      exact putVt_eq w g (off + i * 4) z (fun j hj => by rw [Nat.add_assoc]; exact (hr.2 (i * 4 + j) (by omega)).1)
    · obtain ⟨c0, c1, c2, c3⟩ := h i z' (by rw [List.getElem?_take, if_pos (by omega)]; exact hi)
      exact ⟨by rw [putVt_ne _ _ _ _ _ _ (by omega)]; exact c0, by rw [putVt_ne _ _ _ _ _ _ (by omega)]; exact c1, by rw [putVt_ne _ _ _ _ _ _ (by omega)]; exact c2, by rw [putVt_ne _ _ _ _ _ _ (by omega)]; exact c3⟩
  · cases hi
theorem VtSlice.of {w : World} {g off cap : Nat} {zs : List Vt} (hg : g < w.heap.size) (h : VtsAt w g off zs) (h1 : zs.length ≤ cap) (h2 : cap ≤ maxLen) : VtSlice w (.slice (some ⟨g, off, none⟩) zs.length cap) zs :=
  ⟨_, _, rfl, h1, h2, fun _ => ⟨g, off, rfl, hg, h⟩⟩
theorem VtsAt.set_ne {w : World} {b off g o : Nat} {zs : List Vt} {v : Value} (h : VtsAt w b off zs) (hne : g ≠ b) : VtsAt (w.setCell ⟨g, o, none⟩ v) b off zs := by
  intro i z hz
  obtain ⟨c0, c1, c2, c3⟩ := h i z hz
  refine ⟨?_, ?_, ?_, ?_⟩ <;> rw [iset_ne _ _ _ _ _ _ (Or.inl hne)] <;> assumption

end Go.Proofs.YtfgjodnjahhanaaDoor
