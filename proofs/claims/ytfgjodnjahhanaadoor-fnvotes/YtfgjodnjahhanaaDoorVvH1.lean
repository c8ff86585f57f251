/- certificates: slices of them, the laws' functions over them. -/
import Derived.Test.YtfgjodnjahhanaaDoorVvV2
import Derived.Test.YtfgjodnjahhanaaDoorVvZ1
namespace Go.Proofs.YtfgjodnjahhanaaDoor
open Go.RowKit
structure Ct where
  slot : Int
  view : Int
  value : Int
  deriving DecidableEq
instance : Inhabited Ct := ⟨⟨0, 0, 0⟩⟩

def ctagg (z : Ct) : Value := .agg #[.int .i64 z.slot, .int .i64 z.view, .int .i64 z.value]

/-- The operation z lies in block b from o on. -/
def CtAt (w : World) (b o : Nat) (z : Ct) : Prop := w.cell? ⟨b, o, none⟩ = some (.int .i64 z.slot) ∧ w.cell? ⟨b, o + 1, none⟩ = some (.int .i64 z.view) ∧ w.cell? ⟨b, o + 2, none⟩ = some (.int .i64 z.value)
theorem CtAt.ext {w w' : World} {b o : Nat} {z : Ct} (h : CtAt w b o z) (hb : b < w.heap.size) (he : Ext w w') : CtAt w' b o z := by
  obtain ⟨c0, c1, c2⟩ := h
  obtain ⟨hc, _⟩ := Ext.cell he
  exact ⟨(hc _ _ hb).trans c0, (hc _ _ hb).trans c1, (hc _ _ hb).trans c2⟩
/-- The operations zs lie in block b, from off on. -/
def CtsAt (w : World) (b off : Nat) (zs : List Ct) : Prop := ∀ (i : Nat) z, zs[i]? = some z → CtAt w b (off + i * 3) z
theorem CtsAt.ext {w w' : World} {b off : Nat} {zs : List Ct} (h : CtsAt w b off zs) (hb : b < w.heap.size) (he : Ext w w') : CtsAt w' b off zs :=
  fun i z hz => (h i z hz).ext hb he
/-- The slice value v reads as the operations zs. -/
def CtSlice (w : World) (v : Value) (zs : List Ct) : Prop :=
  ∃ a cap, v = .slice a zs.length cap ∧ zs.length ≤ cap ∧ cap ≤ maxLen ∧ (0 < zs.length → ∃ b off, a = some ⟨b, off, none⟩ ∧ b < w.heap.size ∧ CtsAt w b off zs)
theorem CtSlice.ext {w w' : World} {v : Value} {zs : List Ct} (h : CtSlice w v zs) (he : Ext w w') : CtSlice w' v zs := by
  obtain ⟨a, cap, h1, h2, h3, h4⟩ := h
  refine ⟨a, cap, h1, h2, h3, fun h0 => ?_⟩
  obtain ⟨b, off, e, hb, hN⟩ := h4 h0
  exact ⟨b, off, e, Nat.lt_of_lt_of_le hb he.size, hN.ext hb he⟩

/-! ### Operations that are stored -/
def CtRoom (w : World) (g off n : Nat) : Prop := g < w.heap.size ∧ ∀ j, j < n * 3 → (∃ u, w.cell? ⟨g, off + j, none⟩ = some u) ∧ w.frozen? ⟨g, off + j, none⟩ = false
def putCt (w : World) (g o : Nat) (z : Ct) : World := (((w.setCell ⟨g, o, none⟩ (.int .i64 z.slot)).setCell ⟨g, o + 1, none⟩ (.int .i64 z.view)).setCell ⟨g, o + 2, none⟩ (.int .i64 z.value))
theorem putCt_ne (w : World) (g o b k : Nat) (z : Ct) (h : g ≠ b ∨ k < o ∨ o + 3 ≤ k) : (putCt w g o z).cell? ⟨b, k, none⟩ = w.cell? ⟨b, k, none⟩ := by
  unfold putCt
  rw [iset_ne _ _ _ _ _ _ (by omega), iset_ne _ _ _ _ _ _ (by omega), iset_ne _ _ _ _ _ _ (by omega)]
theorem putCt_eq (w : World) (g o : Nat) (z : Ct) (h : ∀ j, j < 3 → ∃ u, w.cell? ⟨g, o + j, none⟩ = some u) : CtAt (putCt w g o z) g o z := by
  unfold putCt
  refine ⟨?_, ?_, ?_⟩
  · rw [iset_ne _ _ _ _ _ _ (by omega), iset_ne _ _ _ _ _ _ (by omega)]; apply iset_eq; exact h 0 (by omega)
  · rw [iset_ne _ _ _ _ _ _ (by omega)]; apply iset_eq; rw [iset_ne _ _ _ _ _ _ (by omega)]; exact h 1 (by omega)
  · apply iset_eq; rw [iset_ne _ _ _ _ _ _ (by omega), iset_ne _ _ _ _ _ _ (by omega)]; exact h 2 (by omega)
theorem putCt_size (w : World) (g o : Nat) (z : Ct) : (putCt w g o z).heap.size = w.heap.size := by simp [putCt]
theorem putCt_frozen (w : World) (g o : Nat) (z : Ct) (a : Addr) : (putCt w g o z).frozen? a = w.frozen? a := by simp [putCt]
theorem CtRoom.put {w : World} {g off n k : Nat} (h : CtRoom w g off n) (z : Ct) (hk : k < n) : CtRoom (putCt w g (off + k * 3) z) g off n := by
  refine ⟨by rw [putCt_size]; exact h.1, fun j hj => ⟨?_, by rw [putCt_frozen]; exact (h.2 j hj).2⟩⟩
  obtain ⟨q0, q1, q2⟩ := putCt_eq w g (off + k * 3) z (fun i hi => by rw [Nat.add_assoc]; exact (h.2 (k * 3 + i) (by omega)).1)
  by_cases hh : off + j < off + k * 3 ∨ off + k * 3 + 3 ≤ off + j
  · rw [putCt_ne _ _ _ _ _ _ (Or.inr hh)]; exact (h.2 j hj).1
  · have hj5 : j = k * 3 ∨ j = k * 3 + 1 ∨ j = k * 3 + 2 := by omega
    rcases hj5 with e | e | e <;> subst e
    · exact ⟨_, q0⟩
    · exact ⟨_, q1⟩
    · exact ⟨_, q2⟩
theorem CtRoom.ext {w w' : World} {g off n : Nat} (h : CtRoom w g off n) (he : Ext w w') : CtRoom w' g off n := by
  obtain ⟨hc, hf⟩ := Ext.cell he
  exact ⟨Nat.lt_of_lt_of_le h.1 he.size, fun j hj => ⟨by rw [hc _ _ h.1]; exact (h.2 j hj).1, by rw [hf _ _ h.1]; exact (h.2 j hj).2⟩⟩
theorem CtsAt.put {w : World} {g off n k : Nat} {zs : List Ct} {z : Ct} (hr : CtRoom w g off n) (hk : k < n) (hz : zs[k]? = some z) (h : CtsAt w g off (zs.take k)) : CtsAt (putCt w g (off + k * 3) z) g off (zs.take (k + 1)) := by
  intro i z' hi
  rw [List.getElem?_take] at hi
  split at hi
  · by_cases hik : i = k
    · subst hik
      rw [hz] at hi
      cases hi
      exact putCt_eq w g (off + i * 3) z (fun j hj => by rw [Nat.add_assoc]; exact (hr.2 (i * 3 + j) (by omega)).1)
    · obtain ⟨c0, c1, c2⟩ := h i z' (by rw [List.getElem?_take, if_pos (by omega)]; exact hi)
      exact ⟨by rw [putCt_ne _ _ _ _ _ _ (by omega)]; exact c0, by rw [putCt_ne _ _ _ _ _ _ (by omega)]; exact c1, by rw [putCt_ne _ _ _ _ _ _ (by omega)]; exact c2⟩
  · cases hi
theorem CtSlice.of {w : World} {g off cap : Nat} {zs : List Ct} (hg : g < w.heap.size) (h : CtsAt w g off zs) (h1 : zs.length ≤ cap) (h2 : cap ≤ maxLen) : CtSlice w (.slice (some ⟨g, off, none⟩) zs.length cap) zs :=
  ⟨_, _, rfl, h1, h2, fun _ => ⟨g, off, rfl, hg, h⟩⟩
theorem CtsAt.set_ne {w : World} {b off g o : Nat} {zs : List Ct} {v : Value} (h : CtsAt w b off zs) (hne : g ≠ b) : CtsAt (w.setCell ⟨g, o, none⟩ v) b off zs := by
  intro i z hz
  obtain ⟨c0, c1, c2⟩ := h i z hz
  refine ⟨?_, ?_, ?_⟩ <;> rw [iset_ne _ _ _ _ _ _ (Or.inl hne)] <;> assumption



theorem CtRoom.set {w : World} {g off n : Nat} (h : CtRoom w g off n) (o : Nat) (v : Value) : CtRoom (w.setCell ⟨g, o, none⟩ v) g off n := by
  refine ⟨by simpa using h.1, fun j hj => ⟨?_, by simpa using (h.2 j hj).2⟩⟩
  by_cases hj2 : o = off + j
  · subst hj2; exact ⟨_, iset_eq _ _ _ _ (h.2 j hj).1⟩
  · rw [iset_ne _ _ _ _ _ _ (Or.inr hj2)]; exact (h.2 j hj).1
theorem CtsAt.upd {w w' : World} {g off b : Nat} {zs : List Ct} (h : CtsAt w g off zs) (he : Upd b w w') (hne : g ≠ b) (hg : g < w.heap.size) : CtsAt w' g off zs := by
  intro i z hz
  obtain ⟨c0, c1, c2⟩ := h i z hz
  exact ⟨(he.at_ne _ _ hne hg).1.trans c0, (he.at_ne _ _ hne hg).1.trans c1, (he.at_ne _ _ hne hg).1.trans c2⟩
theorem CtRoom.upd {w w' : World} {g off n b : Nat} (h : CtRoom w g off n) (he : Upd b w w') (hne : g ≠ b) : CtRoom w' g off n :=
  ⟨Nat.lt_of_lt_of_le h.1 he.2.1, fun j hj => ⟨by rw [(he.at_ne _ _ hne h.1).1]; exact (h.2 j hj).1, by rw [(he.at_ne _ _ hne h.1).2]; exact (h.2 j hj).2⟩⟩
/-- The slice value v reads as zs, which lie in block g and may be written there. -/
def CtOwn (w : World) (v : Value) (g : Nat) (zs : List Ct) : Prop :=
  ∃ a cap, v = .slice a zs.length cap ∧ zs.length ≤ cap ∧ cap ≤ maxLen ∧ (0 < zs.length → ∃ off, a = some ⟨g, off, none⟩ ∧ CtRoom w g off zs.length ∧ CtsAt w g off zs)
theorem CtOwn.slice {w : World} {v : Value} {g : Nat} {zs : List Ct} (h : CtOwn w v g zs) : CtSlice w v zs := by
  obtain ⟨a, cap, h1, h2, h3, h4⟩ := h
  refine ⟨a, cap, h1, h2, h3, fun h0 => ?_⟩
  obtain ⟨off, e, hr, hN⟩ := h4 h0
  exact ⟨g, off, e, hr.1, hN⟩
theorem CtOwn.ext {w w' : World} {v : Value} {g : Nat} {zs : List Ct} (h : CtOwn w v g zs) (he : Ext w w') : CtOwn w' v g zs := by
  obtain ⟨a, cap, h1, h2, h3, h4⟩ := h
  refine ⟨a, cap, h1, h2, h3, fun h0 => ?_⟩
  obtain ⟨off, e, hr, hN⟩ := h4 h0
  exact ⟨off, e, hr.ext he, hN.ext hr.1 he⟩
theorem CtOwn.lt {w : World} {v : Value} {g : Nat} {zs : List Ct} (h : CtOwn w v g zs) (h0 : 0 < zs.length) : g < w.heap.size := by
  obtain ⟨a, cap, -, -, -, h4⟩ := h
  obtain ⟨off, -, hr, -⟩ := h4 h0
  exact hr.1
theorem CtOwn.nil {w w' : World} {v : Value} {g g' : Nat} {zs : List Ct} (h : CtOwn w v g zs) (h0 : ¬ 0 < zs.length) : CtOwn w' v g' zs := by
  obtain ⟨a, cap, h1, h2, h3, -⟩ := h
  exact ⟨a, cap, h1, h2, h3, fun h => absurd h h0⟩
theorem CtOwn.upd' {w w' : World} {v : Value} {g b : Nat} {zs : List Ct} (h : CtOwn w v g zs) (he : Upd b w w') (hne : 0 < zs.length → g ≠ b) : CtOwn w' v g zs := by
  by_cases h0 : 0 < zs.length
  · obtain ⟨a, cap, h1, h2, h3, h4⟩ := h
    refine ⟨a, cap, h1, h2, h3, fun _ => ?_⟩
    obtain ⟨off, e, hr, hN⟩ := h4 h0
    exact ⟨off, e, hr.upd he (hne h0), hN.upd he (hne h0) hr.1⟩
  · exact h.nil h0

theorem NumsAt.set_ne {w : World} {b off g o : Nat} {l : List Int} {v : Value} (h : NumsAt w b off l) (hne : g ≠ b) : NumsAt (w.setCell ⟨g, o, none⟩ v) b off l := by
  intro i x hx
  rw [iset_ne _ _ _ _ _ _ (Or.inl hne)]
  exact h i x hx
end Go.Proofs.YtfgjodnjahhanaaDoor
