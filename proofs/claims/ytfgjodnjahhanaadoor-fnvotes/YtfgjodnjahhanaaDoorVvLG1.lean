/- ledgers: slices of messages, the laws' functions over them. -/
import Derived.Test.YtfgjodnjahhanaaDoorVvH2
import Derived.Deep.RegionHeld3
namespace Go.Proofs.YtfgjodnjahhanaaDoor
open Go.RowKit
theorem iroom_ext {w w' : World} {g off n : Nat} (h : IRoom w g off n) (he : Ext w w') : IRoom w' g off n := by
  obtain ⟨hc, hf⟩ := Ext.cell he
  exact ⟨Nat.lt_of_lt_of_le h.1 he.size, fun j hj => ⟨by rw [hc _ _ h.1]; exact (h.2 j hj).1, by rw [hf _ _ h.1]; exact (h.2 j hj).2⟩⟩
theorem iroom_upd {w w' : World} {g off n b : Nat} (h : IRoom w g off n) (he : Upd b w w') (hne : g ≠ b) : IRoom w' g off n :=
  ⟨Nat.lt_of_lt_of_le h.1 he.2.1, fun j hj => ⟨by rw [(he.at_ne _ _ hne h.1).1]; exact (h.2 j hj).1, by rw [(he.at_ne _ _ hne h.1).2]; exact (h.2 j hj).2⟩⟩
theorem numsAt_upd {w w' : World} {g off b : Nat} {ts : List Int} (h : NumsAt w g off ts) (he : Upd b w w') (hne : g ≠ b) (hg : g < w.heap.size) : NumsAt w' g off ts :=
  fun i t ht => (he.at_ne _ _ hne hg).1.trans (h i t ht)
/-- The certificates lie in memory that came behind B, and may be written there. -/
def CtNew (B : Nat) (w : World) (v : Value) (zs : List Ct) : Prop :=
  ∃ a cap, v = .slice a zs.length cap ∧ zs.length ≤ cap ∧ cap ≤ maxLen ∧ (0 < zs.length → ∃ b off, a = some ⟨b, off, none⟩ ∧ B ≤ b ∧ CtRoom w b off zs.length ∧ CtsAt w b off zs)
def INew (B : Nat) (w : World) (v : Value) (l : List Int) : Prop :=
  ∃ a cap, v = .slice a l.length cap ∧ l.length ≤ cap ∧ cap ≤ maxLen ∧ (0 < l.length → ∃ b off, a = some ⟨b, off, none⟩ ∧ B ≤ b ∧ IRoom w b off l.length ∧ NumsAt w b off l)
theorem CtNew.ext {B : Nat} {w w' : World} {v : Value} {zs : List Ct} (h : CtNew B w v zs) (he : Ext w w') : CtNew B w' v zs := by
  obtain ⟨a, cap, h1, h2, h3, h4⟩ := h
  refine ⟨a, cap, h1, h2, h3, fun h0 => ?_⟩
  obtain ⟨b, off, e, hB, hr, hN⟩ := h4 h0
  exact ⟨b, off, e, hB, hr.ext he, hN.ext hr.1 he⟩
theorem INew.ext {B : Nat} {w w' : World} {v : Value} {zs : List Int} (h : INew B w v zs) (he : Ext w w') : INew B w' v zs := by
  obtain ⟨a, cap, h1, h2, h3, h4⟩ := h
  refine ⟨a, cap, h1, h2, h3, fun h0 => ?_⟩
  obtain ⟨b, off, e, hB, hr, hN⟩ := h4 h0
  exact ⟨b, off, e, hB, iroom_ext hr he, hN.ext hr.1 he⟩
theorem CtNew.upd {B g : Nat} {w w' : World} {v : Value} {zs : List Ct} (h : CtNew B w v zs) (he : Upd g w w') (hg : g < B) : CtNew B w' v zs := by
  obtain ⟨a, cap, h1, h2, h3, h4⟩ := h
  refine ⟨a, cap, h1, h2, h3, fun h0 => ?_⟩
  obtain ⟨b, off, e, hB, hr, hN⟩ := h4 h0
  exact ⟨b, off, e, hB, hr.upd he (by omega), hN.upd he (by omega) hr.1⟩
theorem INew.upd {B g : Nat} {w w' : World} {v : Value} {zs : List Int} (h : INew B w v zs) (he : Upd g w w') (hg : g < B) : INew B w' v zs := by
  obtain ⟨a, cap, h1, h2, h3, h4⟩ := h
  refine ⟨a, cap, h1, h2, h3, fun h0 => ?_⟩
  obtain ⟨b, off, e, hB, hr, hN⟩ := h4 h0
  exact ⟨b, off, e, hB, iroom_upd hr he (by omega), numsAt_upd hN he (by omega) hr.1⟩
theorem CtNew.mono {B B' : Nat} {w : World} {v : Value} {zs : List Ct} (h : CtNew B w v zs) (hB : B' ≤ B) : CtNew B' w v zs := by
  obtain ⟨a, cap, h1, h2, h3, h4⟩ := h
  refine ⟨a, cap, h1, h2, h3, fun h0 => ?_⟩
  obtain ⟨b, off, e, hB2, hr, hN⟩ := h4 h0
  exact ⟨b, off, e, by omega, hr, hN⟩
theorem INew.mono {B B' : Nat} {w : World} {v : Value} {zs : List Int} (h : INew B w v zs) (hB : B' ≤ B) : INew B' w v zs := by
  obtain ⟨a, cap, h1, h2, h3, h4⟩ := h
  refine ⟨a, cap, h1, h2, h3, fun h0 => ?_⟩
  obtain ⟨b, off, e, hB2, hr, hN⟩ := h4 h0
  exact ⟨b, off, e, by omega, hr, hN⟩
theorem CtNew.slice {B : Nat} {w : World} {v : Value} {zs : List Ct} (h : CtNew B w v zs) : CtSlice w v zs := by
  obtain ⟨a, cap, h1, h2, h3, h4⟩ := h
  refine ⟨a, cap, h1, h2, h3, fun h0 => ?_⟩
  obtain ⟨b, off, e, hB2, hr, hN⟩ := h4 h0
  exact ⟨b, off, e, hr.1, hN⟩
theorem INew.slice {B : Nat} {w : World} {v : Value} {zs : List Int} (h : INew B w v zs) : ISlice w v zs := by
  obtain ⟨a, cap, h1, h2, h3, h4⟩ := h
  refine ⟨a, cap, h1, h2, h3, fun h0 => ?_⟩
  obtain ⟨b, off, e, hB2, hr, hN⟩ := h4 h0
  exact ⟨b, off, e, hr.1, hN⟩

/-- The message m lies in block b from o on, its lists anywhere. -/
def MAt (w : World) (b o : Nat) (m : Ms) : Prop := ∃ v u, MCs w b o m v u ∧ MLs w v u m
theorem MAt.ext {w w' : World} {b o : Nat} {m : Ms} (h : MAt w b o m) (hb : b < w.heap.size) (he : Ext w w') : MAt w' b o m := by
  obtain ⟨v, u, h1, h2⟩ := h
  exact ⟨v, u, h1.ext hb he, h2.ext he⟩
def MsAt (w : World) (b off : Nat) (ms : List Ms) : Prop := ∀ (i : Nat) m, ms[i]? = some m → MAt w b (off + i * 7) m
theorem MsAt.ext {w w' : World} {b off : Nat} {ms : List Ms} (h : MsAt w b off ms) (hb : b < w.heap.size) (he : Ext w w') : MsAt w' b off ms := fun i m hm => (h i m hm).ext hb he
/-- The slice value v reads as the messages ms. -/
def MSlice (w : World) (v : Value) (ms : List Ms) : Prop :=
  ∃ a cap, v = .slice a ms.length cap ∧ ms.length ≤ cap ∧ cap ≤ maxLen ∧ (0 < ms.length → ∃ b off, a = some ⟨b, off, none⟩ ∧ b < w.heap.size ∧ MsAt w b off ms)
theorem MSlice.ext {w w' : World} {v : Value} {ms : List Ms} (h : MSlice w v ms) (he : Ext w w') : MSlice w' v ms := by
  obtain ⟨a, cap, h1, h2, h3, h4⟩ := h
  refine ⟨a, cap, h1, h2, h3, fun h0 => ?_⟩
  obtain ⟨b, off, e, hb, hN⟩ := h4 h0
  exact ⟨b, off, e, Nat.lt_of_lt_of_le hb he.size, hN.ext hb he⟩
def SmallM (m : Ms) : Prop := m.certs.length ≤ 1048576 ∧ m.refs.length ≤ 1048576

/-! ### Messages that are stored -/
def MRoom (w : World) (g off n : Nat) : Prop := g < w.heap.size ∧ ∀ j, j < n * 7 → (∃ u, w.cell? ⟨g, off + j, none⟩ = some u) ∧ w.frozen? ⟨g, off + j, none⟩ = false
def putM (w : World) (g o : Nat) (m : Ms) (v u : Value) : World := (((((((w.setCell ⟨g, o, none⟩ (.int .i64 m.kind)).setCell ⟨g, o + 1, none⟩ (.int .i64 m.view)).setCell ⟨g, o + 2, none⟩ (.int .i64 m.from_)).setCell ⟨g, o + 3, none⟩ (.int .i64 m.slot)).setCell ⟨g, o + 4, none⟩ (.int .i64 m.value)).setCell ⟨g, o + 5, none⟩ v).setCell ⟨g, o + 6, none⟩ u)
theorem putM_ne (w : World) (g o b k : Nat) (m : Ms) (v u : Value) (h : g ≠ b ∨ k < o ∨ o + 7 ≤ k) : (putM w g o m v u).cell? ⟨b, k, none⟩ = w.cell? ⟨b, k, none⟩ := by
  unfold putM
  rw [iset_ne _ _ _ _ _ _ (by omega), iset_ne _ _ _ _ _ _ (by omega), iset_ne _ _ _ _ _ _ (by omega), iset_ne _ _ _ _ _ _ (by omega), iset_ne _ _ _ _ _ _ (by omega), iset_ne _ _ _ _ _ _ (by omega), iset_ne _ _ _ _ _ _ (by omega)]
theorem putM_eq (w : World) (g o : Nat) (m : Ms) (v u : Value) (h : ∀ j, j < 7 → ∃ u, w.cell? ⟨g, o + j, none⟩ = some u) : MCs (putM w g o m v u) g o m v u := by
  unfold putM
  refine ⟨?_, ?_, ?_, ?_, ?_, ?_, ?_⟩
  · rw [iset_ne _ _ _ _ _ _ (by omega), iset_ne _ _ _ _ _ _ (by omega), iset_ne _ _ _ _ _ _ (by omega), iset_ne _ _ _ _ _ _ (by omega), iset_ne _ _ _ _ _ _ (by omega), iset_ne _ _ _ _ _ _ (by omega)]; apply iset_eq; exact h 0 (by omega)
  · rw [iset_ne _ _ _ _ _ _ (by omega), iset_ne _ _ _ _ _ _ (by omega), iset_ne _ _ _ _ _ _ (by omega), iset_ne _ _ _ _ _ _ (by omega), iset_ne _ _ _ _ _ _ (by omega)]; apply iset_eq; rw [iset_ne _ _ _ _ _ _ (by omega)]; exact h 1 (by omega)
  · rw [iset_ne _ _ _ _ _ _ (by omega), iset_ne _ _ _ _ _ _ (by omega), iset_ne _ _ _ _ _ _ (by omega), iset_ne _ _ _ _ _ _ (by omega)]; apply iset_eq; rw [iset_ne _ _ _ _ _ _ (by omega), iset_ne _ _ _ _ _ _ (by omega)]; exact h 2 (by omega)
  · rw [iset_ne _ _ _ _ _ _ (by omega), iset_ne _ _ _ _ _ _ (by omega), iset_ne _ _ _ _ _ _ (by omega)]; apply iset_eq; rw [iset_ne _ _ _ _ _ _ (by omega), iset_ne _ _ _ _ _ _ (by omega), iset_ne _ _ _ _ _ _ (by omega)]; exact h 3 (by omega)
  · rw [iset_ne _ _ _ _ _ _ (by omega), iset_ne _ _ _ _ _ _ (by omega)]; apply iset_eq; rw [iset_ne _ _ _ _ _ _ (by omega), iset_ne _ _ _ _ _ _ (by omega), iset_ne _ _ _ _ _ _ (by omega), iset_ne _ _ _ _ _ _ (by omega)]; exact h 4 (by omega)
  · rw [iset_ne _ _ _ _ _ _ (by omega)]; apply iset_eq; rw [iset_ne _ _ _ _ _ _ (by omega), iset_ne _ _ _ _ _ _ (by omega), iset_ne _ _ _ _ _ _ (by omega), iset_ne _ _ _ _ _ _ (by omega), iset_ne _ _ _ _ _ _ (by omega)]; exact h 5 (by omega)
  · apply iset_eq; rw [iset_ne _ _ _ _ _ _ (by omega), iset_ne _ _ _ _ _ _ (by omega), iset_ne _ _ _ _ _ _ (by omega), iset_ne _ _ _ _ _ _ (by omega), iset_ne _ _ _ _ _ _ (by omega), iset_ne _ _ _ _ _ _ (by omega)]; exact h 6 (by omega)
theorem putM_size (w : World) (g o : Nat) (m : Ms) (v u : Value) : (putM w g o m v u).heap.size = w.heap.size := by simp [putM]
theorem putM_frozen (w : World) (g o : Nat) (m : Ms) (v u : Value) (a : Addr) : (putM w g o m v u).frozen? a = w.frozen? a := by simp [putM]
theorem putM_upd (w : World) (g o : Nat) (m : Ms) (v u : Value) : Upd g w (putM w g o m v u) := (((((((Upd.refl _ _).setAt _ _).setAt _ _).setAt _ _).setAt _ _).setAt _ _).setAt _ _).setAt _ _
theorem MRoom.put {w : World} {g off n k : Nat} (h : MRoom w g off n) (m : Ms) (v u : Value) (hk : k < n) : MRoom (putM w g (off + k * 7) m v u) g off n := by
  refine ⟨by rw [putM_size]; exact h.1, fun j hj => ⟨?_, by rw [putM_frozen]; exact (h.2 j hj).2⟩⟩
  obtain ⟨q0, q1, q2, q3, q4, q5, q6⟩ := putM_eq w g (off + k * 7) m v u (fun i hi => by rw [Nat.add_assoc]; exact (h.2 (k * 7 + i) (by omega)).1)
  by_cases hh : off + j < off + k * 7 ∨ off + k * 7 + 7 ≤ off + j
  · rw [putM_ne _ _ _ _ _ _ _ _ (Or.inr hh)]; exact (h.2 j hj).1
  · have hj5 : j = k * 7 ∨ j = k * 7 + 1 ∨ j = k * 7 + 2 ∨ j = k * 7 + 3 ∨ j = k * 7 + 4 ∨ j = k * 7 + 5 ∨ j = k * 7 + 6 := by omega
    rcases hj5 with e | e | e | e | e | e | e <;> subst e
    · exact ⟨_, q0⟩
    · exact ⟨_, q1⟩
    · exact ⟨_, q2⟩
    · exact ⟨_, q3⟩
    · exact ⟨_, q4⟩
    · exact ⟨_, q5⟩
    · exact ⟨_, q6⟩
theorem MRoom.ext {w w' : World} {g off n : Nat} (h : MRoom w g off n) (he : Ext w w') : MRoom w' g off n := by
  obtain ⟨hc, hf⟩ := Ext.cell he
  exact ⟨Nat.lt_of_lt_of_le h.1 he.size, fun j hj => ⟨by rw [hc _ _ h.1]; exact (h.2 j hj).1, by rw [hf _ _ h.1]; exact (h.2 j hj).2⟩⟩
/-- The messages lie in block g from off on, their lists in memory that came behind it. -/
def MsNew (w : World) (g off : Nat) (ms : List Ms) : Prop := ∀ (i : Nat) m, ms[i]? = some m → ∃ v u, MCs w g (off + i * 7) m v u ∧ CtNew (g + 1) w v m.certs ∧ INew (g + 1) w u m.refs
theorem MsNew.ext {w w' : World} {g off : Nat} {ms : List Ms} (h : MsNew w g off ms) (hg : g < w.heap.size) (he : Ext w w') : MsNew w' g off ms := fun i m hm => by
  obtain ⟨v, u, h1, h2, h3⟩ := h i m hm
  exact ⟨v, u, h1.ext hg he, h2.ext he, h3.ext he⟩
theorem MsNew.at {w : World} {g off : Nat} {ms : List Ms} (h : MsNew w g off ms) : MsAt w g off ms := fun i m hm => by
  obtain ⟨v, u, h1, h2, h3⟩ := h i m hm
  exact ⟨v, u, h1, h2.slice, h3.slice⟩
theorem MsNew.put {w : World} {g off n k : Nat} {ms : List Ms} {m : Ms} {v u : Value} (hr : MRoom w g off n) (hk : k < n) (hm : ms[k]? = some m) (hv : CtNew (g + 1) w v m.certs) (hu : INew (g + 1) w u m.refs) (h : MsNew w g off (ms.take k)) : MsNew (putM w g (off + k * 7) m v u) g off (ms.take (k + 1)) := by
  intro i z hi
  rw [List.getElem?_take] at hi
  split at hi
  · by_cases hik : i = k
    · subst hik
      rw [hm] at hi
      cases hi
      exact ⟨v, u, putM_eq w g (off + i * 7) m v u (fun j hj => by rw [Nat.add_assoc]; exact (hr.2 (i * 7 + j) (by omega)).1), hv.upd (putM_upd _ _ _ _ _ _) (by omega), hu.upd (putM_upd _ _ _ _ _ _) (by omega)⟩
    · obtain ⟨x, y, ⟨c0, c1, c2, c3, c4, c5, c6⟩, h2, h3⟩ := h i z (by rw [List.getElem?_take, if_pos (by omega)]; exact hi)
      exact ⟨x, y, ⟨by rw [putM_ne _ _ _ _ _ _ _ _ (by omega)]; exact c0, by rw [putM_ne _ _ _ _ _ _ _ _ (by omega)]; exact c1, by rw [putM_ne _ _ _ _ _ _ _ _ (by omega)]; exact c2, by rw [putM_ne _ _ _ _ _ _ _ _ (by omega)]; exact c3, by rw [putM_ne _ _ _ _ _ _ _ _ (by omega)]; exact c4, by rw [putM_ne _ _ _ _ _ _ _ _ (by omega)]; exact c5, by rw [putM_ne _ _ _ _ _ _ _ _ (by omega)]; exact c6⟩, h2.upd (putM_upd _ _ _ _ _ _) (by omega), h3.upd (putM_upd _ _ _ _ _ _) (by omega)⟩
  · cases hi
theorem MSlice.of {w : World} {g off cap : Nat} {ms : List Ms} (hg : g < w.heap.size) (h : MsAt w g off ms) (h1 : ms.length ≤ cap) (h2 : cap ≤ maxLen) : MSlice w (.slice (some ⟨g, off, none⟩) ms.length cap) ms :=
  ⟨_, _, rfl, h1, h2, fun _ => ⟨g, off, rfl, hg, h⟩⟩
end Go.Proofs.YtfgjodnjahhanaaDoor
