/- the laws' small functions over nodes: what they answer. -/
import Derived.Test.YtfgjodnjahhanaaDoorProg
import Derived.Test.YtfgjodnjahhanaaDoorVvBase
import Derived.Deep.RegionWith
import Derived.Laws.MakeOwn
namespace Go.Proofs.YtfgjodnjahhanaaDoor
open Go.RowKit
structure Zn where
  path : ByteArray
  data : Int
  version : Int
  owner : Int
  next : Int
  deriving DecidableEq

def zagg (z : Zn) : Value := .agg #[.string z.path, .int .i64 z.data, .int .i64 z.version, .int .i64 z.owner, .int .i64 z.next]

/-- The nodes zs lie in block b, from off on. -/
def NodesAt (w : World) (b off : Nat) (zs : List Zn) : Prop :=
  ∀ (i : Nat) z, zs[i]? = some z → w.cell? ⟨b, off + i * 5, none⟩ = some (.string z.path) ∧ w.cell? ⟨b, off + i * 5 + 1, none⟩ = some (.int .i64 z.data) ∧ w.cell? ⟨b, off + i * 5 + 2, none⟩ = some (.int .i64 z.version) ∧ w.cell? ⟨b, off + i * 5 + 3, none⟩ = some (.int .i64 z.owner) ∧ w.cell? ⟨b, off + i * 5 + 4, none⟩ = some (.int .i64 z.next)

theorem NodesAt.ext {w w' : World} {b off : Nat} {zs : List Zn} (h : NodesAt w b off zs) (hb : b < w.heap.size) (he : Ext w w') : NodesAt w' b off zs := by
  intro i z hz
  obtain ⟨c0, c1, c2, c3, c4⟩ := h i z hz
  obtain ⟨hc, _⟩ := Ext.cell he
  exact ⟨(hc _ _ hb).trans c0, (hc _ _ hb).trans c1, (hc _ _ hb).trans c2, (hc _ _ hb).trans c3, (hc _ _ hb).trans c4⟩
/-- The slice value v reads as the nodes zs. -/
def NSlice (w : World) (v : Value) (zs : List Zn) : Prop :=
  ∃ a cap, v = .slice a zs.length cap ∧ zs.length ≤ cap ∧ cap ≤ maxLen ∧ (0 < zs.length → ∃ b off, a = some ⟨b, off, none⟩ ∧ b < w.heap.size ∧ NodesAt w b off zs)
theorem NSlice.ext {w w' : World} {v : Value} {zs : List Zn} (h : NSlice w v zs) (he : Ext w w') : NSlice w' v zs := by
  obtain ⟨a, cap, h1, h2, h3, h4⟩ := h
  refine ⟨a, cap, h1, h2, h3, fun h0 => ?_⟩
  obtain ⟨b, off, e, hb, hN⟩ := h4 h0
  exact ⟨b, off, e, Nat.lt_of_lt_of_le hb he.size, hN.ext hb he⟩

/-! ### Nodes that are stored -/
/-- Block g holds room for n nodes from off on, and may be written there. -/
def Room (w : World) (g off n : Nat) : Prop := g < w.heap.size ∧ ∀ j, j < n * 5 → (∃ u, w.cell? ⟨g, off + j, none⟩ = some u) ∧ w.frozen? ⟨g, off + j, none⟩ = false
def putZ (w : World) (g o : Nat) (z : Zn) : World :=
  ((((w.setCell ⟨g, o, none⟩ (.string z.path)).setCell ⟨g, o + 1, none⟩ (.int .i64 z.data)).setCell ⟨g, o + 2, none⟩ (.int .i64 z.version)).setCell ⟨g, o + 3, none⟩ (.int .i64 z.owner)).setCell ⟨g, o + 4, none⟩ (.int .i64 z.next)

theorem set_ne (w : World) (g o b k : Nat) (v : Value) (h : g ≠ b ∨ o ≠ k) : (w.setCell ⟨g, o, none⟩ v).cell? ⟨b, k, none⟩ = w.cell? ⟨b, k, none⟩ :=
  World.cell?_setCell_other _ _ _ _ (by intro e; injection e with e1 e2 _; rcases h with h | h; exact h e1; exact h e2)
theorem set_eq (w : World) (g o : Nat) (v : Value) (h : ∃ u, w.cell? ⟨g, o, none⟩ = some u) : (w.setCell ⟨g, o, none⟩ v).cell? ⟨g, o, none⟩ = some v := by
  obtain ⟨u, hu⟩ := h; exact World.cell?_setCell_same _ _ _ hu
theorem putZ_ne (w : World) (g o b k : Nat) (z : Zn) (h : g ≠ b ∨ k < o ∨ o + 5 ≤ k) : (putZ w g o z).cell? ⟨b, k, none⟩ = w.cell? ⟨b, k, none⟩ := by
  unfold putZ
  rw [set_ne _ _ _ _ _ _ (by omega), set_ne _ _ _ _ _ _ (by omega), set_ne _ _ _ _ _ _ (by omega), set_ne _ _ _ _ _ _ (by omega), set_ne _ _ _ _ _ _ (by omega)]
theorem putZ_eq (w : World) (g o : Nat) (z : Zn) (h : ∀ j, j < 5 → ∃ u, w.cell? ⟨g, o + j, none⟩ = some u) :
    (putZ w g o z).cell? ⟨g, o, none⟩ = some (.string z.path) ∧ (putZ w g o z).cell? ⟨g, o + 1, none⟩ = some (.int .i64 z.data) ∧ (putZ w g o z).cell? ⟨g, o + 2, none⟩ = some (.int .i64 z.version) ∧ (putZ w g o z).cell? ⟨g, o + 3, none⟩ = some (.int .i64 z.owner) ∧ (putZ w g o z).cell? ⟨g, o + 4, none⟩ = some (.int .i64 z.next) := by
  unfold putZ
  refine ⟨?_, ?_, ?_, ?_, ?_⟩
  · rw [set_ne _ _ _ _ _ _ (by omega), set_ne _ _ _ _ _ _ (by omega), set_ne _ _ _ _ _ _ (by omega), set_ne _ _ _ _ _ _ (by omega)]; exact set_eq _ _ _ _ (h 0 (by omega))
  · rw [set_ne _ _ _ _ _ _ (by omega), set_ne _ _ _ _ _ _ (by omega), set_ne _ _ _ _ _ _ (by omega)]; apply set_eq; rw [set_ne _ _ _ _ _ _ (by omega)]; exact h 1 (by omega)
  · rw [set_ne _ _ _ _ _ _ (by omega), set_ne _ _ _ _ _ _ (by omega)]; apply set_eq; rw [set_ne _ _ _ _ _ _ (by omega), set_ne _ _ _ _ _ _ (by omega)]; exact h 2 (by omega)
  · rw [set_ne _ _ _ _ _ _ (by omega)]; apply set_eq; rw [set_ne _ _ _ _ _ _ (by omega), set_ne _ _ _ _ _ _ (by omega), set_ne _ _ _ _ _ _ (by omega)]; exact h 3 (by omega)
  · apply set_eq; rw [set_ne _ _ _ _ _ _ (by omega), set_ne _ _ _ _ _ _ (by omega), set_ne _ _ _ _ _ _ (by omega), set_ne _ _ _ _ _ _ (by omega)]; exact h 4 (by omega)
theorem putZ_size (w : World) (g o : Nat) (z : Zn) : (putZ w g o z).heap.size = w.heap.size := by simp [putZ]
theorem putZ_frozen (w : World) (g o : Nat) (z : Zn) (a : Addr) : (putZ w g o z).frozen? a = w.frozen? a := by simp [putZ]
theorem Room.put {w : World} {g off n k : Nat} (h : Room w g off n) (z : Zn) (hk : k < n) : Room (putZ w g (off + k * 5) z) g off n := by
  refine ⟨by rw [putZ_size]; exact h.1, fun j hj => ⟨?_, by rw [putZ_frozen]; exact (h.2 j hj).2⟩⟩
  obtain ⟨q0, q1, q2, q3, q4⟩ := putZ_eq w g (off + k * 5) z (fun i hi => by rw [Nat.add_assoc]; exact (h.2 (k * 5 + i) (by omega)).1)
  by_cases hh : off + j < off + k * 5 ∨ off + k * 5 + 5 ≤ off + j
  · rw [putZ_ne _ _ _ _ _ _ (Or.inr hh)]; exact (h.2 j hj).1
  · have hj5 : j = k * 5 ∨ j = k * 5 + 1 ∨ j = k * 5 + 2 ∨ j = k * 5 + 3 ∨ j = k * 5 + 4 := by omega
    rcases hj5 with e | e | e | e | e <;> subst e
    · exact ⟨_, q0⟩
    · exact ⟨_, q1⟩
    · exact ⟨_, q2⟩
    · exact ⟨_, q3⟩
    · exact ⟨_, q4⟩
theorem Room.ext {w w' : World} {g off n : Nat} (h : Room w g off n) (he : Ext w w') : Room w' g off n := by
  obtain ⟨hc, hf⟩ := Ext.cell he
  exact ⟨Nat.lt_of_lt_of_le h.1 he.size, fun j hj => ⟨by rw [hc _ _ h.1]; exact (h.2 j hj).1, by rw [hf _ _ h.1]; exact (h.2 j hj).2⟩⟩
theorem Room.upd {w w' : World} {g off n b : Nat} (h : Room w g off n) (he : Upd b w w') (hne : g ≠ b) : Room w' g off n :=
  ⟨Nat.lt_of_lt_of_le h.1 he.2.1, fun j hj => ⟨by rw [(he.at_ne _ _ hne h.1).1]; exact (h.2 j hj).1, by rw [(he.at_ne _ _ hne h.1).2]; exact (h.2 j hj).2⟩⟩
theorem NodesAt.upd {w w' : World} {g off b : Nat} {zs : List Zn} (h : NodesAt w g off zs) (he : Upd b w w') (hne : g ≠ b) (hg : g < w.heap.size) : NodesAt w' g off zs := by
  intro i z hz
  obtain ⟨c0, c1, c2, c3, c4⟩ := h i z hz
  exact ⟨(he.at_ne _ _ hne hg).1.trans c0, (he.at_ne _ _ hne hg).1.trans c1, (he.at_ne _ _ hne hg).1.trans c2, (he.at_ne _ _ hne hg).1.trans c3, (he.at_ne _ _ hne hg).1.trans c4⟩
theorem NodesAt.put {w : World} {g off n k : Nat} {zs : List Zn} {z : Zn} (hr : Room w g off n) (hk : k < n) (hz : zs[k]? = some z) (h : NodesAt w g off (zs.take k)) : NodesAt (putZ w g (off + k * 5) z) g off (zs.take (k + 1)) := by
  intro i z' hi
  rw [List.getElem?_take] at hi
  split at hi
  · rename_i hlt
    by_cases hik : i = k
    · subst hik
      rw [hz] at hi
      cases hi
      exact putZ_eq w g (off + i * 5) z (fun j hj => by rw [Nat.add_assoc]; exact (hr.2 (i * 5 + j) (by omega)).1)
    · obtain ⟨c0, c1, c2, c3, c4⟩ := h i z' (by rw [List.getElem?_take, if_pos (by omega)]; exact hi)
      refine ⟨?_, ?_, ?_, ?_, ?_⟩
      · rw [putZ_ne _ _ _ _ _ _ (by omega)]; exact c0
      · rw [putZ_ne _ _ _ _ _ _ (by omega)]; exact c1
      · rw [putZ_ne _ _ _ _ _ _ (by omega)]; exact c2
      · rw [putZ_ne _ _ _ _ _ _ (by omega)]; exact c3
      · rw [putZ_ne _ _ _ _ _ _ (by omega)]; exact c4
  · cases hi
/-- The slice value v reads as the nodes zs, which lie in block g and may be written there. -/
def Own (w : World) (v : Value) (g : Nat) (zs : List Zn) : Prop :=
  ∃ a cap, v = .slice a zs.length cap ∧ zs.length ≤ cap ∧ cap ≤ maxLen ∧ (0 < zs.length → ∃ off, a = some ⟨g, off, none⟩ ∧ Room w g off zs.length ∧ NodesAt w g off zs)
theorem Own.slice {w : World} {v : Value} {g : Nat} {zs : List Zn} (h : Own w v g zs) : NSlice w v zs := by
  obtain ⟨a, cap, h1, h2, h3, h4⟩ := h
  refine ⟨a, cap, h1, h2, h3, fun h0 => ?_⟩
  obtain ⟨off, e, hr, hN⟩ := h4 h0
  exact ⟨g, off, e, hr.1, hN⟩
theorem Own.ext {w w' : World} {v : Value} {g : Nat} {zs : List Zn} (h : Own w v g zs) (he : Ext w w') : Own w' v g zs := by
  obtain ⟨a, cap, h1, h2, h3, h4⟩ := h
  refine ⟨a, cap, h1, h2, h3, fun h0 => ?_⟩
  obtain ⟨off, e, hr, hN⟩ := h4 h0
  exact ⟨off, e, hr.ext he, hN.ext hr.1 he⟩
theorem Own.upd {w w' : World} {v : Value} {g b : Nat} {zs : List Zn} (h : Own w v g zs) (he : Upd b w w') (hne : g ≠ b) : Own w' v g zs := by
  obtain ⟨a, cap, h1, h2, h3, h4⟩ := h
  refine ⟨a, cap, h1, h2, h3, fun h0 => ?_⟩
  obtain ⟨off, e, hr, hN⟩ := h4 h0
  exact ⟨off, e, hr.upd he hne, hN.upd he hne hr.1⟩
end Go.Proofs.YtfgjodnjahhanaaDoor
