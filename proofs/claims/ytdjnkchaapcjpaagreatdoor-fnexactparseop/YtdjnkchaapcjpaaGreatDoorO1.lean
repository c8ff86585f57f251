/- operations: slices of them, the laws' functions over them; requests. -/
import Derived.Test.YtdjnkchaapcjpaaGreatDoorV2
import Derived.Test.YtdjnkchaapcjpaaGreatDoorZ1
namespace Go.Proofs.YtdjnkchaapcjpaaGreatDoor
open Go.RowKit

structure Opn where
  kind : Int
  path : ByteArray
  data : Int
  version : Int
  seq : Bool
  own : Bool
  deriving DecidableEq
instance : Inhabited Opn := ⟨⟨0, ByteArray.empty, 0, 0, false, false⟩⟩

def oagg (z : Opn) : Value := .agg #[.int .i64 z.kind, .string z.path, .int .i64 z.data, .int .i64 z.version, .bool z.seq, .bool z.own]

set_option maxHeartbeats 1000000 in
theorem eqOp_same (z : Opn) (w : World) : Calls Tryz.prog 62 #[oagg z, oagg z] w fun e w' => e = .returned (.bool true) ∧ Ext w w' := by
  have h1 : (z.seq != z.seq) = false := by simp
  have h2 : (z.own != z.own) = false := by simp
  unfold oagg
  go_enter Tryz.func62, Tryz.ntmps62
  go_wp2
  go_ret
  exact ⟨rfl, ((Ext.refl _).alloc _).alloc _⟩

/-- The operation z lies in block b from o on. -/
def OAt (w : World) (b o : Nat) (z : Opn) : Prop := w.cell? ⟨b, o, none⟩ = some (.int .i64 z.kind) ∧ w.cell? ⟨b, o + 1, none⟩ = some (.string z.path) ∧ w.cell? ⟨b, o + 2, none⟩ = some (.int .i64 z.data) ∧ w.cell? ⟨b, o + 3, none⟩ = some (.int .i64 z.version) ∧ w.cell? ⟨b, o + 4, none⟩ = some (.bool z.seq) ∧ w.cell? ⟨b, o + 5, none⟩ = some (.bool z.own)
theorem OAt.ext {w w' : World} {b o : Nat} {z : Opn} (h : OAt w b o z) (hb : b < w.heap.size) (he : Ext w w') : OAt w' b o z := by
  obtain ⟨c0, c1, c2, c3, c4, c5⟩ := h
  obtain ⟨hc, _⟩ := Ext.cell he
  exact ⟨(hc _ _ hb).trans c0, (hc _ _ hb).trans c1, (hc _ _ hb).trans c2, (hc _ _ hb).trans c3, (hc _ _ hb).trans c4, (hc _ _ hb).trans c5⟩
/-- The operations zs lie in block b, from off on. -/
def OpsAt (w : World) (b off : Nat) (zs : List Opn) : Prop := ∀ (i : Nat) z, zs[i]? = some z → OAt w b (off + i * 6) z
theorem OpsAt.ext {w w' : World} {b off : Nat} {zs : List Opn} (h : OpsAt w b off zs) (hb : b < w.heap.size) (he : Ext w w') : OpsAt w' b off zs :=
  fun i z hz => (h i z hz).ext hb he
/-- The slice value v reads as the operations zs. -/
def OSlice (w : World) (v : Value) (zs : List Opn) : Prop :=
  ∃ a cap, v = .slice a zs.length cap ∧ zs.length ≤ cap ∧ cap ≤ maxLen ∧ (0 < zs.length → ∃ b off, a = some ⟨b, off, none⟩ ∧ b < w.heap.size ∧ OpsAt w b off zs)
theorem OSlice.ext {w w' : World} {v : Value} {zs : List Opn} (h : OSlice w v zs) (he : Ext w w') : OSlice w' v zs := by
  obtain ⟨a, cap, h1, h2, h3, h4⟩ := h
  refine ⟨a, cap, h1, h2, h3, fun h0 => ?_⟩
  obtain ⟨b, off, e, hb, hN⟩ := h4 h0
  exact ⟨b, off, e, Nat.lt_of_lt_of_le hb he.size, hN.ext hb he⟩

/-! ### Operations that are stored -/
def ORoom (w : World) (g off n : Nat) : Prop := g < w.heap.size ∧ ∀ j, j < n * 6 → (∃ u, w.cell? ⟨g, off + j, none⟩ = some u) ∧ w.frozen? ⟨g, off + j, none⟩ = false
def putO (w : World) (g o : Nat) (z : Opn) : World := ((((((w.setCell ⟨g, o, none⟩ (.int .i64 z.kind)).setCell ⟨g, o + 1, none⟩ (.string z.path)).setCell ⟨g, o + 2, none⟩ (.int .i64 z.data)).setCell ⟨g, o + 3, none⟩ (.int .i64 z.version)).setCell ⟨g, o + 4, none⟩ (.bool z.seq)).setCell ⟨g, o + 5, none⟩ (.bool z.own))
theorem putO_ne (w : World) (g o b k : Nat) (z : Opn) (h : g ≠ b ∨ k < o ∨ o + 6 ≤ k) : (putO w g o z).cell? ⟨b, k, none⟩ = w.cell? ⟨b, k, none⟩ := by
  unfold putO
  rw [iset_ne _ _ _ _ _ _ (by omega), iset_ne _ _ _ _ _ _ (by omega), iset_ne _ _ _ _ _ _ (by omega), iset_ne _ _ _ _ _ _ (by omega), iset_ne _ _ _ _ _ _ (by omega), iset_ne _ _ _ _ _ _ (by omega)]
theorem putO_eq (w : World) (g o : Nat) (z : Opn) (h : ∀ j, j < 6 → ∃ u, w.cell? ⟨g, o + j, none⟩ = some u) : OAt (putO w g o z) g o z := by
  unfold putO
  refine ⟨?_, ?_, ?_, ?_, ?_, ?_⟩
  · rw [iset_ne _ _ _ _ _ _ (by omega), iset_ne _ _ _ _ _ _ (by omega), iset_ne _ _ _ _ _ _ (by omega), iset_ne _ _ _ _ _ _ (by omega), iset_ne _ _ _ _ _ _ (by omega)]; apply iset_eq; exact h 0 (by omega)
  · rw [iset_ne _ _ _ _ _ _ (by omega), iset_ne _ _ _ _ _ _ (by omega), iset_ne _ _ _ _ _ _ (by omega), iset_ne _ _ _ _ _ _ (by omega)]; apply iset_eq; rw [iset_ne _ _ _ _ _ _ (by omega)]; exact h 1 (by omega)
  · rw [iset_ne _ _ _ _ _ _ (by omega), iset_ne _ _ _ _ _ _ (by omega), iset_ne _ _ _ _ _ _ (by omega)]; apply iset_eq; rw [iset_ne _ _ _ _ _ _ (by omega), iset_ne _ _ _ _ _ _ (by omega)]; exact h 2 (by omega)
  · rw [iset_ne _ _ _ _ _ _ (by omega), iset_ne _ _ _ _ _ _ (by omega)]; apply iset_eq; rw [iset_ne _ _ _ _ _ _ (by omega), iset_ne _ _ _ _ _ _ (by omega), iset_ne _ _ _ _ _ _ (by omega)]; exact h 3 (by omega)
  · rw [iset_ne _ _ _ _ _ _ (by omega)]; apply iset_eq; rw [iset_ne _ _ _ _ _ _ (by omega), iset_ne _ _ _ _ _ _ (by omega), iset_ne _ _ _ _ _ _ (by omega), iset_ne _ _ _ _ _ _ (by omega)]; exact h 4 (by omega)
  · apply iset_eq; rw [iset_ne _ _ _ _ _ _ (by omega), iset_ne _ _ _ _ _ _ (by omega), iset_ne _ _ _ _ _ _ (by omega), iset_ne _ _ _ _ _ _ (by omega), iset_ne _ _ _ _ _ _ (by omega)]; exact h 5 (by omega)
theorem putO_size (w : World) (g o : Nat) (z : Opn) : (putO w g o z).heap.size = w.heap.size := by simp [putO]
theorem putO_frozen (w : World) (g o : Nat) (z : Opn) (a : Addr) : (putO w g o z).frozen? a = w.frozen? a := by simp [putO]
theorem ORoom.put {w : World} {g off n k : Nat} (h : ORoom w g off n) (z : Opn) (hk : k < n) : ORoom (putO w g (off + k * 6) z) g off n := by
  refine ⟨by rw [putO_size]; exact h.1, fun j hj => ⟨?_, by rw [putO_frozen]; exact (h.2 j hj).2⟩⟩
  obtain ⟨q0, q1, q2, q3, q4, q5⟩ := putO_eq w g (off + k * 6) z (fun i hi => by rw [Nat.add_assoc]; exact (h.2 (k * 6 + i) (by omega)).1)
  by_cases hh : off + j < off + k * 6 ∨ off + k * 6 + 6 ≤ off + j
  · rw [putO_ne _ _ _ _ _ _ (Or.inr hh)]; exact (h.2 j hj).1
  · have hj5 : j = k * 6 ∨ j = k * 6 + 1 ∨ j = k * 6 + 2 ∨ j = k * 6 + 3 ∨ j = k * 6 + 4 ∨ j = k * 6 + 5 := by omega
    rcases hj5 with e | e | e | e | e | e <;> subst e
    · exact ⟨_, q0⟩
    · exact ⟨_, q1⟩
    · exact ⟨_, q2⟩
    · exact ⟨_, q3⟩
    · exact ⟨_, q4⟩
    · exact ⟨_, q5⟩
theorem ORoom.ext {w w' : World} {g off n : Nat} (h : ORoom w g off n) (he : Ext w w') : ORoom w' g off n := by
  obtain ⟨hc, hf⟩ := Ext.cell he
  exact ⟨Nat.lt_of_lt_of_le h.1 he.size, fun j hj => ⟨by rw [hc _ _ h.1]; exact (h.2 j hj).1, by rw [hf _ _ h.1]; exact (h.2 j hj).2⟩⟩
theorem OpsAt.put {w : World} {g off n k : Nat} {zs : List Opn} {z : Opn} (hr : ORoom w g off n) (hk : k < n) (hz : zs[k]? = some z) (h : OpsAt w g off (zs.take k)) : OpsAt (putO w g (off + k * 6) z) g off (zs.take (k + 1)) := by
  intro i z' hi
  rw [List.getElem?_take] at hi
  split at hi
  · by_cases hik : i = k
    · subst hik
      rw [hz] at hi
      cases hi
      exact putO_eq w g (off + i * 6) z (fun j hj => by rw [Nat.add_assoc]; exact (hr.2 (i * 6 + j) (by omega)).1)
    · obtain ⟨c0, c1, c2, c3, c4, c5⟩ := h i z' (by rw [List.getElem?_take, if_pos (by omega)]; exact hi)
      exact ⟨by rw [putO_ne _ _ _ _ _ _ (by omega)]; exact c0, by rw [putO_ne _ _ _ _ _ _ (by omega)]; exact c1, by rw [putO_ne _ _ _ _ _ _ (by omega)]; exact c2, by rw [putO_ne _ _ _ _ _ _ (by omega)]; exact c3, by rw [putO_ne _ _ _ _ _ _ (by omega)]; exact c4, by rw [putO_ne _ _ _ _ _ _ (by omega)]; exact c5⟩
  · cases hi
theorem ext_putO {w w' : World} (h : Ext w w') (g o : Nat) (hg : w.heap.size ≤ g) (z : Opn) : Ext w (putO w' g o z) :=
  ((((((h.setCell (p := ⟨g, o, none⟩) hg _).setCell (p := ⟨g, o + 1, none⟩) hg _).setCell (p := ⟨g, o + 2, none⟩) hg _).setCell (p := ⟨g, o + 3, none⟩) hg _).setCell (p := ⟨g, o + 4, none⟩) hg _).setCell (p := ⟨g, o + 5, none⟩) hg _)

theorem OSlice.of {w : World} {g off cap : Nat} {zs : List Opn} (hg : g < w.heap.size) (h : OpsAt w g off zs) (h1 : zs.length ≤ cap) (h2 : cap ≤ maxLen) : OSlice w (.slice (some ⟨g, off, none⟩) zs.length cap) zs :=
  ⟨_, _, rfl, h1, h2, fun _ => ⟨g, off, rfl, hg, h⟩⟩
theorem OpsAt.set_ne {w : World} {b off g o : Nat} {zs : List Opn} {v : Value} (h : OpsAt w b off zs) (hne : g ≠ b) : OpsAt (w.setCell ⟨g, o, none⟩ v) b off zs := by
  intro i z hz
  obtain ⟨c0, c1, c2, c3, c4, c5⟩ := h i z hz
  refine ⟨?_, ?_, ?_, ?_, ?_, ?_⟩ <;> rw [iset_ne _ _ _ _ _ _ (Or.inl hne)] <;> assumption

/-! ### Requests -/
structure Rq where
  client : Int
  number : Int
  time : Int
  ops : List Opn
def ragg (r : Rq) (v : Value) : Value := .agg #[.int .i64 r.client, .int .i64 r.number, .int .i64 r.time, v]

/-- A request in a box of its own. -/
def RBoxAt (w : World) (b : Nat) (r : Rq) (v : Value) : Prop := b < w.heap.size ∧ (w.cell? ⟨b, 0, none⟩ = some (.int .i64 r.client) ∧ w.cell? ⟨b, 1, none⟩ = some (.int .i64 r.number) ∧ w.cell? ⟨b, 2, none⟩ = some (.int .i64 r.time) ∧ w.cell? ⟨b, 3, none⟩ = some v) ∧ w.frozen? ⟨b, 0, none⟩ = false ∧ w.frozen? ⟨b, 1, none⟩ = false ∧ w.frozen? ⟨b, 2, none⟩ = false ∧ w.frozen? ⟨b, 3, none⟩ = false
theorem RBoxAt.ext {w w' : World} {b : Nat} {r : Rq} {v : Value} (h : RBoxAt w b r v) (he : Ext w w') : RBoxAt w' b r v := by
  obtain ⟨hc, hf⟩ := Ext.cell he
  obtain ⟨hb, ⟨c0, c1, c2, c3⟩, f0, f1, f2, f3⟩ := h
  exact ⟨Nat.lt_of_lt_of_le hb he.size, ⟨(hc _ _ hb).trans c0, (hc _ _ hb).trans c1, (hc _ _ hb).trans c2, (hc _ _ hb).trans c3⟩, (hf _ _ hb).trans f0, (hf _ _ hb).trans f1, (hf _ _ hb).trans f2, (hf _ _ hb).trans f3⟩
theorem rbox_new (w : World) (r : Rq) (v : Value) (t : TypeId) : RBoxAt (w.alloc (.cells #[.int .i64 r.client, .int .i64 r.number, .int .i64 r.time, v] t)) w.heap.size r v := ⟨by simp, ⟨by simp, by simp, by simp, by simp⟩, by simp, by simp, by simp, by simp⟩

end Go.Proofs.YtdjnkchaapcjpaaGreatDoor
