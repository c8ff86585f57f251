/- events: slices of them, the laws' functions over them. -/
import Derived.Test.YtgofggmgnodplaaDoorV2
import Derived.Test.YtgofggmgnodplaaDoorZ1
namespace Go.Proofs.YtgofggmgnodplaaDoor
open Go.RowKit

structure Ev where
  client : Int
  path : ByteArray
  kind : Int
  deriving DecidableEq
instance : Inhabited Ev := ⟨⟨0, ByteArray.empty, 0⟩⟩

def evagg (z : Ev) : Value := .agg #[.int .i64 z.client, .string z.path, .int .i64 z.kind]

set_option maxHeartbeats 1000000 in
theorem toEvent_any (z : Ev) (w : World) : Calls Tryd.prog 19 #[evagg z] w fun e w' => e = .returned (evagg z) ∧ Ext w w' := by
  unfold evagg
  go_enter Tryd.func19, Tryd.ntmps19
  go_wp2
  exact bodyPost_ret (v := evagg z) (by simp [results, Tryd.results19, go_sem, evagg]) rfl ⟨rfl, (((Ext.refl _).alloc _).alloc _).alloc _⟩

set_option maxHeartbeats 1000000 in
theorem szEvent_any (z : Ev) (n : Int) (w : World) (h0 : 0 ≤ n) (h1 : n ≤ 1048576) (hz : z.path.size ≤ maxLen) :
    Calls Tryd.prog 17 #[evagg z, .int .i64 n] w fun e w' => e = .returned (.int .i64 (if n < z.path.size then -1 else n - z.path.size)) ∧ Ext w w' := by
  unfold maxLen at hz
  unfold evagg
  by_cases h : n < z.path.size
  · rw [if_pos h]
    go_enter Tryd.func17, Tryd.ntmps17
    go_wp2
    go_ret
    exact ⟨rfl, (Ext.refl _).alloc _⟩
  · rw [if_neg h]
    go_enter Tryd.func17, Tryd.ntmps17
    go_wp2
    go_ret
    exact ⟨rfl, (Ext.refl _).alloc _⟩

/-- The operation z lies in block b from o on. -/
def EvAt (w : World) (b o : Nat) (z : Ev) : Prop := w.cell? ⟨b, o, none⟩ = some (.int .i64 z.client) ∧ w.cell? ⟨b, o + 1, none⟩ = some (.string z.path) ∧ w.cell? ⟨b, o + 2, none⟩ = some (.int .i64 z.kind)
theorem EvAt.ext {w w' : World} {b o : Nat} {z : Ev} (h : EvAt w b o z) (hb : b < w.heap.size) (he : Ext w w') : EvAt w' b o z := by
  obtain ⟨c0, c1, c2⟩ := h
  obtain ⟨hc, _⟩ := Ext.cell he
  exact ⟨(hc _ _ hb).trans c0, (hc _ _ hb).trans c1, (hc _ _ hb).trans c2⟩
/-- The operations zs lie in block b, from off on. -/
def EvsAt (w : World) (b off : Nat) (zs : List Ev) : Prop := ∀ (i : Nat) z, zs[i]? = some z → EvAt w b (off + i * 3) z
theorem EvsAt.ext {w w' : World} {b off : Nat} {zs : List Ev} (h : EvsAt w b off zs) (hb : b < w.heap.size) (he : Ext w w') : EvsAt w' b off zs :=
  fun i z hz => (h i z hz).ext hb he
/-- The slice value v reads as the operations zs. -/
def EvSlice (w : World) (v : Value) (zs : List Ev) : Prop :=
  ∃ a cap, v = .slice a zs.length cap ∧ zs.length ≤ cap ∧ cap ≤ maxLen ∧ (0 < zs.length → ∃ b off, a = some ⟨b, off, none⟩ ∧ b < w.heap.size ∧ EvsAt w b off zs)
theorem EvSlice.ext {w w' : World} {v : Value} {zs : List Ev} (h : EvSlice w v zs) (he : Ext w w') : EvSlice w' v zs := by
  obtain ⟨a, cap, h1, h2, h3, h4⟩ := h
  refine ⟨a, cap, h1, h2, h3, fun h0 => ?_⟩
  obtain ⟨b, off, e, hb, hN⟩ := h4 h0
  exact ⟨b, off, e, Nat.lt_of_lt_of_le hb he.size, hN.ext hb he⟩

/-! ### Operations that are stored -/
def EvRoom (w : World) (g off n : Nat) : Prop := g < w.heap.size ∧ ∀ j, j < n * 3 → (∃ u, w.cell? ⟨g, off + j, none⟩ = some u) ∧ w.frozen? ⟨g, off + j, none⟩ = false
def putEv (w : World) (g o : Nat) (z : Ev) : World := (((w.setCell ⟨g, o, none⟩ (.int .i64 z.client)).setCell ⟨g, o + 1, none⟩ (.string z.path)).setCell ⟨g, o + 2, none⟩ (.int .i64 z.kind))
theorem putEv_ne (w : World) (g o b k : Nat) (z : Ev) (h : g ≠ b ∨ k < o ∨ o + 3 ≤ k) : (putEv w g o z).cell? ⟨b, k, none⟩ = w.cell? ⟨b, k, none⟩ := by
  unfold putEv
  rw [iset_ne _ _ _ _ _ _ (by omega), iset_ne _ _ _ _ _ _ (by omega), iset_ne _ _ _ _ _ _ (by omega)]
theorem putEv_eq (w : World) (g o : Nat) (z : Ev) (h : ∀ j, j < 3 → ∃ u, w.cell? ⟨g, o + j, none⟩ = some u) : EvAt (putEv w g o z) g o z := by
  unfold putEv
  refine ⟨?_, ?_, ?_⟩
  · rw [iset_ne _ _ _ _ _ _ (by omega), iset_ne _ _ _ _ _ _ (by omega)]; apply iset_eq; exact h 0 (by omega)
  · rw [iset_ne _ _ _ _ _ _ (by omega)]; apply iset_eq; rw [iset_ne _ _ _ _ _ _ (by omega)]; exact h 1 (by omega)
  · apply iset_eq; rw [iset_ne _ _ _ _ _ _ (by omega), iset_ne _ _ _ _ _ _ (by omega)]; exact h 2 (by omega)
theorem putEv_size (w : World) (g o : Nat) (z : Ev) : (putEv w g o z).heap.size = w.heap.size := by simp [putEv]
theorem putEv_frozen (w : World) (g o : Nat) (z : Ev) (a : Addr) : (putEv w g o z).frozen? a = w.frozen? a := by simp [putEv]
theorem EvRoom.put {w : World} {g off n k : Nat} (h : EvRoom w g off n) (z : Ev) (hk : k < n) : EvRoom (putEv w g (off + k * 3) z) g off n := by
  refine ⟨by rw [putEv_size]; exact h.1, fun j hj => ⟨?_, by rw [putEv_frozen]; exact (h.2 j hj).2⟩⟩
  obtain ⟨q0, q1, q2⟩ := putEv_eq w g (off + k * 3) z (fun i hi => by rw [Nat.add_assoc]; exact (h.2 (k * 3 + i) (by omega)).1)
  by_cases hh : off + j < off + k * 3 ∨ off + k * 3 + 3 ≤ off + j
  · rw [putEv_ne _ _ _ _ _ _ (Or.inr hh)]; exact (h.2 j hj).1
  · have hj5 : j = k * 3 ∨ j = k * 3 + 1 ∨ j = k * 3 + 2 := by omega
    rcases hj5 with e | e | e <;> subst e
    · exact ⟨_, q0⟩
    · exact ⟨_, q1⟩
    · exact ⟨_, q2⟩
theorem EvRoom.ext {w w' : World} {g off n : Nat} (h : EvRoom w g off n) (he : Ext w w') : EvRoom w' g off n := by
  obtain ⟨hc, hf⟩ := Ext.cell he
  exact ⟨Nat.lt_of_lt_of_le h.1 he.size, fun j hj => ⟨by rw [hc _ _ h.1]; exact (h.2 j hj).1, by rw [hf _ _ h.1]; exact (h.2 j hj).2⟩⟩
theorem EvsAt.put {w : World} {g off n k : Nat} {zs : List Ev} {z : Ev} (hr : EvRoom w g off n) (hk : k < n) (hz : zs[k]? = some z) (h : EvsAt w g off (zs.take k)) : EvsAt (putEv w g (off + k * 3) z) g off (zs.take (k + 1)) := by
  intro i z' hi
  rw [List.getElem?_take] at hi
  split at hi
  · by_cases hik : i = k
    · subst hik
      rw [hz] at hi
      cases hi
      exact putEv_eq w g (off + i * 3) z (fun j hj => by rw [Nat.add_assoc]; exact (hr.2 (i * 3 + j) (by omega)).1)
    · obtain ⟨c0, c1, c2⟩ := h i z' (by rw [List.getElem?_take, if_pos (by omega)]; exact hi)
      exact ⟨by rw [putEv_ne _ _ _ _ _ _ (by omega)]; exact c0, by rw [putEv_ne _ _ _ _ _ _ (by omega)]; exact c1, by rw [putEv_ne _ _ _ _ _ _ (by omega)]; exact c2⟩
  · cases hi
theorem ext_putEv {w w' : World} (h : Ext w w') (g o : Nat) (hg : w.heap.size ≤ g) (z : Ev) : Ext w (putEv w' g o z) :=
  (((h.setCell (p := ⟨g, o, none⟩) hg _).setCell (p := ⟨g, o + 1, none⟩) hg _).setCell (p := ⟨g, o + 2, none⟩) hg _)

theorem EvSlice.of {w : World} {g off cap : Nat} {zs : List Ev} (hg : g < w.heap.size) (h : EvsAt w g off zs) (h1 : zs.length ≤ cap) (h2 : cap ≤ maxLen) : EvSlice w (.slice (some ⟨g, off, none⟩) zs.length cap) zs :=
  ⟨_, _, rfl, h1, h2, fun _ => ⟨g, off, rfl, hg, h⟩⟩
theorem EvsAt.set_ne {w : World} {b off g o : Nat} {zs : List Ev} {v : Value} (h : EvsAt w b off zs) (hne : g ≠ b) : EvsAt (w.setCell ⟨g, o, none⟩ v) b off zs := by
  intro i z hz
  obtain ⟨c0, c1, c2⟩ := h i z hz
  refine ⟨?_, ?_, ?_⟩ <;> rw [iset_ne _ _ _ _ _ _ (Or.inl hne)] <;> assumption



theorem EvRoom.set {w : World} {g off n : Nat} (h : EvRoom w g off n) (o : Nat) (v : Value) : EvRoom (w.setCell ⟨g, o, none⟩ v) g off n := by
  refine ⟨by simpa using h.1, fun j hj => ⟨?_, by simpa using (h.2 j hj).2⟩⟩
  by_cases hj2 : o = off + j
  · subst hj2; exact ⟨_, iset_eq _ _ _ _ (h.2 j hj).1⟩
  · rw [iset_ne _ _ _ _ _ _ (Or.inr hj2)]; exact (h.2 j hj).1
theorem EvsAt.beyond {w : World} {g off o : Nat} {zs : List Ev} {v : Value} (h : EvsAt w g off zs) (ho : off + zs.length * 3 ≤ o) : EvsAt (w.setCell ⟨g, o, none⟩ v) g off zs := by
  intro i z hz
  have hi := (List.getElem?_eq_some_iff.1 hz).1
  obtain ⟨c0, c1, c2⟩ := h i z hz
  refine ⟨?_, ?_, ?_⟩ <;> rw [iset_ne _ _ _ _ _ _ (by omega)] <;> assumption
theorem EvsAt.upd {w w' : World} {g off b : Nat} {zs : List Ev} (h : EvsAt w g off zs) (he : Upd b w w') (hne : g ≠ b) (hg : g < w.heap.size) : EvsAt w' g off zs := by
  intro i z hz
  obtain ⟨c0, c1, c2⟩ := h i z hz
  exact ⟨(he.at_ne _ _ hne hg).1.trans c0, (he.at_ne _ _ hne hg).1.trans c1, (he.at_ne _ _ hne hg).1.trans c2⟩
theorem EvRoom.upd {w w' : World} {g off n b : Nat} (h : EvRoom w g off n) (he : Upd b w w') (hne : g ≠ b) : EvRoom w' g off n :=
  ⟨Nat.lt_of_lt_of_le h.1 he.2.1, fun j hj => ⟨by rw [(he.at_ne _ _ hne h.1).1]; exact (h.2 j hj).1, by rw [(he.at_ne _ _ hne h.1).2]; exact (h.2 j hj).2⟩⟩
/-- The slice value v reads as zs, which lie in block g and may be written there. -/
def EvOwn (w : World) (v : Value) (g : Nat) (zs : List Ev) : Prop :=
  ∃ a cap, v = .slice a zs.length cap ∧ zs.length ≤ cap ∧ cap ≤ maxLen ∧ (0 < zs.length → ∃ off, a = some ⟨g, off, none⟩ ∧ EvRoom w g off zs.length ∧ EvsAt w g off zs)
theorem EvOwn.slice {w : World} {v : Value} {g : Nat} {zs : List Ev} (h : EvOwn w v g zs) : EvSlice w v zs := by
  obtain ⟨a, cap, h1, h2, h3, h4⟩ := h
  refine ⟨a, cap, h1, h2, h3, fun h0 => ?_⟩
  obtain ⟨off, e, hr, hN⟩ := h4 h0
  exact ⟨g, off, e, hr.1, hN⟩
theorem EvOwn.ext {w w' : World} {v : Value} {g : Nat} {zs : List Ev} (h : EvOwn w v g zs) (he : Ext w w') : EvOwn w' v g zs := by
  obtain ⟨a, cap, h1, h2, h3, h4⟩ := h
  refine ⟨a, cap, h1, h2, h3, fun h0 => ?_⟩
  obtain ⟨off, e, hr, hN⟩ := h4 h0
  exact ⟨off, e, hr.ext he, hN.ext hr.1 he⟩
theorem EvOwn.lt {w : World} {v : Value} {g : Nat} {zs : List Ev} (h : EvOwn w v g zs) (h0 : 0 < zs.length) : g < w.heap.size := by
  obtain ⟨a, cap, -, -, -, h4⟩ := h
  obtain ⟨off, -, hr, -⟩ := h4 h0
  exact hr.1
theorem EvOwn.nil {w w' : World} {v : Value} {g g' : Nat} {zs : List Ev} (h : EvOwn w v g zs) (h0 : ¬ 0 < zs.length) : EvOwn w' v g' zs := by
  obtain ⟨a, cap, h1, h2, h3, -⟩ := h
  exact ⟨a, cap, h1, h2, h3, fun h => absurd h h0⟩
theorem EvOwn.upd' {w w' : World} {v : Value} {g b : Nat} {zs : List Ev} (h : EvOwn w v g zs) (he : Upd b w w') (hne : 0 < zs.length → g ≠ b) : EvOwn w' v g zs := by
  by_cases h0 : 0 < zs.length
  · obtain ⟨a, cap, h1, h2, h3, h4⟩ := h
    refine ⟨a, cap, h1, h2, h3, fun _ => ?_⟩
    obtain ⟨off, e, hr, hN⟩ := h4 h0
    exact ⟨off, e, hr.upd he (hne h0), hN.upd he (hne h0) hr.1⟩
  · exact h.nil h0
end Go.Proofs.YtgofggmgnodplaaDoor
