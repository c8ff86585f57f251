/- the pair's sum. -/
import Derived.Test.YtecgjdgfjgcmdaaV1
namespace Go.Proofs.Ytecgjdgfjgcmdaa
open Go.RowKit
set_option maxHeartbeats 1000000 in
set_option maxRecDepth 100000 in
theorem eqInt64S_same (v v' : Value) (l : List Int) (w : World) (hS : ISlice w v l) (hS' : ISlice w v' l) :
    Calls Try.prog 32 #[v, v'] w fun e w' => e = .returned (.bool true) ∧ Ext w w' := by
  obtain ⟨a, cap, rfl, hlc, hcm, hx⟩ := hS
  obtain ⟨a', cap', rfl, hlc', hcm', hx'⟩ := hS'
  have HX : Hid (0 < l.length → ∃ b off, a = some ⟨b, off, none⟩ ∧ b < w.heap.size ∧ NumsAt w b off l) := hx
  have HX' : Hid (0 < l.length → ∃ b off, a' = some ⟨b, off, none⟩ ∧ b < w.heap.size ∧ NumsAt w b off l) := hx'
  clear hx hx'
  unfold maxLen at hcm
  go_enter Try.func32, Try.ntmps32
  go_wp2
  go_loopw [5] (fun i wr => ∃ (k : Nat), k ≤ l.length ∧ i = .int .i64 k ∧ Hid (Ext w wr)) (fun i _ => l.length - (intOf i).toNat)
  case atStart => exact ⟨0, Nat.zero_le _, rfl, Ext.refl _⟩
  case round =>
    obtain ⟨k, hk, rfl, HE⟩ := hrel
    by_cases hlt : k < l.length
    · obtain ⟨z, hzk⟩ : ∃ z, l[k]? = some z := ⟨_, List.getElem?_eq_getElem hlt⟩
      obtain ⟨b, off, rfl, hb, hN⟩ := HX.out (by omega)
      obtain ⟨b', off', rfl, hb', hN'⟩ := HX'.out (by omega)
      have d0 := hN.ext hb HE.out k z hzk
      have d1 := hN'.ext hb' HE.out k z hzk
      clear hzk hN hN'
      go_wp2
      go_region
      all_goals
        go_wp2
        exact ⟨⟨k + 1, by omega, by go_num, HE.out.drew⟩, by simp [intOf]; omega⟩
    · go_wp2
      go_ret
      exact ⟨rfl, HE.out⟩

/-- Block g holds room for n cells from off on, and may be written there. -/
def IRoom (w : World) (g off n : Nat) : Prop := g < w.heap.size ∧ ∀ j, j < n → (∃ u, w.cell? ⟨g, off + j, none⟩ = some u) ∧ w.frozen? ⟨g, off + j, none⟩ = false
theorem iset_ne (w : World) (g o b k : Nat) (v : Value) (h : g ≠ b ∨ o ≠ k) : (w.setCell ⟨g, o, none⟩ v).cell? ⟨b, k, none⟩ = w.cell? ⟨b, k, none⟩ :=
  World.cell?_setCell_other _ _ _ _ (by intro e; injection e with e1 e2 _; rcases h with h | h; exact h e1; exact h e2)
theorem iset_eq (w : World) (g o : Nat) (v : Value) (h : ∃ u, w.cell? ⟨g, o, none⟩ = some u) : (w.setCell ⟨g, o, none⟩ v).cell? ⟨g, o, none⟩ = some v := by
  obtain ⟨u, hu⟩ := h; exact World.cell?_setCell_same _ _ _ hu
theorem IRoom.set {w : World} {g off n k : Nat} (h : IRoom w g off n) (v : Value) (hk : k < n) : IRoom (w.setCell ⟨g, off + k, none⟩ v) g off n := by
  refine ⟨by simpa using h.1, fun j hj => ⟨?_, by simpa using (h.2 j hj).2⟩⟩
  by_cases hjk : j = k
  · subst hjk; exact ⟨_, iset_eq _ _ _ _ (h.2 j hj).1⟩
  · rw [iset_ne _ _ _ _ _ _ (by omega)]; exact (h.2 j hj).1
theorem NumsAt.set {w : World} {g off n k : Nat} {l : List Int} {x : Int} (hr : IRoom w g off n) (hk : k < n) (hx : l[k]? = some x) (h : NumsAt w g off (l.take k)) : NumsAt (w.setCell ⟨g, off + k, none⟩ (.int .i64 x)) g off (l.take (k + 1)) := by
  intro i y hi
  rw [List.getElem?_take] at hi
  split at hi
  · by_cases hik : i = k
    · subst hik
      rw [hx] at hi
      cases hi
      exact iset_eq _ _ _ _ (hr.2 i hk).1
    · rw [iset_ne _ _ _ _ _ _ (by omega)]
      exact h i y (by rw [List.getElem?_take, if_pos (by omega)]; exact hi)
  · cases hi

set_option maxHeartbeats 2000000 in
set_option maxRecDepth 100000 in
theorem toInt64S_any (v : Value) (l : List Int) (w : World) (hS : ISlice w v l) (hl : l.length ≤ 1048576) :
    Calls Try.prog 58 #[v] w fun e w' => ∃ v', e = .returned v' ∧ ISlice w' v' l ∧ Ext w w' := by
  obtain ⟨a, cap, rfl, hlc, hcm, hx⟩ := hS
  have HX : Hid (0 < l.length → ∃ b off, a = some ⟨b, off, none⟩ ∧ b < w.heap.size ∧ NumsAt w b off l) := hx
  clear hx
  unfold maxLen at hcm
  have hi9 : (Try.prog.info? 2).map (fun i => (i.zero, i.size, i.bytes)) = some (some (.int .i64 0), 1, 8) := by kernel_rfl
  obtain ⟨i0, hi, hxx⟩ := Option.map_eq_some_iff.1 hi9
  simp only [Prod.mk.injEq] at hxx
  obtain ⟨hz0, hz1, hz2⟩ := hxx
  clear hi9
  obtain ⟨M, hM⟩ : ∃ M, M = madeCells (Value.int .i64 0).cells (((l.length : Nat) : Int).toNat * i0.size) := ⟨_, rfl⟩
  have hMs : M.size = l.length := by rw [hM, size_madeCells, hz1]; simp
  have hmk : ∀ W : World, (Instr.makeSlice 24 (.int .i64 (l.length : Int)) (.int .i64 (l.length : Int))).run Try.prog W = .ok (.slice (some ⟨W.heap.size, 0, none⟩) l.length l.length) (W.alloc (.cells M 2)) := fun W => by
    have h := run_make (P := Try.prog) W 24 2 i0 _ Try.underlying24 hi hz0 .i64 .i64 (l.length : Int) (l.length : Int) (by omega) (by omega) (by rw [hz2]; omega) (by omega)
    rw [← hM] at h
    simpa using h
  have HR : Hid (IRoom (w.alloc (.cells M 2)) w.heap.size 0 l.length) := by
    refine ⟨by simp, fun j hj => ⟨⟨M[j]'(by omega), ?_⟩, by simp⟩⟩
    rw [Nat.zero_add, World.cell?_alloc_at _ _ _ _ rfl]
    simp [hMs, hj]
  clear hM hMs hi hz0 hz1 hz2
  go_enter Try.func58, Try.ntmps58
  go_wp2
  go_loopw [4] (fun i wr => ∃ (k : Nat), k ≤ l.length ∧ i = .int .i64 k ∧ Hid (IRoom wr w.heap.size 0 l.length) ∧ Hid (NumsAt wr w.heap.size 0 (l.take k)) ∧ Hid (Ext w wr)) (fun i _ => l.length - (intOf i).toNat)
  case atStart => exact ⟨0, Nat.zero_le _, rfl, HR, fun i z h => by simp at h, (Ext.refl _).alloc _⟩
  case round =>
    obtain ⟨k, hk, rfl, HR1, HN1, HE⟩ := hrel
    by_cases hlt : k < l.length
    · obtain ⟨x, hxk⟩ : ∃ x, l[k]? = some x := ⟨_, List.getElem?_eq_getElem hlt⟩
      obtain ⟨b, off, rfl, hb, hN⟩ := HX.out (by omega)
      have d0 := hN.ext hb HE.out k x hxk
      have HZ : Hid (l[k]? = some x) := hxk
      clear hxk hN
      obtain ⟨⟨u0, r0⟩, f0⟩ := HR1.out.2 k hlt
      have p1 := HR1.out.set (.int .i64 x) hlt
      have p2 := NumsAt.set HR1.out hlt HZ.out HN1.out
      have p3 : Ext w (wr.setCell ⟨w.heap.size, 0 + k, none⟩ (.int .i64 x)) := HE.out.setCell (p := ⟨w.heap.size, 0 + k, none⟩) (Nat.le_refl _) _
      rw [Nat.zero_add] at r0 f0 p1 p2 p3
      have P1 : Hid _ := p1
      have P2 : Hid _ := p2
      have P3 : Hid _ := p3
      clear p1 p2 p3
      go_wp2
      exact ⟨⟨k + 1, by omega, by go_num, P1.out, P2.out, P3.out⟩, by simp [intOf]; omega⟩
    · have hke : k = l.length := by omega
      subst hke
      go_wp2
      go_ret
      exact ⟨_, rfl, ⟨_, _, rfl, Nat.le_refl _, by unfold maxLen; omega, fun _ => ⟨w.heap.size, 0, rfl, HR1.out.1, by have := HN1.out; rw [List.take_length] at this; exact this⟩⟩, HE.out⟩
end Go.Proofs.Ytecgjdgfjgcmdaa
