/- sessions: slices of them, the laws' functions over them. -/
import Derived.Test.YtdjnkchaapcjpaaGreatDoorV2
import Derived.Test.YtdjnkchaapcjpaaGreatDoorE0
namespace Go.Proofs.YtdjnkchaapcjpaaGreatDoor
open Go.RowKit

def eagg (s : Se) : Value := .agg #[.int .i64 s.id, .int .i64 s.til]
/-- The sides l lie in block b, from off on. -/
def SesAt (w : World) (b off : Nat) (l : List Se) : Prop := ∀ (i : Nat) s, l[i]? = some s → w.cell? ⟨b, off + i * 2, none⟩ = some (.int .i64 s.id) ∧ w.cell? ⟨b, off + i * 2 + 1, none⟩ = some (.int .i64 s.til)
theorem SesAt.ext {w w' : World} {b off : Nat} {l : List Se} (h : SesAt w b off l) (hb : b < w.heap.size) (he : Ext w w') : SesAt w' b off l := by
  intro i s hs
  obtain ⟨h1, h2⟩ := h i s hs
  exact ⟨((Ext.cell he).1 _ _ hb).trans h1, ((Ext.cell he).1 _ _ hb).trans h2⟩
/-- The slice value v reads as the sides l. -/
def ESlice (w : World) (v : Value) (l : List Se) : Prop :=
  ∃ a cap, v = .slice a l.length cap ∧ l.length ≤ cap ∧ cap ≤ maxLen ∧ (0 < l.length → ∃ b off, a = some ⟨b, off, none⟩ ∧ b < w.heap.size ∧ SesAt w b off l)
theorem ESlice.ext {w w' : World} {v : Value} {l : List Se} (h : ESlice w v l) (he : Ext w w') : ESlice w' v l := by
  obtain ⟨a, cap, h1, h2, h3, h4⟩ := h
  refine ⟨a, cap, h1, h2, h3, fun h0 => ?_⟩
  obtain ⟨b, off, e, hb, hN⟩ := h4 h0
  exact ⟨b, off, e, Nat.lt_of_lt_of_le hb he.size, hN.ext hb he⟩

set_option maxHeartbeats 1000000 in
theorem toSession_any (s : Se) (w : World) : Calls Tryz.prog 104 #[eagg s] w fun e w' => e = .returned (eagg s) ∧ Ext w w' := by
  unfold eagg
  go_enter Tryz.func104, Tryz.ntmps104
  go_wp2
  exact bodyPost_ret (v := eagg s) (by simp [results, Tryz.results104, go_sem, eagg]) rfl ⟨rfl, (((Ext.refl _).alloc _).alloc _).alloc _⟩

set_option maxHeartbeats 1000000 in
theorem eqSession_same (s : Se) (w : World) : Calls Tryz.prog 110 #[eagg s, eagg s] w fun e w' => e = .returned (.bool true) ∧ Ext w w' := by
  unfold eagg
  go_enter Tryz.func110, Tryz.ntmps110
  go_wp2
  go_ret
  exact ⟨rfl, ((Ext.refl _).alloc _).alloc _⟩

set_option maxHeartbeats 1000000 in
theorem szSessionS_any (v : Value) (l : List Se) (n : Int) (w : World) (h0 : 0 ≤ n) (h1 : n ≤ 1048576) (hS : ESlice w v l) :
    Calls Tryz.prog 42 #[v, .int .i64 n] w fun e w' => e = .returned (.int .i64 (if n < l.length then -1 else n - l.length)) ∧ w' = w := by
  obtain ⟨a, cap, rfl, hlc, hcm, -⟩ := hS
  unfold maxLen at hcm
  by_cases h : n < l.length
  · rw [if_pos h]
    go_enter Tryz.func42, Tryz.ntmps42
    go_wp2
    go_ret
    exact ⟨rfl, rfl⟩
  · rw [if_neg h]
    go_enter Tryz.func42, Tryz.ntmps42
    go_wp2
    go_ret
    exact ⟨rfl, rfl⟩

set_option maxHeartbeats 1000000 in
set_option maxRecDepth 100000 in
theorem eqSessionS_same (v v' : Value) (l : List Se) (w : World) (hS : ESlice w v l) (hS' : ESlice w v' l) :
    Calls Tryz.prog 51 #[v, v'] w fun e w' => e = .returned (.bool true) ∧ Ext w w' := by
  obtain ⟨a, cap, rfl, hlc, hcm, hx⟩ := hS
  obtain ⟨a', cap', rfl, hlc', hcm', hx'⟩ := hS'
  have HX : Hid (0 < l.length → ∃ b off, a = some ⟨b, off, none⟩ ∧ b < w.heap.size ∧ SesAt w b off l) := hx
  have HX' : Hid (0 < l.length → ∃ b off, a' = some ⟨b, off, none⟩ ∧ b < w.heap.size ∧ SesAt w b off l) := hx'
  clear hx hx'
  unfold maxLen at hcm
  go_enter Tryz.func51, Tryz.ntmps51
  go_wp2
  go_loopw [5] (fun i wr => ∃ (k : Nat), k ≤ l.length ∧ i = .int .i64 k ∧ Hid (Ext w wr)) (fun i _ => l.length - (intOf i).toNat)
  case atStart => exact ⟨0, Nat.zero_le _, rfl, Ext.refl _⟩
  case round =>
    obtain ⟨k, hk, rfl, HE⟩ := hrel
    by_cases hlt : k < l.length
    · obtain ⟨z, hzk⟩ : ∃ z, l[k]? = some z := ⟨_, List.getElem?_eq_getElem hlt⟩
      obtain ⟨b, off, rfl, hb, hN⟩ := HX.out (by omega)
      obtain ⟨b', off', rfl, hb', hN'⟩ := HX'.out (by omega)
      obtain ⟨d0, d1⟩ := hN.ext hb HE.out k z hzk
      obtain ⟨e0, e1⟩ := hN'.ext hb' HE.out k z hzk
      clear hzk hN hN'
      have HQ : Hid (∀ wx : World, Calls Tryz.prog 110 #[eagg z, eagg z] wx fun e w' => e = .returned (.bool true) ∧ Ext wx w') := eqSession_same z
      unfold eagg at HQ
      go_wp2
      go_region_with (go_at_call 110; refine (HQ.out _).mono ?_; rintro e w2 ⟨rfl, hb2⟩)
      all_goals
        go_wp2
        exact ⟨⟨k + 1, by omega, by go_num, HE.out.trans (((Ext.refl _).drew).trans hb2)⟩, by simp [intOf]; omega⟩
    · go_wp2
      go_ret
      exact ⟨rfl, HE.out⟩

/-- Block g holds room for n cells from off on, and may be written there. -/
def ERoom (w : World) (g off n : Nat) : Prop := g < w.heap.size ∧ ∀ j, j < n * 2 → (∃ u, w.cell? ⟨g, off + j, none⟩ = some u) ∧ w.frozen? ⟨g, off + j, none⟩ = false
def putE (w : World) (g o : Nat) (s : Se) : World := (w.setCell ⟨g, o, none⟩ (.int .i64 s.id)).setCell ⟨g, o + 1, none⟩ (.int .i64 s.til)
theorem putE_ne (w : World) (g o b k : Nat) (s : Se) (h : g ≠ b ∨ k < o ∨ o + 2 ≤ k) : (putE w g o s).cell? ⟨b, k, none⟩ = w.cell? ⟨b, k, none⟩ := by
  unfold putE
  rw [iset_ne _ _ _ _ _ _ (by omega), iset_ne _ _ _ _ _ _ (by omega)]
theorem putE_eq (w : World) (g o : Nat) (s : Se) (h : ∀ j, j < 2 → ∃ u, w.cell? ⟨g, o + j, none⟩ = some u) :
    (putE w g o s).cell? ⟨g, o, none⟩ = some (.int .i64 s.id) ∧ (putE w g o s).cell? ⟨g, o + 1, none⟩ = some (.int .i64 s.til) := by
  unfold putE
  refine ⟨?_, ?_⟩
  · rw [iset_ne _ _ _ _ _ _ (by omega)]; exact iset_eq _ _ _ _ (h 0 (by omega))
  · apply iset_eq; rw [iset_ne _ _ _ _ _ _ (by omega)]; exact h 1 (by omega)
theorem ERoom.put {w : World} {g off n k : Nat} (h : ERoom w g off n) (s : Se) (hk : k < n) : ERoom (putE w g (off + k * 2) s) g off n := by
  refine ⟨by simpa [putE] using h.1, fun j hj => ⟨?_, by simpa [putE] using (h.2 j hj).2⟩⟩
  obtain ⟨q0, q1⟩ := putE_eq w g (off + k * 2) s (fun i hi => by rw [Nat.add_assoc]; exact (h.2 (k * 2 + i) (by omega)).1)
  by_cases hh : off + j < off + k * 2 ∨ off + k * 2 + 2 ≤ off + j
  · rw [putE_ne _ _ _ _ _ _ (Or.inr hh)]; exact (h.2 j hj).1
  · have hj5 : j = k * 2 ∨ j = k * 2 + 1 := by omega
    rcases hj5 with e | e <;> subst e
    · exact ⟨_, q0⟩
    · exact ⟨_, q1⟩
theorem ERoom.ext {w w' : World} {g off n : Nat} (h : ERoom w g off n) (he : Ext w w') : ERoom w' g off n := by
  obtain ⟨hc, hf⟩ := Ext.cell he
  exact ⟨Nat.lt_of_lt_of_le h.1 he.size, fun j hj => ⟨by rw [hc _ _ h.1]; exact (h.2 j hj).1, by rw [hf _ _ h.1]; exact (h.2 j hj).2⟩⟩
theorem SesAt.put {w : World} {g off n k : Nat} {l : List Se} {s : Se} (hr : ERoom w g off n) (hk : k < n) (hz : l[k]? = some s) (h : SesAt w g off (l.take k)) : SesAt (putE w g (off + k * 2) s) g off (l.take (k + 1)) := by
  intro i z' hi
  rw [List.getElem?_take] at hi
  split at hi
  · by_cases hik : i = k
    · subst hik
      rw [hz] at hi
      cases hi
      exact putE_eq w g (off + i * 2) s (fun j hj => by rw [Nat.add_assoc]; exact (hr.2 (i * 2 + j) (by omega)).1)
    · obtain ⟨c0, c1⟩ := h i z' (by rw [List.getElem?_take, if_pos (by omega)]; exact hi)
      exact ⟨by rw [putE_ne _ _ _ _ _ _ (by omega)]; exact c0, by rw [putE_ne _ _ _ _ _ _ (by omega)]; exact c1⟩
  · cases hi
theorem ext_putE {w w' : World} (h : Ext w w') (g o : Nat) (hg : w.heap.size ≤ g) (s : Se) : Ext w (putE w' g o s) :=
  (h.setCell (p := ⟨g, o, none⟩) hg _).setCell (p := ⟨g, o + 1, none⟩) hg _

set_option maxHeartbeats 2000000 in
set_option maxRecDepth 100000 in
theorem toSessionS_at (v : Value) (l : List Se) (w : World) (hS : ESlice w v l) (hl : l.length ≤ 1048576) :
    Calls Tryz.prog 45 #[v] w fun e w' => e = .returned (.slice (some ⟨w.heap.size, 0, none⟩) l.length l.length) ∧ ERoom w' w.heap.size 0 l.length ∧ SesAt w' w.heap.size 0 l ∧ Ext w w' := by
  obtain ⟨a, cap, rfl, hlc, hcm, hx⟩ := hS
  have HX : Hid (0 < l.length → ∃ b off, a = some ⟨b, off, none⟩ ∧ b < w.heap.size ∧ SesAt w b off l) := hx
  clear hx
  unfold maxLen at hcm
  have hi9 : (Tryz.prog.info? 154).map (fun i => (i.zero, i.size, i.bytes)) = some (some (.agg #[.int .i64 0, .int .i64 0]), 2, 16) := by kernel_rfl
  obtain ⟨i0, hi, hxx⟩ := Option.map_eq_some_iff.1 hi9
  simp only [Prod.mk.injEq] at hxx
  obtain ⟨hz0, hz1, hz2⟩ := hxx
  clear hi9
  obtain ⟨M, hM⟩ : ∃ M, M = madeCells (Value.agg #[.int .i64 0, .int .i64 0]).cells (((l.length : Nat) : Int).toNat * i0.size) := ⟨_, rfl⟩
  have hMs : M.size = l.length * 2 := by rw [hM, size_madeCells, hz1]; simp
  have hmk : ∀ W : World, (Instr.makeSlice 30 (.int .i64 (l.length : Int)) (.int .i64 (l.length : Int))).run Tryz.prog W = .ok (.slice (some ⟨W.heap.size, 0, none⟩) l.length l.length) (W.alloc (.cells M 154)) := fun W => by
    have h := run_make (P := Tryz.prog) W 30 154 i0 _ Tryz.underlying30 hi hz0 .i64 .i64 (l.length : Int) (l.length : Int) (by omega) (by omega) (by rw [hz2]; omega) (by omega)
    rw [← hM] at h
    simpa using h
  have HR : Hid (ERoom (w.alloc (.cells M 154)) w.heap.size 0 l.length) := by
    refine ⟨by simp, fun j hj => ⟨⟨M[j]'(by omega), ?_⟩, by simp⟩⟩
    rw [Nat.zero_add, World.cell?_alloc_at _ _ _ _ rfl]
    simp [hMs, hj]
  clear hM hMs hi hz0 hz1 hz2
  go_enter Tryz.func45, Tryz.ntmps45
  go_wp2
  go_loopw [4] (fun i wr => ∃ (k : Nat), k ≤ l.length ∧ i = .int .i64 k ∧ Hid (ERoom wr w.heap.size 0 l.length) ∧ Hid (SesAt wr w.heap.size 0 (l.take k)) ∧ Hid (Ext w wr)) (fun i _ => l.length - (intOf i).toNat)
  case atStart => exact ⟨0, Nat.zero_le _, rfl, HR, fun i z h => by simp at h, (Ext.refl _).alloc _⟩
  case round =>
    obtain ⟨k, hk, rfl, HR1, HN1, HE⟩ := hrel
    by_cases hlt : k < l.length
    · obtain ⟨x, hxk⟩ : ∃ x, l[k]? = some x := ⟨_, List.getElem?_eq_getElem hlt⟩
      obtain ⟨b, off, rfl, hb, hN⟩ := HX.out (by omega)
      obtain ⟨d0, d1⟩ := hN.ext hb HE.out k x hxk
      have HZ : Hid (l[k]? = some x) := hxk
      clear hxk hN
      have hto := toSession_any x wr
      unfold eagg at hto
      go_wp2_with fail
      refine hto.mono ?_
      rintro e w2 ⟨rfl, hb2⟩
      clear hto d0 d1
      have HR2 : Hid (ERoom w2 w.heap.size 0 l.length) := HR1.out.ext hb2
      have HN2 : Hid (SesAt w2 w.heap.size 0 (l.take k)) := HN1.out.ext HR1.out.1 hb2
      have HE2 : Hid (Ext w w2) := HE.out.trans hb2
      clear hb2
      obtain ⟨⟨u0, r0⟩, f0⟩ := HR2.out.2 (k * 2) (by omega)
      obtain ⟨⟨u1, r1⟩, f1⟩ := HR2.out.2 (k * 2 + 1) (by omega)
      rw [Nat.zero_add] at r0 r1 f0 f1
      have p1 := HR2.out.put x hlt
      have p2 := SesAt.put HR2.out hlt HZ.out HN2.out
      have p3 := ext_putE HE2.out w.heap.size (0 + k * 2) (Nat.le_refl _) x
      rw [Nat.zero_add] at p1 p2 p3
      have P1 : Hid _ := p1
      have P2 : Hid _ := p2
      have P3 : Hid _ := p3
      clear p1 p2 p3
      go_wp2
      exact ⟨⟨k + 1, by omega, by go_num, P1.out, P2.out, P3.out⟩, by simp [intOf]; omega⟩
    · have hke : k = l.length := by omega
      subst hke
      go_wp2
      go_ret
      exact ⟨rfl, HR1.out, by have := HN1.out; rw [List.take_length] at this; exact this, HE.out⟩
theorem toSessionS_any (v : Value) (l : List Se) (w : World) (hS : ESlice w v l) (hl : l.length ≤ 1048576) :
    Calls Tryz.prog 45 #[v] w fun e w' => ∃ v', e = .returned v' ∧ ESlice w' v' l ∧ Ext w w' :=
  (toSessionS_at v l w hS hl).mono fun _ _ ⟨he, hr, hN, hE⟩ => ⟨_, he, ⟨_, _, rfl, Nat.le_refl _, by unfold maxLen; omega, fun _ => ⟨w.heap.size, 0, rfl, hr.1, hN⟩⟩, hE⟩
end Go.Proofs.YtdjnkchaapcjpaaGreatDoor
