/- watches: slices of them, the laws' functions over them. -/
import Derived.Test.YtgofggmgnodplaaDoorV2
import Derived.Test.YtgofggmgnodplaaDoorZ1
namespace Go.Proofs.YtgofggmgnodplaaDoor
open Go.RowKit

structure Wt where
  client : Int
  path : ByteArray
  deriving DecidableEq
instance : Inhabited Wt := ⟨⟨0, ByteArray.empty⟩⟩

def wtagg (z : Wt) : Value := .agg #[.int .i64 z.client, .string z.path]

set_option maxHeartbeats 1000000 in
theorem toWatch_any (z : Wt) (w : World) : Calls Tryd.prog 24 #[wtagg z] w fun e w' => e = .returned (wtagg z) ∧ Ext w w' := by
  unfold wtagg
  go_enter Tryd.func24, Tryd.ntmps24
  go_wp2
  exact bodyPost_ret (v := wtagg z) (by simp [results, Tryd.results24, go_sem, wtagg]) rfl ⟨rfl, (((Ext.refl _).alloc _).alloc _).alloc _⟩

set_option maxHeartbeats 1000000 in
theorem szWatch_any (z : Wt) (n : Int) (w : World) (h0 : 0 ≤ n) (h1 : n ≤ 1048576) (hz : z.path.size ≤ maxLen) :
    Calls Tryd.prog 22 #[wtagg z, .int .i64 n] w fun e w' => e = .returned (.int .i64 (if n < z.path.size then -1 else n - z.path.size)) ∧ Ext w w' := by
  unfold maxLen at hz
  unfold wtagg
  by_cases h : n < z.path.size
  · rw [if_pos h]
    go_enter Tryd.func22, Tryd.ntmps22
    go_wp2
    go_ret
    exact ⟨rfl, (Ext.refl _).alloc _⟩
  · rw [if_neg h]
    go_enter Tryd.func22, Tryd.ntmps22
    go_wp2
    go_ret
    exact ⟨rfl, (Ext.refl _).alloc _⟩

set_option maxHeartbeats 1000000 in
theorem eqWatch_same (z : Wt) (w : World) : Calls Tryd.prog 28 #[wtagg z, wtagg z] w fun e w' => e = .returned (.bool true) ∧ Ext w w' := by
  unfold wtagg
  go_enter Tryd.func28, Tryd.ntmps28
  go_wp2
  go_ret
  exact ⟨rfl, ((Ext.refl _).alloc _).alloc _⟩

/-- The operation z lies in block b from o on. -/
def WtAt (w : World) (b o : Nat) (z : Wt) : Prop := w.cell? ⟨b, o, none⟩ = some (.int .i64 z.client) ∧ w.cell? ⟨b, o + 1, none⟩ = some (.string z.path)
theorem WtAt.ext {w w' : World} {b o : Nat} {z : Wt} (h : WtAt w b o z) (hb : b < w.heap.size) (he : Ext w w') : WtAt w' b o z := by
  obtain ⟨c0, c1⟩ := h
  obtain ⟨hc, _⟩ := Ext.cell he
  exact ⟨(hc _ _ hb).trans c0, (hc _ _ hb).trans c1⟩
/-- The operations zs lie in block b, from off on. -/
def WtsAt (w : World) (b off : Nat) (zs : List Wt) : Prop := ∀ (i : Nat) z, zs[i]? = some z → WtAt w b (off + i * 2) z
theorem WtsAt.ext {w w' : World} {b off : Nat} {zs : List Wt} (h : WtsAt w b off zs) (hb : b < w.heap.size) (he : Ext w w') : WtsAt w' b off zs :=
  fun i z hz => (h i z hz).ext hb he
/-- The slice value v reads as the operations zs. -/
def WtSlice (w : World) (v : Value) (zs : List Wt) : Prop :=
  ∃ a cap, v = .slice a zs.length cap ∧ zs.length ≤ cap ∧ cap ≤ maxLen ∧ (0 < zs.length → ∃ b off, a = some ⟨b, off, none⟩ ∧ b < w.heap.size ∧ WtsAt w b off zs)
theorem WtSlice.ext {w w' : World} {v : Value} {zs : List Wt} (h : WtSlice w v zs) (he : Ext w w') : WtSlice w' v zs := by
  obtain ⟨a, cap, h1, h2, h3, h4⟩ := h
  refine ⟨a, cap, h1, h2, h3, fun h0 => ?_⟩
  obtain ⟨b, off, e, hb, hN⟩ := h4 h0
  exact ⟨b, off, e, Nat.lt_of_lt_of_le hb he.size, hN.ext hb he⟩

set_option maxHeartbeats 1000000 in
set_option maxRecDepth 100000 in
theorem szWatchS_le (v : Value) (zs : List Wt) (n : Int) (w : World) (h0 : 0 ≤ n) (h1 : n ≤ 1048576) (hS : WtSlice w v zs) (hz : ∀ z ∈ zs, z.path.size ≤ maxLen) :
    Calls Tryd.prog 6 #[v, .int .i64 n] w fun e w' => ∃ r : Int, e = .returned (.int .i64 r) ∧ -1 ≤ r ∧ r ≤ 1048576 ∧ (0 ≤ r → zs.length ≤ 1048576 ∧ ∀ z ∈ zs, z.path.size ≤ 1048576) ∧ Ext w w' := by
  obtain ⟨a, cap, rfl, hlc, hcm, hx⟩ := hS
  have HX : Hid (0 < zs.length → ∃ b off, a = some ⟨b, off, none⟩ ∧ b < w.heap.size ∧ WtsAt w b off zs) := hx
  clear hx
  have HM : Hid (∀ z ∈ zs, z.path.size ≤ maxLen) := hz
  clear hz
  unfold maxLen at hcm
  by_cases hn : n < zs.length
  · go_enter Tryd.func6, Tryd.ntmps6
    go_wp2
    go_ret
    exact ⟨_, rfl, by omega, by omega, fun h => by omega, Ext.refl _⟩
  · go_enter Tryd.func6, Tryd.ntmps6
    go_wp2
    go_loopw [1, 5] (fun lv i wr => ∃ (k : Nat) (m : Int), k ≤ zs.length ∧ i = .int .i64 k ∧ lv = .int .i64 m ∧ 0 ≤ m ∧ m ≤ 1048576 ∧ Hid (∀ (j : Nat) z, j < k → zs[j]? = some z → z.path.size ≤ 1048576) ∧ Hid (Ext w wr)) (fun _ i _ => zs.length - (intOf i).toNat)
    case atStart => exact ⟨0, _, Nat.zero_le _, rfl, rfl, by omega, by omega, fun j z h => by omega, Ext.refl _⟩
    case round =>
      obtain ⟨k, m, hk, rfl, rfl, hm0, hm1, HA, HE⟩ := hrel
      by_cases hlt : k < zs.length
      · obtain ⟨z, hzk⟩ : ∃ z, zs[k]? = some z := ⟨_, List.getElem?_eq_getElem hlt⟩
        obtain ⟨b, off, rfl, hb, hN⟩ := HX.out (by omega)
        obtain ⟨d0, d1⟩ := hN.ext hb HE.out k z hzk
        have hzm : z.path.size ≤ maxLen := HM.out z (List.mem_of_getElem? hzk)
        have HZ : Hid (zs[k]? = some z) := hzk
        clear hzk hN
        have hsz := szWatch_any z m wr hm0 hm1 hzm
        unfold wtagg at hsz
        by_cases hpz : m < z.path.size
        · rw [if_pos hpz] at hsz
          go_wp2_with fail
          refine hsz.mono ?_
          rintro e w2 ⟨rfl, hb2⟩
          have HE2 : Hid (Ext w w2) := HE.out.trans hb2
          clear hb2 hsz
          go_wp2
          go_ret
          exact ⟨_, rfl, by omega, by omega, fun h => by omega, HE2.out⟩
        · rw [if_neg hpz] at hsz
          have HA2 : Hid (∀ (j : Nat) z, j < k + 1 → zs[j]? = some z → z.path.size ≤ 1048576) := by
            intro j z' hj hz'
            by_cases hjk : j = k
            · subst hjk; rw [HZ.out] at hz'; cases hz'; omega
            · exact HA.out j z' (by omega) hz'
          go_wp2_with fail
          refine hsz.mono ?_
          rintro e w2 ⟨rfl, hb2⟩
          have HE2 : Hid (Ext w w2) := HE.out.trans hb2
          clear hb2 hsz
          go_wp2
          exact ⟨⟨k + 1, _, by omega, by go_num, rfl, by omega, by omega, HA2, HE2⟩, by simp [intOf]; omega⟩
      · go_wp2
        go_ret
        exact ⟨m, rfl, by omega, hm1, fun _ => ⟨by omega, fun z hz => by
          obtain ⟨j, hj⟩ := List.getElem?_of_mem hz
          exact HA.out j z (by have := (List.getElem?_eq_some_iff.1 hj).1; omega) hj⟩, HE.out⟩

set_option maxHeartbeats 1000000 in
set_option maxRecDepth 100000 in
theorem eqWatchS_same (v v' : Value) (zs : List Wt) (w : World) (hS : WtSlice w v zs) (hS' : WtSlice w v' zs) :
    Calls Tryd.prog 10 #[v, v'] w fun e w' => e = .returned (.bool true) ∧ Ext w w' := by
  obtain ⟨a, cap, rfl, hlc, hcm, hx⟩ := hS
  obtain ⟨a', cap', rfl, hlc', hcm', hx'⟩ := hS'
  have HX : Hid (0 < zs.length → ∃ b off, a = some ⟨b, off, none⟩ ∧ b < w.heap.size ∧ WtsAt w b off zs) := hx
  have HX' : Hid (0 < zs.length → ∃ b off, a' = some ⟨b, off, none⟩ ∧ b < w.heap.size ∧ WtsAt w b off zs) := hx'
  clear hx hx'
  unfold maxLen at hcm
  go_enter Tryd.func10, Tryd.ntmps10
  go_wp2
  go_loopw [5] (fun i wr => ∃ (k : Nat), k ≤ zs.length ∧ i = .int .i64 k ∧ Hid (Ext w wr)) (fun i _ => zs.length - (intOf i).toNat)
  case atStart => exact ⟨0, Nat.zero_le _, rfl, Ext.refl _⟩
  case round =>
    obtain ⟨k, hk, rfl, HE⟩ := hrel
    by_cases hlt : k < zs.length
    · obtain ⟨z, hzk⟩ : ∃ z, zs[k]? = some z := ⟨_, List.getElem?_eq_getElem hlt⟩
      obtain ⟨b, off, rfl, hb, hN⟩ := HX.out (by omega)
      obtain ⟨b', off', rfl, hb', hN'⟩ := HX'.out (by omega)
      obtain ⟨d0, d1⟩ := hN.ext hb HE.out k z hzk
      obtain ⟨e0, e1⟩ := hN'.ext hb' HE.out k z hzk
      clear hzk hN hN'
      have HQ : Hid (∀ wx : World, Calls Tryd.prog 28 #[wtagg z, wtagg z] wx fun e w' => e = .returned (.bool true) ∧ Ext wx w') := eqWatch_same z
      unfold wtagg at HQ
      go_wp2
      go_region_with (go_at_call 28; refine (HQ.out _).mono ?_; rintro e w2 ⟨rfl, hb2⟩)
      all_goals
        go_wp2
        exact ⟨⟨k + 1, by omega, by go_num, HE.out.trans (((Ext.refl _).drew).trans hb2)⟩, by simp [intOf]; omega⟩
    · go_wp2
      go_ret
      exact ⟨rfl, HE.out⟩

/-! ### Operations that are stored -/
def WtRoom (w : World) (g off n : Nat) : Prop := g < w.heap.size ∧ ∀ j, j < n * 2 → (∃ u, w.cell? ⟨g, off + j, none⟩ = some u) ∧ w.frozen? ⟨g, off + j, none⟩ = false
def putWt (w : World) (g o : Nat) (z : Wt) : World := ((w.setCell ⟨g, o, none⟩ (.int .i64 z.client)).setCell ⟨g, o + 1, none⟩ (.string z.path))
theorem putWt_ne (w : World) (g o b k : Nat) (z : Wt) (h : g ≠ b ∨ k < o ∨ o + 2 ≤ k) : (putWt w g o z).cell? ⟨b, k, none⟩ = w.cell? ⟨b, k, none⟩ := by
  unfold putWt
  rw [iset_ne _ _ _ _ _ _ (by omega), iset_ne _ _ _ _ _ _ (by omega)]
theorem putWt_eq (w : World) (g o : Nat) (z : Wt) (h : ∀ j, j < 2 → ∃ u, w.cell? ⟨g, o + j, none⟩ = some u) : WtAt (putWt w g o z) g o z := by
  unfold putWt
  refine ⟨?_, ?_⟩
  · rw [iset_ne _ _ _ _ _ _ (by omega)]; apply iset_eq; exact h 0 (by omega)
  · apply iset_eq; rw [iset_ne _ _ _ _ _ _ (by omega)]; exact h 1 (by omega)
theorem putWt_size (w : World) (g o : Nat) (z : Wt) : (putWt w g o z).heap.size = w.heap.size := by simp [putWt]
theorem putWt_frozen (w : World) (g o : Nat) (z : Wt) (a : Addr) : (putWt w g o z).frozen? a = w.frozen? a := by simp [putWt]
theorem WtRoom.put {w : World} {g off n k : Nat} (h : WtRoom w g off n) (z : Wt) (hk : k < n) : WtRoom (putWt w g (off + k * 2) z) g off n := by
  refine ⟨by rw [putWt_size]; exact h.1, fun j hj => ⟨?_, by rw [putWt_frozen]; exact (h.2 j hj).2⟩⟩
  obtain ⟨q0, q1⟩ := putWt_eq w g (off + k * 2) z (fun i hi => by rw [Nat.add_assoc]; exact (h.2 (k * 2 + i) (by omega)).1)
  by_cases hh : off + j < off + k * 2 ∨ off + k * 2 + 2 ≤ off + j
  · rw [putWt_ne _ _ _ _ _ _ (Or.inr hh)]; exact (h.2 j hj).1
  · have hj5 : j = k * 2 ∨ j = k * 2 + 1 := by omega
    rcases hj5 with e | e <;> subst e
    · exact ⟨_, q0⟩
    · exact ⟨_, q1⟩
theorem WtRoom.ext {w w' : World} {g off n : Nat} (h : WtRoom w g off n) (he : Ext w w') : WtRoom w' g off n := by
  obtain ⟨hc, hf⟩ := Ext.cell he
  exact ⟨Nat.lt_of_lt_of_le h.1 he.size, fun j hj => ⟨by rw [hc _ _ h.1]; exact (h.2 j hj).1, by rw [hf _ _ h.1]; exact (h.2 j hj).2⟩⟩
theorem WtsAt.put {w : World} {g off n k : Nat} {zs : List Wt} {z : Wt} (hr : WtRoom w g off n) (hk : k < n) (hz : zs[k]? = some z) (h : WtsAt w g off (zs.take k)) : WtsAt (putWt w g (off + k * 2) z) g off (zs.take (k + 1)) := by
  intro i z' hi
  rw [List.getElem?_take] at hi
  split at hi
  · by_cases hik : i = k
    · subst hik
      rw [hz] at hi
      cases hi
      exact putWt_eq w g (off + i * 2) z (fun j hj => by rw [Nat.add_assoc]; exact (hr.2 (i * 2 + j) (by omega)).1)
    · obtain ⟨c0, c1⟩ := h i z' (by rw [List.getElem?_take, if_pos (by omega)]; exact hi)
      exact ⟨by rw [putWt_ne _ _ _ _ _ _ (by omega)]; exact c0, by rw [putWt_ne _ _ _ _ _ _ (by omega)]; exact c1⟩
  · cases hi
theorem ext_putWt {w w' : World} (h : Ext w w') (g o : Nat) (hg : w.heap.size ≤ g) (z : Wt) : Ext w (putWt w' g o z) :=
  ((h.setCell (p := ⟨g, o, none⟩) hg _).setCell (p := ⟨g, o + 1, none⟩) hg _)

set_option maxHeartbeats 2000000 in
set_option maxRecDepth 100000 in
theorem toWatchS_at (v : Value) (zs : List Wt) (w : World) (hS : WtSlice w v zs) (hl : zs.length ≤ 1048576) :
    Calls Tryd.prog 8 #[v] w fun e w' => e = .returned (.slice (some ⟨w.heap.size, 0, none⟩) zs.length zs.length) ∧ WtRoom w' w.heap.size 0 zs.length ∧ WtsAt w' w.heap.size 0 zs ∧ Ext w w' := by
  obtain ⟨a, cap, rfl, hlc, hcm, hx⟩ := hS
  have HX : Hid (0 < zs.length → ∃ b off, a = some ⟨b, off, none⟩ ∧ b < w.heap.size ∧ WtsAt w b off zs) := hx
  clear hx
  unfold maxLen at hcm
  have hi9 : (Tryd.prog.info? 52).map (fun i => (i.zero, i.size, i.bytes)) = some (some (.agg #[.int .i64 0, .string ByteArray.empty]), 2, 24) := by kernel_rfl
  obtain ⟨i0, hi, hxx⟩ := Option.map_eq_some_iff.1 hi9
  simp only [Prod.mk.injEq] at hxx
  obtain ⟨hz0, hz1, hz2⟩ := hxx
  clear hi9
  obtain ⟨M, hM⟩ : ∃ M, M = madeCells (Value.agg #[.int .i64 0, .string ByteArray.empty]).cells (((zs.length : Nat) : Int).toNat * i0.size) := ⟨_, rfl⟩
  have hMs : M.size = zs.length * 2 := by rw [hM, size_madeCells, hz1]; simp
  have hmk : ∀ W : World, (Instr.makeSlice 25 (.int .i64 (zs.length : Int)) (.int .i64 (zs.length : Int))).run Tryd.prog W = .ok (.slice (some ⟨W.heap.size, 0, none⟩) zs.length zs.length) (W.alloc (.cells M 52)) := fun W => by
    have h := run_make (P := Tryd.prog) W 25 52 i0 _ Tryd.underlying25 hi hz0 .i64 .i64 (zs.length : Int) (zs.length : Int) (by omega) (by omega) (by rw [hz2]; omega) (by omega)
    rw [← hM] at h
    simpa using h
  have HR : Hid (WtRoom (w.alloc (.cells M 52)) w.heap.size 0 zs.length) := by
    refine ⟨by simp, fun j hj => ⟨⟨M[j]'(by omega), ?_⟩, by simp⟩⟩
    rw [Nat.zero_add, World.cell?_alloc_at _ _ _ _ rfl]
    simp [hMs, hj]
  clear hM hMs hi hz0 hz1 hz2
  go_enter Tryd.func8, Tryd.ntmps8
  go_wp2
  go_loopw [4] (fun i wr => ∃ (k : Nat), k ≤ zs.length ∧ i = .int .i64 k ∧ Hid (WtRoom wr w.heap.size 0 zs.length) ∧ Hid (WtsAt wr w.heap.size 0 (zs.take k)) ∧ Hid (Ext w wr)) (fun i _ => zs.length - (intOf i).toNat)
  case atStart => exact ⟨0, Nat.zero_le _, rfl, HR, fun i z h => by simp at h, (Ext.refl _).alloc _⟩
  case round =>
    obtain ⟨k, hk, rfl, HR1, HN1, HE⟩ := hrel
    by_cases hlt : k < zs.length
    · obtain ⟨z, hzk⟩ : ∃ z, zs[k]? = some z := ⟨_, List.getElem?_eq_getElem hlt⟩
      obtain ⟨b, off, rfl, hb, hN⟩ := HX.out (by omega)
      obtain ⟨d0, d1⟩ := hN.ext hb HE.out k z hzk
      have HZ : Hid (zs[k]? = some z) := hzk
      clear hzk hN
      have hto := toWatch_any z wr
      unfold wtagg at hto
      go_wp2_with fail
      refine hto.mono ?_
      rintro e w2 ⟨rfl, hb2⟩
      clear hto d0 d1
      have HR2 : Hid (WtRoom w2 w.heap.size 0 zs.length) := HR1.out.ext hb2
      have HN2 : Hid (WtsAt w2 w.heap.size 0 (zs.take k)) := HN1.out.ext HR1.out.1 hb2
      have HE2 : Hid (Ext w w2) := HE.out.trans hb2
      clear hb2
      obtain ⟨⟨u0, r0⟩, f0⟩ := HR2.out.2 (k * 2) (by omega)
      obtain ⟨⟨u1, r1⟩, f1⟩ := HR2.out.2 (k * 2 + 1) (by omega)
      rw [Nat.zero_add] at r0 r1 f0 f1
      have p1 := HR2.out.put z hlt
      have p2 := WtsAt.put HR2.out hlt HZ.out HN2.out
      have p3 := ext_putWt HE2.out w.heap.size (0 + k * 2) (Nat.le_refl _) z
      rw [Nat.zero_add] at p1 p2 p3
      have P1 : Hid _ := p1
      have P2 : Hid _ := p2
      have P3 : Hid _ := p3
      clear p1 p2 p3
      go_wp2
      exact ⟨⟨k + 1, by omega, by go_num, P1.out, P2.out, P3.out⟩, by simp [intOf]; omega⟩
    · have hke : k = zs.length := by omega
      subst hke
      go_wp2
      go_ret
      exact ⟨rfl, HR1.out, by have := HN1.out; rw [List.take_length] at this; exact this, HE.out⟩
theorem WtSlice.of {w : World} {g off cap : Nat} {zs : List Wt} (hg : g < w.heap.size) (h : WtsAt w g off zs) (h1 : zs.length ≤ cap) (h2 : cap ≤ maxLen) : WtSlice w (.slice (some ⟨g, off, none⟩) zs.length cap) zs :=
  ⟨_, _, rfl, h1, h2, fun _ => ⟨g, off, rfl, hg, h⟩⟩
theorem WtsAt.set_ne {w : World} {b off g o : Nat} {zs : List Wt} {v : Value} (h : WtsAt w b off zs) (hne : g ≠ b) : WtsAt (w.setCell ⟨g, o, none⟩ v) b off zs := by
  intro i z hz
  obtain ⟨c0, c1⟩ := h i z hz
  refine ⟨?_, ?_⟩ <;> rw [iset_ne _ _ _ _ _ _ (Or.inl hne)] <;> assumption



theorem WtRoom.set {w : World} {g off n : Nat} (h : WtRoom w g off n) (o : Nat) (v : Value) : WtRoom (w.setCell ⟨g, o, none⟩ v) g off n := by
  refine ⟨by simpa using h.1, fun j hj => ⟨?_, by simpa using (h.2 j hj).2⟩⟩
  by_cases hj2 : o = off + j
  · subst hj2; exact ⟨_, iset_eq _ _ _ _ (h.2 j hj).1⟩
  · rw [iset_ne _ _ _ _ _ _ (Or.inr hj2)]; exact (h.2 j hj).1
theorem WtsAt.beyond {w : World} {g off o : Nat} {zs : List Wt} {v : Value} (h : WtsAt w g off zs) (ho : off + zs.length * 2 ≤ o) : WtsAt (w.setCell ⟨g, o, none⟩ v) g off zs := by
  intro i z hz
  have hi := (List.getElem?_eq_some_iff.1 hz).1
  obtain ⟨c0, c1⟩ := h i z hz
  refine ⟨?_, ?_⟩ <;> rw [iset_ne _ _ _ _ _ _ (by omega)] <;> assumption
theorem WtsAt.upd {w w' : World} {g off b : Nat} {zs : List Wt} (h : WtsAt w g off zs) (he : Upd b w w') (hne : g ≠ b) (hg : g < w.heap.size) : WtsAt w' g off zs := by
  intro i z hz
  obtain ⟨c0, c1⟩ := h i z hz
  exact ⟨(he.at_ne _ _ hne hg).1.trans c0, (he.at_ne _ _ hne hg).1.trans c1⟩
theorem WtRoom.upd {w w' : World} {g off n b : Nat} (h : WtRoom w g off n) (he : Upd b w w') (hne : g ≠ b) : WtRoom w' g off n :=
  ⟨Nat.lt_of_lt_of_le h.1 he.2.1, fun j hj => ⟨by rw [(he.at_ne _ _ hne h.1).1]; exact (h.2 j hj).1, by rw [(he.at_ne _ _ hne h.1).2]; exact (h.2 j hj).2⟩⟩
/-- The slice value v reads as zs, which lie in block g and may be written there. -/
def WtOwn (w : World) (v : Value) (g : Nat) (zs : List Wt) : Prop :=
  ∃ a cap, v = .slice a zs.length cap ∧ zs.length ≤ cap ∧ cap ≤ maxLen ∧ (0 < zs.length → ∃ off, a = some ⟨g, off, none⟩ ∧ WtRoom w g off zs.length ∧ WtsAt w g off zs)
theorem WtOwn.slice {w : World} {v : Value} {g : Nat} {zs : List Wt} (h : WtOwn w v g zs) : WtSlice w v zs := by
  obtain ⟨a, cap, h1, h2, h3, h4⟩ := h
  refine ⟨a, cap, h1, h2, h3, fun h0 => ?_⟩
  obtain ⟨off, e, hr, hN⟩ := h4 h0
  exact ⟨g, off, e, hr.1, hN⟩
theorem WtOwn.ext {w w' : World} {v : Value} {g : Nat} {zs : List Wt} (h : WtOwn w v g zs) (he : Ext w w') : WtOwn w' v g zs := by
  obtain ⟨a, cap, h1, h2, h3, h4⟩ := h
  refine ⟨a, cap, h1, h2, h3, fun h0 => ?_⟩
  obtain ⟨off, e, hr, hN⟩ := h4 h0
  exact ⟨off, e, hr.ext he, hN.ext hr.1 he⟩
theorem WtOwn.lt {w : World} {v : Value} {g : Nat} {zs : List Wt} (h : WtOwn w v g zs) (h0 : 0 < zs.length) : g < w.heap.size := by
  obtain ⟨a, cap, -, -, -, h4⟩ := h
  obtain ⟨off, -, hr, -⟩ := h4 h0
  exact hr.1
theorem WtOwn.nil {w w' : World} {v : Value} {g g' : Nat} {zs : List Wt} (h : WtOwn w v g zs) (h0 : ¬ 0 < zs.length) : WtOwn w' v g' zs := by
  obtain ⟨a, cap, h1, h2, h3, -⟩ := h
  exact ⟨a, cap, h1, h2, h3, fun h => absurd h h0⟩
theorem WtOwn.upd' {w w' : World} {v : Value} {g b : Nat} {zs : List Wt} (h : WtOwn w v g zs) (he : Upd b w w') (hne : 0 < zs.length → g ≠ b) : WtOwn w' v g zs := by
  by_cases h0 : 0 < zs.length
  · obtain ⟨a, cap, h1, h2, h3, h4⟩ := h
    refine ⟨a, cap, h1, h2, h3, fun _ => ?_⟩
    obtain ⟨off, e, hr, hN⟩ := h4 h0
    exact ⟨off, e, hr.upd he (hne h0), hN.upd he (hne h0) hr.1⟩
  · exact h.nil h0
end Go.Proofs.YtgofggmgnodplaaDoor
