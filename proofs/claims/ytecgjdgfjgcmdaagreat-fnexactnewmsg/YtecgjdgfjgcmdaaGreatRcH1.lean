/- certificates: slices of them, the laws' functions over them. -/
import Derived.Test.YtecgjdgfjgcmdaaGreatRcA1
namespace Go.Proofs.YtecgjdgfjgcmdaaGreat
open Go.RowKit
structure Ct where
  slot : Int
  view : Int
  value : Int
  deriving DecidableEq
instance : Inhabited Ct := ⟨⟨0, 0, 0⟩⟩

def ctagg (z : Ct) : Value := .agg #[.int .i64 z.slot, .int .i64 z.view, .int .i64 z.value]

set_option maxHeartbeats 1000000 in
theorem toCert_any (z : Ct) (w : World) : Calls Tryz.prog 148 #[ctagg z] w fun e w' => e = .returned (ctagg z) ∧ Ext w w' := by
  unfold ctagg
  go_enter Tryz.func148, Tryz.ntmps148
  go_wp2
  exact bodyPost_ret (v := ctagg z) (by simp [results, Tryz.results148, go_sem, ctagg]) rfl ⟨rfl, (((Ext.refl _).alloc _).alloc _).alloc _⟩

set_option maxHeartbeats 1000000 in
theorem eqCert_same (z : Ct) (w : World) : Calls Tryz.prog 150 #[ctagg z, ctagg z] w fun e w' => e = .returned (.bool true) ∧ Ext w w' := by
  unfold ctagg
  go_enter Tryz.func150, Tryz.ntmps150
  go_wp2
  go_ret
  exact ⟨rfl, ((Ext.refl _).alloc _).alloc _⟩

/-- The operation z lies in block b from o on. -/
def CtAt (w : World) (b o : Nat) (z : Ct) : Prop := w.cell? ⟨b, o, none⟩ = some (.int .i64 z.slot) ∧ w.cell? ⟨b, o + 1, none⟩ = some (.int .i64 z.view) ∧ w.cell? ⟨b, o + 2, none⟩ = some (.int .i64 z.value)
theorem CtAt.ext {w w' : World} {b o : Nat} {z : Ct} (h : CtAt w b o z) (hb : b < w.heap.size) (he : Ext w w') : CtAt w' b o z := by
  obtain ⟨c0, c1, c2⟩ := h
  obtain ⟨hc, _⟩ := Ext.cell he
  exact ⟨(hc _ _ hb).trans c0, (hc _ _ hb).trans c1, (hc _ _ hb).trans c2⟩
/-- The operations zs lie in block b, from off on. -/
def CtsAt (w : World) (b off : Nat) (zs : List Ct) : Prop := ∀ (i : Nat) z, zs[i]? = some z → CtAt w b (off + i * 3) z
theorem CtsAt.ext {w w' : World} {b off : Nat} {zs : List Ct} (h : CtsAt w b off zs) (hb : b < w.heap.size) (he : Ext w w') : CtsAt w' b off zs :=
  fun i z hz => (h i z hz).ext hb he
/-- The slice value v reads as the operations zs. -/
def CtSlice (w : World) (v : Value) (zs : List Ct) : Prop :=
  ∃ a cap, v = .slice a zs.length cap ∧ zs.length ≤ cap ∧ cap ≤ maxLen ∧ (0 < zs.length → ∃ b off, a = some ⟨b, off, none⟩ ∧ b < w.heap.size ∧ CtsAt w b off zs)
theorem CtSlice.ext {w w' : World} {v : Value} {zs : List Ct} (h : CtSlice w v zs) (he : Ext w w') : CtSlice w' v zs := by
  obtain ⟨a, cap, h1, h2, h3, h4⟩ := h
  refine ⟨a, cap, h1, h2, h3, fun h0 => ?_⟩
  obtain ⟨b, off, e, hb, hN⟩ := h4 h0
  exact ⟨b, off, e, Nat.lt_of_lt_of_le hb he.size, hN.ext hb he⟩

set_option maxHeartbeats 1000000 in
theorem szCertS_any (v : Value) (l : List Ct) (n : Int) (w : World) (h0 : 0 ≤ n) (h1 : n ≤ 1048576) (hS : CtSlice w v l) :
    Calls Tryz.prog 91 #[v, .int .i64 n] w fun e w' => e = .returned (.int .i64 (if n < l.length then -1 else n - l.length)) ∧ w' = w := by
  obtain ⟨a, cap, rfl, hlc, hcm, -⟩ := hS
  unfold maxLen at hcm
  by_cases h : n < l.length
  · rw [if_pos h]
    go_enter Tryz.func91, Tryz.ntmps91
    go_wp2
    go_ret
    exact ⟨rfl, rfl⟩
  · rw [if_neg h]
    go_enter Tryz.func91, Tryz.ntmps91
    go_wp2
    go_ret
    exact ⟨rfl, rfl⟩

set_option maxHeartbeats 1000000 in
theorem szInt64S_any (v : Value) (l : List Int) (n : Int) (w : World) (h0 : 0 ≤ n) (h1 : n ≤ 1048576) (hS : ISlice w v l) :
    Calls Tryz.prog 92 #[v, .int .i64 n] w fun e w' => e = .returned (.int .i64 (if n < l.length then -1 else n - l.length)) ∧ w' = w := by
  obtain ⟨a, cap, rfl, hlc, hcm, -⟩ := hS
  unfold maxLen at hcm
  by_cases h : n < l.length
  · rw [if_pos h]
    go_enter Tryz.func92, Tryz.ntmps92
    go_wp2
    go_ret
    exact ⟨rfl, rfl⟩
  · rw [if_neg h]
    go_enter Tryz.func92, Tryz.ntmps92
    go_wp2
    go_ret
    exact ⟨rfl, rfl⟩

set_option maxHeartbeats 1000000 in
set_option maxRecDepth 100000 in
theorem eqCertS_same (v v' : Value) (zs : List Ct) (w : World) (hS : CtSlice w v zs) (hS' : CtSlice w v' zs) :
    Calls Tryz.prog 99 #[v, v'] w fun e w' => e = .returned (.bool true) ∧ Ext w w' := by
  obtain ⟨a, cap, rfl, hlc, hcm, hx⟩ := hS
  obtain ⟨a', cap', rfl, hlc', hcm', hx'⟩ := hS'
  have HX : Hid (0 < zs.length → ∃ b off, a = some ⟨b, off, none⟩ ∧ b < w.heap.size ∧ CtsAt w b off zs) := hx
  have HX' : Hid (0 < zs.length → ∃ b off, a' = some ⟨b, off, none⟩ ∧ b < w.heap.size ∧ CtsAt w b off zs) := hx'
  clear hx hx'
  unfold maxLen at hcm
  go_enter Tryz.func99, Tryz.ntmps99
  go_wp2
  go_loopw [5] (fun i wr => ∃ (k : Nat), k ≤ zs.length ∧ i = .int .i64 k ∧ Hid (Ext w wr)) (fun i _ => zs.length - (intOf i).toNat)
  case atStart => exact ⟨0, Nat.zero_le _, rfl, Ext.refl _⟩
  case round =>
    obtain ⟨k, hk, rfl, HE⟩ := hrel
    by_cases hlt : k < zs.length
    · obtain ⟨z, hzk⟩ : ∃ z, zs[k]? = some z := ⟨_, List.getElem?_eq_getElem hlt⟩
      obtain ⟨b, off, rfl, hb, hN⟩ := HX.out (by omega)
      obtain ⟨b', off', rfl, hb', hN'⟩ := HX'.out (by omega)
      obtain ⟨d0, d1, d2⟩ := hN.ext hb HE.out k z hzk
      obtain ⟨e0, e1, e2⟩ := hN'.ext hb' HE.out k z hzk
      clear hzk hN hN'
      have HQ : Hid (∀ wx : World, Calls Tryz.prog 150 #[ctagg z, ctagg z] wx fun e w' => e = .returned (.bool true) ∧ Ext wx w') := eqCert_same z
      unfold ctagg at HQ
      go_wp2
      go_region_with (go_at_call 150; refine (HQ.out _).mono ?_; rintro e w2 ⟨rfl, hb2⟩)
      all_goals
        go_wp2
        exact ⟨⟨k + 1, by omega, by go_num, HE.out.trans (((Ext.refl _).drew).trans hb2)⟩, by simp [intOf]; omega⟩
    · go_wp2
      go_ret
      exact ⟨rfl, HE.out⟩

/-! ### Operations that are stored -/
def CtRoom (w : World) (g off n : Nat) : Prop := g < w.heap.size ∧ ∀ j, j < n * 3 → (∃ u, w.cell? ⟨g, off + j, none⟩ = some u) ∧ w.frozen? ⟨g, off + j, none⟩ = false
def putCt (w : World) (g o : Nat) (z : Ct) : World := (((w.setCell ⟨g, o, none⟩ (.int .i64 z.slot)).setCell ⟨g, o + 1, none⟩ (.int .i64 z.view)).setCell ⟨g, o + 2, none⟩ (.int .i64 z.value))
theorem putCt_ne (w : World) (g o b k : Nat) (z : Ct) (h : g ≠ b ∨ k < o ∨ o + 3 ≤ k) : (putCt w g o z).cell? ⟨b, k, none⟩ = w.cell? ⟨b, k, none⟩ := by
  unfold putCt
  rw [iset_ne _ _ _ _ _ _ (by omega), iset_ne _ _ _ _ _ _ (by omega), iset_ne _ _ _ _ _ _ (by omega)]
theorem putCt_eq (w : World) (g o : Nat) (z : Ct) (h : ∀ j, j < 3 → ∃ u, w.cell? ⟨g, o + j, none⟩ = some u) : CtAt (putCt w g o z) g o z := by
  unfold putCt
  refine ⟨?_, ?_, ?_⟩
  · rw [iset_ne _ _ _ _ _ _ (by omega), iset_ne _ _ _ _ _ _ (by omega)]; apply iset_eq; exact h 0 (by omega)
  · rw [iset_ne _ _ _ _ _ _ (by omega)]; apply iset_eq; rw [iset_ne _ _ _ _ _ _ (by omega)]; exact h 1 (by omega)
  · apply iset_eq; rw [iset_ne _ _ _ _ _ _ (by omega), iset_ne _ _ _ _ _ _ (by omega)]; exact h 2 (by omega)
theorem putCt_size (w : World) (g o : Nat) (z : Ct) : (putCt w g o z).heap.size = w.heap.size := by simp [putCt]
theorem putCt_frozen (w : World) (g o : Nat) (z : Ct) (a : Addr) : (putCt w g o z).frozen? a = w.frozen? a := by simp [putCt]
theorem CtRoom.put {w : World} {g off n k : Nat} (h : CtRoom w g off n) (z : Ct) (hk : k < n) : CtRoom (putCt w g (off + k * 3) z) g off n := by
  refine ⟨by rw [putCt_size]; exact h.1, fun j hj => ⟨?_, by rw [putCt_frozen]; exact (h.2 j hj).2⟩⟩
  obtain ⟨q0, q1, q2⟩ := putCt_eq w g (off + k * 3) z (fun i hi => by rw [Nat.add_assoc]; exact (h.2 (k * 3 + i) (by omega)).1)
  by_cases hh : off + j < off + k * 3 ∨ off + k * 3 + 3 ≤ off + j
  · rw [putCt_ne _ _ _ _ _ _ (Or.inr hh)]; exact (h.2 j hj).1
  · have hj5 : j = k * 3 ∨ j = k * 3 + 1 ∨ j = k * 3 + 2 := by omega
    rcases hj5 with e | e | e <;> subst e
    · exact ⟨_, q0⟩
    · exact ⟨_, q1⟩
    · exact ⟨_, q2⟩
theorem CtRoom.ext {w w' : World} {g off n : Nat} (h : CtRoom w g off n) (he : Ext w w') : CtRoom w' g off n := by
  obtain ⟨hc, hf⟩ := Ext.cell he
  exact ⟨Nat.lt_of_lt_of_le h.1 he.size, fun j hj => ⟨by rw [hc _ _ h.1]; exact (h.2 j hj).1, by rw [hf _ _ h.1]; exact (h.2 j hj).2⟩⟩
theorem CtsAt.put {w : World} {g off n k : Nat} {zs : List Ct} {z : Ct} (hr : CtRoom w g off n) (hk : k < n) (hz : zs[k]? = some z) (h : CtsAt w g off (zs.take k)) : CtsAt (putCt w g (off + k * 3) z) g off (zs.take (k + 1)) := by
  intro i z' hi
  rw [List.getElem?_take] at hi
  split at hi
  · by_cases hik : i = k
    · subst hik
      rw [hz] at hi
      cases hi
      exact putCt_eq w g (off + i * 3) z (fun j hj => by rw [Nat.add_assoc]; exact (hr.2 (i * 3 + j) (by omega)).1)
    · obtain ⟨c0, c1, c2⟩ := h i z' (by rw [List.getElem?_take, if_pos (by omega)]; exact hi)
      exact ⟨by rw [putCt_ne _ _ _ _ _ _ (by omega)]; exact c0, by rw [putCt_ne _ _ _ _ _ _ (by omega)]; exact c1, by rw [putCt_ne _ _ _ _ _ _ (by omega)]; exact c2⟩
  · cases hi
theorem ext_putCt {w w' : World} (h : Ext w w') (g o : Nat) (hg : w.heap.size ≤ g) (z : Ct) : Ext w (putCt w' g o z) :=
  (((h.setCell (p := ⟨g, o, none⟩) hg _).setCell (p := ⟨g, o + 1, none⟩) hg _).setCell (p := ⟨g, o + 2, none⟩) hg _)

set_option maxHeartbeats 2000000 in
set_option maxRecDepth 100000 in
theorem toCertS_at (v : Value) (zs : List Ct) (w : World) (hS : CtSlice w v zs) (hl : zs.length ≤ 1048576) :
    Calls Tryz.prog 95 #[v] w fun e w' => e = .returned (.slice (some ⟨w.heap.size, 0, none⟩) zs.length zs.length) ∧ CtRoom w' w.heap.size 0 zs.length ∧ CtsAt w' w.heap.size 0 zs ∧ Ext w w' := by
  obtain ⟨a, cap, rfl, hlc, hcm, hx⟩ := hS
  have HX : Hid (0 < zs.length → ∃ b off, a = some ⟨b, off, none⟩ ∧ b < w.heap.size ∧ CtsAt w b off zs) := hx
  clear hx
  unfold maxLen at hcm
  have hi9 : (Tryz.prog.info? 57).map (fun i => (i.zero, i.size, i.bytes)) = some (some (.agg #[.int .i64 0, .int .i64 0, .int .i64 0]), 3, 24) := by kernel_rfl
  obtain ⟨i0, hi, hxx⟩ := Option.map_eq_some_iff.1 hi9
  simp only [Prod.mk.injEq] at hxx
  obtain ⟨hz0, hz1, hz2⟩ := hxx
  clear hi9
  obtain ⟨M, hM⟩ : ∃ M, M = madeCells (Value.agg #[.int .i64 0, .int .i64 0, .int .i64 0]).cells (((zs.length : Nat) : Int).toNat * i0.size) := ⟨_, rfl⟩
  have hMs : M.size = zs.length * 3 := by rw [hM, size_madeCells, hz1]; simp
  have hmk : ∀ W : World, (Instr.makeSlice 37 (.int .i64 (zs.length : Int)) (.int .i64 (zs.length : Int))).run Tryz.prog W = .ok (.slice (some ⟨W.heap.size, 0, none⟩) zs.length zs.length) (W.alloc (.cells M 57)) := fun W => by
    have h := run_make (P := Tryz.prog) W 37 57 i0 _ Tryz.underlying37 hi hz0 .i64 .i64 (zs.length : Int) (zs.length : Int) (by omega) (by omega) (by rw [hz2]; omega) (by omega)
    rw [← hM] at h
    simpa using h
  have HR : Hid (CtRoom (w.alloc (.cells M 57)) w.heap.size 0 zs.length) := by
    refine ⟨by simp, fun j hj => ⟨⟨M[j]'(by omega), ?_⟩, by simp⟩⟩
    rw [Nat.zero_add, World.cell?_alloc_at _ _ _ _ rfl]
    simp [hMs, hj]
  clear hM hMs hi hz0 hz1 hz2
  go_enter Tryz.func95, Tryz.ntmps95
  go_wp2
  go_loopw [4] (fun i wr => ∃ (k : Nat), k ≤ zs.length ∧ i = .int .i64 k ∧ Hid (CtRoom wr w.heap.size 0 zs.length) ∧ Hid (CtsAt wr w.heap.size 0 (zs.take k)) ∧ Hid (Ext w wr)) (fun i _ => zs.length - (intOf i).toNat)
  case atStart => exact ⟨0, Nat.zero_le _, rfl, HR, fun i z h => by simp at h, (Ext.refl _).alloc _⟩
  case round =>
    obtain ⟨k, hk, rfl, HR1, HN1, HE⟩ := hrel
    by_cases hlt : k < zs.length
    · obtain ⟨z, hzk⟩ : ∃ z, zs[k]? = some z := ⟨_, List.getElem?_eq_getElem hlt⟩
      obtain ⟨b, off, rfl, hb, hN⟩ := HX.out (by omega)
      obtain ⟨d0, d1, d2⟩ := hN.ext hb HE.out k z hzk
      have HZ : Hid (zs[k]? = some z) := hzk
      clear hzk hN
      have hto := toCert_any z wr
      unfold ctagg at hto
      go_wp2_with fail
      refine hto.mono ?_
      rintro e w2 ⟨rfl, hb2⟩
      clear hto d0 d1 d2
      have HR2 : Hid (CtRoom w2 w.heap.size 0 zs.length) := HR1.out.ext hb2
      have HN2 : Hid (CtsAt w2 w.heap.size 0 (zs.take k)) := HN1.out.ext HR1.out.1 hb2
      have HE2 : Hid (Ext w w2) := HE.out.trans hb2
      clear hb2
      obtain ⟨⟨u0, r0⟩, f0⟩ := HR2.out.2 (k * 3) (by omega)
      obtain ⟨⟨u1, r1⟩, f1⟩ := HR2.out.2 (k * 3 + 1) (by omega)
      obtain ⟨⟨u2, r2⟩, f2⟩ := HR2.out.2 (k * 3 + 2) (by omega)
      rw [Nat.zero_add] at r0 r1 r2 f0 f1 f2
      have p1 := HR2.out.put z hlt
      have p2 := CtsAt.put HR2.out hlt HZ.out HN2.out
      have p3 := ext_putCt HE2.out w.heap.size (0 + k * 3) (Nat.le_refl _) z
      rw [Nat.zero_add] at p1 p2 p3
      have P1 : Hid _ := p1
      have P2 : Hid _ := p2
      have P3 : Hid _ := p3
      clear p1 p2 p3
      go_wp2
      exact ⟨⟨k + 1, by omega, by go_num, P1.out, P2.out, P3.out⟩, by simp [intOf]; omega⟩
    · have hke : k = zs.length := by omega
      subst hke
      go_wp2
      go_ret
      exact ⟨rfl, HR1.out, by have := HN1.out; rw [List.take_length] at this; exact this, HE.out⟩
theorem CtSlice.of {w : World} {g off cap : Nat} {zs : List Ct} (hg : g < w.heap.size) (h : CtsAt w g off zs) (h1 : zs.length ≤ cap) (h2 : cap ≤ maxLen) : CtSlice w (.slice (some ⟨g, off, none⟩) zs.length cap) zs :=
  ⟨_, _, rfl, h1, h2, fun _ => ⟨g, off, rfl, hg, h⟩⟩
theorem CtsAt.set_ne {w : World} {b off g o : Nat} {zs : List Ct} {v : Value} (h : CtsAt w b off zs) (hne : g ≠ b) : CtsAt (w.setCell ⟨g, o, none⟩ v) b off zs := by
  intro i z hz
  obtain ⟨c0, c1, c2⟩ := h i z hz
  refine ⟨?_, ?_, ?_⟩ <;> rw [iset_ne _ _ _ _ _ _ (Or.inl hne)] <;> assumption



theorem CtRoom.set {w : World} {g off n : Nat} (h : CtRoom w g off n) (o : Nat) (v : Value) : CtRoom (w.setCell ⟨g, o, none⟩ v) g off n := by
  refine ⟨by simpa using h.1, fun j hj => ⟨?_, by simpa using (h.2 j hj).2⟩⟩
  by_cases hj2 : o = off + j
  · subst hj2; exact ⟨_, iset_eq _ _ _ _ (h.2 j hj).1⟩
  · rw [iset_ne _ _ _ _ _ _ (Or.inr hj2)]; exact (h.2 j hj).1
theorem CtsAt.upd {w w' : World} {g off b : Nat} {zs : List Ct} (h : CtsAt w g off zs) (he : Upd b w w') (hne : g ≠ b) (hg : g < w.heap.size) : CtsAt w' g off zs := by
  intro i z hz
  obtain ⟨c0, c1, c2⟩ := h i z hz
  exact ⟨(he.at_ne _ _ hne hg).1.trans c0, (he.at_ne _ _ hne hg).1.trans c1, (he.at_ne _ _ hne hg).1.trans c2⟩
theorem CtRoom.upd {w w' : World} {g off n b : Nat} (h : CtRoom w g off n) (he : Upd b w w') (hne : g ≠ b) : CtRoom w' g off n :=
  ⟨Nat.lt_of_lt_of_le h.1 he.2.1, fun j hj => ⟨by rw [(he.at_ne _ _ hne h.1).1]; exact (h.2 j hj).1, by rw [(he.at_ne _ _ hne h.1).2]; exact (h.2 j hj).2⟩⟩
/-- The slice value v reads as zs, which lie in block g and may be written there. -/
def CtOwn (w : World) (v : Value) (g : Nat) (zs : List Ct) : Prop :=
  ∃ a cap, v = .slice a zs.length cap ∧ zs.length ≤ cap ∧ cap ≤ maxLen ∧ (0 < zs.length → ∃ off, a = some ⟨g, off, none⟩ ∧ CtRoom w g off zs.length ∧ CtsAt w g off zs)
theorem CtOwn.slice {w : World} {v : Value} {g : Nat} {zs : List Ct} (h : CtOwn w v g zs) : CtSlice w v zs := by
  obtain ⟨a, cap, h1, h2, h3, h4⟩ := h
  refine ⟨a, cap, h1, h2, h3, fun h0 => ?_⟩
  obtain ⟨off, e, hr, hN⟩ := h4 h0
  exact ⟨g, off, e, hr.1, hN⟩
theorem CtOwn.ext {w w' : World} {v : Value} {g : Nat} {zs : List Ct} (h : CtOwn w v g zs) (he : Ext w w') : CtOwn w' v g zs := by
  obtain ⟨a, cap, h1, h2, h3, h4⟩ := h
  refine ⟨a, cap, h1, h2, h3, fun h0 => ?_⟩
  obtain ⟨off, e, hr, hN⟩ := h4 h0
  exact ⟨off, e, hr.ext he, hN.ext hr.1 he⟩
theorem CtOwn.lt {w : World} {v : Value} {g : Nat} {zs : List Ct} (h : CtOwn w v g zs) (h0 : 0 < zs.length) : g < w.heap.size := by
  obtain ⟨a, cap, -, -, -, h4⟩ := h
  obtain ⟨off, -, hr, -⟩ := h4 h0
  exact hr.1
theorem CtOwn.nil {w w' : World} {v : Value} {g g' : Nat} {zs : List Ct} (h : CtOwn w v g zs) (h0 : ¬ 0 < zs.length) : CtOwn w' v g' zs := by
  obtain ⟨a, cap, h1, h2, h3, -⟩ := h
  exact ⟨a, cap, h1, h2, h3, fun h => absurd h h0⟩
theorem CtOwn.upd' {w w' : World} {v : Value} {g b : Nat} {zs : List Ct} (h : CtOwn w v g zs) (he : Upd b w w') (hne : 0 < zs.length → g ≠ b) : CtOwn w' v g zs := by
  by_cases h0 : 0 < zs.length
  · obtain ⟨a, cap, h1, h2, h3, h4⟩ := h
    refine ⟨a, cap, h1, h2, h3, fun _ => ?_⟩
    obtain ⟨off, e, hr, hN⟩ := h4 h0
    exact ⟨off, e, hr.upd he (hne h0), hN.upd he (hne h0) hr.1⟩
  · exact h.nil h0

set_option maxHeartbeats 2000000 in
set_option maxRecDepth 100000 in
theorem toInt64S_at (v : Value) (l : List Int) (w : World) (hS : ISlice w v l) (hl : l.length ≤ 1048576) :
    Calls Tryz.prog 96 #[v] w fun e w' => e = .returned (.slice (some ⟨w.heap.size, 0, none⟩) l.length l.length) ∧ IRoom w' w.heap.size 0 l.length ∧ NumsAt w' w.heap.size 0 l ∧ Ext w w' := by
  obtain ⟨a, cap, rfl, hlc, hcm, hx⟩ := hS
  have HX : Hid (0 < l.length → ∃ b off, a = some ⟨b, off, none⟩ ∧ b < w.heap.size ∧ NumsAt w b off l) := hx
  clear hx
  unfold maxLen at hcm
  have hi9 : (Tryz.prog.info? 2).map (fun i => (i.zero, i.size, i.bytes)) = some (some (.int .i64 0), 1, 8) := by kernel_rfl
  obtain ⟨i0, hi, hxx⟩ := Option.map_eq_some_iff.1 hi9
  simp only [Prod.mk.injEq] at hxx
  obtain ⟨hz0, hz1, hz2⟩ := hxx
  clear hi9
  obtain ⟨M, hM⟩ : ∃ M, M = madeCells (Value.int .i64 0).cells (((l.length : Nat) : Int).toNat * i0.size) := ⟨_, rfl⟩
  have hMs : M.size = l.length := by rw [hM, size_madeCells, hz1]; simp
  have hmk : ∀ W : World, (Instr.makeSlice 38 (.int .i64 (l.length : Int)) (.int .i64 (l.length : Int))).run Tryz.prog W = .ok (.slice (some ⟨W.heap.size, 0, none⟩) l.length l.length) (W.alloc (.cells M 2)) := fun W => by
    have h := run_make (P := Tryz.prog) W 38 2 i0 _ Tryz.underlying38 hi hz0 .i64 .i64 (l.length : Int) (l.length : Int) (by omega) (by omega) (by rw [hz2]; omega) (by omega)
    rw [← hM] at h
    simpa using h
  have HR : Hid (IRoom (w.alloc (.cells M 2)) w.heap.size 0 l.length) := by
    refine ⟨by simp, fun j hj => ⟨⟨M[j]'(by omega), ?_⟩, by simp⟩⟩
    rw [Nat.zero_add, World.cell?_alloc_at _ _ _ _ rfl]
    simp [hMs, hj]
  clear hM hMs hi hz0 hz1 hz2
  go_enter Tryz.func96, Tryz.ntmps96
  go_wp2
  go_loopw [4] (fun i wr => ∃ (k : Nat), k ≤ l.length ∧ i = .int .i64 k ∧ Hid (IRoom wr w.heap.size 0 l.length) ∧ Hid (NumsAt wr w.heap.size 0 (l.take k)) ∧ Hid (Ext w wr)) (fun i _ => l.length - (intOf i).toNat)
  case atStart => exact ⟨0, Nat.zero_le _, rfl, HR, fun i z h => by simp at h, (Ext.refl _).alloc _⟩
  case round =>
    obtain ⟨k, hk, rfl, HR1, HN1, HE⟩ := hrel
    by_cases hlt : k < l.length
    · obtain ⟨x, hxk⟩ : ∃ x, l[k]? = some x := ⟨_, List.getElem?_eq_getElem hlt⟩
      obtain ⟨b, off, rfl, hb, hN⟩ := HX.out (by omega)
      have d0 := hN.ext hb HE.out k x hxk
      have HZ : Hid (l[k]? = some x) := hxk
      clear hxk hN
      obtain ⟨⟨u0, r0⟩, f0⟩ := HR1.out.2 k hlt
      have p1 := HR1.out.set (.int .i64 x) hlt
      have p2 := NumsAt.set HR1.out hlt HZ.out HN1.out
      have p3 : Ext w (wr.setCell ⟨w.heap.size, 0 + k, none⟩ (.int .i64 x)) := HE.out.setCell (p := ⟨w.heap.size, 0 + k, none⟩) (Nat.le_refl _) _
      rw [Nat.zero_add] at r0 f0 p1 p2 p3
      have P1 : Hid _ := p1
      have P2 : Hid _ := p2
      have P3 : Hid _ := p3
      clear p1 p2 p3
      go_wp2
      exact ⟨⟨k + 1, by omega, by go_num, P1.out, P2.out, P3.out⟩, by simp [intOf]; omega⟩
    · have hke : k = l.length := by omega
      subst hke
      go_wp2
      go_ret
      exact ⟨rfl, HR1.out, by have := HN1.out; rw [List.take_length] at this; exact this, HE.out⟩
theorem NumsAt.set_ne {w : World} {b off g o : Nat} {l : List Int} {v : Value} (h : NumsAt w b off l) (hne : g ≠ b) : NumsAt (w.setCell ⟨g, o, none⟩ v) b off l := by
  intro i x hx
  rw [iset_ne _ _ _ _ _ _ (Or.inl hne)]
  exact h i x hx
end Go.Proofs.YtecgjdgfjgcmdaaGreat
