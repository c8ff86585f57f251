/- operations: slices of them, the laws' functions over them; requests. -/
import Derived.Test.YtdfokjjkhabneaaGreatDoorV2
import Derived.Test.YtdfokjjkhabneaaGreatDoorZ1
namespace Go.Proofs.YtdfokjjkhabneaaGreatDoor
open Go.RowKit

structure Opn where
  kind : Int
  path : ByteArray
  data : Int
  version : Int
  seq : Bool
  own : Bool
  deriving DecidableEq
instance : Inhabited Opn := ⟨⟨0, ByteArray.empty, 0, 0, false, false⟩⟩

def oagg (z : Opn) : Value := .agg #[.int .i64 z.kind, .string z.path, .int .i64 z.data, .int .i64 z.version, .bool z.seq, .bool z.own]

set_option maxHeartbeats 1000000 in
theorem toOp_any (z : Opn) (w : World) : Calls Tryz.prog 81 #[oagg z] w fun e w' => e = .returned (oagg z) ∧ Ext w w' := by
  unfold oagg
  go_enter Tryz.func81, Tryz.ntmps81
  go_wp2
  exact bodyPost_ret (v := oagg z) (by simp [results, Tryz.results81, go_sem, oagg]) rfl ⟨rfl, (((Ext.refl _).alloc _).alloc _).alloc _⟩

set_option maxHeartbeats 1000000 in
theorem szOp_any (z : Opn) (n : Int) (w : World) (h0 : 0 ≤ n) (h1 : n ≤ 1048576) (hz : z.path.size ≤ maxLen) :
    Calls Tryz.prog 80 #[oagg z, .int .i64 n] w fun e w' => e = .returned (.int .i64 (if n < z.path.size then -1 else n - z.path.size)) ∧ Ext w w' := by
  unfold maxLen at hz
  unfold oagg
  by_cases h : n < z.path.size
  · rw [if_pos h]
    go_enter Tryz.func80, Tryz.ntmps80
    go_wp2
    go_ret
    exact ⟨rfl, (Ext.refl _).alloc _⟩
  · rw [if_neg h]
    go_enter Tryz.func80, Tryz.ntmps80
    go_wp2
    go_ret
    exact ⟨rfl, (Ext.refl _).alloc _⟩

set_option maxHeartbeats 1000000 in
theorem eqOp_same (z : Opn) (w : World) : Calls Tryz.prog 47 #[oagg z, oagg z] w fun e w' => e = .returned (.bool true) ∧ Ext w w' := by
  have h1 : (z.seq != z.seq) = false := by simp
  have h2 : (z.own != z.own) = false := by simp
  unfold oagg
  go_enter Tryz.func47, Tryz.ntmps47
  go_wp2
  go_ret
  exact ⟨rfl, ((Ext.refl _).alloc _).alloc _⟩

/-- The operation z lies in block b from o on. -/
def OAt (w : World) (b o : Nat) (z : Opn) : Prop := w.cell? ⟨b, o, none⟩ = some (.int .i64 z.kind) ∧ w.cell? ⟨b, o + 1, none⟩ = some (.string z.path) ∧ w.cell? ⟨b, o + 2, none⟩ = some (.int .i64 z.data) ∧ w.cell? ⟨b, o + 3, none⟩ = some (.int .i64 z.version) ∧ w.cell? ⟨b, o + 4, none⟩ = some (.bool z.seq) ∧ w.cell? ⟨b, o + 5, none⟩ = some (.bool z.own)
theorem OAt.ext {w w' : World} {b o : Nat} {z : Opn} (h : OAt w b o z) (hb : b < w.heap.size) (he : Ext w w') : OAt w' b o z := by
  obtain ⟨c0, c1, c2, c3, c4, c5⟩ := h
  obtain ⟨hc, _⟩ := Ext.cell he
  exact ⟨(hc _ _ hb).trans c0, (hc _ _ hb).trans c1, (hc _ _ hb).trans c2, (hc _ _ hb).trans c3, (hc _ _ hb).trans c4, (hc _ _ hb).trans c5⟩
/-- The operations zs lie in block b, from off on. -/
def OpsAt (w : World) (b off : Nat) (zs : List Opn) : Prop := ∀ (i : Nat) z, zs[i]? = some z → OAt w b (off + i * 6) z
theorem OpsAt.ext {w w' : World} {b off : Nat} {zs : List Opn} (h : OpsAt w b off zs) (hb : b < w.heap.size) (he : Ext w w') : OpsAt w' b off zs :=
  fun i z hz => (h i z hz).ext hb he
/-- The slice value v reads as the operations zs. -/
def OSlice (w : World) (v : Value) (zs : List Opn) : Prop :=
  ∃ a cap, v = .slice a zs.length cap ∧ zs.length ≤ cap ∧ cap ≤ maxLen ∧ (0 < zs.length → ∃ b off, a = some ⟨b, off, none⟩ ∧ b < w.heap.size ∧ OpsAt w b off zs)
theorem OSlice.ext {w w' : World} {v : Value} {zs : List Opn} (h : OSlice w v zs) (he : Ext w w') : OSlice w' v zs := by
  obtain ⟨a, cap, h1, h2, h3, h4⟩ := h
  refine ⟨a, cap, h1, h2, h3, fun h0 => ?_⟩
  obtain ⟨b, off, e, hb, hN⟩ := h4 h0
  exact ⟨b, off, e, Nat.lt_of_lt_of_le hb he.size, hN.ext hb he⟩

set_option maxHeartbeats 1000000 in
set_option maxRecDepth 100000 in
theorem szOpS_le (v : Value) (zs : List Opn) (n : Int) (w : World) (h0 : 0 ≤ n) (h1 : n ≤ 1048576) (hS : OSlice w v zs) (hz : ∀ z ∈ zs, z.path.size ≤ maxLen) :
    Calls Tryz.prog 48 #[v, .int .i64 n] w fun e w' => ∃ r : Int, e = .returned (.int .i64 r) ∧ -1 ≤ r ∧ r ≤ 1048576 ∧ (0 ≤ r → zs.length ≤ 1048576 ∧ ∀ z ∈ zs, z.path.size ≤ 1048576) ∧ Ext w w' := by
  obtain ⟨a, cap, rfl, hlc, hcm, hx⟩ := hS
  have HX : Hid (0 < zs.length → ∃ b off, a = some ⟨b, off, none⟩ ∧ b < w.heap.size ∧ OpsAt w b off zs) := hx
  clear hx
  have HM : Hid (∀ z ∈ zs, z.path.size ≤ maxLen) := hz
  clear hz
  unfold maxLen at hcm
  by_cases hn : n < zs.length
  · go_enter Tryz.func48, Tryz.ntmps48
    go_wp2
    go_ret
    exact ⟨_, rfl, by omega, by omega, fun h => by omega, Ext.refl _⟩
  · go_enter Tryz.func48, Tryz.ntmps48
    go_wp2
    go_loopw [1, 5] (fun lv i wr => ∃ (k : Nat) (m : Int), k ≤ zs.length ∧ i = .int .i64 k ∧ lv = .int .i64 m ∧ 0 ≤ m ∧ m ≤ 1048576 ∧ Hid (∀ (j : Nat) z, j < k → zs[j]? = some z → z.path.size ≤ 1048576) ∧ Hid (Ext w wr)) (fun _ i _ => zs.length - (intOf i).toNat)
    case atStart => exact ⟨0, _, Nat.zero_le _, rfl, rfl, by omega, by omega, fun j z h => by omega, Ext.refl _⟩
    case round =>
      obtain ⟨k, m, hk, rfl, rfl, hm0, hm1, HA, HE⟩ := hrel
      by_cases hlt : k < zs.length
      · obtain ⟨z, hzk⟩ : ∃ z, zs[k]? = some z := ⟨_, List.getElem?_eq_getElem hlt⟩
        obtain ⟨b, off, rfl, hb, hN⟩ := HX.out (by omega)
        obtain ⟨d0, d1, d2, d3, d4, d5⟩ := hN.ext hb HE.out k z hzk
        have hzm : z.path.size ≤ maxLen := HM.out z (List.mem_of_getElem? hzk)
        have HZ : Hid (zs[k]? = some z) := hzk
        clear hzk hN
        have hsz := szOp_any z m wr hm0 hm1 hzm
        unfold oagg at hsz
        by_cases hpz : m < z.path.size
        · rw [if_pos hpz] at hsz
          go_wp2_with fail
          refine hsz.mono ?_
          rintro e w2 ⟨rfl, hb2⟩
          have HE2 : Hid (Ext w w2) := HE.out.trans hb2
          clear hb2 hsz
          go_wp2
          go_ret
          exact ⟨_, rfl, by omega, by omega, fun h => by omega, HE2.out⟩
        · rw [if_neg hpz] at hsz
          have HA2 : Hid (∀ (j : Nat) z, j < k + 1 → zs[j]? = some z → z.path.size ≤ 1048576) := by
            intro j z' hj hz'
            by_cases hjk : j = k
            · subst hjk; rw [HZ.out] at hz'; cases hz'; omega
            · exact HA.out j z' (by omega) hz'
          go_wp2_with fail
          refine hsz.mono ?_
          rintro e w2 ⟨rfl, hb2⟩
          have HE2 : Hid (Ext w w2) := HE.out.trans hb2
          clear hb2 hsz
          go_wp2
          exact ⟨⟨k + 1, _, by omega, by go_num, rfl, by omega, by omega, HA2, HE2⟩, by simp [intOf]; omega⟩
      · go_wp2
        go_ret
        exact ⟨m, rfl, by omega, hm1, fun _ => ⟨by omega, fun z hz => by
          obtain ⟨j, hj⟩ := List.getElem?_of_mem hz
          exact HA.out j z (by have := (List.getElem?_eq_some_iff.1 hj).1; omega) hj⟩, HE.out⟩

set_option maxHeartbeats 1000000 in
set_option maxRecDepth 100000 in
theorem eqOpS_same (v v' : Value) (zs : List Opn) (w : World) (hS : OSlice w v zs) (hS' : OSlice w v' zs) :
    Calls Tryz.prog 50 #[v, v'] w fun e w' => e = .returned (.bool true) ∧ Ext w w' := by
  obtain ⟨a, cap, rfl, hlc, hcm, hx⟩ := hS
  obtain ⟨a', cap', rfl, hlc', hcm', hx'⟩ := hS'
  have HX : Hid (0 < zs.length → ∃ b off, a = some ⟨b, off, none⟩ ∧ b < w.heap.size ∧ OpsAt w b off zs) := hx
  have HX' : Hid (0 < zs.length → ∃ b off, a' = some ⟨b, off, none⟩ ∧ b < w.heap.size ∧ OpsAt w b off zs) := hx'
  clear hx hx'
  unfold maxLen at hcm
  go_enter Tryz.func50, Tryz.ntmps50
  go_wp2
  go_loopw [5] (fun i wr => ∃ (k : Nat), k ≤ zs.length ∧ i = .int .i64 k ∧ Hid (Ext w wr)) (fun i _ => zs.length - (intOf i).toNat)
  case atStart => exact ⟨0, Nat.zero_le _, rfl, Ext.refl _⟩
  case round =>
    obtain ⟨k, hk, rfl, HE⟩ := hrel
    by_cases hlt : k < zs.length
    · obtain ⟨z, hzk⟩ : ∃ z, zs[k]? = some z := ⟨_, List.getElem?_eq_getElem hlt⟩
      obtain ⟨b, off, rfl, hb, hN⟩ := HX.out (by omega)
      obtain ⟨b', off', rfl, hb', hN'⟩ := HX'.out (by omega)
      obtain ⟨d0, d1, d2, d3, d4, d5⟩ := hN.ext hb HE.out k z hzk
      obtain ⟨e0, e1, e2, e3, e4, e5⟩ := hN'.ext hb' HE.out k z hzk
      clear hzk hN hN'
      have HQ : Hid (∀ wx : World, Calls Tryz.prog 47 #[oagg z, oagg z] wx fun e w' => e = .returned (.bool true) ∧ Ext wx w') := eqOp_same z
      unfold oagg at HQ
      go_wp2
      go_region_with (go_at_call 47; refine (HQ.out _).mono ?_; rintro e w2 ⟨rfl, hb2⟩)
      all_goals
        go_wp2
        exact ⟨⟨k + 1, by omega, by go_num, HE.out.trans (((Ext.refl _).drew).trans hb2)⟩, by simp [intOf]; omega⟩
    · go_wp2
      go_ret
      exact ⟨rfl, HE.out⟩

/-! ### Operations that are stored -/
def ORoom (w : World) (g off n : Nat) : Prop := g < w.heap.size ∧ ∀ j, j < n * 6 → (∃ u, w.cell? ⟨g, off + j, none⟩ = some u) ∧ w.frozen? ⟨g, off + j, none⟩ = false
def putO (w : World) (g o : Nat) (z : Opn) : World := ((((((w.setCell ⟨g, o, none⟩ (.int .i64 z.kind)).setCell ⟨g, o + 1, none⟩ (.string z.path)).setCell ⟨g, o + 2, none⟩ (.int .i64 z.data)).setCell ⟨g, o + 3, none⟩ (.int .i64 z.version)).setCell ⟨g, o + 4, none⟩ (.bool z.seq)).setCell ⟨g, o + 5, none⟩ (.bool z.own))
theorem putO_ne (w : World) (g o b k : Nat) (z : Opn) (h : g ≠ b ∨ k < o ∨ o + 6 ≤ k) : (putO w g o z).cell? ⟨b, k, none⟩ = w.cell? ⟨b, k, none⟩ := by
  unfold putO
  rw [iset_ne _ _ _ _ _ _ (by omega), iset_ne _ _ _ _ _ _ (by omega), iset_ne _ _ _ _ _ _ (by omega), iset_ne _ _ _ _ _ _ (by omega), iset_ne _ _ _ _ _ _ (by omega), iset_ne _ _ _ _ _ _ (by omega)]
theorem putO_eq (w : World) (g o : Nat) (z : Opn) (h : ∀ j, j < 6 → ∃ u, w.cell? ⟨g, o + j, none⟩ = some u) : OAt (putO w g o z) g o z := by
  unfold putO
  refine ⟨?_, ?_, ?_, ?_, ?_, ?_⟩
  · rw [iset_ne _ _ _ _ _ _ (by omega), iset_ne _ _ _ _ _ _ (by omega), iset_ne _ _ _ _ _ _ (by omega), iset_ne _ _ _ _ _ _ (by omega), iset_ne _ _ _ _ _ _ (by omega)]; apply iset_eq; exact h 0 (by omega)
  · rw [iset_ne _ _ _ _ _ _ (by omega), iset_ne _ _ _ _ _ _ (by omega), iset_ne _ _ _ _ _ _ (by omega), iset_ne _ _ _ _ _ _ (by omega)]; apply iset_eq; rw [iset_ne _ _ _ _ _ _ (by omega)]; exact h 1 (by omega)
  · rw [iset_ne _ _ _ _ _ _ (by omega), iset_ne _ _ _ _ _ _ (by omega), iset_ne _ _ _ _ _ _ (by omega)]; apply iset_eq; rw [iset_ne _ _ _ _ _ _ (by omega), iset_ne _ _ _ _ _ _ (by omega)]; exact h 2 (by omega)
  · rw [iset_ne _ _ _ _ _ _ (by omega), iset_ne _ _ _ _ _ _ (by omega)]; apply iset_eq; rw [iset_ne _ _ _ _ _ _ (by omega), iset_ne _ _ _ _ _ _ (by omega), iset_ne _ _ _ _ _ _ (by omega)]; exact h 3 (by omega)
  · rw [iset_ne _ _ _ _ _ _ (by omega)]; apply iset_eq; rw [iset_ne _ _ _ _ _ _ (by omega), iset_ne _ _ _ _ _ _ (by omega), iset_ne _ _ _ _ _ _ (by omega), iset_ne _ _ _ _ _ _ (by omega)]; exact h 4 (by omega)
  · apply iset_eq; rw [iset_ne _ _ _ _ _ _ (by omega), iset_ne _ _ _ _ _ _ (by omega), iset_ne _ _ _ _ _ _ (by omega), iset_ne _ _ _ _ _ _ (by omega), iset_ne _ _ _ _ _ _ (by omega)]; exact h 5 (by omega)
theorem putO_size (w : World) (g o : Nat) (z : Opn) : (putO w g o z).heap.size = w.heap.size := by simp [putO]
theorem putO_frozen (w : World) (g o : Nat) (z : Opn) (a : Addr) : (putO w g o z).frozen? a = w.frozen? a := by simp [putO]
theorem ORoom.put {w : World} {g off n k : Nat} (h : ORoom w g off n) (z : Opn) (hk : k < n) : ORoom (putO w g (off + k * 6) z) g off n := by
  refine ⟨by rw [putO_size]; exact h.1, fun j hj => ⟨?_, by rw [putO_frozen]; exact (h.2 j hj).2⟩⟩
  obtain ⟨q0, q1, q2, q3, q4, q5⟩ := putO_eq w g (off + k * 6) z (fun i hi => by rw [Nat.add_assoc]; exact (h.2 (k * 6 + i) (by omega)).1)
  by_cases hh : off + j < off + k * 6 ∨ off + k * 6 + 6 ≤ off + j
  · rw [putO_ne _ _ _ _ _ _ (Or.inr hh)]; exact (h.2 j hj).1
  · have hj5 : j = k * 6 ∨ j = k * 6 + 1 ∨ j = k * 6 + 2 ∨ j = k * 6 + 3 ∨ j = k * 6 + 4 ∨ j = k * 6 + 5 := by omega
    rcases hj5 with e | e | e | e | e | e <;> subst e
    · exact ⟨_, q0⟩
    · exact ⟨_, q1⟩
    · exact ⟨_, q2⟩
    · exact ⟨_, q3⟩
    · exact ⟨_, q4⟩
    · exact ⟨_, q5⟩
theorem ORoom.ext {w w' : World} {g off n : Nat} (h : ORoom w g off n) (he : Ext w w') : ORoom w' g off n := by
  obtain ⟨hc, hf⟩ := Ext.cell he
  exact ⟨Nat.lt_of_lt_of_le h.1 he.size, fun j hj => ⟨by rw [hc _ _ h.1]; exact (h.2 j hj).1, by rw [hf _ _ h.1]; exact (h.2 j hj).2⟩⟩
theorem OpsAt.put {w : World} {g off n k : Nat} {zs : List Opn} {z : Opn} (hr : ORoom w g off n) (hk : k < n) (hz : zs[k]? = some z) (h : OpsAt w g off (zs.take k)) : OpsAt (putO w g (off + k * 6) z) g off (zs.take (k + 1)) := by
  intro i z' hi
  rw [List.getElem?_take] at hi
  split at hi
  · by_cases hik : i = k
    · subst hik
      rw [hz] at hi
      cases hi
      exact putO_eq w g (off + i * 6) z (fun j hj => by rw [Nat.add_assoc]; exact (hr.2 (i * 6 + j) (by omega)).1)
    · obtain ⟨c0, c1, c2, c3, c4, c5⟩ := h i z' (by rw [List.getElem?_take, if_pos (by omega)]; exact hi)
      exact ⟨by rw [putO_ne _ _ _ _ _ _ (by omega)]; exact c0, by rw [putO_ne _ _ _ _ _ _ (by omega)]; exact c1, by rw [putO_ne _ _ _ _ _ _ (by omega)]; exact c2, by rw [putO_ne _ _ _ _ _ _ (by omega)]; exact c3, by rw [putO_ne _ _ _ _ _ _ (by omega)]; exact c4, by rw [putO_ne _ _ _ _ _ _ (by omega)]; exact c5⟩
  · cases hi
theorem ext_putO {w w' : World} (h : Ext w w') (g o : Nat) (hg : w.heap.size ≤ g) (z : Opn) : Ext w (putO w' g o z) :=
  ((((((h.setCell (p := ⟨g, o, none⟩) hg _).setCell (p := ⟨g, o + 1, none⟩) hg _).setCell (p := ⟨g, o + 2, none⟩) hg _).setCell (p := ⟨g, o + 3, none⟩) hg _).setCell (p := ⟨g, o + 4, none⟩) hg _).setCell (p := ⟨g, o + 5, none⟩) hg _)

set_option maxHeartbeats 2000000 in
set_option maxRecDepth 100000 in
theorem toOpS_at (v : Value) (zs : List Opn) (w : World) (hS : OSlice w v zs) (hl : zs.length ≤ 1048576) :
    Calls Tryz.prog 49 #[v] w fun e w' => e = .returned (.slice (some ⟨w.heap.size, 0, none⟩) zs.length zs.length) ∧ ORoom w' w.heap.size 0 zs.length ∧ OpsAt w' w.heap.size 0 zs ∧ Ext w w' := by
  obtain ⟨a, cap, rfl, hlc, hcm, hx⟩ := hS
  have HX : Hid (0 < zs.length → ∃ b off, a = some ⟨b, off, none⟩ ∧ b < w.heap.size ∧ OpsAt w b off zs) := hx
  clear hx
  unfold maxLen at hcm
  have hi9 : (Tryz.prog.info? 26).map (fun i => (i.zero, i.size, i.bytes)) = some (some (.agg #[.int .i64 0, .string ByteArray.empty, .int .i64 0, .int .i64 0, .bool false, .bool false]), 6, 48) := by kernel_rfl
  obtain ⟨i0, hi, hxx⟩ := Option.map_eq_some_iff.1 hi9
  simp only [Prod.mk.injEq] at hxx
  obtain ⟨hz0, hz1, hz2⟩ := hxx
  clear hi9
  obtain ⟨M, hM⟩ : ∃ M, M = madeCells (Value.agg #[.int .i64 0, .string ByteArray.empty, .int .i64 0, .int .i64 0, .bool false, .bool false]).cells (((zs.length : Nat) : Int).toNat * i0.size) := ⟨_, rfl⟩
  have hMs : M.size = zs.length * 6 := by rw [hM, size_madeCells, hz1]; simp
  have hmk : ∀ W : World, (Instr.makeSlice 35 (.int .i64 (zs.length : Int)) (.int .i64 (zs.length : Int))).run Tryz.prog W = .ok (.slice (some ⟨W.heap.size, 0, none⟩) zs.length zs.length) (W.alloc (.cells M 26)) := fun W => by
    have h := run_make (P := Tryz.prog) W 35 26 i0 _ Tryz.underlying35 hi hz0 .i64 .i64 (zs.length : Int) (zs.length : Int) (by omega) (by omega) (by rw [hz2]; omega) (by omega)
    rw [← hM] at h
    simpa using h
  have HR : Hid (ORoom (w.alloc (.cells M 26)) w.heap.size 0 zs.length) := by
    refine ⟨by simp, fun j hj => ⟨⟨M[j]'(by omega), ?_⟩, by simp⟩⟩
    rw [Nat.zero_add, World.cell?_alloc_at _ _ _ _ rfl]
    simp [hMs, hj]
  clear hM hMs hi hz0 hz1 hz2
  go_enter Tryz.func49, Tryz.ntmps49
  go_wp2
  go_loopw [4] (fun i wr => ∃ (k : Nat), k ≤ zs.length ∧ i = .int .i64 k ∧ Hid (ORoom wr w.heap.size 0 zs.length) ∧ Hid (OpsAt wr w.heap.size 0 (zs.take k)) ∧ Hid (Ext w wr)) (fun i _ => zs.length - (intOf i).toNat)
  case atStart => exact ⟨0, Nat.zero_le _, rfl, HR, fun i z h => by simp at h, (Ext.refl _).alloc _⟩
  case round =>
    obtain ⟨k, hk, rfl, HR1, HN1, HE⟩ := hrel
    by_cases hlt : k < zs.length
    · obtain ⟨z, hzk⟩ : ∃ z, zs[k]? = some z := ⟨_, List.getElem?_eq_getElem hlt⟩
      obtain ⟨b, off, rfl, hb, hN⟩ := HX.out (by omega)
      obtain ⟨d0, d1, d2, d3, d4, d5⟩ := hN.ext hb HE.out k z hzk
      have HZ : Hid (zs[k]? = some z) := hzk
      clear hzk hN
      have hto := toOp_any z wr
      unfold oagg at hto
      go_wp2_with fail
      refine hto.mono ?_
      rintro e w2 ⟨rfl, hb2⟩
      clear hto d0 d1 d2 d3 d4 d5
      have HR2 : Hid (ORoom w2 w.heap.size 0 zs.length) := HR1.out.ext hb2
      have HN2 : Hid (OpsAt w2 w.heap.size 0 (zs.take k)) := HN1.out.ext HR1.out.1 hb2
      have HE2 : Hid (Ext w w2) := HE.out.trans hb2
      clear hb2
      obtain ⟨⟨u0, r0⟩, f0⟩ := HR2.out.2 (k * 6) (by omega)
      obtain ⟨⟨u1, r1⟩, f1⟩ := HR2.out.2 (k * 6 + 1) (by omega)
      obtain ⟨⟨u2, r2⟩, f2⟩ := HR2.out.2 (k * 6 + 2) (by omega)
      obtain ⟨⟨u3, r3⟩, f3⟩ := HR2.out.2 (k * 6 + 3) (by omega)
      obtain ⟨⟨u4, r4⟩, f4⟩ := HR2.out.2 (k * 6 + 4) (by omega)
      obtain ⟨⟨u5, r5⟩, f5⟩ := HR2.out.2 (k * 6 + 5) (by omega)
      rw [Nat.zero_add] at r0 r1 r2 r3 r4 r5 f0 f1 f2 f3 f4 f5
      have p1 := HR2.out.put z hlt
      have p2 := OpsAt.put HR2.out hlt HZ.out HN2.out
      have p3 := ext_putO HE2.out w.heap.size (0 + k * 6) (Nat.le_refl _) z
      rw [Nat.zero_add] at p1 p2 p3
      have P1 : Hid _ := p1
      have P2 : Hid _ := p2
      have P3 : Hid _ := p3
      clear p1 p2 p3
      go_wp2
      exact ⟨⟨k + 1, by omega, by go_num, P1.out, P2.out, P3.out⟩, by simp [intOf]; omega⟩
    · have hke : k = zs.length := by omega
      subst hke
      go_wp2
      go_ret
      exact ⟨rfl, HR1.out, by have := HN1.out; rw [List.take_length] at this; exact this, HE.out⟩
theorem OSlice.of {w : World} {g off cap : Nat} {zs : List Opn} (hg : g < w.heap.size) (h : OpsAt w g off zs) (h1 : zs.length ≤ cap) (h2 : cap ≤ maxLen) : OSlice w (.slice (some ⟨g, off, none⟩) zs.length cap) zs :=
  ⟨_, _, rfl, h1, h2, fun _ => ⟨g, off, rfl, hg, h⟩⟩
theorem OpsAt.set_ne {w : World} {b off g o : Nat} {zs : List Opn} {v : Value} (h : OpsAt w b off zs) (hne : g ≠ b) : OpsAt (w.setCell ⟨g, o, none⟩ v) b off zs := by
  intro i z hz
  obtain ⟨c0, c1, c2, c3, c4, c5⟩ := h i z hz
  refine ⟨?_, ?_, ?_, ?_, ?_, ?_⟩ <;> rw [iset_ne _ _ _ _ _ _ (Or.inl hne)] <;> assumption

/-! ### Requests -/
structure Rq where
  client : Int
  number : Int
  time : Int
  ops : List Opn
def ragg (r : Rq) (v : Value) : Value := .agg #[.int .i64 r.client, .int .i64 r.number, .int .i64 r.time, v]

set_option maxHeartbeats 1000000 in
set_option maxRecDepth 100000 in
theorem szRequest_le (r : Rq) (v : Value) (n : Int) (w : World) (h0 : 0 ≤ n) (h1 : n ≤ 1048576) (hS : OSlice w v r.ops) (hz : ∀ z ∈ r.ops, z.path.size ≤ maxLen) :
    Calls Tryz.prog 19 #[ragg r v, .int .i64 n] w fun e w' => ∃ q : Int, e = .returned (.int .i64 q) ∧ -1 ≤ q ∧ q ≤ 1048576 ∧ (0 ≤ q → r.ops.length ≤ 1048576 ∧ ∀ z ∈ r.ops, z.path.size ≤ 1048576) ∧ Ext w w' := by
  have HC : Hid (∀ wx : World, Ext w wx → Calls Tryz.prog 48 #[v, .int .i64 n] wx fun e w' => ∃ q : Int, e = .returned (.int .i64 q) ∧ -1 ≤ q ∧ q ≤ 1048576 ∧ (0 ≤ q → r.ops.length ≤ 1048576 ∧ ∀ z ∈ r.ops, z.path.size ≤ 1048576) ∧ Ext wx w') := fun wx he => szOpS_le v r.ops n wx h0 h1 (hS.ext he) hz
  obtain ⟨a, cap, rfl, -, -, -⟩ := hS
  clear hz
  unfold ragg
  go_enter Tryz.func19, Tryz.ntmps19
  go_wp2_with fail
  refine (HC.out _ ((Ext.refl _).alloc _)).mono ?_
  rintro e w1 ⟨q, rfl, hq0, hq1, hq2, hb⟩
  have HQ : Hid (0 ≤ q → r.ops.length ≤ 1048576 ∧ ∀ z ∈ r.ops, z.path.size ≤ 1048576) := hq2
  have HB : Hid (Ext w w1) := ((Ext.refl _).alloc _).trans hb
  clear hb hq2
  by_cases hneg : q < 0
  · go_wp2
    go_ret
    exact ⟨_, rfl, by omega, by omega, fun h => by omega, HB.out⟩
  · go_wp2
    go_ret
    exact ⟨_, rfl, hq0, hq1, HQ.out, HB.out⟩

/-- A request in a box of its own. -/
def RBoxAt (w : World) (b : Nat) (r : Rq) (v : Value) : Prop := b < w.heap.size ∧ (w.cell? ⟨b, 0, none⟩ = some (.int .i64 r.client) ∧ w.cell? ⟨b, 1, none⟩ = some (.int .i64 r.number) ∧ w.cell? ⟨b, 2, none⟩ = some (.int .i64 r.time) ∧ w.cell? ⟨b, 3, none⟩ = some v) ∧ w.frozen? ⟨b, 0, none⟩ = false ∧ w.frozen? ⟨b, 1, none⟩ = false ∧ w.frozen? ⟨b, 2, none⟩ = false ∧ w.frozen? ⟨b, 3, none⟩ = false
theorem RBoxAt.ext {w w' : World} {b : Nat} {r : Rq} {v : Value} (h : RBoxAt w b r v) (he : Ext w w') : RBoxAt w' b r v := by
  obtain ⟨hc, hf⟩ := Ext.cell he
  obtain ⟨hb, ⟨c0, c1, c2, c3⟩, f0, f1, f2, f3⟩ := h
  exact ⟨Nat.lt_of_lt_of_le hb he.size, ⟨(hc _ _ hb).trans c0, (hc _ _ hb).trans c1, (hc _ _ hb).trans c2, (hc _ _ hb).trans c3⟩, (hf _ _ hb).trans f0, (hf _ _ hb).trans f1, (hf _ _ hb).trans f2, (hf _ _ hb).trans f3⟩
theorem rbox_new (w : World) (r : Rq) (v : Value) (t : TypeId) : RBoxAt (w.alloc (.cells #[.int .i64 r.client, .int .i64 r.number, .int .i64 r.time, v] t)) w.heap.size r v := ⟨by simp, ⟨by simp, by simp, by simp, by simp⟩, by simp, by simp, by simp, by simp⟩

set_option maxHeartbeats 1000000 in
set_option maxRecDepth 100000 in
theorem toRequest_any (r : Rq) (v : Value) (w : World) (hS : OSlice w v r.ops) (hl : r.ops.length ≤ 1048576) :
    Calls Tryz.prog 20 #[ragg r v] w fun e w' => ∃ a, e = .returned (ragg r (.slice a r.ops.length r.ops.length)) ∧ OSlice w' (.slice a r.ops.length r.ops.length) r.ops ∧ Ext w w' := by
  have HC : Hid (∀ wx : World, Ext w wx → Calls Tryz.prog 49 #[v] wx fun e w' => e = .returned (.slice (some ⟨wx.heap.size, 0, none⟩) r.ops.length r.ops.length) ∧ ORoom w' wx.heap.size 0 r.ops.length ∧ OpsAt w' wx.heap.size 0 r.ops ∧ Ext wx w') := fun wx he => toOpS_at v r.ops wx (hS.ext he) hl
  obtain ⟨a, cap, rfl, -, -, -⟩ := hS
  unfold ragg
  go_enter Tryz.func20, Tryz.ntmps20
  go_wp2_with fail
  refine (HC.out _ ((((Ext.refl _).alloc _).alloc _).alloc _)).mono ?_
  rintro e w1 ⟨rfl, hr1, hs1, hb⟩
  have HB : Hid (Ext w w1) := ((((Ext.refl _).alloc _).alloc _).alloc _).trans hb
  obtain ⟨q, ⟨q0, q1, q2, q3⟩, q4, q5, q6, q7⟩ := (rbox_new _ r (.slice none 0 0) _).ext hb
  obtain ⟨p, ⟨p0, p1, p2, p3⟩, p4, p5, p6, p7⟩ := (rbox_new (w.alloc _) ⟨0, 0, 0, []⟩ (.slice none 0 0) _).ext (((Ext.refl _).alloc _).trans hb)
  simp only [World.size_alloc] at q q0 q1 q2 q3 q4 q5 q6 q7 p p0 p1 p2 p3 p4 p5 p6 p7 hr1 hs1
  have HS1 : Hid (w.heap.size + 1 + 1 + 1 < w1.heap.size ∧ OpsAt w1 (w.heap.size + 1 + 1 + 1) 0 r.ops) := ⟨hr1.1, hs1⟩
  clear hb hs1 hr1
  simp only [World.size_alloc]
  go_wp2
  refine bodyPost_ret (v := ragg r (.slice (some ⟨w.heap.size + 1 + 1 + 1, 0, none⟩) r.ops.length r.ops.length)) (by simp [results, Tryz.results20, go_sem, ragg, *]) rfl ⟨_, rfl, OSlice.of (by simpa using HS1.out.1) ?_ (Nat.le_refl _) (by unfold maxLen; omega), ?_⟩
  · exact ((((HS1.out.2.set_ne (by omega)).set_ne (by omega)).set_ne (by omega)).set_ne (by omega)).set_ne (by omega)
  · exact ((((HB.out.setCell (by simp; omega) _).setCell (by simp) _).setCell (by simp) _).setCell (by simp) _).setCell (by simp) _

set_option maxHeartbeats 1000000 in
set_option maxRecDepth 100000 in
theorem eqRequest_same (r : Rq) (v v' : Value) (w : World) (hS : OSlice w v r.ops) (hS' : OSlice w v' r.ops) :
    Calls Tryz.prog 22 #[ragg r v, ragg r v'] w fun e w' => e = .returned (.bool true) ∧ Ext w w' := by
  have HC : Hid (∀ wx : World, Ext w wx → Calls Tryz.prog 50 #[v, v'] wx fun e w' => e = .returned (.bool true) ∧ Ext wx w') := fun wx he => eqOpS_same v v' r.ops wx (hS.ext he) (hS'.ext he)
  obtain ⟨a, cap, rfl, -, -, -⟩ := hS
  obtain ⟨a', cap', rfl, -, -, -⟩ := hS'
  unfold ragg
  go_enter Tryz.func22, Tryz.ntmps22
  go_wp2_with fail
  refine (HC.out _ (((Ext.refl _).alloc _).alloc _)).mono ?_
  rintro e w1 ⟨rfl, hb⟩
  have HB : Hid (Ext w w1) := (((Ext.refl _).alloc _).alloc _).trans hb
  clear hb
  go_wp2
  go_ret
  exact ⟨rfl, HB.out⟩
end Go.Proofs.YtdfokjjkhabneaaGreatDoor
