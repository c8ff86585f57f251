/- votes: slices of them, the laws' functions over them; -/
import Derived.Test.YtfgjodnjahhanaaVfV2
import Derived.Test.YtfgjodnjahhanaaVfZ1
import Derived.Test.YtfgjodnjahhanaaVfRY0
namespace Go.Proofs.Ytfgjodnjahhanaa
open Go.RowKit
structure Vt where
  frm : Int
  code : Int
  value : Int
  path : ByteArray
  deriving DecidableEq
instance : Inhabited Vt := ⟨⟨0, 0, 0, ByteArray.empty⟩⟩

def vtagg (z : Vt) : Value := .agg #[.int .i64 z.frm, .int .i64 z.code, .int .i64 z.value, .string z.path]
/-- A mark in a box of its own. -/
def VtBoxAt (w : World) (b : Nat) (z : Vt) : Prop := b < w.heap.size ∧ (w.cell? ⟨b, 0, none⟩ = some (.int .i64 z.frm) ∧ w.cell? ⟨b, 1, none⟩ = some (.int .i64 z.code) ∧ w.cell? ⟨b, 2, none⟩ = some (.int .i64 z.value) ∧ w.cell? ⟨b, 3, none⟩ = some (.string z.path)) ∧ w.frozen? ⟨b, 0, none⟩ = false ∧ w.frozen? ⟨b, 1, none⟩ = false ∧ w.frozen? ⟨b, 2, none⟩ = false ∧ w.frozen? ⟨b, 3, none⟩ = false
theorem VtBoxAt.ext {w w' : World} {b : Nat} {z : Vt} (h : VtBoxAt w b z) (he : Ext w w') : VtBoxAt w' b z := by
  obtain ⟨hc, hf⟩ := Ext.cell he
  obtain ⟨hb, ⟨c0, c1, c2, c3⟩, f0, f1, f2, f3⟩ := h
  exact ⟨Nat.lt_of_lt_of_le hb he.size, ⟨(hc _ _ hb).trans c0, (hc _ _ hb).trans c1, (hc _ _ hb).trans c2, (hc _ _ hb).trans c3⟩, (hf _ _ hb).trans f0, (hf _ _ hb).trans f1, (hf _ _ hb).trans f2, (hf _ _ hb).trans f3⟩
theorem vtbox_new (w : World) (z : Vt) (t : TypeId) : VtBoxAt (w.alloc (.cells #[.int .i64 z.frm, .int .i64 z.code, .int .i64 z.value, .string z.path] t)) w.heap.size z := ⟨by simp, ⟨by simp, by simp, by simp, by simp⟩, by simp, by simp, by simp, by simp⟩

set_option maxHeartbeats 1000000 in
set_option maxRecDepth 100000 in
theorem toVote_any (z : Vt) (w : World) : Calls Try.prog 24 #[vtagg z] w fun e w' => e = .returned (vtagg z) ∧ Ext w w' := by
  have HC : Hid (∀ wx : World, Calls Try.prog 13 #[.agg #[.int .i64 z.code, .int .i64 z.value, .string z.path]] wx fun e w' => e = .returned (.agg #[.int .i64 z.code, .int .i64 z.value, .string z.path]) ∧ Ext wx w') := fun wx => toReply_any z.code z.value z.path wx
  unfold vtagg
  go_enter Try.func24, Try.ntmps24
  go_wp2_with fail
  refine (HC.out _).mono ?_
  rintro e w1 ⟨rfl, hb⟩
  have HB : Hid (Ext w w1) := ((((Ext.refl _).alloc _).alloc _).alloc _).trans hb
  obtain ⟨q, ⟨q0, q1, q2, q3⟩, q5, q6, q7, q8⟩ := (vtbox_new _ ⟨z.frm, 0, 0, ByteArray.empty⟩ _).ext hb
  obtain ⟨p, ⟨p0, p1, p2, p3⟩, p5, p6, p7, p8⟩ := (vtbox_new (w.alloc _) ⟨0, 0, 0, ByteArray.empty⟩ _).ext (((Ext.refl _).alloc _).trans hb)
  simp only [World.size_alloc] at q q0 q1 q2 q3 q5 q6 q7 q8 p p0 p1 p2 p3 p5 p6 p7 p8
  clear hb
  go_wp2
  refine bodyPost_ret (v := vtagg z) (by simp [results, Try.results24, go_sem, vtagg, *]) rfl ⟨rfl, ?_⟩
  exact ((((((HB.out.setCell (by simp; omega) _).setCell (by simp; omega) _).setCell (by simp; omega) _).setCell (by simp) _).setCell (by simp) _).setCell (by simp) _).setCell (by simp) _

set_option maxHeartbeats 1000000 in
theorem szVote_any (z : Vt) (n : Int) (w : World) (h0 : 0 ≤ n) (h1 : n ≤ 1048576) (hz : z.path.size ≤ maxLen) :
    Calls Try.prog 22 #[vtagg z, .int .i64 n] w fun e w' => e = .returned (.int .i64 (if n < z.path.size then -1 else n - z.path.size)) ∧ Ext w w' := by
  have HC : Hid (∀ wx : World, Calls Try.prog 11 #[.agg #[.int .i64 z.code, .int .i64 z.value, .string z.path], .int .i64 n] wx fun e w' => e = .returned (.int .i64 (if n < z.path.size then -1 else n - z.path.size)) ∧ Ext wx w') := fun wx => szReply_any z.code z.value z.path n wx h0 h1 hz
  unfold maxLen at hz
  unfold vtagg
  by_cases h : n < z.path.size
  · rw [if_pos h] at *
    go_enter Try.func22, Try.ntmps22
    go_wp2_with fail
    refine (HC.out _).mono ?_
    rintro e w1 ⟨rfl, hb⟩
    have HB : Hid (Ext w w1) := ((Ext.refl _).alloc _).trans hb
    clear hb
    go_wp2
    go_ret
    exact ⟨rfl, HB.out⟩
  · rw [if_neg h] at *
    go_enter Try.func22, Try.ntmps22
    go_wp2_with fail
    refine (HC.out _).mono ?_
    rintro e w1 ⟨rfl, hb⟩
    have HB : Hid (Ext w w1) := ((Ext.refl _).alloc _).trans hb
    clear hb
    go_wp2
    go_ret
    exact ⟨rfl, HB.out⟩

set_option maxHeartbeats 1000000 in
theorem eqVote_same (z : Vt) (w : World) : Calls Try.prog 28 #[vtagg z, vtagg z] w fun e w' => e = .returned (.bool true) ∧ Ext w w' := by
  have HC : Hid (∀ wx : World, Calls Try.prog 37 #[.agg #[.int .i64 z.code, .int .i64 z.value, .string z.path], .agg #[.int .i64 z.code, .int .i64 z.value, .string z.path]] wx fun e w' => e = .returned (.bool true) ∧ Ext wx w') := fun wx => eqReply_same z.code z.value z.path wx
  unfold vtagg
  go_enter Try.func28, Try.ntmps28
  go_wp2_with fail
  refine (HC.out _).mono ?_
  rintro e w1 ⟨rfl, hb⟩
  have HB : Hid (Ext w w1) := (((Ext.refl _).alloc _).alloc _).trans hb
  clear hb
  go_wp2
  go_ret
  exact ⟨rfl, HB.out⟩

/-- The mark z lies in block b from o on. -/
def VtAt (w : World) (b o : Nat) (z : Vt) : Prop := w.cell? ⟨b, o, none⟩ = some (.int .i64 z.frm) ∧ w.cell? ⟨b, o + 1, none⟩ = some (.int .i64 z.code) ∧ w.cell? ⟨b, o + 2, none⟩ = some (.int .i64 z.value) ∧ w.cell? ⟨b, o + 3, none⟩ = some (.string z.path)
theorem VtAt.ext {w w' : World} {b o : Nat} {z : Vt} (h : VtAt w b o z) (hb : b < w.heap.size) (he : Ext w w') : VtAt w' b o z := by
  obtain ⟨c0, c1, c2, c3⟩ := h
  obtain ⟨hc, _⟩ := Ext.cell he
  exact ⟨(hc _ _ hb).trans c0, (hc _ _ hb).trans c1, (hc _ _ hb).trans c2, (hc _ _ hb).trans c3⟩
/-- The marks zs lie in block b, from off on. -/
def VtsAt (w : World) (b off : Nat) (zs : List Vt) : Prop := ∀ (i : Nat) z, zs[i]? = some z → VtAt w b (off + i * 4) z
theorem VtsAt.ext {w w' : World} {b off : Nat} {zs : List Vt} (h : VtsAt w b off zs) (hb : b < w.heap.size) (he : Ext w w') : VtsAt w' b off zs :=
  fun i z hz => (h i z hz).ext hb he
/-- The slice value v reads as the marks zs. -/
def VtSlice (w : World) (v : Value) (zs : List Vt) : Prop :=
  ∃ a cap, v = .slice a zs.length cap ∧ zs.length ≤ cap ∧ cap ≤ maxLen ∧ (0 < zs.length → ∃ b off, a = some ⟨b, off, none⟩ ∧ b < w.heap.size ∧ VtsAt w b off zs)
theorem VtSlice.ext {w w' : World} {v : Value} {zs : List Vt} (h : VtSlice w v zs) (he : Ext w w') : VtSlice w' v zs := by
  obtain ⟨a, cap, h1, h2, h3, h4⟩ := h
  refine ⟨a, cap, h1, h2, h3, fun h0 => ?_⟩
  obtain ⟨b, off, e, hb, hN⟩ := h4 h0
  exact ⟨b, off, e, Nat.lt_of_lt_of_le hb he.size, hN.ext hb he⟩

set_option maxHeartbeats 1000000 in
set_option maxRecDepth 100000 in
theorem szVoteS_le (v : Value) (zs : List Vt) (n : Int) (w : World) (h0 : 0 ≤ n) (h1 : n ≤ 1048576) (hS : VtSlice w v zs) (hz : ∀ z ∈ zs, z.path.size ≤ maxLen) :
    Calls Try.prog 6 #[v, .int .i64 n] w fun e w' => ∃ r : Int, e = .returned (.int .i64 r) ∧ -1 ≤ r ∧ r ≤ 1048576 ∧ (0 ≤ r → zs.length ≤ 1048576 ∧ ∀ z ∈ zs, z.path.size ≤ 1048576) ∧ Ext w w' := by
  obtain ⟨a, cap, rfl, hlc, hcm, hx⟩ := hS
  have HX : Hid (0 < zs.length → ∃ b off, a = some ⟨b, off, none⟩ ∧ b < w.heap.size ∧ VtsAt w b off zs) := hx
  clear hx
  have HM : Hid (∀ z ∈ zs, z.path.size ≤ maxLen) := hz
  clear hz
  unfold maxLen at hcm
  by_cases hn : n < zs.length
  · go_enter Try.func6, Try.ntmps6
    go_wp2
    go_ret
    exact ⟨_, rfl, by omega, by omega, fun h => by omega, Ext.refl _⟩
  · go_enter Try.func6, Try.ntmps6
    go_wp2
    go_loopw [1, 5] (fun lv i wr => ∃ (k : Nat) (m : Int), k ≤ zs.length ∧ i = .int .i64 k ∧ lv = .int .i64 m ∧ 0 ≤ m ∧ m ≤ 1048576 ∧ Hid (∀ (j : Nat) z, j < k → zs[j]? = some z → z.path.size ≤ 1048576) ∧ Hid (Ext w wr)) (fun _ i _ => zs.length - (intOf i).toNat)
    case atStart => exact ⟨0, _, Nat.zero_le _, rfl, rfl, by omega, by omega, fun j z h => by omega, Ext.refl _⟩
    case round =>
      obtain ⟨k, m, hk, rfl, rfl, hm0, hm1, HA, HE⟩ := hrel
      by_cases hlt : k < zs.length
      · obtain ⟨z, hzk⟩ : ∃ z, zs[k]? = some z := ⟨_, List.getElem?_eq_getElem hlt⟩
        obtain ⟨b, off, rfl, hb, hN⟩ := HX.out (by omega)
        obtain ⟨d0, d1, d2, d3⟩ := hN.ext hb HE.out k z hzk
        have hzm : z.path.size ≤ maxLen := HM.out z (List.mem_of_getElem? hzk)
        have HZ : Hid (zs[k]? = some z) := hzk
        clear hzk hN
        have hsz := szVote_any z m wr hm0 hm1 hzm
        unfold vtagg at hsz
        by_cases hpz : m < z.path.size
        · rw [if_pos hpz] at hsz
          go_wp2_with fail
          refine hsz.mono ?_
          rintro e w2 ⟨rfl, hb2⟩
          have HE2 : Hid (Ext w w2) := HE.out.trans hb2
          clear hb2 hsz
          go_wp2
          go_ret
          exact ⟨_, rfl, by omega, by omega, fun h => by omega, HE2.out⟩
        · rw [if_neg hpz] at hsz
          have HA2 : Hid (∀ (j : Nat) z, j < k + 1 → zs[j]? = some z → z.path.size ≤ 1048576) := by
            intro j z' hj hz'
            by_cases hjk : j = k
            · subst hjk; rw [HZ.out] at hz'; cases hz'; omega
            · exact HA.out j z' (by omega) hz'
          go_wp2_with fail
          refine hsz.mono ?_
          rintro e w2 ⟨rfl, hb2⟩
          have HE2 : Hid (Ext w w2) := HE.out.trans hb2
          clear hb2 hsz
          go_wp2
          exact ⟨⟨k + 1, _, by omega, by go_num, rfl, by omega, by omega, HA2, HE2⟩, by simp [intOf]; omega⟩
      · go_wp2
        go_ret
        exact ⟨m, rfl, by omega, hm1, fun _ => ⟨by omega, fun z hz => by
          obtain ⟨j, hj⟩ := List.getElem?_of_mem hz
          exact HA.out j z (by have := (List.getElem?_eq_some_iff.1 hj).1; omega) hj⟩, HE.out⟩

set_option maxHeartbeats 1000000 in
set_option maxRecDepth 100000 in
theorem eqVoteS_same (v v' : Value) (zs : List Vt) (w : World) (hS : VtSlice w v zs) (hS' : VtSlice w v' zs) :
    Calls Try.prog 10 #[v, v'] w fun e w' => e = .returned (.bool true) ∧ Ext w w' := by
  obtain ⟨a, cap, rfl, hlc, hcm, hx⟩ := hS
  obtain ⟨a', cap', rfl, hlc', hcm', hx'⟩ := hS'
  have HX : Hid (0 < zs.length → ∃ b off, a = some ⟨b, off, none⟩ ∧ b < w.heap.size ∧ VtsAt w b off zs) := hx
  have HX' : Hid (0 < zs.length → ∃ b off, a' = some ⟨b, off, none⟩ ∧ b < w.heap.size ∧ VtsAt w b off zs) := hx'
  clear hx hx'
  unfold maxLen at hcm
  go_enter Try.func10, Try.ntmps10
  go_wp2
  go_loopw [5] (fun i wr => ∃ (k : Nat), k ≤ zs.length ∧ i = .int .i64 k ∧ Hid (Ext w wr)) (fun i _ => zs.length - (intOf i).toNat)
  case atStart => exact ⟨0, Nat.zero_le _, rfl, Ext.refl _⟩
  case round =>
    obtain ⟨k, hk, rfl, HE⟩ := hrel
    by_cases hlt : k < zs.length
    · obtain ⟨z, hzk⟩ : ∃ z, zs[k]? = some z := ⟨_, List.getElem?_eq_getElem hlt⟩
      obtain ⟨b, off, rfl, hb, hN⟩ := HX.out (by omega)
      obtain ⟨b', off', rfl, hb', hN'⟩ := HX'.out (by omega)
      obtain ⟨d0, d1, d2, d3⟩ := hN.ext hb HE.out k z hzk
      obtain ⟨e0, e1, e2, e3⟩ := hN'.ext hb' HE.out k z hzk
      clear hzk hN hN'
      have HQ : Hid (∀ wx : World, Calls Try.prog 28 #[vtagg z, vtagg z] wx fun e w' => e = .returned (.bool true) ∧ Ext wx w') := eqVote_same z
      unfold vtagg at HQ
      go_wp2
      go_region_with (go_at_call 28; refine (HQ.out _).mono ?_; rintro e w2 ⟨rfl, hb2⟩)
      all_goals
        go_wp2
        exact ⟨⟨k + 1, by omega, by go_num, HE.out.trans (((Ext.refl _).drew).trans hb2)⟩, by simp [intOf]; omega⟩
    · go_wp2
      go_ret
      exact ⟨rfl, HE.out⟩

/-! ### Marks that are stored -/
def VtRoom (w : World) (g off n : Nat) : Prop := g < w.heap.size ∧ ∀ j, j < n * 4 → (∃ u, w.cell? ⟨g, off + j, none⟩ = some u) ∧ w.frozen? ⟨g, off + j, none⟩ = false
def putVt (w : World) (g o : Nat) (z : Vt) : World := ((((w.setCell ⟨g, o, none⟩ (.int .i64 z.frm)).setCell ⟨g, o + 1, none⟩ (.int .i64 z.code)).setCell ⟨g, o + 2, none⟩ (.int .i64 z.value)).setCell ⟨g, o + 3, none⟩ (.string z.path))
theorem putVt_ne (w : World) (g o b k : Nat) (z : Vt) (h : g ≠ b ∨ k < o ∨ o + 4 ≤ k) : (putVt w g o z).cell? ⟨b, k, none⟩ = w.cell? ⟨b, k, none⟩ := by
  unfold putVt
  rw [iset_ne _ _ _ _ _ _ (by omega), iset_ne _ _ _ _ _ _ (by omega), iset_ne _ _ _ _ _ _ (by omega), iset_ne _ _ _ _ _ _ (by omega)]
theorem putVt_eq (w : World) (g o : Nat) (z : Vt) (h : ∀ j, j < 4 → ∃ u, w.cell? ⟨g, o + j, none⟩ = some u) : VtAt (putVt w g o z) g o z := by
  unfold putVt
  refine ⟨?_, ?_, ?_, ?_⟩
  · rw [iset_ne _ _ _ _ _ _ (by omega), iset_ne _ _ _ _ _ _ (by omega), iset_ne _ _ _ _ _ _ (by omega)]; apply iset_eq; exact h 0 (by omega)
  · rw [iset_ne _ _ _ _ _ _ (by omega), iset_ne _ _ _ _ _ _ (by omega)]; apply iset_eq; rw [iset_ne _ _ _ _ _ _ (by omega)]; exact h 1 (by omega)
  · rw [iset_ne _ _ _ _ _ _ (by omega)]; apply iset_eq; rw [iset_ne _ _ _ _ _ _ (by omega), iset_ne _ _ _ _ _ _ (by omega)]; exact h 2 (by omega)
  · apply iset_eq; rw [iset_ne _ _ _ _ _ _ (by omega), iset_ne _ _ _ _ _ _ (by omega), iset_ne _ _ _ _ _ _ (by omega)]; exact h 3 (by omega)
theorem putVt_size (w : World) (g o : Nat) (z : Vt) : (putVt w g o z).heap.size = w.heap.size := by simp [putVt]
theorem putVt_frozen (w : World) (g o : Nat) (z : Vt) (a : Addr) : (putVt w g o z).frozen? a = w.frozen? a := by simp [putVt]
theorem VtRoom.put {w : World} {g off n k : Nat} (h : VtRoom w g off n) (z : Vt) (hk : k < n) : VtRoom (putVt w g (off + k * 4) z) g off n := by
  refine ⟨by rw [putVt_size]; exact h.1, fun j hj => ⟨?_, by rw [putVt_frozen]; exact (h.2 j hj).2⟩⟩
  obtain ⟨q0, q1, q2, q3⟩ := putVt_eq w g (off + k * 4) z (fun i hi => by rw [Nat.add_assoc]; exact (h.2 (k * 4 + i) (by omega)).1)
  by_cases hh : off + j < off + k * 4 ∨ off + k * 4 + 4 ≤ off + j
  · rw [putVt_ne _ _ _ _ _ _ (Or.inr hh)]; exact (h.2 j hj).1
  · have hj5 : j = k * 4 ∨ j = k * 4 + 1 ∨ j = k * 4 + 2 ∨ j = k * 4 + 3 := by omega
    rcases hj5 with e | e | e | e <;> subst e
    · exact ⟨_, q0⟩
    · exact ⟨_, q1⟩
    · exact ⟨_, q2⟩
    · exact ⟨_, q3⟩
theorem VtRoom.ext {w w' : World} {g off n : Nat} (h : VtRoom w g off n) (he : Ext w w') : VtRoom w' g off n := by
  obtain ⟨hc, hf⟩ := Ext.cell he
  exact ⟨Nat.lt_of_lt_of_le h.1 he.size, fun j hj => ⟨by rw [hc _ _ h.1]; exact (h.2 j hj).1, by rw [hf _ _ h.1]; exact (h.2 j hj).2⟩⟩
theorem VtsAt.put {w : World} {g off n k : Nat} {zs : List Vt} {z : Vt} (hr : VtRoom w g off n) (hk : k < n) (hz : zs[k]? = some z) (h : VtsAt w g off (zs.take k)) : VtsAt (putVt w g (off + k * 4) z) g off (zs.take (k + 1)) := by
  intro i z' hi
  rw [List.getElem?_take] at hi
  split at hi
  · by_cases hik : i = k
    · subst hik
      rw [hz] at hi
      cases hi
      exact putVt_eq w g (off + i * 4) z (fun j hj => by rw [Nat.add_assoc]; exact (hr.2 (i * 4 + j) (by omega)).1)
    · obtain ⟨c0, c1, c2, c3⟩ := h i z' (by rw [List.getElem?_take, if_pos (by omega)]; exact hi)
      exact ⟨by rw [putVt_ne _ _ _ _ _ _ (by omega)]; exact c0, by rw [putVt_ne _ _ _ _ _ _ (by omega)]; exact c1, by rw [putVt_ne _ _ _ _ _ _ (by omega)]; exact c2, by rw [putVt_ne _ _ _ _ _ _ (by omega)]; exact c3⟩
  · cases hi
theorem ext_putVt {w w' : World} (h : Ext w w') (g o : Nat) (hg : w.heap.size ≤ g) (z : Vt) : Ext w (putVt w' g o z) :=
  ((((h.setCell (p := ⟨g, o, none⟩) hg _).setCell (p := ⟨g, o + 1, none⟩) hg _).setCell (p := ⟨g, o + 2, none⟩) hg _).setCell (p := ⟨g, o + 3, none⟩) hg _)

set_option maxHeartbeats 2000000 in
set_option maxRecDepth 100000 in
theorem toVoteS_at (v : Value) (zs : List Vt) (w : World) (hS : VtSlice w v zs) (hl : zs.length ≤ 1048576) :
    Calls Try.prog 8 #[v] w fun e w' => e = .returned (.slice (some ⟨w.heap.size, 0, none⟩) zs.length zs.length) ∧ VtRoom w' w.heap.size 0 zs.length ∧ VtsAt w' w.heap.size 0 zs ∧ Ext w w' := by
  obtain ⟨a, cap, rfl, hlc, hcm, hx⟩ := hS
  have HX : Hid (0 < zs.length → ∃ b off, a = some ⟨b, off, none⟩ ∧ b < w.heap.size ∧ VtsAt w b off zs) := hx
  clear hx
  unfold maxLen at hcm
  have hi9 : (Try.prog.info? 50).map (fun i => (i.zero, i.size, i.bytes)) = some (some (.agg #[.int .i64 0, .int .i64 0, .int .i64 0, .string ByteArray.empty]), 4, 40) := by kernel_rfl
  obtain ⟨i0, hi, hxx⟩ := Option.map_eq_some_iff.1 hi9
  simp only [Prod.mk.injEq] at hxx
  obtain ⟨hz0, hz1, hz2⟩ := hxx
  clear hi9
  obtain ⟨M, hM⟩ : ∃ M, M = madeCells (Value.agg #[.int .i64 0, .int .i64 0, .int .i64 0, .string ByteArray.empty]).cells (((zs.length : Nat) : Int).toNat * i0.size) := ⟨_, rfl⟩
  have hMs : M.size = zs.length * 4 := by rw [hM, size_madeCells, hz1]; simp
  have hmk : ∀ W : World, (Instr.makeSlice 25 (.int .i64 (zs.length : Int)) (.int .i64 (zs.length : Int))).run Try.prog W = .ok (.slice (some ⟨W.heap.size, 0, none⟩) zs.length zs.length) (W.alloc (.cells M 50)) := fun W => by
    have h := run_make (P := Try.prog) W 25 50 i0 _ Try.underlying25 hi hz0 .i64 .i64 (zs.length : Int) (zs.length : Int) (by omega) (by omega) (by rw [hz2]; omega) (by omega)
    rw [← hM] at h
    simpa using h
  have HR : Hid (VtRoom (w.alloc (.cells M 50)) w.heap.size 0 zs.length) := by
    refine ⟨by simp, fun j hj => ⟨⟨M[j]'(by omega), ?_⟩, by simp⟩⟩
    rw [Nat.zero_add, World.cell?_alloc_at _ _ _ _ rfl]
    simp [hMs, hj]
  clear hM hMs hi hz0 hz1 hz2
  go_enter Try.func8, Try.ntmps8
  go_wp2
  go_loopw [4] (fun i wr => ∃ (k : Nat), k ≤ zs.length ∧ i = .int .i64 k ∧ Hid (VtRoom wr w.heap.size 0 zs.length) ∧ Hid (VtsAt wr w.heap.size 0 (zs.take k)) ∧ Hid (Ext w wr)) (fun i _ => zs.length - (intOf i).toNat)
  case atStart => exact ⟨0, Nat.zero_le _, rfl, HR, fun i z h => by simp at h, (Ext.refl _).alloc _⟩
  case round =>
    obtain ⟨k, hk, rfl, HR1, HN1, HE⟩ := hrel
    by_cases hlt : k < zs.length
    · obtain ⟨z, hzk⟩ : ∃ z, zs[k]? = some z := ⟨_, List.getElem?_eq_getElem hlt⟩
      obtain ⟨b, off, rfl, hb, hN⟩ := HX.out (by omega)
      obtain ⟨d0, d1, d2, d3⟩ := hN.ext hb HE.out k z hzk
      have HZ : Hid (zs[k]? = some z) := hzk
      clear hzk hN
      have hto := toVote_any z wr
      unfold vtagg at hto
      go_wp2_with fail
      refine hto.mono ?_
      rintro e w2 ⟨rfl, hb2⟩
      clear hto d0 d1 d2 d3
      have HR2 : Hid (VtRoom w2 w.heap.size 0 zs.length) := HR1.out.ext hb2
      have HN2 : Hid (VtsAt w2 w.heap.size 0 (zs.take k)) := HN1.out.ext HR1.out.1 hb2
      have HE2 : Hid (Ext w w2) := HE.out.trans hb2
      clear hb2
      obtain ⟨⟨u0, r0⟩, f0⟩ := HR2.out.2 (k * 4) (by omega)
      obtain ⟨⟨u1, r1⟩, f1⟩ := HR2.out.2 (k * 4 + 1) (by omega)
      obtain ⟨⟨u2, r2⟩, f2⟩ := HR2.out.2 (k * 4 + 2) (by omega)
      obtain ⟨⟨u3, r3⟩, f3⟩ := HR2.out.2 (k * 4 + 3) (by omega)
      rw [Nat.zero_add] at r0 r1 r2 r3 f0 f1 f2 f3
      have p1 := HR2.out.put z hlt
      have p2 := VtsAt.put HR2.out hlt HZ.out HN2.out
      have p3 := ext_putVt HE2.out w.heap.size (0 + k * 4) (Nat.le_refl _) z
      rw [Nat.zero_add] at p1 p2 p3
      have P1 : Hid _ := p1
      have P2 : Hid _ := p2
      have P3 : Hid _ := p3
      clear p1 p2 p3
      go_wp2
      exact ⟨⟨k + 1, by omega, by go_num, P1.out, P2.out, P3.out⟩, by simp [intOf]; omega⟩
    · have hke : k = zs.length := by omega
      subst hke
      go_wp2
      go_ret
      exact ⟨rfl, HR1.out, by have := HN1.out; rw [List.take_length] at this; exact this, HE.out⟩
theorem VtSlice.of {w : World} {g off cap : Nat} {zs : List Vt} (hg : g < w.heap.size) (h : VtsAt w g off zs) (h1 : zs.length ≤ cap) (h2 : cap ≤ maxLen) : VtSlice w (.slice (some ⟨g, off, none⟩) zs.length cap) zs :=
  ⟨_, _, rfl, h1, h2, fun _ => ⟨g, off, rfl, hg, h⟩⟩
theorem VtsAt.set_ne {w : World} {b off g o : Nat} {zs : List Vt} {v : Value} (h : VtsAt w b off zs) (hne : g ≠ b) : VtsAt (w.setCell ⟨g, o, none⟩ v) b off zs := by
  intro i z hz
  obtain ⟨c0, c1, c2, c3⟩ := h i z hz
  refine ⟨?_, ?_, ?_, ?_⟩ <;> rw [iset_ne _ _ _ _ _ _ (Or.inl hne)] <;> assumption

end Go.Proofs.Ytfgjodnjahhanaa
