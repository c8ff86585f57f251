/- the laws' functions over a SessionsResult; the exact laws of OpenSession and TouchSession, walked, out of what the functions and their specifications answer. -/
import Derived.Test.YtjlmkjcahnnjpaaE9
namespace Go.Proofs.Ytjlmkjcahnnjpaa
open Go.RowKit

set_option maxHeartbeats 1000000 in
theorem eqSessionsResult_same (c : Int) (v v' : Value) (ts : List Se) (w : World) (h : ESlice w v ts) (h' : ESlice w v' ts) :
    Calls Try.prog 23 #[er c v, er c v'] w fun e w' => e = .returned (.bool true) ∧ Ext w w' := by
  have HS : Hid (ESlice w v ts) := h
  have HS' : Hid (ESlice w v' ts) := h'
  obtain ⟨a, cap, rfl, _⟩ := h
  obtain ⟨a', cap', rfl, _⟩ := h'
  unfold er
  go_enter Try.func23, Try.ntmps23
  go_wp2_with fail
  refine (eqSessionS_same _ _ ts _ (by exact HS.out.ext (((Ext.refl _).alloc _).alloc _)) (by exact HS'.out.ext (((Ext.refl _).alloc _).alloc _))).mono ?_
  rintro e w2 ⟨rfl, hb⟩
  go_wp2
  go_ret
  exact ⟨rfl, (((Ext.refl _).alloc _).alloc _).trans hb⟩

set_option maxHeartbeats 1000000 in
theorem markSessionsResult_any (c : Int) (v : Value) (g : Nat) (ts : List Se) (k : Nat) (w : World) (hO : EOwn w v g ts) (hg : g ≤ w.heap.size) (hk : k ≤ 100) (hl : ts.length ≤ 1048576) :
    Calls Try.prog 25 #[er c v, .int .i64 k] w fun e w' => e = .returned (.int .i64 (k + 2 * ts.length : Nat)) ∧ EOwn w' v g (emarks k ts.length) ∧ Upd g w w' := by
  have HO : Hid (EOwn w v g ts) := hO
  obtain ⟨a, cap, rfl, _⟩ := hO
  unfold er
  go_enter Try.func25, Try.ntmps25
  go_wp2_with fail
  refine (markSessionS_any _ g ts k _ (by exact HO.out.ext ((Ext.refl _).alloc _)) hk hl).mono ?_
  rintro e w2 ⟨rfl, hO2, hU⟩
  have HO2 : Hid (EOwn w2 (.slice a ts.length cap) g (emarks k ts.length)) := hO2
  have HU : Hid (Upd g w w2) := (Upd.alloc _ _ hg).trans hU
  clear hO2 hU
  go_wp2
  go_ret
  exact ⟨rfl, HO2.out, HU.out⟩

set_option maxHeartbeats 1000000 in
theorem heldSessionsResult_any (c : Int) (v : Value) (n k : Nat) (w : World) (hO : ESlice w v (emarks k n)) (hk : k ≤ 100) (hl : n ≤ 1048576) :
    Calls Try.prog 26 #[er c v, .int .i64 k] w fun e w' => e = .returned (.int .i64 (k + 2 * n : Nat)) ∧ Ext w w' := by
  have HO : Hid (ESlice w v (emarks k n)) := hO
  obtain ⟨a, cap, rfl, _⟩ := hO
  unfold er
  go_enter Try.func26, Try.ntmps26
  go_wp2_with fail
  refine (heldSessionS_any _ n k _ (by exact HO.out.ext ((Ext.refl _).alloc _)) hk hl).mono ?_
  rintro e w2 ⟨rfl, hb⟩
  obtain ⟨m, hm⟩ : ∃ m, m = k + 2 * n := ⟨_, rfl⟩
  rw [← hm]
  have HM : Hid (m = k + 2 * n) := hm
  clear hm
  go_wp2
  go_ret
  exact ⟨ret_int (by rw [HM.out]), ((Ext.refl _).alloc _).trans hb⟩

/-- Block b holds a SessionsResult. -/
def EBoxAt (w : World) (b : Nat) (c : Int) (v : Value) : Prop :=
  b < w.heap.size ∧ w.cell? ⟨b, 0, none⟩ = some (.int .i64 c) ∧ w.cell? ⟨b, 1, none⟩ = some v
theorem EBoxAt.ext {w w' : World} {b : Nat} {c : Int} {v : Value} (h : EBoxAt w b c v) (he : Ext w w') : EBoxAt w' b c v := by
  obtain ⟨hc, _⟩ := Ext.cell he
  exact ⟨Nat.lt_of_lt_of_le h.1 he.size, (hc _ _ h.1).trans h.2.1, (hc _ _ h.1).trans h.2.2⟩
theorem EBoxAt.upd {w w' : World} {b g : Nat} {c : Int} {v : Value} (h : EBoxAt w b c v) (he : Upd g w w') (hne : b ≠ g) : EBoxAt w' b c v :=
  ⟨Nat.lt_of_lt_of_le h.1 he.2.1, (he.at_ne _ _ hne h.1).1.trans h.2.1, (he.at_ne _ _ hne h.1).1.trans h.2.2⟩
theorem eboxAt_new (w : World) (c : Int) (v : Value) (t : TypeId) : EBoxAt (w.alloc (.cells #[.int .i64 c, v] t)) w.heap.size c v :=
  ⟨by simp, by simp, by simp⟩

set_option maxHeartbeats 4000000 in
set_option maxRecDepth 100000 in
theorem lawOpenSession_of (v : Value) (zs : List Se) (i n : Int) (w : World) (c : Int) (rs : List Se) (hS : ESlice w v zs) (hrs : rs.length ≤ 1048576)
    (hSp : zs.length ≤ 1048576 → ∀ (wx : World) (vx : Value), Ext w wx → SomeS vx → ESlice wx vx zs → Calls Try.prog 13 #[vx, .int .i64 i, .int .i64 n] wx (ERet wx c rs))
    (hIm : zs.length ≤ 1048576 → ∀ (wx : World) (vx : Value), Ext w wx → ESlice wx vx zs → Calls Try.prog 11 #[vx, .int .i64 i, .int .i64 n] wx (ERet wx c rs)) :
    Calls Try.prog 5 #[v, .int .i64 i, .int .i64 n] w fun e w' => e = .returned (.bool true) ∧ Ext w w' := by
  have HA : Hid (ESlice w v zs) := hS
  have HSp : Hid (zs.length ≤ 1048576 → ∀ (wx : World) (vx : Value), Ext w wx → SomeS vx → ESlice wx vx zs → Calls Try.prog 13 #[vx, .int .i64 i, .int .i64 n] wx (ERet wx c rs)) := hSp
  have HIm : Hid (zs.length ≤ 1048576 → ∀ (wx : World) (vx : Value), Ext w wx → ESlice wx vx zs → Calls Try.prog 11 #[vx, .int .i64 i, .int .i64 n] wx (ERet wx c rs)) := hIm
  have hsz := szSessionS_any v zs 1048576 w (by omega) (by omega) hS
  obtain ⟨a, cap, rfl, -⟩ := hS
  clear hSp hIm
  have HSz : Hid (Calls Try.prog 19 #[.slice a zs.length cap, .int .i64 1048576] w fun e w' => e = .returned (.int .i64 (if (1048576 : Int) < zs.length then -1 else 1048576 - zs.length)) ∧ w' = w) := hsz
  clear hsz
  go_enter Try.func5, Try.ntmps5
  go_wp2_with fail
  refine HSz.out.mono ?_
  rintro e w1 ⟨rfl, hb⟩
  have E1 : Hid (Ext w w1) := by rw [hb]; exact Ext.refl _
  clear HSz hb
  by_cases hr0 : (1048576 : Int) < zs.length
  · rw [if_pos hr0]
    go_wp2
    go_ret
    exact ⟨rfl, E1.out⟩
  · rw [if_neg hr0]
    have hl : zs.length ≤ 1048576 := by omega
    have S1 : Hid (∀ (wx : World) (vx : Value), Ext w wx → SomeS vx → ESlice wx vx zs → Calls Try.prog 13 #[vx, .int .i64 i, .int .i64 n] wx (ERet wx c rs)) := HSp.out hl
    have I1 : Hid (∀ (wx : World) (vx : Value), Ext w wx → ESlice wx vx zs → Calls Try.prog 11 #[vx, .int .i64 i, .int .i64 n] wx (ERet wx c rs)) := HIm.out hl
    clear HSp HIm
    go_wp2_with fail
    refine (toSessionS_own _ zs _ (by exact HA.out.ext E1.out) hl).mono ?_
    rintro e w2 ⟨v2, rfl, hv2, hO, hb⟩
    have E2 : Hid (Ext w w2) := E1.out.trans hb
    have O2 : Hid (ESlice w2 v2 zs) := hO.slice
    have V2 : Hid (SomeS v2) := hv2
    clear hb hO
    go_wp2_with fail
    refine (S1.out _ _ E2.out V2.out O2.out).mono ?_
    rintro e w3 ⟨v3, g3, rfl, hg3, hO, hb⟩
    obtain ⟨a3, cap3, rfl, -⟩ := id hO
    have E3 : Hid (Ext w w3) := E2.out.trans hb
    have O3 : Hid (EOwn w3 (.slice a3 rs.length cap3) g3 rs) := hO
    have L3 : Hid (0 < rs.length → g3 < w3.heap.size) := hO.lt
    clear hb hO hg3 O2 S1 E2
    unfold er
    go_wp2_with fail
    refine (toSessionS_own _ zs _ (by exact HA.out.ext (E3.out.alloc _)) hl).mono ?_
    rintro e w5 ⟨v5, rfl, hv5, hO, hb⟩
    obtain ⟨gx, hgx, hO⟩ : ∃ gx, gx = w3.heap.size + 1 ∧ EOwn w5 v5 gx zs := ⟨_, by simp, hO⟩
    have B5 : Hid (EBoxAt w5 w3.heap.size c (.slice a3 rs.length cap3)) := (eboxAt_new _ _ _ _).ext hb
    have E5 : Hid (Ext w w5) := (E3.out.alloc _).trans hb
    have O5 : Hid (EOwn w5 (.slice a3 rs.length cap3) g3 rs) := (O3.out.ext ((Ext.refl _).alloc _)).ext hb
    have X5 : Hid (EOwn w5 v5 gx zs) := hO
    have G5 : Hid (gx = w3.heap.size + 1) := hgx
    have M3 : Hid (w.heap.size ≤ w3.heap.size) := E3.out.size
    clear hb hO E3 O3 hgx
    go_wp2_with fail
    refine (I1.out _ _ E5.out X5.out.slice).mono ?_
    rintro e w6 ⟨v6, g6, rfl, hg6, hO, hb⟩
    obtain ⟨a6, cap6, rfl, -⟩ := id hO
    have E6 : Hid (Ext w w6) := E5.out.trans hb
    have A6 : Hid (EBoxAt w6 w3.heap.size c (.slice a3 rs.length cap3)) := B5.out.ext hb
    have O6 : Hid (EOwn w6 (.slice a3 rs.length cap3) g3 rs) := O5.out.ext hb
    have X6 : Hid (EOwn w6 v5 gx zs) := X5.out.ext hb
    have R6 : Hid (EOwn w6 (.slice a6 rs.length cap6) g6 rs) := hO
    have M5 : Hid (w5.heap.size ≤ g6 ∧ w3.heap.size < w5.heap.size ∧ (0 < zs.length → gx < w5.heap.size) ∧ (0 < rs.length → g6 < w6.heap.size)) := ⟨hg6, B5.out.1, X5.out.lt, hO.lt⟩
    have M6 : Hid (w5.heap.size ≤ w6.heap.size) := hb.size
    obtain ⟨c0, c1⟩ := A6.out.2
    have hlt := A6.out.1
    clear hb hO B5 O5 X5 E5 hg6
    unfold er
    go_wp2_with fail
    refine (eqSessionsResult_same c _ _ rs _ (by exact R6.out.slice.ext ((Ext.refl _).alloc _)) (by exact O6.out.slice.ext ((Ext.refl _).alloc _))).mono ?_
    rintro e w7 ⟨rfl, hb⟩
    have hb := ((Ext.refl w6).alloc _).trans hb
    have B7 : Hid (EBoxAt w7 w6.heap.size c (.slice a6 rs.length cap6)) := (eboxAt_new w6 c _ _).ext (by assumption)
    clear c0 c1 hlt
    have E7 : Hid (Ext w w7) := E6.out.trans hb
    have A7 : Hid (EBoxAt w7 w3.heap.size c (.slice a3 rs.length cap3)) := A6.out.ext hb
    have O7 : Hid (EOwn w7 (.slice a3 rs.length cap3) g3 rs) := O6.out.ext hb
    have X7 : Hid (EOwn w7 v5 gx zs) := X6.out.ext hb
    have R7 : Hid (EOwn w7 (.slice a6 rs.length cap6) g6 rs) := R6.out.ext hb
    clear E6 A6 O6 X6 R6
    clear hb
    go_wp2_with fail
    refine (toSessionS_own _ zs _ (by exact HA.out.ext E7.out) hl).mono ?_
    rintro e w8 ⟨v8, rfl, hv8, hO, hb⟩
    have Y8 : Hid (ESlice w8 v8 zs) := hO.slice
    clear hO
    have E8 : Hid (Ext w w8) := E7.out.trans hb
    have A8 : Hid (EBoxAt w8 w3.heap.size c (.slice a3 rs.length cap3)) := A7.out.ext hb
    have B8 : Hid (EBoxAt w8 w6.heap.size c (.slice a6 rs.length cap6)) := B7.out.ext hb
    have O8 : Hid (EOwn w8 (.slice a3 rs.length cap3) g3 rs) := O7.out.ext hb
    have X8 : Hid (EOwn w8 v5 gx zs) := X7.out.ext hb
    have R8 : Hid (EOwn w8 (.slice a6 rs.length cap6) g6 rs) := R7.out.ext hb
    clear E7 A7 B7 O7 X7 R7
    clear hb
    go_wp2_with fail
    refine (eqSessionS_same _ _ zs _ X8.out.slice Y8.out).mono ?_
    rintro e w9 ⟨rfl, hb⟩
    have E9 : Hid (Ext w w9) := E8.out.trans hb
    have A9 : Hid (EBoxAt w9 w3.heap.size c (.slice a3 rs.length cap3)) := A8.out.ext hb
    have B9 : Hid (EBoxAt w9 w6.heap.size c (.slice a6 rs.length cap6)) := B8.out.ext hb
    have O9 : Hid (EOwn w9 (.slice a3 rs.length cap3) g3 rs) := O8.out.ext hb
    have X9 : Hid (EOwn w9 v5 gx zs) := X8.out.ext hb
    have R9 : Hid (EOwn w9 (.slice a6 rs.length cap6) g6 rs) := R8.out.ext hb
    clear E8 A8 B8 O8 X8 R8
    clear hb Y8
    obtain ⟨gy, hgy, hXy, hcase⟩ := X9.out.pick
    have XY : Hid (EOwn w9 v5 gy zs) := hXy
    have CY : Hid (gy ≤ w9.heap.size ∧ (gy = w9.heap.size ∧ ¬ 0 < zs.length ∨ (gy = gx ∧ gx < w9.heap.size ∧ 0 < zs.length))) := ⟨hgy, hcase⟩
    clear hgy hXy hcase X9
    go_wp2_with fail
    refine (markSessionS_any _ gy zs 1 _ XY.out (by omega) hl).mono ?_
    rintro e w10 ⟨rfl, -, hu⟩
    have E10 : Hid (Ext w w10) := hu.to_ext E9.out (by have := CY.out; have := G5.out; have := M3.out; have := E9.out.size; omega)
    have A10 : Hid (EBoxAt w10 w3.heap.size c (.slice a3 rs.length cap3)) := A9.out.upd hu (by have := CY.out; have := G5.out; have := A9.out.1; omega)
    have B10 : Hid (EBoxAt w10 w6.heap.size c (.slice a6 rs.length cap6)) := B9.out.upd hu (by have := CY.out; have := M5.out; have := B9.out.1; have := M6.out; omega)
    have O10 : Hid (EOwn w10 (.slice a3 rs.length cap3) g3 rs) := O9.out.upd' hu (fun h => by have := CY.out; have := G5.out; have := L3.out h; have := O9.out.lt h; omega)
    have R10 : Hid (EOwn w10 (.slice a6 rs.length cap6) g6 rs) := R9.out.upd' hu (fun h => by have := CY.out; have := M5.out; have := R9.out.lt h; omega)
    clear hu XY E9 A9 B9 O9 R9
    obtain ⟨c0, c1⟩ := A10.out.2
    obtain ⟨d0, d1⟩ := B10.out.2
    have hlt := A10.out.1
    have hlu := B10.out.1
    go_wp2_with fail
    refine (eqSessionsResult_same c _ _ rs _ R10.out.slice O10.out.slice).mono ?_
    rintro e w11 ⟨rfl, hb⟩
    clear c0 c1 d0 d1 hlt hlu
    have E11 : Hid (Ext w w11) := E10.out.trans hb
    have A11 : Hid (EBoxAt w11 w3.heap.size c (.slice a3 rs.length cap3)) := A10.out.ext hb
    have B11 : Hid (EBoxAt w11 w6.heap.size c (.slice a6 rs.length cap6)) := B10.out.ext hb
    have O11 : Hid (EOwn w11 (.slice a3 rs.length cap3) g3 rs) := O10.out.ext hb
    have R11 : Hid (EOwn w11 (.slice a6 rs.length cap6) g6 rs) := R10.out.ext hb
    clear E10 A10 B10 O10 R10
    clear hb
    obtain ⟨gz, hgz, hRz, hcase⟩ := R11.out.pick
    have RZ : Hid (EOwn w11 (.slice a6 rs.length cap6) gz rs) := hRz
    have CZ : Hid (gz ≤ w11.heap.size ∧ (gz = w11.heap.size ∧ ¬ 0 < rs.length ∨ (gz = g6 ∧ g6 < w11.heap.size ∧ 0 < rs.length))) := ⟨hgz, hcase⟩
    clear hRz hcase R11 hgz
    obtain ⟨c0, c1⟩ := A11.out.2
    obtain ⟨d0, d1⟩ := B11.out.2
    have hlt := A11.out.1
    have hlu := B11.out.1
    go_wp2_with fail
    refine (markSessionsResult_any c _ gz rs 1 _ RZ.out CZ.out.1 (by omega) hrs).mono ?_
    rintro e w12 ⟨rfl, hQ, hu⟩
    clear c0 c1 d0 d1 hlt hlu
    have E12 : Hid (Ext w w12) := hu.to_ext E11.out (by have := CZ.out; have := M5.out; have := M3.out; have := E11.out.size; omega)
    have A12 : Hid (EBoxAt w12 w3.heap.size c (.slice a3 rs.length cap3)) := A11.out.upd hu (by have := CZ.out; have := M5.out; have := A11.out.1; omega)
    have B12 : Hid (EBoxAt w12 w6.heap.size c (.slice a6 rs.length cap6)) := B11.out.upd hu (by have := CZ.out; have := M5.out; have := B11.out.1; omega)
    have O12 : Hid (EOwn w12 (.slice a3 rs.length cap3) g3 rs) := O11.out.upd' hu (fun h => by have := CZ.out; have := M5.out; have := L3.out h; omega)
    have Q12 : Hid (ESlice w12 (.slice a6 rs.length cap6) (emarks 1 rs.length)) := hQ.slice
    clear hu hQ RZ E11 A11 B11 O11
    obtain ⟨c0, c1⟩ := A12.out.2
    obtain ⟨d0, d1⟩ := B12.out.2
    have hlt := A12.out.1
    have hlu := B12.out.1
    go_wp2_with fail
    refine (heldSessionsResult_any c _ rs.length 1 _ Q12.out (by omega) hrs).mono ?_
    rintro e w13 ⟨rfl, hb⟩
    clear c0 c1 d0 d1 hlt hlu
    have E13 : Hid (Ext w w13) := E12.out.trans hb
    have A13 : Hid (EBoxAt w13 w3.heap.size c (.slice a3 rs.length cap3)) := A12.out.ext hb
    have B13 : Hid (EBoxAt w13 w6.heap.size c (.slice a6 rs.length cap6)) := B12.out.ext hb
    have O13 : Hid (EOwn w13 (.slice a3 rs.length cap3) g3 rs) := O12.out.ext hb
    have Q13 : Hid (ESlice w13 (.slice a6 rs.length cap6) (emarks 1 rs.length)) := Q12.out.ext hb
    clear E12 A12 B12 O12 Q12
    clear hb
    go_wp2_with fail
    refine (toSessionS_own _ zs _ (by exact HA.out.ext E13.out) hl).mono ?_
    rintro e w14 ⟨v14, rfl, hv14, hO, hb⟩
    have Y14 : Hid (ESlice w14 v14 zs) := hO.slice
    clear hO
    have E14 : Hid (Ext w w14) := E13.out.trans hb
    have A14 : Hid (EBoxAt w14 w3.heap.size c (.slice a3 rs.length cap3)) := A13.out.ext hb
    have B14 : Hid (EBoxAt w14 w6.heap.size c (.slice a6 rs.length cap6)) := B13.out.ext hb
    have O14 : Hid (EOwn w14 (.slice a3 rs.length cap3) g3 rs) := O13.out.ext hb
    have Q14 : Hid (ESlice w14 (.slice a6 rs.length cap6) (emarks 1 rs.length)) := Q13.out.ext hb
    clear E13 A13 B13 O13 Q13
    clear hb
    go_wp2_with fail
    refine (I1.out _ _ E14.out Y14.out).mono ?_
    rintro e w15 ⟨v15, g15, rfl, -, hO, hb⟩
    obtain ⟨a15, cap15, rfl, -⟩ := id hO
    have R15 : Hid (EOwn w15 (.slice a15 rs.length cap15) g15 rs) := hO
    clear hO
    have E15 : Hid (Ext w w15) := E14.out.trans hb
    have A15 : Hid (EBoxAt w15 w3.heap.size c (.slice a3 rs.length cap3)) := A14.out.ext hb
    have B15 : Hid (EBoxAt w15 w6.heap.size c (.slice a6 rs.length cap6)) := B14.out.ext hb
    have O15 : Hid (EOwn w15 (.slice a3 rs.length cap3) g3 rs) := O14.out.ext hb
    have Q15 : Hid (ESlice w15 (.slice a6 rs.length cap6) (emarks 1 rs.length)) := Q14.out.ext hb
    clear E14 A14 B14 O14 Q14
    clear hb
    unfold er
    obtain ⟨c0, c1⟩ := A15.out.2
    obtain ⟨d0, d1⟩ := B15.out.2
    have hlt := A15.out.1
    have hlu := B15.out.1
    go_wp2_with fail
    refine (eqSessionsResult_same c _ _ rs _ (by exact R15.out.slice.ext ((Ext.refl _).alloc _)) (by exact O15.out.slice.ext ((Ext.refl _).alloc _))).mono ?_
    rintro e w16 ⟨rfl, hb⟩
    clear c0 c1 d0 d1 hlt hlu
    have hb := ((Ext.refl w15).alloc _).trans hb
    have E16 : Hid (Ext w w16) := E15.out.trans hb
    have A16 : Hid (EBoxAt w16 w3.heap.size c (.slice a3 rs.length cap3)) := A15.out.ext hb
    have B16 : Hid (EBoxAt w16 w6.heap.size c (.slice a6 rs.length cap6)) := B15.out.ext hb
    have O16 : Hid (EOwn w16 (.slice a3 rs.length cap3) g3 rs) := O15.out.ext hb
    have Q16 : Hid (ESlice w16 (.slice a6 rs.length cap6) (emarks 1 rs.length)) := Q15.out.ext hb
    clear E15 A15 B15 O15 Q15
    clear hb
    obtain ⟨c0, c1⟩ := A16.out.2
    obtain ⟨d0, d1⟩ := B16.out.2
    have hlt := A16.out.1
    have hlu := B16.out.1
    go_wp2_with fail
    refine (heldSessionsResult_any c _ rs.length 1 _ Q16.out (by omega) hrs).mono ?_
    rintro e w17 ⟨rfl, hb⟩
    have E17 : Hid (Ext w w17) := E16.out.trans hb
    clear hb
    go_wp2
    go_ret
    exact ⟨rfl, E17.out⟩
set_option maxHeartbeats 4000000 in
set_option maxRecDepth 100000 in
theorem lawTouchSession_of (v : Value) (zs : List Se) (i n : Int) (w : World) (c : Int) (rs : List Se) (hS : ESlice w v zs) (hrs : rs.length ≤ 1048576)
    (hSp : zs.length ≤ 1048576 → ∀ (wx : World) (vx : Value), Ext w wx → SomeS vx → ESlice wx vx zs → Calls Try.prog 14 #[vx, .int .i64 i, .int .i64 n] wx (ERet wx c rs))
    (hIm : zs.length ≤ 1048576 → ∀ (wx : World) (vx : Value), Ext w wx → ESlice wx vx zs → Calls Try.prog 12 #[vx, .int .i64 i, .int .i64 n] wx (ERet wx c rs)) :
    Calls Try.prog 6 #[v, .int .i64 i, .int .i64 n] w fun e w' => e = .returned (.bool true) ∧ Ext w w' := by
  have HA : Hid (ESlice w v zs) := hS
  have HSp : Hid (zs.length ≤ 1048576 → ∀ (wx : World) (vx : Value), Ext w wx → SomeS vx → ESlice wx vx zs → Calls Try.prog 14 #[vx, .int .i64 i, .int .i64 n] wx (ERet wx c rs)) := hSp
  have HIm : Hid (zs.length ≤ 1048576 → ∀ (wx : World) (vx : Value), Ext w wx → ESlice wx vx zs → Calls Try.prog 12 #[vx, .int .i64 i, .int .i64 n] wx (ERet wx c rs)) := hIm
  have hsz := szSessionS_any v zs 1048576 w (by omega) (by omega) hS
  obtain ⟨a, cap, rfl, -⟩ := hS
  clear hSp hIm
  have HSz : Hid (Calls Try.prog 19 #[.slice a zs.length cap, .int .i64 1048576] w fun e w' => e = .returned (.int .i64 (if (1048576 : Int) < zs.length then -1 else 1048576 - zs.length)) ∧ w' = w) := hsz
  clear hsz
  go_enter Try.func6, Try.ntmps6
  go_wp2_with fail
  refine HSz.out.mono ?_
  rintro e w1 ⟨rfl, hb⟩
  have E1 : Hid (Ext w w1) := by rw [hb]; exact Ext.refl _
  clear HSz hb
  by_cases hr0 : (1048576 : Int) < zs.length
  · rw [if_pos hr0]
    go_wp2
    go_ret
    exact ⟨rfl, E1.out⟩
  · rw [if_neg hr0]
    have hl : zs.length ≤ 1048576 := by omega
    have S1 : Hid (∀ (wx : World) (vx : Value), Ext w wx → SomeS vx → ESlice wx vx zs → Calls Try.prog 14 #[vx, .int .i64 i, .int .i64 n] wx (ERet wx c rs)) := HSp.out hl
    have I1 : Hid (∀ (wx : World) (vx : Value), Ext w wx → ESlice wx vx zs → Calls Try.prog 12 #[vx, .int .i64 i, .int .i64 n] wx (ERet wx c rs)) := HIm.out hl
    clear HSp HIm
    go_wp2_with fail
    refine (toSessionS_own _ zs _ (by exact HA.out.ext E1.out) hl).mono ?_
    rintro e w2 ⟨v2, rfl, hv2, hO, hb⟩
    have E2 : Hid (Ext w w2) := E1.out.trans hb
    have O2 : Hid (ESlice w2 v2 zs) := hO.slice
    have V2 : Hid (SomeS v2) := hv2
    clear hb hO
    go_wp2_with fail
    refine (S1.out _ _ E2.out V2.out O2.out).mono ?_
    rintro e w3 ⟨v3, g3, rfl, hg3, hO, hb⟩
    obtain ⟨a3, cap3, rfl, -⟩ := id hO
    have E3 : Hid (Ext w w3) := E2.out.trans hb
    have O3 : Hid (EOwn w3 (.slice a3 rs.length cap3) g3 rs) := hO
    have L3 : Hid (0 < rs.length → g3 < w3.heap.size) := hO.lt
    clear hb hO hg3 O2 S1 E2
    unfold er
    go_wp2_with fail
    refine (toSessionS_own _ zs _ (by exact HA.out.ext (E3.out.alloc _)) hl).mono ?_
    rintro e w5 ⟨v5, rfl, hv5, hO, hb⟩
    obtain ⟨gx, hgx, hO⟩ : ∃ gx, gx = w3.heap.size + 1 ∧ EOwn w5 v5 gx zs := ⟨_, by simp, hO⟩
    have B5 : Hid (EBoxAt w5 w3.heap.size c (.slice a3 rs.length cap3)) := (eboxAt_new _ _ _ _).ext hb
    have E5 : Hid (Ext w w5) := (E3.out.alloc _).trans hb
    have O5 : Hid (EOwn w5 (.slice a3 rs.length cap3) g3 rs) := (O3.out.ext ((Ext.refl _).alloc _)).ext hb
    have X5 : Hid (EOwn w5 v5 gx zs) := hO
    have G5 : Hid (gx = w3.heap.size + 1) := hgx
    have M3 : Hid (w.heap.size ≤ w3.heap.size) := E3.out.size
    clear hb hO E3 O3 hgx
    go_wp2_with fail
    refine (I1.out _ _ E5.out X5.out.slice).mono ?_
    rintro e w6 ⟨v6, g6, rfl, hg6, hO, hb⟩
    obtain ⟨a6, cap6, rfl, -⟩ := id hO
    have E6 : Hid (Ext w w6) := E5.out.trans hb
    have A6 : Hid (EBoxAt w6 w3.heap.size c (.slice a3 rs.length cap3)) := B5.out.ext hb
    have O6 : Hid (EOwn w6 (.slice a3 rs.length cap3) g3 rs) := O5.out.ext hb
    have X6 : Hid (EOwn w6 v5 gx zs) := X5.out.ext hb
    have R6 : Hid (EOwn w6 (.slice a6 rs.length cap6) g6 rs) := hO
    have M5 : Hid (w5.heap.size ≤ g6 ∧ w3.heap.size < w5.heap.size ∧ (0 < zs.length → gx < w5.heap.size) ∧ (0 < rs.length → g6 < w6.heap.size)) := ⟨hg6, B5.out.1, X5.out.lt, hO.lt⟩
    have M6 : Hid (w5.heap.size ≤ w6.heap.size) := hb.size
    obtain ⟨c0, c1⟩ := A6.out.2
    have hlt := A6.out.1
    clear hb hO B5 O5 X5 E5 hg6
    unfold er
    go_wp2_with fail
    refine (eqSessionsResult_same c _ _ rs _ (by exact R6.out.slice.ext ((Ext.refl _).alloc _)) (by exact O6.out.slice.ext ((Ext.refl _).alloc _))).mono ?_
    rintro e w7 ⟨rfl, hb⟩
    have hb := ((Ext.refl w6).alloc _).trans hb
    have B7 : Hid (EBoxAt w7 w6.heap.size c (.slice a6 rs.length cap6)) := (eboxAt_new w6 c _ _).ext (by assumption)
    clear c0 c1 hlt
    have E7 : Hid (Ext w w7) := E6.out.trans hb
    have A7 : Hid (EBoxAt w7 w3.heap.size c (.slice a3 rs.length cap3)) := A6.out.ext hb
    have O7 : Hid (EOwn w7 (.slice a3 rs.length cap3) g3 rs) := O6.out.ext hb
    have X7 : Hid (EOwn w7 v5 gx zs) := X6.out.ext hb
    have R7 : Hid (EOwn w7 (.slice a6 rs.length cap6) g6 rs) := R6.out.ext hb
    clear E6 A6 O6 X6 R6
    clear hb
    go_wp2_with fail
    refine (toSessionS_own _ zs _ (by exact HA.out.ext E7.out) hl).mono ?_
    rintro e w8 ⟨v8, rfl, hv8, hO, hb⟩
    have Y8 : Hid (ESlice w8 v8 zs) := hO.slice
    clear hO
    have E8 : Hid (Ext w w8) := E7.out.trans hb
    have A8 : Hid (EBoxAt w8 w3.heap.size c (.slice a3 rs.length cap3)) := A7.out.ext hb
    have B8 : Hid (EBoxAt w8 w6.heap.size c (.slice a6 rs.length cap6)) := B7.out.ext hb
    have O8 : Hid (EOwn w8 (.slice a3 rs.length cap3) g3 rs) := O7.out.ext hb
    have X8 : Hid (EOwn w8 v5 gx zs) := X7.out.ext hb
    have R8 : Hid (EOwn w8 (.slice a6 rs.length cap6) g6 rs) := R7.out.ext hb
    clear E7 A7 B7 O7 X7 R7
    clear hb
    go_wp2_with fail
    refine (eqSessionS_same _ _ zs _ X8.out.slice Y8.out).mono ?_
    rintro e w9 ⟨rfl, hb⟩
    have E9 : Hid (Ext w w9) := E8.out.trans hb
    have A9 : Hid (EBoxAt w9 w3.heap.size c (.slice a3 rs.length cap3)) := A8.out.ext hb
    have B9 : Hid (EBoxAt w9 w6.heap.size c (.slice a6 rs.length cap6)) := B8.out.ext hb
    have O9 : Hid (EOwn w9 (.slice a3 rs.length cap3) g3 rs) := O8.out.ext hb
    have X9 : Hid (EOwn w9 v5 gx zs) := X8.out.ext hb
    have R9 : Hid (EOwn w9 (.slice a6 rs.length cap6) g6 rs) := R8.out.ext hb
    clear E8 A8 B8 O8 X8 R8
    clear hb Y8
    obtain ⟨gy, hgy, hXy, hcase⟩ := X9.out.pick
    have XY : Hid (EOwn w9 v5 gy zs) := hXy
    have CY : Hid (gy ≤ w9.heap.size ∧ (gy = w9.heap.size ∧ ¬ 0 < zs.length ∨ (gy = gx ∧ gx < w9.heap.size ∧ 0 < zs.length))) := ⟨hgy, hcase⟩
    clear hgy hXy hcase X9
    go_wp2_with fail
    refine (markSessionS_any _ gy zs 1 _ XY.out (by omega) hl).mono ?_
    rintro e w10 ⟨rfl, -, hu⟩
    have E10 : Hid (Ext w w10) := hu.to_ext E9.out (by have := CY.out; have := G5.out; have := M3.out; have := E9.out.size; omega)
    have A10 : Hid (EBoxAt w10 w3.heap.size c (.slice a3 rs.length cap3)) := A9.out.upd hu (by have := CY.out; have := G5.out; have := A9.out.1; omega)
    have B10 : Hid (EBoxAt w10 w6.heap.size c (.slice a6 rs.length cap6)) := B9.out.upd hu (by have := CY.out; have := M5.out; have := B9.out.1; have := M6.out; omega)
    have O10 : Hid (EOwn w10 (.slice a3 rs.length cap3) g3 rs) := O9.out.upd' hu (fun h => by have := CY.out; have := G5.out; have := L3.out h; have := O9.out.lt h; omega)
    have R10 : Hid (EOwn w10 (.slice a6 rs.length cap6) g6 rs) := R9.out.upd' hu (fun h => by have := CY.out; have := M5.out; have := R9.out.lt h; omega)
    clear hu XY E9 A9 B9 O9 R9
    obtain ⟨c0, c1⟩ := A10.out.2
    obtain ⟨d0, d1⟩ := B10.out.2
    have hlt := A10.out.1
    have hlu := B10.out.1
    go_wp2_with fail
    refine (eqSessionsResult_same c _ _ rs _ R10.out.slice O10.out.slice).mono ?_
    rintro e w11 ⟨rfl, hb⟩
    clear c0 c1 d0 d1 hlt hlu
    have E11 : Hid (Ext w w11) := E10.out.trans hb
    have A11 : Hid (EBoxAt w11 w3.heap.size c (.slice a3 rs.length cap3)) := A10.out.ext hb
    have B11 : Hid (EBoxAt w11 w6.heap.size c (.slice a6 rs.length cap6)) := B10.out.ext hb
    have O11 : Hid (EOwn w11 (.slice a3 rs.length cap3) g3 rs) := O10.out.ext hb
    have R11 : Hid (EOwn w11 (.slice a6 rs.length cap6) g6 rs) := R10.out.ext hb
    clear E10 A10 B10 O10 R10
    clear hb
    obtain ⟨gz, hgz, hRz, hcase⟩ := R11.out.pick
    have RZ : Hid (EOwn w11 (.slice a6 rs.length cap6) gz rs) := hRz
    have CZ : Hid (gz ≤ w11.heap.size ∧ (gz = w11.heap.size ∧ ¬ 0 < rs.length ∨ (gz = g6 ∧ g6 < w11.heap.size ∧ 0 < rs.length))) := ⟨hgz, hcase⟩
    clear hRz hcase R11 hgz
    obtain ⟨c0, c1⟩ := A11.out.2
    obtain ⟨d0, d1⟩ := B11.out.2
    have hlt := A11.out.1
    have hlu := B11.out.1
    go_wp2_with fail
    refine (markSessionsResult_any c _ gz rs 1 _ RZ.out CZ.out.1 (by omega) hrs).mono ?_
    rintro e w12 ⟨rfl, hQ, hu⟩
    clear c0 c1 d0 d1 hlt hlu
    have E12 : Hid (Ext w w12) := hu.to_ext E11.out (by have := CZ.out; have := M5.out; have := M3.out; have := E11.out.size; omega)
    have A12 : Hid (EBoxAt w12 w3.heap.size c (.slice a3 rs.length cap3)) := A11.out.upd hu (by have := CZ.out; have := M5.out; have := A11.out.1; omega)
    have B12 : Hid (EBoxAt w12 w6.heap.size c (.slice a6 rs.length cap6)) := B11.out.upd hu (by have := CZ.out; have := M5.out; have := B11.out.1; omega)
    have O12 : Hid (EOwn w12 (.slice a3 rs.length cap3) g3 rs) := O11.out.upd' hu (fun h => by have := CZ.out; have := M5.out; have := L3.out h; omega)
    have Q12 : Hid (ESlice w12 (.slice a6 rs.length cap6) (emarks 1 rs.length)) := hQ.slice
    clear hu hQ RZ E11 A11 B11 O11
    obtain ⟨c0, c1⟩ := A12.out.2
    obtain ⟨d0, d1⟩ := B12.out.2
    have hlt := A12.out.1
    have hlu := B12.out.1
    go_wp2_with fail
    refine (heldSessionsResult_any c _ rs.length 1 _ Q12.out (by omega) hrs).mono ?_
    rintro e w13 ⟨rfl, hb⟩
    clear c0 c1 d0 d1 hlt hlu
    have E13 : Hid (Ext w w13) := E12.out.trans hb
    have A13 : Hid (EBoxAt w13 w3.heap.size c (.slice a3 rs.length cap3)) := A12.out.ext hb
    have B13 : Hid (EBoxAt w13 w6.heap.size c (.slice a6 rs.length cap6)) := B12.out.ext hb
    have O13 : Hid (EOwn w13 (.slice a3 rs.length cap3) g3 rs) := O12.out.ext hb
    have Q13 : Hid (ESlice w13 (.slice a6 rs.length cap6) (emarks 1 rs.length)) := Q12.out.ext hb
    clear E12 A12 B12 O12 Q12
    clear hb
    go_wp2_with fail
    refine (toSessionS_own _ zs _ (by exact HA.out.ext E13.out) hl).mono ?_
    rintro e w14 ⟨v14, rfl, hv14, hO, hb⟩
    have Y14 : Hid (ESlice w14 v14 zs) := hO.slice
    clear hO
    have E14 : Hid (Ext w w14) := E13.out.trans hb
    have A14 : Hid (EBoxAt w14 w3.heap.size c (.slice a3 rs.length cap3)) := A13.out.ext hb
    have B14 : Hid (EBoxAt w14 w6.heap.size c (.slice a6 rs.length cap6)) := B13.out.ext hb
    have O14 : Hid (EOwn w14 (.slice a3 rs.length cap3) g3 rs) := O13.out.ext hb
    have Q14 : Hid (ESlice w14 (.slice a6 rs.length cap6) (emarks 1 rs.length)) := Q13.out.ext hb
    clear E13 A13 B13 O13 Q13
    clear hb
    go_wp2_with fail
    refine (I1.out _ _ E14.out Y14.out).mono ?_
    rintro e w15 ⟨v15, g15, rfl, -, hO, hb⟩
    obtain ⟨a15, cap15, rfl, -⟩ := id hO
    have R15 : Hid (EOwn w15 (.slice a15 rs.length cap15) g15 rs) := hO
    clear hO
    have E15 : Hid (Ext w w15) := E14.out.trans hb
    have A15 : Hid (EBoxAt w15 w3.heap.size c (.slice a3 rs.length cap3)) := A14.out.ext hb
    have B15 : Hid (EBoxAt w15 w6.heap.size c (.slice a6 rs.length cap6)) := B14.out.ext hb
    have O15 : Hid (EOwn w15 (.slice a3 rs.length cap3) g3 rs) := O14.out.ext hb
    have Q15 : Hid (ESlice w15 (.slice a6 rs.length cap6) (emarks 1 rs.length)) := Q14.out.ext hb
    clear E14 A14 B14 O14 Q14
    clear hb
    unfold er
    obtain ⟨c0, c1⟩ := A15.out.2
    obtain ⟨d0, d1⟩ := B15.out.2
    have hlt := A15.out.1
    have hlu := B15.out.1
    go_wp2_with fail
    refine (eqSessionsResult_same c _ _ rs _ (by exact R15.out.slice.ext ((Ext.refl _).alloc _)) (by exact O15.out.slice.ext ((Ext.refl _).alloc _))).mono ?_
    rintro e w16 ⟨rfl, hb⟩
    clear c0 c1 d0 d1 hlt hlu
    have hb := ((Ext.refl w15).alloc _).trans hb
    have E16 : Hid (Ext w w16) := E15.out.trans hb
    have A16 : Hid (EBoxAt w16 w3.heap.size c (.slice a3 rs.length cap3)) := A15.out.ext hb
    have B16 : Hid (EBoxAt w16 w6.heap.size c (.slice a6 rs.length cap6)) := B15.out.ext hb
    have O16 : Hid (EOwn w16 (.slice a3 rs.length cap3) g3 rs) := O15.out.ext hb
    have Q16 : Hid (ESlice w16 (.slice a6 rs.length cap6) (emarks 1 rs.length)) := Q15.out.ext hb
    clear E15 A15 B15 O15 Q15
    clear hb
    obtain ⟨c0, c1⟩ := A16.out.2
    obtain ⟨d0, d1⟩ := B16.out.2
    have hlt := A16.out.1
    have hlu := B16.out.1
    go_wp2_with fail
    refine (heldSessionsResult_any c _ rs.length 1 _ Q16.out (by omega) hrs).mono ?_
    rintro e w17 ⟨rfl, hb⟩
    have E17 : Hid (Ext w w17) := E16.out.trans hb
    clear hb
    go_wp2
    go_ret
    exact ⟨rfl, E17.out⟩
end Go.Proofs.Ytjlmkjcahnnjpaa
