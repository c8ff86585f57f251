/- the exact law of SplitSessions, walked. -/
import Derived.Test.YtjlmkjcahnnjpaaE14
namespace Go.Proofs.Ytjlmkjcahnnjpaa
open Go.RowKit

/-- Block b holds a SplitResult. -/
def SBoxAt (w : World) (b : Nat) (c : Int) (v u : Value) : Prop :=
  b < w.heap.size ∧ w.cell? ⟨b, 0, none⟩ = some (.int .i64 c) ∧ w.cell? ⟨b, 1, none⟩ = some v ∧ w.cell? ⟨b, 2, none⟩ = some u
theorem SBoxAt.same {w w' : World} {b : Nat} {c : Int} {v u : Value} (h : SBoxAt w b c v u) (hs : w.heap.size ≤ w'.heap.size) (hq : Same b w w') : SBoxAt w' b c v u :=
  ⟨Nat.lt_of_lt_of_le h.1 hs, (hq _).1.trans h.2.1, (hq _).1.trans h.2.2.1, (hq _).1.trans h.2.2.2⟩
theorem SBoxAt.ext {w w' : World} {b : Nat} {c : Int} {v u : Value} (h : SBoxAt w b c v u) (he : Ext w w') : SBoxAt w' b c v u := h.same he.size (Same.ext he h.1)
theorem sboxAt_new (w : World) (c : Int) (v u : Value) (t : TypeId) : SBoxAt (w.alloc (.cells #[.int .i64 c, v, u] t)) w.heap.size c v u := ⟨by simp, by simp, by simp, by simp⟩
/-- Both lists of a SplitResult, in memory of their own. -/
def TwoS (w : World) (v u : Value) (g h : Nat) (ls : List Se) (os : List Int) : Prop := EOwn w v g ls ∧ IOwn w u h os
theorem TwoS.ext {w w' : World} {v u : Value} {g h : Nat} {ls : List Se} {os : List Int} (t : TwoS w v u g h ls os) (he : Ext w w') : TwoS w' v u g h ls os := ⟨t.1.ext he, t.2.ext he⟩
theorem TwoS.same {w w' : World} {v u : Value} {g h : Nat} {ls : List Se} {os : List Int} (t : TwoS w v u g h ls os) (hs : w.heap.size ≤ w'.heap.size) (h1 : 0 < ls.length → Same g w w') (h2 : 0 < os.length → Same h w w') : TwoS w' v u g h ls os := ⟨t.1.same hs h1, t.2.same hs h2⟩

set_option maxHeartbeats 4000000 in
set_option maxRecDepth 100000 in
theorem lawSplitSessions_of (v : Value) (l : List Se) (n : Int) (w : World) (c : Int) (ls : List Se) (os : List Int) (hS : ESlice w v l) (hls : ls.length ≤ 1048576) (hos : os.length ≤ 1048576)
    (hSp : ∀ (wx : World) (vx : Value), ESlice wx vx l → Calls Try.prog 28 #[vx, .int .i64 n] wx (SRet wx c ls os))
    (hIm : ∀ (wx : World) (vx : Value), ESlice wx vx l → Calls Try.prog 16 #[vx, .int .i64 n] wx (SRet wx c ls os)) :
    Calls Try.prog 8 #[v, .int .i64 n] w fun e w' => e = .returned (.bool true) ∧ Ext w w' := by
  have HA : Hid (ESlice w v l) := hS
  have S1 : Hid (∀ (wx : World) (vx : Value), ESlice wx vx l → Calls Try.prog 28 #[vx, .int .i64 n] wx (SRet wx c ls os)) := hSp
  have I1 : Hid (∀ (wx : World) (vx : Value), ESlice wx vx l → Calls Try.prog 16 #[vx, .int .i64 n] wx (SRet wx c ls os)) := hIm
  have hsz := szSessionS_any v l 1048576 w (by omega) (by omega) hS
  obtain ⟨a, cap, rfl, -⟩ := hS
  clear hSp hIm
  have HSz : Hid (Calls Try.prog 19 #[.slice a l.length cap, .int .i64 1048576] w fun e w' => e = .returned (.int .i64 (if (1048576 : Int) < l.length then -1 else 1048576 - l.length)) ∧ w' = w) := hsz
  clear hsz
  by_cases hr0 : (1048576 : Int) < l.length
  · rw [if_pos hr0] at HSz
    go_enter Try.func8, Try.ntmps8
    go_wp2_with fail
    refine HSz.out.mono ?_
    rintro e w1 ⟨rfl, hb⟩
    have E1 : Hid (Ext w w1) := by rw [hb]; exact Ext.refl _
    clear HSz hb
    go_wp2
    go_ret
    exact ⟨rfl, E1.out⟩
  · rw [if_neg hr0] at HSz
    have hl : l.length ≤ 1048576 := by omega
    go_enter Try.func8, Try.ntmps8
    go_wp2_with fail
    refine HSz.out.mono ?_
    rintro e w1 ⟨rfl, hb⟩
    have E1 : Hid (Ext w w1) := by rw [hb]; exact Ext.refl _
    clear HSz hb
    go_wp2_with fail
    refine (toSessionS_own _ l _ (by exact HA.out.ext E1.out) hl).mono ?_
    rintro e w2 ⟨v2, rfl, -, hO, hb⟩
    have E2 : Hid (Ext w w2) := E1.out.trans hb
    have O2 : Hid (ESlice w2 v2 l) := hO.slice
    clear hb hO
    go_wp2_with fail
    refine (S1.out _ _ O2.out).mono ?_
    rintro e w3 ⟨v3, u3, g3, h3, rfl, hg3, hh3, hn3, hO, hI, hb⟩
    obtain ⟨a3, cap3, rfl, -⟩ := id hO
    obtain ⟨b3, cb3, rfl, -⟩ := id hI
    have E3 : Hid (Ext w w3) := E2.out.trans hb
    have O3 : Hid (TwoS w3 (.slice a3 ls.length cap3) (.slice b3 os.length cb3) g3 h3 ls os) := ⟨hO, hI⟩
    have L3 : Hid ((0 < ls.length → g3 < w3.heap.size) ∧ (0 < os.length → h3 < w3.heap.size)) := ⟨hO.lt, hI.lt⟩
    clear hb hO hI hg3 hh3 hn3 O2 S1 E2
    unfold sr
    go_wp2_with fail
    refine (toSessionS_own _ l _ (by exact HA.out.ext (E3.out.alloc _)) hl).mono ?_
    rintro e w5 ⟨v5, rfl, -, hO, hb⟩
    obtain ⟨gx, hgx, hO⟩ : ∃ gx, gx = w3.heap.size + 1 ∧ EOwn w5 v5 gx l := ⟨_, by simp, hO⟩
    have A5 : Hid (SBoxAt w5 w3.heap.size c (.slice a3 ls.length cap3) (.slice b3 os.length cb3)) := (sboxAt_new _ _ _ _ _).ext hb
    have E5 : Hid (Ext w w5) := (E3.out.alloc _).trans hb
    have O5 : Hid (TwoS w5 (.slice a3 ls.length cap3) (.slice b3 os.length cb3) g3 h3 ls os) := (O3.out.ext ((Ext.refl _).alloc _)).ext hb
    have X5 : Hid (EOwn w5 v5 gx l) := hO
    have G5 : Hid (gx = w3.heap.size + 1) := hgx
    have M3 : Hid (w.heap.size ≤ w3.heap.size) := E3.out.size
    clear hb hO E3 O3 hgx
    go_wp2_with fail
    refine (I1.out _ _ X5.out.slice).mono ?_
    rintro e w6 ⟨v6, u6, g6, h6, rfl, hg6, hh6, hn6, hO, hI, hb⟩
    obtain ⟨a6, cap6, rfl, -⟩ := id hO
    obtain ⟨b6, cb6, rfl, -⟩ := id hI
    have E6 : Hid (Ext w w6) := E5.out.trans hb
    have A6 : Hid (SBoxAt w6 w3.heap.size c (.slice a3 ls.length cap3) (.slice b3 os.length cb3)) := A5.out.ext hb
    have O6 : Hid (TwoS w6 (.slice a3 ls.length cap3) (.slice b3 os.length cb3) g3 h3 ls os) := O5.out.ext hb
    have X6 : Hid (EOwn w6 v5 gx l) := X5.out.ext hb
    have R6 : Hid (TwoS w6 (.slice a6 ls.length cap6) (.slice b6 os.length cb6) g6 h6 ls os) := ⟨hO, hI⟩
    have M5 : Hid (w5.heap.size ≤ g6 ∧ w5.heap.size ≤ h6 ∧ w3.heap.size < w5.heap.size ∧ (0 < l.length → gx < w5.heap.size) ∧ (0 < ls.length → g6 < w6.heap.size) ∧ (0 < os.length → h6 < w6.heap.size) ∧ (0 < ls.length → 0 < os.length → g6 ≠ h6)) := ⟨hg6, hh6, A5.out.1, X5.out.lt, hO.lt, hI.lt, hn6⟩
    have M6 : Hid (w5.heap.size ≤ w6.heap.size) := hb.size
    obtain ⟨c0, c1, c2⟩ := A6.out.2
    have hlt := A6.out.1
    clear hb hO hI A5 O5 X5 E5 hg6 hh6 hn6
    unfold sr
    go_wp2_with fail
    refine (eqSplitResult_same c _ _ _ _ ls os _ (by exact R6.out.1.slice.ext ((Ext.refl _).alloc _)) (by exact O6.out.1.slice.ext ((Ext.refl _).alloc _)) (by exact R6.out.2.slice.ext ((Ext.refl _).alloc _)) (by exact O6.out.2.slice.ext ((Ext.refl _).alloc _))).mono ?_
    rintro e w7 ⟨rfl, hb⟩
    have hb := ((Ext.refl w6).alloc _).trans hb
    have B7 : Hid (SBoxAt w7 w6.heap.size c (.slice a6 ls.length cap6) (.slice b6 os.length cb6)) := (sboxAt_new w6 c _ _ _).ext (by assumption)
    clear c0 c1 c2 hlt
    have E7 : Hid (Ext w w7) := E6.out.trans hb
    have A7 : Hid (SBoxAt w7 w3.heap.size c (.slice a3 ls.length cap3) (.slice b3 os.length cb3)) := A6.out.ext hb
    have O7 : Hid (TwoS w7 (.slice a3 ls.length cap3) (.slice b3 os.length cb3) g3 h3 ls os) := O6.out.ext hb
    have X7 : Hid (EOwn w7 v5 gx l) := X6.out.ext hb
    have R7 : Hid (TwoS w7 (.slice a6 ls.length cap6) (.slice b6 os.length cb6) g6 h6 ls os) := R6.out.ext hb
    clear E6 A6 O6 X6 R6 hb
    go_wp2_with fail
    refine (toSessionS_own _ l _ (by exact HA.out.ext E7.out) hl).mono ?_
    rintro e w8 ⟨v8, rfl, -, hO, hb⟩
    have Y8 : Hid (ESlice w8 v8 l) := hO.slice
    clear hO
    have E8 : Hid (Ext w w8) := E7.out.trans hb
    have A8 : Hid (SBoxAt w8 w3.heap.size c (.slice a3 ls.length cap3) (.slice b3 os.length cb3)) := A7.out.ext hb
    have B8 : Hid (SBoxAt w8 w6.heap.size c (.slice a6 ls.length cap6) (.slice b6 os.length cb6)) := B7.out.ext hb
    have O8 : Hid (TwoS w8 (.slice a3 ls.length cap3) (.slice b3 os.length cb3) g3 h3 ls os) := O7.out.ext hb
    have X8 : Hid (EOwn w8 v5 gx l) := X7.out.ext hb
    have R8 : Hid (TwoS w8 (.slice a6 ls.length cap6) (.slice b6 os.length cb6) g6 h6 ls os) := R7.out.ext hb
    clear E7 A7 B7 O7 X7 R7 hb
    go_wp2_with fail
    refine (eqSessionS_same _ _ l _ X8.out.slice Y8.out).mono ?_
    rintro e w9 ⟨rfl, hb⟩
    have E9 : Hid (Ext w w9) := E8.out.trans hb
    have A9 : Hid (SBoxAt w9 w3.heap.size c (.slice a3 ls.length cap3) (.slice b3 os.length cb3)) := A8.out.ext hb
    have B9 : Hid (SBoxAt w9 w6.heap.size c (.slice a6 ls.length cap6) (.slice b6 os.length cb6)) := B8.out.ext hb
    have O9 : Hid (TwoS w9 (.slice a3 ls.length cap3) (.slice b3 os.length cb3) g3 h3 ls os) := O8.out.ext hb
    have X9 : Hid (EOwn w9 v5 gx l) := X8.out.ext hb
    have R9 : Hid (TwoS w9 (.slice a6 ls.length cap6) (.slice b6 os.length cb6) g6 h6 ls os) := R8.out.ext hb
    clear E8 A8 B8 O8 X8 R8 hb Y8
    obtain ⟨gy, hgy, hXy, hcase⟩ := X9.out.pick
    have XY : Hid (EOwn w9 v5 gy l) := hXy
    have CY : Hid (gy ≤ w9.heap.size ∧ (gy = w9.heap.size ∧ ¬ 0 < l.length ∨ (gy = gx ∧ gx < w9.heap.size ∧ 0 < l.length))) := ⟨hgy, hcase⟩
    clear hgy hXy hcase X9
    go_wp2_with fail
    refine (markSessionS_any _ gy l 1 _ XY.out (by omega) hl).mono ?_
    rintro e w10 ⟨rfl, -, hu⟩
    have E10 : Hid (Ext w w10) := hu.to_ext E9.out (by have := CY.out; have := G5.out; have := M3.out; have := E9.out.size; omega)
    have A10 : Hid (SBoxAt w10 w3.heap.size c (.slice a3 ls.length cap3) (.slice b3 os.length cb3)) := A9.out.same hu.2.1 (Same.upd hu A9.out.1 (by have := CY.out; have := G5.out; have := A9.out.1; omega))
    have B10 : Hid (SBoxAt w10 w6.heap.size c (.slice a6 ls.length cap6) (.slice b6 os.length cb6)) := B9.out.same hu.2.1 (Same.upd hu B9.out.1 (by have := CY.out; have := M5.out; have := B9.out.1; have := M6.out; omega))
    have O10 : Hid (TwoS w10 (.slice a3 ls.length cap3) (.slice b3 os.length cb3) g3 h3 ls os) := O9.out.same hu.2.1 (fun h => Same.upd hu (O9.out.1.lt h) (by have := CY.out; have := G5.out; have := L3.out.1 h; have := O9.out.1.lt h; omega)) (fun h => Same.upd hu (O9.out.2.lt h) (by have := CY.out; have := G5.out; have := L3.out.2 h; have := O9.out.2.lt h; omega))
    have R10 : Hid (TwoS w10 (.slice a6 ls.length cap6) (.slice b6 os.length cb6) g6 h6 ls os) := R9.out.same hu.2.1 (fun h => Same.upd hu (R9.out.1.lt h) (by have := CY.out; have := M5.out; have := R9.out.1.lt h; omega)) (fun h => Same.upd hu (R9.out.2.lt h) (by have := CY.out; have := M5.out; have := R9.out.2.lt h; omega))
    clear hu XY E9 A9 B9 O9 R9
    obtain ⟨c0, c1, c2⟩ := A10.out.2
    obtain ⟨d0, d1, d2⟩ := B10.out.2
    have hlt := A10.out.1
    have hlu := B10.out.1
    go_wp2_with fail
    refine (eqSplitResult_same c _ _ _ _ ls os _ R10.out.1.slice O10.out.1.slice R10.out.2.slice O10.out.2.slice).mono ?_
    rintro e w11 ⟨rfl, hb⟩
    clear c0 c1 c2 d0 d1 d2 hlt hlu
    have E11 : Hid (Ext w w11) := E10.out.trans hb
    have A11 : Hid (SBoxAt w11 w3.heap.size c (.slice a3 ls.length cap3) (.slice b3 os.length cb3)) := A10.out.ext hb
    have B11 : Hid (SBoxAt w11 w6.heap.size c (.slice a6 ls.length cap6) (.slice b6 os.length cb6)) := B10.out.ext hb
    have O11 : Hid (TwoS w11 (.slice a3 ls.length cap3) (.slice b3 os.length cb3) g3 h3 ls os) := O10.out.ext hb
    have R11 : Hid (TwoS w11 (.slice a6 ls.length cap6) (.slice b6 os.length cb6) g6 h6 ls os) := R10.out.ext hb
    clear E10 A10 B10 O10 R10 hb
    obtain ⟨c0, c1, c2⟩ := A11.out.2
    obtain ⟨d0, d1, d2⟩ := B11.out.2
    have hlt := A11.out.1
    have hlu := B11.out.1
    go_wp2_with fail
    refine (markSplitResult_any c _ _ g6 h6 ls os _ R11.out.1 R11.out.2 M5.out.2.2.2.2.2.2 hls hos).mono ?_
    rintro e w12 ⟨rfl, hQ, hQ', hm⟩
    clear c0 c1 c2 d0 d1 d2 hlt hlu
    have E12 : Hid (Ext w w12) := Below.trans E11.out (hm.2.2 _ E11.out.size (fun _ => by have := M5.out; have := M3.out; omega) (fun _ => by have := M5.out; have := M3.out; omega))
    have A12 : Hid (SBoxAt w12 w3.heap.size c (.slice a3 ls.length cap3) (.slice b3 os.length cb3)) := A11.out.same hm.1 (hm.2.1 _ A11.out.1 (fun _ => by have := M5.out; omega) (fun _ => by have := M5.out; omega))
    have B12 : Hid (SBoxAt w12 w6.heap.size c (.slice a6 ls.length cap6) (.slice b6 os.length cb6)) := B11.out.same hm.1 (hm.2.1 _ B11.out.1 (fun h => by have := M5.out.2.2.2.2.1 h; omega) (fun h => by have := M5.out.2.2.2.2.2.1 h; omega))
    have O12 : Hid (TwoS w12 (.slice a3 ls.length cap3) (.slice b3 os.length cb3) g3 h3 ls os) := O11.out.same hm.1 (fun h => hm.2.1 _ (O11.out.1.lt h) (fun _ => by have := M5.out; have := L3.out.1 h; omega) (fun _ => by have := M5.out; have := L3.out.1 h; omega)) (fun h => hm.2.1 _ (O11.out.2.lt h) (fun _ => by have := M5.out; have := L3.out.2 h; omega) (fun _ => by have := M5.out; have := L3.out.2 h; omega))
    have Q12 : Hid (ESlice w12 (.slice a6 ls.length cap6) (emarks 1 ls.length) ∧ ISlice w12 (.slice b6 os.length cb6) (imarks (1 + 2 * ls.length) os.length)) := ⟨hQ, hQ'⟩
    clear hm hQ hQ' R11 E11 A11 B11 O11
    obtain ⟨mm, hmm⟩ : ∃ mm, mm = 1 + 2 * ls.length + os.length := ⟨_, rfl⟩
    have hmb : mm ≤ 10000000 := by omega
    have HMM : Hid (mm = 1 + 2 * ls.length + os.length) := hmm
    rw [← hmm]
    clear hmm
    obtain ⟨c0, c1, c2⟩ := A12.out.2
    obtain ⟨d0, d1, d2⟩ := B12.out.2
    have hlt := A12.out.1
    have hlu := B12.out.1
    go_wp2_with fail
    refine (heldSplitResult_any c _ _ ls.length os.length _ Q12.out.1 Q12.out.2 hls hos).mono ?_
    rintro e w13 ⟨rfl, hb⟩
    rw [← HMM.out]
    clear c0 c1 c2 d0 d1 d2 hlt hlu
    have E13 : Hid (Ext w w13) := E12.out.trans hb
    have A13 : Hid (SBoxAt w13 w3.heap.size c (.slice a3 ls.length cap3) (.slice b3 os.length cb3)) := A12.out.ext hb
    have B13 : Hid (SBoxAt w13 w6.heap.size c (.slice a6 ls.length cap6) (.slice b6 os.length cb6)) := B12.out.ext hb
    have O13 : Hid (TwoS w13 (.slice a3 ls.length cap3) (.slice b3 os.length cb3) g3 h3 ls os) := O12.out.ext hb
    have Q13 : Hid (ESlice w13 (.slice a6 ls.length cap6) (emarks 1 ls.length) ∧ ISlice w13 (.slice b6 os.length cb6) (imarks (1 + 2 * ls.length) os.length)) := ⟨Q12.out.1.ext hb, Q12.out.2.ext hb⟩
    clear E12 A12 B12 O12 Q12 hb
    go_wp2_with fail
    refine (toSessionS_own _ l _ (by exact HA.out.ext E13.out) hl).mono ?_
    rintro e w14 ⟨v14, rfl, -, hO, hb⟩
    have Y14 : Hid (ESlice w14 v14 l) := hO.slice
    clear hO
    have E14 : Hid (Ext w w14) := E13.out.trans hb
    have A14 : Hid (SBoxAt w14 w3.heap.size c (.slice a3 ls.length cap3) (.slice b3 os.length cb3)) := A13.out.ext hb
    have B14 : Hid (SBoxAt w14 w6.heap.size c (.slice a6 ls.length cap6) (.slice b6 os.length cb6)) := B13.out.ext hb
    have O14 : Hid (TwoS w14 (.slice a3 ls.length cap3) (.slice b3 os.length cb3) g3 h3 ls os) := O13.out.ext hb
    have Q14 : Hid (ESlice w14 (.slice a6 ls.length cap6) (emarks 1 ls.length) ∧ ISlice w14 (.slice b6 os.length cb6) (imarks (1 + 2 * ls.length) os.length)) := ⟨Q13.out.1.ext hb, Q13.out.2.ext hb⟩
    clear E13 A13 B13 O13 Q13 hb
    go_wp2_with fail
    refine (I1.out _ _ Y14.out).mono ?_
    rintro e w15 ⟨v15, u15, g15, h15, rfl, -, -, -, hO, hI, hb⟩
    obtain ⟨a15, cap15, rfl, -⟩ := id hO
    obtain ⟨b15, cb15, rfl, -⟩ := id hI
    have R15 : Hid (TwoS w15 (.slice a15 ls.length cap15) (.slice b15 os.length cb15) g15 h15 ls os) := ⟨hO, hI⟩
    clear hO hI
    have E15 : Hid (Ext w w15) := E14.out.trans hb
    have A15 : Hid (SBoxAt w15 w3.heap.size c (.slice a3 ls.length cap3) (.slice b3 os.length cb3)) := A14.out.ext hb
    have B15 : Hid (SBoxAt w15 w6.heap.size c (.slice a6 ls.length cap6) (.slice b6 os.length cb6)) := B14.out.ext hb
    have O15 : Hid (TwoS w15 (.slice a3 ls.length cap3) (.slice b3 os.length cb3) g3 h3 ls os) := O14.out.ext hb
    have Q15 : Hid (ESlice w15 (.slice a6 ls.length cap6) (emarks 1 ls.length) ∧ ISlice w15 (.slice b6 os.length cb6) (imarks (1 + 2 * ls.length) os.length)) := ⟨Q14.out.1.ext hb, Q14.out.2.ext hb⟩
    clear E14 A14 B14 O14 Q14 hb
    unfold sr
    obtain ⟨c0, c1, c2⟩ := A15.out.2
    obtain ⟨d0, d1, d2⟩ := B15.out.2
    have hlt := A15.out.1
    have hlu := B15.out.1
    go_wp2_with fail
    refine (eqSplitResult_same c _ _ _ _ ls os _ (by exact R15.out.1.slice.ext ((Ext.refl _).alloc _)) (by exact O15.out.1.slice.ext ((Ext.refl _).alloc _)) (by exact R15.out.2.slice.ext ((Ext.refl _).alloc _)) (by exact O15.out.2.slice.ext ((Ext.refl _).alloc _))).mono ?_
    rintro e w16 ⟨rfl, hb⟩
    clear c0 c1 c2 d0 d1 d2 hlt hlu
    have hb := ((Ext.refl w15).alloc _).trans hb
    have E16 : Hid (Ext w w16) := E15.out.trans hb
    have A16 : Hid (SBoxAt w16 w3.heap.size c (.slice a3 ls.length cap3) (.slice b3 os.length cb3)) := A15.out.ext hb
    have B16 : Hid (SBoxAt w16 w6.heap.size c (.slice a6 ls.length cap6) (.slice b6 os.length cb6)) := B15.out.ext hb
    have O16 : Hid (TwoS w16 (.slice a3 ls.length cap3) (.slice b3 os.length cb3) g3 h3 ls os) := O15.out.ext hb
    have Q16 : Hid (ESlice w16 (.slice a6 ls.length cap6) (emarks 1 ls.length) ∧ ISlice w16 (.slice b6 os.length cb6) (imarks (1 + 2 * ls.length) os.length)) := ⟨Q15.out.1.ext hb, Q15.out.2.ext hb⟩
    clear E15 A15 B15 O15 Q15 hb
    obtain ⟨c0, c1, c2⟩ := A16.out.2
    obtain ⟨d0, d1, d2⟩ := B16.out.2
    have hlt := A16.out.1
    have hlu := B16.out.1
    go_wp2_with fail
    refine (heldSplitResult_any c _ _ ls.length os.length _ Q16.out.1 Q16.out.2 hls hos).mono ?_
    rintro e w17 ⟨rfl, hb⟩
    rw [← HMM.out]
    have E17 : Hid (Ext w w17) := E16.out.trans hb
    clear hb
    go_wp2
    go_ret
    exact ⟨rfl, E17.out⟩

theorem Ses.splitV_len (l : List Se) (n : Int) : (Ses.splitV l n).2.1.length ≤ 1048576 ∧ (Ses.splitV l n).2.2.length ≤ 1048576 := by
  unfold Ses.splitV
  by_cases h : Ses.moment l n ≠ 0
  · rw [if_pos h]; simp
  · rw [if_neg h]
    have h6 := (Ses.fault_zero (Ses.moment_zero (l := l) (n := n) (by omega)).1).1
    have h1 := List.length_filter_le (fun s : Se => decide (n ≤ s.til)) l
    have h2 := List.length_filter_le (fun s : Se => decide (s.til < n)) l
    refine ⟨?_, ?_⟩
    · show (Ses.liveL l n).length ≤ _
      unfold Ses.liveL; omega
    · show (Ses.overL l n).length ≤ _
      unfold Ses.overL; rw [List.length_map]; omega
theorem lawSplitSessions (v : Value) (l : List Se) (n : Int) (w : World) (hS : ESlice w v l) :
    Calls Try.prog 8 #[v, .int .i64 n] w fun e w' => e = .returned (.bool true) ∧ Ext w w' :=
  lawSplitSessions_of v l n w _ _ _ hS (Ses.splitV_len l n).1 (Ses.splitV_len l n).2 (fun wx vx h => specSplitSessions_any vx l n wx h) (fun wx vx h => implSplitSessions_any vx l n wx h)
end Go.Proofs.Ytjlmkjcahnnjpaa
