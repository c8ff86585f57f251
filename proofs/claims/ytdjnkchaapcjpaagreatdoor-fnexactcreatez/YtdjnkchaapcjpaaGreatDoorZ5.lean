/- the exact laws of functions over nodes, walked, out of what the function and its specification answer. -/
import Derived.Test.YtdjnkchaapcjpaaGreatDoorZ4
namespace Go.Proofs.YtdjnkchaapcjpaaGreatDoor
open Go.RowKit

/-- A ZResult of code c, path p and nodes rs came back, its nodes in new memory. -/
def ZRet (w : World) (c : Int) (p : ByteArray) (rs : List Zn) (e : Ending) (w' : World) : Prop :=
  ∃ v g, e = .returned (zr c p v) ∧ w.heap.size ≤ g ∧ Own w' v g rs ∧ Ext w w'
/-- Block b holds a ZResult. -/
def BoxAt (w : World) (b : Nat) (c : Int) (p : ByteArray) (v : Value) : Prop :=
  b < w.heap.size ∧ w.cell? ⟨b, 0, none⟩ = some (.int .i64 c) ∧ w.cell? ⟨b, 1, none⟩ = some (.string p) ∧ w.cell? ⟨b, 2, none⟩ = some v
theorem Own.lt {w : World} {v : Value} {g : Nat} {zs : List Zn} (h : Own w v g zs) (h0 : 0 < zs.length) : g < w.heap.size := by
  obtain ⟨a, cap, -, -, -, h4⟩ := h
  obtain ⟨off, -, hr, -⟩ := h4 h0
  exact hr.1
theorem Own.nil {w w' : World} {v : Value} {g g' : Nat} {zs : List Zn} (h : Own w v g zs) (h0 : ¬ 0 < zs.length) : Own w' v g' zs := by
  obtain ⟨a, cap, h1, h2, h3, -⟩ := h
  exact ⟨a, cap, h1, h2, h3, fun h => absurd h h0⟩
theorem Own.upd' {w w' : World} {v : Value} {g b : Nat} {zs : List Zn} (h : Own w v g zs) (he : Upd b w w') (hne : 0 < zs.length → g ≠ b) : Own w' v g zs := by
  by_cases h0 : 0 < zs.length
  · exact h.upd he (hne h0)
  · exact h.nil h0
theorem Own.pick {w : World} {v : Value} {g : Nat} {zs : List Zn} (h : Own w v g zs) : ∃ g', g' ≤ w.heap.size ∧ Own w v g' zs ∧ (g' = w.heap.size ∧ ¬ 0 < zs.length ∨ (g' = g ∧ g < w.heap.size ∧ 0 < zs.length)) := by
  by_cases h0 : 0 < zs.length
  · exact ⟨g, Nat.le_of_lt (h.lt h0), h, Or.inr ⟨rfl, h.lt h0, h0⟩⟩
  · exact ⟨_, Nat.le_refl _, h.nil h0, Or.inl ⟨rfl, h0⟩⟩
theorem BoxAt.ext {w w' : World} {b : Nat} {c : Int} {p : ByteArray} {v : Value} (h : BoxAt w b c p v) (he : Ext w w') : BoxAt w' b c p v := by
  obtain ⟨hc, _⟩ := Ext.cell he
  exact ⟨Nat.lt_of_lt_of_le h.1 he.size, (hc _ _ h.1).trans h.2.1, (hc _ _ h.1).trans h.2.2.1, (hc _ _ h.1).trans h.2.2.2⟩
theorem BoxAt.upd {w w' : World} {b g : Nat} {c : Int} {p : ByteArray} {v : Value} (h : BoxAt w b c p v) (he : Upd g w w') (hne : b ≠ g) : BoxAt w' b c p v :=
  ⟨Nat.lt_of_lt_of_le h.1 he.2.1, (he.at_ne _ _ hne h.1).1.trans h.2.1, (he.at_ne _ _ hne h.1).1.trans h.2.2.1, (he.at_ne _ _ hne h.1).1.trans h.2.2.2⟩
theorem box_new (w : World) (c : Int) (p : ByteArray) (v : Value) (t : TypeId) : BoxAt (w.alloc (.cells #[.int .i64 c, .string p, v] t)) w.heap.size c p v :=
  ⟨by simp, by simp, by simp, by simp⟩

set_option maxHeartbeats 4000000 in
set_option maxRecDepth 100000 in
theorem lawCreateZ_of (v : Value) (zs : List Zn) (s : ByteArray) (d : Int) (o : Int) (q : Bool) (w : World) (c : Int) (p : ByteArray) (rs : List Zn) (hS : NSlice w v zs) (hz : ∀ z ∈ zs, z.path.size ≤ maxLen) (hrs : rs.length ≤ 1048576)
    (hSp : s.size ≤ 1048576 → zs.length ≤ 1048576 → (∀ z ∈ zs, z.path.size ≤ 1048576) → ∀ (wx : World) (vx : Value), Ext w wx → NSlice wx vx zs → Calls Tryz.prog 34 #[vx, .string s, .int .i64 d, .int .i64 o, .bool q] wx (ZRet wx c p rs))
    (hIm : s.size ≤ 1048576 → zs.length ≤ 1048576 → (∀ z ∈ zs, z.path.size ≤ 1048576) → ∀ (wx : World) (vx : Value), Ext w wx → NSlice wx vx zs → Calls Tryz.prog 36 #[vx, .string s, .int .i64 d, .int .i64 o, .bool q] wx (ZRet wx c p rs)) :
    Calls Tryz.prog 8 #[v, .string s, .int .i64 d, .int .i64 o, .bool q] w fun e w' => e = .returned (.bool true) ∧ Ext w w' := by
  have HA : Hid (NSlice w v zs) := hS
  have HSp : Hid (s.size ≤ 1048576 → zs.length ≤ 1048576 → (∀ z ∈ zs, z.path.size ≤ 1048576) → ∀ (wx : World) (vx : Value), Ext w wx → NSlice wx vx zs → Calls Tryz.prog 34 #[vx, .string s, .int .i64 d, .int .i64 o, .bool q] wx (ZRet wx c p rs)) := hSp
  have HIm : Hid (s.size ≤ 1048576 → zs.length ≤ 1048576 → (∀ z ∈ zs, z.path.size ≤ 1048576) → ∀ (wx : World) (vx : Value), Ext w wx → NSlice wx vx zs → Calls Tryz.prog 36 #[vx, .string s, .int .i64 d, .int .i64 o, .bool q] wx (ZRet wx c p rs)) := hIm
  have hsz := szZnodeS_any v zs 1048576 w (by omega) (by omega) hS hz
  obtain ⟨a, cap, rfl, -⟩ := hS
  clear hSp hIm hz
  by_cases hxs : 1048576 < s.size
  · go_enter Tryz.func8, Tryz.ntmps8
    go_wp2
    go_ret
    exact ⟨rfl, Ext.refl _⟩
  have HSz : Hid (Calls Tryz.prog 33 #[.slice a zs.length cap, .int .i64 1048576] w fun e w' => ∃ r : Int, e = .returned (.int .i64 r) ∧ (0 ≤ r → zs.length ≤ 1048576 ∧ ∀ z ∈ zs, z.path.size ≤ 1048576) ∧ Ext w w') := hsz
  clear hsz
  go_enter Tryz.func8, Tryz.ntmps8
  go_wp2_with fail
  refine HSz.out.mono ?_
  rintro e w1 ⟨r, rfl, hr, hb⟩
  have E1 : Hid (Ext w w1) := hb
  clear HSz hb
  by_cases hr0 : r < 0
  · go_wp2
    go_ret
    exact ⟨rfl, E1.out⟩
  · obtain ⟨hl, hp⟩ := hr (by omega)
    have S1 : Hid (∀ (wx : World) (vx : Value), Ext w wx → NSlice wx vx zs → Calls Tryz.prog 34 #[vx, .string s, .int .i64 d, .int .i64 o, .bool q] wx (ZRet wx c p rs)) := HSp.out (by omega) hl hp
    have I1 : Hid (∀ (wx : World) (vx : Value), Ext w wx → NSlice wx vx zs → Calls Tryz.prog 36 #[vx, .string s, .int .i64 d, .int .i64 o, .bool q] wx (ZRet wx c p rs)) := HIm.out (by omega) hl hp
    clear HSp HIm hr hp
    go_wp2_with fail
    refine (toZnodeS_any _ zs _ (by exact HA.out.ext E1.out) hl).mono ?_
    rintro e w2 ⟨v2, rfl, hO, hb⟩
    have E2 : Hid (Ext w w2) := E1.out.trans hb
    have O2 : Hid (NSlice w2 v2 zs) := hO.slice
    clear hb hO
    go_wp2_with fail
    refine (S1.out _ _ E2.out O2.out).mono ?_
    rintro e w3 ⟨v3, g3, rfl, hg3, hO, hb⟩
    obtain ⟨a3, cap3, rfl, -⟩ := id hO
    have E3 : Hid (Ext w w3) := E2.out.trans hb
    have O3 : Hid (Own w3 (.slice a3 rs.length cap3) g3 rs) := hO
    have L3 : Hid (0 < rs.length → g3 < w3.heap.size) := hO.lt
    clear hb hO hg3 O2 S1 E2
    unfold zr
    go_wp2_with fail
    refine (toZnodeS_any _ zs _ (by exact HA.out.ext (E3.out.alloc _)) hl).mono ?_
    rintro e w5 ⟨v5, rfl, hO, hb⟩
    obtain ⟨gx, hgx, hO⟩ : ∃ gx, gx = w3.heap.size + 1 ∧ Own w5 v5 gx zs := ⟨_, by simp, hO⟩
    have B5 : Hid (BoxAt w5 w3.heap.size c p (.slice a3 rs.length cap3)) := (box_new _ _ _ _ _).ext hb
    have E5 : Hid (Ext w w5) := (E3.out.alloc _).trans hb
    have O5 : Hid (Own w5 (.slice a3 rs.length cap3) g3 rs) := (O3.out.ext ((Ext.refl _).alloc _)).ext hb
    have X5 : Hid (Own w5 v5 gx zs) := hO
    have G5 : Hid (gx = w3.heap.size + 1) := hgx
    have M3 : Hid (w.heap.size ≤ w3.heap.size) := E3.out.size
    clear hb hO E3 O3 hgx
    go_wp2_with fail
    refine (I1.out _ _ E5.out X5.out.slice).mono ?_
    rintro e w6 ⟨v6, g6, rfl, hg6, hO, hb⟩
    obtain ⟨a6, cap6, rfl, -⟩ := id hO
    have E6 : Hid (Ext w w6) := E5.out.trans hb
    have A6 : Hid (BoxAt w6 w3.heap.size c p (.slice a3 rs.length cap3)) := B5.out.ext hb
    have O6 : Hid (Own w6 (.slice a3 rs.length cap3) g3 rs) := O5.out.ext hb
    have X6 : Hid (Own w6 v5 gx zs) := X5.out.ext hb
    have R6 : Hid (Own w6 (.slice a6 rs.length cap6) g6 rs) := hO
    have M5 : Hid (w5.heap.size ≤ g6 ∧ w3.heap.size < w5.heap.size ∧ (0 < zs.length → gx < w5.heap.size) ∧ (0 < rs.length → g6 < w6.heap.size)) := ⟨hg6, B5.out.1, X5.out.lt, hO.lt⟩
    have M6 : Hid (w5.heap.size ≤ w6.heap.size) := hb.size
    obtain ⟨c0, c1, c2⟩ := A6.out.2
    have hlt := A6.out.1
    clear hb hO B5 O5 X5 E5 hg6
    unfold zr
    go_wp2_with fail
    refine (eqZResult_same c p _ _ rs _ (by exact R6.out.slice.ext ((Ext.refl _).alloc _)) (by exact O6.out.slice.ext ((Ext.refl _).alloc _))).mono ?_
    rintro e w7 ⟨rfl, hb⟩
    have hb := ((Ext.refl w6).alloc _).trans hb
    have B7 : Hid (BoxAt w7 w6.heap.size c p (.slice a6 rs.length cap6)) := (box_new w6 c p _ _).ext (by assumption)
    clear c0 c1 c2 hlt
    have E7 : Hid (Ext w w7) := E6.out.trans hb
    have A7 : Hid (BoxAt w7 w3.heap.size c p (.slice a3 rs.length cap3)) := A6.out.ext hb
    have O7 : Hid (Own w7 (.slice a3 rs.length cap3) g3 rs) := O6.out.ext hb
    have X7 : Hid (Own w7 v5 gx zs) := X6.out.ext hb
    have R7 : Hid (Own w7 (.slice a6 rs.length cap6) g6 rs) := R6.out.ext hb
    clear E6 A6 O6 X6 R6
    clear hb
    go_wp2_with fail
    refine (toZnodeS_any _ zs _ (by exact HA.out.ext E7.out) hl).mono ?_
    rintro e w8 ⟨v8, rfl, hO, hb⟩
    have Y8 : Hid (NSlice w8 v8 zs) := hO.slice
    clear hO
    have E8 : Hid (Ext w w8) := E7.out.trans hb
    have A8 : Hid (BoxAt w8 w3.heap.size c p (.slice a3 rs.length cap3)) := A7.out.ext hb
    have B8 : Hid (BoxAt w8 w6.heap.size c p (.slice a6 rs.length cap6)) := B7.out.ext hb
    have O8 : Hid (Own w8 (.slice a3 rs.length cap3) g3 rs) := O7.out.ext hb
    have X8 : Hid (Own w8 v5 gx zs) := X7.out.ext hb
    have R8 : Hid (Own w8 (.slice a6 rs.length cap6) g6 rs) := R7.out.ext hb
    clear E7 A7 B7 O7 X7 R7
    clear hb
    go_wp2_with fail
    refine (eqZnodeS_same _ _ zs _ X8.out.slice Y8.out).mono ?_
    rintro e w9 ⟨rfl, hb⟩
    have E9 : Hid (Ext w w9) := E8.out.trans hb
    have A9 : Hid (BoxAt w9 w3.heap.size c p (.slice a3 rs.length cap3)) := A8.out.ext hb
    have B9 : Hid (BoxAt w9 w6.heap.size c p (.slice a6 rs.length cap6)) := B8.out.ext hb
    have O9 : Hid (Own w9 (.slice a3 rs.length cap3) g3 rs) := O8.out.ext hb
    have X9 : Hid (Own w9 v5 gx zs) := X8.out.ext hb
    have R9 : Hid (Own w9 (.slice a6 rs.length cap6) g6 rs) := R8.out.ext hb
    clear E8 A8 B8 O8 X8 R8
    clear hb Y8
    obtain ⟨gy, hgy, hXy, hcase⟩ := X9.out.pick
    have XY : Hid (Own w9 v5 gy zs) := hXy
    have CY : Hid (gy ≤ w9.heap.size ∧ (gy = w9.heap.size ∧ ¬ 0 < zs.length ∨ (gy = gx ∧ gx < w9.heap.size ∧ 0 < zs.length))) := ⟨hgy, hcase⟩
    clear hgy hXy hcase X9
    go_wp2_with fail
    refine (markZnodeS_any _ gy zs 1 _ XY.out (by omega) hl).mono ?_
    rintro e w10 ⟨rfl, -, hu⟩
    have E10 : Hid (Ext w w10) := hu.to_ext E9.out (by have := CY.out; have := G5.out; have := M3.out; have := E9.out.size; omega)
    have A10 : Hid (BoxAt w10 w3.heap.size c p (.slice a3 rs.length cap3)) := A9.out.upd hu (by have := CY.out; have := G5.out; have := A9.out.1; omega)
    have B10 : Hid (BoxAt w10 w6.heap.size c p (.slice a6 rs.length cap6)) := B9.out.upd hu (by have := CY.out; have := M5.out; have := B9.out.1; have := M6.out; omega)
    have O10 : Hid (Own w10 (.slice a3 rs.length cap3) g3 rs) := O9.out.upd' hu (fun h => by have := CY.out; have := G5.out; have := L3.out h; have := O9.out.lt h; omega)
    have R10 : Hid (Own w10 (.slice a6 rs.length cap6) g6 rs) := R9.out.upd' hu (fun h => by have := CY.out; have := M5.out; have := R9.out.lt h; omega)
    clear hu XY E9 A9 B9 O9 R9
    obtain ⟨c0, c1, c2⟩ := A10.out.2
    obtain ⟨d0, d1, d2⟩ := B10.out.2
    have hlt := A10.out.1
    have hlu := B10.out.1
    go_wp2_with fail
    refine (eqZResult_same c p _ _ rs _ R10.out.slice O10.out.slice).mono ?_
    rintro e w11 ⟨rfl, hb⟩
    clear c0 c1 c2 d0 d1 d2 hlt hlu
    have E11 : Hid (Ext w w11) := E10.out.trans hb
    have A11 : Hid (BoxAt w11 w3.heap.size c p (.slice a3 rs.length cap3)) := A10.out.ext hb
    have B11 : Hid (BoxAt w11 w6.heap.size c p (.slice a6 rs.length cap6)) := B10.out.ext hb
    have O11 : Hid (Own w11 (.slice a3 rs.length cap3) g3 rs) := O10.out.ext hb
    have R11 : Hid (Own w11 (.slice a6 rs.length cap6) g6 rs) := R10.out.ext hb
    clear E10 A10 B10 O10 R10
    clear hb
    obtain ⟨gz, hgz, hRz, hcase⟩ := R11.out.pick
    have RZ : Hid (Own w11 (.slice a6 rs.length cap6) gz rs) := hRz
    have CZ : Hid (gz ≤ w11.heap.size ∧ (gz = w11.heap.size ∧ ¬ 0 < rs.length ∨ (gz = g6 ∧ g6 < w11.heap.size ∧ 0 < rs.length))) := ⟨hgz, hcase⟩
    clear hRz hcase R11 hgz
    obtain ⟨c0, c1, c2⟩ := A11.out.2
    obtain ⟨d0, d1, d2⟩ := B11.out.2
    have hlt := A11.out.1
    have hlu := B11.out.1
    go_wp2_with fail
    refine (markZResult_any c p _ gz rs 1 _ RZ.out CZ.out.1 (by omega) hrs).mono ?_
    rintro e w12 ⟨rfl, hQ, hu⟩
    clear c0 c1 c2 d0 d1 d2 hlt hlu
    have E12 : Hid (Ext w w12) := hu.to_ext E11.out (by have := CZ.out; have := M5.out; have := M3.out; have := E11.out.size; omega)
    have A12 : Hid (BoxAt w12 w3.heap.size c p (.slice a3 rs.length cap3)) := A11.out.upd hu (by have := CZ.out; have := M5.out; have := A11.out.1; omega)
    have B12 : Hid (BoxAt w12 w6.heap.size c p (.slice a6 rs.length cap6)) := B11.out.upd hu (by have := CZ.out; have := M5.out; have := B11.out.1; omega)
    have O12 : Hid (Own w12 (.slice a3 rs.length cap3) g3 rs) := O11.out.upd' hu (fun h => by have := CZ.out; have := M5.out; have := L3.out h; omega)
    have Q12 : Hid (NSlice w12 (.slice a6 rs.length cap6) (marks 1 rs.length)) := hQ.slice
    clear hu hQ RZ E11 A11 B11 O11
    obtain ⟨c0, c1, c2⟩ := A12.out.2
    obtain ⟨d0, d1, d2⟩ := B12.out.2
    have hlt := A12.out.1
    have hlu := B12.out.1
    go_wp2_with fail
    refine (heldZResult_any c p _ rs.length 1 _ Q12.out (by omega) hrs).mono ?_
    rintro e w13 ⟨rfl, hb⟩
    clear c0 c1 c2 d0 d1 d2 hlt hlu
    have E13 : Hid (Ext w w13) := E12.out.trans hb
    have A13 : Hid (BoxAt w13 w3.heap.size c p (.slice a3 rs.length cap3)) := A12.out.ext hb
    have B13 : Hid (BoxAt w13 w6.heap.size c p (.slice a6 rs.length cap6)) := B12.out.ext hb
    have O13 : Hid (Own w13 (.slice a3 rs.length cap3) g3 rs) := O12.out.ext hb
    have Q13 : Hid (NSlice w13 (.slice a6 rs.length cap6) (marks 1 rs.length)) := Q12.out.ext hb
    clear E12 A12 B12 O12 Q12
    clear hb
    go_wp2_with fail
    refine (toZnodeS_any _ zs _ (by exact HA.out.ext E13.out) hl).mono ?_
    rintro e w14 ⟨v14, rfl, hO, hb⟩
    have Y14 : Hid (NSlice w14 v14 zs) := hO.slice
    clear hO
    have E14 : Hid (Ext w w14) := E13.out.trans hb
    have A14 : Hid (BoxAt w14 w3.heap.size c p (.slice a3 rs.length cap3)) := A13.out.ext hb
    have B14 : Hid (BoxAt w14 w6.heap.size c p (.slice a6 rs.length cap6)) := B13.out.ext hb
    have O14 : Hid (Own w14 (.slice a3 rs.length cap3) g3 rs) := O13.out.ext hb
    have Q14 : Hid (NSlice w14 (.slice a6 rs.length cap6) (marks 1 rs.length)) := Q13.out.ext hb
    clear E13 A13 B13 O13 Q13
    clear hb
    go_wp2_with fail
    refine (I1.out _ _ E14.out Y14.out).mono ?_
    rintro e w15 ⟨v15, g15, rfl, -, hO, hb⟩
    obtain ⟨a15, cap15, rfl, -⟩ := id hO
    have R15 : Hid (Own w15 (.slice a15 rs.length cap15) g15 rs) := hO
    clear hO
    have E15 : Hid (Ext w w15) := E14.out.trans hb
    have A15 : Hid (BoxAt w15 w3.heap.size c p (.slice a3 rs.length cap3)) := A14.out.ext hb
    have B15 : Hid (BoxAt w15 w6.heap.size c p (.slice a6 rs.length cap6)) := B14.out.ext hb
    have O15 : Hid (Own w15 (.slice a3 rs.length cap3) g3 rs) := O14.out.ext hb
    have Q15 : Hid (NSlice w15 (.slice a6 rs.length cap6) (marks 1 rs.length)) := Q14.out.ext hb
    clear E14 A14 B14 O14 Q14
    clear hb
    unfold zr
    obtain ⟨c0, c1, c2⟩ := A15.out.2
    obtain ⟨d0, d1, d2⟩ := B15.out.2
    have hlt := A15.out.1
    have hlu := B15.out.1
    go_wp2_with fail
    refine (eqZResult_same c p _ _ rs _ (by exact R15.out.slice.ext ((Ext.refl _).alloc _)) (by exact O15.out.slice.ext ((Ext.refl _).alloc _))).mono ?_
    rintro e w16 ⟨rfl, hb⟩
    clear c0 c1 c2 d0 d1 d2 hlt hlu
    have hb := ((Ext.refl w15).alloc _).trans hb
    have E16 : Hid (Ext w w16) := E15.out.trans hb
    have A16 : Hid (BoxAt w16 w3.heap.size c p (.slice a3 rs.length cap3)) := A15.out.ext hb
    have B16 : Hid (BoxAt w16 w6.heap.size c p (.slice a6 rs.length cap6)) := B15.out.ext hb
    have O16 : Hid (Own w16 (.slice a3 rs.length cap3) g3 rs) := O15.out.ext hb
    have Q16 : Hid (NSlice w16 (.slice a6 rs.length cap6) (marks 1 rs.length)) := Q15.out.ext hb
    clear E15 A15 B15 O15 Q15
    clear hb
    obtain ⟨c0, c1, c2⟩ := A16.out.2
    obtain ⟨d0, d1, d2⟩ := B16.out.2
    have hlt := A16.out.1
    have hlu := B16.out.1
    go_wp2_with fail
    refine (heldZResult_any c p _ rs.length 1 _ Q16.out (by omega) hrs).mono ?_
    rintro e w17 ⟨rfl, hb⟩
    have E17 : Hid (Ext w w17) := E16.out.trans hb
    clear hb
    go_wp2
    go_ret
    exact ⟨rfl, E17.out⟩
end Go.Proofs.YtdjnkchaapcjpaaGreatDoor
