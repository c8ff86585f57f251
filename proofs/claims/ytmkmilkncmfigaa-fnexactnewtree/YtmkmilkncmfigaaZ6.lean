/- the exact laws TreeFault, SameTrees and NewTree, walked, out of what the function and its specification answer. -/
import Derived.Test.YtmkmilkncmfigaaZ5
namespace Go.Proofs.Ytmkmilkncmfigaa
open Go.RowKit

set_option maxHeartbeats 4000000 in
set_option maxRecDepth 100000 in
theorem lawSameTrees_of (v u : Value) (zs ys : List Zn) (w : World) (c : Bool) (hS : NSlice w v zs) (hT : NSlice w u ys) (hz : ∀ z ∈ zs, z.path.size ≤ maxLen) (hy : ∀ z ∈ ys, z.path.size ≤ maxLen)
    (hSp : zs.length ≤ 1048576 → (∀ z ∈ zs, z.path.size ≤ 1048576) → ys.length ≤ 1048576 → (∀ z ∈ ys, z.path.size ≤ 1048576) → ∀ (wx : World) (vx ux : Value), Ext w wx → NSlice wx vx zs → NSlice wx ux ys → Calls Try.prog 14 #[vx, ux] wx fun e w' => e = .returned (.bool c) ∧ Ext wx w')
    (hIm : zs.length ≤ 1048576 → (∀ z ∈ zs, z.path.size ≤ 1048576) → ys.length ≤ 1048576 → (∀ z ∈ ys, z.path.size ≤ 1048576) → ∀ (wx : World) (vx ux : Value), Ext w wx → NSlice wx vx zs → NSlice wx ux ys → Calls Try.prog 16 #[vx, ux] wx fun e w' => e = .returned (.bool c) ∧ Ext wx w') :
    Calls Try.prog 4 #[v, u] w fun e w' => e = .returned (.bool true) ∧ Ext w w' := by
  have HA : Hid (NSlice w v zs) := hS
  have HB : Hid (NSlice w u ys) := hT
  have HY : Hid (∀ z ∈ ys, z.path.size ≤ maxLen) := hy
  have HSp : Hid (zs.length ≤ 1048576 → (∀ z ∈ zs, z.path.size ≤ 1048576) → ys.length ≤ 1048576 → (∀ z ∈ ys, z.path.size ≤ 1048576) → ∀ (wx : World) (vx ux : Value), Ext w wx → NSlice wx vx zs → NSlice wx ux ys → Calls Try.prog 14 #[vx, ux] wx fun e w' => e = .returned (.bool c) ∧ Ext wx w') := hSp
  have HIm : Hid (zs.length ≤ 1048576 → (∀ z ∈ zs, z.path.size ≤ 1048576) → ys.length ≤ 1048576 → (∀ z ∈ ys, z.path.size ≤ 1048576) → ∀ (wx : World) (vx ux : Value), Ext w wx → NSlice wx vx zs → NSlice wx ux ys → Calls Try.prog 16 #[vx, ux] wx fun e w' => e = .returned (.bool c) ∧ Ext wx w') := hIm
  have HSz : Hid (Calls Try.prog 13 #[v, .int .i64 1048576] w fun e w' => ∃ r : Int, e = .returned (.int .i64 r) ∧ r ≤ 1048576 ∧ (0 ≤ r → zs.length ≤ 1048576 ∧ ∀ z ∈ zs, z.path.size ≤ 1048576) ∧ Ext w w') := szZnodeS_le v zs 1048576 w (by omega) (by omega) hS hz
  clear hSp hIm hz hS hT hy
  go_enter Try.func4, Try.ntmps4
  go_wp2_with fail
  refine HSz.out.mono ?_
  rintro e w1 ⟨r, rfl, hr1, hr, hb⟩
  have E1 : Hid (Ext w w1) := hb
  clear HSz hb
  by_cases hr0 : r < 0
  · go_wp2
    go_ret
    exact ⟨rfl, E1.out⟩
  · have HR : Hid (zs.length ≤ 1048576 ∧ ∀ z ∈ zs, z.path.size ≤ 1048576) := hr (by omega)
    clear hr
    go_wp2_with fail
    refine (szZnodeS_any u ys r _ (by omega) (by omega) (HB.out.ext E1.out) HY.out).mono ?_
    rintro e w2 ⟨q, rfl, hq, hb⟩
    have E2 : Hid (Ext w w2) := E1.out.trans hb
    clear hb E1
    by_cases hq0 : q < 0
    · go_wp2
      go_ret
      exact ⟨rfl, E2.out⟩
    obtain ⟨hl, hp⟩ := hq (by omega)
    have hlz := HR.out.1
    have S1 : Hid (∀ (wx : World) (vx ux : Value), Ext w wx → NSlice wx vx zs → NSlice wx ux ys → Calls Try.prog 14 #[vx, ux] wx fun e w' => e = .returned (.bool c) ∧ Ext wx w') := HSp.out HR.out.1 HR.out.2 hl hp
    have I1 : Hid (∀ (wx : World) (vx ux : Value), Ext w wx → NSlice wx vx zs → NSlice wx ux ys → Calls Try.prog 16 #[vx, ux] wx fun e w' => e = .returned (.bool c) ∧ Ext wx w') := HIm.out HR.out.1 HR.out.2 hl hp
    clear HSp HIm hq hp HR HY
    go_wp2_with fail
    refine (toZnodeS_any _ zs _ (by exact HA.out.ext E2.out) hlz).mono ?_
    rintro e w3 ⟨v3, rfl, hO, hb⟩
    have E3 : Hid (Ext w w3) := E2.out.trans hb
    have P3 : Hid (NSlice w3 v3 zs) := hO.slice
    clear hb hO E2
    go_wp2_with fail
    refine (toZnodeS_any _ ys _ (by exact HB.out.ext E3.out) hl).mono ?_
    rintro e w4 ⟨v4, rfl, hO, hb⟩
    have E4 : Hid (Ext w w4) := E3.out.trans hb
    have P4 : Hid (NSlice w4 v3 zs) := P3.out.ext hb
    have Q4 : Hid (NSlice w4 v4 ys) := hO.slice
    clear hb hO E3 P3
    go_wp2_with fail
    refine (S1.out _ _ _ E4.out P4.out Q4.out).mono ?_
    rintro e w5 ⟨rfl, hb⟩
    have E5 : Hid (Ext w w5) := E4.out.trans hb
    clear hb S1 E4 P4 Q4
    go_wp2_with fail
    refine (toZnodeS_any _ zs _ (by exact HA.out.ext E5.out) hlz).mono ?_
    rintro e w6 ⟨v6, rfl, hO, hb⟩
    have E6 : Hid (Ext w w6) := E5.out.trans hb
    have P6 : Hid (NSlice w6 v6 zs) := hO.slice
    clear hb hO E5
    go_wp2_with fail
    refine (toZnodeS_any _ ys _ (by exact HB.out.ext E6.out) hl).mono ?_
    rintro e w7 ⟨v7, rfl, hO, hb⟩
    have E7 : Hid (Ext w w7) := E6.out.trans hb
    have P7 : Hid (NSlice w7 v6 zs) := P6.out.ext hb
    have Q7 : Hid (NSlice w7 v7 ys) := hO.slice
    clear hb hO E6 P6
    go_wp2_with fail
    refine (I1.out _ _ _ E7.out P7.out Q7.out).mono ?_
    rintro e w8 ⟨rfl, hb⟩
    have E8 : Hid (Ext w w8) := E7.out.trans hb
    have P8 : Hid (NSlice w8 v6 zs) := P7.out.ext hb
    have Q8 : Hid (NSlice w8 v7 ys) := Q7.out.ext hb
    clear hb I1 E7 P7 Q7
    have hcc : (c != c) = false := by cases c <;> rfl
    go_wp2_with fail
    refine (toZnodeS_any _ zs _ (by exact HA.out.ext E8.out) hlz).mono ?_
    rintro e w9 ⟨v9, rfl, hO, hb⟩
    have E9 : Hid (Ext w w9) := E8.out.trans hb
    have P9 : Hid (NSlice w9 v6 zs) := P8.out.ext hb
    have Q9 : Hid (NSlice w9 v7 ys) := Q8.out.ext hb
    have Y9 : Hid (NSlice w9 v9 zs) := hO.slice
    clear hb hO E8 P8 Q8
    go_wp2_with fail
    refine (eqZnodeS_same _ _ zs _ P9.out Y9.out).mono ?_
    rintro e w10 ⟨rfl, hb⟩
    have E10 : Hid (Ext w w10) := E9.out.trans hb
    have Q10 : Hid (NSlice w10 v7 ys) := Q9.out.ext hb
    clear hb E9 P9 Q9 Y9
    go_wp2_with fail
    refine (toZnodeS_any _ ys _ (by exact HB.out.ext E10.out) hl).mono ?_
    rintro e w11 ⟨v11, rfl, hO, hb⟩
    have E11 : Hid (Ext w w11) := E10.out.trans hb
    have Q11 : Hid (NSlice w11 v7 ys) := Q10.out.ext hb
    have Y11 : Hid (NSlice w11 v11 ys) := hO.slice
    clear hb hO E10 Q10
    go_wp2_with fail
    refine (eqZnodeS_same _ _ ys _ Q11.out Y11.out).mono ?_
    rintro e w12 ⟨rfl, hb⟩
    have E12 : Hid (Ext w w12) := E11.out.trans hb
    clear hb
    go_wp2
    go_ret
    exact ⟨rfl, E12.out⟩

set_option maxHeartbeats 4000000 in
set_option maxRecDepth 100000 in
theorem lawNewTree_of (d : Int) (w : World) (c : Int) (p : ByteArray) (rs : List Zn) (hrs : rs.length ≤ 1048576)
    (hSp : ∀ (wx : World), Ext w wx → Calls Try.prog 8 #[.int .i64 d] wx (ZRet wx c p rs))
    (hIm : ∀ (wx : World), Ext w wx → Calls Try.prog 9 #[.int .i64 d] wx (ZRet wx c p rs)) :
    Calls Try.prog 3 #[.int .i64 d] w fun e w' => e = .returned (.bool true) ∧ Ext w w' := by
  have S1 : Hid (∀ (wx : World), Ext w wx → Calls Try.prog 8 #[.int .i64 d] wx (ZRet wx c p rs)) := hSp
  have I1 : Hid (∀ (wx : World), Ext w wx → Calls Try.prog 9 #[.int .i64 d] wx (ZRet wx c p rs)) := hIm
  clear hSp hIm
  go_enter Try.func3, Try.ntmps3
  go_wp2_with fail
  refine (S1.out _ (Ext.refl _)).mono ?_
  rintro e w3 ⟨v3, g3, rfl, -, hO, hb⟩
  obtain ⟨a3, cap3, rfl, -⟩ := id hO
  have E3 : Hid (Ext w w3) := hb
  have O3 : Hid (Own w3 (.slice a3 rs.length cap3) g3 rs) := hO
  have L3 : Hid (0 < rs.length → g3 < w3.heap.size) := hO.lt
  clear hb hO S1
  unfold zr
  go_wp2_with fail
  refine (I1.out _ (by exact E3.out.alloc _)).mono ?_
  rintro e w6 ⟨v6, g6, rfl, hg6, hO, hb⟩
  obtain ⟨a6, cap6, rfl, -⟩ := id hO
  have A6 : Hid (BoxAt w6 w3.heap.size c p (.slice a3 rs.length cap3)) := (box_new w3 c p _ _).ext (by assumption)
  have E6 : Hid (Ext w w6) := (E3.out.alloc _).trans hb
  have O6 : Hid (Own w6 (.slice a3 rs.length cap3) g3 rs) := (O3.out.ext ((Ext.refl _).alloc _)).ext hb
  have R6 : Hid (Own w6 (.slice a6 rs.length cap6) g6 rs) := hO
  have M5 : Hid (w3.heap.size + 1 ≤ g6 ∧ w.heap.size ≤ w3.heap.size ∧ (0 < rs.length → g6 < w6.heap.size)) := ⟨by simpa using hg6, E3.out.size, hO.lt⟩
  obtain ⟨c0, c1, c2⟩ := A6.out.2
  have hlt := A6.out.1
  clear hb hO O3 E3 hg6
  unfold zr
  go_wp2_with fail
  refine (eqZResult_same c p _ _ rs _ (by exact R6.out.slice.ext ((Ext.refl _).alloc _)) (by exact O6.out.slice.ext ((Ext.refl _).alloc _))).mono ?_
  rintro e w11 ⟨rfl, hb⟩
  have hb := ((Ext.refl w6).alloc _).trans hb
  have B11 : Hid (BoxAt w11 w6.heap.size c p (.slice a6 rs.length cap6)) := (box_new w6 c p _ _).ext (by assumption)
  clear c0 c1 c2 hlt
  have E11 : Hid (Ext w w11) := E6.out.trans hb
  have A11 : Hid (BoxAt w11 w3.heap.size c p (.slice a3 rs.length cap3)) := A6.out.ext hb
  have O11 : Hid (Own w11 (.slice a3 rs.length cap3) g3 rs) := O6.out.ext hb
  have R11 : Hid (Own w11 (.slice a6 rs.length cap6) g6 rs) := R6.out.ext hb
  clear E6 A6 O6 R6
  clear hb
  obtain ⟨gz, hgz, hRz, hcase⟩ := R11.out.pick
  have RZ : Hid (Own w11 (.slice a6 rs.length cap6) gz rs) := hRz
  have CZ : Hid (gz ≤ w11.heap.size ∧ (gz = w11.heap.size ∧ ¬ 0 < rs.length ∨ (gz = g6 ∧ g6 < w11.heap.size ∧ 0 < rs.length))) := ⟨hgz, hcase⟩
  clear hRz hcase R11 hgz
  obtain ⟨c0, c1, c2⟩ := A11.out.2
  obtain ⟨d0, d1, d2⟩ := B11.out.2
  have hlt := A11.out.1
  have hlu := B11.out.1
  go_wp2_with fail
  refine (markZResult_any c p _ gz rs 1 _ RZ.out CZ.out.1 (by omega) hrs).mono ?_
  rintro e w12 ⟨rfl, hQ, hu⟩
  clear c0 c1 c2 d0 d1 d2 hlt hlu
  have E12 : Hid (Ext w w12) := hu.to_ext E11.out (by have := CZ.out; have := M5.out; have := E11.out.size; omega)
  have A12 : Hid (BoxAt w12 w3.heap.size c p (.slice a3 rs.length cap3)) := A11.out.upd hu (by have := CZ.out; have := M5.out; have := A11.out.1; omega)
  have B12 : Hid (BoxAt w12 w6.heap.size c p (.slice a6 rs.length cap6)) := B11.out.upd hu (by have := CZ.out; have := M5.out; have := B11.out.1; omega)
  have O12 : Hid (Own w12 (.slice a3 rs.length cap3) g3 rs) := O11.out.upd' hu (fun h => by have := CZ.out; have := M5.out; have := L3.out h; omega)
  have Q12 : Hid (NSlice w12 (.slice a6 rs.length cap6) (marks 1 rs.length)) := hQ.slice
  clear hu hQ RZ E11 A11 B11 O11
  obtain ⟨c0, c1, c2⟩ := A12.out.2
  obtain ⟨d0, d1, d2⟩ := B12.out.2
  have hlt := A12.out.1
  have hlu := B12.out.1
  go_wp2_with fail
  refine (heldZResult_any c p _ rs.length 1 _ Q12.out (by omega) hrs).mono ?_
  rintro e w14 ⟨rfl, hb⟩
  clear c0 c1 c2 d0 d1 d2 hlt hlu
  have E14 : Hid (Ext w w14) := E12.out.trans hb
  have A14 : Hid (BoxAt w14 w3.heap.size c p (.slice a3 rs.length cap3)) := A12.out.ext hb
  have B14 : Hid (BoxAt w14 w6.heap.size c p (.slice a6 rs.length cap6)) := B12.out.ext hb
  have O14 : Hid (Own w14 (.slice a3 rs.length cap3) g3 rs) := O12.out.ext hb
  have Q14 : Hid (NSlice w14 (.slice a6 rs.length cap6) (marks 1 rs.length)) := Q12.out.ext hb
  clear E12 A12 B12 O12 Q12
  clear hb
  go_wp2_with fail
  refine (I1.out _ E14.out).mono ?_
  rintro e w15 ⟨v15, g15, rfl, -, hO, hb⟩
  obtain ⟨a15, cap15, rfl, -⟩ := id hO
  have R15 : Hid (Own w15 (.slice a15 rs.length cap15) g15 rs) := hO
  clear hO
  have E15 : Hid (Ext w w15) := E14.out.trans hb
  have A15 : Hid (BoxAt w15 w3.heap.size c p (.slice a3 rs.length cap3)) := A14.out.ext hb
  have B15 : Hid (BoxAt w15 w6.heap.size c p (.slice a6 rs.length cap6)) := B14.out.ext hb
  have O15 : Hid (Own w15 (.slice a3 rs.length cap3) g3 rs) := O14.out.ext hb
  have Q15 : Hid (NSlice w15 (.slice a6 rs.length cap6) (marks 1 rs.length)) := Q14.out.ext hb
  clear E14 A14 B14 O14 Q14
  clear hb
  unfold zr
  obtain ⟨c0, c1, c2⟩ := A15.out.2
  obtain ⟨d0, d1, d2⟩ := B15.out.2
  have hlt := A15.out.1
  have hlu := B15.out.1
  go_wp2_with fail
  refine (eqZResult_same c p _ _ rs _ (by exact R15.out.slice.ext ((Ext.refl _).alloc _)) (by exact O15.out.slice.ext ((Ext.refl _).alloc _))).mono ?_
  rintro e w16 ⟨rfl, hb⟩
  clear c0 c1 c2 d0 d1 d2 hlt hlu
  have hb := ((Ext.refl w15).alloc _).trans hb
  have E16 : Hid (Ext w w16) := E15.out.trans hb
  have A16 : Hid (BoxAt w16 w3.heap.size c p (.slice a3 rs.length cap3)) := A15.out.ext hb
  have B16 : Hid (BoxAt w16 w6.heap.size c p (.slice a6 rs.length cap6)) := B15.out.ext hb
  have O16 : Hid (Own w16 (.slice a3 rs.length cap3) g3 rs) := O15.out.ext hb
  have Q16 : Hid (NSlice w16 (.slice a6 rs.length cap6) (marks 1 rs.length)) := Q15.out.ext hb
  clear E15 A15 B15 O15 Q15
  clear hb
  obtain ⟨c0, c1, c2⟩ := A16.out.2
  obtain ⟨d0, d1, d2⟩ := B16.out.2
  have hlt := A16.out.1
  have hlu := B16.out.1
  go_wp2_with fail
  refine (heldZResult_any c p _ rs.length 1 _ Q16.out (by omega) hrs).mono ?_
  rintro e w17 ⟨rfl, hb⟩
  have E17 : Hid (Ext w w17) := E16.out.trans hb
  clear hb
  go_wp2
  go_ret
  exact ⟨rfl, E17.out⟩
end Go.Proofs.Ytmkmilkncmfigaa
