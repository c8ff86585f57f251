/- the exact law of DropOwned, walked. -/
import Derived.Test.YtjlmkjcahnnjpaaDoorG4
import Derived.Test.YtjlmkjcahnnjpaaDoorZ5
namespace Go.Proofs.YtjlmkjcahnnjpaaDoor
open Go.RowKit

set_option maxHeartbeats 4000000 in
set_option maxRecDepth 100000 in
theorem lawDropOwned_of (v u : Value) (zs : List Zn) (ids : List Int) (w : World) (c : Int) (p : ByteArray) (rs : List Zn) (hS : NSlice w v zs) (hz : ∀ z ∈ zs, z.path.size ≤ maxLen) (hI : ISlice w u ids) (hrs : rs.length ≤ 1048576)
    (hSp : ∀ (wx : World) (vx ux : Value), Ext w wx → NSlice wx vx zs → ISlice wx ux ids → Calls Tryd.prog 6 #[vx, ux] wx (ZRet wx c p rs))
    (hIm : ∀ (wx : World) (vx ux : Value), Ext w wx → NSlice wx vx zs → ISlice wx ux ids → Calls Tryd.prog 9 #[vx, ux] wx (ZRet wx c p rs)) :
    Calls Tryd.prog 3 #[v, u] w fun e w' => e = .returned (.bool true) ∧ Ext w w' := by
  have HA : Hid (NSlice w v zs) := hS
  have HU : Hid (ISlice w u ids) := hI
  have S1 : Hid (∀ (wx : World) (vx ux : Value), Ext w wx → NSlice wx vx zs → ISlice wx ux ids → Calls Tryd.prog 6 #[vx, ux] wx (ZRet wx c p rs)) := hSp
  have I1 : Hid (∀ (wx : World) (vx ux : Value), Ext w wx → NSlice wx vx zs → ISlice wx ux ids → Calls Tryd.prog 9 #[vx, ux] wx (ZRet wx c p rs)) := hIm
  have hsz := szZnodeS_any v zs 1048576 w (by omega) (by omega) hS hz
  obtain ⟨a, cap, rfl, -⟩ := hS
  obtain ⟨b, cbp, rfl, hlb, hcb, -⟩ := hI
  unfold maxLen at hcb
  clear hSp hIm hz
  by_cases hxs : 1048576 < ids.length
  · go_enter Tryd.func3, Tryd.ntmps3
    go_wp2
    go_ret
    exact ⟨rfl, Ext.refl _⟩
  have HSz : Hid (Calls Tryd.prog 5 #[.slice a zs.length cap, .int .i64 1048576] w fun e w' => ∃ r : Int, e = .returned (.int .i64 r) ∧ (0 ≤ r → zs.length ≤ 1048576 ∧ ∀ z ∈ zs, z.path.size ≤ 1048576) ∧ Ext w w') := hsz
  clear hsz
  have hli : ids.length ≤ 1048576 := by omega
  go_enter Tryd.func3, Tryd.ntmps3
  go_wp2_with fail
  refine HSz.out.mono ?_
  rintro e w1 ⟨r, rfl, hr, hb⟩
  have E1 : Hid (Ext w w1) := hb
  clear HSz hb
  by_cases hr0 : r < 0
  · go_wp2
    go_ret
    exact ⟨rfl, E1.out⟩
  · obtain ⟨hl, -⟩ := hr (by omega)
    clear hr
    go_wp2_with fail
    refine (toZnodeS_any _ zs _ (by exact HA.out.ext E1.out) hl).mono ?_
    rintro e w2 ⟨v2, rfl, hO, hb⟩
    have E2 : Hid (Ext w w2) := E1.out.trans hb
    have O2 : Hid (NSlice w2 v2 zs) := hO.slice
    clear hb hO
    go_wp2_with fail
    refine (toInt64S_own _ ids _ (by exact HU.out.ext E2.out) hli).mono ?_
    rintro e wi ⟨u2, rfl, hO, hb⟩
    have Ei : Hid (Ext w wi) := E2.out.trans hb
    have Oi : Hid (NSlice wi v2 zs ∧ ISlice wi u2 ids) := ⟨O2.out.ext hb, hO.slice⟩
    clear hb hO O2 E2
    go_wp2_with fail
    refine (S1.out _ _ _ Ei.out Oi.out.1 Oi.out.2).mono ?_
    rintro e w3 ⟨v3, g3, rfl, hg3, hO, hb⟩
    obtain ⟨a3, cap3, rfl, -⟩ := id hO
    have E3 : Hid (Ext w w3) := Ei.out.trans hb
    have O3 : Hid (Own w3 (.slice a3 rs.length cap3) g3 rs) := hO
    have L3 : Hid (0 < rs.length → g3 < w3.heap.size) := hO.lt
    clear hb hO hg3 Oi S1 Ei
    unfold zr
    go_wp2_with fail
    refine (toZnodeS_any _ zs _ (by exact HA.out.ext (E3.out.alloc _)) hl).mono ?_
    rintro e w4 ⟨v5, rfl, hO, hb⟩
    obtain ⟨gx, hgx, hO⟩ : ∃ gx, gx = w3.heap.size + 1 ∧ Own w4 v5 gx zs := ⟨_, by simp, hO⟩
    have A4 : Hid (BoxAt w4 w3.heap.size c p (.slice a3 rs.length cap3)) := (box_new _ _ _ _ _).ext hb
    have E4 : Hid (Ext w w4) := (E3.out.alloc _).trans hb
    have O4 : Hid (Own w4 (.slice a3 rs.length cap3) g3 rs) := (O3.out.ext ((Ext.refl _).alloc _)).ext hb
    have X4 : Hid (Own w4 v5 gx zs) := hO
    have G5 : Hid (gx = w3.heap.size + 1) := hgx
    have M3 : Hid (w.heap.size ≤ w3.heap.size) := E3.out.size
    have M4 : Hid (w3.heap.size < w4.heap.size ∧ (0 < zs.length → gx < w4.heap.size)) := ⟨A4.out.1, hO.lt⟩
    clear hb hO E3 O3 hgx
    go_wp2_with fail
    refine (toInt64S_own _ ids _ (by exact HU.out.ext E4.out) hli).mono ?_
    rintro e w5 ⟨u5, rfl, hO, hb⟩
    obtain ⟨hx, hhx, hO⟩ : ∃ hx, hx = w4.heap.size ∧ IOwn w5 u5 hx ids := ⟨_, rfl, hO⟩
    have U5 : Hid (IOwn w5 u5 hx ids) := hO
    have M7 : Hid (hx = w4.heap.size ∧ w4.heap.size ≤ w5.heap.size ∧ (0 < ids.length → hx < w5.heap.size)) := ⟨hhx, hb.size, hO.lt⟩
    clear hO hhx
    have E5 : Hid (Ext w w5) := E4.out.trans hb
    have A5 : Hid (BoxAt w5 w3.heap.size c p (.slice a3 rs.length cap3)) := A4.out.ext hb
    have O5 : Hid (Own w5 (.slice a3 rs.length cap3) g3 rs) := O4.out.ext hb
    have X5 : Hid (Own w5 v5 gx zs) := X4.out.ext hb
    clear E4 A4 O4 X4 hb
    go_wp2_with fail
    refine (I1.out _ _ _ E5.out X5.out.slice U5.out.slice).mono ?_
    rintro e w6 ⟨v6, g6, rfl, hg6, hO, hb⟩
    obtain ⟨a6, cap6, rfl, -⟩ := id hO
    have R6 : Hid (Own w6 (.slice a6 rs.length cap6) g6 rs) := hO
    have M5 : Hid (w5.heap.size ≤ g6 ∧ w5.heap.size ≤ w6.heap.size ∧ (0 < rs.length → g6 < w6.heap.size)) := ⟨hg6, hb.size, hO.lt⟩
    clear hO hg6
    have E6 : Hid (Ext w w6) := E5.out.trans hb
    have A6 : Hid (BoxAt w6 w3.heap.size c p (.slice a3 rs.length cap3)) := A5.out.ext hb
    have O6 : Hid (Own w6 (.slice a3 rs.length cap3) g3 rs) := O5.out.ext hb
    have X6 : Hid (Own w6 v5 gx zs) := X5.out.ext hb
    have U6 : Hid (IOwn w6 u5 hx ids) := U5.out.ext hb
    clear E5 A5 O5 X5 U5 hb
    obtain ⟨c0, c1, c2⟩ := A6.out.2
    have hlt := A6.out.1
    unfold zr
    go_wp2_with fail
    refine (eqZResult_same c p _ _ rs _ (by exact R6.out.slice.ext ((Ext.refl _).alloc _)) (by exact O6.out.slice.ext ((Ext.refl _).alloc _))).mono ?_
    rintro e w7 ⟨rfl, hb⟩
    have hb := ((Ext.refl w6).alloc _).trans hb
    have B7 : Hid (BoxAt w7 w6.heap.size c p (.slice a6 rs.length cap6)) := (box_new w6 c p _ _).ext (by assumption)
    clear c0 c1 c2 hlt
    have E7 : Hid (Ext w w7) := E6.out.trans hb
    have A7 : Hid (BoxAt w7 w3.heap.size c p (.slice a3 rs.length cap3)) := A6.out.ext hb
    have O7 : Hid (Own w7 (.slice a3 rs.length cap3) g3 rs) := O6.out.ext hb
    have X7 : Hid (Own w7 v5 gx zs) := X6.out.ext hb
    have U7 : Hid (IOwn w7 u5 hx ids) := U6.out.ext hb
    have R7 : Hid (Own w7 (.slice a6 rs.length cap6) g6 rs) := R6.out.ext hb
    clear E6 A6 O6 X6 U6 R6 hb
    go_wp2_with fail
    refine (toZnodeS_any _ zs _ (by exact HA.out.ext E7.out) hl).mono ?_
    rintro e w8 ⟨v8, rfl, hO, hb⟩
    have Y8 : Hid (NSlice w8 v8 zs) := hO.slice
    clear hO
    have E8 : Hid (Ext w w8) := E7.out.trans hb
    have A8 : Hid (BoxAt w8 w3.heap.size c p (.slice a3 rs.length cap3)) := A7.out.ext hb
    have B8 : Hid (BoxAt w8 w6.heap.size c p (.slice a6 rs.length cap6)) := B7.out.ext hb
    have O8 : Hid (Own w8 (.slice a3 rs.length cap3) g3 rs) := O7.out.ext hb
    have X8 : Hid (Own w8 v5 gx zs) := X7.out.ext hb
    have U8 : Hid (IOwn w8 u5 hx ids) := U7.out.ext hb
    have R8 : Hid (Own w8 (.slice a6 rs.length cap6) g6 rs) := R7.out.ext hb
    clear E7 A7 B7 O7 X7 U7 R7 hb
    go_wp2_with fail
    refine (eqZnodeS_same _ _ zs _ X8.out.slice Y8.out).mono ?_
    rintro e w9 ⟨rfl, hb⟩
    have E9 : Hid (Ext w w9) := E8.out.trans hb
    have A9 : Hid (BoxAt w9 w3.heap.size c p (.slice a3 rs.length cap3)) := A8.out.ext hb
    have B9 : Hid (BoxAt w9 w6.heap.size c p (.slice a6 rs.length cap6)) := B8.out.ext hb
    have O9 : Hid (Own w9 (.slice a3 rs.length cap3) g3 rs) := O8.out.ext hb
    have X9 : Hid (Own w9 v5 gx zs) := X8.out.ext hb
    have U9 : Hid (IOwn w9 u5 hx ids) := U8.out.ext hb
    have R9 : Hid (Own w9 (.slice a6 rs.length cap6) g6 rs) := R8.out.ext hb
    clear E8 A8 B8 O8 X8 U8 R8 hb Y8
    go_wp2_with fail
    refine (toInt64S_own _ ids _ (by exact HU.out.ext E9.out) hli).mono ?_
    rintro e w10 ⟨u8, rfl, hO, hb⟩
    have Y10 : Hid (ISlice w10 u8 ids) := hO.slice
    clear hO
    have E10 : Hid (Ext w w10) := E9.out.trans hb
    have A10 : Hid (BoxAt w10 w3.heap.size c p (.slice a3 rs.length cap3)) := A9.out.ext hb
    have B10 : Hid (BoxAt w10 w6.heap.size c p (.slice a6 rs.length cap6)) := B9.out.ext hb
    have O10 : Hid (Own w10 (.slice a3 rs.length cap3) g3 rs) := O9.out.ext hb
    have X10 : Hid (Own w10 v5 gx zs) := X9.out.ext hb
    have U10 : Hid (IOwn w10 u5 hx ids) := U9.out.ext hb
    have R10 : Hid (Own w10 (.slice a6 rs.length cap6) g6 rs) := R9.out.ext hb
    clear E9 A9 B9 O9 X9 U9 R9 hb
    go_wp2_with fail
    refine (eqInt64S_same _ _ ids _ U10.out.slice Y10.out).mono ?_
    rintro e w11 ⟨rfl, hb⟩
    have E11 : Hid (Ext w w11) := E10.out.trans hb
    have A11 : Hid (BoxAt w11 w3.heap.size c p (.slice a3 rs.length cap3)) := A10.out.ext hb
    have B11 : Hid (BoxAt w11 w6.heap.size c p (.slice a6 rs.length cap6)) := B10.out.ext hb
    have O11 : Hid (Own w11 (.slice a3 rs.length cap3) g3 rs) := O10.out.ext hb
    have X11 : Hid (Own w11 v5 gx zs) := X10.out.ext hb
    have U11 : Hid (IOwn w11 u5 hx ids) := U10.out.ext hb
    have R11 : Hid (Own w11 (.slice a6 rs.length cap6) g6 rs) := R10.out.ext hb
    clear E10 A10 B10 O10 X10 U10 R10 hb Y10
    obtain ⟨gy, hgy, hXy, hcase⟩ := X11.out.pick
    have XY : Hid (Own w11 v5 gy zs) := hXy
    have CY : Hid (gy ≤ w11.heap.size ∧ (gy = w11.heap.size ∧ ¬ 0 < zs.length ∨ (gy = gx ∧ gx < w11.heap.size ∧ 0 < zs.length))) := ⟨hgy, hcase⟩
    clear hgy hXy hcase X11
    go_wp2_with fail
    refine (markZnodeS_any _ gy zs 1 _ XY.out (by omega) hl).mono ?_
    rintro e w12 ⟨rfl, -, hu⟩
    have E12 : Hid (Ext w w12) := hu.to_ext E11.out (by have := CY.out; have := G5.out; have := M3.out; have := E11.out.size; omega)
    have A12 : Hid (BoxAt w12 w3.heap.size c p (.slice a3 rs.length cap3)) := A11.out.upd hu (by have := CY.out; have := G5.out; have := A11.out.1; omega)
    have B12 : Hid (BoxAt w12 w6.heap.size c p (.slice a6 rs.length cap6)) := B11.out.upd hu (by have := CY.out; have := M4.out; have := M5.out; have := M7.out; have := B11.out.1; omega)
    have O12 : Hid (Own w12 (.slice a3 rs.length cap3) g3 rs) := O11.out.upd' hu (fun h => by have := CY.out; have := G5.out; have := L3.out h; have := O11.out.lt h; omega)
    have R12 : Hid (Own w12 (.slice a6 rs.length cap6) g6 rs) := R11.out.upd' hu (fun h => by have := CY.out; have := M4.out; have := M5.out; have := M7.out; have := R11.out.lt h; omega)
    have U12 : Hid (IOwn w12 u5 hx ids) := U11.out.upd' hu (fun h => by have := CY.out; have := M4.out; have := M7.out; have := U11.out.lt h; omega)
    clear hu XY E11 A11 B11 O11 R11 U11
    obtain ⟨gi, hgi, hXi, hcase⟩ := U12.out.pick
    have XI : Hid (IOwn w12 u5 gi ids) := hXi
    have CI : Hid (gi ≤ w12.heap.size ∧ (gi = w12.heap.size ∧ ¬ 0 < ids.length ∨ (gi = hx ∧ hx < w12.heap.size ∧ 0 < ids.length))) := ⟨hgi, hcase⟩
    clear hgi hXi hcase U12
    obtain ⟨kz, hkz⟩ : ∃ kz, kz = 1 + 5 * zs.length := ⟨_, rfl⟩
    have hkb : kz ≤ 10000000 := by omega
    rw [← hkz]
    clear hkz
    go_wp2_with fail
    refine (markInt64S_any _ gi ids kz _ XI.out (by omega) hli).mono ?_
    rintro e w13 ⟨rfl, -, hu⟩
    have E13 : Hid (Ext w w13) := hu.to_ext E12.out (by have := CI.out; have := M3.out; have := M4.out; have := M7.out; have := E12.out.size; omega)
    have A13 : Hid (BoxAt w13 w3.heap.size c p (.slice a3 rs.length cap3)) := A12.out.upd hu (by have := CI.out; have := M4.out; have := M7.out; have := A12.out.1; omega)
    have B13 : Hid (BoxAt w13 w6.heap.size c p (.slice a6 rs.length cap6)) := B12.out.upd hu (by have := CI.out; have := M4.out; have := M5.out; have := M7.out; have := B12.out.1; omega)
    have O13 : Hid (Own w13 (.slice a3 rs.length cap3) g3 rs) := O12.out.upd' hu (fun h => by have := CI.out; have := M4.out; have := M7.out; have := L3.out h; have := O12.out.lt h; omega)
    have R13 : Hid (Own w13 (.slice a6 rs.length cap6) g6 rs) := R12.out.upd' hu (fun h => by have := CI.out; have := M5.out; have := M7.out; have := R12.out.lt h; omega)
    clear hu XI E12 A12 B12 O12 R12
    obtain ⟨c0, c1, c2⟩ := A13.out.2
    obtain ⟨d0, d1, d2⟩ := B13.out.2
    have hlt := A13.out.1
    have hlu := B13.out.1
    go_wp2_with fail
    refine (eqZResult_same c p _ _ rs _ R13.out.slice O13.out.slice).mono ?_
    rintro e w14 ⟨rfl, hb⟩
    clear c0 c1 c2 d0 d1 d2 hlt hlu
    have E14 : Hid (Ext w w14) := E13.out.trans hb
    have A14 : Hid (BoxAt w14 w3.heap.size c p (.slice a3 rs.length cap3)) := A13.out.ext hb
    have B14 : Hid (BoxAt w14 w6.heap.size c p (.slice a6 rs.length cap6)) := B13.out.ext hb
    have O14 : Hid (Own w14 (.slice a3 rs.length cap3) g3 rs) := O13.out.ext hb
    have R14 : Hid (Own w14 (.slice a6 rs.length cap6) g6 rs) := R13.out.ext hb
    clear E13 A13 B13 O13 R13 hb
    obtain ⟨gz, hgz, hRz, hcase⟩ := R14.out.pick
    have RZ : Hid (Own w14 (.slice a6 rs.length cap6) gz rs) := hRz
    have CZ : Hid (gz ≤ w14.heap.size ∧ (gz = w14.heap.size ∧ ¬ 0 < rs.length ∨ (gz = g6 ∧ g6 < w14.heap.size ∧ 0 < rs.length))) := ⟨hgz, hcase⟩
    clear hRz hcase R14 hgz
    obtain ⟨c0, c1, c2⟩ := A14.out.2
    obtain ⟨d0, d1, d2⟩ := B14.out.2
    have hlt := A14.out.1
    have hlu := B14.out.1
    go_wp2_with fail
    refine (markZResult_any c p _ gz rs 1 _ RZ.out CZ.out.1 (by omega) hrs).mono ?_
    rintro e w15 ⟨rfl, hQ, hu⟩
    clear c0 c1 c2 d0 d1 d2 hlt hlu
    have E15 : Hid (Ext w w15) := hu.to_ext E14.out (by have := CZ.out; have := M3.out; have := M4.out; have := M5.out; have := M7.out; have := E14.out.size; omega)
    have A15 : Hid (BoxAt w15 w3.heap.size c p (.slice a3 rs.length cap3)) := A14.out.upd hu (by have := CZ.out; have := M4.out; have := M5.out; have := M7.out; have := A14.out.1; omega)
    have B15 : Hid (BoxAt w15 w6.heap.size c p (.slice a6 rs.length cap6)) := B14.out.upd hu (by have := CZ.out; have := M5.out; have := B14.out.1; omega)
    have O15 : Hid (Own w15 (.slice a3 rs.length cap3) g3 rs) := O14.out.upd' hu (fun h => by have := CZ.out; have := M4.out; have := M5.out; have := M7.out; have := L3.out h; omega)
    have Q15 : Hid (NSlice w15 (.slice a6 rs.length cap6) (marks 1 rs.length)) := hQ.slice
    clear hu hQ RZ E14 A14 B14 O14
    obtain ⟨c0, c1, c2⟩ := A15.out.2
    obtain ⟨d0, d1, d2⟩ := B15.out.2
    have hlt := A15.out.1
    have hlu := B15.out.1
    go_wp2_with fail
    refine (heldZResult_any c p _ rs.length 1 _ Q15.out (by omega) hrs).mono ?_
    rintro e w16 ⟨rfl, hb⟩
    clear c0 c1 c2 d0 d1 d2 hlt hlu
    have E16 : Hid (Ext w w16) := E15.out.trans hb
    have A16 : Hid (BoxAt w16 w3.heap.size c p (.slice a3 rs.length cap3)) := A15.out.ext hb
    have B16 : Hid (BoxAt w16 w6.heap.size c p (.slice a6 rs.length cap6)) := B15.out.ext hb
    have O16 : Hid (Own w16 (.slice a3 rs.length cap3) g3 rs) := O15.out.ext hb
    have Q16 : Hid (NSlice w16 (.slice a6 rs.length cap6) (marks 1 rs.length)) := Q15.out.ext hb
    clear E15 A15 B15 O15 Q15 hb
    go_wp2_with fail
    refine (toZnodeS_any _ zs _ (by exact HA.out.ext E16.out) hl).mono ?_
    rintro e w17 ⟨v14, rfl, hO, hb⟩
    have Y17 : Hid (NSlice w17 v14 zs) := hO.slice
    clear hO
    have E17 : Hid (Ext w w17) := E16.out.trans hb
    have A17 : Hid (BoxAt w17 w3.heap.size c p (.slice a3 rs.length cap3)) := A16.out.ext hb
    have B17 : Hid (BoxAt w17 w6.heap.size c p (.slice a6 rs.length cap6)) := B16.out.ext hb
    have O17 : Hid (Own w17 (.slice a3 rs.length cap3) g3 rs) := O16.out.ext hb
    have Q17 : Hid (NSlice w17 (.slice a6 rs.length cap6) (marks 1 rs.length)) := Q16.out.ext hb
    clear E16 A16 B16 O16 Q16 hb
    go_wp2_with fail
    refine (toInt64S_own _ ids _ (by exact HU.out.ext E17.out) hli).mono ?_
    rintro e w18 ⟨u14, rfl, hO, hb⟩
    have Y18 : Hid (NSlice w18 v14 zs ∧ ISlice w18 u14 ids) := ⟨Y17.out.ext hb, hO.slice⟩
    clear hO
    have E18 : Hid (Ext w w18) := E17.out.trans hb
    have A18 : Hid (BoxAt w18 w3.heap.size c p (.slice a3 rs.length cap3)) := A17.out.ext hb
    have B18 : Hid (BoxAt w18 w6.heap.size c p (.slice a6 rs.length cap6)) := B17.out.ext hb
    have O18 : Hid (Own w18 (.slice a3 rs.length cap3) g3 rs) := O17.out.ext hb
    have Q18 : Hid (NSlice w18 (.slice a6 rs.length cap6) (marks 1 rs.length)) := Q17.out.ext hb
    clear E17 A17 B17 O17 Q17 hb Y17
    go_wp2_with fail
    refine (I1.out _ _ _ E18.out Y18.out.1 Y18.out.2).mono ?_
    rintro e w19 ⟨v15, g15, rfl, -, hO, hb⟩
    obtain ⟨a15, cap15, rfl, -⟩ := id hO
    have R19 : Hid (Own w19 (.slice a15 rs.length cap15) g15 rs) := hO
    clear hO
    have E19 : Hid (Ext w w19) := E18.out.trans hb
    have A19 : Hid (BoxAt w19 w3.heap.size c p (.slice a3 rs.length cap3)) := A18.out.ext hb
    have B19 : Hid (BoxAt w19 w6.heap.size c p (.slice a6 rs.length cap6)) := B18.out.ext hb
    have O19 : Hid (Own w19 (.slice a3 rs.length cap3) g3 rs) := O18.out.ext hb
    have Q19 : Hid (NSlice w19 (.slice a6 rs.length cap6) (marks 1 rs.length)) := Q18.out.ext hb
    clear E18 A18 B18 O18 Q18 hb
    unfold zr
    obtain ⟨c0, c1, c2⟩ := A19.out.2
    obtain ⟨d0, d1, d2⟩ := B19.out.2
    have hlt := A19.out.1
    have hlu := B19.out.1
    go_wp2_with fail
    refine (eqZResult_same c p _ _ rs _ (by exact R19.out.slice.ext ((Ext.refl _).alloc _)) (by exact O19.out.slice.ext ((Ext.refl _).alloc _))).mono ?_
    rintro e w20 ⟨rfl, hb⟩
    clear c0 c1 c2 d0 d1 d2 hlt hlu
    have hb := ((Ext.refl w19).alloc _).trans hb
    have E20 : Hid (Ext w w20) := E19.out.trans hb
    have A20 : Hid (BoxAt w20 w3.heap.size c p (.slice a3 rs.length cap3)) := A19.out.ext hb
    have B20 : Hid (BoxAt w20 w6.heap.size c p (.slice a6 rs.length cap6)) := B19.out.ext hb
    have O20 : Hid (Own w20 (.slice a3 rs.length cap3) g3 rs) := O19.out.ext hb
    have Q20 : Hid (NSlice w20 (.slice a6 rs.length cap6) (marks 1 rs.length)) := Q19.out.ext hb
    clear E19 A19 B19 O19 Q19 hb
    obtain ⟨c0, c1, c2⟩ := A20.out.2
    obtain ⟨d0, d1, d2⟩ := B20.out.2
    have hlt := A20.out.1
    have hlu := B20.out.1
    go_wp2_with fail
    refine (heldZResult_any c p _ rs.length 1 _ Q20.out (by omega) hrs).mono ?_
    rintro e w21 ⟨rfl, hb⟩
    have E21 : Hid (Ext w w21) := E20.out.trans hb
    clear hb
    go_wp2
    go_ret
    exact ⟨rfl, E21.out⟩

theorem dropV_len (zs : List Zn) (ids : List Int) : (dropV zs ids).2.2.length ≤ 1048576 := by
  unfold dropV
  by_cases h : Tre.fault zs ≠ 0
  · rw [if_pos h]; simp
  · rw [if_neg h]
    by_cases h9 : 9 < ids.length
    · rw [if_pos h9]; simp
    · rw [if_neg h9]
      have := (Tre.fault_len (zs := zs) (by omega)).1
      have := dropL_len ids zs
      simp only
      omega
theorem lawDropOwned (v : Value) (zs : List Zn) (u : Value) (ids : List Int) (w : World) (hg : Gd w) (hS : NSlice w v zs) (hz : ∀ z ∈ zs, z.path.size ≤ maxLen) (hI : ISlice w u ids) :
    Calls Tryd.prog 3 #[v, u] w fun e w' => e = .returned (.bool true) ∧ Ext w w' :=
  lawDropOwned_of v u zs ids w _ _ _ hS hz hI (dropV_len zs ids) (fun wx vx ux _ h h' => specDropOwned_any vx ux zs ids wx h h') (fun wx vx ux he h h' => implDropOwned_any vx ux zs ids wx (hg.ext he) h h')
end Go.Proofs.YtjlmkjcahnnjpaaDoor
