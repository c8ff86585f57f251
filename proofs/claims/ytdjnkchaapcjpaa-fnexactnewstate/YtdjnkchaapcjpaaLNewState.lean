/- laws.FnExactNewState answers true at every number. -/
import Derived.Test.YtdjnkchaapcjpaaN8
namespace Go.Proofs.Ytdjnkchaapcjpaa
open Go.RowKit
set_option maxHeartbeats 4000000 in
set_option maxRecDepth 100000 in
theorem lawNewState_of (d : Int) (w : World) (c n : Int) (rs : List Zn) (hrs : rs.length ≤ 1048576)
    (hSp : ∀ (wx : World), Ext w wx → Calls Try.prog 5 #[.int .i64 d] wx (NRet wx c n rs))
    (hIm : ∀ (wx : World), Ext w wx → Calls Try.prog 6 #[.int .i64 d] wx (NRet wx c n rs)) :
    Calls Try.prog 3 #[.int .i64 d] w fun e w' => e = .returned (.bool true) ∧ Ext w w' := by
  have S1 : Hid (∀ (wx : World), Ext w wx → Calls Try.prog 5 #[.int .i64 d] wx (NRet wx c n rs)) := hSp
  have I1 : Hid (∀ (wx : World), Ext w wx → Calls Try.prog 6 #[.int .i64 d] wx (NRet wx c n rs)) := hIm
  clear hSp hIm
  go_enter Try.func3, Try.ntmps3
  go_wp2_with fail
  refine (S1.out _ (Ext.refl _)).mono ?_
  rintro e w3 ⟨v3, g3, rfl, -, hO, hb⟩
  obtain ⟨a3, cap3, rfl, -⟩ := id hO
  have E3 : Hid (Ext w w3) := hb
  have O3 : Hid (Own w3 (.slice a3 rs.length cap3) g3 rs) := hO
  have L3 : Hid (0 < rs.length → g3 < w3.heap.size) := hO.lt
  clear hb hO S1
  unfold nsr
  go_wp2_with fail
  refine (I1.out _ (by exact E3.out.alloc _)).mono ?_
  rintro e w6 ⟨v6, g6, rfl, hg6, hO, hb⟩
  obtain ⟨a6, cap6, rfl, -⟩ := id hO
  have A6 : Hid (NBoxAt w6 w3.heap.size c n (.slice a3 rs.length cap3)) := (nbox_new w3 c n _ _).ext (by assumption)
  have E6 : Hid (Ext w w6) := (E3.out.alloc _).trans hb
  have O6 : Hid (Own w6 (.slice a3 rs.length cap3) g3 rs) := (O3.out.ext ((Ext.refl _).alloc _)).ext hb
  have R6 : Hid (Own w6 (.slice a6 rs.length cap6) g6 rs) := hO
  have M5 : Hid (w3.heap.size + 1 ≤ g6 ∧ w.heap.size ≤ w3.heap.size ∧ (0 < rs.length → g6 < w6.heap.size)) := ⟨by simpa using hg6, E3.out.size, hO.lt⟩
  obtain ⟨c0, c1, c2, c3, c4, c5, c6, c7⟩ := A6.out.2
  have hlt := A6.out.1
  clear hb hO O3 E3 hg6
  unfold nsr
  go_wp2_with fail
  refine (eqNew_same c n _ _ rs _ (by exact R6.out.slice.ext ((Ext.refl _).alloc _)) (by exact O6.out.slice.ext ((Ext.refl _).alloc _))).mono ?_
  rintro e w11 ⟨rfl, hb⟩
  have hb := ((Ext.refl w6).alloc _).trans hb
  have B11 : Hid (NBoxAt w11 w6.heap.size c n (.slice a6 rs.length cap6)) := (nbox_new w6 c n _ _).ext (by assumption)
  clear c0 c1 c2 c3 c4 c5 c6 c7 hlt
  have E11 : Hid (Ext w w11) := E6.out.trans hb
  have A11 : Hid (NBoxAt w11 w3.heap.size c n (.slice a3 rs.length cap3)) := A6.out.ext hb
  have O11 : Hid (Own w11 (.slice a3 rs.length cap3) g3 rs) := O6.out.ext hb
  have R11 : Hid (Own w11 (.slice a6 rs.length cap6) g6 rs) := R6.out.ext hb
  clear E6 A6 O6 R6
  clear hb
  obtain ⟨gz, hgz, hRz, hcase⟩ := R11.out.pick
  have RZ : Hid (Own w11 (.slice a6 rs.length cap6) gz rs) := hRz
  have CZ : Hid (gz ≤ w11.heap.size ∧ (gz = w11.heap.size ∧ ¬ 0 < rs.length ∨ (gz = g6 ∧ g6 < w11.heap.size ∧ 0 < rs.length))) := ⟨hgz, hcase⟩
  clear hRz hcase R11 hgz
  obtain ⟨c0, c1, c2, c3, c4, c5, c6, c7⟩ := A11.out.2
  obtain ⟨d0, d1, d2, d3, d4, d5, d6, d7⟩ := B11.out.2
  have hlt := A11.out.1
  have hlu := B11.out.1
  go_wp2_with fail
  refine (markNew_any c n _ gz rs 1 _ RZ.out CZ.out.1 (by omega) hrs).mono ?_
  rintro e w12 ⟨rfl, hQ, hu⟩
  clear c0 c1 c2 c3 c4 c5 c6 c7 d0 d1 d2 d3 d4 d5 d6 d7 hlt hlu
  have E12 : Hid (Ext w w12) := hu.to_ext E11.out (by have := CZ.out; have := M5.out; have := E11.out.size; omega)
  have A12 : Hid (NBoxAt w12 w3.heap.size c n (.slice a3 rs.length cap3)) := A11.out.upd hu (by have := CZ.out; have := M5.out; have := A11.out.1; omega)
  have B12 : Hid (NBoxAt w12 w6.heap.size c n (.slice a6 rs.length cap6)) := B11.out.upd hu (by have := CZ.out; have := M5.out; have := B11.out.1; omega)
  have O12 : Hid (Own w12 (.slice a3 rs.length cap3) g3 rs) := O11.out.upd' hu (fun h => by have := CZ.out; have := M5.out; have := L3.out h; omega)
  have Q12 : Hid (NSlice w12 (.slice a6 rs.length cap6) (marks 1 rs.length)) := hQ.slice
  clear hu hQ RZ E11 A11 B11 O11
  obtain ⟨c0, c1, c2, c3, c4, c5, c6, c7⟩ := A12.out.2
  obtain ⟨d0, d1, d2, d3, d4, d5, d6, d7⟩ := B12.out.2
  have hlt := A12.out.1
  have hlu := B12.out.1
  go_wp2_with fail
  refine (heldNew_any c n _ rs.length 1 _ Q12.out (by omega) hrs).mono ?_
  rintro e w14 ⟨rfl, hb⟩
  clear c0 c1 c2 c3 c4 c5 c6 c7 d0 d1 d2 d3 d4 d5 d6 d7 hlt hlu
  have E14 : Hid (Ext w w14) := E12.out.trans hb
  have A14 : Hid (NBoxAt w14 w3.heap.size c n (.slice a3 rs.length cap3)) := A12.out.ext hb
  have B14 : Hid (NBoxAt w14 w6.heap.size c n (.slice a6 rs.length cap6)) := B12.out.ext hb
  have O14 : Hid (Own w14 (.slice a3 rs.length cap3) g3 rs) := O12.out.ext hb
  have Q14 : Hid (NSlice w14 (.slice a6 rs.length cap6) (marks 1 rs.length)) := Q12.out.ext hb
  clear E12 A12 B12 O12 Q12
  clear hb
  go_wp2_with fail
  refine (I1.out _ E14.out).mono ?_
  rintro e w15 ⟨v15, g15, rfl, -, hO, hb⟩
  obtain ⟨a15, cap15, rfl, -⟩ := id hO
  have R15 : Hid (Own w15 (.slice a15 rs.length cap15) g15 rs) := hO
  clear hO
  have E15 : Hid (Ext w w15) := E14.out.trans hb
  have A15 : Hid (NBoxAt w15 w3.heap.size c n (.slice a3 rs.length cap3)) := A14.out.ext hb
  have B15 : Hid (NBoxAt w15 w6.heap.size c n (.slice a6 rs.length cap6)) := B14.out.ext hb
  have O15 : Hid (Own w15 (.slice a3 rs.length cap3) g3 rs) := O14.out.ext hb
  have Q15 : Hid (NSlice w15 (.slice a6 rs.length cap6) (marks 1 rs.length)) := Q14.out.ext hb
  clear E14 A14 B14 O14 Q14
  clear hb
  unfold nsr
  obtain ⟨c0, c1, c2, c3, c4, c5, c6, c7⟩ := A15.out.2
  obtain ⟨d0, d1, d2, d3, d4, d5, d6, d7⟩ := B15.out.2
  have hlt := A15.out.1
  have hlu := B15.out.1
  go_wp2_with fail
  refine (eqNew_same c n _ _ rs _ (by exact R15.out.slice.ext ((Ext.refl _).alloc _)) (by exact O15.out.slice.ext ((Ext.refl _).alloc _))).mono ?_
  rintro e w16 ⟨rfl, hb⟩
  clear c0 c1 c2 c3 c4 c5 c6 c7 d0 d1 d2 d3 d4 d5 d6 d7 hlt hlu
  have hb := ((Ext.refl w15).alloc _).trans hb
  have E16 : Hid (Ext w w16) := E15.out.trans hb
  have A16 : Hid (NBoxAt w16 w3.heap.size c n (.slice a3 rs.length cap3)) := A15.out.ext hb
  have B16 : Hid (NBoxAt w16 w6.heap.size c n (.slice a6 rs.length cap6)) := B15.out.ext hb
  have O16 : Hid (Own w16 (.slice a3 rs.length cap3) g3 rs) := O15.out.ext hb
  have Q16 : Hid (NSlice w16 (.slice a6 rs.length cap6) (marks 1 rs.length)) := Q15.out.ext hb
  clear E15 A15 B15 O15 Q15
  clear hb
  obtain ⟨c0, c1, c2, c3, c4, c5, c6, c7⟩ := A16.out.2
  obtain ⟨d0, d1, d2, d3, d4, d5, d6, d7⟩ := B16.out.2
  have hlt := A16.out.1
  have hlu := B16.out.1
  go_wp2_with fail
  refine (heldNew_any c n _ rs.length 1 _ Q16.out (by omega) hrs).mono ?_
  rintro e w17 ⟨rfl, hb⟩
  have E17 : Hid (Ext w w17) := E16.out.trans hb
  clear hb
  go_wp2
  go_ret
  exact ⟨rfl, E17.out⟩

theorem lawNewState (d : Int) (w : World) : Calls Try.prog 3 #[.int .i64 d] w fun e w' => e = .returned (.bool true) ∧ Ext w w' :=
  lawNewState_of d w (Sta.newV d).1 (Sta.newV d).2.1 (Sta.newV d).2.2 (by unfold Sta.newV; split <;> simp) (fun wx _ => specNewState_any d wx) (fun wx _ => implNewState_any d wx)
end Go.Proofs.Ytdjnkchaapcjpaa
