/- laws.FnPaths, walked: it answers true at every code. -/
import Derived.Test.YtihfgaanaffinaaDoorD3
import Derived.Test.YtihfgaanaffinaaDoorP2
import Derived.Test.YtihfgaanaffinaaDoorW7
namespace Go.Proofs.YtihfgaanaffinaaDoor
open Go.RowKit

theorem CodeOk.up {w w' : World} {b b' : Nat} {cv : Value} (h : CodeOk w b cv) (hb : Below b w w') (hbb : b ≤ b') : CodeOk w' b' cv := by
  obtain ⟨ad, len, cap, h1, h2, h3⟩ := h.below hb
  refine ⟨ad, len, cap, h1, h2, fun hl => ?_⟩
  obtain ⟨cb, co, e, hc, hx⟩ := h3 hl
  exact ⟨cb, co, e, by omega, hx⟩

/-- The two boxes' cells that the last statement reads, and the third's. -/
def Bx (w : World) (b5 b8 b9 : Nat) (j p n : ByteArray) : Prop :=
  w.cell? ⟨b5, 1, none⟩ = some (.string j) ∧ w.cell? ⟨b8, 0, none⟩ = some (.int .i64 0) ∧ w.cell? ⟨b8, 1, none⟩ = some (.string p) ∧ w.cell? ⟨b9, 1, none⟩ = some (.string n) ∧ b5 < w.heap.size ∧ b8 < w.heap.size ∧ b9 < w.heap.size ∧ Gd w
theorem Bx.ext {w w' : World} {b5 b8 b9 : Nat} {j p n : ByteArray} (h : Bx w b5 b8 b9 j p n) (he : Ext w w') : Bx w' b5 b8 b9 j p n := by
  obtain ⟨h1, h2, h3, h4, l1, l2, l3, hg⟩ := h
  obtain ⟨hc, _⟩ := Ext.cell he
  have hz := he.size
  exact ⟨(hc _ _ l1).trans h1, (hc _ _ l2).trans h2, (hc _ _ l2).trans h3, (hc _ _ l3).trans h4, by omega, by omega, by omega, hg.ext he⟩

set_option maxHeartbeats 400000 in
theorem lwBig_any (ad : Option Addr) (len cap : Nat) (w : World) :
    Calls Tryd.prog 17 #[.slice ad len cap] w fun e w' => e = .returned (.bool (decide (1048576 < len))) ∧ w' = w := by
  go_enter Tryd.func17, Tryd.ntmps17
  go_wp2
  go_ret
  exact ⟨ret_bool (by rw [Bool.eq_iff_iff]; simp; omega), rfl⟩

theorem joined_le (p n : ByteArray) : (Pth.joined p.data.toList n.data.toList).length ≤ p.size + n.size + 1 := by
  unfold Pth.joined
  split <;> simp <;> omega
theorem field_code (c : Int) (t : ByteArray) (w : World) : (Instr.field 27 (.agg #[.int .i64 c, .string t]) 0).run Tryd.prog w = .ok (.int .i64 c) w := by kernel_rfl
theorem field_value (c d : Int) (w : World) : (Instr.field 33 (.agg #[.int .i64 c, .int .i64 d]) 1).run Tryd.prog w = .ok (.int .i64 d) w := by kernel_rfl

set_option maxHeartbeats 4000000 in
set_option maxRecDepth 100000 in
theorem lawPaths (cv : Value) (w : World) (hg : Gd w) (hc : CodeOk w w.heap.size cv) :
    Calls Tryd.prog 3 #[cv] w fun e w' => e = .returned (.bool true) ∧ Ext w w' := by
  have HG : Hid (Gd w) := hg
  have hc' := hc
  obtain ⟨ad, len, cap, rfl, hl, -⟩ := hc'
  have HC : Hid (CodeOk w w.heap.size (.slice ad len cap)) := hc
  have hbig : decide (1048576 < len) = false := by simpa using hl
  have hB := lwBig_any ad len cap w
  rw [hbig] at hB
  clear hc hg hbig
  go_enter Tryd.func3, Tryd.ntmps3
  go_wp2_with fail
  refine hB.mono ?_
  rintro e w0 ⟨rfl, hw⟩
  subst hw
  clear hB
  go_wp2_with fail
  refine (drawJoinPath_any _ _ HC.out).mono ?_
  rintro e w1 ⟨p, n, rfl, hp, hn, hb⟩
  have HB1 : Hid (Ext w0 w1) := hb
  clear hb
  have hn' : n.size ≤ 1048576 := by omega
  have hp' : p.size ≤ 1048576 := by omega
  have hI := joinPath_any p n w1 (HG.out.ext HB1.out) hn'
  have hS := fun wx => specJoinPath_any p n wx hn'
  rcases Pth.joinV_cases p.data.toList n.data.toList with ⟨c, hj, hc0⟩ | ⟨hj, f1, f2, f3⟩
  · rw [hj] at hI hS
    have hcn : (c != 0) = true := by rw [bne_iff_ne]; exact hc0
    have HS : Hid (∀ wx : World, Calls Tryd.prog 20 #[.string p, .string n] wx fun e w' => e = .returned (tr (c, [])) ∧ Ext wx w') := hS
    clear hj hc0 hS
    go_wp2_with fail
    refine hI.mono ?_
    rintro e w2 ⟨rfl, hb⟩
    have HB2 : Hid (Ext w0 w2) := HB1.out.trans hb
    clear hb hI
    unfold tr
    have hfc := field_code
    have hlt2 : ∀ wx : World, Ext (w2.alloc (.cells #[.int .i64 c, .string (mkB [])] 27)).drew wx → wx.cell? ⟨w2.heap.size, 0, none⟩ = some (.int .i64 c) := fun wx hx => by
      rw [(Ext.cell hx).1 _ _ (by simp)]; simp
    have HL : Hid _ := hlt2
    clear hlt2
    go_wp2
    go_region_with (go_at_call 20; refine (HS.out _).mono ?_; rintro e w3 ⟨rfl, hb3⟩; have hcc := HL.out _ hb3; unfold tr)
    all_goals
      go_wp2
      go_ret
      exact ⟨rfl, HB2.out.trans ((((Ext.refl _).alloc _).drew).trans hb3)⟩
  · have t1 := Pth.parent_joined f1 f2 f3
    have t2 := Pth.name_joined f1 f2 f3
    have t3 := Pth.under_joined (n := n.data.toList) f1 f3
    have t4 := Pth.not_under_joined f1 f2 f3
    have t5 := Pth.under_top_joined f3
    obtain ⟨d, hd0, hd1, t6, t7⟩ := Pth.deep_joined f1 f2 f3
    obtain ⟨J, hJ⟩ : ∃ J, J = mkB (Pth.joined p.data.toList n.data.toList) := ⟨_, rfl⟩
    have hJl : J.data.toList = Pth.joined p.data.toList n.data.toList := by rw [hJ, mkB_list]
    rw [← hJl] at t1 t2 t3 t4 t5 t7 f3
    have hJs : J.size ≤ 1048576 := by
      have := joined_le p n
      rw [← len_eq, hJl]; omega
    rw [hj] at hI
    clear hS hj hJl f1 f2
    have hI' : Calls Tryd.prog 19 #[.string p, .string n] w1 fun e w' => e = .returned (.agg #[.int .i64 0, .string J]) ∧ Ext w1 w' := by
      rw [hJ]; exact hI
    have cP := fun wx hx => parentOf_any J wx hx
    have cN := fun wx hx => nameIn_any J wx hx
    have cF := fun wx hx => pathFault_any J wx hx
    have c1 := fun wx hx => isUnder_any J p wx hx hp'
    have c2 := fun wx hx => isUnder_any p J wx hx hJs
    have c3 := fun wx hx => isUnder_any J ⟨#[47]⟩ wx hx (by decide)
    have c4 := fun wx hx => deepIn_any J wx hx
    have c5 := fun wx hx => deepIn_any p wx hx
    rw [t1] at cP
    rw [t2] at cN
    rw [f3] at cF
    rw [t3] at c1
    rw [t4] at c2
    rw [show (⟨#[47]⟩ : ByteArray).data.toList = [47] from rfl, t5] at c3
    rw [t7] at c4
    rw [t6] at c5
    clear t1 t2 t3 t4 t5 t6 t7 f3 hJ hI
    have hd2 : d ≤ 30 := by rw [len_eq] at hd1; omega
    clear hd1
    have eP : ((mkB p.data.toList).toList == p.toList) = true := by rw [beq_val, mkB_list]; simp
    have eN : ((mkB n.data.toList).toList == n.toList) = true := by rw [beq_val, mkB_list]; simp
    have HcP : Hid _ := cP
    have HcN : Hid _ := cN
    have HcF : Hid _ := cF
    have Hc1 : Hid _ := c1
    have Hc2 : Hid _ := c2
    have Hc3 : Hid _ := c3
    have Hc4 : Hid _ := c4
    have Hc5 : Hid _ := c5
    clear cP cN cF c1 c2 c3 c4 c5
    go_wp2_with fail
    refine hI'.mono ?_
    rintro e w2 ⟨rfl, hb⟩
    have HB2 : Hid (Ext w0 w2) := HB1.out.trans hb
    clear hb hI'
    go_wp2_with fail
    refine (drawIsUnder_any _ _ (by exact HC.out.up ((HB2.out.alloc _)) (by have := HB2.out.size; simp; omega))).mono ?_
    rintro e w3 ⟨x, y, rfl, hx, hy, hb⟩
    have HB3 : Hid (Ext (w2.alloc (.cells #[.int .i64 0, .string J] 27)) w3) := hb
    clear hb
    have HG3 : Hid (Gd w3) := ((HG.out.ext HB2.out).alloc _).ext HB3.out
    have hU := isUnder_any x y w3 HG3.out (by omega)
    have hV := fun wx => specIsUnder_any x y wx (by omega)
    generalize Pth.underV x.data.toList y.data.toList = u at *
    have HV : Hid (∀ wx : World, Calls Tryd.prog 23 #[.string x, .string y] wx fun e w' => e = .returned (.bool u) ∧ Ext wx w') := hV
    clear hV
    go_wp2_with fail
    refine hU.mono ?_
    rintro e w4 ⟨rfl, hb⟩
    clear hU
    have HB4 : Hid (Ext (w2.alloc (.cells #[.int .i64 0, .string J] 27)) w4) := HB3.out.trans hb
    clear hb
    go_wp2_with fail
    refine (HV.out _).mono ?_
    rintro e w5 ⟨rfl, hb⟩
    have HB5 : Hid (Ext (w2.alloc (.cells #[.int .i64 0, .string J] 27)) w5) := HB4.out.trans hb
    clear hb
    have HG5 : Hid (Gd w5) := ((HG.out.ext HB2.out).alloc _).ext HB5.out
    have k5 : w5.cell? ⟨w2.heap.size, 1, none⟩ = some (.string J) := by rw [(Ext.cell HB5.out).1 _ _ (by simp)]; simp
    have hz5 : w2.heap.size < w5.heap.size := by have := HB5.out.size; simp at this; omega
    have uu : (u != u) = false := by simp
    go_wp2_with fail
    refine (HcP.out _ HG5.out).mono ?_
    rintro e w6 ⟨rfl, hb⟩
    have HB6 : Hid (Ext (w2.alloc (.cells #[.int .i64 0, .string J] 27)) w6) := HB5.out.trans hb
    clear hb k5 hz5
    have HG6 : Hid (Gd w6) := ((HG.out.ext HB2.out).alloc _).ext HB6.out
    have k6 : w6.cell? ⟨w2.heap.size, 1, none⟩ = some (.string J) := by rw [(Ext.cell HB6.out).1 _ _ (by simp)]; simp
    have hz6 : w2.heap.size < w6.heap.size := by have := HB6.out.size; simp at this; omega
    have hal := alloc_cell
    unfold tr
    go_wp2_with fail
    refine (HcN.out _ (by exact HG6.out.alloc _)).mono ?_
    rintro e w7 ⟨rfl, hb⟩
    have HB7 : Hid (Ext (w6.alloc (.cells #[.int .i64 0, .string (mkB p.data.toList)] 27)) w7) := hb
    clear hb k6 hal
    unfold tr
    have B7 : Hid (Bx (w7.alloc (.cells #[.int .i64 0, .string (mkB n.data.toList)] 27)) w2.heap.size w6.heap.size w7.heap.size J (mkB p.data.toList) (mkB n.data.toList)) := by
      have hz := HB7.out.size
      simp at hz
      obtain ⟨hc7, _⟩ := Ext.cell HB7.out
      refine ⟨?_, ?_, ?_, by simp, by simp; omega, by simp; omega, by simp, ((HG6.out.alloc _).ext HB7.out).alloc _⟩
      · rw [alloc_cell _ _ _ _ (by omega), hc7 _ _ (by simp; omega), alloc_cell _ _ _ _ hz6, (Ext.cell HB6.out).1 _ _ (by simp)]; simp
      · rw [alloc_cell _ _ _ _ (by omega), hc7 _ _ (by simp)]; simp
      · rw [alloc_cell _ _ _ _ (by omega), hc7 _ _ (by simp)]; simp
    have E7 : Hid (Ext w0 (w7.alloc (.cells #[.int .i64 0, .string (mkB n.data.toList)] 27))) := ((((HB2.out.alloc _).trans HB6.out).alloc _).trans HB7.out).alloc _
    obtain ⟨m1, m2, m3, m4, -⟩ := B7.out
    have hfv := field_value
    go_wp2_with fail
    refine (HcF.out _ B7.out.2.2.2.2.2.2.2).mono ?_
    rintro e w8 ⟨rfl, hb⟩
    have E8 : Hid (Ext w0 w8) := E7.out.trans hb
    have B8 : Hid (Bx w8 w2.heap.size w6.heap.size w7.heap.size J (mkB p.data.toList) (mkB n.data.toList)) := B7.out.ext hb
    clear hb m1 m2 m3 m4
    obtain ⟨m1, m2, m3, m4, -⟩ := B8.out
    go_wp2_with fail
    refine (Hc1.out _ B8.out.2.2.2.2.2.2.2).mono ?_
    rintro e w9 ⟨rfl, hb⟩
    have E9 : Hid (Ext w0 w9) := E8.out.trans hb
    have B9 : Hid (Bx w9 w2.heap.size w6.heap.size w7.heap.size J (mkB p.data.toList) (mkB n.data.toList)) := B8.out.ext hb
    clear hb m1 m2 m3 m4
    obtain ⟨m1, m2, m3, m4, -⟩ := B9.out
    go_wp2_with fail
    refine (Hc2.out _ B9.out.2.2.2.2.2.2.2).mono ?_
    rintro e w10 ⟨rfl, hb⟩
    have E10 : Hid (Ext w0 w10) := E9.out.trans hb
    have B10 : Hid (Bx w10 w2.heap.size w6.heap.size w7.heap.size J (mkB p.data.toList) (mkB n.data.toList)) := B9.out.ext hb
    clear hb m1 m2 m3 m4
    obtain ⟨m1, m2, m3, m4, -⟩ := B10.out
    go_wp2_with fail
    refine (Hc3.out _ B10.out.2.2.2.2.2.2.2).mono ?_
    rintro e w11 ⟨rfl, hb⟩
    have E11 : Hid (Ext w0 w11) := E10.out.trans hb
    have B11 : Hid (Bx w11 w2.heap.size w6.heap.size w7.heap.size J (mkB p.data.toList) (mkB n.data.toList)) := B10.out.ext hb
    clear hb m1 m2 m3 m4
    obtain ⟨m1, m2, m3, m4, -⟩ := B11.out
    go_wp2_with fail
    refine (Hc4.out _ B11.out.2.2.2.2.2.2.2).mono ?_
    rintro e w12 ⟨rfl, hb⟩
    have E12 : Hid (Ext w0 w12) := E11.out.trans hb
    have B12 : Hid (Bx w12 w2.heap.size w6.heap.size w7.heap.size J (mkB p.data.toList) (mkB n.data.toList)) := B11.out.ext hb
    clear hb m1 m2 m3 m4
    obtain ⟨m1, m2, m3, m4, -⟩ := B12.out
    unfold ir
    go_wp2_with fail
    refine (Hc5.out _ B12.out.2.2.2.2.2.2.2).mono ?_
    rintro e w13 ⟨rfl, hb⟩
    have E13 : Hid (Ext w0 w13) := E12.out.trans hb
    have B13 : Hid (Bx w13 w2.heap.size w6.heap.size w7.heap.size J (mkB p.data.toList) (mkB n.data.toList)) := B12.out.ext hb
    clear hb m1 m2 m3 m4
    obtain ⟨m1, m2, m3, m4, -⟩ := B13.out
    unfold ir
    go_wp2
    go_ret
    exact ⟨rfl, E13.out⟩
end Go.Proofs.YtihfgaanaffinaaDoor
