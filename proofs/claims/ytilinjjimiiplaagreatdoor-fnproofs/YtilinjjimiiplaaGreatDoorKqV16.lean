/- the program's ProveZ. -/
import Derived.Test.YtilinjjimiiplaaGreatDoorKqV15
import Derived.Test.YtilinjjimiiplaaGreatDoorKqJ15
namespace Go.Proofs.YtilinjjimiiplaaGreatDoor
open Go.RowKit
def Sm.proveT (zs : List Zn) (p : ByteArray) : Int × Int × List Sd :=
  if Tre.asked zs p ≠ 0 then (Tre.asked zs p, 0, []) else if Tre.atI zs p < 0 then (4, 0, []) else (0, (zs.map Sm.leaf).getD (Tre.atI zs p).toNat 0, Sm.sidesF (zs.map Sm.leaf).length (Tre.atI zs p).toNat (zs.map Sm.leaf))
theorem Sm.proveT_bad {zs : List Zn} {p : ByteArray} {c : Int} (h : Tre.asked zs p = c) (hc : c ≠ 0) : Sm.proveT zs p = (c, 0, []) := by unfold Sm.proveT; rw [h, if_pos hc]
theorem Sm.proveT_none {zs : List Zn} {p : ByteArray} (h : Tre.asked zs p = 0) (h0 : Tre.atI zs p < 0) : Sm.proveT zs p = (4, 0, []) := by unfold Sm.proveT; rw [h, if_neg (by decide), if_pos h0]
theorem Sm.proveT_ok {zs : List Zn} {p : ByteArray} {k : Nat} {x : Int} (h : Tre.asked zs p = 0) (h0 : Tre.atI zs p = k) (hx : (zs.map Sm.leaf)[k]? = some x) : Sm.proveT zs p = (0, x, Sm.sidesF (zs.map Sm.leaf).length k (zs.map Sm.leaf)) := by
  unfold Sm.proveT
  rw [h, if_neg (by decide), if_neg (by omega), h0, Int.toNat_natCast, List.getD_eq_getElem?_getD, hx]
  rfl
theorem Sm.proveT_len (zs : List Zn) (p : ByteArray) : (Sm.proveT zs p).2.2.length ≤ 1048576 := by
  unfold Sm.proveT
  split
  · simp
  · rename_i h
    split
    · simp
    · have h1 := Sm.sidesF_len (zs.map Sm.leaf).length (Tre.atI zs p).toNat (zs.map Sm.leaf)
      have h2 := (Tre.asked_len (show Tre.asked zs p = 0 by omega)).1
      simp only [List.length_map] at h1
      show (Sm.sidesF (zs.map Sm.leaf).length _ _).length ≤ _
      simp only [List.length_map]
      omega

/-- Block r holds a ProofResult that nobody has written yet, and may be written. -/
def PBox (w : World) (r : Nat) : Prop :=
  r < w.heap.size ∧ w.cell? ⟨r, 0, none⟩ = some (.int .i64 0) ∧ w.cell? ⟨r, 1, none⟩ = some (.int .i64 0) ∧ w.cell? ⟨r, 2, none⟩ = some (.slice none 0 0) ∧ w.frozen? ⟨r, 0, none⟩ = false ∧ w.frozen? ⟨r, 1, none⟩ = false ∧ w.frozen? ⟨r, 2, none⟩ = false
theorem PBox.new (w : World) (t : TypeId) : PBox (w.alloc (.cells #[.int .i64 0, .int .i64 0, .slice none 0 0] t)) w.heap.size := ⟨by simp, by simp, by simp, by simp, by simp, by simp, by simp⟩
theorem PBox.ext {w w2 : World} {r : Nat} (h : PBox w r) (he : Ext w w2) : PBox w2 r := by
  obtain ⟨hc, hf⟩ := Ext.cell he
  obtain ⟨h1, h2, h3, h4, h5, h6, h7⟩ := h
  exact ⟨Nat.lt_of_lt_of_le h1 he.size, (hc _ _ h1).trans h2, (hc _ _ h1).trans h3, (hc _ _ h1).trans h4, (hf _ _ h1).trans h5, (hf _ _ h1).trans h6, (hf _ _ h1).trans h7⟩
theorem Ext.three {w w2 : World} (h : Ext w w2) (a b c : Value) : Ext w (((w2.setCell ⟨w.heap.size, 0, none⟩ a).setCell ⟨w.heap.size, 1, none⟩ b).setCell ⟨w.heap.size, 2, none⟩ c) :=
  ((h.setCell (p := ⟨w.heap.size, 0, none⟩) (Nat.le_refl _) a).setCell (p := ⟨w.heap.size, 1, none⟩) (Nat.le_refl _) b).setCell (p := ⟨w.heap.size, 2, none⟩) (Nat.le_refl _) c
theorem sown_none (w : World) (g : Nat) : SOwn w (.slice none 0 0) g [] := ⟨none, 0, rfl, Nat.le_refl _, by unfold maxLen; omega, fun h => by simp at h⟩
theorem pret_bad {w w' : World} (c : Int) (h : Ext w w') : PRet w c 0 [] (.returned (pr c 0 (.slice none 0 0))) w' := ⟨_, w.heap.size, rfl, Nat.le_refl _, sown_none _ _, h⟩

theorem owns_slice {w : World} {base : Nat} {e : TypeId} {size : Nat} {v : Value} {n : Nat} {xs : List Value} (h : w.ownsRow base e size v n xs) : ∃ a cap, v = .slice a n cap := by
  rcases h.2 with ⟨hv, h0⟩ | ⟨g, cap, cur, hv, _⟩
  · exact ⟨none, 0, by rw [hv, h0]⟩
  · exact ⟨_, cap, hv⟩
theorem pret_ok {w w5 W : World} {v : Value} {S : List Sd} (x : Int) (h : Ext w w5 ∧ w5.ownsRow W.heap.size 59 2 v S.length (cellsS S)) (hW : w.heap.size < W.heap.size) (a b c : Value) :
    PRet w 0 x S (.returned (pr 0 x v)) (((w5.setCell ⟨w.heap.size, 0, none⟩ a).setCell ⟨w.heap.size, 1, none⟩ b).setCell ⟨w.heap.size, 2, none⟩ c) := by
  obtain ⟨g, hg, hO⟩ := sown_of_owns h.2
  exact ⟨v, g, rfl, by omega, hO.upd' ((((Upd.refl _ _).setAt 0 a).setAt 1 b).setAt 2 c) (fun _ => by omega), h.1.three _ _ _⟩
theorem three_ne {b B : Nat} (h : b ≠ B) (w5 : World) (x y z : Value) (o : Nat) : (((w5.setCell ⟨b, 0, none⟩ x).setCell ⟨b, 1, none⟩ y).setCell ⟨b, 2, none⟩ z).cell? ⟨B, o, none⟩ = w5.cell? ⟨B, o, none⟩ := by
  rw [iset_ne _ _ _ _ _ _ (Or.inl h), iset_ne _ _ _ _ _ _ (Or.inl h), iset_ne _ _ _ _ _ _ (Or.inl h)]
set_option maxHeartbeats 4000000 in
set_option maxRecDepth 100000 in
theorem implProveZ_any (v : Value) (zs : List Zn) (p : ByteArray) (w : World) (hg : Gd w) (hS : NSlice w v zs) :
    Calls Tryz.prog 6 #[v, .string p] w (PRet w (Sm.proveT zs p).1 (Sm.proveT zs p).2.1 (Sm.proveT zs p).2.2) := by
  have HL : Hid (∀ wx : World, Ext w wx → Calls Tryz.prog 16 #[v, .string p] wx fun e w' => e = .returned (.int .i64 (Tre.asked zs p)) ∧ Ext wx w') := fun wx h => treeOrPath_any v zs p wx (hg.ext h) (hS.ext h)
  have HS : Hid (NSlice w v zs) := hS
  have HG : Hid (Gd w) := hg
  clear hg
  obtain ⟨a, cap, rfl, -⟩ := hS
  by_cases h0 : Tre.asked zs p ≠ 0
  · rw [Sm.proveT_bad rfl h0]
    generalize Tre.asked zs p = c at *
    go_enter Tryz.func6, Tryz.ntmps6
    go_wp2_with fail
    refine (HL.out _ ((Ext.refl _).alloc _)).mono ?_
    rintro e w2 ⟨rfl, hb⟩
    have HB : Hid (Ext w w2) := ((Ext.refl _).alloc _).trans hb
    obtain ⟨q, q0, q1, q2, f0, f1, f2⟩ := (PBox.new w _).ext hb
    clear hb
    go_wp2
    exact bodyPost_ret (v := pr c 0 (.slice none 0 0)) (by simp [results, Tryz.results6, go_sem, pr, q0, q1, q2]) rfl (pret_bad _ (HB.out.three _ _ _))
  · have h00 : Tre.asked zs p = 0 := by omega
    rw [h00] at HL
    obtain ⟨h20, hU, hpos, -⟩ := Tre.asked_len h00
    have HPl : Hid (∀ wx : World, Ext w wx → Calls Tryz.prog 17 #[.slice a zs.length cap, .string p] wx fun e w' => e = .returned (.tuple #[.int .i64 (Tre.cut zs p.data.toList : Nat), .bool (Tre.has zs p)]) ∧ Ext wx w') := fun wx h => placeOf_any _ zs p wx (HS.out.ext h) hU (by omega)
    cases hh : Tre.has zs p with
    | false =>
      rw [Sm.proveT_none h00 (Tre.has_not hh)]
      rw [hh] at HPl
      generalize Tre.cut zs p.data.toList = k at *
      clear hh h00 h0 hU
      go_enter Tryz.func6, Tryz.ntmps6
      go_wp2_with fail
      refine (HL.out _ ((Ext.refl _).alloc _)).mono ?_
      rintro e w2 ⟨rfl, hb⟩
      have HB : Hid (Ext w w2) := ((Ext.refl _).alloc _).trans hb
      have HQ2 : Hid (PBox w2 w.heap.size) := (PBox.new w _).ext hb
      clear hb
      go_wp2_with fail
      refine (HPl.out _ HB.out).mono ?_
      rintro e w3 ⟨rfl, hb⟩
      have HB3 : Hid (Ext w w3) := HB.out.trans hb
      obtain ⟨q, q0, q1, q2, f0, f1, f2⟩ := HQ2.out.ext hb
      clear hb
      go_wp2
      exact bodyPost_ret (v := pr 4 0 (.slice none 0 0)) (by simp [results, Tryz.results6, go_sem, pr, q0, q1, q2]) rfl (pret_bad _ (HB3.out.three _ _ _))
    | true =>
      rw [hh] at HPl
      obtain ⟨z, hat, hzk, -⟩ := Tre.has_at hU hh
      generalize Tre.cut zs p.data.toList = k at *
      have hkl : k < zs.length := (List.getElem?_eq_some_iff.1 hzk).1
      have hF : Tre.fault zs = 0 := (Tre.asked_fault h00).1
      have HLv : Hid (∀ wx : World, Ext w wx → Calls Tryz.prog 18 #[.slice a zs.length cap] wx fun e w' => ∃ R : List Value, e = .returned (.agg R.toArray) ∧ RowV R (zs.map Sm.leaf) ∧ Ext wx w') := fun wx h => leavesOf_any _ zs wx (HG.out.ext h) (HS.out.ext h) h20 (fault_nodeC hF)
      obtain ⟨l0, hl0⟩ : ∃ l0, l0 = zs.map Sm.leaf := ⟨_, rfl⟩
      have hk0 : k < l0.length := by rw [hl0]; simpa using hkl
      have HO0 : Hid (Sm.ok l0 = true) := by rw [hl0]; exact Sm.leaves_ok zs
      obtain ⟨x, hx⟩ : ∃ x, l0[k]? = some x := ⟨_, List.getElem?_eq_getElem hk0⟩
      rw [Sm.proveT_ok h00 hat (by rw [← hl0]; exact hx)]
      rw [← hl0] at HLv ⊢
      obtain ⟨S, hS⟩ : ∃ S, S = Sm.sidesF l0.length k l0 := ⟨_, rfl⟩
      have HSd : Hid (∀ (R : List Value) (wx : World), RowV R l0 → Calls Tryz.prog 19 #[.agg R.toArray, .int .i64 (k : Nat)] wx fun e w' => ∃ v, e = .returned v ∧ w'.ownsRow wx.heap.size 59 2 v S.length (cellsS S) ∧ Ext wx w') := fun R wx h => by rw [hS]; exact sidesAt_any R l0 k wx h HO0.out hk0
      rw [← hS]
      obtain ⟨hx0, hx1⟩ := Sm.ok_at hx HO0.out
      have HX : Hid (l0[k]? = some x) := hx
      have hk20 : k < 20 := by omega
      clear hl0 hS hx hF hh h00 h0 hU hat hzk
      go_enter Tryz.func6, Tryz.ntmps6
      go_wp2_with fail
      refine (HL.out _ ((Ext.refl _).alloc _)).mono ?_
      rintro e w2 ⟨rfl, hb⟩
      have HB : Hid (Ext w w2) := ((Ext.refl _).alloc _).trans hb
      have HQ2 : Hid (PBox w2 w.heap.size) := (PBox.new w _).ext hb
      clear hb
      go_wp2_with fail
      refine (HPl.out _ HB.out).mono ?_
      rintro e w3 ⟨rfl, hb⟩
      have HB3 : Hid (Ext w w3) := HB.out.trans hb
      have HQ3 : Hid (PBox w3 w.heap.size) := HQ2.out.ext hb
      clear hb
      go_wp2_with fail
      refine (HLv.out _ HB3.out).mono ?_
      rintro e w4 ⟨R0, rfl, hV0, hb⟩
      have HB4 : Hid (Ext w w4) := HB3.out.trans hb
      have HQ4 : Hid (PBox w4 w.heap.size) := HQ3.out.ext hb
      have HV0 : Hid (RowV R0 l0) := hV0
      have hR0 : R0.length = 21 := hV0.1
      have hi21 : (Tryz.prog.info? 50).map (·.size) = some R0.toArray.size := by rw [rowInfo]; simp [hR0]
      have hi22 : (Tryz.prog.info? 50).map (·.size) = some R0.length := by rw [rowInfo, hR0]
      have h1c : R0.toArray.all (·.oneCell') = true := all_oneCell_toArray hV0.2.2.2.2
      have HT : Hid ((w4.alloc (.cells zeroRow.toArray 50)).there w4.heap.size 0 R0.toArray.size) := by
        have h := (RowAt.new w4 zeroRow 50).there
        rw [show R0.toArray.size = zeroRow.length from by simp [hR0, zeroRow]]
        exact h
      have HK4 : Hid (∀ W, (w4.alloc (.cells zeroRow.toArray 50)).setCells w4.heap.size 0 R0 = W → RowAt W w4.heap.size R0 ∧ PBox W w.heap.size ∧ Ext w W) := fun W hW => by
        have e4 : Ext w4 W := by rw [← hW]; exact ext_setCells _ (Nat.le_refl _) _ _ _ ((Ext.refl _).alloc _)
        refine ⟨?_, HQ4.out.ext e4, HB4.out.trans e4⟩
        rw [← hW]
        exact (RowAt.new w4 zeroRow _).stored (by simp [zeroRow, hR0])
      clear hb hV0
      go_wp2_with (refine wpList_store_mid rfl 50 _ _ rfl w4.heap.size 0 R0.toArray rfl rfl HT.out hi21 h1c ?_; generalize hW : World.setCells _ _ _ _ = W; have HC : Hid _ := HK4.out W hW; clear hW)
      simp only [Act.put]
      have cx := (HC.out.1.cell (HV0.out.at HX.out)).1
      rw [Nat.add_comm] at cx
      have wx : IntKind.i64.wrap x = x := by rw [IntKind.wrap_i64]; omega
      have i1 : (0 : Int) ≤ (k : Int) := by omega
      have i2 : (k : Int) < 20 := by omega
      have hne4 : w.heap.size ≠ w4.heap.size := by have := HQ4.out.1; omega
      have rg : W.rangeAt w4.heap.size 0 R0 := HC.out.1.2.1
      have hu := Tryz.underlying50
      clear HT hi21 h1c HK4
      refine wp_region_held_drew (S := fun W' => W'.cell? ⟨w4.heap.size, 1 + k, none⟩ = some (.int .u64 x) ∧ W'.rangeAt w4.heap.size 0 R0) (by kernel_rfl) ⟨cx, rg⟩ (fun hHeld => ?_)
      refine wpAnyH_take (i := 5) (v := .agg R0.toArray) rfl (by kernel_rfl) (by kernel_rfl) (by kernel_rfl) (fun _ _ _ h => h) (yieldsIf_load_mid (by rfl) 50 (.tmp 8) rfl w4.heap.size 0 rfl R0 _ (fun w' h => h.2) hu rfl hi22) hHeld ?_
      refine wpAnyH_take (i := 0) (v := .int .i64 (k : Int)) rfl (by kernel_rfl) (by kernel_rfl) (by kernel_rfl) (fun _ _ _ h => h) (Or.inl ⟨by rfl, by (intro w' hSw; have h1 := hSw.1; go_simp; try with_reducible rfl)⟩) hHeld ?_
      refine wpAnyH_take (i := 1) (v := .pointer (some ⟨w4.heap.size, 1, none⟩)) rfl (by kernel_rfl) (by kernel_rfl) (by kernel_rfl) (fun _ _ _ h => h) (Or.inl ⟨by rfl, by (intro w' hSw; have h1 := hSw.1; go_simp; try with_reducible rfl)⟩) hHeld ?_
      refine wpAnyH_take (i := 2) (v := .pointer (some ⟨w4.heap.size, 1 + k, none⟩)) rfl (by kernel_rfl) (by kernel_rfl) (by kernel_rfl) (fun _ _ _ h => h) (Or.inl ⟨by rfl, by (intro w' hSw; have h1 := hSw.1; go_simp; try with_reducible rfl)⟩) hHeld ?_
      refine wpAnyH_take (i := 3) (v := .int .u64 x) rfl (by kernel_rfl) (by kernel_rfl) (by kernel_rfl) (fun _ _ _ h => h) (Or.inl ⟨by rfl, by (intro w' hSw; have h1 := hSw.1; go_simp; try with_reducible rfl)⟩) hHeld ?_
      refine wpAnyH_take (i := 4) (v := .int .i64 x) rfl (by kernel_rfl) (by kernel_rfl) (by kernel_rfl) (fun _ _ _ h => h) (Or.inl ⟨by rfl, by (intro w' hSw; have h1 := hSw.1; go_simp; try with_reducible rfl)⟩) hHeld ?_
      refine wpAnyH_take (i := 6) (v := .int .i64 (k : Int)) rfl (by kernel_rfl) (by kernel_rfl) (by kernel_rfl) (fun _ _ _ h => h) (Or.inl ⟨by rfl, by (intro w' hSw; have h1 := hSw.1; go_simp; try with_reducible rfl)⟩) hHeld ?_
      refine wpAnyH_ready (rs := [7]) (by kernel_rfl) (by simp) (AllReadyH.cons rfl (fun K hK => ?_) AllReadyH.nil)
      go_simp
      refine (HSd.out R0 _ HV0.out).mono ?_
      rintro e w5 ⟨v5, rfl, hown5, hb5⟩
      obtain ⟨a5, cap5, rfl⟩ := owns_slice hown5
      have hb5' : Ext W w5 := ((Ext.refl _).drew).trans hb5
      have cx5 := ((HC.out.1.ext hb5').cell (HV0.out.at HX.out)).1
      rw [Nat.add_comm] at cx5
      have rg5 : w5.rangeAt w4.heap.size 0 R0 := (HC.out.1.ext hb5').2.1
      have HE5 : Hid (Ext w w5 ∧ w5.ownsRow W.heap.size 59 2 (.slice a5 S.length cap5) S.length (cellsS S)) := ⟨HC.out.2.2.trans hb5', hown5⟩
      obtain ⟨q, q0, q1, q2, g0, g1, g2⟩ := HC.out.2.1.ext hb5'
      clear hown5 hb5 hb5'
      refine hK.out _ _ ⟨cx5, rg5⟩ (fun hHeld5 => ?_)
      clear hK K
      refine wpAnyH_take (i := 8) (v := .agg #[.int .i64 0, .int .i64 x, .slice a5 S.length cap5]) rfl (by kernel_rfl) (by kernel_rfl) (by kernel_rfl) (fun _ _ _ h => h) (Or.inl ⟨by rfl, by (intro w' hSw; go_simp; try with_reducible rfl)⟩) hHeld5 ?_
      refine wpAnyH_ready (rs := [9]) (by kernel_rfl) (by simp) (AllReadyH.cons rfl (fun K hK => ?_) AllReadyH.nil)
      go_simp
      refine hK.out _ _ ⟨by rw [three_ne hne4]; exact cx5, fun j v hv => by rw [three_ne hne4]; exact rg5 j v hv⟩ (fun hHeld6 => ?_)
      refine wpAnyH_done (by kernel_rfl) ?_ _
      go_wp2
      exact bodyPost_ret (v := pr 0 x (.slice a5 S.length cap5)) (by simp [results, Tryz.results6, go_sem, pr, q0, q1, q2]) rfl (pret_ok x HE5.out HC.out.2.1.1 _ _ _)
end Go.Proofs.YtilinjjimiiplaaGreatDoor
