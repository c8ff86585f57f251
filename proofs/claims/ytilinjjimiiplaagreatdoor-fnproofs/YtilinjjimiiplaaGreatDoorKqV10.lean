/- the program's leavesOf. -/
import Derived.Test.YtilinjjimiiplaaGreatDoorKqV9
namespace Go.Proofs.YtilinjjimiiplaaGreatDoor
open Go.RowKit
/-- The cells of a row that says n and holds the sums l so far. -/
def RowP (R : List Value) (n : Nat) (l : List Int) : Prop :=
  R.length = 21 ∧ R[0]? = some (.int .i64 (n : Int)) ∧ (∀ j x, l[j]? = some x → R[j + 1]? = some (.int .u64 x)) ∧ ∀ v ∈ R, v.oneCell' = true
theorem RowP.full {R : List Value} {l : List Int} (h : RowP R l.length l) (hl : l.length ≤ 20) : RowV R l := ⟨h.1, hl, h.2.1, h.2.2.1, h.2.2.2⟩
theorem RowP.push {R : List Value} {n : Nat} {l : List Int} (h : RowP R n l) (hl : l.length < 20) (y : Int) : RowP (R.set (1 + l.length) (.int .u64 y)) n (l ++ [y]) := by
  obtain ⟨h1, h2, h4, h5⟩ := h
  refine ⟨by simp [h1], by rw [List.getElem?_set_ne (by omega)]; exact h2, fun j x hj => ?_, fun v hv => ?_⟩
  · by_cases hjl : j = l.length
    · subst hjl
      rw [List.getElem?_append_right (Nat.le_refl _)] at hj
      simp at hj
      subst hj
      rw [Nat.add_comm, List.getElem?_set_self (by omega)]
    · have hjx : j < l.length := by
        have := (List.getElem?_eq_some_iff.1 hj).1
        simp at this
        omega
      rw [List.getElem?_append_left hjx] at hj
      rw [List.getElem?_set_ne (by omega)]
      exact h4 j x hj
  · rcases List.mem_or_eq_of_mem_set hv with hv | rfl
    · exact h5 v hv
    · rfl
def firstRow (n : Int) : List Value := .int .i64 n :: List.replicate 20 (.int .u64 0)
theorem firstRow_is (n : Nat) : RowP (firstRow n) n [] := by
  refine ⟨by simp [firstRow], rfl, fun j x hj => by simp at hj, fun v hv => ?_⟩
  unfold firstRow at hv
  simp at hv
  rcases hv with rfl | rfl <;> rfl
theorem two_rows (w : World) (t : TypeId) :
    RowAt ((w.alloc (.cells zeroRow.toArray t)).alloc (.cells zeroRow.toArray t)) w.heap.size zeroRow ∧ RowAt ((w.alloc (.cells zeroRow.toArray t)).alloc (.cells zeroRow.toArray t)) (w.heap.size + 1) zeroRow := by
  refine ⟨(RowAt.new w zeroRow t).ext ((Ext.refl _).alloc _), ?_⟩
  have h := RowAt.new (w.alloc (.cells zeroRow.toArray t)) zeroRow t
  rw [show (w.alloc (.cells zeroRow.toArray t)).heap.size = w.heap.size + 1 from by simp] at h
  exact h
theorem first_stored (w : World) (n : Int) (t : TypeId) (W : World) (hW : ((w.alloc (.cells zeroRow.toArray t)).alloc (.cells zeroRow.toArray t)).setCells (w.heap.size + 1) 0 (firstRow n) = W) :
    RowAt W w.heap.size zeroRow ∧ RowAt W (w.heap.size + 1) (firstRow n) ∧ Ext w W := by
  obtain ⟨h1, h2⟩ := two_rows w t
  rw [← hW]
  exact ⟨h1.storedOther (by omega), h2.stored (by simp [zeroRow, firstRow]), ext_setCells _ (by omega) _ _ _ (((Ext.refl _).alloc _).alloc _)⟩
/-- How the rows lie in a round: k leaves are in. -/
def Lv (w : World) (zs : List Zn) (k : Nat) (wr : World) : Prop :=
  ∃ R', RowP R' zs.length ((zs.take k).map Sm.leaf) ∧ RowAt wr (w.heap.size + 1) R' ∧ RowAt wr w.heap.size zeroRow ∧ Ext w wr
theorem field_val (c d : Int) (w : World) : (Instr.field 35 (.agg #[.int .i64 c, .int .i64 d]) 1).run Tryz.prog w = .ok (.int .i64 d) w := by kernel_rfl
theorem firstInfo (n : Int) : (Tryz.prog.info? 50).map (·.size) = some (firstRow n).toArray.size := by rw [rowInfo]; simp [firstRow]
theorem first_one (n : Int) : (firstRow n).toArray.all (·.oneCell') = true := all_oneCell_toArray (fun v hv => by
  unfold firstRow at hv
  simp at hv
  rcases hv with rfl | rfl <;> rfl)
theorem first_there (w : World) (n : Int) (t : TypeId) : ((w.alloc (.cells zeroRow.toArray t)).alloc (.cells zeroRow.toArray t)).there (w.heap.size + 1) 0 (firstRow n).toArray.size := by
  have h := (two_rows w t).2.there
  simpa [zeroRow, firstRow] using h

set_option maxHeartbeats 2000000 in
set_option maxRecDepth 100000 in
theorem leavesOf_any (v : Value) (zs : List Zn) (w : World) (hg : Gd w) (hS : NSlice w v zs) (h20 : zs.length ≤ 20) (hz : ∀ z ∈ zs, Sm.nodeC z = 0) :
    Calls Tryz.prog 18 #[v] w fun e w' => ∃ R : List Value, e = .returned (.agg R.toArray) ∧ RowV R (zs.map Sm.leaf) ∧ Ext w w' := by
  have HL : Hid (∀ (z : Zn) (wx : World), z ∈ zs → Ext w wx → Calls Tryz.prog 12 #[zagg z] wx fun e w' => e = .returned (ir (0, Sm.leaf z)) ∧ Ext wx w') := fun z wx h he => by
    have h2 := implLeafSum_any z wx (hg.ext he)
    rw [leafV_ok (hz z h)] at h2
    exact h2
  obtain ⟨a, cap, rfl, hlc, hcm, hx⟩ := hS
  have HX : Hid (0 < zs.length → ∃ b off, a = some ⟨b, off, none⟩ ∧ b < w.heap.size ∧ NodesAt w b off zs) := hx
  clear hx hg hz
  unfold maxLen at hcm
  have HI := firstInfo (zs.length : Int)
  have HO := first_one (zs.length : Int)
  have HT : Hid (((w.alloc (.cells zeroRow.toArray 50)).alloc (.cells zeroRow.toArray 50)).there (w.heap.size + 1) 0 (firstRow (zs.length : Int)).toArray.size) := first_there w (zs.length : Int) 50
  go_enter Tryz.func18, Tryz.ntmps18
  go_wp2_with (refine wpList_store_mid rfl 50 (.tmp 3) (.tmp 8) rfl (w.heap.size + 1) 0 (firstRow (zs.length : Int)).toArray rfl rfl HT.out HI HO ?_; generalize hW : World.setCells _ _ _ _ = W; have HW : Hid _ := first_stored w (zs.length : Int) 50 W hW; clear hW)
  clear HI HO HT
  go_loopw [11] (fun i wr => ∃ (k : Nat), k ≤ zs.length ∧ i = .int .i64 (k : Nat) ∧ Hid (Lv w zs k wr)) (fun i _ => zs.length - (intOf i).toNat)
  case atStart => exact ⟨0, by omega, rfl, ⟨firstRow zs.length, firstRow_is _, HW.out.2.1, HW.out.1, HW.out.2.2⟩⟩
  case round =>
    obtain ⟨k, hk, rfl, HU⟩ := hrel
    obtain ⟨R', hP, hA1, hA0, hE⟩ := HU.out
    by_cases hlt : k < zs.length
    · obtain ⟨z, hzk⟩ : ∃ z, zs[k]? = some z := ⟨_, List.getElem?_eq_getElem hlt⟩
      obtain ⟨b, off, rfl, hb, hN⟩ := HX.out (by omega)
      obtain ⟨d0, d1, d2, d3, d4⟩ := hN.ext hb hE k z hzk
      have hbr : b < wr.heap.size := Nat.lt_of_lt_of_le hb hE.size
      have hal := alloc_cell
      have HLz : Hid (∀ wx : World, Ext w wx → Calls Tryz.prog 12 #[zagg z] wx fun e w' => e = .returned (ir (0, Sm.leaf z)) ∧ Ext wx w') := fun wx he => HL.out z wx (List.mem_of_getElem? hzk) he
      have HZ : Hid ((zs.take (k + 1)).map Sm.leaf = (zs.take k).map Sm.leaf ++ [Sm.leaf z]) := by
        show _ = _
        obtain ⟨hkl, rfl⟩ := List.getElem?_eq_some_iff.1 hzk
        rw [List.take_succ_eq_append_getElem hkl, List.map_append]; rfl
      obtain ⟨ht0, ht1⟩ := Sm.sum_is (Sm.lf z z.path.size)
      have ht0' : 0 ≤ Sm.leaf z := ht0
      have ht1' : Sm.leaf z ≤ 1000002 := ht1
      clear ht0 ht1
      have HV : Hid (RowP R' zs.length ((zs.take k).map Sm.leaf) ∧ RowAt wr (w.heap.size + 1) R' ∧ RowAt wr w.heap.size zeroRow ∧ Ext w wr) := ⟨hP, hA1, hA0, hE⟩
      generalize Sm.leaf z = t at *
      unfold ir zagg at HLz
      have i1 : (0 : Int) ≤ (k : Int) := by omega
      have i2 : (k : Int) < 20 := by omega
      clear hP hA1 hA0 hE hN hzk hb
      go_wp2_with fail
      refine (HLz.out _ (HV.out.2.2.2.alloc _)).mono ?_
      rintro e w5 ⟨rfl, hb5⟩
      have HR5 : Hid (RowAt w5 (w.heap.size + 1) R' ∧ RowAt w5 w.heap.size zeroRow ∧ Ext w w5) := ⟨(HV.out.2.1.ext ((Ext.refl _).alloc _)).ext hb5, (HV.out.2.2.1.ext ((Ext.refl _).alloc _)).ext hb5, (HV.out.2.2.2.alloc _).trans hb5⟩
      clear hb5 d0 d1 d2 d3 d4 hal hbr
      have hR21 : R'.length = 21 := HV.out.1.1
      obtain ⟨c3, f3⟩ := HR5.out.1.cell (List.getElem?_eq_getElem (show 1 + k < R'.length by omega))
      have hfv := field_val
      have wt : IntKind.u64.wrap t = t := by rw [IntKind.wrap_u64]; omega
      have HU4 : Hid (Lv w zs (k + 1) (w5.setCell ⟨w.heap.size + 1, 1 + k, none⟩ (.int .u64 t))) := by
        obtain ⟨h1, h2, h3⟩ := HR5.out
        refine ⟨R'.set (1 + k) (.int .u64 t), ?_, h1.set _ (by omega), h2.other _ _ _ (by omega), h3.setCell (p := ⟨w.heap.size + 1, 1 + k, none⟩) (by show w.heap.size ≤ w.heap.size + 1; omega) _⟩
        rw [HZ.out]
        have hlen : ((zs.take k).map Sm.leaf).length = k := by simp; omega
        have h := HV.out.1.push (by rw [hlen]; omega) t
        rw [hlen] at h
        exact h
      go_wp2
      exact ⟨⟨k + 1, by omega, by go_num, HU4.out⟩, by simp [intOf]; omega⟩
    · have hk0 : k = zs.length := by omega
      have hR'21 : R'.length = 21 := hP.1
      have HF : Hid (RowV R' (zs.map Sm.leaf)) := by
        subst hk0
        rw [List.take_length] at hP
        exact RowP.full (l := zs.map Sm.leaf) (by rw [List.length_map]; exact hP) (by simpa using h20)
      have HV : Hid (RowAt wr (w.heap.size + 1) R' ∧ RowAt wr w.heap.size zeroRow ∧ Ext w wr) := ⟨hA1, hA0, hE⟩
      have hi22 : (Tryz.prog.info? 50).map (·.size) = some R'.length := by rw [hR'21]; exact rowInfo
      have hi22' : (Tryz.prog.info? 50).map (·.size) = some R'.toArray.size := by simpa using hi22
      have h2c : R'.toArray.all (·.oneCell') = true := all_oneCell_toArray hP.2.2.2
      clear hP hA1 hA0 hE
      go_wp2_with (first | (refine wpList_load_mid rfl 50 (.tmp 3) rfl (w.heap.size + 1) 0 rfl R' _ HV.out.1.2.1 Tryz.underlying50 rfl hi22 ?_) | (refine wpList_store_mid rfl 50 (.tmp 2) (.tmp 24) rfl w.heap.size 0 R'.toArray rfl rfl (by have h := HV.out.2.1.there; simpa [zeroRow, hR'21] using h) hi22' h2c ?_))
      refine bodyPost_ret (v := .agg R'.toArray) (results_row Tryz.results18 _ _ w.heap.size R' rfl ?_ hR'21) rfl ⟨R', rfl, HF.out, ext_setCells _ (by omega) _ _ _ HV.out.2.2⟩
      exact World.rangeAt_setCells_same wr w.heap.size 0 R' (by have h := HV.out.2.1.there; simpa [zeroRow, hR'21] using h)
end Go.Proofs.YtilinjjimiiplaaGreatDoor
