/- the sum of a node: the specification's l3Node, l3Leaf, LeafSum, l3Pair: what they answer. -/
import Derived.Test.YtilinjjimiiplaaGreatDoorKqT2
import Derived.Test.YtilinjjimiiplaaGreatDoorKqJ22
import Derived.Below
import Derived.OwnWalk
import Derived.Laws.OwnMore
namespace Go.Proofs.YtilinjjimiiplaaGreatDoor
open Go.RowKit
/-- The numbers of a node, up to the k-th byte of its path. -/
def Sm.lf (z : Zn) (k : Nat) : List Int := [0, z.data, z.version, z.owner, z.next] ++ (z.path.data.toList.take k).map (fun c => (c.toNat : Int))
def Sm.leaf (z : Zn) : Int := Sm.sum (Sm.lf z z.path.size)
def Sm.nodeC (z : Zn) : Int := if Pth.faultI z.path.data.toList ≠ 0 then Pth.faultI z.path.data.toList else if Tre.okNums z = false then 3 else 0
def Sm.leafV (z : Zn) : Int × Int := if Sm.nodeC z ≠ 0 then (Sm.nodeC z, 0) else (0, Sm.leaf z)
theorem Sm.lf_len {z : Zn} {k : Nat} (h : k ≤ z.path.size) : (Sm.lf z k).length = 5 + k := by
  unfold Sm.lf
  have := len_eq z.path
  simp
  omega
theorem Sm.lf_succ {z : Zn} {k : Nat} (h : k < z.path.size) : Sm.lf z (k + 1) = Sm.lf z k ++ [(z.path[k].toNat : Int)] := by
  unfold Sm.lf
  rw [take_snoc z.path k h, List.map_append, ← List.append_assoc]
  rfl
theorem Sm.lf_ok {z : Zn} (k : Nat) (h : Tre.okNums z = true) : Sm.ok (Sm.lf z k) = true := by
  unfold Tre.okNums at h
  simp only [Bool.and_eq_true, decide_eq_true_eq] at h
  obtain ⟨⟨h1, h2⟩, ⟨h3, h4⟩, ⟨h5, h6⟩, h7, h8⟩ := h
  unfold Sm.ok
  rw [List.all_eq_true]
  intro x hx
  unfold Sm.lf at hx
  rw [List.mem_append] at hx
  rw [Sm.is_iff]
  rcases hx with hx | hx
  · simp only [List.mem_cons, List.not_mem_nil, or_false] at hx
    rcases hx with rfl | rfl | rfl | rfl | rfl <;> omega
  · obtain ⟨c, _, rfl⟩ := List.mem_map.1 hx
    have := c.toNat_lt
    omega
theorem Sm.nodeC_zero {z : Zn} (h : Sm.nodeC z = 0) : Pth.faultI z.path.data.toList = 0 ∧ Tre.okNums z = true := by
  unfold Sm.nodeC at h
  split at h
  · rename_i h1; exact absurd h h1
  · split at h
    · omega
    · rename_i h1 h2
      exact ⟨by simpa using h1, by simpa using h2⟩
theorem Sm.nodeC_path {z : Zn} {c : Int} (h : Pth.faultI z.path.data.toList = c) (hc : c ≠ 0) : Sm.nodeC z = c := by
  unfold Sm.nodeC; rw [h, if_pos hc]
theorem Sm.nodeC_nums {z : Zn} {b : Bool} (h : Pth.faultI z.path.data.toList = 0) (hb : Tre.okNums z = b) : Sm.nodeC z = if b = true then 0 else 3 := by
  unfold Sm.nodeC; rw [h, if_neg (by decide), hb]; cases b <;> rfl
theorem fault_short {l : List UInt8} (h : Pth.faultI l = 0) : l.length ≤ 24 := by
  rw [Pth.fault_eq] at h
  unfold Pth.faultS at h
  split at h
  · omega
  · rename_i hm
    unfold Pth.manyS at hm
    simp at hm
    omega
theorem leafV_bad {z : Zn} {c : Int} (h : Sm.nodeC z = c) (hc : c ≠ 0) : Sm.leafV z = (c, 0) := by unfold Sm.leafV; rw [h, if_pos hc]
theorem leafV_ok {z : Zn} (h : Sm.nodeC z = 0) : Sm.leafV z = (0, Sm.leaf z) := by unfold Sm.leafV; rw [h, if_neg (by decide)]

theorem nums_of_owns4 {w' : World} {base : Nat} {v : Value} {l : List Int} (h : w'.ownsRow base 2 1 v l.length (l.map (Value.int .i64))) : ISlice w' v l := by
  have hlt := h.lt
  rcases h.2 with ⟨hv, h0⟩ | ⟨g, cap, cur, hv, hb, hh, hn, hm, _⟩
  · exact ⟨none, 0, by rw [hv, h0], by omega, by unfold maxLen; omega, fun h => by omega⟩
  · refine ⟨some ⟨g, 0, none⟩, cap, hv, hn, hm, fun h0 => ⟨g, 0, rfl, (hlt g (by rw [hv]; rfl)).2, fun j x hj => ?_⟩⟩
    have := h.cells (g := g) (by rw [hv]; rfl) j (.int .i64 x) (by rw [List.getElem?_map, hj]; rfl)
    rw [Addr.add_lit] at this
    simpa using this
theorem wrap_byte (c : UInt8) : wrap64 (c.toNat : Int) = (c.toNat : Int) := by
  have := c.toNat_lt
  unfold wrap64
  omega
/-- The node z lies in block b, at o. -/
def ZAt (w : World) (b o : Nat) (z : Zn) : Prop :=
  b < w.heap.size ∧ w.cell? ⟨b, o, none⟩ = some (.string z.path) ∧ w.cell? ⟨b, o + 1, none⟩ = some (.int .i64 z.data) ∧ w.cell? ⟨b, o + 2, none⟩ = some (.int .i64 z.version) ∧ w.cell? ⟨b, o + 3, none⟩ = some (.int .i64 z.owner) ∧ w.cell? ⟨b, o + 4, none⟩ = some (.int .i64 z.next)
theorem ZAt.ext {w w' : World} {b o : Nat} {z : Zn} (h : ZAt w b o z) (he : Ext w w') : ZAt w' b o z := by
  obtain ⟨hb, c0, c1, c2, c3, c4⟩ := h
  obtain ⟨hc, _⟩ := Ext.cell he
  exact ⟨Nat.lt_of_lt_of_le hb he.size, (hc _ _ hb).trans c0, (hc _ _ hb).trans c1, (hc _ _ hb).trans c2, (hc _ _ hb).trans c3, (hc _ _ hb).trans c4⟩
theorem ZAt.new (w : World) (z : Zn) (t : TypeId) : ZAt (w.alloc (.cells #[.string z.path, .int .i64 z.data, .int .i64 z.version, .int .i64 z.owner, .int .i64 z.next] t)) w.heap.size 0 z := ⟨by simp, by simp, by simp, by simp, by simp, by simp⟩

set_option maxHeartbeats 1000000 in
theorem l3Pair_any (x y : Int) (w : World) (hx : Sm.is x = true) (hy : Sm.is y = true) : Calls Tryz.prog 40 #[.int .i64 x, .int .i64 y] w fun e w' => e = .returned (.int .i64 (Sm.sum [1, x, y])) ∧ Ext w w' := by
  have HI : Hid (∀ (v : Value) (w : World), ISlice w v [1, x, y] → Calls Tryz.prog 48 #[v] w fun e w' => e = .returned (.int .i64 (Sm.sum [1, x, y])) ∧ w' = w) := by
    intro v w h
    exact l3Sum_any v _ w h (by simp) (by simp [Sm.ok, hx, hy]; decide)
  have HL : Hid (∀ (w : World) (t : TypeId) (g : Nat), g = w.heap.size → ISlice (w.alloc (.cells #[.int .i64 1, .int .i64 x, .int .i64 y] t)) (.slice (some ⟨g, 0, none⟩) 3 3) [1, x, y]) := fun w t g hg => three_lie w x y t g hg
  generalize Sm.sum [1, x, y] = r at *
  go_enter Tryz.func40, Tryz.ntmps40
  go_wp2_with fail
  refine (HI.out _ _ (HL.out _ _ _ (by simp))).mono ?_
  rintro e w2 ⟨rfl, hw⟩
  have HB : Hid (Ext w w2) := by rw [hw]; exact (Ext.refl _).alloc _
  clear hw
  go_wp2
  go_ret
  exact ⟨rfl, HB.out⟩

set_option maxHeartbeats 2000000 in
set_option maxRecDepth 100000 in
theorem l3Leaf_any (b o : Nat) (z : Zn) (w : World) (hZ : ZAt w b o z) (hs : z.path.size ≤ 24) (hn : Tre.okNums z = true) :
    Calls Tryz.prog 22 #[.pointer (some ⟨b, o, none⟩)] w fun e w' => e = .returned (.int .i64 (Sm.leaf z)) ∧ Ext w w' := by
  have hi9 : (Tryz.prog.info? 2).map (fun i => (i.zero, i.size, i.bytes)) = some (some (.int .i64 0), 1, 8) := by kernel_rfl
  obtain ⟨i0, hi, hx⟩ := Option.map_eq_some_iff.1 hi9
  simp only [Prod.mk.injEq] at hx
  obtain ⟨hz0, hz1, hz2⟩ := hx
  clear hi9
  have HZ : Hid (ZAt w b o z) := hZ
  have HN : Hid (Tre.okNums z = true) := hn
  obtain ⟨hb, d0, d1, d2, d3, d4⟩ := hZ
  clear hn
  obtain ⟨r, hr⟩ : ∃ r, r = Sm.leaf z := ⟨_, rfl⟩
  rw [← hr]
  have HR : Hid (r = Sm.leaf z) := hr
  clear hr
  go_enter Tryz.func22, Tryz.ntmps22
  go_wp2
  go_region
  go_wp2
  go_loopw [3, 4] (fun lv i wr => ∃ (k : Nat), k ≤ z.path.size ∧ i = .int .i64 k ∧ Hid (wr.ownsRow w.heap.size 2 1 lv (5 + k) ((Sm.lf z k).map (Value.int .i64))) ∧ Hid (Ext w wr)) (fun _ i _ => z.path.size - (intOf i).toNat)
  case atStart =>
    refine ⟨0, Nat.zero_le _, rfl, ?_, (Ext.refl _).drew.alloc _⟩
    exact World.ownsRow_lit w.drew #[.int .i64 0, .int .i64 z.data, .int .i64 z.version, .int .i64 z.owner, .int .i64 z.next] 5 (Nat.le_refl _) (by unfold maxLen; omega) rfl
  case round =>
    obtain ⟨k, hk, rfl, HO, HE⟩ := hrel
    clear d0 d1 d2 d3 d4
    obtain ⟨hbr, d0, d1, d2, d3, d4⟩ := HZ.out.ext HE.out
    by_cases hlt : k < z.path.size
    · go_wp2_with (at_builtin; go_must (refine wpList_append_own _ rfl _ _ 56 rfl w.heap.size 2 i0 (.int .i64 0) 1 8 Tryz.underlying56 hi hz0 hz1 hz2 rfl (by decide) _ _ _ rfl (HO.out.alloc _) ⟨wr.heap.size, 0, none⟩ 1 1 [.int .i64 (wrap64 (z.path[k].toNat : Int))] rfl rfl (cell_one_new _ _ _) (fun x hx => by simp at hx; subst hx; rfl) (by unfold maxLen; omega) (by omega) (by have := HE.out.size; simp; omega) ?_; intro v' w3 hown' hgrow3 hnil3))
      refine ⟨⟨k + 1, by omega, by go_num, ?_, (HE.out.alloc _).grown hgrow3 (by have := HE.out.size; simp; omega) (fun q hq => (HO.out.lt q hq).1)⟩, by simp [intOf]; omega⟩
      show w3.ownsRow _ _ _ _ _ _
      rw [Sm.lf_succ hlt, List.map_append]
      rw [wrap_byte] at hown'
      exact hown'
    · have hke : k = z.path.size := by omega
      subst hke
      have HL : Hid (Calls Tryz.prog 48 #[u3] wr fun e w' => e = .returned (.int .i64 r) ∧ w' = wr) := by
        rw [HR.out]
        refine l3Sum_any u3 _ wr (nums_of_owns4 (base := w.heap.size) ?_) (by rw [Sm.lf_len (Nat.le_refl _)]; omega) (Sm.lf_ok _ HN.out)
        rw [Sm.lf_len (Nat.le_refl _)]
        exact HO.out
      go_wp2_with fail
      refine HL.out.mono ?_
      rintro e w2 ⟨rfl, hw⟩
      have HB : Hid (Ext w w2) := by rw [hw]; exact HE.out
      clear hw
      go_wp2
      go_ret
      exact ⟨rfl, HB.out⟩

set_option maxHeartbeats 2000000 in
set_option maxRecDepth 100000 in
theorem l3Node_any (b o : Nat) (z : Zn) (w : World) (hZ : ZAt w b o z) :
    Calls Tryz.prog 38 #[.pointer (some ⟨b, o, none⟩)] w fun e w' => e = .returned (.int .i64 (Sm.nodeC z)) ∧ Ext w w' := by
  have HZ : Hid (ZAt w b o z) := hZ
  obtain ⟨hb, d0, d1, d2, d3, d4⟩ := hZ
  have hf := l1FaultI_any z.path w
  by_cases hc0 : Pth.faultI z.path.data.toList ≠ 0
  · rw [Sm.nodeC_path rfl hc0]
    generalize Pth.faultI z.path.data.toList = c at *
    go_enter Tryz.func38, Tryz.ntmps38
    go_wp2_with fail
    refine hf.mono ?_
    rintro e w2 ⟨rfl, hb2⟩
    have HE2 : Hid (Ext w w2) := hb2
    clear hf hb2
    go_wp2
    go_ret
    exact ⟨rfl, HE2.out⟩
  · have hc1 : Pth.faultI z.path.data.toList = 0 := by omega
    rw [hc1] at hf
    have C1 : Hid (∀ wx, Calls Tryz.prog 64 #[.int .i64 z.data] wx fun e w' => e = .returned (.bool (decide (0 ≤ z.data) && decide (z.data ≤ 9999))) ∧ w' = wx) := l2Data_any z.data
    have C2 : Hid (∀ wx, Calls Tryz.prog 65 #[.int .i64 z.version, .int .i64 0, .int .i64 999] wx fun e w' => e = .returned (.bool (decide (0 ≤ z.version) && decide (z.version ≤ 999))) ∧ w' = wx) := l1In_any z.version 0 999
    have C3 : Hid (∀ wx, Calls Tryz.prog 66 #[.int .i64 z.owner] wx fun e w' => e = .returned (.bool (decide (0 ≤ z.owner) && decide (z.owner ≤ 9))) ∧ w' = wx) := l2Owner_any z.owner
    have C4 : Hid (∀ wx, Calls Tryz.prog 65 #[.int .i64 z.next, .int .i64 0, .int .i64 100] wx fun e w' => e = .returned (.bool (decide (0 ≤ z.next) && decide (z.next ≤ 100))) ∧ w' = wx) := l1In_any z.next 0 100
    have HO : ∀ b1 b2 b3 b4 : Bool, (decide (0 ≤ z.data) && decide (z.data ≤ 9999)) = b1 → (decide (0 ≤ z.version) && decide (z.version ≤ 999)) = b2 → (decide (0 ≤ z.owner) && decide (z.owner ≤ 9)) = b3 → (decide (0 ≤ z.next) && decide (z.next ≤ 100)) = b4 → Sm.nodeC z = if (b1 && (b2 && (b3 && b4))) = true then 0 else 3 := by
      rintro b1 b2 b3 b4 rfl rfl rfl rfl
      exact Sm.nodeC_nums hc1 rfl
    clear hc0 hc1
    cases hb1 : (decide (0 ≤ z.data) && decide (z.data ≤ 9999)) with
    | false =>
      rw [hb1] at C1
      have hv := HO false _ _ _ hb1 rfl rfl rfl
      simp at hv
      rw [hv]
      clear HO hv hb1
      go_enter Tryz.func38, Tryz.ntmps38
      go_wp2_with fail
      refine hf.mono ?_
      rintro e w2 ⟨rfl, hb2⟩
      have HE2 : Hid (Ext w w2) := hb2
      clear hf hb2 d0 d1 d2 d3 d4
      obtain ⟨hbr, d0, d1, d2, d3, d4⟩ := HZ.out.ext HE2.out
      go_wp2_with fail
      refine (C1.out _).mono ?_
      rintro e w3 ⟨rfl, rfl⟩
      go_wp2
      go_ret
      exact ⟨rfl, HE2.out⟩
    | true =>
    rw [hb1] at C1
    cases hb2 : (decide (0 ≤ z.version) && decide (z.version ≤ 999)) with
    | false =>
      rw [hb2] at C2
      have hv := HO true false _ _ hb1 hb2 rfl rfl
      simp at hv
      rw [hv]
      clear HO hv hb1 hb2
      go_enter Tryz.func38, Tryz.ntmps38
      go_wp2_with fail
      refine hf.mono ?_
      rintro e w2 ⟨rfl, hb2⟩
      have HE2 : Hid (Ext w w2) := hb2
      clear hf hb2 d0 d1 d2 d3 d4
      obtain ⟨hbr, d0, d1, d2, d3, d4⟩ := HZ.out.ext HE2.out
      go_wp2_with fail
      refine (C1.out _).mono ?_
      rintro e w3 ⟨rfl, rfl⟩
      go_wp2_with fail
      refine (C2.out _).mono ?_
      rintro e w3 ⟨rfl, rfl⟩
      go_wp2
      go_ret
      exact ⟨rfl, HE2.out⟩
    | true =>
    rw [hb2] at C2
    cases hb3 : (decide (0 ≤ z.owner) && decide (z.owner ≤ 9)) with
    | false =>
      rw [hb3] at C3
      have hv := HO true true false _ hb1 hb2 hb3 rfl
      simp at hv
      rw [hv]
      clear HO hv hb1 hb2 hb3
      go_enter Tryz.func38, Tryz.ntmps38
      go_wp2_with fail
      refine hf.mono ?_
      rintro e w2 ⟨rfl, hb2⟩
      have HE2 : Hid (Ext w w2) := hb2
      clear hf hb2 d0 d1 d2 d3 d4
      obtain ⟨hbr, d0, d1, d2, d3, d4⟩ := HZ.out.ext HE2.out
      go_wp2_with fail
      refine (C1.out _).mono ?_
      rintro e w3 ⟨rfl, rfl⟩
      go_wp2_with fail
      refine (C2.out _).mono ?_
      rintro e w3 ⟨rfl, rfl⟩
      go_wp2_with fail
      refine (C3.out _).mono ?_
      rintro e w3 ⟨rfl, rfl⟩
      go_wp2
      go_ret
      exact ⟨rfl, HE2.out⟩
    | true =>
    rw [hb3] at C3
    cases hb4 : (decide (0 ≤ z.next) && decide (z.next ≤ 100)) with
    | false =>
      rw [hb4] at C4
      have hv := HO true true true false hb1 hb2 hb3 hb4
      simp at hv
      rw [hv]
      clear HO hv hb1 hb2 hb3 hb4
      go_enter Tryz.func38, Tryz.ntmps38
      go_wp2_with fail
      refine hf.mono ?_
      rintro e w2 ⟨rfl, hb2⟩
      have HE2 : Hid (Ext w w2) := hb2
      clear hf hb2 d0 d1 d2 d3 d4
      obtain ⟨hbr, d0, d1, d2, d3, d4⟩ := HZ.out.ext HE2.out
      go_wp2_with fail
      refine (C1.out _).mono ?_
      rintro e w3 ⟨rfl, rfl⟩
      go_wp2_with fail
      refine (C2.out _).mono ?_
      rintro e w3 ⟨rfl, rfl⟩
      go_wp2_with fail
      refine (C3.out _).mono ?_
      rintro e w3 ⟨rfl, rfl⟩
      go_wp2_with fail
      refine (C4.out _).mono ?_
      rintro e w3 ⟨rfl, rfl⟩
      go_wp2
      go_ret
      exact ⟨rfl, HE2.out⟩
    | true =>
    rw [hb4] at C4
    have hv := HO true true true true hb1 hb2 hb3 hb4
    simp at hv
    rw [hv]
    clear HO hv hb1 hb2 hb3 hb4
    go_enter Tryz.func38, Tryz.ntmps38
    go_wp2_with fail
    refine hf.mono ?_
    rintro e w2 ⟨rfl, hb2⟩
    have HE2 : Hid (Ext w w2) := hb2
    clear hf hb2 d0 d1 d2 d3 d4
    obtain ⟨hbr, d0, d1, d2, d3, d4⟩ := HZ.out.ext HE2.out
    go_wp2_with fail
    refine (C1.out _).mono ?_
    rintro e w3 ⟨rfl, rfl⟩
    go_wp2_with fail
    refine (C2.out _).mono ?_
    rintro e w3 ⟨rfl, rfl⟩
    go_wp2_with fail
    refine (C3.out _).mono ?_
    rintro e w3 ⟨rfl, rfl⟩
    go_wp2_with fail
    refine (C4.out _).mono ?_
    rintro e w3 ⟨rfl, rfl⟩
    go_wp2
    go_ret
    exact ⟨rfl, HE2.out⟩

theorem two_boxes (w : World) (z : Zn) (t t' : TypeId) : ZAt ((w.alloc (.cells #[.string z.path, .int .i64 z.data, .int .i64 z.version, .int .i64 z.owner, .int .i64 z.next] t)).alloc (.cells #[.int .i64 0, .int .i64 0] t')) w.heap.size 0 z ∧ IBox ((w.alloc (.cells #[.string z.path, .int .i64 z.data, .int .i64 z.version, .int .i64 z.owner, .int .i64 z.next] t)).alloc (.cells #[.int .i64 0, .int .i64 0] t')) (w.heap.size + 1) := by
  refine ⟨(ZAt.new w z t).ext ((Ext.refl _).alloc _), ?_⟩
  have h := IBox.new (w.alloc (.cells #[.string z.path, .int .i64 z.data, .int .i64 z.version, .int .i64 z.owner, .int .i64 z.next] t)) t'
  rw [show (w.alloc (.cells #[.string z.path, .int .i64 z.data, .int .i64 z.version, .int .i64 z.owner, .int .i64 z.next] t)).heap.size = w.heap.size + 1 from by simp] at h
  exact h
theorem Ext.two1 {w w2 : World} (h : Ext w w2) (a b : Value) : Ext w ((w2.setCell ⟨w.heap.size + 1, 0, none⟩ a).setCell ⟨w.heap.size + 1, 1, none⟩ b) :=
  (h.setCell (p := ⟨w.heap.size + 1, 0, none⟩) (Nat.le_succ _) a).setCell (p := ⟨w.heap.size + 1, 1, none⟩) (Nat.le_succ _) b

end Go.Proofs.YtilinjjimiiplaaGreatDoor
