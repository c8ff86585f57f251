/- V4, V5, V8, LSumOf, V9, V10, V11, V12, N6, LRootIn, in one text. -/
import Derived.Test.YtdjnkchaapcjpaaGreatDoorT2
import Derived.Test.YtdjnkchaapcjpaaGreatDoorV2
import Derived.Below
import Derived.OwnWalk
import Derived.Laws.OwnMore
import Derived.Test.YtdjnkchaapcjpaaGreatDoorW4
import Derived.Test.YtdjnkchaapcjpaaGreatDoorI3
import Derived.Lib.ConvBytes
import Derived.Maps.AppendAt
import Derived.Deep.MidRow
import Derived.Deep.RegionHeld3
import Derived.Test.YtdjnkchaapcjpaaGreatDoorI5
import Derived.Test.YtdjnkchaapcjpaaGreatDoorN4
import Derived.Test.YtdjnkchaapcjpaaGreatDoorN5
/- the sum of a node: the specification's l3Node, l3Leaf, LeafSum, l3Pair: what they answer. -/
namespace Go.Proofs.YtdjnkchaapcjpaaGreatDoor
open Go.RowKit

/-- The numbers of a node, up to the k-th byte of its path. -/
def Sm.lf (z : Zn) (k : Nat) : List Int := [0, z.data, z.version, z.owner, z.next] ++ (z.path.data.toList.take k).map (fun c => (c.toNat : Int))
def Sm.leaf (z : Zn) : Int := Sm.sum (Sm.lf z z.path.size)
def Sm.nodeC (z : Zn) : Int := if Pth.faultI z.path.data.toList ≠ 0 then Pth.faultI z.path.data.toList else if Tre.okNums z = false then 3 else 0
def Sm.leafV (z : Zn) : Int × Int := if Sm.nodeC z ≠ 0 then (Sm.nodeC z, 0) else (0, Sm.leaf z)
theorem Sm.lf_len {z : Zn} {k : Nat} (h : k ≤ z.path.size) : (Sm.lf z k).length = 5 + k := by
  unfold Sm.lf
  have := len_eq z.path
  simp
  omega
theorem Sm.lf_succ {z : Zn} {k : Nat} (h : k < z.path.size) : Sm.lf z (k + 1) = Sm.lf z k ++ [(z.path[k].toNat : Int)] := by
  unfold Sm.lf
  rw [take_snoc z.path k h, List.map_append, ← List.append_assoc]
  rfl
theorem Sm.lf_ok {z : Zn} (k : Nat) (h : Tre.okNums z = true) : Sm.ok (Sm.lf z k) = true := by
  unfold Tre.okNums at h
  simp only [Bool.and_eq_true, decide_eq_true_eq] at h
  obtain ⟨⟨h1, h2⟩, ⟨h3, h4⟩, ⟨h5, h6⟩, h7, h8⟩ := h
  unfold Sm.ok
  rw [List.all_eq_true]
  intro x hx
  unfold Sm.lf at hx
  rw [List.mem_append] at hx
  rw [Sm.is_iff]
  rcases hx with hx | hx
  · simp only [List.mem_cons, List.not_mem_nil, or_false] at hx
    rcases hx with rfl | rfl | rfl | rfl | rfl <;> omega
  · obtain ⟨c, _, rfl⟩ := List.mem_map.1 hx
    have := c.toNat_lt
    omega
theorem Sm.nodeC_zero {z : Zn} (h : Sm.nodeC z = 0) : Pth.faultI z.path.data.toList = 0 ∧ Tre.okNums z = true := by
  unfold Sm.nodeC at h
  split at h
  · rename_i h1; exact absurd h h1
  · split at h
    · omega
    · rename_i h1 h2
      exact ⟨by simpa using h1, by simpa using h2⟩
theorem Sm.nodeC_path {z : Zn} {c : Int} (h : Pth.faultI z.path.data.toList = c) (hc : c ≠ 0) : Sm.nodeC z = c := by
  unfold Sm.nodeC; rw [h, if_pos hc]
theorem Sm.nodeC_nums {z : Zn} {b : Bool} (h : Pth.faultI z.path.data.toList = 0) (hb : Tre.okNums z = b) : Sm.nodeC z = if b = true then 0 else 3 := by
  unfold Sm.nodeC; rw [h, if_neg (by decide), hb]; cases b <;> rfl
theorem fault_short {l : List UInt8} (h : Pth.faultI l = 0) : l.length ≤ 24 := by
  rw [Pth.fault_eq] at h
  unfold Pth.faultS at h
  split at h
  · omega
  · rename_i hm
    unfold Pth.manyS at hm
    simp at hm
    omega
theorem leafV_bad {z : Zn} {c : Int} (h : Sm.nodeC z = c) (hc : c ≠ 0) : Sm.leafV z = (c, 0) := by unfold Sm.leafV; rw [h, if_pos hc]
theorem leafV_ok {z : Zn} (h : Sm.nodeC z = 0) : Sm.leafV z = (0, Sm.leaf z) := by unfold Sm.leafV; rw [h, if_neg (by decide)]

theorem nums_of_owns4 {w' : World} {base : Nat} {v : Value} {l : List Int} (h : w'.ownsRow base 2 1 v l.length (l.map (Value.int .i64))) : ISlice w' v l := by
  have hlt := h.lt
  rcases h.2 with ⟨hv, h0⟩ | ⟨g, cap, cur, hv, hb, hh, hn, hm, _⟩
  · exact ⟨none, 0, by rw [hv, h0], by omega, by unfold maxLen; omega, fun h => by omega⟩
  · refine ⟨some ⟨g, 0, none⟩, cap, hv, hn, hm, fun h0 => ⟨g, 0, rfl, (hlt g (by rw [hv]; rfl)).2, fun j x hj => ?_⟩⟩
    have := h.cells (g := g) (by rw [hv]; rfl) j (.int .i64 x) (by rw [List.getElem?_map, hj]; rfl)
    rw [Addr.add_lit] at this
    simpa using this
theorem wrap_byte (c : UInt8) : wrap64 (c.toNat : Int) = (c.toNat : Int) := by
  have := c.toNat_lt
  unfold wrap64
  omega
/-- The node z lies in block b, at o. -/
def ZAt (w : World) (b o : Nat) (z : Zn) : Prop :=
  b < w.heap.size ∧ w.cell? ⟨b, o, none⟩ = some (.string z.path) ∧ w.cell? ⟨b, o + 1, none⟩ = some (.int .i64 z.data) ∧ w.cell? ⟨b, o + 2, none⟩ = some (.int .i64 z.version) ∧ w.cell? ⟨b, o + 3, none⟩ = some (.int .i64 z.owner) ∧ w.cell? ⟨b, o + 4, none⟩ = some (.int .i64 z.next)
theorem ZAt.ext {w w' : World} {b o : Nat} {z : Zn} (h : ZAt w b o z) (he : Ext w w') : ZAt w' b o z := by
  obtain ⟨hb, c0, c1, c2, c3, c4⟩ := h
  obtain ⟨hc, _⟩ := Ext.cell he
  exact ⟨Nat.lt_of_lt_of_le hb he.size, (hc _ _ hb).trans c0, (hc _ _ hb).trans c1, (hc _ _ hb).trans c2, (hc _ _ hb).trans c3, (hc _ _ hb).trans c4⟩
theorem ZAt.new (w : World) (z : Zn) (t : TypeId) : ZAt (w.alloc (.cells #[.string z.path, .int .i64 z.data, .int .i64 z.version, .int .i64 z.owner, .int .i64 z.next] t)) w.heap.size 0 z := ⟨by simp, by simp, by simp, by simp, by simp, by simp⟩

set_option maxHeartbeats 1000000 in
theorem l3Pair_any (x y : Int) (w : World) (hx : Sm.is x = true) (hy : Sm.is y = true) : Calls Tryz.prog 168 #[.int .i64 x, .int .i64 y] w fun e w' => e = .returned (.int .i64 (Sm.sum [1, x, y])) ∧ Ext w w' := by
  have HI : Hid (∀ (v : Value) (w : World), ISlice w v [1, x, y] → Calls Tryz.prog 184 #[v] w fun e w' => e = .returned (.int .i64 (Sm.sum [1, x, y])) ∧ w' = w) := by
    intro v w h
    exact l3Sum_any v _ w h (by simp) (by simp [Sm.ok, hx, hy]; decide)
  have HL : Hid (∀ (w : World) (t : TypeId) (g : Nat), g = w.heap.size → ISlice (w.alloc (.cells #[.int .i64 1, .int .i64 x, .int .i64 y] t)) (.slice (some ⟨g, 0, none⟩) 3 3) [1, x, y]) := fun w t g hg => three_lie w x y t g hg
  generalize Sm.sum [1, x, y] = r at *
  go_enter Tryz.func168, Tryz.ntmps168
  go_wp2_with fail
  refine (HI.out _ _ (HL.out _ _ _ (by simp))).mono ?_
  rintro e w2 ⟨rfl, hw⟩
  have HB : Hid (Ext w w2) := by rw [hw]; exact (Ext.refl _).alloc _
  clear hw
  go_wp2
  go_ret
  exact ⟨rfl, HB.out⟩

set_option maxHeartbeats 2000000 in
set_option maxRecDepth 100000 in
theorem l3Leaf_any (b o : Nat) (z : Zn) (w : World) (hZ : ZAt w b o z) (hs : z.path.size ≤ 24) (hn : Tre.okNums z = true) :
    Calls Tryz.prog 167 #[.pointer (some ⟨b, o, none⟩)] w fun e w' => e = .returned (.int .i64 (Sm.leaf z)) ∧ Ext w w' := by
  have hi9 : (Tryz.prog.info? 2).map (fun i => (i.zero, i.size, i.bytes)) = some (some (.int .i64 0), 1, 8) := by kernel_rfl
  obtain ⟨i0, hi, hx⟩ := Option.map_eq_some_iff.1 hi9
  simp only [Prod.mk.injEq] at hx
  obtain ⟨hz0, hz1, hz2⟩ := hx
  clear hi9
  have HZ : Hid (ZAt w b o z) := hZ
  have HN : Hid (Tre.okNums z = true) := hn
  obtain ⟨hb, d0, d1, d2, d3, d4⟩ := hZ
  clear hn
  obtain ⟨r, hr⟩ : ∃ r, r = Sm.leaf z := ⟨_, rfl⟩
  rw [← hr]
  have HR : Hid (r = Sm.leaf z) := hr
  clear hr
  go_enter Tryz.func167, Tryz.ntmps167
  go_wp2
  go_region
  go_wp2
  go_loopw [3, 4] (fun lv i wr => ∃ (k : Nat), k ≤ z.path.size ∧ i = .int .i64 k ∧ Hid (wr.ownsRow w.heap.size 2 1 lv (5 + k) ((Sm.lf z k).map (Value.int .i64))) ∧ Hid (Ext w wr)) (fun _ i _ => z.path.size - (intOf i).toNat)
  case atStart =>
    refine ⟨0, Nat.zero_le _, rfl, ?_, (Ext.refl _).drew.alloc _⟩
    exact World.ownsRow_lit w.drew #[.int .i64 0, .int .i64 z.data, .int .i64 z.version, .int .i64 z.owner, .int .i64 z.next] 5 (Nat.le_refl _) (by unfold maxLen; omega) rfl
  case round =>
    obtain ⟨k, hk, rfl, HO, HE⟩ := hrel
    clear d0 d1 d2 d3 d4
    obtain ⟨hbr, d0, d1, d2, d3, d4⟩ := HZ.out.ext HE.out
    by_cases hlt : k < z.path.size
    · go_wp2_with (at_builtin; go_must (refine wpList_append_own _ rfl _ _ 164 rfl w.heap.size 2 i0 (.int .i64 0) 1 8 Tryz.underlying164 hi hz0 hz1 hz2 rfl (by decide) _ _ _ rfl (HO.out.alloc _) ⟨wr.heap.size, 0, none⟩ 1 1 [.int .i64 (wrap64 (z.path[k].toNat : Int))] rfl rfl (cell_one_new _ _ _) (fun x hx => by simp at hx; subst hx; rfl) (by unfold maxLen; omega) (by omega) (by have := HE.out.size; simp; omega) ?_; intro v' w3 hown' hgrow3 hnil3))
      refine ⟨⟨k + 1, by omega, by go_num, ?_, (HE.out.alloc _).grown hgrow3 (by have := HE.out.size; simp; omega) (fun q hq => (HO.out.lt q hq).1)⟩, by simp [intOf]; omega⟩
      show w3.ownsRow _ _ _ _ _ _
      rw [Sm.lf_succ hlt, List.map_append]
      rw [wrap_byte] at hown'
      exact hown'
    · have hke : k = z.path.size := by omega
      subst hke
      have HL : Hid (Calls Tryz.prog 184 #[u3] wr fun e w' => e = .returned (.int .i64 r) ∧ w' = wr) := by
        rw [HR.out]
        refine l3Sum_any u3 _ wr (nums_of_owns4 (base := w.heap.size) ?_) (by rw [Sm.lf_len (Nat.le_refl _)]; omega) (Sm.lf_ok _ HN.out)
        rw [Sm.lf_len (Nat.le_refl _)]
        exact HO.out
      go_wp2_with fail
      refine HL.out.mono ?_
      rintro e w2 ⟨rfl, hw⟩
      have HB : Hid (Ext w w2) := by rw [hw]; exact HE.out
      clear hw
      go_wp2
      go_ret
      exact ⟨rfl, HB.out⟩

theorem two_boxes (w : World) (z : Zn) (t t' : TypeId) : ZAt ((w.alloc (.cells #[.string z.path, .int .i64 z.data, .int .i64 z.version, .int .i64 z.owner, .int .i64 z.next] t)).alloc (.cells #[.int .i64 0, .int .i64 0] t')) w.heap.size 0 z ∧ IBox ((w.alloc (.cells #[.string z.path, .int .i64 z.data, .int .i64 z.version, .int .i64 z.owner, .int .i64 z.next] t)).alloc (.cells #[.int .i64 0, .int .i64 0] t')) (w.heap.size + 1) := by
  refine ⟨(ZAt.new w z t).ext ((Ext.refl _).alloc _), ?_⟩
  have h := IBox.new (w.alloc (.cells #[.string z.path, .int .i64 z.data, .int .i64 z.version, .int .i64 z.owner, .int .i64 z.next] t)) t'
  rw [show (w.alloc (.cells #[.string z.path, .int .i64 z.data, .int .i64 z.version, .int .i64 z.owner, .int .i64 z.next] t)).heap.size = w.heap.size + 1 from by simp] at h
  exact h
theorem Ext.two1 {w w2 : World} (h : Ext w w2) (a b : Value) : Ext w ((w2.setCell ⟨w.heap.size + 1, 0, none⟩ a).setCell ⟨w.heap.size + 1, 1, none⟩ b) :=
  (h.setCell (p := ⟨w.heap.size + 1, 0, none⟩) (Nat.le_succ _) a).setCell (p := ⟨w.heap.size + 1, 1, none⟩) (Nat.le_succ _) b

end Go.Proofs.YtdjnkchaapcjpaaGreatDoor

/- the program's LeafSum. -/
namespace Go.Proofs.YtdjnkchaapcjpaaGreatDoor
open Go.RowKit

theorem ownsRow_ext {w w' : World} {base : Nat} {e : TypeId} {size : Nat} {v : Value} {n : Nat} {xs : List Value} (h : w.ownsRow base e size v n xs) (he : Ext w w') : w'.ownsRow base e size v n xs := by
  refine ⟨h.1, ?_⟩
  rcases h.2 with hn | ⟨g, cap, cur, rfl, hb, hgg, rest⟩
  · exact .inl hn
  · refine .inr ⟨g, cap, cur, rfl, hb, ?_, rest⟩
    have hk : g < w.heap.size := (Array.getElem?_eq_some_iff.1 hgg).1
    exact (he.block g hk).trans hgg
theorem IBox.below {w w2 : World} {r B : Nat} (h : IBox w r) (he : Below B w w2) (hr : r < B) : IBox w2 r := by
  obtain ⟨h1, h2, h3, h5, h6⟩ := h
  exact ⟨Nat.lt_of_lt_of_le h1 (Below.size he), (Below.cell he (p := ⟨r, 0, none⟩) hr).trans h2, (Below.cell he (p := ⟨r, 1, none⟩) hr).trans h3, (Below.frozen he (p := ⟨r, 0, none⟩) hr).trans h5, (Below.frozen he (p := ⟨r, 1, none⟩) hr).trans h6⟩
theorem conv_bytes (W : World) (s : ByteArray) (g : Nat) (hg : g = W.heap.size) : ∃ (cp : Nat) (W' : World), (convert 9 55 (.string s)).run Tryz.prog W = .ok (.slice (some ⟨g, 0, none⟩) s.size cp) W' ∧ Ext W W' ∧ W'.heap.size = g + 1 ∧ ∀ (j : Nat) (h : j < s.size), W'.cell? ⟨g, j, none⟩ = some (.int .u8 (s[j].toNat : Int)) := by
  subst hg
  refine ⟨_, _, Lib.run_convert_string_bytes W 9 55 5 s Tryz.underlying9 Tryz.underlying55 Tryz.underlying5, ⟨rfl, rfl, rfl, ?_, fun k hk => Lib.bytesWorld_at_old W _ s k hk⟩, Lib.bytesWorld_size W _ s, fun j h => ?_⟩
  · rw [Lib.bytesWorld_size]; omega
  · rw [Lib.bytesWorld_cell W _ s j h]
    rw [List.getD_eq_getElem?_getD, List.getElem?_eq_getElem (by simpa using h)]
    rfl

set_option maxHeartbeats 2000000 in
set_option maxRecDepth 100000 in
theorem implLeafSum_any (z : Zn) (w : World) (hg : Gd w) :
    Calls Tryz.prog 169 #[zagg z] w fun e w' => e = .returned (ir (Sm.leafV z)) ∧ Ext w w' := by
  have HP : Hid (∀ wx : World, Ext w wx → Calls Tryz.prog 77 #[.string z.path] wx fun e w' => e = .returned (.int .i64 (Pth.faultI z.path.data.toList)) ∧ Ext wx w') := fun wx h => pathFault_any z.path wx (hg.ext h)
  have HH : Hid (∀ (b : Nat) (wx : World), ZAt wx b 0 z → Calls Tryz.prog 166 #[.pointer (some ⟨b, 0, none⟩)] wx fun e w' => e = .returned (.bool (Tre.okNums z)) ∧ Ext wx w') := fun b wx h => hasBounds_any b 0 z wx h.2.2.1 h.2.2.2.1 h.2.2.2.2.1 h.2.2.2.2.2
  clear hg
  unfold zagg
  have hi9 : (Tryz.prog.info? 2).map (fun i => (i.zero, i.size, i.bytes)) = some (some (.int .i64 0), 1, 8) := by kernel_rfl
  obtain ⟨i0, hi, hx⟩ := Option.map_eq_some_iff.1 hi9
  simp only [Prod.mk.injEq] at hx
  obtain ⟨hz0, hz1, hz2⟩ := hx
  clear hi9
  by_cases hc0 : Pth.faultI z.path.data.toList ≠ 0
  · rw [leafV_bad (Sm.nodeC_path rfl hc0) hc0]
    generalize Pth.faultI z.path.data.toList = c at *
    clear hi hz0 hz1 hz2
    go_enter Tryz.func169, Tryz.ntmps169
    go_wp2_with fail
    refine (HP.out _ (((Ext.refl _).alloc _).alloc _)).mono ?_
    rintro e w2 ⟨rfl, hb⟩
    have HB : Hid (Ext w w2) := (((Ext.refl _).alloc _).alloc _).trans hb
    obtain ⟨q, q0, q1, f0, f1⟩ := (two_boxes w z _ _).2.ext hb
    clear hb
    go_wp2
    exact bodyPost_ret (v := ir (c, 0)) (by simp [results, Tryz.results169, go_sem, ir, q0, q1]) rfl ⟨rfl, HB.out.two1 _ _⟩
  · have hc1 : Pth.faultI z.path.data.toList = 0 := by omega
    rw [hc1] at HP
    cases hn : Tre.okNums z with
    | false =>
      rw [hn] at HH
      rw [leafV_bad (c := 3) (by rw [Sm.nodeC_nums hc1 hn]; rfl) (by decide)]
      clear hi hz0 hz1 hz2 hc0 hc1 hn
      go_enter Tryz.func169, Tryz.ntmps169
      go_wp2_with fail
      refine (HP.out _ (((Ext.refl _).alloc _).alloc _)).mono ?_
      rintro e w2 ⟨rfl, hb⟩
      have HB : Hid (Ext w w2) := (((Ext.refl _).alloc _).alloc _).trans hb
      have HZ2 : Hid (ZAt w2 w.heap.size 0 z) := (two_boxes w z _ _).1.ext hb
      have HQ2 : Hid (IBox w2 (w.heap.size + 1)) := (two_boxes w z _ _).2.ext hb
      clear hb
      go_wp2_with fail
      refine (HH.out _ _ HZ2.out).mono ?_
      rintro e w3 ⟨rfl, hb⟩
      have HB3 : Hid (Ext w w3) := HB.out.trans hb
      obtain ⟨q, q0, q1, f0, f1⟩ := HQ2.out.ext hb
      clear hb
      go_wp2
      exact bodyPost_ret (v := ir (3, 0)) (by simp [results, Tryz.results169, go_sem, ir, q0, q1]) rfl ⟨rfl, HB3.out.two1 _ _⟩
    | true =>
      rw [hn] at HH
      have hN0 : Sm.nodeC z = 0 := by rw [Sm.nodeC_nums hc1 hn]; rfl
      have hs : z.path.size ≤ 24 := by have := fault_short hc1; rw [len_eq] at this; exact this
      rw [leafV_ok hN0]
      have HI : Hid (∀ (v : Value) (wx : World), ISlice wx v (Sm.lf z z.path.size) → Calls Tryz.prog 185 #[v] wx fun e w' => e = .returned (ir (0, Sm.leaf z)) ∧ Ext wx w') := fun v wx h => by
        have h2 := implSumOf_any v _ wx h
        rw [Sm.sumV_ok (by rw [Sm.lf_len (Nat.le_refl _)]; omega) (Sm.lf_ok _ hn)] at h2
        exact h2
      clear hc0 hc1 hn hN0
      generalize Sm.leaf z = r at *
      go_enter Tryz.func169, Tryz.ntmps169
      go_wp2_with fail
      refine (HP.out _ (((Ext.refl _).alloc _).alloc _)).mono ?_
      rintro e w2 ⟨rfl, hb⟩
      have HB : Hid (Ext w w2) := (((Ext.refl _).alloc _).alloc _).trans hb
      have HZ2 : Hid (ZAt w2 w.heap.size 0 z) := (two_boxes w z _ _).1.ext hb
      have HQ2 : Hid (IBox w2 (w.heap.size + 1)) := (two_boxes w z _ _).2.ext hb
      clear hb
      go_wp2_with fail
      refine (HH.out _ _ HZ2.out).mono ?_
      rintro e w3 ⟨rfl, hb⟩
      have HB3 : Hid (Ext w w3) := HB.out.trans hb
      have HZ3 : Hid (ZAt w3 w.heap.size 0 z) := HZ2.out.ext hb
      have HQ3 : Hid (IBox w3 (w.heap.size + 1)) := HQ2.out.ext hb
      clear hb
      obtain ⟨hbr, d0, d1, d2, d3, d4⟩ := HZ3.out
      obtain ⟨cp, w4, hcv, hE4, hz4, hby⟩ := conv_bytes (w3.alloc (.cells #[.int .i64 0, .int .i64 z.data, .int .i64 z.version, .int .i64 z.owner, .int .i64 z.next] 2)) z.path (w3.heap.size + 1) (by simp)
      have HE4 : Hid (Ext w w4) := (HB3.out.alloc _).trans hE4
      have HQ4 : Hid (IBox w4 (w.heap.size + 1)) := (HQ3.out.ext ((Ext.refl _).alloc _)).ext hE4
      have HY4 : Hid (w4.heap.size = w3.heap.size + 2 ∧ ∀ (j : Nat) (h : j < z.path.size), w4.cell? ⟨w3.heap.size + 1, j, none⟩ = some (.int .u8 (z.path[j].toNat : Int))) := ⟨hz4, hby⟩
      have HO4 : Hid (w4.ownsRow w3.heap.size 2 1 (.slice (some ⟨w3.heap.size, 0, none⟩) 5 5) 5 ((Sm.lf z 0).map (Value.int .i64))) := by
        have h := World.ownsRow_lit (base := w3.heap.size) (e := 2) (size := 1) w3 #[.int .i64 0, .int .i64 z.data, .int .i64 z.version, .int .i64 z.owner, .int .i64 z.next] 5 (Nat.le_refl _) (by unfold maxLen; omega) rfl
        exact ownsRow_ext h hE4
      clear hE4 hz4 hby
      have hlt3 : w.heap.size + 1 < w3.heap.size := HQ3.out.1
      go_wp2
      go_loopw [4, 30] (fun lv i wr => ∃ (k : Nat), k ≤ z.path.size ∧ i = .int .i64 k ∧ Hid (wr.ownsRow w3.heap.size 2 1 lv (5 + k) ((Sm.lf z k).map (Value.int .i64)) ∧ lv.ownBlock ≠ some (w3.heap.size + 1)) ∧ Hid (w3.heap.size + 2 ≤ wr.heap.size ∧ ∀ (j : Nat) (h : j < z.path.size), wr.cell? ⟨w3.heap.size + 1, j, none⟩ = some (.int .u8 (z.path[j].toNat : Int))) ∧ Hid (Below w3.heap.size w4 wr)) (fun _ i _ => z.path.size - (intOf i).toNat)
      case atStart => exact ⟨0, Nat.zero_le _, rfl, ⟨HO4.out, by simp [Value.ownBlock]⟩, ⟨by rw [HY4.out.1]; exact Nat.le_refl _, HY4.out.2⟩, Below.refl _ _⟩
      case round =>
        obtain ⟨k, hk, rfl, HO, HY, HE⟩ := hrel
        by_cases hlt : k < z.path.size
        · have hyk := HY.out.2 k hlt
          go_wp2_with (at_builtin; go_must (refine wpList_append_own_at _ rfl _ _ 164 rfl w3.heap.size 2 i0 (.int .i64 0) 1 8 Tryz.underlying164 hi hz0 hz1 hz2 rfl (by decide) _ _ _ rfl (HO.out.1.alloc _) ⟨wr.heap.size, 0, none⟩ 1 1 [.int .i64 (wrap64 (z.path[k].toNat : Int))] rfl rfl (cell_one_new _ _ _) (fun x hx => by simp at hx; subst hx; rfl) (by unfold maxLen; omega) (by omega) (by have := HY.out.1; simp; omega) ?_; intro v' w5 hown' hgrow hnil hlies))
          have hB5 : Below w3.heap.size w4 w5 := (HE.out.alloc (by have := HY.out.1; omega) _).grown hgrow (by have := HY.out.1; simp; omega) (fun q hq => (HO.out.1.lt q hq).1)
          refine ⟨⟨k + 1, by omega, by go_num, ⟨?_, ?_⟩, ⟨?_, ?_⟩, hB5⟩, by simp [intOf]; omega⟩
          · rw [Sm.lf_succ hlt, List.map_append]
            rw [wrap_byte] at hown'
            exact hown'
          · rcases hlies with h | h
            · rw [h]; exact HO.out.2
            · rw [h]; have := HY.out.1; simp; omega
          · have := hgrow.size; have := HY.out.1; simp at *; omega
          · intro j hj
            refine hgrow.cell (a := ⟨w3.heap.size + 1, j, none⟩) ?_ (fun h => HO.out.2 h.symm)
            rw [alloc_cell _ _ _ _ (by have := HY.out.1; omega)]
            exact HY.out.2 j hj
        · have hke : k = z.path.size := by omega
          subst hke
          have hIS : ISlice wr u4 (Sm.lf z z.path.size) := by
            refine nums_of_owns4 (base := w3.heap.size) ?_
            rw [Sm.lf_len (Nat.le_refl _)]
            exact HO.out.1
          have HIS : Hid (ISlice wr u4 (Sm.lf z z.path.size)) := hIS
          clear hIS
          have HQr : Hid (IBox wr (w.heap.size + 1)) := HQ4.out.below HE.out hlt3
          have HEr : Hid (Ext w wr) := Below.trans HE4.out (Below.mono HE.out (by omega))
          unfold ir at HI
          go_wp2_with fail
          refine (HI.out _ _ HIS.out).mono ?_
          rintro e w6 ⟨rfl, hb⟩
          have HB6 : Hid (Ext w w6) := HEr.out.trans hb
          obtain ⟨q, q0, q1, f0, f1⟩ := HQr.out.ext hb
          clear hb
          go_wp2
          exact bodyPost_ret (v := ir (0, r)) (by simp [results, Tryz.results169, go_sem, ir, q0, q1]) rfl ⟨rfl, HB6.out.two1 _ _⟩
end Go.Proofs.YtdjnkchaapcjpaaGreatDoor

/- rows of sums: how they lie in memory; the program's above. -/
namespace Go.Proofs.YtdjnkchaapcjpaaGreatDoor
open Go.RowKit

/-- The cells of a row that holds the sums l. -/
def RowV (R : List Value) (l : List Int) : Prop :=
  R.length = 21 ∧ l.length ≤ 20 ∧ R[0]? = some (.int .i64 (l.length : Int)) ∧ (∀ j x, l[j]? = some x → R[j + 1]? = some (.int .u64 x)) ∧ ∀ v ∈ R, v.oneCell' = true
/-- The row R lies in block b, and may be written. -/
def RowAt (w : World) (b : Nat) (R : List Value) : Prop := b < w.heap.size ∧ w.rangeAt b 0 R ∧ ∀ j, j < R.length → w.frozen? ⟨b, j, none⟩ = false
theorem RowAt.ext {w w' : World} {b : Nat} {R : List Value} (h : RowAt w b R) (he : Ext w w') : RowAt w' b R := by
  obtain ⟨hc, hf⟩ := Ext.cell he
  exact ⟨Nat.lt_of_lt_of_le h.1 he.size, fun j v hv => (hc _ _ h.1).trans (h.2.1 j v hv), fun j hj => (hf _ _ h.1).trans (h.2.2 j hj)⟩
theorem RowAt.there {w : World} {b : Nat} {R : List Value} (h : RowAt w b R) : w.there b 0 R.length := fun j hj => by
  rw [Nat.zero_add]
  refine ⟨?_, h.2.2 j hj⟩
  have := h.2.1 j _ (List.getElem?_eq_getElem hj)
  rw [Nat.zero_add] at this
  rw [this]; rfl
theorem RowAt.cell {w : World} {b j : Nat} {R : List Value} {v : Value} (h : RowAt w b R) (hv : R[j]? = some v) : w.cell? ⟨b, j, none⟩ = some v ∧ w.frozen? ⟨b, j, none⟩ = false := by
  have := h.2.1 j v hv
  rw [Nat.zero_add] at this
  exact ⟨this, h.2.2 j (List.getElem?_eq_some_iff.1 hv).1⟩
theorem RowAt.other {w : World} {b : Nat} {R : List Value} (h : RowAt w b R) (b' o : Nat) (v : Value) (hb : b ≠ b') : RowAt (w.setCell ⟨b', o, none⟩ v) b R :=
  ⟨by simpa using h.1, fun j u hu => by rw [iset_ne _ _ _ _ _ _ (Or.inl (Ne.symm hb))]; exact h.2.1 j u hu, fun j hj => by simpa using h.2.2 j hj⟩
theorem RowAt.set {w : World} {b o : Nat} {R : List Value} (h : RowAt w b R) (v : Value) (ho : o < R.length) : RowAt (w.setCell ⟨b, o, none⟩ v) b (R.set o v) := by
  refine ⟨by simpa using h.1, fun j u hu => ?_, fun j hj => by rw [List.length_set] at hj; simpa using h.2.2 j hj⟩
  rw [Nat.zero_add]
  rw [List.getElem?_set] at hu
  have hat := h.cell (List.getElem?_eq_getElem ho)
  split at hu
  · rename_i he
    subst he
    cases hu
    exact iset_eq _ _ _ _ ⟨_, hat.1⟩
  · rename_i he
    rw [iset_ne _ _ _ _ _ _ (Or.inr he)]
    exact (h.cell hu).1
theorem RowAt.new (w : World) (R : List Value) (t : TypeId) : RowAt (w.alloc (.cells R.toArray t)) w.heap.size R := by
  refine ⟨by simp, fun j v hv => ?_, fun j hj => by simp⟩
  rw [Nat.zero_add, World.cell?_alloc_at _ _ _ _ rfl]
  simpa using hv
theorem setCells_size (b : Nat) : ∀ (vs : List Value) (o : Nat) (w : World), (w.setCells b o vs).heap.size = w.heap.size
  | [], _, _ => rfl
  | v :: r, o, w => by rw [World.setCells, setCells_size b r]; simp
theorem RowAt.stored {w : World} {b : Nat} {R R' : List Value} (h : RowAt w b R) (hl : R'.length = R.length) : RowAt (w.setCells b 0 R') b R' := by
  refine ⟨?_, World.rangeAt_setCells_same w b 0 R' (by rw [hl]; exact h.there), fun j hj => ?_⟩
  · rw [setCells_size]; exact h.1
  · rw [World.frozen?_setCells]; exact h.2.2 j (by omega)
theorem RowAt.storedOther {w : World} {b b' : Nat} {R R' : List Value} (h : RowAt w b R) (hb : b ≠ b') : RowAt (w.setCells b' 0 R') b R := by
  refine ⟨?_, World.rangeAt_setCells_apart h.2.1 b' 0 R' (Or.inl hb), fun j hj => ?_⟩
  · rw [setCells_size]; exact h.1
  · rw [World.frozen?_setCells]; exact h.2.2 j hj
def zeroRow : List Value := .int .i64 0 :: List.replicate 20 (.int .u64 0)
/-- One more sum. -/
theorem RowV.push {R : List Value} {l : List Int} (h : RowV R l) (hl : l.length < 20) (a : Value) (y : Int) (ha : a.oneCell' = true) : RowV (((R.set (l.length + 1) a).set (l.length + 1) (.int .u64 y)).set 0 (.int .i64 ((l.length : Int) + 1))) (l ++ [y]) := by
  obtain ⟨h1, h2, h3, h4, h5⟩ := h
  refine ⟨by simp [h1], by simp; omega, by simp [h1], fun j x hj => ?_, fun v hv => ?_⟩
  · rw [List.getElem?_set_ne (by omega), List.set_set]
    by_cases hjl : j = l.length
    · subst hjl
      rw [List.getElem?_append_right (Nat.le_refl _)] at hj
      simp at hj
      subst hj
      rw [List.getElem?_set_self (by omega)]
    · have hjx : j < l.length := by
        have := (List.getElem?_eq_some_iff.1 hj).1
        simp at this
        omega
      rw [List.getElem?_append_left hjx] at hj
      rw [List.getElem?_set_ne (by omega)]
      exact h4 j x hj
  · rcases List.mem_or_eq_of_mem_set hv with hv | rfl
    · rcases List.mem_or_eq_of_mem_set hv with hv | rfl
      · rcases List.mem_or_eq_of_mem_set hv with hv | rfl
        · exact h5 v hv
        · exact ha
      · rfl
    · rfl
theorem RowV.push1 {R : List Value} {l : List Int} (h : RowV R l) (hl : l.length < 20) (y : Int) : RowV ((R.set (l.length + 1) (.int .u64 y)).set 0 (.int .i64 ((l.length : Int) + 1))) (l ++ [y]) := by
  have := h.push hl (.int .u64 y) y rfl
  rw [List.set_set] at this
  exact this
theorem RowV.none {R : List Value} {l : List Int} (h : RowV R l) : RowV (R.set 0 (.int .i64 0)) [] := by
  obtain ⟨h1, h2, h3, h4, h5⟩ := h
  refine ⟨by simp [h1], by simp, by simp [h1], fun j x hj => by simp at hj, fun v hv => ?_⟩
  rcases List.mem_or_eq_of_mem_set hv with hv | rfl
  · exact h5 v hv
  · rfl
theorem RowV.many {R : List Value} {l : List Int} (h : RowV R l) : R[0]? = some (.int .i64 (l.length : Int)) := h.2.2.1
theorem RowV.at {R : List Value} {l : List Int} {j : Nat} {x : Int} (h : RowV R l) (hx : l[j]? = some x) : R[j + 1]? = some (.int .u64 x) := h.2.2.2.1 j x hx

/-! ### the row above -/
def Sm.up : List Int → List Int
  | [] => []
  | [a] => [a]
  | a :: b :: r => Sm.sum [1, a, b] :: Sm.up r
theorem Sm.up_len : ∀ l : List Int, (Sm.up l).length = (l.length + 1) / 2
  | [] => rfl
  | [_] => by simp [Sm.up]
  | a :: b :: r => by simp [Sm.up, Sm.up_len r]; omega
theorem Sm.up_pair : ∀ (j : Nat) (l : List Int) (x y : Int), l[2 * j]? = some x → l[2 * j + 1]? = some y → Sm.up (l.take (2 * j + 2)) = Sm.up (l.take (2 * j)) ++ [Sm.sum [1, x, y]]
  | 0, a :: b :: r, x, y, h1, h2 => by simp at h1 h2; subst h1 h2; rfl
  | 0, [a], x, y, h1, h2 => by simp at h2
  | 0, [], x, y, h1, h2 => by simp at h2
  | j + 1, a :: b :: r, x, y, h1, h2 => by
    have e1 : 2 * (j + 1) = 2 * j + 1 + 1 := by omega
    rw [e1] at h1 h2
    simp only [List.getElem?_cons_succ] at h1 h2
    have := Sm.up_pair j r x y h1 h2
    rw [show 2 * (j + 1) + 2 = (2 * j + 2) + 1 + 1 from by omega, e1]
    simp only [List.take_succ_cons, Sm.up, this, List.cons_append]
  | j + 1, [a], x, y, h1, h2 => by simp at h1
  | j + 1, [], x, y, h1, h2 => by simp at h1
theorem Sm.up_one : ∀ (j : Nat) (l : List Int) (x : Int), l[2 * j]? = some x → l.length = 2 * j + 1 → Sm.up l = Sm.up (l.take (2 * j)) ++ [x]
  | 0, [a], x, h1, _ => by simp at h1; subst h1; rfl
  | 0, a :: b :: r, x, h1, h2 => by simp at h2
  | 0, [], x, h1, h2 => by simp at h1
  | j + 1, a :: b :: r, x, h1, h2 => by
    have e1 : 2 * (j + 1) = 2 * j + 1 + 1 := by omega
    rw [e1] at h1
    simp only [List.getElem?_cons_succ] at h1
    have := Sm.up_one j r x h1 (by simp at h2; omega)
    rw [e1]
    simp only [List.take_succ_cons, Sm.up, this, List.cons_append]
  | j + 1, [a], x, h1, h2 => by simp at h1
  | j + 1, [], x, h1, h2 => by simp at h1
end Go.Proofs.YtdjnkchaapcjpaaGreatDoor

/- laws.FnExactSumOf answers true at every slice of numbers. -/
namespace Go.Proofs.YtdjnkchaapcjpaaGreatDoor
open Go.RowKit
/-- Block b holds an IntResult. -/
def IBoxAt (w : World) (b : Nat) (c n : Int) : Prop := b < w.heap.size ∧ w.cell? ⟨b, 0, none⟩ = some (.int .i64 c) ∧ w.cell? ⟨b, 1, none⟩ = some (.int .i64 n)
theorem IBoxAt.ext {w w' : World} {b : Nat} {c n : Int} (h : IBoxAt w b c n) (he : Ext w w') : IBoxAt w' b c n := by
  obtain ⟨hc, _⟩ := Ext.cell he
  exact ⟨Nat.lt_of_lt_of_le h.1 he.size, (hc _ _ h.1).trans h.2.1, (hc _ _ h.1).trans h.2.2⟩
theorem ibox_new (w : World) (c n : Int) (t : TypeId) : IBoxAt (w.alloc (.cells #[.int .i64 c, .int .i64 n] t)) w.heap.size c n := ⟨by simp, by simp, by simp⟩

end Go.Proofs.YtdjnkchaapcjpaaGreatDoor

/- the program's above. -/
namespace Go.Proofs.YtdjnkchaapcjpaaGreatDoor
open Go.RowKit

theorem rowInfo : (Tryz.prog.info? 171).map (·.size) = some 21 := by kernel_rfl
theorem three_rows (w : World) (R : List Value) (t : TypeId) :
    RowAt (((w.alloc (.cells R.toArray t)).alloc (.cells zeroRow.toArray t)).alloc (.cells zeroRow.toArray t)) w.heap.size R ∧ RowAt (((w.alloc (.cells R.toArray t)).alloc (.cells zeroRow.toArray t)).alloc (.cells zeroRow.toArray t)) (w.heap.size + 1) zeroRow ∧ RowAt (((w.alloc (.cells R.toArray t)).alloc (.cells zeroRow.toArray t)).alloc (.cells zeroRow.toArray t)) (w.heap.size + 2) zeroRow := by
  refine ⟨((RowAt.new w R t).ext ((Ext.refl _).alloc _)).ext ((Ext.refl _).alloc _), ?_, ?_⟩
  · have h := (RowAt.new (w.alloc (.cells R.toArray t)) zeroRow t).ext ((Ext.refl _).alloc (.cells zeroRow.toArray t))
    rw [show (w.alloc (.cells R.toArray t)).heap.size = w.heap.size + 1 from by simp] at h
    exact h
  · have h := RowAt.new ((w.alloc (.cells R.toArray t)).alloc (.cells zeroRow.toArray t)) zeroRow t
    rw [show ((w.alloc (.cells R.toArray t)).alloc (.cells zeroRow.toArray t)).heap.size = w.heap.size + 2 from by simp] at h
    exact h

theorem ext_setCells {w : World} (b : Nat) (hb : w.heap.size ≤ b) : ∀ (vs : List Value) (o : Nat) (X : World), Ext w X → Ext w (X.setCells b o vs)
  | [], _, _, h => h
  | v :: r, o, X, h => by rw [World.setCells]; exact ext_setCells b hb r _ _ (h.setCell (p := ⟨b, o, none⟩) hb v)
/-- The three rows behind the copy. -/
theorem rows_stored (w : World) (R : List Value) (t : TypeId) (hR : R.length = 21) (W : World) (hW : (((w.alloc (.cells R.toArray t)).alloc (.cells zeroRow.toArray t)).alloc (.cells zeroRow.toArray t)).setCells (w.heap.size + 2) 0 R = W) :
    RowAt W w.heap.size R ∧ RowAt W (w.heap.size + 1) zeroRow ∧ RowAt W (w.heap.size + 1 + 1) R ∧ Ext w W := by
  obtain ⟨h1, h2, h3⟩ := three_rows w R t
  rw [← hW]
  exact ⟨h1.storedOther (by omega), h2.storedOther (by omega), h3.stored (by simp [zeroRow, hR]), ext_setCells _ (by omega) _ _ _ (((Ext.refl _).alloc _).alloc _ |>.alloc _)⟩
theorem results_row {fn : Func} {p : Tmp} (h : fn.results = #[.cell p 171]) (tmps : Array Value) (w : World) (b : Nat) (R : List Value) (hp : tmps.getD p undef = .pointer (some ⟨b, 0, none⟩)) (hc : w.rangeAt b 0 R) (hl : R.length = 21) :
    (results fn tmps).run Tryz.prog w = .ok (.agg R.toArray) w := by
  have hld := run_loadVar_mid (P := Tryz.prog) w b 0 171 R _ hc Tryz.underlying171 rfl (by rw [hl]; exact rowInfo)
  have hp' : tmps[p]?.getD undef = .pointer (some ⟨b, 0, none⟩) := by simpa using hp
  simp [results, h, hp', asAddr, hld]
/-- The three rows in a later world. -/
def Rows3 (w W1 W : World) (R2 R : List Value) : Prop :=
  RowAt W (w.heap.size + 1 + 1) R2 ∧ RowAt W w.heap.size R ∧ RowAt W (w.heap.size + 1) zeroRow ∧ Ext w W ∧ Ext W1 W
theorem Rows3.of {w W1 W : World} {R2 R : List Value} (h : RowAt W1 (w.heap.size + 1 + 1) R2 ∧ RowAt W1 w.heap.size R ∧ RowAt W1 (w.heap.size + 1) zeroRow ∧ Ext w W1) (he : Ext W1 W) : Rows3 w W1 W R2 R :=
  ⟨h.1.ext he, h.2.1.ext he, h.2.2.1.ext he, h.2.2.2.trans he, he⟩
theorem Rows3.alloc {w W1 W : World} {R2 R : List Value} (h : Rows3 w W1 W R2 R) (o : Obj) : Rows3 w W1 (W.alloc o) R2 R :=
  ⟨h.1.ext ((Ext.refl _).alloc _), h.2.1.ext ((Ext.refl _).alloc _), h.2.2.1.ext ((Ext.refl _).alloc _), h.2.2.2.1.alloc _, h.2.2.2.2.alloc _⟩
theorem Rows3.boxed {w W1 W : World} {R2 R R4 R5 R6 : List Value} (h : Rows3 w W1 W R2 R) (h1 : RowAt W1 (w.heap.size + 1 + 1) R4 ∧ RowAt W1 w.heap.size R5 ∧ RowAt W1 (w.heap.size + 1) R6 ∧ Ext w W1) (a b : Value) : Rows3 w W1 ((W.setCell ⟨W1.heap.size, 0, none⟩ a).setCell ⟨W1.heap.size, 1, none⟩ b) R2 R := by
  obtain ⟨k1, k2, k3, k4⟩ := h1
  have g1 := k1.1
  have g4 := k4.size
  exact ⟨(h.1.other _ _ _ (by omega)).other _ _ _ (by omega), (h.2.1.other _ _ _ (by omega)).other _ _ _ (by omega), (h.2.2.1.other _ _ _ (by omega)).other _ _ _ (by omega), (h.2.2.2.1.setCell (p := ⟨W1.heap.size, 0, none⟩) g4 _).setCell (p := ⟨W1.heap.size, 1, none⟩) g4 _, (h.2.2.2.2.setCell (p := ⟨W1.heap.size, 0, none⟩) (Nat.le_refl _) _).setCell (p := ⟨W1.heap.size, 1, none⟩) (Nat.le_refl _) _⟩
theorem IBox.written {w : World} {r : Nat} (h : IBox w r) (c n : Int) : IBoxAt ((w.setCell ⟨r, 0, none⟩ (.int .i64 c)).setCell ⟨r, 1, none⟩ (.int .i64 n)) r c n := by
  obtain ⟨h1, h2, h3, h5, h6⟩ := h
  refine ⟨by simpa using h1, ?_, ?_⟩
  · rw [iset_ne _ _ _ _ _ _ (by omega)]; exact iset_eq _ _ _ _ ⟨_, h2⟩
  · refine iset_eq _ _ _ _ ⟨.int .i64 0, ?_⟩
    rw [iset_ne _ _ _ _ _ _ (by omega)]; exact h3
/-- How the three rows lie in a round: the first j pairs are up. -/
def Up (w : World) (R : List Value) (l : List Int) (j : Nat) (wr : World) : Prop :=
  ∃ R', RowV R' (Sm.up (l.take (2 * j))) ∧ RowAt wr (w.heap.size + 1 + 1) R' ∧ RowAt wr w.heap.size R ∧ RowAt wr (w.heap.size + 1) zeroRow ∧ Ext w wr
theorem up_many {l : List Int} {j : Nat} (h : 2 * j ≤ l.length + 1) : (Sm.up (l.take (2 * j))).length = j := by
  rw [Sm.up_len, List.length_take]; omega

set_option maxHeartbeats 2000000 in
set_option maxRecDepth 100000 in
theorem above_any (R : List Value) (l : List Int) (w : World) (hR : RowV R l) (hl : 1 ≤ l.length) (ho : Sm.ok l = true) :
    Calls Tryz.prog 117 #[.agg R.toArray] w fun e w' => ∃ R' : List Value, e = .returned (.agg R'.toArray) ∧ RowV R' (Sm.up l) ∧ Ext w w' := by
  have HR : Hid (RowV R l) := hR
  have hR21 : R.length = 21 := hR.1
  have hl20 : l.length ≤ 20 := hR.2.1
  have HO : Hid (Sm.ok l = true) := ho
  have hi21 : (Tryz.prog.info? 171).map (·.size) = some R.length := by rw [hR21]; exact rowInfo
  have hi21' : (Tryz.prog.info? 171).map (·.size) = some R.toArray.size := by simpa using hi21
  have h1c : R.toArray.all (·.oneCell') = true := all_oneCell_toArray hR.2.2.2.2
  have HA : Hid (RowAt ((w.alloc (.cells R.toArray 171)).alloc (.cells zeroRow.toArray 171)) w.heap.size R) := (RowAt.new w R _).ext ((Ext.refl _).alloc _)
  have HB := three_rows w R 171
  have HB' : Hid (RowAt (((w.alloc (.cells R.toArray 171)).alloc (.cells zeroRow.toArray 171)).alloc (.cells zeroRow.toArray 171)) (w.heap.size + 2) zeroRow) := HB.2.2
  clear hR ho HB
  go_enter Tryz.func117, Tryz.ntmps117
  go_wp2_with (first | (refine wpList_load_mid rfl 171 (.tmp 1) rfl w.heap.size 0 rfl R _ HA.out.2.1 Tryz.underlying171 rfl hi21 ?_) | (refine wpList_store_mid rfl 171 (.tmp 3) (.tmp 6) rfl (w.heap.size + 2) 0 R.toArray rfl rfl (by have h := HB'.out.there; simpa [zeroRow, hR21] using h) hi21' h1c ?_; generalize hW : World.setCells _ _ _ _ = W; have hrw := rows_stored w R 171 hR21 W hW; clear hW; obtain ⟨⟨qc, qf⟩, QQ⟩ : (W.cell? ⟨w.heap.size + 1 + 1, 0, none⟩ = some (.int .i64 (l.length : Int)) ∧ W.frozen? ⟨w.heap.size + 1 + 1, 0, none⟩ = false) ∧ Hid (Up w R l 0 (W.setCell ⟨w.heap.size + 1 + 1, 0, none⟩ (.int .i64 0))) := ⟨hrw.2.2.1.cell HR.out.many, ⟨R.set 0 (.int .i64 0), HR.out.none, hrw.2.2.1.set _ (by omega), hrw.1.other _ _ _ (by omega), hrw.2.1.other _ _ _ (by omega), hrw.2.2.2.setCell (p := ⟨w.heap.size + 1 + 1, 0, none⟩) (by show w.heap.size ≤ w.heap.size + 1 + 1; omega) _⟩⟩; clear hrw))
  go_loopw [4] (fun i wr => ∃ (j k : Nat), k ≤ l.length + 1 ∧ i = .int .i64 (k : Nat) ∧ Hid (k = 2 * j) ∧ Hid (Up w R l j wr)) (fun i _ => l.length + 1 - (intOf i).toNat)
  case atStart => exact ⟨0, 0, by omega, rfl, rfl, QQ.out⟩
  case round =>
    obtain ⟨j, k, hk, rfl, HK, HU⟩ := hrel
    clear qc qf
    have hkj := HK.out
    have HU2 := HU.out
    obtain ⟨R', hV, hA2, hA0, hA1, hE⟩ := HU2
    have c0 := (hA0.cell HR.out.many).1
    have c2 := hA2.cell hV.many
    rw [up_many (by omega)] at c2
    obtain ⟨c2, f2⟩ := c2
    have HV : Hid (RowV R' (Sm.up (l.take (2 * j))) ∧ RowAt wr (w.heap.size + 1 + 1) R' ∧ RowAt wr w.heap.size R ∧ RowAt wr (w.heap.size + 1) zeroRow ∧ Ext w wr) := ⟨hV, hA2, hA0, hA1, hE⟩
    by_cases hlt : k < l.length
    · obtain ⟨x, hx⟩ : ∃ x, l[k]? = some x := ⟨_, List.getElem?_eq_getElem hlt⟩
      have cx := (hA0.cell (HR.out.at hx)).1
      rw [Nat.add_comm] at cx
      obtain ⟨cm, fm⟩ : (∃ u, wr.cell? ⟨w.heap.size + 1 + 1, 1 + j, none⟩ = some u) ∧ wr.frozen? ⟨w.heap.size + 1 + 1, 1 + j, none⟩ = false := by
        have hjl : 1 + j < R'.length := by rw [hV.1]; omega
        have := hA2.cell (List.getElem?_eq_getElem hjl)
        exact ⟨⟨_, this.1⟩, this.2⟩
      obtain ⟨u, cm⟩ := cm
      obtain ⟨hx0, hx1⟩ := Sm.ok_at hx HO.out
      have HX : Hid (l[k]? = some x) := hx
      have i1 : (0 : Int) ≤ (k : Int) := by omega
      have i2 : (k : Int) < 20 := by omega
      have i3 : (0 : Int) ≤ (j : Int) := by omega
      have i4 : (j : Int) < 20 := by omega
      clear hV hA2 hA0 hA1 hE hx hkj
      by_cases h2 : k + 1 < l.length
      · obtain ⟨y, hy⟩ : ∃ y, l[k + 1]? = some y := ⟨_, List.getElem?_eq_getElem h2⟩
        obtain ⟨hy0, hy1⟩ := Sm.ok_at hy HO.out
        have HP : Hid (∀ wx : World, Calls Tryz.prog 170 #[.int .i64 x, .int .i64 y] wx fun e w' => e = .returned (ir (0, Sm.sum [1, x, y])) ∧ Ext wx w') := fun wx => by
          have h := implPairSum_any x y wx
          have e : Sm.pairV x y = (0, Sm.sum [1, x, y]) := Sm.sumV_ok (by simp) (by simp [Sm.ok, Sm.is, hx0, hx1, hy0, hy1])
          rw [e] at h
          exact h
        have HU3 : Hid (Sm.up (l.take (2 * (j + 1))) = Sm.up (l.take (2 * j)) ++ [Sm.sum [1, x, y]]) := by
          have e := HK.out
          have h := Sm.up_pair j l x y (by rw [← e]; exact HX.out) (by rw [← e]; exact hy)
          exact h
        obtain ⟨hs0, hs1⟩ := Sm.sum_is [1, x, y]
        generalize Sm.sum [1, x, y] = t at *
        unfold ir at HP
        have HY : Hid (l[k + 1]? = some y) := hy
        clear hy
        go_wp2
        go_region
        obtain ⟨W1, hW1⟩ : ∃ W1, W1 = (wr.setCell ⟨w.heap.size + 1 + 1, 1 + j, none⟩ (.int .u64 x)).drew := ⟨_, rfl⟩
        rw [← hW1]
        have HR1 : Hid (RowAt W1 (w.heap.size + 1 + 1) (R'.set (1 + j) (.int .u64 x)) ∧ RowAt W1 w.heap.size R ∧ RowAt W1 (w.heap.size + 1) zeroRow ∧ Ext w W1) := by
          obtain ⟨h1, h2, h3, h4, h5⟩ := HV.out
          rw [hW1]
          exact ⟨(h2.set _ (by rw [h1.1]; omega)).ext ((Ext.refl _).drew), (h3.other _ _ _ (by omega)).ext ((Ext.refl _).drew), (h4.other _ _ _ (by omega)).ext ((Ext.refl _).drew), (h5.setCell (p := ⟨w.heap.size + 1 + 1, 1 + j, none⟩) (by show w.heap.size ≤ w.heap.size + 1 + 1; omega) _).drew⟩
        clear hW1 c0 c2 f2 cx cm fm
        have c0 := (HR1.out.2.1.cell HR.out.many).1
        have cx := (HR1.out.2.1.cell (HR.out.at HX.out)).1
        have cy := (HR1.out.2.1.cell (HR.out.at HY.out)).1
        rw [Nat.add_comm] at cx cy
        obtain ⟨k', hk'⟩ : ∃ k', k' = k + 1 := ⟨_, rfl⟩
        rw [← hk'] at cy
        have hk1 : (k : Int) + 1 = (k' : Int) := by omega
        have i5 : (0 : Int) ≤ (k' : Int) := by omega
        have i6 : (k' : Int) < 20 := by omega
        have i7 : (k' : Int) < (l.length : Int) := by omega
        have i8 : IntKind.i64.wrap (k' : Int) = (k' : Int) := by rw [IntKind.wrap_i64]; omega
        have wx : IntKind.i64.wrap x = x := by rw [IntKind.wrap_i64]; omega
        have wy : IntKind.i64.wrap y = y := by rw [IntKind.wrap_i64]; omega
        have hz1 : w.heap.size < W1.heap.size := HR1.out.2.1.1
        have hal := alloc_cell
        clear hk'
        go_wp2
        go_region_with (go_at_call 170; refine (HP.out _).mono ?_; rintro e w5 ⟨rfl, hb5⟩; first | (have hq : IBox w5 W1.heap.size := (IBox.new W1.drew _).ext hb5; have HR5 : Hid (Rows3 w W1 w5 (R'.set (1 + j) (.int .u64 x)) R) := Rows3.of HR1.out ((((Ext.refl _).drew).alloc _).trans hb5); have HQ5 : Hid (IBox w5 W1.heap.size) := hq; obtain ⟨q, q0, q1, g0, g1⟩ := hq; clear hb5) | (have HR5 : Hid (Rows3 w W1 w5 (R'.set (1 + j) (.int .u64 x)) R) := Rows3.of HR1.out (((Ext.refl _).drew).trans hb5); clear hb5))
        all_goals
          first
          | (obtain ⟨W6, hW6⟩ : ∃ W6, W6 = w5.alloc (.cells #[.int .i64 0, .int .i64 t] 45) := ⟨_, rfl⟩
             rw [← hW6]
             obtain ⟨BP, hBP⟩ : ∃ BP, BP = w5.heap.size := ⟨_, rfl⟩
             have HR6 : Hid (Rows3 w W1 W6 (R'.set (1 + j) (.int .u64 x)) R ∧ IBoxAt W6 BP 0 t) := by
               rw [hW6, hBP]
               exact ⟨HR5.out.alloc _, ibox_new w5 0 t _⟩
             rw [← hBP])
          | (obtain ⟨W6, hW6⟩ : ∃ W6, W6 = (w5.setCell ⟨W1.heap.size, 0, none⟩ (.int .i64 0)).setCell ⟨W1.heap.size, 1, none⟩ (.int .i64 t) := ⟨_, rfl⟩
             rw [← hW6]
             obtain ⟨BP, hBP⟩ : ∃ BP, BP = W1.heap.size := ⟨_, rfl⟩
             have HR6 : Hid (Rows3 w W1 W6 (R'.set (1 + j) (.int .u64 x)) R ∧ IBoxAt W6 BP 0 t) := by
               rw [hW6, hBP]
               exact ⟨HR5.out.boxed HR1.out _ _, HQ5.out.written 0 t⟩
             rw [← hBP])
          clear hW6 hBP HR5
          have e2 : (R'.set (1 + j) (.int .u64 x))[0]? = some (.int .i64 (j : Int)) := by
            rw [List.getElem?_set_ne (by omega)]
            have h := HV.out.1.many
            rw [up_many (by have := HK.out; omega)] at h
            exact h
          have e3 : (R'.set (1 + j) (.int .u64 x))[1 + j]? = some (.int .u64 x) := List.getElem?_set_self (by rw [HV.out.1.1]; omega)
          obtain ⟨c2, f2⟩ := HR6.out.1.1.cell e2
          obtain ⟨c3, f3⟩ := HR6.out.1.1.cell e3
          have p1 := HR6.out.2.2.2
          have wt : IntKind.u64.wrap t = t := by rw [IntKind.wrap_u64]; omega
          clear e2 e3 hal
          have HU4 : Hid (Up w R l (j + 1) ((W6.setCell ⟨w.heap.size + 1 + 1, 1 + j, none⟩ (.int .u64 t)).setCell ⟨w.heap.size + 1 + 1, 0, none⟩ (.int .i64 ((j : Int) + 1)))) := by
            obtain ⟨h1, h2, h3, h4, -⟩ := HR6.out.1
            have hV := HV.out.1
            have hm : (Sm.up (l.take (2 * j))).length = j := up_many (by have := HK.out; omega)
            refine ⟨((R'.set (1 + j) (.int .u64 x)).set (1 + j) (.int .u64 t)).set 0 (.int .i64 ((j : Int) + 1)), ?_, (h1.set _ (by rw [List.length_set, hV.1]; omega)).set _ (by rw [List.length_set, List.length_set, hV.1]; omega), (h2.other _ _ _ (by omega)).other _ _ _ (by omega), (h3.other _ _ _ (by omega)).other _ _ _ (by omega), (h4.setCell (p := ⟨w.heap.size + 1 + 1, 1 + j, none⟩) (by show w.heap.size ≤ w.heap.size + 1 + 1; omega) _).setCell (p := ⟨w.heap.size + 1 + 1, 0, none⟩) (by show w.heap.size ≤ w.heap.size + 1 + 1; omega) _⟩
            rw [HU3.out]
            have h := hV.push (by rw [hm]; omega) (.int .u64 x) t rfl
            rw [hm, Nat.add_comm j 1] at h
            exact h
          go_wp2
          exact ⟨⟨j + 1, k + 2, by omega, by go_num, by show k + 2 = 2 * (j + 1); have := HK.out; omega, HU4.out⟩, by simp [intOf]; omega⟩
      · have HU3 : Hid (Sm.up (l.take (2 * (j + 1))) = Sm.up (l.take (2 * j)) ++ [x]) := by
          have e := HK.out
          have h := Sm.up_one j l x (by rw [← e]; exact HX.out) (by omega)
          show _ = _
          rw [List.take_of_length_le (by omega), h]
        go_wp2
        go_region
        obtain ⟨W1, hW1⟩ : ∃ W1, W1 = (wr.setCell ⟨w.heap.size + 1 + 1, 1 + j, none⟩ (.int .u64 x)).drew := ⟨_, rfl⟩
        rw [← hW1]
        have HR1 : Hid (RowAt W1 (w.heap.size + 1 + 1) (R'.set (1 + j) (.int .u64 x)) ∧ RowAt W1 w.heap.size R ∧ RowAt W1 (w.heap.size + 1) zeroRow ∧ Ext w W1) := by
          obtain ⟨h1, h2, h3, h4, h5⟩ := HV.out
          rw [hW1]
          exact ⟨(h2.set _ (by rw [h1.1]; omega)).ext ((Ext.refl _).drew), (h3.other _ _ _ (by omega)).ext ((Ext.refl _).drew), (h4.other _ _ _ (by omega)).ext ((Ext.refl _).drew), (h5.setCell (p := ⟨w.heap.size + 1 + 1, 1 + j, none⟩) (by show w.heap.size ≤ w.heap.size + 1 + 1; omega) _).drew⟩
        clear hW1 c0 c2 f2 cx cm fm
        have c0 := (HR1.out.2.1.cell HR.out.many).1
        have e2 : (R'.set (1 + j) (.int .u64 x))[0]? = some (.int .i64 (j : Int)) := by
          rw [List.getElem?_set_ne (by omega)]
          have h := HV.out.1.many
          rw [up_many (by have := HK.out; omega)] at h
          exact h
        obtain ⟨c2, f2⟩ := HR1.out.1.cell e2
        have HU4 : Hid (Up w R l (j + 1) (W1.setCell ⟨w.heap.size + 1 + 1, 0, none⟩ (.int .i64 ((j : Int) + 1)))) := by
          obtain ⟨h1, h2, h3, h4⟩ := HR1.out
          have hV := HV.out.1
          have hm : (Sm.up (l.take (2 * j))).length = j := up_many (by have := HK.out; omega)
          refine ⟨(R'.set (1 + j) (.int .u64 x)).set 0 (.int .i64 ((j : Int) + 1)), ?_, h1.set _ (by rw [List.length_set, hV.1]; omega), h2.other _ _ _ (by omega), h3.other _ _ _ (by omega), h4.setCell (p := ⟨w.heap.size + 1 + 1, 0, none⟩) (by show w.heap.size ≤ w.heap.size + 1 + 1; omega) _⟩
          rw [HU3.out]
          have h := hV.push1 (by rw [hm]; omega) x
          rw [hm, Nat.add_comm j 1] at h
          exact h
        go_wp2
        exact ⟨⟨j + 1, k + 2, by omega, by go_num, by show k + 2 = 2 * (j + 1); have := HK.out; omega, HU4.out⟩, by simp [intOf]; omega⟩
    · have HUl : Hid (RowV R' (Sm.up l)) := by
        have h := hV
        rw [List.take_of_length_le (by omega)] at h
        exact h
      have hR'21 : R'.length = 21 := hV.1
      have hi22 : (Tryz.prog.info? 171).map (·.size) = some R'.length := by rw [hR'21]; exact rowInfo
      have hi22' : (Tryz.prog.info? 171).map (·.size) = some R'.toArray.size := by simpa using hi22
      have h2c : R'.toArray.all (·.oneCell') = true := all_oneCell_toArray hV.2.2.2.2
      clear hV hA2 hA0 hA1 hE hkj
      go_wp2_with (first | (refine wpList_load_mid rfl 171 (.tmp 3) rfl (w.heap.size + 1 + 1) 0 rfl R' _ HV.out.2.1.2.1 Tryz.underlying171 rfl hi22 ?_) | (refine wpList_store_mid rfl 171 (.tmp 2) (.tmp 50) rfl (w.heap.size + 1) 0 R'.toArray rfl rfl (by have h := HV.out.2.2.2.1.there; simpa [zeroRow, hR'21] using h) hi22' h2c ?_))
      refine bodyPost_ret (v := .agg R'.toArray) (results_row Tryz.results117 _ _ (w.heap.size + 1) R' rfl ?_ hR'21) rfl ⟨R', rfl, HUl.out, ext_setCells _ (by omega) _ _ _ HV.out.2.2.2.2⟩
      exact World.rangeAt_setCells_same wr (w.heap.size + 1) 0 R' (by have h := HV.out.2.2.2.1.there; simpa [zeroRow, hR'21] using h)
end Go.Proofs.YtdjnkchaapcjpaaGreatDoor

/- the program's leavesOf. -/
namespace Go.Proofs.YtdjnkchaapcjpaaGreatDoor
open Go.RowKit

/-- The cells of a row that says n and holds the sums l so far. -/
def RowP (R : List Value) (n : Nat) (l : List Int) : Prop :=
  R.length = 21 ∧ R[0]? = some (.int .i64 (n : Int)) ∧ (∀ j x, l[j]? = some x → R[j + 1]? = some (.int .u64 x)) ∧ ∀ v ∈ R, v.oneCell' = true
theorem RowP.full {R : List Value} {l : List Int} (h : RowP R l.length l) (hl : l.length ≤ 20) : RowV R l := ⟨h.1, hl, h.2.1, h.2.2.1, h.2.2.2⟩
theorem RowP.push {R : List Value} {n : Nat} {l : List Int} (h : RowP R n l) (hl : l.length < 20) (y : Int) : RowP (R.set (1 + l.length) (.int .u64 y)) n (l ++ [y]) := by
  obtain ⟨h1, h2, h4, h5⟩ := h
  refine ⟨by simp [h1], by rw [List.getElem?_set_ne (by omega)]; exact h2, fun j x hj => ?_, fun v hv => ?_⟩
  · by_cases hjl : j = l.length
    · subst hjl
      rw [List.getElem?_append_right (Nat.le_refl _)] at hj
      simp at hj
      subst hj
      rw [Nat.add_comm, List.getElem?_set_self (by omega)]
    · have hjx : j < l.length := by
        have := (List.getElem?_eq_some_iff.1 hj).1
        simp at this
        omega
      rw [List.getElem?_append_left hjx] at hj
      rw [List.getElem?_set_ne (by omega)]
      exact h4 j x hj
  · rcases List.mem_or_eq_of_mem_set hv with hv | rfl
    · exact h5 v hv
    · rfl
def firstRow (n : Int) : List Value := .int .i64 n :: List.replicate 20 (.int .u64 0)
theorem firstRow_is (n : Nat) : RowP (firstRow n) n [] := by
  refine ⟨by simp [firstRow], rfl, fun j x hj => by simp at hj, fun v hv => ?_⟩
  unfold firstRow at hv
  simp at hv
  rcases hv with rfl | rfl <;> rfl
theorem two_rows (w : World) (t : TypeId) :
    RowAt ((w.alloc (.cells zeroRow.toArray t)).alloc (.cells zeroRow.toArray t)) w.heap.size zeroRow ∧ RowAt ((w.alloc (.cells zeroRow.toArray t)).alloc (.cells zeroRow.toArray t)) (w.heap.size + 1) zeroRow := by
  refine ⟨(RowAt.new w zeroRow t).ext ((Ext.refl _).alloc _), ?_⟩
  have h := RowAt.new (w.alloc (.cells zeroRow.toArray t)) zeroRow t
  rw [show (w.alloc (.cells zeroRow.toArray t)).heap.size = w.heap.size + 1 from by simp] at h
  exact h
theorem first_stored (w : World) (n : Int) (t : TypeId) (W : World) (hW : ((w.alloc (.cells zeroRow.toArray t)).alloc (.cells zeroRow.toArray t)).setCells (w.heap.size + 1) 0 (firstRow n) = W) :
    RowAt W w.heap.size zeroRow ∧ RowAt W (w.heap.size + 1) (firstRow n) ∧ Ext w W := by
  obtain ⟨h1, h2⟩ := two_rows w t
  rw [← hW]
  exact ⟨h1.storedOther (by omega), h2.stored (by simp [zeroRow, firstRow]), ext_setCells _ (by omega) _ _ _ (((Ext.refl _).alloc _).alloc _)⟩
/-- How the rows lie in a round: k leaves are in. -/
def Lv (w : World) (zs : List Zn) (k : Nat) (wr : World) : Prop :=
  ∃ R', RowP R' zs.length ((zs.take k).map Sm.leaf) ∧ RowAt wr (w.heap.size + 1) R' ∧ RowAt wr w.heap.size zeroRow ∧ Ext w wr
theorem field_val (c d : Int) (w : World) : (Instr.field 45 (.agg #[.int .i64 c, .int .i64 d]) 1).run Tryz.prog w = .ok (.int .i64 d) w := by kernel_rfl
theorem firstInfo (n : Int) : (Tryz.prog.info? 171).map (·.size) = some (firstRow n).toArray.size := by rw [rowInfo]; simp [firstRow]
theorem first_one (n : Int) : (firstRow n).toArray.all (·.oneCell') = true := all_oneCell_toArray (fun v hv => by
  unfold firstRow at hv
  simp at hv
  rcases hv with rfl | rfl <;> rfl)
theorem first_there (w : World) (n : Int) (t : TypeId) : ((w.alloc (.cells zeroRow.toArray t)).alloc (.cells zeroRow.toArray t)).there (w.heap.size + 1) 0 (firstRow n).toArray.size := by
  have h := (two_rows w t).2.there
  simpa [zeroRow, firstRow] using h

set_option maxHeartbeats 2000000 in
set_option maxRecDepth 100000 in
theorem leavesOf_any (v : Value) (zs : List Zn) (w : World) (hg : Gd w) (hS : NSlice w v zs) (h20 : zs.length ≤ 20) (hz : ∀ z ∈ zs, Sm.nodeC z = 0) :
    Calls Tryz.prog 116 #[v] w fun e w' => ∃ R : List Value, e = .returned (.agg R.toArray) ∧ RowV R (zs.map Sm.leaf) ∧ Ext w w' := by
  have HL : Hid (∀ (z : Zn) (wx : World), z ∈ zs → Ext w wx → Calls Tryz.prog 169 #[zagg z] wx fun e w' => e = .returned (ir (0, Sm.leaf z)) ∧ Ext wx w') := fun z wx h he => by
    have h2 := implLeafSum_any z wx (hg.ext he)
    rw [leafV_ok (hz z h)] at h2
    exact h2
  obtain ⟨a, cap, rfl, hlc, hcm, hx⟩ := hS
  have HX : Hid (0 < zs.length → ∃ b off, a = some ⟨b, off, none⟩ ∧ b < w.heap.size ∧ NodesAt w b off zs) := hx
  clear hx hg hz
  unfold maxLen at hcm
  have HI := firstInfo (zs.length : Int)
  have HO := first_one (zs.length : Int)
  have HT : Hid (((w.alloc (.cells zeroRow.toArray 171)).alloc (.cells zeroRow.toArray 171)).there (w.heap.size + 1) 0 (firstRow (zs.length : Int)).toArray.size) := first_there w (zs.length : Int) 171
  go_enter Tryz.func116, Tryz.ntmps116
  go_wp2_with (refine wpList_store_mid rfl 171 (.tmp 3) (.tmp 8) rfl (w.heap.size + 1) 0 (firstRow (zs.length : Int)).toArray rfl rfl HT.out HI HO ?_; generalize hW : World.setCells _ _ _ _ = W; have HW : Hid _ := first_stored w (zs.length : Int) 171 W hW; clear hW)
  clear HI HO HT
  go_loopw [11] (fun i wr => ∃ (k : Nat), k ≤ zs.length ∧ i = .int .i64 (k : Nat) ∧ Hid (Lv w zs k wr)) (fun i _ => zs.length - (intOf i).toNat)
  case atStart => exact ⟨0, by omega, rfl, ⟨firstRow zs.length, firstRow_is _, HW.out.2.1, HW.out.1, HW.out.2.2⟩⟩
  case round =>
    obtain ⟨k, hk, rfl, HU⟩ := hrel
    obtain ⟨R', hP, hA1, hA0, hE⟩ := HU.out
    by_cases hlt : k < zs.length
    · obtain ⟨z, hzk⟩ : ∃ z, zs[k]? = some z := ⟨_, List.getElem?_eq_getElem hlt⟩
      obtain ⟨b, off, rfl, hb, hN⟩ := HX.out (by omega)
      obtain ⟨d0, d1, d2, d3, d4⟩ := hN.ext hb hE k z hzk
      have hbr : b < wr.heap.size := Nat.lt_of_lt_of_le hb hE.size
      have hal := alloc_cell
      have HLz : Hid (∀ wx : World, Ext w wx → Calls Tryz.prog 169 #[zagg z] wx fun e w' => e = .returned (ir (0, Sm.leaf z)) ∧ Ext wx w') := fun wx he => HL.out z wx (List.mem_of_getElem? hzk) he
      have HZ : Hid ((zs.take (k + 1)).map Sm.leaf = (zs.take k).map Sm.leaf ++ [Sm.leaf z]) := by
        show _ = _
        obtain ⟨hkl, rfl⟩ := List.getElem?_eq_some_iff.1 hzk
        rw [List.take_succ_eq_append_getElem hkl, List.map_append]; rfl
      obtain ⟨ht0, ht1⟩ := Sm.sum_is (Sm.lf z z.path.size)
      have ht0' : 0 ≤ Sm.leaf z := ht0
      have ht1' : Sm.leaf z ≤ 1000002 := ht1
      clear ht0 ht1
      have HV : Hid (RowP R' zs.length ((zs.take k).map Sm.leaf) ∧ RowAt wr (w.heap.size + 1) R' ∧ RowAt wr w.heap.size zeroRow ∧ Ext w wr) := ⟨hP, hA1, hA0, hE⟩
      generalize Sm.leaf z = t at *
      unfold ir zagg at HLz
      have i1 : (0 : Int) ≤ (k : Int) := by omega
      have i2 : (k : Int) < 20 := by omega
      clear hP hA1 hA0 hE hN hzk hb
      go_wp2_with fail
      refine (HLz.out _ (HV.out.2.2.2.alloc _)).mono ?_
      rintro e w5 ⟨rfl, hb5⟩
      have HR5 : Hid (RowAt w5 (w.heap.size + 1) R' ∧ RowAt w5 w.heap.size zeroRow ∧ Ext w w5) := ⟨(HV.out.2.1.ext ((Ext.refl _).alloc _)).ext hb5, (HV.out.2.2.1.ext ((Ext.refl _).alloc _)).ext hb5, (HV.out.2.2.2.alloc _).trans hb5⟩
      clear hb5 d0 d1 d2 d3 d4 hal hbr
      have hR21 : R'.length = 21 := HV.out.1.1
      obtain ⟨c3, f3⟩ := HR5.out.1.cell (List.getElem?_eq_getElem (show 1 + k < R'.length by omega))
      have hfv := field_val
      have wt : IntKind.u64.wrap t = t := by rw [IntKind.wrap_u64]; omega
      have HU4 : Hid (Lv w zs (k + 1) (w5.setCell ⟨w.heap.size + 1, 1 + k, none⟩ (.int .u64 t))) := by
        obtain ⟨h1, h2, h3⟩ := HR5.out
        refine ⟨R'.set (1 + k) (.int .u64 t), ?_, h1.set _ (by omega), h2.other _ _ _ (by omega), h3.setCell (p := ⟨w.heap.size + 1, 1 + k, none⟩) (by show w.heap.size ≤ w.heap.size + 1; omega) _⟩
        rw [HZ.out]
        have hlen : ((zs.take k).map Sm.leaf).length = k := by simp; omega
        have h := HV.out.1.push (by rw [hlen]; omega) t
        rw [hlen] at h
        exact h
      go_wp2
      exact ⟨⟨k + 1, by omega, by go_num, HU4.out⟩, by simp [intOf]; omega⟩
    · have hk0 : k = zs.length := by omega
      have hR'21 : R'.length = 21 := hP.1
      have HF : Hid (RowV R' (zs.map Sm.leaf)) := by
        subst hk0
        rw [List.take_length] at hP
        exact RowP.full (l := zs.map Sm.leaf) (by rw [List.length_map]; exact hP) (by simpa using h20)
      have HV : Hid (RowAt wr (w.heap.size + 1) R' ∧ RowAt wr w.heap.size zeroRow ∧ Ext w wr) := ⟨hA1, hA0, hE⟩
      have hi22 : (Tryz.prog.info? 171).map (·.size) = some R'.length := by rw [hR'21]; exact rowInfo
      have hi22' : (Tryz.prog.info? 171).map (·.size) = some R'.toArray.size := by simpa using hi22
      have h2c : R'.toArray.all (·.oneCell') = true := all_oneCell_toArray hP.2.2.2
      clear hP hA1 hA0 hE
      go_wp2_with (first | (refine wpList_load_mid rfl 171 (.tmp 3) rfl (w.heap.size + 1) 0 rfl R' _ HV.out.1.2.1 Tryz.underlying171 rfl hi22 ?_) | (refine wpList_store_mid rfl 171 (.tmp 2) (.tmp 24) rfl w.heap.size 0 R'.toArray rfl rfl (by have h := HV.out.2.1.there; simpa [zeroRow, hR'21] using h) hi22' h2c ?_))
      refine bodyPost_ret (v := .agg R'.toArray) (results_row Tryz.results116 _ _ w.heap.size R' rfl ?_ hR'21) rfl ⟨R', rfl, HF.out, ext_setCells _ (by omega) _ _ _ HV.out.2.2⟩
      exact World.rangeAt_setCells_same wr w.heap.size 0 R' (by have h := HV.out.2.1.there; simpa [zeroRow, hR'21] using h)
end Go.Proofs.YtdjnkchaapcjpaaGreatDoor

/- the specification's rows: l3Leaves, l3Row, l3Root. -/
namespace Go.Proofs.YtdjnkchaapcjpaaGreatDoor
open Go.RowKit

def Sm.rootF : Nat → List Int → Int
  | 0, l => l.headD 0
  | f + 1, l => if 1 < l.length then Sm.rootF f (Sm.up l) else l.headD 0
def Sm.root (l : List Int) : Int := Sm.rootF l.length l
theorem Sm.rootF_end {f : Nat} {l : List Int} (h : ¬ 1 < l.length) : Sm.rootF f l = l.headD 0 := by
  cases f with
  | zero => rfl
  | succ f => rw [Sm.rootF, if_neg h]
theorem Sm.rootF_step {f : Nat} {l : List Int} (h : 1 < l.length) (hf : l.length ≤ f) : ∃ f', (Sm.up l).length ≤ f' ∧ Sm.rootF f' (Sm.up l) = Sm.rootF f l := by
  obtain ⟨f', rfl⟩ : ∃ f', f = f' + 1 := ⟨f - 1, by omega⟩
  refine ⟨f', by rw [Sm.up_len]; omega, ?_⟩
  rw [Sm.rootF, if_pos h]
theorem Sm.up_ok : ∀ l : List Int, Sm.ok l = true → Sm.ok (Sm.up l) = true
  | [], _ => rfl
  | [a], h => by simpa [Sm.up] using h
  | a :: b :: r, h => by
    have h2 : Sm.ok r = true := by
      unfold Sm.ok at h ⊢
      simp only [List.all_cons, Bool.and_eq_true] at h
      exact h.2.2
    have := Sm.up_ok r h2
    unfold Sm.ok at this ⊢
    simp only [Sm.up, List.all_cons, Bool.and_eq_true]
    exact ⟨Sm.is_iff.2 (Sm.sum_is _), this⟩
theorem Sm.up_pos {l : List Int} (h : 1 ≤ l.length) : 1 ≤ (Sm.up l).length := by rw [Sm.up_len]; omega
theorem Sm.leaves_ok (zs : List Zn) : Sm.ok (zs.map Sm.leaf) = true := by
  unfold Sm.ok
  rw [List.all_eq_true]
  intro x hx
  obtain ⟨z, _, rfl⟩ := List.mem_map.1 hx
  exact Sm.is_iff.2 (Sm.sum_is _)

theorem own_ext {w w' : World} {base : Nat} {e : TypeId} {size : Nat} {v : Value} {n : Nat} {xs : List Value} (h : w.ownsRow base e size v n xs) (he : Ext w w') : w'.ownsRow base e size v n xs := by
  refine ⟨h.1, ?_⟩
  rcases h.2 with hn | ⟨g, cap, cur, rfl, hb, hgg, rest⟩
  · exact .inl hn
  · exact .inr ⟨g, cap, cur, rfl, hb, (he.block g (Array.getElem?_eq_some_iff.1 hgg).1).trans hgg, rest⟩
theorem step_append_own1 {P : Program} (w : World) {ops : Array Oper} {o : Oper} {a : Act} {K : Act → World → Prop} {Q : Exit → Act → World → Prop} {E : Prop} (hgd : o.guard = none) (s x : Operand) (t : TypeId)
    (ho : o.op = .call { callee := .builtin .append, args := #[s, x], argTypes := #[t, t] })
    (base : Nat) (e : TypeId) (i : TypeInfo) (z : Value) (size bytes : Nat) (ht : P.underlying t = some (.slice e)) (hi : P.info? e = some i) (hz : i.zero = some z)
    (hsize : i.size = size) (hby : i.bytes = bytes) (hzs : z.cells.size = size) (hsz : 0 < size)
    (v : Value) (n : Nat) (xs : List Value) (hs : a.eval s = v) (hown : w.ownsRow base e size v n xs)
    (ad : Addr) (m c : Nat) (news : List Value) (hx : a.eval x = .slice (some ad) m c) (hl : news.length = m * size) (hnews : ∀ j u, news[j]? = some u → w.cell? (ad.add j) = some u) (h1 : ∀ u ∈ news, u.oneCell' = true)
    (h63 : n + m ≤ maxLen) (hbytes : (n + m) * bytes ≤ 140737488355328) (hbase : base ≤ w.heap.size)
    (h : ∀ v' w', w'.ownsRow base e size v' (n + m) (xs ++ news) → w.grownBy w' v.ownBlock → (v' = .slice none 0 0 ↔ v = .slice none 0 0 ∧ m = 0) → K (a.put o.dst v') w') :
    if Region.wanted o (yielded ops a.tmps) = true then Oper.wp P o a w K Q else E := by
  have hw : Region.wanted o (yielded ops a.tmps) = true := by simp [Region.wanted, hgd]
  rw [if_pos hw]
  exact wp_append_own w s x t ho base e i z size bytes ht hi hz hsize hby hzs hsz v n xs hs hown ad m c news hx hl hnews h1 h63 hbytes hbase h

set_option maxHeartbeats 2000000 in
set_option maxRecDepth 100000 in
theorem l3Leaves_own (v : Value) (zs : List Zn) (w : World) (hS : NSlice w v zs) (h20 : zs.length ≤ 20) (hz : ∀ z ∈ zs, Sm.nodeC z = 0) :
    Calls Tryz.prog 114 #[v] w fun e w' => ∃ v', e = .returned v' ∧ w'.ownsRow w.heap.size 2 1 v' (zs.map Sm.leaf).length ((zs.map Sm.leaf).map (Value.int .i64)) ∧ Ext w w' := by
  have hi9 : (Tryz.prog.info? 2).map (fun i => (i.zero, i.size, i.bytes)) = some (some (.int .i64 0), 1, 8) := by kernel_rfl
  obtain ⟨i0, hi, hx9⟩ := Option.map_eq_some_iff.1 hi9
  simp only [Prod.mk.injEq] at hx9
  obtain ⟨hz0, hz1, hz2⟩ := hx9
  clear hi9
  have HL : Hid (∀ (z : Zn) (b o : Nat) (wx : World), z ∈ zs → ZAt wx b o z → Calls Tryz.prog 167 #[.pointer (some ⟨b, o, none⟩)] wx fun e w' => e = .returned (.int .i64 (Sm.leaf z)) ∧ Ext wx w') := fun z b o wx h hZ => by
    obtain ⟨hf, hn⟩ := Sm.nodeC_zero (hz z h)
    exact l3Leaf_any b o z wx hZ (by have := fault_short hf; rw [len_eq] at this; exact this) hn
  obtain ⟨a, cap, rfl, hlc, hcm, hx⟩ := hS
  have HX : Hid (0 < zs.length → ∃ b off, a = some ⟨b, off, none⟩ ∧ b < w.heap.size ∧ NodesAt w b off zs) := hx
  clear hx hz
  unfold maxLen at hcm
  go_enter Tryz.func114, Tryz.ntmps114
  go_wp2
  go_loopw [3, 4] (fun lv i wr => ∃ (k : Nat), k ≤ zs.length ∧ i = .int .i64 k ∧ Hid (wr.ownsRow w.heap.size 2 1 lv k (((zs.take k).map Sm.leaf).map (Value.int .i64))) ∧ Hid (Ext w wr)) (fun _ i _ => zs.length - (intOf i).toNat)
  case atStart => exact ⟨0, Nat.zero_le _, rfl, World.ownsRow_made w #[] 0 (Nat.le_refl _) (by unfold maxLen; omega) rfl, (Ext.refl _).alloc _⟩
  case round =>
    obtain ⟨k, hk, rfl, HO, HE⟩ := hrel
    by_cases hlt : k < zs.length
    · obtain ⟨z, hzk⟩ : ∃ z, zs[k]? = some z := ⟨_, List.getElem?_eq_getElem hlt⟩
      obtain ⟨b, off, rfl, hb, hN⟩ := HX.out (by omega)
      have HZA : Hid (ZAt wr b (off + k * 5) z) := ⟨Nat.lt_of_lt_of_le hb HE.out.size, hN.ext hb HE.out k z hzk⟩
      have HLz : Hid (Calls Tryz.prog 167 #[.pointer (some ⟨b, off + k * 5, none⟩)] wr fun e w' => e = .returned (.int .i64 (Sm.leaf z)) ∧ Ext wr w') := HL.out z b _ wr (List.mem_of_getElem? hzk) HZA.out
      have HZ : Hid ((zs.take (k + 1)).map Sm.leaf = (zs.take k).map Sm.leaf ++ [Sm.leaf z]) := by
        show _ = _
        obtain ⟨hkl, rfl⟩ := List.getElem?_eq_some_iff.1 hzk
        rw [List.take_succ_eq_append_getElem hkl, List.map_append]; rfl
      generalize Sm.leaf z = t at *
      clear hN hzk hb
      go_wp2_with fail
      refine HLz.out.mono ?_
      rintro e w5 ⟨rfl, hb5⟩
      have HO5 : Hid (w5.ownsRow w.heap.size 2 1 u3 k (((zs.take k).map Sm.leaf).map (Value.int .i64))) := by
        refine ⟨HO.out.1, ?_⟩
        rcases HO.out.2 with hn | ⟨g, cp, cur, rfl, hb, hgg, rest⟩
        · exact .inl hn
        · exact .inr ⟨g, cp, cur, rfl, hb, (hb5.block g (Array.getElem?_eq_some_iff.1 hgg).1).trans hgg, rest⟩
      have HE5 : Hid (Ext w w5) := HE.out.trans hb5
      clear hb5
      go_wp2_with (at_builtin; go_must (refine wpList_append_own _ rfl _ _ 164 rfl w.heap.size 2 i0 (.int .i64 0) 1 8 Tryz.underlying164 hi hz0 hz1 hz2 rfl (by decide) _ _ _ rfl (HO5.out.alloc _) ⟨w5.heap.size, 0, none⟩ 1 1 [.int .i64 t] rfl rfl (cell_one_new _ _ _) (fun x hx => by simp at hx; subst hx; rfl) (by unfold maxLen; omega) (by omega) (by have := HE5.out.size; simp; omega) ?_; intro v' w6 hown' hgrow hnil))
      refine ⟨⟨k + 1, by omega, by go_num, ?_, (HE5.out.alloc _).grown hgrow (by have := HE5.out.size; simp; omega) (fun q hq => (HO5.out.lt q hq).1)⟩, by simp [intOf]; omega⟩
      show w6.ownsRow _ _ _ _ _ _
      rw [HZ.out, List.map_append]
      exact hown'
    · have hke : k = zs.length := by omega
      have HF : Hid (wr.ownsRow w.heap.size 2 1 u3 (zs.map Sm.leaf).length ((zs.map Sm.leaf).map (Value.int .i64))) := by
        have h := HO.out
        rw [hke, List.take_length] at h
        rw [List.length_map]
        exact h
      go_wp2
      go_ret
      exact ⟨_, rfl, HF.out, HE.out⟩

theorem l3Leaves_any (v : Value) (zs : List Zn) (w : World) (hS : NSlice w v zs) (h20 : zs.length ≤ 20) (hz : ∀ z ∈ zs, Sm.nodeC z = 0) :
    Calls Tryz.prog 114 #[v] w fun e w' => ∃ v', e = .returned v' ∧ ISlice w' v' (zs.map Sm.leaf) ∧ Ext w w' :=
  (l3Leaves_own v zs w hS h20 hz).mono fun _ _ ⟨v', h1, h2, h3⟩ => ⟨v', h1, nums_of_owns4 h2, h3⟩

set_option maxHeartbeats 2000000 in
set_option maxRecDepth 100000 in
theorem l3Row_own (v : Value) (l : List Int) (w : World) (hS : ISlice w v l) (h20 : l.length ≤ 20) (ho : Sm.ok l = true) :
    Calls Tryz.prog 115 #[v] w fun e w' => ∃ v', e = .returned v' ∧ w'.ownsRow w.heap.size 2 1 v' (Sm.up l).length ((Sm.up l).map (Value.int .i64)) ∧ Ext w w' := by
  have hi9 : (Tryz.prog.info? 2).map (fun i => (i.zero, i.size, i.bytes)) = some (some (.int .i64 0), 1, 8) := by kernel_rfl
  obtain ⟨i0, hi, hx9⟩ := Option.map_eq_some_iff.1 hi9
  simp only [Prod.mk.injEq] at hx9
  obtain ⟨hz0, hz1, hz2⟩ := hx9
  clear hi9
  have HO0 : Hid (Sm.ok l = true) := ho
  obtain ⟨a, cap, rfl, hlc, hcm, hx⟩ := hS
  have HX : Hid (0 < l.length → ∃ b off, a = some ⟨b, off, none⟩ ∧ b < w.heap.size ∧ NumsAt w b off l) := hx
  clear hx ho
  unfold maxLen at hcm
  go_enter Tryz.func115, Tryz.ntmps115
  go_wp2
  go_loopw [3, 4] (fun lv i wr => ∃ (j k : Nat), k ≤ l.length + 1 ∧ i = .int .i64 k ∧ Hid (k = 2 * j) ∧ Hid (wr.ownsRow w.heap.size 2 1 lv j ((Sm.up (l.take (2 * j))).map (Value.int .i64))) ∧ Hid (Ext w wr)) (fun _ i _ => l.length + 1 - (intOf i).toNat)
  case atStart => exact ⟨0, 0, Nat.zero_le _, rfl, rfl, World.ownsRow_made w #[] 0 (Nat.le_refl _) (by unfold maxLen; omega) rfl, (Ext.refl _).alloc _⟩
  case round =>
    obtain ⟨j, k, hk, rfl, HK, HO, HE⟩ := hrel
    by_cases hlt : k < l.length
    · obtain ⟨x, hx⟩ : ∃ x, l[k]? = some x := ⟨_, List.getElem?_eq_getElem hlt⟩
      obtain ⟨b, off, rfl, hb, hN⟩ := HX.out (by omega)
      have cx := hN.ext hb HE.out k x hx
      obtain ⟨hx0, hx1⟩ := Sm.ok_at hx HO0.out
      have HXk : Hid (l[k]? = some x) := hx
      have hj20 : j ≤ 20 := by have := HK.out; omega
      by_cases h2 : k + 1 < l.length
      · obtain ⟨y, hy⟩ : ∃ y, l[k + 1]? = some y := ⟨_, List.getElem?_eq_getElem h2⟩
        have cy := hN.ext hb HE.out (k + 1) y hy
        obtain ⟨hy0, hy1⟩ := Sm.ok_at hy HO0.out
        have HP : Hid (∀ wx : World, Calls Tryz.prog 168 #[.int .i64 x, .int .i64 y] wx fun e w' => e = .returned (.int .i64 (Sm.sum [1, x, y])) ∧ Ext wx w') := fun wx => l3Pair_any x y wx (Sm.is_iff.2 ⟨hx0, hx1⟩) (Sm.is_iff.2 ⟨hy0, hy1⟩)
        have HU3 : Hid (Sm.up (l.take (2 * (j + 1))) = Sm.up (l.take (2 * j)) ++ [Sm.sum [1, x, y]]) := by
          have e := HK.out
          exact Sm.up_pair j l x y (by rw [← e]; exact HXk.out) (by rw [← e]; exact hy)
        generalize Sm.sum [1, x, y] = t at *
        obtain ⟨k', hk'⟩ : ∃ k', k' = k + 1 := ⟨_, rfl⟩
        rw [← hk'] at cy
        have hk1 : (k : Int) + 1 = (k' : Int) := by omega
        have i5 : (0 : Int) ≤ (k' : Int) := by omega
        have i7 : (k' : Int) < (l.length : Int) := by omega
        have i8 : IntKind.i64.wrap (k' : Int) = (k' : Int) := by rw [IntKind.wrap_i64]; omega
        have j5 : (0 : Int) ≤ (k : Int) := by omega
        have j7 : (k : Int) < (l.length : Int) := by omega
        have hbr : b < wr.heap.size := Nat.lt_of_lt_of_le hb HE.out.size
        have HBb : Hid (b < w.heap.size) := hb
        clear hN hx hy hb hk'
        go_wp2
        go_region_held3 (fun W => W.cell? ⟨b, off + k, none⟩ = some (.int .i64 x) ∧ W.cell? ⟨b, off + k', none⟩ = some (.int .i64 y)) (first | exact ⟨cx, cy⟩ | exact ⟨cx5, cy5⟩ | exact ⟨cx6, cy6⟩ | exact ⟨(alloc_cell _ _ _ _ hbr5).trans cx5, (alloc_cell _ _ _ _ hbr5).trans cy5⟩ | go_keep)
          (first | (go_at_call 168; refine (HP.out _).mono ?_; rintro e w5 ⟨rfl, hb5⟩; have cx5 := ((Ext.cell hb5).1 b (off + k) (by simpa using hbr)).trans cx; have cy5 := ((Ext.cell hb5).1 b (off + k') (by simpa using hbr)).trans cy; have HE5 : Hid (Ext w w5) := HE.out.drew.trans hb5; have hbr5 : b < w5.heap.size := Nat.lt_of_lt_of_le HBb.out HE5.out.size; have HO5 : Hid (w5.ownsRow w.heap.size 2 1 u3 j ((Sm.up (l.take (2 * j))).map (Value.int .i64))) := own_ext HO.out.drew hb5; clear hb5) | (refine step_append_own1 _ rfl (.tmp 17) (.tmp 28) 164 rfl w.heap.size 2 i0 (.int .i64 0) 1 8 Tryz.underlying164 hi hz0 hz1 hz2 rfl (by decide) u3 j _ (by simp [Act.eval]) (HO5.out.alloc _) ⟨w5.heap.size, 0, none⟩ 1 1 [.int .i64 t] (by simp [Act.eval]) rfl (cell_one_new _ _ _) (fun x hx => by simp at hx; subst hx; rfl) (by unfold maxLen; omega) (by omega) (by have := HE5.out.size; simp; omega) ?_; intro v' w6 hown' hgrow hnil; have HF6 : Hid (w6.ownsRow w.heap.size 2 1 v' (j + 1) ((Sm.up (l.take (2 * j))).map (Value.int .i64) ++ [.int .i64 t]) ∧ Ext w w6) := ⟨hown', (HE5.out.alloc _).grown hgrow (by have := HE5.out.size; simp; omega) (fun q hq => (HO5.out.lt q hq).1)⟩; have cx6 := (Below.cell (HF6.out.2) (p := ⟨b, off + k, none⟩) HBb.out).trans ((Below.cell HE.out (p := ⟨b, off + k, none⟩) HBb.out).symm.trans cx); have cy6 := (Below.cell (HF6.out.2) (p := ⟨b, off + k', none⟩) HBb.out).trans ((Below.cell HE.out (p := ⟨b, off + k', none⟩) HBb.out).symm.trans cy); clear hown' hgrow hnil))
        all_goals
          clear hk1 i5 i7 i8
          go_wp2
          refine ⟨⟨j + 1, k + 2, by omega, by go_num, by show k + 2 = 2 * (j + 1); have := HK.out; omega, ?_, HF6.out.2⟩, by simp [intOf]; omega⟩
          show w6.ownsRow _ _ _ _ _ _
          rw [HU3.out, List.map_append]
          exact HF6.out.1
      · have HU3 : Hid (Sm.up (l.take (2 * (j + 1))) = Sm.up (l.take (2 * j)) ++ [x]) := by
          have e := HK.out
          have h := Sm.up_one j l x (by rw [← e]; exact HXk.out) (by omega)
          show _ = _
          rw [List.take_of_length_le (by omega), h]
        clear hN hx hb
        go_wp2_with (at_builtin; go_must (refine wpList_append_own _ rfl _ _ 164 rfl w.heap.size 2 i0 (.int .i64 0) 1 8 Tryz.underlying164 hi hz0 hz1 hz2 rfl (by decide) _ _ _ rfl (HO.out.alloc _) ⟨wr.heap.size, 0, none⟩ 1 1 [.int .i64 x] rfl rfl (cell_one_new _ _ _) (fun x hx => by simp at hx; subst hx; rfl) (by unfold maxLen; omega) (by omega) (by have := HE.out.size; simp; omega) ?_; intro v' w6 hown' hgrow hnil))
        refine ⟨⟨j + 1, k + 2, by omega, by go_num, by show k + 2 = 2 * (j + 1); have := HK.out; omega, ?_, (HE.out.alloc _).grown hgrow (by have := HE.out.size; simp; omega) (fun q hq => (HO.out.lt q hq).1)⟩, by simp [intOf]; omega⟩
        show w6.ownsRow _ _ _ _ _ _
        rw [HU3.out, List.map_append]
        exact hown'
    · have HF : Hid (wr.ownsRow w.heap.size 2 1 u3 (Sm.up l).length ((Sm.up l).map (Value.int .i64))) := by
        have h := HO.out
        have e := HK.out
        rw [List.take_of_length_le (by omega)] at h
        rw [Sm.up_len, show (l.length + 1) / 2 = j from by omega]
        exact h
      go_wp2
      go_ret
      exact ⟨_, rfl, HF.out, HE.out⟩

theorem l3Row_any (v : Value) (l : List Int) (w : World) (hS : ISlice w v l) (h20 : l.length ≤ 20) (ho : Sm.ok l = true) :
    Calls Tryz.prog 115 #[v] w fun e w' => ∃ v', e = .returned v' ∧ ISlice w' v' (Sm.up l) ∧ Ext w w' :=
  (l3Row_own v l w hS h20 ho).mono fun _ _ ⟨v', h1, h2, h3⟩ => ⟨v', h1, nums_of_owns4 h2, h3⟩

def lenOf : Value → Nat
  | .slice _ n _ => n
  | _ => 0
set_option maxHeartbeats 2000000 in
set_option maxRecDepth 100000 in
theorem l3Root_any (v : Value) (zs : List Zn) (w : World) (hS : NSlice w v zs) (h20 : zs.length ≤ 20) (h0 : 1 ≤ zs.length) (hz : ∀ z ∈ zs, Sm.nodeC z = 0) :
    Calls Tryz.prog 57 #[v] w fun e w' => e = .returned (.int .i64 (Sm.root (zs.map Sm.leaf))) ∧ Ext w w' := by
  have HL : Hid (Calls Tryz.prog 114 #[v] w fun e w' => ∃ v', e = .returned v' ∧ ISlice w' v' (zs.map Sm.leaf) ∧ Ext w w') := l3Leaves_any v zs w hS h20 hz
  obtain ⟨a, cap, rfl, -⟩ := hS
  obtain ⟨l0, hl0⟩ : ∃ l0, l0 = zs.map Sm.leaf := ⟨_, rfl⟩
  have hl1 : 1 ≤ l0.length := by rw [hl0]; simpa using h0
  have hl20 : l0.length ≤ 20 := by rw [hl0]; simpa using h20
  have HO0 : Hid (Sm.ok l0 = true) := by rw [hl0]; exact Sm.leaves_ok zs
  rw [← hl0] at HL ⊢
  clear hl0 hz h0 h20
  obtain ⟨R, hR⟩ : ∃ R, R = Sm.root l0 := ⟨_, rfl⟩
  rw [← hR]
  have HR : Hid (R = Sm.rootF l0.length l0) := hR
  clear hR
  go_enter Tryz.func57, Tryz.ntmps57
  go_wp2_with fail
  refine HL.out.mono ?_
  rintro e w1 ⟨v1, rfl, h1, hb1⟩
  have H1 : Hid (ISlice w1 v1 l0) := h1
  have HE1 : Hid (Ext w w1) := hb1
  clear h1 hb1
  go_wp2
  go_loopw [3] (fun rv wr => ∃ (l : List Int) (f : Nat), 1 ≤ l.length ∧ l.length ≤ 20 ∧ Hid (ISlice wr rv l) ∧ Hid (Sm.ok l = true ∧ l.length ≤ f ∧ Sm.rootF f l = R) ∧ Hid (Ext w wr)) (fun rv _ => lenOf rv)
  case atStart => exact ⟨l0, l0.length, hl1, hl20, H1.out, ⟨HO0.out, Nat.le_refl _, HR.out.symm⟩, HE1.out⟩
  case round =>
    obtain ⟨l, f, hp, hq, HS, HF, HE⟩ := hrel
    have hs := HS.out
    obtain ⟨a', cap', rfl, hlc, hcm, hx⟩ := hs
    unfold maxLen at hcm
    by_cases hlt : 1 < l.length
    · have HRw : Hid (Calls Tryz.prog 115 #[.slice a' l.length cap'] wr fun e w' => ∃ v', e = .returned v' ∧ ISlice w' v' (Sm.up l) ∧ Ext wr w') := l3Row_any _ l wr HS.out hq HF.out.1
      obtain ⟨f', hf1, hf2⟩ := Sm.rootF_step hlt HF.out.2.1
      have HF' : Hid (Sm.ok (Sm.up l) = true ∧ (Sm.up l).length ≤ f' ∧ Sm.rootF f' (Sm.up l) = R) := ⟨Sm.up_ok l HF.out.1, hf1, by rw [hf2]; exact HF.out.2.2⟩
      have hul : (Sm.up l).length = (l.length + 1) / 2 := Sm.up_len l
      clear hx hf1 hf2
      go_wp2_with fail
      refine HRw.out.mono ?_
      rintro e w5 ⟨v5, rfl, h5, hb5⟩
      have H5 : Hid (ISlice w5 v5 (Sm.up l)) := h5
      have HE5 : Hid (Ext w w5) := HE.out.trans hb5
      have hv5 : lenOf v5 = (Sm.up l).length := by obtain ⟨_, _, rfl, _⟩ := h5; rfl
      clear h5 hb5
      go_wp2
      exact ⟨⟨Sm.up l, f', by omega, by omega, H5, HF', HE5⟩, by rw [hv5, hul]; simp [lenOf]; omega⟩
    · obtain ⟨b, off, rfl, hb, hN⟩ := hx (by omega)
      obtain ⟨x, rfl⟩ : ∃ x, l = [x] := by
        match l, hp, hlt with
        | [x], _, _ => exact ⟨x, rfl⟩
        | [], hp, _ => simp at hp
        | _ :: _ :: _, _, hlt => simp at hlt
      have hRx : R = x := by rw [← HF.out.2.2, Sm.rootF_end (by simp)]; rfl
      have cx := hN 0 x rfl
      rw [Nat.add_zero] at cx
      subst hRx
      clear hN hb
      simp only [List.length_cons, List.length_nil, Nat.zero_add]
      go_wp2
      go_ret
      exact ⟨rfl, HE.out⟩
end Go.Proofs.YtdjnkchaapcjpaaGreatDoor

/- RootOf: of the specification and of the program. -/
namespace Go.Proofs.YtdjnkchaapcjpaaGreatDoor
open Go.RowKit

namespace Tre
theorem fault_few {zs : List Zn} (h1 : fault zs = 0) : zs.length ≤ 20 ∧ 1 ≤ zs.length := by
  refine ⟨(fault_nodes h1).1, ?_⟩
  rcases atI_range zs top with ⟨hm, _⟩ | ⟨k, z, _, hk, _, _⟩
  · have := (fault_hang h1).1; omega
  · omega
end Tre
theorem fault_nodeC {zs : List Zn} (h1 : Tre.fault zs = 0) : ∀ z ∈ zs, Sm.nodeC z = 0 := fun z hz => by
  obtain ⟨h2, h3⟩ := Tre.fault_nums h1 z hz
  rw [Sm.nodeC_nums h2 h3]; rfl
def Sm.rootV (zs : List Zn) : Int × Int := if Tre.fault zs ≠ 0 then (Tre.fault zs, 0) else (0, Sm.root (zs.map Sm.leaf))
theorem Sm.rootV_bad {zs : List Zn} {c : Int} (h : Tre.fault zs = c) (hc : c ≠ 0) : Sm.rootV zs = (c, 0) := by unfold Sm.rootV; rw [h, if_pos hc]
theorem Sm.rootV_ok {zs : List Zn} (h : Tre.fault zs = 0) : Sm.rootV zs = (0, Sm.root (zs.map Sm.leaf)) := by unfold Sm.rootV; rw [h, if_neg (by decide)]

/-- How the row lies in a round of the climb. -/
def Climb (w : World) (B : Nat) (R : Int) (l : List Int) (wr : World) : Prop :=
  ∃ Rw f, RowV Rw l ∧ RowAt wr B Rw ∧ Sm.ok l = true ∧ l.length ≤ f ∧ Sm.rootF f l = R ∧ IBox wr w.heap.size ∧ Ext w wr

theorem climb_start {w w3 W : World} {R0 : List Value} {l0 : List Int} {r : Int} (hV : RowV R0 l0) (ho : Sm.ok l0 = true) (hr : r = Sm.rootF l0.length l0) (hq : IBox w3 w.heap.size) (he : Ext w w3) (hW : (w3.alloc (.cells zeroRow.toArray 171)).setCells w3.heap.size 0 R0 = W) : Climb w w3.heap.size r l0 W := by
  have e3 : Ext w3 W := by rw [← hW]; exact ext_setCells _ (Nat.le_refl _) _ _ _ ((Ext.refl _).alloc _)
  refine ⟨R0, l0.length, hV, ?_, ho, Nat.le_refl _, hr.symm, hq.ext e3, he.trans e3⟩
  rw [← hW]
  exact (RowAt.new w3 zeroRow _).stored (by simp [zeroRow, hV.1])
def manyAt (w : World) (B : Nat) : Nat := match w.cell? ⟨B, 0, none⟩ with
  | some (.int _ n) => n.toNat
  | _ => 0

theorem manyAt_climb {w wr : World} {B : Nat} {r : Int} {l : List Int} (h : Climb w B r l wr) : manyAt wr B = l.length := by
  obtain ⟨Rw, f, hV, hA, _⟩ := h
  unfold manyAt
  rw [(hA.cell hV.many).1]
  simp
theorem IBox.storedOther {w : World} {r b : Nat} {vs : List Value} (h : IBox w r) (hb : r ≠ b) : IBox (w.setCells b 0 vs) r := by
  obtain ⟨h1, h2, h3, h5, h6⟩ := h
  refine ⟨by rw [setCells_size]; exact h1, ?_, ?_, by rw [World.frozen?_setCells]; exact h5, by rw [World.frozen?_setCells]; exact h6⟩
  · rw [World.cell?_setCells_out b vs 0 w ⟨r, 0, none⟩ (fun e _ => absurd e hb)]; exact h2
  · rw [World.cell?_setCells_out b vs 0 w ⟨r, 1, none⟩ (fun e _ => absurd e hb)]; exact h3

set_option maxHeartbeats 2000000 in
set_option maxRecDepth 100000 in
theorem implRootOf_any (v : Value) (zs : List Zn) (w : World) (hg : Gd w) (hS : NSlice w v zs) :
    Calls Tryz.prog 58 #[v] w fun e w' => e = .returned (ir (Sm.rootV zs)) ∧ Ext w w' := by
  have HF : Hid (∀ wx : World, Ext w wx → Calls Tryz.prog 47 #[v] wx fun e w' => e = .returned (.int .i64 (Tre.fault zs)) ∧ Ext wx w') := fun wx h => implTreeFault_any v zs wx (hg.ext h) (hS.ext h)
  have HS : Hid (NSlice w v zs) := hS
  have HG : Hid (Gd w) := hg
  clear hg
  obtain ⟨a, cap, rfl, -⟩ := hS
  by_cases hc0 : Tre.fault zs ≠ 0
  · rw [Sm.rootV_bad rfl hc0]
    generalize Tre.fault zs = c at *
    go_enter Tryz.func58, Tryz.ntmps58
    go_wp2_with fail
    refine (HF.out _ ((Ext.refl _).alloc _)).mono ?_
    rintro e w2 ⟨rfl, hb⟩
    have HB : Hid (Ext w w2) := ((Ext.refl _).alloc _).trans hb
    obtain ⟨q, q0, q1, f0, f1⟩ := (IBox.new w _).ext hb
    clear hb
    go_wp2
    exact bodyPost_ret (v := ir (c, 0)) (by simp [results, Tryz.results58, go_sem, ir, q0, q1]) rfl ⟨rfl, HB.out.two _ _⟩
  · have hc1 : Tre.fault zs = 0 := by omega
    rw [Sm.rootV_ok hc1]
    rw [hc1] at HF
    have HL : Hid (∀ wx : World, Ext w wx → Calls Tryz.prog 116 #[.slice a zs.length cap] wx fun e w' => ∃ R : List Value, e = .returned (.agg R.toArray) ∧ RowV R (zs.map Sm.leaf) ∧ Ext wx w') := fun wx h => leavesOf_any _ zs wx (HG.out.ext h) (HS.out.ext h) (Tre.fault_few hc1).1 (fault_nodeC hc1)
    obtain ⟨l0, hl0⟩ : ∃ l0, l0 = zs.map Sm.leaf := ⟨_, rfl⟩
    have hl1 : 1 ≤ l0.length := by rw [hl0]; simpa using (Tre.fault_few hc1).2
    have HO0 : Hid (Sm.ok l0 = true) := by rw [hl0]; exact Sm.leaves_ok zs
    rw [← hl0] at HL ⊢
    clear hc0 hc1 hl0
    obtain ⟨r, hr⟩ : ∃ r, r = Sm.root l0 := ⟨_, rfl⟩
    rw [← hr]
    have HR : Hid (r = Sm.rootF l0.length l0) := hr
    clear hr
    go_enter Tryz.func58, Tryz.ntmps58
    go_wp2_with fail
    refine (HF.out _ ((Ext.refl _).alloc _)).mono ?_
    rintro e w2 ⟨rfl, hb⟩
    have HB : Hid (Ext w w2) := ((Ext.refl _).alloc _).trans hb
    have HQ2 : Hid (IBox w2 w.heap.size) := (IBox.new w _).ext hb
    clear hb
    go_wp2_with fail
    refine (HL.out _ HB.out).mono ?_
    rintro e w3 ⟨R0, rfl, hV0, hb⟩
    have HB3 : Hid (Ext w w3) := HB.out.trans hb
    have HQ3 : Hid (IBox w3 w.heap.size) := HQ2.out.ext hb
    have HV0 : Hid (RowV R0 l0) := hV0
    have hi21 : (Tryz.prog.info? 171).map (·.size) = some R0.toArray.size := by rw [rowInfo]; simp [hV0.1]
    have h1c : R0.toArray.all (·.oneCell') = true := all_oneCell_toArray hV0.2.2.2.2
    have HT : Hid ((w3.alloc (.cells zeroRow.toArray 171)).there w3.heap.size 0 R0.toArray.size) := by
      have h := (RowAt.new w3 zeroRow 171).there
      rw [show R0.toArray.size = zeroRow.length from by simp [hV0.1, zeroRow]]
      exact h
    clear hb hV0
    go_wp2_with (refine wpList_store_mid rfl 171 _ _ rfl w3.heap.size 0 R0.toArray rfl rfl HT.out hi21 h1c ?_; generalize hW : World.setCells _ _ _ _ = W; have HC : Hid (Climb w w3.heap.size r l0 W) := climb_start HV0.out HO0.out HR.out HQ3.out HB3.out hW; clear hW)
    clear HT hi21 h1c
    simp only [Act.put]
    have hw3 : w.heap.size ≤ w3.heap.size := HB3.out.size
    have hlt3 : w.heap.size ≠ w3.heap.size := by have := HQ3.out.1; omega
    go_loopw [] (fun wr => ∃ l : List Int, 1 ≤ l.length ∧ l.length ≤ 20 ∧ Hid (Climb w w3.heap.size r l wr)) (fun wr => manyAt wr w3.heap.size)
    case atStart => exact ⟨l0, hl1, HV0.out.2.1, HC.out⟩
    case round =>
      obtain ⟨l, hp, hq, HCl⟩ := hrel
      have hmr : manyAt wr w3.heap.size = l.length := manyAt_climb HCl.out
      obtain ⟨Rw, f, hV, hA, ho, hf, hrt, hQ, hE⟩ := HCl.out
      have c0 := (hA.cell hV.many).1
      by_cases hlt : 1 < l.length
      · have HAb : Hid (Calls Tryz.prog 117 #[.agg Rw.toArray] wr fun e w' => ∃ R' : List Value, e = .returned (.agg R'.toArray) ∧ RowV R' (Sm.up l) ∧ Ext wr w') := above_any Rw l wr hV hp ho
        have HRA : Hid (RowAt wr w3.heap.size Rw) := hA
        have hi22 : (Tryz.prog.info? 171).map (·.size) = some Rw.length := by rw [hV.1]; exact rowInfo
        have hRw : Rw.length = 21 := hV.1
        obtain ⟨f', hf1, hf2⟩ := Sm.rootF_step hlt hf
        have HF' : Hid (Sm.ok (Sm.up l) = true ∧ (Sm.up l).length ≤ f' ∧ Sm.rootF f' (Sm.up l) = r) := ⟨Sm.up_ok l ho, hf1, by rw [hf2]; exact hrt⟩
        have hul : (Sm.up l).length = (l.length + 1) / 2 := Sm.up_len l
        have HQE : Hid (IBox wr w.heap.size ∧ Ext w wr) := ⟨hQ, hE⟩
        clear hV hA ho hf hrt hQ hE hf1 hf2
        go_wp2_with (refine wpList_load_mid rfl 171 (.tmp 4) rfl w3.heap.size 0 rfl Rw _ HRA.out.2.1 Tryz.underlying171 rfl hi22 ?_)
        refine HAb.out.mono ?_
        rintro e w5 ⟨R5, rfl, hV5, hb5⟩
        have hi25 : (Tryz.prog.info? 171).map (·.size) = some R5.toArray.size := by rw [rowInfo]; simp [hV5.1]
        have h5c : R5.toArray.all (·.oneCell') = true := all_oneCell_toArray hV5.2.2.2.2
        have HT5 : Hid (w5.there w3.heap.size 0 R5.toArray.size) := by
          have h := (HRA.out.ext hb5).there
          rw [show R5.toArray.size = Rw.length from by simp [hV5.1, hRw]]
          exact h
        have HK5 : Hid (∀ W, w5.setCells w3.heap.size 0 R5 = W → Climb w w3.heap.size r (Sm.up l) W) := fun W hW => by
          rw [← hW]
          refine ⟨R5, f', hV5, (HRA.out.ext hb5).stored (by rw [hV5.1, hRw]), HF'.out.1, HF'.out.2.1, HF'.out.2.2, ?_, ext_setCells _ hw3 _ _ _ (HQE.out.2.trans hb5)⟩
          exact (HQE.out.1.ext hb5).storedOther hlt3
        clear hV5 hb5
        go_wp2_with (refine wpList_store_mid rfl 171 _ _ rfl w3.heap.size 0 R5.toArray rfl rfl HT5.out hi25 h5c ?_; generalize hW : World.setCells _ _ _ _ = W5; have HC5 : Hid (Climb w w3.heap.size r (Sm.up l) W5) := HK5.out W5 hW; clear hW)
        exact ⟨⟨_, _, _, _, _, ⟨Sm.up l, by omega, by omega, HC5⟩, rfl⟩, by rw [hmr, manyAt_climb HC5.out, hul]; omega⟩
      · obtain ⟨x, rfl⟩ : ∃ x, l = [x] := by
          match l, hp, hlt with
          | [x], _, _ => exact ⟨x, rfl⟩
          | [], hp, _ => simp at hp
          | _ :: _ :: _, _, hlt => simp at hlt
        have hRx : r = x := by rw [← hrt, Sm.rootF_end (by simp)]; rfl
        have cx := (hA.cell (hV.at (j := 0) rfl)).1
        obtain ⟨hx0, hx1⟩ := Sm.ok_at (k := 0) rfl ho
        subst hRx
        have wx : IntKind.i64.wrap r = r := by rw [IntKind.wrap_i64]; omega
        have HE : Hid (Ext w wr) := hE
        obtain ⟨q, q0, q1, f0, f1⟩ := hQ
        clear hV hA ho hf hrt hE hmr
        simp only [List.length_cons, List.length_nil, Nat.zero_add] at c0
        go_wp2
        exact bodyPost_ret (v := ir (0, r)) (by simp [results, Tryz.results58, go_sem, ir, q0, q1]) rfl ⟨rfl, HE.out.two _ _⟩
end Go.Proofs.YtdjnkchaapcjpaaGreatDoor

/- RootIn: of the specification and of the program. -/
namespace Go.Proofs.YtdjnkchaapcjpaaGreatDoor
open Go.RowKit
def Sta.rootV (s : Stt) : Int × Int := if Sta.fault s ≠ 0 then (Sta.fault s, 0) else (0, Sm.root (s.nodes.map Sm.leaf))
theorem Sta.rootV_bad {s : Stt} {c : Int} (h : Sta.fault s = c) (hc : c ≠ 0) : Sta.rootV s = (c, 0) := by unfold Sta.rootV; rw [h, if_pos hc]
theorem Sta.rootV_ok {s : Stt} (h : Sta.fault s = 0) : Sta.rootV s = (0, Sm.root (s.nodes.map Sm.leaf)) := by unfold Sta.rootV; rw [h, if_neg (by decide)]

set_option maxHeartbeats 2000000 in
set_option maxRecDepth 100000 in
theorem specRootIn_any (s : Stt) (vn vs vm : Value) (w : World) (hz : s.fits) (hS : SSlice w vn vs vm s) :
    Calls Tryz.prog 17 #[sagg vn vs s.now vm] w fun e w' => e = .returned (ir (Sta.rootV s)) ∧ Ext w w' := by
  have HS : Hid (SSlice w vn vs vm s) := hS
  obtain ⟨⟨an, cn, rfl, -⟩, ⟨ae, cs, rfl, -⟩, ⟨am, cm, rfl, -⟩⟩ := hS
  have HF : Hid (∀ wx : World, Ext w wx → SBoxAt wx w.heap.size (.slice an s.nodes.length cn) (.slice ae s.ses.length cs) (.int .i64 s.now) (.slice am s.marks.length cm) → Calls Tryz.prog 44 #[.pointer (some ⟨w.heap.size, 0, none⟩)] wx fun e w' => e = .returned (.int .i64 (Sta.fault s)) ∧ Ext wx w') := fun wx he h => l6Fault_any _ s an ae am cn cs cm wx h hz (HS.out.ext he)
  clear hz
  unfold sagg
  by_cases hc0 : Sta.fault s ≠ 0
  · rw [Sta.rootV_bad rfl hc0]
    generalize Sta.fault s = c at *
    go_enter Tryz.func17, Tryz.ntmps17
    go_wp2_with fail
    refine (HF.out _ (((Ext.refl _).alloc _).alloc _) ((sbox_new w _ _ _ _ _).ext ((Ext.refl _).alloc _))).mono ?_
    rintro e w2 ⟨rfl, hb⟩
    have HB : Hid (Ext w w2) := (((Ext.refl _).alloc _).alloc _).trans hb
    have qx := (IBox.new (w.alloc _) _).ext hb
    simp only [World.size_alloc] at qx
    obtain ⟨q, q0, q1, f0, f1⟩ := qx
    clear hb
    go_wp2
    exact bodyPost_ret (v := ir (c, 0)) (by simp [results, Tryz.results17, go_sem, ir, q0, q1]) rfl ⟨rfl, HB.out.two1 _ _⟩
  · have hc1 : Sta.fault s = 0 := by omega
    rw [Sta.rootV_ok hc1]
    rw [hc1] at HF
    have hf := (Sta.fault_zero hc1).1
    have HR : Hid (∀ wx : World, Ext w wx → Calls Tryz.prog 57 #[.slice an s.nodes.length cn] wx fun e w' => e = .returned (.int .i64 (Sm.root (s.nodes.map Sm.leaf))) ∧ Ext wx w') := fun wx h => l3Root_any _ s.nodes wx (HS.out.1.ext h) (Tre.fault_few hf).1 (Tre.fault_few hf).2 (fault_nodeC hf)
    clear hc0 hc1 hf
    generalize Sm.root (s.nodes.map Sm.leaf) = r at *
    go_enter Tryz.func17, Tryz.ntmps17
    go_wp2_with fail
    refine (HF.out _ (((Ext.refl _).alloc _).alloc _) ((sbox_new w _ _ _ _ _).ext ((Ext.refl _).alloc _))).mono ?_
    rintro e w2 ⟨rfl, hb⟩
    have HB : Hid (Ext w w2) := (((Ext.refl _).alloc _).alloc _).trans hb
    have qx := (IBox.new (w.alloc _) _).ext hb
    simp only [World.size_alloc] at qx
    obtain ⟨x0, ⟨c0, c1, c2, c3⟩, -, -, -, -⟩ := (sbox_new w (.slice an s.nodes.length cn) (.slice ae s.ses.length cs) (.int .i64 s.now) (.slice am s.marks.length cm) _).ext (((Ext.refl _).alloc _).trans hb)
    have HQ2 : Hid (IBox w2 (w.heap.size + 1)) := qx
    clear hb qx
    go_wp2_with fail
    refine (HR.out _ HB.out).mono ?_
    rintro e w3 ⟨rfl, hb⟩
    have HB3 : Hid (Ext w w3) := HB.out.trans hb
    obtain ⟨q, q0, q1, f0, f1⟩ := HQ2.out.ext hb
    clear hb x0 c0 c1 c2 c3
    go_wp2
    exact bodyPost_ret (v := ir (0, r)) (by simp [results, Tryz.results17, go_sem, ir, q0, q1]) rfl ⟨rfl, HB3.out.two1 _ _⟩

set_option maxHeartbeats 2000000 in
set_option maxRecDepth 100000 in
theorem implRootIn_any (s : Stt) (vn vs vm : Value) (w : World) (hg : Gd w) (hz : s.fits) (hS : SSlice w vn vs vm s) :
    Calls Tryz.prog 18 #[sagg vn vs s.now vm] w fun e w' => e = .returned (ir (Sta.rootV s)) ∧ Ext w w' := by
  have HF : Hid (∀ wx : World, Ext w wx → SSlice wx vn vs vm s → Calls Tryz.prog 12 #[sagg vn vs s.now vm] wx fun e w' => e = .returned (.int .i64 (Sta.fault s)) ∧ Ext wx w') := fun wx he h => implStateFault_any s vn vs vm wx (hg.ext he) hz h
  have HS : Hid (SSlice w vn vs vm s) := hS
  have HR0 : Hid (∀ wx : World, Ext w wx → Calls Tryz.prog 58 #[vn] wx fun e w' => e = .returned (ir (Sm.rootV s.nodes)) ∧ Ext wx w') := fun wx he => implRootOf_any vn s.nodes wx (hg.ext he) (hS.1.ext he)
  obtain ⟨⟨an, cn, rfl, -⟩, ⟨ae, cs, rfl, -⟩, ⟨am, cm, rfl, -⟩⟩ := hS
  clear hz hg
  unfold sagg at *
  by_cases hc0 : Sta.fault s ≠ 0
  · rw [Sta.rootV_bad rfl hc0]
    generalize Sta.fault s = c at *
    go_enter Tryz.func18, Tryz.ntmps18
    go_wp2_with fail
    refine (HF.out _ (((Ext.refl _).alloc _).alloc _) (HS.out.ext (((Ext.refl _).alloc _).alloc _))).mono ?_
    rintro e w2 ⟨rfl, hb⟩
    have HB : Hid (Ext w w2) := (((Ext.refl _).alloc _).alloc _).trans hb
    have qx := (IBox.new (w.alloc _) _).ext hb
    simp only [World.size_alloc] at qx
    obtain ⟨q, q0, q1, f0, f1⟩ := qx
    clear hb
    go_wp2
    exact bodyPost_ret (v := ir (c, 0)) (by simp [results, Tryz.results18, go_sem, ir, q0, q1]) rfl ⟨rfl, HB.out.two1 _ _⟩
  · have hc1 : Sta.fault s = 0 := by omega
    rw [Sta.rootV_ok hc1]
    rw [hc1] at HF
    rw [Sm.rootV_ok (Sta.fault_zero hc1).1] at HR0
    clear hc0 hc1
    generalize Sm.root (s.nodes.map Sm.leaf) = r at *
    unfold ir at HR0
    go_enter Tryz.func18, Tryz.ntmps18
    go_wp2_with fail
    refine (HF.out _ (((Ext.refl _).alloc _).alloc _) (HS.out.ext (((Ext.refl _).alloc _).alloc _))).mono ?_
    rintro e w2 ⟨rfl, hb⟩
    have HB : Hid (Ext w w2) := (((Ext.refl _).alloc _).alloc _).trans hb
    have qx := (IBox.new (w.alloc _) _).ext hb
    simp only [World.size_alloc] at qx
    obtain ⟨x0, ⟨c0, c1, c2, c3⟩, -, -, -, -⟩ := (sbox_new w (.slice an s.nodes.length cn) (.slice ae s.ses.length cs) (.int .i64 s.now) (.slice am s.marks.length cm) _).ext (((Ext.refl _).alloc _).trans hb)
    have HQ2 : Hid (IBox w2 (w.heap.size + 1)) := qx
    clear hb qx
    go_wp2_with fail
    refine (HR0.out _ HB.out).mono ?_
    rintro e w3 ⟨rfl, hb⟩
    have HB3 : Hid (Ext w w3) := HB.out.trans hb
    obtain ⟨q, q0, q1, f0, f1⟩ := HQ2.out.ext hb
    clear hb x0 c0 c1 c2 c3
    go_wp2
    exact bodyPost_ret (v := ir (0, r)) (by simp [results, Tryz.results18, go_sem, ir, q0, q1]) rfl ⟨rfl, HB3.out.two1 _ _⟩
end Go.Proofs.YtdjnkchaapcjpaaGreatDoor

/- laws.FnExactRootIn answers true at every argument. -/
namespace Go.Proofs.YtdjnkchaapcjpaaGreatDoor
open Go.RowKit
set_option maxHeartbeats 8000000 in
set_option maxRecDepth 100000 in
theorem lawRootIn (az : Stt) (vn vs vm : Value) (w : World) (hg : Gd w) (hSa : SSlice w vn vs vm az) (hza : az.fits) :
    Calls Tryz.prog 5 #[sagg vn vs az.now vm] w fun e w' => e = .returned (.bool true) ∧ Ext w w' := by
  have Ha : Hid (SSlice w vn vs vm az) := hSa
  have HSza : Hid (∀ (p : Int) (wx : World), 0 ≤ p → p ≤ 1048576 → Ext w wx → Calls Tryz.prog 9 #[sagg vn vs az.now vm, .int .i64 p] wx fun e w' => ∃ q : Int, e = .returned (.int .i64 q) ∧ -1 ≤ q ∧ q ≤ 1048576 ∧ (0 ≤ q → az.small) ∧ Ext wx w') := fun p wx h0 h1 he => szState_le az vn vs vm p wx h0 h1 (hSa.ext he) hza
  have HTa : Hid (az.small → ∀ wx : World, Ext w wx → Calls Tryz.prog 11 #[sagg vn vs az.now vm] wx fun e w' => ∃ an cn ae cs am cm, e = .returned (sagg (.slice an az.nodes.length cn) (.slice ae az.ses.length cs) az.now (.slice am az.marks.length cm)) ∧ SSlice w' (.slice an az.nodes.length cn) (.slice ae az.ses.length cs) (.slice am az.marks.length cm) az ∧ Ext wx w') := fun hl wx he => toState_any az vn vs vm wx (Ha.out.ext he) hl
  have HEa : Hid (∀ (vn vs vm un us um : Value) (wx : World), SSlice wx vn vs vm az → SSlice wx un us um az → Calls Tryz.prog 13 #[sagg vn vs az.now vm, sagg un us az.now um] wx fun e w' => e = .returned (.bool true) ∧ Ext wx w') := fun vn vs vm un us um wx h1 h2 => eqState_same az vn vs vm un us um wx h1 h2
  have HSp : Hid (∀ (vn vs vm : Value) (wx : World), SSlice wx vn vs vm az → Calls Tryz.prog 17 #[sagg vn vs az.now vm] wx fun e w' => e = .returned (ir (Sta.rootV az)) ∧ Ext wx w') := fun vn vs vm wx h1 => specRootIn_any az vn vs vm wx hza h1
  have HIm : Hid (∀ (vn vs vm : Value) (wx : World), Ext w wx → SSlice wx vn vs vm az → Calls Tryz.prog 18 #[sagg vn vs az.now vm] wx fun e w' => e = .returned (ir (Sta.rootV az)) ∧ Ext wx w') := fun vn vs vm wx he h1 => implRootIn_any az vn vs vm wx (hg.ext he) hza h1
  obtain ⟨⟨an, acn, rfl, -⟩, ⟨ae, acs, rfl, -⟩, ⟨am, acm, rfl, -⟩⟩ := hSa
  clear hza hg
  generalize Sta.rootV az = r at *
  obtain ⟨c, n⟩ := r
  have HQ : Hid (∀ w : World, Calls Tryz.prog 19 #[ir (c, n), ir (c, n)] w fun e w' => e = .returned (.bool true) ∧ Ext w w') := eqIntR_same c n
  unfold ir at HSp HIm HQ
  unfold sagg at *
  go_enter Tryz.func5, Tryz.ntmps5
  go_wp2_with fail
  refine (HSza.out _ _ (by omega) (by omega) ((Ext.refl _).alloc _)).mono ?_
  rintro e w1 ⟨pq, rfl, p0, p1, p2, hb⟩
  have E1 : Hid (Ext w w1) := ((Ext.refl _).alloc _).trans hb
  have AN0 := (sbox_new w (.slice an az.nodes.length acn) (.slice ae az.ses.length acs) (.int .i64 az.now) (.slice am az.marks.length acm) _).ext hb
  have AN : Hid (SBoxAt w1 w.heap.size (.slice an az.nodes.length acn) (.slice ae az.ses.length acs) (.int .i64 az.now) (.slice am az.marks.length acm)) := by (try simp only [World.size_alloc] at AN0); exact AN0
  clear AN0
  clear hb 
  have AB := AN; clear AN
  have HP : Hid _ := p2
  clear p2
  by_cases hn1 : pq < 0
  · go_wp2
    go_ret
    exact ⟨rfl, E1.out⟩
  have Ta : Hid _ := HTa.out (HP.out (by omega))
  clear HTa HP
  obtain ⟨Alt, ⟨Ac0, Ac1, Ac2, Ac3⟩, -, -, -, -⟩ := AB.out
  go_wp2_with fail
  refine (Ta.out _ E1.out).mono ?_
  rintro e w2 ⟨can, cbn, cae, cbs, cam, cbm, rfl, hO, hb⟩
  have E2 : Hid (Ext w w2) := E1.out.trans hb
  have AN : Hid (SBoxAt w2 w.heap.size (.slice an az.nodes.length acn) (.slice ae az.ses.length acs) (.int .i64 az.now) (.slice am az.marks.length acm)) := AB.out.ext hb
  clear hb AB E1 Alt Ac0 Ac1 Ac2 Ac3
  have AB := AN; clear AN
  have PH : Hid (SSlice w2 (.slice can az.nodes.length cbn) (.slice cae az.ses.length cbs) (.slice cam az.marks.length cbm) az) := hO
  clear hO
  go_wp2_with fail
  refine (HSp.out _ _ _ _ PH.out).mono ?_
  rintro e w3 ⟨rfl, hb⟩
  have E3 : Hid (Ext w w3) := E2.out.trans hb
  have AN : Hid (SBoxAt w3 w.heap.size (.slice an az.nodes.length acn) (.slice ae az.ses.length acs) (.int .i64 az.now) (.slice am az.marks.length acm)) := AB.out.ext hb
  have PN : Hid (SSlice w3 (.slice can az.nodes.length cbn) (.slice cae az.ses.length cbs) (.slice cam az.marks.length cbm) az) := PH.out.ext hb
  clear hb AB PH E2
  have AB := AN; clear AN
  have PH := PN; clear PN
  clear PH
  obtain ⟨Alt, ⟨Ac0, Ac1, Ac2, Ac3⟩, -, -, -, -⟩ := AB.out
  have hal := alloc_cell
  go_wp2_with fail
  refine (Ta.out _ (E3.out.alloc _)).mono ?_
  rintro e w4 ⟨ean, ebn, eae, ebs, eam, ebm, rfl, hO, hb⟩
  have E4 : Hid (Ext w w4) := (E3.out.alloc _).trans hb
  have AN : Hid (SBoxAt w4 w.heap.size (.slice an az.nodes.length acn) (.slice ae az.ses.length acs) (.int .i64 az.now) (.slice am az.marks.length acm)) := AB.out.ext (((Ext.refl _).alloc _).trans hb)
  have UN0 := (ibox_new w3 c n _).ext hb
  have UN : Hid (IBoxAt w4 w3.heap.size c n) := by (try simp only [World.size_alloc] at UN0); exact UN0
  clear UN0
  clear hb AB E3 Alt Ac0 Ac1 Ac2 Ac3 hal
  have AB := AN; clear AN
  have UB := UN; clear UN
  have PH : Hid (SSlice w4 (.slice ean az.nodes.length ebn) (.slice eae az.ses.length ebs) (.slice eam az.marks.length ebm) az) := hO
  clear hO
  have hal := alloc_cell
  go_wp2_with fail
  refine (HIm.out _ _ _ _ (E4.out.alloc _) (PH.out.ext ((Ext.refl _).alloc _))).mono ?_
  rintro e w5 ⟨rfl, hb⟩
  have E5 : Hid (Ext w w5) := (E4.out.alloc _).trans hb
  have AN : Hid (SBoxAt w5 w.heap.size (.slice an az.nodes.length acn) (.slice ae az.ses.length acs) (.int .i64 az.now) (.slice am az.marks.length acm)) := AB.out.ext (((Ext.refl _).alloc _).trans hb)
  have UN : Hid (IBoxAt w5 w3.heap.size c n) := UB.out.ext (((Ext.refl _).alloc _).trans hb)
  have PN : Hid (SSlice w5 (.slice ean az.nodes.length ebn) (.slice eae az.ses.length ebs) (.slice eam az.marks.length ebm) az) := PH.out.ext (((Ext.refl _).alloc _).trans hb)
  have XN0 := (sbox_new w4 (.slice ean az.nodes.length ebn) (.slice eae az.ses.length ebs) (.int .i64 az.now) (.slice eam az.marks.length ebm) _).ext hb
  have XN : Hid (SBoxAt w5 w4.heap.size (.slice ean az.nodes.length ebn) (.slice eae az.ses.length ebs) (.int .i64 az.now) (.slice eam az.marks.length ebm)) := by (try simp only [World.size_alloc] at XN0); exact XN0
  clear XN0
  clear hb AB UB PH E4 hal
  have AB := AN; clear AN
  have UB := UN; clear UN
  have XB := XN; clear XN
  have PH := PN; clear PN
  obtain ⟨Ult, Uc0, Uc1⟩ := UB.out
  have hal := alloc_cell
  go_wp2_with fail
  refine (HQ.out _).mono ?_
  rintro e w6 ⟨rfl, hb⟩
  have E6 : Hid (Ext w w6) := (E5.out.alloc _).trans hb
  have AN : Hid (SBoxAt w6 w.heap.size (.slice an az.nodes.length acn) (.slice ae az.ses.length acs) (.int .i64 az.now) (.slice am az.marks.length acm)) := AB.out.ext (((Ext.refl _).alloc _).trans hb)
  have UN : Hid (IBoxAt w6 w3.heap.size c n) := UB.out.ext (((Ext.refl _).alloc _).trans hb)
  have XN : Hid (SBoxAt w6 w4.heap.size (.slice ean az.nodes.length ebn) (.slice eae az.ses.length ebs) (.int .i64 az.now) (.slice eam az.marks.length ebm)) := XB.out.ext (((Ext.refl _).alloc _).trans hb)
  have PN : Hid (SSlice w6 (.slice ean az.nodes.length ebn) (.slice eae az.ses.length ebs) (.slice eam az.marks.length ebm) az) := PH.out.ext (((Ext.refl _).alloc _).trans hb)
  have VN0 := (ibox_new w5 c n _).ext hb
  have VN : Hid (IBoxAt w6 w5.heap.size c n) := by (try simp only [World.size_alloc] at VN0); exact VN0
  clear VN0
  clear hb AB UB XB PH E5 Ult Uc0 Uc1 hal
  have AB := AN; clear AN
  have UB := UN; clear UN
  have XB := XN; clear XN
  have VB := VN; clear VN
  have PH := PN; clear PN
  obtain ⟨Altw6, ⟨Ac0w6, Ac1w6, Ac2w6, Ac3w6⟩, -, -, -, -⟩ := AB.out
  obtain ⟨Xltw6, ⟨Xc0w6, Xc1w6, Xc2w6, Xc3w6⟩, -, -, -, -⟩ := XB.out
  go_wp2
  go_region_held3 (fun W => W.cell? ⟨w.heap.size, 0, none⟩ = some (.slice an az.nodes.length acn) ∧ W.cell? ⟨w.heap.size, 1, none⟩ = some (.slice ae az.ses.length acs) ∧ W.cell? ⟨w.heap.size, 2, none⟩ = some (.int .i64 az.now) ∧ W.cell? ⟨w.heap.size, 3, none⟩ = some (.slice am az.marks.length acm) ∧ W.cell? ⟨w4.heap.size, 0, none⟩ = some (.slice ean az.nodes.length ebn) ∧ W.cell? ⟨w4.heap.size, 1, none⟩ = some (.slice eae az.ses.length ebs) ∧ W.cell? ⟨w4.heap.size, 2, none⟩ = some (.int .i64 az.now) ∧ W.cell? ⟨w4.heap.size, 3, none⟩ = some (.slice eam az.marks.length ebm)) (first | exact ⟨Ac0w6, Ac1w6, Ac2w6, Ac3w6, Xc0w6, Xc1w6, Xc2w6, Xc3w6⟩ | exact ⟨Ac0w7, Ac1w7, Ac2w7, Ac3w7, Xc0w7, Xc1w7, Xc2w7, Xc3w7⟩ | exact ⟨Ac0w8, Ac1w8, Ac2w8, Ac3w8, Xc0w8, Xc1w8, Xc2w8, Xc3w8⟩ | go_keep) (first | (have tk7 := E6; clear tk7; go_at_call 11; refine (Ta.out _ (by first | exact E6.out.drew | exact E6.out)).mono ?_; rintro e w7 ⟨gan, gbn, gae, gbs, gam, gbm, rfl, hO, hb⟩; have X7 : Hid (Ext w6 w7) := (by first | exact ((Ext.refl _).drew).trans hb | exact hb); have E7 : Hid (Ext w w7) := E6.out.trans X7.out; have AN : Hid (SBoxAt w7 w.heap.size (.slice an az.nodes.length acn) (.slice ae az.ses.length acs) (.int .i64 az.now) (.slice am az.marks.length acm)) := AB.out.ext X7.out; have UN : Hid (IBoxAt w7 w3.heap.size c n) := UB.out.ext X7.out; have XN : Hid (SBoxAt w7 w4.heap.size (.slice ean az.nodes.length ebn) (.slice eae az.ses.length ebs) (.int .i64 az.now) (.slice eam az.marks.length ebm)) := XB.out.ext X7.out; have VN : Hid (IBoxAt w7 w5.heap.size c n) := VB.out.ext X7.out; have PN : Hid (SSlice w7 (.slice ean az.nodes.length ebn) (.slice eae az.ses.length ebs) (.slice eam az.marks.length ebm) az) := PH.out.ext X7.out; have ZN : Hid (SSlice w7 (.slice gan az.nodes.length gbn) (.slice gae az.ses.length gbs) (.slice gam az.marks.length gbm) az) := hO; clear hO; clear hb X7 E6 AB UB XB VB PH Altw6 Xltw6 Ac0w6 Ac1w6 Ac2w6 Ac3w6 Xc0w6 Xc1w6 Xc2w6 Xc3w6; have AB := AN; clear AN; have UB := UN; clear UN; have XB := XN; clear XN; have VB := VN; clear VN; have PH := PN; clear PN; have ZH := ZN; clear ZN; obtain ⟨Altw7, ⟨Ac0w7, Ac1w7, Ac2w7, Ac3w7⟩, -, -, -, -⟩ := AB.out; obtain ⟨Xltw7, ⟨Xc0w7, Xc1w7, Xc2w7, Xc3w7⟩, -, -, -, -⟩ := XB.out) | (have tk8 := E7; clear tk8; go_at_call 13; refine (HEa.out _ _ _ _ _ _ _ (PH.out.ext (by first | exact (Ext.refl _).drew | exact Ext.refl _)) (ZH.out.ext (by first | exact (Ext.refl _).drew | exact Ext.refl _))).mono ?_; rintro e w8 ⟨rfl, hb⟩; have X8 : Hid (Ext w7 w8) := (by first | exact ((Ext.refl _).drew).trans hb | exact hb); have E8 : Hid (Ext w w8) := E7.out.trans X8.out; have AN : Hid (SBoxAt w8 w.heap.size (.slice an az.nodes.length acn) (.slice ae az.ses.length acs) (.int .i64 az.now) (.slice am az.marks.length acm)) := AB.out.ext X8.out; have UN : Hid (IBoxAt w8 w3.heap.size c n) := UB.out.ext X8.out; have XN : Hid (SBoxAt w8 w4.heap.size (.slice ean az.nodes.length ebn) (.slice eae az.ses.length ebs) (.int .i64 az.now) (.slice eam az.marks.length ebm)) := XB.out.ext X8.out; have VN : Hid (IBoxAt w8 w5.heap.size c n) := VB.out.ext X8.out; clear PH; clear ZH; clear hb X8 E7 AB UB XB VB Altw7 Xltw7 Ac0w7 Ac1w7 Ac2w7 Ac3w7 Xc0w7 Xc1w7 Xc2w7 Xc3w7; have AB := AN; clear AN; have UB := UN; clear UN; have XB := XN; clear XN; have VB := VN; clear VN; obtain ⟨Altw8, ⟨Ac0w8, Ac1w8, Ac2w8, Ac3w8⟩, -, -, -, -⟩ := AB.out; obtain ⟨Xltw8, ⟨Xc0w8, Xc1w8, Xc2w8, Xc3w8⟩, -, -, -, -⟩ := XB.out))
  go_wp2
  go_ret
  exact ⟨rfl, E8.out⟩
end Go.Proofs.YtdjnkchaapcjpaaGreatDoor
