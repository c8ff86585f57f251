/- T7, S6, in one text. -/
import Derived.Test.YtilinjjimiiplaaGreatDoorKqT6
import Derived.Test.YtilinjjimiiplaaGreatDoorKqJ9
import Derived.Deep.RegionLaw
import Derived.Test.YtilinjjimiiplaaGreatDoorKqS1
import Derived.Test.YtilinjjimiiplaaGreatDoorKqJ6
namespace Go.Proofs.YtilinjjimiiplaaGreatDoor
open Go.RowKit
namespace Tre
def putT (zs : List Zn) (z : Zn) : List Zn := zs.take (cut zs (key z)) ++ z :: zs.drop (cut zs (key z))
theorem less_path (y z : Zn) : Op.bytesLess y.path.toList z.path.toList = decide (key y < key z) := by
  unfold key; rw [less_eq, Lib.toList_data, Lib.toList_data]
end Tre
theorem cells_new (w : World) (z : Zn) (t : TypeId) : ∀ j u, (cellsZ [z])[j]? = some u → (w.alloc (.cells #[.string z.path, .int .i64 z.data, .int .i64 z.version, .int .i64 z.owner, .int .i64 z.next] t)).cell? ((⟨w.heap.size, 0, none⟩ : Addr).add j) = some u := by
  intro j u hu
  have hj := (List.getElem?_eq_some_iff.1 hu).1
  have hl : (cellsZ [z]).length = 5 := rfl
  have h5 : j = 0 ∨ j = 1 ∨ j = 2 ∨ j = 3 ∨ j = 4 := by omega
  rw [Addr.add_lit]
  rcases h5 with rfl | rfl | rfl | rfl | rfl <;> simp [cellsZ, zcells] at hu <;> subst hu <;> simp
/-- The node z was laid behind w, and nothing up to it has turned since. -/
def Boxd (w wx : World) (z : Zn) : Prop := Below (w.heap.size + 1) (w.alloc (.cells #[.string z.path, .int .i64 z.data, .int .i64 z.version, .int .i64 z.owner, .int .i64 z.next] 38)) wx
theorem Boxd.new (w : World) (z : Zn) : Boxd w (w.alloc (.cells #[.string z.path, .int .i64 z.data, .int .i64 z.version, .int .i64 z.owner, .int .i64 z.next] 38)) z := Below.refl _ _
theorem Boxd.ext {w wx : World} {z : Zn} (h : Boxd w wx z) : Ext w wx := ((Ext.refl w).alloc _).trans (Below.mono h (by simp))
theorem Boxd.drew {w wx : World} {z : Zn} (h : Boxd w wx z) : Boxd w wx.drew z := Below.drew h
theorem Boxd.alloc {w wx : World} {z : Zn} (h : Boxd w wx z) (o : Obj) : Boxd w (wx.alloc o) z := Below.alloc h (by have := Below.size h; simpa using this) o
theorem Boxd.size {w wx : World} {z : Zn} (h : Boxd w wx z) : w.heap.size + 1 ≤ wx.heap.size := by have := Below.size h; simpa using this
theorem Boxd.grown {w wx wy : World} {z : Zn} {row : Option Nat} (h : Boxd w wx z) (hg : wx.grownBy wy row) (hr : ∀ q, row = some q → w.heap.size + 1 ≤ q) : Boxd w wy z := Below.grown h hg h.size hr
theorem Boxd.cells {w wx : World} {z : Zn} (h : Boxd w wx z) : wx.cell? ⟨w.heap.size, 0, none⟩ = some (.string z.path) ∧ wx.cell? ⟨w.heap.size, 1, none⟩ = some (.int .i64 z.data) ∧ wx.cell? ⟨w.heap.size, 2, none⟩ = some (.int .i64 z.version) ∧ wx.cell? ⟨w.heap.size, 3, none⟩ = some (.int .i64 z.owner) ∧ wx.cell? ⟨w.heap.size, 4, none⟩ = some (.int .i64 z.next) := by
  have hc := fun r => Below.cell h (p := ⟨w.heap.size, r, none⟩) (by show w.heap.size < _; omega)
  exact ⟨(hc 0).trans (by simp), (hc 1).trans (by simp), (hc 2).trans (by simp), (hc 3).trans (by simp), (hc 4).trans (by simp)⟩
theorem step_append_own {P : Program} (w : World) {ops : Array Oper} {o : Oper} {a : Act} {K : Act → World → Prop} {Q : Exit → Act → World → Prop} {E : Prop} (hgd : o.guard = none) (s x : Operand) (t : TypeId)
    (ho : o.op = .call { callee := .builtin .append, args := #[s, x], argTypes := #[t, t] })
    (base : Nat) (e : TypeId) (i : TypeInfo) (z : Value) (size bytes : Nat) (ht : P.underlying t = some (.slice e)) (hi : P.info? e = some i) (hz : i.zero = some z)
    (hsize : i.size = size) (hby : i.bytes = bytes) (hzs : z.cells.size = size) (hsz : 0 < size)
    (v : Value) (n : Nat) (xs : List Value) (hs : a.eval s = v) (hown : w.ownsRow base e size v n xs)
    (ad : Addr) (m c : Nat) (news : List Value) (hx : a.eval x = .slice (some ad) m c) (hl : news.length = m * size) (hnews : ∀ j u, news[j]? = some u → w.cell? (ad.add j) = some u) (h1 : ∀ u ∈ news, u.oneCell' = true)
    (h63 : n + m ≤ maxLen) (hbytes : (n + m) * bytes ≤ 140737488355328) (hbase : base ≤ w.heap.size)
    (h : ∀ v' w', w'.ownsRow base e size v' (n + m) (xs ++ news) → w.grownBy w' v.ownBlock → (v' = .slice none 0 0 ↔ v = .slice none 0 0 ∧ m = 0) → K (a.put o.dst v') w') :
    if Region.wanted o (yielded ops a.tmps) = true then Oper.wp P o a w K Q else E := by
  have hw : Region.wanted o (yielded ops a.tmps) = true := by simp [Region.wanted, hgd]
  rw [if_pos hw]
  exact wp_append_own w s x t ho base e i z size bytes ht hi hz hsize hby hzs hsz v n xs hs hown ad m c news hx hl hnews h1 h63 hbytes hbase h

set_option maxHeartbeats 4000000 in
set_option maxRecDepth 100000 in
theorem l2Put_any (b off cap : Nat) (zs : List Zn) (z : Zn) (w : World) (hS : NSlice w (.slice (some ⟨b, off, none⟩) zs.length cap) zs) (hl : zs.length ≤ 1000000) (hp : 0 < zs.length) :
    Calls Tryz.prog 80 #[.slice (some ⟨b, off, none⟩) zs.length cap, zagg z] w fun e w' => ∃ v' g, e = .returned v' ∧ w.heap.size ≤ g ∧ Own w' v' g (Tre.putT zs z) ∧ Ext w w' := by
  have hi9 : (Tryz.prog.info? 38).map (fun i => (i.zero, i.size, i.bytes)) = some (some (.agg #[.string ByteArray.empty, .int .i64 0, .int .i64 0, .int .i64 0, .int .i64 0]), 5, 48) := by kernel_rfl
  obtain ⟨i0, hi, hx9⟩ := Option.map_eq_some_iff.1 hi9
  simp only [Prod.mk.injEq] at hx9
  obtain ⟨hz0, hz1, hz2⟩ := hx9
  clear hi9
  obtain ⟨a', cap', he, hlc, hcm, hx⟩ := hS
  injection he with e1 _ e3
  subst e1 e3
  obtain ⟨b', off', he, hb, hN⟩ := hx hp
  injection he with he
  injection he with e1 e2 _
  subst e1 e2
  have HN : Hid (b < w.heap.size ∧ NodesAt w b off zs) := ⟨hb, hN⟩
  generalize hR : Tre.putT zs z = rs
  have HR : Hid (Tre.putT zs z = rs) := hR
  clear hx hN hR
  unfold maxLen at hcm
  unfold zagg
  go_enter Tryz.func80, Tryz.ntmps80
  go_wp2
  go_loopw [5] (fun i wr => ∃ (k : Nat), k ≤ zs.length ∧ i = .int .i64 k ∧ Hid (∀ (j : Nat) y, j < k → zs[j]? = some y → Tre.key y < Tre.key z) ∧ Hid (Boxd w wr z)) (fun i _ => zs.length - (intOf i).toNat)
  case atStart => exact ⟨0, Nat.zero_le _, rfl, fun j y h => by omega, Boxd.new w z⟩
  case round =>
    obtain ⟨k, hk, rfl, HA, HE⟩ := hrel
    obtain ⟨c0, -, -, -, -⟩ := HE.out.cells
    by_cases hlt : k < zs.length
    · obtain ⟨y, hyk⟩ : ∃ y, zs[k]? = some y := ⟨_, List.getElem?_eq_getElem hlt⟩
      obtain ⟨d0, -, -, -, -⟩ := HN.out.2.ext HN.out.1 HE.out.ext k y hyk
      have HY : Hid (zs[k]? = some y) := hyk
      clear hyk
      by_cases hyz : Tre.key y < Tre.key z
      · have hbl : Op.bytesLess y.path.toList z.path.toList = true := by rw [Tre.less_path]; exact decide_eq_true hyz
        have HA2 : Hid (∀ (j : Nat) x, j < k + 1 → zs[j]? = some x → Tre.key x < Tre.key z) := by
          intro j x hj hx
          by_cases hjk : j = k
          · subst hjk; rw [HY.out] at hx; cases hx; exact hyz
          · exact HA.out j x (by omega) hx
        clear hyz
        go_wp2
        go_region
        all_goals go_wp2
        exact ⟨⟨k + 1, by omega, by go_num, HA2, HE.out.drew⟩, by simp [intOf]; omega⟩
      · have hbl : Op.bytesLess y.path.toList z.path.toList = false := by rw [Tre.less_path]; exact decide_eq_false hyz
        have HC : Hid (Tre.cut zs (Tre.key z) = k) := Tre.cut_eq hk HA.out (fun x hx => by rw [HY.out] at hx; cases hx; exact hyz)
        clear hyz
        go_wp2
        go_region
        generalize hw1 : wr.drew = w1
        have HE1 : Hid (Boxd w w1 z) := by show Boxd _ _ _; rw [← hw1]; exact HE.out.drew
        clear hw1 d0 c0 hbl HE
        have HRS : Hid (rs = zs.take k ++ z :: zs.drop k) := by show _ = _; rw [← HR.out]; unfold Tre.putT; rw [HC.out]
        obtain ⟨A, hA, HSrc⟩ : ∃ A : Addr, (if cap = k then some (⟨b, off, none⟩ : Addr) else some ⟨b, off + k * 5, none⟩) = some A ∧ Hid (∀ wy : World, NodesAt wy b off zs → ∀ j u, (cellsZ (zs.drop k))[j]? = some u → wy.cell? (A.add j) = some u) := by
          by_cases h : cap = k
          · refine ⟨⟨b, off, none⟩, by simp [h], fun wy _ t u hu => ?_⟩
            rw [List.drop_of_length_le (by omega)] at hu
            simp [cellsZ] at hu
          · refine ⟨⟨b, off + k * 5, none⟩, by simp [h], fun wy hN => (hN.drop k).news⟩
        have hkc : k ≤ cap := by omega
        have hlt5 : (cellsZ (zs.take k)).length = k * 5 := by rw [cellsZ_length, List.length_take]; omega
        have hld : (cellsZ (zs.drop k)).length = (zs.length - k) * 5 := by rw [cellsZ_length, List.length_drop]
        have HN0 : Hid (NodesAt (w1.alloc (.cells #[] 38)) b off zs) := HN.out.2.ext HN.out.1 (HE1.out.alloc _).ext
        have HO : Hid ((w1.alloc (.cells #[] 38)).ownsRow (w.heap.size + 1) 38 5 (.slice (some ⟨w1.heap.size, 0, none⟩) 0 0) 0 []) := World.ownsRow_made w1 #[] 0 HE1.out.size (by unfold maxLen; omega) rfl
        have hbl1 : b < w1.heap.size := Nat.lt_of_lt_of_le hb HE1.out.ext.size
        go_wp2_with (at_builtin; refine wpList_append_own _ rfl _ _ 24 rfl (w.heap.size + 1) 38 i0 (.agg #[.string ByteArray.empty, .int .i64 0, .int .i64 0, .int .i64 0, .int .i64 0]) 5 48 Tryz.underlying24 hi hz0 hz1 hz2 rfl (by decide) (.slice (some ⟨w1.heap.size, 0, none⟩) 0 0) 0 [] rfl HO.out ⟨b, off, none⟩ k _ (cellsZ (zs.take k)) rfl hlt5 (HN0.out.take k).news (cellsZ_one _) (by unfold maxLen; omega) (by omega) (by have := HE1.out.size; simp; omega) ?_; intro v4 w4 hown4 hgrow4 hnil4)
        have HE4 : Hid (Boxd w w4 z) := (HE1.out.alloc _).grown hgrow4 (fun q hq => (HO.out.lt q hq).1)
        have HO4 : Hid (w4.ownsRow (w.heap.size + 1) 38 5 v4 (0 + k) ([] ++ cellsZ (zs.take k))) := hown4
        obtain ⟨c0, c1, c2, c3, c4⟩ := HE4.out.cells
        have hwl : w.heap.size < w4.heap.size := by have := HE4.out.size; omega
        clear hown4 hgrow4 hnil4
        go_region_law (first | (refine step_append_own _ rfl (.tmp 31) (.tmp 34) 24 rfl (w.heap.size + 1) 38 i0 (.agg #[.string ByteArray.empty, .int .i64 0, .int .i64 0, .int .i64 0, .int .i64 0]) 5 48 Tryz.underlying24 hi hz0 hz1 hz2 rfl (by decide) v5 (0 + k + 1) ([] ++ cellsZ (zs.take k) ++ cellsZ [z]) (by simp [Act.eval]) HO5.out A (zs.length - k) (cap - k) (cellsZ (zs.drop k)) (by simp [Act.eval]) hld (HSrc.out w5 HN5.out) (cellsZ_one _) (by unfold maxLen; omega) (by omega) (by have := HE5.out.size; omega) ?_; intro v6 w6 hown6 hgrow6 hnil6; have HE6 : Hid (Boxd w w6 z) := HE5.out.grown hgrow6 (fun q hq => (HO5.out.lt q hq).1); have HO6 : Hid (w6.ownsRow (w.heap.size + 1) 38 5 v6 (0 + k + 1 + (zs.length - k)) ([] ++ cellsZ (zs.take k) ++ cellsZ [z] ++ cellsZ (zs.drop k))) := hown6; clear hown6 hgrow6 hnil6) | (refine step_append_own _ rfl (.tmp 28) (.tmp 30) 24 rfl (w.heap.size + 1) 38 i0 (.agg #[.string ByteArray.empty, .int .i64 0, .int .i64 0, .int .i64 0, .int .i64 0]) 5 48 Tryz.underlying24 hi hz0 hz1 hz2 rfl (by decide) v4 (0 + k) ([] ++ cellsZ (zs.take k)) (by simp [Act.eval]) (World.ownsRow.alloc (w := w4.drew) HO4.out _) ⟨w4.heap.size, 0, none⟩ 1 1 (cellsZ [z]) (by simp [Act.eval]) rfl (cells_new w4.drew z _) (cellsZ_one _) (by unfold maxLen; omega) (by omega) (by have := HE4.out.size; simp; omega) ?_; intro v5 w5 hown5 hgrow5 hnil5; have HE5 : Hid (Boxd w w5 z) := (HE4.out.drew.alloc _).grown hgrow5 (fun q hq => (HO4.out.lt q hq).1); have HO5 : Hid (w5.ownsRow (w.heap.size + 1) 38 5 v5 (0 + k + 1) ([] ++ cellsZ (zs.take k) ++ cellsZ [z])) := hown5; have HN5 : Hid (NodesAt w5 b off zs) := HN.out.2.ext HN.out.1 HE5.out.ext; clear hown5 hgrow5 hnil5))
        all_goals go_wp2
        all_goals
          obtain ⟨g, a6, cap6, hg6, rfl, hO6⟩ := zret_own3 (rs := zs.take k ++ z :: zs.drop k) HO6.out (by simp; omega) (by rw [cellsZ_append]; simp [cellsZ])
          go_ret
          exact ⟨_, g, rfl, by omega, by rw [HRS.out]; exact hO6, HE6.out.ext⟩
    · have HC : Hid (Tre.cut zs (Tre.key z) = k) := Tre.cut_eq hk HA.out (fun x hx => by have := (List.getElem?_eq_some_iff.1 hx).1; omega)
      go_wp2
      go_region
      generalize hw1 : wr.drew = w1
      have HE1 : Hid (Boxd w w1 z) := by show Boxd _ _ _; rw [← hw1]; exact HE.out.drew
      clear hw1 c0 HE
      have HRS : Hid (rs = zs.take k ++ z :: zs.drop k) := by show _ = _; rw [← HR.out]; unfold Tre.putT; rw [HC.out]
      obtain ⟨A, hA, HSrc⟩ : ∃ A : Addr, (if cap = k then some (⟨b, off, none⟩ : Addr) else some ⟨b, off + k * 5, none⟩) = some A ∧ Hid (∀ wy : World, NodesAt wy b off zs → ∀ j u, (cellsZ (zs.drop k))[j]? = some u → wy.cell? (A.add j) = some u) := by
        by_cases h : cap = k
        · refine ⟨⟨b, off, none⟩, by simp [h], fun wy _ t u hu => ?_⟩
          rw [List.drop_of_length_le (by omega)] at hu
          simp [cellsZ] at hu
        · refine ⟨⟨b, off + k * 5, none⟩, by simp [h], fun wy hN => (hN.drop k).news⟩
      have hkc : k ≤ cap := by omega
      have hlt5 : (cellsZ (zs.take k)).length = k * 5 := by rw [cellsZ_length, List.length_take]; omega
      have hld : (cellsZ (zs.drop k)).length = (zs.length - k) * 5 := by rw [cellsZ_length, List.length_drop]
      have HN0 : Hid (NodesAt (w1.alloc (.cells #[] 38)) b off zs) := HN.out.2.ext HN.out.1 (HE1.out.alloc _).ext
      have HO : Hid ((w1.alloc (.cells #[] 38)).ownsRow (w.heap.size + 1) 38 5 (.slice (some ⟨w1.heap.size, 0, none⟩) 0 0) 0 []) := World.ownsRow_made w1 #[] 0 HE1.out.size (by unfold maxLen; omega) rfl
      have hbl1 : b < w1.heap.size := Nat.lt_of_lt_of_le hb HE1.out.ext.size
      go_wp2_with (at_builtin; refine wpList_append_own _ rfl _ _ 24 rfl (w.heap.size + 1) 38 i0 (.agg #[.string ByteArray.empty, .int .i64 0, .int .i64 0, .int .i64 0, .int .i64 0]) 5 48 Tryz.underlying24 hi hz0 hz1 hz2 rfl (by decide) (.slice (some ⟨w1.heap.size, 0, none⟩) 0 0) 0 [] rfl HO.out ⟨b, off, none⟩ k _ (cellsZ (zs.take k)) rfl hlt5 (HN0.out.take k).news (cellsZ_one _) (by unfold maxLen; omega) (by omega) (by have := HE1.out.size; simp; omega) ?_; intro v4 w4 hown4 hgrow4 hnil4)
      have HE4 : Hid (Boxd w w4 z) := (HE1.out.alloc _).grown hgrow4 (fun q hq => (HO.out.lt q hq).1)
      have HO4 : Hid (w4.ownsRow (w.heap.size + 1) 38 5 v4 (0 + k) ([] ++ cellsZ (zs.take k))) := hown4
      obtain ⟨c0, c1, c2, c3, c4⟩ := HE4.out.cells
      have hwl : w.heap.size < w4.heap.size := by have := HE4.out.size; omega
      clear hown4 hgrow4 hnil4
      go_region_law (first | (refine step_append_own _ rfl (.tmp 31) (.tmp 34) 24 rfl (w.heap.size + 1) 38 i0 (.agg #[.string ByteArray.empty, .int .i64 0, .int .i64 0, .int .i64 0, .int .i64 0]) 5 48 Tryz.underlying24 hi hz0 hz1 hz2 rfl (by decide) v5 (0 + k + 1) ([] ++ cellsZ (zs.take k) ++ cellsZ [z]) (by simp [Act.eval]) HO5.out A (zs.length - k) (cap - k) (cellsZ (zs.drop k)) (by simp [Act.eval]) hld (HSrc.out w5 HN5.out) (cellsZ_one _) (by unfold maxLen; omega) (by omega) (by have := HE5.out.size; omega) ?_; intro v6 w6 hown6 hgrow6 hnil6; have HE6 : Hid (Boxd w w6 z) := HE5.out.grown hgrow6 (fun q hq => (HO5.out.lt q hq).1); have HO6 : Hid (w6.ownsRow (w.heap.size + 1) 38 5 v6 (0 + k + 1 + (zs.length - k)) ([] ++ cellsZ (zs.take k) ++ cellsZ [z] ++ cellsZ (zs.drop k))) := hown6; clear hown6 hgrow6 hnil6) | (refine step_append_own _ rfl (.tmp 28) (.tmp 30) 24 rfl (w.heap.size + 1) 38 i0 (.agg #[.string ByteArray.empty, .int .i64 0, .int .i64 0, .int .i64 0, .int .i64 0]) 5 48 Tryz.underlying24 hi hz0 hz1 hz2 rfl (by decide) v4 (0 + k) ([] ++ cellsZ (zs.take k)) (by simp [Act.eval]) (World.ownsRow.alloc (w := w4.drew) HO4.out _) ⟨w4.heap.size, 0, none⟩ 1 1 (cellsZ [z]) (by simp [Act.eval]) rfl (cells_new w4.drew z _) (cellsZ_one _) (by unfold maxLen; omega) (by omega) (by have := HE4.out.size; simp; omega) ?_; intro v5 w5 hown5 hgrow5 hnil5; have HE5 : Hid (Boxd w w5 z) := (HE4.out.drew.alloc _).grown hgrow5 (fun q hq => (HO4.out.lt q hq).1); have HO5 : Hid (w5.ownsRow (w.heap.size + 1) 38 5 v5 (0 + k + 1) ([] ++ cellsZ (zs.take k) ++ cellsZ [z])) := hown5; have HN5 : Hid (NodesAt w5 b off zs) := HN.out.2.ext HN.out.1 HE5.out.ext; clear hown5 hgrow5 hnil5))
      all_goals go_wp2
      all_goals
        obtain ⟨g, a6, cap6, hg6, rfl, hO6⟩ := zret_own3 (rs := zs.take k ++ z :: zs.drop k) HO6.out (by simp; omega) (by rw [cellsZ_append]; simp [cellsZ])
        go_ret
        exact ⟨_, g, rfl, by omega, by rw [HRS.out]; exact hO6, HE6.out.ext⟩
end Go.Proofs.YtilinjjimiiplaaGreatDoor
namespace Go.Proofs.YtilinjjimiiplaaGreatDoor
open Go.RowKit
def dig (d : Int) : ByteArray := mkB [UInt8.ofNat (48 + d.toNat)]

set_option maxHeartbeats 1000000 in
set_option maxRecDepth 100000 in
theorem l1Digits_digit (d : Int) (w : World) (h0 : 0 ≤ d) (h9 : d ≤ 9) :
    Calls Tryz.prog 87 #[.int .i64 d] w fun e w' => e = .returned (.string (dig d)) ∧ Ext w w' := by
  have hcv := conv_one
  have hd : d = 0 ∨ d = 1 ∨ d = 2 ∨ d = 3 ∨ d = 4 ∨ d = 5 ∨ d = 6 ∨ d = 7 ∨ d = 8 ∨ d = 9 := by omega
  clear h0 h9
  rcases hd with rfl | rfl | rfl | rfl | rfl | rfl | rfl | rfl | rfl | rfl
  all_goals
    go_enter Tryz.func87, Tryz.ntmps87
    go_wp2
    go_ret
    exact ⟨rfl, (Ext.refl _).alloc _⟩

theorem dig_size (d : Int) : (dig d).size = 1 := by
  show (mkB _).size = 1
  rw [← len_eq, mkB_list]; rfl

set_option maxHeartbeats 1000000 in
theorem l1Seq_any (s : ByteArray) (n : Int) (w : World) (hs : s.size ≤ 1048576) (h0 : 0 ≤ n) (h9 : n ≤ 99) :
    Calls Tryz.prog 79 #[.string s, .int .i64 n] w fun e w' => e = .returned (.string (s ++ dig (n / 10) ++ dig (n % 10))) ∧ Ext w w' := by
  have z1 := dig_size (n / 10)
  have z2 := dig_size (n % 10)
  go_enter Tryz.func79, Tryz.ntmps79
  go_wp2_with fail
  refine (l1Digits_digit (n / 10) _ (by omega) (by omega)).mono ?_
  rintro e w1 ⟨rfl, hb⟩
  have HB : Hid (Ext w w1) := hb
  clear hb
  go_wp2_with fail
  refine (l1Digits_digit (n % 10) _ (by omega) (by omega)).mono ?_
  rintro e w2 ⟨rfl, hb⟩
  go_wp2
  go_ret
  exact ⟨rfl, HB.out.trans hb⟩
end Go.Proofs.YtilinjjimiiplaaGreatDoor
