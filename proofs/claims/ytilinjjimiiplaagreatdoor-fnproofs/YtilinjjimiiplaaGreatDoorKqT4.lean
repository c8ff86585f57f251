/- SameTrees, l2Copy, l2Set, SetZ. -/
import Derived.Test.YtilinjjimiiplaaGreatDoorKqJ6
namespace Go.Proofs.YtilinjjimiiplaaGreatDoor
open Go.RowKit
namespace Tre
def same (zs ys : List Zn) : Bool := decide (zs = ys)
end Tre
set_option maxHeartbeats 1000000 in
set_option maxRecDepth 100000 in
theorem l2Copy_any (v : Value) (zs : List Zn) (w : World) (hS : NSlice w v zs) (hl : zs.length ≤ 1048576) (hp : 0 < zs.length) :
    Calls Tryz.prog 76 #[v] w fun e w' => ∃ v' g, e = .returned v' ∧ w.heap.size ≤ g ∧ Own w' v' g zs ∧ Ext w w' := by
  have hi9 : (Tryz.prog.info? 38).map (fun i => (i.zero, i.size, i.bytes)) = some (some (.agg #[.string ByteArray.empty, .int .i64 0, .int .i64 0, .int .i64 0, .int .i64 0]), 5, 48) := by kernel_rfl
  obtain ⟨i0, hi, hx⟩ := Option.map_eq_some_iff.1 hi9
  simp only [Prod.mk.injEq] at hx
  obtain ⟨hz0, hz1, hz2⟩ := hx
  clear hi9
  obtain ⟨a, cap, rfl, hlc, hcm, hx⟩ := hS
  obtain ⟨b, off, rfl, hb, hN⟩ := hx hp
  have HN : Hid (NodesAt (w.alloc (.cells #[] 38)) b off zs) := hN.ext hb ((Ext.refl _).alloc _)
  clear hN hx
  unfold maxLen at hcm
  have HO : Hid ((w.alloc (.cells #[] 38)).ownsRow w.heap.size 38 5 (.slice (some ⟨w.heap.size, 0, none⟩) 0 0) 0 []) := World.ownsRow_made w #[] 0 (Nat.le_refl _) (by unfold maxLen; omega) rfl
  go_enter Tryz.func76, Tryz.ntmps76
  go_wp2_with (at_builtin; go_must (refine wpList_append_own _ rfl _ _ 24 rfl w.heap.size 38 i0 (.agg #[.string ByteArray.empty, .int .i64 0, .int .i64 0, .int .i64 0, .int .i64 0]) 5 48 Tryz.underlying24 hi hz0 hz1 hz2 rfl (by decide) _ 0 [] rfl HO.out ⟨b, off, none⟩ zs.length cap (cellsZ zs) rfl (cellsZ_length zs) HN.out.news (cellsZ_one zs) (by unfold maxLen; omega) (by omega) (by simp) ?_; intro v' w3 hown' hgrow3 hnil3))
  have hown2 : w3.ownsRow w.heap.size 38 5 v' zs.length (cellsZ zs) := by simpa using hown'
  obtain ⟨g, hg, hO⟩ := Own.of_row hown2
  have HE : Ext w w3 := ((Below.refl _ _).alloc (Nat.le_refl _) _).grown hgrow3 (by simp) (fun q hq => (HO.out.lt q hq).1)
  go_ret
  exact ⟨_, g, rfl, hg, hO, HE⟩

theorem nodesAt_iff {w : World} {b off : Nat} {zs : List Zn} : NodesAt w b off zs ↔ ∀ (i : Nat) z, zs[i]? = some z → ∀ s, s < 5 → w.cell? ⟨b, off + i * 5 + s, none⟩ = (zcells z)[s]? := by
  constructor
  · intro h i z hz s hs
    obtain ⟨c0, c1, c2, c3, c4⟩ := h i z hz
    have hs5 : s = 0 ∨ s = 1 ∨ s = 2 ∨ s = 3 ∨ s = 4 := by omega
    rcases hs5 with rfl | rfl | rfl | rfl | rfl
    · exact c0
    · exact c1
    · exact c2
    · exact c3
    · exact c4
  · intro h i z hz
    exact ⟨h i z hz 0 (by omega), h i z hz 1 (by omega), h i z hz 2 (by omega), h i z hz 3 (by omega), h i z hz 4 (by omega)⟩
/-- One field of one node is written. -/
theorem Own.field {w : World} {g off n cap k : Nat} {zs : List Zn} {z : Zn} (h : Own w (.slice (some ⟨g, off, none⟩) n cap) g zs) (hz : zs[k]? = some z) (r : Nat) (hr : r < 5) (u : Value) (z' : Zn) (hz' : zcells z' = (zcells z).set r u) :
    Own (w.setCell ⟨g, off + k * 5 + r, none⟩ u) (.slice (some ⟨g, off, none⟩) n cap) g (zs.set k z') := by
  obtain ⟨a, cap', he, h2, h3, h4⟩ := h
  have hk := (List.getElem?_eq_some_iff.1 hz).1
  obtain ⟨off', ha, hR, hN⟩ := h4 (by omega)
  injection he with e1 e2 e3
  subst e1 e2 e3
  injection ha with ha
  injection ha with _ ha _
  subst ha
  refine ⟨_, _, by rw [List.length_set], by rw [List.length_set]; exact h2, h3, fun _ => ⟨off, rfl, ?_, ?_⟩⟩
  · rw [List.length_set]
    refine ⟨by simpa using hR.1, fun j hj => ⟨?_, by simpa using (hR.2 j hj).2⟩⟩
    by_cases hjk : j = k * 5 + r
    · subst hjk; rw [← Nat.add_assoc]; exact ⟨_, set_eq _ _ _ _ (by rw [Nat.add_assoc]; exact (hR.2 _ hj).1)⟩
    · rw [set_ne _ _ _ _ _ _ (by omega)]; exact (hR.2 j hj).1
  · rw [nodesAt_iff] at hN ⊢
    intro i y hy s hs
    rw [List.getElem?_set] at hy
    have hl : (zcells z).length = 5 := rfl
    by_cases hik : k = i
    · subst hik
      simp [hk] at hy
      subst hy
      rw [hz', List.getElem?_set]
      by_cases hsr : r = s
      · subst hsr
        rw [if_pos rfl, if_pos (by omega)]
        exact set_eq _ _ _ _ (by rw [Nat.add_assoc]; exact (hR.2 _ (by omega)).1)
      · rw [if_neg hsr, set_ne _ _ _ _ _ _ (by omega)]
        exact hN k z hz s hs
    · rw [if_neg hik] at hy
      rw [set_ne _ _ _ _ _ _ (by omega)]
      exact hN i y hy s hs

theorem own_setDV {w : World} {g off n cap k : Nat} {zs : List Zn} {z : Zn} (h : Own w (.slice (some ⟨g, off, none⟩) n cap) g zs) (hz : zs[k]? = some z) (d m : Int) :
    Own ((w.setCell ⟨g, off + k * 5 + 1, none⟩ (.int .i64 d)).setCell ⟨g, off + k * 5 + 2, none⟩ (.int .i64 m)) (.slice (some ⟨g, off, none⟩) n cap) g (zs.set k { z with data := d, version := m }) := by
  have hk := (List.getElem?_eq_some_iff.1 hz).1
  have h1 := h.field hz 1 (by omega) (.int .i64 d) { z with data := d } rfl
  have h2 := h1.field (k := k) (z := { z with data := d }) (by rw [List.getElem?_set]; simp [hk]) 2 (by omega) (.int .i64 m) { z with data := d, version := m } rfl
  rw [List.set_set] at h2
  exact h2
theorem zret_own {w w4 : World} {v : Value} {g : Nat} {rs : List Zn} (c : Int) (p : ByteArray) (hO : Own w4 v g rs) (hg : w.heap.size + 1 ≤ g) (h : Ext w w4) (x y u : Value) :
    ZRet w c p rs (.returned (zr c p v)) (((w4.setCell ⟨w.heap.size, 0, none⟩ x).setCell ⟨w.heap.size, 1, none⟩ y).setCell ⟨w.heap.size, 2, none⟩ u) :=
  ⟨v, g, rfl, by omega, hO.upd ((((Upd.refl _ _).setAt 0 x).setAt 1 y).setAt 2 u) (by omega), h.box3 _ _ _⟩

namespace Tre
def setT (zs : List Zn) (p : ByteArray) (d n : Int) : Int × ByteArray × List Zn :=
  if okData d = false then (3, ⟨#[]⟩, [])
  else if atI zs p < 0 then (4, ⟨#[]⟩, [])
  else match zs[(atI zs p).toNat]? with
    | none => (4, ⟨#[]⟩, [])
    | some z => if n ≠ -1 ∧ n ≠ z.version then (7, ⟨#[]⟩, []) else if 999 ≤ z.version then (2, ⟨#[]⟩, []) else (0, ⟨#[]⟩, zs.set (atI zs p).toNat { z with data := d, version := z.version + 1 })
theorem setT_data {zs : List Zn} {p : ByteArray} {d n : Int} (h : okData d = false) : setT zs p d n = (3, ⟨#[]⟩, []) := by unfold setT; rw [if_pos h]
theorem setT_none {zs : List Zn} {p : ByteArray} {d n : Int} (h : okData d = true) (ha : atI zs p < 0) : setT zs p d n = (4, ⟨#[]⟩, []) := by unfold setT; rw [if_neg (by rw [h]; simp), if_pos ha]
theorem setT_some {zs : List Zn} {p : ByteArray} {d n : Int} {k : Nat} {z : Zn} (h : okData d = true) (ha : atI zs p = k) (hz : zs[k]? = some z) : setT zs p d n = if n ≠ -1 ∧ n ≠ z.version then (7, ⟨#[]⟩, []) else if 999 ≤ z.version then (2, ⟨#[]⟩, []) else (0, ⟨#[]⟩, zs.set k { z with data := d, version := z.version + 1 }) := by
  unfold setT
  rw [if_neg (by rw [h]; simp), ha, if_neg (by omega), Int.toNat_natCast, hz]
def setV (zs : List Zn) (p : ByteArray) (d n : Int) : Int × ByteArray × List Zn := if asked zs p ≠ 0 then (asked zs p, ⟨#[]⟩, []) else setT zs p d n
theorem setV_ok {zs : List Zn} {p : ByteArray} {d n : Int} (h : asked zs p = 0) : setV zs p d n = setT zs p d n := by unfold setV; rw [h, if_neg (by simp)]
theorem asked_fault {zs : List Zn} {p : ByteArray} (h : asked zs p = 0) : fault zs = 0 ∧ Pth.faultI p.data.toList = 0 := by
  unfold asked at h
  split at h
  · rename_i h1; exact absurd h h1
  · rename_i h1; exact ⟨by simpa using h1, h⟩
theorem fault_nodes {zs : List Zn} (h : fault zs = 0) : zs.length ≤ 20 ∧ ∀ j, j < zs.length → nodeC zs j = 0 := by
  by_cases h20 : 20 < zs.length
  · rw [fault_many h20] at h; cases h
  · refine ⟨by omega, first_zero ?_⟩
    by_cases h1 : first (nodeC zs) zs.length = 0
    · exact h1
    · rw [fault_node h20 rfl h1] at h; exact absurd h h1
theorem fault_nums {zs : List Zn} (h : fault zs = 0) : ∀ z ∈ zs, Pth.faultI z.path.data.toList = 0 ∧ okNums z = true := by
  intro z hz
  obtain ⟨j, hj⟩ := List.getElem?_of_mem hz
  exact nodeC_ok hj ((fault_nodes h).2 j (List.getElem?_eq_some_iff.1 hj).1)
end Tre
set_option maxHeartbeats 2000000 in
set_option maxRecDepth 100000 in
theorem l2Set_any (v : Value) (zs : List Zn) (p : ByteArray) (d n : Int) (w : World) (hS : NSlice w v zs) (hl : zs.length ≤ 1048576) (hv : ∀ z ∈ zs, 0 ≤ z.version) :
    Calls Tryz.prog 57 #[v, .string p, .int .i64 d, .int .i64 n] w (ZRet w (Tre.setT zs p d n).1 (Tre.setT zs p d n).2.1 (Tre.setT zs p d n).2.2) := by
  have HS : Hid (NSlice w v zs) := hS
  have HV : Hid (∀ z ∈ zs, 0 ≤ z.version) := hv
  clear hv
  have HT : Hid (∀ wx : World, Ext w wx → Calls Tryz.prog 21 #[v, .string p] wx fun e w' => e = .returned (.int .i64 (Tre.atI zs p)) ∧ w' = wx) := fun wx h => l2At_any v zs p wx (hS.ext h)
  have HD : Hid (∀ wx : World, Calls Tryz.prog 64 #[.int .i64 d] wx fun e w' => e = .returned (.bool (Tre.okData d)) ∧ w' = wx) := l2Data_any d
  have HB0 : Hid (∀ (c : Int) (wx : World), Calls Tryz.prog 75 #[.int .i64 c] wx fun e w' => e = .returned (zr c ⟨#[]⟩ (.slice none 0 0)) ∧ Ext wx w') := l2Bad_any
  unfold zr at HB0
  obtain ⟨a, cap, rfl, hlc, hcm, hx⟩ := hS
  have HX : Hid (0 < zs.length → ∃ b off, a = some ⟨b, off, none⟩ ∧ b < w.heap.size ∧ NodesAt w b off zs) := hx
  clear hx
  unfold maxLen at hcm
  cases hd : Tre.okData d with
  | false =>
    rw [Tre.setT_data hd]
    rw [hd] at HD
    go_enter Tryz.func57, Tryz.ntmps57
    go_wp2_with fail
    refine (HD.out _).mono ?_
    rintro e w2 ⟨rfl, rfl⟩
    go_wp2_with fail
    refine (HB0.out _ _).mono ?_
    rintro e w3 ⟨rfl, hb⟩
    obtain ⟨q, q0, q1, q2, f0, f1, f2⟩ := (RBox.new w _).ext hb
    have HB3 : Hid (Ext w w3) := ((Ext.refl _).alloc _).trans hb
    clear hb
    go_wp2
    exact bodyPost_ret (v := zr 3 ⟨#[]⟩ (.slice none 0 0)) (by simp [results, Tryz.results57, go_sem, zr, q0, q1, q2]) rfl (zret_bad _ _ (HB3.out.box3 _ _ _))
  | true =>
    rw [hd] at HD
    rcases Tre.atI_range zs p with ⟨hm, -⟩ | ⟨k, z, hk, hkl, hz, -⟩
    · rw [Tre.setT_none hd (by omega)]
      rw [hm] at HT
      go_enter Tryz.func57, Tryz.ntmps57
      go_wp2_with fail
      refine (HD.out _).mono ?_
      rintro e w2 ⟨rfl, rfl⟩
      go_wp2_with fail
      refine (HT.out _ ((Ext.refl _).alloc _)).mono ?_
      rintro e w3 ⟨rfl, rfl⟩
      go_wp2_with fail
      refine (HB0.out _ _).mono ?_
      rintro e w3 ⟨rfl, hb⟩
      obtain ⟨q, q0, q1, q2, f0, f1, f2⟩ := (RBox.new w _).ext hb
      have HB3 : Hid (Ext w w3) := ((Ext.refl _).alloc _).trans hb
      clear hb
      go_wp2
      exact bodyPost_ret (v := zr 4 ⟨#[]⟩ (.slice none 0 0)) (by simp [results, Tryz.results57, go_sem, zr, q0, q1, q2]) rfl (zret_bad _ _ (HB3.out.box3 _ _ _))
    · rw [Tre.setT_some hd hk hz]
      rw [hk] at HT
      obtain ⟨b, off, rfl, hb, hN⟩ := HX.out (by omega)
      have HN : Hid (b < w.heap.size ∧ NodesAt w b off zs) := ⟨hb, hN⟩
      have HZ : Hid (zs[k]? = some z) := hz
      obtain ⟨d0, d1, d2, d3, d4⟩ := hN k z hz
      have hz0 : 0 ≤ z.version := HV.out z (List.mem_of_getElem? hz)
      clear hN hz
      have hpos : 0 < zs.length := by omega
      -- the node is there
      by_cases hn1 : n = -1
      · have g1 : (n != -1) = false := by simp [hn1]
        rw [if_neg (by omega)]
        by_cases h9 : 999 ≤ z.version
        · rw [if_pos h9]
          go_enter Tryz.func57, Tryz.ntmps57
          go_wp2_with fail
          refine (HD.out _).mono ?_
          rintro e w2 ⟨rfl, rfl⟩
          go_wp2_with fail
          refine (HT.out _ ((Ext.refl _).alloc _)).mono ?_
          rintro e w3 ⟨rfl, rfl⟩
          go_wp2_with fail
          refine (HB0.out _ _).mono ?_
          rintro e w3 ⟨rfl, hb⟩
          obtain ⟨q, q0, q1, q2, f0, f1, f2⟩ := (RBox.new w _).ext hb
          have HB3 : Hid (Ext w w3) := ((Ext.refl _).alloc _).trans hb
          clear hb
          go_wp2
          exact bodyPost_ret (v := zr 2 ⟨#[]⟩ (.slice none 0 0)) (by simp [results, Tryz.results57, go_sem, zr, q0, q1, q2]) rfl (zret_bad _ _ (HB3.out.box3 _ _ _))
        · rw [if_neg h9]
          go_enter Tryz.func57, Tryz.ntmps57
          go_wp2_with fail
          refine (HD.out _).mono ?_
          rintro e w2 ⟨rfl, rfl⟩
          go_wp2_with fail
          refine (HT.out _ ((Ext.refl _).alloc _)).mono ?_
          rintro e w3 ⟨rfl, rfl⟩
          go_wp2_with fail
          refine (l2Copy_any _ zs _ (by exact HS.out.ext ((Ext.refl _).alloc _)) hl hpos).mono ?_
          rintro e w3 ⟨v3, g, rfl, hg, hO, hb⟩
          obtain ⟨a3, cap3, rfl, hlc3, hcm3, hx3⟩ := id hO
          obtain ⟨off3, rfl, hR, hM⟩ := hx3 hpos
          obtain ⟨⟨y1, r1⟩, s1⟩ := hR.2 (k * 5 + 1) (by omega)
          obtain ⟨-, s2⟩ := hR.2 (k * 5 + 2) (by omega)
          obtain ⟨-, -, r2, -, -⟩ := hM k z HZ.out
          rw [← Nat.add_assoc] at r1 s1 s2
          have HO : Hid (Own w3 (.slice (some ⟨g, off3, none⟩) zs.length cap3) g zs) := hO
          have hg1 : w.heap.size + 1 ≤ g := by simpa using hg
          have HG : Hid (w.heap.size + 1 ≤ g) := hg1
          have hgn : ¬ w.heap.size = g := by omega
          have hgn2 : ¬ g = w.heap.size := by omega
          have HQ : Hid (RBox w3 w.heap.size) := (RBox.new w _).ext hb
          have HB3 : Hid (Ext w w3) := ((Ext.refl _).alloc _).trans hb
          clear hb hO hR hM hx3 hg hg1
          unfold maxLen at hcm3
          obtain ⟨q, q0, q1, q2, f0, f1, f2⟩ := HQ.out
          go_wp2
          refine bodyPost_ret (v := zr 0 ⟨#[]⟩ (.slice (some ⟨g, off3, none⟩) zs.length cap3)) (by simp [results, Tryz.results57, go_sem, zr, q0, q1, q2]) rfl ?_
          exact zret_own 0 ⟨#[]⟩ (own_setDV HO.out HZ.out d (z.version + 1)) HG.out ((HB3.out.setCell (p := ⟨g, off3 + k * 5 + 1, none⟩) (by have := HG.out; show _ ≤ g; omega) _).setCell (p := ⟨g, off3 + k * 5 + 2, none⟩) (by have := HG.out; show _ ≤ g; omega) _) _ _ _
      · have g1 : (n != -1) = true := by simp [hn1]
        by_cases hnv : n = z.version
        · have g2 : (n != z.version) = false := by simp [hnv]
          rw [if_neg (by omega)]
          by_cases h9 : 999 ≤ z.version
          · rw [if_pos h9]
            go_enter Tryz.func57, Tryz.ntmps57
            go_wp2_with fail
            refine (HD.out _).mono ?_
            rintro e w2 ⟨rfl, rfl⟩
            go_wp2_with fail
            refine (HT.out _ ((Ext.refl _).alloc _)).mono ?_
            rintro e w3 ⟨rfl, rfl⟩
            go_wp2_with fail
            refine (HB0.out _ _).mono ?_
            rintro e w3 ⟨rfl, hb⟩
            obtain ⟨q, q0, q1, q2, f0, f1, f2⟩ := (RBox.new w _).ext hb
            have HB3 : Hid (Ext w w3) := ((Ext.refl _).alloc _).trans hb
            clear hb
            go_wp2
            exact bodyPost_ret (v := zr 2 ⟨#[]⟩ (.slice none 0 0)) (by simp [results, Tryz.results57, go_sem, zr, q0, q1, q2]) rfl (zret_bad _ _ (HB3.out.box3 _ _ _))
          · rw [if_neg h9]
            go_enter Tryz.func57, Tryz.ntmps57
            go_wp2_with fail
            refine (HD.out _).mono ?_
            rintro e w2 ⟨rfl, rfl⟩
            go_wp2_with fail
            refine (HT.out _ ((Ext.refl _).alloc _)).mono ?_
            rintro e w3 ⟨rfl, rfl⟩
            go_wp2_with fail
            refine (l2Copy_any _ zs _ (by exact HS.out.ext ((Ext.refl _).alloc _)) hl hpos).mono ?_
            rintro e w3 ⟨v3, g, rfl, hg, hO, hb⟩
            obtain ⟨a3, cap3, rfl, hlc3, hcm3, hx3⟩ := id hO
            obtain ⟨off3, rfl, hR, hM⟩ := hx3 hpos
            obtain ⟨⟨y1, r1⟩, s1⟩ := hR.2 (k * 5 + 1) (by omega)
            obtain ⟨-, s2⟩ := hR.2 (k * 5 + 2) (by omega)
            obtain ⟨-, -, r2, -, -⟩ := hM k z HZ.out
            rw [← Nat.add_assoc] at r1 s1 s2
            have HO : Hid (Own w3 (.slice (some ⟨g, off3, none⟩) zs.length cap3) g zs) := hO
            have hg1 : w.heap.size + 1 ≤ g := by simpa using hg
            have HG : Hid (w.heap.size + 1 ≤ g) := hg1
            have hgn : ¬ w.heap.size = g := by omega
            have hgn2 : ¬ g = w.heap.size := by omega
            have HQ : Hid (RBox w3 w.heap.size) := (RBox.new w _).ext hb
            have HB3 : Hid (Ext w w3) := ((Ext.refl _).alloc _).trans hb
            clear hb hO hR hM hx3 hg hg1
            unfold maxLen at hcm3
            obtain ⟨q, q0, q1, q2, f0, f1, f2⟩ := HQ.out
            go_wp2
            refine bodyPost_ret (v := zr 0 ⟨#[]⟩ (.slice (some ⟨g, off3, none⟩) zs.length cap3)) (by simp [results, Tryz.results57, go_sem, zr, q0, q1, q2]) rfl ?_
            exact zret_own 0 ⟨#[]⟩ (own_setDV HO.out HZ.out d (z.version + 1)) HG.out ((HB3.out.setCell (p := ⟨g, off3 + k * 5 + 1, none⟩) (by have := HG.out; show _ ≤ g; omega) _).setCell (p := ⟨g, off3 + k * 5 + 2, none⟩) (by have := HG.out; show _ ≤ g; omega) _) _ _ _
        · have g2 : (n != z.version) = true := by simp [hnv]
          rw [if_pos ⟨hn1, hnv⟩]
          go_enter Tryz.func57, Tryz.ntmps57
          go_wp2_with fail
          refine (HD.out _).mono ?_
          rintro e w2 ⟨rfl, rfl⟩
          go_wp2_with fail
          refine (HT.out _ ((Ext.refl _).alloc _)).mono ?_
          rintro e w3 ⟨rfl, rfl⟩
          go_wp2_with fail
          refine (HB0.out _ _).mono ?_
          rintro e w3 ⟨rfl, hb⟩
          obtain ⟨q, q0, q1, q2, f0, f1, f2⟩ := (RBox.new w _).ext hb
          have HB3 : Hid (Ext w w3) := ((Ext.refl _).alloc _).trans hb
          clear hb
          go_wp2
          exact bodyPost_ret (v := zr 7 ⟨#[]⟩ (.slice none 0 0)) (by simp [results, Tryz.results57, go_sem, zr, q0, q1, q2]) rfl (zret_bad _ _ (HB3.out.box3 _ _ _))

end Go.Proofs.YtilinjjimiiplaaGreatDoor
