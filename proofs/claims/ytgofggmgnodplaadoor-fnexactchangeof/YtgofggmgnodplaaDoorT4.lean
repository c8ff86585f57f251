/- SameTrees, l2Copy, l2Set, SetZ. -/
import Derived.Test.YtgofggmgnodplaaDoorT3
namespace Go.Proofs.YtgofggmgnodplaaDoor
open Go.RowKit
namespace Tre
def same (zs ys : List Zn) : Bool := decide (zs = ys)
theorem zn_eq {z y : Zn} (h0 : z.path.toList = y.path.toList) (h1 : z.data = y.data) (h2 : z.version = y.version) (h3 : z.owner = y.owner) (h4 : z.next = y.next) : z = y := by
  cases z; cases y
  simp only at h0 h1 h2 h3 h4
  rw [Lib.toList_data, Lib.toList_data] at h0
  rw [ba_eq h0, h1, h2, h3, h4]
theorem same_len {zs ys : List Zn} (h : ¬ zs.length = ys.length) : same zs ys = false := by
  unfold same; rw [decide_eq_false_iff_not]; intro e; exact h (by rw [e])
theorem same_ne {zs ys : List Zn} {k : Nat} {z y : Zn} (hz : zs[k]? = some z) (hy : ys[k]? = some y) (h : ¬ z = y) : same zs ys = false := by
  unfold same; rw [decide_eq_false_iff_not]; intro e; subst e; rw [hz] at hy; cases hy; exact h rfl
theorem same_all {zs ys : List Zn} (hl : zs.length = ys.length) (h : ∀ j, j < zs.length → zs[j]? = ys[j]?) : same zs ys = true := by
  unfold same; rw [decide_eq_true_iff]
  apply List.ext_getElem? 
  intro j
  by_cases hj : j < zs.length
  · exact h j hj
  · rw [List.getElem?_eq_none (by omega), List.getElem?_eq_none (by omega)]
end Tre

theorem nodesAt_iff {w : World} {b off : Nat} {zs : List Zn} : NodesAt w b off zs ↔ ∀ (i : Nat) z, zs[i]? = some z → ∀ s, s < 5 → w.cell? ⟨b, off + i * 5 + s, none⟩ = (zcells z)[s]? := by
  constructor
  · intro h i z hz s hs
    obtain ⟨c0, c1, c2, c3, c4⟩ := h i z hz
    have hs5 : s = 0 ∨ s = 1 ∨ s = 2 ∨ s = 3 ∨ s = 4 := by omega
    rcases hs5 with rfl | rfl | rfl | rfl | rfl
    · exact c0
    · exact c1
    · exact c2
    · exact c3
    · exact c4
  · intro h i z hz
    exact ⟨h i z hz 0 (by omega), h i z hz 1 (by omega), h i z hz 2 (by omega), h i z hz 3 (by omega), h i z hz 4 (by omega)⟩
/-- One field of one node is written. -/
theorem Own.field {w : World} {g off n cap k : Nat} {zs : List Zn} {z : Zn} (h : Own w (.slice (some ⟨g, off, none⟩) n cap) g zs) (hz : zs[k]? = some z) (r : Nat) (hr : r < 5) (u : Value) (z' : Zn) (hz' : zcells z' = (zcells z).set r u) :
    Own (w.setCell ⟨g, off + k * 5 + r, none⟩ u) (.slice (some ⟨g, off, none⟩) n cap) g (zs.set k z') := by
  obtain ⟨a, cap', he, h2, h3, h4⟩ := h
  have hk := (List.getElem?_eq_some_iff.1 hz).1
  obtain ⟨off', ha, hR, hN⟩ := h4 (by omega)
  injection he with e1 e2 e3
  subst e1 e2 e3
  injection ha with ha
  injection ha with _ ha _
  subst ha
  refine ⟨_, _, by rw [List.length_set], by rw [List.length_set]; exact h2, h3, fun _ => ⟨off, rfl, ?_, ?_⟩⟩
  · rw [List.length_set]
    refine ⟨by simpa using hR.1, fun j hj => ⟨?_, by simpa using (hR.2 j hj).2⟩⟩
    by_cases hjk : j = k * 5 + r
    · subst hjk; rw [← Nat.add_assoc]; exact ⟨_, set_eq _ _ _ _ (by rw [Nat.add_assoc]; exact (hR.2 _ hj).1)⟩
    · rw [set_ne _ _ _ _ _ _ (by omega)]; exact (hR.2 j hj).1
  · rw [nodesAt_iff] at hN ⊢
    intro i y hy s hs
    rw [List.getElem?_set] at hy
    have hl : (zcells z).length = 5 := rfl
    by_cases hik : k = i
    · subst hik
      simp [hk] at hy
      subst hy
      rw [hz', List.getElem?_set]
      by_cases hsr : r = s
      · subst hsr
        rw [if_pos rfl, if_pos (by omega)]
        exact set_eq _ _ _ _ (by rw [Nat.add_assoc]; exact (hR.2 _ (by omega)).1)
      · rw [if_neg hsr, set_ne _ _ _ _ _ _ (by omega)]
        exact hN k z hz s hs
    · rw [if_neg hik] at hy
      rw [set_ne _ _ _ _ _ _ (by omega)]
      exact hN i y hy s hs

theorem own_setDV {w : World} {g off n cap k : Nat} {zs : List Zn} {z : Zn} (h : Own w (.slice (some ⟨g, off, none⟩) n cap) g zs) (hz : zs[k]? = some z) (d m : Int) :
    Own ((w.setCell ⟨g, off + k * 5 + 1, none⟩ (.int .i64 d)).setCell ⟨g, off + k * 5 + 2, none⟩ (.int .i64 m)) (.slice (some ⟨g, off, none⟩) n cap) g (zs.set k { z with data := d, version := m }) := by
  have hk := (List.getElem?_eq_some_iff.1 hz).1
  have h1 := h.field hz 1 (by omega) (.int .i64 d) { z with data := d } rfl
  have h2 := h1.field (k := k) (z := { z with data := d }) (by rw [List.getElem?_set]; simp [hk]) 2 (by omega) (.int .i64 m) { z with data := d, version := m } rfl
  rw [List.set_set] at h2
  exact h2
theorem zret_own {w w4 : World} {v : Value} {g : Nat} {rs : List Zn} (c : Int) (p : ByteArray) (hO : Own w4 v g rs) (hg : w.heap.size + 1 ≤ g) (h : Ext w w4) (x y u : Value) :
    ZRet w c p rs (.returned (zr c p v)) (((w4.setCell ⟨w.heap.size, 0, none⟩ x).setCell ⟨w.heap.size, 1, none⟩ y).setCell ⟨w.heap.size, 2, none⟩ u) :=
  ⟨v, g, rfl, by omega, hO.upd ((((Upd.refl _ _).setAt 0 x).setAt 1 y).setAt 2 u) (by omega), h.box3 _ _ _⟩

namespace Tre
def setT (zs : List Zn) (p : ByteArray) (d n : Int) : Int × ByteArray × List Zn :=
  if okData d = false then (3, ⟨#[]⟩, [])
  else if atI zs p < 0 then (4, ⟨#[]⟩, [])
  else match zs[(atI zs p).toNat]? with
    | none => (4, ⟨#[]⟩, [])
    | some z => if n ≠ -1 ∧ n ≠ z.version then (7, ⟨#[]⟩, []) else if 999 ≤ z.version then (2, ⟨#[]⟩, []) else (0, ⟨#[]⟩, zs.set (atI zs p).toNat { z with data := d, version := z.version + 1 })
theorem setT_data {zs : List Zn} {p : ByteArray} {d n : Int} (h : okData d = false) : setT zs p d n = (3, ⟨#[]⟩, []) := by unfold setT; rw [if_pos h]
theorem setT_none {zs : List Zn} {p : ByteArray} {d n : Int} (h : okData d = true) (ha : atI zs p < 0) : setT zs p d n = (4, ⟨#[]⟩, []) := by unfold setT; rw [if_neg (by rw [h]; simp), if_pos ha]
theorem setT_some {zs : List Zn} {p : ByteArray} {d n : Int} {k : Nat} {z : Zn} (h : okData d = true) (ha : atI zs p = k) (hz : zs[k]? = some z) : setT zs p d n = if n ≠ -1 ∧ n ≠ z.version then (7, ⟨#[]⟩, []) else if 999 ≤ z.version then (2, ⟨#[]⟩, []) else (0, ⟨#[]⟩, zs.set k { z with data := d, version := z.version + 1 }) := by
  unfold setT
  rw [if_neg (by rw [h]; simp), ha, if_neg (by omega), Int.toNat_natCast, hz]
def setV (zs : List Zn) (p : ByteArray) (d n : Int) : Int × ByteArray × List Zn := if asked zs p ≠ 0 then (asked zs p, ⟨#[]⟩, []) else setT zs p d n
theorem setV_bad {zs : List Zn} {p : ByteArray} {d n c : Int} (h : asked zs p = c) (h0 : c ≠ 0) : setV zs p d n = (c, ⟨#[]⟩, []) := by unfold setV; rw [h, if_pos h0]
theorem setV_ok {zs : List Zn} {p : ByteArray} {d n : Int} (h : asked zs p = 0) : setV zs p d n = setT zs p d n := by unfold setV; rw [h, if_neg (by simp)]
theorem asked_fault {zs : List Zn} {p : ByteArray} (h : asked zs p = 0) : fault zs = 0 ∧ Pth.faultI p.data.toList = 0 := by
  unfold asked at h
  split at h
  · rename_i h1; exact absurd h h1
  · rename_i h1; exact ⟨by simpa using h1, h⟩
theorem fault_nodes {zs : List Zn} (h : fault zs = 0) : zs.length ≤ 20 ∧ ∀ j, j < zs.length → nodeC zs j = 0 := by
  by_cases h20 : 20 < zs.length
  · rw [fault_many h20] at h; cases h
  · refine ⟨by omega, first_zero ?_⟩
    by_cases h1 : first (nodeC zs) zs.length = 0
    · exact h1
    · rw [fault_node h20 rfl h1] at h; exact absurd h h1
theorem fault_nums {zs : List Zn} (h : fault zs = 0) : ∀ z ∈ zs, Pth.faultI z.path.data.toList = 0 ∧ okNums z = true := by
  intro z hz
  obtain ⟨j, hj⟩ := List.getElem?_of_mem hz
  exact nodeC_ok hj ((fault_nodes h).2 j (List.getElem?_eq_some_iff.1 hj).1)
theorem asked_vers {zs : List Zn} {p : ByteArray} (h : asked zs p = 0) : ∀ z ∈ zs, 0 ≤ z.version := by
  intro z hz
  have := (fault_nums (asked_fault h).1 z hz).2
  unfold okNums at this
  simp at this
  exact this.2.1.1
end Tre

end Go.Proofs.YtgofggmgnodplaaDoor
