/- Q2, Q3, T10, in one text. -/
import Derived.Test.YtilinjjimiiplaaGreatDoorKqJ9
import Derived.Test.YtilinjjimiiplaaGreatDoorKqT4
import Derived.Test.YtilinjjimiiplaaGreatDoorKqT9
import Derived.Test.YtilinjjimiiplaaGreatDoorKqJ15
namespace Go.Proofs.YtilinjjimiiplaaGreatDoor
open Go.RowKit
namespace Tre
theorem find_set (q : ByteArray) : ∀ (zs : List Zn) (k : Nat) (z z' : Zn), zs[k]? = some z → isAt q z' = isAt q z → (zs.set k z').findIdx? (isAt q) = zs.findIdx? (isAt q)
  | [], k, z, z', h, _ => by simp at h
  | y :: ys, 0, z, z', h, he => by
    simp at h
    subst h
    simp [List.findIdx?_cons, he]
  | y :: ys, k + 1, z, z', h, he => by
    simp at h
    simp [List.findIdx?_cons, find_set q ys k z z' h he]
theorem at_set {q : ByteArray} {zs : List Zn} {k : Nat} {z z' : Zn} (h : zs[k]? = some z) (he : z'.path = z.path) : atI (zs.set k z') q = atI zs q := by
  unfold atI
  rw [find_set q zs k z z' h (by unfold isAt; rw [he])]
theorem get_set {zs : List Zn} {k : Nat} {z z' : Zn} (h : zs[k]? = some z) (hp : z'.path = z.path) (ho : z'.owner = z.owner) (hn : okNums z = true → okNums z' = true) {j : Nat} {x' : Zn} (hx : (zs.set k z')[j]? = some x') : ∃ x, zs[j]? = some x ∧ x'.path = x.path ∧ x'.owner = x.owner ∧ (okNums x = true → okNums x' = true) := by
  have hk := (List.getElem?_eq_some_iff.1 h).1
  by_cases hj : k = j
  · subst hj
    rw [List.getElem?_set_self hk] at hx
    cases hx
    exact ⟨z, h, hp, ho, hn⟩
  · rw [List.getElem?_set_ne hj] at hx
    exact ⟨x', hx, rfl, rfl, fun h => h⟩
theorem fault_set {zs : List Zn} {k : Nat} {z z' : Zn} (h : zs[k]? = some z) (hp : z'.path = z.path) (ho : z'.owner = z.owner) (hn : okNums z = true → okNums z' = true) (hf : fault zs = 0) : fault (zs.set k z') = 0 := by
  obtain ⟨hl, hN⟩ := fault_nodes hf
  obtain ⟨ht, hP, hO⟩ := fault_hang hf
  have hlen : (zs.set k z').length = zs.length := by simp
  refine fault_own (by rw [hlen]; omega) ?_ (by rw [at_set h hp]; omega) ?_ ?_
  · refine first_none fun j hj => ?_
    rw [hlen] at hj
    obtain ⟨x', hx'⟩ : ∃ x', (zs.set k z')[j]? = some x' := ⟨_, List.getElem?_eq_getElem (by rw [hlen]; exact hj)⟩
    obtain ⟨x, hx, xp, -, xn⟩ := get_set h hp ho hn hx'
    obtain ⟨f0, n0⟩ := nodeC_ok hx (hN j hj)
    match j, hj, hx', hx with
    | 0, hj, hx', hx => exact nodeC_zero hx' (by rw [xp, f0]) (xn n0)
    | m + 1, hj, hx', hx =>
      obtain ⟨y', hy'⟩ : ∃ y', (zs.set k z')[m]? = some y' := ⟨_, List.getElem?_eq_getElem (by rw [hlen]; omega)⟩
      obtain ⟨y, hy, yp, -, -⟩ := get_set h hp ho hn hy'
      have h1 := hN (m + 1) hj
      rw [nodeC_succ hx hy f0.symm n0] at h1
      rw [nodeC_succ hx' hy' (by rw [xp, f0]) (xn n0), show notUp x' y' = notUp x y from by unfold notUp; rw [xp, yp]]
      exact h1
  · refine first_none fun j hj => ?_
    rw [hlen] at hj
    obtain ⟨x', hx'⟩ : ∃ x', (zs.set k z')[j]? = some x' := ⟨_, List.getElem?_eq_getElem (by rw [hlen]; exact hj)⟩
    obtain ⟨x, hx, xp, -, -⟩ := get_set h hp ho hn hx'
    have h1 := hP j hj
    rw [parC_eq hx] at h1
    rw [parC_eq hx', at_set h hp, xp]
    exact h1
  · refine first_none fun j hj => ?_
    rw [hlen] at hj
    obtain ⟨x', hx'⟩ : ∃ x', (zs.set k z')[j]? = some x' := ⟨_, List.getElem?_eq_getElem (by rw [hlen]; exact hj)⟩
    obtain ⟨x, hx, xp, -, -⟩ := get_set h hp ho hn hx'
    have h1 := hO j hj
    unfold ownC at h1 ⊢
    rw [hx] at h1
    rw [hx']
    dsimp only at h1 ⊢
    rw [at_set h hp, xp]
    cases hy' : (zs.set k z')[(atI zs (par x.path)).toNat]? with
    | none => rfl
    | some y' =>
      obtain ⟨y, hy, -, yo, -⟩ := get_set h hp ho hn hy'
      rw [hy] at h1
      dsimp only at h1 ⊢
      rw [yo]
      exact h1
/-- All that holds of what is set. -/
theorem set_all {zs : List Zn} {p : ByteArray} {d n : Int} (h0 : (setV zs p d n).1 = 0) : ∃ (k : Nat) (z : Zn), zs[k]? = some z ∧ okData d = true ∧ 0 ≤ z.version ∧ z.version < 999 ∧ (n = -1 ∨ n = z.version) ∧ setV zs p d n = (0, ⟨#[]⟩, zs.set k { z with data := d, version := z.version + 1 })
    ∧ fault (zs.set k { z with data := d, version := z.version + 1 }) = 0 ∧ getT (zs.set k { z with data := d, version := z.version + 1 }) p = (0, ⟨#[]⟩, [{ z with data := d, version := z.version + 1 }]) ∧ getT zs p = (0, ⟨#[]⟩, [z]) ∧ setV (zs.set k { z with data := d, version := z.version + 1 }) p d z.version = (7, ⟨#[]⟩, []) := by
  have hA : asked zs p = 0 := by
    refine Classical.byContradiction fun h => ?_
    unfold setV at h0
    rw [if_pos h] at h0
    exact h h0
  have hV : setV zs p d n = setT zs p d n := by unfold setV; rw [if_neg (by simpa using hA)]
  rw [hV] at h0 ⊢
  have hf : fault zs = 0 ∧ Pth.faultI p.data.toList = 0 := by
    unfold asked at hA
    split at hA
    · rename_i h; exact absurd hA h
    · rename_i h; exact ⟨by simpa using h, hA⟩
  cases hd : okData d with
  | false => rw [setT_data hd] at h0; simp at h0
  | true =>
  by_cases ha : atI zs p < 0
  · rw [setT_none hd ha] at h0; simp at h0
  obtain ⟨k, z, hk, hkl, hz⟩ : ∃ (k : Nat) (z : Zn), atI zs p = k ∧ k < zs.length ∧ zs[k]? = some z := by
    rcases atI_range zs p with ⟨h1, -⟩ | ⟨k, z, h1, h2, h3, -⟩
    · omega
    · exact ⟨k, z, h1, h2, h3⟩
  rw [setT_some hd hk hz] at h0
  have hnm := (nodeC_ok hz ((fault_nodes hf.1).2 k hkl)).2
  have hnm2 := hnm
  unfold okNums at hnm2
  simp only [Bool.and_eq_true, decide_eq_true_eq] at hnm2
  split at h0
  · simp at h0
  rename_i hv
  split at h0
  · simp at h0
  rename_i hv9
  have hn : n = -1 ∨ n = z.version := by omega
  have hd2 := hd
  unfold okData at hd2
  simp only [Bool.and_eq_true, decide_eq_true_eq] at hd2
  have hF : fault (zs.set k { z with data := d, version := z.version + 1 }) = 0 := fault_set hz rfl rfl (fun _ => by unfold okNums; simp only [Bool.and_eq_true, decide_eq_true_eq]; omega) hf.1
  have hA2 : asked (zs.set k { z with data := d, version := z.version + 1 }) p = 0 := by unfold asked; rw [hF, if_neg (by simp)]; exact hf.2
  have hk2 : atI (zs.set k { z with data := d, version := z.version + 1 }) p = k := (at_set (z' := { z with data := d, version := z.version + 1 }) hz rfl).trans hk
  have hz2 : (zs.set k { z with data := d, version := z.version + 1 })[k]? = some { z with data := d, version := z.version + 1 } := List.getElem?_set_self hkl
  refine ⟨k, z, hz, rfl, by omega, by omega, hn, ?_, hF, getT_ok hA2 hk2 hz2, getT_ok hA hk hz, ?_⟩
  · rw [setT_some hd hk hz, if_neg hv, if_neg hv9]
  · unfold setV
    rw [if_neg (by simpa using hA2), setT_some hd hk2 hz2, if_pos (by constructor; · omega
                                                                      · show z.version ≠ z.version + 1; omega)]
end Tre
end Go.Proofs.YtilinjjimiiplaaGreatDoor
namespace Go.Proofs.YtilinjjimiiplaaGreatDoor
open Go.RowKit
namespace Tre
/-- A tree without fault. -/
structure Good (zs : List Zn) : Prop where
  few : zs.length ≤ 20
  each : ∀ z ∈ zs, Pth.faultI z.path.data.toList = 0 ∧ okNums z = true
  up : zs.Pairwise fun y z => key y < key z
  top : ∃ z ∈ zs, isAt top z = true
  hung : ∀ z ∈ zs, ∃ y ∈ zs, isAt (par z.path) y = true ∧ y.owner = 0
theorem atI_mem {zs : List Zn} {p : ByteArray} : 0 ≤ atI zs p ↔ ∃ z ∈ zs, isAt p z = true := by
  constructor
  · intro h
    rcases atI_range zs p with ⟨h1, -⟩ | ⟨k, z, -, -, hz, ha⟩
    · omega
    · exact ⟨z, List.mem_of_getElem? hz, ha⟩
  · rintro ⟨z, hz, ha⟩
    rcases atI_range zs p with ⟨-, h2⟩ | ⟨k, _, hk, -, -, -⟩
    · rw [h2 z hz] at ha; cases ha
    · omega
theorem up_pair {zs : List Zn} : Up zs ↔ zs.Pairwise fun y z => key y < key z := by
  rw [List.pairwise_iff_getElem]
  constructor
  · intro h i j hi hj hij
    exact up_lt' h hij (List.getElem?_eq_getElem hi) (List.getElem?_eq_getElem hj)
  · intro h i y z hy hz
    obtain ⟨hi, rfl⟩ := List.getElem?_eq_some_iff.1 hy
    obtain ⟨hj, rfl⟩ := List.getElem?_eq_some_iff.1 hz
    exact h i (i + 1) hi hj (by omega)
/-- Of those that rise only one is at a path. -/
theorem up_one {zs : List Zn} (h : zs.Pairwise fun y z => key y < key z) {p : ByteArray} {y z : Zn} (hy : y ∈ zs) (hz : z ∈ zs) (ay : isAt p y = true) (az : isAt p z = true) : y = z := by
  obtain ⟨i, hi⟩ := List.getElem?_of_mem hy
  obtain ⟨j, hj⟩ := List.getElem?_of_mem hz
  have e : key y = key z := (isAt_iff.1 ay).trans (isAt_iff.1 az).symm
  have hu := up_pair.2 h
  rcases Nat.lt_trichotomy i j with hlt | heq | hgt
  · exact absurd e (lt_ne (up_lt' hu hlt hi hj))
  · subst heq; exact Option.some.inj (hi.symm.trans hj)
  · exact absurd e.symm (lt_ne (up_lt' hu hgt hj hi))
theorem good_of {zs : List Zn} (h : fault zs = 0) : Good zs := by
  obtain ⟨hl, hN⟩ := fault_nodes h
  obtain ⟨ht, hP, hO⟩ := fault_hang h
  refine ⟨hl, ?_, up_pair.1 (up_of_nodes hN), atI_mem.1 ht, ?_⟩
  · intro z hz
    obtain ⟨j, hj⟩ := List.getElem?_of_mem hz
    exact nodeC_ok hj (hN j (List.getElem?_eq_some_iff.1 hj).1)
  · intro z hz
    obtain ⟨j, hj⟩ := List.getElem?_of_mem hz
    have hjl := (List.getElem?_eq_some_iff.1 hj).1
    have h1 := hP j hjl
    rw [parC_eq hj] at h1
    rcases atI_range zs (par z.path) with ⟨h2, -⟩ | ⟨k, y, hk, -, hy, ha⟩
    · rw [if_pos (by omega)] at h1; cases h1
    · have h3 := hO j hjl
      rw [ownC_eq hj hk hy] at h3
      refine ⟨y, List.mem_of_getElem? hy, ha, ?_⟩
      by_cases h0 : y.owner = 0
      · exact h0
      · rw [if_pos h0] at h3; cases h3
theorem Good.fault {zs : List Zn} (h : Good zs) : fault zs = 0 := by
  have hu := up_pair.2 h.up
  refine fault_own (by have := h.few; omega) (first_none fun j hj => ?_) (by have := atI_mem.2 h.top; omega) (first_none fun j hj => ?_) (first_none fun j hj => ?_)
  · obtain ⟨z, hz⟩ : ∃ z, zs[j]? = some z := ⟨_, List.getElem?_eq_getElem hj⟩
    obtain ⟨f0, n0⟩ := h.each z (List.mem_of_getElem? hz)
    match j, hj, hz with
    | 0, hj, hz => exact nodeC_zero hz f0.symm n0
    | m + 1, hj, hz =>
      obtain ⟨y, hy⟩ : ∃ y, zs[m]? = some y := ⟨_, List.getElem?_eq_getElem (by omega)⟩
      rw [nodeC_succ hz hy f0.symm n0, notUp_iff.2 (hu m y z hy hz), if_neg (by simp)]
  · obtain ⟨z, hz⟩ : ∃ z, zs[j]? = some z := ⟨_, List.getElem?_eq_getElem hj⟩
    obtain ⟨y, hy, ha, -⟩ := h.hung z (List.mem_of_getElem? hz)
    rw [parC_eq hz, if_neg (by have := atI_mem.2 ⟨y, hy, ha⟩; omega)]
  · obtain ⟨z, hz⟩ : ∃ z, zs[j]? = some z := ⟨_, List.getElem?_eq_getElem hj⟩
    obtain ⟨y, hy, ha, ho⟩ := h.hung z (List.mem_of_getElem? hz)
    rcases atI_range zs (par z.path) with ⟨-, h2⟩ | ⟨k, y', hk, -, hy', ha'⟩
    · rw [h2 y hy] at ha; cases ha
    · have he : y' = y := up_one h.up (List.mem_of_getElem? hy') hy ha' ha
      rw [ownC_eq hz hk hy', he, if_neg (by simpa using ho)]
theorem fault_good {zs : List Zn} : Tre.fault zs = 0 ↔ Good zs := ⟨good_of, Good.fault⟩
/-- The parent of the top is the top. -/
theorem par_of_top {z : Zn} (h : isAt top z = true) : par z.path = top := by
  have h1 := isAt_iff.1 h
  unfold key at h1
  unfold par
  rw [h1]
  rfl
/-- What is left of a tree where each that nobody owns is left: a tree. -/
theorem Good.part {zs : List Zn} (h : Good zs) (f : Zn → Bool) (hf : ∀ z ∈ zs, z.owner = 0 → f z = true) : Good (zs.filter f) := by
  refine ⟨Nat.le_trans (List.length_filter_le _ _) h.few, fun z hz => h.each z ((List.mem_filter.1 hz).1), h.up.filter _, ?_, fun z hz => ?_⟩
  · obtain ⟨z, hz, ha⟩ := h.top
    obtain ⟨y, hy, hb, ho⟩ := h.hung z hz
    rw [par_of_top ha] at hb
    exact ⟨y, List.mem_filter.2 ⟨hy, hf y hy ho⟩, hb⟩
  · obtain ⟨y, hy, hb, ho⟩ := h.hung z ((List.mem_filter.1 hz).1)
    exact ⟨y, List.mem_filter.2 ⟨hy, hf y hy ho⟩, hb, ho⟩
/-- A node of a tree is got of a part of it just if it is in that part. -/
theorem Good.got {zs : List Zn} (h : Good zs) {f : Zn → Bool} (hg : Good (zs.filter f)) {z : Zn} (hz : z ∈ zs) : ((getT (zs.filter f) z.path).1 == 0) = f z := by
  have hA : asked (zs.filter f) z.path = 0 := by unfold asked; rw [hg.fault, if_neg (by simp)]; exact (h.each z hz).1
  have hzz : isAt z.path z = true := isAt_iff.2 rfl
  cases hfz : f z with
  | true =>
    rcases atI_range (zs.filter f) z.path with ⟨-, h2⟩ | ⟨k, y, hk, -, hy, -⟩
    · rw [h2 z (List.mem_filter.2 ⟨hz, hfz⟩)] at hzz; cases hzz
    · rw [getT_ok hA hk hy]; rfl
  | false =>
    have hm : atI (zs.filter f) z.path < 0 := by
      rcases atI_range (zs.filter f) z.path with ⟨h1, -⟩ | ⟨k, y, -, -, hy, ha⟩
      · omega
      · have hy2 := List.mem_filter.1 (List.mem_of_getElem? hy)
        have := up_one h.up hy2.1 hz ha hzz
        rw [this, hfz] at hy2
        exact absurd hy2.2 (by simp)
    rw [getT_none hA hm]; rfl
end Tre
end Go.Proofs.YtilinjjimiiplaaGreatDoor
namespace Go.Proofs.YtilinjjimiiplaaGreatDoor
open Go.RowKit
namespace Tre
def createV (zs : List Zn) (p : ByteArray) (d o : Int) (q : Bool) : Int × ByteArray × List Zn := if asked zs p ≠ 0 then (asked zs p, ⟨#[]⟩, []) else createT zs p d o q
theorem createV_bad {zs : List Zn} {p : ByteArray} {d o c : Int} {q : Bool} (h : asked zs p = c) (h0 : c ≠ 0) : createV zs p d o q = (c, ⟨#[]⟩, []) := by unfold createV; rw [h, if_pos h0]
theorem createV_ok {zs : List Zn} {p : ByteArray} {d o : Int} {q : Bool} (h : asked zs p = 0) : createV zs p d o q = createT zs p d o q := by unfold createV; rw [h, if_neg (by simp)]
end Tre
end Go.Proofs.YtilinjjimiiplaaGreatDoor
