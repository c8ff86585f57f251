/- Q3, Q4, Pj, Q5, LNumbers, in one text. -/
import Derived.Test.YtgfoliafpjhjcaaGreatDoorQ1
import Derived.Test.YtgfoliafpjhjcaaGreatDoorMX2
import Derived.Test.YtgfoliafpjhjcaaGreatDoorMX1
import Derived.Test.YtgfoliafpjhjcaaGreatDoorPure
import Derived.Test.YtgfoliafpjhjcaaGreatDoorMX5
import Derived.Test.YtgfoliafpjhjcaaGreatDoorMX6
import Derived.Deep.RegionHeld3
/- What a tree without fault is, over its members alone: so a part of one that keeps each parent is one too. -/
namespace Go.Proofs.YtgfoliafpjhjcaaGreatDoor
open Go.RowKit
namespace Tre
/-- A tree without fault. -/
structure Good (zs : List Zn) : Prop where
  few : zs.length ≤ 20
  each : ∀ z ∈ zs, Pth.faultI z.path.data.toList = 0 ∧ okNums z = true
  up : zs.Pairwise fun y z => key y < key z
  top : ∃ z ∈ zs, isAt top z = true
  hung : ∀ z ∈ zs, ∃ y ∈ zs, isAt (par z.path) y = true ∧ y.owner = 0
theorem atI_mem {zs : List Zn} {p : ByteArray} : 0 ≤ atI zs p ↔ ∃ z ∈ zs, isAt p z = true := by
  constructor
  · intro h
    rcases atI_range zs p with ⟨h1, -⟩ | ⟨k, z, -, -, hz, ha⟩
    · omega
    · exact ⟨z, List.mem_of_getElem? hz, ha⟩
  · rintro ⟨z, hz, ha⟩
    rcases atI_range zs p with ⟨-, h2⟩ | ⟨k, _, hk, -, -, -⟩
    · rw [h2 z hz] at ha; cases ha
    · omega
theorem up_pair {zs : List Zn} : Up zs ↔ zs.Pairwise fun y z => key y < key z := by
  rw [List.pairwise_iff_getElem]
  constructor
  · intro h i j hi hj hij
    exact up_lt' h hij (List.getElem?_eq_getElem hi) (List.getElem?_eq_getElem hj)
  · intro h i y z hy hz
    obtain ⟨hi, rfl⟩ := List.getElem?_eq_some_iff.1 hy
    obtain ⟨hj, rfl⟩ := List.getElem?_eq_some_iff.1 hz
    exact h i (i + 1) hi hj (by omega)
/-- Of those that rise only one is at a path. -/
theorem up_one {zs : List Zn} (h : zs.Pairwise fun y z => key y < key z) {p : ByteArray} {y z : Zn} (hy : y ∈ zs) (hz : z ∈ zs) (ay : isAt p y = true) (az : isAt p z = true) : y = z := by
  obtain ⟨i, hi⟩ := List.getElem?_of_mem hy
  obtain ⟨j, hj⟩ := List.getElem?_of_mem hz
  have e : key y = key z := (isAt_iff.1 ay).trans (isAt_iff.1 az).symm
  have hu := up_pair.2 h
  rcases Nat.lt_trichotomy i j with hlt | heq | hgt
  · exact absurd e (lt_ne (up_lt' hu hlt hi hj))
  · subst heq; exact Option.some.inj (hi.symm.trans hj)
  · exact absurd e.symm (lt_ne (up_lt' hu hgt hj hi))
theorem good_of {zs : List Zn} (h : fault zs = 0) : Good zs := by
  obtain ⟨hl, hN⟩ := fault_nodes h
  obtain ⟨ht, hP, hO⟩ := fault_hang h
  refine ⟨hl, ?_, up_pair.1 (up_of_nodes hN), atI_mem.1 ht, ?_⟩
  · intro z hz
    obtain ⟨j, hj⟩ := List.getElem?_of_mem hz
    exact nodeC_ok hj (hN j (List.getElem?_eq_some_iff.1 hj).1)
  · intro z hz
    obtain ⟨j, hj⟩ := List.getElem?_of_mem hz
    have hjl := (List.getElem?_eq_some_iff.1 hj).1
    have h1 := hP j hjl
    rw [parC_eq hj] at h1
    rcases atI_range zs (par z.path) with ⟨h2, -⟩ | ⟨k, y, hk, -, hy, ha⟩
    · rw [if_pos (by omega)] at h1; cases h1
    · have h3 := hO j hjl
      rw [ownC_eq hj hk hy] at h3
      refine ⟨y, List.mem_of_getElem? hy, ha, ?_⟩
      by_cases h0 : y.owner = 0
      · exact h0
      · rw [if_pos h0] at h3; cases h3
theorem Good.fault {zs : List Zn} (h : Good zs) : fault zs = 0 := by
  have hu := up_pair.2 h.up
  refine fault_own (by have := h.few; omega) (first_none fun j hj => ?_) (by have := atI_mem.2 h.top; omega) (first_none fun j hj => ?_) (first_none fun j hj => ?_)
  · obtain ⟨z, hz⟩ : ∃ z, zs[j]? = some z := ⟨_, List.getElem?_eq_getElem hj⟩
    obtain ⟨f0, n0⟩ := h.each z (List.mem_of_getElem? hz)
    match j, hj, hz with
    | 0, hj, hz => exact nodeC_zero hz f0.symm n0
    | m + 1, hj, hz =>
      obtain ⟨y, hy⟩ : ∃ y, zs[m]? = some y := ⟨_, List.getElem?_eq_getElem (by omega)⟩
      rw [nodeC_succ hz hy f0.symm n0, notUp_iff.2 (hu m y z hy hz), if_neg (by simp)]
  · obtain ⟨z, hz⟩ : ∃ z, zs[j]? = some z := ⟨_, List.getElem?_eq_getElem hj⟩
    obtain ⟨y, hy, ha, -⟩ := h.hung z (List.mem_of_getElem? hz)
    rw [parC_eq hz, if_neg (by have := atI_mem.2 ⟨y, hy, ha⟩; omega)]
  · obtain ⟨z, hz⟩ : ∃ z, zs[j]? = some z := ⟨_, List.getElem?_eq_getElem hj⟩
    obtain ⟨y, hy, ha, ho⟩ := h.hung z (List.mem_of_getElem? hz)
    rcases atI_range zs (par z.path) with ⟨-, h2⟩ | ⟨k, y', hk, -, hy', ha'⟩
    · rw [h2 y hy] at ha; cases ha
    · have he : y' = y := up_one h.up (List.mem_of_getElem? hy') hy ha' ha
      rw [ownC_eq hz hk hy', he, if_neg (by simpa using ho)]
theorem fault_good {zs : List Zn} : Tre.fault zs = 0 ↔ Good zs := ⟨good_of, Good.fault⟩
/-- The parent of the top is the top. -/
theorem par_of_top {z : Zn} (h : isAt top z = true) : par z.path = top := by
  have h1 := isAt_iff.1 h
  unfold key at h1
  unfold par
  rw [h1]
  rfl
/-- What is left of a tree where each that nobody owns is left: a tree. -/
theorem Good.part {zs : List Zn} (h : Good zs) (f : Zn → Bool) (hf : ∀ z ∈ zs, z.owner = 0 → f z = true) : Good (zs.filter f) := by
  refine ⟨Nat.le_trans (List.length_filter_le _ _) h.few, fun z hz => h.each z ((List.mem_filter.1 hz).1), h.up.filter _, ?_, fun z hz => ?_⟩
  · obtain ⟨z, hz, ha⟩ := h.top
    obtain ⟨y, hy, hb, ho⟩ := h.hung z hz
    rw [par_of_top ha] at hb
    exact ⟨y, List.mem_filter.2 ⟨hy, hf y hy ho⟩, hb⟩
  · obtain ⟨y, hy, hb, ho⟩ := h.hung z ((List.mem_filter.1 hz).1)
    exact ⟨y, List.mem_filter.2 ⟨hy, hf y hy ho⟩, hb, ho⟩
/-- A node of a tree is got of a part of it just if it is in that part. -/
theorem Good.got {zs : List Zn} (h : Good zs) {f : Zn → Bool} (hg : Good (zs.filter f)) {z : Zn} (hz : z ∈ zs) : ((getT (zs.filter f) z.path).1 == 0) = f z := by
  have hA : asked (zs.filter f) z.path = 0 := by unfold asked; rw [hg.fault, if_neg (by simp)]; exact (h.each z hz).1
  have hzz : isAt z.path z = true := isAt_iff.2 rfl
  cases hfz : f z with
  | true =>
    rcases atI_range (zs.filter f) z.path with ⟨-, h2⟩ | ⟨k, y, hk, -, hy, -⟩
    · rw [h2 z (List.mem_filter.2 ⟨hz, hfz⟩)] at hzz; cases hzz
    · rw [getT_ok hA hk hy]; rfl
  | false =>
    have hm : atI (zs.filter f) z.path < 0 := by
      rcases atI_range (zs.filter f) z.path with ⟨h1, -⟩ | ⟨k, y, -, -, hy, ha⟩
      · omega
      · have hy2 := List.mem_filter.1 (List.mem_of_getElem? hy)
        have := up_one h.up hy2.1 hz ha hzz
        rw [this, hfz] at hy2
        exact absurd hy2.2 (by simp)
    rw [getT_none hA hm]; rfl
end Tre
end Go.Proofs.YtgfoliafpjhjcaaGreatDoor

/- Trees without fault that a node is taken out of, or put into: they have none either; what is got of them. -/
namespace Go.Proofs.YtgfoliafpjhjcaaGreatDoor
open Go.RowKit
namespace Tre
theorem path_of {p : ByteArray} {z : Zn} (h : isAt p z = true) : z.path = p := ba_eq (isAt_iff.1 h)
theorem isAt_self (z : Zn) : isAt z.path z = true := isAt_iff.2 rfl
theorem nil_of_len {α : Type} {l : List α} (h : ¬ 0 < l.length) : l = [] := List.eq_nil_of_length_eq_zero (by omega)
/-- A parent is shorter. -/
theorem par_short {p : ByteArray} (h : Pth.faultI p.data.toList = 0) (ht : ¬ p.data.toList = [47]) : (par p).data.toList.length < p.data.toList.length := by
  rcases Pth.fault_cases p.data.toList with ⟨-, h1⟩ | ⟨-, -, h1⟩ | ⟨-, -, n, la, h1⟩
  · rw [h] at h1; cases h1
  · rw [h] at h1; cases h1
  · obtain ⟨-, -, r, h2, h3⟩ := Pth.rd_some _ n la ht h1
    have hl : 2 ≤ p.data.toList.length := by
      rw [h2]
      cases r with
      | nil => exact absurd rfl h3
      | cons a b => simp
    unfold par
    rw [mkB_list]
    rcases Pth.lastSl_lt p.data.toList 0 0 with h4 | h4
    · rw [h4, if_pos rfl]; simp only [List.length_cons, List.length_nil]; omega
    · split
      · simp only [List.length_cons, List.length_nil]; omega
      · rw [List.length_take]; omega
theorem par_ne {p : ByteArray} (h : Pth.faultI p.data.toList = 0) (ht : ¬ p.data.toList = [47]) : ¬ (par p).data.toList = p.data.toList := fun e => by
  have := par_short h ht; rw [e] at this; omega
/-- The node of a path taken out: all others. -/
theorem del_filter {zs : List Zn} {p : ByteArray} {k : Nat} {z : Zn} (hu : zs.Pairwise fun y z => key y < key z) (hz : zs[k]? = some z) (ha : isAt p z = true) :
    zs.take k ++ zs.drop (k + 1) = zs.filter fun y => !isAt p y := by
  obtain ⟨hk, he⟩ := List.getElem?_eq_some_iff.1 hz
  have e : zs = zs.take k ++ z :: zs.drop (k + 1) := by
    rw [← he, ← List.drop_eq_getElem_cons hk, List.take_append_drop]
  have hkey := isAt_iff.1 ha
  have h1 := hu
  rw [e, List.pairwise_append, List.pairwise_cons] at h1
  obtain ⟨-, ⟨h2, -⟩, h3⟩ := h1
  have f1 : (zs.take k).filter (fun y => !isAt p y) = zs.take k := by
    rw [List.filter_eq_self]
    intro y hy
    have h4 := h3 y hy z List.mem_cons_self
    cases h5 : isAt p y with
    | false => rfl
    | true => rw [isAt_iff.1 h5, hkey] at h4; exact absurd h4 (lt_irr _)
  have f2 : (zs.drop (k + 1)).filter (fun y => !isAt p y) = zs.drop (k + 1) := by
    rw [List.filter_eq_self]
    intro y hy
    have h4 := h2 y hy
    cases h5 : isAt p y with
    | false => rfl
    | true => rw [isAt_iff.1 h5, hkey] at h4; exact absurd h4 (lt_irr _)
  have f3 : zs.filter (fun y => !isAt p y) = (zs.take k ++ z :: zs.drop (k + 1)).filter (fun y => !isAt p y) := by rw [← e]
  rw [f3, List.filter_append, List.filter_cons, if_neg (by rw [ha]; simp), f1, f2]
theorem isKid_of {p : ByteArray} {y : Zn} (ht : ¬ key y = [47]) (h : (par y.path).data.toList = p.data.toList) : isKid p y = true := by
  unfold isKid
  rw [Lib.toList_data, Lib.toList_data, Lib.toList_data, h]
  simp only [beq_self_eq_true, Bool.and_true, Bool.not_eq_true', beq_eq_false_iff_ne, ne_eq]
  exact ht
theorem of_isKid {p : ByteArray} {y : Zn} (h : isKid p y = true) : (par y.path).data.toList = p.data.toList ∧ ¬ key y = [47] := by
  unfold isKid at h
  rw [Lib.toList_data, Lib.toList_data, Lib.toList_data] at h
  simp only [Bool.and_eq_true, Bool.not_eq_true', beq_eq_false_iff_ne, ne_eq, beq_iff_eq] at h
  exact ⟨h.2, h.1⟩
theorem kids_nil {zs : List Zn} {p : ByteArray} : kids zs p = [] ↔ ∀ y ∈ zs, isKid p y = false := by
  unfold kids
  rw [List.map_eq_nil_iff, List.filter_eq_nil_iff]
  exact ⟨fun h y hy => by simpa using h y hy, fun h y hy => by rw [h y hy]; simp⟩
theorem Good.del {zs : List Zn} (h : Good zs) {p : ByteArray} (hp : ¬ p.data.toList = [47]) (hk : ∀ y ∈ zs, isKid p y = false) : Good (zs.filter fun y => !isAt p y) := by
  refine ⟨Nat.le_trans (List.length_filter_le _ _) h.few, fun z hz => h.each z (List.mem_filter.1 hz).1, h.up.filter _, ?_, fun y hy => ?_⟩
  · obtain ⟨z, hz, ha⟩ := h.top
    refine ⟨z, List.mem_filter.2 ⟨hz, ?_⟩, ha⟩
    cases h5 : isAt p z with
    | false => rfl
    | true => exact absurd ((isAt_iff.1 h5).symm.trans (isAt_iff.1 ha)) hp
  · have hy0 := (List.mem_filter.1 hy).1
    obtain ⟨x, hx, ha, ho⟩ := h.hung y hy0
    refine ⟨x, List.mem_filter.2 ⟨hx, ?_⟩, ha, ho⟩
    cases h5 : isAt p x with
    | false => rfl
    | true =>
      exfalso
      have e : (par y.path).data.toList = p.data.toList := (isAt_iff.1 ha).symm.trans (isAt_iff.1 h5)
      by_cases ht : key y = [47]
      · rw [par_of_top (isAt_iff.2 ht)] at e; exact hp e.symm
      · have := isKid_of ht e
        rw [hk y hy0] at this; cases this
theorem putT_mem {bs : List Zn} {z y : Zn} : y ∈ putT bs z ↔ y = z ∨ y ∈ bs := by
  unfold putT
  rw [List.mem_append, List.mem_cons]
  constructor
  · rintro (h | h | h)
    · exact Or.inr (List.mem_of_mem_take h)
    · exact Or.inl h
    · exact Or.inr (List.mem_of_mem_drop h)
  · rintro (h | h)
    · exact Or.inr (Or.inl h)
    · rw [← List.take_append_drop (cut bs (key z)) bs] at h
      rcases List.mem_append.1 h with h | h
      · exact Or.inl h
      · exact Or.inr (Or.inr h)
theorem putT_len (bs : List Zn) (z : Zn) : (putT bs z).length = bs.length + 1 := by
  unfold putT
  have := cut_le bs (key z)
  rw [List.length_append, List.length_cons, List.length_take, List.length_drop]; omega
theorem putT_up {bs : List Zn} (hu : bs.Pairwise fun y z => key y < key z) {z : Zn} (hno : ∀ y ∈ bs, isAt z.path y = false) : (putT bs z).Pairwise fun y z => key y < key z := by
  have hU := up_pair.2 hu
  have h0 := hu
  rw [← List.take_append_drop (cut bs (key z)) bs, List.pairwise_append] at h0
  obtain ⟨h1, h2, h3⟩ := h0
  have ha : ∀ y ∈ bs.take (cut bs (key z)), key y < key z := fun y hy => by
    obtain ⟨i, hi⟩ := List.getElem?_of_mem hy
    rw [List.getElem?_take] at hi
    split at hi
    · rename_i h4; exact cut_lt h4 hi
    · cases hi
  have hb : ∀ y ∈ bs.drop (cut bs (key z)), key z < key y := fun y hy => by
    obtain ⟨i, hi⟩ := List.getElem?_of_mem hy
    rw [List.getElem?_drop] at hi
    have h4 := cut_ge hU (Nat.le_add_right _ i) hi
    refine lt_tot h4 fun e => ?_
    have := hno y (List.mem_of_mem_drop hy)
    rw [isAt_iff.2 e] at this; cases this
  unfold putT
  rw [List.pairwise_append, List.pairwise_cons]
  refine ⟨h1, ⟨hb, h2⟩, fun a ha' b hb' => ?_⟩
  rcases List.mem_cons.1 hb' with rfl | hb'
  · exact ha a ha'
  · exact lt_tr (ha a ha') (hb b hb')
theorem Good.put {bs : List Zn} (h : Good bs) {z : Zn} (hl : bs.length < 20) (hz : Pth.faultI z.path.data.toList = 0 ∧ okNums z = true) (hno : ∀ y ∈ bs, isAt z.path y = false) (hx : ∃ x ∈ bs, isAt (par z.path) x = true ∧ x.owner = 0) : Good (putT bs z) := by
  refine ⟨by rw [putT_len]; omega, fun y hy => ?_, putT_up h.up hno, ?_, fun y hy => ?_⟩
  · rcases putT_mem.1 hy with rfl | hy
    · exact hz
    · exact h.each y hy
  · obtain ⟨y, hy, ha⟩ := h.top
    exact ⟨y, putT_mem.2 (Or.inr hy), ha⟩
  · rcases putT_mem.1 hy with rfl | hy
    · obtain ⟨x, hx1, hx2⟩ := hx
      exact ⟨x, putT_mem.2 (Or.inr hx1), hx2⟩
    · obtain ⟨x, hx1, hx2⟩ := h.hung y hy
      exact ⟨x, putT_mem.2 (Or.inr hx1), hx2⟩
theorem putT_filter {bs : List Zn} {z : Zn} (hno : ∀ y ∈ bs, isAt z.path y = false) : (putT bs z).filter (fun y => !isAt z.path y) = bs := by
  unfold putT
  have f : ∀ l : List Zn, (∀ y ∈ l, y ∈ bs) → l.filter (fun y => !isAt z.path y) = l := fun l hl => by
    rw [List.filter_eq_self]
    intro y hy
    rw [hno y (hl y hy)]; rfl
  rw [List.filter_append, List.filter_cons, if_neg (by rw [isAt_self]; simp), f _ (fun y hy => List.mem_of_mem_take hy), f _ (fun y hy => List.mem_of_mem_drop hy), List.take_append_drop]
theorem not_at {zs : List Zn} {p : ByteArray} (h : ∀ y ∈ zs, isAt p y = false) : atI zs p < 0 := by
  refine Classical.byContradiction fun hn => ?_
  obtain ⟨z, hz, ha⟩ := atI_mem.1 (by omega : 0 ≤ atI zs p)
  rw [h z hz] at ha; cases ha
theorem asked_of {zs : List Zn} {p : ByteArray} (h : Good zs) (hp : Pth.faultI p.data.toList = 0) : asked zs p = 0 := by
  unfold asked; rw [h.fault, if_neg (by decide)]; exact hp
theorem at_of {zs : List Zn} {p : ByteArray} {z : Zn} (hu : zs.Pairwise fun y z => key y < key z) (hz : z ∈ zs) (ha : isAt p z = true) : ∃ k : Nat, atI zs p = k ∧ zs[k]? = some z := by
  rcases atI_range zs p with ⟨-, h2⟩ | ⟨k, y, hk, -, hy, hya⟩
  · rw [h2 z hz] at ha; cases ha
  · exact ⟨k, hk, by rw [hy, up_one hu (List.mem_of_getElem? hy) hz hya ha]⟩
theorem top_false {p : ByteArray} (h : ¬ p.data.toList = [47]) : (p.toList == [47]) = false := by
  rw [Lib.toList_data]; simpa using h
/-- What a deletion without a code says of the tree, and leaves. -/
theorem del_zero {zs : List Zn} {p : ByteArray} {n : Int} (h : (delV zs p n).1 = 0) : Good zs ∧ Pth.faultI p.data.toList = 0 ∧ (¬ p.data.toList = [47]) ∧ kids zs p = [] ∧ (∃ z ∈ zs, isAt p z = true) ∧ delV zs p n = (0, ⟨#[]⟩, zs.filter fun y => !isAt p y) ∧ (zs.filter fun y => !isAt p y).length + 1 = zs.length := by
  by_cases h0 : asked zs p = 0
  · obtain ⟨h1, h2⟩ := asked_fault h0
    have hG := good_of h1
    rw [delV_ok h0] at h ⊢
    by_cases ht : p.data.toList = [47]
    · rw [delT_top (by rw [Lib.toList_data, ht]; rfl)] at h; cases h
    have htf := top_false ht
    rcases atI_range zs p with ⟨hm, -⟩ | ⟨k, z, hk, hkl, hz, ha⟩
    · rw [delT_none htf (by omega)] at h; cases h
    rw [delT_some htf hk hz] at h ⊢
    split at h
    · cases h
    rename_i hv
    split at h
    · cases h
    rename_i hkd
    rw [if_neg hv, if_neg hkd, del_filter hG.up hz ha]
    refine ⟨hG, h2, ht, nil_of_len hkd, ⟨z, List.mem_of_getElem? hz, ha⟩, rfl, ?_⟩
    rw [← del_filter hG.up hz ha, List.length_append, List.length_take, List.length_drop]; omega
  · rw [delV_bad rfl h0] at h; exact absurd h h0
/-- All that FnDeletes asks. -/
theorem del_all {zs : List Zn} {p : ByteArray} {n : Int} (h : (delV zs p n).1 = 0) : ∃ rs cs : List Zn, delV zs p n = (0, ⟨#[]⟩, rs) ∧ fault rs = 0 ∧ rs.length + 1 = zs.length ∧ (getT rs p).1 = 4 ∧ kidsV zs p = (0, []) ∧ createV rs p 5 0 false = (0, p, cs) ∧ cs.length = zs.length ∧ fault cs = 0 ∧ delV cs p 0 = (0, ⟨#[]⟩, rs) := by
  obtain ⟨hG, hp, ht, hk, ⟨z, hz, ha⟩, hd, hl⟩ := del_zero h
  have hkn := kids_nil.1 hk
  have hR := hG.del ht hkn
  obtain ⟨rs, hrs⟩ : ∃ rs, rs = zs.filter fun y => !isAt p y := ⟨_, rfl⟩
  rw [← hrs] at hd hl hR
  have hno : ∀ y ∈ rs, isAt p y = false := fun y hy => by
    rw [hrs] at hy; simpa using (List.mem_filter.1 hy).2
  have hx : ∃ x ∈ rs, isAt (par p) x = true ∧ x.owner = 0 := by
    obtain ⟨x, hx, hxa, ho⟩ := hG.hung z hz
    rw [path_of ha] at hxa
    refine ⟨x, ?_, hxa, ho⟩
    rw [hrs]
    refine List.mem_filter.2 ⟨hx, ?_⟩
    cases h5 : isAt p x with
    | false => rfl
    | true => exact absurd ((isAt_iff.1 hxa).symm.trans (isAt_iff.1 h5)) (par_ne hp ht)
  have htf := top_false ht
  obtain ⟨x, hx1, hx2, hx3⟩ := hx
  obtain ⟨j, hj, hjx⟩ := at_of hR.up hx1 hx2
  have hfew : rs.length < 20 := by have := hG.few; omega
  have hC : Good (putT rs ⟨p, 5, 0, 0, 0⟩) := hR.put hfew ⟨hp, rfl⟩ hno ⟨x, hx1, hx2, hx3⟩
  have hcr : createV rs p 5 0 false = (0, p, putT rs ⟨p, 5, 0, 0, 0⟩) := by
    rw [createV_ok (asked_of hR hp), createT_some (by decide) htf hj hjx, if_neg (by rw [hx3]; simp), if_neg (by decide)]
    unfold finT
    rw [if_neg (by have := not_at hno; omega), if_neg (by omega)]
  have hz5 : (⟨p, 5, 0, 0, 0⟩ : Zn) ∈ putT rs ⟨p, 5, 0, 0, 0⟩ := putT_mem.2 (Or.inl rfl)
  have ha5 : isAt p (⟨p, 5, 0, 0, 0⟩ : Zn) = true := isAt_iff.2 rfl
  obtain ⟨i, hi, hiz⟩ := at_of hC.up hz5 ha5
  have hk5 : kids (putT rs ⟨p, 5, 0, 0, 0⟩) p = [] := kids_nil.2 fun y hy => by
    rcases putT_mem.1 hy with rfl | hy
    · cases h5 : isKid p (⟨p, 5, 0, 0, 0⟩ : Zn) with
      | false => rfl
      | true => exact absurd (of_isKid h5).1 (par_ne hp ht)
    · rw [hrs] at hy; exact hkn y (List.mem_filter.1 hy).1
  refine ⟨rs, putT rs ⟨p, 5, 0, 0, 0⟩, hd, hR.fault, hl, ?_, ?_, hcr, by rw [putT_len]; exact hl, hC.fault, ?_⟩
  · rw [getT_none (asked_of hR hp) (not_at hno)]
  · rw [kidsV_ok (asked_of hG hp) (by obtain ⟨k, hk1, -⟩ := at_of hG.up hz ha; omega), hk]
  · rw [delV_ok (asked_of hC hp), delT_some htf hi hiz, if_neg (by simp), if_neg (by rw [hk5]; simp), del_filter hC.up hiz ha5]
    have := putT_filter (bs := rs) (z := ⟨p, 5, 0, 0, 0⟩) hno
    rw [this]
end Tre
end Go.Proofs.YtgfoliafpjhjcaaGreatDoor

/- plain mathematics of the promise on paths: a path that is joined of a path and a name is its parent and its last name. -/
namespace Go.Proofs.YtgfoliafpjhjcaaGreatDoor
namespace Pth

theorem okName_count {n : List UInt8} (h : okName n = true) : n.count 47 = 0 := by
  unfold okName at h
  simp only [Bool.and_eq_true] at h
  rw [List.count_eq_zero]
  intro hm
  have := List.all_eq_true.1 h.1 47 hm
  revert this; decide

theorem lastSl_app (l n : List UInt8) (hn : n.count 47 = 0) : ∀ i a, lastSl (l ++ 47 :: n) i a = i + l.length := by
  induction l with
  | nil => intro i a; simp only [List.nil_append, lastSl, if_true]; rw [count_lastSl n _ _ hn]; simp
  | cons c r ih =>
    intro i a
    simp only [List.cons_append, lastSl, List.length_cons]
    split
    · rw [ih]; omega
    · rw [ih]; omega

theorem joined_form (p n : List UInt8) (hp : p ≠ []) : (p = [47] ∧ joined p n = [] ++ 47 :: n) ∨ (p ≠ [47] ∧ p ≠ [] ∧ joined p n = p ++ 47 :: n) := by
  unfold joined
  by_cases h : p = [47]
  · left; exact ⟨h, by rw [if_pos h]; rfl⟩
  · right; exact ⟨h, hp, by rw [if_neg h]⟩

theorem path_ne {p : List UInt8} (h : faultI p = 0) : p ≠ [] := by
  rintro rfl; revert h; decide

theorem joined_ne_top {p n : List UInt8} (hp : faultI p = 0) (hn : okName n = true) : joined p n ≠ [47] := by
  have hne : n ≠ [] := by rintro rfl; revert hn; decide
  rcases joined_form p n (path_ne hp) with ⟨_, h⟩ | ⟨_, h1, h⟩
  · rw [h]; simpa using hne
  · rw [h]
    intro e
    have := congrArg List.length e
    have hl : 0 < n.length := List.length_pos_iff.2 hne
    simp at this
    omega
theorem parent_joined {p n : List UInt8} (hp : faultI p = 0) (hn : okName n = true) (hj : faultI (joined p n) = 0) : parentV (joined p n) = (0, p) := by
  unfold parentV
  rw [hj, if_neg (by decide), if_neg (joined_ne_top hp hn)]
  have hc := okName_count hn
  rcases joined_form p n (path_ne hp) with ⟨h1, h⟩ | ⟨h1, h2, h⟩
  · rw [h, lastSl_app [] n hc, if_pos (by simp), h1]
  · rw [h, lastSl_app p n hc, if_neg, Nat.zero_add, List.take_left]
    have : p.length ≠ 0 := fun e => h2 (List.eq_nil_of_length_eq_zero e)
    omega
theorem name_joined {p n : List UInt8} (hp : faultI p = 0) (hn : okName n = true) (hj : faultI (joined p n) = 0) : nameV (joined p n) = (0, n) := by
  unfold nameV
  rw [hj, if_neg (by decide), if_neg (joined_ne_top hp hn)]
  have hc := okName_count hn
  have key : ∀ l : List UInt8, (l ++ 47 :: n).drop (0 + l.length + 1) = n := by
    intro l
    rw [show l ++ 47 :: n = (l ++ [47]) ++ n from by simp, List.drop_left' (by simp)]
  rcases joined_form p n (path_ne hp) with ⟨h1, h⟩ | ⟨h1, h2, h⟩
  · rw [h, lastSl_app [] n hc, key]
  · rw [h, lastSl_app p n hc, key]
theorem under_joined {p n : List UInt8} (hp : faultI p = 0) (hj : faultI (joined p n) = 0) : underV (joined p n) p = true := by
  unfold underV under
  rw [hp, hj]
  rcases joined_form p n (path_ne hp) with ⟨h1, h⟩ | ⟨h1, h2, h⟩
  · simp [h1]
  · have : (p ++ [47]).isPrefixOf (joined p n) = true := by
      rw [List.isPrefixOf_iff_prefix, h]
      exact ⟨n, by simp⟩
    simp [this]
theorem joined_longer {p n : List UInt8} (hp : faultI p = 0) (hn : okName n = true) : p.length < (joined p n).length := by
  have hne : n ≠ [] := by rintro rfl; revert hn; decide
  have hl : 0 < n.length := List.length_pos_iff.2 hne
  rcases joined_form p n (path_ne hp) with ⟨h1, h⟩ | ⟨h1, h2, h⟩
  · rw [h, h1]; simp; omega
  · rw [h]; simp
theorem not_under_joined {p n : List UInt8} (hp : faultI p = 0) (hn : okName n = true) (hj : faultI (joined p n) = 0) : underV p (joined p n) = false := by
  have hlt := joined_longer hp hn
  unfold underV under
  rw [hp, hj]
  have h1 : ¬ p = joined p n := fun e => by rw [← e] at hlt; omega
  have h3 : (joined p n ++ [47]).isPrefixOf p = false := by
    rw [← Bool.not_eq_true, List.isPrefixOf_iff_prefix]
    intro x
    have := x.length_le
    simp at this
    omega
  have h2 := joined_ne_top hp hn
  rw [h3]
  simp [h1, h2]
theorem under_top_joined {p n : List UInt8} (hj : faultI (joined p n) = 0) : underV (joined p n) [47] = true := by
  unfold underV under
  rw [hj]
  have : faultI [47] = 0 := by decide
  rw [this]
  simp
theorem deep_joined {p n : List UInt8} (hp : faultI p = 0) (hn : okName n = true) (hj : faultI (joined p n) = 0) : ∃ d : Int, 0 ≤ d ∧ d ≤ (p.length : Int) ∧ deepV p = (0, d) ∧ deepV (joined p n) = (0, d + 1) := by
  have hc := okName_count hn
  unfold deepV
  rw [hp, hj, if_neg (by decide : ¬ (0 : Int) ≠ 0), if_neg (by decide : ¬ (0 : Int) ≠ 0), if_neg (joined_ne_top hp hn)]
  rcases joined_form p n (path_ne hp) with ⟨h1, h⟩ | ⟨h1, h2, h⟩
  · refine ⟨0, by omega, by omega, by rw [if_pos h1], ?_⟩
    rw [h]; simp [hc]
  · refine ⟨(p.count 47 : Nat), by omega, ?_, by rw [if_neg h1], ?_⟩
    · have := List.count_le_length (a := (47 : UInt8)) (l := p); omega
    · rw [h]; simp [List.count_append, hc]
theorem joinV_cases (p n : List UInt8) : (∃ c, joinV p n = (c, []) ∧ c ≠ 0) ∨ (joinV p n = (0, joined p n) ∧ faultI p = 0 ∧ okName n = true ∧ faultI (joined p n) = 0) := by
  unfold joinV
  by_cases h1 : faultI p = 0
  · rw [h1, if_neg (by decide)]
    cases h2 : okName n
    · left; exact ⟨5, by simp, by decide⟩
    · by_cases h3 : faultI (joined p n) = 0
      · right; rw [if_neg (by decide), h3, if_neg (by decide)]; exact ⟨rfl, rfl, rfl, rfl⟩
      · left; rw [if_neg (by decide), if_pos h3]; exact ⟨_, rfl, h3⟩
  · left; rw [if_pos h1]; exact ⟨_, rfl, h1⟩
end Pth
end Go.Proofs.YtgfoliafpjhjcaaGreatDoor

/- What a creation without a code says of the tree, and leaves; a name with a number is never given twice. -/
namespace Go.Proofs.YtgfoliafpjhjcaaGreatDoor
open Go.RowKit
namespace Tre
/-- A node whose path and owner stay may turn. -/
theorem Good.turn {zs : List Zn} (h : Good zs) {k : Nat} {y y' : Zn} (hy : zs[k]? = some y) (hp : y'.path = y.path) (ho : y'.owner = y.owner) (hn : okNums y' = true) : Good (zs.set k y') := by
  have hk := (List.getElem?_eq_some_iff.1 hy).1
  have hym := List.mem_of_getElem? hy
  have hin : y' ∈ zs.set k y' := List.mem_of_getElem? (List.getElem?_set_self hk)
  have hat : ∀ q x, x ∈ zs → isAt q x = true → ∃ x' ∈ zs.set k y', isAt q x' = true ∧ x'.owner = x.owner := fun q x hx ha => by
    obtain ⟨i, hi⟩ := List.getElem?_of_mem hx
    by_cases hik : i = k
    · subst hik
      rw [hy] at hi; cases hi
      exact ⟨y', hin, by rw [isAt_iff] at ha ⊢; unfold key at ha ⊢; rw [hp]; exact ha, ho⟩
    · exact ⟨x, List.mem_of_getElem? (by rw [List.getElem?_set_ne (Ne.symm hik)]; exact hi), ha, rfl⟩
  refine ⟨by simpa using h.few, fun z hz => ?_, ?_, ?_, fun z hz => ?_⟩
  · rcases List.mem_or_eq_of_mem_set hz with hz | rfl
    · exact h.each z hz
    · exact ⟨by rw [hp]; exact (h.each y hym).1, hn⟩
  · rw [List.pairwise_iff_getElem]
    intro i j hi hj hij
    rw [List.length_set] at hi hj
    have h0 := (List.pairwise_iff_getElem.1 h.up) i j hi hj hij
    have e : ∀ t (ht : t < zs.length), key ((zs.set k y')[t]'(by simpa using ht)) = key zs[t] := fun t ht => by
      rw [List.getElem_set]
      split
      · rename_i hkt; subst hkt
        have : zs[k] = y := (List.getElem?_eq_some_iff.1 hy).2
        rw [this]; unfold key; rw [hp]
      · rfl
    rw [e i hi, e j hj]; exact h0
  · obtain ⟨z, hz, ha⟩ := h.top
    obtain ⟨x, hx, hxa, -⟩ := hat _ z hz ha
    exact ⟨x, hx, hxa⟩
  · have hz' : ∃ z0 ∈ zs, z.path = z0.path := by
      rcases List.mem_or_eq_of_mem_set hz with hz | rfl
      · exact ⟨z, hz, rfl⟩
      · exact ⟨y, hym, hp⟩
    obtain ⟨z0, hz0, he⟩ := hz'
    obtain ⟨x, hx, hxa, hxo⟩ := h.hung z0 hz0
    obtain ⟨x', hx', ha', ho'⟩ := hat _ x hx hxa
    exact ⟨x', hx', by rw [he]; exact ha', ho'.trans hxo⟩
theorem set_paths {zs : List Zn} {k : Nat} {y y' : Zn} (hy : zs[k]? = some y) (hp : y'.path = y.path) {q : ByteArray} (h : ∀ x ∈ zs, isAt q x = false) : ∀ x ∈ zs.set k y', isAt q x = false := fun x hx => by
  rcases List.mem_or_eq_of_mem_set hx with hx | rfl
  · exact h x hx
  · have := h y (List.mem_of_getElem? hy)
    unfold isAt at this ⊢; rw [hp]; exact this
theorem at_none {zs : List Zn} {p : ByteArray} (h : ¬ 0 ≤ atI zs p) : ∀ y ∈ zs, isAt p y = false := fun y hy => by
  cases h5 : isAt p y with
  | false => rfl
  | true => exact absurd (atI_mem.2 ⟨y, hy, h5⟩) h
theorem par_seq {p : ByteArray} {n : Int} (hp : Pth.faultI (par p).data.toList = 0) (hn : Pth.okName (seqN p n).data.toList = true) (hf : Pth.faultI (seqP p n).data.toList = 0) : par (seqP p n) = par p ∧ ¬ (seqP p n).data.toList = [47] := by
  unfold seqP at hf ⊢
  rw [mkB_list] at hf ⊢
  have h1 := Pth.parent_joined hp hn hf
  have h2 := Pth.joined_ne_top hp hn
  refine ⟨?_, h2⟩
  unfold Pth.parentV at h1
  rw [hf, if_neg (by decide), if_neg h2] at h1
  simp only [Prod.mk.injEq, true_and] at h1
  unfold par
  rw [mkB_list]
  refine ba_eq ?_
  rw [mkB_list]
  refine h1.trans ?_
  unfold par; rw [mkB_list]
theorem nums_of {zs : List Zn} (h : Good zs) {z : Zn} (hz : z ∈ zs) : 0 ≤ z.data ∧ z.data ≤ 9999 ∧ 0 ≤ z.version ∧ z.version ≤ 999 ∧ 0 ≤ z.owner ∧ z.owner ≤ 9 ∧ 0 ≤ z.next ∧ z.next ≤ 100 := by
  have := (h.each z hz).2
  unfold okNums at this
  simp only [Bool.and_eq_true, decide_eq_true_eq] at this
  omega
theorem okNums_of {z : Zn} (h : 0 ≤ z.data ∧ z.data ≤ 9999 ∧ 0 ≤ z.version ∧ z.version ≤ 999 ∧ 0 ≤ z.owner ∧ z.owner ≤ 9 ∧ 0 ≤ z.next ∧ z.next ≤ 100) : okNums z = true := by
  unfold okNums; simp only [Bool.and_eq_true, decide_eq_true_eq]; omega
/-- What a creation is. -/
structure Made (zs : List Zn) (p : ByteArray) (d o : Int) (q : Bool) (pa : ByteArray) (bs : List Zn) : Prop where
  good : Good zs
  path : Pth.faultI p.data.toList = 0
  base : Good bs
  right : Pth.faultI pa.data.toList = 0
  notTop : ¬ pa.data.toList = [47]
  new : ∀ y ∈ bs, isAt pa y = false
  newZ : ∀ y ∈ zs, isAt pa y = false
  hangs : ∃ x ∈ bs, isAt (par pa) x = true ∧ x.owner = 0
  few : bs.length < 20
  many : bs.length = zs.length
  nums : 0 ≤ d ∧ d ≤ 9999 ∧ 0 ≤ o ∧ o ≤ 9
  sameP : par pa = par p
  pTop : ¬ p.data.toList = [47]
  plain : q = false → pa = p ∧ bs = zs
  seqd : q = true → ∃ (k : Nat) (y : Zn), atI zs (par p) = k ∧ zs[k]? = some y ∧ pa = seqP p y.next ∧ bs = zs.set k { y with next := y.next + 1 } ∧ 0 ≤ y.next ∧ y.next < 100 ∧ Pth.okName (seqN p y.next).data.toList = true
theorem create_zero {zs : List Zn} {p : ByteArray} {d o : Int} {q : Bool} (h : (createV zs p d o q).1 = 0) : ∃ pa bs, createV zs p d o q = (0, pa, putT bs ⟨pa, d, 0, o, 0⟩) ∧ Made zs p d o q pa bs := by
  by_cases h0 : asked zs p = 0
  · obtain ⟨h1, h2⟩ := asked_fault h0
    have hG := good_of h1
    rw [createV_ok h0] at h ⊢
    cases hdo : (okData d && okOwner o) with
    | false => rw [createT_range hdo] at h; cases h
    | true =>
    by_cases ht : p.data.toList = [47]
    · rw [createT_top hdo (by rw [Lib.toList_data, ht]; rfl)] at h; cases h
    have htf := top_false ht
    rcases atI_range zs (par p) with ⟨hm, -⟩ | ⟨k, y, hk, hkl, hy, ha⟩
    · rw [createT_none hdo htf (by omega)] at h; cases h
    rw [createT_some hdo htf hk hy] at h ⊢
    by_cases ho : y.owner = 0
    rotate_left
    · rw [if_pos ho] at h; cases h
    rw [if_neg (by rw [ho]; simp)] at h ⊢
    have hym := List.mem_of_getElem? hy
    have hnum : 0 ≤ d ∧ d ≤ 9999 ∧ 0 ≤ o ∧ o ≤ 9 := by
      unfold okData okOwner at hdo
      simp only [Bool.and_eq_true, decide_eq_true_eq] at hdo
      omega
    cases q with
    | false =>
      rw [if_neg (by decide)] at h ⊢
      unfold finT at h ⊢
      by_cases hat : 0 ≤ atI zs p
      · rw [if_pos hat] at h; cases h
      rw [if_neg hat] at h ⊢
      by_cases hl : 20 ≤ zs.length
      · rw [if_pos hl] at h; cases h
      rw [if_neg hl]
      exact ⟨p, zs, rfl, ⟨hG, h2, hG, h2, ht, at_none hat, at_none hat, ⟨y, hym, ha, ho⟩, by omega, rfl, hnum, rfl, ht, fun _ => ⟨rfl, rfl⟩, fun h => by cases h⟩⟩
    | true =>
      rw [if_pos rfl] at h ⊢
      by_cases hs : (seqT zs p k y).1 = 0
      rotate_left
      · rw [if_pos hs] at h; exact absurd h hs
      rw [if_neg (by rw [hs]; simp)] at h ⊢
      have hsq : y.next < 100 ∧ Pth.okName (seqN p y.next).data.toList = true ∧ Pth.faultI (seqP p y.next).data.toList = 0 ∧ seqT zs p k y = (0, seqP p y.next, zs.set k { y with next := y.next + 1 }) := by
        unfold seqT at hs ⊢
        split at hs
        · cases hs
        rename_i a1
        split at hs
        · cases hs
        rename_i a2
        split at hs
        · rename_i a3; exact absurd hs a3
        rename_i a3
        rw [if_neg a1, if_neg a2, if_neg a3]
        exact ⟨by omega, by simpa using a2, by simpa using a3, rfl⟩
      obtain ⟨b1, b2, b3, b4⟩ := hsq
      rw [b4] at h ⊢
      dsimp only at h ⊢
      unfold finT at h ⊢
      by_cases hat : 0 ≤ atI zs (seqP p y.next)
      · rw [if_pos hat] at h; cases h
      rw [if_neg hat] at h ⊢
      by_cases hl : 20 ≤ zs.length
      · rw [if_pos hl] at h; cases h
      rw [if_neg hl]
      have hyn := nums_of hG hym
      have hB : Good (zs.set k { y with next := y.next + 1 }) := hG.turn hy rfl rfl (okNums_of (by show _; simp only; omega))
      have hpp : Pth.faultI (par p).data.toList = 0 := by
        have := (hG.each y hym).1
        rw [path_of ha] at this; exact this
      obtain ⟨c1, c2⟩ := par_seq hpp b2 b3
      refine ⟨seqP p y.next, zs.set k { y with next := y.next + 1 }, rfl, ⟨hG, h2, hB, b3, c2, set_paths (y' := { y with next := y.next + 1 }) hy rfl (at_none hat), at_none hat, ⟨{ y with next := y.next + 1 }, List.mem_of_getElem? (List.getElem?_set_self hkl), ?_, ho⟩, by simp; omega, by simp, hnum, c1, ht, (fun h => by cases h), fun _ => ⟨k, y, hk, hy, rfl, rfl, hyn.2.2.2.2.2.2.1, b1, b2⟩⟩⟩
      rw [c1]; exact ha
  · rw [createV_bad rfl h0] at h; exact absurd h h0
theorem Made.tree {zs : List Zn} {p : ByteArray} {d o : Int} {q : Bool} {pa : ByteArray} {bs : List Zn} (h : Made zs p d o q pa bs) : Good (putT bs ⟨pa, d, 0, o, 0⟩) :=
  h.base.put h.few ⟨h.right, okNums_of (by have := h.nums; show _; simp only; omega)⟩ h.new h.hangs
/-- No node is a kid of what is new. -/
theorem Made.noKid {zs : List Zn} {p : ByteArray} {d o : Int} {q : Bool} {pa : ByteArray} {bs : List Zn} (h : Made zs p d o q pa bs) : kids (putT bs ⟨pa, d, 0, o, 0⟩) pa = [] := kids_nil.2 fun y hy => by
  cases h5 : isKid pa y with
  | false => rfl
  | true =>
    exfalso
    have hk := (of_isKid h5).1
    rcases putT_mem.1 hy with rfl | hy
    · exact par_ne h.right h.notTop hk
    · obtain ⟨x, hx, hxa, -⟩ := h.base.hung y hy
      have := h.new x hx
      rw [isAt_iff.2 ((isAt_iff.1 hxa).trans hk)] at this; cases this
/-- What is new may be deleted, and what was there is left. -/
theorem Made.del {zs : List Zn} {p : ByteArray} {d o : Int} {q : Bool} {pa : ByteArray} {bs : List Zn} (h : Made zs p d o q pa bs) : delV (putT bs ⟨pa, d, 0, o, 0⟩) pa (-1) = (0, ⟨#[]⟩, bs) := by
  have hT := h.tree
  have ha : isAt pa (⟨pa, d, 0, o, 0⟩ : Zn) = true := isAt_iff.2 rfl
  obtain ⟨i, hi, hiz⟩ := at_of hT.up (putT_mem.2 (Or.inl rfl)) ha
  rw [delV_ok (asked_of hT h.right), delT_some (top_false h.notTop) hi hiz, if_neg (by simp), if_neg (by rw [h.noKid]; simp), del_filter hT.up hiz ha]
  have := putT_filter (bs := bs) (z := ⟨pa, d, 0, o, 0⟩) h.new
  rw [this]
theorem seqP_inj {p : ByteArray} {m n : Int} (h0 : 0 ≤ m ∧ m < 100) (h1 : 0 ≤ n ∧ n < 100) (h : seqP p m = seqP p n) : m = n := by
  have h2 : (seqP p m).data.toList = (seqP p n).data.toList := by rw [h]
  unfold seqP at h2
  rw [mkB_list, mkB_list, seqN_list p h0.1, seqN_list p h1.1] at h2
  have h3 : Pth.seqd (lastName p).data.toList m.toNat = Pth.seqd (lastName p).data.toList n.toNat := by
    unfold Pth.joined at h2
    split at h2
    · simpa using h2
    · have := List.append_cancel_left h2; simpa using this
  unfold Pth.seqd at h3
  have h4 := List.append_cancel_left h3
  simp only [List.cons.injEq, and_true] at h4
  have e1 := congrArg UInt8.toNat h4.1
  have e2 := congrArg UInt8.toNat h4.2
  simp only [UInt8.toNat_ofNat'] at e1 e2
  omega
/-- All that FnNumbers asks of trees. -/
theorem numbers_all {zs : List Zn} {p : ByteArray} {d : Int} (h : (createV zs p d 0 true).1 = 0) : ∃ pa es bs, createV zs p d 0 true = (0, pa, es) ∧ delV es pa (-1) = (0, ⟨#[]⟩, bs) ∧ 3 < pa.size ∧ pa.size ≤ 24 ∧
    ((createV bs p d 0 true).1 = 0 → ¬ (createV bs p d 0 true).2.1 = pa ∧ fault (createV bs p d 0 true).2.2 = 0) := by
  obtain ⟨pa, bs, he, hM⟩ := create_zero h
  obtain ⟨k, y, hk, hy, hpa, hbs, hn0, hn1, hok⟩ := hM.seqd rfl
  refine ⟨pa, _, bs, he, hM.del, ?_, few_of_ok hM.right, fun hc => ?_⟩
  · have hl := lastName_ok hM.path hM.pTop
    have hlen : (seqN p y.next).data.toList.length = (lastName p).data.toList.length + 2 := by
      rw [seqN_list p hn0]; unfold Pth.seqd; simp
    have h1 : 1 ≤ (lastName p).data.toList.length := by
      unfold Pth.okName at hl
      simp only [Bool.and_eq_true, decide_eq_true_eq] at hl
      exact hl.2.1
    have h2 : 4 ≤ pa.data.toList.length := by
      rw [hpa]; unfold seqP; rw [mkB_list]; unfold Pth.joined
      split <;> simp only [List.length_cons, List.length_append] <;> omega
    rw [len_eq] at h2; omega
  · obtain ⟨pb, cs, he2, hM2⟩ := create_zero hc
    obtain ⟨k2, y2, hk2, hy2, hpb, hcs, hm0, hm1, -⟩ := hM2.seqd rfl
    rw [he2]
    refine ⟨?_, hM2.tree.fault⟩
    dsimp only
    intro e
    have hkl := (List.getElem?_eq_some_iff.1 hy).1
    have hin : ({ y with next := y.next + 1 } : Zn) ∈ bs := by rw [hbs]; exact List.mem_of_getElem? (List.getElem?_set_self hkl)
    have hay : isAt (par p) y = true := by
      rcases atI_range zs (par p) with ⟨hm, -⟩ | ⟨k', y', hk', -, hy', ha'⟩
      · omega
      · have : k' = k := by omega
        subst this
        rw [hy] at hy'; cases hy'; exact ha'
    have hay' : isAt (par p) ({ y with next := y.next + 1 } : Zn) = true := hay
    obtain ⟨k3, hk3, hy3⟩ := at_of hM.base.up hin hay'
    have : k3 = k2 := by omega
    subst this
    rw [hy2] at hy3
    cases hy3
    rw [hpb, hpa] at e
    have := seqP_inj ⟨hm0, hm1⟩ ⟨hn0, hn1⟩ e
    simp only at this
    omega
end Tre
end Go.Proofs.YtgfoliafpjhjcaaGreatDoor

/- laws.FnNumbers, walked: it answers true at every code. -/
namespace Go.Proofs.YtgfoliafpjhjcaaGreatDoor
open Go.RowKit
set_option maxHeartbeats 400000 in
theorem lwBigN_any (ad : Option Addr) (len cap : Nat) (w : World) :
    Calls Tryz.prog 7 #[.slice ad len cap] w fun e w' => e = .returned (.bool (decide (1048576 < len))) ∧ w' = w := by
  go_enter Tryz.func7, Tryz.ntmps7
  go_wp2
  go_ret
  exact ⟨ret_bool (by rw [Bool.eq_iff_iff]; simp; omega), rfl⟩
set_option maxHeartbeats 400000 in
theorem lawNumbers_big (ad : Option Addr) (len cap : Nat) (w : World) (hl : 1048576 < len) :
    Calls Tryz.prog 4 #[.slice ad len cap] w fun e w' => e = .returned (.bool true) ∧ Ext w w' := by
  have hbig : decide (1048576 < len) = true := by simpa using hl
  have hB := lwBigN_any ad len cap w
  rw [hbig] at hB
  clear hbig
  go_enter Tryz.func4, Tryz.ntmps4
  go_wp2_with fail
  refine hB.mono ?_
  rintro e w0 ⟨rfl, hw⟩
  subst hw
  clear hB
  go_wp2
  go_ret
  exact ⟨rfl, Ext.refl _⟩
/-- What the law holds while it goes on. -/
def NuSt (w0 : World) (bv : Value) (cs : List Zn) (c2 cq : Int) (pa pb tq : ByteArray) (ba bd bb bq : Nat) (W : World) : Prop :=
  Ext w0 W ∧ Gd W ∧ NSlice W bv cs ∧ (∃ v, BoxAt W ba 0 pa v) ∧ (∃ t v, BoxAt W bd 0 t v) ∧ BoxAt W bb c2 pb bv ∧ (bq < W.heap.size ∧ W.cell? ⟨bq, 0, none⟩ = some (.int .i64 cq) ∧ W.cell? ⟨bq, 1, none⟩ = some (.string tq))
theorem NuSt.ext {w0 W W' : World} {bv : Value} {cs : List Zn} {c2 cq : Int} {pa pb tq : ByteArray} {ba bd bb bq : Nat} (h : NuSt w0 bv cs c2 cq pa pb tq ba bd bb bq W) (he : Ext W W') : NuSt w0 bv cs c2 cq pa pb tq ba bd bb bq W' := by
  obtain ⟨h1, h2, h3, ⟨v4, h4⟩, ⟨t5, v5, h5⟩, h6, h7, h8, h9⟩ := h
  obtain ⟨hc, -⟩ := Ext.cell he
  exact ⟨h1.trans he, h2.ext he, h3.ext he, ⟨v4, h4.ext he⟩, ⟨t5, v5, h5.ext he⟩, h6.ext he, Nat.lt_of_lt_of_le h7 he.size, (hc _ _ h7).trans h8, (hc _ _ h7).trans h9⟩
theorem NuSt.cells {w0 W : World} {bv : Value} {cs : List Zn} {c2 cq : Int} {pa pb tq : ByteArray} {ba bd bb bq : Nat} (h : NuSt w0 bv cs c2 cq pa pb tq ba bd bb bq W) : W.cell? ⟨bd, 0, none⟩ = some (.int .i64 0) ∧ W.cell? ⟨bb, 0, none⟩ = some (.int .i64 c2) ∧ W.cell? ⟨bb, 1, none⟩ = some (.string pb) ∧ W.cell? ⟨bb, 2, none⟩ = some bv ∧ W.cell? ⟨ba, 1, none⟩ = some (.string pa) ∧ W.cell? ⟨bq, 0, none⟩ = some (.int .i64 cq) ∧ W.cell? ⟨bq, 1, none⟩ = some (.string tq) := by
  obtain ⟨h1, h2, h3, ⟨v4, h4⟩, ⟨t5, v5, h5⟩, h6, h7, h8, h9⟩ := h
  exact ⟨h5.2.1, h6.2.1, h6.2.2.1, h6.2.2.2, h4.2.2.1, h8, h9⟩
theorem slice_ofN {w : World} {v : Value} {g : Nat} {zs : List Zn} (h : Own w v g zs) : ∃ ad cap, v = .slice ad zs.length cap := by obtain ⟨a0, c0, h0, -⟩ := h; exact ⟨a0, c0, h0⟩

set_option linter.unusedSimpArgs false in
set_option maxHeartbeats 16000000 in
set_option maxRecDepth 100000 in
theorem lawNumbers (cv : Value) (w : World) (hg : Gd w) (hc : CodeOk w w.heap.size cv) :
    Calls Tryz.prog 4 #[cv] w fun e w' => e = .returned (.bool true) ∧ Ext w w' := by
  have hc' := hc
  obtain ⟨ad, len, cap0, rfl, hl, -⟩ := hc'
  have HC : Hid (CodeOk w w.heap.size (.slice ad len cap0)) := hc
  have HG : Hid (Gd w) := hg
  have hbig : decide (1048576 < len) = false := by simpa using hl
  have hB := lwBigN_any ad len cap0 w
  rw [hbig] at hB
  clear hc hbig hg
  go_enter Tryz.func4, Tryz.ntmps4
  go_wp2_with fail
  refine hB.mono ?_
  rintro e w0 ⟨rfl, hw⟩
  subst hw
  clear hB
  go_wp2_with fail
  refine (drawCreateZ_any _ _ HC.out).mono ?_
  rintro e w1 ⟨g, off, cap, zs, p, l, rfl, ⟨d, o, q, rfl⟩, hF, hO, hE⟩
  have HS1 : Hid (NSlice w1 (.slice (some ⟨g, off, none⟩) zs.length cap) zs ∧ Ext w0 w1 ∧ Gd w1) := ⟨hO.slice, hE, HG.out.ext hE⟩
  clear hF hO hE HG
  have HIm : Hid (∀ W : World, Gd W → NSlice W (.slice (some ⟨g, off, none⟩) zs.length cap) zs → Calls Tryz.prog 9 #[.slice (some ⟨g, off, none⟩) zs.length cap, .string p, .int .i64 d, .int .i64 0, .bool true] W (ZRet W (Tre.createV zs p d 0 true).1 (Tre.createV zs p d 0 true).2.1 (Tre.createV zs p d 0 true).2.2)) := fun W hg hS => implCreateZ_any _ zs p d 0 true W hg hS
  have HSp : Hid (∀ W : World, NSlice W (.slice (some ⟨g, off, none⟩) zs.length cap) zs → Calls Tryz.prog 10 #[.slice (some ⟨g, off, none⟩) zs.length cap, .string p, .int .i64 d, .int .i64 0, .bool true] W (ZRet W (Tre.createV zs p d 0 true).1 (Tre.createV zs p d 0 true).2.1 (Tre.createV zs p d 0 true).2.2)) := fun W hS => specCreateZ_any _ zs p d 0 true W hS
  go_wp2_with fail
  refine (HIm.out _ HS1.out.2.2 HS1.out.1).mono ?_
  rintro e w2 ⟨v2, g2, rfl, hg2, hO2, hE2⟩
  have HS2 : Hid (NSlice w2 (.slice (some ⟨g, off, none⟩) zs.length cap) zs ∧ Ext w0 w2 ∧ Gd w2) := ⟨HS1.out.1.ext hE2, HS1.out.2.1.trans hE2, HS1.out.2.2.ext hE2⟩
  clear HS1
  have hfz : ∀ (c : Int) (t : ByteArray) (v : Value) (w : World), (Instr.field 28 (.agg #[.int .i64 c, .string t, v]) 0).run Tryz.prog w = .ok (.int .i64 c) w := fun _ _ _ _ => by kernel_rfl
  by_cases hc0 : (Tre.createV zs p d 0 true).1 = 0
  · obtain ⟨pa, es, bs, hcr, hdl, h3, h24, hsec⟩ := Tre.numbers_all hc0
    rw [hcr] at hO2
    rw [hcr]
    clear hcr hc0 HIm HSp
    dsimp only at hO2
    obtain ⟨ad2, cap2, rfl⟩ := slice_ofN hO2
    have HS4 : Hid (NSlice (w2.alloc (.cells #[.int .i64 0, .string pa, .slice ad2 es.length cap2] 28)) (.slice ad2 es.length cap2) es ∧ BoxAt (w2.alloc (.cells #[.int .i64 0, .string pa, .slice ad2 es.length cap2] 28)) w2.heap.size 0 pa (.slice ad2 es.length cap2) ∧ Ext w0 (w2.alloc (.cells #[.int .i64 0, .string pa, .slice ad2 es.length cap2] 28)) ∧ Gd (w2.alloc (.cells #[.int .i64 0, .string pa, .slice ad2 es.length cap2] 28))) :=
      ⟨hO2.slice.ext ((Ext.refl _).alloc _), box_new w2 _ _ _ _, HS2.out.2.1.alloc _, HS2.out.2.2.ext ((Ext.refl _).alloc _)⟩
    have HD : Hid (∀ W : World, Gd W → NSlice W (.slice ad2 es.length cap2) es → Calls Tryz.prog 15 #[.slice ad2 es.length cap2, .string pa, .int .i64 (-1)] W (ZRet W 0 ⟨#[]⟩ bs)) := fun W hg hS => by have h := implDeleteZ_any _ es pa (-1) W hg hS; rw [hdl] at h; exact h
    clear hO2 hE2 hg2 HS2 hdl
    unfold zr
    go_wp2_with fail
    refine (HD.out _ HS4.out.2.2.2 HS4.out.1).mono ?_
    rintro e w3 ⟨v3, g3, rfl, hg3, hO3, hE3⟩
    obtain ⟨ad3, cap3, rfl⟩ := slice_ofN hO3
    have HS5 : Hid (NSlice (w3.alloc (.cells #[.int .i64 0, .string ⟨#[]⟩, .slice ad3 bs.length cap3] 28)) (.slice ad3 bs.length cap3) bs ∧ BoxAt (w3.alloc (.cells #[.int .i64 0, .string ⟨#[]⟩, .slice ad3 bs.length cap3] 28)) w2.heap.size 0 pa (.slice ad2 es.length cap2) ∧ BoxAt (w3.alloc (.cells #[.int .i64 0, .string ⟨#[]⟩, .slice ad3 bs.length cap3] 28)) w3.heap.size 0 ⟨#[]⟩ (.slice ad3 bs.length cap3) ∧ Ext w0 (w3.alloc (.cells #[.int .i64 0, .string ⟨#[]⟩, .slice ad3 bs.length cap3] 28)) ∧ Gd (w3.alloc (.cells #[.int .i64 0, .string ⟨#[]⟩, .slice ad3 bs.length cap3] 28))) :=
      ⟨hO3.slice.ext ((Ext.refl _).alloc _), (HS4.out.2.1.ext hE3).ext ((Ext.refl _).alloc _), box_new w3 _ _ _ _, (HS4.out.2.2.1.trans hE3).alloc _, (HS4.out.2.2.2.ext hE3).ext ((Ext.refl _).alloc _)⟩
    have HCr : Hid (∀ W : World, Gd W → NSlice W (.slice ad3 bs.length cap3) bs → Calls Tryz.prog 9 #[.slice ad3 bs.length cap3, .string p, .int .i64 d, .int .i64 0, .bool true] W (ZRet W (Tre.createV bs p d 0 true).1 (Tre.createV bs p d 0 true).2.1 (Tre.createV bs p d 0 true).2.2)) := fun W hg hS => implCreateZ_any _ bs p d 0 true W hg hS
    clear hO3 hE3 hg3 HS4 HD
    unfold zr
    obtain ⟨c2, hc2e⟩ : ∃ c, c = (Tre.createV bs p d 0 true).1 := ⟨_, rfl⟩
    obtain ⟨pb, hpbe⟩ : ∃ c, c = (Tre.createV bs p d 0 true).2.1 := ⟨_, rfl⟩
    obtain ⟨cs, hcse⟩ : ∃ c, c = (Tre.createV bs p d 0 true).2.2 := ⟨_, rfl⟩
    rw [← hc2e, ← hpbe, ← hcse] at HCr
    rw [← hc2e, ← hpbe, ← hcse] at hsec
    clear hc2e hpbe hcse
    go_wp2_with fail
    refine (HCr.out _ HS5.out.2.2.2.2 HS5.out.1).mono ?_
    rintro e w4 ⟨v4, g4, rfl, hg4, hO4, hE4⟩
    obtain ⟨ad4, cap4, rfl⟩ := slice_ofN hO4
    have HS6 : Hid (NSlice (w4.alloc (.cells #[.int .i64 c2, .string pb, .slice ad4 cs.length cap4] 28)) (.slice ad4 cs.length cap4) cs ∧ BoxAt (w4.alloc (.cells #[.int .i64 c2, .string pb, .slice ad4 cs.length cap4] 28)) w2.heap.size 0 pa (.slice ad2 es.length cap2) ∧ BoxAt (w4.alloc (.cells #[.int .i64 c2, .string pb, .slice ad4 cs.length cap4] 28)) w3.heap.size 0 ⟨#[]⟩ (.slice ad3 bs.length cap3) ∧ BoxAt (w4.alloc (.cells #[.int .i64 c2, .string pb, .slice ad4 cs.length cap4] 28)) w4.heap.size c2 pb (.slice ad4 cs.length cap4) ∧ Ext w0 (w4.alloc (.cells #[.int .i64 c2, .string pb, .slice ad4 cs.length cap4] 28)) ∧ Gd (w4.alloc (.cells #[.int .i64 c2, .string pb, .slice ad4 cs.length cap4] 28))) :=
      ⟨hO4.slice.ext ((Ext.refl _).alloc _), (HS5.out.2.1.ext hE4).ext ((Ext.refl _).alloc _), (HS5.out.2.2.1.ext hE4).ext ((Ext.refl _).alloc _), box_new w4 _ _ _ _, (HS5.out.2.2.2.1.trans hE4).alloc _, (HS5.out.2.2.2.2.ext hE4).ext ((Ext.refl _).alloc _)⟩
    clear hO4 hE4 hg4 HS5 HCr
    unfold zr
    go_wp2_with fail
    refine (drawSeqName_any _ _ (HC.out.rise HS6.out.2.2.2.2.1 HS6.out.2.2.2.2.1.size)).mono ?_
    rintro e w5 ⟨nm, n, rfl, hnm, hE5⟩
    have HS7 : Hid (NSlice w5 (.slice ad4 cs.length cap4) cs ∧ BoxAt w5 w2.heap.size 0 pa (.slice ad2 es.length cap2) ∧ BoxAt w5 w3.heap.size 0 ⟨#[]⟩ (.slice ad3 bs.length cap3) ∧ BoxAt w5 w4.heap.size c2 pb (.slice ad4 cs.length cap4) ∧ Ext w0 w5 ∧ Gd w5) := ⟨HS6.out.1.ext hE5, HS6.out.2.1.ext hE5, HS6.out.2.2.1.ext hE5, HS6.out.2.2.2.1.ext hE5, HS6.out.2.2.2.2.1.trans hE5, HS6.out.2.2.2.2.2.ext hE5⟩
    clear hE5 HS6 HC
    have HIq : Hid (∀ W : World, Calls Tryz.prog 17 #[.string nm, .int .i64 n] W fun e w' => e = .returned (tr (Pth.seqV nm.data.toList n)) ∧ Ext W w') := fun W => seqName_any nm n W (by omega)
    have HSq : Hid (∀ W : World, Calls Tryz.prog 18 #[.string nm, .int .i64 n] W fun e w' => e = .returned (tr (Pth.seqV nm.data.toList n)) ∧ Ext W w') := fun W => specSeqName_any nm n W (by omega)
    clear hnm
    generalize Pth.seqV nm.data.toList n = sq at *
    obtain ⟨cq, lq⟩ := sq
    unfold tr at HIq HSq
    simp only at HIq HSq
    generalize mkB lq = tq at *
    go_wp2_with fail
    refine (HIq.out _).mono ?_
    rintro e w6 ⟨rfl, hE6⟩
    have HT7 : Hid (NuSt w0 (.slice ad4 cs.length cap4) cs c2 cq pa pb tq w2.heap.size w3.heap.size w4.heap.size w6.heap.size (w6.alloc (.cells #[.int .i64 cq, .string tq] 36))) :=
      ⟨(HS7.out.2.2.2.2.1.trans hE6).alloc _, (HS7.out.2.2.2.2.2.ext hE6).ext ((Ext.refl _).alloc _), (HS7.out.1.ext hE6).ext ((Ext.refl _).alloc _), ⟨_, (HS7.out.2.1.ext hE6).ext ((Ext.refl _).alloc _)⟩, ⟨_, _, (HS7.out.2.2.1.ext hE6).ext ((Ext.refl _).alloc _)⟩, (HS7.out.2.2.2.1.ext hE6).ext ((Ext.refl _).alloc _), by simp, by simp, by simp⟩
    clear hE6 HS7 HIq
    go_wp2
    have hz2 := HT7.out
    generalize (w6.alloc (.cells #[.int .i64 cq, .string tq] 36)) = w7 at *
    generalize w2.heap.size = ba at *
    generalize w3.heap.size = bd at *
    generalize w4.heap.size = bb at *
    generalize w6.heap.size = bq at *
    clear hz2
    have hft : ∀ (c : Int) (t : ByteArray) (w : World), (Instr.field 36 (.agg #[.int .i64 c, .string t]) 0).run Tryz.prog w = .ok (.int .i64 c) w := fun _ _ _ => by kernel_rfl
    have hft1 : ∀ (c : Int) (t : ByteArray) (w : World), (Instr.field 36 (.agg #[.int .i64 c, .string t]) 1).run Tryz.prog w = .ok (.string t) w := fun _ _ _ => by kernel_rfl
    have hsz : (3 : Int) < (pa.size : Int) := by omega
    have ecq : (cq == cq) = true := by simp
    have etq : (tq.toList == tq.toList) = true := by simp
    have HFt : Hid (c2 = 0 → ∀ (W : World) (vb : Value), Gd W → NSlice W vb cs → Calls Tryz.prog 14 #[vb] W fun e w' => e = .returned (.int .i64 0) ∧ Ext W w') := fun h W vb hg hS => by have hh := implTreeFault_any vb cs W hg hS; rw [(hsec h).2] at hh; exact hh
    by_cases hc2 : c2 = 0
    · have hne := (hsec hc2).1
      have en1 : (pb.toList == pa.toList) = false := by rw [beq_val]; simpa using fun e => hne (ba_eq e)
      have en2 : (pb.toList != pa.toList) = true := by simp [bne, en1]
      have e20 : (c2 != 0) = false := by simp [hc2]
      clear hsec hne
      refine wp_region_held_drew (S := (fun W' => W'.cell? ⟨bd, 0, none⟩ = some (.int .i64 0) ∧ W'.cell? ⟨bb, 0, none⟩ = some (.int .i64 c2) ∧ W'.cell? ⟨bb, 1, none⟩ = some (.string pb) ∧ W'.cell? ⟨bb, 2, none⟩ = some (.slice ad4 cs.length cap4) ∧ W'.cell? ⟨ba, 1, none⟩ = some (.string pa) ∧ W'.cell? ⟨bq, 0, none⟩ = some (.int .i64 cq) ∧ W'.cell? ⟨bq, 1, none⟩ = some (.string tq))) (by kernel_rfl) HT7.out.cells (fun hHeld => ?_)
      refine wpAnyH_take (i := 0) (oi := { dst := some 57, op := Op.fieldAddr 28 (Operand.tmp 9) 0, type := 0, pos := "laws.go:104", after := #[], guard := none }) (v := ?v1) rfl (by kernel_rfl) (by kernel_rfl) (by kernel_rfl) (fun _ _ _ h => h) (Or.inl ⟨by rfl, ?y1⟩) (by assumption) ?r1
      case y1 => (intro w' hSw; (try dsimp only at hSw); go_simp; try with_reducible rfl)
      (try simp only [Act.put, List.setIfInBounds_toArray, List.set_cons_zero, List.set_cons_succ])
      refine wpAnyH_take (i := 1) (oi := { dst := some 58, op := Op.load 2 (Operand.tmp 57), type := 2, pos := "laws.go:104", after := #[{ on := 0, ground := Ground.data }], guard := none }) (v := ?v2) rfl (by kernel_rfl) (by kernel_rfl) (by kernel_rfl) (fun _ _ _ h => h) (Or.inl ⟨by rfl, ?y2⟩) (by assumption) ?r2
      case y2 => (intro w' hSw; (try dsimp only at hSw); go_simp; try with_reducible rfl)
      (try simp only [Act.put, List.setIfInBounds_toArray, List.set_cons_zero, List.set_cons_succ])
      refine wpAnyH_take (i := 2) (oi := { dst := some 59, op := Op.binOp BinOp.eql 2 (Operand.tmp 58) (Operand.const (Value.int IntKind.i64 0)) 2, type := 4, pos := "laws.go:104", after := #[{ on := 1, ground := Ground.data }], guard := none }) (v := ?v3) rfl (by kernel_rfl) (by kernel_rfl) (by kernel_rfl) (fun _ _ _ h => h) (Or.inl ⟨by rfl, ?y3⟩) (by assumption) ?r3
      case y3 => (intro w' hSw; (try dsimp only at hSw); go_simp; try with_reducible rfl)
      (try simp only [Act.put, List.setIfInBounds_toArray, List.set_cons_zero, List.set_cons_succ])
      refine wpAnyH_take (i := 3) (oi := { dst := some 60, op := Op.move (Operand.tmp 59), type := 4, pos := "laws.go:104", after := #[{ on := 2, ground := Ground.data }], guard := none }) (v := ?v4) rfl (by kernel_rfl) (by kernel_rfl) (by kernel_rfl) (fun _ _ _ h => h) (Or.inl ⟨by rfl, ?y4⟩) (by assumption) ?r4
      case y4 => (intro w' hSw; (try dsimp only at hSw); go_simp; try with_reducible rfl)
      (try simp only [Act.put, List.setIfInBounds_toArray, List.set_cons_zero, List.set_cons_succ])
      refine wpAnyH_take (i := 4) (oi := { dst := some 61, op := Op.fieldAddr 28 (Operand.tmp 10) 0, type := 0, pos := "laws.go:104", after := #[{ on := 3, ground := Ground.guard }], guard := some (3, true) }) (v := ?v5) rfl (by kernel_rfl) (by kernel_rfl) (by kernel_rfl) (fun _ _ _ h => h) (Or.inl ⟨by rfl, ?y5⟩) (by assumption) ?r5
      case y5 => (intro w' hSw; (try dsimp only at hSw); go_simp; try with_reducible rfl)
      (try simp only [Act.put, List.setIfInBounds_toArray, List.set_cons_zero, List.set_cons_succ])
      refine wpAnyH_take (i := 5) (oi := { dst := some 62, op := Op.load 2 (Operand.tmp 61), type := 2, pos := "laws.go:104", after := #[{ on := 4, ground := Ground.data }, { on := 3, ground := Ground.guard }], guard := some (3, true) }) (v := ?v6) rfl (by kernel_rfl) (by kernel_rfl) (by kernel_rfl) (fun _ _ _ h => h) (Or.inl ⟨by rfl, ?y6⟩) (by assumption) ?r6
      case y6 => (intro w' hSw; (try dsimp only at hSw); go_simp; try with_reducible rfl)
      (try simp only [Act.put, List.setIfInBounds_toArray, List.set_cons_zero, List.set_cons_succ])
      refine wpAnyH_take (i := 6) (oi := { dst := some 63, op := Op.binOp BinOp.neq 2 (Operand.tmp 62) (Operand.const (Value.int IntKind.i64 0)) 2, type := 4, pos := "laws.go:104", after := #[{ on := 5, ground := Ground.data }, { on := 3, ground := Ground.guard }], guard := some (3, true) }) (v := ?v7) rfl (by kernel_rfl) (by kernel_rfl) (by kernel_rfl) (fun _ _ _ h => h) (Or.inl ⟨by rfl, ?y7⟩) (by assumption) ?r7
      case y7 => (intro w' hSw; (try dsimp only at hSw); go_simp; try with_reducible rfl)
      (try simp only [Act.put, List.setIfInBounds_toArray, List.set_cons_zero, List.set_cons_succ])
      refine wpAnyH_take (i := 7) (oi := { dst := some 64, op := Op.move (Operand.tmp 63), type := 4, pos := "laws.go:104", after := #[{ on := 6, ground := Ground.data }, { on := 3, ground := Ground.chain }, { on := 3, ground := Ground.guard }], guard := some (3, true) }) (v := ?v8) rfl (by kernel_rfl) (by kernel_rfl) (by kernel_rfl) (fun _ _ _ h => h) (Or.inl ⟨by rfl, ?y8⟩) (by assumption) ?r8
      case y8 => (intro w' hSw; (try dsimp only at hSw); go_simp; try with_reducible rfl)
      (try simp only [Act.put, List.setIfInBounds_toArray, List.set_cons_zero, List.set_cons_succ])
      refine wpAnyH_take (i := 8) (oi := { dst := some 65, op := Op.fieldAddr 28 (Operand.tmp 10) 1, type := 0, pos := "laws.go:104", after := #[{ on := 7, ground := Ground.guard }], guard := some (7, false) }) (v := ?v9) rfl (by kernel_rfl) (by kernel_rfl) (by kernel_rfl) (fun _ _ _ h => h) (Or.inl ⟨by rfl, ?y9⟩) (by assumption) ?r9
      case y9 => (intro w' hSw; (try dsimp only at hSw); go_simp; try with_reducible rfl)
      (try simp only [Act.put, List.setIfInBounds_toArray, List.set_cons_zero, List.set_cons_succ])
      refine wpAnyH_take (i := 9) (oi := { dst := some 66, op := Op.load 9 (Operand.tmp 65), type := 9, pos := "laws.go:104", after := #[{ on := 8, ground := Ground.data }, { on := 7, ground := Ground.guard }], guard := some (7, false) }) (v := ?v10) rfl (by kernel_rfl) (by kernel_rfl) (by kernel_rfl) (fun _ _ _ h => h) (Or.inl ⟨by rfl, ?y10⟩) (by assumption) ?r10
      case y10 => (intro w' hSw; (try dsimp only at hSw); go_simp; try with_reducible rfl)
      (try simp only [Act.put, List.setIfInBounds_toArray, List.set_cons_zero, List.set_cons_succ])
      refine wpAnyH_take (i := 10) (oi := { dst := some 67, op := Op.fieldAddr 28 (Operand.tmp 8) 1, type := 0, pos := "laws.go:104", after := #[{ on := 7, ground := Ground.guard }], guard := some (7, false) }) (v := ?v11) rfl (by kernel_rfl) (by kernel_rfl) (by kernel_rfl) (fun _ _ _ h => h) (Or.inl ⟨by rfl, ?y11⟩) (by assumption) ?r11
      case y11 => (intro w' hSw; (try dsimp only at hSw); go_simp; try with_reducible rfl)
      (try simp only [Act.put, List.setIfInBounds_toArray, List.set_cons_zero, List.set_cons_succ])
      refine wpAnyH_take (i := 11) (oi := { dst := some 68, op := Op.load 9 (Operand.tmp 67), type := 9, pos := "laws.go:104", after := #[{ on := 10, ground := Ground.data }, { on := 7, ground := Ground.guard }], guard := some (7, false) }) (v := ?v12) rfl (by kernel_rfl) (by kernel_rfl) (by kernel_rfl) (fun _ _ _ h => h) (Or.inl ⟨by rfl, ?y12⟩) (by assumption) ?r12
      case y12 => (intro w' hSw; (try dsimp only at hSw); go_simp; try with_reducible rfl)
      (try simp only [Act.put, List.setIfInBounds_toArray, List.set_cons_zero, List.set_cons_succ])
      refine wpAnyH_take (i := 12) (oi := { dst := some 69, op := Op.binOp BinOp.neq 9 (Operand.tmp 66) (Operand.tmp 68) 9, type := 4, pos := "laws.go:104", after := #[{ on := 9, ground := Ground.data }, { on := 11, ground := Ground.data }, { on := 7, ground := Ground.guard }], guard := some (7, false) }) (v := ?v13) rfl (by kernel_rfl) (by kernel_rfl) (by kernel_rfl) (fun _ _ _ h => h) (Or.inl ⟨by rfl, ?y13⟩) (by assumption) ?r13
      case y13 => (intro w' hSw; (try dsimp only at hSw); go_simp; try with_reducible rfl)
      (try simp only [Act.put, List.setIfInBounds_toArray, List.set_cons_zero, List.set_cons_succ])
      refine wpAnyH_take (i := 13) (oi := { dst := some 70, op := Op.move (Operand.tmp 69), type := 4, pos := "laws.go:104", after := #[{ on := 12, ground := Ground.data }, { on := 7, ground := Ground.chain }, { on := 7, ground := Ground.guard }], guard := some (7, false) }) (v := ?v14) rfl (by kernel_rfl) (by kernel_rfl) (by kernel_rfl) (fun _ _ _ h => h) (Or.inl ⟨by rfl, ?y14⟩) (by assumption) ?r14
      case y14 => (intro w' hSw; (try dsimp only at hSw); go_simp; try with_reducible rfl)
      (try simp only [Act.put, List.setIfInBounds_toArray, List.set_cons_zero, List.set_cons_succ])
      refine wpAnyH_take (i := 14) (oi := { dst := some 71, op := Op.fieldAddr 28 (Operand.tmp 10) 2, type := 0, pos := "laws.go:104", after := #[{ on := 13, ground := Ground.guard }], guard := some (13, true) }) (v := ?v15) rfl (by kernel_rfl) (by kernel_rfl) (by kernel_rfl) (fun _ _ _ h => h) (Or.inl ⟨by rfl, ?y15⟩) (by assumption) ?r15
      case y15 => (intro w' hSw; (try dsimp only at hSw); go_simp; try with_reducible rfl)
      (try simp only [Act.put, List.setIfInBounds_toArray, List.set_cons_zero, List.set_cons_succ])
      refine wpAnyH_take (i := 15) (oi := { dst := some 72, op := Op.load 24 (Operand.tmp 71), type := 24, pos := "laws.go:104", after := #[{ on := 14, ground := Ground.data }, { on := 13, ground := Ground.guard }], guard := some (13, true) }) (v := ?v16) rfl (by kernel_rfl) (by kernel_rfl) (by kernel_rfl) (fun _ _ _ h => h) (Or.inl ⟨by rfl, ?y16⟩) (by assumption) ?r16
      case y16 => (intro w' hSw; (try dsimp only at hSw); go_simp; try with_reducible rfl)
      (try simp only [Act.put, List.setIfInBounds_toArray, List.set_cons_zero, List.set_cons_succ])
      refine wpAnyH_ready (rs := [16]) (by kernel_rfl) (by simp) (AllReadyH.cons rfl (fun K hK => ?_) AllReadyH.nil)
      go_simp
      refine (HFt.out hc2 _ _ (HT7.out.ext ((Ext.refl _).drew)).2.1 (HT7.out.ext ((Ext.refl _).drew)).2.2.1).mono ?_
      rintro e w8 ⟨rfl, hb⟩
      have HTw8 : Hid (NuSt w0 (.slice ad4 cs.length cap4) cs c2 cq pa pb tq ba bd bb bq w8) := HT7.out.ext (((Ext.refl _).drew).trans hb)
      clear hb
      refine hK.out _ _ HTw8.out.cells (fun hHeldw8 => ?_)
      clear hK K
      refine wpAnyH_take (i := 17) (oi := { dst := some 74, op := Op.binOp BinOp.eql 2 (Operand.tmp 73) (Operand.const (Value.int IntKind.i64 0)) 2, type := 4, pos := "laws.go:104", after := #[{ on := 16, ground := Ground.data }, { on := 13, ground := Ground.guard }], guard := some (13, true) }) (v := ?v17) rfl (by kernel_rfl) (by kernel_rfl) (by kernel_rfl) (fun _ _ _ h => h) (Or.inl ⟨by rfl, ?y17⟩) (by assumption) ?r17
      case y17 => (intro w' hSw; (try dsimp only at hSw); go_simp; try with_reducible rfl)
      (try simp only [Act.put, List.setIfInBounds_toArray, List.set_cons_zero, List.set_cons_succ])
      refine wpAnyH_take (i := 18) (oi := { dst := some 75, op := Op.pick (Operand.tmp 70) (Operand.tmp 74) (Operand.const (Value.bool false)), type := 4, pos := "laws.go:104", after := #[{ on := 13, ground := Ground.data }, { on := 17, ground := Ground.data }, { on := 7, ground := Ground.guard }], guard := some (7, false) }) (v := ?v18) rfl (by kernel_rfl) (by kernel_rfl) (by kernel_rfl) (fun _ _ _ h => h) (Or.inl ⟨by rfl, ?y18⟩) (by assumption) ?r18
      case y18 => (intro w' hSw; (try dsimp only at hSw); go_simp; try with_reducible rfl)
      (try simp only [Act.put, List.setIfInBounds_toArray, List.set_cons_zero, List.set_cons_succ])
      refine wpAnyH_take (i := 19) (oi := { dst := some 76, op := Op.pick (Operand.tmp 64) (Operand.const (Value.bool true)) (Operand.tmp 75), type := 4, pos := "laws.go:104", after := #[{ on := 7, ground := Ground.data }, { on := 18, ground := Ground.data }, { on := 3, ground := Ground.guard }], guard := some (3, true) }) (v := ?v19) rfl (by kernel_rfl) (by kernel_rfl) (by kernel_rfl) (fun _ _ _ h => h) (Or.inl ⟨by rfl, ?y19⟩) (by assumption) ?r19
      case y19 => (intro w' hSw; (try dsimp only at hSw); go_simp; try with_reducible rfl)
      (try simp only [Act.put, List.setIfInBounds_toArray, List.set_cons_zero, List.set_cons_succ])
      refine wpAnyH_take (i := 20) (oi := { dst := some 77, op := Op.pick (Operand.tmp 60) (Operand.tmp 76) (Operand.const (Value.bool false)), type := 4, pos := "laws.go:104", after := #[{ on := 3, ground := Ground.data }, { on := 19, ground := Ground.data }], guard := none }) (v := ?v20) rfl (by kernel_rfl) (by kernel_rfl) (by kernel_rfl) (fun _ _ _ h => h) (Or.inl ⟨by rfl, ?y20⟩) (by assumption) ?r20
      case y20 => (intro w' hSw; (try dsimp only at hSw); go_simp; try with_reducible rfl)
      (try simp only [Act.put, List.setIfInBounds_toArray, List.set_cons_zero, List.set_cons_succ])
      refine wpAnyH_take (i := 21) (oi := { dst := some 78, op := Op.move (Operand.tmp 77), type := 4, pos := "laws.go:104", after := #[{ on := 20, ground := Ground.data }, { on := 16, ground := Ground.chain }], guard := none }) (v := ?v21) rfl (by kernel_rfl) (by kernel_rfl) (by kernel_rfl) (fun _ _ _ h => h) (Or.inl ⟨by rfl, ?y21⟩) (by assumption) ?r21
      case y21 => (intro w' hSw; (try dsimp only at hSw); go_simp; try with_reducible rfl)
      (try simp only [Act.put, List.setIfInBounds_toArray, List.set_cons_zero, List.set_cons_succ])
      refine wpAnyH_take (i := 22) (oi := { dst := some 79, op := Op.fieldAddr 36 (Operand.tmp 13) 0, type := 0, pos := "laws.go:104", after := #[{ on := 21, ground := Ground.guard }], guard := some (21, true) }) (v := ?v22) rfl (by kernel_rfl) (by kernel_rfl) (by kernel_rfl) (fun _ _ _ h => h) (Or.inl ⟨by rfl, ?y22⟩) (by assumption) ?r22
      case y22 => (intro w' hSw; (try dsimp only at hSw); go_simp; try with_reducible rfl)
      (try simp only [Act.put, List.setIfInBounds_toArray, List.set_cons_zero, List.set_cons_succ])
      refine wpAnyH_take (i := 23) (oi := { dst := some 80, op := Op.load 2 (Operand.tmp 79), type := 2, pos := "laws.go:104", after := #[{ on := 22, ground := Ground.data }, { on := 21, ground := Ground.guard }], guard := some (21, true) }) (v := ?v23) rfl (by kernel_rfl) (by kernel_rfl) (by kernel_rfl) (fun _ _ _ h => h) (Or.inl ⟨by rfl, ?y23⟩) (by assumption) ?r23
      case y23 => (intro w' hSw; (try dsimp only at hSw); go_simp; try with_reducible rfl)
      (try simp only [Act.put, List.setIfInBounds_toArray, List.set_cons_zero, List.set_cons_succ])
      refine wpAnyH_take (i := 24) (oi := { dst := some 81, op := Op.move (Operand.tmp 11), type := 9, pos := "laws.go:104", after := #[{ on := 21, ground := Ground.guard }], guard := some (21, true) }) (v := ?v24) rfl (by kernel_rfl) (by kernel_rfl) (by kernel_rfl) (fun _ _ _ h => h) (Or.inl ⟨by rfl, ?y24⟩) (by assumption) ?r24
      case y24 => (intro w' hSw; (try dsimp only at hSw); go_simp; try with_reducible rfl)
      (try simp only [Act.put, List.setIfInBounds_toArray, List.set_cons_zero, List.set_cons_succ])
      refine wpAnyH_take (i := 25) (oi := { dst := some 82, op := Op.move (Operand.tmp 12), type := 2, pos := "laws.go:104", after := #[{ on := 21, ground := Ground.guard }], guard := some (21, true) }) (v := ?v25) rfl (by kernel_rfl) (by kernel_rfl) (by kernel_rfl) (fun _ _ _ h => h) (Or.inl ⟨by rfl, ?y25⟩) (by assumption) ?r25
      case y25 => (intro w' hSw; (try dsimp only at hSw); go_simp; try with_reducible rfl)
      (try simp only [Act.put, List.setIfInBounds_toArray, List.set_cons_zero, List.set_cons_succ])
      refine wpAnyH_ready (rs := [26]) (by kernel_rfl) (by simp) (AllReadyH.cons rfl (fun K hK => ?_) AllReadyH.nil)
      go_simp
      refine (HSq.out _).mono ?_
      rintro e w9 ⟨rfl, hb⟩
      have HTw9 : Hid (NuSt w0 (.slice ad4 cs.length cap4) cs c2 cq pa pb tq ba bd bb bq w9) := HTw8.out.ext hb
      clear hb
      refine hK.out _ _ HTw9.out.cells (fun hHeldw9 => ?_)
      clear hK K
      refine wpAnyH_take (i := 27) (oi := { dst := some 84, op := Op.field 36 (Operand.tmp 83) 0, type := 2, pos := "laws.go:104", after := #[{ on := 26, ground := Ground.data }, { on := 21, ground := Ground.guard }], guard := some (21, true) }) (v := ?v26) rfl (by kernel_rfl) (by kernel_rfl) (by kernel_rfl) (fun _ _ _ h => h) (Or.inl ⟨by rfl, ?y26⟩) (by assumption) ?r26
      case y26 => (intro w' hSw; (try dsimp only at hSw); go_simp; try with_reducible rfl)
      (try simp only [Act.put, List.setIfInBounds_toArray, List.set_cons_zero, List.set_cons_succ])
      refine wpAnyH_take (i := 28) (oi := { dst := some 85, op := Op.binOp BinOp.eql 2 (Operand.tmp 80) (Operand.tmp 84) 2, type := 4, pos := "laws.go:104", after := #[{ on := 23, ground := Ground.data }, { on := 27, ground := Ground.data }, { on := 21, ground := Ground.guard }], guard := some (21, true) }) (v := ?v27) rfl (by kernel_rfl) (by kernel_rfl) (by kernel_rfl) (fun _ _ _ h => h) (Or.inl ⟨by rfl, ?y27⟩) (by assumption) ?r27
      case y27 => (intro w' hSw; (try dsimp only at hSw); go_simp; try with_reducible rfl)
      (try simp only [Act.put, List.setIfInBounds_toArray, List.set_cons_zero, List.set_cons_succ])
      refine wpAnyH_take (i := 29) (oi := { dst := some 86, op := Op.pick (Operand.tmp 78) (Operand.tmp 85) (Operand.const (Value.bool false)), type := 4, pos := "laws.go:104", after := #[{ on := 21, ground := Ground.data }, { on := 28, ground := Ground.data }], guard := none }) (v := ?v28) rfl (by kernel_rfl) (by kernel_rfl) (by kernel_rfl) (fun _ _ _ h => h) (Or.inl ⟨by rfl, ?y28⟩) (by assumption) ?r28
      case y28 => (intro w' hSw; (try dsimp only at hSw); go_simp; try with_reducible rfl)
      (try simp only [Act.put, List.setIfInBounds_toArray, List.set_cons_zero, List.set_cons_succ])
      refine wpAnyH_take (i := 30) (oi := { dst := some 87, op := Op.move (Operand.tmp 86), type := 4, pos := "laws.go:104", after := #[{ on := 29, ground := Ground.data }, { on := 26, ground := Ground.chain }], guard := none }) (v := ?v29) rfl (by kernel_rfl) (by kernel_rfl) (by kernel_rfl) (fun _ _ _ h => h) (Or.inl ⟨by rfl, ?y29⟩) (by assumption) ?r29
      case y29 => (intro w' hSw; (try dsimp only at hSw); go_simp; try with_reducible rfl)
      (try simp only [Act.put, List.setIfInBounds_toArray, List.set_cons_zero, List.set_cons_succ])
      refine wpAnyH_take (i := 31) (oi := { dst := some 88, op := Op.fieldAddr 36 (Operand.tmp 13) 1, type := 0, pos := "laws.go:104", after := #[{ on := 30, ground := Ground.guard }], guard := some (30, true) }) (v := ?v30) rfl (by kernel_rfl) (by kernel_rfl) (by kernel_rfl) (fun _ _ _ h => h) (Or.inl ⟨by rfl, ?y30⟩) (by assumption) ?r30
      case y30 => (intro w' hSw; (try dsimp only at hSw); go_simp; try with_reducible rfl)
      (try simp only [Act.put, List.setIfInBounds_toArray, List.set_cons_zero, List.set_cons_succ])
      refine wpAnyH_take (i := 32) (oi := { dst := some 89, op := Op.load 9 (Operand.tmp 88), type := 9, pos := "laws.go:104", after := #[{ on := 31, ground := Ground.data }, { on := 30, ground := Ground.guard }], guard := some (30, true) }) (v := ?v31) rfl (by kernel_rfl) (by kernel_rfl) (by kernel_rfl) (fun _ _ _ h => h) (Or.inl ⟨by rfl, ?y31⟩) (by assumption) ?r31
      case y31 => (intro w' hSw; (try dsimp only at hSw); go_simp; try with_reducible rfl)
      (try simp only [Act.put, List.setIfInBounds_toArray, List.set_cons_zero, List.set_cons_succ])
      refine wpAnyH_take (i := 33) (oi := { dst := some 90, op := Op.move (Operand.tmp 11), type := 9, pos := "laws.go:104", after := #[{ on := 30, ground := Ground.guard }], guard := some (30, true) }) (v := ?v32) rfl (by kernel_rfl) (by kernel_rfl) (by kernel_rfl) (fun _ _ _ h => h) (Or.inl ⟨by rfl, ?y32⟩) (by assumption) ?r32
      case y32 => (intro w' hSw; (try dsimp only at hSw); go_simp; try with_reducible rfl)
      (try simp only [Act.put, List.setIfInBounds_toArray, List.set_cons_zero, List.set_cons_succ])
      refine wpAnyH_take (i := 34) (oi := { dst := some 91, op := Op.move (Operand.tmp 12), type := 2, pos := "laws.go:104", after := #[{ on := 30, ground := Ground.guard }], guard := some (30, true) }) (v := ?v33) rfl (by kernel_rfl) (by kernel_rfl) (by kernel_rfl) (fun _ _ _ h => h) (Or.inl ⟨by rfl, ?y33⟩) (by assumption) ?r33
      case y33 => (intro w' hSw; (try dsimp only at hSw); go_simp; try with_reducible rfl)
      (try simp only [Act.put, List.setIfInBounds_toArray, List.set_cons_zero, List.set_cons_succ])
      refine wpAnyH_ready (rs := [35]) (by kernel_rfl) (by simp) (AllReadyH.cons rfl (fun K hK => ?_) AllReadyH.nil)
      go_simp
      refine (HSq.out _).mono ?_
      rintro e wa ⟨rfl, hb⟩
      have HTwa : Hid (NuSt w0 (.slice ad4 cs.length cap4) cs c2 cq pa pb tq ba bd bb bq wa) := HTw9.out.ext hb
      clear hb
      refine hK.out _ _ HTwa.out.cells (fun hHeldwa => ?_)
      clear hK K
      refine wpAnyH_take (i := 36) (oi := { dst := some 93, op := Op.field 36 (Operand.tmp 92) 1, type := 9, pos := "laws.go:104", after := #[{ on := 35, ground := Ground.data }, { on := 30, ground := Ground.guard }], guard := some (30, true) }) (v := ?v34) rfl (by kernel_rfl) (by kernel_rfl) (by kernel_rfl) (fun _ _ _ h => h) (Or.inl ⟨by rfl, ?y34⟩) (by assumption) ?r34
      case y34 => (intro w' hSw; (try dsimp only at hSw); go_simp; try with_reducible rfl)
      (try simp only [Act.put, List.setIfInBounds_toArray, List.set_cons_zero, List.set_cons_succ])
      refine wpAnyH_take (i := 37) (oi := { dst := some 94, op := Op.binOp BinOp.eql 9 (Operand.tmp 89) (Operand.tmp 93) 9, type := 4, pos := "laws.go:104", after := #[{ on := 32, ground := Ground.data }, { on := 36, ground := Ground.data }, { on := 30, ground := Ground.guard }], guard := some (30, true) }) (v := ?v35) rfl (by kernel_rfl) (by kernel_rfl) (by kernel_rfl) (fun _ _ _ h => h) (Or.inl ⟨by rfl, ?y35⟩) (by assumption) ?r35
      case y35 => (intro w' hSw; (try dsimp only at hSw); go_simp; try with_reducible rfl)
      (try simp only [Act.put, List.setIfInBounds_toArray, List.set_cons_zero, List.set_cons_succ])
      refine wpAnyH_take (i := 38) (oi := { dst := some 95, op := Op.pick (Operand.tmp 87) (Operand.tmp 94) (Operand.const (Value.bool false)), type := 4, pos := "laws.go:104", after := #[{ on := 30, ground := Ground.data }, { on := 37, ground := Ground.data }], guard := none }) (v := ?v36) rfl (by kernel_rfl) (by kernel_rfl) (by kernel_rfl) (fun _ _ _ h => h) (Or.inl ⟨by rfl, ?y36⟩) (by assumption) ?r36
      case y36 => (intro w' hSw; (try dsimp only at hSw); go_simp; try with_reducible rfl)
      (try simp only [Act.put, List.setIfInBounds_toArray, List.set_cons_zero, List.set_cons_succ])
      refine wpAnyH_take (i := 39) (oi := { dst := some 96, op := Op.move (Operand.tmp 95), type := 4, pos := "laws.go:104", after := #[{ on := 38, ground := Ground.data }, { on := 35, ground := Ground.chain }], guard := none }) (v := ?v37) rfl (by kernel_rfl) (by kernel_rfl) (by kernel_rfl) (fun _ _ _ h => h) (Or.inl ⟨by rfl, ?y37⟩) (by assumption) ?r37
      case y37 => (intro w' hSw; (try dsimp only at hSw); go_simp; try with_reducible rfl)
      (try simp only [Act.put, List.setIfInBounds_toArray, List.set_cons_zero, List.set_cons_succ])
      refine wpAnyH_take (i := 40) (oi := { dst := some 97, op := Op.fieldAddr 28 (Operand.tmp 8) 1, type := 0, pos := "laws.go:104", after := #[{ on := 39, ground := Ground.guard }], guard := some (39, true) }) (v := ?v38) rfl (by kernel_rfl) (by kernel_rfl) (by kernel_rfl) (fun _ _ _ h => h) (Or.inl ⟨by rfl, ?y38⟩) (by assumption) ?r38
      case y38 => (intro w' hSw; (try dsimp only at hSw); go_simp; try with_reducible rfl)
      (try simp only [Act.put, List.setIfInBounds_toArray, List.set_cons_zero, List.set_cons_succ])
      refine wpAnyH_take (i := 41) (oi := { dst := some 98, op := Op.load 9 (Operand.tmp 97), type := 9, pos := "laws.go:104", after := #[{ on := 40, ground := Ground.data }, { on := 39, ground := Ground.guard }], guard := some (39, true) }) (v := ?v39) rfl (by kernel_rfl) (by kernel_rfl) (by kernel_rfl) (fun _ _ _ h => h) (Or.inl ⟨by rfl, ?y39⟩) (by assumption) ?r39
      case y39 => (intro w' hSw; (try dsimp only at hSw); go_simp; try with_reducible rfl)
      (try simp only [Act.put, List.setIfInBounds_toArray, List.set_cons_zero, List.set_cons_succ])
      refine wpAnyH_take (i := 42) (oi := { dst := some 99, op := Op.call { callee := Callee.builtin Builtin.len, args := #[Operand.tmp 98], argTypes := #[9] }, type := 3, pos := "laws.go:104", after := #[{ on := 41, ground := Ground.data }, { on := 39, ground := Ground.guard }], guard := some (39, true) }) (v := ?v40) rfl (by kernel_rfl) (by kernel_rfl) (by kernel_rfl) (fun _ _ _ h => h) (Or.inl ⟨by rfl, ?y40⟩) (by assumption) ?r40
      case y40 => (intro w' hSw; (try dsimp only at hSw); go_simp; try with_reducible rfl)
      (try simp only [Act.put, List.setIfInBounds_toArray, List.set_cons_zero, List.set_cons_succ])
      refine wpAnyH_take (i := 43) (oi := { dst := some 100, op := Op.binOp BinOp.gtr 3 (Operand.tmp 99) (Operand.const (Value.int IntKind.i64 3)) 3, type := 4, pos := "laws.go:104", after := #[{ on := 42, ground := Ground.data }, { on := 39, ground := Ground.guard }], guard := some (39, true) }) (v := ?v41) rfl (by kernel_rfl) (by kernel_rfl) (by kernel_rfl) (fun _ _ _ h => h) (Or.inl ⟨by rfl, ?y41⟩) (by assumption) ?r41
      case y41 => (intro w' hSw; (try dsimp only at hSw); go_simp; try with_reducible rfl)
      (try simp only [Act.put, List.setIfInBounds_toArray, List.set_cons_zero, List.set_cons_succ])
      refine wpAnyH_take (i := 44) (oi := { dst := some 101, op := Op.pick (Operand.tmp 96) (Operand.tmp 100) (Operand.const (Value.bool false)), type := 4, pos := "laws.go:104", after := #[{ on := 39, ground := Ground.data }, { on := 43, ground := Ground.data }], guard := none }) (v := ?v42) rfl (by kernel_rfl) (by kernel_rfl) (by kernel_rfl) (fun _ _ _ h => h) (Or.inl ⟨by rfl, ?y42⟩) (by assumption) ?r42
      case y42 => (intro w' hSw; (try dsimp only at hSw); go_simp; try with_reducible rfl)
      (try simp only [Act.put, List.setIfInBounds_toArray, List.set_cons_zero, List.set_cons_succ])
      refine wpAnyH_take (i := 45) (oi := { dst := some 2, op := Op.assign (Operand.tmp 101), type := 4, pos := "laws.go:104", after := #[{ on := 44, ground := Ground.data }, { on := 39, ground := Ground.chain }, { on := 0, ground := Ground.phase }, { on := 1, ground := Ground.phase }, { on := 2, ground := Ground.phase }, { on := 3, ground := Ground.phase }, { on := 4, ground := Ground.phase }, { on := 5, ground := Ground.phase }, { on := 6, ground := Ground.phase }, { on := 7, ground := Ground.phase }, { on := 8, ground := Ground.phase }, { on := 9, ground := Ground.phase }, { on := 10, ground := Ground.phase }, { on := 11, ground := Ground.phase }, { on := 12, ground := Ground.phase }, { on := 13, ground := Ground.phase }, { on := 14, ground := Ground.phase }, { on := 15, ground := Ground.phase }, { on := 16, ground := Ground.phase }, { on := 17, ground := Ground.phase }, { on := 18, ground := Ground.phase }, { on := 19, ground := Ground.phase }, { on := 20, ground := Ground.phase }, { on := 21, ground := Ground.phase }, { on := 22, ground := Ground.phase }, { on := 23, ground := Ground.phase }, { on := 24, ground := Ground.phase }, { on := 25, ground := Ground.phase }, { on := 26, ground := Ground.phase }, { on := 27, ground := Ground.phase }, { on := 28, ground := Ground.phase }, { on := 29, ground := Ground.phase }, { on := 30, ground := Ground.phase }, { on := 31, ground := Ground.phase }, { on := 32, ground := Ground.phase }, { on := 33, ground := Ground.phase }, { on := 34, ground := Ground.phase }, { on := 35, ground := Ground.phase }, { on := 36, ground := Ground.phase }, { on := 37, ground := Ground.phase }, { on := 38, ground := Ground.phase }, { on := 39, ground := Ground.phase }, { on := 40, ground := Ground.phase }, { on := 41, ground := Ground.phase }, { on := 42, ground := Ground.phase }, { on := 43, ground := Ground.phase }, { on := 44, ground := Ground.phase }], guard := none }) (v := ?v43) rfl (by kernel_rfl) (by kernel_rfl) (by kernel_rfl) (fun _ _ _ h => h) (Or.inl ⟨by rfl, ?y43⟩) (by assumption) ?r43
      case y43 => (intro w' hSw; (try dsimp only at hSw); go_simp; try with_reducible rfl)
      (try simp only [Act.put, List.setIfInBounds_toArray, List.set_cons_zero, List.set_cons_succ])
      refine wpAnyH_done (by kernel_rfl) ?_ _
      go_simp
      go_wp2
      go_ret
      exact ⟨rfl, HTwa.out.1⟩
    · have e20 : (c2 != 0) = true := by simpa using hc2
      clear hsec HFt
      refine wp_region_held_drew (S := (fun W' => W'.cell? ⟨bd, 0, none⟩ = some (.int .i64 0) ∧ W'.cell? ⟨bb, 0, none⟩ = some (.int .i64 c2) ∧ W'.cell? ⟨bb, 1, none⟩ = some (.string pb) ∧ W'.cell? ⟨bb, 2, none⟩ = some (.slice ad4 cs.length cap4) ∧ W'.cell? ⟨ba, 1, none⟩ = some (.string pa) ∧ W'.cell? ⟨bq, 0, none⟩ = some (.int .i64 cq) ∧ W'.cell? ⟨bq, 1, none⟩ = some (.string tq))) (by kernel_rfl) HT7.out.cells (fun hHeld => ?_)
      refine wpAnyH_take (i := 0) (oi := { dst := some 57, op := Op.fieldAddr 28 (Operand.tmp 9) 0, type := 0, pos := "laws.go:104", after := #[], guard := none }) (v := ?v44) rfl (by kernel_rfl) (by kernel_rfl) (by kernel_rfl) (fun _ _ _ h => h) (Or.inl ⟨by rfl, ?y44⟩) (by assumption) ?r44
      case y44 => (intro w' hSw; (try dsimp only at hSw); go_simp; try with_reducible rfl)
      (try simp only [Act.put, List.setIfInBounds_toArray, List.set_cons_zero, List.set_cons_succ])
      refine wpAnyH_take (i := 1) (oi := { dst := some 58, op := Op.load 2 (Operand.tmp 57), type := 2, pos := "laws.go:104", after := #[{ on := 0, ground := Ground.data }], guard := none }) (v := ?v45) rfl (by kernel_rfl) (by kernel_rfl) (by kernel_rfl) (fun _ _ _ h => h) (Or.inl ⟨by rfl, ?y45⟩) (by assumption) ?r45
      case y45 => (intro w' hSw; (try dsimp only at hSw); go_simp; try with_reducible rfl)
      (try simp only [Act.put, List.setIfInBounds_toArray, List.set_cons_zero, List.set_cons_succ])
      refine wpAnyH_take (i := 2) (oi := { dst := some 59, op := Op.binOp BinOp.eql 2 (Operand.tmp 58) (Operand.const (Value.int IntKind.i64 0)) 2, type := 4, pos := "laws.go:104", after := #[{ on := 1, ground := Ground.data }], guard := none }) (v := ?v46) rfl (by kernel_rfl) (by kernel_rfl) (by kernel_rfl) (fun _ _ _ h => h) (Or.inl ⟨by rfl, ?y46⟩) (by assumption) ?r46
      case y46 => (intro w' hSw; (try dsimp only at hSw); go_simp; try with_reducible rfl)
      (try simp only [Act.put, List.setIfInBounds_toArray, List.set_cons_zero, List.set_cons_succ])
      refine wpAnyH_take (i := 3) (oi := { dst := some 60, op := Op.move (Operand.tmp 59), type := 4, pos := "laws.go:104", after := #[{ on := 2, ground := Ground.data }], guard := none }) (v := ?v47) rfl (by kernel_rfl) (by kernel_rfl) (by kernel_rfl) (fun _ _ _ h => h) (Or.inl ⟨by rfl, ?y47⟩) (by assumption) ?r47
      case y47 => (intro w' hSw; (try dsimp only at hSw); go_simp; try with_reducible rfl)
      (try simp only [Act.put, List.setIfInBounds_toArray, List.set_cons_zero, List.set_cons_succ])
      refine wpAnyH_take (i := 4) (oi := { dst := some 61, op := Op.fieldAddr 28 (Operand.tmp 10) 0, type := 0, pos := "laws.go:104", after := #[{ on := 3, ground := Ground.guard }], guard := some (3, true) }) (v := ?v48) rfl (by kernel_rfl) (by kernel_rfl) (by kernel_rfl) (fun _ _ _ h => h) (Or.inl ⟨by rfl, ?y48⟩) (by assumption) ?r48
      case y48 => (intro w' hSw; (try dsimp only at hSw); go_simp; try with_reducible rfl)
      (try simp only [Act.put, List.setIfInBounds_toArray, List.set_cons_zero, List.set_cons_succ])
      refine wpAnyH_take (i := 5) (oi := { dst := some 62, op := Op.load 2 (Operand.tmp 61), type := 2, pos := "laws.go:104", after := #[{ on := 4, ground := Ground.data }, { on := 3, ground := Ground.guard }], guard := some (3, true) }) (v := ?v49) rfl (by kernel_rfl) (by kernel_rfl) (by kernel_rfl) (fun _ _ _ h => h) (Or.inl ⟨by rfl, ?y49⟩) (by assumption) ?r49
      case y49 => (intro w' hSw; (try dsimp only at hSw); go_simp; try with_reducible rfl)
      (try simp only [Act.put, List.setIfInBounds_toArray, List.set_cons_zero, List.set_cons_succ])
      refine wpAnyH_take (i := 6) (oi := { dst := some 63, op := Op.binOp BinOp.neq 2 (Operand.tmp 62) (Operand.const (Value.int IntKind.i64 0)) 2, type := 4, pos := "laws.go:104", after := #[{ on := 5, ground := Ground.data }, { on := 3, ground := Ground.guard }], guard := some (3, true) }) (v := ?v50) rfl (by kernel_rfl) (by kernel_rfl) (by kernel_rfl) (fun _ _ _ h => h) (Or.inl ⟨by rfl, ?y50⟩) (by assumption) ?r50
      case y50 => (intro w' hSw; (try dsimp only at hSw); go_simp; try with_reducible rfl)
      (try simp only [Act.put, List.setIfInBounds_toArray, List.set_cons_zero, List.set_cons_succ])
      refine wpAnyH_take (i := 7) (oi := { dst := some 64, op := Op.move (Operand.tmp 63), type := 4, pos := "laws.go:104", after := #[{ on := 6, ground := Ground.data }, { on := 3, ground := Ground.chain }, { on := 3, ground := Ground.guard }], guard := some (3, true) }) (v := ?v51) rfl (by kernel_rfl) (by kernel_rfl) (by kernel_rfl) (fun _ _ _ h => h) (Or.inl ⟨by rfl, ?y51⟩) (by assumption) ?r51
      case y51 => (intro w' hSw; (try dsimp only at hSw); go_simp; try with_reducible rfl)
      (try simp only [Act.put, List.setIfInBounds_toArray, List.set_cons_zero, List.set_cons_succ])
      refine wpAnyH_take (i := 8) (oi := { dst := some 65, op := Op.fieldAddr 28 (Operand.tmp 10) 1, type := 0, pos := "laws.go:104", after := #[{ on := 7, ground := Ground.guard }], guard := some (7, false) }) (v := undef) rfl (by kernel_rfl) (by kernel_rfl) (by kernel_rfl) (fun _ _ _ h => h) (Or.inr ⟨by rfl, rfl⟩) (by assumption) ?_
      (try simp only [Act.put, List.setIfInBounds_toArray, List.set_cons_zero, List.set_cons_succ])
      refine wpAnyH_take (i := 9) (oi := { dst := some 66, op := Op.load 9 (Operand.tmp 65), type := 9, pos := "laws.go:104", after := #[{ on := 8, ground := Ground.data }, { on := 7, ground := Ground.guard }], guard := some (7, false) }) (v := undef) rfl (by kernel_rfl) (by kernel_rfl) (by kernel_rfl) (fun _ _ _ h => h) (Or.inr ⟨by rfl, rfl⟩) (by assumption) ?_
      (try simp only [Act.put, List.setIfInBounds_toArray, List.set_cons_zero, List.set_cons_succ])
      refine wpAnyH_take (i := 10) (oi := { dst := some 67, op := Op.fieldAddr 28 (Operand.tmp 8) 1, type := 0, pos := "laws.go:104", after := #[{ on := 7, ground := Ground.guard }], guard := some (7, false) }) (v := undef) rfl (by kernel_rfl) (by kernel_rfl) (by kernel_rfl) (fun _ _ _ h => h) (Or.inr ⟨by rfl, rfl⟩) (by assumption) ?_
      (try simp only [Act.put, List.setIfInBounds_toArray, List.set_cons_zero, List.set_cons_succ])
      refine wpAnyH_take (i := 11) (oi := { dst := some 68, op := Op.load 9 (Operand.tmp 67), type := 9, pos := "laws.go:104", after := #[{ on := 10, ground := Ground.data }, { on := 7, ground := Ground.guard }], guard := some (7, false) }) (v := undef) rfl (by kernel_rfl) (by kernel_rfl) (by kernel_rfl) (fun _ _ _ h => h) (Or.inr ⟨by rfl, rfl⟩) (by assumption) ?_
      (try simp only [Act.put, List.setIfInBounds_toArray, List.set_cons_zero, List.set_cons_succ])
      refine wpAnyH_take (i := 12) (oi := { dst := some 69, op := Op.binOp BinOp.neq 9 (Operand.tmp 66) (Operand.tmp 68) 9, type := 4, pos := "laws.go:104", after := #[{ on := 9, ground := Ground.data }, { on := 11, ground := Ground.data }, { on := 7, ground := Ground.guard }], guard := some (7, false) }) (v := undef) rfl (by kernel_rfl) (by kernel_rfl) (by kernel_rfl) (fun _ _ _ h => h) (Or.inr ⟨by rfl, rfl⟩) (by assumption) ?_
      (try simp only [Act.put, List.setIfInBounds_toArray, List.set_cons_zero, List.set_cons_succ])
      refine wpAnyH_take (i := 13) (oi := { dst := some 70, op := Op.move (Operand.tmp 69), type := 4, pos := "laws.go:104", after := #[{ on := 12, ground := Ground.data }, { on := 7, ground := Ground.chain }, { on := 7, ground := Ground.guard }], guard := some (7, false) }) (v := undef) rfl (by kernel_rfl) (by kernel_rfl) (by kernel_rfl) (fun _ _ _ h => h) (Or.inr ⟨by rfl, rfl⟩) (by assumption) ?_
      (try simp only [Act.put, List.setIfInBounds_toArray, List.set_cons_zero, List.set_cons_succ])
      refine wpAnyH_take (i := 14) (oi := { dst := some 71, op := Op.fieldAddr 28 (Operand.tmp 10) 2, type := 0, pos := "laws.go:104", after := #[{ on := 13, ground := Ground.guard }], guard := some (13, true) }) (v := undef) rfl (by kernel_rfl) (by kernel_rfl) (by kernel_rfl) (fun _ _ _ h => h) (Or.inr ⟨by rfl, rfl⟩) (by assumption) ?_
      (try simp only [Act.put, List.setIfInBounds_toArray, List.set_cons_zero, List.set_cons_succ])
      refine wpAnyH_take (i := 15) (oi := { dst := some 72, op := Op.load 24 (Operand.tmp 71), type := 24, pos := "laws.go:104", after := #[{ on := 14, ground := Ground.data }, { on := 13, ground := Ground.guard }], guard := some (13, true) }) (v := undef) rfl (by kernel_rfl) (by kernel_rfl) (by kernel_rfl) (fun _ _ _ h => h) (Or.inr ⟨by rfl, rfl⟩) (by assumption) ?_
      (try simp only [Act.put, List.setIfInBounds_toArray, List.set_cons_zero, List.set_cons_succ])
      refine wpAnyH_take (i := 16) (oi := { dst := some 73, op := Op.call { callee := Callee.value (Operand.func 14), args := #[Operand.tmp 72], argTypes := #[24] }, type := 2, pos := "laws.go:104", after := #[{ on := 15, ground := Ground.data }, { on := 13, ground := Ground.chain }, { on := 13, ground := Ground.guard }], guard := some (13, true) }) (v := undef) rfl (by kernel_rfl) (by kernel_rfl) (by kernel_rfl) (fun _ _ _ h => h) (Or.inr ⟨by rfl, rfl⟩) (by assumption) ?_
      (try simp only [Act.put, List.setIfInBounds_toArray, List.set_cons_zero, List.set_cons_succ])
      refine wpAnyH_take (i := 17) (oi := { dst := some 74, op := Op.binOp BinOp.eql 2 (Operand.tmp 73) (Operand.const (Value.int IntKind.i64 0)) 2, type := 4, pos := "laws.go:104", after := #[{ on := 16, ground := Ground.data }, { on := 13, ground := Ground.guard }], guard := some (13, true) }) (v := undef) rfl (by kernel_rfl) (by kernel_rfl) (by kernel_rfl) (fun _ _ _ h => h) (Or.inr ⟨by rfl, rfl⟩) (by assumption) ?_
      (try simp only [Act.put, List.setIfInBounds_toArray, List.set_cons_zero, List.set_cons_succ])
      refine wpAnyH_take (i := 18) (oi := { dst := some 75, op := Op.pick (Operand.tmp 70) (Operand.tmp 74) (Operand.const (Value.bool false)), type := 4, pos := "laws.go:104", after := #[{ on := 13, ground := Ground.data }, { on := 17, ground := Ground.data }, { on := 7, ground := Ground.guard }], guard := some (7, false) }) (v := undef) rfl (by kernel_rfl) (by kernel_rfl) (by kernel_rfl) (fun _ _ _ h => h) (Or.inr ⟨by rfl, rfl⟩) (by assumption) ?_
      (try simp only [Act.put, List.setIfInBounds_toArray, List.set_cons_zero, List.set_cons_succ])
      refine wpAnyH_take (i := 19) (oi := { dst := some 76, op := Op.pick (Operand.tmp 64) (Operand.const (Value.bool true)) (Operand.tmp 75), type := 4, pos := "laws.go:104", after := #[{ on := 7, ground := Ground.data }, { on := 18, ground := Ground.data }, { on := 3, ground := Ground.guard }], guard := some (3, true) }) (v := ?v52) rfl (by kernel_rfl) (by kernel_rfl) (by kernel_rfl) (fun _ _ _ h => h) (Or.inl ⟨by rfl, ?y52⟩) (by assumption) ?r52
      case y52 => (intro w' hSw; (try dsimp only at hSw); go_simp; try with_reducible rfl)
      (try simp only [Act.put, List.setIfInBounds_toArray, List.set_cons_zero, List.set_cons_succ])
      refine wpAnyH_take (i := 20) (oi := { dst := some 77, op := Op.pick (Operand.tmp 60) (Operand.tmp 76) (Operand.const (Value.bool false)), type := 4, pos := "laws.go:104", after := #[{ on := 3, ground := Ground.data }, { on := 19, ground := Ground.data }], guard := none }) (v := ?v53) rfl (by kernel_rfl) (by kernel_rfl) (by kernel_rfl) (fun _ _ _ h => h) (Or.inl ⟨by rfl, ?y53⟩) (by assumption) ?r53
      case y53 => (intro w' hSw; (try dsimp only at hSw); go_simp; try with_reducible rfl)
      (try simp only [Act.put, List.setIfInBounds_toArray, List.set_cons_zero, List.set_cons_succ])
      refine wpAnyH_take (i := 21) (oi := { dst := some 78, op := Op.move (Operand.tmp 77), type := 4, pos := "laws.go:104", after := #[{ on := 20, ground := Ground.data }, { on := 16, ground := Ground.chain }], guard := none }) (v := ?v54) rfl (by kernel_rfl) (by kernel_rfl) (by kernel_rfl) (fun _ _ _ h => h) (Or.inl ⟨by rfl, ?y54⟩) (by assumption) ?r54
      case y54 => (intro w' hSw; (try dsimp only at hSw); go_simp; try with_reducible rfl)
      (try simp only [Act.put, List.setIfInBounds_toArray, List.set_cons_zero, List.set_cons_succ])
      refine wpAnyH_take (i := 22) (oi := { dst := some 79, op := Op.fieldAddr 36 (Operand.tmp 13) 0, type := 0, pos := "laws.go:104", after := #[{ on := 21, ground := Ground.guard }], guard := some (21, true) }) (v := ?v55) rfl (by kernel_rfl) (by kernel_rfl) (by kernel_rfl) (fun _ _ _ h => h) (Or.inl ⟨by rfl, ?y55⟩) (by assumption) ?r55
      case y55 => (intro w' hSw; (try dsimp only at hSw); go_simp; try with_reducible rfl)
      (try simp only [Act.put, List.setIfInBounds_toArray, List.set_cons_zero, List.set_cons_succ])
      refine wpAnyH_take (i := 23) (oi := { dst := some 80, op := Op.load 2 (Operand.tmp 79), type := 2, pos := "laws.go:104", after := #[{ on := 22, ground := Ground.data }, { on := 21, ground := Ground.guard }], guard := some (21, true) }) (v := ?v56) rfl (by kernel_rfl) (by kernel_rfl) (by kernel_rfl) (fun _ _ _ h => h) (Or.inl ⟨by rfl, ?y56⟩) (by assumption) ?r56
      case y56 => (intro w' hSw; (try dsimp only at hSw); go_simp; try with_reducible rfl)
      (try simp only [Act.put, List.setIfInBounds_toArray, List.set_cons_zero, List.set_cons_succ])
      refine wpAnyH_take (i := 24) (oi := { dst := some 81, op := Op.move (Operand.tmp 11), type := 9, pos := "laws.go:104", after := #[{ on := 21, ground := Ground.guard }], guard := some (21, true) }) (v := ?v57) rfl (by kernel_rfl) (by kernel_rfl) (by kernel_rfl) (fun _ _ _ h => h) (Or.inl ⟨by rfl, ?y57⟩) (by assumption) ?r57
      case y57 => (intro w' hSw; (try dsimp only at hSw); go_simp; try with_reducible rfl)
      (try simp only [Act.put, List.setIfInBounds_toArray, List.set_cons_zero, List.set_cons_succ])
      refine wpAnyH_take (i := 25) (oi := { dst := some 82, op := Op.move (Operand.tmp 12), type := 2, pos := "laws.go:104", after := #[{ on := 21, ground := Ground.guard }], guard := some (21, true) }) (v := ?v58) rfl (by kernel_rfl) (by kernel_rfl) (by kernel_rfl) (fun _ _ _ h => h) (Or.inl ⟨by rfl, ?y58⟩) (by assumption) ?r58
      case y58 => (intro w' hSw; (try dsimp only at hSw); go_simp; try with_reducible rfl)
      (try simp only [Act.put, List.setIfInBounds_toArray, List.set_cons_zero, List.set_cons_succ])
      refine wpAnyH_ready (rs := [26]) (by kernel_rfl) (by simp) (AllReadyH.cons rfl (fun K hK => ?_) AllReadyH.nil)
      go_simp
      refine (HSq.out _).mono ?_
      rintro e w9 ⟨rfl, hb⟩
      have HTw9 : Hid (NuSt w0 (.slice ad4 cs.length cap4) cs c2 cq pa pb tq ba bd bb bq w9) := HT7.out.ext (((Ext.refl _).drew).trans hb)
      clear hb
      refine hK.out _ _ HTw9.out.cells (fun hHeldw9 => ?_)
      clear hK K
      refine wpAnyH_take (i := 27) (oi := { dst := some 84, op := Op.field 36 (Operand.tmp 83) 0, type := 2, pos := "laws.go:104", after := #[{ on := 26, ground := Ground.data }, { on := 21, ground := Ground.guard }], guard := some (21, true) }) (v := ?v59) rfl (by kernel_rfl) (by kernel_rfl) (by kernel_rfl) (fun _ _ _ h => h) (Or.inl ⟨by rfl, ?y59⟩) (by assumption) ?r59
      case y59 => (intro w' hSw; (try dsimp only at hSw); go_simp; try with_reducible rfl)
      (try simp only [Act.put, List.setIfInBounds_toArray, List.set_cons_zero, List.set_cons_succ])
      refine wpAnyH_take (i := 28) (oi := { dst := some 85, op := Op.binOp BinOp.eql 2 (Operand.tmp 80) (Operand.tmp 84) 2, type := 4, pos := "laws.go:104", after := #[{ on := 23, ground := Ground.data }, { on := 27, ground := Ground.data }, { on := 21, ground := Ground.guard }], guard := some (21, true) }) (v := ?v60) rfl (by kernel_rfl) (by kernel_rfl) (by kernel_rfl) (fun _ _ _ h => h) (Or.inl ⟨by rfl, ?y60⟩) (by assumption) ?r60
      case y60 => (intro w' hSw; (try dsimp only at hSw); go_simp; try with_reducible rfl)
      (try simp only [Act.put, List.setIfInBounds_toArray, List.set_cons_zero, List.set_cons_succ])
      refine wpAnyH_take (i := 29) (oi := { dst := some 86, op := Op.pick (Operand.tmp 78) (Operand.tmp 85) (Operand.const (Value.bool false)), type := 4, pos := "laws.go:104", after := #[{ on := 21, ground := Ground.data }, { on := 28, ground := Ground.data }], guard := none }) (v := ?v61) rfl (by kernel_rfl) (by kernel_rfl) (by kernel_rfl) (fun _ _ _ h => h) (Or.inl ⟨by rfl, ?y61⟩) (by assumption) ?r61
      case y61 => (intro w' hSw; (try dsimp only at hSw); go_simp; try with_reducible rfl)
      (try simp only [Act.put, List.setIfInBounds_toArray, List.set_cons_zero, List.set_cons_succ])
      refine wpAnyH_take (i := 30) (oi := { dst := some 87, op := Op.move (Operand.tmp 86), type := 4, pos := "laws.go:104", after := #[{ on := 29, ground := Ground.data }, { on := 26, ground := Ground.chain }], guard := none }) (v := ?v62) rfl (by kernel_rfl) (by kernel_rfl) (by kernel_rfl) (fun _ _ _ h => h) (Or.inl ⟨by rfl, ?y62⟩) (by assumption) ?r62
      case y62 => (intro w' hSw; (try dsimp only at hSw); go_simp; try with_reducible rfl)
      (try simp only [Act.put, List.setIfInBounds_toArray, List.set_cons_zero, List.set_cons_succ])
      refine wpAnyH_take (i := 31) (oi := { dst := some 88, op := Op.fieldAddr 36 (Operand.tmp 13) 1, type := 0, pos := "laws.go:104", after := #[{ on := 30, ground := Ground.guard }], guard := some (30, true) }) (v := ?v63) rfl (by kernel_rfl) (by kernel_rfl) (by kernel_rfl) (fun _ _ _ h => h) (Or.inl ⟨by rfl, ?y63⟩) (by assumption) ?r63
      case y63 => (intro w' hSw; (try dsimp only at hSw); go_simp; try with_reducible rfl)
      (try simp only [Act.put, List.setIfInBounds_toArray, List.set_cons_zero, List.set_cons_succ])
      refine wpAnyH_take (i := 32) (oi := { dst := some 89, op := Op.load 9 (Operand.tmp 88), type := 9, pos := "laws.go:104", after := #[{ on := 31, ground := Ground.data }, { on := 30, ground := Ground.guard }], guard := some (30, true) }) (v := ?v64) rfl (by kernel_rfl) (by kernel_rfl) (by kernel_rfl) (fun _ _ _ h => h) (Or.inl ⟨by rfl, ?y64⟩) (by assumption) ?r64
      case y64 => (intro w' hSw; (try dsimp only at hSw); go_simp; try with_reducible rfl)
      (try simp only [Act.put, List.setIfInBounds_toArray, List.set_cons_zero, List.set_cons_succ])
      refine wpAnyH_take (i := 33) (oi := { dst := some 90, op := Op.move (Operand.tmp 11), type := 9, pos := "laws.go:104", after := #[{ on := 30, ground := Ground.guard }], guard := some (30, true) }) (v := ?v65) rfl (by kernel_rfl) (by kernel_rfl) (by kernel_rfl) (fun _ _ _ h => h) (Or.inl ⟨by rfl, ?y65⟩) (by assumption) ?r65
      case y65 => (intro w' hSw; (try dsimp only at hSw); go_simp; try with_reducible rfl)
      (try simp only [Act.put, List.setIfInBounds_toArray, List.set_cons_zero, List.set_cons_succ])
      refine wpAnyH_take (i := 34) (oi := { dst := some 91, op := Op.move (Operand.tmp 12), type := 2, pos := "laws.go:104", after := #[{ on := 30, ground := Ground.guard }], guard := some (30, true) }) (v := ?v66) rfl (by kernel_rfl) (by kernel_rfl) (by kernel_rfl) (fun _ _ _ h => h) (Or.inl ⟨by rfl, ?y66⟩) (by assumption) ?r66
      case y66 => (intro w' hSw; (try dsimp only at hSw); go_simp; try with_reducible rfl)
      (try simp only [Act.put, List.setIfInBounds_toArray, List.set_cons_zero, List.set_cons_succ])
      refine wpAnyH_ready (rs := [35]) (by kernel_rfl) (by simp) (AllReadyH.cons rfl (fun K hK => ?_) AllReadyH.nil)
      go_simp
      refine (HSq.out _).mono ?_
      rintro e wa ⟨rfl, hb⟩
      have HTwa : Hid (NuSt w0 (.slice ad4 cs.length cap4) cs c2 cq pa pb tq ba bd bb bq wa) := HTw9.out.ext hb
      clear hb
      refine hK.out _ _ HTwa.out.cells (fun hHeldwa => ?_)
      clear hK K
      refine wpAnyH_take (i := 36) (oi := { dst := some 93, op := Op.field 36 (Operand.tmp 92) 1, type := 9, pos := "laws.go:104", after := #[{ on := 35, ground := Ground.data }, { on := 30, ground := Ground.guard }], guard := some (30, true) }) (v := ?v67) rfl (by kernel_rfl) (by kernel_rfl) (by kernel_rfl) (fun _ _ _ h => h) (Or.inl ⟨by rfl, ?y67⟩) (by assumption) ?r67
      case y67 => (intro w' hSw; (try dsimp only at hSw); go_simp; try with_reducible rfl)
      (try simp only [Act.put, List.setIfInBounds_toArray, List.set_cons_zero, List.set_cons_succ])
      refine wpAnyH_take (i := 37) (oi := { dst := some 94, op := Op.binOp BinOp.eql 9 (Operand.tmp 89) (Operand.tmp 93) 9, type := 4, pos := "laws.go:104", after := #[{ on := 32, ground := Ground.data }, { on := 36, ground := Ground.data }, { on := 30, ground := Ground.guard }], guard := some (30, true) }) (v := ?v68) rfl (by kernel_rfl) (by kernel_rfl) (by kernel_rfl) (fun _ _ _ h => h) (Or.inl ⟨by rfl, ?y68⟩) (by assumption) ?r68
      case y68 => (intro w' hSw; (try dsimp only at hSw); go_simp; try with_reducible rfl)
      (try simp only [Act.put, List.setIfInBounds_toArray, List.set_cons_zero, List.set_cons_succ])
      refine wpAnyH_take (i := 38) (oi := { dst := some 95, op := Op.pick (Operand.tmp 87) (Operand.tmp 94) (Operand.const (Value.bool false)), type := 4, pos := "laws.go:104", after := #[{ on := 30, ground := Ground.data }, { on := 37, ground := Ground.data }], guard := none }) (v := ?v69) rfl (by kernel_rfl) (by kernel_rfl) (by kernel_rfl) (fun _ _ _ h => h) (Or.inl ⟨by rfl, ?y69⟩) (by assumption) ?r69
      case y69 => (intro w' hSw; (try dsimp only at hSw); go_simp; try with_reducible rfl)
      (try simp only [Act.put, List.setIfInBounds_toArray, List.set_cons_zero, List.set_cons_succ])
      refine wpAnyH_take (i := 39) (oi := { dst := some 96, op := Op.move (Operand.tmp 95), type := 4, pos := "laws.go:104", after := #[{ on := 38, ground := Ground.data }, { on := 35, ground := Ground.chain }], guard := none }) (v := ?v70) rfl (by kernel_rfl) (by kernel_rfl) (by kernel_rfl) (fun _ _ _ h => h) (Or.inl ⟨by rfl, ?y70⟩) (by assumption) ?r70
      case y70 => (intro w' hSw; (try dsimp only at hSw); go_simp; try with_reducible rfl)
      (try simp only [Act.put, List.setIfInBounds_toArray, List.set_cons_zero, List.set_cons_succ])
      refine wpAnyH_take (i := 40) (oi := { dst := some 97, op := Op.fieldAddr 28 (Operand.tmp 8) 1, type := 0, pos := "laws.go:104", after := #[{ on := 39, ground := Ground.guard }], guard := some (39, true) }) (v := ?v71) rfl (by kernel_rfl) (by kernel_rfl) (by kernel_rfl) (fun _ _ _ h => h) (Or.inl ⟨by rfl, ?y71⟩) (by assumption) ?r71
      case y71 => (intro w' hSw; (try dsimp only at hSw); go_simp; try with_reducible rfl)
      (try simp only [Act.put, List.setIfInBounds_toArray, List.set_cons_zero, List.set_cons_succ])
      refine wpAnyH_take (i := 41) (oi := { dst := some 98, op := Op.load 9 (Operand.tmp 97), type := 9, pos := "laws.go:104", after := #[{ on := 40, ground := Ground.data }, { on := 39, ground := Ground.guard }], guard := some (39, true) }) (v := ?v72) rfl (by kernel_rfl) (by kernel_rfl) (by kernel_rfl) (fun _ _ _ h => h) (Or.inl ⟨by rfl, ?y72⟩) (by assumption) ?r72
      case y72 => (intro w' hSw; (try dsimp only at hSw); go_simp; try with_reducible rfl)
      (try simp only [Act.put, List.setIfInBounds_toArray, List.set_cons_zero, List.set_cons_succ])
      refine wpAnyH_take (i := 42) (oi := { dst := some 99, op := Op.call { callee := Callee.builtin Builtin.len, args := #[Operand.tmp 98], argTypes := #[9] }, type := 3, pos := "laws.go:104", after := #[{ on := 41, ground := Ground.data }, { on := 39, ground := Ground.guard }], guard := some (39, true) }) (v := ?v73) rfl (by kernel_rfl) (by kernel_rfl) (by kernel_rfl) (fun _ _ _ h => h) (Or.inl ⟨by rfl, ?y73⟩) (by assumption) ?r73
      case y73 => (intro w' hSw; (try dsimp only at hSw); go_simp; try with_reducible rfl)
      (try simp only [Act.put, List.setIfInBounds_toArray, List.set_cons_zero, List.set_cons_succ])
      refine wpAnyH_take (i := 43) (oi := { dst := some 100, op := Op.binOp BinOp.gtr 3 (Operand.tmp 99) (Operand.const (Value.int IntKind.i64 3)) 3, type := 4, pos := "laws.go:104", after := #[{ on := 42, ground := Ground.data }, { on := 39, ground := Ground.guard }], guard := some (39, true) }) (v := ?v74) rfl (by kernel_rfl) (by kernel_rfl) (by kernel_rfl) (fun _ _ _ h => h) (Or.inl ⟨by rfl, ?y74⟩) (by assumption) ?r74
      case y74 => (intro w' hSw; (try dsimp only at hSw); go_simp; try with_reducible rfl)
      (try simp only [Act.put, List.setIfInBounds_toArray, List.set_cons_zero, List.set_cons_succ])
      refine wpAnyH_take (i := 44) (oi := { dst := some 101, op := Op.pick (Operand.tmp 96) (Operand.tmp 100) (Operand.const (Value.bool false)), type := 4, pos := "laws.go:104", after := #[{ on := 39, ground := Ground.data }, { on := 43, ground := Ground.data }], guard := none }) (v := ?v75) rfl (by kernel_rfl) (by kernel_rfl) (by kernel_rfl) (fun _ _ _ h => h) (Or.inl ⟨by rfl, ?y75⟩) (by assumption) ?r75
      case y75 => (intro w' hSw; (try dsimp only at hSw); go_simp; try with_reducible rfl)
      (try simp only [Act.put, List.setIfInBounds_toArray, List.set_cons_zero, List.set_cons_succ])
      refine wpAnyH_take (i := 45) (oi := { dst := some 2, op := Op.assign (Operand.tmp 101), type := 4, pos := "laws.go:104", after := #[{ on := 44, ground := Ground.data }, { on := 39, ground := Ground.chain }, { on := 0, ground := Ground.phase }, { on := 1, ground := Ground.phase }, { on := 2, ground := Ground.phase }, { on := 3, ground := Ground.phase }, { on := 4, ground := Ground.phase }, { on := 5, ground := Ground.phase }, { on := 6, ground := Ground.phase }, { on := 7, ground := Ground.phase }, { on := 8, ground := Ground.phase }, { on := 9, ground := Ground.phase }, { on := 10, ground := Ground.phase }, { on := 11, ground := Ground.phase }, { on := 12, ground := Ground.phase }, { on := 13, ground := Ground.phase }, { on := 14, ground := Ground.phase }, { on := 15, ground := Ground.phase }, { on := 16, ground := Ground.phase }, { on := 17, ground := Ground.phase }, { on := 18, ground := Ground.phase }, { on := 19, ground := Ground.phase }, { on := 20, ground := Ground.phase }, { on := 21, ground := Ground.phase }, { on := 22, ground := Ground.phase }, { on := 23, ground := Ground.phase }, { on := 24, ground := Ground.phase }, { on := 25, ground := Ground.phase }, { on := 26, ground := Ground.phase }, { on := 27, ground := Ground.phase }, { on := 28, ground := Ground.phase }, { on := 29, ground := Ground.phase }, { on := 30, ground := Ground.phase }, { on := 31, ground := Ground.phase }, { on := 32, ground := Ground.phase }, { on := 33, ground := Ground.phase }, { on := 34, ground := Ground.phase }, { on := 35, ground := Ground.phase }, { on := 36, ground := Ground.phase }, { on := 37, ground := Ground.phase }, { on := 38, ground := Ground.phase }, { on := 39, ground := Ground.phase }, { on := 40, ground := Ground.phase }, { on := 41, ground := Ground.phase }, { on := 42, ground := Ground.phase }, { on := 43, ground := Ground.phase }, { on := 44, ground := Ground.phase }], guard := none }) (v := ?v76) rfl (by kernel_rfl) (by kernel_rfl) (by kernel_rfl) (fun _ _ _ h => h) (Or.inl ⟨by rfl, ?y76⟩) (by assumption) ?r76
      case y76 => (intro w' hSw; (try dsimp only at hSw); go_simp; try with_reducible rfl)
      (try simp only [Act.put, List.setIfInBounds_toArray, List.set_cons_zero, List.set_cons_succ])
      refine wpAnyH_done (by kernel_rfl) ?_ _
      go_simp
      go_wp2
      go_ret
      exact ⟨rfl, HTwa.out.1⟩
  · obtain ⟨ad2, cap2, rfl⟩ := slice_ofN hO2
    clear hO2 hE2 hg2 HIm
    unfold zr
    generalize (Tre.createV zs p d 0 true).1 = c at *
    generalize (Tre.createV zs p d 0 true).2.1 = t at *
    generalize (Tre.createV zs p d 0 true).2.2 = rs at *
    have e0 : (c != 0) = true := by simp [hc0]
    have ecc : (c == c) = true := by simp
    go_wp2
    go_region_with (go_at_call 10; refine (HSp.out _ (HS2.out.1.ext (((Ext.refl _).alloc _).drew))).mono ?_; rintro e w3 ⟨v3, g3, rfl, hg3, hO3, hb3⟩; obtain ⟨q, q0, q1, q2⟩ := (box_new w2 c t (.slice ad2 rs.length cap2) 28).ext (((Ext.refl _).drew).trans hb3); unfold zr)
    all_goals
      go_wp2
      go_ret
      exact ⟨ret_bool (by simp), HS2.out.2.1.trans ((((Ext.refl _).alloc _).drew).trans hb3)⟩
theorem lawNumbers_all (v : Value) (w : World) (hg : Gd w) (h : ∃ ad len cap, v = .slice ad len cap ∧ (len ≤ 1048576 → CodeOk w w.heap.size v)) :
    Calls Tryz.prog 4 #[v] w fun e w' => e = .returned (.bool true) ∧ Ext w w' := by
  obtain ⟨ad, len, cap, rfl, hc⟩ := h
  by_cases hl : 1048576 < len
  · exact lawNumbers_big ad len cap w hl
  · exact lawNumbers _ w hg (hc (by omega))
end Go.Proofs.YtgfoliafpjhjcaaGreatDoor
