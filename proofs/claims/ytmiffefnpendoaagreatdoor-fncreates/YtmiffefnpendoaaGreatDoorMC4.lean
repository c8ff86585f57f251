/- Q3, Q4, Pj, Q5, Q6, LC0, LC1, LCreates, in one text. -/
import Derived.Test.YtmiffefnpendoaaGreatDoorQ1
import Derived.Test.YtmiffefnpendoaaGreatDoorMC2
import Derived.Test.YtmiffefnpendoaaGreatDoorMC1
import Derived.Test.YtmiffefnpendoaaGreatDoorPure
import Derived.Test.YtmiffefnpendoaaGreatDoorMC3
import Derived.Deep.RegionHeld3
/- What a tree without fault is, over its members alone: so a part of one that keeps each parent is one too. -/
namespace Go.Proofs.YtmiffefnpendoaaGreatDoor
open Go.RowKit
namespace Tre
/-- A tree without fault. -/
structure Good (zs : List Zn) : Prop where
  few : zs.length ≤ 20
  each : ∀ z ∈ zs, Pth.faultI z.path.data.toList = 0 ∧ okNums z = true
  up : zs.Pairwise fun y z => key y < key z
  top : ∃ z ∈ zs, isAt top z = true
  hung : ∀ z ∈ zs, ∃ y ∈ zs, isAt (par z.path) y = true ∧ y.owner = 0
theorem atI_mem {zs : List Zn} {p : ByteArray} : 0 ≤ atI zs p ↔ ∃ z ∈ zs, isAt p z = true := by
  constructor
  · intro h
    rcases atI_range zs p with ⟨h1, -⟩ | ⟨k, z, -, -, hz, ha⟩
    · omega
    · exact ⟨z, List.mem_of_getElem? hz, ha⟩
  · rintro ⟨z, hz, ha⟩
    rcases atI_range zs p with ⟨-, h2⟩ | ⟨k, _, hk, -, -, -⟩
    · rw [h2 z hz] at ha; cases ha
    · omega
theorem up_pair {zs : List Zn} : Up zs ↔ zs.Pairwise fun y z => key y < key z := by
  rw [List.pairwise_iff_getElem]
  constructor
  · intro h i j hi hj hij
    exact up_lt' h hij (List.getElem?_eq_getElem hi) (List.getElem?_eq_getElem hj)
  · intro h i y z hy hz
    obtain ⟨hi, rfl⟩ := List.getElem?_eq_some_iff.1 hy
    obtain ⟨hj, rfl⟩ := List.getElem?_eq_some_iff.1 hz
    exact h i (i + 1) hi hj (by omega)
/-- Of those that rise only one is at a path. -/
theorem up_one {zs : List Zn} (h : zs.Pairwise fun y z => key y < key z) {p : ByteArray} {y z : Zn} (hy : y ∈ zs) (hz : z ∈ zs) (ay : isAt p y = true) (az : isAt p z = true) : y = z := by
  obtain ⟨i, hi⟩ := List.getElem?_of_mem hy
  obtain ⟨j, hj⟩ := List.getElem?_of_mem hz
  have e : key y = key z := (isAt_iff.1 ay).trans (isAt_iff.1 az).symm
  have hu := up_pair.2 h
  rcases Nat.lt_trichotomy i j with hlt | heq | hgt
  · exact absurd e (lt_ne (up_lt' hu hlt hi hj))
  · subst heq; exact Option.some.inj (hi.symm.trans hj)
  · exact absurd e.symm (lt_ne (up_lt' hu hgt hj hi))
theorem good_of {zs : List Zn} (h : fault zs = 0) : Good zs := by
  obtain ⟨hl, hN⟩ := fault_nodes h
  obtain ⟨ht, hP, hO⟩ := fault_hang h
  refine ⟨hl, ?_, up_pair.1 (up_of_nodes hN), atI_mem.1 ht, ?_⟩
  · intro z hz
    obtain ⟨j, hj⟩ := List.getElem?_of_mem hz
    exact nodeC_ok hj (hN j (List.getElem?_eq_some_iff.1 hj).1)
  · intro z hz
    obtain ⟨j, hj⟩ := List.getElem?_of_mem hz
    have hjl := (List.getElem?_eq_some_iff.1 hj).1
    have h1 := hP j hjl
    rw [parC_eq hj] at h1
    rcases atI_range zs (par z.path) with ⟨h2, -⟩ | ⟨k, y, hk, -, hy, ha⟩
    · rw [if_pos (by omega)] at h1; cases h1
    · have h3 := hO j hjl
      rw [ownC_eq hj hk hy] at h3
      refine ⟨y, List.mem_of_getElem? hy, ha, ?_⟩
      by_cases h0 : y.owner = 0
      · exact h0
      · rw [if_pos h0] at h3; cases h3
theorem Good.fault {zs : List Zn} (h : Good zs) : fault zs = 0 := by
  have hu := up_pair.2 h.up
  refine fault_own (by have := h.few; omega) (first_none fun j hj => ?_) (by have := atI_mem.2 h.top; omega) (first_none fun j hj => ?_) (first_none fun j hj => ?_)
  · obtain ⟨z, hz⟩ : ∃ z, zs[j]? = some z := ⟨_, List.getElem?_eq_getElem hj⟩
    obtain ⟨f0, n0⟩ := h.each z (List.mem_of_getElem? hz)
    match j, hj, hz with
    | 0, hj, hz => exact nodeC_zero hz f0.symm n0
    | m + 1, hj, hz =>
      obtain ⟨y, hy⟩ : ∃ y, zs[m]? = some y := ⟨_, List.getElem?_eq_getElem (by omega)⟩
      rw [nodeC_succ hz hy f0.symm n0, notUp_iff.2 (hu m y z hy hz), if_neg (by simp)]
  · obtain ⟨z, hz⟩ : ∃ z, zs[j]? = some z := ⟨_, List.getElem?_eq_getElem hj⟩
    obtain ⟨y, hy, ha, -⟩ := h.hung z (List.mem_of_getElem? hz)
    rw [parC_eq hz, if_neg (by have := atI_mem.2 ⟨y, hy, ha⟩; omega)]
  · obtain ⟨z, hz⟩ : ∃ z, zs[j]? = some z := ⟨_, List.getElem?_eq_getElem hj⟩
    obtain ⟨y, hy, ha, ho⟩ := h.hung z (List.mem_of_getElem? hz)
    rcases atI_range zs (par z.path) with ⟨-, h2⟩ | ⟨k, y', hk, -, hy', ha'⟩
    · rw [h2 y hy] at ha; cases ha
    · have he : y' = y := up_one h.up (List.mem_of_getElem? hy') hy ha' ha
      rw [ownC_eq hz hk hy', he, if_neg (by simpa using ho)]
theorem fault_good {zs : List Zn} : Tre.fault zs = 0 ↔ Good zs := ⟨good_of, Good.fault⟩
/-- The parent of the top is the top. -/
theorem par_of_top {z : Zn} (h : isAt top z = true) : par z.path = top := by
  have h1 := isAt_iff.1 h
  unfold key at h1
  unfold par
  rw [h1]
  rfl
/-- What is left of a tree where each that nobody owns is left: a tree. -/
theorem Good.part {zs : List Zn} (h : Good zs) (f : Zn → Bool) (hf : ∀ z ∈ zs, z.owner = 0 → f z = true) : Good (zs.filter f) := by
  refine ⟨Nat.le_trans (List.length_filter_le _ _) h.few, fun z hz => h.each z ((List.mem_filter.1 hz).1), h.up.filter _, ?_, fun z hz => ?_⟩
  · obtain ⟨z, hz, ha⟩ := h.top
    obtain ⟨y, hy, hb, ho⟩ := h.hung z hz
    rw [par_of_top ha] at hb
    exact ⟨y, List.mem_filter.2 ⟨hy, hf y hy ho⟩, hb⟩
  · obtain ⟨y, hy, hb, ho⟩ := h.hung z ((List.mem_filter.1 hz).1)
    exact ⟨y, List.mem_filter.2 ⟨hy, hf y hy ho⟩, hb, ho⟩
/-- A node of a tree is got of a part of it just if it is in that part. -/
theorem Good.got {zs : List Zn} (h : Good zs) {f : Zn → Bool} (hg : Good (zs.filter f)) {z : Zn} (hz : z ∈ zs) : ((getT (zs.filter f) z.path).1 == 0) = f z := by
  have hA : asked (zs.filter f) z.path = 0 := by unfold asked; rw [hg.fault, if_neg (by simp)]; exact (h.each z hz).1
  have hzz : isAt z.path z = true := isAt_iff.2 rfl
  cases hfz : f z with
  | true =>
    rcases atI_range (zs.filter f) z.path with ⟨-, h2⟩ | ⟨k, y, hk, -, hy, -⟩
    · rw [h2 z (List.mem_filter.2 ⟨hz, hfz⟩)] at hzz; cases hzz
    · rw [getT_ok hA hk hy]; rfl
  | false =>
    have hm : atI (zs.filter f) z.path < 0 := by
      rcases atI_range (zs.filter f) z.path with ⟨h1, -⟩ | ⟨k, y, -, -, hy, ha⟩
      · omega
      · have hy2 := List.mem_filter.1 (List.mem_of_getElem? hy)
        have := up_one h.up hy2.1 hz ha hzz
        rw [this, hfz] at hy2
        exact absurd hy2.2 (by simp)
    rw [getT_none hA hm]; rfl
end Tre
end Go.Proofs.YtmiffefnpendoaaGreatDoor

/- Trees without fault that a node is taken out of, or put into: they have none either; what is got of them. -/
namespace Go.Proofs.YtmiffefnpendoaaGreatDoor
open Go.RowKit
namespace Tre
theorem path_of {p : ByteArray} {z : Zn} (h : isAt p z = true) : z.path = p := ba_eq (isAt_iff.1 h)
theorem isAt_self (z : Zn) : isAt z.path z = true := isAt_iff.2 rfl
theorem nil_of_len {α : Type} {l : List α} (h : ¬ 0 < l.length) : l = [] := List.eq_nil_of_length_eq_zero (by omega)
/-- A parent is shorter. -/
theorem par_short {p : ByteArray} (h : Pth.faultI p.data.toList = 0) (ht : ¬ p.data.toList = [47]) : (par p).data.toList.length < p.data.toList.length := by
  rcases Pth.fault_cases p.data.toList with ⟨-, h1⟩ | ⟨-, -, h1⟩ | ⟨-, -, n, la, h1⟩
  · rw [h] at h1; cases h1
  · rw [h] at h1; cases h1
  · obtain ⟨-, -, r, h2, h3⟩ := Pth.rd_some _ n la ht h1
    have hl : 2 ≤ p.data.toList.length := by
      rw [h2]
      cases r with
      | nil => exact absurd rfl h3
      | cons a b => simp
    unfold par
    rw [mkB_list]
    rcases Pth.lastSl_lt p.data.toList 0 0 with h4 | h4
    · rw [h4, if_pos rfl]; simp only [List.length_cons, List.length_nil]; omega
    · split
      · simp only [List.length_cons, List.length_nil]; omega
      · rw [List.length_take]; omega
theorem par_ne {p : ByteArray} (h : Pth.faultI p.data.toList = 0) (ht : ¬ p.data.toList = [47]) : ¬ (par p).data.toList = p.data.toList := fun e => by
  have := par_short h ht; rw [e] at this; omega
/-- The node of a path taken out: all others. -/
theorem del_filter {zs : List Zn} {p : ByteArray} {k : Nat} {z : Zn} (hu : zs.Pairwise fun y z => key y < key z) (hz : zs[k]? = some z) (ha : isAt p z = true) :
    zs.take k ++ zs.drop (k + 1) = zs.filter fun y => !isAt p y := by
  obtain ⟨hk, he⟩ := List.getElem?_eq_some_iff.1 hz
  have e : zs = zs.take k ++ z :: zs.drop (k + 1) := by
    rw [← he, ← List.drop_eq_getElem_cons hk, List.take_append_drop]
  have hkey := isAt_iff.1 ha
  have h1 := hu
  rw [e, List.pairwise_append, List.pairwise_cons] at h1
  obtain ⟨-, ⟨h2, -⟩, h3⟩ := h1
  have f1 : (zs.take k).filter (fun y => !isAt p y) = zs.take k := by
    rw [List.filter_eq_self]
    intro y hy
    have h4 := h3 y hy z List.mem_cons_self
    cases h5 : isAt p y with
    | false => rfl
    | true => rw [isAt_iff.1 h5, hkey] at h4; exact absurd h4 (lt_irr _)
  have f2 : (zs.drop (k + 1)).filter (fun y => !isAt p y) = zs.drop (k + 1) := by
    rw [List.filter_eq_self]
    intro y hy
    have h4 := h2 y hy
    cases h5 : isAt p y with
    | false => rfl
    | true => rw [isAt_iff.1 h5, hkey] at h4; exact absurd h4 (lt_irr _)
  have f3 : zs.filter (fun y => !isAt p y) = (zs.take k ++ z :: zs.drop (k + 1)).filter (fun y => !isAt p y) := by rw [← e]
  rw [f3, List.filter_append, List.filter_cons, if_neg (by rw [ha]; simp), f1, f2]
theorem isKid_of {p : ByteArray} {y : Zn} (ht : ¬ key y = [47]) (h : (par y.path).data.toList = p.data.toList) : isKid p y = true := by
  unfold isKid
  rw [Lib.toList_data, Lib.toList_data, Lib.toList_data, h]
  simp only [beq_self_eq_true, Bool.and_true, Bool.not_eq_true', beq_eq_false_iff_ne, ne_eq]
  exact ht
theorem of_isKid {p : ByteArray} {y : Zn} (h : isKid p y = true) : (par y.path).data.toList = p.data.toList ∧ ¬ key y = [47] := by
  unfold isKid at h
  rw [Lib.toList_data, Lib.toList_data, Lib.toList_data] at h
  simp only [Bool.and_eq_true, Bool.not_eq_true', beq_eq_false_iff_ne, ne_eq, beq_iff_eq] at h
  exact ⟨h.2, h.1⟩
theorem kids_nil {zs : List Zn} {p : ByteArray} : kids zs p = [] ↔ ∀ y ∈ zs, isKid p y = false := by
  unfold kids
  rw [List.map_eq_nil_iff, List.filter_eq_nil_iff]
  exact ⟨fun h y hy => by simpa using h y hy, fun h y hy => by rw [h y hy]; simp⟩
theorem Good.del {zs : List Zn} (h : Good zs) {p : ByteArray} (hp : ¬ p.data.toList = [47]) (hk : ∀ y ∈ zs, isKid p y = false) : Good (zs.filter fun y => !isAt p y) := by
  refine ⟨Nat.le_trans (List.length_filter_le _ _) h.few, fun z hz => h.each z (List.mem_filter.1 hz).1, h.up.filter _, ?_, fun y hy => ?_⟩
  · obtain ⟨z, hz, ha⟩ := h.top
    refine ⟨z, List.mem_filter.2 ⟨hz, ?_⟩, ha⟩
    cases h5 : isAt p z with
    | false => rfl
    | true => exact absurd ((isAt_iff.1 h5).symm.trans (isAt_iff.1 ha)) hp
  · have hy0 := (List.mem_filter.1 hy).1
    obtain ⟨x, hx, ha, ho⟩ := h.hung y hy0
    refine ⟨x, List.mem_filter.2 ⟨hx, ?_⟩, ha, ho⟩
    cases h5 : isAt p x with
    | false => rfl
    | true =>
      exfalso
      have e : (par y.path).data.toList = p.data.toList := (isAt_iff.1 ha).symm.trans (isAt_iff.1 h5)
      by_cases ht : key y = [47]
      · rw [par_of_top (isAt_iff.2 ht)] at e; exact hp e.symm
      · have := isKid_of ht e
        rw [hk y hy0] at this; cases this
theorem putT_mem {bs : List Zn} {z y : Zn} : y ∈ putT bs z ↔ y = z ∨ y ∈ bs := by
  unfold putT
  rw [List.mem_append, List.mem_cons]
  constructor
  · rintro (h | h | h)
    · exact Or.inr (List.mem_of_mem_take h)
    · exact Or.inl h
    · exact Or.inr (List.mem_of_mem_drop h)
  · rintro (h | h)
    · exact Or.inr (Or.inl h)
    · rw [← List.take_append_drop (cut bs (key z)) bs] at h
      rcases List.mem_append.1 h with h | h
      · exact Or.inl h
      · exact Or.inr (Or.inr h)
theorem putT_len (bs : List Zn) (z : Zn) : (putT bs z).length = bs.length + 1 := by
  unfold putT
  have := cut_le bs (key z)
  rw [List.length_append, List.length_cons, List.length_take, List.length_drop]; omega
theorem putT_up {bs : List Zn} (hu : bs.Pairwise fun y z => key y < key z) {z : Zn} (hno : ∀ y ∈ bs, isAt z.path y = false) : (putT bs z).Pairwise fun y z => key y < key z := by
  have hU := up_pair.2 hu
  have h0 := hu
  rw [← List.take_append_drop (cut bs (key z)) bs, List.pairwise_append] at h0
  obtain ⟨h1, h2, h3⟩ := h0
  have ha : ∀ y ∈ bs.take (cut bs (key z)), key y < key z := fun y hy => by
    obtain ⟨i, hi⟩ := List.getElem?_of_mem hy
    rw [List.getElem?_take] at hi
    split at hi
    · rename_i h4; exact cut_lt h4 hi
    · cases hi
  have hb : ∀ y ∈ bs.drop (cut bs (key z)), key z < key y := fun y hy => by
    obtain ⟨i, hi⟩ := List.getElem?_of_mem hy
    rw [List.getElem?_drop] at hi
    have h4 := cut_ge hU (Nat.le_add_right _ i) hi
    refine lt_tot h4 fun e => ?_
    have := hno y (List.mem_of_mem_drop hy)
    rw [isAt_iff.2 e] at this; cases this
  unfold putT
  rw [List.pairwise_append, List.pairwise_cons]
  refine ⟨h1, ⟨hb, h2⟩, fun a ha' b hb' => ?_⟩
  rcases List.mem_cons.1 hb' with rfl | hb'
  · exact ha a ha'
  · exact lt_tr (ha a ha') (hb b hb')
theorem Good.put {bs : List Zn} (h : Good bs) {z : Zn} (hl : bs.length < 20) (hz : Pth.faultI z.path.data.toList = 0 ∧ okNums z = true) (hno : ∀ y ∈ bs, isAt z.path y = false) (hx : ∃ x ∈ bs, isAt (par z.path) x = true ∧ x.owner = 0) : Good (putT bs z) := by
  refine ⟨by rw [putT_len]; omega, fun y hy => ?_, putT_up h.up hno, ?_, fun y hy => ?_⟩
  · rcases putT_mem.1 hy with rfl | hy
    · exact hz
    · exact h.each y hy
  · obtain ⟨y, hy, ha⟩ := h.top
    exact ⟨y, putT_mem.2 (Or.inr hy), ha⟩
  · rcases putT_mem.1 hy with rfl | hy
    · obtain ⟨x, hx1, hx2⟩ := hx
      exact ⟨x, putT_mem.2 (Or.inr hx1), hx2⟩
    · obtain ⟨x, hx1, hx2⟩ := h.hung y hy
      exact ⟨x, putT_mem.2 (Or.inr hx1), hx2⟩
theorem putT_filter {bs : List Zn} {z : Zn} (hno : ∀ y ∈ bs, isAt z.path y = false) : (putT bs z).filter (fun y => !isAt z.path y) = bs := by
  unfold putT
  have f : ∀ l : List Zn, (∀ y ∈ l, y ∈ bs) → l.filter (fun y => !isAt z.path y) = l := fun l hl => by
    rw [List.filter_eq_self]
    intro y hy
    rw [hno y (hl y hy)]; rfl
  rw [List.filter_append, List.filter_cons, if_neg (by rw [isAt_self]; simp), f _ (fun y hy => List.mem_of_mem_take hy), f _ (fun y hy => List.mem_of_mem_drop hy), List.take_append_drop]
theorem not_at {zs : List Zn} {p : ByteArray} (h : ∀ y ∈ zs, isAt p y = false) : atI zs p < 0 := by
  refine Classical.byContradiction fun hn => ?_
  obtain ⟨z, hz, ha⟩ := atI_mem.1 (by omega : 0 ≤ atI zs p)
  rw [h z hz] at ha; cases ha
theorem asked_of {zs : List Zn} {p : ByteArray} (h : Good zs) (hp : Pth.faultI p.data.toList = 0) : asked zs p = 0 := by
  unfold asked; rw [h.fault, if_neg (by decide)]; exact hp
theorem at_of {zs : List Zn} {p : ByteArray} {z : Zn} (hu : zs.Pairwise fun y z => key y < key z) (hz : z ∈ zs) (ha : isAt p z = true) : ∃ k : Nat, atI zs p = k ∧ zs[k]? = some z := by
  rcases atI_range zs p with ⟨-, h2⟩ | ⟨k, y, hk, -, hy, hya⟩
  · rw [h2 z hz] at ha; cases ha
  · exact ⟨k, hk, by rw [hy, up_one hu (List.mem_of_getElem? hy) hz hya ha]⟩
theorem top_false {p : ByteArray} (h : ¬ p.data.toList = [47]) : (p.toList == [47]) = false := by
  rw [Lib.toList_data]; simpa using h
/-- What a deletion without a code says of the tree, and leaves. -/
theorem del_zero {zs : List Zn} {p : ByteArray} {n : Int} (h : (delV zs p n).1 = 0) : Good zs ∧ Pth.faultI p.data.toList = 0 ∧ (¬ p.data.toList = [47]) ∧ kids zs p = [] ∧ (∃ z ∈ zs, isAt p z = true) ∧ delV zs p n = (0, ⟨#[]⟩, zs.filter fun y => !isAt p y) ∧ (zs.filter fun y => !isAt p y).length + 1 = zs.length := by
  by_cases h0 : asked zs p = 0
  · obtain ⟨h1, h2⟩ := asked_fault h0
    have hG := good_of h1
    rw [delV_ok h0] at h ⊢
    by_cases ht : p.data.toList = [47]
    · rw [delT_top (by rw [Lib.toList_data, ht]; rfl)] at h; cases h
    have htf := top_false ht
    rcases atI_range zs p with ⟨hm, -⟩ | ⟨k, z, hk, hkl, hz, ha⟩
    · rw [delT_none htf (by omega)] at h; cases h
    rw [delT_some htf hk hz] at h ⊢
    split at h
    · cases h
    rename_i hv
    split at h
    · cases h
    rename_i hkd
    rw [if_neg hv, if_neg hkd, del_filter hG.up hz ha]
    refine ⟨hG, h2, ht, nil_of_len hkd, ⟨z, List.mem_of_getElem? hz, ha⟩, rfl, ?_⟩
    rw [← del_filter hG.up hz ha, List.length_append, List.length_take, List.length_drop]; omega
  · rw [delV_bad rfl h0] at h; exact absurd h h0
/-- All that FnDeletes asks. -/
theorem del_all {zs : List Zn} {p : ByteArray} {n : Int} (h : (delV zs p n).1 = 0) : ∃ rs cs : List Zn, delV zs p n = (0, ⟨#[]⟩, rs) ∧ fault rs = 0 ∧ rs.length + 1 = zs.length ∧ (getT rs p).1 = 4 ∧ kidsV zs p = (0, []) ∧ createV rs p 5 0 false = (0, p, cs) ∧ cs.length = zs.length ∧ fault cs = 0 ∧ delV cs p 0 = (0, ⟨#[]⟩, rs) := by
  obtain ⟨hG, hp, ht, hk, ⟨z, hz, ha⟩, hd, hl⟩ := del_zero h
  have hkn := kids_nil.1 hk
  have hR := hG.del ht hkn
  obtain ⟨rs, hrs⟩ : ∃ rs, rs = zs.filter fun y => !isAt p y := ⟨_, rfl⟩
  rw [← hrs] at hd hl hR
  have hno : ∀ y ∈ rs, isAt p y = false := fun y hy => by
    rw [hrs] at hy; simpa using (List.mem_filter.1 hy).2
  have hx : ∃ x ∈ rs, isAt (par p) x = true ∧ x.owner = 0 := by
    obtain ⟨x, hx, hxa, ho⟩ := hG.hung z hz
    rw [path_of ha] at hxa
    refine ⟨x, ?_, hxa, ho⟩
    rw [hrs]
    refine List.mem_filter.2 ⟨hx, ?_⟩
    cases h5 : isAt p x with
    | false => rfl
    | true => exact absurd ((isAt_iff.1 hxa).symm.trans (isAt_iff.1 h5)) (par_ne hp ht)
  have htf := top_false ht
  obtain ⟨x, hx1, hx2, hx3⟩ := hx
  obtain ⟨j, hj, hjx⟩ := at_of hR.up hx1 hx2
  have hfew : rs.length < 20 := by have := hG.few; omega
  have hC : Good (putT rs ⟨p, 5, 0, 0, 0⟩) := hR.put hfew ⟨hp, rfl⟩ hno ⟨x, hx1, hx2, hx3⟩
  have hcr : createV rs p 5 0 false = (0, p, putT rs ⟨p, 5, 0, 0, 0⟩) := by
    rw [createV_ok (asked_of hR hp), createT_some (by decide) htf hj hjx, if_neg (by rw [hx3]; simp), if_neg (by decide)]
    unfold finT
    rw [if_neg (by have := not_at hno; omega), if_neg (by omega)]
  have hz5 : (⟨p, 5, 0, 0, 0⟩ : Zn) ∈ putT rs ⟨p, 5, 0, 0, 0⟩ := putT_mem.2 (Or.inl rfl)
  have ha5 : isAt p (⟨p, 5, 0, 0, 0⟩ : Zn) = true := isAt_iff.2 rfl
  obtain ⟨i, hi, hiz⟩ := at_of hC.up hz5 ha5
  have hk5 : kids (putT rs ⟨p, 5, 0, 0, 0⟩) p = [] := kids_nil.2 fun y hy => by
    rcases putT_mem.1 hy with rfl | hy
    · cases h5 : isKid p (⟨p, 5, 0, 0, 0⟩ : Zn) with
      | false => rfl
      | true => exact absurd (of_isKid h5).1 (par_ne hp ht)
    · rw [hrs] at hy; exact hkn y (List.mem_filter.1 hy).1
  refine ⟨rs, putT rs ⟨p, 5, 0, 0, 0⟩, hd, hR.fault, hl, ?_, ?_, hcr, by rw [putT_len]; exact hl, hC.fault, ?_⟩
  · rw [getT_none (asked_of hR hp) (not_at hno)]
  · rw [kidsV_ok (asked_of hG hp) (by obtain ⟨k, hk1, -⟩ := at_of hG.up hz ha; omega), hk]
  · rw [delV_ok (asked_of hC hp), delT_some htf hi hiz, if_neg (by simp), if_neg (by rw [hk5]; simp), del_filter hC.up hiz ha5]
    have := putT_filter (bs := rs) (z := ⟨p, 5, 0, 0, 0⟩) hno
    rw [this]
end Tre
end Go.Proofs.YtmiffefnpendoaaGreatDoor

/- plain mathematics of the promise on paths: a path that is joined of a path and a name is its parent and its last name. -/
namespace Go.Proofs.YtmiffefnpendoaaGreatDoor
namespace Pth

theorem okName_count {n : List UInt8} (h : okName n = true) : n.count 47 = 0 := by
  unfold okName at h
  simp only [Bool.and_eq_true] at h
  rw [List.count_eq_zero]
  intro hm
  have := List.all_eq_true.1 h.1 47 hm
  revert this; decide

theorem lastSl_app (l n : List UInt8) (hn : n.count 47 = 0) : ∀ i a, lastSl (l ++ 47 :: n) i a = i + l.length := by
  induction l with
  | nil => intro i a; simp only [List.nil_append, lastSl, if_true]; rw [count_lastSl n _ _ hn]; simp
  | cons c r ih =>
    intro i a
    simp only [List.cons_append, lastSl, List.length_cons]
    split
    · rw [ih]; omega
    · rw [ih]; omega

theorem joined_form (p n : List UInt8) (hp : p ≠ []) : (p = [47] ∧ joined p n = [] ++ 47 :: n) ∨ (p ≠ [47] ∧ p ≠ [] ∧ joined p n = p ++ 47 :: n) := by
  unfold joined
  by_cases h : p = [47]
  · left; exact ⟨h, by rw [if_pos h]; rfl⟩
  · right; exact ⟨h, hp, by rw [if_neg h]⟩

theorem path_ne {p : List UInt8} (h : faultI p = 0) : p ≠ [] := by
  rintro rfl; revert h; decide

theorem joined_ne_top {p n : List UInt8} (hp : faultI p = 0) (hn : okName n = true) : joined p n ≠ [47] := by
  have hne : n ≠ [] := by rintro rfl; revert hn; decide
  rcases joined_form p n (path_ne hp) with ⟨_, h⟩ | ⟨_, h1, h⟩
  · rw [h]; simpa using hne
  · rw [h]
    intro e
    have := congrArg List.length e
    have hl : 0 < n.length := List.length_pos_iff.2 hne
    simp at this
    omega
theorem parent_joined {p n : List UInt8} (hp : faultI p = 0) (hn : okName n = true) (hj : faultI (joined p n) = 0) : parentV (joined p n) = (0, p) := by
  unfold parentV
  rw [hj, if_neg (by decide), if_neg (joined_ne_top hp hn)]
  have hc := okName_count hn
  rcases joined_form p n (path_ne hp) with ⟨h1, h⟩ | ⟨h1, h2, h⟩
  · rw [h, lastSl_app [] n hc, if_pos (by simp), h1]
  · rw [h, lastSl_app p n hc, if_neg, Nat.zero_add, List.take_left]
    have : p.length ≠ 0 := fun e => h2 (List.eq_nil_of_length_eq_zero e)
    omega
theorem name_joined {p n : List UInt8} (hp : faultI p = 0) (hn : okName n = true) (hj : faultI (joined p n) = 0) : nameV (joined p n) = (0, n) := by
  unfold nameV
  rw [hj, if_neg (by decide), if_neg (joined_ne_top hp hn)]
  have hc := okName_count hn
  have key : ∀ l : List UInt8, (l ++ 47 :: n).drop (0 + l.length + 1) = n := by
    intro l
    rw [show l ++ 47 :: n = (l ++ [47]) ++ n from by simp, List.drop_left' (by simp)]
  rcases joined_form p n (path_ne hp) with ⟨h1, h⟩ | ⟨h1, h2, h⟩
  · rw [h, lastSl_app [] n hc, key]
  · rw [h, lastSl_app p n hc, key]
theorem under_joined {p n : List UInt8} (hp : faultI p = 0) (hj : faultI (joined p n) = 0) : underV (joined p n) p = true := by
  unfold underV under
  rw [hp, hj]
  rcases joined_form p n (path_ne hp) with ⟨h1, h⟩ | ⟨h1, h2, h⟩
  · simp [h1]
  · have : (p ++ [47]).isPrefixOf (joined p n) = true := by
      rw [List.isPrefixOf_iff_prefix, h]
      exact ⟨n, by simp⟩
    simp [this]
theorem joined_longer {p n : List UInt8} (hp : faultI p = 0) (hn : okName n = true) : p.length < (joined p n).length := by
  have hne : n ≠ [] := by rintro rfl; revert hn; decide
  have hl : 0 < n.length := List.length_pos_iff.2 hne
  rcases joined_form p n (path_ne hp) with ⟨h1, h⟩ | ⟨h1, h2, h⟩
  · rw [h, h1]; simp; omega
  · rw [h]; simp
theorem not_under_joined {p n : List UInt8} (hp : faultI p = 0) (hn : okName n = true) (hj : faultI (joined p n) = 0) : underV p (joined p n) = false := by
  have hlt := joined_longer hp hn
  unfold underV under
  rw [hp, hj]
  have h1 : ¬ p = joined p n := fun e => by rw [← e] at hlt; omega
  have h3 : (joined p n ++ [47]).isPrefixOf p = false := by
    rw [← Bool.not_eq_true, List.isPrefixOf_iff_prefix]
    intro x
    have := x.length_le
    simp at this
    omega
  have h2 := joined_ne_top hp hn
  rw [h3]
  simp [h1, h2]
theorem under_top_joined {p n : List UInt8} (hj : faultI (joined p n) = 0) : underV (joined p n) [47] = true := by
  unfold underV under
  rw [hj]
  have : faultI [47] = 0 := by decide
  rw [this]
  simp
theorem deep_joined {p n : List UInt8} (hp : faultI p = 0) (hn : okName n = true) (hj : faultI (joined p n) = 0) : ∃ d : Int, 0 ≤ d ∧ d ≤ (p.length : Int) ∧ deepV p = (0, d) ∧ deepV (joined p n) = (0, d + 1) := by
  have hc := okName_count hn
  unfold deepV
  rw [hp, hj, if_neg (by decide : ¬ (0 : Int) ≠ 0), if_neg (by decide : ¬ (0 : Int) ≠ 0), if_neg (joined_ne_top hp hn)]
  rcases joined_form p n (path_ne hp) with ⟨h1, h⟩ | ⟨h1, h2, h⟩
  · refine ⟨0, by omega, by omega, by rw [if_pos h1], ?_⟩
    rw [h]; simp [hc]
  · refine ⟨(p.count 47 : Nat), by omega, ?_, by rw [if_neg h1], ?_⟩
    · have := List.count_le_length (a := (47 : UInt8)) (l := p); omega
    · rw [h]; simp [List.count_append, hc]
theorem joinV_cases (p n : List UInt8) : (∃ c, joinV p n = (c, []) ∧ c ≠ 0) ∨ (joinV p n = (0, joined p n) ∧ faultI p = 0 ∧ okName n = true ∧ faultI (joined p n) = 0) := by
  unfold joinV
  by_cases h1 : faultI p = 0
  · rw [h1, if_neg (by decide)]
    cases h2 : okName n
    · left; exact ⟨5, by simp, by decide⟩
    · by_cases h3 : faultI (joined p n) = 0
      · right; rw [if_neg (by decide), h3, if_neg (by decide)]; exact ⟨rfl, rfl, rfl, rfl⟩
      · left; rw [if_neg (by decide), if_pos h3]; exact ⟨_, rfl, h3⟩
  · left; rw [if_pos h1]; exact ⟨_, rfl, h1⟩
end Pth
end Go.Proofs.YtmiffefnpendoaaGreatDoor

/- What a creation without a code says of the tree, and leaves; a name with a number is never given twice. -/
namespace Go.Proofs.YtmiffefnpendoaaGreatDoor
open Go.RowKit
namespace Tre
/-- A node whose path and owner stay may turn. -/
theorem Good.turn {zs : List Zn} (h : Good zs) {k : Nat} {y y' : Zn} (hy : zs[k]? = some y) (hp : y'.path = y.path) (ho : y'.owner = y.owner) (hn : okNums y' = true) : Good (zs.set k y') := by
  have hk := (List.getElem?_eq_some_iff.1 hy).1
  have hym := List.mem_of_getElem? hy
  have hin : y' ∈ zs.set k y' := List.mem_of_getElem? (List.getElem?_set_self hk)
  have hat : ∀ q x, x ∈ zs → isAt q x = true → ∃ x' ∈ zs.set k y', isAt q x' = true ∧ x'.owner = x.owner := fun q x hx ha => by
    obtain ⟨i, hi⟩ := List.getElem?_of_mem hx
    by_cases hik : i = k
    · subst hik
      rw [hy] at hi; cases hi
      exact ⟨y', hin, by rw [isAt_iff] at ha ⊢; unfold key at ha ⊢; rw [hp]; exact ha, ho⟩
    · exact ⟨x, List.mem_of_getElem? (by rw [List.getElem?_set_ne (Ne.symm hik)]; exact hi), ha, rfl⟩
  refine ⟨by simpa using h.few, fun z hz => ?_, ?_, ?_, fun z hz => ?_⟩
  · rcases List.mem_or_eq_of_mem_set hz with hz | rfl
    · exact h.each z hz
    · exact ⟨by rw [hp]; exact (h.each y hym).1, hn⟩
  · rw [List.pairwise_iff_getElem]
    intro i j hi hj hij
    rw [List.length_set] at hi hj
    have h0 := (List.pairwise_iff_getElem.1 h.up) i j hi hj hij
    have e : ∀ t (ht : t < zs.length), key ((zs.set k y')[t]'(by simpa using ht)) = key zs[t] := fun t ht => by
      rw [List.getElem_set]
      split
      · rename_i hkt; subst hkt
        have : zs[k] = y := (List.getElem?_eq_some_iff.1 hy).2
        rw [this]; unfold key; rw [hp]
      · rfl
    rw [e i hi, e j hj]; exact h0
  · obtain ⟨z, hz, ha⟩ := h.top
    obtain ⟨x, hx, hxa, -⟩ := hat _ z hz ha
    exact ⟨x, hx, hxa⟩
  · have hz' : ∃ z0 ∈ zs, z.path = z0.path := by
      rcases List.mem_or_eq_of_mem_set hz with hz | rfl
      · exact ⟨z, hz, rfl⟩
      · exact ⟨y, hym, hp⟩
    obtain ⟨z0, hz0, he⟩ := hz'
    obtain ⟨x, hx, hxa, hxo⟩ := h.hung z0 hz0
    obtain ⟨x', hx', ha', ho'⟩ := hat _ x hx hxa
    exact ⟨x', hx', by rw [he]; exact ha', ho'.trans hxo⟩
theorem set_paths {zs : List Zn} {k : Nat} {y y' : Zn} (hy : zs[k]? = some y) (hp : y'.path = y.path) {q : ByteArray} (h : ∀ x ∈ zs, isAt q x = false) : ∀ x ∈ zs.set k y', isAt q x = false := fun x hx => by
  rcases List.mem_or_eq_of_mem_set hx with hx | rfl
  · exact h x hx
  · have := h y (List.mem_of_getElem? hy)
    unfold isAt at this ⊢; rw [hp]; exact this
theorem at_none {zs : List Zn} {p : ByteArray} (h : ¬ 0 ≤ atI zs p) : ∀ y ∈ zs, isAt p y = false := fun y hy => by
  cases h5 : isAt p y with
  | false => rfl
  | true => exact absurd (atI_mem.2 ⟨y, hy, h5⟩) h
theorem par_seq {p : ByteArray} {n : Int} (hp : Pth.faultI (par p).data.toList = 0) (hn : Pth.okName (seqN p n).data.toList = true) (hf : Pth.faultI (seqP p n).data.toList = 0) : par (seqP p n) = par p ∧ ¬ (seqP p n).data.toList = [47] := by
  unfold seqP at hf ⊢
  rw [mkB_list] at hf ⊢
  have h1 := Pth.parent_joined hp hn hf
  have h2 := Pth.joined_ne_top hp hn
  refine ⟨?_, h2⟩
  unfold Pth.parentV at h1
  rw [hf, if_neg (by decide), if_neg h2] at h1
  simp only [Prod.mk.injEq, true_and] at h1
  unfold par
  rw [mkB_list]
  refine ba_eq ?_
  rw [mkB_list]
  refine h1.trans ?_
  unfold par; rw [mkB_list]
theorem nums_of {zs : List Zn} (h : Good zs) {z : Zn} (hz : z ∈ zs) : 0 ≤ z.data ∧ z.data ≤ 9999 ∧ 0 ≤ z.version ∧ z.version ≤ 999 ∧ 0 ≤ z.owner ∧ z.owner ≤ 9 ∧ 0 ≤ z.next ∧ z.next ≤ 100 := by
  have := (h.each z hz).2
  unfold okNums at this
  simp only [Bool.and_eq_true, decide_eq_true_eq] at this
  omega
theorem okNums_of {z : Zn} (h : 0 ≤ z.data ∧ z.data ≤ 9999 ∧ 0 ≤ z.version ∧ z.version ≤ 999 ∧ 0 ≤ z.owner ∧ z.owner ≤ 9 ∧ 0 ≤ z.next ∧ z.next ≤ 100) : okNums z = true := by
  unfold okNums; simp only [Bool.and_eq_true, decide_eq_true_eq]; omega
/-- What a creation is. -/
structure Made (zs : List Zn) (p : ByteArray) (d o : Int) (q : Bool) (pa : ByteArray) (bs : List Zn) : Prop where
  good : Good zs
  path : Pth.faultI p.data.toList = 0
  base : Good bs
  right : Pth.faultI pa.data.toList = 0
  notTop : ¬ pa.data.toList = [47]
  new : ∀ y ∈ bs, isAt pa y = false
  newZ : ∀ y ∈ zs, isAt pa y = false
  hangs : ∃ x ∈ bs, isAt (par pa) x = true ∧ x.owner = 0
  few : bs.length < 20
  many : bs.length = zs.length
  nums : 0 ≤ d ∧ d ≤ 9999 ∧ 0 ≤ o ∧ o ≤ 9
  sameP : par pa = par p
  pTop : ¬ p.data.toList = [47]
  plain : q = false → pa = p ∧ bs = zs
  seqd : q = true → ∃ (k : Nat) (y : Zn), atI zs (par p) = k ∧ zs[k]? = some y ∧ pa = seqP p y.next ∧ bs = zs.set k { y with next := y.next + 1 } ∧ 0 ≤ y.next ∧ y.next < 100 ∧ Pth.okName (seqN p y.next).data.toList = true
theorem create_zero {zs : List Zn} {p : ByteArray} {d o : Int} {q : Bool} (h : (createV zs p d o q).1 = 0) : ∃ pa bs, createV zs p d o q = (0, pa, putT bs ⟨pa, d, 0, o, 0⟩) ∧ Made zs p d o q pa bs := by
  by_cases h0 : asked zs p = 0
  · obtain ⟨h1, h2⟩ := asked_fault h0
    have hG := good_of h1
    rw [createV_ok h0] at h ⊢
    cases hdo : (okData d && okOwner o) with
    | false => rw [createT_range hdo] at h; cases h
    | true =>
    by_cases ht : p.data.toList = [47]
    · rw [createT_top hdo (by rw [Lib.toList_data, ht]; rfl)] at h; cases h
    have htf := top_false ht
    rcases atI_range zs (par p) with ⟨hm, -⟩ | ⟨k, y, hk, hkl, hy, ha⟩
    · rw [createT_none hdo htf (by omega)] at h; cases h
    rw [createT_some hdo htf hk hy] at h ⊢
    by_cases ho : y.owner = 0
    rotate_left
    · rw [if_pos ho] at h; cases h
    rw [if_neg (by rw [ho]; simp)] at h ⊢
    have hym := List.mem_of_getElem? hy
    have hnum : 0 ≤ d ∧ d ≤ 9999 ∧ 0 ≤ o ∧ o ≤ 9 := by
      unfold okData okOwner at hdo
      simp only [Bool.and_eq_true, decide_eq_true_eq] at hdo
      omega
    cases q with
    | false =>
      rw [if_neg (by decide)] at h ⊢
      unfold finT at h ⊢
      by_cases hat : 0 ≤ atI zs p
      · rw [if_pos hat] at h; cases h
      rw [if_neg hat] at h ⊢
      by_cases hl : 20 ≤ zs.length
      · rw [if_pos hl] at h; cases h
      rw [if_neg hl]
      exact ⟨p, zs, rfl, ⟨hG, h2, hG, h2, ht, at_none hat, at_none hat, ⟨y, hym, ha, ho⟩, by omega, rfl, hnum, rfl, ht, fun _ => ⟨rfl, rfl⟩, fun h => by cases h⟩⟩
    | true =>
      rw [if_pos rfl] at h ⊢
      by_cases hs : (seqT zs p k y).1 = 0
      rotate_left
      · rw [if_pos hs] at h; exact absurd h hs
      rw [if_neg (by rw [hs]; simp)] at h ⊢
      have hsq : y.next < 100 ∧ Pth.okName (seqN p y.next).data.toList = true ∧ Pth.faultI (seqP p y.next).data.toList = 0 ∧ seqT zs p k y = (0, seqP p y.next, zs.set k { y with next := y.next + 1 }) := by
        unfold seqT at hs ⊢
        split at hs
        · cases hs
        rename_i a1
        split at hs
        · cases hs
        rename_i a2
        split at hs
        · rename_i a3; exact absurd hs a3
        rename_i a3
        rw [if_neg a1, if_neg a2, if_neg a3]
        exact ⟨by omega, by simpa using a2, by simpa using a3, rfl⟩
      obtain ⟨b1, b2, b3, b4⟩ := hsq
      rw [b4] at h ⊢
      dsimp only at h ⊢
      unfold finT at h ⊢
      by_cases hat : 0 ≤ atI zs (seqP p y.next)
      · rw [if_pos hat] at h; cases h
      rw [if_neg hat] at h ⊢
      by_cases hl : 20 ≤ zs.length
      · rw [if_pos hl] at h; cases h
      rw [if_neg hl]
      have hyn := nums_of hG hym
      have hB : Good (zs.set k { y with next := y.next + 1 }) := hG.turn hy rfl rfl (okNums_of (by show _; simp only; omega))
      have hpp : Pth.faultI (par p).data.toList = 0 := by
        have := (hG.each y hym).1
        rw [path_of ha] at this; exact this
      obtain ⟨c1, c2⟩ := par_seq hpp b2 b3
      refine ⟨seqP p y.next, zs.set k { y with next := y.next + 1 }, rfl, ⟨hG, h2, hB, b3, c2, set_paths (y' := { y with next := y.next + 1 }) hy rfl (at_none hat), at_none hat, ⟨{ y with next := y.next + 1 }, List.mem_of_getElem? (List.getElem?_set_self hkl), ?_, ho⟩, by simp; omega, by simp, hnum, c1, ht, (fun h => by cases h), fun _ => ⟨k, y, hk, hy, rfl, rfl, hyn.2.2.2.2.2.2.1, b1, b2⟩⟩⟩
      rw [c1]; exact ha
  · rw [createV_bad rfl h0] at h; exact absurd h h0
theorem Made.tree {zs : List Zn} {p : ByteArray} {d o : Int} {q : Bool} {pa : ByteArray} {bs : List Zn} (h : Made zs p d o q pa bs) : Good (putT bs ⟨pa, d, 0, o, 0⟩) :=
  h.base.put h.few ⟨h.right, okNums_of (by have := h.nums; show _; simp only; omega)⟩ h.new h.hangs
/-- No node is a kid of what is new. -/
theorem Made.noKid {zs : List Zn} {p : ByteArray} {d o : Int} {q : Bool} {pa : ByteArray} {bs : List Zn} (h : Made zs p d o q pa bs) : kids (putT bs ⟨pa, d, 0, o, 0⟩) pa = [] := kids_nil.2 fun y hy => by
  cases h5 : isKid pa y with
  | false => rfl
  | true =>
    exfalso
    have hk := (of_isKid h5).1
    rcases putT_mem.1 hy with rfl | hy
    · exact par_ne h.right h.notTop hk
    · obtain ⟨x, hx, hxa, -⟩ := h.base.hung y hy
      have := h.new x hx
      rw [isAt_iff.2 ((isAt_iff.1 hxa).trans hk)] at this; cases this
/-- What is new may be deleted, and what was there is left. -/
theorem Made.del {zs : List Zn} {p : ByteArray} {d o : Int} {q : Bool} {pa : ByteArray} {bs : List Zn} (h : Made zs p d o q pa bs) : delV (putT bs ⟨pa, d, 0, o, 0⟩) pa (-1) = (0, ⟨#[]⟩, bs) := by
  have hT := h.tree
  have ha : isAt pa (⟨pa, d, 0, o, 0⟩ : Zn) = true := isAt_iff.2 rfl
  obtain ⟨i, hi, hiz⟩ := at_of hT.up (putT_mem.2 (Or.inl rfl)) ha
  rw [delV_ok (asked_of hT h.right), delT_some (top_false h.notTop) hi hiz, if_neg (by simp), if_neg (by rw [h.noKid]; simp), del_filter hT.up hiz ha]
  have := putT_filter (bs := bs) (z := ⟨pa, d, 0, o, 0⟩) h.new
  rw [this]
theorem seqP_inj {p : ByteArray} {m n : Int} (h0 : 0 ≤ m ∧ m < 100) (h1 : 0 ≤ n ∧ n < 100) (h : seqP p m = seqP p n) : m = n := by
  have h2 : (seqP p m).data.toList = (seqP p n).data.toList := by rw [h]
  unfold seqP at h2
  rw [mkB_list, mkB_list, seqN_list p h0.1, seqN_list p h1.1] at h2
  have h3 : Pth.seqd (lastName p).data.toList m.toNat = Pth.seqd (lastName p).data.toList n.toNat := by
    unfold Pth.joined at h2
    split at h2
    · simpa using h2
    · have := List.append_cancel_left h2; simpa using this
  unfold Pth.seqd at h3
  have h4 := List.append_cancel_left h3
  simp only [List.cons.injEq, and_true] at h4
  have e1 := congrArg UInt8.toNat h4.1
  have e2 := congrArg UInt8.toNat h4.2
  simp only [UInt8.toNat_ofNat'] at e1 e2
  omega
/-- All that FnNumbers asks of trees. -/
theorem numbers_all {zs : List Zn} {p : ByteArray} {d : Int} (h : (createV zs p d 0 true).1 = 0) : ∃ pa es bs, createV zs p d 0 true = (0, pa, es) ∧ delV es pa (-1) = (0, ⟨#[]⟩, bs) ∧ 3 < pa.size ∧ pa.size ≤ 24 ∧
    ((createV bs p d 0 true).1 = 0 → ¬ (createV bs p d 0 true).2.1 = pa ∧ fault (createV bs p d 0 true).2.2 = 0) := by
  obtain ⟨pa, bs, he, hM⟩ := create_zero h
  obtain ⟨k, y, hk, hy, hpa, hbs, hn0, hn1, hok⟩ := hM.seqd rfl
  refine ⟨pa, _, bs, he, hM.del, ?_, few_of_ok hM.right, fun hc => ?_⟩
  · have hl := lastName_ok hM.path hM.pTop
    have hlen : (seqN p y.next).data.toList.length = (lastName p).data.toList.length + 2 := by
      rw [seqN_list p hn0]; unfold Pth.seqd; simp
    have h1 : 1 ≤ (lastName p).data.toList.length := by
      unfold Pth.okName at hl
      simp only [Bool.and_eq_true, decide_eq_true_eq] at hl
      exact hl.2.1
    have h2 : 4 ≤ pa.data.toList.length := by
      rw [hpa]; unfold seqP; rw [mkB_list]; unfold Pth.joined
      split <;> simp only [List.length_cons, List.length_append] <;> omega
    rw [len_eq] at h2; omega
  · obtain ⟨pb, cs, he2, hM2⟩ := create_zero hc
    obtain ⟨k2, y2, hk2, hy2, hpb, hcs, hm0, hm1, -⟩ := hM2.seqd rfl
    rw [he2]
    refine ⟨?_, hM2.tree.fault⟩
    dsimp only
    intro e
    have hkl := (List.getElem?_eq_some_iff.1 hy).1
    have hin : ({ y with next := y.next + 1 } : Zn) ∈ bs := by rw [hbs]; exact List.mem_of_getElem? (List.getElem?_set_self hkl)
    have hay : isAt (par p) y = true := by
      rcases atI_range zs (par p) with ⟨hm, -⟩ | ⟨k', y', hk', -, hy', ha'⟩
      · omega
      · have : k' = k := by omega
        subst this
        rw [hy] at hy'; cases hy'; exact ha'
    have hay' : isAt (par p) ({ y with next := y.next + 1 } : Zn) = true := hay
    obtain ⟨k3, hk3, hy3⟩ := at_of hM.base.up hin hay'
    have : k3 = k2 := by omega
    subst this
    rw [hy2] at hy3
    cases hy3
    rw [hpb, hpa] at e
    have := seqP_inj ⟨hm0, hm1⟩ ⟨hn0, hn1⟩ e
    simp only at this
    omega
end Tre
end Go.Proofs.YtmiffefnpendoaaGreatDoor

/- All that FnCreates asks of trees. -/
namespace Go.Proofs.YtmiffefnpendoaaGreatDoor
open Go.RowKit
namespace Tre
/-- The nodes of zs stand in bs, but for a number. -/
def Alike (zs bs : List Zn) : Prop := zs.length = bs.length ∧ ∀ (i : Nat) x, zs[i]? = some x → ∃ y, bs[i]? = some y ∧ y.path = x.path ∧ y.data = x.data ∧ y.version = x.version ∧ y.owner = x.owner
theorem Alike.refl (zs : List Zn) : Alike zs zs := ⟨rfl, fun _ x h => ⟨x, h, rfl, rfl, rfl, rfl⟩⟩
theorem Alike.set {zs : List Zn} {k : Nat} {y : Zn} (hy : zs[k]? = some y) (n : Int) : Alike zs (zs.set k { y with next := n }) := by
  refine ⟨by simp, fun i x hx => ?_⟩
  by_cases hik : k = i
  · subst hik
    rw [hy] at hx; cases hx
    exact ⟨_, List.getElem?_set_self (List.getElem?_eq_some_iff.1 hy).1, rfl, rfl, rfl, rfl⟩
  · exact ⟨x, by rw [List.getElem?_set_ne hik]; exact hx, rfl, rfl, rfl, rfl⟩
theorem isKid_path {p : ByteArray} {x y : Zn} (h : y.path = x.path) : isKid p y = isKid p x := by unfold isKid; rw [h]
theorem Alike.kids {zs bs : List Zn} (h : Alike zs bs) (p : ByteArray) : (Tre.kids zs p).length = (Tre.kids bs p).length := by
  obtain ⟨hl, ha⟩ := h
  unfold Tre.kids
  rw [List.length_map, List.length_map]
  induction zs generalizing bs with
  | nil =>
    have : bs = [] := List.eq_nil_of_length_eq_zero (by simpa using hl.symm)
    subst this; rfl
  | cons x t ih =>
    cases bs with
    | nil => simp at hl
    | cons y u =>
      obtain ⟨y', hy', hp, -⟩ := ha 0 x rfl
      simp at hy'; subst hy'
      have h1 := ih (bs := u) (by simpa using hl) (fun i z hz => ha (i + 1) z (by simpa using hz))
      rw [List.filter_cons, List.filter_cons, isKid_path hp]
      split
      · simp only [List.length_cons, h1]
      · exact h1
theorem filter_put {bs : List Zn} {z : Zn} (f : Zn → Bool) (hf : f z = true) : ((putT bs z).filter f).length = (bs.filter f).length + 1 := by
  unfold putT
  rw [List.filter_append, List.filter_cons, if_pos hf, List.length_append, List.length_cons]
  have h : (bs.filter f).length = ((bs.take (cut bs (key z)) ++ bs.drop (cut bs (key z))).filter f).length := by rw [List.take_append_drop]
  rw [h, List.filter_append, List.length_append]; omega
theorem get_of {zs : List Zn} (h : Good zs) {z : Zn} (hz : z ∈ zs) : getT zs z.path = (0, ⟨#[]⟩, [z]) := by
  obtain ⟨k, hk, hkz⟩ := at_of h.up hz (isAt_self z)
  exact getT_ok (asked_of h (h.each z hz).1) hk hkz
theorem creates_all {zs : List Zn} {p : ByteArray} {d o : Int} {q : Bool} (h : (createV zs p d o q).1 = 0) : ∃ pa es, createV zs p d o q = (0, pa, es) ∧ Pth.faultI pa.data.toList = 0 ∧ (¬ pa.data.toList = [47]) ∧ fault es = 0 ∧ es.length = zs.length + 1 ∧ zs.length < 20 ∧ getT es pa = (0, ⟨#[]⟩, [⟨pa, d, 0, o, 0⟩]) ∧
    (∃ ks ws, kidsV es (par pa) = (0, ks) ∧ kidsV zs (par pa) = (0, ws) ∧ ks.length = ws.length + 1 ∧ ws.length ≤ 20) ∧ (q = false → pa = p) ∧ (getT zs pa).1 = 4 ∧ ∀ x ∈ zs, ∃ y, getT es x.path = (0, ⟨#[]⟩, [y]) ∧ y.data = x.data ∧ y.version = x.version ∧ y.owner = x.owner := by
  obtain ⟨pa, bs, he, hM⟩ := create_zero h
  have hT := hM.tree
  have hA : Alike zs bs := by
    cases q with
    | false => rw [(hM.plain rfl).2]; exact Alike.refl _
    | true =>
      obtain ⟨k, y, -, hy, -, hb, -⟩ := hM.seqd rfl
      rw [hb]; exact Alike.set hy _
  have hz : (⟨pa, d, 0, o, 0⟩ : Zn) ∈ putT bs ⟨pa, d, 0, o, 0⟩ := putT_mem.2 (Or.inl rfl)
  have hpp : Pth.faultI (par pa).data.toList = 0 := by
    obtain ⟨x, hx, hxa, -⟩ := hM.hangs
    have := (hM.base.each x hx).1
    rw [path_of hxa] at this; exact this
  have hinE : ¬ atI (putT bs ⟨pa, d, 0, o, 0⟩) (par pa) < 0 := by
    obtain ⟨x, hx, hxa, -⟩ := hM.hangs
    have := atI_mem.2 ⟨x, (putT_mem (z := (⟨pa, d, 0, o, 0⟩ : Zn))).2 (Or.inr hx), hxa⟩; omega
  have hinZ : ¬ atI zs (par pa) < 0 := by
    obtain ⟨x, hx, hxa, -⟩ := hM.hangs
    obtain ⟨i, hi⟩ := List.getElem?_of_mem hx
    have hil : i < zs.length := by have := (List.getElem?_eq_some_iff.1 hi).1; rw [hA.1]; exact this
    obtain ⟨y, hy, hyp, -⟩ := hA.2 i _ (List.getElem?_eq_getElem hil)
    rw [hi] at hy; cases hy
    have hza : isAt (par pa) zs[i] = true := by unfold isAt at hxa ⊢; rw [← hyp]; exact hxa
    have := atI_mem.2 ⟨_, List.getElem_mem hil, hza⟩; omega
  have hkid : isKid (par pa) (⟨pa, d, 0, o, 0⟩ : Zn) = true := isKid_of hM.notTop rfl
  refine ⟨pa, _, he, hM.right, hM.notTop, hT.fault, by rw [putT_len, hM.many], by have := hM.few; rw [← hM.many]; exact this, get_of hT hz, ⟨_, _, kidsV_ok (asked_of hT hpp) hinE, kidsV_ok (asked_of hM.good hpp) hinZ, ?_, ?_⟩, fun hq => (hM.plain hq).1, ?_, fun x hx => ?_⟩
  · rw [hA.kids (par pa)]
    unfold kids
    rw [List.length_map, List.length_map, filter_put _ hkid]
  · unfold kids
    rw [List.length_map]
    exact Nat.le_trans (List.length_filter_le _ _) hM.good.few
  · rw [getT_none (asked_of hM.good hM.right) (not_at hM.newZ)]
  · obtain ⟨i, hi⟩ := List.getElem?_of_mem hx
    obtain ⟨y, hy, hp, h1, h2, h3⟩ := hA.2 i x hi
    exact ⟨y, by rw [← hp]; exact get_of hT (putT_mem.2 (Or.inr (List.mem_of_getElem? hy))), h1, h2, h3⟩
end Tre
end Go.Proofs.YtmiffefnpendoaaGreatDoor

/- laws.FnCreates, walked: it answers true at every code. -/
namespace Go.Proofs.YtmiffefnpendoaaGreatDoor
open Go.RowKit
set_option maxHeartbeats 400000 in
theorem lwBigC_any (ad : Option Addr) (len cap : Nat) (w : World) :
    Calls Tryz.prog 6 #[.slice ad len cap] w fun e w' => e = .returned (.bool (decide (1048576 < len))) ∧ w' = w := by
  go_enter Tryz.func6, Tryz.ntmps6
  go_wp2
  go_ret
  exact ⟨ret_bool (by rw [Bool.eq_iff_iff]; simp; omega), rfl⟩
set_option maxRecDepth 100000 in
set_option maxHeartbeats 4000000 in
theorem lawCreates_big (ad : Option Addr) (len cap : Nat) (w : World) (hl : 1048576 < len) :
    Calls Tryz.prog 3 #[.slice ad len cap] w fun e w' => e = .returned (.bool true) ∧ Ext w w' := by
  have hbig : decide (1048576 < len) = true := by simpa using hl
  have hB := lwBigC_any ad len cap w
  rw [hbig] at hB
  clear hbig
  go_enter Tryz.func3, Tryz.ntmps3
  go_wp2_with fail
  refine hB.mono ?_
  rintro e w0 ⟨rfl, hw⟩
  subst hw
  clear hB
  go_wp2
  go_ret
  exact ⟨rfl, Ext.refl _⟩
/-- What the law holds while it goes on. -/
def CrA (w0 : World) (v rv gv : Value) (zs es : List Zn) (zz : Zn) (pa : ByteArray) (br bg : Nat) (W : World) : Prop :=
  Ext w0 W ∧ Gd W ∧ NSlice W v zs ∧ NSlice W rv es ∧ NSlice W gv [zz] ∧ BoxAt W br 0 pa rv ∧ BoxAt W bg 0 ⟨#[]⟩ gv
theorem CrA.ext {w0 W W' : World} {v rv gv : Value} {zs es : List Zn} {zz : Zn} {pa : ByteArray} {br bg : Nat} (h : CrA w0 v rv gv zs es zz pa br bg W) (he : Ext W W') : CrA w0 v rv gv zs es zz pa br bg W' :=
  ⟨h.1.trans he, h.2.1.ext he, h.2.2.1.ext he, h.2.2.2.1.ext he, h.2.2.2.2.1.ext he, h.2.2.2.2.2.1.ext he, h.2.2.2.2.2.2.ext he⟩
def CrB (w0 : World) (v rv gv kv uv : Value) (zs es : List Zn) (zz : Zn) (pa : ByteArray) (br bg bk bu : Nat) (W : World) : Prop :=
  CrA w0 v rv gv zs es zz pa br bg W ∧ XBoxAt W bk 0 kv ∧ XBoxAt W bu 0 uv
theorem CrB.ext {w0 W W' : World} {v rv gv kv uv : Value} {zs es : List Zn} {zz : Zn} {pa : ByteArray} {br bg bk bu : Nat} (h : CrB w0 v rv gv kv uv zs es zz pa br bg bk bu W) (he : Ext W W') : CrB w0 v rv gv kv uv zs es zz pa br bg bk bu W' := ⟨h.1.ext he, h.2.1.ext he, h.2.2.ext he⟩
/-- A box of the law's own that may be written. -/
def KBox (W : World) (b : Nat) : Prop := b < W.heap.size ∧ (∃ u, W.cell? ⟨b, 0, none⟩ = some u) ∧ (∃ u, W.cell? ⟨b, 1, none⟩ = some u) ∧ W.frozen? ⟨b, 0, none⟩ = false ∧ W.frozen? ⟨b, 1, none⟩ = false
theorem KBox.ext {W W' : World} {b : Nat} (h : KBox W b) (he : Ext W W') : KBox W' b := by
  obtain ⟨hc, hf⟩ := Ext.cell he
  exact ⟨Nat.lt_of_lt_of_le h.1 he.size, by rw [hc _ _ h.1]; exact h.2.1, by rw [hc _ _ h.1]; exact h.2.2.1, (hf _ _ h.1).trans h.2.2.2.1, (hf _ _ h.1).trans h.2.2.2.2⟩
theorem kbox_new (w : World) (a b : Value) (t : TypeId) : KBox (w.alloc (.cells #[a, b] t)) w.heap.size := ⟨by simp, ⟨a, by simp⟩, ⟨b, by simp⟩, by simp, by simp⟩
theorem KBox.put {W : World} {b : Nat} (h : KBox W b) (c : Int) (v : Value) : XBoxAt ((W.setCell ⟨b, 0, none⟩ (.int .i64 c)).setCell ⟨b, 1, none⟩ v) b c v :=
  ⟨by simpa using h.1, by rw [set_ne _ _ _ _ _ _ (by omega)]; exact set_eq _ _ _ _ h.2.1, by apply set_eq; rw [set_ne _ _ _ _ _ _ (by omega)]; exact h.2.2.1⟩
theorem ext_two {w W : World} {b : Nat} (h : Ext w W) (hb : w.heap.size ≤ b) (x y : Value) : Ext w ((W.setCell ⟨b, 0, none⟩ x).setCell ⟨b, 1, none⟩ y) := (h.setCell (p := ⟨b, 0, none⟩) hb _).setCell (p := ⟨b, 1, none⟩) hb _
def KRet (W : World) (n : Nat) (e : Ending) (w' : World) : Prop := ∃ ak ck, e = .returned (.agg #[.int .i64 0, .slice ak n ck]) ∧ Ext W w'
theorem KRet.of {W w' : World} {ks : List ByteArray} {e : Ending} (h : XRet W 0 ks e w') : KRet W ks.length e w' := by
  obtain ⟨v, g, rfl, -, hok, hb⟩ := h
  obtain ⟨ak, ck, rfl, -⟩ := hok
  exact ⟨ak, ck, rfl, hb⟩
theorem slice_ofC {w : World} {v : Value} {g : Nat} {zs : List Zn} (h : Own w v g zs) : ∃ ad cap, v = .slice ad zs.length cap := by obtain ⟨a0, c0, h0, -⟩ := h; exact ⟨a0, c0, h0⟩
theorem one_of {w : World} {v : Value} {g : Nat} {z : Zn} (h : Own w v g [z]) : ∃ off cap, v = .slice (some ⟨g, off, none⟩) 1 cap := by
  obtain ⟨a0, c0, h0, -, -, h4⟩ := h
  obtain ⟨off, ha, -⟩ := h4 (by simp)
  exact ⟨off, c0, by rw [h0, ha]; rfl⟩
theorem NSlice.nodesC {W : World} {g off cap n : Nat} {zs : List Zn} (h : NSlice W (.slice (some ⟨g, off, none⟩) n cap) zs) (hp : 0 < zs.length) : NodesAt W g off zs ∧ n ≤ cap ∧ cap ≤ maxLen := by
  obtain ⟨a, cap', he, h2, h3, h4⟩ := h
  obtain ⟨b', off', ha, -, hN⟩ := h4 hp
  injection he with e1 e2 e3
  subst e3
  rw [← e1] at ha
  injection ha with ha
  injection ha with ha1 ha2 _
  subst ha1 ha2
  exact ⟨hN, by omega, h3⟩
theorem CrB.cells {w0 W : World} {v rv kv uv : Value} {zs es : List Zn} {zz : Zn} {pa : ByteArray} {g3 off3 cap3 br bg bk bu : Nat} (h : CrB w0 v rv (.slice (some ⟨g3, off3, none⟩) 1 cap3) kv uv zs es zz pa br bg bk bu W) : W.cell? ⟨br, 1, none⟩ = some (.string pa) ∧ W.cell? ⟨br, 2, none⟩ = some rv ∧ W.cell? ⟨bg, 0, none⟩ = some (.int .i64 0) ∧ W.cell? ⟨bg, 2, none⟩ = some (.slice (some ⟨g3, off3, none⟩) 1 cap3) ∧ W.cell? ⟨g3, off3 + 1, none⟩ = some (.int .i64 zz.data) ∧ W.cell? ⟨g3, off3 + 3, none⟩ = some (.int .i64 zz.owner) ∧ W.cell? ⟨bk, 1, none⟩ = some kv ∧ W.cell? ⟨bu, 1, none⟩ = some uv := by
  obtain ⟨⟨-, -, -, -, hgv, ⟨-, -, a1, a2⟩, ⟨-, b0, -, b2⟩⟩, ⟨-, -, k1⟩, ⟨-, -, u1⟩⟩ := h
  obtain ⟨hN, -, -⟩ := hgv.nodesC (by simp)
  obtain ⟨-, p1, -, p3, -⟩ := hN 0 zz rfl
  rw [Nat.zero_mul, Nat.add_zero] at p1 p3
  exact ⟨a1, a2, b0, b2, p1, p3, k1, u1⟩
end Go.Proofs.YtmiffefnpendoaaGreatDoor

namespace Go.Proofs.YtmiffefnpendoaaGreatDoor
open Go.RowKit
/-- A box of three cells of the law's own that may be written. -/
def ZBox (W : World) (b : Nat) : Prop := b < W.heap.size ∧ (∃ u, W.cell? ⟨b, 0, none⟩ = some u) ∧ (∃ u, W.cell? ⟨b, 1, none⟩ = some u) ∧ (∃ u, W.cell? ⟨b, 2, none⟩ = some u) ∧ W.frozen? ⟨b, 0, none⟩ = false ∧ W.frozen? ⟨b, 1, none⟩ = false ∧ W.frozen? ⟨b, 2, none⟩ = false
theorem ZBox.ext {W W' : World} {b : Nat} (h : ZBox W b) (he : Ext W W') : ZBox W' b := by
  obtain ⟨hc, hf⟩ := Ext.cell he
  exact ⟨Nat.lt_of_lt_of_le h.1 he.size, by rw [hc _ _ h.1]; exact h.2.1, by rw [hc _ _ h.1]; exact h.2.2.1, by rw [hc _ _ h.1]; exact h.2.2.2.1, (hf _ _ h.1).trans h.2.2.2.2.1, (hf _ _ h.1).trans h.2.2.2.2.2.1, (hf _ _ h.1).trans h.2.2.2.2.2.2⟩
theorem zbox_new (w : World) (a b c : Value) (t : TypeId) : ZBox (w.alloc (.cells #[a, b, c] t)) w.heap.size := ⟨by simp, ⟨a, by simp⟩, ⟨b, by simp⟩, ⟨c, by simp⟩, by simp, by simp, by simp⟩
theorem ZBox.put {W : World} {b : Nat} (h : ZBox W b) (c : Int) (p : ByteArray) (v : Value) : BoxAt (((W.setCell ⟨b, 0, none⟩ (.int .i64 c)).setCell ⟨b, 1, none⟩ (.string p)).setCell ⟨b, 2, none⟩ v) b c p v :=
  ⟨by simpa using h.1, by rw [set_ne _ _ _ _ _ _ (by omega), set_ne _ _ _ _ _ _ (by omega)]; exact set_eq _ _ _ _ h.2.1, by rw [set_ne _ _ _ _ _ _ (by omega)]; apply set_eq; rw [set_ne _ _ _ _ _ _ (by omega)]; exact h.2.2.1, by apply set_eq; rw [set_ne _ _ _ _ _ _ (by omega), set_ne _ _ _ _ _ _ (by omega)]; exact h.2.2.2.1⟩
theorem keep3 (W : World) (b c k : Nat) (x y z : Value) (h : b ≠ c) : (((W.setCell ⟨b, 0, none⟩ x).setCell ⟨b, 1, none⟩ y).setCell ⟨b, 2, none⟩ z).cell? ⟨c, k, none⟩ = W.cell? ⟨c, k, none⟩ := by
  rw [set_ne _ _ _ _ _ _ (by omega), set_ne _ _ _ _ _ _ (by omega), set_ne _ _ _ _ _ _ (by omega)]
theorem ext_three {w W : World} {b : Nat} (h : Ext w W) (hb : w.heap.size ≤ b) (x y z : Value) : Ext w (((W.setCell ⟨b, 0, none⟩ x).setCell ⟨b, 1, none⟩ y).setCell ⟨b, 2, none⟩ z) := ((h.setCell (p := ⟨b, 0, none⟩) hb _).setCell (p := ⟨b, 1, none⟩) hb _).setCell (p := ⟨b, 2, none⟩) hb _
theorem nslice_keep3 {W : World} {b g off cap n : Nat} {zs : List Zn} (h : NSlice W (.slice (some ⟨g, off, none⟩) n cap) zs) (hne : b ≠ g) (x y z : Value) : NSlice (((W.setCell ⟨b, 0, none⟩ x).setCell ⟨b, 1, none⟩ y).setCell ⟨b, 2, none⟩ z) (.slice (some ⟨g, off, none⟩) n cap) zs := by
  obtain ⟨a, cap', he, h2, h3, h4⟩ := h
  refine ⟨a, cap', he, h2, h3, fun h0 => ?_⟩
  obtain ⟨b', off', ha, hb, hN⟩ := h4 h0
  injection he with e1 e2 e3
  rw [← e1] at ha
  injection ha with ha
  injection ha with ha1 ha2 _
  subst ha1 ha2
  refine ⟨_, _, e1.symm, by simpa using hb, fun i q hq => ?_⟩
  obtain ⟨p0, p1, p2, p3, p4⟩ := hN i q hq
  exact ⟨(keep3 _ _ _ _ _ _ _ hne).trans p0, (keep3 _ _ _ _ _ _ _ hne).trans p1, (keep3 _ _ _ _ _ _ _ hne).trans p2, (keep3 _ _ _ _ _ _ _ hne).trans p3, (keep3 _ _ _ _ _ _ _ hne).trans p4⟩
end Go.Proofs.YtmiffefnpendoaaGreatDoor

/- laws.FnCreates, walked: it answers true at every code. -/
namespace Go.Proofs.YtmiffefnpendoaaGreatDoor
open Go.RowKit

set_option linter.unusedSimpArgs false in
set_option maxHeartbeats 40000000 in
set_option maxRecDepth 100000 in
theorem lawCreates (cv : Value) (w : World) (hg : Gd w) (hc : CodeOk w w.heap.size cv) :
    Calls Tryz.prog 3 #[cv] w fun e w' => e = .returned (.bool true) ∧ Ext w w' := by
  have hc' := hc
  obtain ⟨ad, len, cap0, rfl, hl, -⟩ := hc'
  have HC : Hid (CodeOk w w.heap.size (.slice ad len cap0)) := hc
  have HG : Hid (Gd w) := hg
  have hbig : decide (1048576 < len) = false := by simpa using hl
  have hB := lwBigC_any ad len cap0 w
  rw [hbig] at hB
  clear hc hbig hg
  go_enter Tryz.func3, Tryz.ntmps3
  go_wp2_with fail
  refine hB.mono ?_
  rintro e w0 ⟨rfl, hw⟩
  subst hw
  clear hB
  go_wp2_with fail
  refine (drawCreateZ_any _ _ HC.out).mono ?_
  rintro e w1 ⟨g, off, cap, zs, p, l, rfl, ⟨d, o, q, rfl⟩, hF, hO, hE⟩
  have hpos := hF.1
  have HS1 : Hid (NSlice w1 (.slice (some ⟨g, off, none⟩) zs.length cap) zs ∧ Ext w0 w1 ∧ Gd w1) := ⟨hO.slice, hE, HG.out.ext hE⟩
  clear hF hO hE HG
  have HIm : Hid (∀ W : World, Gd W → NSlice W (.slice (some ⟨g, off, none⟩) zs.length cap) zs → Calls Tryz.prog 8 #[(.slice (some ⟨g, off, none⟩) zs.length cap), .string p, .int .i64 d, .int .i64 o, .bool q] W (ZRet W (Tre.createV zs p d o q).1 (Tre.createV zs p d o q).2.1 (Tre.createV zs p d o q).2.2)) := fun W hg hS => implCreateZ_any _ zs p d o q W hg hS
  have HSp : Hid (∀ W : World, NSlice W (.slice (some ⟨g, off, none⟩) zs.length cap) zs → Calls Tryz.prog 9 #[(.slice (some ⟨g, off, none⟩) zs.length cap), .string p, .int .i64 d, .int .i64 o, .bool q] W (ZRet W (Tre.createV zs p d o q).1 (Tre.createV zs p d o q).2.1 (Tre.createV zs p d o q).2.2)) := fun W hS => specCreateZ_any _ zs p d o q W hS
  go_wp2_with fail
  refine (HIm.out _ HS1.out.2.2 HS1.out.1).mono ?_
  rintro e w2 ⟨v2, g2, rfl, hg2, hO2, hE2⟩
  have HS2 : Hid (NSlice w2 (.slice (some ⟨g, off, none⟩) zs.length cap) zs ∧ Ext w0 w2 ∧ Gd w2) := ⟨HS1.out.1.ext hE2, HS1.out.2.1.trans hE2, HS1.out.2.2.ext hE2⟩
  clear HS1
  have hfz : ∀ (c : Int) (t : ByteArray) (v : Value) (w : World), (Instr.field 28 (.agg #[.int .i64 c, .string t, v]) 0).run Tryz.prog w = .ok (.int .i64 c) w := fun _ _ _ _ => by kernel_rfl
  by_cases hc0 : (Tre.createV zs p d o q).1 = 0
  · obtain ⟨pa, es, hcr, hpf, hpt, hflt, hlen, hfew, hget, ⟨ks, ws, hks, hws, hkl, hwl⟩, hqp, hnone, hall⟩ := Tre.creates_all hc0
    rw [hcr] at hO2
    rw [hcr]
    clear hcr hc0 HIm HSp HC
    dsimp only at hO2
    obtain ⟨ad2, cap2, rfl⟩ := slice_ofC hO2
    have HS4 : Hid (NSlice (w2.alloc (.cells #[.int .i64 0, .string pa, (.slice ad2 es.length cap2)] 28)) (.slice (some ⟨g, off, none⟩) zs.length cap) zs ∧ NSlice (w2.alloc (.cells #[.int .i64 0, .string pa, (.slice ad2 es.length cap2)] 28)) (.slice ad2 es.length cap2) es ∧ BoxAt (w2.alloc (.cells #[.int .i64 0, .string pa, (.slice ad2 es.length cap2)] 28)) w2.heap.size 0 pa (.slice ad2 es.length cap2) ∧ Ext w0 (w2.alloc (.cells #[.int .i64 0, .string pa, (.slice ad2 es.length cap2)] 28)) ∧ Gd (w2.alloc (.cells #[.int .i64 0, .string pa, (.slice ad2 es.length cap2)] 28))) :=
      ⟨HS2.out.1.ext ((Ext.refl _).alloc _), hO2.slice.ext ((Ext.refl _).alloc _), box_new w2 _ _ _ _, HS2.out.2.1.alloc _, HS2.out.2.2.ext ((Ext.refl _).alloc _)⟩
    obtain ⟨zz, hzz⟩ : ∃ zz : Zn, zz = ⟨pa, d, 0, o, 0⟩ := ⟨_, rfl⟩
    have hzd : zz.data = d ∧ zz.owner = o := by rw [hzz]; exact ⟨rfl, rfl⟩
    rw [← hzz] at hget
    clear hzz
    have HGz : Hid (∀ W : World, Gd W → NSlice W (.slice ad2 es.length cap2) es → Calls Tryz.prog 10 #[(.slice ad2 es.length cap2), .string pa] W (ZRet W 0 ⟨#[]⟩ [zz])) := fun W hg hS => by have h := implGetZ_any _ es pa W hg hS; rw [hget] at h; exact h
    have HPa : Hid (∀ W : World, Gd W → Calls Tryz.prog 12 #[.string pa] W fun e w' => e = .returned (.agg #[.int .i64 0, .string (Tre.par pa)]) ∧ Ext W w') := fun W hg => by have h := parentOf_any pa W hg; rw [Tre.parentV_ok hpf hpt] at h; unfold tr at h; simp only [Tre.mkB_data] at h; exact h
    have HKs : Hid (∀ W : World, Gd W → NSlice W (.slice ad2 es.length cap2) es → Calls Tryz.prog 11 #[(.slice ad2 es.length cap2), .string (Tre.par pa)] W (KRet W ks.length)) := fun W hg hS => by have h := implKidsZ_any _ es (Tre.par pa) W hg hS; rw [hks] at h; exact h.mono (fun _ _ h => KRet.of h)
    have HWs : Hid (∀ W : World, Gd W → NSlice W (.slice (some ⟨g, off, none⟩) zs.length cap) zs → Calls Tryz.prog 11 #[(.slice (some ⟨g, off, none⟩) zs.length cap), .string (Tre.par pa)] W (KRet W ws.length)) := fun W hg hS => by have h := implKidsZ_any _ zs (Tre.par pa) W hg hS; rw [hws] at h; exact h.mono (fun _ _ h => KRet.of h)
    have HFt : Hid (∀ W : World, Gd W → NSlice W (.slice ad2 es.length cap2) es → Calls Tryz.prog 13 #[(.slice ad2 es.length cap2)] W fun e w' => e = .returned (.int .i64 0) ∧ Ext W w') := fun W hg hS => by have h := implTreeFault_any _ es W hg hS; rw [hflt] at h; exact h
    have HNo : Hid (∃ t ns, ∀ W : World, Gd W → NSlice W (.slice (some ⟨g, off, none⟩) zs.length cap) zs → Calls Tryz.prog 10 #[(.slice (some ⟨g, off, none⟩) zs.length cap), .string pa] W (ZRet W 4 t ns)) := ⟨_, _, fun W hg hS => by have h := implGetZ_any _ zs pa W hg hS; rw [hnone] at h; exact h⟩
    have HAll : Hid (∀ x ∈ zs, ∃ y : Zn, (∀ W : World, Gd W → NSlice W (.slice ad2 es.length cap2) es → Calls Tryz.prog 10 #[(.slice ad2 es.length cap2), .string x.path] W (ZRet W 0 ⟨#[]⟩ [y])) ∧ y.data = x.data ∧ y.version = x.version ∧ y.owner = x.owner) := fun x hx => by
      obtain ⟨y, hy, h1⟩ := hall x hx
      exact ⟨y, fun W hg hS => by have h := implGetZ_any _ es x.path W hg hS; rw [hy] at h; exact h, h1⟩
    have HQp : Hid (q = false → pa = p) := hqp
    have HLn : Hid (es.length = zs.length + 1 ∧ ks.length = ws.length + 1) := ⟨hlen, hkl⟩
    clear hlen hkl
    clear hO2 hE2 hg2 HS2 hflt hget hks hws hnone hall hqp hpf hpt
    unfold zr
    go_wp2_with fail
    refine (HGz.out _ HS4.out.2.2.2.2 HS4.out.2.1).mono ?_
    rintro e w3 ⟨v3, g3, rfl, hg3, hO3, hE3⟩
    obtain ⟨off3, cap3, rfl⟩ := one_of hO3
    have HT3 : Hid (CrA w0 (.slice (some ⟨g, off, none⟩) zs.length cap) (.slice ad2 es.length cap2) (.slice (some ⟨g3, off3, none⟩) 1 cap3) zs es zz pa w2.heap.size w3.heap.size (w3.alloc (.cells #[.int .i64 0, .string ⟨#[]⟩, (.slice (some ⟨g3, off3, none⟩) 1 cap3)] 28))) :=
      ⟨(HS4.out.2.2.2.1.trans hE3).alloc _, (HS4.out.2.2.2.2.ext hE3).ext ((Ext.refl _).alloc _), (HS4.out.1.ext hE3).ext ((Ext.refl _).alloc _), (HS4.out.2.1.ext hE3).ext ((Ext.refl _).alloc _), hO3.slice.ext ((Ext.refl _).alloc _), (HS4.out.2.2.1.ext hE3).ext ((Ext.refl _).alloc _), box_new w3 _ _ _ _⟩
    clear hO3 hE3 hg3 HS4 HGz
    unfold zr
    go_wp2
    have hz2 := HT3.out
    generalize (w3.alloc (.cells #[.int .i64 0, .string ⟨#[]⟩, (.slice (some ⟨g3, off3, none⟩) 1 cap3)] 28)) = w4 at *
    generalize w2.heap.size = br at *
    generalize w3.heap.size = bg at *
    clear hz2
    have hft1 : ∀ (c : Int) (t : ByteArray) (w : World), (Instr.field 36 (.agg #[.int .i64 c, .string t]) 1).run Tryz.prog w = .ok (.string t) w := fun _ _ _ => by kernel_rfl
    have y01 := HT3.out.2.2.2.2.2.1.2.2.1
    have y02 := HT3.out.2.2.2.2.2.1.2.2.2
    have yb0 := HT3.out.2.2.2.2.2.1.1
    refine Code.wp_mono (Q := OnlyZ fun a W => ∃ (bk : Nat) (ak : Option Addr) (ck : Nat), a = { tmps := #[Value.slice ad len cap0, undef, Value.bool false, Value.slice (some { block := g, off := off }) zs.length cap, Value.string p, Value.int IntKind.i64 d, Value.int IntKind.i64 o, Value.bool q, Value.pointer (some { block := br, off := 0 }), Value.pointer (some { block := bg, off := 0 }), .pointer (some ⟨bk, 0, none⟩), undef, undef, undef, Value.slice ad len cap0, Value.bool false, Value.tuple #[Value.slice (some { block := g, off := off }) zs.length cap, Value.string p, Value.int IntKind.i64 d, Value.int IntKind.i64 o, Value.bool q], Value.slice ad len cap0, Value.tuple #[Value.slice (some { block := g, off := off }) zs.length cap, Value.string p, Value.int IntKind.i64 d, Value.int IntKind.i64 o, Value.bool q], Value.slice (some { block := g, off := off }) zs.length cap, Value.string p, Value.int IntKind.i64 d, Value.int IntKind.i64 o, Value.bool q, Value.slice (some { block := g, off := off }) zs.length cap, Value.string p, Value.int IntKind.i64 d, Value.int IntKind.i64 o, Value.bool q, Value.agg #[Value.int IntKind.i64 0, Value.string pa, Value.slice ad2 es.length cap2], Value.pointer (some { block := br, off := 0 }), Value.int IntKind.i64 0, Value.bool false, undef, undef, undef, undef, undef, undef, undef, undef, undef, undef, Value.pointer (some { block := br, off := 2 }), Value.slice ad2 es.length cap2, Value.pointer (some { block := br, off := 1 }), Value.string pa, .agg #[.int .i64 0, .string ⟨#[]⟩, (.slice (some ⟨g3, off3, none⟩) 1 cap3)], .pointer (some ⟨br, 2, none⟩), (.slice ad2 es.length cap2), .pointer (some ⟨br, 1, none⟩), .string pa, .agg #[.int .i64 0, .string (Tre.par pa)], .string (Tre.par pa), .agg #[.int .i64 0, (.slice ak ks.length ck)], undef, undef, undef, undef, undef, undef, undef, undef, undef, undef, undef, undef, undef, undef, undef, undef, undef, undef, undef, undef, undef, undef, undef, undef, undef, undef, undef, undef, undef, undef, undef, undef, undef, undef, undef, undef, undef, undef, undef, undef, undef, undef, undef, undef, undef, undef, undef, undef, undef, undef, undef, undef, undef, undef, undef, undef, undef, undef, undef, undef, undef, undef, undef, undef, undef, undef, undef, undef, undef, undef, undef, undef, undef, undef, undef, undef, undef, undef, undef, undef, undef, undef, undef, undef, undef, undef, undef, undef, undef, undef, undef, undef, undef, undef, undef, undef, undef, undef, undef, undef, undef, undef, undef, undef, undef, undef, undef, undef, undef, undef, undef, undef, undef, undef, undef, undef, undef, undef, undef, undef, undef, undef, undef, undef, undef, undef, undef, undef, undef, undef, undef, undef, undef, undef, undef, undef, undef], defers := [] } ∧ CrA w0 (.slice (some ⟨g, off, none⟩) zs.length cap) (.slice ad2 es.length cap2) (.slice (some ⟨g3, off3, none⟩) 1 cap3) zs es zz pa br bg W ∧ XBoxAt W bk 0 (.slice ak ks.length ck)) ?_ ?_
    rotate_left
    · go_region_with (first
        | (go_at_call 12; refine (HPa.out _ ((by first | exact HT3.out | exact HT3.out.ext ((Ext.refl _).drew) | exact HT3.out.ext (((Ext.refl _).drew).alloc _) | exact HT3.out.ext ((Ext.refl _).alloc _) : CrA w0 (.slice (some ⟨g, off, none⟩) zs.length cap) (.slice ad2 es.length cap2) (.slice (some ⟨g3, off3, none⟩) 1 cap3) zs es zz pa br bg _)).2.1).mono ?_; rintro e x1 ⟨rfl, hb1⟩; have X1 : Hid (Ext w4 x1) := (by first | exact ((Ext.refl _).drew).trans hb1 | exact hb1 | exact (((Ext.refl _).drew).alloc _).trans hb1 | exact ((Ext.refl _).alloc _).trans hb1); (first | (have B1 : Hid (KBox x1 w4.heap.size) := (kbox_new w4.drew _ _ _).ext hb1) | (have B1 : Hid (KBox x1 w4.heap.size) := (kbox_new w4 _ _ _).ext hb1) | (have B1 := trivial)); clear hb1; have HX1 : Hid (CrA w0 (.slice (some ⟨g, off, none⟩) zs.length cap) (.slice ad2 es.length cap2) (.slice (some ⟨g3, off3, none⟩) 1 cap3) zs es zz pa br bg x1) := HT3.out.ext X1.out; have x1s := X1.out.size; have y1 := HX1.out.2.2.2.2.2.1.2.2.1; have y2 := HX1.out.2.2.2.2.2.1.2.2.2; have yb1 := HX1.out.2.2.2.2.2.1.1)
        | (go_at_call 11; refine (HKs.out _ ((by first | exact HX1.out | exact HX1.out.ext ((Ext.refl _).drew) | exact HX1.out.ext (((Ext.refl _).drew).alloc _) | exact HX1.out.ext ((Ext.refl _).alloc _) : CrA w0 (.slice (some ⟨g, off, none⟩) zs.length cap) (.slice ad2 es.length cap2) (.slice (some ⟨g3, off3, none⟩) 1 cap3) zs es zz pa br bg _)).2.1 ((by first | exact HX1.out | exact HX1.out.ext ((Ext.refl _).drew) | exact HX1.out.ext (((Ext.refl _).drew).alloc _) | exact HX1.out.ext ((Ext.refl _).alloc _) : CrA w0 (.slice (some ⟨g, off, none⟩) zs.length cap) (.slice ad2 es.length cap2) (.slice (some ⟨g3, off3, none⟩) 1 cap3) zs es zz pa br bg _)).2.2.2.1).mono ?_; rintro e x2 ⟨ak, ck, rfl, hb2⟩; have X2 : Hid (Ext x1 x2) := (by first | exact ((Ext.refl _).drew).trans hb2 | exact hb2 | exact (((Ext.refl _).drew).alloc _).trans hb2 | exact ((Ext.refl _).alloc _).trans hb2); (first | (have B2 : Hid (KBox x2 w4.heap.size) := B1.out.ext X2.out) | (have B2 : Hid (KBox x2 x1.heap.size) := (kbox_new x1.drew _ _ _).ext hb2) | (have B2 : Hid (KBox x2 x1.heap.size) := (kbox_new x1 _ _ _).ext hb2) | (have B2 := trivial)); clear hb2; have HX2 : Hid (CrA w0 (.slice (some ⟨g, off, none⟩) zs.length cap) (.slice ad2 es.length cap2) (.slice (some ⟨g3, off3, none⟩) 1 cap3) zs es zz pa br bg x2) := HX1.out.ext X2.out; have x2s := X2.out.size; have y3 := HX2.out.2.2.2.2.2.1.2.2.1; have y4 := HX2.out.2.2.2.2.2.1.2.2.2; have yb2 := HX2.out.2.2.2.2.2.1.1; (first | (obtain ⟨bl, ⟨bv0, b0⟩, ⟨bv1, b1⟩, bf0, bf1⟩ := B2.out) | skip)))
      all_goals
        have X4 : Hid (Ext w4 x2) := X1.out.trans X2.out
        first
          | exact ⟨w4.heap.size, ak, ck, rfl, HT3.out.ext (ext_two X4.out (Nat.le_refl _) _ _), KBox.put B2.out 0 _⟩
          | exact ⟨x2.heap.size, ak, ck, rfl, HX2.out.ext ((Ext.refl _).alloc _), xbox_new x2 0 _ _⟩
          | exact ⟨x1.heap.size, ak, ck, rfl, HT3.out.ext (ext_two X4.out x1s _ _), KBox.put B2.out 0 _⟩
    rintro e fr W8 hN
    obtain ⟨rfl, hN⟩ := hN.out
    obtain ⟨bk, ak, ck, rfl, hA8, hK8⟩ := hN
    have HT8 : Hid (CrA w0 (.slice (some ⟨g, off, none⟩) zs.length cap) (.slice ad2 es.length cap2) (.slice (some ⟨g3, off3, none⟩) 1 cap3) zs es zz pa br bg W8) := hA8
    have HK8 : Hid (XBoxAt W8 bk 0 (.slice ak ks.length ck)) := hK8
    clear hA8 hK8 HT3 y01 y02 yb0 HKs
    have y81 := HT8.out.2.2.2.2.2.1.2.2.1
    go_wp2_with fail
    refine (HPa.out _ HT8.out.2.1).mono ?_
    rintro e x3 ⟨rfl, hb3⟩
    have HT9 : Hid (CrA w0 (.slice (some ⟨g, off, none⟩) zs.length cap) (.slice ad2 es.length cap2) (.slice (some ⟨g3, off3, none⟩) 1 cap3) zs es zz pa br bg x3) := HT8.out.ext hb3
    have HK9 : Hid (XBoxAt x3 bk 0 (.slice ak ks.length ck)) := HK8.out.ext hb3
    clear hb3 HT8 HK8 y81 HPa
    go_wp2_with fail
    refine (HWs.out _ HT9.out.2.1 HT9.out.2.2.1).mono ?_
    rintro e x4 ⟨au, cu, rfl, hb4⟩
    have HTa : Hid (CrB w0 (.slice (some ⟨g, off, none⟩) zs.length cap) (.slice ad2 es.length cap2) (.slice (some ⟨g3, off3, none⟩) 1 cap3) (.slice ak ks.length ck) (.slice au ws.length cu) zs es zz pa br bg bk x4.heap.size (x4.alloc (.cells #[.int .i64 0, (.slice au ws.length cu)] 33))) := ⟨HT9.out.ext (hb4.alloc _), HK9.out.ext (hb4.alloc _), xbox_new x4 0 _ _⟩
    clear hb4 HT9 HK9 HWs
    go_wp2
    generalize (x4.alloc (.cells #[.int .i64 0, (.slice au ws.length cu)] 33)) = w5 at *
    generalize x4.heap.size = bu at *
    go_loopw [12] (fun iv wr => ∃ (i : Nat), i ≤ zs.length ∧ iv = .int .i64 i ∧ Hid (CrB w0 (.slice (some ⟨g, off, none⟩) zs.length cap) (.slice ad2 es.length cap2) (.slice (some ⟨g3, off3, none⟩) 1 cap3) (.slice ak ks.length ck) (.slice au ws.length cu) zs es zz pa br bg bk bu wr)) (fun iv _ => zs.length - (intOf iv).toNat)
    case atStart => exact ⟨0, by omega, rfl, HTa⟩
    case round =>
      obtain ⟨i, hi, rfl, HTr⟩ := hrel
      by_cases hlt : i < zs.length
      · obtain ⟨x, hxk⟩ : ∃ x, zs[i]? = some x := ⟨_, List.getElem?_eq_getElem hlt⟩
        obtain ⟨y, hYc, hyd, hyv, hyo⟩ := HAll.out x (List.mem_of_getElem? hxk)
        have HY : Hid _ := hYc
        have e1 : (y.data != x.data) = false := by rw [hyd]; simp
        have e2 : (y.version != x.version) = false := by rw [hyv]; simp
        have e3 : (y.owner != x.owner) = false := by rw [hyo]; simp
        clear hYc hyd hyv hyo HAll HTa
        have HXk : Hid (zs[i]? = some x) := hxk
        have s2 := HTr.out.cells.2.1
        obtain ⟨d0, -, -, -, -⟩ := (HTr.out.1.2.2.1.nodesC hpos).1 i x hxk
        have hbr : br < wr.heap.size := HTr.out.1.2.2.2.2.2.1.1
        have hgl : g < wr.heap.size := World.block_lt_of_cell? wr ⟨g, off + i * 5, none⟩ d0
        clear hxk
        go_wp2
        go_region_held3 (fun W => W.cell? ⟨br, 2, none⟩ = some (.slice ad2 es.length cap2) ∧ W.cell? ⟨g, off + i * 5, none⟩ = some (.string x.path)) (first | exact ⟨s2, d0⟩ | exact ⟨t2, t3⟩ | exact ⟨(keep3 _ _ _ _ _ _ _ (by omega)).trans t2, (keep3 _ _ _ _ _ _ _ (by omega)).trans t3⟩ | go_keep) (first | (go_at_call 10; refine (HY.out _ ((by first | exact HTr.out.ext ((Ext.refl _).drew) | exact HTr.out.ext (((Ext.refl _).drew).alloc _) | exact HTr.out.ext ((Ext.refl _).alloc _) | exact HTr.out : CrB w0 (.slice (some ⟨g, off, none⟩) zs.length cap) (.slice ad2 es.length cap2) (.slice (some ⟨g3, off3, none⟩) 1 cap3) (.slice ak ks.length ck) (.slice au ws.length cu) zs es zz pa br bg bk bu _)).1.2.1 ((by first | exact HTr.out.ext ((Ext.refl _).drew) | exact HTr.out.ext (((Ext.refl _).drew).alloc _) | exact HTr.out.ext ((Ext.refl _).alloc _) | exact HTr.out : CrB w0 (.slice (some ⟨g, off, none⟩) zs.length cap) (.slice ad2 es.length cap2) (.slice (some ⟨g3, off3, none⟩) 1 cap3) (.slice ak ks.length ck) (.slice au ws.length cu) zs es zz pa br bg bk bu _)).1.2.2.2.1).mono ?_; rintro e x9 ⟨v9, g9, rfl, hg9, hO9, hE9⟩; obtain ⟨off9, cap9, rfl⟩ := one_of hO9; have HO9 : Hid (NSlice x9 (.slice (some ⟨g9, off9, none⟩) 1 cap9) [y]) := hO9.slice; have HE9 : Hid (Ext wr x9) := (by first | exact ((Ext.refl _).drew).trans hE9 | exact (((Ext.refl _).drew).alloc _).trans hE9 | exact ((Ext.refl _).alloc _).trans hE9 | exact hE9); (first | (have B9 : Hid (ZBox x9 wr.heap.size) := (zbox_new wr.drew _ _ _ _).ext hE9) | (have B9 : Hid (ZBox x9 wr.heap.size) := (zbox_new wr _ _ _ _).ext hE9) | (have B9 := trivial)); have t2 := ((HTr.out.ext HE9.out).cells).2.1; have t3 : x9.cell? ⟨g, off + i * 5, none⟩ = some (.string x.path) := ((HTr.out.ext HE9.out).1.2.2.1.nodesC hpos).1 i x HXk.out |>.1; (first | (have HG9 : Hid (wr.heap.size ≠ g9) := (by have h := hg9; simp at h; show _ ≠ _; omega)) | (have HG9 := trivial)); clear hO9 hE9 hg9 HY; (first | (obtain ⟨bl, ⟨bv0, b0⟩, ⟨bv1, b1⟩, ⟨bv2, b2⟩, bf0, bf1, bf2⟩ := B9.out) | skip); unfold zr))
        all_goals
          first
            | (generalize hW9 : World.setCell (World.setCell (World.setCell x9 _ _) _ _) _ _ = W9
               have P9 : Hid (BoxAt W9 wr.heap.size 0 ⟨#[]⟩ (.slice (some ⟨g9, off9, none⟩) 1 cap9) ∧ NSlice W9 (.slice (some ⟨g9, off9, none⟩) 1 cap9) [y] ∧ Ext wr W9) := by
                 rw [← hW9]
                 exact ⟨ZBox.put B9.out 0 _ _, nslice_keep3 HO9.out HG9.out _ _ _, ext_three HE9.out (Nat.le_refl _) _ _ _⟩
               clear hW9
               generalize wr.heap.size = bo at *)
            | (have P9 : Hid (BoxAt (x9.alloc (.cells #[.int .i64 0, .string ⟨#[]⟩, (.slice (some ⟨g9, off9, none⟩) 1 cap9)] 28)) x9.heap.size 0 ⟨#[]⟩ (.slice (some ⟨g9, off9, none⟩) 1 cap9) ∧ NSlice (x9.alloc (.cells #[.int .i64 0, .string ⟨#[]⟩, (.slice (some ⟨g9, off9, none⟩) 1 cap9)] 28)) (.slice (some ⟨g9, off9, none⟩) 1 cap9) [y] ∧ Ext wr (x9.alloc (.cells #[.int .i64 0, .string ⟨#[]⟩, (.slice (some ⟨g9, off9, none⟩) 1 cap9)] 28))) := ⟨box_new x9 _ _ _ _, HO9.out.ext ((Ext.refl _).alloc _), HE9.out.alloc _⟩
               generalize (x9.alloc (.cells #[.int .i64 0, .string ⟨#[]⟩, (.slice (some ⟨g9, off9, none⟩) 1 cap9)] 28)) = W9 at *
               generalize x9.heap.size = bo at *)
          have HT9 : Hid (CrB w0 (.slice (some ⟨g, off, none⟩) zs.length cap) (.slice ad2 es.length cap2) (.slice (some ⟨g3, off3, none⟩) 1 cap3) (.slice ak ks.length ck) (.slice au ws.length cu) zs es zz pa br bg bk bu W9) := HTr.out.ext P9.out.2.2
          have HS14 : Hid ((fun W' : World => W'.cell? ⟨bo, 0, none⟩ = some (.int .i64 0) ∧ W'.cell? ⟨bo, 2, none⟩ = some (.slice (some ⟨g9, off9, none⟩) 1 cap9) ∧ W'.cell? ⟨g9, off9 + 1, none⟩ = some (.int .i64 y.data) ∧ W'.cell? ⟨g9, off9 + 2, none⟩ = some (.int .i64 y.version) ∧ W'.cell? ⟨g9, off9 + 3, none⟩ = some (.int .i64 y.owner) ∧ W'.cell? ⟨g, off + i * 5 + 1, none⟩ = some (.int .i64 x.data) ∧ W'.cell? ⟨g, off + i * 5 + 2, none⟩ = some (.int .i64 x.version) ∧ W'.cell? ⟨g, off + i * 5 + 3, none⟩ = some (.int .i64 x.owner)) W9.drew) := by
            have hB := P9.out.1.ext ((Ext.refl W9).drew)
            have hN := ((P9.out.2.1.ext ((Ext.refl W9).drew)).nodesC (by simp)).1 0 y rfl
            have hX := ((HT9.out.ext ((Ext.refl W9).drew)).1.2.2.1.nodesC hpos).1 i x HXk.out
            obtain ⟨-, u0, -, u2⟩ := hB
            obtain ⟨-, n1, n2, n3, -⟩ := hN
            obtain ⟨-, m1, m2, m3, -⟩ := hX
            rw [Nat.zero_mul, Nat.add_zero] at n1 n2 n3
            exact ⟨u0, u2, n1, n2, n3, m1, m2, m3⟩
          (try clear bl b0 b1 b2 bf0 bf1 bf2)
          (try clear bv0 bv1 bv2)
          (try clear HG9)
          clear t2 t3 s2 d0 hbr HO9 HE9 B9 P9 HTr
          go_wp2
          (try dsimp only [List.append])
          refine wp_region_held_drew (S := (fun W' : World => W'.cell? ⟨bo, 0, none⟩ = some (.int .i64 0) ∧ W'.cell? ⟨bo, 2, none⟩ = some (.slice (some ⟨g9, off9, none⟩) 1 cap9) ∧ W'.cell? ⟨g9, off9 + 1, none⟩ = some (.int .i64 y.data) ∧ W'.cell? ⟨g9, off9 + 2, none⟩ = some (.int .i64 y.version) ∧ W'.cell? ⟨g9, off9 + 3, none⟩ = some (.int .i64 y.owner) ∧ W'.cell? ⟨g, off + i * 5 + 1, none⟩ = some (.int .i64 x.data) ∧ W'.cell? ⟨g, off + i * 5 + 2, none⟩ = some (.int .i64 x.version) ∧ W'.cell? ⟨g, off + i * 5 + 3, none⟩ = some (.int .i64 x.owner))) (by kernel_rfl) HS14.out (fun hHeld => ?_)
          refine wpAnyH_take (i := 0) (oi := { dst := some 75, op := Op.fieldAddr 28 (Operand.tmp 13) 0, type := 0, pos := "laws.go:83", after := #[], guard := none }) (v := ?_) rfl (by kernel_rfl) (by kernel_rfl) (by kernel_rfl) (fun _ _ _ h => h) (Or.inl ⟨by rfl, ?_⟩) (by assumption) ?_
          rotate_left
          · intro w' hSw; (try dsimp only at hSw); go_simp; try with_reducible rfl
          (try simp only [Act.put, List.setIfInBounds_toArray, List.set_cons_zero, List.set_cons_succ])
          refine wpAnyH_take (i := 1) (oi := { dst := some 76, op := Op.load 2 (Operand.tmp 75), type := 2, pos := "laws.go:83", after := #[{ on := 0, ground := Ground.data }], guard := none }) (v := ?_) rfl (by kernel_rfl) (by kernel_rfl) (by kernel_rfl) (fun _ _ _ h => h) (Or.inl ⟨by rfl, ?_⟩) (by assumption) ?_
          rotate_left
          · intro w' hSw; (try dsimp only at hSw); go_simp; try with_reducible rfl
          (try simp only [Act.put, List.setIfInBounds_toArray, List.set_cons_zero, List.set_cons_succ])
          refine wpAnyH_take (i := 2) (oi := { dst := some 77, op := Op.binOp BinOp.neq 2 (Operand.tmp 76) (Operand.const (Value.int IntKind.i64 0)) 2, type := 4, pos := "laws.go:83", after := #[{ on := 1, ground := Ground.data }], guard := none }) (v := ?_) rfl (by kernel_rfl) (by kernel_rfl) (by kernel_rfl) (fun _ _ _ h => h) (Or.inl ⟨by rfl, ?_⟩) (by assumption) ?_
          rotate_left
          · intro w' hSw; (try dsimp only at hSw); go_simp; try with_reducible rfl
          (try simp only [Act.put, List.setIfInBounds_toArray, List.set_cons_zero, List.set_cons_succ])
          refine wpAnyH_take (i := 3) (oi := { dst := some 78, op := Op.move (Operand.tmp 77), type := 4, pos := "laws.go:83", after := #[{ on := 2, ground := Ground.data }], guard := none }) (v := ?_) rfl (by kernel_rfl) (by kernel_rfl) (by kernel_rfl) (fun _ _ _ h => h) (Or.inl ⟨by rfl, ?_⟩) (by assumption) ?_
          rotate_left
          · intro w' hSw; (try dsimp only at hSw); go_simp; try with_reducible rfl
          (try simp only [Act.put, List.setIfInBounds_toArray, List.set_cons_zero, List.set_cons_succ])
          refine wpAnyH_take (i := 4) (oi := { dst := some 79, op := Op.fieldAddr 28 (Operand.tmp 13) 2, type := 0, pos := "laws.go:83", after := #[{ on := 3, ground := Ground.guard }], guard := some (3, false) }) (v := ?_) rfl (by kernel_rfl) (by kernel_rfl) (by kernel_rfl) (fun _ _ _ h => h) (Or.inl ⟨by rfl, ?_⟩) (by assumption) ?_
          rotate_left
          · intro w' hSw; (try dsimp only at hSw); go_simp; try with_reducible rfl
          (try simp only [Act.put, List.setIfInBounds_toArray, List.set_cons_zero, List.set_cons_succ])
          refine wpAnyH_take (i := 5) (oi := { dst := some 80, op := Op.load 24 (Operand.tmp 79), type := 24, pos := "laws.go:83", after := #[{ on := 4, ground := Ground.data }, { on := 3, ground := Ground.guard }], guard := some (3, false) }) (v := ?_) rfl (by kernel_rfl) (by kernel_rfl) (by kernel_rfl) (fun _ _ _ h => h) (Or.inl ⟨by rfl, ?_⟩) (by assumption) ?_
          rotate_left
          · intro w' hSw; (try dsimp only at hSw); go_simp; try with_reducible rfl
          (try simp only [Act.put, List.setIfInBounds_toArray, List.set_cons_zero, List.set_cons_succ])
          refine wpAnyH_take (i := 6) (oi := { dst := some 81, op := Op.call { callee := Callee.builtin Builtin.len, args := #[Operand.tmp 80], argTypes := #[24] }, type := 3, pos := "laws.go:83", after := #[{ on := 5, ground := Ground.data }, { on := 3, ground := Ground.guard }], guard := some (3, false) }) (v := ?_) rfl (by kernel_rfl) (by kernel_rfl) (by kernel_rfl) (fun _ _ _ h => h) (Or.inl ⟨by rfl, ?_⟩) (by assumption) ?_
          rotate_left
          · intro w' hSw; (try dsimp only at hSw); go_simp; try with_reducible rfl
          (try simp only [Act.put, List.setIfInBounds_toArray, List.set_cons_zero, List.set_cons_succ])
          refine wpAnyH_take (i := 7) (oi := { dst := some 82, op := Op.binOp BinOp.neq 3 (Operand.tmp 81) (Operand.const (Value.int IntKind.i64 1)) 3, type := 4, pos := "laws.go:83", after := #[{ on := 6, ground := Ground.data }, { on := 3, ground := Ground.guard }], guard := some (3, false) }) (v := ?_) rfl (by kernel_rfl) (by kernel_rfl) (by kernel_rfl) (fun _ _ _ h => h) (Or.inl ⟨by rfl, ?_⟩) (by assumption) ?_
          rotate_left
          · intro w' hSw; (try dsimp only at hSw); go_simp; try with_reducible rfl
          (try simp only [Act.put, List.setIfInBounds_toArray, List.set_cons_zero, List.set_cons_succ])
          refine wpAnyH_take (i := 8) (oi := { dst := some 83, op := Op.pick (Operand.tmp 78) (Operand.const (Value.bool true)) (Operand.tmp 82), type := 4, pos := "laws.go:83", after := #[{ on := 3, ground := Ground.data }, { on := 7, ground := Ground.data }], guard := none }) (v := ?_) rfl (by kernel_rfl) (by kernel_rfl) (by kernel_rfl) (fun _ _ _ h => h) (Or.inl ⟨by rfl, ?_⟩) (by assumption) ?_
          rotate_left
          · intro w' hSw; (try dsimp only at hSw); go_simp; try with_reducible rfl
          (try simp only [Act.put, List.setIfInBounds_toArray, List.set_cons_zero, List.set_cons_succ])
          refine wpAnyH_take (i := 9) (oi := { dst := some 84, op := Op.move (Operand.tmp 83), type := 4, pos := "laws.go:83", after := #[{ on := 8, ground := Ground.data }, { on := 3, ground := Ground.chain }], guard := none }) (v := ?_) rfl (by kernel_rfl) (by kernel_rfl) (by kernel_rfl) (fun _ _ _ h => h) (Or.inl ⟨by rfl, ?_⟩) (by assumption) ?_
          rotate_left
          · intro w' hSw; (try dsimp only at hSw); go_simp; try with_reducible rfl
          (try simp only [Act.put, List.setIfInBounds_toArray, List.set_cons_zero, List.set_cons_succ])
          refine wpAnyH_take (i := 10) (oi := { dst := some 85, op := Op.fieldAddr 28 (Operand.tmp 13) 2, type := 0, pos := "laws.go:83", after := #[{ on := 9, ground := Ground.guard }], guard := some (9, false) }) (v := ?_) rfl (by kernel_rfl) (by kernel_rfl) (by kernel_rfl) (fun _ _ _ h => h) (Or.inl ⟨by rfl, ?_⟩) (by assumption) ?_
          rotate_left
          · intro w' hSw; (try dsimp only at hSw); go_simp; try with_reducible rfl
          (try simp only [Act.put, List.setIfInBounds_toArray, List.set_cons_zero, List.set_cons_succ])
          refine wpAnyH_take (i := 11) (oi := { dst := some 86, op := Op.load 24 (Operand.tmp 85), type := 24, pos := "laws.go:83", after := #[{ on := 10, ground := Ground.data }, { on := 9, ground := Ground.guard }], guard := some (9, false) }) (v := ?_) rfl (by kernel_rfl) (by kernel_rfl) (by kernel_rfl) (fun _ _ _ h => h) (Or.inl ⟨by rfl, ?_⟩) (by assumption) ?_
          rotate_left
          · intro w' hSw; (try dsimp only at hSw); go_simp; try with_reducible rfl
          (try simp only [Act.put, List.setIfInBounds_toArray, List.set_cons_zero, List.set_cons_succ])
          refine wpAnyH_take (i := 12) (oi := { dst := some 87, op := Op.indexAddr 24 (Operand.tmp 86) (Operand.const (Value.int IntKind.i64 0)), type := 0, pos := "laws.go:83", after := #[{ on := 11, ground := Ground.data }, { on := 9, ground := Ground.guard }], guard := some (9, false) }) (v := ?_) rfl (by kernel_rfl) (by kernel_rfl) (by kernel_rfl) (fun _ _ _ h => h) (Or.inl ⟨by rfl, ?_⟩) (by assumption) ?_
          rotate_left
          · intro w' hSw; (try dsimp only at hSw); go_simp; try with_reducible rfl
          (try simp only [Act.put, List.setIfInBounds_toArray, List.set_cons_zero, List.set_cons_succ])
          refine wpAnyH_take (i := 13) (oi := { dst := some 88, op := Op.fieldAddr 39 (Operand.tmp 87) 1, type := 0, pos := "laws.go:83", after := #[{ on := 12, ground := Ground.data }, { on := 9, ground := Ground.guard }], guard := some (9, false) }) (v := ?_) rfl (by kernel_rfl) (by kernel_rfl) (by kernel_rfl) (fun _ _ _ h => h) (Or.inl ⟨by rfl, ?_⟩) (by assumption) ?_
          rotate_left
          · intro w' hSw; (try dsimp only at hSw); go_simp; try with_reducible rfl
          (try simp only [Act.put, List.setIfInBounds_toArray, List.set_cons_zero, List.set_cons_succ])
          refine wpAnyH_take (i := 14) (oi := { dst := some 89, op := Op.load 2 (Operand.tmp 88), type := 2, pos := "laws.go:83", after := #[{ on := 13, ground := Ground.data }, { on := 9, ground := Ground.guard }], guard := some (9, false) }) (v := ?_) rfl (by kernel_rfl) (by kernel_rfl) (by kernel_rfl) (fun _ _ _ h => h) (Or.inl ⟨by rfl, ?_⟩) (by assumption) ?_
          rotate_left
          · intro w' hSw; (try dsimp only at hSw); go_simp; try with_reducible rfl
          (try simp only [Act.put, List.setIfInBounds_toArray, List.set_cons_zero, List.set_cons_succ])
          refine wpAnyH_take (i := 15) (oi := { dst := some 90, op := Op.move (Operand.tmp 3), type := 24, pos := "laws.go:83", after := #[{ on := 9, ground := Ground.guard }], guard := some (9, false) }) (v := ?_) rfl (by kernel_rfl) (by kernel_rfl) (by kernel_rfl) (fun _ _ _ h => h) (Or.inl ⟨by rfl, ?_⟩) (by assumption) ?_
          rotate_left
          · intro w' hSw; (try dsimp only at hSw); go_simp; try with_reducible rfl
          (try simp only [Act.put, List.setIfInBounds_toArray, List.set_cons_zero, List.set_cons_succ])
          refine wpAnyH_take (i := 16) (oi := { dst := some 91, op := Op.move (Operand.tmp 12), type := 3, pos := "laws.go:83", after := #[{ on := 9, ground := Ground.guard }], guard := some (9, false) }) (v := ?_) rfl (by kernel_rfl) (by kernel_rfl) (by kernel_rfl) (fun _ _ _ h => h) (Or.inl ⟨by rfl, ?_⟩) (by assumption) ?_
          rotate_left
          · intro w' hSw; (try dsimp only at hSw); go_simp; try with_reducible rfl
          (try simp only [Act.put, List.setIfInBounds_toArray, List.set_cons_zero, List.set_cons_succ])
          refine wpAnyH_take (i := 17) (oi := { dst := some 92, op := Op.indexAddr 24 (Operand.tmp 90) (Operand.tmp 91), type := 0, pos := "laws.go:83", after := #[{ on := 15, ground := Ground.data }, { on := 16, ground := Ground.data }, { on := 9, ground := Ground.guard }], guard := some (9, false) }) (v := ?_) rfl (by kernel_rfl) (by kernel_rfl) (by kernel_rfl) (fun _ _ _ h => h) (Or.inl ⟨by rfl, ?_⟩) (by assumption) ?_
          rotate_left
          · intro w' hSw; (try dsimp only at hSw); go_simp; try with_reducible rfl
          (try simp only [Act.put, List.setIfInBounds_toArray, List.set_cons_zero, List.set_cons_succ])
          refine wpAnyH_take (i := 18) (oi := { dst := some 93, op := Op.fieldAddr 39 (Operand.tmp 92) 1, type := 0, pos := "laws.go:83", after := #[{ on := 17, ground := Ground.data }, { on := 9, ground := Ground.guard }], guard := some (9, false) }) (v := ?_) rfl (by kernel_rfl) (by kernel_rfl) (by kernel_rfl) (fun _ _ _ h => h) (Or.inl ⟨by rfl, ?_⟩) (by assumption) ?_
          rotate_left
          · intro w' hSw; (try dsimp only at hSw); go_simp; try with_reducible rfl
          (try simp only [Act.put, List.setIfInBounds_toArray, List.set_cons_zero, List.set_cons_succ])
          refine wpAnyH_take (i := 19) (oi := { dst := some 94, op := Op.load 2 (Operand.tmp 93), type := 2, pos := "laws.go:83", after := #[{ on := 18, ground := Ground.data }, { on := 9, ground := Ground.guard }], guard := some (9, false) }) (v := ?_) rfl (by kernel_rfl) (by kernel_rfl) (by kernel_rfl) (fun _ _ _ h => h) (Or.inl ⟨by rfl, ?_⟩) (by assumption) ?_
          rotate_left
          · intro w' hSw; (try dsimp only at hSw); go_simp; try with_reducible rfl
          (try simp only [Act.put, List.setIfInBounds_toArray, List.set_cons_zero, List.set_cons_succ])
          refine wpAnyH_take (i := 20) (oi := { dst := some 95, op := Op.binOp BinOp.neq 2 (Operand.tmp 89) (Operand.tmp 94) 2, type := 4, pos := "laws.go:83", after := #[{ on := 14, ground := Ground.data }, { on := 19, ground := Ground.data }, { on := 9, ground := Ground.guard }], guard := some (9, false) }) (v := ?_) rfl (by kernel_rfl) (by kernel_rfl) (by kernel_rfl) (fun _ _ _ h => h) (Or.inl ⟨by rfl, ?_⟩) (by assumption) ?_
          rotate_left
          · intro w' hSw; (try dsimp only at hSw); go_simp; try with_reducible rfl
          (try simp only [Act.put, List.setIfInBounds_toArray, List.set_cons_zero, List.set_cons_succ])
          refine wpAnyH_take (i := 21) (oi := { dst := some 96, op := Op.pick (Operand.tmp 84) (Operand.const (Value.bool true)) (Operand.tmp 95), type := 4, pos := "laws.go:83", after := #[{ on := 9, ground := Ground.data }, { on := 20, ground := Ground.data }], guard := none }) (v := ?_) rfl (by kernel_rfl) (by kernel_rfl) (by kernel_rfl) (fun _ _ _ h => h) (Or.inl ⟨by rfl, ?_⟩) (by assumption) ?_
          rotate_left
          · intro w' hSw; (try dsimp only at hSw); go_simp; try with_reducible rfl
          (try simp only [Act.put, List.setIfInBounds_toArray, List.set_cons_zero, List.set_cons_succ])
          refine wpAnyH_take (i := 22) (oi := { dst := some 97, op := Op.move (Operand.tmp 96), type := 4, pos := "laws.go:83", after := #[{ on := 21, ground := Ground.data }, { on := 9, ground := Ground.chain }], guard := none }) (v := ?_) rfl (by kernel_rfl) (by kernel_rfl) (by kernel_rfl) (fun _ _ _ h => h) (Or.inl ⟨by rfl, ?_⟩) (by assumption) ?_
          rotate_left
          · intro w' hSw; (try dsimp only at hSw); go_simp; try with_reducible rfl
          (try simp only [Act.put, List.setIfInBounds_toArray, List.set_cons_zero, List.set_cons_succ])
          refine wpAnyH_take (i := 23) (oi := { dst := some 98, op := Op.fieldAddr 28 (Operand.tmp 13) 2, type := 0, pos := "laws.go:83", after := #[{ on := 22, ground := Ground.guard }], guard := some (22, false) }) (v := ?_) rfl (by kernel_rfl) (by kernel_rfl) (by kernel_rfl) (fun _ _ _ h => h) (Or.inl ⟨by rfl, ?_⟩) (by assumption) ?_
          rotate_left
          · intro w' hSw; (try dsimp only at hSw); go_simp; try with_reducible rfl
          (try simp only [Act.put, List.setIfInBounds_toArray, List.set_cons_zero, List.set_cons_succ])
          refine wpAnyH_take (i := 24) (oi := { dst := some 99, op := Op.load 24 (Operand.tmp 98), type := 24, pos := "laws.go:83", after := #[{ on := 23, ground := Ground.data }, { on := 22, ground := Ground.guard }], guard := some (22, false) }) (v := ?_) rfl (by kernel_rfl) (by kernel_rfl) (by kernel_rfl) (fun _ _ _ h => h) (Or.inl ⟨by rfl, ?_⟩) (by assumption) ?_
          rotate_left
          · intro w' hSw; (try dsimp only at hSw); go_simp; try with_reducible rfl
          (try simp only [Act.put, List.setIfInBounds_toArray, List.set_cons_zero, List.set_cons_succ])
          refine wpAnyH_take (i := 25) (oi := { dst := some 100, op := Op.indexAddr 24 (Operand.tmp 99) (Operand.const (Value.int IntKind.i64 0)), type := 0, pos := "laws.go:83", after := #[{ on := 24, ground := Ground.data }, { on := 22, ground := Ground.guard }], guard := some (22, false) }) (v := ?_) rfl (by kernel_rfl) (by kernel_rfl) (by kernel_rfl) (fun _ _ _ h => h) (Or.inl ⟨by rfl, ?_⟩) (by assumption) ?_
          rotate_left
          · intro w' hSw; (try dsimp only at hSw); go_simp; try with_reducible rfl
          (try simp only [Act.put, List.setIfInBounds_toArray, List.set_cons_zero, List.set_cons_succ])
          refine wpAnyH_take (i := 26) (oi := { dst := some 101, op := Op.fieldAddr 39 (Operand.tmp 100) 2, type := 0, pos := "laws.go:83", after := #[{ on := 25, ground := Ground.data }, { on := 22, ground := Ground.guard }], guard := some (22, false) }) (v := ?_) rfl (by kernel_rfl) (by kernel_rfl) (by kernel_rfl) (fun _ _ _ h => h) (Or.inl ⟨by rfl, ?_⟩) (by assumption) ?_
          rotate_left
          · intro w' hSw; (try dsimp only at hSw); go_simp; try with_reducible rfl
          (try simp only [Act.put, List.setIfInBounds_toArray, List.set_cons_zero, List.set_cons_succ])
          refine wpAnyH_take (i := 27) (oi := { dst := some 102, op := Op.load 2 (Operand.tmp 101), type := 2, pos := "laws.go:83", after := #[{ on := 26, ground := Ground.data }, { on := 22, ground := Ground.guard }], guard := some (22, false) }) (v := ?_) rfl (by kernel_rfl) (by kernel_rfl) (by kernel_rfl) (fun _ _ _ h => h) (Or.inl ⟨by rfl, ?_⟩) (by assumption) ?_
          rotate_left
          · intro w' hSw; (try dsimp only at hSw); go_simp; try with_reducible rfl
          (try simp only [Act.put, List.setIfInBounds_toArray, List.set_cons_zero, List.set_cons_succ])
          refine wpAnyH_take (i := 28) (oi := { dst := some 103, op := Op.move (Operand.tmp 3), type := 24, pos := "laws.go:83", after := #[{ on := 22, ground := Ground.guard }], guard := some (22, false) }) (v := ?_) rfl (by kernel_rfl) (by kernel_rfl) (by kernel_rfl) (fun _ _ _ h => h) (Or.inl ⟨by rfl, ?_⟩) (by assumption) ?_
          rotate_left
          · intro w' hSw; (try dsimp only at hSw); go_simp; try with_reducible rfl
          (try simp only [Act.put, List.setIfInBounds_toArray, List.set_cons_zero, List.set_cons_succ])
          refine wpAnyH_take (i := 29) (oi := { dst := some 104, op := Op.move (Operand.tmp 12), type := 3, pos := "laws.go:83", after := #[{ on := 22, ground := Ground.guard }], guard := some (22, false) }) (v := ?_) rfl (by kernel_rfl) (by kernel_rfl) (by kernel_rfl) (fun _ _ _ h => h) (Or.inl ⟨by rfl, ?_⟩) (by assumption) ?_
          rotate_left
          · intro w' hSw; (try dsimp only at hSw); go_simp; try with_reducible rfl
          (try simp only [Act.put, List.setIfInBounds_toArray, List.set_cons_zero, List.set_cons_succ])
          refine wpAnyH_take (i := 30) (oi := { dst := some 105, op := Op.indexAddr 24 (Operand.tmp 103) (Operand.tmp 104), type := 0, pos := "laws.go:83", after := #[{ on := 28, ground := Ground.data }, { on := 29, ground := Ground.data }, { on := 22, ground := Ground.guard }], guard := some (22, false) }) (v := ?_) rfl (by kernel_rfl) (by kernel_rfl) (by kernel_rfl) (fun _ _ _ h => h) (Or.inl ⟨by rfl, ?_⟩) (by assumption) ?_
          rotate_left
          · intro w' hSw; (try dsimp only at hSw); go_simp; try with_reducible rfl
          (try simp only [Act.put, List.setIfInBounds_toArray, List.set_cons_zero, List.set_cons_succ])
          refine wpAnyH_take (i := 31) (oi := { dst := some 106, op := Op.fieldAddr 39 (Operand.tmp 105) 2, type := 0, pos := "laws.go:83", after := #[{ on := 30, ground := Ground.data }, { on := 22, ground := Ground.guard }], guard := some (22, false) }) (v := ?_) rfl (by kernel_rfl) (by kernel_rfl) (by kernel_rfl) (fun _ _ _ h => h) (Or.inl ⟨by rfl, ?_⟩) (by assumption) ?_
          rotate_left
          · intro w' hSw; (try dsimp only at hSw); go_simp; try with_reducible rfl
          (try simp only [Act.put, List.setIfInBounds_toArray, List.set_cons_zero, List.set_cons_succ])
          refine wpAnyH_take (i := 32) (oi := { dst := some 107, op := Op.load 2 (Operand.tmp 106), type := 2, pos := "laws.go:83", after := #[{ on := 31, ground := Ground.data }, { on := 22, ground := Ground.guard }], guard := some (22, false) }) (v := ?_) rfl (by kernel_rfl) (by kernel_rfl) (by kernel_rfl) (fun _ _ _ h => h) (Or.inl ⟨by rfl, ?_⟩) (by assumption) ?_
          rotate_left
          · intro w' hSw; (try dsimp only at hSw); go_simp; try with_reducible rfl
          (try simp only [Act.put, List.setIfInBounds_toArray, List.set_cons_zero, List.set_cons_succ])
          refine wpAnyH_take (i := 33) (oi := { dst := some 108, op := Op.binOp BinOp.neq 2 (Operand.tmp 102) (Operand.tmp 107) 2, type := 4, pos := "laws.go:83", after := #[{ on := 27, ground := Ground.data }, { on := 32, ground := Ground.data }, { on := 22, ground := Ground.guard }], guard := some (22, false) }) (v := ?_) rfl (by kernel_rfl) (by kernel_rfl) (by kernel_rfl) (fun _ _ _ h => h) (Or.inl ⟨by rfl, ?_⟩) (by assumption) ?_
          rotate_left
          · intro w' hSw; (try dsimp only at hSw); go_simp; try with_reducible rfl
          (try simp only [Act.put, List.setIfInBounds_toArray, List.set_cons_zero, List.set_cons_succ])
          refine wpAnyH_take (i := 34) (oi := { dst := some 109, op := Op.pick (Operand.tmp 97) (Operand.const (Value.bool true)) (Operand.tmp 108), type := 4, pos := "laws.go:83", after := #[{ on := 22, ground := Ground.data }, { on := 33, ground := Ground.data }], guard := none }) (v := ?_) rfl (by kernel_rfl) (by kernel_rfl) (by kernel_rfl) (fun _ _ _ h => h) (Or.inl ⟨by rfl, ?_⟩) (by assumption) ?_
          rotate_left
          · intro w' hSw; (try dsimp only at hSw); go_simp; try with_reducible rfl
          (try simp only [Act.put, List.setIfInBounds_toArray, List.set_cons_zero, List.set_cons_succ])
          refine wpAnyH_take (i := 35) (oi := { dst := some 110, op := Op.move (Operand.tmp 109), type := 4, pos := "laws.go:83", after := #[{ on := 34, ground := Ground.data }, { on := 22, ground := Ground.chain }], guard := none }) (v := ?_) rfl (by kernel_rfl) (by kernel_rfl) (by kernel_rfl) (fun _ _ _ h => h) (Or.inl ⟨by rfl, ?_⟩) (by assumption) ?_
          rotate_left
          · intro w' hSw; (try dsimp only at hSw); go_simp; try with_reducible rfl
          (try simp only [Act.put, List.setIfInBounds_toArray, List.set_cons_zero, List.set_cons_succ])
          refine wpAnyH_take (i := 36) (oi := { dst := some 111, op := Op.fieldAddr 28 (Operand.tmp 13) 2, type := 0, pos := "laws.go:83", after := #[{ on := 35, ground := Ground.guard }], guard := some (35, false) }) (v := ?_) rfl (by kernel_rfl) (by kernel_rfl) (by kernel_rfl) (fun _ _ _ h => h) (Or.inl ⟨by rfl, ?_⟩) (by assumption) ?_
          rotate_left
          · intro w' hSw; (try dsimp only at hSw); go_simp; try with_reducible rfl
          (try simp only [Act.put, List.setIfInBounds_toArray, List.set_cons_zero, List.set_cons_succ])
          refine wpAnyH_take (i := 37) (oi := { dst := some 112, op := Op.load 24 (Operand.tmp 111), type := 24, pos := "laws.go:83", after := #[{ on := 36, ground := Ground.data }, { on := 35, ground := Ground.guard }], guard := some (35, false) }) (v := ?_) rfl (by kernel_rfl) (by kernel_rfl) (by kernel_rfl) (fun _ _ _ h => h) (Or.inl ⟨by rfl, ?_⟩) (by assumption) ?_
          rotate_left
          · intro w' hSw; (try dsimp only at hSw); go_simp; try with_reducible rfl
          (try simp only [Act.put, List.setIfInBounds_toArray, List.set_cons_zero, List.set_cons_succ])
          refine wpAnyH_take (i := 38) (oi := { dst := some 113, op := Op.indexAddr 24 (Operand.tmp 112) (Operand.const (Value.int IntKind.i64 0)), type := 0, pos := "laws.go:83", after := #[{ on := 37, ground := Ground.data }, { on := 35, ground := Ground.guard }], guard := some (35, false) }) (v := ?_) rfl (by kernel_rfl) (by kernel_rfl) (by kernel_rfl) (fun _ _ _ h => h) (Or.inl ⟨by rfl, ?_⟩) (by assumption) ?_
          rotate_left
          · intro w' hSw; (try dsimp only at hSw); go_simp; try with_reducible rfl
          (try simp only [Act.put, List.setIfInBounds_toArray, List.set_cons_zero, List.set_cons_succ])
          refine wpAnyH_take (i := 39) (oi := { dst := some 114, op := Op.fieldAddr 39 (Operand.tmp 113) 3, type := 0, pos := "laws.go:83", after := #[{ on := 38, ground := Ground.data }, { on := 35, ground := Ground.guard }], guard := some (35, false) }) (v := ?_) rfl (by kernel_rfl) (by kernel_rfl) (by kernel_rfl) (fun _ _ _ h => h) (Or.inl ⟨by rfl, ?_⟩) (by assumption) ?_
          rotate_left
          · intro w' hSw; (try dsimp only at hSw); go_simp; try with_reducible rfl
          (try simp only [Act.put, List.setIfInBounds_toArray, List.set_cons_zero, List.set_cons_succ])
          refine wpAnyH_take (i := 40) (oi := { dst := some 115, op := Op.load 2 (Operand.tmp 114), type := 2, pos := "laws.go:83", after := #[{ on := 39, ground := Ground.data }, { on := 35, ground := Ground.guard }], guard := some (35, false) }) (v := ?_) rfl (by kernel_rfl) (by kernel_rfl) (by kernel_rfl) (fun _ _ _ h => h) (Or.inl ⟨by rfl, ?_⟩) (by assumption) ?_
          rotate_left
          · intro w' hSw; (try dsimp only at hSw); go_simp; try with_reducible rfl
          (try simp only [Act.put, List.setIfInBounds_toArray, List.set_cons_zero, List.set_cons_succ])
          refine wpAnyH_take (i := 41) (oi := { dst := some 116, op := Op.move (Operand.tmp 3), type := 24, pos := "laws.go:83", after := #[{ on := 35, ground := Ground.guard }], guard := some (35, false) }) (v := ?_) rfl (by kernel_rfl) (by kernel_rfl) (by kernel_rfl) (fun _ _ _ h => h) (Or.inl ⟨by rfl, ?_⟩) (by assumption) ?_
          rotate_left
          · intro w' hSw; (try dsimp only at hSw); go_simp; try with_reducible rfl
          (try simp only [Act.put, List.setIfInBounds_toArray, List.set_cons_zero, List.set_cons_succ])
          refine wpAnyH_take (i := 42) (oi := { dst := some 117, op := Op.move (Operand.tmp 12), type := 3, pos := "laws.go:83", after := #[{ on := 35, ground := Ground.guard }], guard := some (35, false) }) (v := ?_) rfl (by kernel_rfl) (by kernel_rfl) (by kernel_rfl) (fun _ _ _ h => h) (Or.inl ⟨by rfl, ?_⟩) (by assumption) ?_
          rotate_left
          · intro w' hSw; (try dsimp only at hSw); go_simp; try with_reducible rfl
          (try simp only [Act.put, List.setIfInBounds_toArray, List.set_cons_zero, List.set_cons_succ])
          refine wpAnyH_take (i := 43) (oi := { dst := some 118, op := Op.indexAddr 24 (Operand.tmp 116) (Operand.tmp 117), type := 0, pos := "laws.go:83", after := #[{ on := 41, ground := Ground.data }, { on := 42, ground := Ground.data }, { on := 35, ground := Ground.guard }], guard := some (35, false) }) (v := ?_) rfl (by kernel_rfl) (by kernel_rfl) (by kernel_rfl) (fun _ _ _ h => h) (Or.inl ⟨by rfl, ?_⟩) (by assumption) ?_
          rotate_left
          · intro w' hSw; (try dsimp only at hSw); go_simp; try with_reducible rfl
          (try simp only [Act.put, List.setIfInBounds_toArray, List.set_cons_zero, List.set_cons_succ])
          refine wpAnyH_take (i := 44) (oi := { dst := some 119, op := Op.fieldAddr 39 (Operand.tmp 118) 3, type := 0, pos := "laws.go:83", after := #[{ on := 43, ground := Ground.data }, { on := 35, ground := Ground.guard }], guard := some (35, false) }) (v := ?_) rfl (by kernel_rfl) (by kernel_rfl) (by kernel_rfl) (fun _ _ _ h => h) (Or.inl ⟨by rfl, ?_⟩) (by assumption) ?_
          rotate_left
          · intro w' hSw; (try dsimp only at hSw); go_simp; try with_reducible rfl
          (try simp only [Act.put, List.setIfInBounds_toArray, List.set_cons_zero, List.set_cons_succ])
          refine wpAnyH_take (i := 45) (oi := { dst := some 120, op := Op.load 2 (Operand.tmp 119), type := 2, pos := "laws.go:83", after := #[{ on := 44, ground := Ground.data }, { on := 35, ground := Ground.guard }], guard := some (35, false) }) (v := ?_) rfl (by kernel_rfl) (by kernel_rfl) (by kernel_rfl) (fun _ _ _ h => h) (Or.inl ⟨by rfl, ?_⟩) (by assumption) ?_
          rotate_left
          · intro w' hSw; (try dsimp only at hSw); go_simp; try with_reducible rfl
          (try simp only [Act.put, List.setIfInBounds_toArray, List.set_cons_zero, List.set_cons_succ])
          refine wpAnyH_take (i := 46) (oi := { dst := some 121, op := Op.binOp BinOp.neq 2 (Operand.tmp 115) (Operand.tmp 120) 2, type := 4, pos := "laws.go:83", after := #[{ on := 40, ground := Ground.data }, { on := 45, ground := Ground.data }, { on := 35, ground := Ground.guard }], guard := some (35, false) }) (v := ?_) rfl (by kernel_rfl) (by kernel_rfl) (by kernel_rfl) (fun _ _ _ h => h) (Or.inl ⟨by rfl, ?_⟩) (by assumption) ?_
          rotate_left
          · intro w' hSw; (try dsimp only at hSw); go_simp; try with_reducible rfl
          (try simp only [Act.put, List.setIfInBounds_toArray, List.set_cons_zero, List.set_cons_succ])
          refine wpAnyH_take (i := 47) (oi := { dst := some 122, op := Op.pick (Operand.tmp 110) (Operand.const (Value.bool true)) (Operand.tmp 121), type := 4, pos := "laws.go:83", after := #[{ on := 35, ground := Ground.data }, { on := 46, ground := Ground.data }], guard := none }) (v := ?_) rfl (by kernel_rfl) (by kernel_rfl) (by kernel_rfl) (fun _ _ _ h => h) (Or.inl ⟨by rfl, ?_⟩) (by assumption) ?_
          rotate_left
          · intro w' hSw; (try dsimp only at hSw); go_simp; try with_reducible rfl
          (try simp only [Act.put, List.setIfInBounds_toArray, List.set_cons_zero, List.set_cons_succ])
          refine wpAnyH_done (by kernel_rfl) ?_ _
          go_wp2
          exact ⟨⟨i + 1, by omega, by go_num, HT9.out.ext ((Ext.refl _).drew)⟩, by simp [intOf]; omega⟩
      · have hil : i = zs.length := by omega
        subst hil
        have hle : ((es.length : Int) == IntKind.i64.wrap ((zs.length : Int) + 1)) = true := by have h := HLn.out.1; rw [IntKind.wrap_i64]; simp; omega
        have hke : ((ks.length : Int) == IntKind.i64.wrap ((ws.length : Int) + 1)) = true := by have h := HLn.out.2; rw [IntKind.wrap_i64]; simp; omega
        have hle2 : ((es.length : Int) == (zs.length : Int) + 1) = true := by have h := HLn.out.1; simp; omega
        have hke2 : ((ks.length : Int) == (ws.length : Int) + 1) = true := by have h := HLn.out.2; simp; omega
        have hle3 : (es.length : Int) = (zs.length : Int) + 1 ↔ True := by have h := HLn.out.1; simp; omega
        have hke3 : (ks.length : Int) = (ws.length : Int) + 1 ↔ True := by have h := HLn.out.2; simp; omega
        have hd1 : (zz.data == d) = true := by rw [hzd.1]; simp
        have hd3 : (zz.owner == o) = true := by rw [hzd.2]; simp
        obtain ⟨tn, ns, HNn⟩ := HNo.out
        clear hzd HAll HTa
        obtain ⟨c1, c2, c3, c4, c5, c6, c7, c8⟩ := HTr.out.cells
        cases q with
        | false =>
          obtain rfl : pa = p := HQp.out rfl
          clear HQp
          go_wp2_with fail
          refine (HFt.out _ HTr.out.1.2.1 HTr.out.1.2.2.2.1).mono ?_
          rintro e y1 ⟨rfl, hb⟩
          have HY1 : Hid (CrB w0 (.slice (some ⟨g, off, none⟩) zs.length cap) (.slice ad2 es.length cap2) (.slice (some ⟨g3, off3, none⟩) 1 cap3) (.slice ak ks.length ck) (.slice au ws.length cu) zs es zz pa br bg bk bu y1) := HTr.out.ext hb
          clear hb c1 c2 c3 c4 c5 c6 c7 c8 HTr
          obtain ⟨c1, c2, c3, c4, c5, c6, c7, c8⟩ := HY1.out.cells
          dsimp only
          iterate 3 (first | go_values | go_skip | go_guarded | go_step | go_upon | go_back)
          dsimp only [List.append]
          go_wp2_with fail
          refine (HNn _ HY1.out.1.2.1 HY1.out.1.2.2.1).mono ?_
          rintro e y2 ⟨vn, gn, rfl, -, hOn, hb⟩
          have HY2 : Hid (CrB w0 (.slice (some ⟨g, off, none⟩) zs.length cap) (.slice ad2 es.length cap2) (.slice (some ⟨g3, off3, none⟩) 1 cap3) (.slice ak ks.length ck) (.slice au ws.length cu) zs es zz pa br bg bk bu y2) := HY1.out.ext hb
          clear hb hOn
          unfold zr
          go_wp2
          go_ret
          exact ⟨rfl, HY2.out.1.1⟩
        | true =>
          clear HQp
          go_wp2_with fail
          refine (HFt.out _ HTr.out.1.2.1 HTr.out.1.2.2.2.1).mono ?_
          rintro e y1 ⟨rfl, hb⟩
          have HY1 : Hid (CrB w0 (.slice (some ⟨g, off, none⟩) zs.length cap) (.slice ad2 es.length cap2) (.slice (some ⟨g3, off3, none⟩) 1 cap3) (.slice ak ks.length ck) (.slice au ws.length cu) zs es zz pa br bg bk bu y1) := HTr.out.ext hb
          clear hb c1 c2 c3 c4 c5 c6 c7 c8 HTr
          obtain ⟨c1, c2, c3, c4, c5, c6, c7, c8⟩ := HY1.out.cells
          dsimp only
          iterate 3 (first | go_values | go_skip | go_guarded | go_step | go_upon | go_back)
          dsimp only [List.append]
          go_wp2_with fail
          refine (HNn _ HY1.out.1.2.1 HY1.out.1.2.2.1).mono ?_
          rintro e y2 ⟨vn, gn, rfl, -, hOn, hb⟩
          have HY2 : Hid (CrB w0 (.slice (some ⟨g, off, none⟩) zs.length cap) (.slice ad2 es.length cap2) (.slice (some ⟨g3, off3, none⟩) 1 cap3) (.slice ak ks.length ck) (.slice au ws.length cu) zs es zz pa br bg bk bu y2) := HY1.out.ext hb
          clear hb hOn
          unfold zr
          go_wp2
          go_ret
          exact ⟨rfl, HY2.out.1.1⟩
  · obtain ⟨ad2, cap2, rfl⟩ := slice_ofC hO2
    clear hO2 hE2 hg2 HIm
    unfold zr
    generalize (Tre.createV zs p d o q).1 = c at *
    generalize (Tre.createV zs p d o q).2.1 = t at *
    generalize (Tre.createV zs p d o q).2.2 = rs at *
    have e0 : (c != 0) = true := by simp [hc0]
    have ecc : (c == c) = true := by simp
    go_wp2
    go_region_with (go_at_call 9; refine (HSp.out _ (HS2.out.1.ext (((Ext.refl _).alloc _).drew))).mono ?_; rintro e w3 ⟨v3, g3, rfl, hg3, hO3, hb3⟩; obtain ⟨q', q0, q1, q2⟩ := (box_new w2 c t (.slice ad2 rs.length cap2) 28).ext (((Ext.refl _).drew).trans hb3); unfold zr)
    all_goals
      go_wp2
      go_ret
      exact ⟨ret_bool (by simp), HS2.out.2.1.trans ((((Ext.refl _).alloc _).drew).trans hb3)⟩
theorem lawCreates_all (v : Value) (w : World) (hg : Gd w) (h : ∃ ad len cap, v = .slice ad len cap ∧ (len ≤ 1048576 → CodeOk w w.heap.size v)) :
    Calls Tryz.prog 3 #[v] w fun e w' => e = .returned (.bool true) ∧ Ext w w' := by
  obtain ⟨ad, len, cap, rfl, hc⟩ := h
  by_cases hl : 1048576 < len
  · exact lawCreates_big ad len cap w hl
  · exact lawCreates _ w hg (hc (by omega))
end Go.Proofs.YtmiffefnpendoaaGreatDoor
