/- Q3, Q4, LDeletes, in one text. -/
import Derived.Test.YtgfoliafpjhjcaaGreatDoorQ1
import Derived.Test.YtgfoliafpjhjcaaGreatDoorMX2
import Derived.Test.YtgfoliafpjhjcaaGreatDoorMX1
import Derived.Test.YtgfoliafpjhjcaaGreatDoorMX3
import Derived.Deep.RegionHeld3
/- What a tree without fault is, over its members alone: so a part of one that keeps each parent is one too. -/
namespace Go.Proofs.YtgfoliafpjhjcaaGreatDoor
open Go.RowKit
namespace Tre
/-- A tree without fault. -/
structure Good (zs : List Zn) : Prop where
  few : zs.length ≤ 20
  each : ∀ z ∈ zs, Pth.faultI z.path.data.toList = 0 ∧ okNums z = true
  up : zs.Pairwise fun y z => key y < key z
  top : ∃ z ∈ zs, isAt top z = true
  hung : ∀ z ∈ zs, ∃ y ∈ zs, isAt (par z.path) y = true ∧ y.owner = 0
theorem atI_mem {zs : List Zn} {p : ByteArray} : 0 ≤ atI zs p ↔ ∃ z ∈ zs, isAt p z = true := by
  constructor
  · intro h
    rcases atI_range zs p with ⟨h1, -⟩ | ⟨k, z, -, -, hz, ha⟩
    · omega
    · exact ⟨z, List.mem_of_getElem? hz, ha⟩
  · rintro ⟨z, hz, ha⟩
    rcases atI_range zs p with ⟨-, h2⟩ | ⟨k, _, hk, -, -, -⟩
    · rw [h2 z hz] at ha; cases ha
    · omega
theorem up_pair {zs : List Zn} : Up zs ↔ zs.Pairwise fun y z => key y < key z := by
  rw [List.pairwise_iff_getElem]
  constructor
  · intro h i j hi hj hij
    exact up_lt' h hij (List.getElem?_eq_getElem hi) (List.getElem?_eq_getElem hj)
  · intro h i y z hy hz
    obtain ⟨hi, rfl⟩ := List.getElem?_eq_some_iff.1 hy
    obtain ⟨hj, rfl⟩ := List.getElem?_eq_some_iff.1 hz
    exact h i (i + 1) hi hj (by omega)
/-- Of those that rise only one is at a path. -/
theorem up_one {zs : List Zn} (h : zs.Pairwise fun y z => key y < key z) {p : ByteArray} {y z : Zn} (hy : y ∈ zs) (hz : z ∈ zs) (ay : isAt p y = true) (az : isAt p z = true) : y = z := by
  obtain ⟨i, hi⟩ := List.getElem?_of_mem hy
  obtain ⟨j, hj⟩ := List.getElem?_of_mem hz
  have e : key y = key z := (isAt_iff.1 ay).trans (isAt_iff.1 az).symm
  have hu := up_pair.2 h
  rcases Nat.lt_trichotomy i j with hlt | heq | hgt
  · exact absurd e (lt_ne (up_lt' hu hlt hi hj))
  · subst heq; exact Option.some.inj (hi.symm.trans hj)
  · exact absurd e.symm (lt_ne (up_lt' hu hgt hj hi))
theorem good_of {zs : List Zn} (h : fault zs = 0) : Good zs := by
  obtain ⟨hl, hN⟩ := fault_nodes h
  obtain ⟨ht, hP, hO⟩ := fault_hang h
  refine ⟨hl, ?_, up_pair.1 (up_of_nodes hN), atI_mem.1 ht, ?_⟩
  · intro z hz
    obtain ⟨j, hj⟩ := List.getElem?_of_mem hz
    exact nodeC_ok hj (hN j (List.getElem?_eq_some_iff.1 hj).1)
  · intro z hz
    obtain ⟨j, hj⟩ := List.getElem?_of_mem hz
    have hjl := (List.getElem?_eq_some_iff.1 hj).1
    have h1 := hP j hjl
    rw [parC_eq hj] at h1
    rcases atI_range zs (par z.path) with ⟨h2, -⟩ | ⟨k, y, hk, -, hy, ha⟩
    · rw [if_pos (by omega)] at h1; cases h1
    · have h3 := hO j hjl
      rw [ownC_eq hj hk hy] at h3
      refine ⟨y, List.mem_of_getElem? hy, ha, ?_⟩
      by_cases h0 : y.owner = 0
      · exact h0
      · rw [if_pos h0] at h3; cases h3
theorem Good.fault {zs : List Zn} (h : Good zs) : fault zs = 0 := by
  have hu := up_pair.2 h.up
  refine fault_own (by have := h.few; omega) (first_none fun j hj => ?_) (by have := atI_mem.2 h.top; omega) (first_none fun j hj => ?_) (first_none fun j hj => ?_)
  · obtain ⟨z, hz⟩ : ∃ z, zs[j]? = some z := ⟨_, List.getElem?_eq_getElem hj⟩
    obtain ⟨f0, n0⟩ := h.each z (List.mem_of_getElem? hz)
    match j, hj, hz with
    | 0, hj, hz => exact nodeC_zero hz f0.symm n0
    | m + 1, hj, hz =>
      obtain ⟨y, hy⟩ : ∃ y, zs[m]? = some y := ⟨_, List.getElem?_eq_getElem (by omega)⟩
      rw [nodeC_succ hz hy f0.symm n0, notUp_iff.2 (hu m y z hy hz), if_neg (by simp)]
  · obtain ⟨z, hz⟩ : ∃ z, zs[j]? = some z := ⟨_, List.getElem?_eq_getElem hj⟩
    obtain ⟨y, hy, ha, -⟩ := h.hung z (List.mem_of_getElem? hz)
    rw [parC_eq hz, if_neg (by have := atI_mem.2 ⟨y, hy, ha⟩; omega)]
  · obtain ⟨z, hz⟩ : ∃ z, zs[j]? = some z := ⟨_, List.getElem?_eq_getElem hj⟩
    obtain ⟨y, hy, ha, ho⟩ := h.hung z (List.mem_of_getElem? hz)
    rcases atI_range zs (par z.path) with ⟨-, h2⟩ | ⟨k, y', hk, -, hy', ha'⟩
    · rw [h2 y hy] at ha; cases ha
    · have he : y' = y := up_one h.up (List.mem_of_getElem? hy') hy ha' ha
      rw [ownC_eq hz hk hy', he, if_neg (by simpa using ho)]
theorem fault_good {zs : List Zn} : Tre.fault zs = 0 ↔ Good zs := ⟨good_of, Good.fault⟩
/-- The parent of the top is the top. -/
theorem par_of_top {z : Zn} (h : isAt top z = true) : par z.path = top := by
  have h1 := isAt_iff.1 h
  unfold key at h1
  unfold par
  rw [h1]
  rfl
/-- What is left of a tree where each that nobody owns is left: a tree. -/
theorem Good.part {zs : List Zn} (h : Good zs) (f : Zn → Bool) (hf : ∀ z ∈ zs, z.owner = 0 → f z = true) : Good (zs.filter f) := by
  refine ⟨Nat.le_trans (List.length_filter_le _ _) h.few, fun z hz => h.each z ((List.mem_filter.1 hz).1), h.up.filter _, ?_, fun z hz => ?_⟩
  · obtain ⟨z, hz, ha⟩ := h.top
    obtain ⟨y, hy, hb, ho⟩ := h.hung z hz
    rw [par_of_top ha] at hb
    exact ⟨y, List.mem_filter.2 ⟨hy, hf y hy ho⟩, hb⟩
  · obtain ⟨y, hy, hb, ho⟩ := h.hung z ((List.mem_filter.1 hz).1)
    exact ⟨y, List.mem_filter.2 ⟨hy, hf y hy ho⟩, hb, ho⟩
/-- A node of a tree is got of a part of it just if it is in that part. -/
theorem Good.got {zs : List Zn} (h : Good zs) {f : Zn → Bool} (hg : Good (zs.filter f)) {z : Zn} (hz : z ∈ zs) : ((getT (zs.filter f) z.path).1 == 0) = f z := by
  have hA : asked (zs.filter f) z.path = 0 := by unfold asked; rw [hg.fault, if_neg (by simp)]; exact (h.each z hz).1
  have hzz : isAt z.path z = true := isAt_iff.2 rfl
  cases hfz : f z with
  | true =>
    rcases atI_range (zs.filter f) z.path with ⟨-, h2⟩ | ⟨k, y, hk, -, hy, -⟩
    · rw [h2 z (List.mem_filter.2 ⟨hz, hfz⟩)] at hzz; cases hzz
    · rw [getT_ok hA hk hy]; rfl
  | false =>
    have hm : atI (zs.filter f) z.path < 0 := by
      rcases atI_range (zs.filter f) z.path with ⟨h1, -⟩ | ⟨k, y, -, -, hy, ha⟩
      · omega
      · have hy2 := List.mem_filter.1 (List.mem_of_getElem? hy)
        have := up_one h.up hy2.1 hz ha hzz
        rw [this, hfz] at hy2
        exact absurd hy2.2 (by simp)
    rw [getT_none hA hm]; rfl
end Tre
end Go.Proofs.YtgfoliafpjhjcaaGreatDoor

/- Trees without fault that a node is taken out of, or put into: they have none either; what is got of them. -/
namespace Go.Proofs.YtgfoliafpjhjcaaGreatDoor
open Go.RowKit
namespace Tre
theorem path_of {p : ByteArray} {z : Zn} (h : isAt p z = true) : z.path = p := ba_eq (isAt_iff.1 h)
theorem isAt_self (z : Zn) : isAt z.path z = true := isAt_iff.2 rfl
theorem nil_of_len {α : Type} {l : List α} (h : ¬ 0 < l.length) : l = [] := List.eq_nil_of_length_eq_zero (by omega)
/-- A parent is shorter. -/
theorem par_short {p : ByteArray} (h : Pth.faultI p.data.toList = 0) (ht : ¬ p.data.toList = [47]) : (par p).data.toList.length < p.data.toList.length := by
  rcases Pth.fault_cases p.data.toList with ⟨-, h1⟩ | ⟨-, -, h1⟩ | ⟨-, -, n, la, h1⟩
  · rw [h] at h1; cases h1
  · rw [h] at h1; cases h1
  · obtain ⟨-, -, r, h2, h3⟩ := Pth.rd_some _ n la ht h1
    have hl : 2 ≤ p.data.toList.length := by
      rw [h2]
      cases r with
      | nil => exact absurd rfl h3
      | cons a b => simp
    unfold par
    rw [mkB_list]
    rcases Pth.lastSl_lt p.data.toList 0 0 with h4 | h4
    · rw [h4, if_pos rfl]; simp only [List.length_cons, List.length_nil]; omega
    · split
      · simp only [List.length_cons, List.length_nil]; omega
      · rw [List.length_take]; omega
theorem par_ne {p : ByteArray} (h : Pth.faultI p.data.toList = 0) (ht : ¬ p.data.toList = [47]) : ¬ (par p).data.toList = p.data.toList := fun e => by
  have := par_short h ht; rw [e] at this; omega
/-- The node of a path taken out: all others. -/
theorem del_filter {zs : List Zn} {p : ByteArray} {k : Nat} {z : Zn} (hu : zs.Pairwise fun y z => key y < key z) (hz : zs[k]? = some z) (ha : isAt p z = true) :
    zs.take k ++ zs.drop (k + 1) = zs.filter fun y => !isAt p y := by
  obtain ⟨hk, he⟩ := List.getElem?_eq_some_iff.1 hz
  have e : zs = zs.take k ++ z :: zs.drop (k + 1) := by
    rw [← he, ← List.drop_eq_getElem_cons hk, List.take_append_drop]
  have hkey := isAt_iff.1 ha
  have h1 := hu
  rw [e, List.pairwise_append, List.pairwise_cons] at h1
  obtain ⟨-, ⟨h2, -⟩, h3⟩ := h1
  have f1 : (zs.take k).filter (fun y => !isAt p y) = zs.take k := by
    rw [List.filter_eq_self]
    intro y hy
    have h4 := h3 y hy z List.mem_cons_self
    cases h5 : isAt p y with
    | false => rfl
    | true => rw [isAt_iff.1 h5, hkey] at h4; exact absurd h4 (lt_irr _)
  have f2 : (zs.drop (k + 1)).filter (fun y => !isAt p y) = zs.drop (k + 1) := by
    rw [List.filter_eq_self]
    intro y hy
    have h4 := h2 y hy
    cases h5 : isAt p y with
    | false => rfl
    | true => rw [isAt_iff.1 h5, hkey] at h4; exact absurd h4 (lt_irr _)
  have f3 : zs.filter (fun y => !isAt p y) = (zs.take k ++ z :: zs.drop (k + 1)).filter (fun y => !isAt p y) := by rw [← e]
  rw [f3, List.filter_append, List.filter_cons, if_neg (by rw [ha]; simp), f1, f2]
theorem isKid_of {p : ByteArray} {y : Zn} (ht : ¬ key y = [47]) (h : (par y.path).data.toList = p.data.toList) : isKid p y = true := by
  unfold isKid
  rw [Lib.toList_data, Lib.toList_data, Lib.toList_data, h]
  simp only [beq_self_eq_true, Bool.and_true, Bool.not_eq_true', beq_eq_false_iff_ne, ne_eq]
  exact ht
theorem of_isKid {p : ByteArray} {y : Zn} (h : isKid p y = true) : (par y.path).data.toList = p.data.toList ∧ ¬ key y = [47] := by
  unfold isKid at h
  rw [Lib.toList_data, Lib.toList_data, Lib.toList_data] at h
  simp only [Bool.and_eq_true, Bool.not_eq_true', beq_eq_false_iff_ne, ne_eq, beq_iff_eq] at h
  exact ⟨h.2, h.1⟩
theorem kids_nil {zs : List Zn} {p : ByteArray} : kids zs p = [] ↔ ∀ y ∈ zs, isKid p y = false := by
  unfold kids
  rw [List.map_eq_nil_iff, List.filter_eq_nil_iff]
  exact ⟨fun h y hy => by simpa using h y hy, fun h y hy => by rw [h y hy]; simp⟩
theorem Good.del {zs : List Zn} (h : Good zs) {p : ByteArray} (hp : ¬ p.data.toList = [47]) (hk : ∀ y ∈ zs, isKid p y = false) : Good (zs.filter fun y => !isAt p y) := by
  refine ⟨Nat.le_trans (List.length_filter_le _ _) h.few, fun z hz => h.each z (List.mem_filter.1 hz).1, h.up.filter _, ?_, fun y hy => ?_⟩
  · obtain ⟨z, hz, ha⟩ := h.top
    refine ⟨z, List.mem_filter.2 ⟨hz, ?_⟩, ha⟩
    cases h5 : isAt p z with
    | false => rfl
    | true => exact absurd ((isAt_iff.1 h5).symm.trans (isAt_iff.1 ha)) hp
  · have hy0 := (List.mem_filter.1 hy).1
    obtain ⟨x, hx, ha, ho⟩ := h.hung y hy0
    refine ⟨x, List.mem_filter.2 ⟨hx, ?_⟩, ha, ho⟩
    cases h5 : isAt p x with
    | false => rfl
    | true =>
      exfalso
      have e : (par y.path).data.toList = p.data.toList := (isAt_iff.1 ha).symm.trans (isAt_iff.1 h5)
      by_cases ht : key y = [47]
      · rw [par_of_top (isAt_iff.2 ht)] at e; exact hp e.symm
      · have := isKid_of ht e
        rw [hk y hy0] at this; cases this
theorem putT_mem {bs : List Zn} {z y : Zn} : y ∈ putT bs z ↔ y = z ∨ y ∈ bs := by
  unfold putT
  rw [List.mem_append, List.mem_cons]
  constructor
  · rintro (h | h | h)
    · exact Or.inr (List.mem_of_mem_take h)
    · exact Or.inl h
    · exact Or.inr (List.mem_of_mem_drop h)
  · rintro (h | h)
    · exact Or.inr (Or.inl h)
    · rw [← List.take_append_drop (cut bs (key z)) bs] at h
      rcases List.mem_append.1 h with h | h
      · exact Or.inl h
      · exact Or.inr (Or.inr h)
theorem putT_len (bs : List Zn) (z : Zn) : (putT bs z).length = bs.length + 1 := by
  unfold putT
  have := cut_le bs (key z)
  rw [List.length_append, List.length_cons, List.length_take, List.length_drop]; omega
theorem putT_up {bs : List Zn} (hu : bs.Pairwise fun y z => key y < key z) {z : Zn} (hno : ∀ y ∈ bs, isAt z.path y = false) : (putT bs z).Pairwise fun y z => key y < key z := by
  have hU := up_pair.2 hu
  have h0 := hu
  rw [← List.take_append_drop (cut bs (key z)) bs, List.pairwise_append] at h0
  obtain ⟨h1, h2, h3⟩ := h0
  have ha : ∀ y ∈ bs.take (cut bs (key z)), key y < key z := fun y hy => by
    obtain ⟨i, hi⟩ := List.getElem?_of_mem hy
    rw [List.getElem?_take] at hi
    split at hi
    · rename_i h4; exact cut_lt h4 hi
    · cases hi
  have hb : ∀ y ∈ bs.drop (cut bs (key z)), key z < key y := fun y hy => by
    obtain ⟨i, hi⟩ := List.getElem?_of_mem hy
    rw [List.getElem?_drop] at hi
    have h4 := cut_ge hU (Nat.le_add_right _ i) hi
    refine lt_tot h4 fun e => ?_
    have := hno y (List.mem_of_mem_drop hy)
    rw [isAt_iff.2 e] at this; cases this
  unfold putT
  rw [List.pairwise_append, List.pairwise_cons]
  refine ⟨h1, ⟨hb, h2⟩, fun a ha' b hb' => ?_⟩
  rcases List.mem_cons.1 hb' with rfl | hb'
  · exact ha a ha'
  · exact lt_tr (ha a ha') (hb b hb')
theorem Good.put {bs : List Zn} (h : Good bs) {z : Zn} (hl : bs.length < 20) (hz : Pth.faultI z.path.data.toList = 0 ∧ okNums z = true) (hno : ∀ y ∈ bs, isAt z.path y = false) (hx : ∃ x ∈ bs, isAt (par z.path) x = true ∧ x.owner = 0) : Good (putT bs z) := by
  refine ⟨by rw [putT_len]; omega, fun y hy => ?_, putT_up h.up hno, ?_, fun y hy => ?_⟩
  · rcases putT_mem.1 hy with rfl | hy
    · exact hz
    · exact h.each y hy
  · obtain ⟨y, hy, ha⟩ := h.top
    exact ⟨y, putT_mem.2 (Or.inr hy), ha⟩
  · rcases putT_mem.1 hy with rfl | hy
    · obtain ⟨x, hx1, hx2⟩ := hx
      exact ⟨x, putT_mem.2 (Or.inr hx1), hx2⟩
    · obtain ⟨x, hx1, hx2⟩ := h.hung y hy
      exact ⟨x, putT_mem.2 (Or.inr hx1), hx2⟩
theorem putT_filter {bs : List Zn} {z : Zn} (hno : ∀ y ∈ bs, isAt z.path y = false) : (putT bs z).filter (fun y => !isAt z.path y) = bs := by
  unfold putT
  have f : ∀ l : List Zn, (∀ y ∈ l, y ∈ bs) → l.filter (fun y => !isAt z.path y) = l := fun l hl => by
    rw [List.filter_eq_self]
    intro y hy
    rw [hno y (hl y hy)]; rfl
  rw [List.filter_append, List.filter_cons, if_neg (by rw [isAt_self]; simp), f _ (fun y hy => List.mem_of_mem_take hy), f _ (fun y hy => List.mem_of_mem_drop hy), List.take_append_drop]
theorem not_at {zs : List Zn} {p : ByteArray} (h : ∀ y ∈ zs, isAt p y = false) : atI zs p < 0 := by
  refine Classical.byContradiction fun hn => ?_
  obtain ⟨z, hz, ha⟩ := atI_mem.1 (by omega : 0 ≤ atI zs p)
  rw [h z hz] at ha; cases ha
theorem asked_of {zs : List Zn} {p : ByteArray} (h : Good zs) (hp : Pth.faultI p.data.toList = 0) : asked zs p = 0 := by
  unfold asked; rw [h.fault, if_neg (by decide)]; exact hp
theorem at_of {zs : List Zn} {p : ByteArray} {z : Zn} (hu : zs.Pairwise fun y z => key y < key z) (hz : z ∈ zs) (ha : isAt p z = true) : ∃ k : Nat, atI zs p = k ∧ zs[k]? = some z := by
  rcases atI_range zs p with ⟨-, h2⟩ | ⟨k, y, hk, -, hy, hya⟩
  · rw [h2 z hz] at ha; cases ha
  · exact ⟨k, hk, by rw [hy, up_one hu (List.mem_of_getElem? hy) hz hya ha]⟩
theorem top_false {p : ByteArray} (h : ¬ p.data.toList = [47]) : (p.toList == [47]) = false := by
  rw [Lib.toList_data]; simpa using h
/-- What a deletion without a code says of the tree, and leaves. -/
theorem del_zero {zs : List Zn} {p : ByteArray} {n : Int} (h : (delV zs p n).1 = 0) : Good zs ∧ Pth.faultI p.data.toList = 0 ∧ (¬ p.data.toList = [47]) ∧ kids zs p = [] ∧ (∃ z ∈ zs, isAt p z = true) ∧ delV zs p n = (0, ⟨#[]⟩, zs.filter fun y => !isAt p y) ∧ (zs.filter fun y => !isAt p y).length + 1 = zs.length := by
  by_cases h0 : asked zs p = 0
  · obtain ⟨h1, h2⟩ := asked_fault h0
    have hG := good_of h1
    rw [delV_ok h0] at h ⊢
    by_cases ht : p.data.toList = [47]
    · rw [delT_top (by rw [Lib.toList_data, ht]; rfl)] at h; cases h
    have htf := top_false ht
    rcases atI_range zs p with ⟨hm, -⟩ | ⟨k, z, hk, hkl, hz, ha⟩
    · rw [delT_none htf (by omega)] at h; cases h
    rw [delT_some htf hk hz] at h ⊢
    split at h
    · cases h
    rename_i hv
    split at h
    · cases h
    rename_i hkd
    rw [if_neg hv, if_neg hkd, del_filter hG.up hz ha]
    refine ⟨hG, h2, ht, nil_of_len hkd, ⟨z, List.mem_of_getElem? hz, ha⟩, rfl, ?_⟩
    rw [← del_filter hG.up hz ha, List.length_append, List.length_take, List.length_drop]; omega
  · rw [delV_bad rfl h0] at h; exact absurd h h0
/-- All that FnDeletes asks. -/
theorem del_all {zs : List Zn} {p : ByteArray} {n : Int} (h : (delV zs p n).1 = 0) : ∃ rs cs : List Zn, delV zs p n = (0, ⟨#[]⟩, rs) ∧ fault rs = 0 ∧ rs.length + 1 = zs.length ∧ (getT rs p).1 = 4 ∧ kidsV zs p = (0, []) ∧ createV rs p 5 0 false = (0, p, cs) ∧ cs.length = zs.length ∧ fault cs = 0 ∧ delV cs p 0 = (0, ⟨#[]⟩, rs) := by
  obtain ⟨hG, hp, ht, hk, ⟨z, hz, ha⟩, hd, hl⟩ := del_zero h
  have hkn := kids_nil.1 hk
  have hR := hG.del ht hkn
  obtain ⟨rs, hrs⟩ : ∃ rs, rs = zs.filter fun y => !isAt p y := ⟨_, rfl⟩
  rw [← hrs] at hd hl hR
  have hno : ∀ y ∈ rs, isAt p y = false := fun y hy => by
    rw [hrs] at hy; simpa using (List.mem_filter.1 hy).2
  have hx : ∃ x ∈ rs, isAt (par p) x = true ∧ x.owner = 0 := by
    obtain ⟨x, hx, hxa, ho⟩ := hG.hung z hz
    rw [path_of ha] at hxa
    refine ⟨x, ?_, hxa, ho⟩
    rw [hrs]
    refine List.mem_filter.2 ⟨hx, ?_⟩
    cases h5 : isAt p x with
    | false => rfl
    | true => exact absurd ((isAt_iff.1 hxa).symm.trans (isAt_iff.1 h5)) (par_ne hp ht)
  have htf := top_false ht
  obtain ⟨x, hx1, hx2, hx3⟩ := hx
  obtain ⟨j, hj, hjx⟩ := at_of hR.up hx1 hx2
  have hfew : rs.length < 20 := by have := hG.few; omega
  have hC : Good (putT rs ⟨p, 5, 0, 0, 0⟩) := hR.put hfew ⟨hp, rfl⟩ hno ⟨x, hx1, hx2, hx3⟩
  have hcr : createV rs p 5 0 false = (0, p, putT rs ⟨p, 5, 0, 0, 0⟩) := by
    rw [createV_ok (asked_of hR hp), createT_some (by decide) htf hj hjx, if_neg (by rw [hx3]; simp), if_neg (by decide)]
    unfold finT
    rw [if_neg (by have := not_at hno; omega), if_neg (by omega)]
  have hz5 : (⟨p, 5, 0, 0, 0⟩ : Zn) ∈ putT rs ⟨p, 5, 0, 0, 0⟩ := putT_mem.2 (Or.inl rfl)
  have ha5 : isAt p (⟨p, 5, 0, 0, 0⟩ : Zn) = true := isAt_iff.2 rfl
  obtain ⟨i, hi, hiz⟩ := at_of hC.up hz5 ha5
  have hk5 : kids (putT rs ⟨p, 5, 0, 0, 0⟩) p = [] := kids_nil.2 fun y hy => by
    rcases putT_mem.1 hy with rfl | hy
    · cases h5 : isKid p (⟨p, 5, 0, 0, 0⟩ : Zn) with
      | false => rfl
      | true => exact absurd (of_isKid h5).1 (par_ne hp ht)
    · rw [hrs] at hy; exact hkn y (List.mem_filter.1 hy).1
  refine ⟨rs, putT rs ⟨p, 5, 0, 0, 0⟩, hd, hR.fault, hl, ?_, ?_, hcr, by rw [putT_len]; exact hl, hC.fault, ?_⟩
  · rw [getT_none (asked_of hR hp) (not_at hno)]
  · rw [kidsV_ok (asked_of hG hp) (by obtain ⟨k, hk1, -⟩ := at_of hG.up hz ha; omega), hk]
  · rw [delV_ok (asked_of hC hp), delT_some htf hi hiz, if_neg (by simp), if_neg (by rw [hk5]; simp), del_filter hC.up hiz ha5]
    have := putT_filter (bs := rs) (z := ⟨p, 5, 0, 0, 0⟩) hno
    rw [this]
end Tre
end Go.Proofs.YtgfoliafpjhjcaaGreatDoor

/- laws.FnDeletes, walked: it answers true at every code. -/
namespace Go.Proofs.YtgfoliafpjhjcaaGreatDoor
open Go.RowKit
set_option maxHeartbeats 400000 in
theorem lwBigD_any (ad : Option Addr) (len cap : Nat) (w : World) :
    Calls Tryz.prog 7 #[.slice ad len cap] w fun e w' => e = .returned (.bool (decide (1048576 < len))) ∧ w' = w := by
  go_enter Tryz.func7, Tryz.ntmps7
  go_wp2
  go_ret
  exact ⟨ret_bool (by rw [Bool.eq_iff_iff]; simp; omega), rfl⟩
set_option maxHeartbeats 400000 in
theorem lawDeletes_big (ad : Option Addr) (len cap : Nat) (w : World) (hl : 1048576 < len) :
    Calls Tryz.prog 5 #[.slice ad len cap] w fun e w' => e = .returned (.bool true) ∧ Ext w w' := by
  have hbig : decide (1048576 < len) = true := by simpa using hl
  have hB := lwBigD_any ad len cap w
  rw [hbig] at hB
  clear hbig
  go_enter Tryz.func5, Tryz.ntmps5
  go_wp2_with fail
  refine hB.mono ?_
  rintro e w0 ⟨rfl, hw⟩
  subst hw
  clear hB
  go_wp2
  go_ret
  exact ⟨rfl, Ext.refl _⟩
/-- What the law holds while it goes on. -/
def DlSt (w0 : World) (v rv cv : Value) (zs rs cs : List Zn) (p : ByteArray) (br bc : Nat) (W : World) : Prop :=
  NSlice W v zs ∧ NSlice W rv rs ∧ NSlice W cv cs ∧ BoxAt W br 0 ⟨#[]⟩ rv ∧ BoxAt W bc 0 p cv ∧ Ext w0 W ∧ Gd W
theorem DlSt.ext {w0 W W' : World} {v rv cv : Value} {zs rs cs : List Zn} {p : ByteArray} {br bc : Nat} (h : DlSt w0 v rv cv zs rs cs p br bc W) (he : Ext W W') : DlSt w0 v rv cv zs rs cs p br bc W' :=
  ⟨h.1.ext he, h.2.1.ext he, h.2.2.1.ext he, h.2.2.2.1.ext he, h.2.2.2.2.1.ext he, h.2.2.2.2.2.1.trans he, h.2.2.2.2.2.2.ext he⟩
/-- The three cells that the last statement loads. -/
theorem DlSt.cells {w0 W : World} {v rv cv : Value} {zs rs cs : List Zn} {p : ByteArray} {br bc : Nat} (h : DlSt w0 v rv cv zs rs cs p br bc W) : W.cell? ⟨br, 2, none⟩ = some rv ∧ W.cell? ⟨bc, 0, none⟩ = some (.int .i64 0) ∧ W.cell? ⟨bc, 2, none⟩ = some cv :=
  ⟨h.2.2.2.1.2.2.2, h.2.2.2.2.1.2.1, h.2.2.2.2.1.2.2.2⟩
theorem slice_of {w : World} {v : Value} {g : Nat} {zs : List Zn} (h : Own w v g zs) : ∃ ad cap, v = .slice ad zs.length cap := by obtain ⟨a0, c0, h0, -⟩ := h; exact ⟨a0, c0, h0⟩

set_option maxHeartbeats 8000000 in
set_option maxRecDepth 100000 in
theorem lawDeletes (cv : Value) (w : World) (hg : Gd w) (hc : CodeOk w w.heap.size cv) :
    Calls Tryz.prog 5 #[cv] w fun e w' => e = .returned (.bool true) ∧ Ext w w' := by
  have hc' := hc
  obtain ⟨ad, len, cap0, rfl, hl, -⟩ := hc'
  have HC : Hid (CodeOk w w.heap.size (.slice ad len cap0)) := hc
  have HG : Hid (Gd w) := hg
  have hbig : decide (1048576 < len) = false := by simpa using hl
  have hB := lwBigD_any ad len cap0 w
  rw [hbig] at hB
  clear hc hbig hg
  go_enter Tryz.func5, Tryz.ntmps5
  go_wp2_with fail
  refine hB.mono ?_
  rintro e w0 ⟨rfl, hw⟩
  subst hw
  clear hB
  go_wp2_with fail
  refine (drawDeleteZ_any _ _ HC.out).mono ?_
  rintro e w1 ⟨g, off, cap, zs, p, l, rfl, ⟨n, rfl⟩, hF, hO, hE⟩
  have hpos := hF.1
  have h21 := hF.2
  have HS1 : Hid (NSlice w1 (.slice (some ⟨g, off, none⟩) zs.length cap) zs ∧ Ext w0 w1 ∧ Gd w1) := ⟨hO.slice, hE, HG.out.ext hE⟩
  clear hF hO hE HC HG
  have HIm : Hid (∀ W : World, Gd W → NSlice W (.slice (some ⟨g, off, none⟩) zs.length cap) zs → Calls Tryz.prog 15 #[.slice (some ⟨g, off, none⟩) zs.length cap, .string p, .int .i64 n] W (ZRet W (Tre.delV zs p n).1 (Tre.delV zs p n).2.1 (Tre.delV zs p n).2.2)) := fun W hg hS => implDeleteZ_any _ zs p n W hg hS
  have HSp : Hid (∀ W : World, NSlice W (.slice (some ⟨g, off, none⟩) zs.length cap) zs → Calls Tryz.prog 20 #[.slice (some ⟨g, off, none⟩) zs.length cap, .string p, .int .i64 n] W (ZRet W (Tre.delV zs p n).1 (Tre.delV zs p n).2.1 (Tre.delV zs p n).2.2)) := fun W hS => specDeleteZ_any _ zs p n W hS
  go_wp2_with fail
  refine (HIm.out _ HS1.out.2.2 HS1.out.1).mono ?_
  rintro e w2 ⟨v2, g2, rfl, hg2, hO2, hE2⟩
  have HS2 : Hid (NSlice w2 (.slice (some ⟨g, off, none⟩) zs.length cap) zs ∧ Ext w0 w2 ∧ Gd w2) := ⟨HS1.out.1.ext hE2, HS1.out.2.1.trans hE2, HS1.out.2.2.ext hE2⟩
  clear HS1
  have hfz : ∀ (c : Int) (t : ByteArray) (v : Value) (w : World), (Instr.field 28 (.agg #[.int .i64 c, .string t, v]) 0).run Tryz.prog w = .ok (.int .i64 c) w := fun _ _ _ _ => by kernel_rfl
  by_cases hc0 : (Tre.delV zs p n).1 = 0
  · obtain ⟨rs, cs, hd, hflt, hlen, hget, hkid, hcr, hcl, hcf, hdd⟩ := Tre.del_all hc0
    rw [hd] at hO2
    rw [hd]
    clear hd hc0 HIm HSp
    dsimp only at hO2
    obtain ⟨ad2, cap2, rfl⟩ := slice_of hO2
    have HS3 : Hid (NSlice w2 (.slice ad2 rs.length cap2) rs) := hO2.slice
    have HCr : Hid (∀ W : World, Gd W → NSlice W (.slice ad2 rs.length cap2) rs → Calls Tryz.prog 9 #[.slice ad2 rs.length cap2, .string p, .int .i64 5, .int .i64 0, .bool false] W (ZRet W 0 p cs)) := fun W hg hS => by have h := implCreateZ_any _ rs p 5 0 false W hg hS; rw [hcr] at h; exact h
    have HFt : Hid (∀ W : World, Gd W → NSlice W (.slice ad2 rs.length cap2) rs → Calls Tryz.prog 14 #[.slice ad2 rs.length cap2] W fun e w' => e = .returned (.int .i64 0) ∧ Ext W w') := fun W hg hS => by have h := implTreeFault_any _ rs W hg hS; rw [hflt] at h; exact h
    have HGz : Hid (∃ t ns, ∀ W : World, Gd W → NSlice W (.slice ad2 rs.length cap2) rs → Calls Tryz.prog 11 #[.slice ad2 rs.length cap2, .string p] W (ZRet W 4 t ns)) := ⟨_, _, fun W hg hS => by have h := implGetZ_any _ rs p W hg hS; rw [hget] at h; exact h⟩
    have HKz : Hid (∀ W : World, Gd W → NSlice W (.slice (some ⟨g, off, none⟩) zs.length cap) zs → Calls Tryz.prog 12 #[.slice (some ⟨g, off, none⟩) zs.length cap, .string p] W (XRet W 0 [])) := fun W hg hS => by have h := implKidsZ_any _ zs p W hg hS; rw [hkid] at h; exact h
    have hwr : IntKind.i64.wrap ((zs.length : Int) - 1) = (rs.length : Int) := by rw [IntKind.wrap_i64]; omega
    have hwr2 : IntKind.i64.wrap (rs.length : Int) = (rs.length : Int) := by rw [IntKind.wrap_i64]; omega
    have hcz : (cs.length : Int) = (zs.length : Int) := by omega
    have hll : ((rs.length : Int) == (rs.length : Int)) = true := by simp
    have hlz : ((zs.length : Int) == (zs.length : Int)) = true := by simp
    have HDd : Hid (∀ (W : World) (vc : Value), Gd W → NSlice W vc cs → Calls Tryz.prog 15 #[vc, .string p, .int .i64 0] W (ZRet W 0 ⟨#[]⟩ rs)) := fun W vc hg hS => by have h := implDeleteZ_any vc cs p 0 W hg hS; rw [hdd] at h; exact h
    have HSm : Hid (∀ (W : World) (va vb : Value), NSlice W va rs → NSlice W vb rs → Calls Tryz.prog 21 #[va, vb] W fun e w' => e = .returned (.bool true) ∧ Ext W w') := fun W va vb h1 h2 => by have h := implSameTrees_any va vb rs rs W h1 h2; rw [show Tre.same rs rs = true from by unfold Tre.same; simp] at h; exact h
    have HS4 : Hid (NSlice (w2.alloc (.cells #[.int .i64 0, .string ⟨#[]⟩, .slice ad2 rs.length cap2] 28)) (.slice (some ⟨g, off, none⟩) zs.length cap) zs ∧ NSlice (w2.alloc (.cells #[.int .i64 0, .string ⟨#[]⟩, .slice ad2 rs.length cap2] 28)) (.slice ad2 rs.length cap2) rs ∧ BoxAt (w2.alloc (.cells #[.int .i64 0, .string ⟨#[]⟩, .slice ad2 rs.length cap2] 28)) w2.heap.size 0 ⟨#[]⟩ (.slice ad2 rs.length cap2) ∧ Ext w0 (w2.alloc (.cells #[.int .i64 0, .string ⟨#[]⟩, .slice ad2 rs.length cap2] 28)) ∧ Gd (w2.alloc (.cells #[.int .i64 0, .string ⟨#[]⟩, .slice ad2 rs.length cap2] 28))) :=
      ⟨HS2.out.1.ext ((Ext.refl _).alloc _), HS3.out.ext ((Ext.refl _).alloc _), box_new w2 _ _ _ _, HS2.out.2.1.alloc _, HS2.out.2.2.ext ((Ext.refl _).alloc _)⟩
    clear hO2 hE2 hg2 HS2 HS3 hflt hget hkid hcr hcf hdd hcl hlen
    unfold zr
    go_wp2_with fail
    refine (HCr.out _ HS4.out.2.2.2.2 HS4.out.2.1).mono ?_
    rintro e w4 ⟨v4, g4, rfl, hg4, hO4, hE4⟩
    obtain ⟨ad4, cap4, rfl⟩ := slice_of hO4
    have HT5 : Hid (DlSt w0 (.slice (some ⟨g, off, none⟩) zs.length cap) (.slice ad2 rs.length cap2) (.slice ad4 cs.length cap4) zs rs cs p w2.heap.size w4.heap.size (w4.alloc (.cells #[.int .i64 0, .string p, .slice ad4 cs.length cap4] 28))) :=
      ⟨(HS4.out.1.ext hE4).ext ((Ext.refl _).alloc _), (HS4.out.2.1.ext hE4).ext ((Ext.refl _).alloc _), hO4.slice.ext ((Ext.refl _).alloc _), (HS4.out.2.2.1.ext hE4).ext ((Ext.refl _).alloc _), box_new w4 _ _ _ _, (HS4.out.2.2.2.1.trans hE4).alloc _, (HS4.out.2.2.2.2.ext hE4).ext ((Ext.refl _).alloc _)⟩
    clear hO4 hE4 hg4 HS4
    unfold zr
    go_wp2
    have hz2 := HT5.out
    generalize (w4.alloc (.cells #[.int .i64 0, .string p, .slice ad4 cs.length cap4] 28)) = w5 at *
    generalize w2.heap.size = br at *
    generalize w4.heap.size = bc at *
    clear hz2
    obtain ⟨a5, b5, c5⟩ := HT5.out.cells
    obtain ⟨tg, ns, HGz2⟩ := HGz.out
    have HGz3 : Hid (∀ W : World, Gd W → NSlice W (.slice ad2 rs.length cap2) rs → Calls Tryz.prog 11 #[.slice ad2 rs.length cap2, .string p] W (ZRet W 4 tg ns)) := HGz2
    clear HGz HGz2 HCr
    have hfn : ∀ (c : Int) (t : ByteArray) (v : Value) (w : World), (Instr.field 28 (.agg #[.int .i64 c, .string t, v]) 2).run Tryz.prog w = .ok v w := fun _ _ _ _ => by kernel_rfl
    have hfx : ∀ (c : Int) (v : Value) (w : World), (Instr.field 33 (.agg #[.int .i64 c, v]) 1).run Tryz.prog w = .ok v w := fun _ _ _ => by kernel_rfl
    go_region_held3 (fun W => W.cell? ⟨br, 2, none⟩ = some (.slice ad2 rs.length cap2) ∧ W.cell? ⟨bc, 0, none⟩ = some (.int .i64 0) ∧ W.cell? ⟨bc, 2, none⟩ = some (.slice ad4 cs.length cap4)) (first | exact ⟨a5, b5, c5⟩ | exact ⟨a6, b6, c6⟩ | exact ⟨a7, b7, c7⟩ | exact ⟨a8, b8, c8⟩ | exact ⟨a9, b9, c9⟩ | exact ⟨aa, ba, ca⟩ | go_keep) (first
      | (go_at_call 14; refine (HFt.out _ (HT5.out.ext (by first | exact (Ext.refl _).drew | exact Ext.refl _)).2.2.2.2.2.2 (HT5.out.ext (by first | exact (Ext.refl _).drew | exact Ext.refl _)).2.1).mono ?_; rintro e w6 ⟨rfl, hb6⟩; have HT6 : Hid (DlSt w0 (.slice (some ⟨g, off, none⟩) zs.length cap) (.slice ad2 rs.length cap2) (.slice ad4 cs.length cap4) zs rs cs p br bc w6) := HT5.out.ext (by first | exact ((Ext.refl _).drew).trans hb6 | exact hb6); obtain ⟨a6, b6, c6⟩ := HT6.out.cells; clear hb6 a5 b5 c5 HT5)
      | (go_at_call 11; refine (HGz3.out _ HT6.out.2.2.2.2.2.2 HT6.out.2.1).mono ?_; rintro e w7 ⟨v7, g7, rfl, -, hO7, hb7⟩; obtain ⟨ad7, cap7, rfl⟩ := slice_of hO7; have HT7 : Hid (DlSt w0 (.slice (some ⟨g, off, none⟩) zs.length cap) (.slice ad2 rs.length cap2) (.slice ad4 cs.length cap4) zs rs cs p br bc w7) := HT6.out.ext hb7; obtain ⟨a7, b7, c7⟩ := HT7.out.cells; clear hb7 hO7 a6 b6 c6 HT6; unfold zr)
      | (go_at_call 12; refine (HKz.out _ HT7.out.2.2.2.2.2.2 HT7.out.1).mono ?_; rintro e w8 ⟨v8, g8, rfl, -, hO8, hb8⟩; obtain ⟨ad8, cap8, rfl, -⟩ := hO8; have HT8 : Hid (DlSt w0 (.slice (some ⟨g, off, none⟩) zs.length cap) (.slice ad2 rs.length cap2) (.slice ad4 cs.length cap4) zs rs cs p br bc w8) := HT7.out.ext hb8; obtain ⟨a8, b8, c8⟩ := HT8.out.cells; clear hb8 a7 b7 c7 HT7; unfold xr)
      | (go_at_call 15; refine (HDd.out _ _ HT8.out.2.2.2.2.2.2 HT8.out.2.2.1).mono ?_; rintro e w9 ⟨v9, g9, rfl, -, hO9, hb9⟩; obtain ⟨ad9, cap9, rfl⟩ := slice_of hO9; have HO9 : Hid (NSlice w9 (.slice ad9 rs.length cap9) rs) := hO9.slice; have HT9 : Hid (DlSt w0 (.slice (some ⟨g, off, none⟩) zs.length cap) (.slice ad2 rs.length cap2) (.slice ad4 cs.length cap4) zs rs cs p br bc w9) := HT8.out.ext hb9; obtain ⟨a9, b9, c9⟩ := HT9.out.cells; clear hb9 hO9 a8 b8 c8 HT8; unfold zr)
      | (go_at_call 21; refine (HSm.out _ _ _ HO9.out HT9.out.2.1).mono ?_; rintro e wa ⟨rfl, hba⟩; have HTa : Hid (DlSt w0 (.slice (some ⟨g, off, none⟩) zs.length cap) (.slice ad2 rs.length cap2) (.slice ad4 cs.length cap4) zs rs cs p br bc wa) := HT9.out.ext hba; obtain ⟨aa, ba, ca⟩ := HTa.out.cells; clear hba a9 b9 c9 HT9))
    all_goals
      go_wp2
      go_ret
      exact ⟨rfl, HTa.out.2.2.2.2.2.1⟩
  · obtain ⟨ad2, cap2, rfl⟩ := slice_of hO2
    clear hO2 hE2 hg2 HIm
    unfold zr
    generalize (Tre.delV zs p n).1 = c at *
    generalize (Tre.delV zs p n).2.1 = t at *
    generalize (Tre.delV zs p n).2.2 = rs at *
    have e0 : (c != 0) = true := by simp [hc0]
    have ecc : (c == c) = true := by simp
    go_wp2
    go_region_with (go_at_call 20; refine (HSp.out _ (HS2.out.1.ext (((Ext.refl _).alloc _).drew))).mono ?_; rintro e w3 ⟨v3, g3, rfl, hg3, hO3, hb3⟩; obtain ⟨q, q0, q1, q2⟩ := (box_new w2 c t (.slice ad2 rs.length cap2) 28).ext (((Ext.refl _).drew).trans hb3); unfold zr)
    all_goals
      go_wp2
      go_ret
      exact ⟨ret_bool (by simp), HS2.out.2.1.trans ((((Ext.refl _).alloc _).drew).trans hb3)⟩
theorem lawDeletes_all (v : Value) (w : World) (hg : Gd w) (h : ∃ ad len cap, v = .slice ad len cap ∧ (len ≤ 1048576 → CodeOk w w.heap.size v)) :
    Calls Tryz.prog 5 #[v] w fun e w' => e = .returned (.bool true) ∧ Ext w w' := by
  obtain ⟨ad, len, cap, rfl, hc⟩ := h
  by_cases hl : 1048576 < len
  · exact lawDeletes_big ad len cap w hl
  · exact lawDeletes _ w hg (hc (by omega))
end Go.Proofs.YtgfoliafpjhjcaaGreatDoor
