/- Q4, Pj, I20, in one text. -/
import Derived.Test.YtilinjjimiiplaaGreatDoorKqJ24
import Derived.Test.YtilinjjimiiplaaGreatDoorKqT6
import Derived.Test.YtilinjjimiiplaaGreatDoorKqPure
import Derived.Test.YtilinjjimiiplaaGreatDoorKqJ15
import Derived.Test.YtilinjjimiiplaaGreatDoorKqJ8
import Derived.Test.YtilinjjimiiplaaGreatDoorKqJ22
import Derived.Test.YtilinjjimiiplaaGreatDoorKqT8
import Derived.Test.YtilinjjimiiplaaGreatDoorKqJ13
import Derived.Test.YtilinjjimiiplaaGreatDoorKqJ17
import Derived.Deep.RegionHeld3
namespace Go.Proofs.YtilinjjimiiplaaGreatDoor
open Go.RowKit
namespace Tre
theorem path_of {p : ByteArray} {z : Zn} (h : isAt p z = true) : z.path = p := ba_eq (isAt_iff.1 h)
theorem isAt_self (z : Zn) : isAt z.path z = true := isAt_iff.2 rfl
theorem nil_of_len {α : Type} {l : List α} (h : ¬ 0 < l.length) : l = [] := List.eq_nil_of_length_eq_zero (by omega)
/-- A parent is shorter. -/
theorem par_short {p : ByteArray} (h : Pth.faultI p.data.toList = 0) (ht : ¬ p.data.toList = [47]) : (par p).data.toList.length < p.data.toList.length := by
  rcases Pth.fault_cases p.data.toList with ⟨-, h1⟩ | ⟨-, -, h1⟩ | ⟨-, -, n, la, h1⟩
  · rw [h] at h1; cases h1
  · rw [h] at h1; cases h1
  · obtain ⟨-, -, r, h2, h3⟩ := Pth.rd_some _ n la ht h1
    have hl : 2 ≤ p.data.toList.length := by
      rw [h2]
      cases r with
      | nil => exact absurd rfl h3
      | cons a b => simp
    unfold par
    rw [mkB_list]
    rcases Pth.lastSl_lt p.data.toList 0 0 with h4 | h4
    · rw [h4, if_pos rfl]; simp only [List.length_cons, List.length_nil]; omega
    · split
      · simp only [List.length_cons, List.length_nil]; omega
      · rw [List.length_take]; omega
theorem par_ne {p : ByteArray} (h : Pth.faultI p.data.toList = 0) (ht : ¬ p.data.toList = [47]) : ¬ (par p).data.toList = p.data.toList := fun e => by
  have := par_short h ht; rw [e] at this; omega
/-- The node of a path taken out: all others. -/
theorem del_filter {zs : List Zn} {p : ByteArray} {k : Nat} {z : Zn} (hu : zs.Pairwise fun y z => key y < key z) (hz : zs[k]? = some z) (ha : isAt p z = true) :
    zs.take k ++ zs.drop (k + 1) = zs.filter fun y => !isAt p y := by
  obtain ⟨hk, he⟩ := List.getElem?_eq_some_iff.1 hz
  have e : zs = zs.take k ++ z :: zs.drop (k + 1) := by
    rw [← he, ← List.drop_eq_getElem_cons hk, List.take_append_drop]
  have hkey := isAt_iff.1 ha
  have h1 := hu
  rw [e, List.pairwise_append, List.pairwise_cons] at h1
  obtain ⟨-, ⟨h2, -⟩, h3⟩ := h1
  have f1 : (zs.take k).filter (fun y => !isAt p y) = zs.take k := by
    rw [List.filter_eq_self]
    intro y hy
    have h4 := h3 y hy z List.mem_cons_self
    cases h5 : isAt p y with
    | false => rfl
    | true => rw [isAt_iff.1 h5, hkey] at h4; exact absurd h4 (lt_irr _)
  have f2 : (zs.drop (k + 1)).filter (fun y => !isAt p y) = zs.drop (k + 1) := by
    rw [List.filter_eq_self]
    intro y hy
    have h4 := h2 y hy
    cases h5 : isAt p y with
    | false => rfl
    | true => rw [isAt_iff.1 h5, hkey] at h4; exact absurd h4 (lt_irr _)
  have f3 : zs.filter (fun y => !isAt p y) = (zs.take k ++ z :: zs.drop (k + 1)).filter (fun y => !isAt p y) := by rw [← e]
  rw [f3, List.filter_append, List.filter_cons, if_neg (by rw [ha]; simp), f1, f2]
theorem isKid_of {p : ByteArray} {y : Zn} (ht : ¬ key y = [47]) (h : (par y.path).data.toList = p.data.toList) : isKid p y = true := by
  unfold isKid
  rw [Lib.toList_data, Lib.toList_data, Lib.toList_data, h]
  simp only [beq_self_eq_true, Bool.and_true, Bool.not_eq_true', beq_eq_false_iff_ne, ne_eq]
  exact ht
theorem of_isKid {p : ByteArray} {y : Zn} (h : isKid p y = true) : (par y.path).data.toList = p.data.toList ∧ ¬ key y = [47] := by
  unfold isKid at h
  rw [Lib.toList_data, Lib.toList_data, Lib.toList_data] at h
  simp only [Bool.and_eq_true, Bool.not_eq_true', beq_eq_false_iff_ne, ne_eq, beq_iff_eq] at h
  exact ⟨h.2, h.1⟩
theorem kids_nil {zs : List Zn} {p : ByteArray} : kids zs p = [] ↔ ∀ y ∈ zs, isKid p y = false := by
  unfold kids
  rw [List.map_eq_nil_iff, List.filter_eq_nil_iff]
  exact ⟨fun h y hy => by simpa using h y hy, fun h y hy => by rw [h y hy]; simp⟩
theorem Good.del {zs : List Zn} (h : Good zs) {p : ByteArray} (hp : ¬ p.data.toList = [47]) (hk : ∀ y ∈ zs, isKid p y = false) : Good (zs.filter fun y => !isAt p y) := by
  refine ⟨Nat.le_trans (List.length_filter_le _ _) h.few, fun z hz => h.each z (List.mem_filter.1 hz).1, h.up.filter _, ?_, fun y hy => ?_⟩
  · obtain ⟨z, hz, ha⟩ := h.top
    refine ⟨z, List.mem_filter.2 ⟨hz, ?_⟩, ha⟩
    cases h5 : isAt p z with
    | false => rfl
    | true => exact absurd ((isAt_iff.1 h5).symm.trans (isAt_iff.1 ha)) hp
  · have hy0 := (List.mem_filter.1 hy).1
    obtain ⟨x, hx, ha, ho⟩ := h.hung y hy0
    refine ⟨x, List.mem_filter.2 ⟨hx, ?_⟩, ha, ho⟩
    cases h5 : isAt p x with
    | false => rfl
    | true =>
      exfalso
      have e : (par y.path).data.toList = p.data.toList := (isAt_iff.1 ha).symm.trans (isAt_iff.1 h5)
      by_cases ht : key y = [47]
      · rw [par_of_top (isAt_iff.2 ht)] at e; exact hp e.symm
      · have := isKid_of ht e
        rw [hk y hy0] at this; cases this
theorem putT_mem {bs : List Zn} {z y : Zn} : y ∈ putT bs z ↔ y = z ∨ y ∈ bs := by
  unfold putT
  rw [List.mem_append, List.mem_cons]
  constructor
  · rintro (h | h | h)
    · exact Or.inr (List.mem_of_mem_take h)
    · exact Or.inl h
    · exact Or.inr (List.mem_of_mem_drop h)
  · rintro (h | h)
    · exact Or.inr (Or.inl h)
    · rw [← List.take_append_drop (cut bs (key z)) bs] at h
      rcases List.mem_append.1 h with h | h
      · exact Or.inl h
      · exact Or.inr (Or.inr h)
theorem putT_len (bs : List Zn) (z : Zn) : (putT bs z).length = bs.length + 1 := by
  unfold putT
  have := cut_le bs (key z)
  rw [List.length_append, List.length_cons, List.length_take, List.length_drop]; omega
theorem putT_up {bs : List Zn} (hu : bs.Pairwise fun y z => key y < key z) {z : Zn} (hno : ∀ y ∈ bs, isAt z.path y = false) : (putT bs z).Pairwise fun y z => key y < key z := by
  have hU := up_pair.2 hu
  have h0 := hu
  rw [← List.take_append_drop (cut bs (key z)) bs, List.pairwise_append] at h0
  obtain ⟨h1, h2, h3⟩ := h0
  have ha : ∀ y ∈ bs.take (cut bs (key z)), key y < key z := fun y hy => by
    obtain ⟨i, hi⟩ := List.getElem?_of_mem hy
    rw [List.getElem?_take] at hi
    split at hi
    · rename_i h4; exact cut_lt h4 hi
    · cases hi
  have hb : ∀ y ∈ bs.drop (cut bs (key z)), key z < key y := fun y hy => by
    obtain ⟨i, hi⟩ := List.getElem?_of_mem hy
    rw [List.getElem?_drop] at hi
    have h4 := cut_ge hU (Nat.le_add_right _ i) hi
    refine lt_tot h4 fun e => ?_
    have := hno y (List.mem_of_mem_drop hy)
    rw [isAt_iff.2 e] at this; cases this
  unfold putT
  rw [List.pairwise_append, List.pairwise_cons]
  refine ⟨h1, ⟨hb, h2⟩, fun a ha' b hb' => ?_⟩
  rcases List.mem_cons.1 hb' with rfl | hb'
  · exact ha a ha'
  · exact lt_tr (ha a ha') (hb b hb')
theorem Good.put {bs : List Zn} (h : Good bs) {z : Zn} (hl : bs.length < 20) (hz : Pth.faultI z.path.data.toList = 0 ∧ okNums z = true) (hno : ∀ y ∈ bs, isAt z.path y = false) (hx : ∃ x ∈ bs, isAt (par z.path) x = true ∧ x.owner = 0) : Good (putT bs z) := by
  refine ⟨by rw [putT_len]; omega, fun y hy => ?_, putT_up h.up hno, ?_, fun y hy => ?_⟩
  · rcases putT_mem.1 hy with rfl | hy
    · exact hz
    · exact h.each y hy
  · obtain ⟨y, hy, ha⟩ := h.top
    exact ⟨y, putT_mem.2 (Or.inr hy), ha⟩
  · rcases putT_mem.1 hy with rfl | hy
    · obtain ⟨x, hx1, hx2⟩ := hx
      exact ⟨x, putT_mem.2 (Or.inr hx1), hx2⟩
    · obtain ⟨x, hx1, hx2⟩ := h.hung y hy
      exact ⟨x, putT_mem.2 (Or.inr hx1), hx2⟩
theorem putT_filter {bs : List Zn} {z : Zn} (hno : ∀ y ∈ bs, isAt z.path y = false) : (putT bs z).filter (fun y => !isAt z.path y) = bs := by
  unfold putT
  have f : ∀ l : List Zn, (∀ y ∈ l, y ∈ bs) → l.filter (fun y => !isAt z.path y) = l := fun l hl => by
    rw [List.filter_eq_self]
    intro y hy
    rw [hno y (hl y hy)]; rfl
  rw [List.filter_append, List.filter_cons, if_neg (by rw [isAt_self]; simp), f _ (fun y hy => List.mem_of_mem_take hy), f _ (fun y hy => List.mem_of_mem_drop hy), List.take_append_drop]
theorem asked_of {zs : List Zn} {p : ByteArray} (h : Good zs) (hp : Pth.faultI p.data.toList = 0) : asked zs p = 0 := by
  unfold asked; rw [h.fault, if_neg (by decide)]; exact hp
theorem at_of {zs : List Zn} {p : ByteArray} {z : Zn} (hu : zs.Pairwise fun y z => key y < key z) (hz : z ∈ zs) (ha : isAt p z = true) : ∃ k : Nat, atI zs p = k ∧ zs[k]? = some z := by
  rcases atI_range zs p with ⟨-, h2⟩ | ⟨k, y, hk, -, hy, hya⟩
  · rw [h2 z hz] at ha; cases ha
  · exact ⟨k, hk, by rw [hy, up_one hu (List.mem_of_getElem? hy) hz hya ha]⟩
theorem top_false {p : ByteArray} (h : ¬ p.data.toList = [47]) : (p.toList == [47]) = false := by
  rw [Lib.toList_data]; simpa using h
/-- What a deletion without a code says of the tree, and leaves. -/
theorem del_zero {zs : List Zn} {p : ByteArray} {n : Int} (h : (delV zs p n).1 = 0) : Good zs ∧ Pth.faultI p.data.toList = 0 ∧ (¬ p.data.toList = [47]) ∧ kids zs p = [] ∧ (∃ z ∈ zs, isAt p z = true) ∧ delV zs p n = (0, ⟨#[]⟩, zs.filter fun y => !isAt p y) ∧ (zs.filter fun y => !isAt p y).length + 1 = zs.length := by
  by_cases h0 : asked zs p = 0
  · obtain ⟨h1, h2⟩ := asked_fault h0
    have hG := good_of h1
    rw [delV_ok h0] at h ⊢
    by_cases ht : p.data.toList = [47]
    · rw [delT_top (by rw [Lib.toList_data, ht]; rfl)] at h; cases h
    have htf := top_false ht
    rcases atI_range zs p with ⟨hm, -⟩ | ⟨k, z, hk, hkl, hz, ha⟩
    · rw [delT_none htf (by omega)] at h; cases h
    rw [delT_some htf hk hz] at h ⊢
    split at h
    · cases h
    rename_i hv
    split at h
    · cases h
    rename_i hkd
    rw [if_neg hv, if_neg hkd, del_filter hG.up hz ha]
    refine ⟨hG, h2, ht, nil_of_len hkd, ⟨z, List.mem_of_getElem? hz, ha⟩, rfl, ?_⟩
    rw [← del_filter hG.up hz ha, List.length_append, List.length_take, List.length_drop]; omega
  · rw [delV_bad rfl h0] at h; exact absurd h h0
end Tre
end Go.Proofs.YtilinjjimiiplaaGreatDoor
namespace Go.Proofs.YtilinjjimiiplaaGreatDoor
namespace Pth
theorem okName_count {n : List UInt8} (h : okName n = true) : n.count 47 = 0 := by
  unfold okName at h
  simp only [Bool.and_eq_true] at h
  rw [List.count_eq_zero]
  intro hm
  have := List.all_eq_true.1 h.1 47 hm
  revert this; decide

theorem lastSl_app (l n : List UInt8) (hn : n.count 47 = 0) : ∀ i a, lastSl (l ++ 47 :: n) i a = i + l.length := by
  induction l with
  | nil => intro i a; simp only [List.nil_append, lastSl, if_true]; rw [count_lastSl n _ _ hn]; simp
  | cons c r ih =>
    intro i a
    simp only [List.cons_append, lastSl, List.length_cons]
    split
    · rw [ih]; omega
    · rw [ih]; omega

theorem joined_form (p n : List UInt8) (hp : p ≠ []) : (p = [47] ∧ joined p n = [] ++ 47 :: n) ∨ (p ≠ [47] ∧ p ≠ [] ∧ joined p n = p ++ 47 :: n) := by
  unfold joined
  by_cases h : p = [47]
  · left; exact ⟨h, by rw [if_pos h]; rfl⟩
  · right; exact ⟨h, hp, by rw [if_neg h]⟩

theorem path_ne {p : List UInt8} (h : faultI p = 0) : p ≠ [] := by
  rintro rfl; revert h; decide

theorem joined_ne_top {p n : List UInt8} (hp : faultI p = 0) (hn : okName n = true) : joined p n ≠ [47] := by
  have hne : n ≠ [] := by rintro rfl; revert hn; decide
  rcases joined_form p n (path_ne hp) with ⟨_, h⟩ | ⟨_, h1, h⟩
  · rw [h]; simpa using hne
  · rw [h]
    intro e
    have := congrArg List.length e
    have hl : 0 < n.length := List.length_pos_iff.2 hne
    simp at this
    omega
theorem parent_joined {p n : List UInt8} (hp : faultI p = 0) (hn : okName n = true) (hj : faultI (joined p n) = 0) : parentV (joined p n) = (0, p) := by
  unfold parentV
  rw [hj, if_neg (by decide), if_neg (joined_ne_top hp hn)]
  have hc := okName_count hn
  rcases joined_form p n (path_ne hp) with ⟨h1, h⟩ | ⟨h1, h2, h⟩
  · rw [h, lastSl_app [] n hc, if_pos (by simp), h1]
  · rw [h, lastSl_app p n hc, if_neg, Nat.zero_add, List.take_left]
    have : p.length ≠ 0 := fun e => h2 (List.eq_nil_of_length_eq_zero e)
    omega
end Pth
end Go.Proofs.YtilinjjimiiplaaGreatDoor
namespace Go.Proofs.YtilinjjimiiplaaGreatDoor
open Go.RowKit
namespace Pth
end Pth
namespace Tre
def numV (p : ByteArray) (y : Zn) : Int × List UInt8 :=
  if 100 ≤ y.next then (3, []) else if Pth.okName (seqN p y.next).data.toList = false then (5, [])
  else if Pth.faultI (seqP p y.next).data.toList ≠ 0 then (Pth.faultI (seqP p y.next).data.toList, []) else (0, (seqP p y.next).data.toList)
end Tre
/-- A code and a text in a box that may be written. -/
def NWr (w : World) (b : Nat) (c : Int) (t : ByteArray) : Prop := b < w.heap.size ∧ w.cell? ⟨b, 0, none⟩ = some (.int .i64 c) ∧ w.cell? ⟨b, 1, none⟩ = some (.string t) ∧ w.frozen? ⟨b, 0, none⟩ = false ∧ w.frozen? ⟨b, 1, none⟩ = false
theorem NWr.ext {w w' : World} {b : Nat} {c : Int} {t : ByteArray} (h : NWr w b c t) (he : Ext w w') : NWr w' b c t := by
  obtain ⟨hc, hf⟩ := Ext.cell he
  obtain ⟨hb, c0, c1, f0, f1⟩ := h
  exact ⟨Nat.lt_of_lt_of_le hb he.size, (hc _ _ hb).trans c0, (hc _ _ hb).trans c1, (hf _ _ hb).trans f0, (hf _ _ hb).trans f1⟩
/-- A statement that goes on, and nothing else. -/
def OnlyZ (R : Act → World → Prop) : Exit → Act → World → Prop
  | .normal, a, w => R a w
  | _, _, _ => False
theorem OnlyZ.out {R : Act → World → Prop} {e : Exit} {a : Act} {w : World} (h : OnlyZ R e a w) : e = .normal ∧ R a w := by
  cases e <;> first | exact ⟨rfl, h⟩ | exact (h : False).elim

end Go.Proofs.YtilinjjimiiplaaGreatDoor
