/- Q5, PF2, in one text. -/
import Derived.Test.YtilinjjimiiplaaGreatDoorKqJ25
import Derived.Test.YtilinjjimiiplaaGreatDoorKqJ24
import Derived.Test.YtilinjjimiiplaaGreatDoorKqJ20
namespace Go.Proofs.YtilinjjimiiplaaGreatDoor
open Go.RowKit
namespace Tre
/-- A node whose path and owner stay may turn. -/
theorem Good.turn {zs : List Zn} (h : Good zs) {k : Nat} {y y' : Zn} (hy : zs[k]? = some y) (hp : y'.path = y.path) (ho : y'.owner = y.owner) (hn : okNums y' = true) : Good (zs.set k y') := by
  have hk := (List.getElem?_eq_some_iff.1 hy).1
  have hym := List.mem_of_getElem? hy
  have hin : y' ∈ zs.set k y' := List.mem_of_getElem? (List.getElem?_set_self hk)
  have hat : ∀ q x, x ∈ zs → isAt q x = true → ∃ x' ∈ zs.set k y', isAt q x' = true ∧ x'.owner = x.owner := fun q x hx ha => by
    obtain ⟨i, hi⟩ := List.getElem?_of_mem hx
    by_cases hik : i = k
    · subst hik
      rw [hy] at hi; cases hi
      exact ⟨y', hin, by rw [isAt_iff] at ha ⊢; unfold key at ha ⊢; rw [hp]; exact ha, ho⟩
    · exact ⟨x, List.mem_of_getElem? (by rw [List.getElem?_set_ne (Ne.symm hik)]; exact hi), ha, rfl⟩
  refine ⟨by simpa using h.few, fun z hz => ?_, ?_, ?_, fun z hz => ?_⟩
  · rcases List.mem_or_eq_of_mem_set hz with hz | rfl
    · exact h.each z hz
    · exact ⟨by rw [hp]; exact (h.each y hym).1, hn⟩
  · rw [List.pairwise_iff_getElem]
    intro i j hi hj hij
    rw [List.length_set] at hi hj
    have h0 := (List.pairwise_iff_getElem.1 h.up) i j hi hj hij
    have e : ∀ t (ht : t < zs.length), key ((zs.set k y')[t]'(by simpa using ht)) = key zs[t] := fun t ht => by
      rw [List.getElem_set]
      split
      · rename_i hkt; subst hkt
        have : zs[k] = y := (List.getElem?_eq_some_iff.1 hy).2
        rw [this]; unfold key; rw [hp]
      · rfl
    rw [e i hi, e j hj]; exact h0
  · obtain ⟨z, hz, ha⟩ := h.top
    obtain ⟨x, hx, hxa, -⟩ := hat _ z hz ha
    exact ⟨x, hx, hxa⟩
  · have hz' : ∃ z0 ∈ zs, z.path = z0.path := by
      rcases List.mem_or_eq_of_mem_set hz with hz | rfl
      · exact ⟨z, hz, rfl⟩
      · exact ⟨y, hym, hp⟩
    obtain ⟨z0, hz0, he⟩ := hz'
    obtain ⟨x, hx, hxa, hxo⟩ := h.hung z0 hz0
    obtain ⟨x', hx', ha', ho'⟩ := hat _ x hx hxa
    exact ⟨x', hx', by rw [he]; exact ha', ho'.trans hxo⟩
theorem set_paths {zs : List Zn} {k : Nat} {y y' : Zn} (hy : zs[k]? = some y) (hp : y'.path = y.path) {q : ByteArray} (h : ∀ x ∈ zs, isAt q x = false) : ∀ x ∈ zs.set k y', isAt q x = false := fun x hx => by
  rcases List.mem_or_eq_of_mem_set hx with hx | rfl
  · exact h x hx
  · have := h y (List.mem_of_getElem? hy)
    unfold isAt at this ⊢; rw [hp]; exact this
theorem at_none {zs : List Zn} {p : ByteArray} (h : ¬ 0 ≤ atI zs p) : ∀ y ∈ zs, isAt p y = false := fun y hy => by
  cases h5 : isAt p y with
  | false => rfl
  | true => exact absurd (atI_mem.2 ⟨y, hy, h5⟩) h
theorem par_seq {p : ByteArray} {n : Int} (hp : Pth.faultI (par p).data.toList = 0) (hn : Pth.okName (seqN p n).data.toList = true) (hf : Pth.faultI (seqP p n).data.toList = 0) : par (seqP p n) = par p ∧ ¬ (seqP p n).data.toList = [47] := by
  unfold seqP at hf ⊢
  rw [mkB_list] at hf ⊢
  have h1 := Pth.parent_joined hp hn hf
  have h2 := Pth.joined_ne_top hp hn
  refine ⟨?_, h2⟩
  unfold Pth.parentV at h1
  rw [hf, if_neg (by decide), if_neg h2] at h1
  simp only [Prod.mk.injEq, true_and] at h1
  unfold par
  rw [mkB_list]
  refine ba_eq ?_
  rw [mkB_list]
  refine h1.trans ?_
  unfold par; rw [mkB_list]
theorem nums_of {zs : List Zn} (h : Good zs) {z : Zn} (hz : z ∈ zs) : 0 ≤ z.data ∧ z.data ≤ 9999 ∧ 0 ≤ z.version ∧ z.version ≤ 999 ∧ 0 ≤ z.owner ∧ z.owner ≤ 9 ∧ 0 ≤ z.next ∧ z.next ≤ 100 := by
  have := (h.each z hz).2
  unfold okNums at this
  simp only [Bool.and_eq_true, decide_eq_true_eq] at this
  omega
theorem okNums_of {z : Zn} (h : 0 ≤ z.data ∧ z.data ≤ 9999 ∧ 0 ≤ z.version ∧ z.version ≤ 999 ∧ 0 ≤ z.owner ∧ z.owner ≤ 9 ∧ 0 ≤ z.next ∧ z.next ≤ 100) : okNums z = true := by
  unfold okNums; simp only [Bool.and_eq_true, decide_eq_true_eq]; omega
/-- What a creation is. -/
structure Made (zs : List Zn) (p : ByteArray) (d o : Int) (q : Bool) (pa : ByteArray) (bs : List Zn) : Prop where
  good : Good zs
  path : Pth.faultI p.data.toList = 0
  base : Good bs
  right : Pth.faultI pa.data.toList = 0
  notTop : ¬ pa.data.toList = [47]
  new : ∀ y ∈ bs, isAt pa y = false
  newZ : ∀ y ∈ zs, isAt pa y = false
  hangs : ∃ x ∈ bs, isAt (par pa) x = true ∧ x.owner = 0
  few : bs.length < 20
  many : bs.length = zs.length
  nums : 0 ≤ d ∧ d ≤ 9999 ∧ 0 ≤ o ∧ o ≤ 9
  sameP : par pa = par p
  pTop : ¬ p.data.toList = [47]
  plain : q = false → pa = p ∧ bs = zs
  seqd : q = true → ∃ (k : Nat) (y : Zn), atI zs (par p) = k ∧ zs[k]? = some y ∧ pa = seqP p y.next ∧ bs = zs.set k { y with next := y.next + 1 } ∧ 0 ≤ y.next ∧ y.next < 100 ∧ Pth.okName (seqN p y.next).data.toList = true
theorem create_zero {zs : List Zn} {p : ByteArray} {d o : Int} {q : Bool} (h : (createV zs p d o q).1 = 0) : ∃ pa bs, createV zs p d o q = (0, pa, putT bs ⟨pa, d, 0, o, 0⟩) ∧ Made zs p d o q pa bs := by
  by_cases h0 : asked zs p = 0
  · obtain ⟨h1, h2⟩ := asked_fault h0
    have hG := good_of h1
    rw [createV_ok h0] at h ⊢
    cases hdo : (okData d && okOwner o) with
    | false => rw [createT_range hdo] at h; cases h
    | true =>
    by_cases ht : p.data.toList = [47]
    · rw [createT_top hdo (by rw [Lib.toList_data, ht]; rfl)] at h; cases h
    have htf := top_false ht
    rcases atI_range zs (par p) with ⟨hm, -⟩ | ⟨k, y, hk, hkl, hy, ha⟩
    · rw [createT_none hdo htf (by omega)] at h; cases h
    rw [createT_some hdo htf hk hy] at h ⊢
    by_cases ho : y.owner = 0
    rotate_left
    · rw [if_pos ho] at h; cases h
    rw [if_neg (by rw [ho]; simp)] at h ⊢
    have hym := List.mem_of_getElem? hy
    have hnum : 0 ≤ d ∧ d ≤ 9999 ∧ 0 ≤ o ∧ o ≤ 9 := by
      unfold okData okOwner at hdo
      simp only [Bool.and_eq_true, decide_eq_true_eq] at hdo
      omega
    cases q with
    | false =>
      rw [if_neg (by decide)] at h ⊢
      unfold finT at h ⊢
      by_cases hat : 0 ≤ atI zs p
      · rw [if_pos hat] at h; cases h
      rw [if_neg hat] at h ⊢
      by_cases hl : 20 ≤ zs.length
      · rw [if_pos hl] at h; cases h
      rw [if_neg hl]
      exact ⟨p, zs, rfl, ⟨hG, h2, hG, h2, ht, at_none hat, at_none hat, ⟨y, hym, ha, ho⟩, by omega, rfl, hnum, rfl, ht, fun _ => ⟨rfl, rfl⟩, fun h => by cases h⟩⟩
    | true =>
      rw [if_pos rfl] at h ⊢
      by_cases hs : (seqT zs p k y).1 = 0
      rotate_left
      · rw [if_pos hs] at h; exact absurd h hs
      rw [if_neg (by rw [hs]; simp)] at h ⊢
      have hsq : y.next < 100 ∧ Pth.okName (seqN p y.next).data.toList = true ∧ Pth.faultI (seqP p y.next).data.toList = 0 ∧ seqT zs p k y = (0, seqP p y.next, zs.set k { y with next := y.next + 1 }) := by
        unfold seqT at hs ⊢
        split at hs
        · cases hs
        rename_i a1
        split at hs
        · cases hs
        rename_i a2
        split at hs
        · rename_i a3; exact absurd hs a3
        rename_i a3
        rw [if_neg a1, if_neg a2, if_neg a3]
        exact ⟨by omega, by simpa using a2, by simpa using a3, rfl⟩
      obtain ⟨b1, b2, b3, b4⟩ := hsq
      rw [b4] at h ⊢
      dsimp only at h ⊢
      unfold finT at h ⊢
      by_cases hat : 0 ≤ atI zs (seqP p y.next)
      · rw [if_pos hat] at h; cases h
      rw [if_neg hat] at h ⊢
      by_cases hl : 20 ≤ zs.length
      · rw [if_pos hl] at h; cases h
      rw [if_neg hl]
      have hyn := nums_of hG hym
      have hB : Good (zs.set k { y with next := y.next + 1 }) := hG.turn hy rfl rfl (okNums_of (by show _; simp only; omega))
      have hpp : Pth.faultI (par p).data.toList = 0 := by
        have := (hG.each y hym).1
        rw [path_of ha] at this; exact this
      obtain ⟨c1, c2⟩ := par_seq hpp b2 b3
      refine ⟨seqP p y.next, zs.set k { y with next := y.next + 1 }, rfl, ⟨hG, h2, hB, b3, c2, set_paths (y' := { y with next := y.next + 1 }) hy rfl (at_none hat), at_none hat, ⟨{ y with next := y.next + 1 }, List.mem_of_getElem? (List.getElem?_set_self hkl), ?_, ho⟩, by simp; omega, by simp, hnum, c1, ht, (fun h => by cases h), fun _ => ⟨k, y, hk, hy, rfl, rfl, hyn.2.2.2.2.2.2.1, b1, b2⟩⟩⟩
      rw [c1]; exact ha
  · rw [createV_bad rfl h0] at h; exact absurd h h0
theorem Made.tree {zs : List Zn} {p : ByteArray} {d o : Int} {q : Bool} {pa : ByteArray} {bs : List Zn} (h : Made zs p d o q pa bs) : Good (putT bs ⟨pa, d, 0, o, 0⟩) :=
  h.base.put h.few ⟨h.right, okNums_of (by have := h.nums; show _; simp only; omega)⟩ h.new h.hangs
/-- No node is a kid of what is new. -/
theorem Made.noKid {zs : List Zn} {p : ByteArray} {d o : Int} {q : Bool} {pa : ByteArray} {bs : List Zn} (h : Made zs p d o q pa bs) : kids (putT bs ⟨pa, d, 0, o, 0⟩) pa = [] := kids_nil.2 fun y hy => by
  cases h5 : isKid pa y with
  | false => rfl
  | true =>
    exfalso
    have hk := (of_isKid h5).1
    rcases putT_mem.1 hy with rfl | hy
    · exact par_ne h.right h.notTop hk
    · obtain ⟨x, hx, hxa, -⟩ := h.base.hung y hy
      have := h.new x hx
      rw [isAt_iff.2 ((isAt_iff.1 hxa).trans hk)] at this; cases this
/-- What is new may be deleted, and what was there is left. -/
theorem Made.del {zs : List Zn} {p : ByteArray} {d o : Int} {q : Bool} {pa : ByteArray} {bs : List Zn} (h : Made zs p d o q pa bs) : delV (putT bs ⟨pa, d, 0, o, 0⟩) pa (-1) = (0, ⟨#[]⟩, bs) := by
  have hT := h.tree
  have ha : isAt pa (⟨pa, d, 0, o, 0⟩ : Zn) = true := isAt_iff.2 rfl
  obtain ⟨i, hi, hiz⟩ := at_of hT.up (putT_mem.2 (Or.inl rfl)) ha
  rw [delV_ok (asked_of hT h.right), delT_some (top_false h.notTop) hi hiz, if_neg (by simp), if_neg (by rw [h.noKid]; simp), del_filter hT.up hiz ha]
  have := putT_filter (bs := bs) (z := ⟨pa, d, 0, o, 0⟩) h.new
  rw [this]
end Tre
end Go.Proofs.YtilinjjimiiplaaGreatDoor
namespace Go.Proofs.YtilinjjimiiplaaGreatDoor
open Go.RowKit
namespace Tre
theorem Good.kept {zs : List Zn} (h : Good zs) : Kept zs := by
  obtain ⟨z, hz, ht⟩ := h.top
  refine ⟨h.few, ⟨z, hz, isAt_iff.1 ht⟩, fun y hy => ?_⟩
  have h1 := h.each y hy
  have h2 := nums_of h hy
  exact ⟨h1.1, h2.2.2.1, h2.2.2.2.2.2.2.1⟩
theorem good_new {d : Int} (h : (newT d).1 = 0) : Good (newT d).2.2 := by
  have hd : okData d = true := by
    unfold newT at h
    split at h
    · assumption
    · simp at h
  unfold newT
  rw [if_pos hd]
  have ht : par top = top := par_of_top (z := ⟨top, d, 0, 0, 0⟩) (isAt_iff.2 rfl)
  refine ⟨by simp, ?_, by simp, ⟨_, List.mem_singleton.2 rfl, isAt_iff.2 rfl⟩, ?_⟩
  · intro z hz
    rw [List.mem_singleton.1 hz]
    refine ⟨show Pth.faultI top.data.toList = 0 from by decide, ?_⟩
    unfold okData at hd
    exact okNums_of (by simp at hd ⊢; omega)
  · intro z hz
    rw [List.mem_singleton.1 hz]
    refine ⟨_, List.mem_singleton.2 rfl, ?_, rfl⟩
    rw [ht]
    exact isAt_iff.2 rfl
theorem good_create {zs : List Zn} {p : ByteArray} {d o : Int} {q : Bool} (h : Good zs) (hf : Pth.faultI p.data.toList = 0) (h0 : (createT zs p d o q).1 = 0) : Good (createT zs p d o q).2.2 := by
  rw [← createV_ok (asked_of h hf)] at h0 ⊢
  obtain ⟨pa, bs, he, hm⟩ := create_zero h0
  rw [he]
  exact hm.tree
theorem good_set {zs : List Zn} {p : ByteArray} {d n : Int} (h : Good zs) (hf : Pth.faultI p.data.toList = 0) (h0 : (setT zs p d n).1 = 0) : Good (setT zs p d n).2.2 := by
  rw [← setV_ok (asked_of h hf)] at h0 ⊢
  obtain ⟨k, z, hz, hd, hv0, hv1, -, he, hf, -⟩ := set_all h0
  rw [he]
  exact fault_good.1 hf
theorem good_del {zs : List Zn} {p : ByteArray} {n : Int} (h : Good zs) (hf : Pth.faultI p.data.toList = 0) (h0 : (delT zs p n).1 = 0) : Good (delT zs p n).2.2 := by
  rw [← delV_ok (asked_of h hf)] at h0 ⊢
  obtain ⟨-, -, ht, hk, -, he, -⟩ := del_zero h0
  rw [he]
  exact h.del ht (kids_nil.1 hk)
end Tre
end Go.Proofs.YtilinjjimiiplaaGreatDoor
