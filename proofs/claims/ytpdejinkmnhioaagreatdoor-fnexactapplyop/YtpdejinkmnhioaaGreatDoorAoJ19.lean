/- Q3, Q4, Pj, I9, W6, in one text. -/
import Derived.Test.YtpdejinkmnhioaaGreatDoorAoJ8
import Derived.Test.YtpdejinkmnhioaaGreatDoorAoJ15
import Derived.Test.YtpdejinkmnhioaaGreatDoorAoJ11
import Derived.Test.YtpdejinkmnhioaaGreatDoorAoJ0
import Derived.Test.YtpdejinkmnhioaaGreatDoorAoJ10
import Derived.Test.YtpdejinkmnhioaaGreatDoorAoJ7
import Derived.Test.YtpdejinkmnhioaaGreatDoorAoJ9
import Derived.Test.YtpdejinkmnhioaaGreatDoorAoMk
namespace Go.Proofs.YtpdejinkmnhioaaGreatDoor
open Go.RowKit
namespace Tre
/-- A tree without fault. -/
structure Good (zs:List Zn):Prop where
 few:zs.length≤20
 each:∀ z ∈ zs,Pth.faultI z.path.data.toList=0∧okNums z=true
 up:zs.Pairwise fun y z=>key y < key z
 top:∃ z ∈ zs,isAt top z=true
 hung:∀ z ∈ zs,∃ y ∈ zs,isAt (par z.path) y=true∧y.owner=0
theorem atI_mem {zs:List Zn} {p:ByteArray} : 0≤atI zs p↔∃ z ∈ zs,isAt p z=true:=by
 constructor
 ·intro h
  rcases atI_range zs p with ⟨h1,-⟩ | ⟨k,z,-,-,hz,ha⟩
  ·omega
  ·exact⟨z,List.mem_of_getElem? hz,ha⟩
 ·rintro⟨z,hz,ha⟩
  rcases atI_range zs p with ⟨-,h2⟩ | ⟨k,_,hk,-,-,-⟩
  ·rw [h2 z hz] at ha;cases ha
  ·omega
theorem up_pair {zs:List Zn} : Up zs↔zs.Pairwise fun y z=>key y < key z:=by
 rw [List.pairwise_iff_getElem]
 constructor
 ·intro h i j hi hj hij
  exact up_lt' h hij (List.getElem?_eq_getElem hi) (List.getElem?_eq_getElem hj)
 ·intro h i y z hy hz
  obtain⟨hi,rfl⟩:=List.getElem?_eq_some_iff.1 hy
  obtain⟨hj,rfl⟩:=List.getElem?_eq_some_iff.1 hz
  exact h i (i+1) hi hj (by omega)
/-- Of those that rise only one is at a path. -/
theorem up_one {zs:List Zn} (h:zs.Pairwise fun y z=>key y < key z) {p:ByteArray} {y z:Zn} (hy:y ∈ zs) (hz:z ∈ zs) (ay:isAt p y=true) (az:isAt p z=true):y=z:=by
 obtain⟨i,hi⟩:=List.getElem?_of_mem hy
 obtain⟨j,hj⟩:=List.getElem?_of_mem hz
 have e:key y=key z:=(isAt_iff.1 ay).trans (isAt_iff.1 az).symm
 have hu:=up_pair.2 h
 rcases Nat.lt_trichotomy i j with hlt | heq | hgt
 ·exact absurd e (lt_ne (up_lt' hu hlt hi hj))
 ·subst heq;exact Option.some.inj (hi.symm.trans hj)
 ·exact absurd e.symm (lt_ne (up_lt' hu hgt hj hi))
theorem good_of {zs:List Zn} (h:fault zs=0):Good zs:=by
 obtain⟨hl,hN⟩:=fault_nodes h
 obtain⟨ht,hP,hO⟩:=fault_hang h
 refine⟨hl,?_,up_pair.1 (up_of_nodes hN),atI_mem.1 ht,?_⟩
 ·intro z hz
  obtain⟨j,hj⟩:=List.getElem?_of_mem hz
  exact nodeC_ok hj (hN j (List.getElem?_eq_some_iff.1 hj).1)
 ·intro z hz
  obtain⟨j,hj⟩:=List.getElem?_of_mem hz
  have hjl:=(List.getElem?_eq_some_iff.1 hj).1
  have h1:=hP j hjl
  rw [parC_eq hj] at h1
  rcases atI_range zs (par z.path) with ⟨h2,-⟩ | ⟨k,y,hk,-,hy,ha⟩
  ·rw [if_pos (by omega)] at h1;cases h1
  ·have h3:=hO j hjl
   rw [ownC_eq hj hk hy] at h3
   refine⟨y,List.mem_of_getElem? hy,ha,?_⟩
   by_cases h0:y.owner=0
   ·exact h0
   ·rw [if_pos h0] at h3;cases h3
theorem Good.fault {zs:List Zn} (h:Good zs):fault zs=0:=by
 have hu:=up_pair.2 h.up
 refine fault_own (by have:=h.few;omega) (first_none fun j hj=>?_) (by have:=atI_mem.2 h.top;omega) (first_none fun j hj=>?_) (first_none fun j hj=>?_)
 ·obtain⟨z,hz⟩:∃ z,zs[j]?=some z:=⟨_,List.getElem?_eq_getElem hj⟩
  obtain⟨f0,n0⟩:=h.each z (List.mem_of_getElem? hz)
  match j,hj,hz with
  | 0,hj,hz=>exact nodeC_zero hz f0.symm n0
  | m+1,hj,hz =>
   obtain⟨y,hy⟩:∃ y,zs[m]?=some y:=⟨_,List.getElem?_eq_getElem (by omega)⟩
   rw [nodeC_succ hz hy f0.symm n0,notUp_iff.2 (hu m y z hy hz),if_neg (by simp)]
 ·obtain⟨z,hz⟩:∃ z,zs[j]?=some z:=⟨_,List.getElem?_eq_getElem hj⟩
  obtain⟨y,hy,ha,-⟩:=h.hung z (List.mem_of_getElem? hz)
  rw [parC_eq hz,if_neg (by have:=atI_mem.2 ⟨y,hy,ha⟩;omega)]
 ·obtain⟨z,hz⟩:∃ z,zs[j]?=some z:=⟨_,List.getElem?_eq_getElem hj⟩
  obtain⟨y,hy,ha,ho⟩:=h.hung z (List.mem_of_getElem? hz)
  rcases atI_range zs (par z.path) with ⟨-,h2⟩ | ⟨k,y',hk,-,hy',ha'⟩
  ·rw [h2 y hy] at ha;cases ha
  ·have he:y'=y:=up_one h.up (List.mem_of_getElem? hy') hy ha' ha
   rw [ownC_eq hz hk hy',he,if_neg (by simpa using ho)]
/-- The parent of the top is the top. -/
theorem par_of_top {z:Zn} (h:isAt top z=true):par z.path=top:=by
 have h1:=isAt_iff.1 h
 unfold key at h1
 unfold par
 rw [h1]
 rfl
/-- What is left of a tree where each that nobody owns is left: a tree. -/
theorem Good.part {zs:List Zn} (h:Good zs) (f:Zn→Bool) (hf:∀ z ∈ zs,z.owner=0→f z=true):Good (zs.filter f):=by
 refine⟨Nat.le_trans (List.length_filter_le _ _) h.few,fun z hz=>h.each z ((List.mem_filter.1 hz).1),h.up.filter _,?_,fun z hz=>?_⟩
 ·obtain⟨z,hz,ha⟩:=h.top
  obtain⟨y,hy,hb,ho⟩:=h.hung z hz
  rw [par_of_top ha] at hb
  exact⟨y,List.mem_filter.2 ⟨hy,hf y hy ho⟩,hb⟩
 ·obtain⟨y,hy,hb,ho⟩:=h.hung z ((List.mem_filter.1 hz).1)
  exact⟨y,List.mem_filter.2 ⟨hy,hf y hy ho⟩,hb,ho⟩
/-- A node of a tree is got of a part of it just if it is in that part. -/
theorem Good.got {zs:List Zn} (h:Good zs) {f:Zn→Bool} (hg:Good (zs.filter f)) {z:Zn} (hz:z ∈ zs):((getT (zs.filter f) z.path).1 == 0)=f z:=by
 have hA:asked (zs.filter f) z.path=0:=by unfold asked;rw [hg.fault,if_neg (by simp)];exact (h.each z hz).1
 have hzz:isAt z.path z=true:=isAt_iff.2 rfl
 cases hfz:f z with
 | true =>
  rcases atI_range (zs.filter f) z.path with ⟨-,h2⟩ | ⟨k,y,hk,-,hy,-⟩
  ·rw [h2 z (List.mem_filter.2 ⟨hz,hfz⟩)] at hzz;cases hzz
  ·rw [getT_ok hA hk hy];rfl
 | false =>
  have hm:atI (zs.filter f) z.path < 0:=by
   rcases atI_range (zs.filter f) z.path with ⟨h1,-⟩ | ⟨k,y,-,-,hy,ha⟩
   ·omega
   ·have hy2:=List.mem_filter.1 (List.mem_of_getElem? hy)
    have:=up_one h.up hy2.1 hz ha hzz
    rw [this,hfz] at hy2
    exact absurd hy2.2 (by simp)
  rw [getT_none hA hm];rfl
end Tre
end Go.Proofs.YtpdejinkmnhioaaGreatDoor
namespace Go.Proofs.YtpdejinkmnhioaaGreatDoor
open Go.RowKit
namespace Tre
theorem path_of {p:ByteArray} {z:Zn} (h:isAt p z=true):z.path=p:=ba_eq (isAt_iff.1 h)
theorem isAt_self (z:Zn):isAt z.path z=true:=isAt_iff.2 rfl
theorem nil_of_len {α:Type} {l:List α} (h:¬ 0 < l.length):l = []:=List.eq_nil_of_length_eq_zero (by omega)
/-- A parent is shorter. -/
theorem par_short {p:ByteArray} (h:Pth.faultI p.data.toList=0) (ht:¬ p.data.toList = [47]):(par p).data.toList.length < p.data.toList.length:=by
 rcases Pth.fault_cases p.data.toList with ⟨-,h1⟩ | ⟨-,-,h1⟩ | ⟨-,-,n,la,h1⟩
 ·rw [h] at h1;cases h1
 ·rw [h] at h1;cases h1
 ·obtain⟨-,-,r,h2,h3⟩:=Pth.rd_some _ n la ht h1
  have hl:2≤p.data.toList.length:=by
   rw [h2]
   cases r with
   | nil=>exact absurd rfl h3
   | cons a b=>simp
  unfold par
  rw [mkB_list]
  rcases Pth.lastSl_lt p.data.toList 0 0 with h4 | h4
  ·rw [h4,if_pos rfl];simp only [List.length_cons,List.length_nil];omega
  ·split
   ·simp only [List.length_cons,List.length_nil];omega
   ·rw [List.length_take];omega
theorem par_ne {p:ByteArray} (h:Pth.faultI p.data.toList=0) (ht:¬ p.data.toList = [47]):¬ (par p).data.toList=p.data.toList:=fun e=>by
 have:=par_short h ht;rw [e] at this;omega
/-- The node of a path taken out: all others. -/
theorem del_filter {zs:List Zn} {p:ByteArray} {k:Nat} {z:Zn} (hu:zs.Pairwise fun y z=>key y < key z) (hz:zs[k]?=some z) (ha:isAt p z=true) :
  zs.take k ++ zs.drop (k+1)=zs.filter fun y=>!isAt p y:=by
 obtain⟨hk,he⟩:=List.getElem?_eq_some_iff.1 hz
 have e:zs=zs.take k ++ z :: zs.drop (k+1):=by
  rw [← he,← List.drop_eq_getElem_cons hk,List.take_append_drop]
 have hkey:=isAt_iff.1 ha
 have h1:=hu
 rw [e,List.pairwise_append,List.pairwise_cons] at h1
 obtain⟨-,⟨h2,-⟩,h3⟩:=h1
 have f1:(zs.take k).filter (fun y=>!isAt p y)=zs.take k:=by
  rw [List.filter_eq_self]
  intro y hy
  have h4:=h3 y hy z List.mem_cons_self
  cases h5:isAt p y with
  | false=>rfl
  | true=>rw [isAt_iff.1 h5,hkey] at h4;exact absurd h4 (lt_irr _)
 have f2:(zs.drop (k+1)).filter (fun y=>!isAt p y)=zs.drop (k+1):=by
  rw [List.filter_eq_self]
  intro y hy
  have h4:=h2 y hy
  cases h5:isAt p y with
  | false=>rfl
  | true=>rw [isAt_iff.1 h5,hkey] at h4;exact absurd h4 (lt_irr _)
 have f3:zs.filter (fun y=>!isAt p y)=(zs.take k ++ z :: zs.drop (k+1)).filter (fun y=>!isAt p y):=by rw [← e]
 rw [f3,List.filter_append,List.filter_cons,if_neg (by rw [ha];simp),f1,f2]
theorem isKid_of {p:ByteArray} {y:Zn} (ht:¬ key y = [47]) (h:(par y.path).data.toList=p.data.toList):isKid p y=true:=by
 unfold isKid
 rw [Lib.toList_data,Lib.toList_data,Lib.toList_data,h]
 simp only [beq_self_eq_true,Bool.and_true,Bool.not_eq_true',beq_eq_false_iff_ne,ne_eq]
 exact ht
theorem of_isKid {p:ByteArray} {y:Zn} (h:isKid p y=true):(par y.path).data.toList=p.data.toList∧¬ key y = [47]:=by
 unfold isKid at h
 rw [Lib.toList_data,Lib.toList_data,Lib.toList_data] at h
 simp only [Bool.and_eq_true,Bool.not_eq_true',beq_eq_false_iff_ne,ne_eq,beq_iff_eq] at h
 exact⟨h.2,h.1⟩
theorem kids_nil {zs:List Zn} {p:ByteArray} : kids zs p = []↔∀ y ∈ zs,isKid p y=false:=by
 unfold kids
 rw [List.map_eq_nil_iff,List.filter_eq_nil_iff]
 exact⟨fun h y hy=>by simpa using h y hy,fun h y hy=>by rw [h y hy];simp⟩
theorem Good.del {zs:List Zn} (h:Good zs) {p:ByteArray} (hp:¬ p.data.toList = [47]) (hk:∀ y ∈ zs,isKid p y=false):Good (zs.filter fun y=>!isAt p y):=by
 refine⟨Nat.le_trans (List.length_filter_le _ _) h.few,fun z hz=>h.each z (List.mem_filter.1 hz).1,h.up.filter _,?_,fun y hy=>?_⟩
 ·obtain⟨z,hz,ha⟩:=h.top
  refine⟨z,List.mem_filter.2 ⟨hz,?_⟩,ha⟩
  cases h5:isAt p z with
  | false=>rfl
  | true=>exact absurd ((isAt_iff.1 h5).symm.trans (isAt_iff.1 ha)) hp
 ·have hy0:=(List.mem_filter.1 hy).1
  obtain⟨x,hx,ha,ho⟩:=h.hung y hy0
  refine⟨x,List.mem_filter.2 ⟨hx,?_⟩,ha,ho⟩
  cases h5:isAt p x with
  | false=>rfl
  | true =>
   exfalso
   have e:(par y.path).data.toList=p.data.toList:=(isAt_iff.1 ha).symm.trans (isAt_iff.1 h5)
   by_cases ht:key y = [47]
   ·rw [par_of_top (isAt_iff.2 ht)] at e;exact hp e.symm
   ·have:=isKid_of ht e
    rw [hk y hy0] at this;cases this
theorem putT_mem {bs:List Zn} {z y:Zn} : y ∈ putT bs z↔y=z∨y ∈ bs:=by
 unfold putT
 rw [List.mem_append,List.mem_cons]
 constructor
 ·rintro (h | h | h)
  ·exact Or.inr (List.mem_of_mem_take h)
  ·exact Or.inl h
  ·exact Or.inr (List.mem_of_mem_drop h)
 ·rintro (h | h)
  ·exact Or.inr (Or.inl h)
  ·rw [← List.take_append_drop (cut bs (key z)) bs] at h
   rcases List.mem_append.1 h with h | h
   ·exact Or.inl h
   ·exact Or.inr (Or.inr h)
theorem putT_len (bs:List Zn) (z:Zn):(putT bs z).length=bs.length+1:=by
 unfold putT
 have:=cut_le bs (key z)
 rw [List.length_append,List.length_cons,List.length_take,List.length_drop];omega
theorem putT_up {bs:List Zn} (hu:bs.Pairwise fun y z=>key y < key z) {z:Zn} (hno:∀ y ∈ bs,isAt z.path y=false):(putT bs z).Pairwise fun y z=>key y < key z:=by
 have hU:=up_pair.2 hu
 have h0:=hu
 rw [← List.take_append_drop (cut bs (key z)) bs,List.pairwise_append] at h0
 obtain⟨h1,h2,h3⟩:=h0
 have ha:∀ y ∈ bs.take (cut bs (key z)),key y < key z:=fun y hy=>by
  obtain⟨i,hi⟩:=List.getElem?_of_mem hy
  rw [List.getElem?_take] at hi
  split at hi
  ·rename_i h4;exact cut_lt h4 hi
  ·cases hi
 have hb:∀ y ∈ bs.drop (cut bs (key z)),key z < key y:=fun y hy=>by
  obtain⟨i,hi⟩:=List.getElem?_of_mem hy
  rw [List.getElem?_drop] at hi
  have h4:=cut_ge hU (Nat.le_add_right _ i) hi
  refine lt_tot h4 fun e=>?_
  have:=hno y (List.mem_of_mem_drop hy)
  rw [isAt_iff.2 e] at this;cases this
 unfold putT
 rw [List.pairwise_append,List.pairwise_cons]
 refine⟨h1,⟨hb,h2⟩,fun a ha' b hb'=>?_⟩
 rcases List.mem_cons.1 hb' with rfl | hb'
 ·exact ha a ha'
 ·exact lt_tr (ha a ha') (hb b hb')
theorem Good.put {bs:List Zn} (h:Good bs) {z:Zn} (hl:bs.length < 20) (hz:Pth.faultI z.path.data.toList=0∧okNums z=true) (hno:∀ y ∈ bs,isAt z.path y=false) (hx:∃ x ∈ bs,isAt (par z.path) x=true∧x.owner=0):Good (putT bs z):=by
 refine⟨by rw [putT_len];omega,fun y hy=>?_,putT_up h.up hno,?_,fun y hy=>?_⟩
 ·rcases putT_mem.1 hy with rfl | hy
  ·exact hz
  ·exact h.each y hy
 ·obtain⟨y,hy,ha⟩:=h.top
  exact⟨y,putT_mem.2 (Or.inr hy),ha⟩
 ·rcases putT_mem.1 hy with rfl | hy
  ·obtain⟨x,hx1,hx2⟩:=hx
   exact⟨x,putT_mem.2 (Or.inr hx1),hx2⟩
  ·obtain⟨x,hx1,hx2⟩:=h.hung y hy
   exact⟨x,putT_mem.2 (Or.inr hx1),hx2⟩
theorem putT_filter {bs:List Zn} {z:Zn} (hno:∀ y ∈ bs,isAt z.path y=false):(putT bs z).filter (fun y=>!isAt z.path y)=bs:=by
 unfold putT
 have f:∀ l:List Zn,(∀ y ∈ l,y ∈ bs)→l.filter (fun y=>!isAt z.path y)=l:=fun l hl=>by
  rw [List.filter_eq_self]
  intro y hy
  rw [hno y (hl y hy)];rfl
 rw [List.filter_append,List.filter_cons,if_neg (by rw [isAt_self];simp),f _ (fun y hy=>List.mem_of_mem_take hy),f _ (fun y hy=>List.mem_of_mem_drop hy),List.take_append_drop]
theorem not_at {zs:List Zn} {p:ByteArray} (h:∀ y ∈ zs,isAt p y=false):atI zs p < 0:=by
 refine Classical.byContradiction fun hn=>?_
 obtain⟨z,hz,ha⟩:=atI_mem.1 (by omega:0≤atI zs p)
 rw [h z hz] at ha;cases ha
theorem asked_of {zs:List Zn} {p:ByteArray} (h:Good zs) (hp:Pth.faultI p.data.toList=0):asked zs p=0:=by
 unfold asked;rw [h.fault,if_neg (by decide)];exact hp
theorem at_of {zs:List Zn} {p:ByteArray} {z:Zn} (hu:zs.Pairwise fun y z=>key y < key z) (hz:z ∈ zs) (ha:isAt p z=true):∃ k:Nat,atI zs p=k∧zs[k]?=some z:=by
 rcases atI_range zs p with ⟨-,h2⟩ | ⟨k,y,hk,-,hy,hya⟩
 ·rw [h2 z hz] at ha;cases ha
 ·exact⟨k,hk,by rw [hy,up_one hu (List.mem_of_getElem? hy) hz hya ha]⟩
theorem top_false {p:ByteArray} (h:¬ p.data.toList = [47]):(p.toList == [47])=false:=by
 rw [Lib.toList_data];simpa using h
/-- What a deletion without a code says of the tree, and leaves. -/
theorem del_zero {zs:List Zn} {p:ByteArray} {n:Int} (h:(delV zs p n).1=0):Good zs∧Pth.faultI p.data.toList=0∧(¬ p.data.toList = [47])∧kids zs p = []∧(∃ z ∈ zs,isAt p z=true)∧delV zs p n=(0,⟨#[]⟩,zs.filter fun y=>!isAt p y)∧(zs.filter fun y=>!isAt p y).length+1=zs.length:=by
 by_cases h0:asked zs p=0
 ·obtain⟨h1,h2⟩:=asked_fault h0
  have hG:=good_of h1
  rw [delV_ok h0] at h ⊢
  by_cases ht:p.data.toList = [47]
  ·rw [delT_top (by rw [Lib.toList_data,ht];rfl)] at h;cases h
  have htf:=top_false ht
  rcases atI_range zs p with ⟨hm,-⟩ | ⟨k,z,hk,hkl,hz,ha⟩
  ·rw [delT_none htf (by omega)] at h;cases h
  rw [delT_some htf hk hz] at h ⊢
  split at h
  ·cases h
  rename_i hv
  split at h
  ·cases h
  rename_i hkd
  rw [if_neg hv,if_neg hkd,del_filter hG.up hz ha]
  refine⟨hG,h2,ht,nil_of_len hkd,⟨z,List.mem_of_getElem? hz,ha⟩,rfl,?_⟩
  rw [← del_filter hG.up hz ha,List.length_append,List.length_take,List.length_drop];omega
 ·rw [delV_bad rfl h0] at h;exact absurd h h0
/-- All that FnDeletes asks. -/
theorem del_all {zs:List Zn} {p:ByteArray} {n:Int} (h:(delV zs p n).1=0):∃ rs cs:List Zn,delV zs p n=(0,⟨#[]⟩,rs)∧fault rs=0∧rs.length+1=zs.length∧(getT rs p).1=4∧kidsV zs p=(0,[])∧createV rs p 5 0 false=(0,p,cs)∧cs.length=zs.length∧fault cs=0∧delV cs p 0=(0,⟨#[]⟩,rs):=by
 obtain⟨hG,hp,ht,hk,⟨z,hz,ha⟩,hd,hl⟩:=del_zero h
 have hkn:=kids_nil.1 hk
 have hR:=hG.del ht hkn
 obtain⟨rs,hrs⟩:∃ rs,rs=zs.filter fun y=>!isAt p y:=⟨_,rfl⟩
 rw [← hrs] at hd hl hR
 have hno:∀ y ∈ rs,isAt p y=false:=fun y hy=>by
  rw [hrs] at hy;simpa using (List.mem_filter.1 hy).2
 have hx:∃ x ∈ rs,isAt (par p) x=true∧x.owner=0:=by
  obtain⟨x,hx,hxa,ho⟩:=hG.hung z hz
  rw [path_of ha] at hxa
  refine⟨x,?_,hxa,ho⟩
  rw [hrs]
  refine List.mem_filter.2 ⟨hx,?_⟩
  cases h5:isAt p x with
  | false=>rfl
  | true=>exact absurd ((isAt_iff.1 hxa).symm.trans (isAt_iff.1 h5)) (par_ne hp ht)
 have htf:=top_false ht
 obtain⟨x,hx1,hx2,hx3⟩:=hx
 obtain⟨j,hj,hjx⟩:=at_of hR.up hx1 hx2
 have hfew:rs.length < 20:=by have:=hG.few;omega
 have hC:Good (putT rs ⟨p,5,0,0,0⟩):=hR.put hfew ⟨hp,rfl⟩ hno ⟨x,hx1,hx2,hx3⟩
 have hcr:createV rs p 5 0 false=(0,p,putT rs ⟨p,5,0,0,0⟩):=by
  rw [createV_ok (asked_of hR hp),createT_some (by decide) htf hj hjx,if_neg (by rw [hx3];simp),if_neg (by decide)]
  unfold finT
  rw [if_neg (by have:=not_at hno;omega),if_neg (by omega)]
 have hz5:(⟨p,5,0,0,0⟩:Zn) ∈ putT rs ⟨p,5,0,0,0⟩:=putT_mem.2 (Or.inl rfl)
 have ha5:isAt p (⟨p,5,0,0,0⟩:Zn)=true:=isAt_iff.2 rfl
 obtain⟨i,hi,hiz⟩:=at_of hC.up hz5 ha5
 have hk5:kids (putT rs ⟨p,5,0,0,0⟩) p = []:=kids_nil.2 fun y hy=>by
  rcases putT_mem.1 hy with rfl | hy
  ·cases h5:isKid p (⟨p,5,0,0,0⟩:Zn) with
   | false=>rfl
   | true=>exact absurd (of_isKid h5).1 (par_ne hp ht)
  ·rw [hrs] at hy;exact hkn y (List.mem_filter.1 hy).1
 refine⟨rs,putT rs ⟨p,5,0,0,0⟩,hd,hR.fault,hl,?_,?_,hcr,by rw [putT_len];exact hl,hC.fault,?_⟩
 ·rw [getT_none (asked_of hR hp) (not_at hno)]
 ·rw [kidsV_ok (asked_of hG hp) (by obtain⟨k,hk1,-⟩:=at_of hG.up hz ha;omega),hk]
 ·rw [delV_ok (asked_of hC hp),delT_some htf hi hiz,if_neg (by simp),if_neg (by rw [hk5];simp),del_filter hC.up hiz ha5]
  have:=putT_filter (bs:=rs) (z:=⟨p,5,0,0,0⟩) hno
  rw [this]
end Tre
end Go.Proofs.YtpdejinkmnhioaaGreatDoor
namespace Go.Proofs.YtpdejinkmnhioaaGreatDoor
namespace Pth
theorem okName_count {n:List UInt8} (h:okName n=true):n.count 47=0:=by
 unfold okName at h
 simp only [Bool.and_eq_true] at h
 rw [List.count_eq_zero]
 intro hm
 have:=List.all_eq_true.1 h.1 47 hm
 revert this;decide
theorem lastSl_app (l n:List UInt8) (hn:n.count 47=0):∀ i a,lastSl (l ++ 47 :: n) i a=i+l.length:=by
 induction l with
 | nil=>intro i a;simp only [List.nil_append,lastSl,if_true];rw [count_lastSl n _ _ hn];simp
 | cons c r ih =>
  intro i a
  simp only [List.cons_append,lastSl,List.length_cons]
  split
  ·rw [ih];omega
  ·rw [ih];omega
theorem joined_form (p n:List UInt8) (hp:p≠[]):(p = [47]∧joined p n = [] ++ 47 :: n)∨(p≠[47]∧p≠[]∧joined p n=p ++ 47 :: n):=by
 unfold joined
 by_cases h:p = [47]
 ·left;exact⟨h,by rw [if_pos h];rfl⟩
 ·right;exact⟨h,hp,by rw [if_neg h]⟩
theorem path_ne {p:List UInt8} (h:faultI p=0):p≠[]:=by
 rintro rfl;revert h;decide
theorem joined_ne_top {p n:List UInt8} (hp:faultI p=0) (hn:okName n=true):joined p n≠[47]:=by
 have hne:n≠[]:=by rintro rfl;revert hn;decide
 rcases joined_form p n (path_ne hp) with ⟨_,h⟩ | ⟨_,h1,h⟩
 ·rw [h];simpa using hne
 ·rw [h]
  intro e
  have:=congrArg List.length e
  have hl:0 < n.length:=List.length_pos_iff.2 hne
  simp at this
  omega
theorem parent_joined {p n:List UInt8} (hp:faultI p=0) (hn:okName n=true) (hj:faultI (joined p n)=0):parentV (joined p n)=(0,p):=by
 unfold parentV
 rw [hj,if_neg (by decide),if_neg (joined_ne_top hp hn)]
 have hc:=okName_count hn
 rcases joined_form p n (path_ne hp) with ⟨h1,h⟩ | ⟨h1,h2,h⟩
 ·rw [h,lastSl_app [] n hc,if_pos (by simp),h1]
 ·rw [h,lastSl_app p n hc,if_neg,Nat.zero_add,List.take_left]
  have:p.length≠0:=fun e=>h2 (List.eq_nil_of_length_eq_zero e)
  omega
end Pth
end Go.Proofs.YtpdejinkmnhioaaGreatDoor
namespace Go.Proofs.YtpdejinkmnhioaaGreatDoor
open Go.RowKit
namespace Tre
theorem nameV_ok {p:ByteArray} (h:Pth.faultI p.data.toList=0) (ht:¬ p.data.toList = [47]):Pth.nameV p.data.toList=(0,(lastName p).data.toList):=by
 unfold Pth.nameV lastName;rw [h,if_neg (by simp),if_neg ht,extract_list,List.take_of_length_le (by simp)]
theorem parentV_top {p:ByteArray} (h:Pth.faultI p.data.toList=0) (ht:p.data.toList = [47]):Pth.parentV p.data.toList=(4,[]):=by
 unfold Pth.parentV;rw [h,if_neg (by simp),if_pos ht]
end Tre
theorem owns_ext {B:Nat} {e:TypeId} {k:Nat} {v:Value} {n:Nat} {xs:List Value} {w w' : World} (h:w.ownsRow B e k v n xs) (hb:Ext w w'):w'.ownsRow B e k v n xs:=by
 refine⟨h.1,?_⟩
 rcases h.2 with h0 | ⟨g,cap,cur,h1,h2,h3,h4⟩
 ·exact .inl h0
 ·exact .inr ⟨g,cap,cur,h1,h2,(Below.block hb g (Array.getElem?_eq_some_iff.1 h3).1).trans h3,h4⟩
set_option maxHeartbeats 2000000 in
set_option maxRecDepth 100000 in
theorem kidNames_any (v:Value) (zs:List Zn) (p:ByteArray) (w:World) (hg:Gd w) (hS:NSlice w v zs) (hl:zs.length≤1048576) (hf:∀ z ∈ zs,Pth.faultI z.path.data.toList=0) :
  Calls Tryz.prog 258 #[v,.string p] w fun e w'=>∃ v' g,e = .returned v'∧w.heap.size≤g∧TOwn w' v' g (Tre.kids zs p)∧Ext w w':=by
 refine n59z ?_
 intro hi9 i0 hi hx
 simp only [Prod.mk.injEq] at hx
 obtain⟨hz0,hz1,hz2⟩:=hx
 clear hi9
 obtain⟨a,cap,rfl,hlc,hcm,hx⟩:=hS
 refine n26z ?_
 intro HX
 have HF:Hid (∀ z ∈ zs,Pth.faultI z.path.data.toList=0):=hf
 have HG:Hid (Gd w):=hg
 clear hx hf hg
 unfold maxLen at hcm
 have hft:=fieldT_text
 go_enter Tryz.func258,Tryz.ntmps258
 go_wp2
 go_loopw [5,10] (fun v i wr=>∃ (k:Nat),k≤zs.length∧i = .int .i64 k∧Hid (wr.ownsRow w.heap.size 9 1 v (Tre.kids (zs.take k) p).length ((Tre.kids (zs.take k) p).map Value.string))∧Hid (Ext w wr)) (fun _ i _=>zs.length - (intOf i).toNat)
 case atStart=>exact⟨0,by omega,rfl,World.ownsRow_nil _ _ _ _,Ext.refl _⟩
 case round =>
  obtain⟨k,hk,rfl,HO,HE⟩:=hrel
  by_cases hlt:k < zs.length
  ·obtain⟨z,hzk⟩:∃ z,zs[k]?=some z:=⟨_,List.getElem?_eq_getElem hlt⟩
   obtain⟨b,off,rfl,hb,hN⟩:=HX.out (by omega)
   have HD:Hid (∀ wx:World,Ext w wx→wx.cell? ⟨b,off+k * 5,none⟩=some (.string z.path)):=fun wx h=>(hN.ext hb h k z hzk).1
   have d0:=HD.out _ HE.out
   have hfz:=HF.out z (List.mem_of_getElem? hzk)
   have HK:Hid (Tre.kids (zs.take (k+1)) p=Tre.kids (zs.take k) p ++ (if Tre.isKid p z=true then [Tre.lastName z.path] else [])):=Tre.kids_snoc hzk
   have hkl:(Tre.kids (zs.take k) p).length≤k:=by have:=Tre.kids_le (zs.take k) p;rw [List.length_take] at this;omega
   have HP:Hid (Calls Tryz.prog 247 #[.string z.path] wr fun e w'=>e = .returned (tr (Pth.parentV z.path.data.toList))∧Ext wr w'):=parentOf_any z.path wr (HG.out.ext HE.out)
   have HM:Hid (∀ wx:World,Ext w wx→Calls Tryz.prog 276 #[.string z.path] wx fun e w'=>e = .returned (tr (Pth.nameV z.path.data.toList))∧Ext wx w'):=fun wx h=>nameIn_any z.path wx (HG.out.ext h)
   clear hzk hN hb
   cases ht:(z.path.toList == [47]) with
   | true =>
    have HK2:Hid (Tre.kids (zs.take (k+1)) p=Tre.kids (zs.take k) p):=by
     show _=_
     rw [HK.out,if_neg];· simp
     unfold Tre.isKid;rw [ht];simp
    have htt:z.path.data.toList = [47]:=by rw [beq_top] at ht;simpa using ht
    rw [Tre.parentV_top hfz htt] at HP
    unfold tr at HP
    simp only at HP
    clear hfz htt ht
    go_wp2_with fail
    refine HP.out.mono ?_
    rintro e w3 ⟨rfl,hb⟩
    have HE3:Hid (Ext wr w3):=hb
    clear hb
    go_wp2
    refine⟨⟨k+1,by omega,by go_num,?_,?_⟩,by simp [intOf];omega⟩
    ·show World.ownsRow _ _ _ _ _ _ _
     rw [HK2.out]
     exact (owns_ext HO.out HE3.out).alloc _
    ·exact (HE.out.trans HE3.out).alloc _
   | false =>
    have htt:¬ z.path.data.toList = [47]:=by rw [beq_top] at ht;simpa using ht
    rw [Tre.parentV_ok hfz htt] at HP
    simp only [Tre.nameV_ok hfz htt] at HM
    unfold tr at HP HM
    simp only [Tre.mkB_data] at HP HM
    cases hp:((Tre.par z.path).toList == p.toList) with
    | false =>
     have HK2:Hid (Tre.kids (zs.take (k+1)) p=Tre.kids (zs.take k) p):=by
      show _=_
      rw [HK.out,if_neg];· simp
      unfold Tre.isKid;rw [hp];simp
     clear hfz htt ht
     generalize Tre.par z.path=pz at *
     go_wp2_with fail
     refine HP.out.mono ?_
     rintro e w3 ⟨rfl,hb⟩
     have HE3:Hid (Ext wr w3):=hb
     clear hb
     go_wp2
     refine⟨⟨k+1,by omega,by go_num,?_,?_⟩,by simp [intOf];omega⟩
     ·show World.ownsRow _ _ _ _ _ _ _
      rw [HK2.out]
      exact (owns_ext HO.out HE3.out).alloc _
     ·exact (HE.out.trans HE3.out).alloc _
    | true =>
     have HK2:Hid (Tre.kids (zs.take (k+1)) p=Tre.kids (zs.take k) p ++ [Tre.lastName z.path]):=by
      show _=_
      rw [HK.out,if_pos]
      unfold Tre.isKid;rw [hp,ht];simp
     clear hfz htt ht
     generalize Tre.par z.path=pz at *
     generalize Tre.lastName z.path=nz at *
     go_wp2_with fail
     refine HP.out.mono ?_
     rintro e w3 ⟨rfl,hb⟩
     have HE3:Hid (Ext w (w3.alloc (.cells #[.int .i64 0,.string pz] 303))):=(HE.out.trans hb).alloc _
     have HO3:Hid ((w3.alloc (.cells #[.int .i64 0,.string pz] 303)).ownsRow w.heap.size 9 1 u5 (Tre.kids (zs.take k) p).length ((Tre.kids (zs.take k) p).map Value.string)):=(owns_ext HO.out hb).alloc _
     have d3:=HD.out _ HE3.out
     clear hb d0
     go_wp2_with fail
     refine (HM.out _ HE3.out).mono ?_
     rintro e w5 ⟨rfl,hb⟩
     have HE5:Hid (Ext w w5):=HE3.out.trans hb
     have HO5:Hid (w5.ownsRow w.heap.size 9 1 u5 (Tre.kids (zs.take k) p).length ((Tre.kids (zs.take k) p).map Value.string)):=owns_ext HO3.out hb
     clear hb d3
     go_wp2_with (at_builtin;go_must (refine wpList_append_own _ rfl _ _ 222 rfl w.heap.size 9 i0 (.string ByteArray.empty) 1 16 Tryz.underlying222 hi hz0 hz1 hz2 rfl (by decide) _ _ _ rfl (HO5.out.alloc _) ⟨w5.heap.size,0,none⟩ 1 1 [.string nz] rfl rfl (cell_one_new _ _ _) (fun x hx=>by simp at hx;subst hx;rfl) (by unfold maxLen;omega) (by omega) (by have:=HE5.out.size;simp;omega) ?_;intro v' w6 hown' hgrow3 hnil3))
     refine⟨⟨k+1,by omega,by go_num,?_,Below.grown (HE5.out.alloc _) hgrow3 (by have:=HE5.out.size;simp;omega) (fun q hq=>(HO5.out.lt q hq).1)⟩,by simp [intOf];omega⟩
     show w6.ownsRow _ _ _ _ _ _
     rw [HK2.out,List.map_append,List.length_append]
     exact hown'
  ·exact m55z
end Go.Proofs.YtpdejinkmnhioaaGreatDoor
namespace Go.Proofs.YtpdejinkmnhioaaGreatDoor
open Go.RowKit
set_option maxHeartbeats 1000000 in
theorem isName_any (s:ByteArray) (w:World) (hs:s.size≤1048576) :
  Calls Tryz.prog 285 #[.string s] w fun e w'=>e = .returned (.bool (Pth.okName s.data.toList))∧Ext w w':=by
 rw [← Pth.isName_eq,← slash_cat]
 obtain⟨t,ht⟩:∃ t,(⟨#[47]⟩:ByteArray) ++ s=t:=⟨_,rfl⟩
 rw [ht]
 cases hm:Pth.many t.data.toList
 ·cases hr:Pth.rd t.data.toList with
  | none =>
   go_enter Tryz.func285,Tryz.ntmps285
   go_wp2_with fail
   refine (rp_none t _ hm hr).mono ?_
   rintro e w1 ⟨rfl,hb⟩
   have HB:Hid (Ext w w1):=hb
   clear hb
   unfold rpText
   go_wp2
   go_ret
   exact⟨rfl,HB.out.alloc _⟩
  | some x =>
   obtain⟨n,la⟩:=x
   have HV:Hid ((((n:Int) == 1):Bool)=(!false && (Option.map (fun x:Nat × Nat=>x.1) (some (n,la)) == some 1))):=by
    show _=_
    rw [Bool.eq_iff_iff];simp;omega
   go_enter Tryz.func285,Tryz.ntmps285
   go_wp2_with fail
   refine (rp_some t _ n la hm hr).mono ?_
   rintro e w1 ⟨rfl,hb⟩
   have HB:Hid (Ext w w1):=hb
   clear hb
   unfold rpShape
   go_wp2
   go_ret
   exact⟨ret_bool HV.out,HB.out.alloc _⟩
 ·go_enter Tryz.func285,Tryz.ntmps285
  go_wp2_with fail
  refine (rp_many t _ hm).mono ?_
  rintro e w1 ⟨rfl,hb⟩
  have HB:Hid (Ext w w1):=hb
  clear hb
  unfold rpMany
  go_wp2
  go_ret
  exact⟨rfl,HB.out.alloc _⟩
end Go.Proofs.YtpdejinkmnhioaaGreatDoor
