/- Q5, Q6, Q2, YA4, YA5, in one text. -/
import Derived.Test.YtpdejinkmnhioaaGreatDoorAoJ19
import Derived.Test.YtpdejinkmnhioaaGreatDoorAoJ20
import Derived.Test.YtpdejinkmnhioaaGreatDoorAoJ8
import Derived.Test.YtpdejinkmnhioaaGreatDoorAoJ7
import Derived.Test.YtpdejinkmnhioaaGreatDoorAoJ18
import Derived.Test.YtpdejinkmnhioaaGreatDoorAoMk
namespace Go.Proofs.YtpdejinkmnhioaaGreatDoor
open Go.RowKit
namespace Tre
/-- A node whose path and owner stay may turn. -/
theorem Good.turn {zs:List Zn} (h:Good zs) {k:Nat} {y y' : Zn} (hy:zs[k]?=some y) (hp:y'.path=y.path) (ho:y'.owner=y.owner) (hn:okNums y'=true):Good (zs.set k y'):=by
 have hk:=(List.getElem?_eq_some_iff.1 hy).1
 have hym:=List.mem_of_getElem? hy
 have hin:y' ∈ zs.set k y':=List.mem_of_getElem? (List.getElem?_set_self hk)
 have hat:∀ q x,x ∈ zs→isAt q x=true→∃ x' ∈ zs.set k y',isAt q x'=true∧x'.owner=x.owner:=fun q x hx ha=>by
  obtain⟨i,hi⟩:=List.getElem?_of_mem hx
  by_cases hik:i=k
  ·subst hik
   rw [hy] at hi;cases hi
   exact⟨y',hin,by rw [isAt_iff] at ha ⊢;unfold key at ha ⊢;rw [hp];exact ha,ho⟩
  ·exact⟨x,List.mem_of_getElem? (by rw [List.getElem?_set_ne (Ne.symm hik)];exact hi),ha,rfl⟩
 refine⟨by simpa using h.few,fun z hz=>?_,?_,?_,fun z hz=>?_⟩
 ·rcases List.mem_or_eq_of_mem_set hz with hz | rfl
  ·exact h.each z hz
  ·exact⟨by rw [hp];exact (h.each y hym).1,hn⟩
 ·rw [List.pairwise_iff_getElem]
  intro i j hi hj hij
  rw [List.length_set] at hi hj
  have h0:=(List.pairwise_iff_getElem.1 h.up) i j hi hj hij
  have e:∀ t (ht:t < zs.length),key ((zs.set k y')[t]'(by simpa using ht))=key zs[t]:=fun t ht=>by
   rw [List.getElem_set]
   split
   ·rename_i hkt;subst hkt
    have:zs[k]=y:=(List.getElem?_eq_some_iff.1 hy).2
    rw [this];unfold key;rw [hp]
   ·rfl
  rw [e i hi,e j hj];exact h0
 ·obtain⟨z,hz,ha⟩:=h.top
  obtain⟨x,hx,hxa,-⟩:=hat _ z hz ha
  exact⟨x,hx,hxa⟩
 ·have hz' : ∃ z0 ∈ zs,z.path=z0.path:=by
   rcases List.mem_or_eq_of_mem_set hz with hz | rfl
   ·exact⟨z,hz,rfl⟩
   ·exact⟨y,hym,hp⟩
  obtain⟨z0,hz0,he⟩:=hz'
  obtain⟨x,hx,hxa,hxo⟩:=h.hung z0 hz0
  obtain⟨x',hx',ha',ho'⟩:=hat _ x hx hxa
  exact⟨x',hx',by rw [he];exact ha',ho'.trans hxo⟩
theorem set_paths {zs:List Zn} {k:Nat} {y y' : Zn} (hy:zs[k]?=some y) (hp:y'.path=y.path) {q:ByteArray} (h:∀ x ∈ zs,isAt q x=false):∀ x ∈ zs.set k y',isAt q x=false:=fun x hx=>by
 rcases List.mem_or_eq_of_mem_set hx with hx | rfl
 ·exact h x hx
 ·have:=h y (List.mem_of_getElem? hy)
  unfold isAt at this ⊢;rw [hp];exact this
theorem at_none {zs:List Zn} {p:ByteArray} (h:¬ 0≤atI zs p):∀ y ∈ zs,isAt p y=false:=fun y hy=>by
 cases h5:isAt p y with
 | false=>rfl
 | true=>exact absurd (atI_mem.2 ⟨y,hy,h5⟩) h
theorem par_seq {p:ByteArray} {n:Int} (hp:Pth.faultI (par p).data.toList=0) (hn:Pth.okName (seqN p n).data.toList=true) (hf:Pth.faultI (seqP p n).data.toList=0):par (seqP p n)=par p∧¬ (seqP p n).data.toList = [47]:=by
 unfold seqP at hf ⊢
 rw [mkB_list] at hf ⊢
 have h1:=Pth.parent_joined hp hn hf
 have h2:=Pth.joined_ne_top hp hn
 refine⟨?_,h2⟩
 unfold Pth.parentV at h1
 rw [hf,if_neg (by decide),if_neg h2] at h1
 simp only [Prod.mk.injEq,true_and] at h1
 unfold par
 rw [mkB_list]
 refine ba_eq ?_
 rw [mkB_list]
 refine h1.trans ?_
 unfold par;rw [mkB_list]
theorem nums_of {zs:List Zn} (h:Good zs) {z:Zn} (hz:z ∈ zs):0≤z.data∧z.data≤9999∧0≤z.version∧z.version≤999∧0≤z.owner∧z.owner≤9∧0≤z.next∧z.next≤100:=by
 have:=(h.each z hz).2
 unfold okNums at this
 simp only [Bool.and_eq_true,decide_eq_true_eq] at this
 omega
theorem okNums_of {z:Zn} (h:0≤z.data∧z.data≤9999∧0≤z.version∧z.version≤999∧0≤z.owner∧z.owner≤9∧0≤z.next∧z.next≤100):okNums z=true:=by
 unfold okNums;simp only [Bool.and_eq_true,decide_eq_true_eq];omega
/-- What a creation is. -/
structure Made (zs:List Zn) (p:ByteArray) (d o:Int) (q:Bool) (pa:ByteArray) (bs:List Zn):Prop where
 good:Good zs
 path:Pth.faultI p.data.toList=0
 base:Good bs
 right:Pth.faultI pa.data.toList=0
 notTop:¬ pa.data.toList = [47]
 new:∀ y ∈ bs,isAt pa y=false
 newZ:∀ y ∈ zs,isAt pa y=false
 hangs:∃ x ∈ bs,isAt (par pa) x=true∧x.owner=0
 few:bs.length < 20
 many:bs.length=zs.length
 nums:0≤d∧d≤9999∧0≤o∧o≤9
 sameP:par pa=par p
 pTop:¬ p.data.toList = [47]
 plain:q=false→pa=p∧bs=zs
 seqd:q=true→∃ (k:Nat) (y:Zn),atI zs (par p)=k∧zs[k]?=some y∧pa=seqP p y.next∧bs=zs.set k { y with next:=y.next+1 }∧0≤y.next∧y.next < 100∧Pth.okName (seqN p y.next).data.toList=true
theorem create_zero {zs:List Zn} {p:ByteArray} {d o:Int} {q:Bool} (h:(createV zs p d o q).1=0):∃ pa bs,createV zs p d o q=(0,pa,putT bs ⟨pa,d,0,o,0⟩)∧Made zs p d o q pa bs:=by
 by_cases h0:asked zs p=0
 ·obtain⟨h1,h2⟩:=asked_fault h0
  have hG:=good_of h1
  rw [createV_ok h0] at h ⊢
  cases hdo:(okData d && okOwner o) with
  | false=>rw [createT_range hdo] at h;cases h
  | true =>
  by_cases ht:p.data.toList = [47]
  ·rw [createT_top hdo (by rw [Lib.toList_data,ht];rfl)] at h;cases h
  have htf:=top_false ht
  rcases atI_range zs (par p) with ⟨hm,-⟩ | ⟨k,y,hk,hkl,hy,ha⟩
  ·rw [createT_none hdo htf (by omega)] at h;cases h
  rw [createT_some hdo htf hk hy] at h ⊢
  by_cases ho:y.owner=0
  rotate_left
  ·rw [if_pos ho] at h;cases h
  rw [if_neg (by rw [ho];simp)] at h ⊢
  have hym:=List.mem_of_getElem? hy
  have hnum:0≤d∧d≤9999∧0≤o∧o≤9:=by
   unfold okData okOwner at hdo
   simp only [Bool.and_eq_true,decide_eq_true_eq] at hdo
   omega
  cases q with
  | false =>
   rw [if_neg (by decide)] at h ⊢
   unfold finT at h ⊢
   by_cases hat:0≤atI zs p
   ·rw [if_pos hat] at h;cases h
   rw [if_neg hat] at h ⊢
   by_cases hl:20≤zs.length
   ·rw [if_pos hl] at h;cases h
   rw [if_neg hl]
   exact⟨p,zs,rfl,⟨hG,h2,hG,h2,ht,at_none hat,at_none hat,⟨y,hym,ha,ho⟩,by omega,rfl,hnum,rfl,ht,fun _=>⟨rfl,rfl⟩,fun h=>by cases h⟩⟩
  | true =>
   rw [if_pos rfl] at h ⊢
   by_cases hs:(seqT zs p k y).1=0
   rotate_left
   ·rw [if_pos hs] at h;exact absurd h hs
   rw [if_neg (by rw [hs];simp)] at h ⊢
   have hsq:y.next < 100∧Pth.okName (seqN p y.next).data.toList=true∧Pth.faultI (seqP p y.next).data.toList=0∧seqT zs p k y=(0,seqP p y.next,zs.set k { y with next:=y.next+1 }):=by
    unfold seqT at hs ⊢
    split at hs
    ·cases hs
    rename_i a1
    split at hs
    ·cases hs
    rename_i a2
    split at hs
    ·rename_i a3;exact absurd hs a3
    rename_i a3
    rw [if_neg a1,if_neg a2,if_neg a3]
    exact⟨by omega,by simpa using a2,by simpa using a3,rfl⟩
   obtain⟨b1,b2,b3,b4⟩:=hsq
   rw [b4] at h ⊢
   dsimp only at h ⊢
   unfold finT at h ⊢
   by_cases hat:0≤atI zs (seqP p y.next)
   ·rw [if_pos hat] at h;cases h
   rw [if_neg hat] at h ⊢
   by_cases hl:20≤zs.length
   ·rw [if_pos hl] at h;cases h
   rw [if_neg hl]
   have hyn:=nums_of hG hym
   have hB:Good (zs.set k { y with next:=y.next+1 }):=hG.turn hy rfl rfl (okNums_of (by show _;simp only;omega))
   have hpp:Pth.faultI (par p).data.toList=0:=by
    have:=(hG.each y hym).1
    rw [path_of ha] at this;exact this
   obtain⟨c1,c2⟩:=par_seq hpp b2 b3
   refine⟨seqP p y.next,zs.set k { y with next:=y.next+1 },rfl,⟨hG,h2,hB,b3,c2,set_paths (y':={ y with next:=y.next+1 }) hy rfl (at_none hat),at_none hat,⟨{ y with next:=y.next+1 },List.mem_of_getElem? (List.getElem?_set_self hkl),?_,ho⟩,by simp;omega,by simp,hnum,c1,ht,(fun h=>by cases h),fun _=>⟨k,y,hk,hy,rfl,rfl,hyn.2.2.2.2.2.2.1,b1,b2⟩⟩⟩
   rw [c1];exact ha
 ·rw [createV_bad rfl h0] at h;exact absurd h h0
theorem Made.tree {zs:List Zn} {p:ByteArray} {d o:Int} {q:Bool} {pa:ByteArray} {bs:List Zn} (h:Made zs p d o q pa bs):Good (putT bs ⟨pa,d,0,o,0⟩) :=
 h.base.put h.few ⟨h.right,okNums_of (by have:=h.nums;show _;simp only;omega)⟩ h.new h.hangs
/-- No node is a kid of what is new. -/
theorem Made.noKid {zs:List Zn} {p:ByteArray} {d o:Int} {q:Bool} {pa:ByteArray} {bs:List Zn} (h:Made zs p d o q pa bs):kids (putT bs ⟨pa,d,0,o,0⟩) pa = []:=kids_nil.2 fun y hy=>by
 cases h5:isKid pa y with
 | false=>rfl
 | true =>
  exfalso
  have hk:=(of_isKid h5).1
  rcases putT_mem.1 hy with rfl | hy
  ·exact par_ne h.right h.notTop hk
  ·obtain⟨x,hx,hxa,-⟩:=h.base.hung y hy
   have:=h.new x hx
   rw [isAt_iff.2 ((isAt_iff.1 hxa).trans hk)] at this;cases this
/-- What is new may be deleted, and what was there is left. -/
theorem Made.del {zs:List Zn} {p:ByteArray} {d o:Int} {q:Bool} {pa:ByteArray} {bs:List Zn} (h:Made zs p d o q pa bs):delV (putT bs ⟨pa,d,0,o,0⟩) pa (-1)=(0,⟨#[]⟩,bs):=by
 have hT:=h.tree
 have ha:isAt pa (⟨pa,d,0,o,0⟩:Zn)=true:=isAt_iff.2 rfl
 obtain⟨i,hi,hiz⟩:=at_of hT.up (putT_mem.2 (Or.inl rfl)) ha
 rw [delV_ok (asked_of hT h.right),delT_some (top_false h.notTop) hi hiz,if_neg (by simp),if_neg (by rw [h.noKid];simp),del_filter hT.up hiz ha]
 have:=putT_filter (bs:=bs) (z:=⟨pa,d,0,o,0⟩) h.new
 rw [this]
end Tre
end Go.Proofs.YtpdejinkmnhioaaGreatDoor
namespace Go.Proofs.YtpdejinkmnhioaaGreatDoor
open Go.RowKit
namespace Tre
/-- The nodes of zs stand in bs, but for a number. -/
def Alike (zs bs:List Zn):Prop:=zs.length=bs.length∧∀ (i:Nat) x,zs[i]?=some x→∃ y,bs[i]?=some y∧y.path=x.path∧y.data=x.data∧y.version=x.version∧y.owner=x.owner
theorem Alike.refl (zs:List Zn):Alike zs zs:=⟨rfl,fun _ x h=>⟨x,h,rfl,rfl,rfl,rfl⟩⟩
theorem Alike.set {zs:List Zn} {k:Nat} {y:Zn} (hy:zs[k]?=some y) (n:Int):Alike zs (zs.set k { y with next:=n }):=by
 refine⟨by simp,fun i x hx=>?_⟩
 by_cases hik:k=i
 ·subst hik
  rw [hy] at hx;cases hx
  exact⟨_,List.getElem?_set_self (List.getElem?_eq_some_iff.1 hy).1,rfl,rfl,rfl,rfl⟩
 ·exact⟨x,by rw [List.getElem?_set_ne hik];exact hx,rfl,rfl,rfl,rfl⟩
theorem isKid_path {p:ByteArray} {x y:Zn} (h:y.path=x.path):isKid p y=isKid p x:=by unfold isKid;rw [h]
theorem Alike.kids {zs bs:List Zn} (h:Alike zs bs) (p:ByteArray):(Tre.kids zs p).length=(Tre.kids bs p).length:=by
 obtain⟨hl,ha⟩:=h
 unfold Tre.kids
 rw [List.length_map,List.length_map]
 induction zs generalizing bs with
 | nil =>
  have:bs = []:=List.eq_nil_of_length_eq_zero (by simpa using hl.symm)
  subst this;rfl
 | cons x t ih =>
  cases bs with
  | nil=>simp at hl
  | cons y u =>
   obtain⟨y',hy',hp,-⟩:=ha 0 x rfl
   simp at hy';subst hy'
   have h1:=ih (bs:=u) (by simpa using hl) (fun i z hz=>ha (i+1) z (by simpa using hz))
   rw [List.filter_cons,List.filter_cons,isKid_path hp]
   split
   ·simp only [List.length_cons,h1]
   ·exact h1
end Tre
end Go.Proofs.YtpdejinkmnhioaaGreatDoor
namespace Go.Proofs.YtpdejinkmnhioaaGreatDoor
open Go.RowKit
namespace Tre
theorem find_set (q:ByteArray):∀ (zs:List Zn) (k:Nat) (z z' : Zn),zs[k]?=some z→isAt q z'=isAt q z→(zs.set k z').findIdx? (isAt q)=zs.findIdx? (isAt q)
 | [],k,z,z',h,_=>by simp at h
 | y :: ys,0,z,z',h,he=>by
  simp at h
  subst h
  simp [List.findIdx?_cons,he]
 | y :: ys,k+1,z,z',h,he=>by
  simp at h
  simp [List.findIdx?_cons,find_set q ys k z z' h he]
theorem at_set {q:ByteArray} {zs:List Zn} {k:Nat} {z z' : Zn} (h:zs[k]?=some z) (he:z'.path=z.path):atI (zs.set k z') q=atI zs q:=by
 unfold atI
 rw [find_set q zs k z z' h (by unfold isAt;rw [he])]
theorem get_set {zs:List Zn} {k:Nat} {z z' : Zn} (h:zs[k]?=some z) (hp:z'.path=z.path) (ho:z'.owner=z.owner) (hn:okNums z=true→okNums z'=true) {j:Nat} {x' : Zn} (hx:(zs.set k z')[j]?=some x'):∃ x,zs[j]?=some x∧x'.path=x.path∧x'.owner=x.owner∧(okNums x=true→okNums x'=true):=by
 have hk:=(List.getElem?_eq_some_iff.1 h).1
 by_cases hj:k=j
 ·subst hj
  rw [List.getElem?_set_self hk] at hx
  cases hx
  exact⟨z,h,hp,ho,hn⟩
 ·rw [List.getElem?_set_ne hj] at hx
  exact⟨x',hx,rfl,rfl,fun h=>h⟩
theorem fault_set {zs:List Zn} {k:Nat} {z z' : Zn} (h:zs[k]?=some z) (hp:z'.path=z.path) (ho:z'.owner=z.owner) (hn:okNums z=true→okNums z'=true) (hf:fault zs=0):fault (zs.set k z')=0:=by
 obtain⟨hl,hN⟩:=fault_nodes hf
 obtain⟨ht,hP,hO⟩:=fault_hang hf
 have hlen:(zs.set k z').length=zs.length:=by simp
 refine fault_own (by rw [hlen];omega) ?_ (by rw [at_set h hp];omega) ?_ ?_
 ·refine first_none fun j hj=>?_
  rw [hlen] at hj
  obtain⟨x',hx'⟩:∃ x',(zs.set k z')[j]?=some x':=⟨_,List.getElem?_eq_getElem (by rw [hlen];exact hj)⟩
  obtain⟨x,hx,xp,-,xn⟩:=get_set h hp ho hn hx'
  obtain⟨f0,n0⟩:=nodeC_ok hx (hN j hj)
  match j,hj,hx',hx with
  | 0,hj,hx',hx=>exact nodeC_zero hx' (by rw [xp,f0]) (xn n0)
  | m+1,hj,hx',hx =>
   obtain⟨y',hy'⟩:∃ y',(zs.set k z')[m]?=some y':=⟨_,List.getElem?_eq_getElem (by rw [hlen];omega)⟩
   obtain⟨y,hy,yp,-,-⟩:=get_set h hp ho hn hy'
   have h1:=hN (m+1) hj
   rw [nodeC_succ hx hy f0.symm n0] at h1
   rw [nodeC_succ hx' hy' (by rw [xp,f0]) (xn n0),show notUp x' y'=notUp x y from by unfold notUp;rw [xp,yp]]
   exact h1
 ·refine first_none fun j hj=>?_
  rw [hlen] at hj
  obtain⟨x',hx'⟩:∃ x',(zs.set k z')[j]?=some x':=⟨_,List.getElem?_eq_getElem (by rw [hlen];exact hj)⟩
  obtain⟨x,hx,xp,-,-⟩:=get_set h hp ho hn hx'
  have h1:=hP j hj
  rw [parC_eq hx] at h1
  rw [parC_eq hx',at_set h hp,xp]
  exact h1
 ·refine first_none fun j hj=>?_
  rw [hlen] at hj
  obtain⟨x',hx'⟩:∃ x',(zs.set k z')[j]?=some x':=⟨_,List.getElem?_eq_getElem (by rw [hlen];exact hj)⟩
  obtain⟨x,hx,xp,-,-⟩:=get_set h hp ho hn hx'
  have h1:=hO j hj
  unfold ownC at h1 ⊢
  rw [hx] at h1
  rw [hx']
  dsimp only at h1 ⊢
  rw [at_set h hp,xp]
  cases hy' : (zs.set k z')[(atI zs (par x.path)).toNat]? with
  | none=>rfl
  | some y' =>
   obtain⟨y,hy,-,yo,-⟩:=get_set h hp ho hn hy'
   rw [hy] at h1
   dsimp only at h1 ⊢
   rw [yo]
   exact h1
end Tre
end Go.Proofs.YtpdejinkmnhioaaGreatDoor
namespace Go.Proofs.YtpdejinkmnhioaaGreatDoor
open Go.RowKit
namespace Sta
theorem setT_zero {zs:List Zn} {p:ByteArray} {d n:Int} (h:(Tre.setT zs p d n).1=0):∃ (k:Nat) (z:Zn),Tre.atI zs p=k∧zs[k]?=some z∧Tre.okData d=true∧z.version < 999∧Tre.setT zs p d n=(0,⟨#[]⟩,zs.set k { z with data:=d,version:=z.version+1 }):=by
 cases hd:Tre.okData d with
 | false=>rw [Tre.setT_data hd] at h;simp at h
 | true =>
  rcases Tre.atI_range zs p with ⟨ha,-⟩ | ⟨k,z,ha,hk,hz,-⟩
  ·rw [Tre.setT_none hd (by omega)] at h;simp at h
  ·rw [Tre.setT_some hd ha hz] at h
   split at h
   ·simp at h
   ·rename_i h1
    split at h
    ·simp at h
    ·rename_i h2
     exact⟨k,z,ha,hz,rfl,by omega,by rw [Tre.setT_some hd ha hz,if_neg h1,if_neg h2]⟩
theorem delV_T {zs:List Zn} {p:ByteArray} {n:Int} (h:Tre.fault zs=0) (hp:Pth.faultI p.data.toList=0):Tre.delV zs p n=Tre.delT zs p n:=Tre.delV_ok (asked_zero h hp)
theorem setV_T {zs:List Zn} {p:ByteArray} {d n:Int} (h:Tre.fault zs=0) (hp:Pth.faultI p.data.toList=0):Tre.setV zs p d n=Tre.setT zs p d n:=Tre.setV_ok (asked_zero h hp)
theorem createV_T {zs:List Zn} {p:ByteArray} {d o:Int} {q:Bool} (h:Tre.fault zs=0) (hp:Pth.faultI p.data.toList=0):Tre.createV zs p d o q=Tre.createT zs p d o q:=by
 unfold Tre.createV;rw [if_neg (by simp [asked_zero h hp])]
theorem small_path {p:ByteArray} (h:Pth.faultI p.data.toList=0):p.size≤24:=by
 have hp:=Pth.faultI_len h
 rw [len_eq] at hp
 omega
theorem createT_small {zs:List Zn} {p:ByteArray} {d o:Int} {q:Bool} (hp:Pth.faultI p.data.toList=0):(Tre.createT zs p d o q).2.1.size≤24:=by
 have h0:(⟨#[]⟩:ByteArray).size≤24:=by decide
 have hf:∀ p bs,Pth.faultI p.data.toList=0→(Tre.finT zs p bs d o).2.1.size≤24:=by
  intro p bs h
  unfold Tre.finT
  split
  ·exact h0
  ·split
   ·exact h0
   ·exact small_path h
 unfold Tre.createT
 split
 ·exact h0
 ·split
  ·exact h0
  ·split
   ·exact h0
   ·split
    ·exact h0
    ·rename_i y hy
     split
     ·exact h0
     ·split
      ·split
       ·exact h0
       ·rename_i h6
        refine hf _ _ ?_
        unfold Tre.seqT at h6 ⊢
        split
        ·rename_i h7;rw [if_pos h7] at h6;exact absurd (by decide) h6
        ·rename_i h7
         rw [if_neg h7] at h6
         split
         ·rename_i h8;rw [if_pos h8] at h6;exact absurd (by decide) h6
         ·rename_i h8
          rw [if_neg h8] at h6
          split
          ·rename_i h9;rw [if_pos h9] at h6;exact absurd h9 h6
          ·rename_i h9;simpa using h9
      ·exact hf _ _ hp
/-- What a change of the tree tells, its code told with it. -/
theorem treeT_q {s:Stt} {r:Int × ByteArray × List Zn} (h:r.1≠0→r.2.1=⟨#[]⟩):(treeT s r 0).1=⟨r.1,0,r.2.1⟩∧(r.1=0→(treeT s r 0).2 = { s with nodes:=r.2.2 }):=by
 by_cases hr:r.1=0
 ·rw [treeT_ok hr];exact⟨by rw [hr],fun _=>rfl⟩
 ·rw [treeT_bad hr];exact⟨by rw [h hr];rfl,fun h'=>absurd h' hr⟩
theorem liveT_create {s:Stt} {c:Int} {p:ByteArray} {d v:Int} {sq ow:Bool} : liveT s c ⟨3,p,d,v,sq,ow⟩=treeT s (Tre.createT s.nodes p d (if ow=true then c else 0) sq) 0:=by
 unfold liveT ownT;rw [if_neg (by simp),if_pos rfl]
theorem liveT_delete {s:Stt} {c:Int} {p:ByteArray} {d v:Int} {sq ow:Bool} : liveT s c ⟨4,p,d,v,sq,ow⟩=treeT s (Tre.delT s.nodes p v) 0:=by
 unfold liveT;rw [if_neg (by simp),if_neg (by simp),if_pos rfl]
theorem liveT_set {s:Stt} {c:Int} {p:ByteArray} {d v:Int} {sq ow:Bool} : liveT s c ⟨5,p,d,v,sq,ow⟩=treeT s (Tre.setT s.nodes p d v) (verT s ⟨5,p,d,v,sq,ow⟩):=by
 unfold liveT;rw [if_neg (by simp),if_neg (by simp),if_neg (by simp),if_pos rfl]
theorem liveT_read {s:Stt} {c:Int} {o:Opn} (h:6≤o.kind):liveT s c o=(readT s o,s):=by
 unfold liveT;rw [if_neg (by omega),if_neg (by omega),if_neg (by omega),if_neg (by omega)]
theorem liveT_close {s:Stt} {c:Int} {p:ByteArray} {d v:Int} {sq ow:Bool} : liveT s c ⟨2,p,d,v,sq,ow⟩=closeT s c:=by
 unfold liveT;rw [if_pos rfl]
theorem readT_none {s:Stt} {o:Opn} (h:Tre.atI s.nodes o.path < 0):readT s o=bad 4:=by unfold readT;rw [if_pos h]
theorem readT_some {s:Stt} {o:Opn} {k:Nat} {z:Zn} (h:Tre.atI s.nodes o.path=k) (hz:s.nodes[k]?=some z):readT s o=if o.kind=6 then ⟨0,z.data,⟨#[]⟩⟩ else if o.kind=7 then ⟨0,((Tre.kids s.nodes o.path).length:Nat),⟨#[]⟩⟩ else if o.version≠-1∧o.version≠z.version then bad 7 else ⟨0,z.version,⟨#[]⟩⟩:=by
 unfold readT
 rw [if_neg (by omega),h,Int.toNat_natCast,hz]
theorem verT_some {s:Stt} {o:Opn} {k:Nat} {z:Zn} (h:Tre.atI s.nodes o.path=k) (hz:s.nodes[k]?=some z):verT s o=z.version+1:=by
 unfold verT
 rw [if_neg (by omega),h,Int.toNat_natCast,hz]
/-- Where a set has no code: the place, and the nodes that come of it. -/
theorem set_done {s:Stt} {p:ByteArray} {d n:Int} (hf:Tre.fault s.nodes=0) (h:(Tre.setT s.nodes p d n).1=0):∃ (k:Nat) (z:Zn) (rs:List Zn),Tre.setT s.nodes p d n=(0,⟨#[]⟩,rs)∧Tre.fault rs=0∧(Tre.has rs p=true∧Tre.cut rs p.data.toList=k)∧rs[k]?=some z∧rs.length≤20∧(∀ (v:Int) (sq ow:Bool),verT s ⟨5,p,d,v,sq,ow⟩=z.version):=by
 obtain⟨k,z,ha,hz,hd,hv,he⟩:=setT_zero h
 have hk:=(List.getElem?_eq_some_iff.1 hz).1
 have hn:=(Tre.fault_nums hf z (List.mem_of_getElem? hz)).2
 have hN:=Tre.nums_of (Tre.good_of hf) (List.mem_of_getElem? hz)
 have hf2:Tre.fault (s.nodes.set k { z with data:=d,version:=z.version+1 })=0:=Tre.fault_set hz rfl rfl (fun _=>Tre.okNums_of (by unfold Tre.okData at hd;simp at hd;refine⟨?_,?_,?_,?_,?_⟩ <;> simp <;> omega)) hf
 have ha2:Tre.atI (s.nodes.set k { z with data:=d,version:=z.version+1 }) p=k:=(Tre.at_set (z':={ z with data:=d,version:=z.version+1 }) hz rfl).trans ha
 refine⟨k,{ z with data:=d,version:=z.version+1 },_,he,hf2,?_,by rw [List.getElem?_set];simp [hk],by have:=(Tre.fault_nodes hf).1;simpa using this,fun v sq ow=>verT_some ha hz⟩
 cases hh:Tre.has (s.nodes.set k { z with data:=d,version:=z.version+1 }) p with
 | false=>have:=Tre.has_not hh;omega
 | true =>
  obtain⟨y,h1,-,-⟩:=Tre.has_at (Tre.fault_up hf2) hh
  exact⟨rfl,by omega⟩
end Sta
end Go.Proofs.YtpdejinkmnhioaaGreatDoor
namespace Go.Proofs.YtpdejinkmnhioaaGreatDoor
open Go.RowKit
theorem Does.ext {n B:Nat} {F:FuncId} {caps:Array Value} {w w' : World} {s:Stt} {q:Ry × Stt} (h:Does n B F caps w s q) (he:Ext w w'):Does n B F caps w' s q :=
 fun wx K hx=>h wx K (he.trans hx)
/-- What came back is a function that makes q of the state s in box B, where P. -/
def Maker (P:Prop) (n B:Nat) (w:World) (s:Stt) (q:Ry × Stt) (e:Ending) (w' : World):Prop :=
 ∃ F caps,e = .returned (.func (.func F) #[] caps)∧(∀ (args:Array Value) (W:World),(callFunc F args).run Tryz.prog W = .ok (.enter F args) W)∧(P→Does n B F caps w' s q)∧Ext w w'
theorem Ses.live_some {l:List Se} {i n:Int} (h:Ses.live l i n=true):0 < l.length:=by
 cases l with
 | nil=>simp [Ses.live,hasE] at h
 | cons a r=>simp
set_option maxHeartbeats 1000000 in
theorem deleteStep_mk (p:ByteArray) (v:Int) (w:World):Calls Tryz.prog 193 #[.agg #[.string p,.int .i64 v]] w fun e w'=>∃ D,e = .returned (.func (.func 228) #[] #[.pointer (some ⟨D,0,none⟩)])∧(w'.cell? ⟨D,0,none⟩=some (.string p)∧w'.cell? ⟨D,1,none⟩=some (.int .i64 v))∧Ext w w':=by
 refine n24z ?_
 intro hmf
 go_enter Tryz.func193,Tryz.ntmps193
 go_wp2
 go_ret
 exact⟨w.heap.size,rfl,⟨by simp,by simp⟩,(Ext.refl _).alloc _⟩
set_option maxHeartbeats 1000000 in
theorem setStep_mk (p:ByteArray) (d v:Int) (w:World):Calls Tryz.prog 194 #[.agg #[.string p,.int .i64 d,.int .i64 v]] w fun e w'=>∃ D,e = .returned (.func (.func 230) #[] #[.pointer (some ⟨D,0,none⟩)])∧(w'.cell? ⟨D,0,none⟩=some (.string p)∧w'.cell? ⟨D,1,none⟩=some (.int .i64 d)∧w'.cell? ⟨D,2,none⟩=some (.int .i64 v))∧Ext w w':=by
 refine n24z ?_
 intro hmf
 go_enter Tryz.func194,Tryz.ntmps194
 go_wp2
 go_ret
 exact⟨w.heap.size,rfl,⟨by simp,by simp,by simp⟩,(Ext.refl _).alloc _⟩
set_option maxHeartbeats 1000000 in
theorem getStep_mk (p:ByteArray) (w:World):Calls Tryz.prog 195 #[.agg #[.string p]] w fun e w'=>∃ D,e = .returned (.func (.func 232) #[] #[.pointer (some ⟨D,0,none⟩)])∧(w'.cell? ⟨D,0,none⟩=some (.string p))∧Ext w w':=by
 refine n24z ?_
 intro hmf
 go_enter Tryz.func195,Tryz.ntmps195
 exact m78z
set_option maxHeartbeats 1000000 in
theorem listStep_mk (p:ByteArray) (w:World):Calls Tryz.prog 196 #[.agg #[.string p]] w fun e w'=>∃ D,e = .returned (.func (.func 234) #[] #[.pointer (some ⟨D,0,none⟩)])∧(w'.cell? ⟨D,0,none⟩=some (.string p))∧Ext w w':=by
 refine n24z ?_
 intro hmf
 go_enter Tryz.func196,Tryz.ntmps196
 exact m78z
set_option maxHeartbeats 1000000 in
theorem checkStep_mk (p:ByteArray) (v:Int) (w:World):Calls Tryz.prog 197 #[.agg #[.string p,.int .i64 v]] w fun e w'=>∃ D,e = .returned (.func (.func 236) #[] #[.pointer (some ⟨D,0,none⟩)])∧(w'.cell? ⟨D,0,none⟩=some (.string p)∧w'.cell? ⟨D,1,none⟩=some (.int .i64 v))∧Ext w w':=by
 refine n24z ?_
 intro hmf
 go_enter Tryz.func197,Tryz.ntmps197
 go_wp2
 go_ret
 exact⟨w.heap.size,rfl,⟨by simp,by simp⟩,(Ext.refl _).alloc _⟩
set_option maxHeartbeats 1000000 in
theorem openStep_mk (c:Int) (w:World):Calls Tryz.prog 132 #[.int .i64 c] w fun e w'=>∃ D,e = .returned (.func (.func 188) #[] #[.pointer (some ⟨D,0,none⟩)])∧(w'.cell? ⟨D,0,none⟩=some (.int .i64 c))∧Ext w w':=by
 refine n24z ?_
 intro hmf
 go_enter Tryz.func132,Tryz.ntmps132
 exact m78z
set_option maxHeartbeats 1000000 in
theorem closeStep_mk (c:Int) (w:World):Calls Tryz.prog 198 #[.int .i64 c] w fun e w'=>∃ D,e = .returned (.func (.func 238) #[] #[.pointer (some ⟨D,0,none⟩)])∧(w'.cell? ⟨D,0,none⟩=some (.int .i64 c))∧Ext w w':=by
 refine n24z ?_
 intro hmf
 go_enter Tryz.func198,Tryz.ntmps198
 exact m78z
set_option maxHeartbeats 1000000 in
theorem createStep_mk (c:Int) (p:ByteArray) (d:Int) (sq ow:Bool) (w:World):Calls Tryz.prog 192 #[.int .i64 c,.agg #[.string p,.int .i64 d,.bool sq,.bool ow]] w fun e w'=>∃ D O,e = .returned (.func (.func 226) #[] #[.pointer (some ⟨D,0,none⟩),.pointer (some ⟨O,0,none⟩)])∧(w'.cell? ⟨D,0,none⟩=some (.string p)∧w'.cell? ⟨D,1,none⟩=some (.int .i64 d)∧w'.cell? ⟨D,2,none⟩=some (.bool sq)∧w'.cell? ⟨D,3,none⟩=some (.bool ow))∧w'.cell? ⟨O,0,none⟩=some (.int .i64 (if ow=true then c else 0))∧Ext w w':=by
 refine n24z ?_
 intro hmf
 cases ow with
 | false =>
  go_enter Tryz.func192,Tryz.ntmps192
  go_wp2
  go_ret
  exact⟨w.heap.size,w.heap.size+1,rfl,⟨by simp,by simp,by simp,by simp⟩,by simp,((Ext.refl _).alloc _).alloc _⟩
 | true =>
  go_enter Tryz.func192,Tryz.ntmps192
  go_wp2
  go_ret
  exact⟨w.heap.size,w.heap.size+1,rfl,⟨by simp,by simp,by simp,by simp⟩,by simp,by first | exact ((Ext.refl _).alloc _).alloc _ | exact (((Ext.refl _).alloc _).alloc _).setCell (p:=⟨w.heap.size+1,0,none⟩) (by show _≤w.heap.size+1;omega) _⟩
set_option maxHeartbeats 1000000 in
theorem whileLive_mk (c:Int) (fn:Fn) (fs cp:Array Value) (w:World):Calls Tryz.prog 133 #[.int .i64 c,.func fn fs cp] w fun e w'=>∃ C D,e = .returned (.func (.func 190) #[] #[.pointer (some ⟨C,0,none⟩),.pointer (some ⟨D,0,none⟩)])∧w'.cell? ⟨C,0,none⟩=some (.int .i64 c)∧w'.cell? ⟨D,0,none⟩=some (.func fn fs cp)∧Ext w w':=by
 refine n24z ?_
 intro hmf
 go_enter Tryz.func133,Tryz.ntmps133
 go_wp2
 go_ret
 exact⟨w.heap.size,w.heap.size+1,rfl,by simp,by simp,((Ext.refl _).alloc _).alloc _⟩
end Go.Proofs.YtpdejinkmnhioaaGreatDoor
