/- T10, IO0, G1, E4, in one text. -/
import Derived.Test.YtpdejinkmnhioaaGreatDoorAoT9
import Derived.Test.YtpdejinkmnhioaaGreatDoorAoJ10
import Derived.Test.YtpdejinkmnhioaaGreatDoorAoJ0
import Derived.Test.YtpdejinkmnhioaaGreatDoorAoJ11
import Derived.Test.YtpdejinkmnhioaaGreatDoorAoJ3
import Derived.Test.YtpdejinkmnhioaaGreatDoorAoMk
namespace Go.Proofs.YtpdejinkmnhioaaGreatDoor
open Go.RowKit
namespace Tre
def createV (zs:List Zn) (p:ByteArray) (d o:Int) (q:Bool):Int × ByteArray × List Zn:=if asked zs p≠0 then (asked zs p,⟨#[]⟩,[]) else createT zs p d o q
theorem createV_bad {zs:List Zn} {p:ByteArray} {d o c:Int} {q:Bool} (h:asked zs p=c) (h0:c≠0):createV zs p d o q=(c,⟨#[]⟩,[]):=by unfold createV;rw [h,if_pos h0]
theorem createV_ok {zs:List Zn} {p:ByteArray} {d o:Int} {q:Bool} (h:asked zs p=0):createV zs p d o q=createT zs p d o q:=by unfold createV;rw [h,if_neg (by simp)]
end Tre
end Go.Proofs.YtpdejinkmnhioaaGreatDoor
namespace Go.Proofs.YtpdejinkmnhioaaGreatDoor
open Go.RowKit
theorem IRoom.ext {w w' : World} {g off n:Nat} (h:IRoom w g off n) (he:Ext w w'):IRoom w' g off n:=by
 exact m18z
theorem IRoom.upd {w w' : World} {g off n b:Nat} (h:IRoom w g off n) (he:Upd b w w') (hne:g≠b):IRoom w' g off n :=
 ⟨Nat.lt_of_lt_of_le h.1 he.2.1,fun j hj=>⟨by rw [(he.at_ne _ _ hne h.1).1];exact (h.2 j hj).1,by rw [(he.at_ne _ _ hne h.1).2];exact (h.2 j hj).2⟩⟩
theorem NumsAt.upd {w w' : World} {g off b:Nat} {ts:List Int} (h:NumsAt w g off ts) (he:Upd b w w') (hne:g≠b) (hg:g < w.heap.size):NumsAt w' g off ts :=
 fun i t ht=>(he.at_ne _ _ hne hg).1.trans (h i t ht)
def IOwn (w:World) (v:Value) (g:Nat) (ts:List Int):Prop :=
 ∃ a cap,v = .slice a ts.length cap∧ts.length≤cap∧cap≤maxLen∧(0 < ts.length→∃ off,a=some ⟨g,off,none⟩∧IRoom w g off ts.length∧NumsAt w g off ts)
theorem IOwn.slice {w:World} {v:Value} {g:Nat} {ts:List Int} (h:IOwn w v g ts):ISlice w v ts:=by
 exact m28z
theorem IOwn.ext {w w' : World} {v:Value} {g:Nat} {ts:List Int} (h:IOwn w v g ts) (he:Ext w w'):IOwn w' v g ts:=by
 exact m25z
theorem IOwn.lt {w:World} {v:Value} {g:Nat} {ts:List Int} (h:IOwn w v g ts) (h0:0 < ts.length):g < w.heap.size:=by
 exact m37z
theorem IOwn.nil {w w' : World} {v:Value} {g g' : Nat} {ts:List Int} (h:IOwn w v g ts) (h0:¬ 0 < ts.length):IOwn w' v g' ts:=by
 exact m32z
theorem IOwn.upd' {w w' : World} {v:Value} {g b:Nat} {ts:List Int} (h:IOwn w v g ts) (he:Upd b w w') (hne:0 < ts.length→g≠b):IOwn w' v g ts:=by
 by_cases h0:0 < ts.length
 ·exact m43z
 ·exact h.nil h0
theorem IOwn.pick {w:World} {v:Value} {g:Nat} {ts:List Int} (h:IOwn w v g ts):∃ g',g'≤w.heap.size∧IOwn w v g' ts∧(g'=w.heap.size∧¬ 0 < ts.length∨(g'=g∧g < w.heap.size∧0 < ts.length)):=by
 by_cases h0:0 < ts.length
 ·exact m83z
 ·exact⟨_,Nat.le_refl _,h.nil h0,Or.inl ⟨rfl,h0⟩⟩
end Go.Proofs.YtpdejinkmnhioaaGreatDoor
namespace Go.Proofs.YtpdejinkmnhioaaGreatDoor
open Go.RowKit
def hasI (l:List Int) (x:Int):Bool:=l.any fun y=>x == y
def goneB (ids:List Int) (z:Zn):Bool:=(z.owner != 0) && hasI ids z.owner
def dropL (ids:List Int) (zs:List Zn):List Zn:=zs.filter fun z=>!goneB ids z
/-- The first place of x behind k, or -1. -/
def idxI (x:Int):Nat→List Int→Int
 | _,[]=>-1
 | k,y :: r=>if x=y then (k:Int) else idxI x (k+1) r
theorem idxI_at {l:List Int} {k:Nat} {y:Int} (x:Int) (h:l[k]?=some y):idxI x k (l.drop k)=if x=y then (k:Int) else idxI x (k+1) (l.drop (k+1)):=by
 obtain⟨hk,rfl⟩:=List.getElem?_eq_some_iff.1 h
 rw [List.drop_eq_getElem_cons hk,idxI]
theorem idxI_has (x:Int):∀ (l:List Int) (k:Nat),decide (0≤idxI x k l)=hasI l x
 | [],k=>rfl
 | y :: r,k=>by
  rw [idxI]
  unfold hasI
  rw [List.any_cons]
  by_cases h:x=y
  ·rw [if_pos h,show (x == y)=true from by simp [h],Bool.true_or]
   simp
  ·rw [if_neg h,show (x == y)=false from by simp [h],Bool.false_or]
   exact idxI_has x r (k+1)
set_option maxHeartbeats 1000000 in
set_option maxRecDepth 100000 in
theorem indexI_any (v:Value) (l:List Int) (x:Int) (w:World) (hS:ISlice w v l) :
  Calls Tryz.prog 244 #[v,.int .i64 x] w fun e w'=>e = .returned (.int .i64 (idxI x 0 l))∧Ext w w':=by
 obtain⟨a,cap,rfl,hlc,hcm,hx⟩:=hS
 have HX:Hid (0 < l.length→∃ b off,a=some ⟨b,off,none⟩∧b < w.heap.size∧NumsAt w b off l):=hx
 clear hx
 unfold maxLen at hcm
 go_enter Tryz.func244,Tryz.ntmps244
 go_wp2
 go_loopw [8] (fun i wr=>∃ (k:Nat),k≤l.length∧i = .int .i64 k∧Hid (idxI x k (l.drop k)=idxI x 0 l)∧Hid (Ext w wr)) (fun i _=>l.length - (intOf i).toNat)
 case atStart=>exact⟨0,Nat.zero_le _,rfl,rfl,Ext.refl _⟩
 case round =>
  obtain⟨k,hk,rfl,HA,HE⟩:=hrel
  by_cases hlt:k < l.length
  ·obtain⟨y,hyk⟩:∃ y,l[k]?=some y:=⟨_,List.getElem?_eq_getElem hlt⟩
   obtain⟨b,off,rfl,hb,hN⟩:=HX.out (by omega)
   have d0:=hN.ext hb HE.out k y hyk
   have hat:=idxI_at x hyk
   by_cases he:x=y
   ·have HR:Hid (idxI x 0 l=k):=by show _=_;rw [← HA.out,hat,if_pos he]
    clear hat hN hyk
    go_wp2
    go_ret
    exact⟨ret_int HR.out.symm,HE.out⟩
   ·have HA2:Hid (idxI x (k+1) (l.drop (k+1))=idxI x 0 l):=by show _=_;rw [← HA.out,hat,if_neg he]
    clear hat hN hyk
    go_wp2
    exact⟨⟨k+1,by omega,by go_num,HA2,HE⟩,by simp [intOf];omega⟩
  ·have HR:Hid (idxI x 0 l = -1):=by show _=_;rw [← HA.out,List.drop_of_length_le (by omega),idxI]
   go_wp2
   go_ret
   exact⟨ret_int HR.out.symm,HE.out⟩
set_option maxHeartbeats 1000000 in
theorem containsI_any (v:Value) (l:List Int) (x:Int) (w:World) (hS:ISlice w v l) :
  Calls Tryz.prog 210 #[v,.int .i64 x] w fun e w'=>e = .returned (.bool (hasI l x))∧Ext w w':=by
 have H:Hid (Calls Tryz.prog 244 #[v,.int .i64 x] w fun e w'=>e = .returned (.int .i64 (idxI x 0 l))∧Ext w w'):=indexI_any v l x w hS
 obtain⟨a,cap,rfl,-⟩:=hS
 rw [← idxI_has x l 0]
 generalize idxI x 0 l=r at *
 go_enter Tryz.func210,Tryz.ntmps210
 go_wp2_with fail
 refine H.out.mono ?_
 exact m22z
/-- The ids as the closure holds them: block B holds their slice. -/
def IdsAt (w:World) (B:Nat) (iv:Value) (ids:List Int):Prop:=w.cell? ⟨B,0,none⟩=some iv∧ISlice w iv ids
theorem IdsAt.ext {w w' : World} {B:Nat} {iv:Value} {ids:List Int} (h:IdsAt w B iv ids) (he:Ext w w'):IdsAt w' B iv ids :=
 ⟨((Ext.cell he).1 _ _ (World.block_lt_of_cell? w _ h.1)).trans h.1,h.2.ext he⟩
set_option maxHeartbeats 1000000 in
set_option maxRecDepth 100000 in
theorem drop1_any (B:Nat) (iv:Value) (ids:List Int) (z:Zn) (w:World) (h:IdsAt w B iv ids) :
  Calls Tryz.prog 209 #[zagg z,.pointer (some ⟨B,0,none⟩)] w fun e w'=>e = .returned (.bool (goneB ids z))∧Ext w w':=by
 have HI:Hid (IdsAt w B iv ids):=h
 obtain⟨hc,hS⟩:=h
 have HC:Hid (∀ wx,Ext w wx→Calls Tryz.prog 210 #[iv,.int .i64 z.owner] wx fun e w'=>e = .returned (.bool (hasI ids z.owner))∧Ext wx w'):=fun wx he=>containsI_any iv ids z.owner wx (hS.ext he)
 obtain⟨a,cap,rfl,-⟩:=hS
 have hBl:=World.block_lt_of_cell? w _ hc
 unfold goneB
 unfold zagg
 by_cases h0:z.owner=0
 ·rw [show (z.owner != 0)=false from by simp [h0],Bool.false_and]
  go_enter Tryz.func209,Tryz.ntmps209
  go_wp2
  go_ret
  exact⟨rfl,(Ext.refl _).alloc _⟩
 ·rw [show (z.owner != 0)=true from by simp [h0],Bool.true_and]
  have hc' : (w.alloc (.cells #[.string z.path,.int .i64 z.data,.int .i64 z.version,.int .i64 z.owner,.int .i64 z.next] 144)).cell? ⟨B,0,none⟩=some (.slice a ids.length cap):=((Ext.cell ((Ext.refl w).alloc _)).1 B 0 hBl).trans hc
  generalize hasI ids z.owner=R at *
  go_enter Tryz.func209,Tryz.ntmps209
  go_wp2_with fail
  refine (HC.out _ ((Ext.refl _).alloc _)).mono ?_
  rintro e w2 ⟨rfl,hb⟩
  have HB:Hid (Ext w w2):=((Ext.refl _).alloc _).trans hb
  clear hb
  go_wp2
  go_ret
  exact⟨ret_bool (by simp [h0]),HB.out⟩
/-- The first one that is gone behind k, or -1. -/
def idxZ (ids:List Int):Nat→List Zn→Int
 | _,[]=>-1
 | k,z :: r=>if goneB ids z=true then (k:Int) else idxZ ids (k+1) r
theorem idxZ_at {ids:List Int} {zs:List Zn} {k:Nat} {z:Zn} (h:zs[k]?=some z):idxZ ids k (zs.drop k)=if goneB ids z=true then (k:Int) else idxZ ids (k+1) (zs.drop (k+1)):=by
 obtain⟨hk,rfl⟩:=List.getElem?_eq_some_iff.1 h
 rw [List.drop_eq_getElem_cons hk,idxZ]
theorem idxZ_is (ids:List Int):∀ (zs:List Zn) (k:Nat),(idxZ ids k zs = -1∧dropL ids zs=zs)∨∃ j,j < zs.length∧idxZ ids k zs=((k+j:Nat):Int)∧dropL ids (zs.take j)=zs.take j∧∃ z,zs[j]?=some z∧goneB ids z=true
 | [],k=>Or.inl ⟨rfl,rfl⟩
 | z :: r,k=>by
  rw [idxZ]
  by_cases h:goneB ids z=true
  ·exact Or.inr ⟨0,by simp,by rw [if_pos h];rfl,rfl,z,rfl,h⟩
  ·rw [if_neg h]
   rcases idxZ_is ids r (k+1) with ⟨q1,q2⟩ | ⟨j,q1,q2,q3,z',q4,q5⟩
   ·refine Or.inl ⟨q1,?_⟩
    unfold dropL at q2 ⊢
    rw [List.filter_cons_of_pos (by simpa using h),q2]
   ·refine Or.inr ⟨j+1,by simp;omega,by rw [q2];omega,?_,z',by simpa using q4,q5⟩
    unfold dropL at q3 ⊢
    rw [List.take_succ_cons,List.filter_cons_of_pos (by simpa using h),q3]
set_option maxHeartbeats 1000000 in
set_option maxRecDepth 100000 in
theorem indexFunc_any (v:Value) (zs:List Zn) (B:Nat) (iv:Value) (ids:List Int) (w:World) (hS:NSlice w v zs) (h:IdsAt w B iv ids) :
  Calls Tryz.prog 243 #[v,.func (.func 209) #[] #[.pointer (some ⟨B,0,none⟩)]] w fun e w'=>e = .returned (.int .i64 (idxZ ids 0 zs))∧Ext w w':=by
 have HI:Hid (IdsAt w B iv ids):=h
 clear h
 obtain⟨a,cap,rfl,hlc,hcm,hx⟩:=hS
 refine n26z ?_
 intro HX
 clear hx
 unfold maxLen at hcm
 go_enter Tryz.func243,Tryz.ntmps243
 go_wp2
 go_loopw [8] (fun i wr=>∃ (k:Nat),k≤zs.length∧i = .int .i64 k∧Hid (idxZ ids k (zs.drop k)=idxZ ids 0 zs)∧Hid (Ext w wr)) (fun i _=>zs.length - (intOf i).toNat)
 case atStart=>exact⟨0,Nat.zero_le _,rfl,rfl,Ext.refl _⟩
 case round =>
  obtain⟨k,hk,rfl,HA,HE⟩:=hrel
  by_cases hlt:k < zs.length
  ·obtain⟨z,hzk⟩:∃ z,zs[k]?=some z:=⟨_,List.getElem?_eq_getElem hlt⟩
   obtain⟨b,off,rfl,hb,hN⟩:=HX.out (by omega)
   obtain⟨d0,d1,d2,d3,d4⟩:=hN.ext hb HE.out k z hzk
   have hat:=idxZ_at (ids:=ids) hzk
   have HC:Hid (∀ wx,Ext w wx→Calls Tryz.prog 209 #[zagg z,.pointer (some ⟨B,0,none⟩)] wx fun e w'=>e = .returned (.bool (goneB ids z))∧Ext wx w'):=fun wx he=>drop1_any B iv ids z wx (HI.out.ext he)
   unfold zagg at HC
   cases hg:goneB ids z with
   | true =>
    rw [hg] at HC
    have HR:Hid (idxZ ids 0 zs=k):=by show _=_;rw [← HA.out,hat,if_pos hg]
    exact m72z
   | false =>
    rw [hg] at HC
    have HA2:Hid (idxZ ids (k+1) (zs.drop (k+1))=idxZ ids 0 zs):=by show _=_;rw [← HA.out,hat,if_neg (by simp [hg])]
    exact m67z
  ·have HR:Hid (idxZ ids 0 zs = -1):=by show _=_;rw [← HA.out,List.drop_of_length_le (by omega),idxZ]
   go_wp2
   go_ret
   exact⟨ret_int HR.out.symm,HE.out⟩
def imarks (k n:Nat):List Int:=(List.range n).map fun i=>((k+i:Nat):Int)
theorem zeroCells_one (n:Nat):∀ u ∈ (Builtin.zeroCells (Value.agg #[.string ByteArray.empty,.int .i64 0,.int .i64 0,.int .i64 0,.int .i64 0]).cells n).toList,u.oneCell'=true:=by
 intro u hu
 rw [Array.mem_toList_iff] at hu
 unfold Builtin.zeroCells at hu
 rw [Array.mem_map] at hu
 obtain⟨i,-,rfl⟩:=hu
 have h5:i % 5=0∨i % 5=1∨i % 5=2∨i % 5=3∨i % 5=4:=by omega
 have hc:(Value.agg #[.string ByteArray.empty,.int .i64 0,.int .i64 0,.int .i64 0,.int .i64 0]).cells = #[.string ByteArray.empty,.int .i64 0,.int .i64 0,.int .i64 0,.int .i64 0]:=rfl
 rw [hc]
 show (#[Value.string ByteArray.empty,.int .i64 0,.int .i64 0,.int .i64 0,.int .i64 0][i % 5]!).oneCell'=true
 rcases h5 with h | h | h | h | h <;> rw [h] <;> rfl
def zcs (n:Nat):List Value:=(Builtin.zeroCells (Value.agg #[.string ByteArray.empty,.int .i64 0,.int .i64 0,.int .i64 0,.int .i64 0]).cells n).toList
theorem zcs_len (n:Nat):(zcs n).length=n * 5:=by
 unfold zcs
 rw [Array.length_toList,size_zeroCells];rfl
theorem clear_many (w:World) (ty:TypeId) (g o n c:Nat) (hn:0 < n) (hs:∀ j,j < n * 5→(w.cell? ⟨g,o+j,none⟩).isSome=true∧w.frozen? ⟨g,o+j,none⟩=false) :
  (Builtin.clear_ #[33] ty #[.slice (some ⟨g,o,none⟩) n c]).run Tryz.prog w = .ok (.tuple #[]) (w.setCells g o (zcs n)):=by
 have hz:∀ w,(zeroValue 144).run Tryz.prog w = .ok (.agg #[.string ByteArray.empty,.int .i64 0,.int .i64 0,.int .i64 0,.int .i64 0]) w:=Tryz.zeroValue144
 have hst:=run_storeCells_cells (P:=Tryz.prog) g o (zcs n) 0 w (by rw [zcs_len];simpa using fun j hj=>(hs j hj).1) (by rw [zcs_len];simpa using fun j hj=>(hs j hj).2) (zeroCells_one n)
 simp only [Nat.add_zero] at hst
 unfold zcs at hst ⊢
 obtain⟨m,rfl⟩:∃ m,n=m+1:=⟨n - 1,by omega⟩
 simp [Builtin.clear_,run_underlying Tryz.underlying33,hz,hst]
theorem dropL_take {ids:List Int} {zs:List Zn} {k:Nat} {z:Zn} (h:zs[k]?=some z):dropL ids (zs.take (k+1))=dropL ids (zs.take k) ++ (if goneB ids z=true then [] else [z]):=by
 obtain⟨hk,rfl⟩:=List.getElem?_eq_some_iff.1 h
 unfold dropL
 rw [List.take_succ_eq_append_getElem hk,List.filter_append]
 congr 1
 by_cases q:goneB ids zs[k]=true
 ·simp [q]
 ·simp [q]
theorem dropL_len (ids:List Int) (zs:List Zn):(dropL ids zs).length≤zs.length:=List.length_filter_le _ _
theorem zbox_ext (w w' : World) (z:Zn) (t:TypeId) (he:Ext (w.alloc (.cells #[.string z.path,.int .i64 z.data,.int .i64 z.version,.int .i64 z.owner,.int .i64 z.next] t)) w') :
  w'.cell? ⟨w.heap.size,0,none⟩=some (.string z.path)∧w'.cell? ⟨w.heap.size,1,none⟩=some (.int .i64 z.data)∧w'.cell? ⟨w.heap.size,2,none⟩=some (.int .i64 z.version)∧w'.cell? ⟨w.heap.size,3,none⟩=some (.int .i64 z.owner)∧w'.cell? ⟨w.heap.size,4,none⟩=some (.int .i64 z.next):=by
 have hc:=fun r=>(Ext.cell he).1 w.heap.size r (by simp)
 exact⟨(hc 0).trans (by simp),(hc 1).trans (by simp),(hc 2).trans (by simp),(hc 3).trans (by simp),(hc 4).trans (by simp)⟩
/-- How the nodes lie when j were looked at. -/
def DelAt (w wr:World) (g off n j:Nat) (ids:List Int) (zs:List Zn):Prop :=
 Room wr g off n∧NodesAt wr g off (dropL ids (zs.take j))∧NodesAt wr g (off+j * 5) (zs.drop j)∧Upd g w wr
theorem DelAt.ext {w wr wx:World} {g off n j:Nat} {ids:List Int} {zs:List Zn} (h:DelAt w wr g off n j ids zs) (he:Ext wr wx):DelAt w wx g off n j ids zs :=
 ⟨h.1.ext he,h.2.1.ext h.1.1 he,h.2.2.1.ext h.1.1 he,h.2.2.2.trans (Upd.ext he (Nat.le_of_lt h.1.1))⟩
theorem nodes_next {w:World} {g o:Nat} {zs:List Zn} {j:Nat} (h:NodesAt w g (o+j * 5) (zs.drop j)):NodesAt w g (o+(j+1) * 5) (zs.drop (j+1)):=by
 have:=h.drop 1
 rw [List.drop_drop] at this
 rw [show o+(j+1) * 5=o+j * 5+1 * 5 from by omega]
 exact this
theorem DelAt.gone {w wr:World} {g off n j:Nat} {ids:List Int} {zs:List Zn} {z:Zn} (h:DelAt w wr g off n j ids zs) (hz:zs[j]?=some z) (hg:goneB ids z=true):DelAt w wr g off n (j+1) ids zs :=
 ⟨h.1,by rw [dropL_take hz,if_pos hg,List.append_nil];exact h.2.1,nodes_next h.2.2.1,h.2.2.2⟩
theorem DelAt.kept {w wr:World} {g off j:Nat} {ids:List Int} {zs:List Zn} {z:Zn} (h:DelAt w wr g off zs.length j ids zs) (hz:zs[j]?=some z) (hg:goneB ids z=false) (hm:(dropL ids (zs.take j)).length < j) :
  DelAt w (putZ wr g (off+(dropL ids (zs.take j)).length * 5) z) g off zs.length (j+1) ids zs:=by
 have hj:=(List.getElem?_eq_some_iff.1 hz).1
 have he:dropL ids (zs.take (j+1))=dropL ids (zs.take j) ++ [z]:=by rw [dropL_take hz,if_neg (by simp [hg])]
 refine⟨h.1.put z (by omega),?_,?_,upd_putZ h.2.2.2 _ _⟩
 ·have hp:=NodesAt.put (zs:=dropL ids (zs.take (j+1))) (k:=(dropL ids (zs.take j)).length) (z:=z) h.1 (by omega) (by rw [he];simp) (by rw [he,List.take_left];exact h.2.1)
  have hle:(dropL ids (zs.take (j+1))).length≤(dropL ids (zs.take j)).length+1:=by rw [he];simp
  rw [List.take_of_length_le hle] at hp
  exact hp
 ·have hn:=nodes_next h.2.2.1
  intro i y hy
  obtain⟨c0,c1,c2,c3,c4⟩:=hn i y hy
  exact⟨by rw [putZ_ne _ _ _ _ _ _ (by omega)];exact c0,by rw [putZ_ne _ _ _ _ _ _ (by omega)];exact c1,by rw [putZ_ne _ _ _ _ _ _ (by omega)];exact c2,by rw [putZ_ne _ _ _ _ _ _ (by omega)];exact c3,by rw [putZ_ne _ _ _ _ _ _ (by omega)];exact c4⟩
set_option maxHeartbeats 4000000 in
set_option maxRecDepth 100000 in
theorem deleteFunc_any (g off cap B:Nat) (zs:List Zn) (iv:Value) (ids:List Int) (w:World) (hO:Own w (.slice (some ⟨g,off,none⟩) zs.length cap) g zs) (hp:0 < zs.length) (h:IdsAt w B iv ids)
  (hI:∀ wx,Upd g w wx→IdsAt wx B iv ids) :
  Calls Tryz.prog 208 #[.slice (some ⟨g,off,none⟩) zs.length cap,.func (.func 209) #[] #[.pointer (some ⟨B,0,none⟩)]] w fun e w' =>
   e = .returned (.slice (some ⟨g,off,none⟩) (dropL ids zs).length cap)∧Own w' (.slice (some ⟨g,off,none⟩) (dropL ids zs).length cap) g (dropL ids zs)∧Upd g w w':=by
 have HOw:Hid (Own w (.slice (some ⟨g,off,none⟩) zs.length cap) g zs):=hO
 have HIdx:Hid (Calls Tryz.prog 243 #[.slice (some ⟨g,off,none⟩) zs.length cap,.func (.func 209) #[] #[.pointer (some ⟨B,0,none⟩)]] w fun e w'=>e = .returned (.int .i64 (idxZ ids 0 zs))∧Ext w w'):=indexFunc_any _ zs B iv ids w hO.slice h
 have HC:Hid (∀ (z:Zn) wx,Upd g w wx→Calls Tryz.prog 209 #[zagg z,.pointer (some ⟨B,0,none⟩)] wx fun e w'=>e = .returned (.bool (goneB ids z))∧Ext wx w'):=fun z wx he=>drop1_any B iv ids z wx (hI wx he)
 unfold zagg at HC
 clear h hI
 obtain⟨a6,cap6,he6,hlc,hcm,hx6⟩:=id hO
 injection he6 with e1 e2 e3
 subst e1 e3
 obtain⟨off6,ho6,hR,hN⟩:=hx6 hp
 injection ho6 with ho6
 injection ho6 with _ ho6 _
 subst ho6
 have HRN:Hid (Room w g off zs.length∧NodesAt w g off zs):=⟨hR,hN⟩
 clear hx6 hR hN hO
 have HCM:Hid (cap≤maxLen):=hcm
 unfold maxLen at hcm
 rcases idxZ_is ids zs 0 with ⟨q1,q2⟩ | ⟨k,q1,q2,q3,z0,q4,q5⟩
 ·rw [q1] at HIdx
  rw [q2]
  clear q1 q2
  go_enter Tryz.func208,Tryz.ntmps208
  go_wp2_with fail
  refine HIdx.out.mono ?_
  rintro e w2 ⟨rfl,hb⟩
  have HB:Hid (Own w2 (.slice (some ⟨g,off,none⟩) zs.length cap) g zs∧Upd g w w2):=⟨HOw.out.ext hb,Upd.ext hb (Nat.le_of_lt HRN.out.1.1)⟩
  clear hb
  go_wp2
  go_ret
  exact⟨rfl,HB.out.1,HB.out.2⟩
 ·rw [q2,Nat.zero_add] at HIdx
  have HD0:Hid (∀ w2,Ext w w2→DelAt w w2 g off zs.length (k+1) ids zs):=by
   intro w2 he
   have hN:=HRN.out.2.ext HRN.out.1.1 he
   refine DelAt.gone ⟨HRN.out.1.ext he,?_,hN.drop k,Upd.ext he (Nat.le_of_lt HRN.out.1.1)⟩ q4 q5
   rw [q3];exact hN.take k
  have HK:Hid ((dropL ids (zs.take (k+1))).length=k):=by
   show _=_
   rw [dropL_take q4,if_pos q5,List.append_nil,q3,List.length_take];omega
  clear q2 q3 q4 q5
  have hkm:(((k:Nat):Int) == -1)=false:=by simp
  go_enter Tryz.func208,Tryz.ntmps208
  go_wp2_with fail
  refine HIdx.out.mono ?_
  rintro e w2 ⟨rfl,hb⟩
  have HD2:Hid (DelAt w w2 g off zs.length (k+1) ids zs):=HD0.out w2 hb
  clear hb HD0 HIdx
  go_wp2
  go_loopw [5,6] (fun iv jv wr=>∃ (j m:Nat),j≤zs.length∧jv = .int .i64 j∧iv = .int .i64 m∧m < j∧Hid (m=(dropL ids (zs.take j)).length)∧Hid (DelAt w wr g off zs.length j ids zs)) (fun _ jv _=>zs.length - (intOf jv).toNat)
  case atStart=>exact⟨k+1,k,by omega,by go_num,rfl,by omega,HK.out.symm,HD2⟩
  case round =>
   obtain⟨j,m,hj,rfl,rfl,hmj,HM,HD⟩:=hrel
   by_cases hlt:j < zs.length
   ·obtain⟨z,hzj⟩:∃ z,zs[j]?=some z:=⟨_,List.getElem?_eq_getElem hlt⟩
    obtain⟨d0,d1,d2,d3,d4⟩:=HD.out.2.2.1 0 z (by rw [List.getElem?_drop];exact hzj)
    rw [Nat.zero_mul,Nat.add_zero] at d0 d1 d2 d3 d4
    cases hg:goneB ids z with
    | true =>
     have HD1:Hid (DelAt w wr g off zs.length (j+1) ids zs):=HD.out.gone hzj hg
     have HM1:Hid (m=(dropL ids (zs.take (j+1))).length):=by show _=_;rw [dropL_take hzj,if_pos hg,List.append_nil];exact HM.out
     have HCz:Hid (∀ wx,Upd g w wx→Calls Tryz.prog 209 #[.agg #[.string z.path,.int .i64 z.data,.int .i64 z.version,.int .i64 z.owner,.int .i64 z.next],.pointer (some ⟨B,0,none⟩)] wx fun e w'=>e = .returned (.bool true)∧Ext wx w'):=fun wx he=>by have:=HC.out z wx he;rw [hg] at this;exact this
     clear hzj hg
     go_wp2_with fail
     refine (HCz.out _ (by exact (HD1.out.ext ((Ext.refl _).alloc _)).2.2.2)).mono ?_
     rintro e w3 ⟨rfl,hb⟩
     have HD3:Hid (DelAt w w3 g off zs.length (j+1) ids zs):=(HD1.out.ext ((Ext.refl _).alloc _)).ext hb
     clear hb
     go_wp2
     exact⟨⟨j+1,m,by omega,by go_num,rfl,by omega,HM1,HD3⟩,by simp [intOf];omega⟩
    | false =>
     have HM1:Hid (m+1=(dropL ids (zs.take (j+1))).length):=by show _=_;rw [dropL_take hzj,if_neg (by simp [hg]),List.length_append,← HM.out];rfl
     have HCz:Hid (∀ wx,Upd g w wx→Calls Tryz.prog 209 #[.agg #[.string z.path,.int .i64 z.data,.int .i64 z.version,.int .i64 z.owner,.int .i64 z.next],.pointer (some ⟨B,0,none⟩)] wx fun e w'=>e = .returned (.bool false)∧Ext wx w'):=fun wx he=>by have:=HC.out z wx he;rw [hg] at this;exact this
     have HD1:Hid (∀ wx,DelAt w wx g off zs.length j ids zs→DelAt w (putZ wx g (off+m * 5) z) g off zs.length (j+1) ids zs):=fun wx hd=>by rw [HM.out];exact DelAt.kept hd hzj hg (by rw [← HM.out];exact hmj)
     clear hzj hg
     go_wp2_with fail
     refine (HCz.out _ (by exact (HD.out.ext ((Ext.refl _).alloc _)).2.2.2)).mono ?_
     rintro e w3 ⟨rfl,hb⟩
     have HD3:Hid (DelAt w w3 g off zs.length j ids zs):=(HD.out.ext ((Ext.refl _).alloc _)).ext hb
     have hgl:=HD3.out.1.1
     clear d0 d1 d2 d3 d4
     obtain⟨d0,d1,d2,d3,d4⟩:=zbox_ext wr w3 z 144 hb
     clear hb
     obtain⟨⟨u0,r0⟩,f0⟩:=HD3.out.1.2 (m * 5) (by omega)
     obtain⟨⟨u1,r1⟩,f1⟩:=HD3.out.1.2 (m * 5+1) (by omega)
     obtain⟨⟨u2,r2⟩,f2⟩:=HD3.out.1.2 (m * 5+2) (by omega)
     obtain⟨⟨u3,r3⟩,f3⟩:=HD3.out.1.2 (m * 5+3) (by omega)
     obtain⟨⟨u4,r4⟩,f4⟩:=HD3.out.1.2 (m * 5+4) (by omega)
     rw [← Nat.add_assoc] at r1 r2 r3 r4 f1 f2 f3 f4
     have HP:Hid (DelAt w (putZ w3 g (off+m * 5) z) g off zs.length (j+1) ids zs):=HD1.out _ HD3.out
     unfold putZ at HP
     go_wp2
     exact⟨⟨j+1,m+1,by omega,by go_num,by go_num,by omega,HM1,HP⟩,by simp [intOf];omega⟩
   ·have hje:j=zs.length:=by omega
    subst hje
    have HM1:Hid (m=(dropL ids zs).length):=by show _=_;rw [HM.out,List.take_length]
    have HD1:Hid (Room wr g off zs.length∧NodesAt wr g off (dropL ids zs)∧Upd g w wr):=by
     have:=HD.out.2.1
     rw [List.take_length] at this
     exact⟨HD.out.1,this,HD.out.2.2.2⟩
    have hcl:∀ ty c,(Builtin.clear_ #[33] ty #[.slice (some ⟨g,off+m * 5,none⟩) (zs.length - m) c]).run Tryz.prog wr = .ok (.tuple #[]) (wr.setCells g (off+m * 5) (zcs (zs.length - m))):=fun ty c=>clear_many wr ty g _ _ c (by omega) (HD1.out.1.some _ _ (by omega) (by omega))
    have HF:Hid (∀ W,W=wr.setCells g (off+m * 5) (zcs (zs.length - m))→Own W (.slice (some ⟨g,off,none⟩) (dropL ids zs).length cap) g (dropL ids zs)∧Upd g w W):=by
     rintro W rfl
     have hs:=HD1.out.1.some (off+m * 5) ((zs.length - m) * 5) (by omega) (by omega)
     have hR2:=HD1.out.1.setCells (off+m * 5) (zcs (zs.length - m)) (fun j hj=>(hs j (by rw [zcs_len] at hj;exact hj)).1)
     refine⟨⟨_,cap,rfl,by rw [← HM1.out];omega,HCM.out,fun _=>⟨off,rfl,hR2.less (dropL_len _ _),NodesAt.of_news fun i u hu=>?_⟩⟩,upd_setCells _ _ _ HD1.out.2.2⟩
     have hi:=(List.getElem?_eq_some_iff.1 hu).1
     rw [cellsZ_length,← HM1.out] at hi
     rw [World.cell?_setCells_out g _ _ _ _ (fun _ _=>.inl (by show off+i < _;omega))]
     exact HD1.out.2.1.news' i u hu
    exact m75z
end Go.Proofs.YtpdejinkmnhioaaGreatDoor
namespace Go.Proofs.YtpdejinkmnhioaaGreatDoor
open Go.RowKit
set_option maxHeartbeats 1000000 in
theorem l4Id_any (n:Int) (w:World):Calls Tryz.prog 50 #[.int .i64 n] w fun e w'=>e = .returned (.bool (Ses.idOk n))∧w'=w:=by
 go_enter Tryz.func50,Tryz.ntmps50
 go_wp2_with fail
 refine (l1In_any _ _ _ _).mono ?_
 rintro e w' ⟨rfl,rfl⟩
 go_wp2
 go_ret
 exact⟨rfl,rfl⟩
set_option maxHeartbeats 1000000 in
theorem l4Now_any (n:Int) (w:World):Calls Tryz.prog 103 #[.int .i64 n] w fun e w'=>e = .returned (.bool (Ses.nowOk n))∧w'=w:=by
 go_enter Tryz.func103,Tryz.ntmps103
 go_wp2_with fail
 refine (l1In_any _ _ _ _).mono ?_
 rintro e w' ⟨rfl,rfl⟩
 go_wp2
 go_ret
 exact⟨rfl,rfl⟩
def Ses.tilOk (n:Int):Bool:=decide (0≤n) && decide (n≤9999)
theorem Ses.ok_eq (s:Se):Ses.ok s=(Ses.idOk s.id && Ses.tilOk s.til):=rfl
def Ses.pre (l:List Se) (k:Nat):Int:=if k=0 then 0 else ((l[k - 1]?).map (·.id)).getD 0
theorem Ses.pre_succ {l:List Se} {k:Nat} {s:Se} (h:l[k]?=some s):Ses.pre l (k+1)=s.id:=by unfold Ses.pre;simp [h]
theorem Ses.idOk_pos {i:Int} (h:Ses.idOk i=true):1≤i∧i≤9:=by unfold Ses.idOk at h;simpa using h
set_option maxHeartbeats 2000000 in
set_option maxRecDepth 100000 in
theorem l4Fault_any (v:Value) (l:List Se) (w:World) (hS:ESlice w v l) :
  Calls Tryz.prog 102 #[v] w fun e w'=>e = .returned (.int .i64 (Ses.fault l))∧Ext w w':=by
 obtain⟨a,cap,rfl,hlc,hcm,hx⟩:=hS
 refine n54z ?_
 intro HX
 clear hx
 unfold maxLen at hcm
 by_cases h6:6 < l.length
 ·have HF:Hid (Ses.fault l=2):=by show _=_;unfold Ses.fault;rw [if_pos h6]
  go_enter Tryz.func102,Tryz.ntmps102
  go_wp2
  go_ret
  exact⟨ret_int HF.out.symm,Ext.refl _⟩
 ·have HF:Hid (Ses.fault l=Ses.from 0 l):=by show _=_;unfold Ses.fault;rw [if_neg h6]
  go_enter Tryz.func102,Tryz.ntmps102
  go_wp2
  go_loopw [3] (fun i wr=>∃ (k:Nat),k≤l.length∧i = .int .i64 k∧Hid (Ses.from (Ses.pre l k) (l.drop k)=Ses.from 0 l)∧Hid (Ext w wr)) (fun i _=>l.length - (intOf i).toNat)
  case atStart=>exact⟨0,Nat.zero_le _,rfl,rfl,Ext.refl _⟩
  case round =>
   obtain⟨k,hk,rfl,HA,HE⟩:=hrel
   by_cases hlt:k < l.length
   ·obtain⟨s,hsk⟩:∃ s,l[k]?=some s:=⟨_,List.getElem?_eq_getElem hlt⟩
    obtain⟨b,off,rfl,hb,hN⟩:=HX.out (by omega)
    obtain⟨d0,d1⟩:=hN.ext hb HE.out k s hsk
    have hat:=Ses.from_at (Ses.pre l k) hsk
    have HI:Hid (∀ wx:World,Calls Tryz.prog 50 #[.int .i64 s.id] wx fun e w'=>e = .returned (.bool (Ses.idOk s.id))∧w'=wx):=l4Id_any s.id
    have HT:Hid (∀ wx:World,Calls Tryz.prog 104 #[.int .i64 s.til,.int .i64 0,.int .i64 9999] wx fun e w'=>e = .returned (.bool (Ses.tilOk s.til))∧w'=wx):=fun wx=>l1In_any _ _ _ _
    cases hi:Ses.idOk s.id with
    | false =>
     have HR:Hid (Ses.fault l=3):=by show _=_;rw [HF.out,← HA.out,hat,if_pos (by rw [Ses.ok_eq,hi];rfl)]
     rw [hi] at HI
     clear hat hi hN hsk
     go_wp2_with fail
     refine (HI.out _).mono ?_
     rintro e w' ⟨rfl,rfl⟩
     exact m88z
    | true =>
     cases ht:Ses.tilOk s.til with
     | false =>
      have HR:Hid (Ses.fault l=3):=by show _=_;rw [HF.out,← HA.out,hat,if_pos (by rw [Ses.ok_eq,hi,ht];rfl)]
      rw [hi] at HI
      rw [ht] at HT
      clear hat hi ht hN hsk
      go_wp2_with fail
      refine (HI.out _).mono ?_
      rintro e w' ⟨rfl,rfl⟩
      go_wp2_with fail
      refine (HT.out _).mono ?_
      rintro e w' ⟨rfl,rfl⟩
      exact m88z
     | true =>
      rw [if_neg (by rw [Ses.ok_eq,hi,ht];simp)] at hat
      have hps:=Ses.pre_succ hsk
      obtain⟨hi1,hi9⟩:=Ses.idOk_pos hi
      rw [hi] at HI
      rw [ht] at HT
      cases k with
      | zero =>
       have HA2:Hid (Ses.from (Ses.pre l (0+1)) (l.drop (0+1))=Ses.from 0 l):=by
        show _=_
        rw [hps,← HA.out,hat,if_neg (show ¬ s.id≤Ses.pre l 0 by show ¬ s.id≤0;omega)]
       clear hat hi ht hN hsk hps
       simp only [Nat.zero_mul,Nat.add_zero] at d0 d1
       go_wp2_with fail
       refine (HI.out _).mono ?_
       rintro e w' ⟨rfl,rfl⟩
       go_wp2_with fail
       refine (HT.out _).mono ?_
       rintro e w' ⟨rfl,rfl⟩
       go_wp2
       go_region
       all_goals
        go_wp2
        exact⟨⟨0+1,by omega,by go_num,HA2,HE.out.drew⟩,by simp [intOf];omega⟩
      | succ j =>
       obtain⟨t,htk⟩:∃ t,l[j]?=some t:=⟨_,List.getElem?_eq_getElem (by omega)⟩
       obtain⟨e0,e1⟩:=hN.ext hb HE.out j t htk
       have hpj:=Ses.pre_succ htk
       rw [hpj] at hat
       have hidx:((j+1:Nat):Int) - 1=(j:Int):=by omega
       by_cases hle:s.id≤t.id
       ·have HR:Hid (Ses.fault l=1):=by show _=_;rw [HF.out,← HA.out,hpj,hat,if_pos hle]
        clear hat hi ht hN hsk hps htk hpj
        go_wp2_with fail
        refine (HI.out _).mono ?_
        rintro e w' ⟨rfl,rfl⟩
        go_wp2_with fail
        refine (HT.out _).mono ?_
        rintro e w' ⟨rfl,rfl⟩
        go_wp2
        go_region
        all_goals
         go_wp2
         go_ret
         exact⟨ret_int HR.out.symm,HE.out.drew⟩
       ·have HA2:Hid (Ses.from (Ses.pre l (j+1+1)) (l.drop (j+1+1))=Ses.from 0 l):=by show _=_;rw [hps,← HA.out,hpj,hat,if_neg hle]
        clear hat hi ht hN hsk hps htk hpj
        go_wp2_with fail
        refine (HI.out _).mono ?_
        rintro e w' ⟨rfl,rfl⟩
        go_wp2_with fail
        refine (HT.out _).mono ?_
        rintro e w' ⟨rfl,rfl⟩
        go_wp2
        go_region
        all_goals
         go_wp2
         exact⟨⟨j+1+1,by omega,by go_num,HA2,HE.out.drew⟩,by simp [intOf];omega⟩
   ·have HR:Hid (Ses.fault l=0):=by
     show _=_
     rw [HF.out,← HA.out,List.drop_of_length_le (by omega),Ses.from]
    exact m88z
/-- Where an Id stands, or -1. -/
def Ses.atF (i:Int):Nat→List Se→Int
 | _,[]=>-1
 | k,s :: r=>if s.id=i then (k:Int) else Ses.atF i (k+1) r
theorem Ses.atF_at {l:List Se} {k:Nat} {s:Se} (i:Int) (h:l[k]?=some s):Ses.atF i k (l.drop k)=if s.id=i then (k:Int) else Ses.atF i (k+1) (l.drop (k+1)):=by
 obtain⟨hk,rfl⟩:=List.getElem?_eq_some_iff.1 h
 rw [List.drop_eq_getElem_cons hk,Ses.atF]
theorem Ses.atF_is (i:Int):∀ (l:List Se) (k:Nat),(Ses.atF i k l = -1∧hasE l i=false)∨∃ j s,l[j]?=some s∧Ses.atF i k l=((k+j:Nat):Int)∧s.id=i∧hasE l i=true∧tilE l i=s.til
 | [],k=>Or.inl ⟨rfl,rfl⟩
 | s :: r,k=>by
  rw [Ses.atF]
  by_cases h:s.id=i
  ·refine Or.inr ⟨0,s,rfl,by rw [if_pos h];rfl,h,?_,?_⟩
   ·unfold hasE;simp [h]
   ·unfold tilE;rw [List.find?_cons_of_pos (by simp [h])]
  ·rw [if_neg h]
   have e1:hasE (s :: r) i=hasE r i:=by unfold hasE;rw [List.any_cons];simp [h]
   have e2:tilE (s :: r) i=tilE r i:=by unfold tilE;rw [List.find?_cons_of_neg (by simp [h])]
   rcases Ses.atF_is i r (k+1) with ⟨q1,q2⟩ | ⟨j,t,q1,q2,q3,q4,q5⟩
   ·exact Or.inl ⟨q1,by rw [e1];exact q2⟩
   ·exact Or.inr ⟨j+1,t,by simpa using q1,by rw [q2];omega,q3,by rw [e1];exact q4,by rw [e2];exact q5⟩
set_option maxHeartbeats 1000000 in
theorem l4At_any (v:Value) (l:List Se) (i:Int) (w:World) (hS:ESlice w v l) :
  Calls Tryz.prog 175 #[v,.int .i64 i] w fun e w'=>e = .returned (.int .i64 (Ses.atF i 0 l))∧w'=w:=by
 obtain⟨a,cap,rfl,hlc,hcm,hx⟩:=hS
 refine n54z ?_
 intro HX
 clear hx
 unfold maxLen at hcm
 go_enter Tryz.func175,Tryz.ntmps175
 go_wp2
 go_loop [5] (fun iv=>∃ (k:Nat),k≤l.length∧iv = .int .i64 k∧Hid (Ses.atF i k (l.drop k)=Ses.atF i 0 l)) (fun iv=>l.length - (intOf iv).toNat)
 case atStart=>exact⟨0,Nat.zero_le _,rfl,rfl⟩
 case round =>
  obtain⟨k,hk,rfl,HA⟩:=hrel
  by_cases hlt:k < l.length
  ·obtain⟨s,hsk⟩:∃ s,l[k]?=some s:=⟨_,List.getElem?_eq_getElem hlt⟩
   obtain⟨b,off,rfl,hb,hN⟩:=HX.out (by omega)
   obtain⟨d0,d1⟩:=hN k s hsk
   have hat:=Ses.atF_at i hsk
   by_cases he:s.id=i
   ·have HR:Hid (Ses.atF i 0 l=k):=by show _=_;rw [← HA.out,hat,if_pos he]
    clear hat hN hsk
    go_wp2
    go_ret
    exact⟨ret_int HR.out.symm,rfl⟩
   ·have HA2:Hid (Ses.atF i (k+1) (l.drop (k+1))=Ses.atF i 0 l):=by show _=_;rw [← HA.out,hat,if_neg he]
    clear hat hN hsk
    go_wp2
    exact⟨⟨k+1,by omega,by go_num,HA2⟩,by simp [intOf];omega⟩
  ·have HR:Hid (Ses.atF i 0 l = -1):=by show _=_;rw [← HA.out,List.drop_of_length_le (by omega),Ses.atF]
   go_wp2
   go_ret
   exact⟨ret_int HR.out.symm,rfl⟩
set_option maxHeartbeats 1000000 in
theorem l4Live_any (v:Value) (l:List Se) (i n:Int) (w:World) (hS:ESlice w v l) :
  Calls Tryz.prog 113 #[v,.int .i64 i,.int .i64 n] w fun e w'=>e = .returned (.bool (Ses.live l i n))∧w'=w:=by
 have HF:Hid (Calls Tryz.prog 175 #[v,.int .i64 i] w fun e w'=>e = .returned (.int .i64 (Ses.atF i 0 l))∧w'=w):=l4At_any v l i w hS
 obtain⟨a,cap,rfl,hlc,hcm,hx⟩:=hS
 unfold maxLen at hcm
 unfold Ses.live
 rcases Ses.atF_is i l 0 with ⟨q1,q2⟩ | ⟨j,s,q1,q2,q3,q4,q5⟩
 ·rw [q2,Bool.false_and]
  rw [q1] at HF
  clear q1 q2 hx
  exact m94z
 ·rw [q4,q5,Bool.true_and]
  have hjl:=(List.getElem?_eq_some_iff.1 q1).1
  obtain⟨b,off,rfl,hb,hN⟩:=hx (by omega)
  obtain⟨d0,d1⟩:=hN j s q1
  rw [q2,Nat.zero_add] at HF
  clear q1 q2 q3 q4 q5 hN hx
  exact m94z
end Go.Proofs.YtpdejinkmnhioaaGreatDoor
