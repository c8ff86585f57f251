/- I11, T6, in one text. -/
import Derived.Test.YtpdejinkmnhioaaGreatDoorAoJ10
import Derived.Laws.IdiomCopy
import Derived.Deep.RegionLaw
import Derived.Lib.SliceRun
import Derived.Test.YtpdejinkmnhioaaGreatDoorAoJ7
import Derived.Test.YtpdejinkmnhioaaGreatDoorAoMk
namespace Go.Proofs.YtpdejinkmnhioaaGreatDoor
open Go.RowKit
theorem upd_setCells {g:Nat} {w:World} : ∀ (cs:List Value) (o:Nat) (w' : World),Upd g w w'→Upd g w (w'.setCells g o cs)
 | [],_,_,h=>h
 | _ :: cs,o,_,h=>upd_setCells cs (o+1) _ (h.setAt o _)
theorem size_setCells (g:Nat):∀ (cs:List Value) (o:Nat) (w:World),(w.setCells g o cs).heap.size=w.heap.size
 | [],_,_=>rfl
 | _ :: cs,o,w=>(size_setCells g cs (o+1) _).trans (by simp)
theorem isSome_setC (g:Nat) (cs:List Value) (o:Nat) (w:World) (k:Nat) (h:∃ u,w.cell? ⟨g,k,none⟩=some u) (hall:∀ j,j < cs.length→(w.cell? ⟨g,o+j,none⟩).isSome=true):∃ u,(w.setCells g o cs).cell? ⟨g,k,none⟩=some u:=by
 by_cases hh:k < o∨o+cs.length≤k
 ·rw [World.cell?_setCells_out g cs o w _ (fun _ _=>hh)];exact h
 ·obtain⟨j,rfl⟩:∃ j,k=o+j:=⟨k - o,by omega⟩
  exact⟨_,World.cell?_setCells_in g cs o w hall j (by omega)⟩
theorem Room.setCells {w:World} {g off n:Nat} (h:Room w g off n) (o:Nat) (cs:List Value) (hall:∀ j,j < cs.length→(w.cell? ⟨g,o+j,none⟩).isSome=true):Room (w.setCells g o cs) g off n :=
 ⟨by rw [size_setCells];exact h.1,fun j hj=>⟨isSome_setC g cs o w _ (h.2 j hj).1 hall,by rw [World.frozen?_setCells];exact (h.2 j hj).2⟩⟩
theorem NodesAt.of_news {w:World} {b off:Nat} {zs:List Zn} (h:∀ j u,(cellsZ zs)[j]?=some u→w.cell? ⟨b,off+j,none⟩=some u):NodesAt w b off zs:=by
 rw [nodesAt_iff]
 intro i z hz s hs
 have hl:(zcells z).length=5:=rfl
 have hc:=cellsZ_get zs i s z hz hs
 obtain⟨u,hu⟩:∃ u,(zcells z)[s]?=some u:=⟨_,List.getElem?_eq_getElem (by omega)⟩
 rw [hu] at hc ⊢
 rw [Nat.add_assoc]
 exact h _ _ hc
theorem NodesAt.news' {w:World} {b off:Nat} {zs:List Zn} (h:NodesAt w b off zs):∀ j u,(cellsZ zs)[j]?=some u→w.cell? ⟨b,off+j,none⟩=some u:=by
 intro j u hu
 have:=h.news j u hu
 rw [Addr.add_lit] at this
 exact this
theorem NodesAt.take {w:World} {b off:Nat} {zs:List Zn} (h:NodesAt w b off zs) (k:Nat):NodesAt w b off (zs.take k):=by
 intro i z hz
 rw [List.getElem?_take] at hz
 split at hz
 ·exact h i z hz
 ·cases hz
theorem NodesAt.drop {w:World} {b off:Nat} {zs:List Zn} (h:NodesAt w b off zs) (k:Nat):NodesAt w b (off+k * 5) (zs.drop k):=by
 intro i z hz
 rw [List.getElem?_drop] at hz
 have:=h (k+i) z hz
 rw [show off+(k+i) * 5=off+k * 5+i * 5 from by omega] at this
 exact this
theorem Room.some {w:World} {g off n:Nat} (h:Room w g off n) (o m:Nat) (h1:off≤o) (h2:o+m≤off+n * 5):∀ j,j < m→(w.cell? ⟨g,o+j,none⟩).isSome=true∧w.frozen? ⟨g,o+j,none⟩=false:=by
 exact m90z
theorem Room.less {w:World} {g off n m:Nat} (h:Room w g off n) (hm:m≤n):Room w g off m:=⟨h.1,fun j hj=>h.2 j (by omega)⟩
/-- One node taken out: what lay behind it lies one place ahead. -/
theorem own_cutout {w:World} {g off k:Nat} {zs:List Zn} (hR:Room w g off zs.length) (hN:NodesAt w g off zs) (hk:k < zs.length) (zc:List Value) (hzc:zc.length=5) :
  Room ((w.setCells g (off+k * 5) (cellsZ (zs.drop (k+1)))).setCells g (off+(zs.length - 1) * 5) zc) g off (zs.take k ++ zs.drop (k+1)).length ∧
  NodesAt ((w.setCells g (off+k * 5) (cellsZ (zs.drop (k+1)))).setCells g (off+(zs.length - 1) * 5) zc) g off (zs.take k ++ zs.drop (k+1)):=by
 have hld:(cellsZ (zs.drop (k+1))).length=(zs.length - (k+1)) * 5:=by rw [cellsZ_length,List.length_drop]
 refine n70z ?_
 intro hlt
 have h1:=hR.some (off+k * 5) (cellsZ (zs.drop (k+1))).length (by omega) (by omega)
 have hR1:=hR.setCells (off+k * 5) (cellsZ (zs.drop (k+1))) (fun j hj=>(h1 j hj).1)
 have h2:=hR1.some (off+(zs.length - 1) * 5) zc.length (by omega) (by omega)
 have hR2:=hR1.setCells (off+(zs.length - 1) * 5) zc (fun j hj=>(h2 j hj).1)
 refine⟨hR2.less (by simp;omega),NodesAt.of_news fun j u hu=>?_⟩
 rw [cellsZ_append] at hu
 have hj:j < (zs.length - 1) * 5:=by
  have:=(List.getElem?_eq_some_iff.1 hu).1
  rw [List.length_append,hlt,hld] at this
  omega
 rw [World.cell?_setCells_out g zc _ _ _ (fun _ _=>.inl (by show off+j < _;omega))]
 by_cases hjk:j < k * 5
 ·rw [List.getElem?_append_left (by omega)] at hu
  rw [World.cell?_setCells_out g _ _ _ _ (fun _ _=>.inl (by show off+j < _;omega))]
  exact (hN.take k).news' j u hu
 ·rw [List.getElem?_append_right (by omega),hlt] at hu
  obtain⟨i,rfl⟩:∃ i,j=k * 5+i:=⟨j - k * 5,by omega⟩
  rw [show k * 5+i - k * 5=i from by omega] at hu
  obtain⟨hi,he⟩:=List.getElem?_eq_some_iff.1 hu
  rw [← Nat.add_assoc,World.cell?_setCells_in g _ _ _ (fun j hj=>(h1 j hj).1) i hi,he]
theorem clear_one (w:World) (ty:TypeId) (g o c:Nat) (hs:∀ j,j < 5→(w.cell? ⟨g,o+j,none⟩).isSome=true∧w.frozen? ⟨g,o+j,none⟩=false) :
  (Builtin.clear_ #[33] ty #[.slice (some ⟨g,o,none⟩) 1 c]).run Tryz.prog w = .ok (.tuple #[]) (w.setCells g o [.string ByteArray.empty,.int .i64 0,.int .i64 0,.int .i64 0,.int .i64 0]):=by
 have hst:=run_storeCells_cells (P:=Tryz.prog) g o [.string ByteArray.empty,.int .i64 0,.int .i64 0,.int .i64 0,.int .i64 0] 0 w (by simpa using fun j hj=>(hs j hj).1) (by simpa using fun j hj=>(hs j hj).2) (by intro v hv;simp at hv;rcases hv with rfl | rfl | rfl | rfl | rfl <;> rfl)
 simp only [Nat.add_zero] at hst
 have hz:∀ w,(zeroValue 144).run Tryz.prog w = .ok (.agg #[.string ByteArray.empty,.int .i64 0,.int .i64 0,.int .i64 0,.int .i64 0]) w:=Tryz.zeroValue144
 have hzc:(Builtin.zeroCells (Value.agg #[.string ByteArray.empty,.int .i64 0,.int .i64 0,.int .i64 0,.int .i64 0]).cells 1).toList = [.string ByteArray.empty,.int .i64 0,.int .i64 0,.int .i64 0,.int .i64 0]:=by kernel_rfl
 simp [Builtin.clear_,run_underlying Tryz.underlying33,hz,hzc,hst]
end Go.Proofs.YtpdejinkmnhioaaGreatDoor
namespace Go.Proofs.YtpdejinkmnhioaaGreatDoor
open Go.RowKit
namespace Tre
def delT (zs:List Zn) (p:ByteArray) (n:Int):Int × ByteArray × List Zn :=
 if (p.toList == [47])=true then (1,⟨#[]⟩,[])
 else if atI zs p < 0 then (4,⟨#[]⟩,[])
 else match zs[(atI zs p).toNat]? with
  | none=>(4,⟨#[]⟩,[])
  | some z=>if n≠-1∧n≠z.version then (7,⟨#[]⟩,[]) else if 0 < (kids zs p).length then (8,⟨#[]⟩,[]) else (0,⟨#[]⟩,zs.take (atI zs p).toNat ++ zs.drop ((atI zs p).toNat+1))
theorem delT_top {zs:List Zn} {p:ByteArray} {n:Int} (h:(p.toList == [47])=true):delT zs p n=(1,⟨#[]⟩,[]):=by unfold delT;rw [if_pos h]
theorem delT_none {zs:List Zn} {p:ByteArray} {n:Int} (h:(p.toList == [47])=false) (ha:atI zs p < 0):delT zs p n=(4,⟨#[]⟩,[]):=by unfold delT;rw [if_neg (by rw [h];simp),if_pos ha]
theorem delT_some {zs:List Zn} {p:ByteArray} {n:Int} {k:Nat} {z:Zn} (h:(p.toList == [47])=false) (ha:atI zs p=k) (hz:zs[k]?=some z):delT zs p n=if n≠-1∧n≠z.version then (7,⟨#[]⟩,[]) else if 0 < (kids zs p).length then (8,⟨#[]⟩,[]) else (0,⟨#[]⟩,zs.take k ++ zs.drop (k+1)):=by
 unfold delT
 rw [if_neg (by rw [h];simp),ha,if_neg (by omega),Int.toNat_natCast,hz]
def delV (zs:List Zn) (p:ByteArray) (n:Int):Int × ByteArray × List Zn:=if asked zs p≠0 then (asked zs p,⟨#[]⟩,[]) else delT zs p n
theorem delV_bad {zs:List Zn} {p:ByteArray} {n c:Int} (h:asked zs p=c) (h0:c≠0):delV zs p n=(c,⟨#[]⟩,[]):=by unfold delV;rw [h,if_pos h0]
theorem delV_ok {zs:List Zn} {p:ByteArray} {n:Int} (h:asked zs p=0):delV zs p n=delT zs p n:=by unfold delV;rw [h,if_neg (by simp)]
end Tre
theorem zret_own3 {w5:World} {base:Nat} {v5:Value} {rs:List Zn} {m:Nat} {cs:List Value} {t:TypeId} (h:w5.ownsRow base t 5 v5 m cs) (hm:m=rs.length) (hcs:cs=cellsZ rs):∃ g a5 cap5,base≤g∧v5 = .slice a5 rs.length cap5∧Own w5 (.slice a5 rs.length cap5) g rs:=by
 subst hm hcs
 obtain⟨g,hg,hO⟩:=Own.of_row h
 obtain⟨a5,cap5,rfl,-⟩:=id hO
 exact⟨g,a5,cap5,hg,rfl,hO⟩
set_option maxHeartbeats 2000000 in
set_option maxRecDepth 100000 in
theorem l2Delete_top (a:Option Addr) (cap:Nat) (zs:List Zn) (p:ByteArray) (n:Int) (w:World) (hS:NSlice w (.slice a zs.length cap) zs) (hl:zs.length≤1048576) (hf:∀ z ∈ zs,Pth.faultI z.path.data.toList=0) (ht:(p.toList == [47])=true) :
  Calls Tryz.prog 117 #[.slice a zs.length cap,.string p,.int .i64 n] w (ZRet w 1 ⟨#[]⟩ []):=by
 refine n14z ?_
 intro HK HT
 refine n7z ?_
 intro HB0
 unfold zr at HB0
 obtain⟨a',cap',he,hlc,hcm,hx⟩:=hS
 injection he with e1 _ e3
 subst e1 e3
 clear hx HK HT
 go_enter Tryz.func117,Tryz.ntmps117
 go_wp2_with fail
 refine n62z ?_
 intro w4 q q0 q1 q2 f0 f1 f2 HB4
 go_wp2
 exact bodyPost_ret (v:=zr 1 ⟨#[]⟩ (.slice none 0 0)) (by simp [results,Tryz.results117,go_sem,zr,q0,q1,q2]) rfl (zret_bad _ _ (HB4.out.box3 _ _ _))
set_option maxHeartbeats 2000000 in
set_option maxRecDepth 100000 in
theorem l2Delete_none (a:Option Addr) (cap:Nat) (zs:List Zn) (p:ByteArray) (n:Int) (w:World) (hS:NSlice w (.slice a zs.length cap) zs) (hl:zs.length≤1048576) (hf:∀ z ∈ zs,Pth.faultI z.path.data.toList=0) (ht:(p.toList == [47])=false) (hm:Tre.atI zs p < 0) :
  Calls Tryz.prog 117 #[.slice a zs.length cap,.string p,.int .i64 n] w (ZRet w 4 ⟨#[]⟩ []):=by
 refine n14z ?_
 intro HK HT
 refine n7z ?_
 intro HB0
 unfold zr at HB0
 obtain⟨a',cap',he,hlc,hcm,hx⟩:=hS
 injection he with e1 _ e3
 subst e1 e3
 generalize Tre.atI zs p=t at *
 clear hx HK
 go_enter Tryz.func117,Tryz.ntmps117
 go_wp2_with fail
 refine (HT.out _ ((Ext.refl _).alloc _)).mono ?_
 rintro e w3 ⟨rfl,rfl⟩
 go_wp2_with fail
 refine n62z ?_
 intro w4 q q0 q1 q2 f0 f1 f2 HB4
 go_wp2
 exact bodyPost_ret (v:=zr 4 ⟨#[]⟩ (.slice none 0 0)) (by simp [results,Tryz.results117,go_sem,zr,q0,q1,q2]) rfl (zret_bad _ _ (HB4.out.box3 _ _ _))
set_option maxHeartbeats 2000000 in
set_option maxRecDepth 100000 in
theorem l2Delete_vers (a:Option Addr) (cap:Nat) (zs:List Zn) (p:ByteArray) (n:Int) (w:World) (hS:NSlice w (.slice a zs.length cap) zs) (hl:zs.length≤1048576) (hf:∀ z ∈ zs,Pth.faultI z.path.data.toList=0) (ht:(p.toList == [47])=false) (k:Nat) (z:Zn) (hk:Tre.atI zs p=k) (hz:zs[k]?=some z) (h1:¬ n = -1) (h2:¬ n=z.version) :
  Calls Tryz.prog 117 #[.slice a zs.length cap,.string p,.int .i64 n] w (ZRet w 7 ⟨#[]⟩ []):=by
 refine n14z ?_
 intro HK HT
 refine n7z ?_
 intro HB0
 unfold zr at HB0
 obtain⟨a',cap',he,hlc,hcm,hx⟩:=hS
 injection he with e1 _ e3
 subst e1 e3
 rw [hk] at HT
 have hkl:=(List.getElem?_eq_some_iff.1 hz).1
 obtain⟨b,off,rfl,hb,hN⟩:=hx (by omega)
 have HN:Hid (b < w.heap.size∧NodesAt w b off zs):=⟨hb,hN⟩
 obtain⟨-,-,d2,-,-⟩:=hN k z hz
 clear hN hz hx hk
 have g1:(n != -1)=true:=by simp [h1]
 have g2:(n != z.version)=true:=by simp [h2]
 go_enter Tryz.func117,Tryz.ntmps117
 go_wp2_with fail
 refine (HT.out _ ((Ext.refl _).alloc _)).mono ?_
 rintro e w3 ⟨rfl,rfl⟩
 go_wp2_with fail
 refine n62z ?_
 intro w4 q q0 q1 q2 f0 f1 f2 HB4
 go_wp2
 exact bodyPost_ret (v:=zr 7 ⟨#[]⟩ (.slice none 0 0)) (by simp [results,Tryz.results117,go_sem,zr,q0,q1,q2]) rfl (zret_bad _ _ (HB4.out.box3 _ _ _))
set_option maxHeartbeats 2000000 in
set_option maxRecDepth 100000 in
theorem l2Delete_kids (a:Option Addr) (cap:Nat) (zs:List Zn) (p:ByteArray) (n:Int) (w:World) (hS:NSlice w (.slice a zs.length cap) zs) (hl:zs.length≤1048576) (hf:∀ z ∈ zs,Pth.faultI z.path.data.toList=0) (ht:(p.toList == [47])=false) (k:Nat) (z:Zn) (hk:Tre.atI zs p=k) (hz:zs[k]?=some z) (hv:n = -1∨(¬ n = -1∧n=z.version)) (hk0:0 < (Tre.kids zs p).length) :
  Calls Tryz.prog 117 #[.slice a zs.length cap,.string p,.int .i64 n] w (ZRet w 8 ⟨#[]⟩ []):=by
 refine n14z ?_
 intro HK HT
 refine n7z ?_
 intro HB0
 unfold zr at HB0
 obtain⟨a',cap',he,hlc,hcm,hx⟩:=hS
 injection he with e1 _ e3
 subst e1 e3
 rw [hk] at HT
 have hkl:=(List.getElem?_eq_some_iff.1 hz).1
 obtain⟨b,off,rfl,hb,hN⟩:=hx (by omega)
 have HN:Hid (b < w.heap.size∧NodesAt w b off zs):=⟨hb,hN⟩
 obtain⟨-,-,d2,-,-⟩:=hN k z hz
 clear hN hz hx hk
 rcases hv with h1 | ⟨h1,h2⟩
 ·have g1:(n != -1)=false:=by simp [h1]
  exact m19z
 ·have g1:(n != -1)=true:=by simp [h1]
  have g2:(n != z.version)=false:=by simp [h2]
  exact m19z
set_option maxHeartbeats 2000000 in
set_option maxRecDepth 100000 in
theorem l2Delete_ok (a:Option Addr) (cap:Nat) (zs:List Zn) (p:ByteArray) (n:Int) (w:World) (hS:NSlice w (.slice a zs.length cap) zs) (hl:zs.length≤1048576) (hf:∀ z ∈ zs,Pth.faultI z.path.data.toList=0) (ht:(p.toList == [47])=false) (k:Nat) (z:Zn) (hk:Tre.atI zs p=k) (hz:zs[k]?=some z) (hv:n = -1∨(¬ n = -1∧n=z.version)) (hkz:(Tre.kids zs p).length=0) :
  Calls Tryz.prog 117 #[.slice a zs.length cap,.string p,.int .i64 n] w (ZRet w 0 ⟨#[]⟩ (zs.take k ++ zs.drop (k+1))):=by
 refine n14z ?_
 intro HK HT
 refine n7z ?_
 intro HB0
 unfold zr at HB0
 obtain⟨a',cap',he,hlc,hcm,hx⟩:=hS
 injection he with e1 _ e3
 subst e1 e3
 refine n21z ?_
 intro hi9
 obtain⟨i0,hi,hx9⟩:=Option.map_eq_some_iff.1 hi9
 simp only [Prod.mk.injEq] at hx9
 obtain⟨hz0,hz1,hz2⟩:=hx9
 clear hi9
 rw [hk] at HT
 have hkl:=(List.getElem?_eq_some_iff.1 hz).1
 obtain⟨b,off,rfl,hb,hN⟩:=hx (by omega)
 have HN:Hid (b < w.heap.size∧NodesAt w b off zs):=⟨hb,hN⟩
 obtain⟨-,-,d2,-,-⟩:=hN k z hz
 clear hN hz hx hk
 refine n70z ?_
 intro hlt
 have hld:(cellsZ (zs.drop (k+1))).length=(zs.length - (k+1)) * 5:=by rw [cellsZ_length,List.length_drop]
 obtain⟨A,hA,HSrc⟩:∃ A:Addr,(if cap=k+1 then some (⟨b,off,none⟩:Addr) else some ⟨b,off+(k+1) * 5,none⟩)=some A∧Hid (∀ wx:World,NodesAt wx b off zs→∀ j u,(cellsZ (zs.drop (k+1)))[j]?=some u→wx.cell? (A.add j)=some u):=by
  by_cases h:cap=k+1
  ·refine⟨⟨b,off,none⟩,by simp [h],fun wx _ t u hu=>?_⟩
   rw [List.drop_of_length_le (by omega)] at hu
   simp [cellsZ] at hu
  ·refine⟨⟨b,off+(k+1) * 5,none⟩,by simp [h],fun wx hN=>(hN.drop (k+1)).news⟩
 unfold maxLen at hcm
 rcases hv with h1 | ⟨h1,h2⟩
 ·have g1:(n != -1)=false:=by simp [h1]
  exact m8z
 ·have g1:(n != -1)=true:=by simp [h1]
  have g2:(n != z.version)=false:=by simp [h2]
  exact m8z
theorem l2Delete_any (v:Value) (zs:List Zn) (p:ByteArray) (n:Int) (w:World) (hS:NSlice w v zs) (hl:zs.length≤1048576) (hf:∀ z ∈ zs,Pth.faultI z.path.data.toList=0) :
  Calls Tryz.prog 117 #[v,.string p,.int .i64 n] w (ZRet w (Tre.delT zs p n).1 (Tre.delT zs p n).2.1 (Tre.delT zs p n).2.2):=by
 obtain⟨a,cap,rfl,-⟩:=id hS
 cases ht:(p.toList == [47]) with
 | true=>rw [Tre.delT_top ht];exact l2Delete_top a cap zs p n w hS hl hf ht
 | false =>
  rcases Tre.atI_range zs p with ⟨hm,-⟩ | ⟨k,z,hk,hkl,hz,-⟩
  ·rw [Tre.delT_none ht (by omega)];exact l2Delete_none a cap zs p n w hS hl hf ht (by omega)
  ·rw [Tre.delT_some ht hk hz]
   by_cases hv:n≠-1∧n≠z.version
   ·rw [if_pos hv];exact l2Delete_vers a cap zs p n w hS hl hf ht k z hk hz hv.1 hv.2
   ·rw [if_neg hv]
    have hv2:n = -1∨(¬ n = -1∧n=z.version):=by
     by_cases h1:n = -1
     ·exact .inl h1
     ·exact .inr ⟨h1,by apply Classical.byContradiction;intro h2;exact hv ⟨h1,h2⟩⟩
    by_cases hk0:0 < (Tre.kids zs p).length
    ·rw [if_pos hk0];exact l2Delete_kids a cap zs p n w hS hl hf ht k z hk hz hv2 hk0
    ·rw [if_neg hk0]
     exact l2Delete_ok a cap zs p n w hS hl hf ht k z hk hz hv2 (by omega)
end Go.Proofs.YtpdejinkmnhioaaGreatDoor
