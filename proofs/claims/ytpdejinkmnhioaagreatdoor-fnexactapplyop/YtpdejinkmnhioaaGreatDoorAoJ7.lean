/- T4, Z7, Z8, S5, T5, I0, Q0, in one text. -/
import Derived.Test.YtpdejinkmnhioaaGreatDoorAoJ6
import Derived.Test.YtpdejinkmnhioaaGreatDoorAoJ4
import Derived.Test.YtpdejinkmnhioaaGreatDoorAoJ5
import Derived.Lib.Bytealg
import Derived.WalkKit
import Derived.Test.YtpdejinkmnhioaaGreatDoorAoMk
namespace Go.Proofs.YtpdejinkmnhioaaGreatDoor
open Go.RowKit
namespace Tre
def same (zs ys:List Zn):Bool:=decide (zs=ys)
end Tre
set_option maxHeartbeats 1000000 in
set_option maxRecDepth 100000 in
theorem l2Copy_any (v:Value) (zs:List Zn) (w:World) (hS:NSlice w v zs) (hl:zs.length≤1048576) (hp:0 < zs.length) :
  Calls Tryz.prog 121 #[v] w fun e w'=>∃ v' g,e = .returned v'∧w.heap.size≤g∧Own w' v' g zs∧Ext w w':=by
 refine n21z ?_
 intro hi9
 obtain⟨i0,hi,hx⟩:=Option.map_eq_some_iff.1 hi9
 simp only [Prod.mk.injEq] at hx
 obtain⟨hz0,hz1,hz2⟩:=hx
 clear hi9
 obtain⟨a,cap,rfl,hlc,hcm,hx⟩:=hS
 obtain⟨b,off,rfl,hb,hN⟩:=hx hp
 refine n73z ?_
 intro HN
 clear hN hx
 unfold maxLen at hcm
 refine n44z ?_
 intro HO
 go_enter Tryz.func121,Tryz.ntmps121
 exact m21z
theorem nodesAt_iff {w:World} {b off:Nat} {zs:List Zn} : NodesAt w b off zs↔∀ (i:Nat) z,zs[i]?=some z→∀ s,s < 5→w.cell? ⟨b,off+i * 5+s,none⟩=(zcells z)[s]?:=by
 constructor
 ·intro h i z hz s hs
  obtain⟨c0,c1,c2,c3,c4⟩:=h i z hz
  have hs5:s=0∨s=1∨s=2∨s=3∨s=4:=by omega
  rcases hs5 with rfl | rfl | rfl | rfl | rfl
  ·exact c0
  ·exact c1
  ·exact c2
  ·exact c3
  ·exact c4
 ·intro h i z hz
  exact⟨h i z hz 0 (by omega),h i z hz 1 (by omega),h i z hz 2 (by omega),h i z hz 3 (by omega),h i z hz 4 (by omega)⟩
/-- One field of one node is written. -/
theorem Own.field {w:World} {g off n cap k:Nat} {zs:List Zn} {z:Zn} (h:Own w (.slice (some ⟨g,off,none⟩) n cap) g zs) (hz:zs[k]?=some z) (r:Nat) (hr:r < 5) (u:Value) (z' : Zn) (hz' : zcells z'=(zcells z).set r u) :
  Own (w.setCell ⟨g,off+k * 5+r,none⟩ u) (.slice (some ⟨g,off,none⟩) n cap) g (zs.set k z'):=by
 obtain⟨a,cap',he,h2,h3,h4⟩:=h
 have hk:=(List.getElem?_eq_some_iff.1 hz).1
 obtain⟨off',ha,hR,hN⟩:=h4 (by omega)
 injection he with e1 e2 e3
 subst e1 e2 e3
 injection ha with ha
 injection ha with _ ha _
 subst ha
 refine⟨_,_,by rw [List.length_set],by rw [List.length_set];exact h2,h3,fun _=>⟨off,rfl,?_,?_⟩⟩
 ·rw [List.length_set]
  refine⟨by simpa using hR.1,fun j hj=>⟨?_,by simpa using (hR.2 j hj).2⟩⟩
  by_cases hjk:j=k * 5+r
  ·subst hjk;rw [← Nat.add_assoc];exact⟨_,set_eq _ _ _ _ (by rw [Nat.add_assoc];exact (hR.2 _ hj).1)⟩
  ·rw [set_ne _ _ _ _ _ _ (by omega)];exact (hR.2 j hj).1
 ·rw [nodesAt_iff] at hN ⊢
  intro i y hy s hs
  rw [List.getElem?_set] at hy
  have hl:(zcells z).length=5:=rfl
  by_cases hik:k=i
  ·subst hik
   simp [hk] at hy
   subst hy
   rw [hz',List.getElem?_set]
   by_cases hsr:r=s
   ·subst hsr
    rw [if_pos rfl,if_pos (by omega)]
    exact set_eq _ _ _ _ (by rw [Nat.add_assoc];exact (hR.2 _ (by omega)).1)
   ·rw [if_neg hsr,set_ne _ _ _ _ _ _ (by omega)]
    exact hN k z hz s hs
  ·rw [if_neg hik] at hy
   rw [set_ne _ _ _ _ _ _ (by omega)]
   exact hN i y hy s hs
theorem own_setDV {w:World} {g off n cap k:Nat} {zs:List Zn} {z:Zn} (h:Own w (.slice (some ⟨g,off,none⟩) n cap) g zs) (hz:zs[k]?=some z) (d m:Int) :
  Own ((w.setCell ⟨g,off+k * 5+1,none⟩ (.int .i64 d)).setCell ⟨g,off+k * 5+2,none⟩ (.int .i64 m)) (.slice (some ⟨g,off,none⟩) n cap) g (zs.set k { z with data:=d,version:=m }):=by
 have hk:=(List.getElem?_eq_some_iff.1 hz).1
 have h1:=h.field hz 1 (by omega) (.int .i64 d) { z with data:=d } rfl
 have h2:=h1.field (k:=k) (z:={ z with data:=d }) (by rw [List.getElem?_set];simp [hk]) 2 (by omega) (.int .i64 m) { z with data:=d,version:=m } rfl
 rw [List.set_set] at h2
 exact h2
theorem zret_own {w w4:World} {v:Value} {g:Nat} {rs:List Zn} (c:Int) (p:ByteArray) (hO:Own w4 v g rs) (hg:w.heap.size+1≤g) (h:Ext w w4) (x y u:Value) :
  ZRet w c p rs (.returned (zr c p v)) (((w4.setCell ⟨w.heap.size,0,none⟩ x).setCell ⟨w.heap.size,1,none⟩ y).setCell ⟨w.heap.size,2,none⟩ u) :=
 ⟨v,g,rfl,by omega,hO.upd ((((Upd.refl _ _).setAt 0 x).setAt 1 y).setAt 2 u) (by omega),h.box3 _ _ _⟩
namespace Tre
def setT (zs:List Zn) (p:ByteArray) (d n:Int):Int × ByteArray × List Zn :=
 if okData d=false then (3,⟨#[]⟩,[])
 else if atI zs p < 0 then (4,⟨#[]⟩,[])
 else match zs[(atI zs p).toNat]? with
  | none=>(4,⟨#[]⟩,[])
  | some z=>if n≠-1∧n≠z.version then (7,⟨#[]⟩,[]) else if 999≤z.version then (2,⟨#[]⟩,[]) else (0,⟨#[]⟩,zs.set (atI zs p).toNat { z with data:=d,version:=z.version+1 })
theorem setT_data {zs:List Zn} {p:ByteArray} {d n:Int} (h:okData d=false):setT zs p d n=(3,⟨#[]⟩,[]):=by unfold setT;rw [if_pos h]
theorem setT_none {zs:List Zn} {p:ByteArray} {d n:Int} (h:okData d=true) (ha:atI zs p < 0):setT zs p d n=(4,⟨#[]⟩,[]):=by unfold setT;rw [if_neg (by rw [h];simp),if_pos ha]
theorem setT_some {zs:List Zn} {p:ByteArray} {d n:Int} {k:Nat} {z:Zn} (h:okData d=true) (ha:atI zs p=k) (hz:zs[k]?=some z):setT zs p d n=if n≠-1∧n≠z.version then (7,⟨#[]⟩,[]) else if 999≤z.version then (2,⟨#[]⟩,[]) else (0,⟨#[]⟩,zs.set k { z with data:=d,version:=z.version+1 }):=by
 unfold setT
 rw [if_neg (by rw [h];simp),ha,if_neg (by omega),Int.toNat_natCast,hz]
def setV (zs:List Zn) (p:ByteArray) (d n:Int):Int × ByteArray × List Zn:=if asked zs p≠0 then (asked zs p,⟨#[]⟩,[]) else setT zs p d n
theorem setV_bad {zs:List Zn} {p:ByteArray} {d n c:Int} (h:asked zs p=c) (h0:c≠0):setV zs p d n=(c,⟨#[]⟩,[]):=by unfold setV;rw [h,if_pos h0]
theorem setV_ok {zs:List Zn} {p:ByteArray} {d n:Int} (h:asked zs p=0):setV zs p d n=setT zs p d n:=by unfold setV;rw [h,if_neg (by simp)]
theorem asked_fault {zs:List Zn} {p:ByteArray} (h:asked zs p=0):fault zs=0∧Pth.faultI p.data.toList=0:=by
 unfold asked at h
 split at h
 ·rename_i h1;exact absurd h h1
 ·rename_i h1;exact⟨by simpa using h1,h⟩
theorem fault_nodes {zs:List Zn} (h:fault zs=0):zs.length≤20∧∀ j,j < zs.length→nodeC zs j=0:=by
 by_cases h20:20 < zs.length
 ·rw [fault_many h20] at h;cases h
 ·refine⟨by omega,first_zero ?_⟩
  by_cases h1:first (nodeC zs) zs.length=0
  ·exact h1
  ·rw [fault_node h20 rfl h1] at h;exact absurd h h1
theorem fault_nums {zs:List Zn} (h:fault zs=0):∀ z ∈ zs,Pth.faultI z.path.data.toList=0∧okNums z=true:=by
 intro z hz
 obtain⟨j,hj⟩:=List.getElem?_of_mem hz
 exact nodeC_ok hj ((fault_nodes h).2 j (List.getElem?_eq_some_iff.1 hj).1)
end Tre
set_option maxHeartbeats 2000000 in
set_option maxRecDepth 100000 in
theorem l2Set_any (v:Value) (zs:List Zn) (p:ByteArray) (d n:Int) (w:World) (hS:NSlice w v zs) (hl:zs.length≤1048576) (hv:∀ z ∈ zs,0≤z.version) :
  Calls Tryz.prog 119 #[v,.string p,.int .i64 d,.int .i64 n] w (ZRet w (Tre.setT zs p d n).1 (Tre.setT zs p d n).2.1 (Tre.setT zs p d n).2.2):=by
 have HS:Hid (NSlice w v zs):=hS
 have HV:Hid (∀ z ∈ zs,0≤z.version):=hv
 clear hv
 have HT:Hid (∀ wx:World,Ext w wx→Calls Tryz.prog 118 #[v,.string p] wx fun e w'=>e = .returned (.int .i64 (Tre.atI zs p))∧w'=wx):=fun wx h=>l2At_any v zs p wx (hS.ext h)
 have HD:Hid (∀ wx:World,Calls Tryz.prog 111 #[.int .i64 d] wx fun e w'=>e = .returned (.bool (Tre.okData d))∧w'=wx):=l2Data_any d
 refine n7z ?_
 intro HB0
 unfold zr at HB0
 obtain⟨a,cap,rfl,hlc,hcm,hx⟩:=hS
 refine n26z ?_
 intro HX
 clear hx
 unfold maxLen at hcm
 cases hd:Tre.okData d with
 | false =>
  rw [Tre.setT_data hd]
  rw [hd] at HD
  go_enter Tryz.func119,Tryz.ntmps119
  go_wp2_with fail
  refine (HD.out _).mono ?_
  rintro e w2 ⟨rfl,rfl⟩
  go_wp2_with fail
  refine (HB0.out _ _).mono ?_
  rintro e w3 ⟨rfl,hb⟩
  obtain⟨q,q0,q1,q2,f0,f1,f2⟩:=(RBox.new w _).ext hb
  have HB3:Hid (Ext w w3):=((Ext.refl _).alloc _).trans hb
  clear hb
  go_wp2
  exact bodyPost_ret (v:=zr 3 ⟨#[]⟩ (.slice none 0 0)) (by simp [results,Tryz.results119,go_sem,zr,q0,q1,q2]) rfl (zret_bad _ _ (HB3.out.box3 _ _ _))
 | true =>
  rw [hd] at HD
  rcases Tre.atI_range zs p with ⟨hm,-⟩ | ⟨k,z,hk,hkl,hz,-⟩
  ·rw [Tre.setT_none hd (by omega)]
   rw [hm] at HT
   go_enter Tryz.func119,Tryz.ntmps119
   go_wp2_with fail
   refine (HD.out _).mono ?_
   rintro e w2 ⟨rfl,rfl⟩
   go_wp2_with fail
   refine (HT.out _ ((Ext.refl _).alloc _)).mono ?_
   rintro e w3 ⟨rfl,rfl⟩
   go_wp2_with fail
   refine (HB0.out _ _).mono ?_
   rintro e w3 ⟨rfl,hb⟩
   obtain⟨q,q0,q1,q2,f0,f1,f2⟩:=(RBox.new w _).ext hb
   have HB3:Hid (Ext w w3):=((Ext.refl _).alloc _).trans hb
   clear hb
   go_wp2
   exact bodyPost_ret (v:=zr 4 ⟨#[]⟩ (.slice none 0 0)) (by simp [results,Tryz.results119,go_sem,zr,q0,q1,q2]) rfl (zret_bad _ _ (HB3.out.box3 _ _ _))
  ·rw [Tre.setT_some hd hk hz]
   rw [hk] at HT
   obtain⟨b,off,rfl,hb,hN⟩:=HX.out (by omega)
   have HN:Hid (b < w.heap.size∧NodesAt w b off zs):=⟨hb,hN⟩
   have HZ:Hid (zs[k]?=some z):=hz
   obtain⟨d0,d1,d2,d3,d4⟩:=hN k z hz
   have hz0:0≤z.version:=HV.out z (List.mem_of_getElem? hz)
   clear hN hz
   have hpos:0 < zs.length:=by omega
   -- the node is there
   by_cases hn1:n = -1
   ·have g1:(n != -1)=false:=by simp [hn1]
    rw [if_neg (by omega)]
    by_cases h9:999≤z.version
    ·exact m26z
    ·exact m12z
   ·have g1:(n != -1)=true:=by simp [hn1]
    by_cases hnv:n=z.version
    ·have g2:(n != z.version)=false:=by simp [hnv]
     rw [if_neg (by omega)]
     by_cases h9:999≤z.version
     ·exact m26z
     ·exact m12z
    ·have g2:(n != z.version)=true:=by simp [hnv]
     rw [if_pos ⟨hn1,hnv⟩]
     go_enter Tryz.func119,Tryz.ntmps119
     go_wp2_with fail
     refine (HD.out _).mono ?_
     rintro e w2 ⟨rfl,rfl⟩
     go_wp2_with fail
     refine (HT.out _ ((Ext.refl _).alloc _)).mono ?_
     rintro e w3 ⟨rfl,rfl⟩
     go_wp2_with fail
     refine (HB0.out _ _).mono ?_
     rintro e w3 ⟨rfl,hb⟩
     obtain⟨q,q0,q1,q2,f0,f1,f2⟩:=(RBox.new w _).ext hb
     have HB3:Hid (Ext w w3):=((Ext.refl _).alloc _).trans hb
     clear hb
     go_wp2
     exact bodyPost_ret (v:=zr 7 ⟨#[]⟩ (.slice none 0 0)) (by simp [results,Tryz.results119,go_sem,zr,q0,q1,q2]) rfl (zret_bad _ _ (HB3.out.box3 _ _ _))
end Go.Proofs.YtpdejinkmnhioaaGreatDoor
namespace Go.Proofs.YtpdejinkmnhioaaGreatDoor
open Go.RowKit
def TextsAt (w:World) (b off:Nat) (ts:List ByteArray):Prop:=∀ (i:Nat) t,ts[i]?=some t→w.cell? ⟨b,off+i,none⟩=some (.string t)
theorem TextsAt.ext {w w' : World} {b off:Nat} {ts:List ByteArray} (h:TextsAt w b off ts) (hb:b < w.heap.size) (he:Ext w w'):TextsAt w' b off ts :=
 fun i t ht=>((Ext.cell he).1 _ _ hb).trans (h i t ht)
theorem TextsAt.upd {w w' : World} {g off b:Nat} {ts:List ByteArray} (h:TextsAt w g off ts) (he:Upd b w w') (hne:g≠b) (hg:g < w.heap.size):TextsAt w' g off ts :=
 fun i t ht=>(he.at_ne _ _ hne hg).1.trans (h i t ht)
/-- The slice value v reads as the texts ts. -/
def TSlice (w:World) (v:Value) (ts:List ByteArray):Prop :=
 ∃ a cap,v = .slice a ts.length cap∧ts.length≤cap∧cap≤maxLen∧(0 < ts.length→∃ b off,a=some ⟨b,off,none⟩∧b < w.heap.size∧TextsAt w b off ts)
theorem TSlice.ext {w w' : World} {v:Value} {ts:List ByteArray} (h:TSlice w v ts) (he:Ext w w'):TSlice w' v ts:=by
 exact m16z
/-- Block g holds room for n texts from off on, and may be written there. -/
def TRoom (w:World) (g off n:Nat):Prop:=g < w.heap.size∧∀ j,j < n→(∃ u,w.cell? ⟨g,off+j,none⟩=some u)∧w.frozen? ⟨g,off+j,none⟩=false
theorem TRoom.ext {w w' : World} {g off n:Nat} (h:TRoom w g off n) (he:Ext w w'):TRoom w' g off n:=by
 exact m18z
theorem TRoom.upd {w w' : World} {g off n b:Nat} (h:TRoom w g off n) (he:Upd b w w') (hne:g≠b):TRoom w' g off n :=
 ⟨Nat.lt_of_lt_of_le h.1 he.2.1,fun j hj=>⟨by rw [(he.at_ne _ _ hne h.1).1];exact (h.2 j hj).1,by rw [(he.at_ne _ _ hne h.1).2];exact (h.2 j hj).2⟩⟩
theorem TRoom.put {w:World} {g off n k:Nat} (h:TRoom w g off n) (t:ByteArray) (_hk:k < n):TRoom (w.setCell ⟨g,off+k,none⟩ (.string t)) g off n:=by
 refine⟨by simpa using h.1,fun j hj=>⟨?_,by simpa using (h.2 j hj).2⟩⟩
 by_cases hjk:j=k
 ·subst hjk;exact⟨_,set_eq _ _ _ _ (h.2 j hj).1⟩
 ·rw [set_ne _ _ _ _ _ _ (by omega)];exact (h.2 j hj).1
theorem TextsAt.put {w:World} {g off n k:Nat} {ts:List ByteArray} {t:ByteArray} (hr:TRoom w g off n) (hk:k < n) (hz:ts[k]?=some t) (h:TextsAt w g off (ts.take k)):TextsAt (w.setCell ⟨g,off+k,none⟩ (.string t)) g off (ts.take (k+1)):=by
 intro i t' hi
 rw [List.getElem?_take] at hi
 split at hi
 ·by_cases hik:i=k
  ·subst hik
   rw [hz] at hi
   cases hi
   exact set_eq _ _ _ _ (hr.2 i hk).1
  ·rw [set_ne _ _ _ _ _ _ (by omega)]
   exact h i t' (by rw [List.getElem?_take,if_pos (by omega)];exact hi)
 ·cases hi
def TOwn (w:World) (v:Value) (g:Nat) (ts:List ByteArray):Prop :=
 ∃ a cap,v = .slice a ts.length cap∧ts.length≤cap∧cap≤maxLen∧(0 < ts.length→∃ off,a=some ⟨g,off,none⟩∧TRoom w g off ts.length∧TextsAt w g off ts)
theorem TOwn.slice {w:World} {v:Value} {g:Nat} {ts:List ByteArray} (h:TOwn w v g ts):TSlice w v ts:=by
 exact m28z
theorem TOwn.ext {w w' : World} {v:Value} {g:Nat} {ts:List ByteArray} (h:TOwn w v g ts) (he:Ext w w'):TOwn w' v g ts:=by
 exact m25z
theorem TOwn.lt {w:World} {v:Value} {g:Nat} {ts:List ByteArray} (h:TOwn w v g ts) (h0:0 < ts.length):g < w.heap.size:=by
 exact m37z
theorem TOwn.nil {w w' : World} {v:Value} {g g' : Nat} {ts:List ByteArray} (h:TOwn w v g ts) (h0:¬ 0 < ts.length):TOwn w' v g' ts:=by
 exact m32z
theorem TOwn.upd' {w w' : World} {v:Value} {g b:Nat} {ts:List ByteArray} (h:TOwn w v g ts) (he:Upd b w w') (hne:0 < ts.length→g≠b):TOwn w' v g ts:=by
 by_cases h0:0 < ts.length
 ·exact m43z
 ·exact h.nil h0
theorem TOwn.pick {w:World} {v:Value} {g:Nat} {ts:List ByteArray} (h:TOwn w v g ts):∃ g',g'≤w.heap.size∧TOwn w v g' ts∧(g'=w.heap.size∧¬ 0 < ts.length∨(g'=g∧g < w.heap.size∧0 < ts.length)):=by
 by_cases h0:0 < ts.length
 ·exact m83z
 ·exact⟨_,Nat.le_refl _,h.nil h0,Or.inl ⟨rfl,h0⟩⟩
def tmarks (k n:Nat):List ByteArray:=(List.range n).map fun i=>mtext (k+i)
/-- A TextsResult as a value. -/
def xr (c:Int) (v:Value):Value:=.agg #[.int .i64 c,v]
end Go.Proofs.YtpdejinkmnhioaaGreatDoor
namespace Go.Proofs.YtpdejinkmnhioaaGreatDoor
open Go.RowKit
/-- A TextsResult of code c and texts rs came back, its texts in new memory. -/
def XRet (w:World) (c:Int) (rs:List ByteArray) (e:Ending) (w' : World):Prop :=
 ∃ v g,e = .returned (xr c v)∧w.heap.size≤g∧TOwn w' v g rs∧Ext w w'
/-- Block b holds a TextsResult. -/
def XBoxAt (w:World) (b:Nat) (c:Int) (v:Value):Prop :=
 b < w.heap.size∧w.cell? ⟨b,0,none⟩=some (.int .i64 c)∧w.cell? ⟨b,1,none⟩=some v
theorem XBoxAt.ext {w w' : World} {b:Nat} {c:Int} {v:Value} (h:XBoxAt w b c v) (he:Ext w w'):XBoxAt w' b c v:=by
 obtain⟨hc,_⟩:=Ext.cell he
 exact⟨Nat.lt_of_lt_of_le h.1 he.size,(hc _ _ h.1).trans h.2.1,(hc _ _ h.1).trans h.2.2⟩
theorem XBoxAt.upd {w w' : World} {b g:Nat} {c:Int} {v:Value} (h:XBoxAt w b c v) (he:Upd g w w') (hne:b≠g):XBoxAt w' b c v :=
 ⟨Nat.lt_of_lt_of_le h.1 he.2.1,(he.at_ne _ _ hne h.1).1.trans h.2.1,(he.at_ne _ _ hne h.1).1.trans h.2.2⟩
end Go.Proofs.YtpdejinkmnhioaaGreatDoor
namespace Go.Proofs.YtpdejinkmnhioaaGreatDoor
open Go.RowKit
theorem join_list (p n:ByteArray):(if p.data.toList = [47] then (⟨#[47]⟩:ByteArray) ++ n else p ++ (⟨#[47]⟩:ByteArray) ++ n).data.toList=Pth.joined p.data.toList n.data.toList:=by
 unfold Pth.joined
 split <;> simp [ByteArray.data_append]
set_option maxHeartbeats 1000000 in
theorem l1Join_any (p n:ByteArray) (w:World) (hp:p.size≤1048576) (hn:n.size≤1048576) :
  Calls Tryz.prog 181 #[.string p,.string n] w fun e w'=>e = .returned (.string (mkB (Pth.joined p.data.toList n.data.toList)))∧w'=w:=by
 have hj:=eq_mkB (join_list p n)
 rw [← hj]
 clear hj
 by_cases h:p.data.toList = [47]
 ·rw [if_pos h]
  have b:(p.toList == [47])=true:=by rw [beq_top];simpa using h
  clear h
  go_enter Tryz.func181,Tryz.ntmps181
  go_wp2
  go_ret
  exact⟨rfl,rfl⟩
 ·rw [if_neg h]
  have b:(p.toList == [47])=false:=by rw [beq_top];simpa using h
  clear h
  go_enter Tryz.func181,Tryz.ntmps181
  go_wp2
  go_ret
  exact⟨rfl,rfl⟩
end Go.Proofs.YtpdejinkmnhioaaGreatDoor
namespace Go.Proofs.YtpdejinkmnhioaaGreatDoor
open Go.RowKit
namespace Tre
def lastName (p:ByteArray):ByteArray:=p.extract (Pth.lastSl p.data.toList 0 0+1) p.size
def isKid (p:ByteArray) (z:Zn):Bool:=!(z.path.toList == [47]) && ((par z.path).toList == p.toList)
def kids (zs:List Zn) (p:ByteArray):List ByteArray:=(zs.filter (isKid p)).map fun z=>lastName z.path
theorem kids_snoc {zs:List Zn} {p:ByteArray} {k:Nat} {z:Zn} (hz:zs[k]?=some z):kids (zs.take (k+1)) p=kids (zs.take k) p ++ (if isKid p z=true then [lastName z.path] else []):=by
 obtain⟨hk,he⟩:=List.getElem?_eq_some_iff.1 hz
 unfold kids
 rw [List.take_succ_eq_append_getElem hk,he,List.filter_append,List.map_append]
 congr 1
 by_cases h:isKid p z=true
 ·rw [if_pos h,List.filter_cons_of_pos h];rfl
 ·rw [if_neg h,List.filter_cons_of_neg h];rfl
theorem kids_le (zs:List Zn) (p:ByteArray):(kids zs p).length≤zs.length:=by
 unfold kids;rw [List.length_map];exact List.length_filter_le _ _
end Tre
theorem TOwn.of_row {w:World} {base:Nat} {e:TypeId} {v:Value} {ts:List ByteArray} (h:w.ownsRow base e 1 v ts.length (ts.map Value.string)):∃ g,base≤g∧TOwn w v g ts:=by
 rcases h.2 with ⟨hv,h0⟩ | ⟨g,cap,cur,hv,hb,hh,hn,hm,hs,ht⟩
 ·exact m51z
 ·subst hv
  refine⟨g,hb,some ⟨g,0,none⟩,cap,rfl,hn,hm,fun _=>⟨0,rfl,⟨?_,fun j hj=>?_⟩,?_⟩⟩
  ·exact (Array.getElem?_eq_some_iff.1 hh).1
  ·have hc:=h.cellAt j (by omega)
   rw [Nat.zero_add,hc]
   exact⟨⟨_,List.getElem?_eq_getElem (by rw [List.length_map];omega)⟩,h.frozenAt j⟩
  ·intro i t hz
   have hi:=(List.getElem?_eq_some_iff.1 hz).1
   rw [Nat.zero_add,h.cellAt i (by omega),List.getElem?_map,hz];rfl
set_option maxHeartbeats 2000000 in
set_option maxRecDepth 100000 in
theorem l2Kids_any (v:Value) (zs:List Zn) (p:ByteArray) (w:World) (hS:NSlice w v zs) (hl:zs.length≤1048576) (hf:∀ z ∈ zs,Pth.faultI z.path.data.toList=0) :
  Calls Tryz.prog 183 #[v,.string p] w fun e w'=>∃ v' g,e = .returned v'∧w.heap.size≤g∧TOwn w' v' g (Tre.kids zs p)∧Ext w w':=by
 refine n59z ?_
 intro hi9 i0 hi hx
 simp only [Prod.mk.injEq] at hx
 obtain⟨hz0,hz1,hz2⟩:=hx
 clear hi9
 obtain⟨a,cap,rfl,hlc,hcm,hx⟩:=hS
 refine n26z ?_
 intro HX
 have HF:Hid (∀ z ∈ zs,Pth.faultI z.path.data.toList=0):=hf
 clear hx hf
 unfold maxLen at hcm
 go_enter Tryz.func183,Tryz.ntmps183
 go_wp2
 go_loopw [5,6] (fun v i wr=>∃ (k:Nat),k≤zs.length∧i = .int .i64 k∧Hid (wr.ownsRow w.heap.size 9 1 v (Tre.kids (zs.take k) p).length ((Tre.kids (zs.take k) p).map Value.string))∧Hid (Ext w wr)) (fun _ i _=>zs.length - (intOf i).toNat)
 case atStart =>
  refine⟨0,by omega,rfl,?_,(Ext.refl _).alloc _⟩
  exact World.ownsRow_made w #[] 0 (Nat.le_refl _) (by unfold maxLen;omega) rfl
 case round =>
  obtain⟨k,hk,rfl,HO,HE⟩:=hrel
  by_cases hlt:k < zs.length
  ·obtain⟨z,hzk⟩:∃ z,zs[k]?=some z:=⟨_,List.getElem?_eq_getElem hlt⟩
   obtain⟨b,off,rfl,hb,hN⟩:=HX.out (by omega)
   obtain⟨d0,d1,d2,d3,d4⟩:=hN.ext hb HE.out k z hzk
   have hfz:=HF.out z (List.mem_of_getElem? hzk)
   have h24:=few_of_ok hfz
   have HK:Hid (Tre.kids (zs.take (k+1)) p=Tre.kids (zs.take k) p ++ (if Tre.isKid p z=true then [Tre.lastName z.path] else [])):=Tre.kids_snoc hzk
   have hkl:(Tre.kids (zs.take k) p).length≤k:=by have:=Tre.kids_le (zs.take k) p;rw [List.length_take] at this;omega
   have HP:Hid (∀ wx:World,Calls Tryz.prog 172 #[.string z.path] wx fun e w'=>e = .returned (.string (Tre.par z.path))∧w'=wx):=fun wx=>l1Parent_any z.path wx h24
   have HL:Hid (∀ wx:World,Calls Tryz.prog 178 #[.string z.path] wx fun e w'=>e = .returned (.int .i64 (Pth.lastSl z.path.data.toList 0 0:Nat))∧w'=wx):=fun wx=>l1Last_any z.path wx h24
   clear hzk hN d1 d2 d3 d4
   cases ht:(z.path.toList == [47]) with
   | true =>
    have HK2:Hid (Tre.kids (zs.take (k+1)) p=Tre.kids (zs.take k) p):=by
     show _=_
     rw [HK.out,if_neg];· simp
     unfold Tre.isKid;rw [ht];simp
    exact m100z
   | false =>
    have hll:=lastSl_le2 z.path hfz ht
    cases hp:((Tre.par z.path).toList == p.toList) with
    | false =>
     have HK2:Hid (Tre.kids (zs.take (k+1)) p=Tre.kids (zs.take k) p):=by
      show _=_
      rw [HK.out,if_neg];· simp
      unfold Tre.isKid;rw [hp];simp
     go_wp2_with fail
     refine (HP.out _).mono ?_
     rintro e w3 ⟨rfl,rfl⟩
     exact m100z
    | true =>
     have HK2:Hid (Tre.kids (zs.take (k+1)) p=Tre.kids (zs.take k) p ++ [Tre.lastName z.path]):=by
      show _=_
      rw [HK.out,if_pos]
      unfold Tre.isKid;rw [hp,ht];simp
     go_wp2_with fail
     refine (HP.out _).mono ?_
     rintro e w3 ⟨rfl,rfl⟩
     go_wp2_with fail
     refine (HL.out _).mono ?_
     rintro e w3 ⟨rfl,rfl⟩
     go_wp2_with (at_builtin;go_must (refine wpList_append_own _ rfl _ _ 222 rfl w.heap.size 9 i0 (.string ByteArray.empty) 1 16 Tryz.underlying222 hi hz0 hz1 hz2 rfl (by decide) _ _ _ rfl (HO.out.alloc _) ⟨w3.heap.size,0,none⟩ 1 1 [.string (z.path.extract (Pth.lastSl z.path.data.toList 0 0+1) z.path.size)] rfl rfl (cell_one_new _ _ _) (fun x hx=>by simp at hx;subst hx;rfl) (by unfold maxLen;omega) (by omega) (by have:=HE.out.size;simp;omega) ?_;intro v' w4 hown' hgrow3 hnil3))
     refine⟨⟨k+1,by omega,by go_num,?_,Below.grown (HE.out.alloc _) hgrow3 (by have:=HE.out.size;simp;omega) (fun q hq=>(HO.out.lt q hq).1)⟩,by simp [intOf];omega⟩
     show w4.ownsRow _ _ _ _ _ _
     rw [HK2.out,List.map_append,List.length_append]
     exact hown'
  ·exact m55z
namespace Tre
def kidsV (zs:List Zn) (p:ByteArray):Int × List ByteArray:=if asked zs p≠0 then (asked zs p,[]) else if atI zs p < 0 then (4,[]) else (0,kids zs p)
theorem kidsV_bad {zs:List Zn} {p:ByteArray} {c:Int} (h:asked zs p=c) (h0:c≠0):kidsV zs p=(c,[]):=by unfold kidsV;rw [h,if_pos h0]
theorem kidsV_none {zs:List Zn} {p:ByteArray} (h:asked zs p=0) (h0:atI zs p < 0):kidsV zs p=(4,[]):=by unfold kidsV;rw [h,if_neg (by simp),if_pos h0]
theorem kidsV_ok {zs:List Zn} {p:ByteArray} (h:asked zs p=0) (h0:¬ atI zs p < 0):kidsV zs p=(0,kids zs p):=by unfold kidsV;rw [h,if_neg (by simp),if_neg h0]
end Tre
theorem town_none (w:World) (g:Nat):TOwn w (.slice none 0 0) g []:=⟨none,0,rfl,Nat.le_refl _,by unfold maxLen;omega,fun h=>by simp at h⟩
/-- Block r holds a TextsResult that nobody has written yet, and may be written. -/
def XBox (w:World) (r:Nat):Prop :=
 r < w.heap.size∧w.cell? ⟨r,0,none⟩=some (.int .i64 0)∧w.cell? ⟨r,1,none⟩=some (.slice none 0 0)∧w.frozen? ⟨r,0,none⟩=false∧w.frozen? ⟨r,1,none⟩=false
theorem XBox.new (w:World) (t:TypeId):XBox (w.alloc (.cells #[.int .i64 0,.slice none 0 0] t)) w.heap.size:=⟨by simp,by simp,by simp,by simp,by simp⟩
theorem XBox.ext {w w2:World} {r:Nat} (h:XBox w r) (he:Ext w w2):XBox w2 r:=by
 exact m74z
theorem Ext.box2 {w w2:World} (h:Ext w w2) (a b:Value):Ext w ((w2.setCell ⟨w.heap.size,0,none⟩ a).setCell ⟨w.heap.size,1,none⟩ b) :=
 (h.setCell (p:=⟨w.heap.size,0,none⟩) (Nat.le_refl _) a).setCell (p:=⟨w.heap.size,1,none⟩) (Nat.le_refl _) b
theorem xret_bad {w w' : World} (c:Int) (h:Ext w w'):XRet w c [] (.returned (xr c (.slice none 0 0))) w':=⟨_,w.heap.size,rfl,Nat.le_refl _,town_none _ _,h⟩
theorem xret_own {w w4:World} {v:Value} {g:Nat} {rs:List ByteArray} (c:Int) (hO:TOwn w4 v g rs) (hg:w.heap.size+1≤g) (h:Ext w w4) (x y:Value) :
  XRet w c rs (.returned (xr c v)) ((w4.setCell ⟨w.heap.size,0,none⟩ x).setCell ⟨w.heap.size,1,none⟩ y) :=
 ⟨v,g,rfl,by omega,hO.upd' (((Upd.refl _ _).setAt 0 x).setAt 1 y) (fun _=>by omega),h.box2 _ _⟩
end Go.Proofs.YtpdejinkmnhioaaGreatDoor
namespace Go.Proofs.YtpdejinkmnhioaaGreatDoor
open Go.RowKit
set_option maxHeartbeats 1000000 in
theorem isUpTo_any (n m:Int) (w:World):Calls Tryz.prog 90 #[.int .i64 n,.int .i64 m] w fun e w'=>e = .returned (.bool (decide (0≤n) && decide (n≤m)))∧w'=w:=by
 by_cases h0:0≤n
 ·by_cases h1:n≤m
  ·exact m73z
  ·exact m77z
 ·exact m76z
end Go.Proofs.YtpdejinkmnhioaaGreatDoor
namespace Go.Proofs.YtpdejinkmnhioaaGreatDoor
open Go.RowKit
namespace Tre
theorem less_eq:∀ (x y:List UInt8),Op.bytesLess x y=decide (x < y)
 | [],[]=>by simp [Op.bytesLess]
 | _ :: _,[]=>by simp [Op.bytesLess]
 | [],_ :: _=>by simp [Op.bytesLess]
 | a :: x,b :: y=>by
  rw [Op.bytesLess,less_eq x y]
  simp only [List.cons_lt_cons_iff]
  by_cases h1:a < b <;> by_cases h2:a=b <;> by_cases h3:x < y <;> simp [h1,h2,h3]
theorem cmp_neg:∀ (x y:List UInt8),Lib.compareBytes x y < 0↔x < y
 | [],[]=>by simp [Lib.compareBytes]
 | _ :: _,[]=>by simp [Lib.compareBytes]
 | [],_ :: _=>by simp [Lib.compareBytes]
 | a :: x,b :: y=>by
  have ih:=cmp_neg x y
  rw [Lib.compareBytes,List.cons_lt_cons_iff]
  by_cases h1:a < b
  ·simp [h1]
  ·by_cases h2:b < a
   ·have h3:¬ a=b:=by intro e;subst e;exact h1 h2
    simp [h1,h2,h3]
   ·have h3:a=b:=UInt8.le_antisymm (UInt8.not_lt.1 h2) (UInt8.not_lt.1 h1)
    subst h3
    simp [h1,ih]
theorem cmp_zero:∀ (x y:List UInt8),Lib.compareBytes x y=0↔x=y
 | [],[]=>by simp [Lib.compareBytes]
 | _ :: _,[]=>by simp [Lib.compareBytes]
 | [],_ :: _=>by simp [Lib.compareBytes]
 | a :: x,b :: y=>by
  have ih:=cmp_zero x y
  rw [Lib.compareBytes]
  by_cases h1:a < b
  ·have h3:¬ a=b:=by intro e;subst e;exact (UInt8.lt_irrefl _) h1
   simp [h1,h3]
  ·by_cases h2:b < a
   ·have h3:¬ a=b:=by intro e;subst e;exact h1 h2
    simp [h1,h2,h3]
   ·have h3:a=b:=UInt8.le_antisymm (UInt8.not_lt.1 h2) (UInt8.not_lt.1 h1)
    subst h3
    simp [h1,ih]
theorem lt_irr (x:List UInt8):¬ x < x:=List.lt_irrefl x
theorem lt_tr {x y z:List UInt8} (h:x < y) (h2:y < z):x < z:=List.lt_trans h h2
theorem lt_ne {x y:List UInt8} (h:x < y):¬ x=y:=fun e=>lt_irr y (e ▸ h)
theorem lt_asym {x y:List UInt8} (h:x < y):¬ y < x:=fun h2=>lt_irr x (lt_tr h h2)
theorem lt_tot {x y:List UInt8} (h:¬ x < y) (h2:¬ x=y):y < x:=by
 have hle:y≤x:=List.not_lt.1 h
 by_cases h3:y < x
 ·exact h3
 ·exact absurd (List.le_antisymm (List.not_lt.1 h3) hle) (by intro e;exact h2 e)
end Tre
end Go.Proofs.YtpdejinkmnhioaaGreatDoor
