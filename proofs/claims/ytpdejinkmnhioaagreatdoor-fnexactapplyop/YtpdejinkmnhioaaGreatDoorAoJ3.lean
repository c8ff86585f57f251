/- E1, E2, Z2, N1, in one text. -/
import Derived.Test.YtpdejinkmnhioaaGreatDoorAoJ0
import Derived.Test.YtpdejinkmnhioaaGreatDoorAoE0
import Derived.Test.YtpdejinkmnhioaaGreatDoorAoJ1
import Derived.Test.YtpdejinkmnhioaaGreatDoorAoMk
namespace Go.Proofs.YtpdejinkmnhioaaGreatDoor
open Go.RowKit
def eagg (s:Se):Value:=.agg #[.int .i64 s.id,.int .i64 s.til]
/-- The sides l lie in block b, from off on. -/
def SesAt (w:World) (b off:Nat) (l:List Se):Prop:=∀ (i:Nat) s,l[i]?=some s→w.cell? ⟨b,off+i * 2,none⟩=some (.int .i64 s.id)∧w.cell? ⟨b,off+i * 2+1,none⟩=some (.int .i64 s.til)
theorem SesAt.ext {w w' : World} {b off:Nat} {l:List Se} (h:SesAt w b off l) (hb:b < w.heap.size) (he:Ext w w'):SesAt w' b off l:=by
 intro i s hs
 obtain⟨h1,h2⟩:=h i s hs
 exact⟨((Ext.cell he).1 _ _ hb).trans h1,((Ext.cell he).1 _ _ hb).trans h2⟩
/-- The slice value v reads as the sides l. -/
def ESlice (w:World) (v:Value) (l:List Se):Prop :=
 ∃ a cap,v = .slice a l.length cap∧l.length≤cap∧cap≤maxLen∧(0 < l.length→∃ b off,a=some ⟨b,off,none⟩∧b < w.heap.size∧SesAt w b off l)
theorem ESlice.ext {w w' : World} {v:Value} {l:List Se} (h:ESlice w v l) (he:Ext w w'):ESlice w' v l:=by
 exact m16z
set_option maxHeartbeats 1000000 in
theorem toSession_any (s:Se) (w:World):Calls Tryz.prog 123 #[eagg s] w fun e w'=>e = .returned (eagg s)∧Ext w w':=by
 unfold eagg
 go_enter Tryz.func123,Tryz.ntmps123
 go_wp2
 exact bodyPost_ret (v:=eagg s) (by simp [results,Tryz.results123,go_sem,eagg]) rfl ⟨rfl,(((Ext.refl _).alloc _).alloc _).alloc _⟩
set_option maxHeartbeats 1000000 in
theorem eqSession_same (s:Se) (w:World):Calls Tryz.prog 137 #[eagg s,eagg s] w fun e w'=>e = .returned (.bool true)∧Ext w w':=by
 unfold eagg
 go_enter Tryz.func137,Tryz.ntmps137
 go_wp2
 go_ret
 exact⟨rfl,((Ext.refl _).alloc _).alloc _⟩
set_option maxHeartbeats 1000000 in
theorem szSessionS_any (v:Value) (l:List Se) (n:Int) (w:World) (h0:0≤n) (h1:n≤1048576) (hS:ESlice w v l) :
  Calls Tryz.prog 47 #[v,.int .i64 n] w fun e w'=>e = .returned (.int .i64 (if n < l.length then -1 else n - l.length))∧w'=w:=by
 obtain⟨a,cap,rfl,hlc,hcm,-⟩:=hS
 unfold maxLen at hcm
 by_cases h:n < l.length
 ·rw [if_pos h]
  go_enter Tryz.func47,Tryz.ntmps47
  go_wp2
  go_ret
  exact⟨rfl,rfl⟩
 ·rw [if_neg h]
  go_enter Tryz.func47,Tryz.ntmps47
  go_wp2
  go_ret
  exact⟨rfl,rfl⟩
set_option maxHeartbeats 1000000 in
set_option maxRecDepth 100000 in
theorem eqSessionS_same (v v' : Value) (l:List Se) (w:World) (hS:ESlice w v l) (hS' : ESlice w v' l) :
  Calls Tryz.prog 64 #[v,v'] w fun e w'=>e = .returned (.bool true)∧Ext w w':=by
 obtain⟨a,cap,rfl,hlc,hcm,hx⟩:=hS
 obtain⟨a',cap',rfl,hlc',hcm',hx'⟩:=hS'
 refine n54z ?_
 intro HX
 have HX' : Hid (0 < l.length→∃ b off,a'=some ⟨b,off,none⟩∧b < w.heap.size∧SesAt w b off l):=hx'
 clear hx hx'
 unfold maxLen at hcm
 go_enter Tryz.func64,Tryz.ntmps64
 go_wp2
 go_loopw [5] (fun i wr=>∃ (k:Nat),k≤l.length∧i = .int .i64 k∧Hid (Ext w wr)) (fun i _=>l.length - (intOf i).toNat)
 case atStart=>exact⟨0,Nat.zero_le _,rfl,Ext.refl _⟩
 case round =>
  obtain⟨k,hk,rfl,HE⟩:=hrel
  by_cases hlt:k < l.length
  ·obtain⟨z,hzk⟩:∃ z,l[k]?=some z:=⟨_,List.getElem?_eq_getElem hlt⟩
   obtain⟨b,off,rfl,hb,hN⟩:=HX.out (by omega)
   obtain⟨b',off',rfl,hb',hN'⟩:=HX'.out (by omega)
   obtain⟨d0,d1⟩:=hN.ext hb HE.out k z hzk
   obtain⟨e0,e1⟩:=hN'.ext hb' HE.out k z hzk
   clear hzk hN hN'
   have HQ:Hid (∀ wx:World,Calls Tryz.prog 137 #[eagg z,eagg z] wx fun e w'=>e = .returned (.bool true)∧Ext wx w'):=eqSession_same z
   unfold eagg at HQ
   go_wp2
   go_region_with (go_at_call 137;refine (HQ.out _).mono ?_;rintro e w2 ⟨rfl,hb2⟩)
   all_goals exact m60z
  ·go_wp2
   go_ret
   exact⟨rfl,HE.out⟩
/-- Block g holds room for n cells from off on, and may be written there. -/
def ERoom (w:World) (g off n:Nat):Prop:=g < w.heap.size∧∀ j,j < n * 2→(∃ u,w.cell? ⟨g,off+j,none⟩=some u)∧w.frozen? ⟨g,off+j,none⟩=false
def putE (w:World) (g o:Nat) (s:Se):World:=(w.setCell ⟨g,o,none⟩ (.int .i64 s.id)).setCell ⟨g,o+1,none⟩ (.int .i64 s.til)
theorem putE_ne (w:World) (g o b k:Nat) (s:Se) (h:g≠b∨k < o∨o+2≤k):(putE w g o s).cell? ⟨b,k,none⟩=w.cell? ⟨b,k,none⟩:=by
 unfold putE
 rw [iset_ne _ _ _ _ _ _ (by omega),iset_ne _ _ _ _ _ _ (by omega)]
theorem putE_eq (w:World) (g o:Nat) (s:Se) (h:∀ j,j < 2→∃ u,w.cell? ⟨g,o+j,none⟩=some u) :
  (putE w g o s).cell? ⟨g,o,none⟩=some (.int .i64 s.id)∧(putE w g o s).cell? ⟨g,o+1,none⟩=some (.int .i64 s.til):=by
 unfold putE
 refine⟨?_,?_⟩
 ·rw [iset_ne _ _ _ _ _ _ (by omega)];exact iset_eq _ _ _ _ (h 0 (by omega))
 ·apply iset_eq;rw [iset_ne _ _ _ _ _ _ (by omega)];exact h 1 (by omega)
theorem ERoom.put {w:World} {g off n k:Nat} (h:ERoom w g off n) (s:Se) (hk:k < n):ERoom (putE w g (off+k * 2) s) g off n:=by
 refine⟨by simpa [putE] using h.1,fun j hj=>⟨?_,by simpa [putE] using (h.2 j hj).2⟩⟩
 obtain⟨q0,q1⟩:=putE_eq w g (off+k * 2) s (fun i hi=>by rw [Nat.add_assoc];exact (h.2 (k * 2+i) (by omega)).1)
 by_cases hh:off+j < off+k * 2∨off+k * 2+2≤off+j
 ·rw [putE_ne _ _ _ _ _ _ (Or.inr hh)];exact (h.2 j hj).1
 ·have hj5:j=k * 2∨j=k * 2+1:=by omega
  rcases hj5 with e | e <;> subst e
  ·exact⟨_,q0⟩
  ·exact⟨_,q1⟩
theorem ERoom.ext {w w' : World} {g off n:Nat} (h:ERoom w g off n) (he:Ext w w'):ERoom w' g off n:=by
 exact m18z
theorem SesAt.put {w:World} {g off n k:Nat} {l:List Se} {s:Se} (hr:ERoom w g off n) (hk:k < n) (hz:l[k]?=some s) (h:SesAt w g off (l.take k)):SesAt (putE w g (off+k * 2) s) g off (l.take (k+1)):=by
 intro i z' hi
 rw [List.getElem?_take] at hi
 split at hi
 ·by_cases hik:i=k
  ·subst hik
   rw [hz] at hi
   cases hi
   exact putE_eq w g (off+i * 2) s (fun j hj=>by rw [Nat.add_assoc];exact (hr.2 (i * 2+j) (by omega)).1)
  ·obtain⟨c0,c1⟩:=h i z' (by rw [List.getElem?_take,if_pos (by omega)];exact hi)
   exact⟨by rw [putE_ne _ _ _ _ _ _ (by omega)];exact c0,by rw [putE_ne _ _ _ _ _ _ (by omega)];exact c1⟩
 ·cases hi
theorem ext_putE {w w' : World} (h:Ext w w') (g o:Nat) (hg:w.heap.size≤g) (s:Se):Ext w (putE w' g o s) :=
 (h.setCell (p:=⟨g,o,none⟩) hg _).setCell (p:=⟨g,o+1,none⟩) hg _
set_option maxHeartbeats 2000000 in
set_option maxRecDepth 100000 in
theorem toSessionS_at (v:Value) (l:List Se) (w:World) (hS:ESlice w v l) (hl:l.length≤1048576) :
  Calls Tryz.prog 55 #[v] w fun e w'=>e = .returned (.slice (some ⟨w.heap.size,0,none⟩) l.length l.length)∧ERoom w' w.heap.size 0 l.length∧SesAt w' w.heap.size 0 l∧Ext w w':=by
 obtain⟨a,cap,rfl,hlc,hcm,hx⟩:=hS
 refine n54z ?_
 intro HX
 clear hx
 unfold maxLen at hcm
 refine n43z ?_
 intro hi9
 obtain⟨i0,hi,hxx⟩:=Option.map_eq_some_iff.1 hi9
 simp only [Prod.mk.injEq] at hxx
 obtain⟨hz0,hz1,hz2⟩:=hxx
 clear hi9
 obtain⟨M,hM⟩:∃ M,M=madeCells (Value.agg #[.int .i64 0,.int .i64 0]).cells (((l.length:Nat):Int).toNat * i0.size):=⟨_,rfl⟩
 have hMs:M.size=l.length * 2:=by rw [hM,size_madeCells,hz1];simp
 have hmk:∀ W:World,(Instr.makeSlice 34 (.int .i64 (l.length:Int)) (.int .i64 (l.length:Int))).run Tryz.prog W = .ok (.slice (some ⟨W.heap.size,0,none⟩) l.length l.length) (W.alloc (.cells M 134)):=fun W=>by
  have h:=run_make (P:=Tryz.prog) W 34 134 i0 _ Tryz.underlying34 hi hz0 .i64 .i64 (l.length:Int) (l.length:Int) (by omega) (by omega) (by rw [hz2];omega) (by omega)
  rw [← hM] at h
  simpa using h
 have HR:Hid (ERoom (w.alloc (.cells M 134)) w.heap.size 0 l.length):=by
  exact m57z
 clear hM hMs hi hz0 hz1 hz2
 go_enter Tryz.func55,Tryz.ntmps55
 go_wp2
 go_loopw [4] (fun i wr=>∃ (k:Nat),k≤l.length∧i = .int .i64 k∧Hid (ERoom wr w.heap.size 0 l.length)∧Hid (SesAt wr w.heap.size 0 (l.take k))∧Hid (Ext w wr)) (fun i _=>l.length - (intOf i).toNat)
 case atStart=>exact⟨0,Nat.zero_le _,rfl,HR,fun i z h=>by simp at h,(Ext.refl _).alloc _⟩
 case round =>
  obtain⟨k,hk,rfl,HR1,HN1,HE⟩:=hrel
  by_cases hlt:k < l.length
  ·obtain⟨x,hxk⟩:∃ x,l[k]?=some x:=⟨_,List.getElem?_eq_getElem hlt⟩
   obtain⟨b,off,rfl,hb,hN⟩:=HX.out (by omega)
   obtain⟨d0,d1⟩:=hN.ext hb HE.out k x hxk
   have HZ:Hid (l[k]?=some x):=hxk
   clear hxk hN
   have hto:=toSession_any x wr
   unfold eagg at hto
   go_wp2_with fail
   refine hto.mono ?_
   rintro e w2 ⟨rfl,hb2⟩
   clear hto d0 d1
   have HR2:Hid (ERoom w2 w.heap.size 0 l.length):=HR1.out.ext hb2
   have HN2:Hid (SesAt w2 w.heap.size 0 (l.take k)):=HN1.out.ext HR1.out.1 hb2
   have HE2:Hid (Ext w w2):=HE.out.trans hb2
   clear hb2
   obtain⟨⟨u0,r0⟩,f0⟩:=HR2.out.2 (k * 2) (by omega)
   obtain⟨⟨u1,r1⟩,f1⟩:=HR2.out.2 (k * 2+1) (by omega)
   rw [Nat.zero_add] at r0 r1 f0 f1
   have p1:=HR2.out.put x hlt
   have p2:=SesAt.put HR2.out hlt HZ.out HN2.out
   have p3:=ext_putE HE2.out w.heap.size (0+k * 2) (Nat.le_refl _) x
   exact m39z
  ·have hke:k=l.length:=by omega
   subst hke
   go_wp2
   go_ret
   exact⟨rfl,HR1.out,by have:=HN1.out;rw [List.take_length] at this;exact this,HE.out⟩
end Go.Proofs.YtpdejinkmnhioaaGreatDoor
namespace Go.Proofs.YtpdejinkmnhioaaGreatDoor
open Go.RowKit
theorem SesAt.upd {w w' : World} {g off b:Nat} {ts:List Se} (h:SesAt w g off ts) (he:Upd b w w') (hne:g≠b) (hg:g < w.heap.size):SesAt w' g off ts :=
 fun i t ht=>⟨(he.at_ne _ _ hne hg).1.trans (h i t ht).1,(he.at_ne _ _ hne hg).1.trans (h i t ht).2⟩
theorem ERoom.upd {w w' : World} {g off n b:Nat} (h:ERoom w g off n) (he:Upd b w w') (hne:g≠b):ERoom w' g off n :=
 ⟨Nat.lt_of_lt_of_le h.1 he.2.1,fun j hj=>⟨by rw [(he.at_ne _ _ hne h.1).1];exact (h.2 j hj).1,by rw [(he.at_ne _ _ hne h.1).2];exact (h.2 j hj).2⟩⟩
def EOwn (w:World) (v:Value) (g:Nat) (ts:List Se):Prop :=
 ∃ a cap,v = .slice a ts.length cap∧ts.length≤cap∧cap≤maxLen∧(0 < ts.length→∃ off,a=some ⟨g,off,none⟩∧ERoom w g off ts.length∧SesAt w g off ts)
theorem EOwn.slice {w:World} {v:Value} {g:Nat} {ts:List Se} (h:EOwn w v g ts):ESlice w v ts:=by
 exact m28z
theorem EOwn.ext {w w' : World} {v:Value} {g:Nat} {ts:List Se} (h:EOwn w v g ts) (he:Ext w w'):EOwn w' v g ts:=by
 exact m25z
theorem EOwn.lt {w:World} {v:Value} {g:Nat} {ts:List Se} (h:EOwn w v g ts) (h0:0 < ts.length):g < w.heap.size:=by
 exact m37z
theorem EOwn.nil {w w' : World} {v:Value} {g g' : Nat} {ts:List Se} (h:EOwn w v g ts) (h0:¬ 0 < ts.length):EOwn w' v g' ts:=by
 exact m32z
theorem EOwn.upd' {w w' : World} {v:Value} {g b:Nat} {ts:List Se} (h:EOwn w v g ts) (he:Upd b w w') (hne:0 < ts.length→g≠b):EOwn w' v g ts:=by
 by_cases h0:0 < ts.length
 ·exact m43z
 ·exact h.nil h0
theorem EOwn.pick {w:World} {v:Value} {g:Nat} {ts:List Se} (h:EOwn w v g ts):∃ g',g'≤w.heap.size∧EOwn w v g' ts∧(g'=w.heap.size∧¬ 0 < ts.length∨(g'=g∧g < w.heap.size∧0 < ts.length)):=by
 by_cases h0:0 < ts.length
 ·exact m83z
 ·exact⟨_,Nat.le_refl _,h.nil h0,Or.inl ⟨rfl,h0⟩⟩
def emark (k:Nat):Se:=⟨(k:Nat),(k+1:Nat)⟩
def emarks (k n:Nat):List Se:=(List.range n).map fun i=>emark (k+2 * i)
theorem emarks_length (k n:Nat):(emarks k n).length=n:=by simp [emarks]
theorem emarks_get (k n i:Nat) (h:i < n):(emarks k n)[i]?=some (emark (k+2 * i)):=by
 unfold emarks
 rw [List.getElem?_map,List.getElem?_range h];rfl
/-- The slice value has an address. -/
def SomeS (v:Value):Prop:=∃ b off n cap,v = .slice (some ⟨b,off,none⟩) n cap
end Go.Proofs.YtpdejinkmnhioaaGreatDoor
namespace Go.Proofs.YtpdejinkmnhioaaGreatDoor
open Go.RowKit
set_option maxHeartbeats 2000000 in
set_option maxRecDepth 100000 in
theorem toZnodeS_any (v:Value) (zs:List Zn) (w:World) (hS:NSlice w v zs) (hl:zs.length≤1048576) :
  Calls Tryz.prog 54 #[v] w fun e w'=>∃ v',e = .returned v'∧Own w' v' w.heap.size zs∧Ext w w':=by
 obtain⟨a,cap,rfl,hlc,hcm,hx⟩:=hS
 refine n26z ?_
 intro HX
 clear hx
 unfold maxLen at hcm
 refine n21z ?_
 intro hi9
 obtain⟨i0,hi,hxx⟩:=Option.map_eq_some_iff.1 hi9
 simp only [Prod.mk.injEq] at hxx
 obtain⟨hz0,hz1,hz2⟩:=hxx
 clear hi9
 obtain⟨M,hM⟩:∃ M,M=madeCells (Value.agg #[.string ByteArray.empty,.int .i64 0,.int .i64 0,.int .i64 0,.int .i64 0]).cells (((zs.length:Nat):Int).toNat * i0.size):=⟨_,rfl⟩
 have hMs:M.size=zs.length * 5:=by rw [hM,size_madeCells,hz1];simp
 have hmk:∀ W:World,(Instr.makeSlice 33 (.int .i64 (zs.length:Int)) (.int .i64 (zs.length:Int))).run Tryz.prog W = .ok (.slice (some ⟨W.heap.size,0,none⟩) zs.length zs.length) (W.alloc (.cells M 144)):=fun W=>by
  have h:=run_make (P:=Tryz.prog) W 33 144 i0 _ Tryz.underlying33 hi hz0 .i64 .i64 (zs.length:Int) (zs.length:Int) (by omega) (by omega) (by rw [hz2];omega) (by omega)
  rw [← hM] at h
  simpa using h
 have HR:Hid (Room (w.alloc (.cells M 144)) w.heap.size 0 zs.length):=by
  exact m57z
 clear hM hMs hi hz0 hz1 hz2
 go_enter Tryz.func54,Tryz.ntmps54
 go_wp2
 go_loopw [4] (fun i wr=>∃ (k:Nat),k≤zs.length∧i = .int .i64 k∧Hid (Room wr w.heap.size 0 zs.length)∧Hid (NodesAt wr w.heap.size 0 (zs.take k))∧Hid (Ext w wr)) (fun i _=>zs.length - (intOf i).toNat)
 case atStart=>exact⟨0,Nat.zero_le _,rfl,HR,fun i z h=>by simp at h,(Ext.refl _).alloc _⟩
 case round =>
  obtain⟨k,hk,rfl,HR1,HN1,HE⟩:=hrel
  by_cases hlt:k < zs.length
  ·obtain⟨z,hzk⟩:∃ z,zs[k]?=some z:=⟨_,List.getElem?_eq_getElem hlt⟩
   obtain⟨b,off,rfl,hb,hN⟩:=HX.out (by omega)
   obtain⟨d0,d1,d2,d3,d4⟩:=hN.ext hb HE.out k z hzk
   have HZ:Hid (zs[k]?=some z):=hzk
   clear hzk hN
   have hto:=toZnode_any z wr
   unfold zagg at hto
   go_wp2_with fail
   refine hto.mono ?_
   rintro e w2 ⟨rfl,hb2⟩
   clear hto d0 d1 d2 d3 d4
   have HR2:Hid (Room w2 w.heap.size 0 zs.length):=HR1.out.ext hb2
   have HN2:Hid (NodesAt w2 w.heap.size 0 (zs.take k)):=HN1.out.ext HR1.out.1 hb2
   have HE2:Hid (Ext w w2):=HE.out.trans hb2
   clear hb2
   obtain⟨⟨u0,r0⟩,f0⟩:=HR2.out.2 (k * 5) (by omega)
   obtain⟨⟨u1,r1⟩,f1⟩:=HR2.out.2 (k * 5+1) (by omega)
   obtain⟨⟨u2,r2⟩,f2⟩:=HR2.out.2 (k * 5+2) (by omega)
   obtain⟨⟨u3,r3⟩,f3⟩:=HR2.out.2 (k * 5+3) (by omega)
   obtain⟨⟨u4,r4⟩,f4⟩:=HR2.out.2 (k * 5+4) (by omega)
   rw [Nat.zero_add] at r0 r1 r2 r3 r4 f0 f1 f2 f3 f4
   have p1:=HR2.out.put z hlt
   have p2:=NodesAt.put HR2.out hlt HZ.out HN2.out
   have p3:=ext_putZ HE2.out w.heap.size (0+k * 5) (Nat.le_refl _) z
   exact m39z
  ·have hke:k=zs.length:=by omega
   subst hke
   go_wp2
   go_ret
   exact⟨_,rfl,⟨_,_,rfl,Nat.le_refl _,by unfold maxLen;omega,fun _=>⟨0,rfl,HR1.out,by have:=HN1.out;rw [List.take_length] at this;exact this⟩⟩,HE.out⟩
end Go.Proofs.YtpdejinkmnhioaaGreatDoor
namespace Go.Proofs.YtpdejinkmnhioaaGreatDoor
open Go.RowKit
structure Stt where
 nodes:List Zn
 ses:List Se
 now:Int
 marks:List Mk
def sagg (vn vs:Value) (n:Int) (vm:Value):Value:=.agg #[vn,vs,.int .i64 n,vm]
/-- The three slices read ae what the state holds. -/
def SSlice (w:World) (vn vs vm:Value) (s:Stt):Prop:=NSlice w vn s.nodes∧ESlice w vs s.ses∧MSlice w vm s.marks
theorem SSlice.ext {w w' : World} {vn vs vm:Value} {s:Stt} (h:SSlice w vn vs vm s) (he:Ext w w'):SSlice w' vn vs vm s:=⟨h.1.ext he,h.2.1.ext he,h.2.2.ext he⟩
/-- All texts are of a length that can be. -/
def Stt.fits (s:Stt):Prop:=(∀ z ∈ s.nodes,z.path.size≤maxLen)∧∀ z ∈ s.marks,z.path.size≤maxLen
/-- All is small. -/
def Stt.small (s:Stt):Prop:=(s.nodes.length≤1048576∧∀ z ∈ s.nodes,z.path.size≤1048576)∧s.ses.length≤1048576∧s.marks.length≤1048576∧∀ z ∈ s.marks,z.path.size≤1048576
/-- Four values in a box of their own. -/
def SBoxAt (w:World) (b:Nat) (v0 v1 v2 v3:Value):Prop:=b < w.heap.size∧(w.cell? ⟨b,0,none⟩=some v0∧w.cell? ⟨b,1,none⟩=some v1∧w.cell? ⟨b,2,none⟩=some v2∧w.cell? ⟨b,3,none⟩=some v3)∧w.frozen? ⟨b,0,none⟩=false∧w.frozen? ⟨b,1,none⟩=false∧w.frozen? ⟨b,2,none⟩=false∧w.frozen? ⟨b,3,none⟩=false
theorem SBoxAt.ext {w w' : World} {b:Nat} {v0 v1 v2 v3:Value} (h:SBoxAt w b v0 v1 v2 v3) (he:Ext w w'):SBoxAt w' b v0 v1 v2 v3:=by
 exact m49z
theorem sbox_new (w:World) (v0 v1 v2 v3:Value) (t:TypeId):SBoxAt (w.alloc (.cells #[v0,v1,v2,v3] t)) w.heap.size v0 v1 v2 v3:=⟨by simp,⟨by simp,by simp,by simp,by simp⟩,by simp,by simp,by simp,by simp⟩
theorem SBoxAt.set0 {w:World} {b:Nat} {v0 v1 v2 v3:Value} (h:SBoxAt w b v0 v1 v2 v3) (v:Value):SBoxAt (w.setCell ⟨b,0,none⟩ v) b v v1 v2 v3:=by
 obtain⟨hb,⟨c0,c1,c2,c3⟩,f0,f1,f2,f3⟩:=h
 exact⟨by simpa using hb,⟨iset_eq _ _ _ _ ⟨_,c0⟩,by rw [iset_ne _ _ _ _ _ _ (by omega)];exact c1,by rw [iset_ne _ _ _ _ _ _ (by omega)];exact c2,by rw [iset_ne _ _ _ _ _ _ (by omega)];exact c3⟩,by simpa using f0,by simpa using f1,by simpa using f2,by simpa using f3⟩
theorem SBoxAt.set1 {w:World} {b:Nat} {v0 v1 v2 v3:Value} (h:SBoxAt w b v0 v1 v2 v3) (v:Value):SBoxAt (w.setCell ⟨b,1,none⟩ v) b v0 v v2 v3:=by
 obtain⟨hb,⟨c0,c1,c2,c3⟩,f0,f1,f2,f3⟩:=h
 exact⟨by simpa using hb,⟨by rw [iset_ne _ _ _ _ _ _ (by omega)];exact c0,iset_eq _ _ _ _ ⟨_,c1⟩,by rw [iset_ne _ _ _ _ _ _ (by omega)];exact c2,by rw [iset_ne _ _ _ _ _ _ (by omega)];exact c3⟩,by simpa using f0,by simpa using f1,by simpa using f2,by simpa using f3⟩
theorem SBoxAt.set2 {w:World} {b:Nat} {v0 v1 v2 v3:Value} (h:SBoxAt w b v0 v1 v2 v3) (v:Value):SBoxAt (w.setCell ⟨b,2,none⟩ v) b v0 v1 v v3:=by
 obtain⟨hb,⟨c0,c1,c2,c3⟩,f0,f1,f2,f3⟩:=h
 exact⟨by simpa using hb,⟨by rw [iset_ne _ _ _ _ _ _ (by omega)];exact c0,by rw [iset_ne _ _ _ _ _ _ (by omega)];exact c1,iset_eq _ _ _ _ ⟨_,c2⟩,by rw [iset_ne _ _ _ _ _ _ (by omega)];exact c3⟩,by simpa using f0,by simpa using f1,by simpa using f2,by simpa using f3⟩
theorem SBoxAt.set3 {w:World} {b:Nat} {v0 v1 v2 v3:Value} (h:SBoxAt w b v0 v1 v2 v3) (v:Value):SBoxAt (w.setCell ⟨b,3,none⟩ v) b v0 v1 v2 v:=by
 obtain⟨hb,⟨c0,c1,c2,c3⟩,f0,f1,f2,f3⟩:=h
 exact⟨by simpa using hb,⟨by rw [iset_ne _ _ _ _ _ _ (by omega)];exact c0,by rw [iset_ne _ _ _ _ _ _ (by omega)];exact c1,by rw [iset_ne _ _ _ _ _ _ (by omega)];exact c2,iset_eq _ _ _ _ ⟨_,c3⟩⟩,by simpa using f0,by simpa using f1,by simpa using f2,by simpa using f3⟩
theorem SBoxAt.other {w:World} {b g o:Nat} {v0 v1 v2 v3:Value} (h:SBoxAt w b v0 v1 v2 v3) (v:Value) (hne:g≠b):SBoxAt (w.setCell ⟨g,o,none⟩ v) b v0 v1 v2 v3:=by
 obtain⟨hb,⟨c0,c1,c2,c3⟩,f0,f1,f2,f3⟩:=h
 exact⟨by simpa using hb,⟨by rw [iset_ne _ _ _ _ _ _ (Or.inl hne)];exact c0,by rw [iset_ne _ _ _ _ _ _ (Or.inl hne)];exact c1,by rw [iset_ne _ _ _ _ _ _ (Or.inl hne)];exact c2,by rw [iset_ne _ _ _ _ _ _ (Or.inl hne)];exact c3⟩,by simpa using f0,by simpa using f1,by simpa using f2,by simpa using f3⟩
/-- Nodes, sessions, marks that lie elsewhere are ae they were. -/
theorem nodes_other {w:World} {b off g o:Nat} {zs:List Zn} {v:Value} (h:NodesAt w b off zs) (hne:g≠b):NodesAt (w.setCell ⟨g,o,none⟩ v) b off zs:=by
 exact m54z
theorem ses_other {w:World} {b off g o:Nat} {zs:List Se} {v:Value} (h:SesAt w b off zs) (hne:g≠b):SesAt (w.setCell ⟨g,o,none⟩ v) b off zs:=by
 intro i z hz
 obtain⟨c0,c1⟩:=h i z hz
 refine⟨?_,?_⟩ <;> rw [iset_ne _ _ _ _ _ _ (Or.inl hne)] <;> assumption
theorem marks_other {w:World} {b off g o:Nat} {zs:List Mk} {v:Value} (h:MksAt w b off zs) (hne:g≠b):MksAt (w.setCell ⟨g,o,none⟩ v) b off zs:=by
 exact m54z
set_option maxHeartbeats 1000000 in
set_option maxRecDepth 100000 in
theorem szState_le (s:Stt) (vn vs vm:Value) (n:Int) (w:World) (h0:0≤n) (h1:n≤1048576) (hS:SSlice w vn vs vm s) (hz:s.fits) :
  Calls Tryz.prog 11 #[sagg vn vs s.now vm,.int .i64 n] w fun e w'=>∃ q:Int,e = .returned (.int .i64 q)∧-1≤q∧q≤1048576∧(0≤q→s.small)∧Ext w w':=by
 have H1:Hid (∀ wx:World,Ext w wx→Calls Tryz.prog 46 #[vn,.int .i64 n] wx fun e w'=>∃ r:Int,e = .returned (.int .i64 r)∧r≤1048576∧(0≤r→s.nodes.length≤1048576∧∀ z ∈ s.nodes,z.path.size≤1048576)∧Ext wx w'):=fun wx he=>szZnodeS_le vn s.nodes n wx h0 h1 (hS.1.ext he) hz.1
 have H2:Hid (∀ (m:Int) (wx:World),0≤m→m≤1048576→Ext w wx→Calls Tryz.prog 47 #[vs,.int .i64 m] wx fun e w'=>e = .returned (.int .i64 (if m < s.ses.length then -1 else m - s.ses.length))∧w'=wx):=fun m wx ha hb he=>szSessionS_any vs s.ses m wx ha hb (hS.2.1.ext he)
 have H3:Hid (∀ (m:Int) (wx:World),0≤m→m≤1048576→Ext w wx→Calls Tryz.prog 48 #[vm,.int .i64 m] wx fun e w'=>∃ r:Int,e = .returned (.int .i64 r)∧-1≤r∧r≤1048576∧(0≤r→s.marks.length≤1048576∧∀ z ∈ s.marks,z.path.size≤1048576)∧Ext wx w'):=fun m wx ha hb he=>szMarkS_le vm s.marks m wx ha hb (hS.2.2.ext he) hz.2
 obtain⟨⟨an,cn,rfl,-⟩,⟨ae,cs,rfl,-⟩,⟨am,cm,rfl,-⟩⟩:=hS
 clear hz
 unfold sagg
 go_enter Tryz.func11,Tryz.ntmps11
 go_wp2_with fail
 refine (H1.out _ ((Ext.refl _).alloc _)).mono ?_
 rintro e w1 ⟨q,rfl,hq1,hq2,hb⟩
 have HQ:Hid (0≤q→s.nodes.length≤1048576∧∀ z ∈ s.nodes,z.path.size≤1048576):=hq2
 refine n74z ?_
 intro HB XB
 clear hb hq2 H1
 by_cases hneg:q < 0
 ·go_wp2
  go_ret
  exact⟨_,rfl,by omega,by omega,fun h=>by omega,HB.out⟩
 obtain⟨q0,⟨c0,c1,c2,c3⟩,-,-,-,-⟩:=XB.out
 go_wp2_with fail
 refine (H2.out _ _ (by omega) (by omega) HB.out).mono ?_
 rintro e w2 ⟨rfl,hw2⟩
 rw [hw2]
 clear hw2 w2
 by_cases hneg2:q < s.ses.length
 ·rw [if_pos hneg2]
  go_wp2
  go_ret
  exact⟨_,rfl,by omega,by omega,fun h=>by omega,HB.out⟩
 rw [if_neg hneg2]
 go_wp2_with fail
 refine (H3.out _ _ (by omega) (by omega) HB.out).mono ?_
 rintro e w3 ⟨r,rfl,hr0,hr1,hr2,hb⟩
 have HR:Hid (0≤r→s.marks.length≤1048576∧∀ z ∈ s.marks,z.path.size≤1048576):=hr2
 have HB3:Hid (Ext w w3):=HB.out.trans hb
 clear hb hr2 XB c0 c1 c2 c3 q0 HB
 by_cases hneg3:r < 0
 ·go_wp2
  go_ret
  exact⟨_,rfl,by omega,by omega,fun h=>by omega,HB3.out⟩
 ·go_wp2
  go_ret
  exact⟨_,rfl,hr0,hr1,fun h=>⟨HQ.out (by omega),by omega,HR.out h⟩,HB3.out⟩
set_option maxHeartbeats 2000000 in
set_option maxRecDepth 100000 in
theorem eqState_same (s:Stt) (vn vs vm un us um:Value) (w:World) (hS:SSlice w vn vs vm s) (hS' : SSlice w un us um s) :
  Calls Tryz.prog 18 #[sagg vn vs s.now vm,sagg un us s.now um] w fun e w'=>e = .returned (.bool true)∧Ext w w':=by
 have H1:Hid (∀ wx:World,Ext w wx→Calls Tryz.prog 63 #[vn,un] wx fun e w'=>e = .returned (.bool true)∧Ext wx w'):=fun wx he=>eqZnodeS_same vn un s.nodes wx (hS.1.ext he) (hS'.1.ext he)
 have H2:Hid (∀ wx:World,Ext w wx→Calls Tryz.prog 64 #[vs,us] wx fun e w'=>e = .returned (.bool true)∧Ext wx w'):=fun wx he=>eqSessionS_same vs us s.ses wx (hS.2.1.ext he) (hS'.2.1.ext he)
 have H3:Hid (∀ wx:World,Ext w wx→Calls Tryz.prog 65 #[vm,um] wx fun e w'=>e = .returned (.bool true)∧Ext wx w'):=fun wx he=>eqMarkS_same vm um s.marks wx (hS.2.2.ext he) (hS'.2.2.ext he)
 obtain⟨⟨an,cn,rfl,-⟩,⟨ae,cs,rfl,-⟩,⟨am,cm,rfl,-⟩⟩:=hS
 obtain⟨⟨bn,dn,rfl,-⟩,⟨bs,ds,rfl,-⟩,⟨bm,dm,rfl,-⟩⟩:=hS'
 unfold sagg
 go_enter Tryz.func18,Tryz.ntmps18
 go_wp2_with fail
 refine (H1.out _ (((Ext.refl _).alloc _).alloc _)).mono ?_
 rintro e w1 ⟨rfl,hb⟩
 have HB:Hid (Ext w w1):=(((Ext.refl _).alloc _).alloc _).trans hb
 have x0:=(sbox_new w (.slice an s.nodes.length cn) (.slice ae s.ses.length cs) (.int .i64 s.now) (.slice am s.marks.length cm) _).ext (((Ext.refl _).alloc _).trans hb)
 have y0:=(sbox_new (w.alloc _) (.slice bn s.nodes.length dn) (.slice bs s.ses.length ds) (.int .i64 s.now) (.slice bm s.marks.length dm) _).ext hb
 simp only [World.size_alloc] at y0
 have XB:Hid (SBoxAt w1 w.heap.size (.slice an s.nodes.length cn) (.slice ae s.ses.length cs) (.int .i64 s.now) (.slice am s.marks.length cm)):=x0
 have YB:Hid (SBoxAt w1 (w.heap.size+1) (.slice bn s.nodes.length dn) (.slice bs s.ses.length ds) (.int .i64 s.now) (.slice bm s.marks.length dm)):=y0
 clear hb x0 y0 H1
 obtain⟨q0,⟨c0,c1,c2,c3⟩,-,-,-,-⟩:=XB.out
 obtain⟨p0,⟨d0,d1,d2,d3⟩,-,-,-,-⟩:=YB.out
 go_wp2_with fail
 refine (H2.out _ HB.out).mono ?_
 rintro e w2 ⟨rfl,hb⟩
 have HB2:Hid (Ext w w2):=HB.out.trans hb
 have XB2:Hid (SBoxAt w2 w.heap.size (.slice an s.nodes.length cn) (.slice ae s.ses.length cs) (.int .i64 s.now) (.slice am s.marks.length cm)):=XB.out.ext hb
 have YB2:Hid (SBoxAt w2 (w.heap.size+1) (.slice bn s.nodes.length dn) (.slice bs s.ses.length ds) (.int .i64 s.now) (.slice bm s.marks.length dm)):=YB.out.ext hb
 clear hb XB YB HB q0 c0 c1 c2 c3 p0 d0 d1 d2 d3 H2
 obtain⟨q0,⟨c0,c1,c2,c3⟩,-,-,-,-⟩:=XB2.out
 obtain⟨p0,⟨d0,d1,d2,d3⟩,-,-,-,-⟩:=YB2.out
 go_wp2_with fail
 refine (H3.out _ HB2.out).mono ?_
 rintro e w3 ⟨rfl,hb⟩
 have HB3:Hid (Ext w w3):=HB2.out.trans hb
 clear hb XB2 YB2 HB2 q0 c0 c1 c2 c3 p0 d0 d1 d2 d3 H3
 go_wp2
 go_ret
 exact⟨rfl,HB3.out⟩
/-- Marks that lie in block g and may be written there. -/
def MOwn (w:World) (v:Value) (g:Nat) (zs:List Mk):Prop :=
 ∃ a cap,v = .slice a zs.length cap∧zs.length≤cap∧cap≤maxLen∧(0 < zs.length→∃ off,a=some ⟨g,off,none⟩∧MRoom w g off zs.length∧MksAt w g off zs)
theorem MOwn.slice {w:World} {v:Value} {g:Nat} {zs:List Mk} (h:MOwn w v g zs):MSlice w v zs:=by
 exact m28z
theorem MOwn.ext {w w' : World} {v:Value} {g:Nat} {zs:List Mk} (h:MOwn w v g zs) (he:Ext w w'):MOwn w' v g zs:=by
 exact m25z
theorem own_other {w:World} {v:Value} {b g o:Nat} {zs:List Zn} {x:Value} (h:Own w v b zs) (hne:g≠b):Own (w.setCell ⟨g,o,none⟩ x) v b zs:=by
 obtain⟨a,cap,h1,h2,h3,h4⟩:=h
 refine⟨a,cap,h1,h2,h3,fun h0=>?_⟩
 obtain⟨off,e,hr,hN⟩:=h4 h0
 refine⟨off,e,⟨by simpa using hr.1,fun j hj=>?_⟩,nodes_other hN hne⟩
 exact m86z
theorem eown_other {w:World} {v:Value} {b g o:Nat} {zs:List Se} {x:Value} (h:EOwn w v b zs) (hne:g≠b):EOwn (w.setCell ⟨g,o,none⟩ x) v b zs:=by
 obtain⟨a,cap,h1,h2,h3,h4⟩:=h
 refine⟨a,cap,h1,h2,h3,fun h0=>?_⟩
 obtain⟨off,e,hr,hN⟩:=h4 h0
 refine⟨off,e,⟨by simpa using hr.1,fun j hj=>?_⟩,ses_other hN hne⟩
 exact m86z
theorem mown_other {w:World} {v:Value} {b g o:Nat} {zs:List Mk} {x:Value} (h:MOwn w v b zs) (hne:g≠b):MOwn (w.setCell ⟨g,o,none⟩ x) v b zs:=by
 obtain⟨a,cap,h1,h2,h3,h4⟩:=h
 refine⟨a,cap,h1,h2,h3,fun h0=>?_⟩
 obtain⟨off,e,hr,hN⟩:=h4 h0
 refine⟨off,e,⟨by simpa using hr.1,fun j hj=>?_⟩,marks_other hN hne⟩
 exact m86z
/-- The three slices hold the state, each in a block of its own, all of them new. -/
def SOwn (w w' : World) (vn vs vm:Value) (s:Stt):Prop:=∃ g1 g2 g3,w.heap.size≤g1∧(0 < s.nodes.length→g1 < g2)∧g1≤g2∧g2 < g3∧Own w' vn g1 s.nodes∧EOwn w' vs g2 s.ses∧MOwn w' vm g3 s.marks
theorem SOwn.slice {w w' : World} {vn vs vm:Value} {s:Stt} (h:SOwn w w' vn vs vm s):SSlice w' vn vs vm s:=by
 obtain⟨g1,g2,g3,-,-,-,-,h1,h2,h3⟩:=h
 exact⟨h1.slice,h2.slice,h3.slice⟩
set_option maxHeartbeats 2000000 in
set_option maxRecDepth 100000 in
theorem toState_own (s:Stt) (vn vs vm:Value) (w:World) (hS:SSlice w vn vs vm s) (hl:s.small) :
  Calls Tryz.prog 14 #[sagg vn vs s.now vm] w fun e w'=>∃ an cn ae cs am cm,e = .returned (sagg (.slice an s.nodes.length cn) (.slice ae s.ses.length cs) s.now (.slice am s.marks.length cm))∧SOwn w w' (.slice an s.nodes.length cn) (.slice ae s.ses.length cs) (.slice am s.marks.length cm) s∧Ext w w':=by
 have H1:Hid (∀ wx:World,Ext w wx→Calls Tryz.prog 54 #[vn] wx fun e w'=>∃ v',e = .returned v'∧Own w' v' wx.heap.size s.nodes∧Ext wx w'):=fun wx he=>toZnodeS_any vn s.nodes wx (hS.1.ext he) hl.1.1
 have H2:Hid (∀ wx:World,Ext w wx→Calls Tryz.prog 55 #[vs] wx fun e w'=>e = .returned (.slice (some ⟨wx.heap.size,0,none⟩) s.ses.length s.ses.length)∧ERoom w' wx.heap.size 0 s.ses.length∧SesAt w' wx.heap.size 0 s.ses∧Ext wx w'):=fun wx he=>toSessionS_at vs s.ses wx (hS.2.1.ext he) hl.2.1
 have H3:Hid (∀ wx:World,Ext w wx→Calls Tryz.prog 56 #[vm] wx fun e w'=>e = .returned (.slice (some ⟨wx.heap.size,0,none⟩) s.marks.length s.marks.length)∧MRoom w' wx.heap.size 0 s.marks.length∧MksAt w' wx.heap.size 0 s.marks∧Ext wx w'):=fun wx he=>toMarkS_at vm s.marks wx (hS.2.2.ext he) hl.2.2.1
 have HL2:Hid (s.ses.length≤maxLen):=Nat.le_trans hl.2.1 (by unfold maxLen;omega)
 have HL3:Hid (s.marks.length≤maxLen):=Nat.le_trans hl.2.2.1 (by unfold maxLen;omega)
 obtain⟨⟨an,cn,rfl,-⟩,⟨ae,cs,rfl,-⟩,⟨am,cm,rfl,-⟩⟩:=hS
 clear hl
 unfold sagg
 go_enter Tryz.func14,Tryz.ntmps14
 go_wp2_with fail
 refine (H1.out _ ((((Ext.refl _).alloc _).alloc _).alloc _)).mono ?_
 rintro e w1 ⟨v',rfl,hO,hb⟩
 have HE1:Hid (Ext w w1):=((((Ext.refl _).alloc _).alloc _).alloc _).trans hb
 have x0:=(sbox_new w (.slice an s.nodes.length cn) (.slice ae s.ses.length cs) (.int .i64 s.now) (.slice am s.marks.length cm) _).ext ((((Ext.refl _).alloc _).alloc _).trans hb)
 have y0:=(sbox_new (w.alloc _) (.slice none 0 0) (.slice none 0 0) (.int .i64 0) (.slice none 0 0) _).ext (((Ext.refl _).alloc _).trans hb)
 have z0:=(sbox_new ((w.alloc _).alloc _) (.slice none 0 0) (.slice none 0 0) (.int .i64 0) (.slice none 0 0) _).ext hb
 have hs1:=hb.size
 simp only [World.size_alloc] at y0 z0 hO hs1
 have XB:Hid (SBoxAt w1 w.heap.size (.slice an s.nodes.length cn) (.slice ae s.ses.length cs) (.int .i64 s.now) (.slice am s.marks.length cm)):=x0
 have YB:Hid (SBoxAt w1 (w.heap.size+1) (.slice none 0 0) (.slice none 0 0) (.int .i64 0) (.slice none 0 0)):=y0
 have ZB:Hid (SBoxAt w1 (w.heap.size+1+1) (.slice none 0 0) (.slice none 0 0) (.int .i64 0) (.slice none 0 0)):=z0
 obtain⟨ax,cx,rfl,hO'⟩:=hO
 have HO:Hid (Own w1 (.slice ax s.nodes.length cx) (w.heap.size+1+1+1) s.nodes):=⟨ax,cx,rfl,hO'⟩
 have HOl:Hid (0 < s.nodes.length→w.heap.size+1+1+1 < w1.heap.size):=fun h=>by obtain⟨off,-,hr,-⟩:=hO'.2.2 h;exact hr.1
 clear hb x0 y0 z0 hO' H1
 obtain⟨xl,⟨xc0,xc1,xc2,xc3⟩,-,-,-,-⟩:=XB.out
 obtain⟨zl,⟨zc0,zc1,zc2,zc3⟩,zf0,zf1,zf2,zf3⟩:=ZB.out
 go_wp2_with fail
 refine (H2.out _ (HE1.out.setCell (by simp;omega) _)).mono ?_
 rintro e w2 ⟨rfl,hr2,hs2,hb⟩
 have HE2:Hid (Ext w w2):=(HE1.out.setCell (by simp;omega) _).trans hb
 have XB2:Hid (SBoxAt w2 w.heap.size (.slice an s.nodes.length cn) (.slice ae s.ses.length cs) (.int .i64 s.now) (.slice am s.marks.length cm)):=(XB.out.other _ (by omega)).ext hb
 have YB2:Hid (SBoxAt w2 (w.heap.size+1) (.slice none 0 0) (.slice none 0 0) (.int .i64 0) (.slice none 0 0)):=(YB.out.other _ (by omega)).ext hb
 have ZB2:Hid (SBoxAt w2 (w.heap.size+1+1) (.slice ax s.nodes.length cx) (.slice none 0 0) (.int .i64 0) (.slice none 0 0)):=(ZB.out.set0 _).ext hb
 have HO2:Hid (Own w2 (.slice ax s.nodes.length cx) (w.heap.size+1+1+1) s.nodes):=(own_other HO.out (by omega)).ext hb
 have hs:=hb.size
 simp only [World.size_setCell] at hr2 hs2 hs ⊢
 have HP2:Hid (EOwn w2 (.slice (some ⟨w1.heap.size,0,none⟩) s.ses.length s.ses.length) w1.heap.size s.ses):=⟨_,_,rfl,Nat.le_refl _,HL2.out,fun _=>⟨0,rfl,hr2,hs2⟩⟩
 have hlt2:=hr2.1
 clear hb hr2 hs2 HO XB YB ZB HE1 H2 xl xc0 xc1 xc2 xc3 zl zc0 zc1 zc2 zc3 zf0 zf1 zf2 zf3
 obtain⟨xl,⟨xc0,xc1,xc2,xc3⟩,-,-,-,-⟩:=XB2.out
 obtain⟨zl,⟨zc0,zc1,zc2,zc3⟩,zf0,zf1,zf2,zf3⟩:=ZB2.out
 go_wp2_with fail
 refine (H3.out _ ((HE2.out.setCell (by simp;omega) _).setCell (by simp;omega) _)).mono ?_
 rintro e w3 ⟨rfl,hr3,hs3,hb⟩
 have HE3:Hid (Ext w w3):=((HE2.out.setCell (by simp;omega) _).setCell (by simp;omega) _).trans hb
 have YB3:Hid (SBoxAt w3 (w.heap.size+1) (.slice none 0 0) (.slice none 0 0) (.int .i64 0) (.slice none 0 0)):=((YB2.out.other _ (by omega)).other _ (by omega)).ext hb
 have ZB3:Hid (SBoxAt w3 (w.heap.size+1+1) (.slice ax s.nodes.length cx) (.slice (some ⟨w1.heap.size,0,none⟩) s.ses.length s.ses.length) (.int .i64 s.now) (.slice none 0 0)):=((ZB2.out.set1 _).set2 _).ext hb
 have HO3:Hid (Own w3 (.slice ax s.nodes.length cx) (w.heap.size+1+1+1) s.nodes):=(own_other (own_other HO2.out (by omega)) (by omega)).ext hb
 have HP3:Hid (EOwn w3 (.slice (some ⟨w1.heap.size,0,none⟩) s.ses.length s.ses.length) w1.heap.size s.ses):=(eown_other (eown_other HP2.out (by omega)) (by omega)).ext hb
 simp only [World.size_setCell] at hr3 hs3 ⊢
 have HQ3:Hid (MOwn w3 (.slice (some ⟨w2.heap.size,0,none⟩) s.marks.length s.marks.length) w2.heap.size s.marks):=⟨_,_,rfl,Nat.le_refl _,HL3.out,fun _=>⟨0,rfl,hr3,hs3⟩⟩
 clear hb hr3 hs3 HO2 HP2 XB2 YB2 ZB2 HE2 H3 xl xc0 xc1 xc2 xc3 zl zc0 zc1 zc2 zc3 zf0 zf1 zf2 zf3
 obtain⟨yl,⟨yc0,yc1,yc2,yc3⟩,yf0,yf1,yf2,yf3⟩:=YB3.out
 obtain⟨zl,⟨zc0,zc1,zc2,zc3⟩,zf0,zf1,zf2,zf3⟩:=ZB3.out
 go_wp2
 refine bodyPost_ret (v:=sagg (.slice ax s.nodes.length cx) (.slice (some ⟨w1.heap.size,0,none⟩) s.ses.length s.ses.length) s.now (.slice (some ⟨w2.heap.size,0,none⟩) s.marks.length s.marks.length)) (by simp [results,Tryz.results14,go_sem,sagg, *]) rfl ⟨_,_,_,_,_,_,rfl,⟨w.heap.size+1+1+1,w1.heap.size,w2.heap.size,by omega,HOl.out,by omega,by omega,?_,?_,?_⟩,?_⟩
 ·exact own_other (own_other (own_other (own_other (own_other HO3.out (by omega)) (by omega)) (by omega)) (by omega)) (by omega)
 ·exact eown_other (eown_other (eown_other (eown_other (eown_other HP3.out (by omega)) (by omega)) (by omega)) (by omega)) (by omega)
 ·exact mown_other (mown_other (mown_other (mown_other (mown_other HQ3.out (by omega)) (by omega)) (by omega)) (by omega)) (by omega)
 ·exact ((((HE3.out.setCell (by simp;omega) _).setCell (by simp) _).setCell (by simp) _).setCell (by simp) _).setCell (by simp) _
end Go.Proofs.YtpdejinkmnhioaaGreatDoor
