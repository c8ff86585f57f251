/- Z1, M1, in one text. -/
import Derived.Test.YtpdejinkmnhioaaGreatDoorProg
import Derived.Test.YtpdejinkmnhioaaGreatDoorAoJ0
import Derived.Deep.RegionWith
import Derived.Laws.MakeOwn
import Derived.Test.YtpdejinkmnhioaaGreatDoorAoMk
namespace Go.Proofs.YtpdejinkmnhioaaGreatDoor
open Go.RowKit
structure Zn where
 path:ByteArray
 data:Int
 version:Int
 owner:Int
 next:Int
 deriving DecidableEq
def zagg (z:Zn):Value:=.agg #[.string z.path,.int .i64 z.data,.int .i64 z.version,.int .i64 z.owner,.int .i64 z.next]
set_option maxHeartbeats 1000000 in
theorem toZnode_any (z:Zn) (w:World):Calls Tryz.prog 122 #[zagg z] w fun e w'=>e = .returned (zagg z)∧Ext w w':=by
 unfold zagg
 go_enter Tryz.func122,Tryz.ntmps122
 go_wp2
 exact bodyPost_ret (v:=zagg z) (by simp [results,Tryz.results122,go_sem,zagg]) rfl ⟨rfl,(((Ext.refl _).alloc _).alloc _).alloc _⟩
set_option maxHeartbeats 1000000 in
theorem szZnode_any (z:Zn) (n:Int) (w:World) (h0:0≤n) (h1:n≤1048576) (hz:z.path.size≤maxLen) :
  Calls Tryz.prog 99 #[zagg z,.int .i64 n] w fun e w'=>e = .returned (.int .i64 (if n < z.path.size then -1 else n - z.path.size))∧Ext w w':=by
 unfold maxLen at hz
 unfold zagg
 by_cases h:n < z.path.size
 ·rw [if_pos h]
  go_enter Tryz.func99,Tryz.ntmps99
  go_wp2
  go_ret
  exact⟨rfl,(Ext.refl _).alloc _⟩
 ·rw [if_neg h]
  go_enter Tryz.func99,Tryz.ntmps99
  go_wp2
  go_ret
  exact⟨rfl,(Ext.refl _).alloc _⟩
set_option maxHeartbeats 1000000 in
theorem eqZnode_same (z:Zn) (w:World):Calls Tryz.prog 136 #[zagg z,zagg z] w fun e w'=>e = .returned (.bool true)∧Ext w w':=by
 unfold zagg
 go_enter Tryz.func136,Tryz.ntmps136
 go_wp2
 go_ret
 exact⟨rfl,((Ext.refl _).alloc _).alloc _⟩
/-- The nodes zs lie in block b, from off on. -/
def NodesAt (w:World) (b off:Nat) (zs:List Zn):Prop :=
 ∀ (i:Nat) z,zs[i]?=some z→w.cell? ⟨b,off+i * 5,none⟩=some (.string z.path)∧w.cell? ⟨b,off+i * 5+1,none⟩=some (.int .i64 z.data)∧w.cell? ⟨b,off+i * 5+2,none⟩=some (.int .i64 z.version)∧w.cell? ⟨b,off+i * 5+3,none⟩=some (.int .i64 z.owner)∧w.cell? ⟨b,off+i * 5+4,none⟩=some (.int .i64 z.next)
theorem NodesAt.ext {w w' : World} {b off:Nat} {zs:List Zn} (h:NodesAt w b off zs) (hb:b < w.heap.size) (he:Ext w w'):NodesAt w' b off zs:=by
 intro i z hz
 obtain⟨c0,c1,c2,c3,c4⟩:=h i z hz
 exact m95z
/-- The slice value v reads as the nodes zs. -/
def NSlice (w:World) (v:Value) (zs:List Zn):Prop :=
 ∃ a cap,v = .slice a zs.length cap∧zs.length≤cap∧cap≤maxLen∧(0 < zs.length→∃ b off,a=some ⟨b,off,none⟩∧b < w.heap.size∧NodesAt w b off zs)
theorem NSlice.ext {w w' : World} {v:Value} {zs:List Zn} (h:NSlice w v zs) (he:Ext w w'):NSlice w' v zs:=by
 exact m16z
set_option maxHeartbeats 1000000 in
set_option maxRecDepth 100000 in
theorem szZnodeS_le (v:Value) (zs:List Zn) (n:Int) (w:World) (h0:0≤n) (h1:n≤1048576) (hS:NSlice w v zs) (hz:∀ z ∈ zs,z.path.size≤maxLen) :
  Calls Tryz.prog 46 #[v,.int .i64 n] w fun e w'=>∃ r:Int,e = .returned (.int .i64 r)∧r≤1048576∧(0≤r→zs.length≤1048576∧∀ z ∈ zs,z.path.size≤1048576)∧Ext w w':=by
 obtain⟨a,cap,rfl,hlc,hcm,hx⟩:=hS
 refine n26z ?_
 intro HX
 clear hx
 have HM:Hid (∀ z ∈ zs,z.path.size≤maxLen):=hz
 clear hz
 unfold maxLen at hcm
 by_cases hn:n < zs.length
 ·go_enter Tryz.func46,Tryz.ntmps46
  go_wp2
  go_ret
  exact⟨_,rfl,by omega,fun h=>by omega,Ext.refl _⟩
 ·go_enter Tryz.func46,Tryz.ntmps46
  go_wp2
  go_loopw [1,5] (fun lv i wr=>∃ (k:Nat) (m:Int),k≤zs.length∧i = .int .i64 k∧lv = .int .i64 m∧0≤m∧m≤1048576∧Hid (∀ (j:Nat) z,j < k→zs[j]?=some z→z.path.size≤1048576)∧Hid (Ext w wr)) (fun _ i _=>zs.length - (intOf i).toNat)
  case atStart=>exact⟨0,_,Nat.zero_le _,rfl,rfl,by omega,by omega,fun j z h=>by omega,Ext.refl _⟩
  case round =>
   obtain⟨k,m,hk,rfl,rfl,hm0,hm1,HA,HE⟩:=hrel
   by_cases hlt:k < zs.length
   ·obtain⟨z,hzk⟩:∃ z,zs[k]?=some z:=⟨_,List.getElem?_eq_getElem hlt⟩
    obtain⟨b,off,rfl,hb,hN⟩:=HX.out (by omega)
    obtain⟨d0,d1,d2,d3,d4⟩:=hN.ext hb HE.out k z hzk
    have hzm:z.path.size≤maxLen:=HM.out z (List.mem_of_getElem? hzk)
    have HZ:Hid (zs[k]?=some z):=hzk
    clear hzk hN
    have hsz:=szZnode_any z m wr hm0 hm1 hzm
    unfold zagg at hsz
    by_cases hpz:m < z.path.size
    ·rw [if_pos hpz] at hsz
     go_wp2_with fail
     refine hsz.mono ?_
     rintro e w2 ⟨rfl,hb2⟩
     have HE2:Hid (Ext w w2):=HE.out.trans hb2
     clear hb2 hsz
     go_wp2
     go_ret
     exact⟨_,rfl,by omega,fun h=>by omega,HE2.out⟩
    ·exact m34z
   ·go_wp2
    go_ret
    exact⟨m,rfl,hm1,fun _=>⟨by omega,fun z hz=>by
     obtain⟨j,hj⟩:=List.getElem?_of_mem hz
     exact HA.out j z (by have:=(List.getElem?_eq_some_iff.1 hj).1;omega) hj⟩,HE.out⟩
set_option maxHeartbeats 1000000 in
set_option maxRecDepth 100000 in
theorem eqZnodeS_same (v v' : Value) (zs:List Zn) (w:World) (hS:NSlice w v zs) (hS' : NSlice w v' zs) :
  Calls Tryz.prog 63 #[v,v'] w fun e w'=>e = .returned (.bool true)∧Ext w w':=by
 obtain⟨a,cap,rfl,hlc,hcm,hx⟩:=hS
 obtain⟨a',cap',rfl,hlc',hcm',hx'⟩:=hS'
 refine n26z ?_
 intro HX
 have HX' : Hid (0 < zs.length→∃ b off,a'=some ⟨b,off,none⟩∧b < w.heap.size∧NodesAt w b off zs):=hx'
 clear hx hx'
 unfold maxLen at hcm
 go_enter Tryz.func63,Tryz.ntmps63
 go_wp2
 go_loopw [5] (fun i wr=>∃ (k:Nat),k≤zs.length∧i = .int .i64 k∧Hid (Ext w wr)) (fun i _=>zs.length - (intOf i).toNat)
 case atStart=>exact⟨0,Nat.zero_le _,rfl,Ext.refl _⟩
 case round =>
  obtain⟨k,hk,rfl,HE⟩:=hrel
  by_cases hlt:k < zs.length
  ·obtain⟨z,hzk⟩:∃ z,zs[k]?=some z:=⟨_,List.getElem?_eq_getElem hlt⟩
   obtain⟨b,off,rfl,hb,hN⟩:=HX.out (by omega)
   obtain⟨b',off',rfl,hb',hN'⟩:=HX'.out (by omega)
   obtain⟨d0,d1,d2,d3,d4⟩:=hN.ext hb HE.out k z hzk
   obtain⟨e0,e1,e2,e3,e4⟩:=hN'.ext hb' HE.out k z hzk
   clear hzk hN hN'
   have HQ:Hid (∀ wx:World,Calls Tryz.prog 136 #[zagg z,zagg z] wx fun e w'=>e = .returned (.bool true)∧Ext wx w'):=eqZnode_same z
   go_wp2
   go_region_with (go_at_call 136;refine (HQ.out _).mono ?_;rintro e w2 ⟨rfl,hb2⟩)
   all_goals exact m60z
  ·go_wp2
   go_ret
   exact⟨rfl,HE.out⟩
/-! ### Nodes that are stored -/
/-- Block g holds room for n nodes from off on, and may be written there. -/
def Room (w:World) (g off n:Nat):Prop:=g < w.heap.size∧∀ j,j < n * 5→(∃ u,w.cell? ⟨g,off+j,none⟩=some u)∧w.frozen? ⟨g,off+j,none⟩=false
def putZ (w:World) (g o:Nat) (z:Zn):World :=
 ((((w.setCell ⟨g,o,none⟩ (.string z.path)).setCell ⟨g,o+1,none⟩ (.int .i64 z.data)).setCell ⟨g,o+2,none⟩ (.int .i64 z.version)).setCell ⟨g,o+3,none⟩ (.int .i64 z.owner)).setCell ⟨g,o+4,none⟩ (.int .i64 z.next)
theorem set_ne (w:World) (g o b k:Nat) (v:Value) (h:g≠b∨o≠k):(w.setCell ⟨g,o,none⟩ v).cell? ⟨b,k,none⟩=w.cell? ⟨b,k,none⟩ :=
 World.cell?_setCell_other _ _ _ _ (by intro e;injection e with e1 e2 _;rcases h with h | h;exact h e1;exact h e2)
theorem set_eq (w:World) (g o:Nat) (v:Value) (h:∃ u,w.cell? ⟨g,o,none⟩=some u):(w.setCell ⟨g,o,none⟩ v).cell? ⟨g,o,none⟩=some v:=by
 obtain⟨u,hu⟩:=h;exact World.cell?_setCell_same _ _ _ hu
theorem putZ_ne (w:World) (g o b k:Nat) (z:Zn) (h:g≠b∨k < o∨o+5≤k):(putZ w g o z).cell? ⟨b,k,none⟩=w.cell? ⟨b,k,none⟩:=by
 unfold putZ
 rw [set_ne _ _ _ _ _ _ (by omega),set_ne _ _ _ _ _ _ (by omega),set_ne _ _ _ _ _ _ (by omega),set_ne _ _ _ _ _ _ (by omega),set_ne _ _ _ _ _ _ (by omega)]
theorem putZ_eq (w:World) (g o:Nat) (z:Zn) (h:∀ j,j < 5→∃ u,w.cell? ⟨g,o+j,none⟩=some u) :
  (putZ w g o z).cell? ⟨g,o,none⟩=some (.string z.path)∧(putZ w g o z).cell? ⟨g,o+1,none⟩=some (.int .i64 z.data)∧(putZ w g o z).cell? ⟨g,o+2,none⟩=some (.int .i64 z.version)∧(putZ w g o z).cell? ⟨g,o+3,none⟩=some (.int .i64 z.owner)∧(putZ w g o z).cell? ⟨g,o+4,none⟩=some (.int .i64 z.next):=by
 unfold putZ
 refine⟨?_,?_,?_,?_,?_⟩
 ·rw [set_ne _ _ _ _ _ _ (by omega),set_ne _ _ _ _ _ _ (by omega),set_ne _ _ _ _ _ _ (by omega),set_ne _ _ _ _ _ _ (by omega)];exact set_eq _ _ _ _ (h 0 (by omega))
 ·rw [set_ne _ _ _ _ _ _ (by omega),set_ne _ _ _ _ _ _ (by omega),set_ne _ _ _ _ _ _ (by omega)];apply set_eq;rw [set_ne _ _ _ _ _ _ (by omega)];exact h 1 (by omega)
 ·rw [set_ne _ _ _ _ _ _ (by omega),set_ne _ _ _ _ _ _ (by omega)];apply set_eq;rw [set_ne _ _ _ _ _ _ (by omega),set_ne _ _ _ _ _ _ (by omega)];exact h 2 (by omega)
 ·rw [set_ne _ _ _ _ _ _ (by omega)];apply set_eq;rw [set_ne _ _ _ _ _ _ (by omega),set_ne _ _ _ _ _ _ (by omega),set_ne _ _ _ _ _ _ (by omega)];exact h 3 (by omega)
 ·apply set_eq;rw [set_ne _ _ _ _ _ _ (by omega),set_ne _ _ _ _ _ _ (by omega),set_ne _ _ _ _ _ _ (by omega),set_ne _ _ _ _ _ _ (by omega)];exact h 4 (by omega)
theorem putZ_size (w:World) (g o:Nat) (z:Zn):(putZ w g o z).heap.size=w.heap.size:=by simp [putZ]
theorem putZ_frozen (w:World) (g o:Nat) (z:Zn) (a:Addr):(putZ w g o z).frozen? a=w.frozen? a:=by simp [putZ]
theorem Room.put {w:World} {g off n k:Nat} (h:Room w g off n) (z:Zn) (hk:k < n):Room (putZ w g (off+k * 5) z) g off n:=by
 refine⟨by rw [putZ_size];exact h.1,fun j hj=>⟨?_,by rw [putZ_frozen];exact (h.2 j hj).2⟩⟩
 obtain⟨q0,q1,q2,q3,q4⟩:=putZ_eq w g (off+k * 5) z (fun i hi=>by rw [Nat.add_assoc];exact (h.2 (k * 5+i) (by omega)).1)
 by_cases hh:off+j < off+k * 5∨off+k * 5+5≤off+j
 ·rw [putZ_ne _ _ _ _ _ _ (Or.inr hh)];exact (h.2 j hj).1
 ·have hj5:j=k * 5∨j=k * 5+1∨j=k * 5+2∨j=k * 5+3∨j=k * 5+4:=by omega
  rcases hj5 with e | e | e | e | e <;> subst e
  ·exact⟨_,q0⟩
  ·exact⟨_,q1⟩
  ·exact⟨_,q2⟩
  ·exact⟨_,q3⟩
  ·exact⟨_,q4⟩
theorem Room.ext {w w' : World} {g off n:Nat} (h:Room w g off n) (he:Ext w w'):Room w' g off n:=by
 exact m18z
theorem Room.upd {w w' : World} {g off n b:Nat} (h:Room w g off n) (he:Upd b w w') (hne:g≠b):Room w' g off n :=
 ⟨Nat.lt_of_lt_of_le h.1 he.2.1,fun j hj=>⟨by rw [(he.at_ne _ _ hne h.1).1];exact (h.2 j hj).1,by rw [(he.at_ne _ _ hne h.1).2];exact (h.2 j hj).2⟩⟩
theorem NodesAt.upd {w w' : World} {g off b:Nat} {zs:List Zn} (h:NodesAt w g off zs) (he:Upd b w w') (hne:g≠b) (hg:g < w.heap.size):NodesAt w' g off zs:=by
 exact m65z
theorem NodesAt.put {w:World} {g off n k:Nat} {zs:List Zn} {z:Zn} (hr:Room w g off n) (hk:k < n) (hz:zs[k]?=some z) (h:NodesAt w g off (zs.take k)):NodesAt (putZ w g (off+k * 5) z) g off (zs.take (k+1)):=by
 intro i z' hi
 rw [List.getElem?_take] at hi
 split at hi
 ·rename_i hlt
  by_cases hik:i=k
  ·subst hik
   rw [hz] at hi
   cases hi
   exact putZ_eq w g (off+i * 5) z (fun j hj=>by rw [Nat.add_assoc];exact (hr.2 (i * 5+j) (by omega)).1)
  ·obtain⟨c0,c1,c2,c3,c4⟩:=h i z' (by rw [List.getElem?_take,if_pos (by omega)];exact hi)
   refine⟨?_,?_,?_,?_,?_⟩
   ·rw [putZ_ne _ _ _ _ _ _ (by omega)];exact c0
   ·rw [putZ_ne _ _ _ _ _ _ (by omega)];exact c1
   ·rw [putZ_ne _ _ _ _ _ _ (by omega)];exact c2
   ·rw [putZ_ne _ _ _ _ _ _ (by omega)];exact c3
   ·rw [putZ_ne _ _ _ _ _ _ (by omega)];exact c4
 ·cases hi
theorem ext_putZ {w w' : World} (h:Ext w w') (g o:Nat) (hg:w.heap.size≤g) (z:Zn):Ext w (putZ w' g o z) :=
 ((((h.setCell (p:=⟨g,o,none⟩) hg _).setCell (p:=⟨g,o+1,none⟩) hg _).setCell (p:=⟨g,o+2,none⟩) hg _).setCell (p:=⟨g,o+3,none⟩) hg _).setCell (p:=⟨g,o+4,none⟩) hg _
theorem upd_putZ {w w' : World} {g:Nat} (h:Upd g w w') (o:Nat) (z:Zn):Upd g w (putZ w' g o z) :=
 ((((h.setAt o _).setAt (o+1) _).setAt (o+2) _).setAt (o+3) _).setAt (o+4) _
/-- The slice value v reads as the nodes zs, which lie in block g and may be written there. -/
def Own (w:World) (v:Value) (g:Nat) (zs:List Zn):Prop :=
 ∃ a cap,v = .slice a zs.length cap∧zs.length≤cap∧cap≤maxLen∧(0 < zs.length→∃ off,a=some ⟨g,off,none⟩∧Room w g off zs.length∧NodesAt w g off zs)
theorem Own.slice {w:World} {v:Value} {g:Nat} {zs:List Zn} (h:Own w v g zs):NSlice w v zs:=by
 exact m28z
theorem Own.ext {w w' : World} {v:Value} {g:Nat} {zs:List Zn} (h:Own w v g zs) (he:Ext w w'):Own w' v g zs:=by
 exact m25z
theorem Own.upd {w w' : World} {v:Value} {g b:Nat} {zs:List Zn} (h:Own w v g zs) (he:Upd b w w') (hne:g≠b):Own w' v g zs:=by
 obtain⟨a,cap,h1,h2,h3,h4⟩:=h
 refine⟨a,cap,h1,h2,h3,fun h0=>?_⟩
 obtain⟨off,e,hr,hN⟩:=h4 h0
 exact⟨off,e,hr.upd he hne,hN.upd he hne hr.1⟩
end Go.Proofs.YtpdejinkmnhioaaGreatDoor
namespace Go.Proofs.YtpdejinkmnhioaaGreatDoor
open Go.RowKit
structure Mk where
 client:Int
 number:Int
 code:Int
 value:Int
 path:ByteArray
 deriving DecidableEq
instance:Inhabited Mk:=⟨⟨0,0,0,0,ByteArray.empty⟩⟩
def magg (z:Mk):Value:=.agg #[.int .i64 z.client,.int .i64 z.number,.int .i64 z.code,.int .i64 z.value,.string z.path]
/-- What was replied: code, value, path. -/
def yagg (c n:Int) (p:ByteArray):Value:=.agg #[.int .i64 c,.int .i64 n,.string p]
set_option maxHeartbeats 1000000 in
theorem toReply_any (c n:Int) (p:ByteArray) (w:World):Calls Tryz.prog 184 #[yagg c n p] w fun e w'=>e = .returned (yagg c n p)∧Ext w w':=by
 unfold yagg
 go_enter Tryz.func184,Tryz.ntmps184
 go_wp2
 exact bodyPost_ret (v:=yagg c n p) (by simp [results,Tryz.results184,go_sem,yagg]) rfl ⟨rfl,(((Ext.refl _).alloc _).alloc _).alloc _⟩
set_option maxHeartbeats 1000000 in
theorem szReply_any (c m:Int) (p:ByteArray) (n:Int) (w:World) (h0:0≤n) (h1:n≤1048576) (hz:p.size≤maxLen) :
  Calls Tryz.prog 170 #[yagg c m p,.int .i64 n] w fun e w'=>e = .returned (.int .i64 (if n < p.size then -1 else n - p.size))∧Ext w w':=by
 unfold maxLen at hz
 unfold yagg
 by_cases h:n < p.size
 ·rw [if_pos h]
  go_enter Tryz.func170,Tryz.ntmps170
  go_wp2
  go_ret
  exact⟨rfl,(Ext.refl _).alloc _⟩
 ·rw [if_neg h]
  go_enter Tryz.func170,Tryz.ntmps170
  go_wp2
  go_ret
  exact⟨rfl,(Ext.refl _).alloc _⟩
set_option maxHeartbeats 1000000 in
theorem eqReply_same (c n:Int) (p:ByteArray) (w:World):Calls Tryz.prog 62 #[yagg c n p,yagg c n p] w fun e w'=>e = .returned (.bool true)∧Ext w w':=by
 unfold yagg
 go_enter Tryz.func62,Tryz.ntmps62
 go_wp2
 go_ret
 exact⟨rfl,((Ext.refl _).alloc _).alloc _⟩
/-- A mark in a box of its own. -/
def MBoxAt (w:World) (b:Nat) (z:Mk):Prop:=b < w.heap.size∧(w.cell? ⟨b,0,none⟩=some (.int .i64 z.client)∧w.cell? ⟨b,1,none⟩=some (.int .i64 z.number)∧w.cell? ⟨b,2,none⟩=some (.int .i64 z.code)∧w.cell? ⟨b,3,none⟩=some (.int .i64 z.value)∧w.cell? ⟨b,4,none⟩=some (.string z.path))∧w.frozen? ⟨b,0,none⟩=false∧w.frozen? ⟨b,1,none⟩=false∧w.frozen? ⟨b,2,none⟩=false∧w.frozen? ⟨b,3,none⟩=false∧w.frozen? ⟨b,4,none⟩=false
theorem MBoxAt.ext {w w' : World} {b:Nat} {z:Mk} (h:MBoxAt w b z) (he:Ext w w'):MBoxAt w' b z:=by
 obtain⟨hc,hf⟩:=Ext.cell he
 obtain⟨hb,⟨c0,c1,c2,c3,c4⟩,f0,f1,f2,f3,f4⟩:=h
 exact⟨Nat.lt_of_lt_of_le hb he.size,⟨(hc _ _ hb).trans c0,(hc _ _ hb).trans c1,(hc _ _ hb).trans c2,(hc _ _ hb).trans c3,(hc _ _ hb).trans c4⟩,(hf _ _ hb).trans f0,(hf _ _ hb).trans f1,(hf _ _ hb).trans f2,(hf _ _ hb).trans f3,(hf _ _ hb).trans f4⟩
theorem mbox_new (w:World) (z:Mk) (t:TypeId):MBoxAt (w.alloc (.cells #[.int .i64 z.client,.int .i64 z.number,.int .i64 z.code,.int .i64 z.value,.string z.path] t)) w.heap.size z:=⟨by simp,⟨by simp,by simp,by simp,by simp,by simp⟩,by simp,by simp,by simp,by simp,by simp⟩
set_option maxHeartbeats 1000000 in
set_option maxRecDepth 100000 in
theorem toMark_any (z:Mk) (w:World):Calls Tryz.prog 124 #[magg z] w fun e w'=>e = .returned (magg z)∧Ext w w':=by
 have HC:Hid (∀ wx:World,Calls Tryz.prog 184 #[.agg #[.int .i64 z.code,.int .i64 z.value,.string z.path]] wx fun e w'=>e = .returned (.agg #[.int .i64 z.code,.int .i64 z.value,.string z.path])∧Ext wx w'):=fun wx=>toReply_any z.code z.value z.path wx
 unfold magg
 go_enter Tryz.func124,Tryz.ntmps124
 go_wp2_with fail
 refine (HC.out _).mono ?_
 rintro e w1 ⟨rfl,hb⟩
 have HB:Hid (Ext w w1):=((((Ext.refl _).alloc _).alloc _).alloc _).trans hb
 obtain⟨q,⟨q0,q1,q2,q3,q4⟩,q5,q6,q7,q8,q9⟩:=(mbox_new _ ⟨z.client,z.number,0,0,ByteArray.empty⟩ _).ext hb
 obtain⟨p,⟨p0,p1,p2,p3,p4⟩,p5,p6,p7,p8,p9⟩:=(mbox_new (w.alloc _) ⟨0,0,0,0,ByteArray.empty⟩ _).ext (((Ext.refl _).alloc _).trans hb)
 simp only [World.size_alloc] at q q0 q1 q2 q3 q4 q5 q6 q7 q8 q9 p p0 p1 p2 p3 p4 p5 p6 p7 p8 p9
 clear hb
 go_wp2
 refine bodyPost_ret (v:=magg z) (by simp [results,Tryz.results124,go_sem,magg, *]) rfl ⟨rfl,?_⟩
 exact (((((((HB.out.setCell (by simp;omega) _).setCell (by simp;omega) _).setCell (by simp;omega) _).setCell (by simp) _).setCell (by simp) _).setCell (by simp) _).setCell (by simp) _).setCell (by simp) _
set_option maxHeartbeats 1000000 in
theorem szMark_any (z:Mk) (n:Int) (w:World) (h0:0≤n) (h1:n≤1048576) (hz:z.path.size≤maxLen) :
  Calls Tryz.prog 100 #[magg z,.int .i64 n] w fun e w'=>e = .returned (.int .i64 (if n < z.path.size then -1 else n - z.path.size))∧Ext w w':=by
 have HC:Hid (∀ wx:World,Calls Tryz.prog 170 #[.agg #[.int .i64 z.code,.int .i64 z.value,.string z.path],.int .i64 n] wx fun e w'=>e = .returned (.int .i64 (if n < z.path.size then -1 else n - z.path.size))∧Ext wx w'):=fun wx=>szReply_any z.code z.value z.path n wx h0 h1 hz
 unfold maxLen at hz
 unfold magg
 by_cases h:n < z.path.size
 ·rw [if_pos h] at *
  exact m66z
 ·rw [if_neg h] at *
  exact m66z
set_option maxHeartbeats 1000000 in
theorem eqMark_same (z:Mk) (w:World):Calls Tryz.prog 138 #[magg z,magg z] w fun e w'=>e = .returned (.bool true)∧Ext w w':=by
 have HC:Hid (∀ wx:World,Calls Tryz.prog 62 #[.agg #[.int .i64 z.code,.int .i64 z.value,.string z.path],.agg #[.int .i64 z.code,.int .i64 z.value,.string z.path]] wx fun e w'=>e = .returned (.bool true)∧Ext wx w'):=fun wx=>eqReply_same z.code z.value z.path wx
 unfold magg
 go_enter Tryz.func138,Tryz.ntmps138
 go_wp2_with fail
 refine (HC.out _).mono ?_
 rintro e w1 ⟨rfl,hb⟩
 have HB:Hid (Ext w w1):=(((Ext.refl _).alloc _).alloc _).trans hb
 clear hb
 go_wp2
 go_ret
 exact⟨rfl,HB.out⟩
/-- The mark z lies in block b from o on. -/
def MAt (w:World) (b o:Nat) (z:Mk):Prop:=w.cell? ⟨b,o,none⟩=some (.int .i64 z.client)∧w.cell? ⟨b,o+1,none⟩=some (.int .i64 z.number)∧w.cell? ⟨b,o+2,none⟩=some (.int .i64 z.code)∧w.cell? ⟨b,o+3,none⟩=some (.int .i64 z.value)∧w.cell? ⟨b,o+4,none⟩=some (.string z.path)
theorem MAt.ext {w w' : World} {b o:Nat} {z:Mk} (h:MAt w b o z) (hb:b < w.heap.size) (he:Ext w w'):MAt w' b o z:=by
 obtain⟨c0,c1,c2,c3,c4⟩:=h
 exact m95z
/-- The marks zs lie in block b, from off on. -/
def MksAt (w:World) (b off:Nat) (zs:List Mk):Prop:=∀ (i:Nat) z,zs[i]?=some z→MAt w b (off+i * 5) z
theorem MksAt.ext {w w' : World} {b off:Nat} {zs:List Mk} (h:MksAt w b off zs) (hb:b < w.heap.size) (he:Ext w w'):MksAt w' b off zs :=
 fun i z hz=>(h i z hz).ext hb he
/-- The slice value v reads as the marks zs. -/
def MSlice (w:World) (v:Value) (zs:List Mk):Prop :=
 ∃ a cap,v = .slice a zs.length cap∧zs.length≤cap∧cap≤maxLen∧(0 < zs.length→∃ b off,a=some ⟨b,off,none⟩∧b < w.heap.size∧MksAt w b off zs)
theorem MSlice.ext {w w' : World} {v:Value} {zs:List Mk} (h:MSlice w v zs) (he:Ext w w'):MSlice w' v zs:=by
 exact m16z
set_option maxHeartbeats 1000000 in
set_option maxRecDepth 100000 in
theorem szMarkS_le (v:Value) (zs:List Mk) (n:Int) (w:World) (h0:0≤n) (h1:n≤1048576) (hS:MSlice w v zs) (hz:∀ z ∈ zs,z.path.size≤maxLen) :
  Calls Tryz.prog 48 #[v,.int .i64 n] w fun e w'=>∃ r:Int,e = .returned (.int .i64 r)∧-1≤r∧r≤1048576∧(0≤r→zs.length≤1048576∧∀ z ∈ zs,z.path.size≤1048576)∧Ext w w':=by
 obtain⟨a,cap,rfl,hlc,hcm,hx⟩:=hS
 refine n77z ?_
 intro HX
 clear hx
 have HM:Hid (∀ z ∈ zs,z.path.size≤maxLen):=hz
 clear hz
 unfold maxLen at hcm
 by_cases hn:n < zs.length
 ·go_enter Tryz.func48,Tryz.ntmps48
  go_wp2
  go_ret
  exact⟨_,rfl,by omega,by omega,fun h=>by omega,Ext.refl _⟩
 ·go_enter Tryz.func48,Tryz.ntmps48
  go_wp2
  go_loopw [1,5] (fun lv i wr=>∃ (k:Nat) (m:Int),k≤zs.length∧i = .int .i64 k∧lv = .int .i64 m∧0≤m∧m≤1048576∧Hid (∀ (j:Nat) z,j < k→zs[j]?=some z→z.path.size≤1048576)∧Hid (Ext w wr)) (fun _ i _=>zs.length - (intOf i).toNat)
  case atStart=>exact⟨0,_,Nat.zero_le _,rfl,rfl,by omega,by omega,fun j z h=>by omega,Ext.refl _⟩
  case round =>
   obtain⟨k,m,hk,rfl,rfl,hm0,hm1,HA,HE⟩:=hrel
   by_cases hlt:k < zs.length
   ·obtain⟨z,hzk⟩:∃ z,zs[k]?=some z:=⟨_,List.getElem?_eq_getElem hlt⟩
    obtain⟨b,off,rfl,hb,hN⟩:=HX.out (by omega)
    obtain⟨d0,d1,d2,d3,d4⟩:=hN.ext hb HE.out k z hzk
    have hzm:z.path.size≤maxLen:=HM.out z (List.mem_of_getElem? hzk)
    have HZ:Hid (zs[k]?=some z):=hzk
    clear hzk hN
    have hsz:=szMark_any z m wr hm0 hm1 hzm
    unfold magg at hsz
    by_cases hpz:m < z.path.size
    ·rw [if_pos hpz] at hsz
     go_wp2_with fail
     refine hsz.mono ?_
     rintro e w2 ⟨rfl,hb2⟩
     have HE2:Hid (Ext w w2):=HE.out.trans hb2
     clear hb2 hsz
     go_wp2
     go_ret
     exact⟨_,rfl,by omega,by omega,fun h=>by omega,HE2.out⟩
    ·exact m34z
   ·go_wp2
    go_ret
    exact⟨m,rfl,by omega,hm1,fun _=>⟨by omega,fun z hz=>by
     obtain⟨j,hj⟩:=List.getElem?_of_mem hz
     exact HA.out j z (by have:=(List.getElem?_eq_some_iff.1 hj).1;omega) hj⟩,HE.out⟩
set_option maxHeartbeats 1000000 in
set_option maxRecDepth 100000 in
theorem eqMarkS_same (v v' : Value) (zs:List Mk) (w:World) (hS:MSlice w v zs) (hS' : MSlice w v' zs) :
  Calls Tryz.prog 65 #[v,v'] w fun e w'=>e = .returned (.bool true)∧Ext w w':=by
 obtain⟨a,cap,rfl,hlc,hcm,hx⟩:=hS
 obtain⟨a',cap',rfl,hlc',hcm',hx'⟩:=hS'
 refine n77z ?_
 intro HX
 have HX' : Hid (0 < zs.length→∃ b off,a'=some ⟨b,off,none⟩∧b < w.heap.size∧MksAt w b off zs):=hx'
 clear hx hx'
 unfold maxLen at hcm
 go_enter Tryz.func65,Tryz.ntmps65
 go_wp2
 go_loopw [5] (fun i wr=>∃ (k:Nat),k≤zs.length∧i = .int .i64 k∧Hid (Ext w wr)) (fun i _=>zs.length - (intOf i).toNat)
 case atStart=>exact⟨0,Nat.zero_le _,rfl,Ext.refl _⟩
 case round =>
  obtain⟨k,hk,rfl,HE⟩:=hrel
  by_cases hlt:k < zs.length
  ·obtain⟨z,hzk⟩:∃ z,zs[k]?=some z:=⟨_,List.getElem?_eq_getElem hlt⟩
   obtain⟨b,off,rfl,hb,hN⟩:=HX.out (by omega)
   obtain⟨b',off',rfl,hb',hN'⟩:=HX'.out (by omega)
   obtain⟨d0,d1,d2,d3,d4⟩:=hN.ext hb HE.out k z hzk
   obtain⟨e0,e1,e2,e3,e4⟩:=hN'.ext hb' HE.out k z hzk
   clear hzk hN hN'
   have HQ:Hid (∀ wx:World,Calls Tryz.prog 138 #[magg z,magg z] wx fun e w'=>e = .returned (.bool true)∧Ext wx w'):=eqMark_same z
   unfold magg at HQ
   go_wp2
   go_region_with (go_at_call 138;refine (HQ.out _).mono ?_;rintro e w2 ⟨rfl,hb2⟩)
   all_goals exact m60z
  ·go_wp2
   go_ret
   exact⟨rfl,HE.out⟩
/-! ### Marks that are stored -/
def MRoom (w:World) (g off n:Nat):Prop:=g < w.heap.size∧∀ j,j < n * 5→(∃ u,w.cell? ⟨g,off+j,none⟩=some u)∧w.frozen? ⟨g,off+j,none⟩=false
def putM (w:World) (g o:Nat) (z:Mk):World:=(((((w.setCell ⟨g,o,none⟩ (.int .i64 z.client)).setCell ⟨g,o+1,none⟩ (.int .i64 z.number)).setCell ⟨g,o+2,none⟩ (.int .i64 z.code)).setCell ⟨g,o+3,none⟩ (.int .i64 z.value)).setCell ⟨g,o+4,none⟩ (.string z.path))
theorem putM_ne (w:World) (g o b k:Nat) (z:Mk) (h:g≠b∨k < o∨o+5≤k):(putM w g o z).cell? ⟨b,k,none⟩=w.cell? ⟨b,k,none⟩:=by
 unfold putM
 rw [iset_ne _ _ _ _ _ _ (by omega),iset_ne _ _ _ _ _ _ (by omega),iset_ne _ _ _ _ _ _ (by omega),iset_ne _ _ _ _ _ _ (by omega),iset_ne _ _ _ _ _ _ (by omega)]
theorem putM_eq (w:World) (g o:Nat) (z:Mk) (h:∀ j,j < 5→∃ u,w.cell? ⟨g,o+j,none⟩=some u):MAt (putM w g o z) g o z:=by
 unfold putM
 refine⟨?_,?_,?_,?_,?_⟩
 ·rw [iset_ne _ _ _ _ _ _ (by omega),iset_ne _ _ _ _ _ _ (by omega),iset_ne _ _ _ _ _ _ (by omega),iset_ne _ _ _ _ _ _ (by omega)];apply iset_eq;exact h 0 (by omega)
 ·rw [iset_ne _ _ _ _ _ _ (by omega),iset_ne _ _ _ _ _ _ (by omega),iset_ne _ _ _ _ _ _ (by omega)];apply iset_eq;rw [iset_ne _ _ _ _ _ _ (by omega)];exact h 1 (by omega)
 ·rw [iset_ne _ _ _ _ _ _ (by omega),iset_ne _ _ _ _ _ _ (by omega)];apply iset_eq;rw [iset_ne _ _ _ _ _ _ (by omega),iset_ne _ _ _ _ _ _ (by omega)];exact h 2 (by omega)
 ·rw [iset_ne _ _ _ _ _ _ (by omega)];apply iset_eq;rw [iset_ne _ _ _ _ _ _ (by omega),iset_ne _ _ _ _ _ _ (by omega),iset_ne _ _ _ _ _ _ (by omega)];exact h 3 (by omega)
 ·apply iset_eq;rw [iset_ne _ _ _ _ _ _ (by omega),iset_ne _ _ _ _ _ _ (by omega),iset_ne _ _ _ _ _ _ (by omega),iset_ne _ _ _ _ _ _ (by omega)];exact h 4 (by omega)
theorem putM_size (w:World) (g o:Nat) (z:Mk):(putM w g o z).heap.size=w.heap.size:=by simp [putM]
theorem putM_frozen (w:World) (g o:Nat) (z:Mk) (a:Addr):(putM w g o z).frozen? a=w.frozen? a:=by simp [putM]
theorem MRoom.put {w:World} {g off n k:Nat} (h:MRoom w g off n) (z:Mk) (hk:k < n):MRoom (putM w g (off+k * 5) z) g off n:=by
 refine⟨by rw [putM_size];exact h.1,fun j hj=>⟨?_,by rw [putM_frozen];exact (h.2 j hj).2⟩⟩
 obtain⟨q0,q1,q2,q3,q4⟩:=putM_eq w g (off+k * 5) z (fun i hi=>by rw [Nat.add_assoc];exact (h.2 (k * 5+i) (by omega)).1)
 by_cases hh:off+j < off+k * 5∨off+k * 5+5≤off+j
 ·rw [putM_ne _ _ _ _ _ _ (Or.inr hh)];exact (h.2 j hj).1
 ·have hj5:j=k * 5∨j=k * 5+1∨j=k * 5+2∨j=k * 5+3∨j=k * 5+4:=by omega
  rcases hj5 with e | e | e | e | e <;> subst e
  ·exact⟨_,q0⟩
  ·exact⟨_,q1⟩
  ·exact⟨_,q2⟩
  ·exact⟨_,q3⟩
  ·exact⟨_,q4⟩
theorem MRoom.ext {w w' : World} {g off n:Nat} (h:MRoom w g off n) (he:Ext w w'):MRoom w' g off n:=by
 exact m18z
theorem MksAt.put {w:World} {g off n k:Nat} {zs:List Mk} {z:Mk} (hr:MRoom w g off n) (hk:k < n) (hz:zs[k]?=some z) (h:MksAt w g off (zs.take k)):MksAt (putM w g (off+k * 5) z) g off (zs.take (k+1)):=by
 intro i z' hi
 rw [List.getElem?_take] at hi
 split at hi
 ·by_cases hik:i=k
  ·subst hik
   rw [hz] at hi
   cases hi
   exact putM_eq w g (off+i * 5) z (fun j hj=>by rw [Nat.add_assoc];exact (hr.2 (i * 5+j) (by omega)).1)
  ·obtain⟨c0,c1,c2,c3,c4⟩:=h i z' (by rw [List.getElem?_take,if_pos (by omega)];exact hi)
   exact⟨by rw [putM_ne _ _ _ _ _ _ (by omega)];exact c0,by rw [putM_ne _ _ _ _ _ _ (by omega)];exact c1,by rw [putM_ne _ _ _ _ _ _ (by omega)];exact c2,by rw [putM_ne _ _ _ _ _ _ (by omega)];exact c3,by rw [putM_ne _ _ _ _ _ _ (by omega)];exact c4⟩
 ·cases hi
theorem ext_putM {w w' : World} (h:Ext w w') (g o:Nat) (hg:w.heap.size≤g) (z:Mk):Ext w (putM w' g o z) :=
 (((((h.setCell (p:=⟨g,o,none⟩) hg _).setCell (p:=⟨g,o+1,none⟩) hg _).setCell (p:=⟨g,o+2,none⟩) hg _).setCell (p:=⟨g,o+3,none⟩) hg _).setCell (p:=⟨g,o+4,none⟩) hg _)
set_option maxHeartbeats 2000000 in
set_option maxRecDepth 100000 in
theorem toMarkS_at (v:Value) (zs:List Mk) (w:World) (hS:MSlice w v zs) (hl:zs.length≤1048576) :
  Calls Tryz.prog 56 #[v] w fun e w'=>e = .returned (.slice (some ⟨w.heap.size,0,none⟩) zs.length zs.length)∧MRoom w' w.heap.size 0 zs.length∧MksAt w' w.heap.size 0 zs∧Ext w w':=by
 obtain⟨a,cap,rfl,hlc,hcm,hx⟩:=hS
 refine n77z ?_
 intro HX
 clear hx
 unfold maxLen at hcm
 refine n58z ?_
 intro hi9
 obtain⟨i0,hi,hxx⟩:=Option.map_eq_some_iff.1 hi9
 simp only [Prod.mk.injEq] at hxx
 obtain⟨hz0,hz1,hz2⟩:=hxx
 clear hi9
 obtain⟨M,hM⟩:∃ M,M=madeCells (Value.agg #[.int .i64 0,.int .i64 0,.int .i64 0,.int .i64 0,.string ByteArray.empty]).cells (((zs.length:Nat):Int).toNat * i0.size):=⟨_,rfl⟩
 have hMs:M.size=zs.length * 5:=by rw [hM,size_madeCells,hz1];simp
 have hmk:∀ W:World,(Instr.makeSlice 35 (.int .i64 (zs.length:Int)) (.int .i64 (zs.length:Int))).run Tryz.prog W = .ok (.slice (some ⟨W.heap.size,0,none⟩) zs.length zs.length) (W.alloc (.cells M 123)):=fun W=>by
  have h:=run_make (P:=Tryz.prog) W 35 123 i0 _ Tryz.underlying35 hi hz0 .i64 .i64 (zs.length:Int) (zs.length:Int) (by omega) (by omega) (by rw [hz2];omega) (by omega)
  rw [← hM] at h
  simpa using h
 have HR:Hid (MRoom (w.alloc (.cells M 123)) w.heap.size 0 zs.length):=by
  exact m57z
 clear hM hMs hi hz0 hz1 hz2
 go_enter Tryz.func56,Tryz.ntmps56
 go_wp2
 go_loopw [4] (fun i wr=>∃ (k:Nat),k≤zs.length∧i = .int .i64 k∧Hid (MRoom wr w.heap.size 0 zs.length)∧Hid (MksAt wr w.heap.size 0 (zs.take k))∧Hid (Ext w wr)) (fun i _=>zs.length - (intOf i).toNat)
 case atStart=>exact⟨0,Nat.zero_le _,rfl,HR,fun i z h=>by simp at h,(Ext.refl _).alloc _⟩
 case round =>
  obtain⟨k,hk,rfl,HR1,HN1,HE⟩:=hrel
  by_cases hlt:k < zs.length
  ·obtain⟨z,hzk⟩:∃ z,zs[k]?=some z:=⟨_,List.getElem?_eq_getElem hlt⟩
   obtain⟨b,off,rfl,hb,hN⟩:=HX.out (by omega)
   obtain⟨d0,d1,d2,d3,d4⟩:=hN.ext hb HE.out k z hzk
   have HZ:Hid (zs[k]?=some z):=hzk
   clear hzk hN
   have hto:=toMark_any z wr
   unfold magg at hto
   go_wp2_with fail
   refine hto.mono ?_
   rintro e w2 ⟨rfl,hb2⟩
   clear hto d0 d1 d2 d3 d4
   have HR2:Hid (MRoom w2 w.heap.size 0 zs.length):=HR1.out.ext hb2
   have HN2:Hid (MksAt w2 w.heap.size 0 (zs.take k)):=HN1.out.ext HR1.out.1 hb2
   have HE2:Hid (Ext w w2):=HE.out.trans hb2
   clear hb2
   obtain⟨⟨u0,r0⟩,f0⟩:=HR2.out.2 (k * 5) (by omega)
   obtain⟨⟨u1,r1⟩,f1⟩:=HR2.out.2 (k * 5+1) (by omega)
   obtain⟨⟨u2,r2⟩,f2⟩:=HR2.out.2 (k * 5+2) (by omega)
   obtain⟨⟨u3,r3⟩,f3⟩:=HR2.out.2 (k * 5+3) (by omega)
   obtain⟨⟨u4,r4⟩,f4⟩:=HR2.out.2 (k * 5+4) (by omega)
   rw [Nat.zero_add] at r0 r1 r2 r3 r4 f0 f1 f2 f3 f4
   have p1:=HR2.out.put z hlt
   have p2:=MksAt.put HR2.out hlt HZ.out HN2.out
   have p3:=ext_putM HE2.out w.heap.size (0+k * 5) (Nat.le_refl _) z
   exact m39z
  ·have hke:k=zs.length:=by omega
   subst hke
   go_wp2
   go_ret
   exact⟨rfl,HR1.out,by have:=HN1.out;rw [List.take_length] at this;exact this,HE.out⟩
theorem MSlice.of {w:World} {g off cap:Nat} {zs:List Mk} (hg:g < w.heap.size) (h:MksAt w g off zs) (h1:zs.length≤cap) (h2:cap≤maxLen):MSlice w (.slice (some ⟨g,off,none⟩) zs.length cap) zs :=
 ⟨_,_,rfl,h1,h2,fun _=>⟨g,off,rfl,hg,h⟩⟩
theorem MksAt.set_ne {w:World} {b off g o:Nat} {zs:List Mk} {v:Value} (h:MksAt w b off zs) (hne:g≠b):MksAt (w.setCell ⟨g,o,none⟩ v) b off zs:=by
 exact m54z
end Go.Proofs.YtpdejinkmnhioaaGreatDoor
