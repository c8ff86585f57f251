/- O1, B1, O3, YA0, in one text. -/
import Derived.Test.YtpdejinkmnhioaaGreatDoorAoJ0
import Derived.Test.YtpdejinkmnhioaaGreatDoorAoJ1
import Derived.Test.YtpdejinkmnhioaaGreatDoorAoJ5
import Derived.Test.YtpdejinkmnhioaaGreatDoorAoJ6
import Derived.Test.YtpdejinkmnhioaaGreatDoorAoJ15
import Derived.Test.YtpdejinkmnhioaaGreatDoorAoJ17
import Derived.Test.YtpdejinkmnhioaaGreatDoorAoMk
namespace Go.Proofs.YtpdejinkmnhioaaGreatDoor
open Go.RowKit
structure Opn where
 kind:Int
 path:ByteArray
 data:Int
 version:Int
 seq:Bool
 own:Bool
 deriving DecidableEq
instance:Inhabited Opn:=⟨⟨0,ByteArray.empty,0,0,false,false⟩⟩
def oagg (z:Opn):Value:=.agg #[.int .i64 z.kind,.string z.path,.int .i64 z.data,.int .i64 z.version,.bool z.seq,.bool z.own]
set_option maxHeartbeats 1000000 in
theorem toOp_any (z:Opn) (w:World):Calls Tryz.prog 15 #[oagg z] w fun e w'=>e = .returned (oagg z)∧Ext w w':=by
 unfold oagg
 go_enter Tryz.func15,Tryz.ntmps15
 go_wp2
 exact bodyPost_ret (v:=oagg z) (by simp [results,Tryz.results15,go_sem,oagg]) rfl ⟨rfl,(((Ext.refl _).alloc _).alloc _).alloc _⟩
set_option maxHeartbeats 1000000 in
theorem szOp_any (z:Opn) (n:Int) (w:World) (h0:0≤n) (h1:n≤1048576) (hz:z.path.size≤maxLen) :
  Calls Tryz.prog 12 #[oagg z,.int .i64 n] w fun e w'=>e = .returned (.int .i64 (if n < z.path.size then -1 else n - z.path.size))∧Ext w w':=by
 unfold maxLen at hz
 unfold oagg
 by_cases h:n < z.path.size
 ·rw [if_pos h]
  go_enter Tryz.func12,Tryz.ntmps12
  go_wp2
  go_ret
  exact⟨rfl,(Ext.refl _).alloc _⟩
 ·rw [if_neg h]
  go_enter Tryz.func12,Tryz.ntmps12
  go_wp2
  go_ret
  exact⟨rfl,(Ext.refl _).alloc _⟩
/-- The operation z lies in block b from o on. -/
def OAt (w:World) (b o:Nat) (z:Opn):Prop:=w.cell? ⟨b,o,none⟩=some (.int .i64 z.kind)∧w.cell? ⟨b,o+1,none⟩=some (.string z.path)∧w.cell? ⟨b,o+2,none⟩=some (.int .i64 z.data)∧w.cell? ⟨b,o+3,none⟩=some (.int .i64 z.version)∧w.cell? ⟨b,o+4,none⟩=some (.bool z.seq)∧w.cell? ⟨b,o+5,none⟩=some (.bool z.own)
theorem OAt.ext {w w' : World} {b o:Nat} {z:Opn} (h:OAt w b o z) (hb:b < w.heap.size) (he:Ext w w'):OAt w' b o z:=by
 obtain⟨c0,c1,c2,c3,c4,c5⟩:=h
 obtain⟨hc,_⟩:=Ext.cell he
 exact⟨(hc _ _ hb).trans c0,(hc _ _ hb).trans c1,(hc _ _ hb).trans c2,(hc _ _ hb).trans c3,(hc _ _ hb).trans c4,(hc _ _ hb).trans c5⟩
/-- The operations zs lie in block b, from off on. -/
def OpsAt (w:World) (b off:Nat) (zs:List Opn):Prop:=∀ (i:Nat) z,zs[i]?=some z→OAt w b (off+i * 6) z
theorem OpsAt.ext {w w' : World} {b off:Nat} {zs:List Opn} (h:OpsAt w b off zs) (hb:b < w.heap.size) (he:Ext w w'):OpsAt w' b off zs :=
 fun i z hz=>(h i z hz).ext hb he
/-- The slice value v reads as the operations zs. -/
def OSlice (w:World) (v:Value) (zs:List Opn):Prop :=
 ∃ a cap,v = .slice a zs.length cap∧zs.length≤cap∧cap≤maxLen∧(0 < zs.length→∃ b off,a=some ⟨b,off,none⟩∧b < w.heap.size∧OpsAt w b off zs)
theorem OSlice.ext {w w' : World} {v:Value} {zs:List Opn} (h:OSlice w v zs) (he:Ext w w'):OSlice w' v zs:=by
 exact m16z
/-! ### Operations that are stored -/
def ORoom (w:World) (g off n:Nat):Prop:=g < w.heap.size∧∀ j,j < n * 6→(∃ u,w.cell? ⟨g,off+j,none⟩=some u)∧w.frozen? ⟨g,off+j,none⟩=false
def putO (w:World) (g o:Nat) (z:Opn):World:=((((((w.setCell ⟨g,o,none⟩ (.int .i64 z.kind)).setCell ⟨g,o+1,none⟩ (.string z.path)).setCell ⟨g,o+2,none⟩ (.int .i64 z.data)).setCell ⟨g,o+3,none⟩ (.int .i64 z.version)).setCell ⟨g,o+4,none⟩ (.bool z.seq)).setCell ⟨g,o+5,none⟩ (.bool z.own))
theorem putO_ne (w:World) (g o b k:Nat) (z:Opn) (h:g≠b∨k < o∨o+6≤k):(putO w g o z).cell? ⟨b,k,none⟩=w.cell? ⟨b,k,none⟩:=by
 unfold putO
 rw [iset_ne _ _ _ _ _ _ (by omega),iset_ne _ _ _ _ _ _ (by omega),iset_ne _ _ _ _ _ _ (by omega),iset_ne _ _ _ _ _ _ (by omega),iset_ne _ _ _ _ _ _ (by omega),iset_ne _ _ _ _ _ _ (by omega)]
theorem putO_eq (w:World) (g o:Nat) (z:Opn) (h:∀ j,j < 6→∃ u,w.cell? ⟨g,o+j,none⟩=some u):OAt (putO w g o z) g o z:=by
 unfold putO
 refine⟨?_,?_,?_,?_,?_,?_⟩
 ·rw [iset_ne _ _ _ _ _ _ (by omega),iset_ne _ _ _ _ _ _ (by omega),iset_ne _ _ _ _ _ _ (by omega),iset_ne _ _ _ _ _ _ (by omega),iset_ne _ _ _ _ _ _ (by omega)];apply iset_eq;exact h 0 (by omega)
 ·rw [iset_ne _ _ _ _ _ _ (by omega),iset_ne _ _ _ _ _ _ (by omega),iset_ne _ _ _ _ _ _ (by omega),iset_ne _ _ _ _ _ _ (by omega)];apply iset_eq;rw [iset_ne _ _ _ _ _ _ (by omega)];exact h 1 (by omega)
 ·rw [iset_ne _ _ _ _ _ _ (by omega),iset_ne _ _ _ _ _ _ (by omega),iset_ne _ _ _ _ _ _ (by omega)];apply iset_eq;rw [iset_ne _ _ _ _ _ _ (by omega),iset_ne _ _ _ _ _ _ (by omega)];exact h 2 (by omega)
 ·rw [iset_ne _ _ _ _ _ _ (by omega),iset_ne _ _ _ _ _ _ (by omega)];apply iset_eq;rw [iset_ne _ _ _ _ _ _ (by omega),iset_ne _ _ _ _ _ _ (by omega),iset_ne _ _ _ _ _ _ (by omega)];exact h 3 (by omega)
 ·rw [iset_ne _ _ _ _ _ _ (by omega)];apply iset_eq;rw [iset_ne _ _ _ _ _ _ (by omega),iset_ne _ _ _ _ _ _ (by omega),iset_ne _ _ _ _ _ _ (by omega),iset_ne _ _ _ _ _ _ (by omega)];exact h 4 (by omega)
 ·apply iset_eq;rw [iset_ne _ _ _ _ _ _ (by omega),iset_ne _ _ _ _ _ _ (by omega),iset_ne _ _ _ _ _ _ (by omega),iset_ne _ _ _ _ _ _ (by omega),iset_ne _ _ _ _ _ _ (by omega)];exact h 5 (by omega)
theorem putO_size (w:World) (g o:Nat) (z:Opn):(putO w g o z).heap.size=w.heap.size:=by simp [putO]
theorem putO_frozen (w:World) (g o:Nat) (z:Opn) (a:Addr):(putO w g o z).frozen? a=w.frozen? a:=by simp [putO]
theorem ORoom.put {w:World} {g off n k:Nat} (h:ORoom w g off n) (z:Opn) (hk:k < n):ORoom (putO w g (off+k * 6) z) g off n:=by
 refine⟨by rw [putO_size];exact h.1,fun j hj=>⟨?_,by rw [putO_frozen];exact (h.2 j hj).2⟩⟩
 obtain⟨q0,q1,q2,q3,q4,q5⟩:=putO_eq w g (off+k * 6) z (fun i hi=>by rw [Nat.add_assoc];exact (h.2 (k * 6+i) (by omega)).1)
 by_cases hh:off+j < off+k * 6∨off+k * 6+6≤off+j
 ·rw [putO_ne _ _ _ _ _ _ (Or.inr hh)];exact (h.2 j hj).1
 ·have hj5:j=k * 6∨j=k * 6+1∨j=k * 6+2∨j=k * 6+3∨j=k * 6+4∨j=k * 6+5:=by omega
  rcases hj5 with e | e | e | e | e | e <;> subst e
  ·exact⟨_,q0⟩
  ·exact⟨_,q1⟩
  ·exact⟨_,q2⟩
  ·exact⟨_,q3⟩
  ·exact⟨_,q4⟩
  ·exact⟨_,q5⟩
theorem ORoom.ext {w w' : World} {g off n:Nat} (h:ORoom w g off n) (he:Ext w w'):ORoom w' g off n:=by
 exact m18z
theorem OpsAt.put {w:World} {g off n k:Nat} {zs:List Opn} {z:Opn} (hr:ORoom w g off n) (hk:k < n) (hz:zs[k]?=some z) (h:OpsAt w g off (zs.take k)):OpsAt (putO w g (off+k * 6) z) g off (zs.take (k+1)):=by
 intro i z' hi
 rw [List.getElem?_take] at hi
 split at hi
 ·by_cases hik:i=k
  ·subst hik
   rw [hz] at hi
   cases hi
   exact putO_eq w g (off+i * 6) z (fun j hj=>by rw [Nat.add_assoc];exact (hr.2 (i * 6+j) (by omega)).1)
  ·obtain⟨c0,c1,c2,c3,c4,c5⟩:=h i z' (by rw [List.getElem?_take,if_pos (by omega)];exact hi)
   exact⟨by rw [putO_ne _ _ _ _ _ _ (by omega)];exact c0,by rw [putO_ne _ _ _ _ _ _ (by omega)];exact c1,by rw [putO_ne _ _ _ _ _ _ (by omega)];exact c2,by rw [putO_ne _ _ _ _ _ _ (by omega)];exact c3,by rw [putO_ne _ _ _ _ _ _ (by omega)];exact c4,by rw [putO_ne _ _ _ _ _ _ (by omega)];exact c5⟩
 ·cases hi
theorem OSlice.of {w:World} {g off cap:Nat} {zs:List Opn} (hg:g < w.heap.size) (h:OpsAt w g off zs) (h1:zs.length≤cap) (h2:cap≤maxLen):OSlice w (.slice (some ⟨g,off,none⟩) zs.length cap) zs :=
 ⟨_,_,rfl,h1,h2,fun _=>⟨g,off,rfl,hg,h⟩⟩
theorem OpsAt.set_ne {w:World} {b off g o:Nat} {zs:List Opn} {v:Value} (h:OpsAt w b off zs) (hne:g≠b):OpsAt (w.setCell ⟨g,o,none⟩ v) b off zs:=by
 intro i z hz
 obtain⟨c0,c1,c2,c3,c4,c5⟩:=h i z hz
 refine⟨?_,?_,?_,?_,?_,?_⟩ <;> rw [iset_ne _ _ _ _ _ _ (Or.inl hne)] <;> assumption
/-! ### Requests -/
structure Rq where
 client:Int
 number:Int
 time:Int
 ops:List Opn
def ragg (r:Rq) (v:Value):Value:=.agg #[.int .i64 r.client,.int .i64 r.number,.int .i64 r.time,v]
/-- A request in a box of its own. -/
def RBoxAt (w:World) (b:Nat) (r:Rq) (v:Value):Prop:=b < w.heap.size∧(w.cell? ⟨b,0,none⟩=some (.int .i64 r.client)∧w.cell? ⟨b,1,none⟩=some (.int .i64 r.number)∧w.cell? ⟨b,2,none⟩=some (.int .i64 r.time)∧w.cell? ⟨b,3,none⟩=some v)∧w.frozen? ⟨b,0,none⟩=false∧w.frozen? ⟨b,1,none⟩=false∧w.frozen? ⟨b,2,none⟩=false∧w.frozen? ⟨b,3,none⟩=false
theorem RBoxAt.ext {w w' : World} {b:Nat} {r:Rq} {v:Value} (h:RBoxAt w b r v) (he:Ext w w'):RBoxAt w' b r v:=by
 exact m49z
end Go.Proofs.YtpdejinkmnhioaaGreatDoor
namespace Go.Proofs.YtpdejinkmnhioaaGreatDoor
open Go.RowKit
set_option maxHeartbeats 1000000 in
theorem isWithin_any (n l m:Int) (w:World):Calls Tryz.prog 57 #[.int .i64 n,.int .i64 l,.int .i64 m] w fun e w'=>e = .returned (.bool (decide (l≤n) && decide (n≤m)))∧w'=w:=by
 by_cases h0:l≤n
 ·by_cases h1:n≤m
  ·go_enter Tryz.func57,Tryz.ntmps57
   go_wp2
   go_ret
   exact⟨by simp [h0,h1],rfl⟩
  ·go_enter Tryz.func57,Tryz.ntmps57
   go_wp2
   go_ret
   exact⟨by simp [h1],rfl⟩
 ·go_enter Tryz.func57,Tryz.ntmps57
  go_wp2
  go_ret
  exact⟨by simp;omega,rfl⟩
set_option maxHeartbeats 1000000 in
theorem l4IdO_any (k:Int) (w:World):Calls Tryz.prog 50 #[.int .i64 k] w fun e w'=>e = .returned (.bool (decide (1≤k) && decide (k≤9)))∧w'=w:=by
 go_enter Tryz.func50,Tryz.ntmps50
 go_wp2_with fail
 refine (l1In_any k 1 9 _).mono ?_
 rintro e w1 ⟨rfl,rfl⟩
 go_wp2
 go_ret
 exact⟨rfl,rfl⟩
end Go.Proofs.YtpdejinkmnhioaaGreatDoor
namespace Go.Proofs.YtpdejinkmnhioaaGreatDoor
open Go.RowKit
namespace Opr
def hasPath (k:Int):Bool:=decide (3≤k) && decide (k≤8)
def hasData (k:Int):Bool:=decide (k=3) || decide (k=5)
def hasVer (k:Int):Bool:=decide (k=4) || (decide (k=5) || decide (k=8))
def extra (o:Opn):Bool:=(!hasPath o.kind && decide (o.path≠⟨#[]⟩)) || ((!hasData o.kind && decide (o.data≠0)) || ((!hasVer o.kind && decide (o.version≠0)) || (decide (o.kind≠3) && (o.seq || o.own))))
def inR (o:Opn):Bool:=decide (0≤o.data) && (decide (o.data≤9999) && (decide (-1≤o.version) && decide (o.version≤999)))
def fault (o:Opn):Int :=
 if (decide (1≤o.kind) && decide (o.kind≤8))=false then 1
 else if extra o=true then 1
 else if hasPath o.kind=true∧Pth.faultI o.path.data.toList≠0 then Pth.faultI o.path.data.toList
 else if inR o=false then 3 else 0
theorem fault_kind {o:Opn} (h:o.kind < 1∨8 < o.kind):fault o=1:=by unfold fault;rw [if_pos (by simp;omega)]
theorem fault_extra {o:Opn} (h:extra o=true):fault o=1:=by unfold fault;rw [if_pos h];split <;> rfl
theorem fault_path {o:Opn} {c:Int} (h1:1≤o.kind) (h2:o.kind≤8) (h:extra o=false) (hp:hasPath o.kind=true) (hc:c=Pth.faultI o.path.data.toList) (h0:c≠0):fault o=c:=by
 subst hc
 unfold fault;rw [if_neg (by simp;omega),if_neg (by rw [h];decide),if_pos ⟨hp,h0⟩]
theorem fault_range {o:Opn} (h1:1≤o.kind) (h2:o.kind≤8) (h:extra o=false) (hp:hasPath o.kind=false∨Pth.faultI o.path.data.toList=0) (hr:inR o=false):fault o=3:=by
 unfold fault;rw [if_neg (by simp;omega),if_neg (by rw [h];decide),if_neg (by rintro⟨g1,g2⟩;rcases hp with h | h;rw [h] at g1;cases g1;exact g2 h),if_pos hr]
theorem fault_ok {o:Opn} (h1:1≤o.kind) (h2:o.kind≤8) (h:extra o=false) (hp:hasPath o.kind=false∨Pth.faultI o.path.data.toList=0) (hr:inR o=true):fault o=0:=by
 unfold fault;rw [if_neg (by simp;omega),if_neg (by rw [h];decide),if_neg (by rintro⟨g1,g2⟩;rcases hp with h | h;rw [h] at g1;cases g1;exact g2 h),if_neg (by rw [hr];decide)]
end Opr
set_option maxHeartbeats 1000000 in
theorem l5Path_any (k:Int) (w:World):Calls Tryz.prog 107 #[.int .i64 k] w fun e w'=>e = .returned (.bool (Opr.hasPath k))∧w'=w:=by
 go_enter Tryz.func107,Tryz.ntmps107
 go_wp2_with fail
 refine (l1In_any k 3 8 _).mono ?_
 rintro e w1 ⟨rfl,rfl⟩
 go_wp2
 go_ret
 exact⟨rfl,rfl⟩
set_option maxHeartbeats 1000000 in
theorem l5Data_any (k:Int) (w:World):Calls Tryz.prog 108 #[.int .i64 k] w fun e w'=>e = .returned (.bool (Opr.hasData k))∧w'=w:=by
 by_cases h3:k=3
 ·subst h3
  go_enter Tryz.func108,Tryz.ntmps108
  go_wp2
  go_ret
  exact⟨rfl,rfl⟩
 ·by_cases h5:k=5
  ·subst h5
   go_enter Tryz.func108,Tryz.ntmps108
   go_wp2
   go_ret
   exact⟨rfl,rfl⟩
  ·have hf:Opr.hasData k=false:=by unfold Opr.hasData;simp [h3,h5]
   rw [hf]
   go_enter Tryz.func108,Tryz.ntmps108
   go_wp2
   go_ret
   exact⟨ret_bool (by simp [h3,h5]),rfl⟩
set_option maxHeartbeats 1000000 in
theorem l5Version_any (k:Int) (w:World):Calls Tryz.prog 109 #[.int .i64 k] w fun e w'=>e = .returned (.bool (Opr.hasVer k))∧w'=w:=by
 by_cases h3:k=4
 ·subst h3
  exact m80z
 ·by_cases h5:k=5
  ·subst h5
   exact m80z
  ·by_cases h8:k=8
   ·subst h8
    exact m80z
   ·have hf:Opr.hasVer k=false:=by unfold Opr.hasVer;simp [h3,h5,h8]
    rw [hf]
    go_enter Tryz.func109,Tryz.ntmps109
    go_wp2
    go_ret
    exact⟨ret_bool (by simp [h3,h5,h8]),rfl⟩
set_option maxHeartbeats 1000000 in
theorem l2DataO_any (k:Int) (w:World):Calls Tryz.prog 111 #[.int .i64 k] w fun e w'=>e = .returned (.bool (decide (0≤k) && decide (k≤9999)))∧w'=w:=by
 go_enter Tryz.func111,Tryz.ntmps111
 go_wp2_with fail
 refine (l1In_any k 0 9999 _).mono ?_
 rintro e w1 ⟨rfl,rfl⟩
 go_wp2
 go_ret
 exact⟨rfl,rfl⟩
set_option maxHeartbeats 1000000 in
theorem isUpToO_any (n m:Int) (w:World):Calls Tryz.prog 90 #[.int .i64 n,.int .i64 m] w fun e w'=>e = .returned (.bool (decide (0≤n) && decide (n≤m)))∧w'=w:=by
 by_cases h0:0≤n
 ·by_cases h1:n≤m
  ·exact m73z
  ·exact m77z
 ·exact m76z
/-! ### What beyondKind leaves -/
def Opr.beyond (o:Opn):Opn :=
 ⟨o.kind,if Opr.hasPath o.kind then ⟨#[]⟩ else o.path,if Opr.hasData o.kind then 0 else o.data,if Opr.hasVer o.kind then 0 else o.version,if o.kind=3 then false else o.seq,if o.kind=3 then false else o.own⟩
set_option maxHeartbeats 1000000 in
theorem beyondKind_1 (p:ByteArray) (d v:Int) (s q:Bool) (w:World):Calls Tryz.prog 125 #[oagg ⟨1,p,d,v,s,q⟩] w fun e w'=>e = .returned (oagg ⟨1,p,d,v,s,q⟩)∧Ext w w':=by
 unfold oagg
 go_enter Tryz.func125,Tryz.ntmps125
 go_wp2
 exact bodyPost_ret (v:=oagg ⟨1,p,d,v,s,q⟩) (by simp [results,Tryz.results125,go_sem,oagg]) rfl ⟨rfl,((Ext.refl _).alloc _).alloc _⟩
set_option maxHeartbeats 1000000 in
theorem beyondKind_2 (p:ByteArray) (d v:Int) (s q:Bool) (w:World):Calls Tryz.prog 125 #[oagg ⟨2,p,d,v,s,q⟩] w fun e w'=>e = .returned (oagg ⟨2,p,d,v,s,q⟩)∧Ext w w':=by
 unfold oagg
 go_enter Tryz.func125,Tryz.ntmps125
 go_wp2
 exact bodyPost_ret (v:=oagg ⟨2,p,d,v,s,q⟩) (by simp [results,Tryz.results125,go_sem,oagg]) rfl ⟨rfl,((Ext.refl _).alloc _).alloc _⟩
set_option maxHeartbeats 1000000 in
theorem beyondKind_3 (p:ByteArray) (d v:Int) (s q:Bool) (w:World):Calls Tryz.prog 125 #[oagg ⟨3,p,d,v,s,q⟩] w fun e w'=>e = .returned (oagg ⟨3,⟨#[]⟩,0,v,false,false⟩)∧Ext w w':=by
 unfold oagg
 go_enter Tryz.func125,Tryz.ntmps125
 go_wp2
 exact bodyPost_ret (v:=oagg ⟨3,⟨#[]⟩,0,v,false,false⟩) (by simp [results,Tryz.results125,go_sem,oagg]) rfl ⟨rfl,((Ext.refl _).alloc _).alloc _⟩
set_option maxHeartbeats 1000000 in
theorem beyondKind_4 (p:ByteArray) (d v:Int) (s q:Bool) (w:World):Calls Tryz.prog 125 #[oagg ⟨4,p,d,v,s,q⟩] w fun e w'=>e = .returned (oagg ⟨4,⟨#[]⟩,d,0,s,q⟩)∧Ext w w':=by
 unfold oagg
 go_enter Tryz.func125,Tryz.ntmps125
 go_wp2
 exact bodyPost_ret (v:=oagg ⟨4,⟨#[]⟩,d,0,s,q⟩) (by simp [results,Tryz.results125,go_sem,oagg]) rfl ⟨rfl,((Ext.refl _).alloc _).alloc _⟩
set_option maxHeartbeats 1000000 in
theorem beyondKind_5 (p:ByteArray) (d v:Int) (s q:Bool) (w:World):Calls Tryz.prog 125 #[oagg ⟨5,p,d,v,s,q⟩] w fun e w'=>e = .returned (oagg ⟨5,⟨#[]⟩,0,0,s,q⟩)∧Ext w w':=by
 unfold oagg
 go_enter Tryz.func125,Tryz.ntmps125
 go_wp2
 exact bodyPost_ret (v:=oagg ⟨5,⟨#[]⟩,0,0,s,q⟩) (by simp [results,Tryz.results125,go_sem,oagg]) rfl ⟨rfl,((Ext.refl _).alloc _).alloc _⟩
set_option maxHeartbeats 1000000 in
theorem beyondKind_6 (p:ByteArray) (d v:Int) (s q:Bool) (w:World):Calls Tryz.prog 125 #[oagg ⟨6,p,d,v,s,q⟩] w fun e w'=>e = .returned (oagg ⟨6,⟨#[]⟩,d,v,s,q⟩)∧Ext w w':=by
 unfold oagg
 go_enter Tryz.func125,Tryz.ntmps125
 go_wp2
 exact bodyPost_ret (v:=oagg ⟨6,⟨#[]⟩,d,v,s,q⟩) (by simp [results,Tryz.results125,go_sem,oagg]) rfl ⟨rfl,((Ext.refl _).alloc _).alloc _⟩
set_option maxHeartbeats 1000000 in
theorem beyondKind_7 (p:ByteArray) (d v:Int) (s q:Bool) (w:World):Calls Tryz.prog 125 #[oagg ⟨7,p,d,v,s,q⟩] w fun e w'=>e = .returned (oagg ⟨7,⟨#[]⟩,d,v,s,q⟩)∧Ext w w':=by
 unfold oagg
 go_enter Tryz.func125,Tryz.ntmps125
 go_wp2
 exact bodyPost_ret (v:=oagg ⟨7,⟨#[]⟩,d,v,s,q⟩) (by simp [results,Tryz.results125,go_sem,oagg]) rfl ⟨rfl,((Ext.refl _).alloc _).alloc _⟩
set_option maxHeartbeats 1000000 in
theorem beyondKind_8 (p:ByteArray) (d v:Int) (s q:Bool) (w:World):Calls Tryz.prog 125 #[oagg ⟨8,p,d,v,s,q⟩] w fun e w'=>e = .returned (oagg ⟨8,⟨#[]⟩,d,0,s,q⟩)∧Ext w w':=by
 unfold oagg
 go_enter Tryz.func125,Tryz.ntmps125
 go_wp2
 exact bodyPost_ret (v:=oagg ⟨8,⟨#[]⟩,d,0,s,q⟩) (by simp [results,Tryz.results125,go_sem,oagg]) rfl ⟨rfl,((Ext.refl _).alloc _).alloc _⟩
end Go.Proofs.YtpdejinkmnhioaaGreatDoor
namespace Go.Proofs.YtpdejinkmnhioaaGreatDoor
open Go.RowKit
/-- A reply: code, value, path. -/
structure Ry where
 code:Int
 value:Int
 path:ByteArray
 deriving DecidableEq
/-- Is it the session of c? -/
def goneE (c:Int) (s:Se):Bool:=decide (s.id=c)
namespace Sta
def noP:ByteArray:=⟨#[]⟩
def bad (c:Int):Ry:=⟨c,0,⟨#[]⟩⟩
def readT (s:Stt) (o:Opn):Ry :=
 if Tre.atI s.nodes o.path < 0 then bad 4 else
 match s.nodes[(Tre.atI s.nodes o.path).toNat]? with
 | none=>bad 4
 | some z=>if o.kind=6 then ⟨0,z.data,⟨#[]⟩⟩ else if o.kind=7 then ⟨0,((Tre.kids s.nodes o.path).length:Nat),⟨#[]⟩⟩ else if o.version≠-1∧o.version≠z.version then bad 7 else ⟨0,z.version,⟨#[]⟩⟩
def verT (s:Stt) (o:Opn):Int :=
 if Tre.atI s.nodes o.path < 0 then 0 else
 match s.nodes[(Tre.atI s.nodes o.path).toNat]? with
 | none=>0
 | some z=>z.version+1
def treeT (s:Stt) (r:Int × ByteArray × List Zn) (v:Int):Ry × Stt:=if r.1≠0 then (bad r.1,s) else (⟨0,v,r.2.1⟩,{ s with nodes:=r.2.2 })
def ownT (c:Int) (o:Opn):Int:=if o.own=true then c else 0
def openT (s:Stt) (c:Int):Ry × Stt:=if (Ses.opened s.ses c s.now).1≠0 then (bad (Ses.opened s.ses c s.now).1,s) else (bad 0,{ s with ses:=(Ses.opened s.ses c s.now).2 })
def notId (c:Int) (l:List Se):List Se:=l.filter fun e=>!goneE c e
def closeT (s:Stt) (c:Int):Ry × Stt:=(bad 0,{ s with nodes:=dropL [c] s.nodes,ses:=notId c s.ses })
/-- What an operation that needs a session makes of a state. -/
def liveT (s:Stt) (c:Int) (o:Opn):Ry × Stt :=
 if o.kind=2 then closeT s c
 else if o.kind=3 then treeT s (Tre.createT s.nodes o.path o.data (ownT c o) o.seq) 0
 else if o.kind=4 then treeT s (Tre.delT s.nodes o.path o.version) 0
 else if o.kind=5 then treeT s (Tre.setT s.nodes o.path o.data o.version) (verT s o)
 else (readT s o,s)
def doT (s:Stt) (c:Int) (o:Opn):Ry × Stt :=
 if o.kind=1 then openT s c else if Ses.live s.ses c s.now=false then (bad 9,s) else liveT s c o
theorem treeT_bad {s:Stt} {r:Int × ByteArray × List Zn} {v:Int} (h:r.1≠0):treeT s r v=(bad r.1,s):=by unfold treeT;rw [if_pos h]
theorem treeT_ok {s:Stt} {r:Int × ByteArray × List Zn} {v:Int} (h:r.1=0):treeT s r v=(⟨0,v,r.2.1⟩,{ s with nodes:=r.2.2 }):=by unfold treeT;rw [if_neg (by simp [h])]
theorem doT_open {s:Stt} {c:Int} {o:Opn} (h:o.kind=1):doT s c o=openT s c:=by unfold doT;rw [if_pos h]
theorem doT_gone {s:Stt} {c:Int} {o:Opn} (h:¬ o.kind=1) (hl:Ses.live s.ses c s.now=false):doT s c o=(bad 9,s):=by unfold doT;rw [if_neg h,if_pos hl]
theorem doT_live {s:Stt} {c:Int} {o:Opn} (h:¬ o.kind=1) (hl:Ses.live s.ses c s.now=true):doT s c o=liveT s c o:=by unfold doT;rw [if_neg h,if_neg (by rw [hl];decide)]
/-- Where a reply tells a code, there is nothing else in it, and the state stays. -/
theorem readT_code (s:Stt) (o:Opn) (h:(readT s o).code≠0):readT s o=bad (readT s o).code:=by
 unfold readT at h ⊢
 split
 ·rfl
 ·rename_i ha
  rw [if_neg ha] at h
  split
  ·rfl
  ·rename_i z hz
   rw [hz] at h
   simp only [] at h ⊢
   split
   ·rename_i h6;rw [if_pos h6] at h;exact absurd rfl h
   ·rename_i h6
    rw [if_neg h6] at h
    split
    ·rename_i h7;rw [if_pos h7] at h;exact absurd rfl h
    ·rename_i h7
     rw [if_neg h7] at h
     split
     ·rfl
     ·rename_i h8;rw [if_neg h8] at h;exact absurd rfl h
theorem doT_code (s:Stt) (c:Int) (o:Opn) (h:(doT s c o).1.code≠0):doT s c o=(bad (doT s c o).1.code,s):=by
 have ht:∀ r v,(treeT s r v).1.code≠0→treeT s r v=(bad (treeT s r v).1.code,s):=by
  intro r v h
  by_cases hr:r.1=0
  ·rw [treeT_ok hr] at h;exact absurd rfl h
  ·rw [treeT_bad hr];rfl
 by_cases h1:o.kind=1
 ·rw [doT_open h1] at h ⊢
  unfold openT at h ⊢
  split
  ·rfl
  ·rename_i hc;rw [if_neg hc] at h;exact absurd rfl h
 ·cases hl:Ses.live s.ses c s.now with
  | false=>rw [doT_gone h1 hl];rfl
  | true =>
   rw [doT_live h1 hl] at h ⊢
   unfold liveT at h ⊢
   split
   ·rename_i h2;rw [if_pos h2] at h;exact absurd rfl h
   ·rename_i h2
    rw [if_neg h2] at h
    split
    ·rename_i h3;rw [if_pos h3] at h;exact ht _ _ h
    ·rename_i h3
     rw [if_neg h3] at h
     split
     ·rename_i h4;rw [if_pos h4] at h;exact ht _ _ h
     ·rename_i h4
      rw [if_neg h4] at h
      split
      ·rename_i h5;rw [if_pos h5] at h;exact ht _ _ h
      ·rename_i h5;rw [if_neg h5] at h;rw [← readT_code s o h]
theorem doT_now (s:Stt) (c:Int) (o:Opn):(doT s c o).2.now=s.now∧(doT s c o).2.marks=s.marks:=by
 have ht:∀ r v,(treeT s r v).2.now=s.now∧(treeT s r v).2.marks=s.marks:=by
  intro r v
  unfold treeT
  split <;> exact⟨rfl,rfl⟩
 unfold doT openT liveT closeT
 split
 ·split <;> exact⟨rfl,rfl⟩
 ·split
  ·exact⟨rfl,rfl⟩
  ·split
   ·exact⟨rfl,rfl⟩
   ·split
    ·exact ht _ _
    ·split
     ·exact ht _ _
     ·split
      ·exact ht _ _
      ·exact⟨rfl,rfl⟩
theorem createT_code {zs:List Zn} {p:ByteArray} {d o:Int} {q:Bool} (h:(Tre.createT zs p d o q).1≠0):(Tre.createT zs p d o q).2.1=⟨#[]⟩:=by
 have hf:∀ p bs,(Tre.finT zs p bs d o).1≠0→(Tre.finT zs p bs d o).2.1=⟨#[]⟩:=by
  intro p bs h
  unfold Tre.finT at h ⊢
  split
  ·rfl
  ·rename_i h1
   rw [if_neg h1] at h
   split
   ·rfl
   ·rename_i h2;rw [if_neg h2] at h;exact absurd rfl h
 unfold Tre.createT at h ⊢
 split
 ·rfl
 ·rename_i h1
  rw [if_neg h1] at h
  split
  ·rfl
  ·rename_i h2
   rw [if_neg h2] at h
   split
   ·rfl
   ·rename_i h3
    rw [if_neg h3] at h
    split
    ·rfl
    ·rename_i y hy
     rw [hy] at h
     simp only [] at h ⊢
     split
     ·rfl
     ·rename_i h4
      rw [if_neg h4] at h
      split
      ·rename_i h5
       rw [if_pos h5] at h
       split
       ·rfl
       ·rename_i h6;rw [if_neg h6] at h;exact hf _ _ h
      ·rename_i h5;rw [if_neg h5] at h;exact hf _ _ h
theorem delT_path (zs:List Zn) (p:ByteArray) (n:Int):(Tre.delT zs p n).2.1=⟨#[]⟩:=by
 unfold Tre.delT
 repeat' split
 all_goals rfl
theorem asked_zero {zs:List Zn} {p:ByteArray} (h:Tre.fault zs=0) (hp:Pth.faultI p.data.toList=0):Tre.asked zs p=0:=by
 unfold Tre.asked;rw [if_neg (by simp [h])];exact hp
/-- Of an operation without fault that has a path that path has no fault. -/
theorem path_zero {o:Opn} (h:Opr.fault o=0) (hk:3≤o.kind):o.kind≤8∧Pth.faultI o.path.data.toList=0:=by
 unfold Opr.fault at h
 split at h
 ·cases h
 ·rename_i h1
  have hk8:o.kind≤8:=by simp at h1;omega
  refine⟨hk8,?_⟩
  split at h
  ·cases h
  ·split at h
   ·rename_i h3;exact absurd h h3.2
   ·rename_i h3
    by_cases q:Pth.faultI o.path.data.toList=0
    ·exact q
    ·exact absurd ⟨by unfold Opr.hasPath;simp;omega,q⟩ h3
theorem kind_of {o:Opn} (h:Opr.fault o=0):1≤o.kind∧o.kind≤8:=by
 unfold Opr.fault at h
 split at h
 ·cases h
 ·rename_i h1;simp at h1;omega
end Sta
/-- The lists of the state s lie in memory of their own: from block n on, none in a block of K, no two in one. -/
def SHas (n:Nat) (K:Nat→Prop) (w:World) (vn vs vm:Value) (s:Stt):Prop :=
 ∃ g1 g2 g3,(n≤g1∧n≤g2∧n≤g3)∧((0 < s.nodes.length→¬ K g1)∧(0 < s.ses.length→¬ K g2)∧(0 < s.marks.length→¬ K g3)) ∧
  ((0 < s.nodes.length→0 < s.ses.length→g1≠g2)∧(0 < s.nodes.length→0 < s.marks.length→g1≠g3)∧(0 < s.ses.length→0 < s.marks.length→g2≠g3)) ∧
  Own w vn g1 s.nodes∧EOwn w vs g2 s.ses∧MOwn w vm g3 s.marks
theorem Own.ltS {w:World} {v:Value} {g:Nat} {zs:List Zn} (h:Own w v g zs) (h0:0 < zs.length):g < w.heap.size:=by
 exact m37z
theorem EOwn.ltS {w:World} {v:Value} {g:Nat} {zs:List Se} (h:EOwn w v g zs) (h0:0 < zs.length):g < w.heap.size:=by
 exact m37z
theorem MOwn.ltS {w:World} {v:Value} {g:Nat} {zs:List Mk} (h:MOwn w v g zs) (h0:0 < zs.length):g < w.heap.size:=by
 exact m37z
theorem Own.nilS {w w' : World} {v:Value} {g g' : Nat} {zs:List Zn} (h:Own w v g zs) (h0:¬ 0 < zs.length):Own w' v g' zs:=by
 exact m32z
theorem EOwn.nilS {w w' : World} {v:Value} {g g' : Nat} {zs:List Se} (h:EOwn w v g zs) (h0:¬ 0 < zs.length):EOwn w' v g' zs:=by
 exact m32z
theorem Own.updS {w w' : World} {v:Value} {g b:Nat} {zs:List Zn} (h:Own w v g zs) (he:Upd b w w') (hne:0 < zs.length→g≠b):Own w' v g zs:=by
 by_cases h0:0 < zs.length
 ·exact h.stp (P:=True) (Stp.of_upd trivial he) fun _ _=>hne h0
 ·exact h.nilS h0
theorem EOwn.updS {w w' : World} {v:Value} {g b:Nat} {zs:List Se} (h:EOwn w v g zs) (he:Upd b w w') (hne:0 < zs.length→g≠b):EOwn w' v g zs:=by
 by_cases h0:0 < zs.length
 ·exact h.stp (P:=True) (Stp.of_upd trivial he) fun _ _=>hne h0
 ·exact h.nilS h0
theorem MOwn.updS {w w' : World} {v:Value} {g b:Nat} {zs:List Mk} (h:MOwn w v g zs) (he:Upd b w w') (hne:0 < zs.length→g≠b):MOwn w' v g zs:=by
 by_cases h0:0 < zs.length
 ·exact h.stp (P:=True) (Stp.of_upd trivial he) fun _ _=>hne h0
 ·exact h.nil h0
theorem SHas.slice {n:Nat} {K:Nat→Prop} {w:World} {vn vs vm:Value} {s:Stt} (h:SHas n K w vn vs vm s):SSlice w vn vs vm s:=by
 obtain⟨g1,g2,g3,-,-,-,h1,h2,h3⟩:=h
 exact⟨h1.slice,h2.slice,h3.slice⟩
theorem SHas.ext {n:Nat} {K:Nat→Prop} {w w' : World} {vn vs vm:Value} {s:Stt} (h:SHas n K w vn vs vm s) (he:Ext w w'):SHas n K w' vn vs vm s:=by
 obtain⟨g1,g2,g3,a,b,c,h1,h2,h3⟩:=h
 exact⟨g1,g2,g3,a,b,c,h1.ext he,h2.ext he,h3.ext he⟩
/-- What turns a block of K alone leaves them. -/
theorem SHas.upd {n B:Nat} {K:Nat→Prop} {w w' : World} {vn vs vm:Value} {s:Stt} (h:SHas n K w vn vs vm s) (he:Upd B w w') (hB:K B):SHas n K w' vn vs vm s:=by
 obtain⟨g1,g2,g3,a,⟨b1,b2,b3⟩,c,h1,h2,h3⟩:=h
 exact⟨g1,g2,g3,a,⟨b1,b2,b3⟩,c,h1.updS he (fun h0 e=>b1 h0 (e ▸ hB)),h2.updS he (fun h0 e=>b2 h0 (e ▸ hB)),h3.updS he (fun h0 e=>b3 h0 (e ▸ hB))⟩
theorem SHas.least {n m:Nat} {K:Nat→Prop} {w:World} {vn vs vm:Value} {s:Stt} (h:SHas n K w vn vs vm s) (hm:m≤n):SHas m K w vn vs vm s:=by
 obtain⟨g1,g2,g3,⟨a1,a2,a3⟩,b,c,h1,h2,h3⟩:=h
 exact⟨g1,g2,g3,⟨Nat.le_trans hm a1,Nat.le_trans hm a2,Nat.le_trans hm a3⟩,b,c,h1,h2,h3⟩
theorem SHas.turn {n:Nat} {K K' : Nat→Prop} {w:World} {vn vs vm:Value} {s:Stt} (h:SHas n K w vn vs vm s) (hk:∀ b,b < w.heap.size→K' b→K b):SHas n K' w vn vs vm s:=by
 obtain⟨g1,g2,g3,a,⟨b1,b2,b3⟩,c,h1,h2,h3⟩:=h
 exact⟨g1,g2,g3,a,⟨fun h0 h=>b1 h0 (hk _ (h1.ltS h0) h),fun h0 h=>b2 h0 (hk _ (h2.ltS h0) h),fun h0 h=>b3 h0 (hk _ (h3.ltS h0) h)⟩,c,h1,h2,h3⟩
/-- New nodes in place of the old ones. -/
theorem SHas.nodes {n g:Nat} {K:Nat→Prop} {w w' : World} {vn vs vm v:Value} {s:Stt} {zs:List Zn} (h:SHas n K w vn vs vm s) (he:Ext w w') (hO:Own w' v g zs) (hg:w.heap.size≤g) (hn:n≤w.heap.size) (hK:¬ K g):SHas n K w' v vs vm { s with nodes:=zs }:=by
 obtain⟨g1,g2,g3,⟨a1,a2,a3⟩,⟨b1,b2,b3⟩,⟨c1,c2,c3⟩,h1,h2,h3⟩:=h
 exact⟨g,g2,g3,⟨Nat.le_trans hn hg,a2,a3⟩,⟨fun _=>hK,b2,b3⟩,⟨fun _ h0=>by have:=h2.ltS h0;omega,fun _ h0=>by have:=h3.ltS h0;omega,c3⟩,hO,h2.ext he,h3.ext he⟩
theorem SHas.ses {n g:Nat} {K:Nat→Prop} {w w' : World} {vn vs vm v:Value} {s:Stt} {zs:List Se} (h:SHas n K w vn vs vm s) (he:Ext w w') (hO:EOwn w' v g zs) (hg:w.heap.size≤g) (hn:n≤w.heap.size) (hK:¬ K g):SHas n K w' vn v vm { s with ses:=zs }:=by
 obtain⟨g1,g2,g3,⟨a1,a2,a3⟩,⟨b1,b2,b3⟩,⟨c1,c2,c3⟩,h1,h2,h3⟩:=h
 exact⟨g1,g,g3,⟨a1,Nat.le_trans hn hg,a3⟩,⟨b1,fun _=>hK,b3⟩,⟨fun h0 _=>by have:=h1.ltS h0;omega,c2,fun _ h0=>by have:=h3.ltS h0;omega⟩,h1.ext he,hO,h3.ext he⟩
theorem SHas.marks {n g:Nat} {K:Nat→Prop} {w w' : World} {vn vs vm v:Value} {s:Stt} {zs:List Mk} (h:SHas n K w vn vs vm s) (he:Ext w w') (hO:MOwn w' v g zs) (hg:w.heap.size≤g) (hn:n≤w.heap.size) (hK:¬ K g):SHas n K w' vn vs v { s with marks:=zs }:=by
 obtain⟨g1,g2,g3,⟨a1,a2,a3⟩,⟨b1,b2,b3⟩,⟨c1,c2,c3⟩,h1,h2,h3⟩:=h
 exact⟨g1,g2,g,⟨a1,a2,Nat.le_trans hn hg⟩,⟨b1,b2,fun _=>hK⟩,⟨c1,fun h0 _=>by have:=h1.ltS h0;omega,fun h0 _=>by have:=h2.ltS h0;omega⟩,h1.ext he,h2.ext he,hO⟩
/-- The state s lies in box B, its lists in no block of K. -/
def StAt (n B:Nat) (K:Nat→Prop) (w:World) (s:Stt):Prop:=∃ vn vs vm,SBoxAt w B vn vs (.int .i64 s.now) vm∧SHas n K w vn vs vm s
theorem StAt.ext {n B:Nat} {K:Nat→Prop} {w w' : World} {s:Stt} (h:StAt n B K w s) (he:Ext w w'):StAt n B K w' s:=by
 obtain⟨vn,vs,vm,h1,h2⟩:=h
 exact⟨vn,vs,vm,h1.ext he,h2.ext he⟩
theorem StAt.turn {n B:Nat} {K K' : Nat→Prop} {w:World} {s:Stt} (h:StAt n B K w s) (hk:∀ b,b < w.heap.size→K' b→K b):StAt n B K' w s:=by
 obtain⟨vn,vs,vm,h1,h2⟩:=h
 exact⟨vn,vs,vm,h1,h2.turn hk⟩
theorem StAt.lt {n B:Nat} {K:Nat→Prop} {w:World} {s:Stt} (h:StAt n B K w s):B < w.heap.size:=by
 obtain⟨vn,vs,vm,h1,-⟩:=h
 exact h1.1
/-- What a step leaves: block B alone has turned; without a code the box holds the state that came of it. -/
def Step (n B:Nat) (K:Nat→Prop) (w:World) (q:Ry × Stt) (e:Ending) (w' : World):Prop :=
 e = .returned (yagg q.1.code q.1.value q.1.path)∧Upd B w w'∧(∃ v0 v1 v2 v3,SBoxAt w' B v0 v1 v2 v3∧w.cell? ⟨B,3,none⟩=some v3)∧(q.1.code=0→StAt n B (fun b=>b < w.heap.size∧K b) w' q.2)
/-- A function that is handed box B with the state s in it makes q of that. -/
def Does (n B:Nat) (F:FuncId) (caps:Array Value) (w:World) (s:Stt) (q:Ry × Stt):Prop :=
 ∀ wx K,Ext w wx→StAt n B K wx s→K B→Calls Tryz.prog F (#[.pointer (some ⟨B,0,none⟩)] ++ caps) wx (Step n B K wx q)
/-- A state that may be gone on from. -/
def Sta.right (s:Stt):Prop:=Tre.fault s.nodes=0∧Ses.fault s.ses=0∧Ses.nowOk s.now=true
theorem Sta.right_of {s:Stt} (h:Sta.fault s=0):Sta.right s:=by
 obtain⟨h1,h2,h3,-,-⟩:=Sta.fault_zero h
 exact⟨h1,h2,h3⟩
end Go.Proofs.YtpdejinkmnhioaaGreatDoor
