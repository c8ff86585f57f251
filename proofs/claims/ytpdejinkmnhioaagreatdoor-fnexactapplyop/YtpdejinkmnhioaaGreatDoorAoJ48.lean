/- RowZ, RowO, RowE, RowN, RowC, RowG, in one text. -/
import Derived.Test.YtpdejinkmnhioaaGreatDoorAoJ1
import Derived.ChangeSame
import Derived.ChangeVars
import Derived.ChangeOld
import Derived.Below
import Derived.Carry
import Derived.RowKit
import Derived.ProofKit
import Derived.OpenShut
import Derived.Deep.Slices
import Derived.Test.YtpdejinkmnhioaaGreatDoorAoJ18
import Derived.Test.YtpdejinkmnhioaaGreatDoorAoJ3
import Derived.Test.YtpdejinkmnhioaaGreatDoorCards
import Derived.Test.YtpdejinkmnhioaaGreatDoorTie
import Derived.Test.YtpdejinkmnhioaaGreatDoorAoJ9
import Derived.JoinedOf
import Derived.RowKitTokens
import Derived.LaidLaws
import Derived.LaidHandle
import Derived.Stop.Joined
import Derived.SevenTiedAt
import Derived.Stop.LaidErr
import Derived.Lib.LaidTab
import Derived.Test.YtpdejinkmnhioaaGreatDoorAoMk
namespace Go.Proofs.YtpdejinkmnhioaaGreatDoor
open Go.ChangeShapes Go.WideShapes Go.ChangeAt Go.RowKit
theorem laid_outZ:laidOutB Tryz.prog=true:=by kernel_rfl
instance:Inhabited Zn:=⟨⟨ByteArray.empty,0,0,0,0⟩⟩
theorem nodes_add (a:Addr) (i k:Nat):(a.add i).add k=a.add (i+k):=Deep.add_add a i k
theorem spot_none {W:World} {a:Addr} {v:Value} (h:W.cell? a=some v):a=⟨a.block,a.off,none⟩:=by
 obtain⟨b,o,s⟩:=a
 cases s with
 | none=>rfl
 | some x=>simp [World.cell?] at h;split at h <;> simp at h
set_option maxRecDepth 100000 in
theorem open_node {H:Type} {enc:TypeId × Value→H} {W:World} {n:Nat} {cs:List Value} {x:DataW H × List MemPlace} {a:Addr}
  (hc:W.cells? 0 a 5=some cs) (h:DataW.trod enc Tryz.prog W 0 (fun _=>true) true n 151 cs=some x) :
  ∃ z:Zn,z.path.size≤maxLen∧W.cell? (a.add 0)=some (.string z.path)∧W.cell? (a.add 1)=some (.int .i64 z.data)∧W.cell? (a.add 2)=some (.int .i64 z.version)∧W.cell? (a.add 3)=some (.int .i64 z.owner)∧W.cell? (a.add 4)=some (.int .i64 z.next):=by
 obtain⟨_,hl,hcell⟩:=World.cells?_some hc
 obtain⟨xs,n',_,_,_,hlen,hf⟩:=DataW.trod_struct Tryz.underlying151 h
 match cs,hl with
 | [u0,u1,u2,u3,u4],_ =>
  match xs,hlen with
  | [y0,y1,y2,y3,y4],_ =>
   have f0:=hf 0 _ rfl
   have f1:=hf 1 _ rfl
   have f2:=hf 2 _ rfl
   have f3:=hf 3 _ rfl
   have f4:=hf 4 _ rfl
   simp only [List.getElem?_cons_zero,List.getElem?_cons_succ] at f0 f1 f2 f3 f4
   obtain⟨s,e0,_,hs⟩:=DataW.trod_string Tryz.underlying9 f0
   obtain⟨m1,e1,_,_⟩:=DataW.trod_int Tryz.underlying2 f1
   obtain⟨m2,e2,_,_⟩:=DataW.trod_int Tryz.underlying2 f2
   obtain⟨m3,e3,_,_⟩:=DataW.trod_int Tryz.underlying2 f3
   obtain⟨m4,e4,_,_⟩:=DataW.trod_int Tryz.underlying2 f4
   injection e0 with e0 _
   injection e1 with e1 _
   injection e2 with e2 _
   injection e3 with e3 _
   injection e4 with e4 _
   subst e0 e1 e2 e3 e4
   exact⟨⟨s,m1,m2,m3,m4⟩,hs,hcell 0 (by omega),hcell 1 (by omega),hcell 2 (by omega),hcell 3 (by omega),hcell 4 (by omega)⟩
set_option maxRecDepth 100000 in
theorem open_nodes {H:Type} {enc:TypeId × Value→H} {W:World} {v:Value} {d:DataW H} {ps:List MemPlace}
  (h:DataW.Trod enc Tryz.prog W 0 (fun _=>true) true 22 v d ps) (hv:∃ a l c,v = .slice a l c):∃ zs,NSlice W v zs∧∀ z ∈ zs,z.path.size≤maxLen:=by
 obtain⟨a0,l0,c0,rfl⟩:=hv
 obtain⟨fuel,hf⟩:=h
 have c5 : Tryz.prog.cellsOf 151=5:=by kernel_rfl
 rcases Deep.open_slice Tryz.underlying22 hf with ⟨hcs,_⟩ | ⟨a,len,cap,m,n,D,Pl,hcs,_,hl,hm,hmm,_,hx⟩
 ·simp [Value.cells] at hcs
  obtain⟨rfl,rfl,rfl⟩:=hcs
  exact⟨[],⟨none,0,rfl,Nat.le_refl _,by unfold maxLen;omega,fun h=>by simp at h⟩,fun z hz=>by cases hz⟩
 ·simp [Value.cells] at hcs
  obtain⟨rfl,rfl,rfl⟩:=hcs
  have hmc:m=c0:=by simpa using hmm
  subst hmc
  rw [c5] at hx
  obtain⟨f,hfz⟩:=Deep.choose_lt (α:=Zn) (p:=fun i z=>z.path.size≤maxLen∧W.cell? (a.add (i * 5+0))=some (.string z.path)∧W.cell? (a.add (i * 5+1))=some (.int .i64 z.data)∧W.cell? (a.add (i * 5+2))=some (.int .i64 z.version)∧W.cell? (a.add (i * 5+3))=some (.int .i64 z.owner)∧W.cell? (a.add (i * 5+4))=some (.int .i64 z.next)) (n:=m) (fun i hi=>by
   obtain⟨cs',h1,h2⟩:=hx i hi
   obtain⟨z,h3⟩:=open_node h1 h2
   simp only [nodes_add] at h3
   exact⟨z,h3⟩)
  refine⟨(List.range l0).map f,⟨some a,m,by simp,by simpa using hl,hm,fun h0=>?_⟩,fun z hz=>?_⟩
  ·exact m23z
  ·obtain⟨i,hi,rfl⟩:=List.mem_map.1 hz
   rw [List.mem_range] at hi
   exact (hfz i (by omega)).1
end Go.Proofs.YtpdejinkmnhioaaGreatDoor
namespace Go.Proofs.YtpdejinkmnhioaaGreatDoor
open Go.ChangeShapes Go.WideShapes Go.ChangeAt Go.RowKit
set_option maxRecDepth 100000 in
theorem open_opL {H:Type} {enc:TypeId × Value→H} {W:World} {n:Nat} {cs:List Value} {x:DataW H × List MemPlace}
  (hl:cs.length=6) (h:DataW.trod enc Tryz.prog W 0 (fun _=>true) true n 28 cs=some x) :
  ∃ z:Opn,z.path.size≤maxLen∧cs = [.int .i64 z.kind,.string z.path,.int .i64 z.data,.int .i64 z.version,.bool z.seq,.bool z.own]:=by
 obtain⟨xs,n',_,_,_,hlen,hf⟩:=DataW.trod_struct Tryz.underlying28 h
 match cs,hl with
 | [u0,u1,u2,u3,u4,u5],_ =>
  match xs,hlen with
  | [y0,y1,y2,y3,y4,y5],_ =>
   have f0:=hf 0 _ rfl
   have f1:=hf 1 _ rfl
   have f2:=hf 2 _ rfl
   have f3:=hf 3 _ rfl
   have f4:=hf 4 _ rfl
   have f5:=hf 5 _ rfl
   simp only [List.getElem?_cons_zero,List.getElem?_cons_succ] at f0 f1 f2 f3 f4 f5
   obtain⟨m0,e0,_,_⟩:=DataW.trod_int Tryz.underlying2 f0
   obtain⟨s,e1,_,hs⟩:=DataW.trod_string Tryz.underlying9 f1
   obtain⟨m2,e2,_,_⟩:=DataW.trod_int Tryz.underlying2 f2
   obtain⟨m3,e3,_,_⟩:=DataW.trod_int Tryz.underlying2 f3
   obtain⟨m4,e4,_⟩:=DataW.trod_bool Tryz.underlying4 f4
   obtain⟨m5,e5,_⟩:=DataW.trod_bool Tryz.underlying4 f5
   injection e0 with e0 _
   injection e1 with e1 _
   injection e2 with e2 _
   injection e3 with e3 _
   injection e4 with e4 _
   injection e5 with e5 _
   subst e0 e1 e2 e3 e4 e5
   exact⟨⟨m0,s,m2,m3,m4,m5⟩,hs,rfl⟩
set_option maxRecDepth 100000 in
theorem open_opV {H:Type} {enc:TypeId × Value→H} {W:World} {v:Value} {d:DataW H} {ps:List MemPlace}
  (h:DataW.Trod enc Tryz.prog W 0 (fun _=>true) true 28 v d ps) (hv:∃ cs,v = .agg cs∧cs.size = Tryz.prog.cellsOf 28):∃ z:Opn,v=oagg z∧z.path.size≤maxLen:=by
 obtain⟨cs,rfl,hsz⟩:=hv
 have c5 : Tryz.prog.cellsOf 28=6:=by kernel_rfl
 rw [c5] at hsz
 obtain⟨fuel,hf⟩:=h
 obtain⟨z,hz,hcs⟩:=open_opL (cs:=cs.toList) (by simpa using hsz) hf
 refine⟨z,?_,hz⟩
 unfold oagg
 congr 1
 exact Array.toList_inj.1 (by rw [hcs])
end Go.Proofs.YtpdejinkmnhioaaGreatDoor
namespace Go.Proofs.YtpdejinkmnhioaaGreatDoor
open Go.ChangeShapes Go.WideShapes Go.ChangeAt Go.RowKit
set_option maxRecDepth 100000 in
theorem open_ses {H:Type} {enc:TypeId × Value→H} {W:World} {n:Nat} {cs:List Value} {x:DataW H × List MemPlace} {a:Addr}
  (hc:W.cells? 0 a 2=some cs) (h:DataW.trod enc Tryz.prog W 0 (fun _=>true) true n 174 cs=some x) :
  ∃ s:Se,W.cell? (a.add 0)=some (.int .i64 s.id)∧W.cell? (a.add 1)=some (.int .i64 s.til):=by
 obtain⟨_,hl,hcell⟩:=World.cells?_some hc
 obtain⟨xs,n',_,_,_,hlen,hf⟩:=DataW.trod_struct Tryz.underlying174 h
 match cs,hl with
 | [u0,u1],_ =>
  match xs,hlen with
  | [y0,y1],_ =>
   have f0:=hf 0 _ rfl
   have f1:=hf 1 _ rfl
   simp only [List.getElem?_cons_zero,List.getElem?_cons_succ] at f0 f1
   obtain⟨b0,e0,_,_⟩:=DataW.trod_int Tryz.underlying2 f0
   obtain⟨m1,e1,_,_⟩:=DataW.trod_int Tryz.underlying2 f1
   injection e0 with e0 _
   injection e1 with e1 _
   subst e0 e1
   exact⟨⟨b0,m1⟩,hcell 0 (by omega),hcell 1 (by omega)⟩
set_option maxRecDepth 100000 in
theorem open_sess {H:Type} {enc:TypeId × Value→H} {W:World} {v:Value} {d:DataW H} {ps:List MemPlace}
  (h:DataW.Trod enc Tryz.prog W 0 (fun _=>true) true 23 v d ps) (hv:∃ a l c,v = .slice a l c):∃ l,ESlice W v l:=by
 obtain⟨a0,l0,c0,rfl⟩:=hv
 obtain⟨fuel,hf⟩:=h
 have c5 : Tryz.prog.cellsOf 174=2:=by kernel_rfl
 rcases Deep.open_slice Tryz.underlying23 hf with ⟨hcs,_⟩ | ⟨a,len,cap,m,n,D,Pl,hcs,_,hl,hm,hmm,_,hx⟩
 ·simp [Value.cells] at hcs
  obtain⟨rfl,rfl,rfl⟩:=hcs
  exact⟨[],none,0,rfl,Nat.le_refl _,by unfold maxLen;omega,fun h=>by simp at h⟩
 ·simp [Value.cells] at hcs
  obtain⟨rfl,rfl,rfl⟩:=hcs
  have hmc:m=c0:=by simpa using hmm
  subst hmc
  rw [c5] at hx
  obtain⟨f,hfz⟩:=Deep.choose_lt (α:=Se) (p:=fun i z=>W.cell? (a.add (i * 2+0))=some (.int .i64 z.id)∧W.cell? (a.add (i * 2+1))=some (.int .i64 z.til)) (n:=m) (fun i hi=>by
   obtain⟨cs',h1,h2⟩:=hx i hi
   obtain⟨z,h3⟩:=open_ses h1 h2
   simp only [nodes_add] at h3
   exact⟨z,h3⟩)
  refine⟨(List.range l0).map f,some a,m,by simp,by simpa using hl,hm,fun h0=>?_⟩
  have h0' : 0 < l0:=by simpa using h0
  have hs:a=⟨a.block,a.off,none⟩:=spot_none (by have:=(hfz 0 (by omega)).1;simpa [Addr.add] using this)
  refine⟨a.block,a.off,by rw [← hs],World.block_lt_of_cell? W _ (hfz 0 (by omega)).1,?_⟩
  intro i z hz
  rw [List.getElem?_map] at hz
  obtain⟨j,hj,rfl⟩:=Option.map_eq_some_iff.1 hz
  have hi:=(List.getElem?_eq_some_iff.1 hj).1
  rw [List.length_range] at hi
  have hj2:i=j:=by rw [List.getElem?_range hi] at hj;exact Option.some.inj hj
  subst hj2
  obtain⟨q0,q1⟩:=hfz i (by omega)
  rw [hs,Addr.add_lit] at q0 q1
  simp only [Nat.add_zero,← Nat.add_assoc] at q0 q1
  exact⟨q0,q1⟩
end Go.Proofs.YtpdejinkmnhioaaGreatDoor
namespace Go.Proofs.YtpdejinkmnhioaaGreatDoor
open Go.ChangeShapes Go.WideShapes Go.ChangeAt Go.RowKit
set_option maxRecDepth 100000 in
theorem open_replyL {H:Type} {enc:TypeId × Value→H} {W:World} {n:Nat} {cs:List Value} {x:DataW H × List MemPlace}
  (hl:cs.length=3) (h:DataW.trod enc Tryz.prog W 0 (fun _=>true) true n 153 cs=some x) :
  ∃ (c v:Int) (p:ByteArray),p.size≤maxLen∧cs = [.int .i64 c,.int .i64 v,.string p]:=by
 obtain⟨xs,n',_,_,_,hlen,hf⟩:=DataW.trod_struct Tryz.underlying153 h
 match cs,hl with
 | [u0,u1,u2],_ =>
  match xs,hlen with
  | [y0,y1,y2],_ =>
   have f0:=hf 0 _ rfl
   have f1:=hf 1 _ rfl
   have f2:=hf 2 _ rfl
   simp only [List.getElem?_cons_zero,List.getElem?_cons_succ] at f0 f1 f2
   obtain⟨m0,e0,_,_⟩:=DataW.trod_int Tryz.underlying2 f0
   obtain⟨m1,e1,_,_⟩:=DataW.trod_int Tryz.underlying2 f1
   obtain⟨s,e2,_,hs⟩:=DataW.trod_string Tryz.underlying9 f2
   injection e0 with e0 _
   injection e1 with e1 _
   injection e2 with e2 _
   subst e0 e1 e2
   exact⟨m0,m1,s,hs,rfl⟩
set_option maxRecDepth 100000 in
theorem open_markL {H:Type} {enc:TypeId × Value→H} {W:World} {n:Nat} {cs:List Value} {x:DataW H × List MemPlace}
  (hl:cs.length=5) (h:DataW.trod enc Tryz.prog W 0 (fun _=>true) true n 155 cs=some x) :
  ∃ z:Mk,z.path.size≤maxLen∧cs = [.int .i64 z.client,.int .i64 z.number,.int .i64 z.code,.int .i64 z.value,.string z.path]:=by
 obtain⟨xs,n',_,_,_,hlen,hf⟩:=DataW.trod_struct Tryz.underlying155 h
 match cs,hl with
 | [u0,u1,u2,u3,u4],_ =>
  match xs,hlen with
  | [y0,y1,y2],_ =>
   have f0:=hf 0 _ rfl
   have f1:=hf 1 _ rfl
   have f2:=hf 2 _ rfl
   simp only [List.getElem?_cons_zero,List.getElem?_cons_succ] at f0 f1 f2
   obtain⟨m0,e0,_,_⟩:=DataW.trod_int Tryz.underlying2 f0
   obtain⟨m1,e1,_,_⟩:=DataW.trod_int Tryz.underlying2 f1
   obtain⟨m2,m3,s,hs,e2⟩:=open_replyL (cs:=[u2,u3,u4]) rfl f2
   injection e0 with e0 _
   injection e1 with e1 _
   injection e2 with e2 e3
   injection e3 with e3 e4
   injection e4 with e4 _
   subst e0 e1 e2 e3 e4
   exact⟨⟨m0,m1,m2,m3,s⟩,hs,rfl⟩
set_option maxRecDepth 100000 in
theorem open_marksL {H:Type} {enc:TypeId × Value→H} {W:World} {n:Nat} {u:Value} {x:DataW H × List MemPlace}
  (hf:DataW.trod enc Tryz.prog W 0 (fun _=>true) true n 24 [u]=some x):∃ zs,MSlice W u zs∧∀ z ∈ zs,z.path.size≤maxLen:=by
 have c5 : Tryz.prog.cellsOf 155=5:=by kernel_rfl
 rcases Deep.open_slice Tryz.underlying24 hf with ⟨hcs,_⟩ | ⟨a,l0,cap,m,n,D,Pl,hcs,_,hl,hm,hmm,_,hx⟩
 ·simp at hcs
  subst hcs
  exact⟨[],⟨none,0,rfl,Nat.le_refl _,by unfold maxLen;omega,fun h=>by simp at h⟩,fun z hz=>by cases hz⟩
 ·simp at hcs
  subst hcs
  have hmc:m=cap:=by simpa using hmm
  subst hmc
  rw [c5] at hx
  obtain⟨f,hfz⟩:=Deep.choose_lt (α:=Mk) (p:=fun i z=>z.path.size≤maxLen∧W.cell? (a.add (i * 5+0))=some (.int .i64 z.client)∧W.cell? (a.add (i * 5+1))=some (.int .i64 z.number)∧W.cell? (a.add (i * 5+2))=some (.int .i64 z.code)∧W.cell? (a.add (i * 5+3))=some (.int .i64 z.value)∧W.cell? (a.add (i * 5+4))=some (.string z.path)) (n:=m) (fun i hi=>by
   obtain⟨cs',h1,h2⟩:=hx i hi
   obtain⟨_,hl6,hcell⟩:=World.cells?_some h1
   obtain⟨z,hz,hcs⟩:=open_markL hl6 h2
   subst hcs
   have q0:=hcell 0 (by omega)
   have q1:=hcell 1 (by omega)
   have q2:=hcell 2 (by omega)
   have q3:=hcell 3 (by omega)
   have q4:=hcell 4 (by omega)
   simp only [nodes_add] at q0 q1 q2 q3 q4
   exact⟨z,hz,q0,q1,q2,q3,q4⟩)
  refine⟨(List.range l0).map f,⟨some a,m,by simp,by simpa using hl,hm,fun h0=>?_⟩,fun z hz=>?_⟩
  ·exact m23z
  ·obtain⟨i,hi,rfl⟩:=List.mem_map.1 hz
   rw [List.mem_range] at hi
   exact (hfz i (by omega)).1
set_option maxRecDepth 100000 in
theorem open_state {H:Type} {enc:TypeId × Value→H} {W:World} {v:Value} {d:DataW H} {ps:List MemPlace}
  (h:DataW.Trod enc Tryz.prog W 0 (fun _=>true) true 26 v d ps) (hv:∃ cs,v = .agg cs∧cs.size = Tryz.prog.cellsOf 26) :
  ∃ (s:Stt) (vn vs vm:Value),v=sagg vn vs s.now vm∧SSlice W vn vs vm s∧s.fits:=by
 obtain⟨cs,rfl,hsz⟩:=hv
 have c5 : Tryz.prog.cellsOf 26=4:=by kernel_rfl
 rw [c5] at hsz
 obtain⟨fuel,hf⟩:=h
 obtain⟨xs,n',_,_,_,hlen,hfl⟩:=DataW.trod_struct Tryz.underlying26 hf
 match xs,hlen with
 | [y0,y1,y2,y3],_ =>
  obtain⟨u0,u1,u2,u3,rfl⟩:∃ u0 u1 u2 u3,cs = #[u0,u1,u2,u3]:=by
   match cs,hsz with
   | ⟨[u0,u1,u2,u3]⟩,_=>exact⟨u0,u1,u2,u3,rfl⟩
  have f0:=hfl 0 _ rfl
  have f1:=hfl 1 _ rfl
  have f2:=hfl 2 _ rfl
  have f3:=hfl 3 _ rfl
  simp only [List.getElem?_cons_zero,List.getElem?_cons_succ] at f0 f1 f2 f3
  obtain⟨m2,e2,_,_⟩:=DataW.trod_int Tryz.underlying2 f2
  have g2:u2 = .int .i64 m2:=by injection e2
  subst g2
  have hu0:∃ a l c,u0 = .slice a l c:=by
   rcases Deep.open_slice Tryz.underlying22 f0 with ⟨hcs,_⟩ | ⟨a,l0,cap,m,n,D,Pl,hcs,_⟩
   ·exact⟨_,_,_,(List.cons.inj hcs).1⟩
   ·exact⟨_,_,_,(List.cons.inj hcs).1⟩
  have hu1:∃ a l c,u1 = .slice a l c:=by
   rcases Deep.open_slice Tryz.underlying23 f1 with ⟨hcs,_⟩ | ⟨a,l0,cap,m,n,D,Pl,hcs,_⟩
   ·exact⟨_,_,_,(List.cons.inj hcs).1⟩
   ·exact⟨_,_,_,(List.cons.inj hcs).1⟩
  obtain⟨a0,l0,k0,rfl⟩:=hu0
  obtain⟨a1,l1,k1,rfl⟩:=hu1
  obtain⟨zs,hS,hz⟩:=open_nodes (v:=.slice a0 l0 k0) (d:=y0.1) (ps:=y0.2) ⟨_,f0⟩ ⟨_,_,_,rfl⟩
  obtain⟨es,hE⟩:=open_sess (v:=.slice a1 l1 k1) (d:=y1.1) (ps:=y1.2) ⟨_,f1⟩ ⟨_,_,_,rfl⟩
  obtain⟨ms,hM,hy⟩:=open_marksL f3
  exact⟨⟨zs,es,m2,ms⟩,.slice a0 l0 k0,.slice a1 l1 k1,u3,rfl,⟨hS,hE,hM⟩,hz,hy⟩
end Go.Proofs.YtpdejinkmnhioaaGreatDoor
namespace Go.Proofs.YtpdejinkmnhioaaGreatDoor
open Go.ChangeShapes Go.WideShapes Go.RowKit
theorem own_knob:ownKnob Tryz.prog.godebug=none:=by kernel_rfl
theorem gErr : Tryz.prog.globalNamed "errors.errorType" = some 0 := by kernel_rfl
theorem gRt : (Tryz.prog.cutTypes.find? (·.1 == "internal/reflectlite.rtype")).map (·.2) = some 332 := by kernel_rfl
theorem gOne:((List.range 414).filter fun t=>Tryz.prog.rowNamed t [101,114,114,111,114]) = [238]:=by kernel_rfl
theorem gSize : Tryz.prog.types.size = 414:=by kernel_rfl
/-- What the list gives a walk: the variable's one cell. -/
theorem gd_of_laid {W : World} (h : laidMetH Tryz.prog [("errors.errorType", Rows.laid_errors_errorType)] W) : Gd W := by
 have h' : laidMet Tryz.prog [] W ∧ handlesMet Tryz.prog [("errors.errorType", Rows.laid_errors_errorType)] W := h
 obtain⟨name,u,ty,e1,e2,e3,e4,e5⟩:=h'.2 _ (List.mem_singleton.2 rfl)
 have en:name = [101,114,114,111,114]:=(Option.some.inj e1).symm
 subst en
 obtain rfl:=Option.some.inj (gRt.symm.trans e2)
 have hm:ty ∈ (List.range 414).filter fun t=>Tryz.prog.rowNamed t [101,114,114,111,114]:=List.mem_filter.2 ⟨List.mem_range.2 (by rw [← gSize];exact e3),e4⟩
 rw [gOne] at hm
 obtain rfl:=List.mem_singleton.1 hm
 have hh:typeHandle Tryz.prog 238 = .pointer (some ⟨5,238,none⟩):=by kernel_rfl
 rw [hh] at e5
 have hc:=World.var?_cell gErr e5 0
 unfold Gd errH
 simpa using hc
/-- A cells block whose first cell is v. -/
def putFirst (v:Value):Obj→Obj
 | .cells _ t frozen=>.cells #[v] t frozen
 | o=>o
def putAll (vs:Array Value):Obj→Obj
 | .cells _ t frozen=>.cells vs t frozen
 | o=>o
end Go.Proofs.YtpdejinkmnhioaaGreatDoor
namespace Go.Proofs.YtpdejinkmnhioaaGreatDoor
open Go.ChangeShapes Go.WideShapes Go.RowKit
set_option maxRecDepth 100000 in
theorem gd4 {W : World} (h : laidMetH Tryz.prog [("math/bits.deBruijn32tab", Rows.laid_math_bits_deBruijn32tab), ("math/bits.deBruijn64tab", Rows.laid_math_bits_deBruijn64tab), ("internal/strconv.uint64pow10", Rows.laid_internal_strconv_uint64pow10), ("errors.errorType", Rows.laid_errors_errorType)] W) : Gd W := by
 have h' : laidMet Tryz.prog [("math/bits.deBruijn32tab", Rows.laid_math_bits_deBruijn32tab), ("math/bits.deBruijn64tab", Rows.laid_math_bits_deBruijn64tab), ("internal/strconv.uint64pow10", Rows.laid_internal_strconv_uint64pow10)] W ∧ handlesMet Tryz.prog [("errors.errorType", Rows.laid_errors_errorType)] W := h
 exact gd_of_laid (show laidMetH Tryz.prog [("errors.errorType", Rows.laid_errors_errorType)] W from ⟨laidMet_nil _ _, h'.2⟩)
end Go.Proofs.YtpdejinkmnhioaaGreatDoor
