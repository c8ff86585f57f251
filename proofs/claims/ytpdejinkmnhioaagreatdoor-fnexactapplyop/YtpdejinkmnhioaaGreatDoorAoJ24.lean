/- YA3, YA2, G3, in one text. -/
import Derived.Test.YtpdejinkmnhioaaGreatDoorAoJ23
import Derived.Test.YtpdejinkmnhioaaGreatDoorAoJ17
import Derived.Test.YtpdejinkmnhioaaGreatDoorAoJ18
import Derived.Test.YtpdejinkmnhioaaGreatDoorAoJ15
import Derived.Test.YtpdejinkmnhioaaGreatDoorAoJ10
import Derived.Test.YtpdejinkmnhioaaGreatDoorAoJ7
import Derived.Test.YtpdejinkmnhioaaGreatDoorAoMk
namespace Go.Proofs.YtpdejinkmnhioaaGreatDoor
open Go.RowKit
theorem Upd.setNew {b g:Nat} {w w' : World} (h:Upd b w w') (hb:b≤w.heap.size) (hg:w.heap.size≤g) (o:Nat) (v:Value):Upd b w (w'.setCell ⟨g,o,none⟩ v) :=
 ⟨Below.setCell (p:=⟨g,o,none⟩) h.1 (by show b≤g;omega) v,by simpa using h.2.1,fun c k hc hl=>⟨by rw [iset_ne _ _ _ _ _ _ (Or.inl (by omega))];exact (h.2.2 c k hc hl).1,by simpa using (h.2.2 c k hc hl).2⟩⟩
/-- Three cells of the reply's box are written. -/
def put3R (w:World) (R:Nat) (x y z:Value):World:=((w.setCell ⟨R,0,none⟩ x).setCell ⟨R,1,none⟩ y).setCell ⟨R,2,none⟩ z
theorem SBoxAt.put3R {w:World} {b R:Nat} {v0 v1 v2 v3 x y z:Value} (h:SBoxAt w b v0 v1 v2 v3) (hne:R≠b):SBoxAt (put3R w R x y z) b v0 v1 v2 v3:=((h.other x hne).other y hne).other z hne
theorem Upd.put3R {b R:Nat} {w w' : World} {x y z:Value} (h:Upd b w w') (hb:b≤w.heap.size) (hR:w.heap.size≤R):Upd b w (put3R w' R x y z):=((h.setNew hb hR 0 x).setNew hb hR 1 y).setNew hb hR 2 z
theorem SHas.put3R {n R:Nat} {K:Nat→Prop} {w:World} {vn vs vm x y z:Value} {s:Stt} (h:SHas n K w vn vs vm s) (hR:K R):SHas n K (put3R w R x y z) vn vs vm s:=h.upd ((((Upd.refl R w).setAt 0 x).setAt 1 y).setAt 2 z) hR
theorem stepE_done {n B g:Nat} {K:Nat→Prop} {s:Stt} {w w3 w4:World} {vn vs vm v x y z:Value} {rs:List Se} {q:Ry × Stt} {e:Ending} (hX:SBoxAt w B vn vs (.int .i64 s.now) vm) (hH:SHas n K w vn vs vm s) (hKB:K B) (hn:n≤w.heap.size) (h3:Ext w w3) (hO:EOwn w3 v g rs) (hg:w.heap.size < g) (h4:Ext (w3.setCell ⟨B,1,none⟩ v) w4)
  (hq:q.1.code=0→q.2 = { s with ses:=rs }) (he:e = .returned (yagg q.1.code q.1.value q.1.path)):Step n B K w q e (put3R w4 w.heap.size x y z):=by
 have hB:=hX.1
 have hbox:=((hX.ext h3).set1 v).ext h4
 have hs4:B≤(w3.setCell ⟨B,1,none⟩ v).heap.size:=by have:=h3.size;simp;omega
 refine⟨he,(((Upd.ext h3 (by omega)).setAt 1 v).trans (Upd.ext h4 hs4)).put3R (by omega) (Nat.le_refl _),⟨_,_,_,_,hbox.put3R (by omega),hX.2.1.2.2.2⟩,fun hc=>?_⟩
 rw [hq hc]
 refine⟨vn,v,vm,hbox.put3R (by omega),?_⟩
 have h1:=(hH.turn (K':=fun b=>(b < w.heap.size∧K b)∨b=w.heap.size) (fun b hb h=>(h.resolve_right (by omega)).2)).ses h3 hO (by omega) hn (by rintro (⟨h,-⟩ | h) <;> omega)
 exact (((h1.upd ((Upd.refl B w3).setAt 1 v) (Or.inl ⟨hB,hKB⟩)).ext h4).put3R (R:=w.heap.size) (Or.inr rfl)).turn fun b _ h=>Or.inl h
theorem stepZ_done {n B g:Nat} {K:Nat→Prop} {s:Stt} {w w3 w4:World} {vn vs vm v x y z:Value} {rs:List Zn} {q:Ry × Stt} {e:Ending} (hX:SBoxAt w B vn vs (.int .i64 s.now) vm) (hH:SHas n K w vn vs vm s) (hKB:K B) (hn:n≤w.heap.size) (h3:Ext w w3) (hO:Own w3 v g rs) (hg:w.heap.size < g) (h4:Ext (w3.setCell ⟨B,0,none⟩ v) w4)
  (hq:q.1.code=0→q.2 = { s with nodes:=rs }) (he:e = .returned (yagg q.1.code q.1.value q.1.path)):Step n B K w q e (put3R w4 w.heap.size x y z):=by
 have hB:=hX.1
 have hbox:=((hX.ext h3).set0 v).ext h4
 have hs4:B≤(w3.setCell ⟨B,0,none⟩ v).heap.size:=by have:=h3.size;simp;omega
 refine⟨he,(((Upd.ext h3 (by omega)).setAt 0 v).trans (Upd.ext h4 hs4)).put3R (by omega) (Nat.le_refl _),⟨_,_,_,_,hbox.put3R (by omega),hX.2.1.2.2.2⟩,fun hc=>?_⟩
 rw [hq hc]
 refine⟨v,vs,vm,hbox.put3R (by omega),?_⟩
 have h1:=(hH.turn (K':=fun b=>(b < w.heap.size∧K b)∨b=w.heap.size) (fun b hb h=>(h.resolve_right (by omega)).2)).nodes h3 hO (by omega) hn (by rintro (⟨h,-⟩ | h) <;> omega)
 exact (((h1.upd ((Upd.refl B w3).setAt 0 v) (Or.inl ⟨hB,hKB⟩)).ext h4).put3R (R:=w.heap.size) (Or.inr rfl)).turn fun b _ h=>Or.inl h
theorem stepR_done {n B:Nat} {K:Nat→Prop} {s:Stt} {w w3:World} {vn vs vm x y z:Value} {q:Ry × Stt} {e:Ending} (hX:SBoxAt w B vn vs (.int .i64 s.now) vm) (hH:SHas n K w vn vs vm s) (h3:Ext w w3)
  (hq:q.2=s) (he:e = .returned (yagg q.1.code q.1.value q.1.path)):Step n B K w q e (put3R w3 w.heap.size x y z):=by
 have hB:=hX.1
 refine⟨he,(Upd.ext h3 (by omega)).put3R (by omega) (Nat.le_refl _),⟨_,_,_,_,(hX.ext h3).put3R (by omega),hX.2.1.2.2.2⟩,fun hc=>?_⟩
 rw [hq]
 refine⟨vn,vs,vm,(hX.ext h3).put3R (by omega),?_⟩
 have h1:=(hH.turn (K':=fun b=>(b < w.heap.size∧K b)∨b=w.heap.size) (fun b hb h=>(h.resolve_right (by omega)).2)).ext h3
 exact (h1.put3R (R:=w.heap.size) (Or.inr rfl)).turn fun b _ h=>Or.inl h
theorem NSlice.vis {w:World} {v:Value} {zs:List Zn} (h:NSlice w v zs):∃ a cap,v = .slice a zs.length cap:=by obtain⟨a,cap,h1,-⟩:=h;exact⟨a,cap,h1⟩
theorem ESlice.vis {w:World} {v:Value} {zs:List Se} (h:ESlice w v zs):∃ a cap,v = .slice a zs.length cap:=by obtain⟨a,cap,h1,-⟩:=h;exact⟨a,cap,h1⟩
theorem MSlice.vis {w:World} {v:Value} {zs:List Mk} (h:MSlice w v zs):∃ a cap,v = .slice a zs.length cap:=by obtain⟨a,cap,h1,-⟩:=h;exact⟨a,cap,h1⟩
theorem Own.visN {w:World} {v:Value} {g:Nat} {zs:List Zn} (h:Own w v g zs) (h0:0 < zs.length):∃ off cap,v = .slice (some ⟨g,off,none⟩) zs.length cap:=by
 obtain⟨a,cap,h1,-,-,h4⟩:=h
 obtain⟨off,e,-,-⟩:=h4 h0
 exact⟨off,cap,by rw [h1,e]⟩
theorem Own.atN {w:World} {g off n cap:Nat} {zs:List Zn} (h:Own w (.slice (some ⟨g,off,none⟩) n cap) g zs) (h0:0 < zs.length):NodesAt w g off zs∧zs.length≤cap:=by
 obtain⟨a,cap',h1,h2,-,h4⟩:=h
 injection h1 with e1 e2 e3
 subst e1 e3
 obtain⟨off',e,-,hN⟩:=h4 h0
 injection e with e
 injection e with _ e _
 subst e
 exact⟨hN,h2⟩
theorem TOwn.visT {w:World} {v:Value} {g:Nat} {zs:List ByteArray} (h:TOwn w v g zs):∃ a cap,v = .slice a zs.length cap:=by obtain⟨a,cap,h1,-⟩:=h;exact⟨a,cap,h1⟩
theorem Gd.notB {w:World} {B n c:Nat} {a:Option Addr} (h:Gd w) (hb:w.cell? ⟨B,0,none⟩=some (.slice a n c)):B≠0:=by
 rintro rfl
 unfold Gd at h
 rw [hb] at h
 cases h
theorem RyAt.other {w:World} {R B o:Nat} {v0 v1 v2 v:Value} (h:RyAt w R v0 v1 v2) (hne:B≠R):RyAt (w.setCell ⟨B,o,none⟩ v) R v0 v1 v2:=by
 obtain⟨h1,⟨c0,c1,c2⟩,f0,f1,f2⟩:=h
 exact⟨by simpa using h1,⟨by rw [iset_ne _ _ _ _ _ _ (Or.inl hne)];exact c0,by rw [iset_ne _ _ _ _ _ _ (Or.inl hne)];exact c1,by rw [iset_ne _ _ _ _ _ _ (Or.inl hne)];exact c2⟩,by simpa using f0,by simpa using f1,by simpa using f2⟩
/-- The reply as it is written into a box that holds zeros. -/
theorem ry_put {w:World} {R:Nat} {v0 v1 v2 x y z:Value} (h:RyAt w R v0 v1 v2):(put3R w R x y z).cell? ⟨R,0,none⟩=some x∧(put3R w R x y z).cell? ⟨R,1,none⟩=some y∧(put3R w R x y z).cell? ⟨R,2,none⟩=some z:=by
 obtain⟨-,⟨c0,c1,c2⟩,-⟩:=h
 unfold put3R
 refine⟨?_,?_,?_⟩
 ·rw [iset_ne _ _ _ _ _ _ (by omega),iset_ne _ _ _ _ _ _ (by omega)];exact iset_eq _ _ _ _ ⟨_,c0⟩
 ·rw [iset_ne _ _ _ _ _ _ (by omega)];apply iset_eq;rw [iset_ne _ _ _ _ _ _ (by omega)];exact⟨_,c1⟩
 ·apply iset_eq;rw [iset_ne _ _ _ _ _ _ (by omega),iset_ne _ _ _ _ _ _ (by omega)];exact⟨_,c2⟩
end Go.Proofs.YtpdejinkmnhioaaGreatDoor
namespace Go.Proofs.YtpdejinkmnhioaaGreatDoor
open Go.RowKit
set_option linter.unusedSimpArgs false
def sagg2 (s:Se):Value:=.agg #[.int .i64 s.id,.int .i64 s.til]
theorem ERoom.setCells {w:World} {g off n:Nat} (h:ERoom w g off n) (o:Nat) (cs:List Value) (hall:∀ j,j < cs.length→(w.cell? ⟨g,o+j,none⟩).isSome=true):ERoom (w.setCells g o cs) g off n :=
 ⟨by rw [size_setCells];exact h.1,fun j hj=>⟨isSome_setC g cs o w _ (h.2 j hj).1 hall,by rw [World.frozen?_setCells];exact (h.2 j hj).2⟩⟩
theorem ERoom.some {w:World} {g off n:Nat} (h:ERoom w g off n) (o m:Nat) (h1:off≤o) (h2:o+m≤off+n * 2):∀ j,j < m→(w.cell? ⟨g,o+j,none⟩).isSome=true∧w.frozen? ⟨g,o+j,none⟩=false:=by
 exact m90z
theorem ERoom.less {w:World} {g off n m:Nat} (h:ERoom w g off n) (hm:m≤n):ERoom w g off m:=⟨h.1,fun j hj=>h.2 j (by omega)⟩
theorem SesAt.newsW {w:World} {b off:Nat} {l:List Se} (h:SesAt w b off l):∀ j u,(cellsE l)[j]?=some u→w.cell? ⟨b,off+j,none⟩=some u:=by
 intro j u hu
 have:=h.news j u hu
 rw [Addr.add_lit] at this
 exact this
theorem SesAt.of_news {w:World} {b off:Nat} {l:List Se} (h:∀ j u,(cellsE l)[j]?=some u→w.cell? ⟨b,off+j,none⟩=some u):SesAt w b off l:=by
 intro i s hs
 obtain⟨c0,c1⟩:=cellsE_at l i s hs
 exact⟨h _ _ c0,by rw [Nat.add_assoc];exact h _ _ c1⟩
theorem upd_putE {w w' : World} {g:Nat} (h:Upd g w w') (o:Nat) (s:Se):Upd g w (putE w' g o s):=(h.setAt o _).setAt (o+1) _
/-- The client as the closure holds it. -/
def CidAt (w:World) (B:Nat) (iv:Value) (ids:Int):Prop:=w.cell? ⟨B,0,none⟩=some iv∧iv = .int .i64 ids
theorem CidAt.ext {w w' : World} {B:Nat} {iv:Value} {ids:Int} (h:CidAt w B iv ids) (he:Ext w w'):CidAt w' B iv ids :=
 ⟨((Ext.cell he).1 _ _ (World.block_lt_of_cell? w _ h.1)).trans h.1,h.2⟩
set_option maxHeartbeats 1000000 in
set_option maxRecDepth 100000 in
theorem close1_any (B:Nat) (iv:Value) (ids:Int) (z:Se) (w:World) (h:CidAt w B iv ids) :
  Calls Tryz.prog 240 #[sagg2 z,.pointer (some ⟨B,0,none⟩)] w fun e w'=>e = .returned (.bool (goneE ids z))∧Ext w w':=by
 obtain⟨hc,rfl⟩:=h
 have hBl:=World.block_lt_of_cell? w _ hc
 have hal:=alloc_cell
 unfold goneE
 unfold sagg2
 by_cases h0:z.id=ids
 ·exact m102z
 ·exact m102z
/-- The first one that is gone behind k, or -1. -/
def idxE (ids:Int):Nat→List Se→Int
 | _,[]=>-1
 | k,z :: r=>if goneE ids z=true then (k:Int) else idxE ids (k+1) r
theorem idxE_at {ids:Int} {zs:List Se} {k:Nat} {z:Se} (h:zs[k]?=some z):idxE ids k (zs.drop k)=if goneE ids z=true then (k:Int) else idxE ids (k+1) (zs.drop (k+1)):=by
 obtain⟨hk,rfl⟩:=List.getElem?_eq_some_iff.1 h
 rw [List.drop_eq_getElem_cons hk,idxE]
theorem idxE_is (ids:Int):∀ (zs:List Se) (k:Nat),(idxE ids k zs = -1∧Sta.notId ids zs=zs)∨∃ j,j < zs.length∧idxE ids k zs=((k+j:Nat):Int)∧Sta.notId ids (zs.take j)=zs.take j∧∃ z,zs[j]?=some z∧goneE ids z=true
 | [],k=>Or.inl ⟨rfl,rfl⟩
 | z :: r,k=>by
  rw [idxE]
  by_cases h:goneE ids z=true
  ·exact Or.inr ⟨0,by simp,by rw [if_pos h];rfl,rfl,z,rfl,h⟩
  ·rw [if_neg h]
   rcases idxE_is ids r (k+1) with ⟨q1,q2⟩ | ⟨j,q1,q2,q3,z',q4,q5⟩
   ·refine Or.inl ⟨q1,?_⟩
    unfold Sta.notId at q2 ⊢
    rw [List.filter_cons_of_pos (by simpa using h),q2]
   ·refine Or.inr ⟨j+1,by simp;omega,by rw [q2];omega,?_,z',by simpa using q4,q5⟩
    unfold Sta.notId at q3 ⊢
    rw [List.take_succ_cons,List.filter_cons_of_pos (by simpa using h),q3]
set_option maxHeartbeats 1000000 in
set_option maxRecDepth 100000 in
theorem indexE_any (v:Value) (zs:List Se) (B:Nat) (iv:Value) (ids:Int) (w:World) (hS:ESlice w v zs) (h:CidAt w B iv ids) :
  Calls Tryz.prog 260 #[v,.func (.func 240) #[] #[.pointer (some ⟨B,0,none⟩)]] w fun e w'=>e = .returned (.int .i64 (idxE ids 0 zs))∧Ext w w':=by
 have HI:Hid (CidAt w B iv ids):=h
 clear h
 obtain⟨a,cap,rfl,hlc,hcm,hx⟩:=hS
 have HX:Hid (0 < zs.length→∃ b off,a=some ⟨b,off,none⟩∧b < w.heap.size∧SesAt w b off zs):=hx
 clear hx
 unfold maxLen at hcm
 go_enter Tryz.func260,Tryz.ntmps260
 go_wp2
 go_loopw [8] (fun i wr=>∃ (k:Nat),k≤zs.length∧i = .int .i64 k∧Hid (idxE ids k (zs.drop k)=idxE ids 0 zs)∧Hid (Ext w wr)) (fun i _=>zs.length - (intOf i).toNat)
 case atStart=>exact⟨0,Nat.zero_le _,rfl,rfl,Ext.refl _⟩
 case round =>
  obtain⟨k,hk,rfl,HA,HE⟩:=hrel
  by_cases hlt:k < zs.length
  ·obtain⟨z,hzk⟩:∃ z,zs[k]?=some z:=⟨_,List.getElem?_eq_getElem hlt⟩
   obtain⟨b,off,rfl,hb,hN⟩:=HX.out (by omega)
   obtain⟨d0,d1⟩:=hN.ext hb HE.out k z hzk
   have hat:=idxE_at (ids:=ids) hzk
   have HC:Hid (∀ wx,Ext w wx→Calls Tryz.prog 240 #[sagg2 z,.pointer (some ⟨B,0,none⟩)] wx fun e w'=>e = .returned (.bool (goneE ids z))∧Ext wx w'):=fun wx he=>close1_any B iv ids z wx (HI.out.ext he)
   unfold sagg2 at HC
   cases hg:goneE ids z with
   | true =>
    rw [hg] at HC
    have HR:Hid (idxE ids 0 zs=k):=by show _=_;rw [← HA.out,hat,if_pos hg]
    exact m72z
   | false =>
    rw [hg] at HC
    have HA2:Hid (idxE ids (k+1) (zs.drop (k+1))=idxE ids 0 zs):=by show _=_;rw [← HA.out,hat,if_neg (by simp [hg])]
    exact m67z
  ·have HR:Hid (idxE ids 0 zs = -1):=by show _=_;rw [← HA.out,List.drop_of_length_le (by omega),idxE]
   go_wp2
   go_ret
   exact⟨ret_int HR.out.symm,HE.out⟩
theorem zeroCellsE_one (n:Nat):∀ u ∈ (Builtin.zeroCells (Value.agg #[.int .i64 0,.int .i64 0]).cells n).toList,u.oneCell'=true:=by
 intro u hu
 rw [Array.mem_toList_iff] at hu
 unfold Builtin.zeroCells at hu
 rw [Array.mem_map] at hu
 obtain⟨i,-,rfl⟩:=hu
 have h5:i % 2=0∨i % 2=1:=by omega
 have hc:(Value.agg #[.int .i64 0,.int .i64 0]).cells = #[.int .i64 0,.int .i64 0]:=rfl
 rw [hc]
 show (#[Value.int .i64 0,.int .i64 0][i % 2]!).oneCell'=true
 rcases h5 with h | h <;> rw [h] <;> rfl
def zcsE (n:Nat):List Value:=(Builtin.zeroCells (Value.agg #[.int .i64 0,.int .i64 0]).cells n).toList
theorem zcsE_len (n:Nat):(zcsE n).length=n * 2:=by
 unfold zcsE
 rw [Array.length_toList,size_zeroCells];rfl
theorem clear_manyE (w:World) (ty:TypeId) (g o n c:Nat) (hn:0 < n) (hs:∀ j,j < n * 2→(w.cell? ⟨g,o+j,none⟩).isSome=true∧w.frozen? ⟨g,o+j,none⟩=false) :
  (Builtin.clear_ #[34] ty #[.slice (some ⟨g,o,none⟩) n c]).run Tryz.prog w = .ok (.tuple #[]) (w.setCells g o (zcsE n)):=by
 have hz:∀ w,(zeroValue 134).run Tryz.prog w = .ok (.agg #[.int .i64 0,.int .i64 0]) w:=Tryz.zeroValue134
 have hst:=run_storeCells_cells (P:=Tryz.prog) g o (zcsE n) 0 w (by rw [zcsE_len];simpa using fun j hj=>(hs j hj).1) (by rw [zcsE_len];simpa using fun j hj=>(hs j hj).2) (zeroCellsE_one n)
 simp only [Nat.add_zero] at hst
 unfold zcsE at hst ⊢
 obtain⟨m,rfl⟩:∃ m,n=m+1:=⟨n - 1,by omega⟩
 simp [Builtin.clear_,run_underlying Tryz.underlying34,hz,hst]
theorem notId_take {ids:Int} {zs:List Se} {k:Nat} {z:Se} (h:zs[k]?=some z):Sta.notId ids (zs.take (k+1))=Sta.notId ids (zs.take k) ++ (if goneE ids z=true then [] else [z]):=by
 obtain⟨hk,rfl⟩:=List.getElem?_eq_some_iff.1 h
 unfold Sta.notId
 rw [List.take_succ_eq_append_getElem hk,List.filter_append]
 congr 1
 by_cases q:goneE ids zs[k]=true
 ·simp [q]
 ·simp [q]
theorem notId_len (ids:Int) (zs:List Se):(Sta.notId ids zs).length≤zs.length:=List.length_filter_le _ _
theorem ebox_ext (w w' : World) (z:Se) (t:TypeId) (he:Ext (w.alloc (.cells #[.int .i64 z.id,.int .i64 z.til] t)) w') :
  w'.cell? ⟨w.heap.size,0,none⟩=some (.int .i64 z.id)∧w'.cell? ⟨w.heap.size,1,none⟩=some (.int .i64 z.til):=by
 have hc:=fun r=>(Ext.cell he).1 w.heap.size r (by simp)
 exact⟨(hc 0).trans (by simp),(hc 1).trans (by simp)⟩
/-- How the nodes lie when j were looked at. -/
def DelE (w wr:World) (g off n j:Nat) (ids:Int) (zs:List Se):Prop :=
 ERoom wr g off n∧SesAt wr g off (Sta.notId ids (zs.take j))∧SesAt wr g (off+j * 2) (zs.drop j)∧Upd g w wr
theorem DelE.ext {w wr wx:World} {g off n j:Nat} {ids:Int} {zs:List Se} (h:DelE w wr g off n j ids zs) (he:Ext wr wx):DelE w wx g off n j ids zs :=
 ⟨h.1.ext he,h.2.1.ext h.1.1 he,h.2.2.1.ext h.1.1 he,h.2.2.2.trans (Upd.ext he (Nat.le_of_lt h.1.1))⟩
theorem ses_next {w:World} {g o:Nat} {zs:List Se} {j:Nat} (h:SesAt w g (o+j * 2) (zs.drop j)):SesAt w g (o+(j+1) * 2) (zs.drop (j+1)):=by
 have:=h.drop 1
 rw [List.drop_drop] at this
 rw [show o+(j+1) * 2=o+j * 2+1 * 2 from by omega]
 exact this
theorem DelE.gone {w wr:World} {g off n j:Nat} {ids:Int} {zs:List Se} {z:Se} (h:DelE w wr g off n j ids zs) (hz:zs[j]?=some z) (hg:goneE ids z=true):DelE w wr g off n (j+1) ids zs :=
 ⟨h.1,by rw [notId_take hz,if_pos hg,List.append_nil];exact h.2.1,ses_next h.2.2.1,h.2.2.2⟩
theorem DelE.kept {w wr:World} {g off j:Nat} {ids:Int} {zs:List Se} {z:Se} (h:DelE w wr g off zs.length j ids zs) (hz:zs[j]?=some z) (hg:goneE ids z=false) (hm:(Sta.notId ids (zs.take j)).length < j) :
  DelE w (putE wr g (off+(Sta.notId ids (zs.take j)).length * 2) z) g off zs.length (j+1) ids zs:=by
 have hj:=(List.getElem?_eq_some_iff.1 hz).1
 have he:Sta.notId ids (zs.take (j+1))=Sta.notId ids (zs.take j) ++ [z]:=by rw [notId_take hz,if_neg (by simp [hg])]
 refine⟨h.1.put z (by omega),?_,?_,upd_putE h.2.2.2 _ _⟩
 ·have hp:=SesAt.put (l:=Sta.notId ids (zs.take (j+1))) (k:=(Sta.notId ids (zs.take j)).length) (s:=z) h.1 (by omega) (by rw [he];simp) (by rw [he,List.take_left];exact h.2.1)
  have hle:(Sta.notId ids (zs.take (j+1))).length≤(Sta.notId ids (zs.take j)).length+1:=by rw [he];simp
  rw [List.take_of_length_le hle] at hp
  exact hp
 ·have hn:=ses_next h.2.2.1
  intro i y hy
  obtain⟨c0,c1⟩:=hn i y hy
  exact⟨by rw [putE_ne _ _ _ _ _ _ (by omega)];exact c0,by rw [putE_ne _ _ _ _ _ _ (by omega)];exact c1⟩
set_option maxHeartbeats 4000000 in
set_option maxRecDepth 100000 in
theorem deleteE_any (g off cap B:Nat) (zs:List Se) (iv:Value) (ids:Int) (w:World) (hO:EOwn w (.slice (some ⟨g,off,none⟩) zs.length cap) g zs) (hp:0 < zs.length) (h:CidAt w B iv ids)
  (hI:∀ wx,Upd g w wx→CidAt wx B iv ids) :
  Calls Tryz.prog 239 #[.slice (some ⟨g,off,none⟩) zs.length cap,.func (.func 240) #[] #[.pointer (some ⟨B,0,none⟩)]] w fun e w' =>
   e = .returned (.slice (some ⟨g,off,none⟩) (Sta.notId ids zs).length cap)∧EOwn w' (.slice (some ⟨g,off,none⟩) (Sta.notId ids zs).length cap) g (Sta.notId ids zs)∧Upd g w w':=by
 have HOw:Hid (EOwn w (.slice (some ⟨g,off,none⟩) zs.length cap) g zs):=hO
 have HIdx:Hid (Calls Tryz.prog 260 #[.slice (some ⟨g,off,none⟩) zs.length cap,.func (.func 240) #[] #[.pointer (some ⟨B,0,none⟩)]] w fun e w'=>e = .returned (.int .i64 (idxE ids 0 zs))∧Ext w w'):=indexE_any _ zs B iv ids w hO.slice h
 have HC:Hid (∀ (z:Se) wx,Upd g w wx→Calls Tryz.prog 240 #[sagg2 z,.pointer (some ⟨B,0,none⟩)] wx fun e w'=>e = .returned (.bool (goneE ids z))∧Ext wx w'):=fun z wx he=>close1_any B iv ids z wx (hI wx he)
 unfold sagg2 at HC
 clear h hI
 obtain⟨a6,cap6,he6,hlc,hcm,hx6⟩:=id hO
 injection he6 with e1 e2 e3
 subst e1 e3
 obtain⟨off6,ho6,hR,hN⟩:=hx6 hp
 injection ho6 with ho6
 injection ho6 with _ ho6 _
 subst ho6
 have HRN:Hid (ERoom w g off zs.length∧SesAt w g off zs):=⟨hR,hN⟩
 clear hx6 hR hN hO
 have HCM:Hid (cap≤maxLen):=hcm
 unfold maxLen at hcm
 rcases idxE_is ids zs 0 with ⟨q1,q2⟩ | ⟨k,q1,q2,q3,z0,q4,q5⟩
 ·rw [q1] at HIdx
  rw [q2]
  clear q1 q2
  go_enter Tryz.func239,Tryz.ntmps239
  go_wp2_with fail
  refine HIdx.out.mono ?_
  rintro e w2 ⟨rfl,hb⟩
  have HB:Hid (EOwn w2 (.slice (some ⟨g,off,none⟩) zs.length cap) g zs∧Upd g w w2):=⟨HOw.out.ext hb,Upd.ext hb (Nat.le_of_lt HRN.out.1.1)⟩
  clear hb
  go_wp2
  go_ret
  exact⟨rfl,HB.out.1,HB.out.2⟩
 ·rw [q2,Nat.zero_add] at HIdx
  have HD0:Hid (∀ w2,Ext w w2→DelE w w2 g off zs.length (k+1) ids zs):=by
   intro w2 he
   have hN:=HRN.out.2.ext HRN.out.1.1 he
   refine DelE.gone ⟨HRN.out.1.ext he,?_,hN.drop k,Upd.ext he (Nat.le_of_lt HRN.out.1.1)⟩ q4 q5
   rw [q3];exact hN.take k
  have HK:Hid ((Sta.notId ids (zs.take (k+1))).length=k):=by
   show _=_
   rw [notId_take q4,if_pos q5,List.append_nil,q3,List.length_take];omega
  clear q2 q3 q4 q5
  have hkm:(((k:Nat):Int) == -1)=false:=by simp
  go_enter Tryz.func239,Tryz.ntmps239
  go_wp2_with fail
  refine HIdx.out.mono ?_
  rintro e w2 ⟨rfl,hb⟩
  have HD2:Hid (DelE w w2 g off zs.length (k+1) ids zs):=HD0.out w2 hb
  clear hb HD0 HIdx
  go_wp2
  go_loopw [5,6] (fun iv jv wr=>∃ (j m:Nat),j≤zs.length∧jv = .int .i64 j∧iv = .int .i64 m∧m < j∧Hid (m=(Sta.notId ids (zs.take j)).length)∧Hid (DelE w wr g off zs.length j ids zs)) (fun _ jv _=>zs.length - (intOf jv).toNat)
  case atStart=>exact⟨k+1,k,by omega,by go_num,rfl,by omega,HK.out.symm,HD2⟩
  case round =>
   obtain⟨j,m,hj,rfl,rfl,hmj,HM,HD⟩:=hrel
   by_cases hlt:j < zs.length
   ·obtain⟨z,hzj⟩:∃ z,zs[j]?=some z:=⟨_,List.getElem?_eq_getElem hlt⟩
    obtain⟨d0,d1⟩:=HD.out.2.2.1 0 z (by rw [List.getElem?_drop];exact hzj)
    rw [Nat.zero_mul,Nat.add_zero] at d0 d1
    cases hg:goneE ids z with
    | true =>
     have HD1:Hid (DelE w wr g off zs.length (j+1) ids zs):=HD.out.gone hzj hg
     have HM1:Hid (m=(Sta.notId ids (zs.take (j+1))).length):=by show _=_;rw [notId_take hzj,if_pos hg,List.append_nil];exact HM.out
     have HCz:Hid (∀ wx,Upd g w wx→Calls Tryz.prog 240 #[.agg #[.int .i64 z.id,.int .i64 z.til],.pointer (some ⟨B,0,none⟩)] wx fun e w'=>e = .returned (.bool true)∧Ext wx w'):=fun wx he=>by have:=HC.out z wx he;rw [hg] at this;exact this
     clear hzj hg
     go_wp2_with fail
     refine (HCz.out _ (by exact (HD1.out.ext ((Ext.refl _).alloc _)).2.2.2)).mono ?_
     rintro e w3 ⟨rfl,hb⟩
     have HD3:Hid (DelE w w3 g off zs.length (j+1) ids zs):=(HD1.out.ext ((Ext.refl _).alloc _)).ext hb
     clear hb
     go_wp2
     exact⟨⟨j+1,m,by omega,by go_num,rfl,by omega,HM1,HD3⟩,by simp [intOf];omega⟩
    | false =>
     have HM1:Hid (m+1=(Sta.notId ids (zs.take (j+1))).length):=by show _=_;rw [notId_take hzj,if_neg (by simp [hg]),List.length_append,← HM.out];rfl
     have HCz:Hid (∀ wx,Upd g w wx→Calls Tryz.prog 240 #[.agg #[.int .i64 z.id,.int .i64 z.til],.pointer (some ⟨B,0,none⟩)] wx fun e w'=>e = .returned (.bool false)∧Ext wx w'):=fun wx he=>by have:=HC.out z wx he;rw [hg] at this;exact this
     have HD1:Hid (∀ wx,DelE w wx g off zs.length j ids zs→DelE w (putE wx g (off+m * 2) z) g off zs.length (j+1) ids zs):=fun wx hd=>by rw [HM.out];exact DelE.kept hd hzj hg (by rw [← HM.out];exact hmj)
     clear hzj hg
     go_wp2_with fail
     refine (HCz.out _ (by exact (HD.out.ext ((Ext.refl _).alloc _)).2.2.2)).mono ?_
     rintro e w3 ⟨rfl,hb⟩
     have HD3:Hid (DelE w w3 g off zs.length j ids zs):=(HD.out.ext ((Ext.refl _).alloc _)).ext hb
     have hgl:=HD3.out.1.1
     clear d0 d1
     obtain⟨d0,d1⟩:=ebox_ext wr w3 z 134 hb
     clear hb
     obtain⟨⟨u0,r0⟩,f0⟩:=HD3.out.1.2 (m * 2) (by omega)
     obtain⟨⟨u1,r1⟩,f1⟩:=HD3.out.1.2 (m * 2+1) (by omega)
     rw [← Nat.add_assoc] at r1 f1
     have HP:Hid (DelE w (putE w3 g (off+m * 2) z) g off zs.length (j+1) ids zs):=HD1.out _ HD3.out
     unfold putE at HP
     go_wp2
     exact⟨⟨j+1,m+1,by omega,by go_num,by go_num,by omega,HM1,HP⟩,by simp [intOf];omega⟩
   ·have hje:j=zs.length:=by omega
    subst hje
    have HM1:Hid (m=(Sta.notId ids zs).length):=by show _=_;rw [HM.out,List.take_length]
    have HD1:Hid (ERoom wr g off zs.length∧SesAt wr g off (Sta.notId ids zs)∧Upd g w wr):=by
     have:=HD.out.2.1
     rw [List.take_length] at this
     exact⟨HD.out.1,this,HD.out.2.2.2⟩
    have hcl:∀ ty c,(Builtin.clear_ #[34] ty #[.slice (some ⟨g,off+m * 2,none⟩) (zs.length - m) c]).run Tryz.prog wr = .ok (.tuple #[]) (wr.setCells g (off+m * 2) (zcsE (zs.length - m))):=fun ty c=>clear_manyE wr ty g _ _ c (by omega) (HD1.out.1.some _ _ (by omega) (by omega))
    have HF:Hid (∀ W,W=wr.setCells g (off+m * 2) (zcsE (zs.length - m))→EOwn W (.slice (some ⟨g,off,none⟩) (Sta.notId ids zs).length cap) g (Sta.notId ids zs)∧Upd g w W):=by
     rintro W rfl
     have hs:=HD1.out.1.some (off+m * 2) ((zs.length - m) * 2) (by omega) (by omega)
     have hR2:=HD1.out.1.setCells (off+m * 2) (zcsE (zs.length - m)) (fun j hj=>(hs j (by rw [zcsE_len] at hj;exact hj)).1)
     refine⟨⟨_,cap,rfl,by rw [← HM1.out];omega,HCM.out,fun _=>⟨off,rfl,hR2.less (notId_len _ _),SesAt.of_news fun i u hu=>?_⟩⟩,upd_setCells _ _ _ HD1.out.2.2⟩
     have hi:=(List.getElem?_eq_some_iff.1 hu).1
     rw [cellsE_len,← HM1.out] at hi
     rw [World.cell?_setCells_out g _ _ _ _ (fun _ _=>.inl (by show off+i < _;omega))]
     exact HD1.out.2.1.newsW i u hu
    exact m75z
end Go.Proofs.YtpdejinkmnhioaaGreatDoor
namespace Go.Proofs.YtpdejinkmnhioaaGreatDoor
open Go.RowKit
def dropV (zs:List Zn) (ids:List Int):Int × ByteArray × List Zn:=if Tre.fault zs≠0 then (Tre.fault zs,⟨#[]⟩,[]) else if 9 < ids.length then (2,⟨#[]⟩,[]) else (0,⟨#[]⟩,dropL ids zs)
theorem Tre.fault_len {zs:List Zn} (h1:Tre.fault zs=0):zs.length≤20∧0 < zs.length∧∀ z ∈ zs,z.path.size≤24:=by
 refine⟨(Tre.fault_nodes h1).1,?_,fun z hz=>few_of_ok (Tre.fault_nums h1 z hz).1⟩
 rcases Tre.atI_range zs Tre.top with ⟨hm,_⟩ | ⟨k,z,_,hk,_,_⟩
 ·have:=(Tre.fault_hang h1).1;omega
 ·omega
theorem RBox.upd2 {w w2:World} {r b:Nat} (h:RBox w r) (he:Upd b w w2) (hne:r≠b):RBox w2 r:=by
 exact m29z
theorem ZRet.to {w w1 w' : World} {c:Int} {p:ByteArray} {rs:List Zn} {e:Ending} (h:ZRet w1 c p rs e w') (he:Ext w w1):ZRet w c p rs e w':=by
 obtain⟨v,g,h1,h2,h3,h4⟩:=h
 exact⟨v,g,h1,Nat.le_trans he.size h2,h3,he.trans h4⟩
theorem zret_own1 {w w4:World} {iv v:Value} {g:Nat} {rs:List Zn} (c:Int) (p:ByteArray) (hO:Own w4 v g rs) (hg:w.heap.size+2≤g) (h:Ext (w.alloc (.cells #[iv] 196)) w4) (x y u:Value) :
  ZRet w c p rs (.returned (zr c p v)) (((w4.setCell ⟨w.heap.size+1,0,none⟩ x).setCell ⟨w.heap.size+1,1,none⟩ y).setCell ⟨w.heap.size+1,2,none⟩ u):=by
 have h1:=zret_own (w:=w.alloc (.cells #[iv] 196)) c p hO (by simp;omega) h x y u
 simp only [World.size_alloc] at h1
 exact h1.to ((Ext.refl _).alloc _)
theorem zret_bad1 {w w4:World} {iv:Value} (c:Int) (p:ByteArray) (h:Ext (w.alloc (.cells #[iv] 196)) w4) (x y u:Value) :
  ZRet w c p [] (.returned (zr c p (.slice none 0 0))) (((w4.setCell ⟨w.heap.size+1,0,none⟩ x).setCell ⟨w.heap.size+1,1,none⟩ y).setCell ⟨w.heap.size+1,2,none⟩ u) :=
 zret_own1 (g:=w.heap.size+2) c p (own_none _ _) (Nat.le_refl _) h x y u
/-- How DropOwned stands: the ids' block, the result's block. -/
def DBx (w:World) (iv:Value) (ids:List Int) (wx:World):Prop:=IdsAt wx w.heap.size iv ids∧RBox wx (w.heap.size+1)∧Ext (w.alloc (.cells #[iv] 196)) wx
theorem DBx.new (w:World) (iv:Value) (ids:List Int) (hI:ISlice w iv ids):DBx w iv ids ((w.alloc (.cells #[iv] 196)).alloc (.cells #[.int .i64 0,.string ⟨#[]⟩,.slice none 0 0] 148)):=by
 have h:=RBox.new (w.alloc (.cells #[iv] 196)) 148
 simp only [World.size_alloc] at h
 refine⟨⟨?_,hI.ext (((Ext.refl _).alloc _).alloc _)⟩,h,(Ext.refl _).alloc _⟩
 exact ((Ext.cell ((Ext.refl (w.alloc (.cells #[iv] 196))).alloc _)).1 w.heap.size 0 (by simp)).trans (by simp)
theorem DBx.ext {w wx wy:World} {iv:Value} {ids:List Int} (h:DBx w iv ids wx) (he:Ext wx wy):DBx w iv ids wy:=⟨h.1.ext he,h.2.1.ext he,h.2.2.trans he⟩
theorem DBx.to {w wx:World} {iv:Value} {ids:List Int} (h:DBx w iv ids wx):Ext w wx:=((Ext.refl _).alloc _).trans h.2.2
set_option maxHeartbeats 4000000 in
set_option maxRecDepth 100000 in
theorem implDropOwned_any (v u:Value) (zs:List Zn) (ids:List Int) (w:World) (hg:Gd w) (hS:NSlice w v zs) (hI:ISlice w u ids) :
  Calls Tryz.prog 150 #[v,u] w (ZRet w (dropV zs ids).1 (dropV zs ids).2.1 (dropV zs ids).2.2):=by
 have HT:Hid (∀ wx,Ext w wx→Calls Tryz.prog 88 #[v] wx fun e w'=>e = .returned (.int .i64 (Tre.fault zs))∧Ext wx w'):=fun wx he=>implTreeFault_any v zs wx (hg.ext he) (hS.ext he)
 have HS:Hid (NSlice w v zs∧ISlice w u ids):=⟨hS,hI⟩
 have HN:Hid (DBx w u ids ((w.alloc (.cells #[u] 196)).alloc (.cells #[.int .i64 0,.string ⟨#[]⟩,.slice none 0 0] 148))):=DBx.new w u ids hI
 obtain⟨a,cap,rfl,-⟩:=hS
 obtain⟨b,cbp,rfl,hlc,hcm,-⟩:=hI
 unfold maxLen at hcm
 unfold dropV
 by_cases hc:Tre.fault zs≠0
 ·rw [if_pos hc]
  generalize Tre.fault zs=c at *
  go_enter Tryz.func150,Tryz.ntmps150
  go_wp2_with fail
  refine n76z ?_
  intro w2 hb HD
  clear hb HN
  obtain⟨q,q0,q1,q2,f0,f1,f2⟩:=HD.out.2.1
  go_wp2
  exact bodyPost_ret (v:=zr c ⟨#[]⟩ (.slice none 0 0)) (by simp [results,Tryz.results150,go_sem,zr,q0,q1,q2]) rfl (zret_bad1 _ _ HD.out.2.2 _ _ _)
 ·rw [if_neg hc]
  have hc0:Tre.fault zs=0:=by omega
  rw [hc0] at HT
  obtain⟨h20,hpos,hps⟩:=Tre.fault_len hc0
  have HP:Hid (∀ z ∈ zs,z.path.size≤1048576):=fun z hz=>by have:=hps z hz;omega
  clear hc hc0 hps
  by_cases h9:9 < ids.length
  ·rw [if_pos h9]
   go_enter Tryz.func150,Tryz.ntmps150
   go_wp2_with fail
   refine n76z ?_
   intro w2 hb HD
   clear hb HN
   obtain⟨q,q0,q1,q2,f0,f1,f2⟩:=HD.out.2.1
   have i0:=HD.out.1.1
   go_wp2
   exact bodyPost_ret (v:=zr 2 ⟨#[]⟩ (.slice none 0 0)) (by simp [results,Tryz.results150,go_sem,zr,q0,q1,q2]) rfl (zret_bad1 _ _ HD.out.2.2 _ _ _)
  ·rw [if_neg h9]
   go_enter Tryz.func150,Tryz.ntmps150
   go_wp2_with fail
   refine n76z ?_
   intro w2 hb HD
   clear hb HN
   obtain⟨q,q0,q1,q2,f0,f1,f2⟩:=HD.out.2.1
   have i0:=HD.out.1.1
   go_wp2_with fail
   refine (copyNodes_any _ zs _ (HS.out.1.ext HD.out.to) (by omega) hpos HP.out).mono ?_
   rintro e w3 ⟨v3,g,rfl,hg3,hO,hb⟩
   obtain⟨a3,cap3,rfl,hlc3,hcm3,hx3⟩:=id hO
   obtain⟨off3,rfl,-,-⟩:=hx3 hpos
   have HO:Hid (Own w3 (.slice (some ⟨g,off3,none⟩) zs.length cap3) g zs):=hO
   have HD3:Hid (DBx w (.slice b ids.length cbp) ids w3):=HD.out.ext hb
   have HG:Hid (w.heap.size+2≤g):=by have:=HD.out.2.1.1;show _≤_;omega
   clear hb hO hx3 q q0 q1 q2 f0 f1 f2 i0 hg3
   have HDf:Hid (Calls Tryz.prog 208 #[.slice (some ⟨g,off3,none⟩) zs.length cap3,.func (.func 209) #[] #[.pointer (some ⟨w.heap.size,0,none⟩)]] w3 fun e w'=>e = .returned (.slice (some ⟨g,off3,none⟩) (dropL ids zs).length cap3)∧Own w' (.slice (some ⟨g,off3,none⟩) (dropL ids zs).length cap3) g (dropL ids zs)∧Upd g w3 w'):=by
    refine deleteFunc_any g off3 cap3 w.heap.size zs _ ids w3 HO.out hpos HD3.out.1 (fun wx hu=>?_)
    obtain⟨j0,j1⟩:=HD3.out.1
    have hlt3:=HD3.out.2.1.1
    have hg2:=HG.out
    have he:Below w.heap.size w wx:=(Below.trans HD3.out.to (hu.1.mono (by omega)))
    exact⟨((hu.at_ne w.heap.size 0 (by omega) (by omega)).1).trans j0,HS.out.2.ext he⟩
   go_wp2_with fail
   refine HDf.out.mono ?_
   rintro e w7 ⟨rfl,hO7,hU7⟩
   have HO7:Hid (Own w7 (.slice (some ⟨g,off3,none⟩) (dropL ids zs).length cap3) g (dropL ids zs)):=hO7
   have HB7:Hid (Ext (w.alloc (.cells #[.slice b ids.length cbp] 196)) w7):=hU7.to_ext HD3.out.2.2 (by have:=HG.out;simp;omega)
   obtain⟨q,q0,q1,q2,f0,f1,f2⟩:=HD3.out.2.1.upd2 hU7 (by have:=HG.out;omega)
   clear hU7 hO7
   generalize dropL ids zs=rs at *
   go_wp2
   exact bodyPost_ret (v:=zr 0 ⟨#[]⟩ (.slice (some ⟨g,off3,none⟩) rs.length cap3)) (by simp [results,Tryz.results150,go_sem,zr,q0,q1,q2]) rfl (zret_own1 0 ⟨#[]⟩ HO7.out HG.out HB7.out _ _ _)
end Go.Proofs.YtpdejinkmnhioaaGreatDoor
