/- N7, YA1, I10, in one text. -/
import Derived.Test.YtpdejinkmnhioaaGreatDoorAoJ22
import Derived.Test.YtpdejinkmnhioaaGreatDoorAoJ9
import Derived.Test.YtpdejinkmnhioaaGreatDoorAoJ18
import Derived.Test.YtpdejinkmnhioaaGreatDoorAoJ10
import Derived.Deep.RegionHeld3
import Derived.Test.YtpdejinkmnhioaaGreatDoorAoJ19
import Derived.Test.YtpdejinkmnhioaaGreatDoorAoMk
namespace Go.Proofs.YtpdejinkmnhioaaGreatDoor
open Go.RowKit
def yr (c d v:Int) (p:ByteArray):Value:=.agg #[.int .i64 c,.int .i64 d,.int .i64 v,.string p]
def YBoxAt (w:World) (b:Nat) (c d v:Int) (p:ByteArray):Prop:=b < w.heap.size∧w.cell? ⟨b,0,none⟩=some (.int .i64 c)∧w.cell? ⟨b,1,none⟩=some (.int .i64 d)∧w.cell? ⟨b,2,none⟩=some (.int .i64 v)∧w.cell? ⟨b,3,none⟩=some (.string p)
theorem YBoxAt.ext {w w' : World} {b:Nat} {c d v:Int} {p:ByteArray} (h:YBoxAt w b c d v p) (he:Ext w w'):YBoxAt w' b c d v p:=by
 obtain⟨hc,hf⟩:=Ext.cell he
 obtain⟨hb,c0,c1,c2,c3⟩:=h
 exact⟨Nat.lt_of_lt_of_le hb he.size,(hc _ _ hb).trans c0,(hc _ _ hb).trans c1,(hc _ _ hb).trans c2,(hc _ _ hb).trans c3⟩
/-- What MarkOf answers: code, and the reply's code, value, path. -/
def Sta.markV (s:Stt) (c n:Int):Int × Int × Int × ByteArray:=if Sta.fault s≠0 then (Sta.fault s,0,0,⟨#[]⟩) else if idxM c n 0 s.marks = -1 then (4,0,0,⟨#[]⟩) else match s.marks[(idxM c n 0 s.marks).toNat]? with
 | some m=>(0,m.code,m.value,m.path)
 | none=>(0,0,0,⟨#[]⟩)
def yrT (x:Int × Int × Int × ByteArray):Value:=yr x.1 x.2.1 x.2.2.1 x.2.2.2
/-- Three values of a reply in a box of their own. -/
def RyAt (w:World) (b:Nat) (v0 v1 v2:Value):Prop:=b < w.heap.size∧(w.cell? ⟨b,0,none⟩=some v0∧w.cell? ⟨b,1,none⟩=some v1∧w.cell? ⟨b,2,none⟩=some v2)∧w.frozen? ⟨b,0,none⟩=false∧w.frozen? ⟨b,1,none⟩=false∧w.frozen? ⟨b,2,none⟩=false
theorem RyAt.ext {w w' : World} {b:Nat} {v0 v1 v2:Value} (h:RyAt w b v0 v1 v2) (he:Ext w w'):RyAt w' b v0 v1 v2:=by
 obtain⟨hc,hf⟩:=Ext.cell he
 obtain⟨hb,⟨c0,c1,c2⟩,f0,f1,f2⟩:=h
 exact⟨Nat.lt_of_lt_of_le hb he.size,⟨(hc _ _ hb).trans c0,(hc _ _ hb).trans c1,(hc _ _ hb).trans c2⟩,(hf _ _ hb).trans f0,(hf _ _ hb).trans f1,(hf _ _ hb).trans f2⟩
theorem ry_new (w:World) (v0 v1 v2:Value) (t:TypeId):RyAt (w.alloc (.cells #[v0,v1,v2] t)) w.heap.size v0 v1 v2:=⟨by simp,⟨by simp,by simp,by simp⟩,by simp,by simp,by simp⟩
theorem markFrom_ok:∀ (l ah:List Mk),markFrom ah l=0→∀ m ∈ l,okM m=true
 | [],_,_,m,hm=>by cases hm
 | x :: r,ah,h,m,hm=>by
  rw [markFrom] at h
  split at h
  ·cases h
  ·rename_i g
   split at h
   ·cases h
   ·rcases List.mem_cons.1 hm with rfl | hm'
    ·simpa using g
    ·exact markFrom_ok r _ h m hm'
theorem okM_path {m:Mk} (h:okM m=true):m.path.size≤24:=by
 unfold okM okY at h
 simp only [Bool.and_eq_true,decide_eq_true_eq] at h
 exact h.2.2.2.2
set_option maxHeartbeats 1000000 in
set_option maxRecDepth 100000 in
theorem copyReply_any (c v:Int) (p:ByteArray) (w:World) (hp:p.size≤1048576):Calls Tryz.prog 76 #[yagg c v p] w fun e w'=>e = .returned (yagg c v p)∧Ext w w':=by
 have HC:Hid (∀ wx:World,Calls Tryz.prog 148 #[.string p] wx fun e w'=>e = .returned (.string p)∧Ext wx w'):=fun wx=>clone_any p wx hp
 unfold yagg
 go_enter Tryz.func76,Tryz.ntmps76
 go_wp2_with fail
 refine (HC.out _).mono ?_
 rintro e w1 ⟨rfl,hb⟩
 have HB:Hid (Ext w w1):=(((Ext.refl _).alloc _).alloc _).trans hb
 have x0:=(ry_new w (.int .i64 c) (.int .i64 v) (.string p) _).ext (((Ext.refl _).alloc _).trans hb)
 have y0:=(ry_new (w.alloc _) (.int .i64 0) (.int .i64 0) (.string ByteArray.empty) _).ext hb
 simp only [World.size_alloc] at y0
 obtain⟨xl,⟨xc0,xc1,xc2⟩,xf0,xf1,xf2⟩:=x0
 obtain⟨yl,⟨yc0,yc1,yc2⟩,yf0,yf1,yf2⟩:=y0
 clear hb
 go_wp2
 refine bodyPost_ret (v:=yagg c v p) (by simp [results,Tryz.results76,go_sem,yagg, *]) rfl ⟨rfl,?_⟩
 exact (((HB.out.setCell (by simp) _).setCell (by simp) _).setCell (by simp) _).setCell (by simp) _
end Go.Proofs.YtpdejinkmnhioaaGreatDoor
namespace Go.Proofs.YtpdejinkmnhioaaGreatDoor
open Go.RowKit
def cellsK (l:List Mk):List Value:=l.flatMap fun m=>[.int .i64 m.client,.int .i64 m.number,.int .i64 m.code,.int .i64 m.value,.string m.path]
theorem cellsK_len (l:List Mk):(cellsK l).length=l.length * 5:=by
 induction l with
 | nil=>rfl
 | cons s r ih=>simp only [cellsK,List.flatMap_cons,List.length_append,List.length_cons,List.length_nil] at ih ⊢;omega
theorem cellsK_at:∀ (l:List Mk) (i:Nat) (m:Mk),l[i]?=some m→(cellsK l)[i * 5]?=some (.int .i64 m.client)∧(cellsK l)[i * 5+1]?=some (.int .i64 m.number)∧(cellsK l)[i * 5+2]?=some (.int .i64 m.code)∧(cellsK l)[i * 5+3]?=some (.int .i64 m.value)∧(cellsK l)[i * 5+4]?=some (.string m.path)
 | s :: r,0,t,h=>by simp at h;subst h;exact⟨rfl,rfl,rfl,rfl,rfl⟩
 | s :: r,i+1,t,h=>by
  simp only [List.getElem?_cons_succ] at h
  have:=cellsK_at r i t h
  rw [show (i+1) * 5=i * 5+1+1+1+1+1 from by omega]
  exact this
 | [],i,t,h=>by simp at h
theorem cellsK_get:∀ (l:List Mk) (j:Nat) (u:Value),(cellsK l)[j]?=some u→∃ i m,l[i]?=some m∧((j=i * 5∧u = .int .i64 m.client)∨(j=i * 5+1∧u = .int .i64 m.number)∨(j=i * 5+2∧u = .int .i64 m.code)∨(j=i * 5+3∧u = .int .i64 m.value)∨(j=i * 5+4∧u = .string m.path))
 | [],j,u,h=>by simp [cellsK] at h
 | s :: r,0,u,h=>by simp [cellsK] at h;exact⟨0,s,rfl,Or.inl ⟨rfl,h.symm⟩⟩
 | s :: r,1,u,h=>by simp [cellsK] at h;exact⟨0,s,rfl,Or.inr (Or.inl ⟨rfl,h.symm⟩)⟩
 | s :: r,2,u,h=>by simp [cellsK] at h;exact⟨0,s,rfl,Or.inr (Or.inr (Or.inl ⟨rfl,h.symm⟩))⟩
 | s :: r,3,u,h=>by simp [cellsK] at h;exact⟨0,s,rfl,Or.inr (Or.inr (Or.inr (Or.inl ⟨rfl,h.symm⟩)))⟩
 | s :: r,4,u,h=>by simp [cellsK] at h;exact⟨0,s,rfl,Or.inr (Or.inr (Or.inr (Or.inr ⟨rfl,h.symm⟩)))⟩
 | s :: r,j+5,u,h=>by
  have h' : (cellsK r)[j]?=some u:=by simpa [cellsK] using h
  obtain⟨i,t,q1,q2⟩:=cellsK_get r j u h'
  refine⟨i+1,t,by simpa using q1,?_⟩
  rcases q2 with ⟨q,e⟩ | ⟨q,e⟩ | ⟨q,e⟩ | ⟨q,e⟩ | ⟨q,e⟩
  ·exact Or.inl ⟨by omega,e⟩
  ·exact Or.inr (Or.inl ⟨by omega,e⟩)
  ·exact Or.inr (Or.inr (Or.inl ⟨by omega,e⟩))
  ·exact Or.inr (Or.inr (Or.inr (Or.inl ⟨by omega,e⟩)))
  ·exact Or.inr (Or.inr (Or.inr (Or.inr ⟨by omega,e⟩)))
theorem MksAt.news {w:World} {b off:Nat} {l:List Mk} (h:MksAt w b off l):∀ j u,(cellsK l)[j]?=some u→w.cell? ((⟨b,off,none⟩:Addr).add j)=some u:=by
 intro j u hu
 rw [Addr.add_lit]
 obtain⟨i,s,hs,q⟩:=cellsK_get l j u hu
 obtain⟨c0,c1,c2,c3,c4⟩:=h i s hs
 rcases q with ⟨rfl,rfl⟩ | ⟨rfl,rfl⟩ | ⟨rfl,rfl⟩ | ⟨rfl,rfl⟩ | ⟨rfl,rfl⟩
 ·exact c0
 ·rw [← Nat.add_assoc];exact c1
 ·rw [← Nat.add_assoc];exact c2
 ·rw [← Nat.add_assoc];exact c3
 ·rw [← Nat.add_assoc];exact c4
theorem cellsK_one (l:List Mk):∀ u ∈ cellsK l,u.oneCell'=true:=by
 intro u hu
 simp only [cellsK,List.mem_flatMap] at hu
 obtain⟨s,_,hs⟩:=hu
 simp at hs
 rcases hs with rfl | rfl | rfl | rfl | rfl <;> rfl
theorem mown_of_owns {w:World} {base:Nat} {v:Value} {l:List Mk} (h:w.ownsRow base 123 5 v l.length (cellsK l)):∃ g,base≤g∧MOwn w v g l:=by
 have hlt:=h.lt
 rcases h.2 with ⟨hv,h0⟩ | ⟨g,cap,cur,hv,hb,hh,hn,hm,hcs,htk⟩
 ·exact m51z
 ·subst hv
  refine⟨g,hb,some ⟨g,0,none⟩,cap,rfl,hn,hm,fun h0=>⟨0,rfl,⟨(hlt g rfl).2,fun j hj=>⟨?_,h.frozenAt _⟩⟩,fun i s hs=>?_⟩⟩
  ·have hj' : j < (cellsK l).length:=by rw [cellsK_len];exact hj
   rw [Nat.zero_add]
   exact⟨(cellsK l)[j],by rw [h.cellAt j hj,List.getElem?_eq_getElem hj']⟩
  ·obtain⟨h1,h2,h3,h4,h5⟩:=cellsK_at l i s hs
   have hi:=(List.getElem?_eq_some_iff.1 hs).1
   rw [Nat.zero_add]
   exact⟨by rw [h.cellAt _ (by omega)];exact h1,by rw [h.cellAt _ (by omega)];exact h2,by rw [h.cellAt _ (by omega)];exact h3,by rw [h.cellAt _ (by omega)];exact h4,by rw [h.cellAt _ (by omega)];exact h5⟩
set_option maxHeartbeats 1000000 in
set_option maxRecDepth 100000 in
theorem cloneE_any (v:Value) (l:List Se) (w:World) (hS:ESlice w v l) (hl:l.length≤1048576) :
  Calls Tryz.prog 129 #[v] w fun e w'=>∃ v' g,e = .returned v'∧w.heap.size≤g∧EOwn w' v' g l∧Ext w w':=by
 refine n43z ?_
 intro hi9
 obtain⟨i0,hi,hx⟩:=Option.map_eq_some_iff.1 hi9
 simp only [Prod.mk.injEq] at hx
 obtain⟨hz0,hz1,hz2⟩:=hx
 clear hi9
 obtain⟨a,cap,rfl,hlc,hcm,hx⟩:=hS
 have q22:∀ (w:World) (a:Option Addr) (n c n' c' : Nat),(binOp .eql 34 (.slice a n c) (.slice none n' c')).run Tryz.prog w = .ok (.bool a.isNone) w:=fun w a n c n' c'=>Lib.run_eql_slice_nil w _ _ a n c n' c' Tryz.underlying34
 unfold maxLen at hcm
 cases a with
 | none =>
  have h0:l = []:=by
   cases l with
   | nil=>rfl
   | cons s r=>obtain⟨b,off,e,-⟩:=hx (by simp);cases e
  subst h0
  clear hx
  go_enter Tryz.func129,Tryz.ntmps129
  exact m103z
 | some ad =>
  have HN:Hid (∀ j u,(cellsE l)[j]?=some u→(w.alloc (.cells #[] 134)).cell? (ad.add j)=some u):=by
   intro j u hu
   have hj:=(List.getElem?_eq_some_iff.1 hu).1
   rw [cellsE_len] at hj
   obtain⟨b,off,e,hb,hN⟩:=hx (by omega)
   cases e
   exact (hN.ext hb ((Ext.refl _).alloc _)).news j u hu
  clear hx
  have HO:Hid ((w.alloc (.cells #[] 134)).ownsRow w.heap.size 134 2 (.slice (some ⟨w.heap.size,0,none⟩) 0 0) 0 []):=World.ownsRow_made w #[] 0 (Nat.le_refl _) (by unfold maxLen;omega) rfl
  go_enter Tryz.func129,Tryz.ntmps129
  go_wp2_with (at_builtin;go_must (refine wpList_append_own _ rfl _ _ 34 rfl w.heap.size 134 i0 (.agg #[.int .i64 0,.int .i64 0]) 2 16 Tryz.underlying34 hi hz0 hz1 hz2 rfl (by decide) _ 0 [] rfl HO.out ad l.length cap (cellsE l) rfl (cellsE_len l) HN.out (cellsE_one l) (by unfold maxLen;omega) (by omega) (by simp) ?_;intro v' w3 hown' hgrow3 hnil3))
  have hown2:w3.ownsRow w.heap.size 134 2 v' l.length (cellsE l):=by simpa using hown'
  obtain⟨g,hg,hO⟩:=eown_of_owns hown2
  exact m35z
set_option maxHeartbeats 1000000 in
set_option maxRecDepth 100000 in
theorem cloneK_any (v:Value) (l:List Mk) (w:World) (hS:MSlice w v l) (hl:l.length≤1048576) :
  Calls Tryz.prog 130 #[v] w fun e w'=>∃ v' g,e = .returned v'∧w.heap.size≤g∧MOwn w' v' g l∧Ext w w':=by
 refine n58z ?_
 intro hi9
 obtain⟨i0,hi,hx⟩:=Option.map_eq_some_iff.1 hi9
 simp only [Prod.mk.injEq] at hx
 obtain⟨hz0,hz1,hz2⟩:=hx
 clear hi9
 obtain⟨a,cap,rfl,hlc,hcm,hx⟩:=hS
 have q22:∀ (w:World) (a:Option Addr) (n c n' c' : Nat),(binOp .eql 35 (.slice a n c) (.slice none n' c')).run Tryz.prog w = .ok (.bool a.isNone) w:=fun w a n c n' c'=>Lib.run_eql_slice_nil w _ _ a n c n' c' Tryz.underlying35
 unfold maxLen at hcm
 cases a with
 | none =>
  have h0:l = []:=by
   cases l with
   | nil=>rfl
   | cons s r=>obtain⟨b,off,e,-⟩:=hx (by simp);cases e
  subst h0
  clear hx
  go_enter Tryz.func130,Tryz.ntmps130
  exact m103z
 | some ad =>
  have HN:Hid (∀ j u,(cellsK l)[j]?=some u→(w.alloc (.cells #[] 123)).cell? (ad.add j)=some u):=by
   intro j u hu
   have hj:=(List.getElem?_eq_some_iff.1 hu).1
   rw [cellsK_len] at hj
   obtain⟨b,off,e,hb,hN⟩:=hx (by omega)
   cases e
   exact (hN.ext hb ((Ext.refl _).alloc _)).news j u hu
  clear hx
  have HO:Hid ((w.alloc (.cells #[] 123)).ownsRow w.heap.size 123 5 (.slice (some ⟨w.heap.size,0,none⟩) 0 0) 0 []):=World.ownsRow_made w #[] 0 (Nat.le_refl _) (by unfold maxLen;omega) rfl
  go_enter Tryz.func130,Tryz.ntmps130
  go_wp2_with (at_builtin;go_must (refine wpList_append_own _ rfl _ _ 35 rfl w.heap.size 123 i0 (.agg #[.int .i64 0,.int .i64 0,.int .i64 0,.int .i64 0,.string ByteArray.empty]) 5 48 Tryz.underlying35 hi hz0 hz1 hz2 rfl (by decide) _ 0 [] rfl HO.out ad l.length cap (cellsK l) rfl (cellsK_len l) HN.out (cellsK_one l) (by unfold maxLen;omega) (by omega) (by simp) ?_;intro v' w3 hown' hgrow3 hnil3))
  have hown2:w3.ownsRow w.heap.size 123 5 v' l.length (cellsK l):=by simpa using hown'
  obtain⟨g,hg,hO⟩:=mown_of_owns hown2
  exact m35z
theorem cell_same (w:World) (b o:Nat) (v:Value) (h:w.cell? ⟨b,o,none⟩=some v) (c k:Nat):(w.setCell ⟨b,o,none⟩ v).cell? ⟨c,k,none⟩=w.cell? ⟨c,k,none⟩:=by
 by_cases hk:b=c∧o=k
 ·obtain⟨rfl,rfl⟩:=hk
  rw [iset_eq _ _ _ _ ⟨_,h⟩,h]
 ·exact iset_ne _ _ _ _ _ _ (by omega)
theorem put3_same (w:World) (g o:Nat) (x y z:Value) (hx:w.cell? ⟨g,o,none⟩=some x) (hy:w.cell? ⟨g,o+1,none⟩=some y) (hz:w.cell? ⟨g,o+2,none⟩=some z) (c k:Nat):(((w.setCell ⟨g,o,none⟩ x).setCell ⟨g,o+1,none⟩ y).setCell ⟨g,o+2,none⟩ z).cell? ⟨c,k,none⟩=w.cell? ⟨c,k,none⟩:=by
 have h1:=cell_same w g o x hx
 have h2:=cell_same _ g (o+1) y ((h1 _ _).trans hy)
 have h3:=cell_same _ g (o+2) z ((h2 _ _).trans ((h1 _ _).trans hz))
 rw [h3,h2,h1]
theorem MOwn.same {w:World} {v x:Value} {g o:Nat} {l:List Mk} (h:MOwn w v g l) (hx:w.cell? ⟨g,o,none⟩=some x):MOwn (w.setCell ⟨g,o,none⟩ x) v g l:=by
 obtain⟨a,cap,h1,h2,h3,h4⟩:=h
 refine⟨a,cap,h1,h2,h3,fun h0=>?_⟩
 obtain⟨off,e,hr,hN⟩:=h4 h0
 refine⟨off,e,hr.set _ _,fun i z hz=>?_⟩
 obtain⟨c0,c1,c2,c3,c4⟩:=hN i z hz
 exact⟨(cell_same _ _ _ _ hx _ _).trans c0,(cell_same _ _ _ _ hx _ _).trans c1,(cell_same _ _ _ _ hx _ _).trans c2,(cell_same _ _ _ _ hx _ _).trans c3,(cell_same _ _ _ _ hx _ _).trans c4⟩
theorem SBoxAt.upd {w w' : World} {b g:Nat} {v0 v1 v2 v3:Value} (h:SBoxAt w b v0 v1 v2 v3) (he:Upd g w w') (hne:b≠g):SBoxAt w' b v0 v1 v2 v3 :=
 h.stp (P:=True) (Stp.of_upd trivial he) fun _=>hne
/-- How all lies while the marks are gone through. -/
def CpAt (w wr:World) (un us um:Value) (s:Stt) (g1 g2 g3:Nat):Prop :=
 SBoxAt wr w.heap.size un us (.int .i64 s.now) um∧SBoxAt wr (w.heap.size+1) (.slice none 0 0) (.slice none 0 0) (.int .i64 0) (.slice none 0 0)∧Own wr un g1 s.nodes∧EOwn wr us g2 s.ses∧MOwn wr um g3 s.marks∧Ext w wr
theorem CpAt.ext {w wr wx:World} {un us um:Value} {s:Stt} {g1 g2 g3:Nat} (h:CpAt w wr un us um s g1 g2 g3) (he:Ext wr wx):CpAt w wx un us um s g1 g2 g3 :=
 ⟨h.1.ext he,h.2.1.ext he,h.2.2.1.ext he,h.2.2.2.1.ext he,h.2.2.2.2.1.ext he,h.2.2.2.2.2.trans he⟩
theorem CpAt.put {w wr:World} {un us um x:Value} {s:Stt} {g1 g2 g3 o:Nat} (h:CpAt w wr un us um s g1 g2 g3) (hx:wr.cell? ⟨g3,o,none⟩=some x) (hg:w.heap.size+2≤g3) (h1:0 < s.nodes.length→g1≠g3) (h2:0 < s.ses.length→g2≠g3):CpAt w (wr.setCell ⟨g3,o,none⟩ x) un us um s g1 g2 g3 :=
 ⟨h.1.upd ((Upd.refl g3 wr).setAt o x) (by omega),h.2.1.upd ((Upd.refl g3 wr).setAt o x) (by omega),h.2.2.1.updS ((Upd.refl g3 wr).setAt o x) h1,h.2.2.2.1.updS ((Upd.refl g3 wr).setAt o x) h2,h.2.2.2.2.1.same hx,h.2.2.2.2.2.setCell (p:=⟨g3,o,none⟩) (by show _≤g3;omega) x⟩
theorem CpAt.shas {w wr:World} {un us um:Value} {s:Stt} {g1 g2 g3:Nat} (h:CpAt w wr un us um s g1 g2 g3) (hg1:w.heap.size+2≤g1) (hg2:w.heap.size+2≤g2) (hg3:w.heap.size+2≤g3) (h12:0 < s.nodes.length→0 < s.ses.length→g1≠g2) (h1:0 < s.nodes.length→g1≠g3) (h2:0 < s.ses.length→g2≠g3):SHas (w.heap.size+2) (fun b=>wr.heap.size≤b) wr un us um s:=by
 obtain⟨-,-,p1,p2,p3,-⟩:=h
 exact⟨g1,g2,g3,⟨hg1,hg2,hg3⟩,⟨fun h0=>by have:=p1.ltS h0;omega,fun h0=>by have:=p2.ltS h0;omega,fun h0=>by have:=p3.ltS h0;omega⟩,⟨h12,fun h0 _=>h1 h0,fun h0 _=>h2 h0⟩,p1,p2,p3⟩
theorem Own.vis {w:World} {v:Value} {g:Nat} {zs:List Zn} (h:Own w v g zs):∃ a cap,v = .slice a zs.length cap:=by obtain⟨a,cap,h1,-⟩:=h;exact⟨a,cap,h1⟩
theorem EOwn.vis {w:World} {v:Value} {g:Nat} {zs:List Se} (h:EOwn w v g zs):∃ a cap,v = .slice a zs.length cap:=by obtain⟨a,cap,h1,-⟩:=h;exact⟨a,cap,h1⟩
theorem MOwn.vis {w:World} {v:Value} {g:Nat} {zs:List Mk} (h:MOwn w v g zs):∃ a cap,v = .slice a zs.length cap:=by obtain⟨a,cap,h1,-⟩:=h;exact⟨a,cap,h1⟩
set_option maxHeartbeats 4000000 in
set_option maxRecDepth 100000 in
theorem copyState_any (s:Stt) (vn vs vm:Value) (w:World) (hS:SSlice w vn vs vm s) (hl:s.small) (hp:0 < s.nodes.length) :
  Calls Tryz.prog 59 #[sagg vn vs s.now vm] w fun e w'=>∃ un us um,e = .returned (sagg un us s.now um)∧SHas (w.heap.size+2) (fun b=>w'.heap.size≤b) w' un us um s∧Ext w w':=by
 obtain⟨⟨hl1,hl2⟩,hl3,hl4,hl5⟩:=hl
 have HL5:Hid (∀ z ∈ s.marks,z.path.size≤1048576):=hl5
 have H1:Hid (∀ wx:World,Ext w wx→Calls Tryz.prog 128 #[vn] wx fun e w'=>∃ v' g,e = .returned v'∧wx.heap.size≤g∧Own w' v' g s.nodes∧Ext wx w'):=fun wx he=>copyNodes_any vn s.nodes wx (hS.1.ext he) hl1 hp hl2
 have H2:Hid (∀ wx:World,Ext w wx→Calls Tryz.prog 129 #[vs] wx fun e w'=>∃ v' g,e = .returned v'∧wx.heap.size≤g∧EOwn w' v' g s.ses∧Ext wx w'):=fun wx he=>cloneE_any vs s.ses wx (hS.2.1.ext he) hl3
 have H3:Hid (∀ wx:World,Ext w wx→Calls Tryz.prog 130 #[vm] wx fun e w'=>∃ v' g,e = .returned v'∧wx.heap.size≤g∧MOwn w' v' g s.marks∧Ext wx w'):=fun wx he=>cloneK_any vm s.marks wx (hS.2.2.ext he) hl4
 have HP:Hid (0 < s.nodes.length):=hp
 clear hl1 hl2 hl3 hl5 hp
 obtain⟨⟨an,cn,rfl,-⟩,⟨ae,ce,rfl,-⟩,⟨am,cm,rfl,-⟩⟩:=hS
 have x0:=(sbox_new w (.slice an s.nodes.length cn) (.slice ae s.ses.length ce) (.int .i64 s.now) (.slice am s.marks.length cm) 37).ext ((Ext.refl _).alloc (.cells #[.slice none 0 0,.slice none 0 0,.int .i64 0,.slice none 0 0] 37))
 have y0:=sbox_new (w.alloc (.cells #[.slice an s.nodes.length cn,.slice ae s.ses.length ce,.int .i64 s.now,.slice am s.marks.length cm] 37)) (.slice none 0 0) (.slice none 0 0) (.int .i64 0) (.slice none 0 0) 37
 simp only [World.size_alloc] at y0
 have e0:Ext w ((w.alloc (.cells #[.slice an s.nodes.length cn,.slice ae s.ses.length ce,.int .i64 s.now,.slice am s.marks.length cm] 37)).alloc (.cells #[.slice none 0 0,.slice none 0 0,.int .i64 0,.slice none 0 0] 37)):=((Ext.refl _).alloc _).alloc _
 have X0:Hid (SBoxAt ((w.alloc (.cells #[.slice an s.nodes.length cn,.slice ae s.ses.length ce,.int .i64 s.now,.slice am s.marks.length cm] 37)).alloc (.cells #[.slice none 0 0,.slice none 0 0,.int .i64 0,.slice none 0 0] 37)) w.heap.size (.slice an s.nodes.length cn) (.slice ae s.ses.length ce) (.int .i64 s.now) (.slice am s.marks.length cm)):=x0
 have Y0:Hid (SBoxAt ((w.alloc (.cells #[.slice an s.nodes.length cn,.slice ae s.ses.length ce,.int .i64 s.now,.slice am s.marks.length cm] 37)).alloc (.cells #[.slice none 0 0,.slice none 0 0,.int .i64 0,.slice none 0 0] 37)) (w.heap.size+1) (.slice none 0 0) (.slice none 0 0) (.int .i64 0) (.slice none 0 0)):=y0
 have E0:Hid (Ext w ((w.alloc (.cells #[.slice an s.nodes.length cn,.slice ae s.ses.length ce,.int .i64 s.now,.slice am s.marks.length cm] 37)).alloc (.cells #[.slice none 0 0,.slice none 0 0,.int .i64 0,.slice none 0 0] 37))):=e0
 clear x0 y0 e0
 unfold sagg
 go_enter Tryz.func59,Tryz.ntmps59
 go_wp2_with fail
 refine (H1.out _ E0.out).mono ?_
 rintro e w1 ⟨un,g1,rfl,hg1,hO1,hb⟩
 obtain⟨a1,c1,rfl⟩:=hO1.vis
 have hg1:w.heap.size+2≤g1:=by (try simp at hg1);omega
 have hs1:w.heap.size+2≤w1.heap.size:=by have:=hb.size;(try simp at this);omega
 have X1:Hid (SBoxAt (w1.setCell ⟨w.heap.size,0,none⟩ (.slice a1 s.nodes.length c1)) w.heap.size (.slice a1 s.nodes.length c1) (.slice ae s.ses.length ce) (.int .i64 s.now) (.slice am s.marks.length cm)):=(X0.out.ext hb).set0 _
 have Y1:Hid (SBoxAt (w1.setCell ⟨w.heap.size,0,none⟩ (.slice a1 s.nodes.length c1)) (w.heap.size+1) (.slice none 0 0) (.slice none 0 0) (.int .i64 0) (.slice none 0 0)):=(Y0.out.ext hb).other _ (by omega)
 have O1:Hid (Own (w1.setCell ⟨w.heap.size,0,none⟩ (.slice a1 s.nodes.length c1)) (.slice a1 s.nodes.length c1) g1 s.nodes):=hO1.updS ((Upd.refl w.heap.size w1).setAt 0 _) (by omega)
 have E1:Hid (Ext w (w1.setCell ⟨w.heap.size,0,none⟩ (.slice a1 s.nodes.length c1))):=(E0.out.trans hb).setCell (p:=⟨w.heap.size,0,none⟩) (Nat.le_refl _) _
 have hx1:=X0.out.ext hb
 have G1:Hid (g1 < w1.heap.size):=hO1.ltS HP.out
 obtain⟨q0,⟨b0,b1,b2,b3⟩,f0,f1,f2,f3⟩:=hx1
 clear hb hO1 X0 Y0 E0 H1
 go_wp2_with fail
 refine (H2.out _ E1.out).mono ?_
 rintro e w2 ⟨us,g2,rfl,hg2,hO2,hb⟩
 obtain⟨a2,c2,rfl⟩:=hO2.vis
 have hg2:w1.heap.size≤g2:=by (try simp at hg2);omega
 have hs2:w1.heap.size≤w2.heap.size:=by have:=hb.size;(try simp at this);omega
 clear q0 b0 b1 b2 b3 f0 f1 f2 f3
 have hx1:=X1.out.ext hb
 have X2:Hid (SBoxAt (w2.setCell ⟨w.heap.size,1,none⟩ (.slice a2 s.ses.length c2)) w.heap.size (.slice a1 s.nodes.length c1) (.slice a2 s.ses.length c2) (.int .i64 s.now) (.slice am s.marks.length cm)):=(X1.out.ext hb).set1 _
 have Y2:Hid (SBoxAt (w2.setCell ⟨w.heap.size,1,none⟩ (.slice a2 s.ses.length c2)) (w.heap.size+1) (.slice none 0 0) (.slice none 0 0) (.int .i64 0) (.slice none 0 0)):=(Y1.out.ext hb).other _ (by omega)
 have O12:Hid (Own (w2.setCell ⟨w.heap.size,1,none⟩ (.slice a2 s.ses.length c2)) (.slice a1 s.nodes.length c1) g1 s.nodes):=(O1.out.ext hb).updS ((Upd.refl w.heap.size w2).setAt 1 _) (by omega)
 have O2:Hid (EOwn (w2.setCell ⟨w.heap.size,1,none⟩ (.slice a2 s.ses.length c2)) (.slice a2 s.ses.length c2) g2 s.ses):=hO2.updS ((Upd.refl w.heap.size w2).setAt 1 _) (by omega)
 have E2:Hid (Ext w (w2.setCell ⟨w.heap.size,1,none⟩ (.slice a2 s.ses.length c2))):=(E1.out.trans hb).setCell (p:=⟨w.heap.size,1,none⟩) (Nat.le_refl _) _
 have G2:Hid (0 < s.ses.length→g2 < w2.heap.size):=hO2.ltS
 obtain⟨q0,⟨b0,b1,b2,b3⟩,f0,f1,f2,f3⟩:=hx1
 clear hb hO2 X1 Y1 O1 E1 H2
 go_wp2_with fail
 refine (H3.out _ E2.out).mono ?_
 rintro e w3 ⟨um,g3,rfl,hg3,hO3,hb⟩
 obtain⟨a3,c3,rfl⟩:=hO3.vis
 have hg3:w2.heap.size≤g3:=by (try simp at hg3);omega
 clear q0 b0 b1 b2 b3 f0 f1 f2 f3
 have hx1:=X2.out.ext hb
 have CP:Hid (CpAt w (w3.setCell ⟨w.heap.size,3,none⟩ (.slice a3 s.marks.length c3)) (.slice a1 s.nodes.length c1) (.slice a2 s.ses.length c2) (.slice a3 s.marks.length c3) s g1 g2 g3):=⟨(X2.out.ext hb).set3 _,(Y2.out.ext hb).other _ (by omega),(O12.out.ext hb).updS ((Upd.refl w.heap.size w3).setAt 3 _) (by omega),(O2.out.ext hb).updS ((Upd.refl w.heap.size w3).setAt 3 _) (by omega),hO3.updS ((Upd.refl w.heap.size w3).setAt 3 _) (by omega),(E2.out.trans hb).setCell (p:=⟨w.heap.size,3,none⟩) (Nat.le_refl _) _⟩
 have D12:Hid (0 < s.nodes.length→0 < s.ses.length→g1≠g2):=fun _ _=>by have:=G1.out;omega
 have D13:Hid (0 < s.nodes.length→g1≠g3):=fun _=>by have:=G1.out;omega
 have D23:Hid (0 < s.ses.length→g2≠g3):=fun h=>by have:=G2.out h;omega
 have DG:Hid (w.heap.size+2≤g1∧w.heap.size+2≤g2∧w.heap.size+2≤g3):=⟨hg1,by omega,by omega⟩
 obtain⟨q0,⟨b0,b1,b2,b3⟩,f0,f1,f2,f3⟩:=hx1
 clear hb hO3 X2 Y2 O12 O2 E2 H3 G1 G2 hg1 hg2 hg3 hs1 hs2
 go_wp2
 go_loopw [19] (fun i wr=>∃ (k:Nat),k≤s.marks.length∧i = .int .i64 k∧Hid (CpAt w wr (.slice a1 s.nodes.length c1) (.slice a2 s.ses.length c2) (.slice a3 s.marks.length c3) s g1 g2 g3)) (fun i _=>s.marks.length - (intOf i).toNat)
 case atStart=>exact⟨0,Nat.zero_le _,rfl,CP⟩
 case round =>
  clear CP q0 b0 b1 b2 b3 f0 f1 f2 f3
  obtain⟨k,hk,rfl,CP⟩:=hrel
  by_cases hlt:k < s.marks.length
  ·obtain⟨z,hzk⟩:∃ z,s.marks[k]?=some z:=⟨_,List.getElem?_eq_getElem hlt⟩
   obtain⟨a3',cap3',he,hlx,hmx,hx3⟩:=id CP.out.2.2.2.2.1
   injection he with e1 e2 e3
   subst e1 e3
   obtain⟨off3,ho,hR,hN⟩:=hx3 (by omega)
   subst ho
   obtain⟨-,-,d2,d3,d4⟩:=hN k z hzk
   have r2:wr.frozen? ⟨g3,off3+k * 5+2,none⟩=false:=by rw [Nat.add_assoc];exact (hR.2 (k * 5+2) (by omega)).2
   have r3:wr.frozen? ⟨g3,off3+k * 5+3,none⟩=false:=by rw [Nat.add_assoc];exact (hR.2 (k * 5+3) (by omega)).2
   have r4:wr.frozen? ⟨g3,off3+k * 5+4,none⟩=false:=by rw [Nat.add_assoc];exact (hR.2 (k * 5+4) (by omega)).2
   have D:Hid ((wr.cell? ⟨g3,off3+k * 5+2,none⟩=some (.int .i64 z.code)∧wr.cell? ⟨g3,off3+k * 5+3,none⟩=some (.int .i64 z.value)∧wr.cell? ⟨g3,off3+k * 5+4,none⟩=some (.string z.path))∧wr.frozen? ⟨g3,off3+k * 5+2,none⟩=false∧wr.frozen? ⟨g3,off3+k * 5+3,none⟩=false∧wr.frozen? ⟨g3,off3+k * 5+4,none⟩=false∧g3 < wr.heap.size):=⟨⟨d2,d3,d4⟩,r2,r3,r4,hR.1⟩
   have HC:Hid (∀ wx:World,Calls Tryz.prog 76 #[yagg z.code z.value z.path] wx fun e w'=>e = .returned (yagg z.code z.value z.path)∧Ext wx w'):=fun wx=>copyReply_any z.code z.value z.path wx (HL5.out z (List.mem_of_getElem? hzk))
   have c3':=CP.out.1.2.1.2.2.2
   unfold yagg at HC
   unfold maxLen at hmx
   have hcap:k < c3:=by omega
   clear hzk hx3 hR hN r2 r3 r4
   go_wp2
   go_region_held3 (fun W=>W.cell? ⟨w.heap.size,3,none⟩=some (.slice (some ⟨g3,off3,none⟩) s.marks.length c3)∧W.cell? ⟨g3,off3+k * 5+2,none⟩=some (.int .i64 z.code)∧W.cell? ⟨g3,off3+k * 5+3,none⟩=some (.int .i64 z.value)∧W.cell? ⟨g3,off3+k * 5+4,none⟩=some (.string z.path)) (first | exact⟨c3',d2,d3,d4⟩ | exact⟨h3,t2,t3,t4⟩ | exact⟨(put3_same _ _ _ _ _ _ t2 t3 t4 _ _).trans h3,(put3_same _ _ _ _ _ _ t2 t3 t4 _ _).trans t2,(put3_same _ _ _ _ _ _ t2 t3 t4 _ _).trans t3,(put3_same _ _ _ _ _ _ t2 t3 t4 _ _).trans t4⟩ | go_keep) (first | (go_at_call 76;refine (HC.out _).mono ?_;rintro e w5 ⟨rfl,hb5⟩;have hbb:Ext wr w5:=(by first | exact ((Ext.refl _).drew).trans hb5 | exact hb5);have CP5:Hid (CpAt w w5 (.slice a1 s.nodes.length c1) (.slice a2 s.ses.length c2) (.slice (some ⟨g3,off3,none⟩) s.marks.length c3) s g1 g2 g3):=CP.out.ext hbb;have t2:=((Ext.cell hbb).1 _ _ D.out.2.2.2.2).trans D.out.1.1;have t3:=((Ext.cell hbb).1 _ _ D.out.2.2.2.2).trans D.out.1.2.1;have t4:=((Ext.cell hbb).1 _ _ D.out.2.2.2.2).trans D.out.1.2.2;have z2:=((Ext.cell hbb).2 _ _ D.out.2.2.2.2).trans D.out.2.1;have z3:=((Ext.cell hbb).2 _ _ D.out.2.2.2.2).trans D.out.2.2.1;have z4:=((Ext.cell hbb).2 _ _ D.out.2.2.2.2).trans D.out.2.2.2.1;have h3:=CP5.out.1.2.1.2.2.2;clear hb5 hbb d2 d3 d4 c3'))
   all_goals
    have hp2:=CP5.out.put t2 DG.out.2.2 D13.out D23.out
    have hp3:=hp2.put ((cell_same _ _ _ _ t2 _ _).trans t3) DG.out.2.2 D13.out D23.out
    have hp4:=hp3.put ((cell_same _ _ _ _ ((cell_same _ _ _ _ t2 _ _).trans t3) _ _).trans ((cell_same _ _ _ _ t2 _ _).trans t4)) DG.out.2.2 D13.out D23.out
    have CP6:Hid _:=hp4
    clear hp2 hp3 hp4
    go_wp2
    exact⟨⟨k+1,by omega,by go_num,CP6⟩,by simp [intOf];omega⟩
  ·have hfin:=CP.out.shas DG.out.1 DG.out.2.1 DG.out.2.2 D12.out D13.out D23.out
   obtain⟨⟨q0,⟨b0,b1,b2,b3⟩,-⟩,⟨p0,⟨l0,l1,l2,l3⟩,m0,m1,m2,m3⟩,-,-,-,-⟩:=id CP.out
   have HF:Hid _:=hfin
   have HEx:Hid _:=CP.out.2.2.2.2.2
   clear hfin CP
   go_wp2
   refine bodyPost_ret (v:=sagg (.slice a1 s.nodes.length c1) (.slice a2 s.ses.length c2) s.now (.slice a3 s.marks.length c3)) (by simp [results,Tryz.results59,go_sem,sagg, *]) rfl ⟨_,_,_,rfl,?_,(((HEx.out.setCell (p:=⟨w.heap.size+1,0,none⟩) (by show _≤w.heap.size+1;omega) _).setCell (p:=⟨w.heap.size+1,1,none⟩) (by show _≤w.heap.size+1;omega) _).setCell (p:=⟨w.heap.size+1,2,none⟩) (by show _≤w.heap.size+1;omega) _).setCell (p:=⟨w.heap.size+1,3,none⟩) (by show _≤w.heap.size+1;omega) _⟩
   obtain⟨h1,h2,h3,p1,p2,p3,p4,p5,p6⟩:=HF.out
   have hu:=((((Upd.refl (w.heap.size+1) wr).setAt 0 (.slice a1 s.nodes.length c1)).setAt 1 (.slice a2 s.ses.length c2)).setAt 2 (.int .i64 s.now)).setAt 3 (.slice a3 s.marks.length c3)
   exact⟨h1,h2,h3,p1,⟨fun h0=>by have:=p4.ltS h0;simp;omega,fun h0=>by have:=p5.ltS h0;simp;omega,fun h0=>by have:=p6.ltS h0;simp;omega⟩,p3,p4.updS hu (fun _=>by omega),p5.updS hu (fun _=>by omega),p6.updS hu (fun _=>by omega)⟩
end Go.Proofs.YtpdejinkmnhioaaGreatDoor
namespace Go.Proofs.YtpdejinkmnhioaaGreatDoor
open Go.RowKit
set_option maxHeartbeats 1000000 in
set_option maxRecDepth 100000 in
theorem implKidsZ_any (v:Value) (zs:List Zn) (p:ByteArray) (w:World) (hg:Gd w) (hS:NSlice w v zs) :
  Calls Tryz.prog 235 #[v,.string p] w (XRet w (Tre.kidsV zs p).1 (Tre.kidsV zs p).2):=by
 refine n33z ?_
 intro HL
 have HS:Hid (NSlice w v zs):=hS
 have HG0:Hid (Gd w):=hg
 obtain⟨a,cap,rfl,hlc,hcm,hx⟩:=hS
 by_cases h0:Tre.asked zs p≠0
 ·rw [Tre.kidsV_bad rfl h0]
  generalize Tre.asked zs p=F at *
  go_enter Tryz.func235,Tryz.ntmps235
  go_wp2_with fail
  refine (HL.out _ ((Ext.refl _).alloc _)).mono ?_
  rintro e w2 ⟨rfl,hb⟩
  have HB:Hid (Ext w w2):=((Ext.refl _).alloc _).trans hb
  obtain⟨q,q0,q1,f0,f1⟩:=(XBox.new w _).ext hb
  clear hb
  go_wp2
  exact bodyPost_ret (v:=xr F (.slice none 0 0)) (by simp [results,Tryz.results235,go_sem,xr,q0,q1]) rfl (xret_bad _ (HB.out.box2 _ _))
 ·have h00:Tre.asked zs p=0:=by omega
  rw [h00] at HL
  obtain⟨h20,hU,hpos,h24⟩:=Tre.asked_len h00
  have HF:Hid (zs.length≤1048576∧∀ z ∈ zs,Pth.faultI z.path.data.toList=0):=⟨by omega,fun z hz=>(Tre.fault_nums (Tre.asked_fault h00).1 z hz).1⟩
  obtain⟨b,off,rfl,hb,hN⟩:=hx hpos
  have HN:Hid (∀ wx:World,Ext w wx→Calls Tryz.prog 216 #[.slice (some ⟨b,off,none⟩) zs.length cap,.string p] wx fun e w'=>e = .returned (ptrV b off zs p)∧Ext wx w'):=fun wx h=>findNode_any b off cap zs p wx (HS.out.ext h) hU (by omega)
  clear hx hN hb
  cases hh:Tre.has zs p with
  | false =>
   rw [Tre.kidsV_none h00 (Tre.has_not hh)]
   rw [ptrV_miss hh] at HN
   clear hh hU h24
   go_enter Tryz.func235,Tryz.ntmps235
   go_wp2_with fail
   refine (HL.out _ ((Ext.refl _).alloc _)).mono ?_
   rintro e w2 ⟨rfl,hb⟩
   have HB:Hid (Ext w w2):=((Ext.refl _).alloc _).trans hb
   have HQ:Hid (XBox w2 w.heap.size):=(XBox.new w _).ext hb
   clear hb
   go_wp2_with fail
   refine (HN.out _ HB.out).mono ?_
   rintro e w3 ⟨rfl,hb⟩
   have HB3:Hid (Ext w w3):=HB.out.trans hb
   obtain⟨q,q0,q1,f0,f1⟩:=HQ.out.ext hb
   clear hb
   go_wp2
   exact bodyPost_ret (v:=xr 4 (.slice none 0 0)) (by simp [results,Tryz.results235,go_sem,xr,q0,q1]) rfl (xret_bad _ (HB3.out.box2 _ _))
  | true =>
   have ha:¬ Tre.atI zs p < 0:=by obtain⟨z,h1,_⟩:=Tre.has_at hU hh;omega
   rw [Tre.kidsV_ok h00 ha]
   rw [ptrV_hit hh rfl] at HN
   have HK:Hid (∀ wx:World,Ext w wx→Calls Tryz.prog 258 #[.slice (some ⟨b,off,none⟩) zs.length cap,.string p] wx fun e w'=>∃ v' g,e = .returned v'∧wx.heap.size≤g∧TOwn w' v' g (Tre.kids zs p)∧Ext wx w'):=fun wx h=>kidNames_any _ zs p wx (HG0.out.ext h) (HS.out.ext h) HF.out.1 HF.out.2
   generalize Tre.kids zs p=rs at *
   generalize Tre.cut zs p.data.toList=k at *
   clear hh hU h24 ha
   go_enter Tryz.func235,Tryz.ntmps235
   go_wp2_with fail
   refine (HL.out _ ((Ext.refl _).alloc _)).mono ?_
   rintro e w2 ⟨rfl,hb⟩
   have HB:Hid (Ext w w2):=((Ext.refl _).alloc _).trans hb
   have HQ:Hid (XBox w2 w.heap.size):=(XBox.new w _).ext hb
   clear hb
   go_wp2_with fail
   refine (HN.out _ HB.out).mono ?_
   rintro e w3 ⟨rfl,hb⟩
   have HB3:Hid (Ext w w3):=HB.out.trans hb
   have HQ3:Hid (XBox w3 w.heap.size):=HQ.out.ext hb
   clear hb
   go_wp2_with fail
   refine (HK.out _ HB3.out).mono ?_
   rintro e w4 ⟨v3,g,rfl,hg,hO,hb⟩
   obtain⟨a3,cap3,rfl,-⟩:=id hO
   have HO:Hid (TOwn w4 (.slice a3 rs.length cap3) g rs):=hO
   have HG:Hid (w.heap.size+1≤g):=by have:=HQ3.out.1;show _≤_;omega
   obtain⟨q,q0,q1,f0,f1⟩:=HQ3.out.ext hb
   have HB4:Hid (Ext w w4):=HB3.out.trans hb
   clear hb hO hg
   go_wp2
   exact bodyPost_ret (v:=xr 0 (.slice a3 rs.length cap3)) (by simp [results,Tryz.results235,go_sem,xr,q0,q1]) rfl (xret_own 0 HO.out HG.out HB4.out _ _)
end Go.Proofs.YtpdejinkmnhioaaGreatDoor
