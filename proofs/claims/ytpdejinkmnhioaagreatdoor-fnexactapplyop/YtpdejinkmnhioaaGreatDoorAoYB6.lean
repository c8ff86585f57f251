/- the specification's l6Copy. -/
import Derived.Test.YtpdejinkmnhioaaGreatDoorAoYB5
import Derived.Test.YtpdejinkmnhioaaGreatDoorAoJ23
import Derived.Test.YtpdejinkmnhioaaGreatDoorAoJ33
import Derived.Test.YtpdejinkmnhioaaGreatDoorAoJ12
import Derived.Test.YtpdejinkmnhioaaGreatDoorAoJ19
import Derived.Deep.Onto
import Derived.Deep.RegionHeld3
import Derived.Test.YtpdejinkmnhioaaGreatDoorAoTk
import Derived.Test.YtpdejinkmnhioaaGreatDoorAoMk
namespace Go.Proofs.YtpdejinkmnhioaaGreatDoor
open Go.RowKit
theorem owns_shape {w:World} {B:Nat} {e:TypeId} {k:Nat} {v:Value} {n:Nat} {xs:List Value} (h:w.ownsRow B e k v n xs):∃ a cap,v = .slice a n cap:=by
 rcases h.2 with ⟨rfl,rfl⟩ | ⟨g,cap,cur,rfl,-⟩
 ·exact⟨_,_,rfl⟩
 ·exact⟨_,_,rfl⟩
theorem owns_some {w:World} {B:Nat} {e:TypeId} {k:Nat} {v:Value} {n:Nat} {xs:List Value} (h:w.ownsRow B e k v n xs) (hn:¬ v = .slice none 0 0):SomeS v:=by
 rcases h.2 with ⟨rfl,rfl⟩ | ⟨g,cap,cur,rfl,-⟩
 ·exact absurd rfl hn
 ·exact⟨_,_,_,_,rfl⟩
/-- Rows of different types lie in different blocks. -/
theorem own_apart {w:World} {b1 b2:Nat} {e1 e2:TypeId} {s1 s2 n1 n2:Nat} {v1 v2:Value} {x1 x2:List Value} (h1:w.ownsRow b1 e1 s1 v1 n1 x1) (h2:w.ownsRow b2 e2 s2 v2 n2 x2) (hne:e1≠e2):v1.ownBlock=none∨v1.ownBlock≠v2.ownBlock:=by
 rcases h1.2 with ⟨rfl,-⟩ | ⟨g,cap,cur,rfl,-,hh,-⟩
 ·exact Or.inl rfl
 ·refine Or.inr fun he=>?_
  rcases h2.2 with ⟨rfl,-⟩ | ⟨g2,cap2,cur2,rfl,-,hh2,-⟩
  ·cases he
  ·injection he with he
   subst he
   rw [hh] at hh2
   injection hh2 with hh2
   injection hh2 with _ h5 _
   exact hne h5
theorem shas_of_rows {n:Nat} {w:World} {v1 v2 v3:Value} {s:Stt} (h1:w.ownsRow n 144 5 v1 s.nodes.length (cellsZ s.nodes)) (h2:w.ownsRow n 134 2 v2 s.ses.length (cellsE s.ses)) (h3:w.ownsRow n 123 5 v3 s.marks.length (cellsK s.marks)):SHas n (fun _=>False) w v1 v2 v3 s:=by
 have k12:=own_apart h1 h2 (by decide)
 have k13:=own_apart h1 h3 (by decide)
 have k23:=own_apart h2 h3 (by decide)
 obtain⟨g1,hg1,O1⟩:=Own.of_row h1
 obtain⟨g2,a2,c2,hg2,hv2,O2⟩:=eown3 h2 rfl rfl
 obtain⟨g3,hg3,O3⟩:=mown_of_owns h3
 have q1:0 < s.nodes.length→v1.ownBlock=some g1:=fun h0=>by obtain⟨a,cap,e,-,-,h4⟩:=O1;obtain⟨off,rfl,-⟩:=h4 h0;rw [e];rfl
 have q2:0 < s.ses.length→v2.ownBlock=some g2:=fun h0=>by obtain⟨a,cap,e,-,-,h4⟩:=O2;obtain⟨off,rfl,-⟩:=h4 h0;rw [e];rfl
 have q3:0 < s.marks.length→v3.ownBlock=some g3:=fun h0=>by obtain⟨a,cap,e,-,-,h4⟩:=O3;obtain⟨off,rfl,-⟩:=h4 h0;rw [e];rfl
 refine⟨g1,g2,g3,⟨hg1,hg2,hg3⟩,⟨fun _ h=>h,fun _ h=>h,fun _ h=>h⟩,⟨fun a b e=>?_,fun a b e=>?_,fun a b e=>?_⟩,O1,O2,O3⟩
 ·rw [q1 a,q2 b,e] at k12;simp at k12
 ·rw [q1 a,q3 b,e] at k13;simp at k13
 ·rw [q2 a,q3 b,e] at k23;simp at k23
theorem wp_append_none {P:Program} {w:World} {o:Oper} {a:Act} {K:Act→World→Prop} {Q:Exit→Act→World→Prop} (s x:Operand) (t:TypeId)
  (ho:o.op = .call { callee:=.builtin .append,args:=#[s,x],argTypes:=#[t,t] })
  (base:Nat) (e:TypeId) (i:TypeInfo) (size:Nat) (ht:P.underlying t=some (.slice e)) (hi:P.info? e=some i)
  (v:Value) (n:Nat) (xs:List Value) (hs:a.eval s=v) (hown:w.ownsRow base e size v n xs) (c:Nat) (hx:a.eval x = .slice none 0 c)
  (h:K (a.put o.dst v) w):Oper.wp P o a w K Q:=by
 have hrun:(Builtin.append_ #[t,t] o.type #[v,.slice none 0 c]).run P w = .ok v w:=by
  rcases hown.2 with ⟨rfl,rfl⟩ | ⟨g,cap,cur,rfl,_,_,hnc,_⟩
  ·simp [Builtin.append_,run_underlying ht,sizeOf,typeInfo,hi,Builtin.lenOf,Builtin.firstCells]
  ·simp [Builtin.append_,run_underlying ht,sizeOf,typeInfo,hi,Builtin.lenOf,Builtin.firstCells,hnc,storeCells]
 unfold Oper.wp
 simp [execOp,ho,resolve,invoke,builtin,hs,hx,hrun,Result.andThen]
 exact h
/-- append to a row of no entries, in a region that draws, whatever the source's address. -/
theorem step_append_from {P:Program} (w:World) {ops:Array Oper} {o:Oper} {a:Act} {K:Act→World→Prop} {Q:Exit→Act→World→Prop} {E:Prop} (hgd:o.guard=none) (s x:Operand) (t:TypeId)
  (ho:o.op = .call { callee:=.builtin .append,args:=#[s,x],argTypes:=#[t,t] })
  (base:Nat) (e:TypeId) (i:TypeInfo) (z:Value) (size bytes:Nat) (ht:P.underlying t=some (.slice e)) (hi:P.info? e=some i) (hz:i.zero=some z)
  (hsize:i.size=size) (hby:i.bytes=bytes) (hzs:z.cells.size=size) (hsz:0 < size)
  (v0:Value) (hs:a.eval s=v0) (hown:w.ownsRow base e size v0 0 [])
  (ad:Option Addr) (m c:Nat) (news:List Value) (hx:a.eval x = .slice ad m c) (hl:news.length=m * size) (hnews:0 < m→∃ b off,ad=some ⟨b,off,none⟩∧∀ j u,news[j]?=some u→w.cell? ((⟨b,off,none⟩:Addr).add j)=some u) (h1:∀ u ∈ news,u.oneCell'=true)
  (h63:m≤maxLen) (hbytes:m * bytes≤140737488355328) (hbase:base≤w.heap.size)
  (h:∀ v' w',w'.ownsRow base e size v' m news→w.grownBy w' v0.ownBlock→(v' = .slice none 0 0→v0 = .slice none 0 0)→K (a.put o.dst v') w') :
  if Region.wanted o (yielded ops a.tmps)=true then Oper.wp P o a w K Q else E:=by
 have hw:Region.wanted o (yielded ops a.tmps)=true:=by simp [Region.wanted,hgd]
 rw [if_pos hw]
 have hn0:¬ 0 < m→news = []:=fun h0=>List.eq_nil_of_length_eq_zero (by rw [hl,Nat.eq_zero_of_not_pos h0,Nat.zero_mul])
 cases ad with
 | none =>
  have h0:¬ 0 < m:=fun h0=>by obtain⟨b,off,e,-⟩:=hnews h0;cases e
  obtain rfl:m=0:=by omega
  rw [hn0 h0] at h
  exact wp_append_none s x t ho base e i size ht hi v0 0 [] hs hown c hx (h v0 w hown (World.grownBy.refl _ _) fun e=>e)
 | some ad =>
  refine wp_append_own w s x t ho base e i z size bytes ht hi hz hsize hby hzs hsz v0 0 [] hs hown ad m c news hx hl ?_ h1 (by omega) (by rw [Nat.zero_add];exact hbytes) hbase ?_
  ·by_cases h0:0 < m
   ·obtain⟨b,off,e,hn⟩:=hnews h0
    cases e
    exact hn
   ·intro j u hj
    rw [hn0 h0] at hj
    simp at hj
  ·intro v' w' k1 k2 k3
   rw [Nat.zero_add,List.nil_append] at k1
   exact h v' w' k1 k2 fun e=>(k3.1 e).1
set_option maxHeartbeats 1000000 in
set_option maxRecDepth 100000 in
theorem l2Copy_row (v:Value) (zs:List Zn) (w:World) (hS:NSlice w v zs) (hl:zs.length≤1048576) (hp:0 < zs.length) :
  Calls Tryz.prog 121 #[v] w fun e w'=>∃ v',e = .returned v'∧w'.ownsRow w.heap.size 144 5 v' zs.length (cellsZ zs)∧Ext w w':=by
 refine n21z ?_
 intro hi9
 obtain⟨i0,hi,hx⟩:=Option.map_eq_some_iff.1 hi9
 simp only [Prod.mk.injEq] at hx
 obtain⟨hz0,hz1,hz2⟩:=hx
 clear hi9
 obtain⟨a,cap,rfl,hlc,hcm,hx⟩:=hS
 obtain⟨b,off,rfl,hb,hN⟩:=hx hp
 refine n73z ?_
 intro HN
 clear hN hx
 unfold maxLen at hcm
 refine n44z ?_
 intro HO
 go_enter Tryz.func121,Tryz.ntmps121
 go_wp2_with (at_builtin;go_must (refine wpList_append_own _ rfl _ _ 33 rfl w.heap.size 144 i0 (.agg #[.string ByteArray.empty,.int .i64 0,.int .i64 0,.int .i64 0,.int .i64 0]) 5 48 Tryz.underlying33 hi hz0 hz1 hz2 rfl (by decide) _ 0 [] rfl HO.out ⟨b,off,none⟩ zs.length cap (cellsZ zs) rfl (cellsZ_length zs) HN.out.news (cellsZ_one zs) (by unfold maxLen;omega) (by omega) (by simp) ?_;intro v' w3 hown' hgrow3 hnil3))
 have hown2:w3.ownsRow w.heap.size 144 5 v' zs.length (cellsZ zs):=by simpa using hown'
 have HE:Ext w w3:=((Below.refl _ _).alloc (Nat.le_refl _) _).grown hgrow3 (by simp) (fun q hq=>(HO.out.lt q hq).1)
 go_ret
 exact⟨_,rfl,hown2,HE⟩
set_option linter.unusedSimpArgs false in
set_option maxHeartbeats 4000000 in
set_option maxRecDepth 100000 in
theorem l6Copy_any (s:Stt) (vn vs vm:Value) (w:World) (hS:SSlice w vn vs vm s) (hf:s.nodes.length≤1048576∧s.ses.length≤1048576∧s.marks.length≤1048576) (hp:0 < s.nodes.length) :
  Calls Tryz.prog 53 #[sagg vn vs s.now vm] w fun e w'=>∃ un us um,e = .returned (sagg un us s.now um)∧SomeS us∧SHas w.heap.size (fun _=>False) w' un us um s∧Ext w w':=by
 refine n43z ?_
 intro hi9
 obtain⟨ei,eh,hx⟩:=Option.map_eq_some_iff.1 hi9
 simp only [Prod.mk.injEq] at hx
 obtain⟨ez0,ez1,ez2⟩:=hx
 clear hi9
 refine n58z ?_
 intro hi9
 obtain⟨ki,kh,hx⟩:=Option.map_eq_some_iff.1 hi9
 simp only [Prod.mk.injEq] at hx
 obtain⟨kz0,kz1,kz2⟩:=hx
 clear hi9
 have HCp:Hid (∀ wx,Ext w wx→Calls Tryz.prog 121 #[vn] wx fun e w'=>∃ v',e = .returned v'∧w'.ownsRow wx.heap.size 144 5 v' s.nodes.length (cellsZ s.nodes)∧Ext wx w'):=fun wx he=>l2Copy_row vn s.nodes wx (hS.1.ext he) hf.1 hp
 have HLs:Hid (s.ses.length≤1048576):=hf.2.1
 have HLm:Hid (s.marks.length≤1048576):=hf.2.2
 have HN0:Hid (∀ W,Ext w W→ESlice W vs s.ses):=fun W he=>hS.2.1.ext he
 have HN1:Hid (∀ W,Ext w W→MSlice W vm s.marks):=fun W he=>hS.2.2.ext he
 obtain⟨⟨an,cn,rfl⟩,⟨ae,ce,rfl⟩,⟨am,cm,rfl⟩⟩:=And.intro hS.1.vis (And.intro hS.2.1.vis hS.2.2.vis)
 have HE0:Hid (∀ W,Ext w W→0 < s.ses.length→∃ b off,ae=some ⟨b,off,none⟩∧∀ j u,(cellsE s.ses)[j]?=some u→W.cell? ((⟨b,off,none⟩:Addr).add j)=some u):=fun W he h0=>by
  obtain⟨a,cap,e1,-,-,h4⟩:=HN0.out W he
  injection e1 with e1 e2 e3
  subst e1
  obtain⟨b,off,e,-,hN⟩:=h4 h0
  exact⟨b,off,e,hN.news⟩
 have HM0:Hid (∀ W,Ext w W→0 < s.marks.length→∃ b off,am=some ⟨b,off,none⟩∧∀ j u,(cellsK s.marks)[j]?=some u→W.cell? ((⟨b,off,none⟩:Addr).add j)=some u):=fun W he h0=>by
  obtain⟨a,cap,e1,-,-,h4⟩:=HN1.out W he
  injection e1 with e1 e2 e3
  subst e1
  obtain⟨b,off,e,-,hN⟩:=h4 h0
  exact⟨b,off,e,hN.news⟩
 have X0:Hid (∀ t1 t2,SBoxAt ((w.alloc (.cells #[.slice an s.nodes.length cn,.slice ae s.ses.length ce,.int .i64 s.now,.slice am s.marks.length cm] t1)).alloc (.cells #[.slice none 0 0,.slice none 0 0,.int .i64 0,.slice none 0 0] t2)) (w.heap.size+1) (.slice none 0 0) (.slice none 0 0) (.int .i64 0) (.slice none 0 0)):=fun t1 t2=>by
  have h:=sbox_new (w.alloc (.cells #[.slice an s.nodes.length cn,.slice ae s.ses.length ce,.int .i64 s.now,.slice am s.marks.length cm] t1)) (.slice none 0 0) (.slice none 0 0) (.int .i64 0) (.slice none 0 0) t2
  simp only [World.size_alloc] at h
  exact h
 clear hS hf hp HN0 HN1
 unfold sagg
 go_enter Tryz.func53,Tryz.ntmps53
 go_wp2
 generalize hw2:World.alloc (World.alloc w _) _=w2
 obtain⟨w1,E1,F0,HZ,HZ2,hS1,hR⟩:∃ w1,Hid (Ext w w1)∧Hid (Ext w1 w2)∧Hid (w1.heap.size=w.heap.size+1)∧Hid (w2.heap.size=w.heap.size+2)∧(fun W' : World=>W'.cell? ⟨w.heap.size,0,none⟩=some (.slice an s.nodes.length cn)∧W'.cell? ⟨w.heap.size,1,none⟩=some (.slice ae s.ses.length ce)∧W'.cell? ⟨w.heap.size,2,none⟩=some (.int .i64 s.now)∧W'.cell? ⟨w.heap.size,3,none⟩=some (.slice am s.marks.length cm)) w1∧SBoxAt w2 (w.heap.size+1) (.slice none 0 0) (.slice none 0 0) (.int .i64 0) (.slice none 0 0):=by
  refine⟨w.alloc (.cells #[.slice an s.nodes.length cn,.slice ae s.ses.length ce,.int .i64 s.now,.slice am s.marks.length cm] 37),(Ext.refl _).alloc _,by show Ext _ w2;rw [← hw2];exact (Ext.refl _).alloc _,by show _=_;simp,by show _=_;rw [← hw2];simp,?_,by rw [← hw2];exact X0.out _ _⟩
  obtain⟨-,h,-⟩:=sbox_new w (.slice an s.nodes.length cn) (.slice ae s.ses.length ce) (.int .i64 s.now) (.slice am s.marks.length cm) 37
  exact h
 clear hw2 X0
 have HS:Hid (∀ W',Ext w1 W'→(fun W' : World=>W'.cell? ⟨w.heap.size,0,none⟩=some (.slice an s.nodes.length cn)∧W'.cell? ⟨w.heap.size,1,none⟩=some (.slice ae s.ses.length ce)∧W'.cell? ⟨w.heap.size,2,none⟩=some (.int .i64 s.now)∧W'.cell? ⟨w.heap.size,3,none⟩=some (.slice am s.marks.length cm)) W'):=fun W' he=>by
  obtain⟨h0,h1,h2,h3⟩:=hS1
  exact⟨cell_on h0 he,cell_on h1 he,cell_on h2 he,cell_on h3 he⟩
 have HNe:Hid _:=HE0
 have HNm:Hid _:=HM0
 have R2:Hid (∀ W',Ext w2 W'→SBoxAt W' (w.heap.size+1) (.slice none 0 0) (.slice none 0 0) (.int .i64 0) (.slice none 0 0)):=fun W' he=>hR.ext he
 clear hS1 hR HE0 HM0
 refine wp_region_held_drew (S:=(fun W' : World=>W'.cell? ⟨w.heap.size,0,none⟩=some (.slice an s.nodes.length cn)∧W'.cell? ⟨w.heap.size,1,none⟩=some (.slice ae s.ses.length ce)∧W'.cell? ⟨w.heap.size,2,none⟩=some (.int .i64 s.now)∧W'.cell? ⟨w.heap.size,3,none⟩=some (.slice am s.marks.length cm))) (by kernel_rfl) (HS.out _ (F0.out.trans (Ext.refl _).drew)) (fun hHeld=>?_)
 have FZ:Hid (Ext w2 w2.drew):=(Ext.refl _).drew
 generalize w2.drew=y0 at *
 refine tk 0 ⟨some 3,.fieldAddr 37 (.tmp 1) 0,0,oz11,#[],none⟩ ?_
 refine tk 1 ⟨some 4,.load 33 (.tmp 3),33,oz11,#[⟨0,.data⟩],none⟩ ?_
 refine tk 4 ⟨some 7,.fieldAddr 37 (.tmp 1) 1,0,oz11,#[],none⟩ ?_
 refine tk 5 ⟨some 8,.load 34 (.tmp 7),34,oz11,#[⟨4,.data⟩],none⟩ ?_
 refine tk 7 ⟨some 10,.fieldAddr 37 (.tmp 1) 2,0,oz11,#[],none⟩ ?_
 refine tk 8 ⟨some 11,.load 2 (.tmp 10),2,oz11,#[⟨7,.data⟩],none⟩ ?_
 refine tk 10 ⟨some 13,.fieldAddr 37 (.tmp 1) 3,0,oz11,#[],none⟩ ?_
 refine tk 11 ⟨some 14,.load 35 (.tmp 13),35,oz11,#[⟨10,.data⟩],none⟩ ?_
 refine wpAnyH_ready (rs:=[2,3,9]) (by kernel_rfl) (by simp) (AllReadyH.cons rfl (fun K hK=>?_) (AllReadyH.cons rfl (fun K hK=>?_) (AllReadyH.cons rfl (fun K hK=>?_) AllReadyH.nil)))
 ·go_simp
  refine (HCp.out _ (E1.out.trans (F0.out.trans FZ.out))).mono ?_
  rintro e y1 ⟨vn,rfl,hr,hb⟩
  obtain⟨bn,kn,rfl⟩:=owns_shape hr
  have F1:Hid (Ext w2 y1):=FZ.out.trans hb
  have N1:Hid (y1.ownsRow (w.heap.size+2) 144 5 (.slice bn s.nodes.length kn) s.nodes.length (cellsZ s.nodes)):=hr.mono (by have:=FZ.out.size;have:=HZ2.out;omega)
  clear hr hb
  refine hK.out _ _ (HS.out _ (F0.out.trans F1.out)) (fun hHeld1=>?_)
  clear hK K
  refine wpAnyH_ready (rs:=[3,9]) (by kernel_rfl) (by simp) (AllReadyH.cons rfl (fun K hK=>?_) (AllReadyH.cons rfl (fun K hK=>?_) AllReadyH.nil))
  ·go_simp
   have F4:Hid (Ext w2 (y1.alloc (.cells #[] 134))):=F1.out.alloc _
   have N4:Hid ((y1.alloc (.cells #[] 134)).ownsRow (w.heap.size+2) 144 5 (.slice bn s.nodes.length kn) s.nodes.length (cellsZ s.nodes)):=owns_ext N1.out ((Ext.refl _).alloc _)
   obtain⟨gp,hgp⟩:∃ g,g=y1.heap.size:=⟨_,rfl⟩
   have P4:Hid ((y1.alloc (.cells #[] 134)).ownsRow (w.heap.size+2) 134 2 (.slice (some ⟨gp,0,none⟩) 0 0) 0 []):=by rw [hgp];exact World.ownsRow_made y1 #[] 0 (by have:=F1.out.size;have:=HZ2.out;omega) (by unfold maxLen;omega) rfl
   rw [← hgp]
   clear hgp
   refine hK.out _ _ (HS.out _ (F0.out.trans F4.out)) (fun hHeld4=>?_)
   clear hK K
   generalize (y1.alloc (.cells #[] 134))=y4 at *
   refine wpAnyH_ready (rs:=[6,9]) (by kernel_rfl) (by simp) (AllReadyH.cons rfl (fun K hK=>?_) (AllReadyH.cons rfl (fun K hK=>?_) AllReadyH.nil))
   ·refine step_append_from _ rfl (.tmp 6) (.tmp 8) 34 rfl (w.heap.size+2) 134 ei (.agg #[.int .i64 0,.int .i64 0]) 2 16 Tryz.underlying34 eh ez0 ez1 ez2 rfl (by decide) (.slice (some ⟨gp,0,none⟩) 0 0) rfl P4.out ae s.ses.length ce (cellsE s.ses) rfl (cellsE_len _) (HNe.out _ (E1.out.trans (F0.out.trans F4.out))) (cellsE_one _) (by have:=HLs.out;unfold maxLen;omega) (by have:=HLs.out;omega) (by have:=F4.out.size;have:=HZ2.out;omega) ?_
    intro vs y6 hr hgr hnil
    obtain⟨bs,ks,rfl⟩:=owns_shape hr
    have F6:Hid (Ext w2 y6):=Below.grown F4.out hgr (F4.out.size) (fun z hz=>by have:=(P4.out.lt z hz).1;have:=HZ2.out;omega)
    have N6:Hid (y6.ownsRow (w.heap.size+2) 144 5 (.slice bn s.nodes.length kn) s.nodes.length (cellsZ s.nodes)):=N4.out.kept hgr (own_apart N4.out P4.out (by decide))
    have S6:Hid (y6.ownsRow (w.heap.size+2) 134 2 (.slice bs s.ses.length ks) s.ses.length (cellsE s.ses)):=hr
    have HSS:Hid (SomeS (.slice bs s.ses.length ks)):=owns_some hr (fun h=>by have:=hnil h;cases this)
    clear hr hgr hnil
    refine hK.out _ _ (HS.out _ (F0.out.trans F6.out)) (fun hHeld6=>?_)
    clear hK K
    (try dsimp only)
    (try simp only [Act.put,List.setIfInBounds_toArray,List.set_cons_zero,List.set_cons_succ])
    refine wpAnyH_ready (rs:=[9]) (by kernel_rfl) (by simp) (AllReadyH.cons rfl (fun K hK=>?_) AllReadyH.nil)
    go_simp
    have F8:Hid (Ext w2 (y6.alloc (.cells #[] 123))):=F6.out.alloc _
    have N8:Hid ((y6.alloc (.cells #[] 123)).ownsRow (w.heap.size+2) 144 5 (.slice bn s.nodes.length kn) s.nodes.length (cellsZ s.nodes)):=owns_ext N6.out ((Ext.refl _).alloc _)
    have S8:Hid ((y6.alloc (.cells #[] 123)).ownsRow (w.heap.size+2) 134 2 (.slice bs s.ses.length ks) s.ses.length (cellsE s.ses)):=owns_ext S6.out ((Ext.refl _).alloc _)
    obtain⟨gq,hgq⟩:∃ g,g=y6.heap.size:=⟨_,rfl⟩
    have Q8:Hid ((y6.alloc (.cells #[] 123)).ownsRow (w.heap.size+2) 123 5 (.slice (some ⟨gq,0,none⟩) 0 0) 0 []):=by rw [hgq];exact World.ownsRow_made y6 #[] 0 (by have:=F6.out.size;have:=HZ2.out;omega) (by unfold maxLen;omega) rfl
    rw [← hgq]
    clear hgq
    refine hK.out _ _ (HS.out _ (F0.out.trans F8.out)) (fun hHeld8=>?_)
    clear hK K
    generalize (y6.alloc (.cells #[] 123))=y8 at *
    refine wpAnyH_ready (rs:=[12]) (by kernel_rfl) (by simp) (AllReadyH.cons rfl (fun K hK=>?_) AllReadyH.nil)
    refine step_append_from _ rfl (.tmp 12) (.tmp 14) 35 rfl (w.heap.size+2) 123 ki (.agg #[.int .i64 0,.int .i64 0,.int .i64 0,.int .i64 0,.string ByteArray.empty]) 5 48 Tryz.underlying35 kh kz0 kz1 kz2 rfl (by decide) (.slice (some ⟨gq,0,none⟩) 0 0) rfl Q8.out am s.marks.length cm (cellsK s.marks) rfl (cellsK_len _) (HNm.out _ (E1.out.trans (F0.out.trans F8.out))) (cellsK_one _) (by have:=HLm.out;unfold maxLen;omega) (by have:=HLm.out;omega) (by have:=F8.out.size;have:=HZ2.out;omega) ?_
    intro vm y9 hr hgr hnil
    obtain⟨bm,km,rfl⟩:=owns_shape hr
    have F9:Hid (Ext w2 y9):=Below.grown F8.out hgr (F8.out.size) (fun z hz=>by have:=(Q8.out.lt z hz).1;have:=HZ2.out;omega)
    have N9:Hid (y9.ownsRow (w.heap.size+2) 144 5 (.slice bn s.nodes.length kn) s.nodes.length (cellsZ s.nodes)):=N8.out.kept hgr (own_apart N8.out Q8.out (by decide))
    have S9:Hid (y9.ownsRow (w.heap.size+2) 134 2 (.slice bs s.ses.length ks) s.ses.length (cellsE s.ses)):=S8.out.kept hgr (own_apart S8.out Q8.out (by decide))
    have M9:Hid (y9.ownsRow (w.heap.size+2) 123 5 (.slice bm s.marks.length km) s.marks.length (cellsK s.marks)):=hr
    clear hr hgr hnil
    refine hK.out _ _ (HS.out _ (F0.out.trans F9.out)) (fun hHeld9=>?_)
    clear hK K
    (try dsimp only)
    (try simp only [Act.put,List.setIfInBounds_toArray,List.set_cons_zero,List.set_cons_succ])
    refine tk 13 ⟨some 16,.build 37 #[(0,.tmp 5),(1,.tmp 9),(2,.tmp 11),(3,.tmp 15)],37,oz11,oy12,none⟩ ?_
    refine wpAnyH_ready (rs:=[14]) (by kernel_rfl) (by simp) (AllReadyH.cons rfl (fun K hK=>?_) AllReadyH.nil)
    have R10:=R2.out _ F9.out
    obtain⟨ql,⟨c0,c1,c2,c3⟩,l0,l1,l2,l3⟩:=R10
    go_simp
    have F10:Hid (Ext w1 ((((y9.setCell ⟨w.heap.size+1,0,none⟩ (.slice bn s.nodes.length kn)).setCell ⟨w.heap.size+1,1,none⟩ (.slice bs s.ses.length ks)).setCell ⟨w.heap.size+1,2,none⟩ (.int .i64 s.now)).setCell ⟨w.heap.size+1,3,none⟩ (.slice bm s.marks.length km))):=(((((F0.out.trans F9.out).setCell (p:=⟨w.heap.size+1,0,none⟩) (by have:=HZ.out;show w1.heap.size≤w.heap.size+1;omega) _).setCell (p:=⟨w.heap.size+1,1,none⟩) (by have:=HZ.out;show w1.heap.size≤w.heap.size+1;omega) _).setCell (p:=⟨w.heap.size+1,2,none⟩) (by have:=HZ.out;show w1.heap.size≤w.heap.size+1;omega) _).setCell (p:=⟨w.heap.size+1,3,none⟩) (by have:=HZ.out;show w1.heap.size≤w.heap.size+1;omega) _)
    have HF:Hid (SHas w.heap.size (fun _=>False) ((((y9.setCell ⟨w.heap.size+1,0,none⟩ (.slice bn s.nodes.length kn)).setCell ⟨w.heap.size+1,1,none⟩ (.slice bs s.ses.length ks)).setCell ⟨w.heap.size+1,2,none⟩ (.int .i64 s.now)).setCell ⟨w.heap.size+1,3,none⟩ (.slice bm s.marks.length km)) (.slice bn s.nodes.length kn) (.slice bs s.ses.length ks) (.slice bm s.marks.length km) s):=(shas_of_rows (ownsRow_setCell_below (ownsRow_setCell_below (ownsRow_setCell_below (ownsRow_setCell_below N9.out (by show w.heap.size+1 < _;omega) _) (by show w.heap.size+1 < _;omega) _) (by show w.heap.size+1 < _;omega) _) (by show w.heap.size+1 < _;omega) _) (ownsRow_setCell_below (ownsRow_setCell_below (ownsRow_setCell_below (ownsRow_setCell_below S9.out (by show w.heap.size+1 < _;omega) _) (by show w.heap.size+1 < _;omega) _) (by show w.heap.size+1 < _;omega) _) (by show w.heap.size+1 < _;omega) _) (ownsRow_setCell_below (ownsRow_setCell_below (ownsRow_setCell_below (ownsRow_setCell_below M9.out (by show w.heap.size+1 < _;omega) _) (by show w.heap.size+1 < _;omega) _) (by show w.heap.size+1 < _;omega) _) (by show w.heap.size+1 < _;omega) _)).least (by omega)
    have HX:Hid (SBoxAt ((((y9.setCell ⟨w.heap.size+1,0,none⟩ (.slice bn s.nodes.length kn)).setCell ⟨w.heap.size+1,1,none⟩ (.slice bs s.ses.length ks)).setCell ⟨w.heap.size+1,2,none⟩ (.int .i64 s.now)).setCell ⟨w.heap.size+1,3,none⟩ (.slice bm s.marks.length km)) (w.heap.size+1) (.slice bn s.nodes.length kn) (.slice bs s.ses.length ks) (.int .i64 s.now) (.slice bm s.marks.length km)):=((((SBoxAt.set0 ⟨ql,⟨c0,c1,c2,c3⟩,l0,l1,l2,l3⟩ _).set1 _).set2 _).set3 _)
    clear ql c0 c1 c2 c3 l0 l1 l2 l3
    refine hK.out _ _ (HS.out _ F10.out) (fun hHeld10=>?_)
    clear hK K
    generalize ((((y9.setCell ⟨w.heap.size+1,0,none⟩ (.slice bn s.nodes.length kn)).setCell ⟨w.heap.size+1,1,none⟩ (.slice bs s.ses.length ks)).setCell ⟨w.heap.size+1,2,none⟩ (.int .i64 s.now)).setCell ⟨w.heap.size+1,3,none⟩ (.slice bm s.marks.length km))=y10 at *
    refine wpAnyH_done (by kernel_rfl) ?_ _
    obtain⟨ql,⟨c0,c1,c2,c3⟩,-⟩:=HX.out
    go_wp2
    exact bodyPost_ret (v:=sagg (.slice bn s.nodes.length kn) (.slice bs s.ses.length ks) s.now (.slice bm s.marks.length km)) (by simp [results,Tryz.results53,go_sem,sagg,c0,c1,c2,c3]) rfl ⟨_,_,_,rfl,HSS.out,HF.out,E1.out.trans F10.out⟩
   ·go_simp
    have F7:Hid (Ext w2 (y4.alloc (.cells #[] 123))):=F4.out.alloc _
    have N7:Hid ((y4.alloc (.cells #[] 123)).ownsRow (w.heap.size+2) 144 5 (.slice bn s.nodes.length kn) s.nodes.length (cellsZ s.nodes)):=owns_ext N4.out ((Ext.refl _).alloc _)
    have P7:Hid ((y4.alloc (.cells #[] 123)).ownsRow (w.heap.size+2) 134 2 (.slice (some ⟨gp,0,none⟩) 0 0) 0 []):=owns_ext P4.out ((Ext.refl _).alloc _)
    obtain⟨gq,hgq⟩:∃ g,g=y4.heap.size:=⟨_,rfl⟩
    have Q7:Hid ((y4.alloc (.cells #[] 123)).ownsRow (w.heap.size+2) 123 5 (.slice (some ⟨gq,0,none⟩) 0 0) 0 []):=by rw [hgq];exact World.ownsRow_made y4 #[] 0 (by have:=F4.out.size;have:=HZ2.out;omega) (by unfold maxLen;omega) rfl
    rw [← hgq]
    clear hgq
    refine hK.out _ _ (HS.out _ (F0.out.trans F7.out)) (fun hHeld7=>?_)
    clear hK K
    generalize (y4.alloc (.cells #[] 123))=y7 at *
    refine wpAnyH_ready (rs:=[6]) (by kernel_rfl) (by simp) (AllReadyH.cons rfl (fun K hK=>?_) AllReadyH.nil)
    refine step_append_from _ rfl (.tmp 6) (.tmp 8) 34 rfl (w.heap.size+2) 134 ei (.agg #[.int .i64 0,.int .i64 0]) 2 16 Tryz.underlying34 eh ez0 ez1 ez2 rfl (by decide) (.slice (some ⟨gp,0,none⟩) 0 0) rfl P7.out ae s.ses.length ce (cellsE s.ses) rfl (cellsE_len _) (HNe.out _ (E1.out.trans (F0.out.trans F7.out))) (cellsE_one _) (by have:=HLs.out;unfold maxLen;omega) (by have:=HLs.out;omega) (by have:=F7.out.size;have:=HZ2.out;omega) ?_
    intro vs y11 hr hgr hnil
    obtain⟨bs,ks,rfl⟩:=owns_shape hr
    have F11:Hid (Ext w2 y11):=Below.grown F7.out hgr (F7.out.size) (fun z hz=>by have:=(P7.out.lt z hz).1;have:=HZ2.out;omega)
    have N11:Hid (y11.ownsRow (w.heap.size+2) 144 5 (.slice bn s.nodes.length kn) s.nodes.length (cellsZ s.nodes)):=N7.out.kept hgr (own_apart N7.out P7.out (by decide))
    have Q11:Hid (y11.ownsRow (w.heap.size+2) 123 5 (.slice (some ⟨gq,0,none⟩) 0 0) 0 []):=Q7.out.kept hgr (own_apart Q7.out P7.out (by decide))
    have S11:Hid (y11.ownsRow (w.heap.size+2) 134 2 (.slice bs s.ses.length ks) s.ses.length (cellsE s.ses)):=hr
    have HSS:Hid (SomeS (.slice bs s.ses.length ks)):=owns_some hr (fun h=>by have:=hnil h;cases this)
    clear hr hgr hnil
    refine hK.out _ _ (HS.out _ (F0.out.trans F11.out)) (fun hHeld11=>?_)
    clear hK K
    (try dsimp only)
    (try simp only [Act.put,List.setIfInBounds_toArray,List.set_cons_zero,List.set_cons_succ])
    refine wpAnyH_ready (rs:=[12]) (by kernel_rfl) (by simp) (AllReadyH.cons rfl (fun K hK=>?_) AllReadyH.nil)
    refine step_append_from _ rfl (.tmp 12) (.tmp 14) 35 rfl (w.heap.size+2) 123 ki (.agg #[.int .i64 0,.int .i64 0,.int .i64 0,.int .i64 0,.string ByteArray.empty]) 5 48 Tryz.underlying35 kh kz0 kz1 kz2 rfl (by decide) (.slice (some ⟨gq,0,none⟩) 0 0) rfl Q11.out am s.marks.length cm (cellsK s.marks) rfl (cellsK_len _) (HNm.out _ (E1.out.trans (F0.out.trans F11.out))) (cellsK_one _) (by have:=HLm.out;unfold maxLen;omega) (by have:=HLm.out;omega) (by have:=F11.out.size;have:=HZ2.out;omega) ?_
    intro vm y12 hr hgr hnil
    obtain⟨bm,km,rfl⟩:=owns_shape hr
    have F12:Hid (Ext w2 y12):=Below.grown F11.out hgr (F11.out.size) (fun z hz=>by have:=(Q11.out.lt z hz).1;have:=HZ2.out;omega)
    have N12:Hid (y12.ownsRow (w.heap.size+2) 144 5 (.slice bn s.nodes.length kn) s.nodes.length (cellsZ s.nodes)):=N11.out.kept hgr (own_apart N11.out Q11.out (by decide))
    have S12:Hid (y12.ownsRow (w.heap.size+2) 134 2 (.slice bs s.ses.length ks) s.ses.length (cellsE s.ses)):=S11.out.kept hgr (own_apart S11.out Q11.out (by decide))
    have M12:Hid (y12.ownsRow (w.heap.size+2) 123 5 (.slice bm s.marks.length km) s.marks.length (cellsK s.marks)):=hr
    clear hr hgr hnil
    refine hK.out _ _ (HS.out _ (F0.out.trans F12.out)) (fun hHeld12=>?_)
    clear hK K
    (try dsimp only)
    (try simp only [Act.put,List.setIfInBounds_toArray,List.set_cons_zero,List.set_cons_succ])
    refine tk 13 ⟨some 16,.build 37 #[(0,.tmp 5),(1,.tmp 9),(2,.tmp 11),(3,.tmp 15)],37,oz11,oy12,none⟩ ?_
    refine wpAnyH_ready (rs:=[14]) (by kernel_rfl) (by simp) (AllReadyH.cons rfl (fun K hK=>?_) AllReadyH.nil)
    have R13:=R2.out _ F12.out
    obtain⟨ql,⟨c0,c1,c2,c3⟩,l0,l1,l2,l3⟩:=R13
    go_simp
    have F13:Hid (Ext w1 ((((y12.setCell ⟨w.heap.size+1,0,none⟩ (.slice bn s.nodes.length kn)).setCell ⟨w.heap.size+1,1,none⟩ (.slice bs s.ses.length ks)).setCell ⟨w.heap.size+1,2,none⟩ (.int .i64 s.now)).setCell ⟨w.heap.size+1,3,none⟩ (.slice bm s.marks.length km))):=(((((F0.out.trans F12.out).setCell (p:=⟨w.heap.size+1,0,none⟩) (by have:=HZ.out;show w1.heap.size≤w.heap.size+1;omega) _).setCell (p:=⟨w.heap.size+1,1,none⟩) (by have:=HZ.out;show w1.heap.size≤w.heap.size+1;omega) _).setCell (p:=⟨w.heap.size+1,2,none⟩) (by have:=HZ.out;show w1.heap.size≤w.heap.size+1;omega) _).setCell (p:=⟨w.heap.size+1,3,none⟩) (by have:=HZ.out;show w1.heap.size≤w.heap.size+1;omega) _)
    have HF:Hid (SHas w.heap.size (fun _=>False) ((((y12.setCell ⟨w.heap.size+1,0,none⟩ (.slice bn s.nodes.length kn)).setCell ⟨w.heap.size+1,1,none⟩ (.slice bs s.ses.length ks)).setCell ⟨w.heap.size+1,2,none⟩ (.int .i64 s.now)).setCell ⟨w.heap.size+1,3,none⟩ (.slice bm s.marks.length km)) (.slice bn s.nodes.length kn) (.slice bs s.ses.length ks) (.slice bm s.marks.length km) s):=(shas_of_rows (ownsRow_setCell_below (ownsRow_setCell_below (ownsRow_setCell_below (ownsRow_setCell_below N12.out (by show w.heap.size+1 < _;omega) _) (by show w.heap.size+1 < _;omega) _) (by show w.heap.size+1 < _;omega) _) (by show w.heap.size+1 < _;omega) _) (ownsRow_setCell_below (ownsRow_setCell_below (ownsRow_setCell_below (ownsRow_setCell_below S12.out (by show w.heap.size+1 < _;omega) _) (by show w.heap.size+1 < _;omega) _) (by show w.heap.size+1 < _;omega) _) (by show w.heap.size+1 < _;omega) _) (ownsRow_setCell_below (ownsRow_setCell_below (ownsRow_setCell_below (ownsRow_setCell_below M12.out (by show w.heap.size+1 < _;omega) _) (by show w.heap.size+1 < _;omega) _) (by show w.heap.size+1 < _;omega) _) (by show w.heap.size+1 < _;omega) _)).least (by omega)
    have HX:Hid (SBoxAt ((((y12.setCell ⟨w.heap.size+1,0,none⟩ (.slice bn s.nodes.length kn)).setCell ⟨w.heap.size+1,1,none⟩ (.slice bs s.ses.length ks)).setCell ⟨w.heap.size+1,2,none⟩ (.int .i64 s.now)).setCell ⟨w.heap.size+1,3,none⟩ (.slice bm s.marks.length km)) (w.heap.size+1) (.slice bn s.nodes.length kn) (.slice bs s.ses.length ks) (.int .i64 s.now) (.slice bm s.marks.length km)):=((((SBoxAt.set0 ⟨ql,⟨c0,c1,c2,c3⟩,l0,l1,l2,l3⟩ _).set1 _).set2 _).set3 _)
    clear ql c0 c1 c2 c3 l0 l1 l2 l3
    refine hK.out _ _ (HS.out _ F13.out) (fun hHeld13=>?_)
    clear hK K
    generalize ((((y12.setCell ⟨w.heap.size+1,0,none⟩ (.slice bn s.nodes.length kn)).setCell ⟨w.heap.size+1,1,none⟩ (.slice bs s.ses.length ks)).setCell ⟨w.heap.size+1,2,none⟩ (.int .i64 s.now)).setCell ⟨w.heap.size+1,3,none⟩ (.slice bm s.marks.length km))=y13 at *
    refine wpAnyH_done (by kernel_rfl) ?_ _
    obtain⟨ql,⟨c0,c1,c2,c3⟩,-⟩:=HX.out
    go_wp2
    exact bodyPost_ret (v:=sagg (.slice bn s.nodes.length kn) (.slice bs s.ses.length ks) s.now (.slice bm s.marks.length km)) (by simp [results,Tryz.results53,go_sem,sagg,c0,c1,c2,c3]) rfl ⟨_,_,_,rfl,HSS.out,HF.out,E1.out.trans F13.out⟩
  ·go_simp
   have F5:Hid (Ext w2 (y1.alloc (.cells #[] 123))):=F1.out.alloc _
   have N5:Hid ((y1.alloc (.cells #[] 123)).ownsRow (w.heap.size+2) 144 5 (.slice bn s.nodes.length kn) s.nodes.length (cellsZ s.nodes)):=owns_ext N1.out ((Ext.refl _).alloc _)
   obtain⟨gq,hgq⟩:∃ g,g=y1.heap.size:=⟨_,rfl⟩
   have Q5:Hid ((y1.alloc (.cells #[] 123)).ownsRow (w.heap.size+2) 123 5 (.slice (some ⟨gq,0,none⟩) 0 0) 0 []):=by rw [hgq];exact World.ownsRow_made y1 #[] 0 (by have:=F1.out.size;have:=HZ2.out;omega) (by unfold maxLen;omega) rfl
   rw [← hgq]
   clear hgq
   refine hK.out _ _ (HS.out _ (F0.out.trans F5.out)) (fun hHeld5=>?_)
   clear hK K
   generalize (y1.alloc (.cells #[] 123))=y5 at *
   refine wpAnyH_ready (rs:=[3]) (by kernel_rfl) (by simp) (AllReadyH.cons rfl (fun K hK=>?_) AllReadyH.nil)
   go_simp
   have F14:Hid (Ext w2 (y5.alloc (.cells #[] 134))):=F5.out.alloc _
   have N14:Hid ((y5.alloc (.cells #[] 134)).ownsRow (w.heap.size+2) 144 5 (.slice bn s.nodes.length kn) s.nodes.length (cellsZ s.nodes)):=owns_ext N5.out ((Ext.refl _).alloc _)
   have Q14:Hid ((y5.alloc (.cells #[] 134)).ownsRow (w.heap.size+2) 123 5 (.slice (some ⟨gq,0,none⟩) 0 0) 0 []):=owns_ext Q5.out ((Ext.refl _).alloc _)
   obtain⟨gp,hgp⟩:∃ g,g=y5.heap.size:=⟨_,rfl⟩
   have P14:Hid ((y5.alloc (.cells #[] 134)).ownsRow (w.heap.size+2) 134 2 (.slice (some ⟨gp,0,none⟩) 0 0) 0 []):=by rw [hgp];exact World.ownsRow_made y5 #[] 0 (by have:=F5.out.size;have:=HZ2.out;omega) (by unfold maxLen;omega) rfl
   rw [← hgp]
   clear hgp
   refine hK.out _ _ (HS.out _ (F0.out.trans F14.out)) (fun hHeld14=>?_)
   clear hK K
   generalize (y5.alloc (.cells #[] 134))=y14 at *
   refine wpAnyH_ready (rs:=[6]) (by kernel_rfl) (by simp) (AllReadyH.cons rfl (fun K hK=>?_) AllReadyH.nil)
   refine step_append_from _ rfl (.tmp 6) (.tmp 8) 34 rfl (w.heap.size+2) 134 ei (.agg #[.int .i64 0,.int .i64 0]) 2 16 Tryz.underlying34 eh ez0 ez1 ez2 rfl (by decide) (.slice (some ⟨gp,0,none⟩) 0 0) rfl P14.out ae s.ses.length ce (cellsE s.ses) rfl (cellsE_len _) (HNe.out _ (E1.out.trans (F0.out.trans F14.out))) (cellsE_one _) (by have:=HLs.out;unfold maxLen;omega) (by have:=HLs.out;omega) (by have:=F14.out.size;have:=HZ2.out;omega) ?_
   intro vs y15 hr hgr hnil
   obtain⟨bs,ks,rfl⟩:=owns_shape hr
   have F15:Hid (Ext w2 y15):=Below.grown F14.out hgr (F14.out.size) (fun z hz=>by have:=(P14.out.lt z hz).1;have:=HZ2.out;omega)
   have N15:Hid (y15.ownsRow (w.heap.size+2) 144 5 (.slice bn s.nodes.length kn) s.nodes.length (cellsZ s.nodes)):=N14.out.kept hgr (own_apart N14.out P14.out (by decide))
   have Q15:Hid (y15.ownsRow (w.heap.size+2) 123 5 (.slice (some ⟨gq,0,none⟩) 0 0) 0 []):=Q14.out.kept hgr (own_apart Q14.out P14.out (by decide))
   have S15:Hid (y15.ownsRow (w.heap.size+2) 134 2 (.slice bs s.ses.length ks) s.ses.length (cellsE s.ses)):=hr
   have HSS:Hid (SomeS (.slice bs s.ses.length ks)):=owns_some hr (fun h=>by have:=hnil h;cases this)
   clear hr hgr hnil
   refine hK.out _ _ (HS.out _ (F0.out.trans F15.out)) (fun hHeld15=>?_)
   clear hK K
   (try dsimp only)
   (try simp only [Act.put,List.setIfInBounds_toArray,List.set_cons_zero,List.set_cons_succ])
   refine wpAnyH_ready (rs:=[12]) (by kernel_rfl) (by simp) (AllReadyH.cons rfl (fun K hK=>?_) AllReadyH.nil)
   refine step_append_from _ rfl (.tmp 12) (.tmp 14) 35 rfl (w.heap.size+2) 123 ki (.agg #[.int .i64 0,.int .i64 0,.int .i64 0,.int .i64 0,.string ByteArray.empty]) 5 48 Tryz.underlying35 kh kz0 kz1 kz2 rfl (by decide) (.slice (some ⟨gq,0,none⟩) 0 0) rfl Q15.out am s.marks.length cm (cellsK s.marks) rfl (cellsK_len _) (HNm.out _ (E1.out.trans (F0.out.trans F15.out))) (cellsK_one _) (by have:=HLm.out;unfold maxLen;omega) (by have:=HLm.out;omega) (by have:=F15.out.size;have:=HZ2.out;omega) ?_
   intro vm y16 hr hgr hnil
   obtain⟨bm,km,rfl⟩:=owns_shape hr
   have F16:Hid (Ext w2 y16):=Below.grown F15.out hgr (F15.out.size) (fun z hz=>by have:=(Q15.out.lt z hz).1;have:=HZ2.out;omega)
   have N16:Hid (y16.ownsRow (w.heap.size+2) 144 5 (.slice bn s.nodes.length kn) s.nodes.length (cellsZ s.nodes)):=N15.out.kept hgr (own_apart N15.out Q15.out (by decide))
   have S16:Hid (y16.ownsRow (w.heap.size+2) 134 2 (.slice bs s.ses.length ks) s.ses.length (cellsE s.ses)):=S15.out.kept hgr (own_apart S15.out Q15.out (by decide))
   have M16:Hid (y16.ownsRow (w.heap.size+2) 123 5 (.slice bm s.marks.length km) s.marks.length (cellsK s.marks)):=hr
   clear hr hgr hnil
   refine hK.out _ _ (HS.out _ (F0.out.trans F16.out)) (fun hHeld16=>?_)
   clear hK K
   (try dsimp only)
   (try simp only [Act.put,List.setIfInBounds_toArray,List.set_cons_zero,List.set_cons_succ])
   refine tk 13 ⟨some 16,.build 37 #[(0,.tmp 5),(1,.tmp 9),(2,.tmp 11),(3,.tmp 15)],37,oz11,oy12,none⟩ ?_
   refine wpAnyH_ready (rs:=[14]) (by kernel_rfl) (by simp) (AllReadyH.cons rfl (fun K hK=>?_) AllReadyH.nil)
   have R17:=R2.out _ F16.out
   obtain⟨ql,⟨c0,c1,c2,c3⟩,l0,l1,l2,l3⟩:=R17
   go_simp
   have F17:Hid (Ext w1 ((((y16.setCell ⟨w.heap.size+1,0,none⟩ (.slice bn s.nodes.length kn)).setCell ⟨w.heap.size+1,1,none⟩ (.slice bs s.ses.length ks)).setCell ⟨w.heap.size+1,2,none⟩ (.int .i64 s.now)).setCell ⟨w.heap.size+1,3,none⟩ (.slice bm s.marks.length km))):=(((((F0.out.trans F16.out).setCell (p:=⟨w.heap.size+1,0,none⟩) (by have:=HZ.out;show w1.heap.size≤w.heap.size+1;omega) _).setCell (p:=⟨w.heap.size+1,1,none⟩) (by have:=HZ.out;show w1.heap.size≤w.heap.size+1;omega) _).setCell (p:=⟨w.heap.size+1,2,none⟩) (by have:=HZ.out;show w1.heap.size≤w.heap.size+1;omega) _).setCell (p:=⟨w.heap.size+1,3,none⟩) (by have:=HZ.out;show w1.heap.size≤w.heap.size+1;omega) _)
   have HF:Hid (SHas w.heap.size (fun _=>False) ((((y16.setCell ⟨w.heap.size+1,0,none⟩ (.slice bn s.nodes.length kn)).setCell ⟨w.heap.size+1,1,none⟩ (.slice bs s.ses.length ks)).setCell ⟨w.heap.size+1,2,none⟩ (.int .i64 s.now)).setCell ⟨w.heap.size+1,3,none⟩ (.slice bm s.marks.length km)) (.slice bn s.nodes.length kn) (.slice bs s.ses.length ks) (.slice bm s.marks.length km) s):=(shas_of_rows (ownsRow_setCell_below (ownsRow_setCell_below (ownsRow_setCell_below (ownsRow_setCell_below N16.out (by show w.heap.size+1 < _;omega) _) (by show w.heap.size+1 < _;omega) _) (by show w.heap.size+1 < _;omega) _) (by show w.heap.size+1 < _;omega) _) (ownsRow_setCell_below (ownsRow_setCell_below (ownsRow_setCell_below (ownsRow_setCell_below S16.out (by show w.heap.size+1 < _;omega) _) (by show w.heap.size+1 < _;omega) _) (by show w.heap.size+1 < _;omega) _) (by show w.heap.size+1 < _;omega) _) (ownsRow_setCell_below (ownsRow_setCell_below (ownsRow_setCell_below (ownsRow_setCell_below M16.out (by show w.heap.size+1 < _;omega) _) (by show w.heap.size+1 < _;omega) _) (by show w.heap.size+1 < _;omega) _) (by show w.heap.size+1 < _;omega) _)).least (by omega)
   have HX:Hid (SBoxAt ((((y16.setCell ⟨w.heap.size+1,0,none⟩ (.slice bn s.nodes.length kn)).setCell ⟨w.heap.size+1,1,none⟩ (.slice bs s.ses.length ks)).setCell ⟨w.heap.size+1,2,none⟩ (.int .i64 s.now)).setCell ⟨w.heap.size+1,3,none⟩ (.slice bm s.marks.length km)) (w.heap.size+1) (.slice bn s.nodes.length kn) (.slice bs s.ses.length ks) (.int .i64 s.now) (.slice bm s.marks.length km)):=((((SBoxAt.set0 ⟨ql,⟨c0,c1,c2,c3⟩,l0,l1,l2,l3⟩ _).set1 _).set2 _).set3 _)
   clear ql c0 c1 c2 c3 l0 l1 l2 l3
   refine hK.out _ _ (HS.out _ F17.out) (fun hHeld17=>?_)
   clear hK K
   generalize ((((y16.setCell ⟨w.heap.size+1,0,none⟩ (.slice bn s.nodes.length kn)).setCell ⟨w.heap.size+1,1,none⟩ (.slice bs s.ses.length ks)).setCell ⟨w.heap.size+1,2,none⟩ (.int .i64 s.now)).setCell ⟨w.heap.size+1,3,none⟩ (.slice bm s.marks.length km))=y17 at *
   refine wpAnyH_done (by kernel_rfl) ?_ _
   obtain⟨ql,⟨c0,c1,c2,c3⟩,-⟩:=HX.out
   go_wp2
   exact bodyPost_ret (v:=sagg (.slice bn s.nodes.length kn) (.slice bs s.ses.length ks) s.now (.slice bm s.marks.length km)) (by simp [results,Tryz.results53,go_sem,sagg,c0,c1,c2,c3]) rfl ⟨_,_,_,rfl,HSS.out,HF.out,E1.out.trans F17.out⟩
 ·go_simp
  have F2:Hid (Ext w2 (y0.alloc (.cells #[] 134))):=FZ.out.alloc _
  obtain⟨gp,hgp⟩:∃ g,g=y0.heap.size:=⟨_,rfl⟩
  have P2:Hid ((y0.alloc (.cells #[] 134)).ownsRow (w.heap.size+2) 134 2 (.slice (some ⟨gp,0,none⟩) 0 0) 0 []):=by rw [hgp];exact World.ownsRow_made y0 #[] 0 (by have:=FZ.out.size;have:=HZ2.out;omega) (by unfold maxLen;omega) rfl
  rw [← hgp]
  clear hgp
  refine hK.out _ _ (HS.out _ (F0.out.trans F2.out)) (fun hHeld2=>?_)
  clear hK K
  generalize (y0.alloc (.cells #[] 134))=y2 at *
  refine wpAnyH_ready (rs:=[2,9]) (by kernel_rfl) (by simp) (AllReadyH.cons rfl (fun K hK=>?_) (AllReadyH.cons rfl (fun K hK=>?_) AllReadyH.nil))
  ·go_simp
   refine (HCp.out _ (E1.out.trans (F0.out.trans F2.out))).mono ?_
   rintro e y18 ⟨vn,rfl,hr,hb⟩
   obtain⟨bn,kn,rfl⟩:=owns_shape hr
   have F18:Hid (Ext w2 y18):=F2.out.trans hb
   have P18:Hid (y18.ownsRow (w.heap.size+2) 134 2 (.slice (some ⟨gp,0,none⟩) 0 0) 0 []):=owns_ext P2.out hb
   have N18:Hid (y18.ownsRow (w.heap.size+2) 144 5 (.slice bn s.nodes.length kn) s.nodes.length (cellsZ s.nodes)):=hr.mono (by have:=F2.out.size;have:=HZ2.out;omega)
   clear hr hb
   refine hK.out _ _ (HS.out _ (F0.out.trans F18.out)) (fun hHeld18=>?_)
   clear hK K
   refine wpAnyH_ready (rs:=[6,9]) (by kernel_rfl) (by simp) (AllReadyH.cons rfl (fun K hK=>?_) (AllReadyH.cons rfl (fun K hK=>?_) AllReadyH.nil))
   ·refine step_append_from _ rfl (.tmp 6) (.tmp 8) 34 rfl (w.heap.size+2) 134 ei (.agg #[.int .i64 0,.int .i64 0]) 2 16 Tryz.underlying34 eh ez0 ez1 ez2 rfl (by decide) (.slice (some ⟨gp,0,none⟩) 0 0) rfl P18.out ae s.ses.length ce (cellsE s.ses) rfl (cellsE_len _) (HNe.out _ (E1.out.trans (F0.out.trans F18.out))) (cellsE_one _) (by have:=HLs.out;unfold maxLen;omega) (by have:=HLs.out;omega) (by have:=F18.out.size;have:=HZ2.out;omega) ?_
    intro vs y20 hr hgr hnil
    obtain⟨bs,ks,rfl⟩:=owns_shape hr
    have F20:Hid (Ext w2 y20):=Below.grown F18.out hgr (F18.out.size) (fun z hz=>by have:=(P18.out.lt z hz).1;have:=HZ2.out;omega)
    have N20:Hid (y20.ownsRow (w.heap.size+2) 144 5 (.slice bn s.nodes.length kn) s.nodes.length (cellsZ s.nodes)):=N18.out.kept hgr (own_apart N18.out P18.out (by decide))
    have S20:Hid (y20.ownsRow (w.heap.size+2) 134 2 (.slice bs s.ses.length ks) s.ses.length (cellsE s.ses)):=hr
    have HSS:Hid (SomeS (.slice bs s.ses.length ks)):=owns_some hr (fun h=>by have:=hnil h;cases this)
    clear hr hgr hnil
    refine hK.out _ _ (HS.out _ (F0.out.trans F20.out)) (fun hHeld20=>?_)
    clear hK K
    (try dsimp only)
    (try simp only [Act.put,List.setIfInBounds_toArray,List.set_cons_zero,List.set_cons_succ])
    refine wpAnyH_ready (rs:=[9]) (by kernel_rfl) (by simp) (AllReadyH.cons rfl (fun K hK=>?_) AllReadyH.nil)
    go_simp
    have F22:Hid (Ext w2 (y20.alloc (.cells #[] 123))):=F20.out.alloc _
    have N22:Hid ((y20.alloc (.cells #[] 123)).ownsRow (w.heap.size+2) 144 5 (.slice bn s.nodes.length kn) s.nodes.length (cellsZ s.nodes)):=owns_ext N20.out ((Ext.refl _).alloc _)
    have S22:Hid ((y20.alloc (.cells #[] 123)).ownsRow (w.heap.size+2) 134 2 (.slice bs s.ses.length ks) s.ses.length (cellsE s.ses)):=owns_ext S20.out ((Ext.refl _).alloc _)
    obtain⟨gq,hgq⟩:∃ g,g=y20.heap.size:=⟨_,rfl⟩
    have Q22:Hid ((y20.alloc (.cells #[] 123)).ownsRow (w.heap.size+2) 123 5 (.slice (some ⟨gq,0,none⟩) 0 0) 0 []):=by rw [hgq];exact World.ownsRow_made y20 #[] 0 (by have:=F20.out.size;have:=HZ2.out;omega) (by unfold maxLen;omega) rfl
    rw [← hgq]
    clear hgq
    refine hK.out _ _ (HS.out _ (F0.out.trans F22.out)) (fun hHeld22=>?_)
    clear hK K
    generalize (y20.alloc (.cells #[] 123))=y22 at *
    refine wpAnyH_ready (rs:=[12]) (by kernel_rfl) (by simp) (AllReadyH.cons rfl (fun K hK=>?_) AllReadyH.nil)
    refine step_append_from _ rfl (.tmp 12) (.tmp 14) 35 rfl (w.heap.size+2) 123 ki (.agg #[.int .i64 0,.int .i64 0,.int .i64 0,.int .i64 0,.string ByteArray.empty]) 5 48 Tryz.underlying35 kh kz0 kz1 kz2 rfl (by decide) (.slice (some ⟨gq,0,none⟩) 0 0) rfl Q22.out am s.marks.length cm (cellsK s.marks) rfl (cellsK_len _) (HNm.out _ (E1.out.trans (F0.out.trans F22.out))) (cellsK_one _) (by have:=HLm.out;unfold maxLen;omega) (by have:=HLm.out;omega) (by have:=F22.out.size;have:=HZ2.out;omega) ?_
    intro vm y23 hr hgr hnil
    obtain⟨bm,km,rfl⟩:=owns_shape hr
    have F23:Hid (Ext w2 y23):=Below.grown F22.out hgr (F22.out.size) (fun z hz=>by have:=(Q22.out.lt z hz).1;have:=HZ2.out;omega)
    have N23:Hid (y23.ownsRow (w.heap.size+2) 144 5 (.slice bn s.nodes.length kn) s.nodes.length (cellsZ s.nodes)):=N22.out.kept hgr (own_apart N22.out Q22.out (by decide))
    have S23:Hid (y23.ownsRow (w.heap.size+2) 134 2 (.slice bs s.ses.length ks) s.ses.length (cellsE s.ses)):=S22.out.kept hgr (own_apart S22.out Q22.out (by decide))
    have M23:Hid (y23.ownsRow (w.heap.size+2) 123 5 (.slice bm s.marks.length km) s.marks.length (cellsK s.marks)):=hr
    clear hr hgr hnil
    refine hK.out _ _ (HS.out _ (F0.out.trans F23.out)) (fun hHeld23=>?_)
    clear hK K
    (try dsimp only)
    (try simp only [Act.put,List.setIfInBounds_toArray,List.set_cons_zero,List.set_cons_succ])
    refine tk 13 ⟨some 16,.build 37 #[(0,.tmp 5),(1,.tmp 9),(2,.tmp 11),(3,.tmp 15)],37,oz11,oy12,none⟩ ?_
    refine wpAnyH_ready (rs:=[14]) (by kernel_rfl) (by simp) (AllReadyH.cons rfl (fun K hK=>?_) AllReadyH.nil)
    have R24:=R2.out _ F23.out
    obtain⟨ql,⟨c0,c1,c2,c3⟩,l0,l1,l2,l3⟩:=R24
    go_simp
    have F24:Hid (Ext w1 ((((y23.setCell ⟨w.heap.size+1,0,none⟩ (.slice bn s.nodes.length kn)).setCell ⟨w.heap.size+1,1,none⟩ (.slice bs s.ses.length ks)).setCell ⟨w.heap.size+1,2,none⟩ (.int .i64 s.now)).setCell ⟨w.heap.size+1,3,none⟩ (.slice bm s.marks.length km))):=(((((F0.out.trans F23.out).setCell (p:=⟨w.heap.size+1,0,none⟩) (by have:=HZ.out;show w1.heap.size≤w.heap.size+1;omega) _).setCell (p:=⟨w.heap.size+1,1,none⟩) (by have:=HZ.out;show w1.heap.size≤w.heap.size+1;omega) _).setCell (p:=⟨w.heap.size+1,2,none⟩) (by have:=HZ.out;show w1.heap.size≤w.heap.size+1;omega) _).setCell (p:=⟨w.heap.size+1,3,none⟩) (by have:=HZ.out;show w1.heap.size≤w.heap.size+1;omega) _)
    have HF:Hid (SHas w.heap.size (fun _=>False) ((((y23.setCell ⟨w.heap.size+1,0,none⟩ (.slice bn s.nodes.length kn)).setCell ⟨w.heap.size+1,1,none⟩ (.slice bs s.ses.length ks)).setCell ⟨w.heap.size+1,2,none⟩ (.int .i64 s.now)).setCell ⟨w.heap.size+1,3,none⟩ (.slice bm s.marks.length km)) (.slice bn s.nodes.length kn) (.slice bs s.ses.length ks) (.slice bm s.marks.length km) s):=(shas_of_rows (ownsRow_setCell_below (ownsRow_setCell_below (ownsRow_setCell_below (ownsRow_setCell_below N23.out (by show w.heap.size+1 < _;omega) _) (by show w.heap.size+1 < _;omega) _) (by show w.heap.size+1 < _;omega) _) (by show w.heap.size+1 < _;omega) _) (ownsRow_setCell_below (ownsRow_setCell_below (ownsRow_setCell_below (ownsRow_setCell_below S23.out (by show w.heap.size+1 < _;omega) _) (by show w.heap.size+1 < _;omega) _) (by show w.heap.size+1 < _;omega) _) (by show w.heap.size+1 < _;omega) _) (ownsRow_setCell_below (ownsRow_setCell_below (ownsRow_setCell_below (ownsRow_setCell_below M23.out (by show w.heap.size+1 < _;omega) _) (by show w.heap.size+1 < _;omega) _) (by show w.heap.size+1 < _;omega) _) (by show w.heap.size+1 < _;omega) _)).least (by omega)
    have HX:Hid (SBoxAt ((((y23.setCell ⟨w.heap.size+1,0,none⟩ (.slice bn s.nodes.length kn)).setCell ⟨w.heap.size+1,1,none⟩ (.slice bs s.ses.length ks)).setCell ⟨w.heap.size+1,2,none⟩ (.int .i64 s.now)).setCell ⟨w.heap.size+1,3,none⟩ (.slice bm s.marks.length km)) (w.heap.size+1) (.slice bn s.nodes.length kn) (.slice bs s.ses.length ks) (.int .i64 s.now) (.slice bm s.marks.length km)):=((((SBoxAt.set0 ⟨ql,⟨c0,c1,c2,c3⟩,l0,l1,l2,l3⟩ _).set1 _).set2 _).set3 _)
    clear ql c0 c1 c2 c3 l0 l1 l2 l3
    refine hK.out _ _ (HS.out _ F24.out) (fun hHeld24=>?_)
    clear hK K
    generalize ((((y23.setCell ⟨w.heap.size+1,0,none⟩ (.slice bn s.nodes.length kn)).setCell ⟨w.heap.size+1,1,none⟩ (.slice bs s.ses.length ks)).setCell ⟨w.heap.size+1,2,none⟩ (.int .i64 s.now)).setCell ⟨w.heap.size+1,3,none⟩ (.slice bm s.marks.length km))=y24 at *
    refine wpAnyH_done (by kernel_rfl) ?_ _
    obtain⟨ql,⟨c0,c1,c2,c3⟩,-⟩:=HX.out
    go_wp2
    exact bodyPost_ret (v:=sagg (.slice bn s.nodes.length kn) (.slice bs s.ses.length ks) s.now (.slice bm s.marks.length km)) (by simp [results,Tryz.results53,go_sem,sagg,c0,c1,c2,c3]) rfl ⟨_,_,_,rfl,HSS.out,HF.out,E1.out.trans F24.out⟩
   ·go_simp
    have F21:Hid (Ext w2 (y18.alloc (.cells #[] 123))):=F18.out.alloc _
    have P21:Hid ((y18.alloc (.cells #[] 123)).ownsRow (w.heap.size+2) 134 2 (.slice (some ⟨gp,0,none⟩) 0 0) 0 []):=owns_ext P18.out ((Ext.refl _).alloc _)
    have N21:Hid ((y18.alloc (.cells #[] 123)).ownsRow (w.heap.size+2) 144 5 (.slice bn s.nodes.length kn) s.nodes.length (cellsZ s.nodes)):=owns_ext N18.out ((Ext.refl _).alloc _)
    obtain⟨gq,hgq⟩:∃ g,g=y18.heap.size:=⟨_,rfl⟩
    have Q21:Hid ((y18.alloc (.cells #[] 123)).ownsRow (w.heap.size+2) 123 5 (.slice (some ⟨gq,0,none⟩) 0 0) 0 []):=by rw [hgq];exact World.ownsRow_made y18 #[] 0 (by have:=F18.out.size;have:=HZ2.out;omega) (by unfold maxLen;omega) rfl
    rw [← hgq]
    clear hgq
    refine hK.out _ _ (HS.out _ (F0.out.trans F21.out)) (fun hHeld21=>?_)
    clear hK K
    generalize (y18.alloc (.cells #[] 123))=y21 at *
    refine wpAnyH_ready (rs:=[6]) (by kernel_rfl) (by simp) (AllReadyH.cons rfl (fun K hK=>?_) AllReadyH.nil)
    refine step_append_from _ rfl (.tmp 6) (.tmp 8) 34 rfl (w.heap.size+2) 134 ei (.agg #[.int .i64 0,.int .i64 0]) 2 16 Tryz.underlying34 eh ez0 ez1 ez2 rfl (by decide) (.slice (some ⟨gp,0,none⟩) 0 0) rfl P21.out ae s.ses.length ce (cellsE s.ses) rfl (cellsE_len _) (HNe.out _ (E1.out.trans (F0.out.trans F21.out))) (cellsE_one _) (by have:=HLs.out;unfold maxLen;omega) (by have:=HLs.out;omega) (by have:=F21.out.size;have:=HZ2.out;omega) ?_
    intro vs y25 hr hgr hnil
    obtain⟨bs,ks,rfl⟩:=owns_shape hr
    have F25:Hid (Ext w2 y25):=Below.grown F21.out hgr (F21.out.size) (fun z hz=>by have:=(P21.out.lt z hz).1;have:=HZ2.out;omega)
    have N25:Hid (y25.ownsRow (w.heap.size+2) 144 5 (.slice bn s.nodes.length kn) s.nodes.length (cellsZ s.nodes)):=N21.out.kept hgr (own_apart N21.out P21.out (by decide))
    have Q25:Hid (y25.ownsRow (w.heap.size+2) 123 5 (.slice (some ⟨gq,0,none⟩) 0 0) 0 []):=Q21.out.kept hgr (own_apart Q21.out P21.out (by decide))
    have S25:Hid (y25.ownsRow (w.heap.size+2) 134 2 (.slice bs s.ses.length ks) s.ses.length (cellsE s.ses)):=hr
    have HSS:Hid (SomeS (.slice bs s.ses.length ks)):=owns_some hr (fun h=>by have:=hnil h;cases this)
    clear hr hgr hnil
    refine hK.out _ _ (HS.out _ (F0.out.trans F25.out)) (fun hHeld25=>?_)
    clear hK K
    (try dsimp only)
    (try simp only [Act.put,List.setIfInBounds_toArray,List.set_cons_zero,List.set_cons_succ])
    refine wpAnyH_ready (rs:=[12]) (by kernel_rfl) (by simp) (AllReadyH.cons rfl (fun K hK=>?_) AllReadyH.nil)
    refine step_append_from _ rfl (.tmp 12) (.tmp 14) 35 rfl (w.heap.size+2) 123 ki (.agg #[.int .i64 0,.int .i64 0,.int .i64 0,.int .i64 0,.string ByteArray.empty]) 5 48 Tryz.underlying35 kh kz0 kz1 kz2 rfl (by decide) (.slice (some ⟨gq,0,none⟩) 0 0) rfl Q25.out am s.marks.length cm (cellsK s.marks) rfl (cellsK_len _) (HNm.out _ (E1.out.trans (F0.out.trans F25.out))) (cellsK_one _) (by have:=HLm.out;unfold maxLen;omega) (by have:=HLm.out;omega) (by have:=F25.out.size;have:=HZ2.out;omega) ?_
    intro vm y26 hr hgr hnil
    obtain⟨bm,km,rfl⟩:=owns_shape hr
    have F26:Hid (Ext w2 y26):=Below.grown F25.out hgr (F25.out.size) (fun z hz=>by have:=(Q25.out.lt z hz).1;have:=HZ2.out;omega)
    have N26:Hid (y26.ownsRow (w.heap.size+2) 144 5 (.slice bn s.nodes.length kn) s.nodes.length (cellsZ s.nodes)):=N25.out.kept hgr (own_apart N25.out Q25.out (by decide))
    have S26:Hid (y26.ownsRow (w.heap.size+2) 134 2 (.slice bs s.ses.length ks) s.ses.length (cellsE s.ses)):=S25.out.kept hgr (own_apart S25.out Q25.out (by decide))
    have M26:Hid (y26.ownsRow (w.heap.size+2) 123 5 (.slice bm s.marks.length km) s.marks.length (cellsK s.marks)):=hr
    clear hr hgr hnil
    refine hK.out _ _ (HS.out _ (F0.out.trans F26.out)) (fun hHeld26=>?_)
    clear hK K
    (try dsimp only)
    (try simp only [Act.put,List.setIfInBounds_toArray,List.set_cons_zero,List.set_cons_succ])
    refine tk 13 ⟨some 16,.build 37 #[(0,.tmp 5),(1,.tmp 9),(2,.tmp 11),(3,.tmp 15)],37,oz11,oy12,none⟩ ?_
    refine wpAnyH_ready (rs:=[14]) (by kernel_rfl) (by simp) (AllReadyH.cons rfl (fun K hK=>?_) AllReadyH.nil)
    have R27:=R2.out _ F26.out
    obtain⟨ql,⟨c0,c1,c2,c3⟩,l0,l1,l2,l3⟩:=R27
    go_simp
    have F27:Hid (Ext w1 ((((y26.setCell ⟨w.heap.size+1,0,none⟩ (.slice bn s.nodes.length kn)).setCell ⟨w.heap.size+1,1,none⟩ (.slice bs s.ses.length ks)).setCell ⟨w.heap.size+1,2,none⟩ (.int .i64 s.now)).setCell ⟨w.heap.size+1,3,none⟩ (.slice bm s.marks.length km))):=(((((F0.out.trans F26.out).setCell (p:=⟨w.heap.size+1,0,none⟩) (by have:=HZ.out;show w1.heap.size≤w.heap.size+1;omega) _).setCell (p:=⟨w.heap.size+1,1,none⟩) (by have:=HZ.out;show w1.heap.size≤w.heap.size+1;omega) _).setCell (p:=⟨w.heap.size+1,2,none⟩) (by have:=HZ.out;show w1.heap.size≤w.heap.size+1;omega) _).setCell (p:=⟨w.heap.size+1,3,none⟩) (by have:=HZ.out;show w1.heap.size≤w.heap.size+1;omega) _)
    have HF:Hid (SHas w.heap.size (fun _=>False) ((((y26.setCell ⟨w.heap.size+1,0,none⟩ (.slice bn s.nodes.length kn)).setCell ⟨w.heap.size+1,1,none⟩ (.slice bs s.ses.length ks)).setCell ⟨w.heap.size+1,2,none⟩ (.int .i64 s.now)).setCell ⟨w.heap.size+1,3,none⟩ (.slice bm s.marks.length km)) (.slice bn s.nodes.length kn) (.slice bs s.ses.length ks) (.slice bm s.marks.length km) s):=(shas_of_rows (ownsRow_setCell_below (ownsRow_setCell_below (ownsRow_setCell_below (ownsRow_setCell_below N26.out (by show w.heap.size+1 < _;omega) _) (by show w.heap.size+1 < _;omega) _) (by show w.heap.size+1 < _;omega) _) (by show w.heap.size+1 < _;omega) _) (ownsRow_setCell_below (ownsRow_setCell_below (ownsRow_setCell_below (ownsRow_setCell_below S26.out (by show w.heap.size+1 < _;omega) _) (by show w.heap.size+1 < _;omega) _) (by show w.heap.size+1 < _;omega) _) (by show w.heap.size+1 < _;omega) _) (ownsRow_setCell_below (ownsRow_setCell_below (ownsRow_setCell_below (ownsRow_setCell_below M26.out (by show w.heap.size+1 < _;omega) _) (by show w.heap.size+1 < _;omega) _) (by show w.heap.size+1 < _;omega) _) (by show w.heap.size+1 < _;omega) _)).least (by omega)
    have HX:Hid (SBoxAt ((((y26.setCell ⟨w.heap.size+1,0,none⟩ (.slice bn s.nodes.length kn)).setCell ⟨w.heap.size+1,1,none⟩ (.slice bs s.ses.length ks)).setCell ⟨w.heap.size+1,2,none⟩ (.int .i64 s.now)).setCell ⟨w.heap.size+1,3,none⟩ (.slice bm s.marks.length km)) (w.heap.size+1) (.slice bn s.nodes.length kn) (.slice bs s.ses.length ks) (.int .i64 s.now) (.slice bm s.marks.length km)):=((((SBoxAt.set0 ⟨ql,⟨c0,c1,c2,c3⟩,l0,l1,l2,l3⟩ _).set1 _).set2 _).set3 _)
    clear ql c0 c1 c2 c3 l0 l1 l2 l3
    refine hK.out _ _ (HS.out _ F27.out) (fun hHeld27=>?_)
    clear hK K
    generalize ((((y26.setCell ⟨w.heap.size+1,0,none⟩ (.slice bn s.nodes.length kn)).setCell ⟨w.heap.size+1,1,none⟩ (.slice bs s.ses.length ks)).setCell ⟨w.heap.size+1,2,none⟩ (.int .i64 s.now)).setCell ⟨w.heap.size+1,3,none⟩ (.slice bm s.marks.length km))=y27 at *
    refine wpAnyH_done (by kernel_rfl) ?_ _
    obtain⟨ql,⟨c0,c1,c2,c3⟩,-⟩:=HX.out
    go_wp2
    exact bodyPost_ret (v:=sagg (.slice bn s.nodes.length kn) (.slice bs s.ses.length ks) s.now (.slice bm s.marks.length km)) (by simp [results,Tryz.results53,go_sem,sagg,c0,c1,c2,c3]) rfl ⟨_,_,_,rfl,HSS.out,HF.out,E1.out.trans F27.out⟩
  ·go_simp
   have F19:Hid (Ext w2 (y2.alloc (.cells #[] 123))):=F2.out.alloc _
   have P19:Hid ((y2.alloc (.cells #[] 123)).ownsRow (w.heap.size+2) 134 2 (.slice (some ⟨gp,0,none⟩) 0 0) 0 []):=owns_ext P2.out ((Ext.refl _).alloc _)
   obtain⟨gq,hgq⟩:∃ g,g=y2.heap.size:=⟨_,rfl⟩
   have Q19:Hid ((y2.alloc (.cells #[] 123)).ownsRow (w.heap.size+2) 123 5 (.slice (some ⟨gq,0,none⟩) 0 0) 0 []):=by rw [hgq];exact World.ownsRow_made y2 #[] 0 (by have:=F2.out.size;have:=HZ2.out;omega) (by unfold maxLen;omega) rfl
   rw [← hgq]
   clear hgq
   refine hK.out _ _ (HS.out _ (F0.out.trans F19.out)) (fun hHeld19=>?_)
   clear hK K
   generalize (y2.alloc (.cells #[] 123))=y19 at *
   refine wpAnyH_ready (rs:=[2]) (by kernel_rfl) (by simp) (AllReadyH.cons rfl (fun K hK=>?_) AllReadyH.nil)
   go_simp
   refine (HCp.out _ (E1.out.trans (F0.out.trans F19.out))).mono ?_
   rintro e y28 ⟨vn,rfl,hr,hb⟩
   obtain⟨bn,kn,rfl⟩:=owns_shape hr
   have F28:Hid (Ext w2 y28):=F19.out.trans hb
   have P28:Hid (y28.ownsRow (w.heap.size+2) 134 2 (.slice (some ⟨gp,0,none⟩) 0 0) 0 []):=owns_ext P19.out hb
   have Q28:Hid (y28.ownsRow (w.heap.size+2) 123 5 (.slice (some ⟨gq,0,none⟩) 0 0) 0 []):=owns_ext Q19.out hb
   have N28:Hid (y28.ownsRow (w.heap.size+2) 144 5 (.slice bn s.nodes.length kn) s.nodes.length (cellsZ s.nodes)):=hr.mono (by have:=F19.out.size;have:=HZ2.out;omega)
   clear hr hb
   refine hK.out _ _ (HS.out _ (F0.out.trans F28.out)) (fun hHeld28=>?_)
   clear hK K
   refine wpAnyH_ready (rs:=[6]) (by kernel_rfl) (by simp) (AllReadyH.cons rfl (fun K hK=>?_) AllReadyH.nil)
   refine step_append_from _ rfl (.tmp 6) (.tmp 8) 34 rfl (w.heap.size+2) 134 ei (.agg #[.int .i64 0,.int .i64 0]) 2 16 Tryz.underlying34 eh ez0 ez1 ez2 rfl (by decide) (.slice (some ⟨gp,0,none⟩) 0 0) rfl P28.out ae s.ses.length ce (cellsE s.ses) rfl (cellsE_len _) (HNe.out _ (E1.out.trans (F0.out.trans F28.out))) (cellsE_one _) (by have:=HLs.out;unfold maxLen;omega) (by have:=HLs.out;omega) (by have:=F28.out.size;have:=HZ2.out;omega) ?_
   intro vs y29 hr hgr hnil
   obtain⟨bs,ks,rfl⟩:=owns_shape hr
   have F29:Hid (Ext w2 y29):=Below.grown F28.out hgr (F28.out.size) (fun z hz=>by have:=(P28.out.lt z hz).1;have:=HZ2.out;omega)
   have Q29:Hid (y29.ownsRow (w.heap.size+2) 123 5 (.slice (some ⟨gq,0,none⟩) 0 0) 0 []):=Q28.out.kept hgr (own_apart Q28.out P28.out (by decide))
   have N29:Hid (y29.ownsRow (w.heap.size+2) 144 5 (.slice bn s.nodes.length kn) s.nodes.length (cellsZ s.nodes)):=N28.out.kept hgr (own_apart N28.out P28.out (by decide))
   have S29:Hid (y29.ownsRow (w.heap.size+2) 134 2 (.slice bs s.ses.length ks) s.ses.length (cellsE s.ses)):=hr
   have HSS:Hid (SomeS (.slice bs s.ses.length ks)):=owns_some hr (fun h=>by have:=hnil h;cases this)
   clear hr hgr hnil
   refine hK.out _ _ (HS.out _ (F0.out.trans F29.out)) (fun hHeld29=>?_)
   clear hK K
   (try dsimp only)
   (try simp only [Act.put,List.setIfInBounds_toArray,List.set_cons_zero,List.set_cons_succ])
   refine wpAnyH_ready (rs:=[12]) (by kernel_rfl) (by simp) (AllReadyH.cons rfl (fun K hK=>?_) AllReadyH.nil)
   refine step_append_from _ rfl (.tmp 12) (.tmp 14) 35 rfl (w.heap.size+2) 123 ki (.agg #[.int .i64 0,.int .i64 0,.int .i64 0,.int .i64 0,.string ByteArray.empty]) 5 48 Tryz.underlying35 kh kz0 kz1 kz2 rfl (by decide) (.slice (some ⟨gq,0,none⟩) 0 0) rfl Q29.out am s.marks.length cm (cellsK s.marks) rfl (cellsK_len _) (HNm.out _ (E1.out.trans (F0.out.trans F29.out))) (cellsK_one _) (by have:=HLm.out;unfold maxLen;omega) (by have:=HLm.out;omega) (by have:=F29.out.size;have:=HZ2.out;omega) ?_
   intro vm y30 hr hgr hnil
   obtain⟨bm,km,rfl⟩:=owns_shape hr
   have F30:Hid (Ext w2 y30):=Below.grown F29.out hgr (F29.out.size) (fun z hz=>by have:=(Q29.out.lt z hz).1;have:=HZ2.out;omega)
   have N30:Hid (y30.ownsRow (w.heap.size+2) 144 5 (.slice bn s.nodes.length kn) s.nodes.length (cellsZ s.nodes)):=N29.out.kept hgr (own_apart N29.out Q29.out (by decide))
   have S30:Hid (y30.ownsRow (w.heap.size+2) 134 2 (.slice bs s.ses.length ks) s.ses.length (cellsE s.ses)):=S29.out.kept hgr (own_apart S29.out Q29.out (by decide))
   have M30:Hid (y30.ownsRow (w.heap.size+2) 123 5 (.slice bm s.marks.length km) s.marks.length (cellsK s.marks)):=hr
   clear hr hgr hnil
   refine hK.out _ _ (HS.out _ (F0.out.trans F30.out)) (fun hHeld30=>?_)
   clear hK K
   (try dsimp only)
   (try simp only [Act.put,List.setIfInBounds_toArray,List.set_cons_zero,List.set_cons_succ])
   refine tk 13 ⟨some 16,.build 37 #[(0,.tmp 5),(1,.tmp 9),(2,.tmp 11),(3,.tmp 15)],37,oz11,oy12,none⟩ ?_
   refine wpAnyH_ready (rs:=[14]) (by kernel_rfl) (by simp) (AllReadyH.cons rfl (fun K hK=>?_) AllReadyH.nil)
   have R31:=R2.out _ F30.out
   obtain⟨ql,⟨c0,c1,c2,c3⟩,l0,l1,l2,l3⟩:=R31
   go_simp
   have F31:Hid (Ext w1 ((((y30.setCell ⟨w.heap.size+1,0,none⟩ (.slice bn s.nodes.length kn)).setCell ⟨w.heap.size+1,1,none⟩ (.slice bs s.ses.length ks)).setCell ⟨w.heap.size+1,2,none⟩ (.int .i64 s.now)).setCell ⟨w.heap.size+1,3,none⟩ (.slice bm s.marks.length km))):=(((((F0.out.trans F30.out).setCell (p:=⟨w.heap.size+1,0,none⟩) (by have:=HZ.out;show w1.heap.size≤w.heap.size+1;omega) _).setCell (p:=⟨w.heap.size+1,1,none⟩) (by have:=HZ.out;show w1.heap.size≤w.heap.size+1;omega) _).setCell (p:=⟨w.heap.size+1,2,none⟩) (by have:=HZ.out;show w1.heap.size≤w.heap.size+1;omega) _).setCell (p:=⟨w.heap.size+1,3,none⟩) (by have:=HZ.out;show w1.heap.size≤w.heap.size+1;omega) _)
   have HF:Hid (SHas w.heap.size (fun _=>False) ((((y30.setCell ⟨w.heap.size+1,0,none⟩ (.slice bn s.nodes.length kn)).setCell ⟨w.heap.size+1,1,none⟩ (.slice bs s.ses.length ks)).setCell ⟨w.heap.size+1,2,none⟩ (.int .i64 s.now)).setCell ⟨w.heap.size+1,3,none⟩ (.slice bm s.marks.length km)) (.slice bn s.nodes.length kn) (.slice bs s.ses.length ks) (.slice bm s.marks.length km) s):=(shas_of_rows (ownsRow_setCell_below (ownsRow_setCell_below (ownsRow_setCell_below (ownsRow_setCell_below N30.out (by show w.heap.size+1 < _;omega) _) (by show w.heap.size+1 < _;omega) _) (by show w.heap.size+1 < _;omega) _) (by show w.heap.size+1 < _;omega) _) (ownsRow_setCell_below (ownsRow_setCell_below (ownsRow_setCell_below (ownsRow_setCell_below S30.out (by show w.heap.size+1 < _;omega) _) (by show w.heap.size+1 < _;omega) _) (by show w.heap.size+1 < _;omega) _) (by show w.heap.size+1 < _;omega) _) (ownsRow_setCell_below (ownsRow_setCell_below (ownsRow_setCell_below (ownsRow_setCell_below M30.out (by show w.heap.size+1 < _;omega) _) (by show w.heap.size+1 < _;omega) _) (by show w.heap.size+1 < _;omega) _) (by show w.heap.size+1 < _;omega) _)).least (by omega)
   have HX:Hid (SBoxAt ((((y30.setCell ⟨w.heap.size+1,0,none⟩ (.slice bn s.nodes.length kn)).setCell ⟨w.heap.size+1,1,none⟩ (.slice bs s.ses.length ks)).setCell ⟨w.heap.size+1,2,none⟩ (.int .i64 s.now)).setCell ⟨w.heap.size+1,3,none⟩ (.slice bm s.marks.length km)) (w.heap.size+1) (.slice bn s.nodes.length kn) (.slice bs s.ses.length ks) (.int .i64 s.now) (.slice bm s.marks.length km)):=((((SBoxAt.set0 ⟨ql,⟨c0,c1,c2,c3⟩,l0,l1,l2,l3⟩ _).set1 _).set2 _).set3 _)
   clear ql c0 c1 c2 c3 l0 l1 l2 l3
   refine hK.out _ _ (HS.out _ F31.out) (fun hHeld31=>?_)
   clear hK K
   generalize ((((y30.setCell ⟨w.heap.size+1,0,none⟩ (.slice bn s.nodes.length kn)).setCell ⟨w.heap.size+1,1,none⟩ (.slice bs s.ses.length ks)).setCell ⟨w.heap.size+1,2,none⟩ (.int .i64 s.now)).setCell ⟨w.heap.size+1,3,none⟩ (.slice bm s.marks.length km))=y31 at *
   refine wpAnyH_done (by kernel_rfl) ?_ _
   obtain⟨ql,⟨c0,c1,c2,c3⟩,-⟩:=HX.out
   go_wp2
   exact bodyPost_ret (v:=sagg (.slice bn s.nodes.length kn) (.slice bs s.ses.length ks) s.now (.slice bm s.marks.length km)) (by simp [results,Tryz.results53,go_sem,sagg,c0,c1,c2,c3]) rfl ⟨_,_,_,rfl,HSS.out,HF.out,E1.out.trans F31.out⟩
 ·go_simp
  have F3:Hid (Ext w2 (y0.alloc (.cells #[] 123))):=FZ.out.alloc _
  obtain⟨gq,hgq⟩:∃ g,g=y0.heap.size:=⟨_,rfl⟩
  have Q3:Hid ((y0.alloc (.cells #[] 123)).ownsRow (w.heap.size+2) 123 5 (.slice (some ⟨gq,0,none⟩) 0 0) 0 []):=by rw [hgq];exact World.ownsRow_made y0 #[] 0 (by have:=FZ.out.size;have:=HZ2.out;omega) (by unfold maxLen;omega) rfl
  rw [← hgq]
  clear hgq
  refine hK.out _ _ (HS.out _ (F0.out.trans F3.out)) (fun hHeld3=>?_)
  clear hK K
  generalize (y0.alloc (.cells #[] 123))=y3 at *
  refine wpAnyH_ready (rs:=[2,3]) (by kernel_rfl) (by simp) (AllReadyH.cons rfl (fun K hK=>?_) (AllReadyH.cons rfl (fun K hK=>?_) AllReadyH.nil))
  ·go_simp
   refine (HCp.out _ (E1.out.trans (F0.out.trans F3.out))).mono ?_
   rintro e y32 ⟨vn,rfl,hr,hb⟩
   obtain⟨bn,kn,rfl⟩:=owns_shape hr
   have F32:Hid (Ext w2 y32):=F3.out.trans hb
   have Q32:Hid (y32.ownsRow (w.heap.size+2) 123 5 (.slice (some ⟨gq,0,none⟩) 0 0) 0 []):=owns_ext Q3.out hb
   have N32:Hid (y32.ownsRow (w.heap.size+2) 144 5 (.slice bn s.nodes.length kn) s.nodes.length (cellsZ s.nodes)):=hr.mono (by have:=F3.out.size;have:=HZ2.out;omega)
   clear hr hb
   refine hK.out _ _ (HS.out _ (F0.out.trans F32.out)) (fun hHeld32=>?_)
   clear hK K
   refine wpAnyH_ready (rs:=[3]) (by kernel_rfl) (by simp) (AllReadyH.cons rfl (fun K hK=>?_) AllReadyH.nil)
   go_simp
   have F34:Hid (Ext w2 (y32.alloc (.cells #[] 134))):=F32.out.alloc _
   have Q34:Hid ((y32.alloc (.cells #[] 134)).ownsRow (w.heap.size+2) 123 5 (.slice (some ⟨gq,0,none⟩) 0 0) 0 []):=owns_ext Q32.out ((Ext.refl _).alloc _)
   have N34:Hid ((y32.alloc (.cells #[] 134)).ownsRow (w.heap.size+2) 144 5 (.slice bn s.nodes.length kn) s.nodes.length (cellsZ s.nodes)):=owns_ext N32.out ((Ext.refl _).alloc _)
   obtain⟨gp,hgp⟩:∃ g,g=y32.heap.size:=⟨_,rfl⟩
   have P34:Hid ((y32.alloc (.cells #[] 134)).ownsRow (w.heap.size+2) 134 2 (.slice (some ⟨gp,0,none⟩) 0 0) 0 []):=by rw [hgp];exact World.ownsRow_made y32 #[] 0 (by have:=F32.out.size;have:=HZ2.out;omega) (by unfold maxLen;omega) rfl
   rw [← hgp]
   clear hgp
   refine hK.out _ _ (HS.out _ (F0.out.trans F34.out)) (fun hHeld34=>?_)
   clear hK K
   generalize (y32.alloc (.cells #[] 134))=y34 at *
   refine wpAnyH_ready (rs:=[6]) (by kernel_rfl) (by simp) (AllReadyH.cons rfl (fun K hK=>?_) AllReadyH.nil)
   refine step_append_from _ rfl (.tmp 6) (.tmp 8) 34 rfl (w.heap.size+2) 134 ei (.agg #[.int .i64 0,.int .i64 0]) 2 16 Tryz.underlying34 eh ez0 ez1 ez2 rfl (by decide) (.slice (some ⟨gp,0,none⟩) 0 0) rfl P34.out ae s.ses.length ce (cellsE s.ses) rfl (cellsE_len _) (HNe.out _ (E1.out.trans (F0.out.trans F34.out))) (cellsE_one _) (by have:=HLs.out;unfold maxLen;omega) (by have:=HLs.out;omega) (by have:=F34.out.size;have:=HZ2.out;omega) ?_
   intro vs y35 hr hgr hnil
   obtain⟨bs,ks,rfl⟩:=owns_shape hr
   have F35:Hid (Ext w2 y35):=Below.grown F34.out hgr (F34.out.size) (fun z hz=>by have:=(P34.out.lt z hz).1;have:=HZ2.out;omega)
   have Q35:Hid (y35.ownsRow (w.heap.size+2) 123 5 (.slice (some ⟨gq,0,none⟩) 0 0) 0 []):=Q34.out.kept hgr (own_apart Q34.out P34.out (by decide))
   have N35:Hid (y35.ownsRow (w.heap.size+2) 144 5 (.slice bn s.nodes.length kn) s.nodes.length (cellsZ s.nodes)):=N34.out.kept hgr (own_apart N34.out P34.out (by decide))
   have S35:Hid (y35.ownsRow (w.heap.size+2) 134 2 (.slice bs s.ses.length ks) s.ses.length (cellsE s.ses)):=hr
   have HSS:Hid (SomeS (.slice bs s.ses.length ks)):=owns_some hr (fun h=>by have:=hnil h;cases this)
   clear hr hgr hnil
   refine hK.out _ _ (HS.out _ (F0.out.trans F35.out)) (fun hHeld35=>?_)
   clear hK K
   (try dsimp only)
   (try simp only [Act.put,List.setIfInBounds_toArray,List.set_cons_zero,List.set_cons_succ])
   refine wpAnyH_ready (rs:=[12]) (by kernel_rfl) (by simp) (AllReadyH.cons rfl (fun K hK=>?_) AllReadyH.nil)
   refine step_append_from _ rfl (.tmp 12) (.tmp 14) 35 rfl (w.heap.size+2) 123 ki (.agg #[.int .i64 0,.int .i64 0,.int .i64 0,.int .i64 0,.string ByteArray.empty]) 5 48 Tryz.underlying35 kh kz0 kz1 kz2 rfl (by decide) (.slice (some ⟨gq,0,none⟩) 0 0) rfl Q35.out am s.marks.length cm (cellsK s.marks) rfl (cellsK_len _) (HNm.out _ (E1.out.trans (F0.out.trans F35.out))) (cellsK_one _) (by have:=HLm.out;unfold maxLen;omega) (by have:=HLm.out;omega) (by have:=F35.out.size;have:=HZ2.out;omega) ?_
   intro vm y36 hr hgr hnil
   obtain⟨bm,km,rfl⟩:=owns_shape hr
   have F36:Hid (Ext w2 y36):=Below.grown F35.out hgr (F35.out.size) (fun z hz=>by have:=(Q35.out.lt z hz).1;have:=HZ2.out;omega)
   have N36:Hid (y36.ownsRow (w.heap.size+2) 144 5 (.slice bn s.nodes.length kn) s.nodes.length (cellsZ s.nodes)):=N35.out.kept hgr (own_apart N35.out Q35.out (by decide))
   have S36:Hid (y36.ownsRow (w.heap.size+2) 134 2 (.slice bs s.ses.length ks) s.ses.length (cellsE s.ses)):=S35.out.kept hgr (own_apart S35.out Q35.out (by decide))
   have M36:Hid (y36.ownsRow (w.heap.size+2) 123 5 (.slice bm s.marks.length km) s.marks.length (cellsK s.marks)):=hr
   clear hr hgr hnil
   refine hK.out _ _ (HS.out _ (F0.out.trans F36.out)) (fun hHeld36=>?_)
   clear hK K
   (try dsimp only)
   (try simp only [Act.put,List.setIfInBounds_toArray,List.set_cons_zero,List.set_cons_succ])
   refine tk 13 ⟨some 16,.build 37 #[(0,.tmp 5),(1,.tmp 9),(2,.tmp 11),(3,.tmp 15)],37,oz11,oy12,none⟩ ?_
   refine wpAnyH_ready (rs:=[14]) (by kernel_rfl) (by simp) (AllReadyH.cons rfl (fun K hK=>?_) AllReadyH.nil)
   have R37:=R2.out _ F36.out
   obtain⟨ql,⟨c0,c1,c2,c3⟩,l0,l1,l2,l3⟩:=R37
   go_simp
   have F37:Hid (Ext w1 ((((y36.setCell ⟨w.heap.size+1,0,none⟩ (.slice bn s.nodes.length kn)).setCell ⟨w.heap.size+1,1,none⟩ (.slice bs s.ses.length ks)).setCell ⟨w.heap.size+1,2,none⟩ (.int .i64 s.now)).setCell ⟨w.heap.size+1,3,none⟩ (.slice bm s.marks.length km))):=(((((F0.out.trans F36.out).setCell (p:=⟨w.heap.size+1,0,none⟩) (by have:=HZ.out;show w1.heap.size≤w.heap.size+1;omega) _).setCell (p:=⟨w.heap.size+1,1,none⟩) (by have:=HZ.out;show w1.heap.size≤w.heap.size+1;omega) _).setCell (p:=⟨w.heap.size+1,2,none⟩) (by have:=HZ.out;show w1.heap.size≤w.heap.size+1;omega) _).setCell (p:=⟨w.heap.size+1,3,none⟩) (by have:=HZ.out;show w1.heap.size≤w.heap.size+1;omega) _)
   have HF:Hid (SHas w.heap.size (fun _=>False) ((((y36.setCell ⟨w.heap.size+1,0,none⟩ (.slice bn s.nodes.length kn)).setCell ⟨w.heap.size+1,1,none⟩ (.slice bs s.ses.length ks)).setCell ⟨w.heap.size+1,2,none⟩ (.int .i64 s.now)).setCell ⟨w.heap.size+1,3,none⟩ (.slice bm s.marks.length km)) (.slice bn s.nodes.length kn) (.slice bs s.ses.length ks) (.slice bm s.marks.length km) s):=(shas_of_rows (ownsRow_setCell_below (ownsRow_setCell_below (ownsRow_setCell_below (ownsRow_setCell_below N36.out (by show w.heap.size+1 < _;omega) _) (by show w.heap.size+1 < _;omega) _) (by show w.heap.size+1 < _;omega) _) (by show w.heap.size+1 < _;omega) _) (ownsRow_setCell_below (ownsRow_setCell_below (ownsRow_setCell_below (ownsRow_setCell_below S36.out (by show w.heap.size+1 < _;omega) _) (by show w.heap.size+1 < _;omega) _) (by show w.heap.size+1 < _;omega) _) (by show w.heap.size+1 < _;omega) _) (ownsRow_setCell_below (ownsRow_setCell_below (ownsRow_setCell_below (ownsRow_setCell_below M36.out (by show w.heap.size+1 < _;omega) _) (by show w.heap.size+1 < _;omega) _) (by show w.heap.size+1 < _;omega) _) (by show w.heap.size+1 < _;omega) _)).least (by omega)
   have HX:Hid (SBoxAt ((((y36.setCell ⟨w.heap.size+1,0,none⟩ (.slice bn s.nodes.length kn)).setCell ⟨w.heap.size+1,1,none⟩ (.slice bs s.ses.length ks)).setCell ⟨w.heap.size+1,2,none⟩ (.int .i64 s.now)).setCell ⟨w.heap.size+1,3,none⟩ (.slice bm s.marks.length km)) (w.heap.size+1) (.slice bn s.nodes.length kn) (.slice bs s.ses.length ks) (.int .i64 s.now) (.slice bm s.marks.length km)):=((((SBoxAt.set0 ⟨ql,⟨c0,c1,c2,c3⟩,l0,l1,l2,l3⟩ _).set1 _).set2 _).set3 _)
   clear ql c0 c1 c2 c3 l0 l1 l2 l3
   refine hK.out _ _ (HS.out _ F37.out) (fun hHeld37=>?_)
   clear hK K
   generalize ((((y36.setCell ⟨w.heap.size+1,0,none⟩ (.slice bn s.nodes.length kn)).setCell ⟨w.heap.size+1,1,none⟩ (.slice bs s.ses.length ks)).setCell ⟨w.heap.size+1,2,none⟩ (.int .i64 s.now)).setCell ⟨w.heap.size+1,3,none⟩ (.slice bm s.marks.length km))=y37 at *
   refine wpAnyH_done (by kernel_rfl) ?_ _
   obtain⟨ql,⟨c0,c1,c2,c3⟩,-⟩:=HX.out
   go_wp2
   exact bodyPost_ret (v:=sagg (.slice bn s.nodes.length kn) (.slice bs s.ses.length ks) s.now (.slice bm s.marks.length km)) (by simp [results,Tryz.results53,go_sem,sagg,c0,c1,c2,c3]) rfl ⟨_,_,_,rfl,HSS.out,HF.out,E1.out.trans F37.out⟩
  ·go_simp
   have F33:Hid (Ext w2 (y3.alloc (.cells #[] 134))):=F3.out.alloc _
   have Q33:Hid ((y3.alloc (.cells #[] 134)).ownsRow (w.heap.size+2) 123 5 (.slice (some ⟨gq,0,none⟩) 0 0) 0 []):=owns_ext Q3.out ((Ext.refl _).alloc _)
   obtain⟨gp,hgp⟩:∃ g,g=y3.heap.size:=⟨_,rfl⟩
   have P33:Hid ((y3.alloc (.cells #[] 134)).ownsRow (w.heap.size+2) 134 2 (.slice (some ⟨gp,0,none⟩) 0 0) 0 []):=by rw [hgp];exact World.ownsRow_made y3 #[] 0 (by have:=F3.out.size;have:=HZ2.out;omega) (by unfold maxLen;omega) rfl
   rw [← hgp]
   clear hgp
   refine hK.out _ _ (HS.out _ (F0.out.trans F33.out)) (fun hHeld33=>?_)
   clear hK K
   generalize (y3.alloc (.cells #[] 134))=y33 at *
   refine wpAnyH_ready (rs:=[2]) (by kernel_rfl) (by simp) (AllReadyH.cons rfl (fun K hK=>?_) AllReadyH.nil)
   go_simp
   refine (HCp.out _ (E1.out.trans (F0.out.trans F33.out))).mono ?_
   rintro e y38 ⟨vn,rfl,hr,hb⟩
   obtain⟨bn,kn,rfl⟩:=owns_shape hr
   have F38:Hid (Ext w2 y38):=F33.out.trans hb
   have Q38:Hid (y38.ownsRow (w.heap.size+2) 123 5 (.slice (some ⟨gq,0,none⟩) 0 0) 0 []):=owns_ext Q33.out hb
   have P38:Hid (y38.ownsRow (w.heap.size+2) 134 2 (.slice (some ⟨gp,0,none⟩) 0 0) 0 []):=owns_ext P33.out hb
   have N38:Hid (y38.ownsRow (w.heap.size+2) 144 5 (.slice bn s.nodes.length kn) s.nodes.length (cellsZ s.nodes)):=hr.mono (by have:=F33.out.size;have:=HZ2.out;omega)
   clear hr hb
   refine hK.out _ _ (HS.out _ (F0.out.trans F38.out)) (fun hHeld38=>?_)
   clear hK K
   refine wpAnyH_ready (rs:=[6]) (by kernel_rfl) (by simp) (AllReadyH.cons rfl (fun K hK=>?_) AllReadyH.nil)
   refine step_append_from _ rfl (.tmp 6) (.tmp 8) 34 rfl (w.heap.size+2) 134 ei (.agg #[.int .i64 0,.int .i64 0]) 2 16 Tryz.underlying34 eh ez0 ez1 ez2 rfl (by decide) (.slice (some ⟨gp,0,none⟩) 0 0) rfl P38.out ae s.ses.length ce (cellsE s.ses) rfl (cellsE_len _) (HNe.out _ (E1.out.trans (F0.out.trans F38.out))) (cellsE_one _) (by have:=HLs.out;unfold maxLen;omega) (by have:=HLs.out;omega) (by have:=F38.out.size;have:=HZ2.out;omega) ?_
   intro vs y39 hr hgr hnil
   obtain⟨bs,ks,rfl⟩:=owns_shape hr
   have F39:Hid (Ext w2 y39):=Below.grown F38.out hgr (F38.out.size) (fun z hz=>by have:=(P38.out.lt z hz).1;have:=HZ2.out;omega)
   have Q39:Hid (y39.ownsRow (w.heap.size+2) 123 5 (.slice (some ⟨gq,0,none⟩) 0 0) 0 []):=Q38.out.kept hgr (own_apart Q38.out P38.out (by decide))
   have N39:Hid (y39.ownsRow (w.heap.size+2) 144 5 (.slice bn s.nodes.length kn) s.nodes.length (cellsZ s.nodes)):=N38.out.kept hgr (own_apart N38.out P38.out (by decide))
   have S39:Hid (y39.ownsRow (w.heap.size+2) 134 2 (.slice bs s.ses.length ks) s.ses.length (cellsE s.ses)):=hr
   have HSS:Hid (SomeS (.slice bs s.ses.length ks)):=owns_some hr (fun h=>by have:=hnil h;cases this)
   clear hr hgr hnil
   refine hK.out _ _ (HS.out _ (F0.out.trans F39.out)) (fun hHeld39=>?_)
   clear hK K
   (try dsimp only)
   (try simp only [Act.put,List.setIfInBounds_toArray,List.set_cons_zero,List.set_cons_succ])
   refine wpAnyH_ready (rs:=[12]) (by kernel_rfl) (by simp) (AllReadyH.cons rfl (fun K hK=>?_) AllReadyH.nil)
   refine step_append_from _ rfl (.tmp 12) (.tmp 14) 35 rfl (w.heap.size+2) 123 ki (.agg #[.int .i64 0,.int .i64 0,.int .i64 0,.int .i64 0,.string ByteArray.empty]) 5 48 Tryz.underlying35 kh kz0 kz1 kz2 rfl (by decide) (.slice (some ⟨gq,0,none⟩) 0 0) rfl Q39.out am s.marks.length cm (cellsK s.marks) rfl (cellsK_len _) (HNm.out _ (E1.out.trans (F0.out.trans F39.out))) (cellsK_one _) (by have:=HLm.out;unfold maxLen;omega) (by have:=HLm.out;omega) (by have:=F39.out.size;have:=HZ2.out;omega) ?_
   intro vm y40 hr hgr hnil
   obtain⟨bm,km,rfl⟩:=owns_shape hr
   have F40:Hid (Ext w2 y40):=Below.grown F39.out hgr (F39.out.size) (fun z hz=>by have:=(Q39.out.lt z hz).1;have:=HZ2.out;omega)
   have N40:Hid (y40.ownsRow (w.heap.size+2) 144 5 (.slice bn s.nodes.length kn) s.nodes.length (cellsZ s.nodes)):=N39.out.kept hgr (own_apart N39.out Q39.out (by decide))
   have S40:Hid (y40.ownsRow (w.heap.size+2) 134 2 (.slice bs s.ses.length ks) s.ses.length (cellsE s.ses)):=S39.out.kept hgr (own_apart S39.out Q39.out (by decide))
   have M40:Hid (y40.ownsRow (w.heap.size+2) 123 5 (.slice bm s.marks.length km) s.marks.length (cellsK s.marks)):=hr
   clear hr hgr hnil
   refine hK.out _ _ (HS.out _ (F0.out.trans F40.out)) (fun hHeld40=>?_)
   clear hK K
   (try dsimp only)
   (try simp only [Act.put,List.setIfInBounds_toArray,List.set_cons_zero,List.set_cons_succ])
   refine tk 13 ⟨some 16,.build 37 #[(0,.tmp 5),(1,.tmp 9),(2,.tmp 11),(3,.tmp 15)],37,oz11,oy12,none⟩ ?_
   refine wpAnyH_ready (rs:=[14]) (by kernel_rfl) (by simp) (AllReadyH.cons rfl (fun K hK=>?_) AllReadyH.nil)
   have R41:=R2.out _ F40.out
   obtain⟨ql,⟨c0,c1,c2,c3⟩,l0,l1,l2,l3⟩:=R41
   go_simp
   have F41:Hid (Ext w1 ((((y40.setCell ⟨w.heap.size+1,0,none⟩ (.slice bn s.nodes.length kn)).setCell ⟨w.heap.size+1,1,none⟩ (.slice bs s.ses.length ks)).setCell ⟨w.heap.size+1,2,none⟩ (.int .i64 s.now)).setCell ⟨w.heap.size+1,3,none⟩ (.slice bm s.marks.length km))):=(((((F0.out.trans F40.out).setCell (p:=⟨w.heap.size+1,0,none⟩) (by have:=HZ.out;show w1.heap.size≤w.heap.size+1;omega) _).setCell (p:=⟨w.heap.size+1,1,none⟩) (by have:=HZ.out;show w1.heap.size≤w.heap.size+1;omega) _).setCell (p:=⟨w.heap.size+1,2,none⟩) (by have:=HZ.out;show w1.heap.size≤w.heap.size+1;omega) _).setCell (p:=⟨w.heap.size+1,3,none⟩) (by have:=HZ.out;show w1.heap.size≤w.heap.size+1;omega) _)
   have HF:Hid (SHas w.heap.size (fun _=>False) ((((y40.setCell ⟨w.heap.size+1,0,none⟩ (.slice bn s.nodes.length kn)).setCell ⟨w.heap.size+1,1,none⟩ (.slice bs s.ses.length ks)).setCell ⟨w.heap.size+1,2,none⟩ (.int .i64 s.now)).setCell ⟨w.heap.size+1,3,none⟩ (.slice bm s.marks.length km)) (.slice bn s.nodes.length kn) (.slice bs s.ses.length ks) (.slice bm s.marks.length km) s):=(shas_of_rows (ownsRow_setCell_below (ownsRow_setCell_below (ownsRow_setCell_below (ownsRow_setCell_below N40.out (by show w.heap.size+1 < _;omega) _) (by show w.heap.size+1 < _;omega) _) (by show w.heap.size+1 < _;omega) _) (by show w.heap.size+1 < _;omega) _) (ownsRow_setCell_below (ownsRow_setCell_below (ownsRow_setCell_below (ownsRow_setCell_below S40.out (by show w.heap.size+1 < _;omega) _) (by show w.heap.size+1 < _;omega) _) (by show w.heap.size+1 < _;omega) _) (by show w.heap.size+1 < _;omega) _) (ownsRow_setCell_below (ownsRow_setCell_below (ownsRow_setCell_below (ownsRow_setCell_below M40.out (by show w.heap.size+1 < _;omega) _) (by show w.heap.size+1 < _;omega) _) (by show w.heap.size+1 < _;omega) _) (by show w.heap.size+1 < _;omega) _)).least (by omega)
   have HX:Hid (SBoxAt ((((y40.setCell ⟨w.heap.size+1,0,none⟩ (.slice bn s.nodes.length kn)).setCell ⟨w.heap.size+1,1,none⟩ (.slice bs s.ses.length ks)).setCell ⟨w.heap.size+1,2,none⟩ (.int .i64 s.now)).setCell ⟨w.heap.size+1,3,none⟩ (.slice bm s.marks.length km)) (w.heap.size+1) (.slice bn s.nodes.length kn) (.slice bs s.ses.length ks) (.int .i64 s.now) (.slice bm s.marks.length km)):=((((SBoxAt.set0 ⟨ql,⟨c0,c1,c2,c3⟩,l0,l1,l2,l3⟩ _).set1 _).set2 _).set3 _)
   clear ql c0 c1 c2 c3 l0 l1 l2 l3
   refine hK.out _ _ (HS.out _ F41.out) (fun hHeld41=>?_)
   clear hK K
   generalize ((((y40.setCell ⟨w.heap.size+1,0,none⟩ (.slice bn s.nodes.length kn)).setCell ⟨w.heap.size+1,1,none⟩ (.slice bs s.ses.length ks)).setCell ⟨w.heap.size+1,2,none⟩ (.int .i64 s.now)).setCell ⟨w.heap.size+1,3,none⟩ (.slice bm s.marks.length km))=y41 at *
   refine wpAnyH_done (by kernel_rfl) ?_ _
   obtain⟨ql,⟨c0,c1,c2,c3⟩,-⟩:=HX.out
   go_wp2
   exact bodyPost_ret (v:=sagg (.slice bn s.nodes.length kn) (.slice bs s.ses.length ks) s.now (.slice bm s.marks.length km)) (by simp [results,Tryz.results53,go_sem,sagg,c0,c1,c2,c3]) rfl ⟨_,_,_,rfl,HSS.out,HF.out,E1.out.trans F41.out⟩
end Go.Proofs.YtpdejinkmnhioaaGreatDoor
