/- YA3e, YA5k2, I14, I15, I16, I17, in one text. -/
import Derived.Test.YtpdejinkmnhioaaGreatDoorAoJ24
import Derived.Test.YtpdejinkmnhioaaGreatDoorAoJ21
import Derived.Test.YtpdejinkmnhioaaGreatDoorAoJ11
import Derived.Laws.Externs
import Derived.Lib.Overlaps
import Derived.Lib.AppendZeros
import Derived.Lib.JoinLaws
import Derived.Deep.AppendSrc
import Derived.Laws.Append
import Derived.Test.YtpdejinkmnhioaaGreatDoorAoMk
namespace Go.Proofs.YtpdejinkmnhioaaGreatDoor
open Go.RowKit
theorem EOwn.visE {w:World} {v:Value} {g:Nat} {zs:List Se} (h:EOwn w v g zs) (h0:0 < zs.length):∃ off cap,v = .slice (some ⟨g,off,none⟩) zs.length cap:=by
 obtain⟨a,cap,h1,-,-,h4⟩:=h
 obtain⟨off,e,-,-⟩:=h4 h0
 exact⟨off,cap,by rw [h1,e]⟩
theorem islice1 (W:World) (x:Int) (t:TypeId):ISlice (W.alloc (.cells #[.int .i64 x] t)) (.slice (some ⟨W.heap.size,0,none⟩) 1 1) [x] :=
 ⟨_,1,rfl,Nat.le_refl _,by unfold maxLen;omega,fun _=>⟨_,0,rfl,by simp,fun i z hz=>by
  match i,hz with
  | 0,hz=>simp at hz;subst hz;simp
  | i+1,hz=>simp at hz⟩⟩
theorem stepC_done {n B g2 g5:Nat} {K:Nat→Prop} {s:Stt} {w w3 w5:World} {vn vs vm v2 v5 x y z:Value} {es:List Se} {ns:List Zn} {q:Ry × Stt} {e:Ending} (hX:SBoxAt w B vn vs (.int .i64 s.now) vm) (hH:SHas n K w vn vs vm s) (hKB:K B) (hn:n≤w.heap.size) (h3:Ext w w3) (hO2:EOwn w3 v2 g2 es) (hg2:w.heap.size < g2)
  (h5:Ext (w3.setCell ⟨B,1,none⟩ v2) w5) (hO5:Own w5 v5 g5 ns) (hg5:w3.heap.size≤g5) (hR:w.heap.size < w3.heap.size)
  (hq:q.2 = { s with nodes:=ns,ses:=es }) (he:e = .returned (yagg q.1.code q.1.value q.1.path)):Step n B K w q e (put3R (w5.setCell ⟨B,0,none⟩ v5) w.heap.size x y z):=by
 have hB:=hX.1
 have hbox:=(((hX.ext h3).set1 v2).ext h5).set0 v5
 have hs4:(w3.setCell ⟨B,1,none⟩ v2).heap.size=w3.heap.size:=by simp
 refine⟨he,((((Upd.ext h3 (by omega)).setAt 1 v2).trans (Upd.ext h5 (by omega))).setAt 0 v5).put3R (by omega) (Nat.le_refl _),⟨_,_,_,_,hbox.put3R (by omega),hX.2.1.2.2.2⟩,fun _=>?_⟩
 rw [hq]
 refine⟨v5,v2,vm,hbox.put3R (by omega),?_⟩
 have h1:=(hH.turn (K':=fun b=>(b < w.heap.size∧K b)∨b=w.heap.size) (fun b hb h=>(h.resolve_right (by omega)).2)).ses h3 hO2 (by omega) hn (by rintro (⟨h,-⟩ | h) <;> omega)
 have h2:=h1.upd ((Upd.refl B w3).setAt 1 v2) (Or.inl ⟨hB,hKB⟩)
 have h4:=h2.nodes h5 hO5 (by omega) (by omega) (by rintro (⟨h,-⟩ | h) <;> omega)
 exact ((h4.upd ((Upd.refl B w5).setAt 0 v5) (Or.inl ⟨hB,hKB⟩)).put3R (R:=w.heap.size) (Or.inr rfl)).turn fun b _ h=>Or.inl h
set_option linter.unusedSimpArgs false in
set_option maxHeartbeats 4000000 in
set_option maxRecDepth 100000 in
theorem closeStep1_any (n B C:Nat) (s:Stt) (c:Int) (w:World) (K:Nat→Prop) (hA:StAt n B K w s) (hKC:w.cell? ⟨C,0,none⟩=some (.int .i64 c)) (hKB:K B) (hn:n≤w.heap.size) (hr:Sta.right s) (hgd:Gd w) (hl:0 < s.ses.length) :
  Calls Tryz.prog 238 #[.pointer (some ⟨B,0,none⟩),.pointer (some ⟨C,0,none⟩)] w (Step n B K w (Sta.closeT s c)):=by
 refine n24z ?_
 intro hmf
 have hfd:∀ (W:World) (x y z:Value),(Instr.field 148 (.agg #[x,y,z]) 2).run Tryz.prog W = .ok z W:=fun _ _ _ _=>by kernel_rfl
 obtain⟨vn,vs,vm,hX,hH⟩:=hA
 obtain⟨hr1,hr2,hr3⟩:=hr
 have hLC:=World.block_lt_of_cell? w _ hKC
 try simp only at hLC
 have hl6:=(Ses.fault_zero hr2).1
 have HCl:Hid (∀ wx,Ext w wx→Calls Tryz.prog 129 #[vs] wx fun e w'=>∃ v' g,e = .returned v'∧wx.heap.size≤g∧EOwn w' v' g s.ses∧Ext wx w'):=fun wx he=>cloneE_any vs s.ses wx (hH.slice.2.1.ext he) (by omega)
 have HDr:Hid (∀ wx u,Gd wx→NSlice wx vn s.nodes→ISlice wx u [c]→Calls Tryz.prog 150 #[vn,u] wx (ZRet wx 0 ⟨#[]⟩ (dropL [c] s.nodes))):=fun wx u hgx hSx hI=>by
  have h:=implDropOwned_any vn u s.nodes [c] wx hgx hSx hI
  rw [show dropV s.nodes [c]=(0,⟨#[]⟩,dropL [c] s.nodes) from by unfold dropV;rw [if_neg (by simp [hr1]),if_neg (by simp)]] at h
  exact h
 have HX:Hid (SBoxAt w B vn vs (.int .i64 s.now) vm):=hX
 have HH:Hid (SHas n K w vn vs vm s):=hH
 have hBl:B < w.heap.size:=hX.1
 have HS:Hid (∀ W,Ext w W→W.cell? ⟨B,0,none⟩=some vn∧W.cell? ⟨C,0,none⟩=some (.int .i64 c)):=fun W he=>⟨((Ext.cell he).1 _ _ hBl).trans hX.2.1.1,((Ext.cell he).1 _ _ hLC).trans hKC⟩
 obtain⟨an,cn,rfl⟩:=hH.slice.1.vis
 obtain⟨ae,ce,rfl⟩:=hH.slice.2.1.vis
 have HL:Hid (0 < s.ses.length):=hl
 have HGd:Hid (Gd w):=hgd
 clear hX hH hr1 hr2 hr3 hKC hgd hl
 go_enter Tryz.func238,Tryz.ntmps238
 obtain⟨q0,⟨b0,b1,b2,b3⟩,l0,l1,l2,l3⟩:=HX.out.ext ((Ext.refl w).alloc (.cells #[.int .i64 0,.int .i64 0,.string ⟨#[]⟩] 32))
 go_wp2_with fail
 refine (HCl.out _ ((Ext.refl _).alloc _)).mono ?_
 rintro e w2 ⟨v2,g2,rfl,hg2,hO2,hb⟩
 obtain⟨off2,cap2,rfl⟩:=hO2.visE HL.out
 have E2:Hid (Ext w w2):=((Ext.refl _).alloc _).trans hb
 have R2:Hid (RyAt w2 w.heap.size (.int .i64 0) (.int .i64 0) (.string ByteArray.empty)):=(ry_new w _ _ _ _).ext hb
 have hg2' : w.heap.size < g2:=by (try simp at hg2);omega
 have O2:Hid (EOwn w2 (.slice (some ⟨g2,off2,none⟩) s.ses.length cap2) g2 s.ses):=hO2
 have HDl:Hid (Calls Tryz.prog 239 #[.slice (some ⟨g2,off2,none⟩) s.ses.length cap2,.func (.func 240) #[] #[.pointer (some ⟨C,0,none⟩)]] w2 fun e w' =>
   e = .returned (.slice (some ⟨g2,off2,none⟩) (Sta.notId c s.ses).length cap2)∧EOwn w' (.slice (some ⟨g2,off2,none⟩) (Sta.notId c s.ses).length cap2) g2 (Sta.notId c s.ses)∧Upd g2 w2 w') :=
  deleteE_any g2 off2 cap2 C s.ses (.int .i64 c) c w2 hO2 HL.out ⟨(HS.out w2 E2.out).2,rfl⟩ fun wx hu=>⟨(hu.at_ne C 0 (by omega) (by have:=E2.out.size;omega)).1.trans (HS.out w2 E2.out).2,rfl⟩
 clear hb hg2 hO2 HCl q0 b0 b1 b2 b3 l0 l1 l2 l3
 go_wp2_with fail
 refine HDl.out.mono ?_
 rintro e w3 ⟨rfl,hO3,hU3⟩
 have E3:Hid (Ext w w3):=hU3.to_ext E2.out (by omega)
 have O3:Hid (EOwn w3 (.slice (some ⟨g2,off2,none⟩) (Sta.notId c s.ses).length cap2) g2 (Sta.notId c s.ses)):=hO3
 have hs3:w.heap.size < w3.heap.size:=Nat.lt_of_lt_of_le R2.out.1 hU3.2.1
 have R3:Hid (RyAt w3 w.heap.size (.int .i64 0) (.int .i64 0) (.string ByteArray.empty)):=by
  obtain⟨h1,⟨c0,c1,c2⟩,f0,f1,f2⟩:=R2.out
  have hn0:=fun o=>hU3.at_ne w.heap.size o (by omega) h1
  exact⟨hs3,⟨(hn0 0).1.trans c0,(hn0 1).1.trans c1,(hn0 2).1.trans c2⟩,(hn0 0).2.trans f0,(hn0 1).2.trans f1,(hn0 2).2.trans f2⟩
 clear hO3 hU3 HDl O2 R2
 obtain⟨q0,⟨b0,b1,b2,b3⟩,l0,l1,l2,l3⟩:=HX.out.ext E3.out
 go_wp2
 generalize hw4:World.setCell w3 _ _=w4
 have HE4:Hid (w3.setCell ⟨B,1,none⟩ (.slice (some ⟨g2,off2,none⟩) (Sta.notId c s.ses).length cap2)=w4):=hw4
 have X4:Hid (SBoxAt w4 B (.slice an s.nodes.length cn) (.slice (some ⟨g2,off2,none⟩) (Sta.notId c s.ses).length cap2) (.int .i64 s.now) vm):=by show SBoxAt w4 _ _ _ _ _;rw [← hw4];exact (HX.out.ext E3.out).set1 _
 have R4:Hid (RyAt w4 w.heap.size (.int .i64 0) (.int .i64 0) (.string ByteArray.empty)):=by show RyAt w4 _ _ _ _;rw [← hw4];exact R3.out.other (by omega)
 have S4:Hid (NSlice w4 (.slice an s.nodes.length cn) s.nodes∧Gd w4):=by
  have h:=((HH.out.ext E3.out).upd ((Upd.refl B w3).setAt 1 (.slice (some ⟨g2,off2,none⟩) (Sta.notId c s.ses).length cap2)) hKB).slice.1
  have hg3:=HGd.out.ext E3.out
  have hne:=hg3.notB b0
  have hgs:Gd (w3.setCell ⟨B,1,none⟩ (.slice (some ⟨g2,off2,none⟩) (Sta.notId c s.ses).length cap2)):=by unfold Gd at hg3 ⊢;rw [iset_ne _ _ _ _ _ _ (Or.inl hne)];exact hg3
  rw [hw4] at h hgs
  exact⟨h,hgs⟩
 have hs4:w3.heap.size=w4.heap.size:=by rw [← hw4];simp
 have C4:Hid (∀ W,Ext w4 W→W.cell? ⟨B,0,none⟩=some (.slice an s.nodes.length cn)∧W.cell? ⟨C,0,none⟩=some (.int .i64 c)):=by
  intro W he
  refine⟨((Ext.cell he).1 _ _ X4.out.1).trans X4.out.2.1.1,((Ext.cell he).1 _ _ (by omega)).trans ?_⟩
  by_cases hCB:C=B
  ·subst hCB
   have h:=(HS.out w (Ext.refl _)).2
   rw [HX.out.2.1.1] at h
   cases h
  ·rw [← hw4,iset_ne _ _ _ _ _ _ (Or.inl (fun h=>hCB h.symm))];exact (HS.out w3 E3.out).2
 clear hw4 q0 b0 b1 b2 b3 l0 l1 l2 l3
 obtain⟨s4,c4⟩:=C4.out w4 (Ext.refl _)
 have hB4:=X4.out.1
 have hC4:C < w4.heap.size:=by omega
 go_region_with ((first | (go_at_call 150;refine (HDr.out _ _ (S4.out.2.ext (by first | exact ((Ext.refl _).drew).alloc _ | exact (Ext.refl _).alloc _)) (S4.out.1.ext (by first | exact ((Ext.refl _).drew).alloc _ | exact (Ext.refl _).alloc _)) (by first | exact islice1 (World.drew w4) c _ | exact islice1 _ c _)).mono ?_;rintro e w5 ⟨v5,g5,rfl,hg5,hO5,hb5⟩;obtain⟨a5,c5,rfl⟩:=hO5.vis;have E5:Hid (Ext w4 w5):=(by first | exact (((Ext.refl _).drew).alloc _).trans hb5 | exact ((Ext.refl _).alloc _).trans hb5);have G5:Hid (w4.heap.size≤g5):=(by (try simp at hg5);show _≤_;omega);have O5:Hid (Own w5 (.slice a5 (dropL [c] s.nodes).length c5) g5 (dropL [c] s.nodes)):=hO5;clear hb5 hg5 hO5;unfold zr;obtain⟨q0,⟨b0,b1,b2,b3⟩,l0,l1,l2,l3⟩:=X4.out.ext E5.out)))
 all_goals
  obtain⟨p0,⟨d0,d1,d2⟩,m0,m1,m2⟩:=(R4.out.ext E5.out).other (B:=B) (o:=0) (v:=.slice a5 (dropL [c] s.nodes).length c5) (by omega)
  have hn3:¬ B=w.heap.size:=by omega
  go_wp2
  have hry:=ry_put (x:=.int .i64 0) (y:=.int .i64 0) (z:=.string ⟨#[]⟩) ((R4.out.ext E5.out).other (B:=B) (o:=0) (v:=.slice a5 (dropL [c] s.nodes).length c5) (by omega))
  unfold put3R at hry
  obtain⟨y0,y1,y2⟩:=hry
  exact bodyPost_ret (v:=yagg 0 0 ⟨#[]⟩) (by simp [results,Tryz.results238,go_sem,yagg,y0,y1,y2]) rfl (by exact stepC_done HX.out HH.out hKB hn E3.out O3.out hg2' (by rw [HE4.out];exact E5.out) O5.out (by have:=G5.out;omega) hs3 rfl rfl)
end Go.Proofs.YtpdejinkmnhioaaGreatDoor
namespace Go.Proofs.YtpdejinkmnhioaaGreatDoor
open Go.RowKit
set_option maxHeartbeats 400000 in
set_option maxRecDepth 100000 in
theorem liveStep_2 (n B:Nat) (s:Stt) (c:Int) (p:ByteArray) (d v:Int) (sq ow:Bool) (w:World) (hn:n≤w.heap.size) (hr:Sta.right s) (hgd:Gd w) :
  Calls Tryz.prog 134 #[.int .i64 c,.iface 260 (.agg #[])] w (Maker (Ses.live s.ses c s.now=true) n B w s (Sta.liveT s c ⟨2,p,d,v,sq,ow⟩)):=by
 have tatoCreate:∀ W:World,(Instr.typeAssert (.iface 260 (.agg #[])) 184 243 true).run Tryz.prog W = .ok (.tuple #[.agg #[.string ByteArray.empty,.int .i64 0,.bool false,.bool false],.bool false]) W:=fun W=>by kernel_rfl
 have tatoDelete:∀ W:World,(Instr.typeAssert (.iface 260 (.agg #[])) 184 246 true).run Tryz.prog W = .ok (.tuple #[.agg #[.string ByteArray.empty,.int .i64 0],.bool false]) W:=fun W=>by kernel_rfl
 have tatoSet:∀ W:World,(Instr.typeAssert (.iface 260 (.agg #[])) 184 249 true).run Tryz.prog W = .ok (.tuple #[.agg #[.string ByteArray.empty,.int .i64 0,.int .i64 0],.bool false]) W:=fun W=>by kernel_rfl
 have tatoGet:∀ W:World,(Instr.typeAssert (.iface 260 (.agg #[])) 184 252 true).run Tryz.prog W = .ok (.tuple #[.agg #[.string ByteArray.empty],.bool false]) W:=fun W=>by kernel_rfl
 have tatoList:∀ W:World,(Instr.typeAssert (.iface 260 (.agg #[])) 184 254 true).run Tryz.prog W = .ok (.tuple #[.agg #[.string ByteArray.empty],.bool false]) W:=fun W=>by kernel_rfl
 have tatoCheck:∀ W:World,(Instr.typeAssert (.iface 260 (.agg #[])) 184 256 true).run Tryz.prog W = .ok (.tuple #[.agg #[.string ByteArray.empty,.int .i64 0],.bool false]) W:=fun W=>by kernel_rfl
 have HM:Hid (∀ wx,Ext w wx→Calls Tryz.prog 198 #[.int .i64 c] wx (Maker (Ses.live s.ses c s.now=true) n B w s (Sta.liveT s c ⟨2,p,d,v,sq,ow⟩))):=by
  intro w0 hE00
  refine (closeStep_mk c w0).mono ?_
  rintro e w1 ⟨D,rfl,hD,hb⟩
  have hE0:=hE00.trans hb
  refine⟨238,#[.pointer (some ⟨D,0,none⟩)],rfl,fun _ _=>by kernel_rfl,fun hlv=>?_,hE0⟩
  intro wx K he hA hKB
  rw [show (#[Value.pointer (some ⟨B,0,none⟩)] ++ #[.pointer (some ⟨D,0,none⟩)]:Array Value) = #[.pointer (some ⟨B,0,none⟩),.pointer (some ⟨D,0,none⟩)] from by simp]
  rw [Sta.liveT_close]
  exact closeStep1_any n B D s c wx K hA ((Ext.cell he).1 _ _ (World.block_lt_of_cell? _ _ hD) |>.trans hD) hKB (by have:=hE0.size;have:=he.size;omega) hr (hgd.ext (hE0.trans he)) (Ses.live_some hlv)
 clear hr hgd
 generalize Sta.liveT s c ⟨2,p,d,v,sq,ow⟩=q at *
 exact m11z
end Go.Proofs.YtpdejinkmnhioaaGreatDoor
namespace Go.Proofs.YtpdejinkmnhioaaGreatDoor
open Go.RowKit
/-- The slice of n nodes at ⟨g, off⟩, of capacity cap, reads as zs; all of its room may be written. -/
def Wide (w:World) (g off cap:Nat) (zs:List Zn):Prop:=zs.length≤cap∧cap≤maxLen∧0 < zs.length∧Room w g off cap∧NodesAt w g off zs∧∃ t c,w.shape? g=some (t,c)∧c≠0
theorem Wide.slice {w:World} {g off cap:Nat} {zs:List Zn} (h:Wide w g off cap zs):NSlice w (.slice (some ⟨g,off,none⟩) zs.length cap) zs:=⟨_,cap,rfl,h.1,h.2.1,fun _=>⟨g,off,rfl,h.2.2.2.1.1,h.2.2.2.2.1⟩⟩
theorem shape_block {w w' : World} {g:Nat} (h:w'.heap[g]?=w.heap[g]?):w'.shape? g=w.shape? g:=by simp [World.shape?,h]
theorem Wide.ext {w w' : World} {g off cap:Nat} {zs:List Zn} (h:Wide w g off cap zs) (he:Ext w w'):Wide w' g off cap zs:=by
 obtain⟨h1,h2,h3,h4,h5,t,c,h6,h7⟩:=h
 exact⟨h1,h2,h3,h4.ext he,h5.ext h4.1 he,t,c,(shape_block (Below.block he g h4.1)).trans h6,h7⟩
theorem shape_setCell (w:World) (g o:Nat) (v:Value) {t:TypeId} {c:Nat} (h:w.shape? g=some (t,c)):(w.setCell ⟨g,o,none⟩ v).shape? g=some (t,c):=by
 rw [← h]
 unfold World.shape? World.setCell
 simp only [Array.getElem?_modify,if_true]
 cases w.heap[g]? with
 | none=>rfl
 | some ob=>cases ob <;> simp
/-- One field of one node is written. -/
theorem Wide.field {w:World} {g off cap k:Nat} {zs:List Zn} {z:Zn} (h:Wide w g off cap zs) (hz:zs[k]?=some z) (r:Nat) (hr:r < 5) (u:Value) (z' : Zn) (hz' : zcells z'=(zcells z).set r u) :
  Wide (w.setCell ⟨g,off+k * 5+r,none⟩ u) g off cap (zs.set k z'):=by
 obtain⟨h1,h2,h3,h4,h5,t,c,h6,h7⟩:=h
 have hO:Own w (.slice (some ⟨g,off,none⟩) zs.length cap) g zs:=⟨_,cap,rfl,h1,h2,fun _=>⟨off,rfl,h4.less h1,h5⟩⟩
 have hk:=(List.getElem?_eq_some_iff.1 hz).1
 obtain⟨a9,cap9,he,-,-,hx⟩:=hO.field hz r hr u z' hz'
 obtain⟨off9,ho,hR9,hN9⟩:=hx (by rw [List.length_set];omega)
 injection he with e1 e2 e3
 subst e1
 injection ho with ho
 injection ho with _ ho _
 subst ho
 refine⟨by rw [List.length_set];exact h1,h2,by rw [List.length_set];exact h3,⟨by simpa using h4.1,fun j hj=>⟨?_,by simpa using (h4.2 j hj).2⟩⟩,hN9,t,c,shape_setCell w g _ u h6,h7⟩
 by_cases hjk:j=k * 5+r
 ·subst hjk;rw [← Nat.add_assoc];exact⟨_,set_eq _ _ _ _ (by rw [Nat.add_assoc];exact (h4.2 _ hj).1)⟩
 ·rw [set_ne _ _ _ _ _ _ (by omega)];exact (h4.2 j hj).1
theorem Wide.of_row {w:World} {base:Nat} {e:TypeId} {v:Value} {zs:List Zn} (h:w.ownsRow base e 5 v zs.length (cellsZ zs)) (hp:0 < zs.length):∃ g cap,base≤g∧v = .slice (some ⟨g,0,none⟩) zs.length cap∧Wide w g 0 cap zs:=by
 rcases h.2 with ⟨hv,h0⟩ | ⟨g,cap,cur,hv,hb,hh,hn,hm,hs,ht⟩
 ·omega
 ·subst hv
  refine⟨g,cap,hb,rfl,hn,hm,hp,⟨(Array.getElem?_eq_some_iff.1 hh).1,fun j hj=>⟨⟨cur[j],?_⟩,?_⟩⟩,?_,e,cur.size,by simp [World.shape?,hh],by omega⟩
  ·simp [World.cell?,hh,show j < cur.size from by omega]
  ·simp [World.frozen?,hh]
  ·apply NodesAt.of_news
   intro j u hu
   have hj:=(List.getElem?_eq_some_iff.1 hu).1
   rw [cellsZ_length] at hj
   rw [Nat.zero_add,h.cellAt j (by omega)];exact hu
theorem copy_cells5 (w:World) (ty:TypeId) (b o dLen dCap:Nat) (a:Addr) (sLen sCap:Nat) (cs:List Value) (hn:cs.length=Nat.min sLen dLen * 5)
  (hsrc:∀ j v,cs[j]?=some v→w.cell? (a.add j)=some v) (hc:∀ j,j < cs.length→(w.cell? ⟨b,o+j,none⟩).isSome=true∧w.frozen? ⟨b,o+j,none⟩=false) (h1:∀ v ∈ cs,v.oneCell'=true) :
  (Builtin.copy_ #[33,33] ty #[.slice (some ⟨b,o,none⟩) dLen dCap,.slice (some a) sLen sCap]).run Tryz.prog w = .ok (goInt (Nat.min sLen dLen)) (w.setCells b o cs):=by
 have hs:(Tryz.prog.info? 144).map (·.size)=some 5:=by kernel_rfl
 have hl:=run_loadCells_list (P:=Tryz.prog) w a cs hsrc
 have hst:=run_storeCells_cells (P:=Tryz.prog) b o cs 0 w (by simpa using fun j hj=>(hc j hj).1) (by simpa using fun j hj=>(hc j hj).2) h1
 cases hq : Tryz.prog.info? 144 with
 | none=>simp [hq] at hs
 | some i =>
  have hi:i.size=5:=by simpa [hq] using hs
  simp [Builtin.copy_,run_underlying Tryz.underlying33,Builtin.lenOf,Builtin.firstCells,sizeOf,typeInfo,hq,hi,← hn,hl,hst]
theorem cells_mid (zs:List Zn) (z:Zn) (k:Nat):cellsZ (zs.take k ++ z :: zs.drop k)=cellsZ (zs.take k) ++ (zcells z ++ cellsZ (zs.drop k)):=by rw [cellsZ_append];rfl
/-- A node laid between others: what stood from there on lies one place further. -/
theorem spread {W W2:World} {G OFF k:Nat} {zs:List Zn} (z:Zn) (hk:k≤zs.length)
  (hT:∀ j u,(cellsZ (zs.take k))[j]?=some u→W.cell? ⟨G,OFF+j,none⟩=some u)
  (h1:∀ j,j < k * 5→W2.cell? ⟨G,OFF+j,none⟩=W.cell? ⟨G,OFF+j,none⟩)
  (h2:∀ j u,(zcells z)[j]?=some u→W2.cell? ⟨G,OFF+k * 5+j,none⟩=some u)
  (h3:∀ j u,(cellsZ (zs.drop k))[j]?=some u→W2.cell? ⟨G,OFF+(k+1) * 5+j,none⟩=some u):NodesAt W2 G OFF (zs.take k ++ z :: zs.drop k):=by
 refine n70z ?_
 intro hlt
 apply NodesAt.of_news
 intro j u hu
 rw [cells_mid] at hu
 by_cases hj:j < k * 5
 ·rw [List.getElem?_append_left (by omega)] at hu
  rw [h1 j hj];exact hT j u hu
 ·rw [List.getElem?_append_right (by omega),hlt] at hu
  have hz:(zcells z).length=5:=rfl
  by_cases hj5:j - k * 5 < 5
  ·rw [List.getElem?_append_left (by omega)] at hu
   have:=h2 _ u hu
   rw [show OFF+k * 5+(j - k * 5)=OFF+j from by omega] at this
   exact this
  ·rw [List.getElem?_append_right (by omega),hz] at hu
   have:=h3 _ u hu
   rw [show OFF+(k+1) * 5+(j - k * 5 - 5)=OFF+j from by omega] at this
   exact this
end Go.Proofs.YtpdejinkmnhioaaGreatDoor
namespace Go.Proofs.YtpdejinkmnhioaaGreatDoor
open Go.RowKit
set_option maxHeartbeats 1000000 in
set_option maxRecDepth 100000 in
theorem cloneZ_wide (v:Value) (zs:List Zn) (w:World) (hS:NSlice w v zs) (hl:zs.length≤1048576) (hp:0 < zs.length) :
  Calls Tryz.prog 187 #[v] w fun e w'=>∃ g off cap',e = .returned (.slice (some ⟨g,off,none⟩) zs.length cap')∧w.heap.size≤g∧Wide w' g off cap' zs∧Ext w w':=by
 refine n21z ?_
 intro hi9
 obtain⟨i0,hi,hx⟩:=Option.map_eq_some_iff.1 hi9
 simp only [Prod.mk.injEq] at hx
 obtain⟨hz0,hz1,hz2⟩:=hx
 clear hi9
 obtain⟨a,cap,rfl,hlc,hcm,hx⟩:=hS
 obtain⟨b,off,rfl,hb,hN⟩:=hx hp
 refine n73z ?_
 intro HN
 clear hN hx
 unfold maxLen at hcm
 refine n44z ?_
 intro HO
 refine n69z ?_
 intro q22
 go_enter Tryz.func187,Tryz.ntmps187
 go_wp2_with (at_builtin;go_must (refine wpList_append_own _ rfl _ _ 33 rfl w.heap.size 144 i0 (.agg #[.string ByteArray.empty,.int .i64 0,.int .i64 0,.int .i64 0,.int .i64 0]) 5 48 Tryz.underlying33 hi hz0 hz1 hz2 rfl (by decide) _ 0 [] rfl HO.out ⟨b,off,none⟩ zs.length cap (cellsZ zs) rfl (cellsZ_length zs) HN.out.news (cellsZ_one zs) (by unfold maxLen;omega) (by omega) (by simp) ?_;intro v' w3 hown' hgrow3 hnil3))
 have hown2:w3.ownsRow w.heap.size 144 5 v' zs.length (cellsZ zs):=by simpa using hown'
 obtain⟨g,cap5,hg,rfl,hO⟩:=Wide.of_row hown2 hp
 have HE:Ext w w3:=((Below.refl _ _).alloc (Nat.le_refl _) _).grown hgrow3 (by simp) (fun q hq=>(HO.out.lt q hq).1)
 go_ret
 exact⟨g,0,cap5,rfl,hg,hO,HE⟩
set_option maxHeartbeats 1000000 in
set_option maxRecDepth 100000 in
theorem copyNodes_wide (v:Value) (zs:List Zn) (w:World) (hS:NSlice w v zs) (hl:zs.length≤1048576) (hp:0 < zs.length) (hz:∀ z ∈ zs,z.path.size≤1048576) :
  Calls Tryz.prog 128 #[v] w fun e w'=>∃ g off cap',e = .returned (.slice (some ⟨g,off,none⟩) zs.length cap')∧w.heap.size≤g∧Wide w' g off cap' zs∧Ext w w':=by
 have HL:Hid (∀ wx:World,Ext w wx→Calls Tryz.prog 187 #[v] wx fun e w'=>∃ g off cap',e = .returned (.slice (some ⟨g,off,none⟩) zs.length cap')∧wx.heap.size≤g∧Wide w' g off cap' zs∧Ext wx w'):=fun wx h=>cloneZ_wide v zs wx (hS.ext h) hl hp
 have HZ:Hid (∀ z ∈ zs,z.path.size≤1048576):=hz
 clear hz
 obtain⟨a,cap,rfl,-⟩:=hS
 go_enter Tryz.func128,Tryz.ntmps128
 go_wp2_with fail
 refine (HL.out _ (Ext.refl _)).mono ?_
 rintro e w2 ⟨g,off,cap2,rfl,hg,hO,hb⟩
 have hlc2:=hO.1
 have hcm2:=hO.2.1
 have HO:Hid (Wide w2 g off cap2 zs):=hO
 have HE:Hid (Ext w w2):=hb
 have HG:Hid (w.heap.size≤g):=hg
 clear hb hO hg
 unfold maxLen at hcm2
 go_wp2
 go_loopw [9] (fun i wr=>∃ (k:Nat),k≤zs.length∧i = .int .i64 k∧Hid (Wide wr g off cap2 zs)∧Hid (Ext w wr)) (fun i _=>zs.length - (intOf i).toNat)
 case atStart=>exact⟨0,Nat.zero_le _,rfl,HO.out,HE.out⟩
 case round =>
  clear HO HE
  obtain⟨k,hk,rfl,HO,HE⟩:=hrel
  by_cases hlt:k < zs.length
  ·obtain⟨z,hzk⟩:∃ z,zs[k]?=some z:=⟨_,List.getElem?_eq_getElem hlt⟩
   have HK:Hid (zs[k]?=some z):=hzk
   obtain⟨-,-,-,hR,hN,-⟩:=HO.out
   obtain⟨d0,-,-,-,-⟩:=hN k z hzk
   have hf:=(hR.2 (k * 5) (by omega)).2
   have HC:Hid (∀ wx:World,Calls Tryz.prog 148 #[.string z.path] wx fun e w'=>e = .returned (.string z.path)∧Ext wx w'):=fun wx=>clone_any z.path wx (HZ.out z (List.mem_of_getElem? hzk))
   have HF:Hid (wr.frozen? ⟨g,off+k * 5,none⟩=false):=hf
   have HLt:Hid (g < wr.heap.size):=hR.1
   clear hzk hR hN hf
   go_wp2_with fail
   refine (HC.out _).mono ?_
   rintro e w3 ⟨rfl,hb⟩
   have HO3:Hid (Wide w3 g off cap2 zs):=HO.out.ext hb
   have HE3:Hid (Ext w w3):=HE.out.trans hb
   have d3:=(Below.cell hb (p:=⟨g,off+k * 5,none⟩) HLt.out).trans d0
   have f3:=(Below.frozen hb (p:=⟨g,off+k * 5,none⟩) HLt.out).trans HF.out
   clear hb d0
   go_wp2
   have HO4:Hid (Wide (w3.setCell ⟨g,off+k * 5,none⟩ (.string z.path)) g off cap2 zs):=by
    have h:=HO3.out.field HK.out 0 (by omega) (.string z.path) z rfl
    rw [List.set_getElem?_self' HK.out] at h
    exact h
   exact⟨⟨k+1,by omega,by go_num,HO4,HE3.out.setCell (p:=⟨g,off+k * 5,none⟩) HG.out _⟩,by simp [intOf];omega⟩
  ·go_wp2
   go_ret
   exact⟨g,off,cap2,rfl,HG.out,HO.out,HE.out⟩
end Go.Proofs.YtpdejinkmnhioaaGreatDoor
namespace Go.Proofs.YtpdejinkmnhioaaGreatDoor
open Go.RowKit
theorem wpList_copy_run5 {P:Program} (w:World) {ops:Array Oper} {rest:List Oper} {o:Oper} {a:Act} {Q:Exit→Act→World→Prop} (hgd:o.guard=none) (d s:Operand) (t t' : TypeId)
  (ho:o.op = .call { callee:=.builtin .copy,args:=#[d,s],argTypes:=#[t,t'] }) (v u:Value) (hd:a.eval d=v) (hs:a.eval s=u) {v' : Value} {w' : World}
  (hr:(Builtin.copy_ #[t,t'] o.type #[v,u]).run P w = .ok v' w') (h:wpList P ops Q rest (a.put o.dst v') w'):wpList P ops Q (o :: rest) a w :=
 wpList_plain hgd fun _ hK=>by
  unfold Oper.wp execOp
  simp only [ho,resolve,invoke,builtin,Sem.run_bind,Sem.run_pure,Result.andThen_ok,List.map_toArray,List.map_cons,List.map_nil,hd,hs,hr]
  exact hK _ _ h
theorem step_copy_run5 {P:Program} {ops:Array Oper} {o:Oper} {a:Act} {w:World} {K:Act→World→Prop} {Q:Exit→Act→World→Prop} {E:Prop}
  (hg:o.guard=none) (d x:Operand) (dT sT:TypeId) (hop:o.op=Op.call { callee:=Callee.builtin Builtin.copy,args:=#[d,x],argTypes:=#[dT,sT] })
  (v u:Value) (hd:a.eval d=v) (hx:a.eval x=u) {v' : Value} {w' : World} (hr:(Builtin.copy_ #[dT,sT] o.type #[v,u]).run P w = .ok v' w') (hK:K (a.put o.dst v') w') :
  if Region.wanted o (yielded ops a.tmps)=true then Oper.wp P o a w K Q else E:=by
 have hw:Region.wanted o (yielded ops a.tmps)=true:=by simp [Region.wanted,hg]
 rw [if_pos hw]
 unfold Oper.wp
 simp [execOp,hop,resolve,invoke,builtin,hd,hx,hr,Result.andThen]
 exact hK
set_option maxHeartbeats 4000000 in
set_option maxRecDepth 100000 in
theorem insert_shift (g off cap k vb:Nat) (zs:List Zn) (z:Zn) (w:World) (hW:Wide w g off cap zs) (hk:k < zs.length) (hroom:zs.length+1≤cap) (hvb:vb≠g)
  (hv:w.heap[vb]?=some (.cells (zcells z).toArray 144 (0,0))) :
  Calls Tryz.prog 257 #[.slice (some ⟨g,off,none⟩) zs.length cap,.int .i64 k,.slice (some ⟨vb,0,none⟩) 1 1] w fun e w' =>
   e = .returned (.slice (some ⟨g,off,none⟩) (zs.length+1) cap)∧w'=(w.drew.setCells g (off+(k+1) * 5) (cellsZ (zs.drop k))).setCells g (off+k * 5) (zcells z):=by
 obtain⟨hnc,hcm,hp,hR,hN,tB,kB,hsb,hkB⟩:=hW
 unfold maxLen at hcm
 refine n67z ?_
 intro hld
 have hz5:(zcells z).length=5:=rfl
 have hsa:w.shape? vb=some (144,5):=by simp [World.shape?,hv,zcells]
 have hfr:∀ j,w.frozen? ⟨vb,j,none⟩=false:=fun j=>by simp [World.frozen?,hv]
 have hcv:∀ j u,(zcells z)[j]?=some u→w.cell? ⟨vb,0+j,none⟩=some u:=fun j u hu=>by
  rw [Nat.zero_add];simp [World.cell?,hv];simpa using hu
 have hov:∀ lb cb,(callFunc 278 #[.slice (some ⟨vb,0,none⟩) 1 1,.slice (some ⟨g,off+(k+1) * 5,none⟩) lb cb]).run Tryz.prog w = .ok (.value (.bool false)) w:=fun lb cb=>by
  rw [run_callFunc_extern Tryz.func278 (by kernel_rfl) (by kernel_rfl) (by kernel_rfl) (e:=Extern.SlicesOverlaps.overlaps #[33,33] #[4]) (by kernel_rfl),
   Lib.run_overlaps_apart w 33 4 144 Tryz.underlying33 5 Tryz.sizeOf144 ⟨vb,0,none⟩ ⟨g,off+(k+1) * 5,none⟩ 1 1 lb cb hvb 144 tB 5 kB hsa hsb hkB (hfr 0) (hfr 5)]
  rfl
 have hRd:Room w.drew g off cap:=hR
 have hNd:NodesAt w.drew g off zs:=hN
 refine n72z ?_
 intro s1 hR1 s2
 have hcp1:∀ ty dc sc,(Builtin.copy_ #[33,33] ty #[.slice (some ⟨g,off+(k+1) * 5,none⟩) (zs.length - k) dc,.slice (some ⟨g,off+k * 5,none⟩) (zs.length+1 - k) sc]).run Tryz.prog w.drew = .ok (goInt (Nat.min (zs.length+1 - k) (zs.length - k))) (w.drew.setCells g (off+(k+1) * 5) (cellsZ (zs.drop k))):=fun ty dc sc =>
  copy_cells5 w.drew ty g (off+(k+1) * 5) _ dc ⟨g,off+k * 5,none⟩ _ sc (cellsZ (zs.drop k)) (by rw [hld];simp only [Nat.min_def];split <;> omega) (hNd.drop k).news s1 (cellsZ_one _)
 obtain⟨W1,hW1⟩:∃ W1,W1=w.drew.setCells g (off+(k+1) * 5) (cellsZ (zs.drop k)):=⟨_,rfl⟩
 rw [← hW1] at s2
 have hcp2:∀ (W:World),(∀ x,W.cell? x=W1.cell? x)→(∀ x,W.frozen? x=W1.frozen? x)→∀ ty dc,(Builtin.copy_ #[33,33] ty #[.slice (some ⟨g,off+k * 5,none⟩) (zs.length+1 - k) dc,.slice (some ⟨vb,0,none⟩) 1 1]).run Tryz.prog W = .ok (goInt (Nat.min 1 (zs.length+1 - k))) (W.setCells g (off+k * 5) (zcells z)):=fun W hWc hWf ty dc =>
  copy_cells5 W ty g (off+k * 5) _ dc ⟨vb,0,none⟩ 1 1 (zcells z) (by rw [hz5];simp only [Nat.min_def];split <;> omega)
   (fun j u hj=>by
    rw [Addr.add_lit,hWc,hW1,World.cell?_setCells_out g _ _ _ _ (fun h _=>absurd h hvb)]
    exact hcv j u hj)
   (fun j hj=>by rw [hWc,hWf];exact s2 j (by omega)) (by intro u hu;simp [zcells] at hu;rcases hu with rfl | rfl | rfl | rfl | rfl <;> rfl)
 rw [← hW1] at hcp1 ⊢
 have hkn:k≤zs.length:=by omega
 have hz2:¬ ((k:Int)=(zs.length:Int)):=by omega
 have hw1:IntKind.i64.wrap ((k:Int)+1)=(k:Int)+1:=by rw [IntKind.wrap_i64];omega
 have hb1:(0:Int)≤(k:Int)+1:=by omega
 have htn:((k:Int)+1).toNat=k+1:=by omega
 have hb2:¬ (cap=k+1):=by omega
 have hb3:(k:Int)≤(zs.length:Int)+1:=by omega
 have hb4:¬ (cap=k):=by omega
 have hb5:¬ ((cap:Int) < (zs.length:Int)+1):=by omega
 have HW1:Hid (W1=w.drew.setCells g (off+(k+1) * 5) (cellsZ (zs.drop k))):=hW1
 clear hR1 s1 s2 hR hN hRd hNd hld hW1 hcv
 go_enter Tryz.func257,Tryz.ntmps257
 go_wp2_with (simp only [hov])
 go_region_law (refine step_copy_run5 rfl _ _ 33 33 rfl _ _ (by simp [Act.eval,Act.put]) (by simp [Act.eval,Act.put]) (hcp1 _ _ _) ?_)
 go_wp2_with (at_builtin;refine wpList_copy_run5 _ rfl _ _ 33 33 rfl _ _ rfl rfl (hcp2 _ (fun _=>rfl) (fun _=>rfl) _ _) ?_)
 go_ret
 exact⟨rfl,rfl⟩
end Go.Proofs.YtpdejinkmnhioaaGreatDoor
namespace Go.Proofs.YtpdejinkmnhioaaGreatDoor
open Go.RowKit
theorem znInfo:∃ i0,Tryz.prog.info? 144=some i0∧i0.zero=some (.agg #[.string ByteArray.empty,.int .i64 0,.int .i64 0,.int .i64 0,.int .i64 0])∧i0.size=5∧i0.bytes=48:=by
 refine n21z ?_
 intro hi9
 obtain⟨i0,hi,hx9⟩:=Option.map_eq_some_iff.1 hi9
 simp only [Prod.mk.injEq] at hx9
 exact⟨i0,hi,hx9.1,hx9.2.1,hx9.2.2⟩
theorem zcells_one (z:Zn):∀ u ∈ zcells z,u.oneCell'=true:=by intro u hu;simp [zcells] at hu;rcases hu with rfl | rfl | rfl | rfl | rfl <;> rfl
set_option maxHeartbeats 2000000 in
set_option maxRecDepth 100000 in
theorem insert_end_room (g off cap vb:Nat) (zs:List Zn) (z:Zn) (w:World) (hW:Wide w g off cap zs) (hroom:zs.length+1≤cap)
  (hv:w.heap[vb]?=some (.cells (zcells z).toArray 144 (0,0))) :
  Calls Tryz.prog 257 #[.slice (some ⟨g,off,none⟩) zs.length cap,.int .i64 (zs.length:Int),.slice (some ⟨vb,0,none⟩) 1 1] w fun e w' =>
   e = .returned (.slice (some ⟨g,off,none⟩) (zs.length+1) cap)∧w'=w.setCells g (off+zs.length * 5) (zcells z):=by
 obtain⟨hnc,hcm,hp,hR,hN,tB,kB,hsb,hkB⟩:=hW
 unfold maxLen at hcm
 obtain⟨i0,hi,hz0,hz1,hz2⟩:=znInfo
 refine n75z ?_
 intro hz5 hcv
 have s1:=hR.some (off+zs.length * 5) 5 (by omega) (by omega)
 have hrun:∀ ty,(Builtin.append_ #[33,33] ty #[.slice (some ⟨g,off,none⟩) zs.length cap,.slice (some ⟨vb,0,none⟩) 1 1]).run Tryz.prog w = .ok (.slice (some ⟨g,off,none⟩) (zs.length+1) cap) (w.setCells g (off+zs.length * 5) (zcells z)):=fun ty=>by
  have h:=run_append_room_cells (P:=Tryz.prog) w 33 ty 144 i0 Tryz.underlying33 hi g off zs.length cap ⟨vb,0,none⟩ 1 1 (zcells z) (by rw [hz5,hz1]) hcv (zcells_one z) hroom (by rw [hz1,hz5];exact fun j hj=>(s1 j hj).1) (by rw [hz1,hz5];exact fun j hj=>(s1 j hj).2)
  rw [hz1] at h
  exact h
 clear hR hN s1 hcv
 exact m47z
set_option maxHeartbeats 2000000 in
set_option maxRecDepth 100000 in
theorem insert_end_grow (g off cap vb:Nat) (zs:List Zn) (z:Zn) (w:World) (hW:Wide w g off cap zs) (hl:zs.length≤1000) (hroom:cap < zs.length+1)
  (hv:w.heap[vb]?=some (.cells (zcells z).toArray 144 (0,0))) :
  Calls Tryz.prog 257 #[.slice (some ⟨g,off,none⟩) zs.length cap,.int .i64 (zs.length:Int),.slice (some ⟨vb,0,none⟩) 1 1] w fun e w' =>
   e = .returned (.slice (some ⟨w.heap.size,0,none⟩) (zs.length+1) (grownCap w (zs.length+1) cap 144)) ∧
   w'=w.drew.alloc (.cells ((cellsZ zs ++ zcells z).toArray ++ Builtin.zeroCells (Value.agg #[.string ByteArray.empty,.int .i64 0,.int .i64 0,.int .i64 0,.int .i64 0]).cells (grownCap w (zs.length+1) cap 144 - (zs.length+1))) 144):=by
 obtain⟨hnc,hcm,hp,hR,hN,tB,kB,hsb,hkB⟩:=hW
 unfold maxLen at hcm
 obtain⟨i0,hi,hz0,hz1,hz2⟩:=znInfo
 refine n75z ?_
 intro hz5 hcv
 have hsrc:Src Tryz.prog i0.size 33 (.slice (some ⟨vb,0,none⟩) 1 1) 1 (zcells z) w:=by
  rw [hz1]
  exact Src.ofSlice w Tryz.underlying33 ⟨vb,0,none⟩ 1 1 (zcells z) (by omega) hcv (zcells_one z)
 have hold:(Builtin.firstCells i0.size zs.length (.slice (some ⟨g,off,none⟩) zs.length cap)).run Tryz.prog w.drew = .ok (cellsZ zs).toArray w.drew:=by
  rw [hz1]
  exact run_firstCells_some w.drew 5 zs.length ⟨g,off,none⟩ zs.length cap (cellsZ zs) (by rw [cellsZ_length]) (NodesAt.news (w:=w.drew) hN)
 have hrun:∀ ty,(Builtin.append_ #[33,33] ty #[.slice (some ⟨g,off,none⟩) zs.length cap,.slice (some ⟨vb,0,none⟩) 1 1]).run Tryz.prog w=_:=fun ty =>
  run_append_grow_src w 33 33 ty 144 i0 _ Tryz.underlying33 hi hz0 (some ⟨g,off,none⟩) zs.length cap (cellsZ zs) hold _ 1 (zcells z) hsrc hroom (by omega) (by rw [hz2];exact growslice_fits hroom (by omega))
 clear hR hN hcv hsrc hold
 exact m47z
end Go.Proofs.YtpdejinkmnhioaaGreatDoor
