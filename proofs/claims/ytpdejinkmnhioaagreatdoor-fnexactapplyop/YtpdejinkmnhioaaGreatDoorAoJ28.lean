/- YA3c, YA5k3, I12, I13, YA3d, in one text. -/
import Derived.Test.YtpdejinkmnhioaaGreatDoorAoJ24
import Derived.Test.YtpdejinkmnhioaaGreatDoorAoI21
import Derived.Test.YtpdejinkmnhioaaGreatDoorAoJ21
import Derived.Test.YtpdejinkmnhioaaGreatDoorAoJ11
import Derived.Test.YtpdejinkmnhioaaGreatDoorAoJ19
import Derived.Test.YtpdejinkmnhioaaGreatDoorAoMk
namespace Go.Proofs.YtpdejinkmnhioaaGreatDoor
open Go.RowKit
set_option linter.unusedSimpArgs false in
set_option maxHeartbeats 4000000 in
set_option maxRecDepth 100000 in
theorem createStep1_any (n B D O:Nat) (s:Stt) (p:ByteArray) (d o:Int) (sq ow:Bool) (rc:Int) (rp:ByteArray) (rs:List Zn) (q:Ry × Stt) (w:World) (K:Nat→Prop) (hA:StAt n B K w s) (hKD:w.cell? ⟨D,0,none⟩=some (.string p)∧w.cell? ⟨D,1,none⟩=some (.int .i64 d)∧w.cell? ⟨D,2,none⟩=some (.bool sq)∧w.cell? ⟨D,3,none⟩=some (.bool ow)) (hKO:w.cell? ⟨O,0,none⟩=some (.int .i64 o))  (hKB:K B) (hn:n≤w.heap.size) (hr:Sta.right s) (hgd:Gd w) (hc:Tre.createV s.nodes p d o sq=(rc,rp,rs)) (hrp:rp.size≤1048576) (hq:q.1=⟨rc,0,rp⟩∧(rc=0→q.2 = { s with nodes:=rs })) :
    Calls Tryz.prog 226 #[.pointer (some ⟨B,0,none⟩),.pointer (some ⟨D,0,none⟩),.pointer (some ⟨O,0,none⟩)] w (Step n B K w (q)):=by
  obtain⟨vn,vs,vm,hX,hH⟩:=hA
  obtain⟨hr1,hr2,hr3⟩:=hr
  have hLD:=World.block_lt_of_cell? w _ hKD.1
  try simp only at hLD
  have hLO:=World.block_lt_of_cell? w _ hKO
  try simp only at hLO
  have HO:Hid (∀ wx,Ext w wx→Calls Tryz.prog 227 #[vn,.string p,.int .i64 d,.int .i64 o,.bool sq] wx (ZRet wx rc rp rs)):=fun wx he=>by have h:=implCreateZ_any vn s.nodes p d o sq wx (hgd.ext he) (hH.slice.1.ext he);rw [hc] at h;exact h
  have HQ:Hid (q.1=⟨rc,0,rp⟩∧(rc=0→q.2 = { s with nodes:=rs })):=hq
  have HCr:Hid (∀ wx:World,Calls Tryz.prog 76 #[yagg rc 0 rp] wx fun e w'=>e = .returned (yagg rc 0 rp)∧Ext wx w'):=fun wx=>copyReply_any rc 0 rp wx hrp
  unfold yagg at HCr
  clear hc hq hgd
  obtain⟨an,cn,rfl⟩:=hH.slice.1.vis
  refine n22z ?_
  intro HX HH hBl
  have HS:Hid (∀ W,Ext w W→W.cell? ⟨B,0,none⟩=some (.slice an s.nodes.length cn)∧W.cell? ⟨D,0,none⟩=some (.string p)∧W.cell? ⟨D,1,none⟩=some (.int .i64 d)∧W.cell? ⟨O,0,none⟩=some (.int .i64 o)∧W.cell? ⟨D,2,none⟩=some (.bool sq)):=fun W he=>⟨((Ext.cell he).1 _ _ hBl).trans hX.2.1.1,((Ext.cell he).1 _ _ hLD).trans hKD.1,((Ext.cell he).1 _ _ hLD).trans hKD.2.1,((Ext.cell he).1 _ _ hLO).trans hKO,((Ext.cell he).1 _ _ hLD).trans hKD.2.2.1⟩
  clear hX hH hr1 hr2 hr3 hKD hKO
  go_enter Tryz.func226,Tryz.ntmps226
  go_wp2
  generalize hw1:World.alloc w _=w1
  refine n5z ?_
  intro E1 R1
  have hs1:w.heap.size < w1.heap.size:=by rw [← hw1];simp
  clear hw1
  have HS1:Hid (∀ W,Ext w1 W→W.cell? ⟨B,0,none⟩=some (.slice an s.nodes.length cn)∧W.cell? ⟨D,0,none⟩=some (.string p)∧W.cell? ⟨D,1,none⟩=some (.int .i64 d)∧W.cell? ⟨O,0,none⟩=some (.int .i64 o)∧W.cell? ⟨D,2,none⟩=some (.bool sq)):=fun W he=>HS.out W (E1.out.trans he)
  obtain⟨s0,s1,s2,s3,s4⟩:=HS1.out w1 (Ext.refl _)
  go_region_held3 (fun W=>W.cell? ⟨B,0,none⟩=some (.slice an s.nodes.length cn)∧W.cell? ⟨D,0,none⟩=some (.string p)∧W.cell? ⟨D,1,none⟩=some (.int .i64 d)∧W.cell? ⟨O,0,none⟩=some (.int .i64 o)∧W.cell? ⟨D,2,none⟩=some (.bool sq)) (first | exact⟨s0,s1,s2,s3,s4⟩ | exact HS1.out _ ((Ext.refl _).drew) | exact HS1.out _ (((Ext.refl _).drew).alloc _) | exact HS1.out _ ((Ext.refl _).alloc _) | exact HS1.out _ HE2.out | exact HS1.out _ (HE2.out.alloc _) | exact HS1.out _ (((HE2.out.setCell (p:=⟨w1.heap.size,0,none⟩) (Nat.le_refl _) _).setCell (p:=⟨w1.heap.size,1,none⟩) (Nat.le_refl _) _).setCell (p:=⟨w1.heap.size,2,none⟩) (Nat.le_refl _) _) | exact HS1.out _ ((((HE2.out.alloc _).setCell (p:=⟨w2.heap.size,0,none⟩) HE2.out.size _).setCell (p:=⟨w2.heap.size,1,none⟩) HE2.out.size _).setCell (p:=⟨w2.heap.size,2,none⟩) HE2.out.size _) | go_keep) (first | (go_at_call 227;refine (HO.out _ (E1.out.trans (by first | exact (Ext.refl _).drew | exact ((Ext.refl _).drew).alloc _ | exact Ext.refl _))).mono ?_;rintro e w2 ⟨v,g,rfl,hg,hO,hb⟩;obtain⟨ag,cg,rfl⟩:=hO.vis;unfold zr;have HE2:Hid (Ext w1 w2):=(by first | exact ((Ext.refl _).drew).trans hb | exact (((Ext.refl _).drew).alloc _).trans hb);have HG2:Hid (w1.heap.size≤g):=(by (try simp at hg);show _≤_;omega);have HO2:Hid (Own w2 (.slice ag rs.length cg) g rs):=hO;(first | (have hq:w1.heap.size < w2.heap.size:=(by have hh:=hb.size;simp at hh;omega);have hg1:w1.heap.size < g:=(by (try simp at hg);omega);have zq:Hid (w2.cell? ⟨w1.heap.size,0,none⟩=some (.int .i64 0)∧w2.cell? ⟨w1.heap.size,1,none⟩=some (.string ByteArray.empty)∧w2.cell? ⟨w1.heap.size,2,none⟩=some (.slice none 0 0)∧w2.frozen? ⟨w1.heap.size,0,none⟩=false∧w2.frozen? ⟨w1.heap.size,1,none⟩=false∧w2.frozen? ⟨w1.heap.size,2,none⟩=false):=(by have hbb:=(Ext.cell hb);exact⟨by simpa using (hbb.1 (World.drew w1).heap.size 0 (by simp)).trans (show _=some (.int .i64 0) by first | (simp;done) | (simp;rfl)),by simpa using (hbb.1 (World.drew w1).heap.size 1 (by simp)).trans (show _=some (.string ByteArray.empty) by first | (simp;done) | (simp;rfl)),by simpa using (hbb.1 (World.drew w1).heap.size 2 (by simp)).trans (show _=some (.slice none 0 0) by first | (simp;done) | (simp;rfl)),by simpa using (hbb.2 (World.drew w1).heap.size 0 (by simp)).trans (show _=false by simp),by simpa using (hbb.2 (World.drew w1).heap.size 1 (by simp)).trans (show _=false by simp),by simpa using (hbb.2 (World.drew w1).heap.size 2 (by simp)).trans (show _=false by simp)⟩);obtain⟨z0,z1,z2,f0,f1,f2⟩:=zq.out) | skip);clear hb hg hO))
  all_goals
    first
    | (have HE3:Hid (Ext w1 (World.setCell (World.setCell (World.setCell w2 ⟨w1.heap.size,0,none⟩ (.int .i64 rc)) ⟨w1.heap.size,1,none⟩ (.string rp)) ⟨w1.heap.size,2,none⟩ (.slice ag rs.length cg))):=(((HE2.out.setCell (p:=⟨w1.heap.size,0,none⟩) (Nat.le_refl _) _).setCell (p:=⟨w1.heap.size,1,none⟩) (Nat.le_refl _) _).setCell (p:=⟨w1.heap.size,2,none⟩) (Nat.le_refl _) _)
       have K3:Hid ((World.setCell (World.setCell (World.setCell w2 ⟨w1.heap.size,0,none⟩ (.int .i64 rc)) ⟨w1.heap.size,1,none⟩ (.string rp)) ⟨w1.heap.size,2,none⟩ (.slice ag rs.length cg)).cell? ⟨w1.heap.size,0,none⟩=some (.int .i64 rc)∧(World.setCell (World.setCell (World.setCell w2 ⟨w1.heap.size,0,none⟩ (.int .i64 rc)) ⟨w1.heap.size,1,none⟩ (.string rp)) ⟨w1.heap.size,2,none⟩ (.slice ag rs.length cg)).cell? ⟨w1.heap.size,1,none⟩=some (.string rp)∧(World.setCell (World.setCell (World.setCell w2 ⟨w1.heap.size,0,none⟩ (.int .i64 rc)) ⟨w1.heap.size,1,none⟩ (.string rp)) ⟨w1.heap.size,2,none⟩ (.slice ag rs.length cg)).cell? ⟨w1.heap.size,2,none⟩=some (.slice ag rs.length cg)):=(by exact⟨by rw [iset_ne _ _ _ _ _ _ (by omega)];rw [iset_ne _ _ _ _ _ _ (by omega)];apply iset_eq;exact⟨_,z0⟩,by rw [iset_ne _ _ _ _ _ _ (by omega)];apply iset_eq;rw [iset_ne _ _ _ _ _ _ (by omega)];exact⟨_,z1⟩,by apply iset_eq;rw [iset_ne _ _ _ _ _ _ (by omega)];rw [iset_ne _ _ _ _ _ _ (by omega)];exact⟨_,z2⟩⟩)
       have HO3:Hid (Own (World.setCell (World.setCell (World.setCell w2 ⟨w1.heap.size,0,none⟩ (.int .i64 rc)) ⟨w1.heap.size,1,none⟩ (.string rp)) ⟨w1.heap.size,2,none⟩ (.slice ag rs.length cg)) (.slice ag rs.length cg) g rs):=HO2.out.updS ((((Upd.refl w1.heap.size w2).setAt 0 _).setAt 1 _).setAt 2 _) (fun _=>by omega)
       generalize (World.setCell (World.setCell (World.setCell w2 ⟨w1.heap.size,0,none⟩ (.int .i64 rc)) ⟨w1.heap.size,1,none⟩ (.string rp)) ⟨w1.heap.size,2,none⟩ (.slice ag rs.length cg))=w3 at HE3 K3 HO3 ⊢
       obtain⟨qb,hqb⟩:∃ qb,qb=w1.heap.size:=⟨_,rfl⟩
       have hq3:w1.heap.size≤qb:=by omega
       rw [← hqb] at K3 ⊢
       clear hqb)
    | (have HE3:Hid (Ext w1 (World.alloc w2 (.cells #[.int .i64 rc,.string rp,.slice ag rs.length cg] 148))):=HE2.out.alloc _
       have K3:Hid ((World.alloc w2 (.cells #[.int .i64 rc,.string rp,.slice ag rs.length cg] 148)).cell? ⟨w2.heap.size,0,none⟩=some (.int .i64 rc)∧(World.alloc w2 (.cells #[.int .i64 rc,.string rp,.slice ag rs.length cg] 148)).cell? ⟨w2.heap.size,1,none⟩=some (.string rp)∧(World.alloc w2 (.cells #[.int .i64 rc,.string rp,.slice ag rs.length cg] 148)).cell? ⟨w2.heap.size,2,none⟩=some (.slice ag rs.length cg)):=(by exact⟨by simp,by simp,by simp⟩)
       have HO3:Hid (Own (World.alloc w2 (.cells #[.int .i64 rc,.string rp,.slice ag rs.length cg] 148)) (.slice ag rs.length cg) g rs):=HO2.out.ext ((Ext.refl w2).alloc (.cells #[.int .i64 rc,.string rp,.slice ag rs.length cg] 148))
       have hq3:w1.heap.size≤w2.heap.size:=HE2.out.size
       generalize (World.alloc w2 (.cells #[.int .i64 rc,.string rp,.slice ag rs.length cg] 148))=w3 at HE3 K3 HO3 ⊢
       generalize w2.heap.size=qb at K3 hq3 ⊢)
  all_goals
    obtain⟨k0,k1,k2⟩:=K3.out
    obtain⟨q0,⟨b0,b1,b2,b3⟩,l0,l1,l2,l3⟩:=HX.out.ext (E1.out.trans HE3.out)
    obtain⟨p0,⟨c0,c1,c2⟩,m0,m1,m2⟩:=R1.out.ext HE3.out
    have hn1:¬ qb=B:=by omega
    have hn2:¬ qb=w.heap.size:=by omega
    have hn3:¬ B=w.heap.size:=by omega
    have hg9:=HG2.out
    go_wp2_with fail
    refine (HCr.out _).mono ?_
    rintro e w5 ⟨rfl,hb5⟩
    have HB5:Hid (Ext (w3.setCell ⟨B,0,none⟩ (.slice ag rs.length cg)) w5):=hb5
    have RY5:Hid (RyAt w5 w.heap.size (.int .i64 0) (.int .i64 0) (.string ByteArray.empty)):=((R1.out.ext HE3.out).other (by omega)).ext hb5
    clear hb5 p0 c0 c1 c2 m0 m1 m2
    obtain⟨p0,⟨c0,c1,c2⟩,m0,m1,m2⟩:=RY5.out
    go_wp2
    have hry:=ry_put (x:=.int .i64 (rc)) (y:=.int .i64 (0)) (z:=.string rp) (show RyAt w5 w.heap.size (.int .i64 0) (.int .i64 0) (.string ByteArray.empty) from RY5.out)
    unfold put3R at hry
    obtain⟨y0,y1,y2⟩:=hry
    exact bodyPost_ret (v:=yagg (rc) (0) rp) (by simp [results,Tryz.results226,go_sem,yagg,y0,y1,y2]) rfl (by exact stepZ_done HX.out HH.out hKB hn (E1.out.trans HE3.out) HO3.out (by omega) HB5.out (fun h=>HQ.out.2 (by rw [HQ.out.1] at h;exact h)) (by rw [HQ.out.1]))
end Go.Proofs.YtpdejinkmnhioaaGreatDoor
namespace Go.Proofs.YtpdejinkmnhioaaGreatDoor
open Go.RowKit
set_option maxHeartbeats 400000 in
set_option maxRecDepth 100000 in
theorem liveStep_3 (n B:Nat) (s:Stt) (c:Int) (p:ByteArray) (d v:Int) (sq ow:Bool) (w:World) (hn:n≤w.heap.size) (hr:Sta.right s) (hgd:Gd w) (hp:Pth.faultI p.data.toList=0) :
    Calls Tryz.prog 134 #[.int .i64 c,.iface 243 (.agg #[.string p,.int .i64 d,.bool sq,.bool ow])] w (Maker (Ses.live s.ses c s.now=true) n B w s (Sta.liveT s c ⟨3,p,d,v,sq,ow⟩)):=by
  have tatoCreate:∀ W:World,(Instr.typeAssert (.iface 243 (.agg #[.string p,.int .i64 d,.bool sq,.bool ow])) 184 243 true).run Tryz.prog W = .ok (.tuple #[.agg #[.string p,.int .i64 d,.bool sq,.bool ow],.bool true]) W:=fun W=>by kernel_rfl
  have HM:Hid (∀ wx,Ext w wx→Calls Tryz.prog 192 #[.int .i64 c,.agg #[.string p,.int .i64 d,.bool sq,.bool ow]] wx (Maker (Ses.live s.ses c s.now=true) n B w s (Sta.liveT s c ⟨3,p,d,v,sq,ow⟩))):=by
    intro w0 hE00
    refine (createStep_mk c p d sq ow w0).mono ?_
    rintro e w1 ⟨D,O,rfl,hD,hO,hb⟩
    have hE0:=hE00.trans hb
    refine⟨226,#[.pointer (some ⟨D,0,none⟩),.pointer (some ⟨O,0,none⟩)],rfl,fun _ _=>by kernel_rfl,fun _=>?_,hE0⟩
    intro wx K he hA hKB
    rw [show (#[Value.pointer (some ⟨B,0,none⟩)] ++ #[.pointer (some ⟨D,0,none⟩),.pointer (some ⟨O,0,none⟩)]:Array Value) = #[.pointer (some ⟨B,0,none⟩),.pointer (some ⟨D,0,none⟩),.pointer (some ⟨O,0,none⟩)] from by simp]
    rw [Sta.liveT_create]
    rcases hT:Tre.createT s.nodes p d (if ow=true then c else 0) sq with ⟨rc,rp,rs⟩
    have hsm:=Sta.createT_small (zs:=s.nodes) (d:=d) (o:=if ow=true then c else 0) (q:=sq) hp
    have hq:=Sta.treeT_q (s:=s) (r:=Tre.createT s.nodes p d (if ow=true then c else 0) sq) Sta.createT_code
    rw [hT] at hsm hq
    exact createStep1_any n B D O s p d _ sq ow rc rp rs _ wx K hA (⟨(Ext.cell he).1 _ _ (World.block_lt_of_cell? _ _ hD.1) |>.trans hD.1,(Ext.cell he).1 _ _ (World.block_lt_of_cell? _ _ hD.2.1) |>.trans hD.2.1,(Ext.cell he).1 _ _ (World.block_lt_of_cell? _ _ hD.2.2.1) |>.trans hD.2.2.1,(Ext.cell he).1 _ _ (World.block_lt_of_cell? _ _ hD.2.2.2) |>.trans hD.2.2.2⟩) ((Ext.cell he).1 _ _ (World.block_lt_of_cell? _ _ hO) |>.trans hO) hKB (by have:=hE0.size;have:=he.size;omega) hr (hgd.ext (hE0.trans he)) ((Sta.createV_T hr.1 hp).trans hT) (by simp only at hsm;omega) hq
  clear hr hgd hp
  generalize Sta.liveT s c ⟨3,p,d,v,sq,ow⟩=q at *
  exact m11z
end Go.Proofs.YtpdejinkmnhioaaGreatDoor
namespace Go.Proofs.YtpdejinkmnhioaaGreatDoor
open Go.RowKit
set_option maxHeartbeats 4000000 in
set_option maxRecDepth 1000000 in
theorem deleteS_any (g off cap k j:Nat) (zs:List Zn) (w:World) (hO:Own w (.slice (some ⟨g,off,none⟩) zs.length cap) g zs) (hk:k < zs.length) (hj:j=k+1) :
    Calls Tryz.prog 259 #[.slice (some ⟨g,off,none⟩) zs.length cap,.int .i64 k,.int .i64 (j:Int)] w fun e w' =>
      e = .returned (.slice (some ⟨g,off,none⟩) (zs.take k ++ zs.drop j).length cap)∧Own w' (.slice (some ⟨g,off,none⟩) (zs.take k ++ zs.drop j).length cap) g (zs.take k ++ zs.drop j)∧Upd g w w':=by
  refine n21z ?_
  intro hi9
  obtain⟨i0,hi,hx⟩:=Option.map_eq_some_iff.1 hi9
  simp only [Prod.mk.injEq] at hx
  obtain⟨-,hz1,-⟩:=hx
  clear hi9
  obtain⟨a6,cap6,he6,hlc,hcm,hx6⟩:=id hO
  injection he6 with e1 e2 e3
  subst e1 e3
  obtain⟨off6,ho6,hR,hN⟩:=hx6 (by omega)
  injection ho6 with ho6
  injection ho6 with _ ho6 _
  subst ho6
  obtain⟨news,hnews⟩:∃ news,news=cellsZ (zs.drop j):=⟨_,rfl⟩
  have hlen:news.length=(zs.length - j) * 5:=by rw [hnews,cellsZ_length,List.length_drop]
  have hRd:Room w.drew g off zs.length:=hR
  have hNd:NodesAt w.drew g off zs:=hN
  obtain⟨A,hA,hsrc⟩:∃ A:Addr,(if cap=j then some (⟨g,off,none⟩:Addr) else some ⟨g,off+j * 5,none⟩)=some A∧Hid (∀ t u,news[t]?=some u→w.drew.cell? (A.add t)=some u):=by
    by_cases h:cap=j
    · refine⟨⟨g,off,none⟩,by simp [h],fun t u hu=>?_⟩
      have h0:news.length=0:=by rw [hlen];omega
      rw [List.length_eq_zero_iff.1 h0] at hu
      simp at hu
    · refine⟨⟨g,off+j * 5,none⟩,by simp [h],?_⟩
      rw [hnews];exact (hNd.drop j).news
  have s1:Hid (news.length=(zs.length - j) * 5):=hlen
  have s2:Hid (∀ u ∈ news,u.oneCell'=true):=by rw [hnews];exact cellsZ_one _
  have s3:Hid (∀ t,t < news.length→(w.drew.cell? ⟨g,off+k * 5+t,none⟩).isSome=true∧w.drew.frozen? ⟨g,off+k * 5+t,none⟩=false):=hRd.some (off+k * 5) news.length (by omega) (by omega)
  obtain⟨W1,hW1⟩:∃ W1,W1=w.drew.setCells g (off+k * 5) news:=⟨_,rfl⟩
  have hR1:Room W1 g off zs.length:=by rw [hW1];exact hRd.setCells _ _ (fun j hj=>(s3.out j hj).1)
  have hcl:∀ ty c,(Builtin.clear_ #[33] ty #[.slice (some ⟨g,off+(k+(zs.length - j)) * 5,none⟩) (zs.length - (k+(zs.length - j))) c]).run Tryz.prog W1 = .ok (.tuple #[]) (W1.setCells g (off+(zs.length - 1) * 5) [.string ByteArray.empty,.int .i64 0,.int .i64 0,.int .i64 0,.int .i64 0]) :=
    fun ty c=>by
      rw [show zs.length - (k+(zs.length - j))=1 from by omega,show k+(zs.length - j)=zs.length - 1 from by omega]
      exact clear_one W1 ty g _ c (hR1.some _ 5 (by omega) (by omega))
  have hend:Hid (∀ w',w'=W1.setCells g (off+(zs.length - 1) * 5) [.string ByteArray.empty,.int .i64 0,.int .i64 0,.int .i64 0,.int .i64 0]→Own w' (.slice (some ⟨g,off,none⟩) (zs.take k ++ zs.drop j).length cap) g (zs.take k ++ zs.drop j)∧Upd g w w'):=by
    rintro w' rfl
    rw [hW1,hnews]
    subst hj
    obtain⟨h1,h2⟩:=own_cutout hRd hNd hk [.string ByteArray.empty,.int .i64 0,.int .i64 0,.int .i64 0,.int .i64 0] rfl
    refine⟨⟨_,cap,rfl,by simp;omega,hcm,fun _=>⟨off,rfl,h1,h2⟩⟩,upd_setCells _ _ _ (upd_setCells _ _ _ ?_)⟩
    exact Upd.ext ((Ext.refl _).drew) (Nat.le_of_lt hR.1)
  have hL:Hid ((zs.take k ++ zs.drop j).length=k+(zs.length - j)):=by show _=_;simp;omega
  have hW:Hid (W1=w.drew.setCells g (off+k * 5) news):=hW1
  unfold maxLen at hcm
  have hkj:k < j:=by omega
  have hkj2:¬ k=j:=by omega
  have hjn:j≤zs.length:=by omega
  have hj1:Hid (j=k+1):=hj
  have hq1:¬ cap=k+(zs.length - j):=by omega
  have hq2:k+(zs.length - j)≤zs.length:=by omega
  have hq3:k+(zs.length - j)≤cap:=by omega
  have hkc:k≤cap:=by omega
  have hjc:j≤cap:=by omega
  generalize hrs:zs.take k ++ zs.drop j=rs at *
  clear hW1 hR1 hR hN hRd hNd hx6 hnews hlen hO hrs hj
  go_enter Tryz.func259,Tryz.ntmps259
  go_wp2_with fail
  go_region_law (refine step_append_room rfl (.tmp 22) (.tmp 25) 33 rfl 144 i0 5 Tryz.underlying33 hi hz1 g off k cap (by simp [Act.eval,Act.put]) A (zs.length - j) (cap - j) news (by simp [Act.eval,Act.put]) s1.out hsrc.out s2.out (by omega) s3.out ?_;rw [← hW.out])
  go_wp2
  go_ret
  exact⟨by rw [hL.out];rfl,hend.out _ rfl⟩
end Go.Proofs.YtpdejinkmnhioaaGreatDoor
namespace Go.Proofs.YtpdejinkmnhioaaGreatDoor
open Go.RowKit
theorem RBox.upd {w w2:World} {r b:Nat} (h:RBox w r) (he:Upd b w w2) (hne:r≠b):RBox w2 r:=by
  exact m29z
set_option maxHeartbeats 2000000 in
set_option maxRecDepth 100000 in
theorem implDeleteZ_any (v:Value) (zs:List Zn) (p:ByteArray) (n:Int) (w:World) (hg:Gd w) (hS:NSlice w v zs) :
    Calls Tryz.prog 229 #[v,.string p,.int .i64 n] w (ZRet w (Tre.delV zs p n).1 (Tre.delV zs p n).2.1 (Tre.delV zs p n).2.2):=by
  refine n33z ?_
  intro HL
  have HS:Hid (NSlice w v zs):=hS
  have HG0:Hid (Gd w):=hg
  obtain⟨a,cap,rfl,hlc,hcm,hx⟩:=hS
  by_cases h0:Tre.asked zs p≠0
  · rw [Tre.delV_bad rfl h0]
    generalize Tre.asked zs p=F at *
    clear hx
    go_enter Tryz.func229,Tryz.ntmps229
    go_wp2_with fail
    refine n48z ?_
    intro w2 HB HQ q q0 q1 q2 f0 f1 f2
    go_wp2
    exact bodyPost_ret (v:=zr F ⟨#[]⟩ (.slice none 0 0)) (by simp [results,Tryz.results229,go_sem,zr,q0,q1,q2]) rfl (zret_bad _ _ (HB.out.box3 _ _ _))
  have h00:Tre.asked zs p=0:=by omega
  rw [h00] at HL
  rw [Tre.delV_ok h00]
  obtain⟨h20,hU,hpos,h24⟩:=Tre.asked_len h00
  have HF:Hid (zs.length≤1048576∧∀ z ∈ zs,Pth.faultI z.path.data.toList=0):=⟨by omega,fun z hz=>(Tre.fault_nums (Tre.asked_fault h00).1 z hz).1⟩
  obtain⟨b,off,rfl,hb,hN⟩:=hx hpos
  clear hx
  cases ht:(p.toList == [47]) with
  | true =>
    rw [Tre.delT_top ht]
    clear hN hU h24 hb
    go_enter Tryz.func229,Tryz.ntmps229
    go_wp2_with fail
    refine (HL.out _ ((Ext.refl _).alloc _)).mono ?_
    rintro e w2 ⟨rfl,hb⟩
    have HB:Hid (Ext w w2):=((Ext.refl _).alloc _).trans hb
    have HQ:Hid (RBox w2 w.heap.size):=(RBox.new w _).ext hb
    clear hb
    obtain⟨q,q0,q1,q2,f0,f1,f2⟩:=HQ.out
    go_wp2
    exact bodyPost_ret (v:=zr 1 ⟨#[]⟩ (.slice none 0 0)) (by simp [results,Tryz.results229,go_sem,zr,q0,q1,q2]) rfl (zret_bad _ _ (HB.out.box3 _ _ _))
  | false =>
  have HPl:Hid (∀ wx:World,Ext w wx→Calls Tryz.prog 246 #[.slice (some ⟨b,off,none⟩) zs.length cap,.string p] wx fun e w'=>e = .returned (.tuple #[.int .i64 (Tre.cut zs p.data.toList:Nat),.bool (Tre.has zs p)])∧Ext wx w'):=fun wx h=>placeOf_any _ zs p wx (HS.out.ext h) hU (by omega)
  cases hh:Tre.has zs p with
  | false =>
    rw [Tre.delT_none ht (Tre.has_not hh)]
    rw [hh] at HPl
    generalize Tre.cut zs p.data.toList=k at *
    clear hN hU h24 hb hh
    go_enter Tryz.func229,Tryz.ntmps229
    go_wp2_with fail
    refine (HL.out _ ((Ext.refl _).alloc _)).mono ?_
    rintro e w2 ⟨rfl,hb⟩
    have HB:Hid (Ext w w2):=((Ext.refl _).alloc _).trans hb
    have HQ:Hid (RBox w2 w.heap.size):=(RBox.new w _).ext hb
    clear hb
    go_wp2_with fail
    refine (HPl.out _ HB.out).mono ?_
    rintro e w3 ⟨rfl,hb⟩
    have HB3:Hid (Ext w w3):=HB.out.trans hb
    have HQ3:Hid (RBox w3 w.heap.size):=HQ.out.ext hb
    clear hb
    obtain⟨q,q0,q1,q2,f0,f1,f2⟩:=HQ3.out
    go_wp2
    exact bodyPost_ret (v:=zr 4 ⟨#[]⟩ (.slice none 0 0)) (by simp [results,Tryz.results229,go_sem,zr,q0,q1,q2]) rfl (zret_bad _ _ (HB3.out.box3 _ _ _))
  | true =>
    obtain⟨z,hat,hz,-⟩:=Tre.has_at hU hh
    rw [Tre.delT_some ht hat hz]
    rw [hh] at HPl
    have hkl:=(List.getElem?_eq_some_iff.1 hz).1
    have HV0:Hid (∀ wx:World,Ext w wx→Calls Tryz.prog 237 #[.pointer (some ⟨b,off+Tre.cut zs p.data.toList * 5,none⟩),.int .i64 n] wx fun e w'=>e = .returned (.bool (decide (n = -1∨n=z.version)))∧Ext wx w'):=fun wx h=>hasVersion_any b _ z.version n wx ((hN.ext hb h _ z hz).2.2.1)
    have HK:Hid (∀ wx:World,Ext w wx→Calls Tryz.prog 258 #[.slice (some ⟨b,off,none⟩) zs.length cap,.string p] wx fun e w'=>∃ v' g,e = .returned v'∧wx.heap.size≤g∧TOwn w' v' g (Tre.kids zs p)∧Ext wx w'):=fun wx h=>kidNames_any _ zs p wx (HG0.out.ext h) (HS.out.ext h) HF.out.1 HF.out.2
    have HC:Hid (∀ wx:World,Ext w wx→Calls Tryz.prog 128 #[.slice (some ⟨b,off,none⟩) zs.length cap] wx fun e w'=>∃ v' g,e = .returned v'∧wx.heap.size≤g∧Own w' v' g zs∧Ext wx w'):=fun wx h=>copyNodes_any _ zs wx (HS.out.ext h) (by omega) hpos (fun z hz=>by have:=h24 z hz;omega)
    generalize Tre.cut zs p.data.toList=k at *
    have HDl:Hid (∀ (wx:World) (g off6 cap6:Nat),Own wx (.slice (some ⟨g,off6,none⟩) zs.length cap6) g zs→Calls Tryz.prog 259 #[.slice (some ⟨g,off6,none⟩) zs.length cap6,.int .i64 k,.int .i64 ((k:Int)+1)] wx fun e w' =>
      e = .returned (.slice (some ⟨g,off6,none⟩) (zs.take k ++ zs.drop (k+1)).length cap6)∧Own w' (.slice (some ⟨g,off6,none⟩) (zs.take k ++ zs.drop (k+1)).length cap6) g (zs.take k ++ zs.drop (k+1))∧Upd g wx w'):=fun wx g off6 cap6 hO=>by
      have:=deleteS_any g off6 cap6 k (k+1) zs wx hO hkl rfl
      rw [show ((k+1:Nat):Int)=(k:Int)+1 from by omega] at this
      exact this
    clear hN hU h24 hh hz hat
    unfold maxLen at hcm
    by_cases hnv:n = -1∨n=z.version
    · rw [if_neg (by omega)]
      have HV:Hid (∀ wx:World,Ext w wx→Calls Tryz.prog 237 #[.pointer (some ⟨b,off+k * 5,none⟩),.int .i64 n] wx fun e w'=>e = .returned (.bool true)∧Ext wx w'):=by
        have h:=HV0.out;rw [show decide (n = -1∨n=z.version)=true from by simpa using hnv] at h;exact h
      clear HV0 hnv
      by_cases hk0:0 < (Tre.kids zs p).length
      · rw [if_pos hk0]
        go_enter Tryz.func229,Tryz.ntmps229
        go_wp2_with fail
        refine (HL.out _ ((Ext.refl _).alloc _)).mono ?_
        rintro e w2 ⟨rfl,hb⟩
        have HB:Hid (Ext w w2):=((Ext.refl _).alloc _).trans hb
        have HQ:Hid (RBox w2 w.heap.size):=(RBox.new w _).ext hb
        clear hb
        go_wp2_with fail
        refine (HPl.out _ HB.out).mono ?_
        rintro e w3 ⟨rfl,hb⟩
        have HB3:Hid (Ext w w3):=HB.out.trans hb
        have HQ3:Hid (RBox w3 w.heap.size):=HQ.out.ext hb
        clear hb
        go_wp2_with fail
        refine (HV.out _ HB3.out).mono ?_
        rintro e w4 ⟨rfl,hb⟩
        have HB4:Hid (Ext w w4):=HB3.out.trans hb
        have HQ4:Hid (RBox w4 w.heap.size):=HQ3.out.ext hb
        clear hb
        go_wp2_with fail
        refine (HK.out _ HB4.out).mono ?_
        rintro e w5 ⟨v5,g5,rfl,hg5,hO5,hb⟩
        obtain⟨a5,cap5,rfl,-⟩:=hO5
        have HB5:Hid (Ext w w5):=HB4.out.trans hb
        have HQ5:Hid (RBox w5 w.heap.size):=HQ4.out.ext hb
        clear hb hg5
        obtain⟨q,q0,q1,q2,f0,f1,f2⟩:=HQ5.out
        go_wp2
        exact bodyPost_ret (v:=zr 8 ⟨#[]⟩ (.slice none 0 0)) (by simp [results,Tryz.results229,go_sem,zr,q0,q1,q2]) rfl (zret_bad _ _ (HB5.out.box3 _ _ _))
      · rw [if_neg hk0]
        have hkz:(Tre.kids zs p).length=0:=by omega
        go_enter Tryz.func229,Tryz.ntmps229
        go_wp2_with fail
        refine (HL.out _ ((Ext.refl _).alloc _)).mono ?_
        rintro e w2 ⟨rfl,hb⟩
        have HB:Hid (Ext w w2):=((Ext.refl _).alloc _).trans hb
        have HQ:Hid (RBox w2 w.heap.size):=(RBox.new w _).ext hb
        clear hb
        go_wp2_with fail
        refine (HPl.out _ HB.out).mono ?_
        rintro e w3 ⟨rfl,hb⟩
        have HB3:Hid (Ext w w3):=HB.out.trans hb
        have HQ3:Hid (RBox w3 w.heap.size):=HQ.out.ext hb
        clear hb
        go_wp2_with fail
        refine (HV.out _ HB3.out).mono ?_
        rintro e w4 ⟨rfl,hb⟩
        have HB4:Hid (Ext w w4):=HB3.out.trans hb
        have HQ4:Hid (RBox w4 w.heap.size):=HQ3.out.ext hb
        clear hb
        go_wp2_with fail
        refine (HK.out _ HB4.out).mono ?_
        rintro e w5 ⟨v5,g5,rfl,hg5,hO5,hb⟩
        obtain⟨a5,cap5,rfl,-⟩:=hO5
        have HB5:Hid (Ext w w5):=HB4.out.trans hb
        have HQ5:Hid (RBox w5 w.heap.size):=HQ4.out.ext hb
        clear hb hg5
        rw [hkz]
        go_wp2_with fail
        refine (HC.out _ HB5.out).mono ?_
        rintro e w6 ⟨v6,g,rfl,hg6,hO,hb⟩
        obtain⟨a6,cap6,rfl,hlc6,hcm6,hx6⟩:=id hO
        obtain⟨off6,rfl,-,-⟩:=hx6 hpos
        have HO:Hid (Own w6 (.slice (some ⟨g,off6,none⟩) zs.length cap6) g zs):=hO
        have HG:Hid (w.heap.size+1≤g):=by have:=HQ5.out.1;show _≤_;omega
        have HQ6:Hid (RBox w6 w.heap.size):=HQ5.out.ext hb
        have HB6:Hid (Ext w w6):=HB5.out.trans hb
        clear hb hO hg6 hx6
        go_wp2_with fail
        refine (HDl.out _ _ _ _ HO.out).mono ?_
        rintro e w7 ⟨rfl,hO7,hU7⟩
        have HO7:Hid (Own w7 (.slice (some ⟨g,off6,none⟩) (zs.take k ++ zs.drop (k+1)).length cap6) g (zs.take k ++ zs.drop (k+1))):=hO7
        have HB7:Hid (Ext w w7):=hU7.to_ext HB6.out (by have:=HG.out;omega)
        obtain⟨q,q0,q1,q2,f0,f1,f2⟩:=HQ6.out.upd hU7 (by have:=HG.out;omega)
        clear hU7 hO7
        go_wp2
        exact bodyPost_ret (v:=zr 0 ⟨#[]⟩ (.slice (some ⟨g,off6,none⟩) (zs.take k ++ zs.drop (k+1)).length cap6)) (by simp [results,Tryz.results229,go_sem,zr,q0,q1,q2]) rfl (zret_own 0 ⟨#[]⟩ HO7.out HG.out HB7.out _ _ _)
    · rw [if_pos (by omega)]
      have HV:Hid (∀ wx:World,Ext w wx→Calls Tryz.prog 237 #[.pointer (some ⟨b,off+k * 5,none⟩),.int .i64 n] wx fun e w'=>e = .returned (.bool false)∧Ext wx w'):=by
        have h:=HV0.out;rw [show decide (n = -1∨n=z.version)=false from by simpa using hnv] at h;exact h
      clear HV0 hnv
      go_enter Tryz.func229,Tryz.ntmps229
      go_wp2_with fail
      refine (HL.out _ ((Ext.refl _).alloc _)).mono ?_
      rintro e w2 ⟨rfl,hb⟩
      have HB:Hid (Ext w w2):=((Ext.refl _).alloc _).trans hb
      have HQ:Hid (RBox w2 w.heap.size):=(RBox.new w _).ext hb
      clear hb
      go_wp2_with fail
      refine (HPl.out _ HB.out).mono ?_
      rintro e w3 ⟨rfl,hb⟩
      have HB3:Hid (Ext w w3):=HB.out.trans hb
      have HQ3:Hid (RBox w3 w.heap.size):=HQ.out.ext hb
      clear hb
      go_wp2_with fail
      refine (HV.out _ HB3.out).mono ?_
      rintro e w4 ⟨rfl,hb⟩
      have HB4:Hid (Ext w w4):=HB3.out.trans hb
      have HQ4:Hid (RBox w4 w.heap.size):=HQ3.out.ext hb
      clear hb
      obtain⟨q,q0,q1,q2,f0,f1,f2⟩:=HQ4.out
      go_wp2
      exact bodyPost_ret (v:=zr 7 ⟨#[]⟩ (.slice none 0 0)) (by simp [results,Tryz.results229,go_sem,zr,q0,q1,q2]) rfl (zret_bad _ _ (HB4.out.box3 _ _ _))
end Go.Proofs.YtpdejinkmnhioaaGreatDoor
namespace Go.Proofs.YtpdejinkmnhioaaGreatDoor
open Go.RowKit
set_option linter.unusedSimpArgs false in
set_option maxHeartbeats 4000000 in
set_option maxRecDepth 100000 in
theorem deleteStep1_any (n B D:Nat) (s:Stt) (p:ByteArray) (nv:Int) (rc:Int) (rp:ByteArray) (rs:List Zn) (q:Ry × Stt) (w:World) (K:Nat→Prop) (hA:StAt n B K w s) (hKD:w.cell? ⟨D,0,none⟩=some (.string p)∧w.cell? ⟨D,1,none⟩=some (.int .i64 nv))  (hKB:K B) (hn:n≤w.heap.size) (hr:Sta.right s) (hgd:Gd w) (hc:Tre.delV s.nodes p nv=(rc,rp,rs)) (hq:q.1=Sta.bad rc∧(rc=0→q.2 = { s with nodes:=rs })) :
    Calls Tryz.prog 228 #[.pointer (some ⟨B,0,none⟩),.pointer (some ⟨D,0,none⟩)] w (Step n B K w (q)):=by
  obtain⟨vn,vs,vm,hX,hH⟩:=hA
  obtain⟨hr1,hr2,hr3⟩:=hr
  have hLD:=World.block_lt_of_cell? w _ hKD.1
  try simp only at hLD
  have HO:Hid (∀ wx,Ext w wx→Calls Tryz.prog 229 #[vn,.string p,.int .i64 nv] wx (ZRet wx rc rp rs)):=fun wx he=>by have h:=implDeleteZ_any vn s.nodes p nv wx (hgd.ext he) (hH.slice.1.ext he);rw [hc] at h;exact h
  have HQ:Hid (q.1=Sta.bad rc∧(rc=0→q.2 = { s with nodes:=rs })):=hq
  clear hc hq hgd
  obtain⟨an,cn,rfl⟩:=hH.slice.1.vis
  refine n22z ?_
  intro HX HH hBl
  have HS:Hid (∀ W,Ext w W→W.cell? ⟨B,0,none⟩=some (.slice an s.nodes.length cn)∧W.cell? ⟨D,0,none⟩=some (.string p)∧W.cell? ⟨D,1,none⟩=some (.int .i64 nv)):=fun W he=>⟨((Ext.cell he).1 _ _ hBl).trans hX.2.1.1,((Ext.cell he).1 _ _ hLD).trans hKD.1,((Ext.cell he).1 _ _ hLD).trans hKD.2⟩
  clear hX hH hr1 hr2 hr3 hKD
  go_enter Tryz.func228,Tryz.ntmps228
  go_wp2
  generalize hw1:World.alloc w _=w1
  refine n5z ?_
  intro E1 R1
  have hs1:w.heap.size < w1.heap.size:=by rw [← hw1];simp
  clear hw1
  have HS1:Hid (∀ W,Ext w1 W→W.cell? ⟨B,0,none⟩=some (.slice an s.nodes.length cn)∧W.cell? ⟨D,0,none⟩=some (.string p)∧W.cell? ⟨D,1,none⟩=some (.int .i64 nv)):=fun W he=>HS.out W (E1.out.trans he)
  obtain⟨s0,s1,s2⟩:=HS1.out w1 (Ext.refl _)
  go_region_held3 (fun W=>W.cell? ⟨B,0,none⟩=some (.slice an s.nodes.length cn)∧W.cell? ⟨D,0,none⟩=some (.string p)∧W.cell? ⟨D,1,none⟩=some (.int .i64 nv)) (first | exact⟨s0,s1,s2⟩ | exact HS1.out _ ((Ext.refl _).drew) | exact HS1.out _ (((Ext.refl _).drew).alloc _) | exact HS1.out _ ((Ext.refl _).alloc _) | exact HS1.out _ HE2.out | exact HS1.out _ (HE2.out.alloc _) | exact HS1.out _ (((HE2.out.setCell (p:=⟨w1.heap.size,0,none⟩) (Nat.le_refl _) _).setCell (p:=⟨w1.heap.size,1,none⟩) (Nat.le_refl _) _).setCell (p:=⟨w1.heap.size,2,none⟩) (Nat.le_refl _) _) | exact HS1.out _ ((((HE2.out.alloc _).setCell (p:=⟨w2.heap.size,0,none⟩) HE2.out.size _).setCell (p:=⟨w2.heap.size,1,none⟩) HE2.out.size _).setCell (p:=⟨w2.heap.size,2,none⟩) HE2.out.size _) | go_keep) (first | (go_at_call 229;refine (HO.out _ (E1.out.trans (by first | exact (Ext.refl _).drew | exact ((Ext.refl _).drew).alloc _ | exact Ext.refl _))).mono ?_;rintro e w2 ⟨v,g,rfl,hg,hO,hb⟩;obtain⟨ag,cg,rfl⟩:=hO.vis;unfold zr;have HE2:Hid (Ext w1 w2):=(by first | exact ((Ext.refl _).drew).trans hb | exact (((Ext.refl _).drew).alloc _).trans hb);have HG2:Hid (w1.heap.size≤g):=(by (try simp at hg);show _≤_;omega);have HO2:Hid (Own w2 (.slice ag rs.length cg) g rs):=hO;(first | (have hq:w1.heap.size < w2.heap.size:=(by have hh:=hb.size;simp at hh;omega);have hg1:w1.heap.size < g:=(by (try simp at hg);omega);have zq:Hid (w2.cell? ⟨w1.heap.size,0,none⟩=some (.int .i64 0)∧w2.cell? ⟨w1.heap.size,1,none⟩=some (.string ByteArray.empty)∧w2.cell? ⟨w1.heap.size,2,none⟩=some (.slice none 0 0)∧w2.frozen? ⟨w1.heap.size,0,none⟩=false∧w2.frozen? ⟨w1.heap.size,1,none⟩=false∧w2.frozen? ⟨w1.heap.size,2,none⟩=false):=(by have hbb:=(Ext.cell hb);exact⟨by simpa using (hbb.1 (World.drew w1).heap.size 0 (by simp)).trans (show _=some (.int .i64 0) by first | (simp;done) | (simp;rfl)),by simpa using (hbb.1 (World.drew w1).heap.size 1 (by simp)).trans (show _=some (.string ByteArray.empty) by first | (simp;done) | (simp;rfl)),by simpa using (hbb.1 (World.drew w1).heap.size 2 (by simp)).trans (show _=some (.slice none 0 0) by first | (simp;done) | (simp;rfl)),by simpa using (hbb.2 (World.drew w1).heap.size 0 (by simp)).trans (show _=false by simp),by simpa using (hbb.2 (World.drew w1).heap.size 1 (by simp)).trans (show _=false by simp),by simpa using (hbb.2 (World.drew w1).heap.size 2 (by simp)).trans (show _=false by simp)⟩);obtain⟨z0,z1,z2,f0,f1,f2⟩:=zq.out) | skip);clear hb hg hO))
  all_goals
    first
    | (have HE3:Hid (Ext w1 (World.setCell (World.setCell (World.setCell w2 ⟨w1.heap.size,0,none⟩ (.int .i64 rc)) ⟨w1.heap.size,1,none⟩ (.string rp)) ⟨w1.heap.size,2,none⟩ (.slice ag rs.length cg))):=(((HE2.out.setCell (p:=⟨w1.heap.size,0,none⟩) (Nat.le_refl _) _).setCell (p:=⟨w1.heap.size,1,none⟩) (Nat.le_refl _) _).setCell (p:=⟨w1.heap.size,2,none⟩) (Nat.le_refl _) _)
       have K3:Hid ((World.setCell (World.setCell (World.setCell w2 ⟨w1.heap.size,0,none⟩ (.int .i64 rc)) ⟨w1.heap.size,1,none⟩ (.string rp)) ⟨w1.heap.size,2,none⟩ (.slice ag rs.length cg)).cell? ⟨w1.heap.size,0,none⟩=some (.int .i64 rc)∧(World.setCell (World.setCell (World.setCell w2 ⟨w1.heap.size,0,none⟩ (.int .i64 rc)) ⟨w1.heap.size,1,none⟩ (.string rp)) ⟨w1.heap.size,2,none⟩ (.slice ag rs.length cg)).cell? ⟨w1.heap.size,1,none⟩=some (.string rp)∧(World.setCell (World.setCell (World.setCell w2 ⟨w1.heap.size,0,none⟩ (.int .i64 rc)) ⟨w1.heap.size,1,none⟩ (.string rp)) ⟨w1.heap.size,2,none⟩ (.slice ag rs.length cg)).cell? ⟨w1.heap.size,2,none⟩=some (.slice ag rs.length cg)):=(by exact⟨by rw [iset_ne _ _ _ _ _ _ (by omega)];rw [iset_ne _ _ _ _ _ _ (by omega)];apply iset_eq;exact⟨_,z0⟩,by rw [iset_ne _ _ _ _ _ _ (by omega)];apply iset_eq;rw [iset_ne _ _ _ _ _ _ (by omega)];exact⟨_,z1⟩,by apply iset_eq;rw [iset_ne _ _ _ _ _ _ (by omega)];rw [iset_ne _ _ _ _ _ _ (by omega)];exact⟨_,z2⟩⟩)
       have HO3:Hid (Own (World.setCell (World.setCell (World.setCell w2 ⟨w1.heap.size,0,none⟩ (.int .i64 rc)) ⟨w1.heap.size,1,none⟩ (.string rp)) ⟨w1.heap.size,2,none⟩ (.slice ag rs.length cg)) (.slice ag rs.length cg) g rs):=HO2.out.updS ((((Upd.refl w1.heap.size w2).setAt 0 _).setAt 1 _).setAt 2 _) (fun _=>by omega)
       generalize (World.setCell (World.setCell (World.setCell w2 ⟨w1.heap.size,0,none⟩ (.int .i64 rc)) ⟨w1.heap.size,1,none⟩ (.string rp)) ⟨w1.heap.size,2,none⟩ (.slice ag rs.length cg))=w3 at HE3 K3 HO3 ⊢
       obtain⟨qb,hqb⟩:∃ qb,qb=w1.heap.size:=⟨_,rfl⟩
       have hq3:w1.heap.size≤qb:=by omega
       rw [← hqb] at K3 ⊢
       clear hqb)
    | (have HE3:Hid (Ext w1 (World.alloc w2 (.cells #[.int .i64 rc,.string rp,.slice ag rs.length cg] 148))):=HE2.out.alloc _
       have K3:Hid ((World.alloc w2 (.cells #[.int .i64 rc,.string rp,.slice ag rs.length cg] 148)).cell? ⟨w2.heap.size,0,none⟩=some (.int .i64 rc)∧(World.alloc w2 (.cells #[.int .i64 rc,.string rp,.slice ag rs.length cg] 148)).cell? ⟨w2.heap.size,1,none⟩=some (.string rp)∧(World.alloc w2 (.cells #[.int .i64 rc,.string rp,.slice ag rs.length cg] 148)).cell? ⟨w2.heap.size,2,none⟩=some (.slice ag rs.length cg)):=(by exact⟨by simp,by simp,by simp⟩)
       have HO3:Hid (Own (World.alloc w2 (.cells #[.int .i64 rc,.string rp,.slice ag rs.length cg] 148)) (.slice ag rs.length cg) g rs):=HO2.out.ext ((Ext.refl w2).alloc (.cells #[.int .i64 rc,.string rp,.slice ag rs.length cg] 148))
       have hq3:w1.heap.size≤w2.heap.size:=HE2.out.size
       generalize (World.alloc w2 (.cells #[.int .i64 rc,.string rp,.slice ag rs.length cg] 148))=w3 at HE3 K3 HO3 ⊢
       generalize w2.heap.size=qb at K3 hq3 ⊢)
  all_goals
    obtain⟨k0,k1,k2⟩:=K3.out
    obtain⟨q0,⟨b0,b1,b2,b3⟩,l0,l1,l2,l3⟩:=HX.out.ext (E1.out.trans HE3.out)
    obtain⟨p0,⟨c0,c1,c2⟩,m0,m1,m2⟩:=R1.out.ext HE3.out
    have hn1:¬ qb=B:=by omega
    have hn2:¬ qb=w.heap.size:=by omega
    have hn3:¬ B=w.heap.size:=by omega
    have hg9:=HG2.out
    go_wp2
    have hry:=ry_put (x:=.int .i64 (rc)) (y:=.int .i64 (0)) (z:=.string ⟨#[]⟩) (show RyAt (w3.setCell ⟨B,0,none⟩ (.slice ag rs.length cg)) w.heap.size (.int .i64 0) (.int .i64 0) (.string ByteArray.empty) from (R1.out.ext HE3.out).other (by omega))
    unfold put3R at hry
    obtain⟨y0,y1,y2⟩:=hry
    exact bodyPost_ret (v:=yagg (rc) (0) ⟨#[]⟩) (by simp [results,Tryz.results228,go_sem,yagg,y0,y1,y2]) rfl (by exact stepZ_done HX.out HH.out hKB hn (E1.out.trans HE3.out) HO3.out (by omega) (Ext.refl _) (fun h=>HQ.out.2 (by rw [HQ.out.1] at h;exact h)) (by rw [HQ.out.1];rfl))
end Go.Proofs.YtpdejinkmnhioaaGreatDoor
