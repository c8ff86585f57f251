/- YA3n, YA5k7, YA3k, YA3l, in one text. -/
import Derived.Test.YtpdejinkmnhioaaGreatDoorAoJ24
import Derived.Test.YtpdejinkmnhioaaGreatDoorAoJ23
import Derived.Test.YtpdejinkmnhioaaGreatDoorAoJ21
import Derived.Test.YtpdejinkmnhioaaGreatDoorAoJ10
import Derived.Test.YtpdejinkmnhioaaGreatDoorAoMk
namespace Go.Proofs.YtpdejinkmnhioaaGreatDoor
open Go.RowKit
set_option linter.unusedSimpArgs false in
set_option maxHeartbeats 4000000 in
set_option maxRecDepth 100000 in
theorem listStep1_any (n B D:Nat) (s:Stt) (p:ByteArray) (rc:Int) (rs:List ByteArray) (q:Ry × Stt) (w:World) (K:Nat→Prop) (hA:StAt n B K w s) (hKD:w.cell? ⟨D,0,none⟩=some (.string p))   (hr:Sta.right s) (hgd:Gd w) (hc:Tre.kidsV s.nodes p=(rc,rs)) (hq:q=(⟨rc,(rs.length:Nat),⟨#[]⟩⟩,s)) :
    Calls Tryz.prog 234 #[.pointer (some ⟨B,0,none⟩),.pointer (some ⟨D,0,none⟩)] w (Step n B K w (q)):=by
  obtain⟨vn,vs,vm,hX,hH⟩:=hA
  obtain⟨hr1,hr2,hr3⟩:=hr
  have hLD:=World.block_lt_of_cell? w _ hKD
  try simp only at hLD
  have HO:Hid (∀ wx,Ext w wx→Calls Tryz.prog 235 #[vn,.string p] wx (XRet wx rc rs)):=fun wx he=>by have h:=implKidsZ_any vn s.nodes p wx (hgd.ext he) (hH.slice.1.ext he);rw [hc] at h;exact h
  have HQ:Hid (q=(⟨rc,(rs.length:Nat),⟨#[]⟩⟩,s)):=hq
  clear hc hq hgd
  obtain⟨an,cn,rfl⟩:=hH.slice.1.vis
  refine n22z ?_
  intro HX HH hBl
  refine n51z ?_
  intro HS
  clear hX hH hr1 hr2 hr3 hKD
  go_enter Tryz.func234,Tryz.ntmps234
  go_wp2
  generalize hw1:World.alloc w _=w1
  refine n5z ?_
  intro E1 R1
  have hs1:w.heap.size < w1.heap.size:=by rw [← hw1];simp
  clear hw1
  refine n25z ?_
  intro HS1 s0 s1
  go_region_held3 (fun W=>W.cell? ⟨B,0,none⟩=some (.slice an s.nodes.length cn)∧W.cell? ⟨D,0,none⟩=some (.string p)) (first | exact⟨s0,s1⟩ | exact HS1.out _ ((Ext.refl _).drew) | exact HS1.out _ (((Ext.refl _).drew).alloc _) | exact HS1.out _ ((Ext.refl _).alloc _) | exact HS1.out _ HE2.out | exact HS1.out _ (HE2.out.alloc _) | exact HS1.out _ ((HE2.out.setCell (p:=⟨w1.heap.size,0,none⟩) (Nat.le_refl _) _).setCell (p:=⟨w1.heap.size,1,none⟩) (Nat.le_refl _) _) | exact HS1.out _ (((HE2.out.alloc _).setCell (p:=⟨w2.heap.size,0,none⟩) HE2.out.size _).setCell (p:=⟨w2.heap.size,1,none⟩) HE2.out.size _) | go_keep) (first | (go_at_call 235;refine (HO.out _ (E1.out.trans (by first | exact (Ext.refl _).drew | exact ((Ext.refl _).drew).alloc _ | exact Ext.refl _))).mono ?_;rintro e w2 ⟨v,g,rfl,hg,hO,hb⟩;obtain⟨ag,cg,rfl⟩:=hO.visT;unfold xr;have HE2:Hid (Ext w1 w2):=(by first | exact ((Ext.refl _).drew).trans hb | exact (((Ext.refl _).drew).alloc _).trans hb);have HG2:Hid (w1.heap.size≤g):=(by (try simp at hg);show _≤_;omega);have HO2:Hid (TOwn w2 (.slice ag rs.length cg) g rs):=hO;(first | (have hq:w1.heap.size < w2.heap.size:=(by have hh:=hb.size;simp at hh;omega);have hg1:w1.heap.size < g:=(by (try simp at hg);omega);have zq:Hid (w2.cell? ⟨w1.heap.size,0,none⟩=some (.int .i64 0)∧w2.cell? ⟨w1.heap.size,1,none⟩=some (.slice none 0 0)∧w2.frozen? ⟨w1.heap.size,0,none⟩=false∧w2.frozen? ⟨w1.heap.size,1,none⟩=false):=(by have hbb:=(Ext.cell hb);exact⟨by simpa using (hbb.1 (World.drew w1).heap.size 0 (by simp)).trans (show _=some (.int .i64 0) by first | (simp;done) | (simp;rfl)),by simpa using (hbb.1 (World.drew w1).heap.size 1 (by simp)).trans (show _=some (.slice none 0 0) by first | (simp;done) | (simp;rfl)),by simpa using (hbb.2 (World.drew w1).heap.size 0 (by simp)).trans (show _=false by simp),by simpa using (hbb.2 (World.drew w1).heap.size 1 (by simp)).trans (show _=false by simp)⟩);obtain⟨z0,z1,f0,f1⟩:=zq.out) | skip);clear hb hg hO))
  all_goals
    first
    | (have HE3:Hid (Ext w1 (World.setCell (World.setCell w2 ⟨w1.heap.size,0,none⟩ (.int .i64 rc)) ⟨w1.heap.size,1,none⟩ (.slice ag rs.length cg))):=((HE2.out.setCell (p:=⟨w1.heap.size,0,none⟩) (Nat.le_refl _) _).setCell (p:=⟨w1.heap.size,1,none⟩) (Nat.le_refl _) _)
       have K3:Hid ((World.setCell (World.setCell w2 ⟨w1.heap.size,0,none⟩ (.int .i64 rc)) ⟨w1.heap.size,1,none⟩ (.slice ag rs.length cg)).cell? ⟨w1.heap.size,0,none⟩=some (.int .i64 rc)∧(World.setCell (World.setCell w2 ⟨w1.heap.size,0,none⟩ (.int .i64 rc)) ⟨w1.heap.size,1,none⟩ (.slice ag rs.length cg)).cell? ⟨w1.heap.size,1,none⟩=some (.slice ag rs.length cg)):=(by exact⟨by rw [iset_ne _ _ _ _ _ _ (by omega)];apply iset_eq;exact⟨_,z0⟩,by apply iset_eq;rw [iset_ne _ _ _ _ _ _ (by omega)];exact⟨_,z1⟩⟩)
       have HO3:Hid (TOwn (World.setCell (World.setCell w2 ⟨w1.heap.size,0,none⟩ (.int .i64 rc)) ⟨w1.heap.size,1,none⟩ (.slice ag rs.length cg)) (.slice ag rs.length cg) g rs):=HO2.out.upd' (((Upd.refl w1.heap.size w2).setAt 0 _).setAt 1 _) (fun _=>by omega)
       generalize (World.setCell (World.setCell w2 ⟨w1.heap.size,0,none⟩ (.int .i64 rc)) ⟨w1.heap.size,1,none⟩ (.slice ag rs.length cg))=w3 at HE3 K3 HO3 ⊢
       obtain⟨qb,hqb⟩:∃ qb,qb=w1.heap.size:=⟨_,rfl⟩
       have hq3:w1.heap.size≤qb:=by omega
       rw [← hqb] at K3 ⊢
       clear hqb)
    | (have HE3:Hid (Ext w1 (World.alloc w2 (.cells #[.int .i64 rc,.slice ag rs.length cg] 288))):=HE2.out.alloc _
       have K3:Hid ((World.alloc w2 (.cells #[.int .i64 rc,.slice ag rs.length cg] 288)).cell? ⟨w2.heap.size,0,none⟩=some (.int .i64 rc)∧(World.alloc w2 (.cells #[.int .i64 rc,.slice ag rs.length cg] 288)).cell? ⟨w2.heap.size,1,none⟩=some (.slice ag rs.length cg)):=(by exact⟨by simp,by simp⟩)
       have HO3:Hid (TOwn (World.alloc w2 (.cells #[.int .i64 rc,.slice ag rs.length cg] 288)) (.slice ag rs.length cg) g rs):=HO2.out.ext ((Ext.refl w2).alloc (.cells #[.int .i64 rc,.slice ag rs.length cg] 288))
       have hq3:w1.heap.size≤w2.heap.size:=HE2.out.size
       generalize (World.alloc w2 (.cells #[.int .i64 rc,.slice ag rs.length cg] 288))=w3 at HE3 K3 HO3 ⊢
       generalize w2.heap.size=qb at K3 hq3 ⊢)
  all_goals
    obtain⟨k0,k1⟩:=K3.out
    obtain⟨q0,⟨b0,b1,b2,b3⟩,l0,l1,l2,l3⟩:=HX.out.ext (E1.out.trans HE3.out)
    obtain⟨p0,⟨c0,c1,c2⟩,m0,m1,m2⟩:=R1.out.ext HE3.out
    have hn1:¬ qb=B:=by omega
    have hn2:¬ qb=w.heap.size:=by omega
    have hn3:¬ B=w.heap.size:=by omega
    have hg9:=HG2.out
    go_wp2
    have hry:=ry_put (x:=.int .i64 (rc)) (y:=.int .i64 ((rs.length:Nat))) (z:=.string ⟨#[]⟩) (show RyAt w3 w.heap.size (.int .i64 0) (.int .i64 0) (.string ByteArray.empty) from R1.out.ext HE3.out)
    unfold put3R at hry
    obtain⟨y0,y1,y2⟩:=hry
    exact bodyPost_ret (v:=yagg (rc) ((rs.length:Nat)) ⟨#[]⟩) (by simp [results,Tryz.results234,go_sem,yagg,y0,y1,y2]) rfl (by exact stepR_done HX.out HH.out (E1.out.trans HE3.out) (by rw [HQ.out]) (by rw [HQ.out]))
end Go.Proofs.YtpdejinkmnhioaaGreatDoor
namespace Go.Proofs.YtpdejinkmnhioaaGreatDoor
open Go.RowKit
set_option maxHeartbeats 400000 in
set_option maxRecDepth 100000 in
theorem liveStep_7 (n B:Nat) (s:Stt) (c:Int) (p:ByteArray) (d v:Int) (sq ow:Bool) (w:World)  (hr:Sta.right s) (hgd:Gd w) (hp:Pth.faultI p.data.toList=0) :
    Calls Tryz.prog 134 #[.int .i64 c,.iface 254 (.agg #[.string p])] w (Maker (Ses.live s.ses c s.now=true) n B w s (Sta.liveT s c ⟨7,p,d,v,sq,ow⟩)):=by
  have tatoCreate:∀ W:World,(Instr.typeAssert (.iface 254 (.agg #[.string p])) 184 243 true).run Tryz.prog W = .ok (.tuple #[.agg #[.string ByteArray.empty,.int .i64 0,.bool false,.bool false],.bool false]) W:=fun W=>by kernel_rfl
  have tatoDelete:∀ W:World,(Instr.typeAssert (.iface 254 (.agg #[.string p])) 184 246 true).run Tryz.prog W = .ok (.tuple #[.agg #[.string ByteArray.empty,.int .i64 0],.bool false]) W:=fun W=>by kernel_rfl
  have tatoSet:∀ W:World,(Instr.typeAssert (.iface 254 (.agg #[.string p])) 184 249 true).run Tryz.prog W = .ok (.tuple #[.agg #[.string ByteArray.empty,.int .i64 0,.int .i64 0],.bool false]) W:=fun W=>by kernel_rfl
  have tatoGet:∀ W:World,(Instr.typeAssert (.iface 254 (.agg #[.string p])) 184 252 true).run Tryz.prog W = .ok (.tuple #[.agg #[.string ByteArray.empty],.bool false]) W:=fun W=>by kernel_rfl
  have tatoList:∀ W:World,(Instr.typeAssert (.iface 254 (.agg #[.string p])) 184 254 true).run Tryz.prog W = .ok (.tuple #[.agg #[.string p],.bool true]) W:=fun W=>by kernel_rfl
  have HM:Hid (∀ wx,Ext w wx→Calls Tryz.prog 196 #[.agg #[.string p]] wx (Maker (Ses.live s.ses c s.now=true) n B w s (Sta.liveT s c ⟨7,p,d,v,sq,ow⟩))):=by
    intro w0 hE00
    refine (listStep_mk p w0).mono ?_
    rintro e w1 ⟨D,rfl,hD,hb⟩
    have hE0:=hE00.trans hb
    refine⟨234,#[.pointer (some ⟨D,0,none⟩)],rfl,fun _ _=>by kernel_rfl,fun _=>?_,hE0⟩
    intro wx K he hA _
    rw [show (#[Value.pointer (some ⟨B,0,none⟩)] ++ #[.pointer (some ⟨D,0,none⟩)]:Array Value) = #[.pointer (some ⟨B,0,none⟩),.pointer (some ⟨D,0,none⟩)] from by simp]
    rw [Sta.liveT_read (by simp)]
    rcases Tre.atI_range s.nodes p with ⟨ha,-⟩ | ⟨k,z,ha,hk,hz,-⟩
    · rw [Sta.readT_none (by show Tre.atI s.nodes p < 0;omega)]
      exact listStep1_any n B D s p 4 [] _ wx K hA ((Ext.cell he).1 _ _ (World.block_lt_of_cell? _ _ hD) |>.trans hD) hr (hgd.ext (hE0.trans he)) (Tre.kidsV_none (Sta.asked_zero hr.1 hp) (by omega)) rfl
    · rw [Sta.readT_some (o:=⟨7,p,d,v,sq,ow⟩) ha hz]
      rw [if_neg (by simp),if_pos rfl]
      exact listStep1_any n B D s p 0 _ _ wx K hA ((Ext.cell he).1 _ _ (World.block_lt_of_cell? _ _ hD) |>.trans hD) hr (hgd.ext (hE0.trans he)) (Tre.kidsV_ok (Sta.asked_zero hr.1 hp) (by omega)) rfl
  clear hr hgd hp
  generalize Sta.liveT s c ⟨7,p,d,v,sq,ow⟩=q at *
  exact m11z
end Go.Proofs.YtpdejinkmnhioaaGreatDoor
namespace Go.Proofs.YtpdejinkmnhioaaGreatDoor
open Go.RowKit
set_option linter.unusedSimpArgs false in
set_option maxHeartbeats 4000000 in
set_option maxRecDepth 100000 in
theorem checkStep1_bad (n B D:Nat) (s:Stt) (p:ByteArray) (nv:Int) (rc:Int) (rp:ByteArray) (rs:List Zn) (q:Ry × Stt) (w:World) (K:Nat→Prop) (hA:StAt n B K w s) (hKD:w.cell? ⟨D,0,none⟩=some (.string p)∧w.cell? ⟨D,1,none⟩=some (.int .i64 nv))   (hr:Sta.right s) (hgd:Gd w) (hc:Tre.getT s.nodes p=(rc,rp,rs)) (hq:q=(Sta.bad rc,s)∧rc≠0) :
    Calls Tryz.prog 236 #[.pointer (some ⟨B,0,none⟩),.pointer (some ⟨D,0,none⟩)] w (Step n B K w (q)):=by
  obtain⟨vn,vs,vm,hX,hH⟩:=hA
  obtain⟨hr1,hr2,hr3⟩:=hr
  have hLD:=World.block_lt_of_cell? w _ hKD.1
  try simp only at hLD
  refine n68z ?_
  intro HO HQ
  clear hc hq hgd
  obtain⟨an,cn,rfl⟩:=hH.slice.1.vis
  refine n22z ?_
  intro HX HH hBl
  refine n50z ?_
  intro HS
  clear hX hH hr1 hr2 hr3 hKD
  go_enter Tryz.func236,Tryz.ntmps236
  go_wp2
  generalize hw1:World.alloc w _=w1
  refine n5z ?_
  intro E1 R1
  have hs1:w.heap.size < w1.heap.size:=by rw [← hw1];simp
  clear hw1
  refine n25z ?_
  intro HS1 s0 s1
  go_region_held3 (fun W=>W.cell? ⟨B,0,none⟩=some (.slice an s.nodes.length cn)∧W.cell? ⟨D,0,none⟩=some (.string p)) (first | exact⟨s0,s1⟩ | exact HS1.out _ ((Ext.refl _).drew) | exact HS1.out _ (((Ext.refl _).drew).alloc _) | exact HS1.out _ ((Ext.refl _).alloc _) | exact HS1.out _ HE2.out | exact HS1.out _ (HE2.out.alloc _) | exact HS1.out _ (((HE2.out.setCell (p:=⟨w1.heap.size,0,none⟩) (Nat.le_refl _) _).setCell (p:=⟨w1.heap.size,1,none⟩) (Nat.le_refl _) _).setCell (p:=⟨w1.heap.size,2,none⟩) (Nat.le_refl _) _) | exact HS1.out _ ((((HE2.out.alloc _).setCell (p:=⟨w2.heap.size,0,none⟩) HE2.out.size _).setCell (p:=⟨w2.heap.size,1,none⟩) HE2.out.size _).setCell (p:=⟨w2.heap.size,2,none⟩) HE2.out.size _) | go_keep) (first | (go_at_call 233;refine (HO.out _ (E1.out.trans (by first | exact (Ext.refl _).drew | exact ((Ext.refl _).drew).alloc _ | exact Ext.refl _))).mono ?_;rintro e w2 ⟨v,g,rfl,hg,hO,hb⟩;obtain⟨ag,cg,rfl⟩:=hO.vis;unfold zr;have HE2:Hid (Ext w1 w2):=(by first | exact ((Ext.refl _).drew).trans hb | exact (((Ext.refl _).drew).alloc _).trans hb);have HG2:Hid (w1.heap.size≤g):=(by (try simp at hg);show _≤_;omega);have HO2:Hid (Own w2 (.slice ag rs.length cg) g rs):=hO;(first | (have hq:w1.heap.size < w2.heap.size:=(by have hh:=hb.size;simp at hh;omega);have hg1:w1.heap.size < g:=(by (try simp at hg);omega);have zq:Hid (w2.cell? ⟨w1.heap.size,0,none⟩=some (.int .i64 0)∧w2.cell? ⟨w1.heap.size,1,none⟩=some (.string ByteArray.empty)∧w2.cell? ⟨w1.heap.size,2,none⟩=some (.slice none 0 0)∧w2.frozen? ⟨w1.heap.size,0,none⟩=false∧w2.frozen? ⟨w1.heap.size,1,none⟩=false∧w2.frozen? ⟨w1.heap.size,2,none⟩=false):=(by have hbb:=(Ext.cell hb);exact⟨by simpa using (hbb.1 (World.drew w1).heap.size 0 (by simp)).trans (show _=some (.int .i64 0) by first | (simp;done) | (simp;rfl)),by simpa using (hbb.1 (World.drew w1).heap.size 1 (by simp)).trans (show _=some (.string ByteArray.empty) by first | (simp;done) | (simp;rfl)),by simpa using (hbb.1 (World.drew w1).heap.size 2 (by simp)).trans (show _=some (.slice none 0 0) by first | (simp;done) | (simp;rfl)),by simpa using (hbb.2 (World.drew w1).heap.size 0 (by simp)).trans (show _=false by simp),by simpa using (hbb.2 (World.drew w1).heap.size 1 (by simp)).trans (show _=false by simp),by simpa using (hbb.2 (World.drew w1).heap.size 2 (by simp)).trans (show _=false by simp)⟩);obtain⟨z0,z1,z2,f0,f1,f2⟩:=zq.out) | skip);clear hb hg hO))
  all_goals
    first
    | (have HE3:Hid (Ext w1 (World.setCell (World.setCell (World.setCell w2 ⟨w1.heap.size,0,none⟩ (.int .i64 rc)) ⟨w1.heap.size,1,none⟩ (.string rp)) ⟨w1.heap.size,2,none⟩ (.slice ag rs.length cg))):=(((HE2.out.setCell (p:=⟨w1.heap.size,0,none⟩) (Nat.le_refl _) _).setCell (p:=⟨w1.heap.size,1,none⟩) (Nat.le_refl _) _).setCell (p:=⟨w1.heap.size,2,none⟩) (Nat.le_refl _) _)
       have K3:Hid ((World.setCell (World.setCell (World.setCell w2 ⟨w1.heap.size,0,none⟩ (.int .i64 rc)) ⟨w1.heap.size,1,none⟩ (.string rp)) ⟨w1.heap.size,2,none⟩ (.slice ag rs.length cg)).cell? ⟨w1.heap.size,0,none⟩=some (.int .i64 rc)∧(World.setCell (World.setCell (World.setCell w2 ⟨w1.heap.size,0,none⟩ (.int .i64 rc)) ⟨w1.heap.size,1,none⟩ (.string rp)) ⟨w1.heap.size,2,none⟩ (.slice ag rs.length cg)).cell? ⟨w1.heap.size,1,none⟩=some (.string rp)∧(World.setCell (World.setCell (World.setCell w2 ⟨w1.heap.size,0,none⟩ (.int .i64 rc)) ⟨w1.heap.size,1,none⟩ (.string rp)) ⟨w1.heap.size,2,none⟩ (.slice ag rs.length cg)).cell? ⟨w1.heap.size,2,none⟩=some (.slice ag rs.length cg)):=(by exact⟨by rw [iset_ne _ _ _ _ _ _ (by omega)];rw [iset_ne _ _ _ _ _ _ (by omega)];apply iset_eq;exact⟨_,z0⟩,by rw [iset_ne _ _ _ _ _ _ (by omega)];apply iset_eq;rw [iset_ne _ _ _ _ _ _ (by omega)];exact⟨_,z1⟩,by apply iset_eq;rw [iset_ne _ _ _ _ _ _ (by omega)];rw [iset_ne _ _ _ _ _ _ (by omega)];exact⟨_,z2⟩⟩)
       have HO3:Hid (Own (World.setCell (World.setCell (World.setCell w2 ⟨w1.heap.size,0,none⟩ (.int .i64 rc)) ⟨w1.heap.size,1,none⟩ (.string rp)) ⟨w1.heap.size,2,none⟩ (.slice ag rs.length cg)) (.slice ag rs.length cg) g rs):=HO2.out.updS ((((Upd.refl w1.heap.size w2).setAt 0 _).setAt 1 _).setAt 2 _) (fun _=>by omega)
       generalize (World.setCell (World.setCell (World.setCell w2 ⟨w1.heap.size,0,none⟩ (.int .i64 rc)) ⟨w1.heap.size,1,none⟩ (.string rp)) ⟨w1.heap.size,2,none⟩ (.slice ag rs.length cg))=w3 at HE3 K3 HO3 ⊢
       obtain⟨qb,hqb⟩:∃ qb,qb=w1.heap.size:=⟨_,rfl⟩
       have hq3:w1.heap.size≤qb:=by omega
       rw [← hqb] at K3 ⊢
       clear hqb)
    | (have HE3:Hid (Ext w1 (World.alloc w2 (.cells #[.int .i64 rc,.string rp,.slice ag rs.length cg] 148))):=HE2.out.alloc _
       have K3:Hid ((World.alloc w2 (.cells #[.int .i64 rc,.string rp,.slice ag rs.length cg] 148)).cell? ⟨w2.heap.size,0,none⟩=some (.int .i64 rc)∧(World.alloc w2 (.cells #[.int .i64 rc,.string rp,.slice ag rs.length cg] 148)).cell? ⟨w2.heap.size,1,none⟩=some (.string rp)∧(World.alloc w2 (.cells #[.int .i64 rc,.string rp,.slice ag rs.length cg] 148)).cell? ⟨w2.heap.size,2,none⟩=some (.slice ag rs.length cg)):=(by exact⟨by simp,by simp,by simp⟩)
       have HO3:Hid (Own (World.alloc w2 (.cells #[.int .i64 rc,.string rp,.slice ag rs.length cg] 148)) (.slice ag rs.length cg) g rs):=HO2.out.ext ((Ext.refl w2).alloc (.cells #[.int .i64 rc,.string rp,.slice ag rs.length cg] 148))
       have hq3:w1.heap.size≤w2.heap.size:=HE2.out.size
       generalize (World.alloc w2 (.cells #[.int .i64 rc,.string rp,.slice ag rs.length cg] 148))=w3 at HE3 K3 HO3 ⊢
       generalize w2.heap.size=qb at K3 hq3 ⊢)
  all_goals
    obtain⟨k0,k1,k2⟩:=K3.out
    obtain⟨q0,⟨b0,b1,b2,b3⟩,l0,l1,l2,l3⟩:=HX.out.ext (E1.out.trans HE3.out)
    obtain⟨p0,⟨c0,c1,c2⟩,m0,m1,m2⟩:=R1.out.ext HE3.out
    have hn1:¬ qb=B:=by omega
    have hn2:¬ qb=w.heap.size:=by omega
    have hn3:¬ B=w.heap.size:=by omega
    have hg9:=HG2.out
    have hrc:=HQ.out.2
    go_wp2
    have hry:=ry_put (x:=.int .i64 (rc)) (y:=.int .i64 (0)) (z:=.string ⟨#[]⟩) (show RyAt w3 w.heap.size (.int .i64 0) (.int .i64 0) (.string ByteArray.empty) from R1.out.ext HE3.out)
    unfold put3R at hry
    obtain⟨y0,y1,y2⟩:=hry
    exact bodyPost_ret (v:=yagg (rc) (0) ⟨#[]⟩) (by simp [results,Tryz.results236,go_sem,yagg,y0,y1,y2]) rfl (by exact stepR_done HX.out HH.out (E1.out.trans HE3.out) (by rw [HQ.out.1]) (by rw [HQ.out.1];rfl))
end Go.Proofs.YtpdejinkmnhioaaGreatDoor
namespace Go.Proofs.YtpdejinkmnhioaaGreatDoor
open Go.RowKit
set_option linter.unusedSimpArgs false in
set_option maxHeartbeats 4000000 in
set_option maxRecDepth 100000 in
theorem checkStep1_ver (n B D:Nat) (s:Stt) (p:ByteArray) (nv:Int) (z:Zn) (rp:ByteArray) (q:Ry × Stt) (w:World) (K:Nat→Prop) (hA:StAt n B K w s) (hKD:w.cell? ⟨D,0,none⟩=some (.string p)∧w.cell? ⟨D,1,none⟩=some (.int .i64 nv))   (hr:Sta.right s) (hgd:Gd w) (hc:Tre.getT s.nodes p=(0,rp,[z])) (hv:decide (nv = -1∨nv=z.version)=false) (hq:q=(⟨7,0,⟨#[]⟩⟩,s)) :
    Calls Tryz.prog 236 #[.pointer (some ⟨B,0,none⟩),.pointer (some ⟨D,0,none⟩)] w (Step n B K w (q)):=by
  obtain⟨vn,vs,vm,hX,hH⟩:=hA
  obtain⟨hr1,hr2,hr3⟩:=hr
  have hLD:=World.block_lt_of_cell? w _ hKD.1
  try simp only at hLD
  refine n57z ?_
  intro HO
  have HQ:Hid (q=(⟨7,0,⟨#[]⟩⟩,s)):=hq
  have HV:Hid (∀ (b o:Nat) (wx:World),wx.cell? ⟨b,o+2,none⟩=some (.int .i64 z.version)→Calls Tryz.prog 237 #[.pointer (some ⟨b,o,none⟩),.int .i64 nv] wx fun e w'=>e = .returned (.bool false)∧Ext wx w'):=fun b o wx h=>by have h:=hasVersion_any b o z.version nv wx h;rw [hv] at h;exact h
  clear hv
  clear hc hq hgd
  obtain⟨an,cn,rfl⟩:=hH.slice.1.vis
  refine n22z ?_
  intro HX HH hBl
  refine n50z ?_
  intro HS
  have T2:Hid (∀ W,Ext w W→W.cell? ⟨D,1,none⟩=some (.int .i64 nv)):=fun W he=>((Ext.cell he).1 _ _ hLD).trans hKD.2
  clear hX hH hr1 hr2 hr3 hKD
  go_enter Tryz.func236,Tryz.ntmps236
  go_wp2
  generalize hw1:World.alloc w _=w1
  refine n5z ?_
  intro E1 R1
  have hs1:w.heap.size < w1.heap.size:=by rw [← hw1];simp
  clear hw1
  refine n25z ?_
  intro HS1 s0 s1
  go_region_held3 (fun W=>W.cell? ⟨B,0,none⟩=some (.slice an s.nodes.length cn)∧W.cell? ⟨D,0,none⟩=some (.string p)) (first | exact⟨s0,s1⟩ | exact HS1.out _ ((Ext.refl _).drew) | exact HS1.out _ (((Ext.refl _).drew).alloc _) | exact HS1.out _ ((Ext.refl _).alloc _) | exact HS1.out _ HE2.out | exact HS1.out _ (HE2.out.alloc _) | exact HS1.out _ (((HE2.out.setCell (p:=⟨w1.heap.size,0,none⟩) (Nat.le_refl _) _).setCell (p:=⟨w1.heap.size,1,none⟩) (Nat.le_refl _) _).setCell (p:=⟨w1.heap.size,2,none⟩) (Nat.le_refl _) _) | exact HS1.out _ ((((HE2.out.alloc _).setCell (p:=⟨w2.heap.size,0,none⟩) HE2.out.size _).setCell (p:=⟨w2.heap.size,1,none⟩) HE2.out.size _).setCell (p:=⟨w2.heap.size,2,none⟩) HE2.out.size _) | go_keep) (first | (go_at_call 233;refine (HO.out _ (E1.out.trans (by first | exact (Ext.refl _).drew | exact ((Ext.refl _).drew).alloc _ | exact Ext.refl _))).mono ?_;rintro e w2 ⟨v,g,rfl,hg,hO,hb⟩;obtain⟨off,cg,rfl⟩:=hO.visN Nat.one_pos;unfold zr;have HE2:Hid (Ext w1 w2):=(by first | exact ((Ext.refl _).drew).trans hb | exact (((Ext.refl _).drew).alloc _).trans hb);have HG2:Hid (w1.heap.size≤g):=(by (try simp at hg);show _≤_;omega);have HO2:Hid (Own w2 (.slice (some ⟨g,off,none⟩) 1 cg) g [z]):=hO;(first | (have hq:w1.heap.size < w2.heap.size:=(by have hh:=hb.size;simp at hh;omega);have hg1:w1.heap.size < g:=(by (try simp at hg);omega);have zq:Hid (w2.cell? ⟨w1.heap.size,0,none⟩=some (.int .i64 0)∧w2.cell? ⟨w1.heap.size,1,none⟩=some (.string ByteArray.empty)∧w2.cell? ⟨w1.heap.size,2,none⟩=some (.slice none 0 0)∧w2.frozen? ⟨w1.heap.size,0,none⟩=false∧w2.frozen? ⟨w1.heap.size,1,none⟩=false∧w2.frozen? ⟨w1.heap.size,2,none⟩=false):=(by have hbb:=(Ext.cell hb);exact⟨by simpa using (hbb.1 (World.drew w1).heap.size 0 (by simp)).trans (show _=some (.int .i64 0) by first | (simp;done) | (simp;rfl)),by simpa using (hbb.1 (World.drew w1).heap.size 1 (by simp)).trans (show _=some (.string ByteArray.empty) by first | (simp;done) | (simp;rfl)),by simpa using (hbb.1 (World.drew w1).heap.size 2 (by simp)).trans (show _=some (.slice none 0 0) by first | (simp;done) | (simp;rfl)),by simpa using (hbb.2 (World.drew w1).heap.size 0 (by simp)).trans (show _=false by simp),by simpa using (hbb.2 (World.drew w1).heap.size 1 (by simp)).trans (show _=false by simp),by simpa using (hbb.2 (World.drew w1).heap.size 2 (by simp)).trans (show _=false by simp)⟩);obtain⟨z0,z1,z2,f0,f1,f2⟩:=zq.out) | skip);clear hb hg hO))
  all_goals
    first
    | (have HE3:Hid (Ext w1 (World.setCell (World.setCell (World.setCell w2 ⟨w1.heap.size,0,none⟩ (.int .i64 0)) ⟨w1.heap.size,1,none⟩ (.string rp)) ⟨w1.heap.size,2,none⟩ (.slice (some ⟨g,off,none⟩) 1 cg))):=(((HE2.out.setCell (p:=⟨w1.heap.size,0,none⟩) (Nat.le_refl _) _).setCell (p:=⟨w1.heap.size,1,none⟩) (Nat.le_refl _) _).setCell (p:=⟨w1.heap.size,2,none⟩) (Nat.le_refl _) _)
       have K3:Hid ((World.setCell (World.setCell (World.setCell w2 ⟨w1.heap.size,0,none⟩ (.int .i64 0)) ⟨w1.heap.size,1,none⟩ (.string rp)) ⟨w1.heap.size,2,none⟩ (.slice (some ⟨g,off,none⟩) 1 cg)).cell? ⟨w1.heap.size,0,none⟩=some (.int .i64 0)∧(World.setCell (World.setCell (World.setCell w2 ⟨w1.heap.size,0,none⟩ (.int .i64 0)) ⟨w1.heap.size,1,none⟩ (.string rp)) ⟨w1.heap.size,2,none⟩ (.slice (some ⟨g,off,none⟩) 1 cg)).cell? ⟨w1.heap.size,1,none⟩=some (.string rp)∧(World.setCell (World.setCell (World.setCell w2 ⟨w1.heap.size,0,none⟩ (.int .i64 0)) ⟨w1.heap.size,1,none⟩ (.string rp)) ⟨w1.heap.size,2,none⟩ (.slice (some ⟨g,off,none⟩) 1 cg)).cell? ⟨w1.heap.size,2,none⟩=some (.slice (some ⟨g,off,none⟩) 1 cg)):=(by exact⟨by rw [iset_ne _ _ _ _ _ _ (by omega)];rw [iset_ne _ _ _ _ _ _ (by omega)];apply iset_eq;exact⟨_,z0⟩,by rw [iset_ne _ _ _ _ _ _ (by omega)];apply iset_eq;rw [iset_ne _ _ _ _ _ _ (by omega)];exact⟨_,z1⟩,by apply iset_eq;rw [iset_ne _ _ _ _ _ _ (by omega)];rw [iset_ne _ _ _ _ _ _ (by omega)];exact⟨_,z2⟩⟩)
       have HO3:Hid (Own (World.setCell (World.setCell (World.setCell w2 ⟨w1.heap.size,0,none⟩ (.int .i64 0)) ⟨w1.heap.size,1,none⟩ (.string rp)) ⟨w1.heap.size,2,none⟩ (.slice (some ⟨g,off,none⟩) 1 cg)) (.slice (some ⟨g,off,none⟩) 1 cg) g [z]):=HO2.out.updS ((((Upd.refl w1.heap.size w2).setAt 0 _).setAt 1 _).setAt 2 _) (fun _=>by omega)
       generalize (World.setCell (World.setCell (World.setCell w2 ⟨w1.heap.size,0,none⟩ (.int .i64 0)) ⟨w1.heap.size,1,none⟩ (.string rp)) ⟨w1.heap.size,2,none⟩ (.slice (some ⟨g,off,none⟩) 1 cg))=w3 at HE3 K3 HO3 ⊢
       obtain⟨qb,hqb⟩:∃ qb,qb=w1.heap.size:=⟨_,rfl⟩
       have hq3:w1.heap.size≤qb:=by omega
       rw [← hqb] at K3 ⊢
       clear hqb)
    | (have HE3:Hid (Ext w1 (World.alloc w2 (.cells #[.int .i64 0,.string rp,.slice (some ⟨g,off,none⟩) 1 cg] 148))):=HE2.out.alloc _
       have K3:Hid ((World.alloc w2 (.cells #[.int .i64 0,.string rp,.slice (some ⟨g,off,none⟩) 1 cg] 148)).cell? ⟨w2.heap.size,0,none⟩=some (.int .i64 0)∧(World.alloc w2 (.cells #[.int .i64 0,.string rp,.slice (some ⟨g,off,none⟩) 1 cg] 148)).cell? ⟨w2.heap.size,1,none⟩=some (.string rp)∧(World.alloc w2 (.cells #[.int .i64 0,.string rp,.slice (some ⟨g,off,none⟩) 1 cg] 148)).cell? ⟨w2.heap.size,2,none⟩=some (.slice (some ⟨g,off,none⟩) 1 cg)):=(by exact⟨by simp,by simp,by simp⟩)
       have HO3:Hid (Own (World.alloc w2 (.cells #[.int .i64 0,.string rp,.slice (some ⟨g,off,none⟩) 1 cg] 148)) (.slice (some ⟨g,off,none⟩) 1 cg) g [z]):=HO2.out.ext ((Ext.refl w2).alloc (.cells #[.int .i64 0,.string rp,.slice (some ⟨g,off,none⟩) 1 cg] 148))
       have hq3:w1.heap.size≤w2.heap.size:=HE2.out.size
       generalize (World.alloc w2 (.cells #[.int .i64 0,.string rp,.slice (some ⟨g,off,none⟩) 1 cg] 148))=w3 at HE3 K3 HO3 ⊢
       generalize w2.heap.size=qb at K3 hq3 ⊢)
  all_goals
    obtain⟨k0,k1,k2⟩:=K3.out
    obtain⟨q0,⟨b0,b1,b2,b3⟩,l0,l1,l2,l3⟩:=HX.out.ext (E1.out.trans HE3.out)
    obtain⟨p0,⟨c0,c1,c2⟩,m0,m1,m2⟩:=R1.out.ext HE3.out
    have hn1:¬ qb=B:=by omega
    have hn2:¬ qb=w.heap.size:=by omega
    have hn3:¬ B=w.heap.size:=by omega
    have hg9:=HG2.out
    obtain⟨hN3,hcap⟩:=HO3.out.atN Nat.one_pos
    obtain⟨d0,d1,d2,d3,d4⟩:=hN3 0 z rfl
    rw [Nat.zero_mul,Nat.add_zero] at d0 d1 d2 d3 d4
    have hgl:=HO3.out.ltS Nat.one_pos
    have hcap1:1≤cg:=hcap
    clear hN3 hcap
    obtain⟨t0,t1⟩:=HS1.out _ HE3.out
    have t2:=T2.out _ (E1.out.trans HE3.out)
    go_wp2_with fail
    refine (HV.out _ _ _ d2).mono ?_
    rintro e w5 ⟨rfl,hb5⟩
    have HB5:Hid (Ext w3 w5):=hb5
    have d2':=((Ext.cell hb5).1 _ _ hgl).trans d2
    clear hb5 d0 d1 d2 d3 d4 p0 c0 c1 c2 m0 m1 m2 t0 t1 t2
    obtain⟨p0,⟨c0,c1,c2⟩,m0,m1,m2⟩:=R1.out.ext (HE3.out.trans HB5.out)
    go_wp2
    have hry:=ry_put (x:=.int .i64 (7)) (y:=.int .i64 (0)) (z:=.string ⟨#[]⟩) (show RyAt w5 w.heap.size (.int .i64 0) (.int .i64 0) (.string ByteArray.empty) from R1.out.ext (HE3.out.trans HB5.out))
    unfold put3R at hry
    obtain⟨y0,y1,y2⟩:=hry
    exact bodyPost_ret (v:=yagg (7) (0) ⟨#[]⟩) (by simp [results,Tryz.results236,go_sem,yagg,y0,y1,y2]) rfl (by exact stepR_done HX.out HH.out (E1.out.trans (HE3.out.trans HB5.out)) (by rw [HQ.out]) (by rw [HQ.out]))
end Go.Proofs.YtpdejinkmnhioaaGreatDoor
