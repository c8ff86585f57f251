/- YA3m, YA5k8, YA3o, DD, YA6, in one text. -/
import Derived.Test.YtpdejinkmnhioaaGreatDoorAoJ24
import Derived.Test.YtpdejinkmnhioaaGreatDoorAoJ10
import Derived.Test.YtpdejinkmnhioaaGreatDoorAoJ21
import Derived.Test.YtpdejinkmnhioaaGreatDoorAoJ31
import Derived.Test.YtpdejinkmnhioaaGreatDoorAoJ18
import Derived.Test.YtpdejinkmnhioaaGreatDoorAoJ25
import Derived.Test.YtpdejinkmnhioaaGreatDoorAoJ28
import Derived.Test.YtpdejinkmnhioaaGreatDoorAoJ29
import Derived.Test.YtpdejinkmnhioaaGreatDoorAoJ30
import Derived.Test.YtpdejinkmnhioaaGreatDoorAoMk
namespace Go.Proofs.YtpdejinkmnhioaaGreatDoor
open Go.RowKit
set_option linter.unusedSimpArgs false in
set_option maxHeartbeats 4000000 in
set_option maxRecDepth 100000 in
theorem checkStep1_ok (n B D:Nat) (s:Stt) (p:ByteArray) (nv:Int) (z:Zn) (rp:ByteArray) (q:Ry × Stt) (w:World) (K:Nat→Prop) (hA:StAt n B K w s) (hKD:w.cell? ⟨D,0,none⟩=some (.string p)∧w.cell? ⟨D,1,none⟩=some (.int .i64 nv))   (hr:Sta.right s) (hgd:Gd w) (hc:Tre.getT s.nodes p=(0,rp,[z])) (hv:decide (nv = -1∨nv=z.version)=true) (hq:q=(⟨0,z.version,⟨#[]⟩⟩,s)) :
    Calls Tryz.prog 236 #[.pointer (some ⟨B,0,none⟩),.pointer (some ⟨D,0,none⟩)] w (Step n B K w (q)):=by
  obtain⟨vn,vs,vm,hX,hH⟩:=hA
  obtain⟨hr1,hr2,hr3⟩:=hr
  have hLD:=World.block_lt_of_cell? w _ hKD.1
  try simp only at hLD
  refine n57z ?_
  intro HO
  have HQ:Hid (q=(⟨0,z.version,⟨#[]⟩⟩,s)):=hq
  have HV:Hid (∀ (b o:Nat) (wx:World),wx.cell? ⟨b,o+2,none⟩=some (.int .i64 z.version)→Calls Tryz.prog 237 #[.pointer (some ⟨b,o,none⟩),.int .i64 nv] wx fun e w'=>e = .returned (.bool true)∧Ext wx w'):=fun b o wx h=>by have h:=hasVersion_any b o z.version nv wx h;rw [hv] at h;exact h
  clear hv
  clear hc hq hgd
  obtain⟨an,cn,rfl⟩:=hH.slice.1.vis
  refine n22z ?_
  intro HX HH hBl
  refine n50z ?_
  intro HS
  have T2:Hid (∀ W,Ext w W→W.cell? ⟨D,1,none⟩=some (.int .i64 nv)):=fun W he=>((Ext.cell he).1 _ _ hLD).trans hKD.2
  clear hX hH hr1 hr2 hr3 hKD
  go_enter Tryz.func236,Tryz.ntmps236
  go_wp2
  generalize hw1:World.alloc w _=w1
  refine n5z ?_
  intro E1 R1
  have hs1:w.heap.size < w1.heap.size:=by rw [← hw1];simp
  clear hw1
  refine n25z ?_
  intro HS1 s0 s1
  go_region_held3 (fun W=>W.cell? ⟨B,0,none⟩=some (.slice an s.nodes.length cn)∧W.cell? ⟨D,0,none⟩=some (.string p)) (first | exact⟨s0,s1⟩ | exact HS1.out _ ((Ext.refl _).drew) | exact HS1.out _ (((Ext.refl _).drew).alloc _) | exact HS1.out _ ((Ext.refl _).alloc _) | exact HS1.out _ HE2.out | exact HS1.out _ (HE2.out.alloc _) | exact HS1.out _ (((HE2.out.setCell (p:=⟨w1.heap.size,0,none⟩) (Nat.le_refl _) _).setCell (p:=⟨w1.heap.size,1,none⟩) (Nat.le_refl _) _).setCell (p:=⟨w1.heap.size,2,none⟩) (Nat.le_refl _) _) | exact HS1.out _ ((((HE2.out.alloc _).setCell (p:=⟨w2.heap.size,0,none⟩) HE2.out.size _).setCell (p:=⟨w2.heap.size,1,none⟩) HE2.out.size _).setCell (p:=⟨w2.heap.size,2,none⟩) HE2.out.size _) | go_keep) (first | (go_at_call 233;refine (HO.out _ (E1.out.trans (by first | exact (Ext.refl _).drew | exact ((Ext.refl _).drew).alloc _ | exact Ext.refl _))).mono ?_;rintro e w2 ⟨v,g,rfl,hg,hO,hb⟩;obtain⟨off,cg,rfl⟩:=hO.visN Nat.one_pos;unfold zr;have HE2:Hid (Ext w1 w2):=(by first | exact ((Ext.refl _).drew).trans hb | exact (((Ext.refl _).drew).alloc _).trans hb);have HG2:Hid (w1.heap.size≤g):=(by (try simp at hg);show _≤_;omega);have HO2:Hid (Own w2 (.slice (some ⟨g,off,none⟩) 1 cg) g [z]):=hO;(first | (have hq:w1.heap.size < w2.heap.size:=(by have hh:=hb.size;simp at hh;omega);have hg1:w1.heap.size < g:=(by (try simp at hg);omega);have zq:Hid (w2.cell? ⟨w1.heap.size,0,none⟩=some (.int .i64 0)∧w2.cell? ⟨w1.heap.size,1,none⟩=some (.string ByteArray.empty)∧w2.cell? ⟨w1.heap.size,2,none⟩=some (.slice none 0 0)∧w2.frozen? ⟨w1.heap.size,0,none⟩=false∧w2.frozen? ⟨w1.heap.size,1,none⟩=false∧w2.frozen? ⟨w1.heap.size,2,none⟩=false):=(by have hbb:=(Ext.cell hb);exact⟨by simpa using (hbb.1 (World.drew w1).heap.size 0 (by simp)).trans (show _=some (.int .i64 0) by first | (simp;done) | (simp;rfl)),by simpa using (hbb.1 (World.drew w1).heap.size 1 (by simp)).trans (show _=some (.string ByteArray.empty) by first | (simp;done) | (simp;rfl)),by simpa using (hbb.1 (World.drew w1).heap.size 2 (by simp)).trans (show _=some (.slice none 0 0) by first | (simp;done) | (simp;rfl)),by simpa using (hbb.2 (World.drew w1).heap.size 0 (by simp)).trans (show _=false by simp),by simpa using (hbb.2 (World.drew w1).heap.size 1 (by simp)).trans (show _=false by simp),by simpa using (hbb.2 (World.drew w1).heap.size 2 (by simp)).trans (show _=false by simp)⟩);obtain⟨z0,z1,z2,f0,f1,f2⟩:=zq.out) | skip);clear hb hg hO))
  all_goals
    first
    | (have HE3:Hid (Ext w1 (World.setCell (World.setCell (World.setCell w2 ⟨w1.heap.size,0,none⟩ (.int .i64 0)) ⟨w1.heap.size,1,none⟩ (.string rp)) ⟨w1.heap.size,2,none⟩ (.slice (some ⟨g,off,none⟩) 1 cg))):=(((HE2.out.setCell (p:=⟨w1.heap.size,0,none⟩) (Nat.le_refl _) _).setCell (p:=⟨w1.heap.size,1,none⟩) (Nat.le_refl _) _).setCell (p:=⟨w1.heap.size,2,none⟩) (Nat.le_refl _) _)
       have K3:Hid ((World.setCell (World.setCell (World.setCell w2 ⟨w1.heap.size,0,none⟩ (.int .i64 0)) ⟨w1.heap.size,1,none⟩ (.string rp)) ⟨w1.heap.size,2,none⟩ (.slice (some ⟨g,off,none⟩) 1 cg)).cell? ⟨w1.heap.size,0,none⟩=some (.int .i64 0)∧(World.setCell (World.setCell (World.setCell w2 ⟨w1.heap.size,0,none⟩ (.int .i64 0)) ⟨w1.heap.size,1,none⟩ (.string rp)) ⟨w1.heap.size,2,none⟩ (.slice (some ⟨g,off,none⟩) 1 cg)).cell? ⟨w1.heap.size,1,none⟩=some (.string rp)∧(World.setCell (World.setCell (World.setCell w2 ⟨w1.heap.size,0,none⟩ (.int .i64 0)) ⟨w1.heap.size,1,none⟩ (.string rp)) ⟨w1.heap.size,2,none⟩ (.slice (some ⟨g,off,none⟩) 1 cg)).cell? ⟨w1.heap.size,2,none⟩=some (.slice (some ⟨g,off,none⟩) 1 cg)):=(by exact⟨by rw [iset_ne _ _ _ _ _ _ (by omega)];rw [iset_ne _ _ _ _ _ _ (by omega)];apply iset_eq;exact⟨_,z0⟩,by rw [iset_ne _ _ _ _ _ _ (by omega)];apply iset_eq;rw [iset_ne _ _ _ _ _ _ (by omega)];exact⟨_,z1⟩,by apply iset_eq;rw [iset_ne _ _ _ _ _ _ (by omega)];rw [iset_ne _ _ _ _ _ _ (by omega)];exact⟨_,z2⟩⟩)
       have HO3:Hid (Own (World.setCell (World.setCell (World.setCell w2 ⟨w1.heap.size,0,none⟩ (.int .i64 0)) ⟨w1.heap.size,1,none⟩ (.string rp)) ⟨w1.heap.size,2,none⟩ (.slice (some ⟨g,off,none⟩) 1 cg)) (.slice (some ⟨g,off,none⟩) 1 cg) g [z]):=HO2.out.updS ((((Upd.refl w1.heap.size w2).setAt 0 _).setAt 1 _).setAt 2 _) (fun _=>by omega)
       generalize (World.setCell (World.setCell (World.setCell w2 ⟨w1.heap.size,0,none⟩ (.int .i64 0)) ⟨w1.heap.size,1,none⟩ (.string rp)) ⟨w1.heap.size,2,none⟩ (.slice (some ⟨g,off,none⟩) 1 cg))=w3 at HE3 K3 HO3 ⊢
       obtain⟨qb,hqb⟩:∃ qb,qb=w1.heap.size:=⟨_,rfl⟩
       have hq3:w1.heap.size≤qb:=by omega
       rw [← hqb] at K3 ⊢
       clear hqb)
    | (have HE3:Hid (Ext w1 (World.alloc w2 (.cells #[.int .i64 0,.string rp,.slice (some ⟨g,off,none⟩) 1 cg] 148))):=HE2.out.alloc _
       have K3:Hid ((World.alloc w2 (.cells #[.int .i64 0,.string rp,.slice (some ⟨g,off,none⟩) 1 cg] 148)).cell? ⟨w2.heap.size,0,none⟩=some (.int .i64 0)∧(World.alloc w2 (.cells #[.int .i64 0,.string rp,.slice (some ⟨g,off,none⟩) 1 cg] 148)).cell? ⟨w2.heap.size,1,none⟩=some (.string rp)∧(World.alloc w2 (.cells #[.int .i64 0,.string rp,.slice (some ⟨g,off,none⟩) 1 cg] 148)).cell? ⟨w2.heap.size,2,none⟩=some (.slice (some ⟨g,off,none⟩) 1 cg)):=(by exact⟨by simp,by simp,by simp⟩)
       have HO3:Hid (Own (World.alloc w2 (.cells #[.int .i64 0,.string rp,.slice (some ⟨g,off,none⟩) 1 cg] 148)) (.slice (some ⟨g,off,none⟩) 1 cg) g [z]):=HO2.out.ext ((Ext.refl w2).alloc (.cells #[.int .i64 0,.string rp,.slice (some ⟨g,off,none⟩) 1 cg] 148))
       have hq3:w1.heap.size≤w2.heap.size:=HE2.out.size
       generalize (World.alloc w2 (.cells #[.int .i64 0,.string rp,.slice (some ⟨g,off,none⟩) 1 cg] 148))=w3 at HE3 K3 HO3 ⊢
       generalize w2.heap.size=qb at K3 hq3 ⊢)
  all_goals
    obtain⟨k0,k1,k2⟩:=K3.out
    obtain⟨q0,⟨b0,b1,b2,b3⟩,l0,l1,l2,l3⟩:=HX.out.ext (E1.out.trans HE3.out)
    obtain⟨p0,⟨c0,c1,c2⟩,m0,m1,m2⟩:=R1.out.ext HE3.out
    have hn1:¬ qb=B:=by omega
    have hn2:¬ qb=w.heap.size:=by omega
    have hn3:¬ B=w.heap.size:=by omega
    have hg9:=HG2.out
    obtain⟨hN3,hcap⟩:=HO3.out.atN Nat.one_pos
    obtain⟨d0,d1,d2,d3,d4⟩:=hN3 0 z rfl
    rw [Nat.zero_mul,Nat.add_zero] at d0 d1 d2 d3 d4
    have hgl:=HO3.out.ltS Nat.one_pos
    have hcap1:1≤cg:=hcap
    clear hN3 hcap
    obtain⟨t0,t1⟩:=HS1.out _ HE3.out
    have t2:=T2.out _ (E1.out.trans HE3.out)
    go_wp2_with fail
    refine (HV.out _ _ _ d2).mono ?_
    rintro e w5 ⟨rfl,hb5⟩
    have HB5:Hid (Ext w3 w5):=hb5
    have d2':=((Ext.cell hb5).1 _ _ hgl).trans d2
    clear hb5 d0 d1 d2 d3 d4 p0 c0 c1 c2 m0 m1 m2 t0 t1 t2
    obtain⟨p0,⟨c0,c1,c2⟩,m0,m1,m2⟩:=R1.out.ext (HE3.out.trans HB5.out)
    go_wp2
    have hry:=ry_put (x:=.int .i64 (0)) (y:=.int .i64 (z.version)) (z:=.string ⟨#[]⟩) (show RyAt w5 w.heap.size (.int .i64 0) (.int .i64 0) (.string ByteArray.empty) from R1.out.ext (HE3.out.trans HB5.out))
    unfold put3R at hry
    obtain⟨y0,y1,y2⟩:=hry
    exact bodyPost_ret (v:=yagg (0) (z.version) ⟨#[]⟩) (by simp [results,Tryz.results236,go_sem,yagg,y0,y1,y2]) rfl (by exact stepR_done HX.out HH.out (E1.out.trans (HE3.out.trans HB5.out)) (by rw [HQ.out]) (by rw [HQ.out]))
end Go.Proofs.YtpdejinkmnhioaaGreatDoor
namespace Go.Proofs.YtpdejinkmnhioaaGreatDoor
open Go.RowKit
set_option maxHeartbeats 400000 in
set_option maxRecDepth 100000 in
theorem liveStep_8 (n B:Nat) (s:Stt) (c:Int) (p:ByteArray) (d v:Int) (sq ow:Bool) (w:World)  (hr:Sta.right s) (hgd:Gd w) (hp:Pth.faultI p.data.toList=0) :
    Calls Tryz.prog 134 #[.int .i64 c,.iface 256 (.agg #[.string p,.int .i64 v])] w (Maker (Ses.live s.ses c s.now=true) n B w s (Sta.liveT s c ⟨8,p,d,v,sq,ow⟩)):=by
  have tatoCreate:∀ W:World,(Instr.typeAssert (.iface 256 (.agg #[.string p,.int .i64 v])) 184 243 true).run Tryz.prog W = .ok (.tuple #[.agg #[.string ByteArray.empty,.int .i64 0,.bool false,.bool false],.bool false]) W:=fun W=>by kernel_rfl
  have tatoDelete:∀ W:World,(Instr.typeAssert (.iface 256 (.agg #[.string p,.int .i64 v])) 184 246 true).run Tryz.prog W = .ok (.tuple #[.agg #[.string ByteArray.empty,.int .i64 0],.bool false]) W:=fun W=>by kernel_rfl
  have tatoSet:∀ W:World,(Instr.typeAssert (.iface 256 (.agg #[.string p,.int .i64 v])) 184 249 true).run Tryz.prog W = .ok (.tuple #[.agg #[.string ByteArray.empty,.int .i64 0,.int .i64 0],.bool false]) W:=fun W=>by kernel_rfl
  have tatoGet:∀ W:World,(Instr.typeAssert (.iface 256 (.agg #[.string p,.int .i64 v])) 184 252 true).run Tryz.prog W = .ok (.tuple #[.agg #[.string ByteArray.empty],.bool false]) W:=fun W=>by kernel_rfl
  have tatoList:∀ W:World,(Instr.typeAssert (.iface 256 (.agg #[.string p,.int .i64 v])) 184 254 true).run Tryz.prog W = .ok (.tuple #[.agg #[.string ByteArray.empty],.bool false]) W:=fun W=>by kernel_rfl
  have tatoCheck:∀ W:World,(Instr.typeAssert (.iface 256 (.agg #[.string p,.int .i64 v])) 184 256 true).run Tryz.prog W = .ok (.tuple #[.agg #[.string p,.int .i64 v],.bool true]) W:=fun W=>by kernel_rfl
  have HM:Hid (∀ wx,Ext w wx→Calls Tryz.prog 197 #[.agg #[.string p,.int .i64 v]] wx (Maker (Ses.live s.ses c s.now=true) n B w s (Sta.liveT s c ⟨8,p,d,v,sq,ow⟩))):=by
    intro w0 hE00
    refine (checkStep_mk p v w0).mono ?_
    rintro e w1 ⟨D,rfl,hD,hb⟩
    have hE0:=hE00.trans hb
    refine⟨236,#[.pointer (some ⟨D,0,none⟩)],rfl,fun _ _=>by kernel_rfl,fun _=>?_,hE0⟩
    intro wx K he hA _
    rw [show (#[Value.pointer (some ⟨B,0,none⟩)] ++ #[.pointer (some ⟨D,0,none⟩)]:Array Value) = #[.pointer (some ⟨B,0,none⟩),.pointer (some ⟨D,0,none⟩)] from by simp]
    rw [Sta.liveT_read (by simp)]
    rcases Tre.atI_range s.nodes p with ⟨ha,-⟩ | ⟨k,z,ha,hk,hz,-⟩
    · rw [Sta.readT_none (by show Tre.atI s.nodes p < 0;omega)]
      exact checkStep1_bad n B D s p v 4 ⟨#[]⟩ [] _ wx K hA (⟨(Ext.cell he).1 _ _ (World.block_lt_of_cell? _ _ hD.1) |>.trans hD.1,(Ext.cell he).1 _ _ (World.block_lt_of_cell? _ _ hD.2) |>.trans hD.2⟩) hr (hgd.ext (hE0.trans he)) (Tre.getT_none (Sta.asked_zero hr.1 hp) (by omega)) ⟨rfl,by decide⟩
    · rw [Sta.readT_some (o:=⟨8,p,d,v,sq,ow⟩) ha hz]
      rw [if_neg (by simp),if_neg (by simp)]
      by_cases hv:v≠-1∧v≠z.version
      · rw [if_pos hv]
        exact checkStep1_ver n B D s p v z ⟨#[]⟩ _ wx K hA (⟨(Ext.cell he).1 _ _ (World.block_lt_of_cell? _ _ hD.1) |>.trans hD.1,(Ext.cell he).1 _ _ (World.block_lt_of_cell? _ _ hD.2) |>.trans hD.2⟩) hr (hgd.ext (hE0.trans he)) (Tre.getT_ok (Sta.asked_zero hr.1 hp) ha hz) (by simp only [decide_eq_false_iff_not];omega) rfl
      · rw [if_neg hv]
        exact checkStep1_ok n B D s p v z ⟨#[]⟩ _ wx K hA (⟨(Ext.cell he).1 _ _ (World.block_lt_of_cell? _ _ hD.1) |>.trans hD.1,(Ext.cell he).1 _ _ (World.block_lt_of_cell? _ _ hD.2) |>.trans hD.2⟩) hr (hgd.ext (hE0.trans he)) (Tre.getT_ok (Sta.asked_zero hr.1 hp) ha hz) (by simp only [decide_eq_true_eq];omega) rfl
  clear hr hgd hp
  generalize Sta.liveT s c ⟨8,p,d,v,sq,ow⟩=q at *
  exact m11z
end Go.Proofs.YtpdejinkmnhioaaGreatDoor
namespace Go.Proofs.YtpdejinkmnhioaaGreatDoor
open Go.RowKit
set_option linter.unusedSimpArgs false in
set_option maxHeartbeats 4000000 in
set_option maxRecDepth 100000 in
theorem openStep1_any (n B C:Nat) (s:Stt) (c:Int) (w:World) (K:Nat→Prop) (hA:StAt n B K w s) (hKC:w.cell? ⟨C,0,none⟩=some (.int .i64 c))  (hKB:K B) (hn:n≤w.heap.size) (hr:Sta.right s) (hc:1≤c∧c≤9) :
    Calls Tryz.prog 188 #[.pointer (some ⟨B,0,none⟩),.pointer (some ⟨C,0,none⟩)] w (Step n B K w (Sta.openT s c)):=by
  obtain⟨vn,vs,vm,hX,hH⟩:=hA
  obtain⟨hr1,hr2,hr3⟩:=hr
  have hLC:=World.block_lt_of_cell? w _ hKC
  try simp only at hLC
  have hasked:Ses.asked s.ses c s.now=0:=by unfold Ses.asked;rw [if_neg (by simp [hr2]),if_pos (by rw [hr3];simp [Ses.idOk];omega)]
  have hopen:Ses.openV s.ses c s.now=Ses.opened s.ses c s.now:=by rw [Ses.openV_eq,if_neg (by simp [hasked])]
  have hT:(Sta.openT s c).1=Sta.bad (Ses.opened s.ses c s.now).1∧((Ses.opened s.ses c s.now).1=0→(Sta.openT s c).2 = { s with ses:=(Ses.opened s.ses c s.now).2 }):=by
    unfold Sta.openT
    split
    · rename_i h;exact⟨rfl,fun h'=>absurd h' h⟩
    · rename_i h;simp only [ne_eq,Decidable.not_not] at h;exact⟨by rw [h],fun _=>rfl⟩
  have HO:Hid (∀ wx,Ext w wx→Calls Tryz.prog 189 #[vs,.int .i64 c,.int .i64 s.now] wx (ERet wx (Ses.opened s.ses c s.now).1 (Ses.opened s.ses c s.now).2)):=fun wx he=>by have h:=implOpenSession_any vs s.ses c s.now wx (hH.slice.2.1.ext he);rw [hopen] at h;exact h
  generalize Sta.openT s c=q at *
  clear hopen hasked
  obtain⟨ae,ce,rfl⟩:=hH.slice.2.1.vis
  generalize Ses.opened s.ses c s.now=R at *
  obtain⟨rc,rs⟩:=R
  simp only at HO hT
  have HQ:Hid (q.1=Sta.bad rc∧(rc=0→q.2 = { s with ses:=rs })):=hT
  clear hT
  have HX:Hid (SBoxAt w B vn (.slice ae s.ses.length ce) (.int .i64 s.now) vm):=hX
  have HH:Hid (SHas n K w vn (.slice ae s.ses.length ce) vm s):=hH
  have hBl:B < w.heap.size:=hX.1
  refine n61z ?_
  intro HS
  clear hX hH hr1 hr2 hr3 hKC
  go_enter Tryz.func188,Tryz.ntmps188
  go_wp2
  generalize hw1:World.alloc w _=w1
  refine n5z ?_
  intro E1 R1
  have hs1:w.heap.size < w1.heap.size:=by rw [← hw1];simp
  clear hw1
  have HS1:Hid (∀ W,Ext w1 W→W.cell? ⟨B,1,none⟩=some (.slice ae s.ses.length ce)∧W.cell? ⟨C,0,none⟩=some (.int .i64 c)∧W.cell? ⟨B,2,none⟩=some (.int .i64 s.now)):=fun W he=>HS.out W (E1.out.trans he)
  obtain⟨s0,s1,s2⟩:=HS1.out w1 (Ext.refl _)
  go_region_held3 (fun W=>W.cell? ⟨B,1,none⟩=some (.slice ae s.ses.length ce)∧W.cell? ⟨C,0,none⟩=some (.int .i64 c)∧W.cell? ⟨B,2,none⟩=some (.int .i64 s.now)) (first | exact⟨s0,s1,s2⟩ | exact HS1.out _ ((Ext.refl _).drew) | exact HS1.out _ (((Ext.refl _).drew).alloc _) | exact HS1.out _ ((Ext.refl _).alloc _) | exact HS1.out _ HE2.out | exact HS1.out _ (HE2.out.alloc _) | exact HS1.out _ ((HE2.out.setCell (p:=⟨w1.heap.size,0,none⟩) (Nat.le_refl _) _).setCell (p:=⟨w1.heap.size,1,none⟩) (Nat.le_refl _) _) | exact HS1.out _ (((HE2.out.alloc _).setCell (p:=⟨w2.heap.size,0,none⟩) HE2.out.size _).setCell (p:=⟨w2.heap.size,1,none⟩) HE2.out.size _) | go_keep) (first | (go_at_call 189;refine (HO.out _ (E1.out.trans (by first | exact (Ext.refl _).drew | exact ((Ext.refl _).drew).alloc _ | exact Ext.refl _))).mono ?_;rintro e w2 ⟨v,g,rfl,hg,hO,hb⟩;obtain⟨ag,cg,rfl⟩:=hO.vis;unfold er;have HE2:Hid (Ext w1 w2):=(by first | exact ((Ext.refl _).drew).trans hb | exact (((Ext.refl _).drew).alloc _).trans hb);have HG2:Hid (w1.heap.size≤g):=(by (try simp at hg);show _≤_;omega);have HO2:Hid (EOwn w2 (.slice ag rs.length cg) g rs):=hO;(first | (have hq:w1.heap.size < w2.heap.size:=(by have hh:=hb.size;simp at hh;omega);have hg1:w1.heap.size < g:=(by (try simp at hg);omega);have zq:Hid (w2.cell? ⟨w1.heap.size,0,none⟩=some (.int .i64 0)∧w2.cell? ⟨w1.heap.size,1,none⟩=some (.slice none 0 0)∧w2.frozen? ⟨w1.heap.size,0,none⟩=false∧w2.frozen? ⟨w1.heap.size,1,none⟩=false):=(by have hbb:=(Ext.cell hb);exact⟨by simpa using (hbb.1 (World.drew w1).heap.size 0 (by simp)).trans (show _=some (.int .i64 0) by first | (simp;done) | (simp;rfl)),by simpa using (hbb.1 (World.drew w1).heap.size 1 (by simp)).trans (show _=some (.slice none 0 0) by first | (simp;done) | (simp;rfl)),by simpa using (hbb.2 (World.drew w1).heap.size 0 (by simp)).trans (show _=false by simp),by simpa using (hbb.2 (World.drew w1).heap.size 1 (by simp)).trans (show _=false by simp)⟩);obtain⟨z0,z1,f0,f1⟩:=zq.out) | skip);clear hb hg hO))
  all_goals
    first
    | (have HE3:Hid (Ext w1 (World.setCell (World.setCell w2 ⟨w1.heap.size,0,none⟩ (.int .i64 rc)) ⟨w1.heap.size,1,none⟩ (.slice ag rs.length cg))):=((HE2.out.setCell (p:=⟨w1.heap.size,0,none⟩) (Nat.le_refl _) _).setCell (p:=⟨w1.heap.size,1,none⟩) (Nat.le_refl _) _)
       have K3:Hid ((World.setCell (World.setCell w2 ⟨w1.heap.size,0,none⟩ (.int .i64 rc)) ⟨w1.heap.size,1,none⟩ (.slice ag rs.length cg)).cell? ⟨w1.heap.size,0,none⟩=some (.int .i64 rc)∧(World.setCell (World.setCell w2 ⟨w1.heap.size,0,none⟩ (.int .i64 rc)) ⟨w1.heap.size,1,none⟩ (.slice ag rs.length cg)).cell? ⟨w1.heap.size,1,none⟩=some (.slice ag rs.length cg)):=(by exact⟨by rw [iset_ne _ _ _ _ _ _ (by omega)];apply iset_eq;exact⟨_,z0⟩,by apply iset_eq;rw [iset_ne _ _ _ _ _ _ (by omega)];exact⟨_,z1⟩⟩)
       have HO3:Hid (EOwn (World.setCell (World.setCell w2 ⟨w1.heap.size,0,none⟩ (.int .i64 rc)) ⟨w1.heap.size,1,none⟩ (.slice ag rs.length cg)) (.slice ag rs.length cg) g rs):=HO2.out.updS (((Upd.refl w1.heap.size w2).setAt 0 _).setAt 1 _) (fun _=>by omega)
       generalize (World.setCell (World.setCell w2 ⟨w1.heap.size,0,none⟩ (.int .i64 rc)) ⟨w1.heap.size,1,none⟩ (.slice ag rs.length cg))=w3 at HE3 K3 HO3 ⊢
       obtain⟨qb,hqb⟩:∃ qb,qb=w1.heap.size:=⟨_,rfl⟩
       have hq3:w1.heap.size≤qb:=by omega
       rw [← hqb] at K3 ⊢
       clear hqb)
    | (have HE3:Hid (Ext w1 (World.alloc w2 (.cells #[.int .i64 rc,.slice ag rs.length cg] 161))):=HE2.out.alloc _
       have K3:Hid ((World.alloc w2 (.cells #[.int .i64 rc,.slice ag rs.length cg] 161)).cell? ⟨w2.heap.size,0,none⟩=some (.int .i64 rc)∧(World.alloc w2 (.cells #[.int .i64 rc,.slice ag rs.length cg] 161)).cell? ⟨w2.heap.size,1,none⟩=some (.slice ag rs.length cg)):=(by exact⟨by simp,by simp⟩)
       have HO3:Hid (EOwn (World.alloc w2 (.cells #[.int .i64 rc,.slice ag rs.length cg] 161)) (.slice ag rs.length cg) g rs):=HO2.out.ext ((Ext.refl w2).alloc (.cells #[.int .i64 rc,.slice ag rs.length cg] 161))
       have hq3:w1.heap.size≤w2.heap.size:=HE2.out.size
       generalize (World.alloc w2 (.cells #[.int .i64 rc,.slice ag rs.length cg] 161))=w3 at HE3 K3 HO3 ⊢
       generalize w2.heap.size=qb at K3 hq3 ⊢)
  all_goals
    obtain⟨k0,k1⟩:=K3.out
    obtain⟨q0,⟨b0,b1,b2,b3⟩,l0,l1,l2,l3⟩:=HX.out.ext (E1.out.trans HE3.out)
    obtain⟨p0,⟨c0,c1,c2⟩,m0,m1,m2⟩:=R1.out.ext HE3.out
    have hn1:¬ qb=B:=by omega
    have hn2:¬ qb=w.heap.size:=by omega
    have hn3:¬ B=w.heap.size:=by omega
    have hg9:=HG2.out
    go_wp2
    have hry:=ry_put (x:=.int .i64 (rc)) (y:=.int .i64 (0)) (z:=.string ⟨#[]⟩) (show RyAt (w3.setCell ⟨B,1,none⟩ (.slice ag rs.length cg)) w.heap.size (.int .i64 0) (.int .i64 0) (.string ByteArray.empty) from (R1.out.ext HE3.out).other (by omega))
    unfold put3R at hry
    obtain⟨y0,y1,y2⟩:=hry
    exact bodyPost_ret (v:=yagg (rc) (0) ⟨#[]⟩) (by simp [results,Tryz.results188,go_sem,yagg,y0,y1,y2]) rfl (by exact stepE_done HX.out HH.out hKB hn (E1.out.trans HE3.out) HO3.out (by omega) (Ext.refl _) (fun h=>HQ.out.2 (by rw [HQ.out.1] at h;exact h)) (by rw [HQ.out.1];rfl))
end Go.Proofs.YtpdejinkmnhioaaGreatDoor
namespace Go.Proofs.YtpdejinkmnhioaaGreatDoor
open Go.RowKit
set_option maxHeartbeats 1000000 in
theorem deedOf_2 (p:ByteArray) (d v:Int) (s q:Bool) (w:World):Calls Tryz.prog 135 #[oagg ⟨2,p,d,v,s,q⟩] w fun e w'=>e = .returned (.iface 260 (.agg #[]))∧Ext w w':=by
  exact m24z
set_option maxHeartbeats 1000000 in
theorem deedOf_3 (p:ByteArray) (d v:Int) (s q:Bool) (w:World):Calls Tryz.prog 135 #[oagg ⟨3,p,d,v,s,q⟩] w fun e w'=>e = .returned (.iface 243 (.agg #[.string p,.int .i64 d,.bool s,.bool q]))∧Ext w w':=by
  exact m24z
set_option maxHeartbeats 1000000 in
theorem deedOf_4 (p:ByteArray) (d v:Int) (s q:Bool) (w:World):Calls Tryz.prog 135 #[oagg ⟨4,p,d,v,s,q⟩] w fun e w'=>e = .returned (.iface 246 (.agg #[.string p,.int .i64 v]))∧Ext w w':=by
  exact m24z
set_option maxHeartbeats 1000000 in
theorem deedOf_5 (p:ByteArray) (d v:Int) (s q:Bool) (w:World):Calls Tryz.prog 135 #[oagg ⟨5,p,d,v,s,q⟩] w fun e w'=>e = .returned (.iface 249 (.agg #[.string p,.int .i64 d,.int .i64 v]))∧Ext w w':=by
  exact m24z
set_option maxHeartbeats 1000000 in
theorem deedOf_6 (p:ByteArray) (d v:Int) (s q:Bool) (w:World):Calls Tryz.prog 135 #[oagg ⟨6,p,d,v,s,q⟩] w fun e w'=>e = .returned (.iface 252 (.agg #[.string p]))∧Ext w w':=by
  exact m24z
set_option maxHeartbeats 1000000 in
theorem deedOf_7 (p:ByteArray) (d v:Int) (s q:Bool) (w:World):Calls Tryz.prog 135 #[oagg ⟨7,p,d,v,s,q⟩] w fun e w'=>e = .returned (.iface 254 (.agg #[.string p]))∧Ext w w':=by
  exact m24z
set_option maxHeartbeats 1000000 in
theorem deedOf_8 (p:ByteArray) (d v:Int) (s q:Bool) (w:World):Calls Tryz.prog 135 #[oagg ⟨8,p,d,v,s,q⟩] w fun e w'=>e = .returned (.iface 256 (.agg #[.string p,.int .i64 v]))∧Ext w w':=by
  exact m24z
end Go.Proofs.YtpdejinkmnhioaaGreatDoor
namespace Go.Proofs.YtpdejinkmnhioaaGreatDoor
open Go.RowKit
theorem stepW_done {n B:Nat} {K:Nat→Prop} {w w2 w3:World} {x y z:Value} {q:Ry × Stt} {e e' : Ending} (hB:B < w.heap.size) (h2:Ext w w2) (hR:w.heap.size < w2.heap.size) (h:Step n B (fun b=>(b < w.heap.size∧K b)∨b=w.heap.size) w2 q e w3) (he' : e' = .returned (yagg q.1.code q.1.value q.1.path)):Step n B K w q e' (put3R w3 w.heap.size x y z):=by
  obtain⟨-,hU,⟨v0,v1,v2,v3,hbx,hm3⟩,hst⟩:=h
  refine⟨he',((Upd.ext h2 (by omega)).trans hU).put3R (by omega) (Nat.le_refl _),⟨_,_,_,_,hbx.put3R (by omega),((Ext.cell h2).1 _ _ hB).symm.trans hm3⟩,fun hc=>?_⟩
  obtain⟨vn,vs,vm,hx,hh⟩:=hst hc
  exact⟨vn,vs,vm,hx.put3R (by omega),(hh.put3R (R:=w.heap.size) ⟨hR,Or.inr rfl⟩).turn fun b _ h=>⟨by omega,Or.inl h⟩⟩
set_option linter.unusedSimpArgs false in
set_option maxHeartbeats 1000000 in
set_option maxRecDepth 100000 in
theorem whileLive1_any (n B C D:Nat) (s:Stt) (c:Int) (F:FuncId) (caps:Array Value) (q:Ry × Stt) (w:World) (K:Nat→Prop) (hA:StAt n B K w s) (hKB:K B) (hKC:w.cell? ⟨C,0,none⟩=some (.int .i64 c)) (hKD:w.cell? ⟨D,0,none⟩=some (.func (.func F) #[] caps)) (hr:Sta.right s) (hc:1≤c∧c≤9)
    (hF:∀ (args:Array Value) (W:World),(callFunc F args).run Tryz.prog W = .ok (.enter F args) W) (hDo:Ses.live s.ses c s.now=true→Does n B F caps w s q) :
    Calls Tryz.prog 190 #[.pointer (some ⟨B,0,none⟩),.pointer (some ⟨C,0,none⟩),.pointer (some ⟨D,0,none⟩)] w (Step n B K w (if Ses.live s.ses c s.now=true then q else (Sta.bad 9,s))):=by
  have hA0:Hid (StAt n B K w s):=hA
  obtain⟨vn,vs,vm,hX,hH⟩:=hA
  obtain⟨hr1,hr2,hr3⟩:=hr
  have hLC:=World.block_lt_of_cell? w _ hKC
  have hLD:=World.block_lt_of_cell? w _ hKD
  try simp only at hLC hLD
  have hasked:Ses.asked s.ses c s.now=0:=by unfold Ses.asked;rw [if_neg (by simp [hr2]),if_pos (by rw [hr3];simp [Ses.idOk];omega)]
  have HL:Hid (∀ wx,Ext w wx→Calls Tryz.prog 191 #[vs,.int .i64 c,.int .i64 s.now] wx fun e w'=>e = .returned (.bool (Ses.live s.ses c s.now))∧Ext wx w'):=fun wx he=>by
    have h:=implLiveSession_any vs s.ses c s.now wx (hH.slice.2.1.ext he)
    rw [show Ses.liveV s.ses c s.now=Ses.live s.ses c s.now from by unfold Ses.liveV;rw [hasked];simp] at h
    exact h
  have HX:Hid (SBoxAt w B vn vs (.int .i64 s.now) vm):=hX
  have HH:Hid (SHas n K w vn vs vm s):=hH
  have hBl:B < w.heap.size:=hX.1
  obtain⟨ae,ce,rfl⟩:=hH.slice.2.1.vis
  refine n61z ?_
  intro HS
  have HKD:Hid (∀ W,Ext w W→W.cell? ⟨D,0,none⟩=some (.func (.func F) #[] caps)):=fun W he=>((Ext.cell he).1 _ _ hLD).trans hKD
  have HDo:Hid (Ses.live s.ses c s.now=true→Does n B F caps w s q):=hDo
  clear hX hH hr1 hr2 hr3 hKC hKD hasked hDo
  obtain⟨lv,hlv⟩:∃ lv,lv=Ses.live s.ses c s.now:=⟨_,rfl⟩
  rw [← hlv] at HL HDo ⊢
  clear hlv
  cases lv with
  | false =>
    rw [if_neg (by decide)]
    go_enter Tryz.func190,Tryz.ntmps190
    go_wp2
    generalize hw1:World.alloc w _=w1
    have E1:Hid (Ext w w1):=by show Ext w w1;rw [← hw1];exact (Ext.refl _).alloc _
    have R1:Hid (RyAt w1 w.heap.size (.int .i64 0) (.int .i64 0) (.string ByteArray.empty)):=by show RyAt w1 w.heap.size _ _ _;rw [← hw1];exact ry_new _ _ _ _ _
    clear hw1
    obtain⟨s0,s1,s2⟩:=HS.out w1 E1.out
    go_region_held3 (fun W=>W.cell? ⟨B,1,none⟩=some (.slice ae s.ses.length ce)∧W.cell? ⟨C,0,none⟩=some (.int .i64 c)∧W.cell? ⟨B,2,none⟩=some (.int .i64 s.now)) (first | exact⟨s0,s1,s2⟩ | exact HS.out _ (E1.out.trans (Ext.refl _).drew) | exact HS.out _ E2.out | go_keep) (first | (go_at_call 191;refine (HL.out _ (E1.out.trans (by first | exact (Ext.refl _).drew | exact Ext.refl _))).mono ?_;rintro e w2 ⟨rfl,hb⟩;have HE2:Hid (Ext w1 w2):=(by first | exact ((Ext.refl _).drew).trans hb | exact hb);have E2:Hid (Ext w w2):=E1.out.trans HE2.out;clear hb s0 s1 s2))
    all_goals
      obtain⟨p0,⟨c0,c1,c2⟩,m0,m1,m2⟩:=R1.out.ext HE2.out
      go_wp2
      have hry:=ry_put (x:=.int .i64 9) (y:=.int .i64 0) (z:=.string ⟨#[]⟩) (R1.out.ext HE2.out)
      unfold put3R at hry
      obtain⟨y0,y1,y2⟩:=hry
      exact bodyPost_ret (v:=yagg 9 0 ⟨#[]⟩) (by simp [results,Tryz.results190,go_sem,yagg,y0,y1,y2]) rfl (by exact stepR_done HX.out HH.out E2.out rfl rfl)
  | true =>
    rw [if_pos rfl]
    go_enter Tryz.func190,Tryz.ntmps190
    go_wp2
    generalize hw1:World.alloc w _=w1
    have E1:Hid (Ext w w1):=by show Ext w w1;rw [← hw1];exact (Ext.refl _).alloc _
    have R1:Hid (RyAt w1 w.heap.size (.int .i64 0) (.int .i64 0) (.string ByteArray.empty)):=by show RyAt w1 w.heap.size _ _ _;rw [← hw1];exact ry_new _ _ _ _ _
    clear hw1
    obtain⟨s0,s1,s2⟩:=HS.out w1 E1.out
    go_region_held3 (fun W=>W.cell? ⟨B,1,none⟩=some (.slice ae s.ses.length ce)∧W.cell? ⟨C,0,none⟩=some (.int .i64 c)∧W.cell? ⟨B,2,none⟩=some (.int .i64 s.now)) (first | exact⟨s0,s1,s2⟩ | exact HS.out _ (E1.out.trans (Ext.refl _).drew) | exact HS.out _ E2.out | go_keep) (first | (go_at_call 191;refine (HL.out _ (E1.out.trans (by first | exact (Ext.refl _).drew | exact Ext.refl _))).mono ?_;rintro e w2 ⟨rfl,hb⟩;have HE2:Hid (Ext w1 w2):=(by first | exact ((Ext.refl _).drew).trans hb | exact hb);have E2:Hid (Ext w w2):=E1.out.trans HE2.out;clear hb s0 s1 s2))
    all_goals
      have hkd:=HKD.out w2 E2.out
      have hR2:w.heap.size < w2.heap.size:=(R1.out.ext HE2.out).1
      have hCall:Hid (Calls Tryz.prog F (#[.pointer (some ⟨B,0,none⟩)] ++ caps) w2 (Step n B (fun b=>(b < w.heap.size∧K b)∨b=w.heap.size) w2 q)):=HDo.out (by first | trivial | rfl) w2 _ E2.out ((hA0.out.turn (fun b hb h=>(h.resolve_right (by omega)).2)).ext E2.out) (Or.inl ⟨hBl,hKB⟩)
      go_wp2_with fail
      refine hCall.out.mono ?_
      intro e w3 hst
      have HST:Hid (Step n B (fun b=>(b < w.heap.size∧K b)∨b=w.heap.size) w2 q e w3):=hst
      obtain⟨rfl,hU,-,-⟩:=hst
      have R3:Hid (RyAt w3 w.heap.size (.int .i64 0) (.int .i64 0) (.string ByteArray.empty)):=by
        obtain⟨h1,⟨c0,c1,c2⟩,f0,f1,f2⟩:=R1.out.ext HE2.out
        have hn0:=fun o=>hU.at_ne w.heap.size o (by omega) h1
        exact⟨Nat.lt_of_lt_of_le h1 hU.2.1,⟨(hn0 0).1.trans c0,(hn0 1).1.trans c1,(hn0 2).1.trans c2⟩,(hn0 0).2.trans f0,(hn0 1).2.trans f1,(hn0 2).2.trans f2⟩
      clear hU
      unfold yagg
      obtain⟨p0,⟨c0,c1,c2⟩,m0,m1,m2⟩:=R3.out
      go_wp2
      have hry:=ry_put (x:=.int .i64 q.1.code) (y:=.int .i64 q.1.value) (z:=.string q.1.path) R3.out
      unfold put3R at hry
      obtain⟨y0,y1,y2⟩:=hry
      exact bodyPost_ret (v:=yagg q.1.code q.1.value q.1.path) (by simp [results,Tryz.results190,go_sem,yagg,y0,y1,y2]) rfl (by exact stepW_done hBl E2.out hR2 HST.out rfl)
end Go.Proofs.YtpdejinkmnhioaaGreatDoor
