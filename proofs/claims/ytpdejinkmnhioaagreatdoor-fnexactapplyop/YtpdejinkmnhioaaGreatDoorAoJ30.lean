/- YA3t, YA5k5, YA3g, YA3h, YA5k6, in one text. -/
import Derived.Test.YtpdejinkmnhioaaGreatDoorAoJ24
import Derived.Test.YtpdejinkmnhioaaGreatDoorAoJ29
import Derived.Test.YtpdejinkmnhioaaGreatDoorAoJ9
import Derived.Test.YtpdejinkmnhioaaGreatDoorAoJ21
import Derived.Test.YtpdejinkmnhioaaGreatDoorAoJ10
import Derived.Test.YtpdejinkmnhioaaGreatDoorAoMk
namespace Go.Proofs.YtpdejinkmnhioaaGreatDoor
open Go.RowKit
set_option linter.unusedSimpArgs false in
set_option maxHeartbeats 4000000 in
set_option maxRecDepth 100000 in
theorem setStep1_ok (n B D:Nat) (s:Stt) (p:ByteArray) (d nv:Int) (k:Nat) (z:Zn) (rp:ByteArray) (rs:List Zn) (q:Ry × Stt) (w:World) (K:Nat→Prop) (hA:StAt n B K w s) (hKD:w.cell? ⟨D,0,none⟩=some (.string p)∧w.cell? ⟨D,1,none⟩=some (.int .i64 d)∧w.cell? ⟨D,2,none⟩=some (.int .i64 nv)) (hND:D≠B) (hKB:K B) (hn:n≤w.heap.size) (hr:Sta.right s) (hgd:Gd w) (hc:Tre.setV s.nodes p d nv=(0,rp,rs)) (hU:Tre.Up rs) (hrl:rs.length≤1048576) (hat:Tre.has rs p=true∧Tre.cut rs p.data.toList=k) (hz:rs[k]?=some z) (hq:q.1=⟨0,z.version,⟨#[]⟩⟩∧q.2 = { s with nodes:=rs }) :
    Calls Tryz.prog 230 #[.pointer (some ⟨B,0,none⟩),.pointer (some ⟨D,0,none⟩)] w (Step n B K w (q)):=by
  obtain⟨vn,vs,vm,hX,hH⟩:=hA
  obtain⟨hr1,hr2,hr3⟩:=hr
  have hLD:=World.block_lt_of_cell? w _ hKD.1
  try simp only at hLD
  have HO:Hid (∀ wx,Ext w wx→Calls Tryz.prog 231 #[vn,.string p,.int .i64 d,.int .i64 nv] wx (ZRet wx 0 rp rs)):=fun wx he=>by have h:=implSetZ_any vn s.nodes p d nv wx (hgd.ext he) (hH.slice.1.ext he);rw [hc] at h;exact h
  have HQ:Hid (q.1=⟨0,z.version,⟨#[]⟩⟩∧q.2 = { s with nodes:=rs }):=hq
  have hrp:0 < rs.length:=by have:=(List.getElem?_eq_some_iff.1 hz).1;omega
  have HFN:Hid (∀ (g off cg:Nat) (wx:World),NSlice wx (.slice (some ⟨g,off,none⟩) rs.length cg) rs→Calls Tryz.prog 216 #[.slice (some ⟨g,off,none⟩) rs.length cg,.string p] wx fun e w'=>e = .returned (.pointer (some ⟨g,off+k * 5,none⟩))∧Ext wx w'):=fun g off cg wx hS=>by
    have h:=findNode_any g off cg rs p wx hS hU hrl
    rw [show ptrV g off rs p = .pointer (some ⟨g,off+k * 5,none⟩) from ptrV_hit hat.1 hat.2] at h
    exact h
  have HZ:Hid (rs[k]?=some z):=hz
  clear hz hat hU
  clear hc hq hgd
  obtain⟨an,cn,rfl⟩:=hH.slice.1.vis
  refine n22z ?_
  intro HX HH hBl
  refine n53z ?_
  intro HS
  clear hX hH hr1 hr2 hr3 hKD
  go_enter Tryz.func230,Tryz.ntmps230
  go_wp2
  generalize hw1:World.alloc w _=w1
  refine n5z ?_
  intro E1 R1
  have hs1:w.heap.size < w1.heap.size:=by rw [← hw1];simp
  clear hw1
  refine n63z ?_
  intro HS1 s0 s1 s2 s3
  go_region_held3 (fun W=>W.cell? ⟨B,0,none⟩=some (.slice an s.nodes.length cn)∧W.cell? ⟨D,0,none⟩=some (.string p)∧W.cell? ⟨D,1,none⟩=some (.int .i64 d)∧W.cell? ⟨D,2,none⟩=some (.int .i64 nv)) (first | exact⟨s0,s1,s2,s3⟩ | exact HS1.out _ ((Ext.refl _).drew) | exact HS1.out _ (((Ext.refl _).drew).alloc _) | exact HS1.out _ ((Ext.refl _).alloc _) | exact HS1.out _ HE2.out | exact HS1.out _ (HE2.out.alloc _) | exact HS1.out _ (((HE2.out.setCell (p:=⟨w1.heap.size,0,none⟩) (Nat.le_refl _) _).setCell (p:=⟨w1.heap.size,1,none⟩) (Nat.le_refl _) _).setCell (p:=⟨w1.heap.size,2,none⟩) (Nat.le_refl _) _) | exact HS1.out _ ((((HE2.out.alloc _).setCell (p:=⟨w2.heap.size,0,none⟩) HE2.out.size _).setCell (p:=⟨w2.heap.size,1,none⟩) HE2.out.size _).setCell (p:=⟨w2.heap.size,2,none⟩) HE2.out.size _) | go_keep) (first | (go_at_call 231;refine (HO.out _ (E1.out.trans (by first | exact (Ext.refl _).drew | exact ((Ext.refl _).drew).alloc _ | exact Ext.refl _))).mono ?_;rintro e w2 ⟨v,g,rfl,hg,hO,hb⟩;obtain⟨off,cg,rfl⟩:=hO.visN hrp;unfold zr;have HE2:Hid (Ext w1 w2):=(by first | exact ((Ext.refl _).drew).trans hb | exact (((Ext.refl _).drew).alloc _).trans hb);have HG2:Hid (w1.heap.size≤g):=(by (try simp at hg);show _≤_;omega);have HO2:Hid (Own w2 (.slice (some ⟨g,off,none⟩) rs.length cg) g rs):=hO;(first | (have hq:w1.heap.size < w2.heap.size:=(by have hh:=hb.size;simp at hh;omega);have hg1:w1.heap.size < g:=(by (try simp at hg);omega);have zq:Hid (w2.cell? ⟨w1.heap.size,0,none⟩=some (.int .i64 0)∧w2.cell? ⟨w1.heap.size,1,none⟩=some (.string ByteArray.empty)∧w2.cell? ⟨w1.heap.size,2,none⟩=some (.slice none 0 0)∧w2.frozen? ⟨w1.heap.size,0,none⟩=false∧w2.frozen? ⟨w1.heap.size,1,none⟩=false∧w2.frozen? ⟨w1.heap.size,2,none⟩=false):=(by have hbb:=(Ext.cell hb);exact⟨by simpa using (hbb.1 (World.drew w1).heap.size 0 (by simp)).trans (show _=some (.int .i64 0) by first | (simp;done) | (simp;rfl)),by simpa using (hbb.1 (World.drew w1).heap.size 1 (by simp)).trans (show _=some (.string ByteArray.empty) by first | (simp;done) | (simp;rfl)),by simpa using (hbb.1 (World.drew w1).heap.size 2 (by simp)).trans (show _=some (.slice none 0 0) by first | (simp;done) | (simp;rfl)),by simpa using (hbb.2 (World.drew w1).heap.size 0 (by simp)).trans (show _=false by simp),by simpa using (hbb.2 (World.drew w1).heap.size 1 (by simp)).trans (show _=false by simp),by simpa using (hbb.2 (World.drew w1).heap.size 2 (by simp)).trans (show _=false by simp)⟩);obtain⟨z0,z1,z2,f0,f1,f2⟩:=zq.out) | skip);clear hb hg hO))
  all_goals
    first
    | (have HE3:Hid (Ext w1 (World.setCell (World.setCell (World.setCell w2 ⟨w1.heap.size,0,none⟩ (.int .i64 0)) ⟨w1.heap.size,1,none⟩ (.string rp)) ⟨w1.heap.size,2,none⟩ (.slice (some ⟨g,off,none⟩) rs.length cg))):=(((HE2.out.setCell (p:=⟨w1.heap.size,0,none⟩) (Nat.le_refl _) _).setCell (p:=⟨w1.heap.size,1,none⟩) (Nat.le_refl _) _).setCell (p:=⟨w1.heap.size,2,none⟩) (Nat.le_refl _) _)
       have K3:Hid ((World.setCell (World.setCell (World.setCell w2 ⟨w1.heap.size,0,none⟩ (.int .i64 0)) ⟨w1.heap.size,1,none⟩ (.string rp)) ⟨w1.heap.size,2,none⟩ (.slice (some ⟨g,off,none⟩) rs.length cg)).cell? ⟨w1.heap.size,0,none⟩=some (.int .i64 0)∧(World.setCell (World.setCell (World.setCell w2 ⟨w1.heap.size,0,none⟩ (.int .i64 0)) ⟨w1.heap.size,1,none⟩ (.string rp)) ⟨w1.heap.size,2,none⟩ (.slice (some ⟨g,off,none⟩) rs.length cg)).cell? ⟨w1.heap.size,1,none⟩=some (.string rp)∧(World.setCell (World.setCell (World.setCell w2 ⟨w1.heap.size,0,none⟩ (.int .i64 0)) ⟨w1.heap.size,1,none⟩ (.string rp)) ⟨w1.heap.size,2,none⟩ (.slice (some ⟨g,off,none⟩) rs.length cg)).cell? ⟨w1.heap.size,2,none⟩=some (.slice (some ⟨g,off,none⟩) rs.length cg)):=(by exact⟨by rw [iset_ne _ _ _ _ _ _ (by omega)];rw [iset_ne _ _ _ _ _ _ (by omega)];apply iset_eq;exact⟨_,z0⟩,by rw [iset_ne _ _ _ _ _ _ (by omega)];apply iset_eq;rw [iset_ne _ _ _ _ _ _ (by omega)];exact⟨_,z1⟩,by apply iset_eq;rw [iset_ne _ _ _ _ _ _ (by omega)];rw [iset_ne _ _ _ _ _ _ (by omega)];exact⟨_,z2⟩⟩)
       have HO3:Hid (Own (World.setCell (World.setCell (World.setCell w2 ⟨w1.heap.size,0,none⟩ (.int .i64 0)) ⟨w1.heap.size,1,none⟩ (.string rp)) ⟨w1.heap.size,2,none⟩ (.slice (some ⟨g,off,none⟩) rs.length cg)) (.slice (some ⟨g,off,none⟩) rs.length cg) g rs):=HO2.out.updS ((((Upd.refl w1.heap.size w2).setAt 0 _).setAt 1 _).setAt 2 _) (fun _=>by omega)
       generalize (World.setCell (World.setCell (World.setCell w2 ⟨w1.heap.size,0,none⟩ (.int .i64 0)) ⟨w1.heap.size,1,none⟩ (.string rp)) ⟨w1.heap.size,2,none⟩ (.slice (some ⟨g,off,none⟩) rs.length cg))=w3 at HE3 K3 HO3 ⊢
       obtain⟨qb,hqb⟩:∃ qb,qb=w1.heap.size:=⟨_,rfl⟩
       have hq3:w1.heap.size≤qb:=by omega
       rw [← hqb] at K3 ⊢
       clear hqb)
    | (have HE3:Hid (Ext w1 (World.alloc w2 (.cells #[.int .i64 0,.string rp,.slice (some ⟨g,off,none⟩) rs.length cg] 148))):=HE2.out.alloc _
       have K3:Hid ((World.alloc w2 (.cells #[.int .i64 0,.string rp,.slice (some ⟨g,off,none⟩) rs.length cg] 148)).cell? ⟨w2.heap.size,0,none⟩=some (.int .i64 0)∧(World.alloc w2 (.cells #[.int .i64 0,.string rp,.slice (some ⟨g,off,none⟩) rs.length cg] 148)).cell? ⟨w2.heap.size,1,none⟩=some (.string rp)∧(World.alloc w2 (.cells #[.int .i64 0,.string rp,.slice (some ⟨g,off,none⟩) rs.length cg] 148)).cell? ⟨w2.heap.size,2,none⟩=some (.slice (some ⟨g,off,none⟩) rs.length cg)):=(by exact⟨by simp,by simp,by simp⟩)
       have HO3:Hid (Own (World.alloc w2 (.cells #[.int .i64 0,.string rp,.slice (some ⟨g,off,none⟩) rs.length cg] 148)) (.slice (some ⟨g,off,none⟩) rs.length cg) g rs):=HO2.out.ext ((Ext.refl w2).alloc (.cells #[.int .i64 0,.string rp,.slice (some ⟨g,off,none⟩) rs.length cg] 148))
       have hq3:w1.heap.size≤w2.heap.size:=HE2.out.size
       generalize (World.alloc w2 (.cells #[.int .i64 0,.string rp,.slice (some ⟨g,off,none⟩) rs.length cg] 148))=w3 at HE3 K3 HO3 ⊢
       generalize w2.heap.size=qb at K3 hq3 ⊢)
  all_goals
    obtain⟨k0,k1,k2⟩:=K3.out
    obtain⟨q0,⟨b0,b1,b2,b3⟩,l0,l1,l2,l3⟩:=HX.out.ext (E1.out.trans HE3.out)
    obtain⟨p0,⟨c0,c1,c2⟩,m0,m1,m2⟩:=R1.out.ext HE3.out
    have hn1:¬ qb=B:=by omega
    have hn2:¬ qb=w.heap.size:=by omega
    have hn3:¬ B=w.heap.size:=by omega
    have hg9:=HG2.out
    have HO4:Hid (Own (w3.setCell ⟨B,0,none⟩ (.slice (some ⟨g,off,none⟩) rs.length cg)) (.slice (some ⟨g,off,none⟩) rs.length cg) g rs):=HO3.out.updS ((Upd.refl B w3).setAt 0 _) (fun _=>by omega)
    have HD:Hid (w3.cell? ⟨D,0,none⟩=some (.string p)):=((HS1.out _ HE3.out).2.1)
    have hgl:=HO3.out.ltS hrp
    have hDB:¬ D=B:=hND
    go_wp2
    generalize hw4:World.setCell w3 _ _=w4
    have HE4:Hid ((w3.setCell ⟨B,0,none⟩ (.slice (some ⟨g,off,none⟩) rs.length cg))=w4):=hw4
    have s4:w4.cell? ⟨B,0,none⟩=some (.slice (some ⟨g,off,none⟩) rs.length cg):=by rw [← hw4];exact iset_eq _ _ _ _ ⟨_,b0⟩
    have d4:w4.cell? ⟨D,0,none⟩=some (.string p):=by rw [← hw4,iset_ne _ _ _ _ _ _ (Or.inl (by omega))];exact HD.out
    have v4:w4.cell? ⟨g,off+k * 5+2,none⟩=some (.int .i64 z.version):=by have h:=HO4.out.atN hrp;rw [hw4] at h;exact (h.1 k z HZ.out).2.2.1
    have HO5:Hid (Own w4 (.slice (some ⟨g,off,none⟩) rs.length cg) g rs):=by show Own w4 _ _ _;rw [← hw4];exact HO4.out
    have RY4:Hid (RyAt w4 w.heap.size (.int .i64 0) (.int .i64 0) (.string ByteArray.empty)):=by show RyAt w4 _ _ _ _;rw [← hw4];exact (R1.out.ext HE3.out).other (by omega)
    have HS4:Hid (∀ W,Ext w4 W→W.cell? ⟨B,0,none⟩=some (.slice (some ⟨g,off,none⟩) rs.length cg)∧W.cell? ⟨D,0,none⟩=some (.string p)∧W.cell? ⟨g,off+k * 5+2,none⟩=some (.int .i64 z.version)):=fun W he=>⟨((Ext.cell he).1 _ _ (World.block_lt_of_cell? _ _ s4)).trans s4,((Ext.cell he).1 _ _ (World.block_lt_of_cell? _ _ d4)).trans d4,((Ext.cell he).1 _ _ (World.block_lt_of_cell? _ _ v4)).trans v4⟩
    clear hw4 p0 c0 c1 c2 m0 m1 m2 b0 b1 b2 b3 l0 l1 l2 l3 q0
    go_region_held3 (fun W=>W.cell? ⟨B,0,none⟩=some (.slice (some ⟨g,off,none⟩) rs.length cg)∧W.cell? ⟨D,0,none⟩=some (.string p)∧W.cell? ⟨g,off+k * 5+2,none⟩=some (.int .i64 z.version)) (first | exact⟨s4,d4,v4⟩ | exact HS4.out _ ((Ext.refl _).drew) | exact HS4.out _ HE5.out | exact⟨by rw [iset_ne _ _ _ _ _ _ (Or.inl (by omega)),iset_ne _ _ _ _ _ _ (Or.inl (by omega)),iset_ne _ _ _ _ _ _ (Or.inl (by omega))];exact s5,by rw [iset_ne _ _ _ _ _ _ (Or.inl (by omega)),iset_ne _ _ _ _ _ _ (Or.inl (by omega)),iset_ne _ _ _ _ _ _ (Or.inl (by omega))];exact d5,by rw [iset_ne _ _ _ _ _ _ (Or.inl (by omega)),iset_ne _ _ _ _ _ _ (Or.inl (by omega)),iset_ne _ _ _ _ _ _ (Or.inl (by omega))];exact v5⟩ | go_keep) (first | (go_at_call 216;refine (HFN.out _ _ _ _ (HO5.out.ext (by first | exact (Ext.refl _).drew | exact Ext.refl _)).slice).mono ?_;rintro e w5 ⟨rfl,hb⟩;have HE5:Hid (Ext w4 w5):=(by first | exact ((Ext.refl _).drew).trans hb | exact hb);obtain⟨p0,⟨c0,c1,c2⟩,m0,m1,m2⟩:=RY4.out.ext HE5.out;obtain⟨s5,d5,v5⟩:=HS4.out _ HE5.out;clear hb s4 d4 v4))
  all_goals
    (try go_wp2)
    have hry:=ry_put (x:=.int .i64 (0)) (y:=.int .i64 (z.version)) (z:=.string ⟨#[]⟩) (show RyAt w5 w.heap.size (.int .i64 0) (.int .i64 0) (.string ByteArray.empty) from RY4.out.ext HE5.out)
    unfold put3R at hry
    obtain⟨y0,y1,y2⟩:=hry
    exact bodyPost_ret (v:=yagg (0) (z.version) ⟨#[]⟩) (by simp [results,Tryz.results230,go_sem,yagg,y0,y1,y2]) rfl (by exact stepZ_done HX.out HH.out hKB hn (E1.out.trans HE3.out) HO3.out (by omega) (by rw [HE4.out];exact HE5.out) (fun _=>HQ.out.2) (by rw [HQ.out.1]))
end Go.Proofs.YtpdejinkmnhioaaGreatDoor
namespace Go.Proofs.YtpdejinkmnhioaaGreatDoor
open Go.RowKit
set_option maxHeartbeats 400000 in
set_option maxRecDepth 100000 in
theorem liveStep_5 (n B:Nat) (s:Stt) (c:Int) (p:ByteArray) (d v:Int) (sq ow:Bool) (w:World) (hn:n≤w.heap.size) (hr:Sta.right s) (hgd:Gd w) (hp:Pth.faultI p.data.toList=0) :
    Calls Tryz.prog 134 #[.int .i64 c,.iface 249 (.agg #[.string p,.int .i64 d,.int .i64 v])] w (Maker (Ses.live s.ses c s.now=true) n B w s (Sta.liveT s c ⟨5,p,d,v,sq,ow⟩)):=by
  have tatoCreate:∀ W:World,(Instr.typeAssert (.iface 249 (.agg #[.string p,.int .i64 d,.int .i64 v])) 184 243 true).run Tryz.prog W = .ok (.tuple #[.agg #[.string ByteArray.empty,.int .i64 0,.bool false,.bool false],.bool false]) W:=fun W=>by kernel_rfl
  have tatoDelete:∀ W:World,(Instr.typeAssert (.iface 249 (.agg #[.string p,.int .i64 d,.int .i64 v])) 184 246 true).run Tryz.prog W = .ok (.tuple #[.agg #[.string ByteArray.empty,.int .i64 0],.bool false]) W:=fun W=>by kernel_rfl
  have tatoSet:∀ W:World,(Instr.typeAssert (.iface 249 (.agg #[.string p,.int .i64 d,.int .i64 v])) 184 249 true).run Tryz.prog W = .ok (.tuple #[.agg #[.string p,.int .i64 d,.int .i64 v],.bool true]) W:=fun W=>by kernel_rfl
  have HM:Hid (∀ wx,Ext w wx→Calls Tryz.prog 194 #[.agg #[.string p,.int .i64 d,.int .i64 v]] wx (Maker (Ses.live s.ses c s.now=true) n B w s (Sta.liveT s c ⟨5,p,d,v,sq,ow⟩))):=by
    intro w0 hE00
    refine (setStep_mk p d v w0).mono ?_
    rintro e w1 ⟨D,rfl,hD,hb⟩
    have hE0:=hE00.trans hb
    refine⟨230,#[.pointer (some ⟨D,0,none⟩)],rfl,fun _ _=>by kernel_rfl,fun _=>?_,hE0⟩
    intro wx K he hA hKB
    rw [show (#[Value.pointer (some ⟨B,0,none⟩)] ++ #[.pointer (some ⟨D,0,none⟩)]:Array Value) = #[.pointer (some ⟨B,0,none⟩),.pointer (some ⟨D,0,none⟩)] from by simp]
    rw [Sta.liveT_set]
    by_cases h0:(Tre.setT s.nodes p d v).1=0
    · obtain⟨k,z,rs,hT,hfr,hat,hz,hlen,hv⟩:=Sta.set_done hr.1 h0
      rw [hT,hv,Sta.treeT_ok rfl]
      exact setStep1_ok n B D s p d v k z ⟨#[]⟩ rs _ wx K hA (⟨(Ext.cell he).1 _ _ (World.block_lt_of_cell? _ _ hD.1) |>.trans hD.1,(Ext.cell he).1 _ _ (World.block_lt_of_cell? _ _ hD.2.1) |>.trans hD.2.1,(Ext.cell he).1 _ _ (World.block_lt_of_cell? _ _ hD.2.2) |>.trans hD.2.2⟩) (fun e=>by subst e;obtain⟨vn,vs,vm,hX,hH⟩:=hA;have h9:=hX.2.1.1;rw [((Ext.cell he).1 _ _ (World.block_lt_of_cell? _ _ hD.1)).trans hD.1] at h9;obtain⟨a9,c9,h8⟩:=hH.slice.1.vis;rw [h8] at h9;cases h9) hKB (by have:=hE0.size;have:=he.size;omega) hr (hgd.ext (hE0.trans he)) ((Sta.setV_T hr.1 hp).trans hT) (Tre.fault_up hfr) (by omega) hat hz ⟨rfl,rfl⟩
    · rcases hT:Tre.setT s.nodes p d v with ⟨rc,rp,rs⟩
      rw [hT] at h0
      rw [Sta.treeT_bad h0]
      exact setStep1_bad n B D s p d v rc rp rs _ wx K hA (⟨(Ext.cell he).1 _ _ (World.block_lt_of_cell? _ _ hD.1) |>.trans hD.1,(Ext.cell he).1 _ _ (World.block_lt_of_cell? _ _ hD.2.1) |>.trans hD.2.1,(Ext.cell he).1 _ _ (World.block_lt_of_cell? _ _ hD.2.2) |>.trans hD.2.2⟩) hKB (by have:=hE0.size;have:=he.size;omega) hr (hgd.ext (hE0.trans he)) ((Sta.setV_T hr.1 hp).trans hT) ⟨rfl,h0⟩
  clear hr hgd hp
  generalize Sta.liveT s c ⟨5,p,d,v,sq,ow⟩=q at *
  exact m11z
end Go.Proofs.YtpdejinkmnhioaaGreatDoor
namespace Go.Proofs.YtpdejinkmnhioaaGreatDoor
open Go.RowKit
set_option linter.unusedSimpArgs false in
set_option maxHeartbeats 4000000 in
set_option maxRecDepth 100000 in
theorem getStep1_bad (n B D:Nat) (s:Stt) (p:ByteArray) (rc:Int) (rp:ByteArray) (rs:List Zn) (q:Ry × Stt) (w:World) (K:Nat→Prop) (hA:StAt n B K w s) (hKD:w.cell? ⟨D,0,none⟩=some (.string p))   (hr:Sta.right s) (hgd:Gd w) (hc:Tre.getT s.nodes p=(rc,rp,rs)) (hq:q=(Sta.bad rc,s)∧rc≠0) :
    Calls Tryz.prog 232 #[.pointer (some ⟨B,0,none⟩),.pointer (some ⟨D,0,none⟩)] w (Step n B K w (q)):=by
  obtain⟨vn,vs,vm,hX,hH⟩:=hA
  obtain⟨hr1,hr2,hr3⟩:=hr
  have hLD:=World.block_lt_of_cell? w _ hKD
  try simp only at hLD
  refine n68z ?_
  intro HO HQ
  clear hc hq hgd
  obtain⟨an,cn,rfl⟩:=hH.slice.1.vis
  refine n22z ?_
  intro HX HH hBl
  refine n51z ?_
  intro HS
  clear hX hH hr1 hr2 hr3 hKD
  go_enter Tryz.func232,Tryz.ntmps232
  go_wp2
  generalize hw1:World.alloc w _=w1
  refine n5z ?_
  intro E1 R1
  have hs1:w.heap.size < w1.heap.size:=by rw [← hw1];simp
  clear hw1
  refine n25z ?_
  intro HS1 s0 s1
  go_region_held3 (fun W=>W.cell? ⟨B,0,none⟩=some (.slice an s.nodes.length cn)∧W.cell? ⟨D,0,none⟩=some (.string p)) (first | exact⟨s0,s1⟩ | exact HS1.out _ ((Ext.refl _).drew) | exact HS1.out _ (((Ext.refl _).drew).alloc _) | exact HS1.out _ ((Ext.refl _).alloc _) | exact HS1.out _ HE2.out | exact HS1.out _ (HE2.out.alloc _) | exact HS1.out _ (((HE2.out.setCell (p:=⟨w1.heap.size,0,none⟩) (Nat.le_refl _) _).setCell (p:=⟨w1.heap.size,1,none⟩) (Nat.le_refl _) _).setCell (p:=⟨w1.heap.size,2,none⟩) (Nat.le_refl _) _) | exact HS1.out _ ((((HE2.out.alloc _).setCell (p:=⟨w2.heap.size,0,none⟩) HE2.out.size _).setCell (p:=⟨w2.heap.size,1,none⟩) HE2.out.size _).setCell (p:=⟨w2.heap.size,2,none⟩) HE2.out.size _) | go_keep) (first | (go_at_call 233;refine (HO.out _ (E1.out.trans (by first | exact (Ext.refl _).drew | exact ((Ext.refl _).drew).alloc _ | exact Ext.refl _))).mono ?_;rintro e w2 ⟨v,g,rfl,hg,hO,hb⟩;obtain⟨ag,cg,rfl⟩:=hO.vis;unfold zr;have HE2:Hid (Ext w1 w2):=(by first | exact ((Ext.refl _).drew).trans hb | exact (((Ext.refl _).drew).alloc _).trans hb);have HG2:Hid (w1.heap.size≤g):=(by (try simp at hg);show _≤_;omega);have HO2:Hid (Own w2 (.slice ag rs.length cg) g rs):=hO;(first | (have hq:w1.heap.size < w2.heap.size:=(by have hh:=hb.size;simp at hh;omega);have hg1:w1.heap.size < g:=(by (try simp at hg);omega);have zq:Hid (w2.cell? ⟨w1.heap.size,0,none⟩=some (.int .i64 0)∧w2.cell? ⟨w1.heap.size,1,none⟩=some (.string ByteArray.empty)∧w2.cell? ⟨w1.heap.size,2,none⟩=some (.slice none 0 0)∧w2.frozen? ⟨w1.heap.size,0,none⟩=false∧w2.frozen? ⟨w1.heap.size,1,none⟩=false∧w2.frozen? ⟨w1.heap.size,2,none⟩=false):=(by have hbb:=(Ext.cell hb);exact⟨by simpa using (hbb.1 (World.drew w1).heap.size 0 (by simp)).trans (show _=some (.int .i64 0) by first | (simp;done) | (simp;rfl)),by simpa using (hbb.1 (World.drew w1).heap.size 1 (by simp)).trans (show _=some (.string ByteArray.empty) by first | (simp;done) | (simp;rfl)),by simpa using (hbb.1 (World.drew w1).heap.size 2 (by simp)).trans (show _=some (.slice none 0 0) by first | (simp;done) | (simp;rfl)),by simpa using (hbb.2 (World.drew w1).heap.size 0 (by simp)).trans (show _=false by simp),by simpa using (hbb.2 (World.drew w1).heap.size 1 (by simp)).trans (show _=false by simp),by simpa using (hbb.2 (World.drew w1).heap.size 2 (by simp)).trans (show _=false by simp)⟩);obtain⟨z0,z1,z2,f0,f1,f2⟩:=zq.out) | skip);clear hb hg hO))
  all_goals
    first
    | (have HE3:Hid (Ext w1 (World.setCell (World.setCell (World.setCell w2 ⟨w1.heap.size,0,none⟩ (.int .i64 rc)) ⟨w1.heap.size,1,none⟩ (.string rp)) ⟨w1.heap.size,2,none⟩ (.slice ag rs.length cg))):=(((HE2.out.setCell (p:=⟨w1.heap.size,0,none⟩) (Nat.le_refl _) _).setCell (p:=⟨w1.heap.size,1,none⟩) (Nat.le_refl _) _).setCell (p:=⟨w1.heap.size,2,none⟩) (Nat.le_refl _) _)
       have K3:Hid ((World.setCell (World.setCell (World.setCell w2 ⟨w1.heap.size,0,none⟩ (.int .i64 rc)) ⟨w1.heap.size,1,none⟩ (.string rp)) ⟨w1.heap.size,2,none⟩ (.slice ag rs.length cg)).cell? ⟨w1.heap.size,0,none⟩=some (.int .i64 rc)∧(World.setCell (World.setCell (World.setCell w2 ⟨w1.heap.size,0,none⟩ (.int .i64 rc)) ⟨w1.heap.size,1,none⟩ (.string rp)) ⟨w1.heap.size,2,none⟩ (.slice ag rs.length cg)).cell? ⟨w1.heap.size,1,none⟩=some (.string rp)∧(World.setCell (World.setCell (World.setCell w2 ⟨w1.heap.size,0,none⟩ (.int .i64 rc)) ⟨w1.heap.size,1,none⟩ (.string rp)) ⟨w1.heap.size,2,none⟩ (.slice ag rs.length cg)).cell? ⟨w1.heap.size,2,none⟩=some (.slice ag rs.length cg)):=(by exact⟨by rw [iset_ne _ _ _ _ _ _ (by omega)];rw [iset_ne _ _ _ _ _ _ (by omega)];apply iset_eq;exact⟨_,z0⟩,by rw [iset_ne _ _ _ _ _ _ (by omega)];apply iset_eq;rw [iset_ne _ _ _ _ _ _ (by omega)];exact⟨_,z1⟩,by apply iset_eq;rw [iset_ne _ _ _ _ _ _ (by omega)];rw [iset_ne _ _ _ _ _ _ (by omega)];exact⟨_,z2⟩⟩)
       have HO3:Hid (Own (World.setCell (World.setCell (World.setCell w2 ⟨w1.heap.size,0,none⟩ (.int .i64 rc)) ⟨w1.heap.size,1,none⟩ (.string rp)) ⟨w1.heap.size,2,none⟩ (.slice ag rs.length cg)) (.slice ag rs.length cg) g rs):=HO2.out.updS ((((Upd.refl w1.heap.size w2).setAt 0 _).setAt 1 _).setAt 2 _) (fun _=>by omega)
       generalize (World.setCell (World.setCell (World.setCell w2 ⟨w1.heap.size,0,none⟩ (.int .i64 rc)) ⟨w1.heap.size,1,none⟩ (.string rp)) ⟨w1.heap.size,2,none⟩ (.slice ag rs.length cg))=w3 at HE3 K3 HO3 ⊢
       obtain⟨qb,hqb⟩:∃ qb,qb=w1.heap.size:=⟨_,rfl⟩
       have hq3:w1.heap.size≤qb:=by omega
       rw [← hqb] at K3 ⊢
       clear hqb)
    | (have HE3:Hid (Ext w1 (World.alloc w2 (.cells #[.int .i64 rc,.string rp,.slice ag rs.length cg] 148))):=HE2.out.alloc _
       have K3:Hid ((World.alloc w2 (.cells #[.int .i64 rc,.string rp,.slice ag rs.length cg] 148)).cell? ⟨w2.heap.size,0,none⟩=some (.int .i64 rc)∧(World.alloc w2 (.cells #[.int .i64 rc,.string rp,.slice ag rs.length cg] 148)).cell? ⟨w2.heap.size,1,none⟩=some (.string rp)∧(World.alloc w2 (.cells #[.int .i64 rc,.string rp,.slice ag rs.length cg] 148)).cell? ⟨w2.heap.size,2,none⟩=some (.slice ag rs.length cg)):=(by exact⟨by simp,by simp,by simp⟩)
       have HO3:Hid (Own (World.alloc w2 (.cells #[.int .i64 rc,.string rp,.slice ag rs.length cg] 148)) (.slice ag rs.length cg) g rs):=HO2.out.ext ((Ext.refl w2).alloc (.cells #[.int .i64 rc,.string rp,.slice ag rs.length cg] 148))
       have hq3:w1.heap.size≤w2.heap.size:=HE2.out.size
       generalize (World.alloc w2 (.cells #[.int .i64 rc,.string rp,.slice ag rs.length cg] 148))=w3 at HE3 K3 HO3 ⊢
       generalize w2.heap.size=qb at K3 hq3 ⊢)
  all_goals
    obtain⟨k0,k1,k2⟩:=K3.out
    obtain⟨q0,⟨b0,b1,b2,b3⟩,l0,l1,l2,l3⟩:=HX.out.ext (E1.out.trans HE3.out)
    obtain⟨p0,⟨c0,c1,c2⟩,m0,m1,m2⟩:=R1.out.ext HE3.out
    have hn1:¬ qb=B:=by omega
    have hn2:¬ qb=w.heap.size:=by omega
    have hn3:¬ B=w.heap.size:=by omega
    have hg9:=HG2.out
    have hrc:=HQ.out.2
    go_wp2
    have hry:=ry_put (x:=.int .i64 (rc)) (y:=.int .i64 (0)) (z:=.string ⟨#[]⟩) (show RyAt w3 w.heap.size (.int .i64 0) (.int .i64 0) (.string ByteArray.empty) from R1.out.ext HE3.out)
    unfold put3R at hry
    obtain⟨y0,y1,y2⟩:=hry
    exact bodyPost_ret (v:=yagg (rc) (0) ⟨#[]⟩) (by simp [results,Tryz.results232,go_sem,yagg,y0,y1,y2]) rfl (by exact stepR_done HX.out HH.out (E1.out.trans HE3.out) (by rw [HQ.out.1]) (by rw [HQ.out.1];rfl))
end Go.Proofs.YtpdejinkmnhioaaGreatDoor
namespace Go.Proofs.YtpdejinkmnhioaaGreatDoor
open Go.RowKit
set_option linter.unusedSimpArgs false in
set_option maxHeartbeats 4000000 in
set_option maxRecDepth 100000 in
theorem getStep1_ok (n B D:Nat) (s:Stt) (p:ByteArray) (z:Zn) (rp:ByteArray) (q:Ry × Stt) (w:World) (K:Nat→Prop) (hA:StAt n B K w s) (hKD:w.cell? ⟨D,0,none⟩=some (.string p))   (hr:Sta.right s) (hgd:Gd w) (hc:Tre.getT s.nodes p=(0,rp,[z]))  (hq:q=(⟨0,z.data,⟨#[]⟩⟩,s)) :
    Calls Tryz.prog 232 #[.pointer (some ⟨B,0,none⟩),.pointer (some ⟨D,0,none⟩)] w (Step n B K w (q)):=by
  obtain⟨vn,vs,vm,hX,hH⟩:=hA
  obtain⟨hr1,hr2,hr3⟩:=hr
  have hLD:=World.block_lt_of_cell? w _ hKD
  try simp only at hLD
  refine n57z ?_
  intro HO
  have HQ:Hid (q=(⟨0,z.data,⟨#[]⟩⟩,s)):=hq
  clear hc hq hgd
  obtain⟨an,cn,rfl⟩:=hH.slice.1.vis
  refine n22z ?_
  intro HX HH hBl
  refine n51z ?_
  intro HS
  clear hX hH hr1 hr2 hr3 hKD
  go_enter Tryz.func232,Tryz.ntmps232
  go_wp2
  generalize hw1:World.alloc w _=w1
  refine n5z ?_
  intro E1 R1
  have hs1:w.heap.size < w1.heap.size:=by rw [← hw1];simp
  clear hw1
  refine n25z ?_
  intro HS1 s0 s1
  go_region_held3 (fun W=>W.cell? ⟨B,0,none⟩=some (.slice an s.nodes.length cn)∧W.cell? ⟨D,0,none⟩=some (.string p)) (first | exact⟨s0,s1⟩ | exact HS1.out _ ((Ext.refl _).drew) | exact HS1.out _ (((Ext.refl _).drew).alloc _) | exact HS1.out _ ((Ext.refl _).alloc _) | exact HS1.out _ HE2.out | exact HS1.out _ (HE2.out.alloc _) | exact HS1.out _ (((HE2.out.setCell (p:=⟨w1.heap.size,0,none⟩) (Nat.le_refl _) _).setCell (p:=⟨w1.heap.size,1,none⟩) (Nat.le_refl _) _).setCell (p:=⟨w1.heap.size,2,none⟩) (Nat.le_refl _) _) | exact HS1.out _ ((((HE2.out.alloc _).setCell (p:=⟨w2.heap.size,0,none⟩) HE2.out.size _).setCell (p:=⟨w2.heap.size,1,none⟩) HE2.out.size _).setCell (p:=⟨w2.heap.size,2,none⟩) HE2.out.size _) | go_keep) (first | (go_at_call 233;refine (HO.out _ (E1.out.trans (by first | exact (Ext.refl _).drew | exact ((Ext.refl _).drew).alloc _ | exact Ext.refl _))).mono ?_;rintro e w2 ⟨v,g,rfl,hg,hO,hb⟩;obtain⟨off,cg,rfl⟩:=hO.visN Nat.one_pos;unfold zr;have HE2:Hid (Ext w1 w2):=(by first | exact ((Ext.refl _).drew).trans hb | exact (((Ext.refl _).drew).alloc _).trans hb);have HG2:Hid (w1.heap.size≤g):=(by (try simp at hg);show _≤_;omega);have HO2:Hid (Own w2 (.slice (some ⟨g,off,none⟩) 1 cg) g [z]):=hO;(first | (have hq:w1.heap.size < w2.heap.size:=(by have hh:=hb.size;simp at hh;omega);have hg1:w1.heap.size < g:=(by (try simp at hg);omega);have zq:Hid (w2.cell? ⟨w1.heap.size,0,none⟩=some (.int .i64 0)∧w2.cell? ⟨w1.heap.size,1,none⟩=some (.string ByteArray.empty)∧w2.cell? ⟨w1.heap.size,2,none⟩=some (.slice none 0 0)∧w2.frozen? ⟨w1.heap.size,0,none⟩=false∧w2.frozen? ⟨w1.heap.size,1,none⟩=false∧w2.frozen? ⟨w1.heap.size,2,none⟩=false):=(by have hbb:=(Ext.cell hb);exact⟨by simpa using (hbb.1 (World.drew w1).heap.size 0 (by simp)).trans (show _=some (.int .i64 0) by first | (simp;done) | (simp;rfl)),by simpa using (hbb.1 (World.drew w1).heap.size 1 (by simp)).trans (show _=some (.string ByteArray.empty) by first | (simp;done) | (simp;rfl)),by simpa using (hbb.1 (World.drew w1).heap.size 2 (by simp)).trans (show _=some (.slice none 0 0) by first | (simp;done) | (simp;rfl)),by simpa using (hbb.2 (World.drew w1).heap.size 0 (by simp)).trans (show _=false by simp),by simpa using (hbb.2 (World.drew w1).heap.size 1 (by simp)).trans (show _=false by simp),by simpa using (hbb.2 (World.drew w1).heap.size 2 (by simp)).trans (show _=false by simp)⟩);obtain⟨z0,z1,z2,f0,f1,f2⟩:=zq.out) | skip);clear hb hg hO))
  all_goals
    first
    | (have HE3:Hid (Ext w1 (World.setCell (World.setCell (World.setCell w2 ⟨w1.heap.size,0,none⟩ (.int .i64 0)) ⟨w1.heap.size,1,none⟩ (.string rp)) ⟨w1.heap.size,2,none⟩ (.slice (some ⟨g,off,none⟩) 1 cg))):=(((HE2.out.setCell (p:=⟨w1.heap.size,0,none⟩) (Nat.le_refl _) _).setCell (p:=⟨w1.heap.size,1,none⟩) (Nat.le_refl _) _).setCell (p:=⟨w1.heap.size,2,none⟩) (Nat.le_refl _) _)
       have K3:Hid ((World.setCell (World.setCell (World.setCell w2 ⟨w1.heap.size,0,none⟩ (.int .i64 0)) ⟨w1.heap.size,1,none⟩ (.string rp)) ⟨w1.heap.size,2,none⟩ (.slice (some ⟨g,off,none⟩) 1 cg)).cell? ⟨w1.heap.size,0,none⟩=some (.int .i64 0)∧(World.setCell (World.setCell (World.setCell w2 ⟨w1.heap.size,0,none⟩ (.int .i64 0)) ⟨w1.heap.size,1,none⟩ (.string rp)) ⟨w1.heap.size,2,none⟩ (.slice (some ⟨g,off,none⟩) 1 cg)).cell? ⟨w1.heap.size,1,none⟩=some (.string rp)∧(World.setCell (World.setCell (World.setCell w2 ⟨w1.heap.size,0,none⟩ (.int .i64 0)) ⟨w1.heap.size,1,none⟩ (.string rp)) ⟨w1.heap.size,2,none⟩ (.slice (some ⟨g,off,none⟩) 1 cg)).cell? ⟨w1.heap.size,2,none⟩=some (.slice (some ⟨g,off,none⟩) 1 cg)):=(by exact⟨by rw [iset_ne _ _ _ _ _ _ (by omega)];rw [iset_ne _ _ _ _ _ _ (by omega)];apply iset_eq;exact⟨_,z0⟩,by rw [iset_ne _ _ _ _ _ _ (by omega)];apply iset_eq;rw [iset_ne _ _ _ _ _ _ (by omega)];exact⟨_,z1⟩,by apply iset_eq;rw [iset_ne _ _ _ _ _ _ (by omega)];rw [iset_ne _ _ _ _ _ _ (by omega)];exact⟨_,z2⟩⟩)
       have HO3:Hid (Own (World.setCell (World.setCell (World.setCell w2 ⟨w1.heap.size,0,none⟩ (.int .i64 0)) ⟨w1.heap.size,1,none⟩ (.string rp)) ⟨w1.heap.size,2,none⟩ (.slice (some ⟨g,off,none⟩) 1 cg)) (.slice (some ⟨g,off,none⟩) 1 cg) g [z]):=HO2.out.updS ((((Upd.refl w1.heap.size w2).setAt 0 _).setAt 1 _).setAt 2 _) (fun _=>by omega)
       generalize (World.setCell (World.setCell (World.setCell w2 ⟨w1.heap.size,0,none⟩ (.int .i64 0)) ⟨w1.heap.size,1,none⟩ (.string rp)) ⟨w1.heap.size,2,none⟩ (.slice (some ⟨g,off,none⟩) 1 cg))=w3 at HE3 K3 HO3 ⊢
       obtain⟨qb,hqb⟩:∃ qb,qb=w1.heap.size:=⟨_,rfl⟩
       have hq3:w1.heap.size≤qb:=by omega
       rw [← hqb] at K3 ⊢
       clear hqb)
    | (have HE3:Hid (Ext w1 (World.alloc w2 (.cells #[.int .i64 0,.string rp,.slice (some ⟨g,off,none⟩) 1 cg] 148))):=HE2.out.alloc _
       have K3:Hid ((World.alloc w2 (.cells #[.int .i64 0,.string rp,.slice (some ⟨g,off,none⟩) 1 cg] 148)).cell? ⟨w2.heap.size,0,none⟩=some (.int .i64 0)∧(World.alloc w2 (.cells #[.int .i64 0,.string rp,.slice (some ⟨g,off,none⟩) 1 cg] 148)).cell? ⟨w2.heap.size,1,none⟩=some (.string rp)∧(World.alloc w2 (.cells #[.int .i64 0,.string rp,.slice (some ⟨g,off,none⟩) 1 cg] 148)).cell? ⟨w2.heap.size,2,none⟩=some (.slice (some ⟨g,off,none⟩) 1 cg)):=(by exact⟨by simp,by simp,by simp⟩)
       have HO3:Hid (Own (World.alloc w2 (.cells #[.int .i64 0,.string rp,.slice (some ⟨g,off,none⟩) 1 cg] 148)) (.slice (some ⟨g,off,none⟩) 1 cg) g [z]):=HO2.out.ext ((Ext.refl w2).alloc (.cells #[.int .i64 0,.string rp,.slice (some ⟨g,off,none⟩) 1 cg] 148))
       have hq3:w1.heap.size≤w2.heap.size:=HE2.out.size
       generalize (World.alloc w2 (.cells #[.int .i64 0,.string rp,.slice (some ⟨g,off,none⟩) 1 cg] 148))=w3 at HE3 K3 HO3 ⊢
       generalize w2.heap.size=qb at K3 hq3 ⊢)
  all_goals
    obtain⟨k0,k1,k2⟩:=K3.out
    obtain⟨q0,⟨b0,b1,b2,b3⟩,l0,l1,l2,l3⟩:=HX.out.ext (E1.out.trans HE3.out)
    obtain⟨p0,⟨c0,c1,c2⟩,m0,m1,m2⟩:=R1.out.ext HE3.out
    have hn1:¬ qb=B:=by omega
    have hn2:¬ qb=w.heap.size:=by omega
    have hn3:¬ B=w.heap.size:=by omega
    have hg9:=HG2.out
    obtain⟨hN3,hcap⟩:=HO3.out.atN Nat.one_pos
    obtain⟨d0,d1,d2,d3,d4⟩:=hN3 0 z rfl
    rw [Nat.zero_mul,Nat.add_zero] at d0 d1 d2 d3 d4
    have hgl:=HO3.out.ltS Nat.one_pos
    have hcap1:1≤cg:=hcap
    clear hN3 hcap
    go_wp2
    have hry:=ry_put (x:=.int .i64 (0)) (y:=.int .i64 (z.data)) (z:=.string ⟨#[]⟩) (show RyAt w3 w.heap.size (.int .i64 0) (.int .i64 0) (.string ByteArray.empty) from R1.out.ext HE3.out)
    unfold put3R at hry
    obtain⟨y0,y1,y2⟩:=hry
    exact bodyPost_ret (v:=yagg (0) (z.data) ⟨#[]⟩) (by simp [results,Tryz.results232,go_sem,yagg,y0,y1,y2]) rfl (by exact stepR_done HX.out HH.out (E1.out.trans HE3.out) (by rw [HQ.out]) (by rw [HQ.out]))
end Go.Proofs.YtpdejinkmnhioaaGreatDoor
namespace Go.Proofs.YtpdejinkmnhioaaGreatDoor
open Go.RowKit
set_option maxHeartbeats 400000 in
set_option maxRecDepth 100000 in
theorem liveStep_6 (n B:Nat) (s:Stt) (c:Int) (p:ByteArray) (d v:Int) (sq ow:Bool) (w:World)  (hr:Sta.right s) (hgd:Gd w) (hp:Pth.faultI p.data.toList=0) :
    Calls Tryz.prog 134 #[.int .i64 c,.iface 252 (.agg #[.string p])] w (Maker (Ses.live s.ses c s.now=true) n B w s (Sta.liveT s c ⟨6,p,d,v,sq,ow⟩)):=by
  have tatoCreate:∀ W:World,(Instr.typeAssert (.iface 252 (.agg #[.string p])) 184 243 true).run Tryz.prog W = .ok (.tuple #[.agg #[.string ByteArray.empty,.int .i64 0,.bool false,.bool false],.bool false]) W:=fun W=>by kernel_rfl
  have tatoDelete:∀ W:World,(Instr.typeAssert (.iface 252 (.agg #[.string p])) 184 246 true).run Tryz.prog W = .ok (.tuple #[.agg #[.string ByteArray.empty,.int .i64 0],.bool false]) W:=fun W=>by kernel_rfl
  have tatoSet:∀ W:World,(Instr.typeAssert (.iface 252 (.agg #[.string p])) 184 249 true).run Tryz.prog W = .ok (.tuple #[.agg #[.string ByteArray.empty,.int .i64 0,.int .i64 0],.bool false]) W:=fun W=>by kernel_rfl
  have tatoGet:∀ W:World,(Instr.typeAssert (.iface 252 (.agg #[.string p])) 184 252 true).run Tryz.prog W = .ok (.tuple #[.agg #[.string p],.bool true]) W:=fun W=>by kernel_rfl
  have HM:Hid (∀ wx,Ext w wx→Calls Tryz.prog 195 #[.agg #[.string p]] wx (Maker (Ses.live s.ses c s.now=true) n B w s (Sta.liveT s c ⟨6,p,d,v,sq,ow⟩))):=by
    intro w0 hE00
    refine (getStep_mk p w0).mono ?_
    rintro e w1 ⟨D,rfl,hD,hb⟩
    have hE0:=hE00.trans hb
    refine⟨232,#[.pointer (some ⟨D,0,none⟩)],rfl,fun _ _=>by kernel_rfl,fun _=>?_,hE0⟩
    intro wx K he hA _
    rw [show (#[Value.pointer (some ⟨B,0,none⟩)] ++ #[.pointer (some ⟨D,0,none⟩)]:Array Value) = #[.pointer (some ⟨B,0,none⟩),.pointer (some ⟨D,0,none⟩)] from by simp]
    rw [Sta.liveT_read (by simp)]
    rcases Tre.atI_range s.nodes p with ⟨ha,-⟩ | ⟨k,z,ha,hk,hz,-⟩
    · rw [Sta.readT_none (by show Tre.atI s.nodes p < 0;omega)]
      exact getStep1_bad n B D s p 4 ⟨#[]⟩ [] _ wx K hA ((Ext.cell he).1 _ _ (World.block_lt_of_cell? _ _ hD) |>.trans hD) hr (hgd.ext (hE0.trans he)) (Tre.getT_none (Sta.asked_zero hr.1 hp) (by omega)) ⟨rfl,by decide⟩
    · rw [Sta.readT_some (o:=⟨6,p,d,v,sq,ow⟩) ha hz]
      rw [if_pos rfl]
      exact getStep1_ok n B D s p z ⟨#[]⟩ _ wx K hA ((Ext.cell he).1 _ _ (World.block_lt_of_cell? _ _ hD) |>.trans hD) hr (hgd.ext (hE0.trans he)) (Tre.getT_ok (Sta.asked_zero hr.1 hp) ha hz) rfl
  clear hr hgd hp
  generalize Sta.liveT s c ⟨6,p,d,v,sq,ow⟩=q at *
  exact m11z
end Go.Proofs.YtpdejinkmnhioaaGreatDoor
