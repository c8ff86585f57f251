/- YA5k4, I8, YA3s, in one text. -/
import Derived.Test.YtpdejinkmnhioaaGreatDoorAoJ21
import Derived.Test.YtpdejinkmnhioaaGreatDoorAoJ28
import Derived.Test.YtpdejinkmnhioaaGreatDoorAoJ10
import Derived.Test.YtpdejinkmnhioaaGreatDoorAoJ24
import Derived.Test.YtpdejinkmnhioaaGreatDoorAoMk
namespace Go.Proofs.YtpdejinkmnhioaaGreatDoor
open Go.RowKit
set_option maxHeartbeats 400000 in
set_option maxRecDepth 100000 in
theorem liveStep_4 (n B:Nat) (s:Stt) (c:Int) (p:ByteArray) (d v:Int) (sq ow:Bool) (w:World) (hn:n≤w.heap.size) (hr:Sta.right s) (hgd:Gd w) (hp:Pth.faultI p.data.toList=0) :
    Calls Tryz.prog 134 #[.int .i64 c,.iface 246 (.agg #[.string p,.int .i64 v])] w (Maker (Ses.live s.ses c s.now=true) n B w s (Sta.liveT s c ⟨4,p,d,v,sq,ow⟩)):=by
  have tatoCreate:∀ W:World,(Instr.typeAssert (.iface 246 (.agg #[.string p,.int .i64 v])) 184 243 true).run Tryz.prog W = .ok (.tuple #[.agg #[.string ByteArray.empty,.int .i64 0,.bool false,.bool false],.bool false]) W:=fun W=>by kernel_rfl
  have tatoDelete:∀ W:World,(Instr.typeAssert (.iface 246 (.agg #[.string p,.int .i64 v])) 184 246 true).run Tryz.prog W = .ok (.tuple #[.agg #[.string p,.int .i64 v],.bool true]) W:=fun W=>by kernel_rfl
  have HM:Hid (∀ wx,Ext w wx→Calls Tryz.prog 193 #[.agg #[.string p,.int .i64 v]] wx (Maker (Ses.live s.ses c s.now=true) n B w s (Sta.liveT s c ⟨4,p,d,v,sq,ow⟩))):=by
    intro w0 hE00
    refine (deleteStep_mk p v w0).mono ?_
    rintro e w1 ⟨D,rfl,hD,hb⟩
    have hE0:=hE00.trans hb
    refine⟨228,#[.pointer (some ⟨D,0,none⟩)],rfl,fun _ _=>by kernel_rfl,fun _=>?_,hE0⟩
    intro wx K he hA hKB
    rw [show (#[Value.pointer (some ⟨B,0,none⟩)] ++ #[.pointer (some ⟨D,0,none⟩)]:Array Value) = #[.pointer (some ⟨B,0,none⟩),.pointer (some ⟨D,0,none⟩)] from by simp]
    rw [Sta.liveT_delete]
    rcases hT:Tre.delT s.nodes p v with ⟨rc,rp,rs⟩
    have hpp:=Sta.delT_path s.nodes p v
    have hq:=Sta.treeT_q (s:=s) (r:=Tre.delT s.nodes p v) (fun _=>hpp)
    rw [hT] at hq hpp
    simp only at hpp
    subst hpp
    exact deleteStep1_any n B D s p v rc _ rs _ wx K hA (⟨(Ext.cell he).1 _ _ (World.block_lt_of_cell? _ _ hD.1) |>.trans hD.1,(Ext.cell he).1 _ _ (World.block_lt_of_cell? _ _ hD.2) |>.trans hD.2⟩) hKB (by have:=hE0.size;have:=he.size;omega) hr (hgd.ext (hE0.trans he)) ((Sta.delV_T hr.1 hp).trans hT) hq
  clear hr hgd hp
  generalize Sta.liveT s c ⟨4,p,d,v,sq,ow⟩=q at *
  exact m11z
end Go.Proofs.YtpdejinkmnhioaaGreatDoor
namespace Go.Proofs.YtpdejinkmnhioaaGreatDoor
open Go.RowKit
set_option maxHeartbeats 2000000 in
set_option maxRecDepth 100000 in
theorem implSetZ_any (v:Value) (zs:List Zn) (p:ByteArray) (d n:Int) (w:World) (hg:Gd w) (hS:NSlice w v zs) :
    Calls Tryz.prog 231 #[v,.string p,.int .i64 d,.int .i64 n] w (ZRet w (Tre.setV zs p d n).1 (Tre.setV zs p d n).2.1 (Tre.setV zs p d n).2.2):=by
  refine n33z ?_
  intro HL
  have HD:Hid (∀ wx:World,Calls Tryz.prog 90 #[.int .i64 d,.int .i64 9999] wx fun e w'=>e = .returned (.bool (Tre.okData d))∧w'=wx):=isUpTo_any d 9999
  have HS:Hid (NSlice w v zs):=hS
  obtain⟨a,cap,rfl,-⟩:=hS
  by_cases h0:Tre.asked zs p≠0
  · rw [Tre.setV_bad rfl h0]
    generalize Tre.asked zs p=F at *
    go_enter Tryz.func231,Tryz.ntmps231
    go_wp2_with fail
    refine n48z ?_
    intro w2 HB HQ q q0 q1 q2 f0 f1 f2
    go_wp2
    exact bodyPost_ret (v:=zr F ⟨#[]⟩ (.slice none 0 0)) (by simp [results,Tryz.results231,go_sem,zr,q0,q1,q2]) rfl (zret_bad _ _ (HB.out.box3 _ _ _))
  have h00:Tre.asked zs p=0:=by omega
  rw [h00] at HL
  rw [Tre.setV_ok h00]
  cases hd:Tre.okData d with
  | false =>
    rw [Tre.setT_data hd]
    rw [hd] at HD
    clear hd
    go_enter Tryz.func231,Tryz.ntmps231
    go_wp2_with fail
    refine (HL.out _ ((Ext.refl _).alloc _)).mono ?_
    rintro e w2 ⟨rfl,hb⟩
    have HB:Hid (Ext w w2):=((Ext.refl _).alloc _).trans hb
    have HQ:Hid (RBox w2 w.heap.size):=(RBox.new w _).ext hb
    clear hb
    go_wp2_with fail
    refine (HD.out _).mono ?_
    rintro e w3 ⟨rfl,rfl⟩
    obtain⟨q,q0,q1,q2,f0,f1,f2⟩:=HQ.out
    go_wp2
    exact bodyPost_ret (v:=zr 3 ⟨#[]⟩ (.slice none 0 0)) (by simp [results,Tryz.results231,go_sem,zr,q0,q1,q2]) rfl (zret_bad _ _ (HB.out.box3 _ _ _))
  | true =>
  rw [hd] at HD
  obtain⟨h20,hU,hpos,h24⟩:=Tre.asked_len h00
  have HC:Hid (∀ wx:World,Ext w wx→Calls Tryz.prog 128 #[.slice a zs.length cap] wx fun e w'=>∃ v' g,e = .returned v'∧wx.heap.size≤g∧Own w' v' g zs∧Ext wx w'):=fun wx h=>copyNodes_any _ zs wx (HS.out.ext h) (by omega) hpos (fun z hz=>by have:=h24 z hz;omega)
  have HF:Hid (∀ (wx:World) (g off4 cap4:Nat),Ext w wx→NSlice wx (.slice (some ⟨g,off4,none⟩) zs.length cap4) zs→Calls Tryz.prog 216 #[.slice (some ⟨g,off4,none⟩) zs.length cap4,.string p] wx fun e w'=>e = .returned (ptrV g off4 zs p)∧Ext wx w'):=fun wx g off4 cap4 _ h=>findNode_any g off4 cap4 zs p wx h hU (by omega)
  cases hh:Tre.has zs p with
  | false =>
    rw [Tre.setT_none hd (Tre.has_not hh)]
    simp only [ptrV_miss hh] at HF
    clear hd hh hU h24
    go_enter Tryz.func231,Tryz.ntmps231
    go_wp2_with fail
    refine (HL.out _ ((Ext.refl _).alloc _)).mono ?_
    rintro e w2 ⟨rfl,hb⟩
    have HB:Hid (Ext w w2):=((Ext.refl _).alloc _).trans hb
    have HQ:Hid (RBox w2 w.heap.size):=(RBox.new w _).ext hb
    clear hb
    go_wp2_with fail
    refine (HD.out _).mono ?_
    rintro e w3 ⟨rfl,rfl⟩
    go_wp2_with fail
    refine (HC.out _ HB.out).mono ?_
    rintro e w4 ⟨v4,g,rfl,hg4,hO,hb⟩
    obtain⟨a4,cap4,rfl,hlc4,hcm4,hx4⟩:=id hO
    obtain⟨off4,rfl,hR4,hN4⟩:=hx4 hpos
    have HO:Hid (Own w4 (.slice (some ⟨g,off4,none⟩) zs.length cap4) g zs):=hO
    have HG:Hid (w.heap.size+1≤g):=by have:=HQ.out.1;show _≤_;omega
    have HQ4:Hid (RBox w4 w.heap.size):=HQ.out.ext hb
    have HB4:Hid (Ext w w4):=HB.out.trans hb
    clear hb hO hg4 hx4 hR4 hN4
    unfold maxLen at hcm4
    go_wp2_with fail
    refine (HF.out _ _ _ _ HB4.out HO.out.slice).mono ?_
    rintro e w5 ⟨rfl,hb⟩
    have HO5:Hid (Own w5 (.slice (some ⟨g,off4,none⟩) zs.length cap4) g zs):=HO.out.ext hb
    have HQ5:Hid (RBox w5 w.heap.size):=HQ4.out.ext hb
    have HB5:Hid (Ext w w5):=HB4.out.trans hb
    clear hb
    obtain⟨q,q0,q1,q2,f0,f1,f2⟩:=HQ5.out
    go_wp2
    exact bodyPost_ret (v:=zr 4 ⟨#[]⟩ (.slice none 0 0)) (by simp [results,Tryz.results231,go_sem,zr,q0,q1,q2]) rfl (zret_bad _ _ (HB5.out.box3 _ _ _))
  | true =>
    obtain⟨z,hat,hz,-⟩:=Tre.has_at hU hh
    rw [Tre.setT_some hd hat hz]
    simp only [ptrV_hit hh rfl] at HF
    generalize Tre.cut zs p.data.toList=k at *
    have HZ:Hid (zs[k]?=some z):=hz
    have hkl:=(List.getElem?_eq_some_iff.1 hz).1
    have hv0:0≤z.version∧z.version≤999:=by
      have:=(Tre.fault_nums (Tre.asked_fault h00).1 z (List.mem_of_getElem? hz)).2
      unfold Tre.okNums at this
      simp at this
      exact⟨this.2.1.1,this.2.1.2⟩
    clear hd hh hU h24 hz hat
    by_cases hnv:n = -1∨n=z.version
    · have HNV:Hid (decide (n = -1∨n=z.version)=true):=by show _=_;simpa using hnv
      rw [if_neg (by omega)]
      clear hnv
      by_cases h9:999≤z.version
      · rw [if_pos h9]
        have h9e:(z.version == 999)=true:=by simp;omega
        go_enter Tryz.func231,Tryz.ntmps231
        go_wp2_with fail
        refine (HL.out _ ((Ext.refl _).alloc _)).mono ?_
        rintro e w2 ⟨rfl,hb⟩
        have HB:Hid (Ext w w2):=((Ext.refl _).alloc _).trans hb
        have HQ:Hid (RBox w2 w.heap.size):=(RBox.new w _).ext hb
        clear hb
        go_wp2_with fail
        refine (HD.out _).mono ?_
        rintro e w3 ⟨rfl,rfl⟩
        go_wp2_with fail
        refine (HC.out _ HB.out).mono ?_
        rintro e w4 ⟨v4,g,rfl,hg4,hO,hb⟩
        obtain⟨a4,cap4,rfl,hlc4,hcm4,hx4⟩:=id hO
        obtain⟨off4,rfl,hR4,hN4⟩:=hx4 hpos
        have HO:Hid (Own w4 (.slice (some ⟨g,off4,none⟩) zs.length cap4) g zs):=hO
        have HG:Hid (w.heap.size+1≤g):=by have:=HQ.out.1;show _≤_;omega
        have HQ4:Hid (RBox w4 w.heap.size):=HQ.out.ext hb
        have HB4:Hid (Ext w w4):=HB.out.trans hb
        clear hb hO hg4 hx4 hR4 hN4
        unfold maxLen at hcm4
        go_wp2_with fail
        refine (HF.out _ _ _ _ HB4.out HO.out.slice).mono ?_
        rintro e w5 ⟨rfl,hb⟩
        have HO5:Hid (Own w5 (.slice (some ⟨g,off4,none⟩) zs.length cap4) g zs):=HO.out.ext hb
        have HQ5:Hid (RBox w5 w.heap.size):=HQ4.out.ext hb
        have HB5:Hid (Ext w w5):=HB4.out.trans hb
        clear hb
        obtain⟨a6,cap6,he6,-,-,hx6⟩:=id HO5.out
        injection he6 with e1 e2 e3
        subst e1 e3
        obtain⟨off6,ho6,hR,hN⟩:=hx6 hpos
        injection ho6 with ho6
        injection ho6 with _ ho6 _
        subst ho6
        obtain⟨-,-,d2,-,-⟩:=hN k z HZ.out
        obtain⟨⟨y1,r1⟩,s1⟩:=hR.2 (k * 5+1) (by omega)
        obtain⟨-,s2⟩:=hR.2 (k * 5+2) (by omega)
        rw [← Nat.add_assoc] at r1 s1 s2
        have HV:Hid (Calls Tryz.prog 237 #[.pointer (some ⟨g,off4+k * 5,none⟩),.int .i64 n] w5 fun e w'=>e = .returned (.bool true)∧Ext w5 w'):=by
          exact m89z
        have HD5:Hid (w5.cell? ⟨g,off4+k * 5+2,none⟩=some (.int .i64 z.version)∧w5.cell? ⟨g,off4+k * 5+1,none⟩=some y1∧w5.frozen? ⟨g,off4+k * 5+1,none⟩=false∧w5.frozen? ⟨g,off4+k * 5+2,none⟩=false∧g < w5.heap.size):=⟨d2,r1,s1,s2,hR.1⟩
        clear d2 r1 s1 s2 hR hN hx6
        go_wp2_with fail
        refine HV.out.mono ?_
        rintro e w6 ⟨rfl,hb⟩
        have HO6:Hid (Own w6 (.slice (some ⟨g,off4,none⟩) zs.length cap4) g zs):=HO5.out.ext hb
        have HQ6:Hid (RBox w6 w.heap.size):=HQ5.out.ext hb
        have HB6:Hid (Ext w w6):=HB5.out.trans hb
        have d2:=(Below.cell hb (p:=⟨g,off4+k * 5+2,none⟩) HD5.out.2.2.2.2).trans HD5.out.1
        have r1:=(Below.cell hb (p:=⟨g,off4+k * 5+1,none⟩) HD5.out.2.2.2.2).trans HD5.out.2.1
        have s1:=(Below.frozen hb (p:=⟨g,off4+k * 5+1,none⟩) HD5.out.2.2.2.2).trans HD5.out.2.2.1
        have s2:=(Below.frozen hb (p:=⟨g,off4+k * 5+2,none⟩) HD5.out.2.2.2.2).trans HD5.out.2.2.2.1
        clear hb
        obtain⟨q,q0,q1,q2,f0,f1,f2⟩:=HQ6.out
        go_wp2
        exact bodyPost_ret (v:=zr 2 ⟨#[]⟩ (.slice none 0 0)) (by simp [results,Tryz.results231,go_sem,zr,q0,q1,q2]) rfl (zret_bad _ _ (HB6.out.box3 _ _ _))
      · rw [if_neg h9]
        have h9e:(z.version == 999)=false:=by simp;omega
        go_enter Tryz.func231,Tryz.ntmps231
        go_wp2_with fail
        refine (HL.out _ ((Ext.refl _).alloc _)).mono ?_
        rintro e w2 ⟨rfl,hb⟩
        have HB:Hid (Ext w w2):=((Ext.refl _).alloc _).trans hb
        have HQ:Hid (RBox w2 w.heap.size):=(RBox.new w _).ext hb
        clear hb
        go_wp2_with fail
        refine (HD.out _).mono ?_
        rintro e w3 ⟨rfl,rfl⟩
        go_wp2_with fail
        refine (HC.out _ HB.out).mono ?_
        rintro e w4 ⟨v4,g,rfl,hg4,hO,hb⟩
        obtain⟨a4,cap4,rfl,hlc4,hcm4,hx4⟩:=id hO
        obtain⟨off4,rfl,hR4,hN4⟩:=hx4 hpos
        have HO:Hid (Own w4 (.slice (some ⟨g,off4,none⟩) zs.length cap4) g zs):=hO
        have HG:Hid (w.heap.size+1≤g):=by have:=HQ.out.1;show _≤_;omega
        have HQ4:Hid (RBox w4 w.heap.size):=HQ.out.ext hb
        have HB4:Hid (Ext w w4):=HB.out.trans hb
        clear hb hO hg4 hx4 hR4 hN4
        unfold maxLen at hcm4
        go_wp2_with fail
        refine (HF.out _ _ _ _ HB4.out HO.out.slice).mono ?_
        rintro e w5 ⟨rfl,hb⟩
        have HO5:Hid (Own w5 (.slice (some ⟨g,off4,none⟩) zs.length cap4) g zs):=HO.out.ext hb
        have HQ5:Hid (RBox w5 w.heap.size):=HQ4.out.ext hb
        have HB5:Hid (Ext w w5):=HB4.out.trans hb
        clear hb
        obtain⟨a6,cap6,he6,-,-,hx6⟩:=id HO5.out
        injection he6 with e1 e2 e3
        subst e1 e3
        obtain⟨off6,ho6,hR,hN⟩:=hx6 hpos
        injection ho6 with ho6
        injection ho6 with _ ho6 _
        subst ho6
        obtain⟨-,-,d2,-,-⟩:=hN k z HZ.out
        obtain⟨⟨y1,r1⟩,s1⟩:=hR.2 (k * 5+1) (by omega)
        obtain⟨-,s2⟩:=hR.2 (k * 5+2) (by omega)
        rw [← Nat.add_assoc] at r1 s1 s2
        have HV:Hid (Calls Tryz.prog 237 #[.pointer (some ⟨g,off4+k * 5,none⟩),.int .i64 n] w5 fun e w'=>e = .returned (.bool true)∧Ext w5 w'):=by
          exact m89z
        have HD5:Hid (w5.cell? ⟨g,off4+k * 5+2,none⟩=some (.int .i64 z.version)∧w5.cell? ⟨g,off4+k * 5+1,none⟩=some y1∧w5.frozen? ⟨g,off4+k * 5+1,none⟩=false∧w5.frozen? ⟨g,off4+k * 5+2,none⟩=false∧g < w5.heap.size):=⟨d2,r1,s1,s2,hR.1⟩
        clear d2 r1 s1 s2 hR hN hx6
        go_wp2_with fail
        refine HV.out.mono ?_
        rintro e w6 ⟨rfl,hb⟩
        have HO6:Hid (Own w6 (.slice (some ⟨g,off4,none⟩) zs.length cap4) g zs):=HO5.out.ext hb
        have HQ6:Hid (RBox w6 w.heap.size):=HQ5.out.ext hb
        have HB6:Hid (Ext w w6):=HB5.out.trans hb
        have d2:=(Below.cell hb (p:=⟨g,off4+k * 5+2,none⟩) HD5.out.2.2.2.2).trans HD5.out.1
        have r1:=(Below.cell hb (p:=⟨g,off4+k * 5+1,none⟩) HD5.out.2.2.2.2).trans HD5.out.2.1
        have s1:=(Below.frozen hb (p:=⟨g,off4+k * 5+1,none⟩) HD5.out.2.2.2.2).trans HD5.out.2.2.1
        have s2:=(Below.frozen hb (p:=⟨g,off4+k * 5+2,none⟩) HD5.out.2.2.2.2).trans HD5.out.2.2.2.1
        clear hb
        have hgn:¬ w.heap.size=g:=by have:=HG.out;omega
        have hgn2:¬ g=w.heap.size:=by have:=HG.out;omega
        obtain⟨q,q0,q1,q2,f0,f1,f2⟩:=HQ6.out
        go_wp2
        refine bodyPost_ret (v:=zr 0 ⟨#[]⟩ (.slice (some ⟨g,off4,none⟩) zs.length cap4)) (by simp [results,Tryz.results231,go_sem,zr,q0,q1,q2]) rfl ?_
        exact zret_own 0 ⟨#[]⟩ (own_setDV HO6.out HZ.out d (z.version+1)) HG.out ((HB6.out.setCell (p:=⟨g,off4+k * 5+1,none⟩) (by have:=HG.out;show _≤g;omega) _).setCell (p:=⟨g,off4+k * 5+2,none⟩) (by have:=HG.out;show _≤g;omega) _) _ _ _
    · have HNV:Hid (decide (n = -1∨n=z.version)=false):=by show _=_;simpa using hnv
      rw [if_pos (by omega)]
      clear hnv
      go_enter Tryz.func231,Tryz.ntmps231
      go_wp2_with fail
      refine (HL.out _ ((Ext.refl _).alloc _)).mono ?_
      rintro e w2 ⟨rfl,hb⟩
      have HB:Hid (Ext w w2):=((Ext.refl _).alloc _).trans hb
      have HQ:Hid (RBox w2 w.heap.size):=(RBox.new w _).ext hb
      clear hb
      go_wp2_with fail
      refine (HD.out _).mono ?_
      rintro e w3 ⟨rfl,rfl⟩
      go_wp2_with fail
      refine (HC.out _ HB.out).mono ?_
      rintro e w4 ⟨v4,g,rfl,hg4,hO,hb⟩
      obtain⟨a4,cap4,rfl,hlc4,hcm4,hx4⟩:=id hO
      obtain⟨off4,rfl,hR4,hN4⟩:=hx4 hpos
      have HO:Hid (Own w4 (.slice (some ⟨g,off4,none⟩) zs.length cap4) g zs):=hO
      have HG:Hid (w.heap.size+1≤g):=by have:=HQ.out.1;show _≤_;omega
      have HQ4:Hid (RBox w4 w.heap.size):=HQ.out.ext hb
      have HB4:Hid (Ext w w4):=HB.out.trans hb
      clear hb hO hg4 hx4 hR4 hN4
      unfold maxLen at hcm4
      go_wp2_with fail
      refine (HF.out _ _ _ _ HB4.out HO.out.slice).mono ?_
      rintro e w5 ⟨rfl,hb⟩
      have HO5:Hid (Own w5 (.slice (some ⟨g,off4,none⟩) zs.length cap4) g zs):=HO.out.ext hb
      have HQ5:Hid (RBox w5 w.heap.size):=HQ4.out.ext hb
      have HB5:Hid (Ext w w5):=HB4.out.trans hb
      clear hb
      obtain⟨a6,cap6,he6,-,-,hx6⟩:=id HO5.out
      injection he6 with e1 e2 e3
      subst e1 e3
      obtain⟨off6,ho6,hR,hN⟩:=hx6 hpos
      injection ho6 with ho6
      injection ho6 with _ ho6 _
      subst ho6
      obtain⟨-,-,d2,-,-⟩:=hN k z HZ.out
      obtain⟨⟨y1,r1⟩,s1⟩:=hR.2 (k * 5+1) (by omega)
      obtain⟨-,s2⟩:=hR.2 (k * 5+2) (by omega)
      rw [← Nat.add_assoc] at r1 s1 s2
      have HV:Hid (Calls Tryz.prog 237 #[.pointer (some ⟨g,off4+k * 5,none⟩),.int .i64 n] w5 fun e w'=>e = .returned (.bool false)∧Ext w5 w'):=by
        exact m89z
      have HD5:Hid (w5.cell? ⟨g,off4+k * 5+2,none⟩=some (.int .i64 z.version)∧w5.cell? ⟨g,off4+k * 5+1,none⟩=some y1∧w5.frozen? ⟨g,off4+k * 5+1,none⟩=false∧w5.frozen? ⟨g,off4+k * 5+2,none⟩=false∧g < w5.heap.size):=⟨d2,r1,s1,s2,hR.1⟩
      clear d2 r1 s1 s2 hR hN hx6
      go_wp2_with fail
      refine HV.out.mono ?_
      rintro e w6 ⟨rfl,hb⟩
      have HO6:Hid (Own w6 (.slice (some ⟨g,off4,none⟩) zs.length cap4) g zs):=HO5.out.ext hb
      have HQ6:Hid (RBox w6 w.heap.size):=HQ5.out.ext hb
      have HB6:Hid (Ext w w6):=HB5.out.trans hb
      have d2:=(Below.cell hb (p:=⟨g,off4+k * 5+2,none⟩) HD5.out.2.2.2.2).trans HD5.out.1
      have r1:=(Below.cell hb (p:=⟨g,off4+k * 5+1,none⟩) HD5.out.2.2.2.2).trans HD5.out.2.1
      have s1:=(Below.frozen hb (p:=⟨g,off4+k * 5+1,none⟩) HD5.out.2.2.2.2).trans HD5.out.2.2.1
      have s2:=(Below.frozen hb (p:=⟨g,off4+k * 5+2,none⟩) HD5.out.2.2.2.2).trans HD5.out.2.2.2.1
      clear hb
      obtain⟨q,q0,q1,q2,f0,f1,f2⟩:=HQ6.out
      go_wp2
      exact bodyPost_ret (v:=zr 7 ⟨#[]⟩ (.slice none 0 0)) (by simp [results,Tryz.results231,go_sem,zr,q0,q1,q2]) rfl (zret_bad _ _ (HB6.out.box3 _ _ _))
end Go.Proofs.YtpdejinkmnhioaaGreatDoor
namespace Go.Proofs.YtpdejinkmnhioaaGreatDoor
open Go.RowKit
set_option linter.unusedSimpArgs false in
set_option maxHeartbeats 4000000 in
set_option maxRecDepth 100000 in
theorem setStep1_bad (n B D:Nat) (s:Stt) (p:ByteArray) (d nv:Int) (rc:Int) (rp:ByteArray) (rs:List Zn) (q:Ry × Stt) (w:World) (K:Nat→Prop) (hA:StAt n B K w s) (hKD:w.cell? ⟨D,0,none⟩=some (.string p)∧w.cell? ⟨D,1,none⟩=some (.int .i64 d)∧w.cell? ⟨D,2,none⟩=some (.int .i64 nv))  (hKB:K B) (hn:n≤w.heap.size) (hr:Sta.right s) (hgd:Gd w) (hc:Tre.setV s.nodes p d nv=(rc,rp,rs)) (hq:q.1=Sta.bad rc∧rc≠0) :
    Calls Tryz.prog 230 #[.pointer (some ⟨B,0,none⟩),.pointer (some ⟨D,0,none⟩)] w (Step n B K w (q)):=by
  obtain⟨vn,vs,vm,hX,hH⟩:=hA
  obtain⟨hr1,hr2,hr3⟩:=hr
  have hLD:=World.block_lt_of_cell? w _ hKD.1
  try simp only at hLD
  have HO:Hid (∀ wx,Ext w wx→Calls Tryz.prog 231 #[vn,.string p,.int .i64 d,.int .i64 nv] wx (ZRet wx rc rp rs)):=fun wx he=>by have h:=implSetZ_any vn s.nodes p d nv wx (hgd.ext he) (hH.slice.1.ext he);rw [hc] at h;exact h
  have HQ:Hid (q.1=Sta.bad rc∧rc≠0):=hq
  clear hc hq hgd
  obtain⟨an,cn,rfl⟩:=hH.slice.1.vis
  refine n22z ?_
  intro HX HH hBl
  refine n53z ?_
  intro HS
  clear hX hH hr1 hr2 hr3 hKD
  go_enter Tryz.func230,Tryz.ntmps230
  go_wp2
  generalize hw1:World.alloc w _=w1
  refine n5z ?_
  intro E1 R1
  have hs1:w.heap.size < w1.heap.size:=by rw [← hw1];simp
  clear hw1
  refine n63z ?_
  intro HS1 s0 s1 s2 s3
  go_region_held3 (fun W=>W.cell? ⟨B,0,none⟩=some (.slice an s.nodes.length cn)∧W.cell? ⟨D,0,none⟩=some (.string p)∧W.cell? ⟨D,1,none⟩=some (.int .i64 d)∧W.cell? ⟨D,2,none⟩=some (.int .i64 nv)) (first | exact⟨s0,s1,s2,s3⟩ | exact HS1.out _ ((Ext.refl _).drew) | exact HS1.out _ (((Ext.refl _).drew).alloc _) | exact HS1.out _ ((Ext.refl _).alloc _) | exact HS1.out _ HE2.out | exact HS1.out _ (HE2.out.alloc _) | exact HS1.out _ (((HE2.out.setCell (p:=⟨w1.heap.size,0,none⟩) (Nat.le_refl _) _).setCell (p:=⟨w1.heap.size,1,none⟩) (Nat.le_refl _) _).setCell (p:=⟨w1.heap.size,2,none⟩) (Nat.le_refl _) _) | exact HS1.out _ ((((HE2.out.alloc _).setCell (p:=⟨w2.heap.size,0,none⟩) HE2.out.size _).setCell (p:=⟨w2.heap.size,1,none⟩) HE2.out.size _).setCell (p:=⟨w2.heap.size,2,none⟩) HE2.out.size _) | go_keep) (first | (go_at_call 231;refine (HO.out _ (E1.out.trans (by first | exact (Ext.refl _).drew | exact ((Ext.refl _).drew).alloc _ | exact Ext.refl _))).mono ?_;rintro e w2 ⟨v,g,rfl,hg,hO,hb⟩;obtain⟨ag,cg,rfl⟩:=hO.vis;unfold zr;have HE2:Hid (Ext w1 w2):=(by first | exact ((Ext.refl _).drew).trans hb | exact (((Ext.refl _).drew).alloc _).trans hb);have HG2:Hid (w1.heap.size≤g):=(by (try simp at hg);show _≤_;omega);have HO2:Hid (Own w2 (.slice ag rs.length cg) g rs):=hO;(first | (have hq:w1.heap.size < w2.heap.size:=(by have hh:=hb.size;simp at hh;omega);have hg1:w1.heap.size < g:=(by (try simp at hg);omega);have zq:Hid (w2.cell? ⟨w1.heap.size,0,none⟩=some (.int .i64 0)∧w2.cell? ⟨w1.heap.size,1,none⟩=some (.string ByteArray.empty)∧w2.cell? ⟨w1.heap.size,2,none⟩=some (.slice none 0 0)∧w2.frozen? ⟨w1.heap.size,0,none⟩=false∧w2.frozen? ⟨w1.heap.size,1,none⟩=false∧w2.frozen? ⟨w1.heap.size,2,none⟩=false):=(by have hbb:=(Ext.cell hb);exact⟨by simpa using (hbb.1 (World.drew w1).heap.size 0 (by simp)).trans (show _=some (.int .i64 0) by first | (simp;done) | (simp;rfl)),by simpa using (hbb.1 (World.drew w1).heap.size 1 (by simp)).trans (show _=some (.string ByteArray.empty) by first | (simp;done) | (simp;rfl)),by simpa using (hbb.1 (World.drew w1).heap.size 2 (by simp)).trans (show _=some (.slice none 0 0) by first | (simp;done) | (simp;rfl)),by simpa using (hbb.2 (World.drew w1).heap.size 0 (by simp)).trans (show _=false by simp),by simpa using (hbb.2 (World.drew w1).heap.size 1 (by simp)).trans (show _=false by simp),by simpa using (hbb.2 (World.drew w1).heap.size 2 (by simp)).trans (show _=false by simp)⟩);obtain⟨z0,z1,z2,f0,f1,f2⟩:=zq.out) | skip);clear hb hg hO))
  all_goals
    first
    | (have HE3:Hid (Ext w1 (World.setCell (World.setCell (World.setCell w2 ⟨w1.heap.size,0,none⟩ (.int .i64 rc)) ⟨w1.heap.size,1,none⟩ (.string rp)) ⟨w1.heap.size,2,none⟩ (.slice ag rs.length cg))):=(((HE2.out.setCell (p:=⟨w1.heap.size,0,none⟩) (Nat.le_refl _) _).setCell (p:=⟨w1.heap.size,1,none⟩) (Nat.le_refl _) _).setCell (p:=⟨w1.heap.size,2,none⟩) (Nat.le_refl _) _)
       have K3:Hid ((World.setCell (World.setCell (World.setCell w2 ⟨w1.heap.size,0,none⟩ (.int .i64 rc)) ⟨w1.heap.size,1,none⟩ (.string rp)) ⟨w1.heap.size,2,none⟩ (.slice ag rs.length cg)).cell? ⟨w1.heap.size,0,none⟩=some (.int .i64 rc)∧(World.setCell (World.setCell (World.setCell w2 ⟨w1.heap.size,0,none⟩ (.int .i64 rc)) ⟨w1.heap.size,1,none⟩ (.string rp)) ⟨w1.heap.size,2,none⟩ (.slice ag rs.length cg)).cell? ⟨w1.heap.size,1,none⟩=some (.string rp)∧(World.setCell (World.setCell (World.setCell w2 ⟨w1.heap.size,0,none⟩ (.int .i64 rc)) ⟨w1.heap.size,1,none⟩ (.string rp)) ⟨w1.heap.size,2,none⟩ (.slice ag rs.length cg)).cell? ⟨w1.heap.size,2,none⟩=some (.slice ag rs.length cg)):=(by exact⟨by rw [iset_ne _ _ _ _ _ _ (by omega)];rw [iset_ne _ _ _ _ _ _ (by omega)];apply iset_eq;exact⟨_,z0⟩,by rw [iset_ne _ _ _ _ _ _ (by omega)];apply iset_eq;rw [iset_ne _ _ _ _ _ _ (by omega)];exact⟨_,z1⟩,by apply iset_eq;rw [iset_ne _ _ _ _ _ _ (by omega)];rw [iset_ne _ _ _ _ _ _ (by omega)];exact⟨_,z2⟩⟩)
       have HO3:Hid (Own (World.setCell (World.setCell (World.setCell w2 ⟨w1.heap.size,0,none⟩ (.int .i64 rc)) ⟨w1.heap.size,1,none⟩ (.string rp)) ⟨w1.heap.size,2,none⟩ (.slice ag rs.length cg)) (.slice ag rs.length cg) g rs):=HO2.out.updS ((((Upd.refl w1.heap.size w2).setAt 0 _).setAt 1 _).setAt 2 _) (fun _=>by omega)
       generalize (World.setCell (World.setCell (World.setCell w2 ⟨w1.heap.size,0,none⟩ (.int .i64 rc)) ⟨w1.heap.size,1,none⟩ (.string rp)) ⟨w1.heap.size,2,none⟩ (.slice ag rs.length cg))=w3 at HE3 K3 HO3 ⊢
       obtain⟨qb,hqb⟩:∃ qb,qb=w1.heap.size:=⟨_,rfl⟩
       have hq3:w1.heap.size≤qb:=by omega
       rw [← hqb] at K3 ⊢
       clear hqb)
    | (have HE3:Hid (Ext w1 (World.alloc w2 (.cells #[.int .i64 rc,.string rp,.slice ag rs.length cg] 148))):=HE2.out.alloc _
       have K3:Hid ((World.alloc w2 (.cells #[.int .i64 rc,.string rp,.slice ag rs.length cg] 148)).cell? ⟨w2.heap.size,0,none⟩=some (.int .i64 rc)∧(World.alloc w2 (.cells #[.int .i64 rc,.string rp,.slice ag rs.length cg] 148)).cell? ⟨w2.heap.size,1,none⟩=some (.string rp)∧(World.alloc w2 (.cells #[.int .i64 rc,.string rp,.slice ag rs.length cg] 148)).cell? ⟨w2.heap.size,2,none⟩=some (.slice ag rs.length cg)):=(by exact⟨by simp,by simp,by simp⟩)
       have HO3:Hid (Own (World.alloc w2 (.cells #[.int .i64 rc,.string rp,.slice ag rs.length cg] 148)) (.slice ag rs.length cg) g rs):=HO2.out.ext ((Ext.refl w2).alloc (.cells #[.int .i64 rc,.string rp,.slice ag rs.length cg] 148))
       have hq3:w1.heap.size≤w2.heap.size:=HE2.out.size
       generalize (World.alloc w2 (.cells #[.int .i64 rc,.string rp,.slice ag rs.length cg] 148))=w3 at HE3 K3 HO3 ⊢
       generalize w2.heap.size=qb at K3 hq3 ⊢)
  all_goals
    obtain⟨k0,k1,k2⟩:=K3.out
    obtain⟨q0,⟨b0,b1,b2,b3⟩,l0,l1,l2,l3⟩:=HX.out.ext (E1.out.trans HE3.out)
    obtain⟨p0,⟨c0,c1,c2⟩,m0,m1,m2⟩:=R1.out.ext HE3.out
    have hn1:¬ qb=B:=by omega
    have hn2:¬ qb=w.heap.size:=by omega
    have hn3:¬ B=w.heap.size:=by omega
    have hg9:=HG2.out
    have hrc:=HQ.out.2
    go_wp2
    have hry:=ry_put (x:=.int .i64 (rc)) (y:=.int .i64 (0)) (z:=.string ⟨#[]⟩) (show RyAt (w3.setCell ⟨B,0,none⟩ (.slice ag rs.length cg)) w.heap.size (.int .i64 0) (.int .i64 0) (.string ByteArray.empty) from (R1.out.ext HE3.out).other (by omega))
    unfold put3R at hry
    obtain⟨y0,y1,y2⟩:=hry
    exact bodyPost_ret (v:=yagg (rc) (0) ⟨#[]⟩) (by simp [results,Tryz.results230,go_sem,yagg,y0,y1,y2]) rfl (by exact stepZ_done HX.out HH.out hKB hn (E1.out.trans HE3.out) HO3.out (by omega) (Ext.refl _) (fun h=>absurd (by rw [HQ.out.1] at h;exact h) HQ.out.2) (by rw [HQ.out.1];rfl))
end Go.Proofs.YtpdejinkmnhioaaGreatDoor
