/- I3, I4, I5, I6, I7, in one text. -/
import Derived.Test.YtpdejinkmnhioaaGreatDoorAoJ9
import Derived.Lib.SliceRun
import Derived.Test.YtpdejinkmnhioaaGreatDoorAoMk
namespace Go.Proofs.YtpdejinkmnhioaaGreatDoor
open Go.RowKit
set_option maxHeartbeats 1000000 in
set_option maxRecDepth 100000 in
theorem hasBounds_any (b o:Nat) (z:Zn) (w:World) (d1:w.cell? ⟨b,o+1,none⟩=some (.int .i64 z.data)) (d2:w.cell? ⟨b,o+2,none⟩=some (.int .i64 z.version)) (d3:w.cell? ⟨b,o+3,none⟩=some (.int .i64 z.owner)) (d4:w.cell? ⟨b,o+4,none⟩=some (.int .i64 z.next)) :
  Calls Tryz.prog 215 #[.pointer (some ⟨b,o,none⟩)] w fun e w'=>e = .returned (.bool (Tre.okNums z))∧Ext w w':=by
 have C1:Hid (∀ wx,Calls Tryz.prog 90 #[.int .i64 z.data,.int .i64 9999] wx fun e w'=>e = .returned (.bool (decide (0≤z.data) && decide (z.data≤9999)))∧w'=wx):=isUpTo_any z.data 9999
 have C2:Hid (∀ wx,Calls Tryz.prog 90 #[.int .i64 z.version,.int .i64 999] wx fun e w'=>e = .returned (.bool (decide (0≤z.version) && decide (z.version≤999)))∧w'=wx):=isUpTo_any z.version 999
 have C3:Hid (∀ wx,Calls Tryz.prog 90 #[.int .i64 z.owner,.int .i64 9] wx fun e w'=>e = .returned (.bool (decide (0≤z.owner) && decide (z.owner≤9)))∧w'=wx):=isUpTo_any z.owner 9
 have C4:Hid (∀ wx,Calls Tryz.prog 90 #[.int .i64 z.next,.int .i64 100] wx fun e w'=>e = .returned (.bool (decide (0≤z.next) && decide (z.next≤100)))∧w'=wx):=isUpTo_any z.next 100
 unfold Tre.okNums
 cases hb1:(decide (0≤z.data) && decide (z.data≤9999)) with
 | false =>
  rw [hb1] at C1
  rw [Bool.false_and]
  clear hb1
  go_enter Tryz.func215,Tryz.ntmps215
  go_wp2_with fail
  refine (C1.out _).mono ?_
  rintro e w3 ⟨rfl,rfl⟩
  go_wp2
  go_ret
  exact⟨rfl,Ext.refl _⟩
 | true =>
 rw [hb1] at C1
 cases hb2:(decide (0≤z.version) && decide (z.version≤999)) with
 | false =>
  rw [hb2] at C2
  rw [Bool.false_and,Bool.and_false]
  clear hb1 hb2
  go_enter Tryz.func215,Tryz.ntmps215
  go_wp2_with fail
  refine (C1.out _).mono ?_
  rintro e w3 ⟨rfl,rfl⟩
  go_wp2_with fail
  refine (C2.out _).mono ?_
  rintro e w3 ⟨rfl,rfl⟩
  go_wp2
  go_ret
  exact⟨rfl,Ext.refl _⟩
 | true =>
 rw [hb2] at C2
 cases hb3:(decide (0≤z.owner) && decide (z.owner≤9)) with
 | false =>
  rw [hb3] at C3
  rw [Bool.false_and,Bool.and_false,Bool.and_false]
  clear hb1 hb2 hb3
  go_enter Tryz.func215,Tryz.ntmps215
  go_wp2_with fail
  refine (C1.out _).mono ?_
  rintro e w3 ⟨rfl,rfl⟩
  go_wp2_with fail
  refine (C2.out _).mono ?_
  rintro e w3 ⟨rfl,rfl⟩
  go_wp2_with fail
  refine (C3.out _).mono ?_
  rintro e w3 ⟨rfl,rfl⟩
  go_wp2
  go_ret
  exact⟨rfl,Ext.refl _⟩
 | true =>
 rw [hb3] at C3
 rw [Bool.true_and,Bool.true_and,Bool.true_and]
 clear hb1 hb2 hb3
 generalize (decide (0≤z.next) && decide (z.next≤100))=B at *
 go_enter Tryz.func215,Tryz.ntmps215
 go_wp2_with fail
 refine (C1.out _).mono ?_
 rintro e w3 ⟨rfl,rfl⟩
 go_wp2_with fail
 refine (C2.out _).mono ?_
 rintro e w3 ⟨rfl,rfl⟩
 go_wp2_with fail
 refine (C3.out _).mono ?_
 rintro e w3 ⟨rfl,rfl⟩
 go_wp2_with fail
 refine (C4.out _).mono ?_
 rintro e w3 ⟨rfl,rfl⟩
 go_wp2
 go_ret
 exact⟨rfl,Ext.refl _⟩
set_option maxHeartbeats 2000000 in
set_option maxRecDepth 100000 in
theorem nodeFault_any (b off k:Nat) (zs:List Zn) (z:Zn) (ah:Option Addr) (w:World) (hg:Gd w) (hb:b < w.heap.size) (hN:NodesAt w b off zs) (hz:zs[k]?=some z) (ha:(k=0∧ah=none)∨∃ m,k=m+1∧ah=some ⟨b,off+m * 5,none⟩) :
  Calls Tryz.prog 160 #[.pointer (some ⟨b,off+k * 5,none⟩),.pointer ah] w fun e w'=>e = .returned (.int .i64 (Tre.nodeC zs k))∧Ext w w':=by
 obtain⟨R,hR⟩:∃ R,R=Tre.nodeC zs k:=⟨_,rfl⟩
 have HR:Hid (R=Tre.nodeC zs k):=hR
 rw [← hR]
 clear hR
 have HN:Hid (b < w.heap.size∧NodesAt w b off zs):=⟨hb,hN⟩
 have HZ:Hid (zs[k]?=some z):=hz
 have HP:=pathFault_any z.path w hg
 have HB:=hasBounds_any b (off+k * 5) z
 obtain⟨d0,d1,d2,d3,d4⟩:=hN k z hz
 obtain⟨c,hc⟩:∃ c,c=Pth.faultI z.path.data.toList:=⟨_,rfl⟩
 have HC:Hid (c=Pth.faultI z.path.data.toList):=hc
 rw [← hc] at HP
 have HP1:Hid (Calls Tryz.prog 127 #[.string z.path] w fun e w'=>e = .returned (.int .i64 c)∧Ext w w'):=HP
 have HB1:Hid (∀ wx:World,Ext w wx→Calls Tryz.prog 215 #[.pointer (some ⟨b,off+k * 5,none⟩)] wx fun e w'=>e = .returned (.bool (Tre.okNums z))∧Ext wx w'):=fun wx h=>by
  obtain⟨-,e1,e2,e3,e4⟩:=HN.out.2.ext HN.out.1 h k z HZ.out
  exact HB wx e1 e2 e3 e4
 have HD:Hid (∀ wx:World,Ext w wx→wx.cell? ⟨b,off+k * 5,none⟩=some (.string z.path)):=fun wx h=>(HN.out.2.ext HN.out.1 h k z HZ.out).1
 obtain⟨o,ho⟩:∃ o,o=off+k * 5:=⟨_,rfl⟩
 rw [← ho] at HD HB1 d0 ⊢
 clear ho
 clear hc hN hb hz HP HB d1 d2 d3 d4
 by_cases hc0:c≠0
 ·have HF:Hid (R=c):=HR.out.trans (Tre.nodeC_path HZ.out HC.out hc0)
  go_enter Tryz.func160,Tryz.ntmps160
  go_wp2_with fail
  refine HP1.out.mono ?_
  rintro e w2 ⟨rfl,hb⟩
  have HE:Hid (Ext w w2):=hb
  clear hb
  go_wp2
  go_ret
  exact⟨ret_int HF.out.symm,HE.out⟩
 have hc1:c=0:=by omega
 subst hc1
 clear hc0
 cases hn:Tre.okNums z with
 | false =>
  have HF:Hid (R=3):=HR.out.trans (Tre.nodeC_nums HZ.out HC.out hn)
  rw [hn] at HB1
  clear hn
  go_enter Tryz.func160,Tryz.ntmps160
  go_wp2_with fail
  refine HP1.out.mono ?_
  rintro e w2 ⟨rfl,hb⟩
  have HE:Hid (Ext w w2):=hb
  clear hb
  go_wp2_with fail
  refine (HB1.out _ HE.out).mono ?_
  rintro e w3 ⟨rfl,hb⟩
  have HE3:Hid (Ext w w3):=HE.out.trans hb
  clear hb
  go_wp2
  go_ret
  exact⟨ret_int HF.out.symm,HE3.out⟩
 | true =>
  rw [hn] at HB1
  rcases ha with ⟨rfl,rfl⟩ | ⟨m,rfl,rfl⟩
  ·have HF:Hid (R=0):=HR.out.trans (Tre.nodeC_zero HZ.out HC.out hn)
   clear hn
   go_enter Tryz.func160,Tryz.ntmps160
   go_wp2_with fail
   refine HP1.out.mono ?_
   rintro e w2 ⟨rfl,hb⟩
   have HE:Hid (Ext w w2):=hb
   clear hb
   go_wp2_with fail
   refine (HB1.out _ HE.out).mono ?_
   rintro e w3 ⟨rfl,hb⟩
   have HE3:Hid (Ext w w3):=HE.out.trans hb
   clear hb
   go_wp2
   go_region
   all_goals go_wp2
   go_ret
   exact⟨ret_int HF.out.symm,HE3.out.drew⟩
  ·obtain⟨y,hy⟩:∃ y,zs[m]?=some y:=⟨_,List.getElem?_eq_getElem (by have:=(List.getElem?_eq_some_iff.1 HZ.out).1;omega)⟩
   have HN2:=Tre.nodeC_succ HZ.out hy HC.out hn
   have HY:Hid (zs[m]?=some y):=hy
   have HU:Hid (Op.bytesLess z.path.toList y.path.toList=true∨(z.path.toList == y.path.toList)=true→R=1):=by
    intro h;rw [HR.out,HN2,if_pos];unfold Tre.notUp;rcases h with h | h <;> rw [h] <;> simp
   have HV0:Hid (Op.bytesLess z.path.toList y.path.toList=false∧(z.path.toList == y.path.toList)=false→R=0):=by
    intro h;rw [HR.out,HN2,if_neg];unfold Tre.notUp;rw [h.1,h.2];simp
   have HD2:Hid (∀ wx:World,Ext w wx→wx.cell? ⟨b,off+m * 5,none⟩=some (.string y.path)):=fun wx h=>(HN.out.2.ext HN.out.1 h m y HY.out).1
   generalize off+m * 5=o2 at *
   clear hn hy HN2
   go_enter Tryz.func160,Tryz.ntmps160
   go_wp2_with fail
   refine HP1.out.mono ?_
   rintro e w2 ⟨rfl,hb⟩
   have HE:Hid (Ext w w2):=hb
   clear hb
   go_wp2_with fail
   refine (HB1.out _ HE.out).mono ?_
   rintro e w3 ⟨rfl,hb⟩
   have HE3:Hid (Ext w w3):=HE.out.trans hb
   clear hb d0
   have d0:=HD.out _ HE3.out
   have e0:=HD2.out _ HE3.out
   go_wp2
   go_region
   all_goals go_wp2
   ·go_ret
    exact⟨ret_int (HU.out (by assumption)).symm,HE3.out.drew⟩
   ·go_ret
    exact⟨ret_int (HV0.out (by assumption)).symm,HE3.out.drew⟩
end Go.Proofs.YtpdejinkmnhioaaGreatDoor
namespace Go.Proofs.YtpdejinkmnhioaaGreatDoor
open Go.RowKit
set_option maxHeartbeats 1000000 in
theorem findNode_miss (v:Value) (zs:List Zn) (p:ByteArray) (w:World) (hS:NSlice w v zs) (hU:Tre.Up zs) (hl:zs.length≤1048576) (hh:Tre.has zs p=false) :
  Calls Tryz.prog 216 #[v,.string p] w fun e w'=>e = .returned (.pointer none)∧Ext w w':=by
 have HL:Hid (∀ wx:World,Ext w wx→Calls Tryz.prog 246 #[v,.string p] wx fun e w'=>e = .returned (.tuple #[.int .i64 (Tre.cut zs p.data.toList:Nat),.bool (Tre.has zs p)])∧Ext wx w'):=fun wx h=>placeOf_any _ zs p wx (hS.ext h) hU hl
 obtain⟨a,cap,rfl,-⟩:=hS
 rw [hh] at HL
 clear hU
 generalize Tre.cut zs p.data.toList=k at *
 go_enter Tryz.func216,Tryz.ntmps216
 go_wp2_with fail
 refine (HL.out _ (Ext.refl _)).mono ?_
 exact m22z
namespace Tre
def hangC (zs:List Zn):Int:=if atI zs top < 0 then 4 else if first (parC zs) zs.length≠0 then first (parC zs) zs.length else first (ownC zs) zs.length
theorem fault_eq {zs:List Zn} (h20:¬ 20 < zs.length) (h:∀ j,j < zs.length→nodeC zs j=0):fault zs=hangC zs:=by
 unfold fault hangC;rw [if_neg h20,first_none h,if_neg (by simp)]
theorem par_top {p:ByteArray} (h:p.data.toList = [47]):par p=top:=by
 unfold par;rw [h];rfl
theorem hang_par {zs:List Zn} {k:Nat} {z:Zn} (ht:¬ atI zs top < 0) (hk:zs[k]?=some z) (h0:∀ j,j < k→parC zs j=0) (hn:has zs (par z.path)=false):hangC zs=4:=by
 have h4:parC zs k=4:=by rw [parC_eq hk,if_pos (has_not hn)]
 have:=first_hit (f:=parC zs) (List.getElem?_eq_some_iff.1 hk).1 h0 (by rw [h4];decide)
 unfold hangC;rw [if_neg ht,this,h4,if_pos (by decide)]
theorem own_cases (zs:List Zn) (j:Nat):ownC zs j=0∨ownC zs j=1:=by
 unfold ownC
 split
 ·exact .inl rfl
 ·split
  ·exact .inl rfl
  ·split
   ·exact .inr rfl
   ·exact .inl rfl
theorem first_own (zs:List Zn):∀ n,(first (ownC zs) n=0∧∀ j,j < n→ownC zs j=0)∨(first (ownC zs) n=1∧∃ j,j < n∧ownC zs j≠0):=by
 intro n
 induction n with
 | zero=>exact .inl ⟨rfl,fun j h=>by omega⟩
 | succ n ih =>
  rcases ih with ⟨h1,h2⟩ | ⟨h1,j,hj,h2⟩
  ·rcases own_cases zs n with h3 | h3
   ·left
    refine⟨by rw [first,h1,if_neg (by simp),h3],fun j hj=>?_⟩
    by_cases hjn:j=n
    ·subst hjn;exact h3
    ·exact h2 j (by omega)
   ·right
    exact⟨by rw [first,h1,if_neg (by simp),h3],n,by omega,by rw [h3];decide⟩
  ·right
   exact⟨by rw [first,h1,if_pos (by decide)],j,by omega,h2⟩
theorem hang_end {zs:List Zn} {k0:Nat} {zt:Zn} {ow:Bool} (ht:atI zs top=k0) (hz:zs[k0]?=some zt) (hp:∀ j,j < zs.length→parC zs j=0) (ho:ow=true↔(zt.owner≠0∨∃ j,j < zs.length∧ownC zs j≠0)) (hkey:zt.path.data.toList = [47]):hangC zs=if ow=true then 1 else 0:=by
 have hz0:ownC zs k0=if zt.owner≠0 then 1 else 0:=ownC_eq hz (by rw [par_top hkey];exact ht) hz
 unfold hangC
 rw [if_neg (by omega),first_none hp,if_neg (by simp)]
 rcases first_own zs zs.length with ⟨h1,h2⟩ | ⟨h1,h2⟩
 ·rw [h1,if_neg]
  rw [ho]
  rintro (h | ⟨j,hj,hne⟩)
  ·have:=h2 k0 (List.getElem?_eq_some_iff.1 hz).1
   rw [hz0,if_pos h] at this;cases this
  ·exact hne (h2 j hj)
 ·rw [h1,if_pos (ho.2 (.inr h2))]
end Tre
set_option maxHeartbeats 2000000 in
set_option maxRecDepth 100000 in
theorem hangFault_any (v:Value) (zs:List Zn) (w:World) (hg:Gd w) (hS:NSlice w v zs) (hl:zs.length≤20) (hN:∀ j,j < zs.length→Tre.nodeC zs j=0) :
  Calls Tryz.prog 161 #[v] w fun e w'=>e = .returned (.int .i64 (Tre.hangC zs))∧Ext w w':=by
 have hU:Tre.Up zs:=Tre.up_of_nodes hN
 cases hh:Tre.has zs Tre.top with
 | false =>
  have HL:Hid (∀ wx:World,Ext w wx→Calls Tryz.prog 216 #[v,.string ⟨#[47]⟩] wx fun e w'=>e = .returned (.pointer none)∧Ext wx w'):=fun wx h=>findNode_miss v zs _ wx (hS.ext h) hU (by omega) hh
  obtain⟨a,cap,rfl,-⟩:=hS
  rw [show Tre.hangC zs=4 from by unfold Tre.hangC;rw [if_pos (Tre.has_not hh)]]
  clear hh hU hN
  go_enter Tryz.func161,Tryz.ntmps161
  go_wp2_with fail
  refine (HL.out _ (Ext.refl _)).mono ?_
  exact m22z
 | true =>
  have HS:Hid (NSlice w v zs):=hS
  have HG:Hid (Gd w):=hg
  have HU:Hid (Tre.Up zs):=hU
  have HN:Hid (∀ j,j < zs.length→Tre.nodeC zs j=0):=hN
  obtain⟨zt,ht,hzt,hkey⟩:=Tre.has_at hU hh
  obtain⟨a,cap,rfl,hlc,hcm,hx⟩:=hS
  have hkl:=(List.getElem?_eq_some_iff.1 hzt).1
  obtain⟨b,off,rfl,hb,hNo⟩:=hx (by omega)
  have HX:Hid (b < w.heap.size∧NodesAt w b off zs):=⟨hb,hNo⟩
  have HL:Hid (∀ wx:World,Ext w wx→Calls Tryz.prog 216 #[.slice (some ⟨b,off,none⟩) zs.length cap,.string ⟨#[47]⟩] wx fun e w'=>e = .returned (.pointer (some ⟨b,off+Tre.cut zs Tre.top.data.toList * 5,none⟩))∧Ext wx w'):=fun wx h=>by
   have:=findNode_any b off cap zs Tre.top wx (HS.out.ext h) hU (by omega)
   rw [ptrV_hit hh rfl] at this
   exact this
  have HP:Hid (∀ (wx:World) (z:Zn),Ext w wx→z ∈ zs→¬ z.path.data.toList = [47]→Calls Tryz.prog 217 #[.slice (some ⟨b,off,none⟩) zs.length cap,.string z.path] wx fun e w'=>e = .returned (ptrV b off zs (Tre.par z.path))∧Ext wx w'):=fun wx z h hz hne=>by
   obtain⟨j,hj⟩:=List.getElem?_of_mem hz
   exact findParent_any b off cap zs z.path wx (HG.out.ext h) (Tre.nodeC_ok hj (HN.out j (List.getElem?_eq_some_iff.1 hj).1)).1 hne (HS.out.ext h) HU.out (by omega)
  generalize Tre.cut zs Tre.top.data.toList=k0 at *
  have HT:Hid (Tre.atI zs Tre.top=k0∧zs[k0]?=some zt∧zt.path.data.toList = [47]):=⟨ht,hzt,hkey⟩
  generalize hR:Tre.hangC zs=R
  have HR:Hid (Tre.hangC zs=R):=hR
  clear ht hzt hkey hh hU hN hb hNo hx hg hR
  unfold maxLen at hcm
  go_enter Tryz.func161,Tryz.ntmps161
  go_wp2_with fail
  refine (HL.out _ (Ext.refl _)).mono ?_
  rintro e w2 ⟨rfl,hb⟩
  have HB:Hid (Ext w w2):=hb
  have HD:Hid (w2.cell? ⟨b,off+k0 * 5+3,none⟩=some (.int .i64 zt.owner)):=(HX.out.2.ext HX.out.1 hb k0 zt HT.out.2.1).2.2.2.1
  clear hb
  generalize off+k0 * 5=o0 at *
  have hd:=HD.out
  clear HD
  go_wp2
  go_loopw [18,4] (fun i o wr=>∃ (k:Nat) (ow:Bool),k≤zs.length∧i = .int .i64 k∧o = .bool ow∧Hid (∀ j,j < k→Tre.parC zs j=0)∧Hid (ow=true↔(zt.owner≠0∨∃ j,j < k∧Tre.ownC zs j≠0))∧Hid (Ext w wr)) (fun i _ _=>zs.length - (intOf i).toNat)
  case atStart=>exact⟨0,_,Nat.zero_le _,rfl,rfl,fun j h=>by omega,(by show _↔_;simp),HB.out⟩
  case round =>
   obtain⟨k,ow,hk,rfl,rfl,HA,HO,HE⟩:=hrel
   by_cases hlt:k < zs.length
   ·obtain⟨z,hzk⟩:∃ z,zs[k]?=some z:=⟨_,List.getElem?_eq_getElem hlt⟩
    obtain⟨d0,-,-,-,-⟩:=HX.out.2.ext HX.out.1 HE.out k z hzk
    have HZ:Hid (zs[k]?=some z):=hzk
    clear hzk
    by_cases htop:z.path.data.toList = [47]
    ·have he:(z.path.toList == [47])=true:=by rw [beq_top,htop];rfl
     have HPk:Hid (Tre.parC zs k=0):=by
      show _=_
      rw [Tre.parC_eq HZ.out,Tre.par_top htop,HT.out.1,if_neg (by omega)]
     have HOk:Hid (Tre.ownC zs k=if zt.owner≠0 then 1 else 0):=Tre.ownC_eq HZ.out (by rw [Tre.par_top htop];exact HT.out.1) HT.out.2.1
     have HA2:Hid (∀ j,j < k+1→Tre.parC zs j=0):=by
      intro j hj
      by_cases hjk:j=k
      ·subst hjk;exact HPk.out
      ·exact HA.out j (by omega)
     have HO2:Hid (ow=true↔(zt.owner≠0∨∃ j,j < k+1∧Tre.ownC zs j≠0)):=by
      show _↔_
      rw [HO.out]
      constructor
      ·rintro (h | ⟨j,hj,hne⟩)
       ·exact .inl h
       ·exact .inr ⟨j,by omega,hne⟩
      ·rintro (h | ⟨j,hj,hne⟩)
       ·exact .inl h
       ·by_cases hjk:j=k
        ·subst hjk
         rw [HOk.out] at hne
         by_cases hz:zt.owner≠0
         ·exact .inl hz
         ·rw [if_neg hz] at hne;exact absurd rfl hne
        ·exact .inr ⟨j,by omega,hne⟩
     go_wp2
     exact⟨⟨k+1,ow,by omega,by go_num,rfl,HA2,HO2,HE⟩,by simp [intOf];omega⟩
    ·have he:(z.path.toList == [47])=false:=by rw [beq_top];exact decide_eq_false htop
     have HPz:Hid (Calls Tryz.prog 217 #[.slice (some ⟨b,off,none⟩) zs.length cap,.string z.path] wr fun e w'=>e = .returned (ptrV b off zs (Tre.par z.path))∧Ext wr w'):=HP.out wr z HE.out (List.mem_of_getElem? HZ.out) htop
     cases hpp:Tre.has zs (Tre.par z.path) with
     | false =>
      rw [ptrV_miss hpp] at HPz
      have HF:Hid (R=4):=HR.out.symm.trans (Tre.hang_par (by rw [HT.out.1];omega) HZ.out HA.out hpp)
      clear htop hpp
      go_wp2_with fail
      refine HPz.out.mono ?_
      rintro e w3 ⟨rfl,hb⟩
      have HE3:Hid (Ext w w3):=HE.out.trans hb
      clear hb
      go_wp2
      go_ret
      exact⟨ret_int HF.out.symm,HE3.out⟩
     | true =>
      obtain⟨y,hat,hy,-⟩:=Tre.has_at HU.out hpp
      rw [ptrV_hit hpp rfl] at HPz
      generalize Tre.cut zs (Tre.par z.path).data.toList=kp at *
      have HY:Hid (zs[kp]?=some y):=hy
      have HOk:Hid (Tre.ownC zs k=if y.owner≠0 then 1 else 0):=Tre.ownC_eq HZ.out hat hy
      have HPk:Hid (Tre.parC zs k=0):=by
       show _=_
       rw [Tre.parC_eq HZ.out,hat,if_neg (by omega)]
      have HA2:Hid (∀ j,j < k+1→Tre.parC zs j=0):=by
       intro j hj
       by_cases hjk:j=k
       ·subst hjk;exact HPk.out
       ·exact HA.out j (by omega)
      have HO2:Hid ((ow || (y.owner != 0))=true↔(zt.owner≠0∨∃ j,j < k+1∧Tre.ownC zs j≠0)):=by
       show _↔_
       rw [Bool.or_eq_true,HO.out]
       constructor
       ·rintro ((h | ⟨j,hj,hne⟩) | h)
        ·exact .inl h
        ·exact .inr ⟨j,by omega,hne⟩
        ·exact .inr ⟨k,by omega,by rw [HOk.out,if_pos (by simpa using h)];decide⟩
       ·rintro (h | ⟨j,hj,hne⟩)
        ·exact .inl (.inl h)
        ·by_cases hjk:j=k
         ·subst hjk
          rw [HOk.out] at hne
          by_cases hz:y.owner≠0
          ·exact .inr (by simpa using hz)
          ·rw [if_neg hz] at hne;exact absurd rfl hne
         ·exact .inl (.inr ⟨j,by omega,hne⟩)
      clear htop hpp hat hy
      go_wp2_with fail
      refine HPz.out.mono ?_
      rintro e w3 ⟨rfl,hb⟩
      have HE3:Hid (Ext w w3):=HE.out.trans hb
      have HD3:Hid (w3.cell? ⟨b,off+kp * 5+3,none⟩=some (.int .i64 y.owner)):=(HX.out.2.ext HX.out.1 HE3.out kp y HY.out).2.2.2.1
      clear hb d0
      generalize off+kp * 5=op at *
      have d3:=HD3.out
      clear HD3
      cases ow with
      | true =>
       rw [Bool.true_or] at HO2
       go_wp2
       exact⟨⟨k+1,true,by omega,by go_num,rfl,HA2,⟨fun _=>HO2.out.1 trivial,fun _=>rfl⟩,HE3⟩,by simp [intOf];omega⟩
      | false =>
       rw [Bool.false_or] at HO2
       go_wp2
       exact⟨⟨k+1,_,by omega,by go_num,rfl,HA2,HO2,HE3⟩,by simp [intOf];omega⟩
   ·have hke:k=zs.length:=by omega
    subst hke
    have HF:Hid (R=if ow=true then 1 else 0):=HR.out.symm.trans (Tre.hang_end HT.out.1 HT.out.2.1 HA.out HO.out HT.out.2.2)
    cases ow with
    | true =>
     go_wp2
     go_ret
     exact⟨ret_int HF.out.symm,HE.out⟩
    | false =>
     go_wp2
     go_ret
     exact⟨ret_int HF.out.symm,HE.out⟩
end Go.Proofs.YtpdejinkmnhioaaGreatDoor
namespace Go.Proofs.YtpdejinkmnhioaaGreatDoor
open Go.RowKit
set_option maxHeartbeats 2000000 in
set_option maxRecDepth 100000 in
theorem implTreeFault_any (v:Value) (zs:List Zn) (w:World) (hg:Gd w) (hS:NSlice w v zs) :
  Calls Tryz.prog 88 #[v] w fun e w'=>e = .returned (.int .i64 (Tre.fault zs))∧Ext w w':=by
 have HS:Hid (NSlice w v zs):=hS
 have HG:Hid (Gd w):=hg
 obtain⟨a,cap,rfl,hlc,hcm,hx⟩:=hS
 refine n26z ?_
 intro HX
 clear hx hg
 unfold maxLen at hcm
 by_cases h20:20 < zs.length
 ·rw [Tre.fault_many h20]
  go_enter Tryz.func88,Tryz.ntmps88
  go_wp2
  go_ret
  exact⟨rfl,Ext.refl _⟩
 obtain⟨F,hF⟩:∃ F,F=Tre.fault zs:=⟨_,rfl⟩
 have HF:Hid (F=Tre.fault zs):=hF
 rw [← hF]
 clear hF
 have H20:Hid (¬ 20 < zs.length):=h20
 have HH:Hid (∀ wx:World,Ext w wx→(∀ j,j < zs.length→Tre.nodeC zs j=0)→Calls Tryz.prog 161 #[.slice a zs.length cap] wx fun e w'=>e = .returned (.int .i64 F)∧Ext wx w'):=fun wx h hn=>by
  have:=hangFault_any _ zs wx (HG.out.ext h) (HS.out.ext h) (by have:=H20.out;omega) hn
  rw [← Tre.fault_eq (by have:=H20.out;omega) hn,← HF.out] at this
  exact this
 go_enter Tryz.func88,Tryz.ntmps88
 go_wp2
 go_loopw [11,3] (fun i ah wr=>∃ (k:Nat) (q:Option Addr),k≤zs.length∧i = .int .i64 k∧ah = .pointer q∧Hid ((k=0∧q=none)∨∃ m b off,k=m+1∧a=some ⟨b,off,none⟩∧q=some ⟨b,off+m * 5,none⟩)∧Hid (∀ j,j < k→Tre.nodeC zs j=0)∧Hid (Ext w wr)) (fun i _ _=>zs.length - (intOf i).toNat)
 case atStart=>exact⟨0,none,Nat.zero_le _,rfl,rfl,.inl ⟨rfl,rfl⟩,fun j h=>by omega,Ext.refl _⟩
 case round =>
  obtain⟨k,q,hk,rfl,rfl,HQ,HA,HE⟩:=hrel
  by_cases hlt:k < zs.length
  ·obtain⟨z,hzk⟩:∃ z,zs[k]?=some z:=⟨_,List.getElem?_eq_getElem hlt⟩
   obtain⟨b,off,rfl,hb,hN⟩:=HX.out (by omega)
   have HC:=nodeFault_any b off k zs z q wr (HG.out.ext HE.out) (Nat.lt_of_lt_of_le hb HE.out.size) (hN.ext hb HE.out) hzk (by
    rcases HQ.out with h | ⟨m,b',off',h1,h2,h3⟩
    ·exact .inl h
    ·injection h2 with h2;injection h2 with h4 h5;subst h4;subst h5;exact .inr ⟨m,h1,h3⟩)
   obtain⟨c,hc⟩:∃ c,c=Tre.nodeC zs k:=⟨_,rfl⟩
   rw [← hc] at HC
   have HC1:Hid (Calls Tryz.prog 160 #[.pointer (some ⟨b,off+k * 5,none⟩),.pointer q] wr fun e w'=>e = .returned (.int .i64 c)∧Ext wr w'):=HC
   have HCC:Hid (c=Tre.nodeC zs k):=hc
   clear HC hc hN hzk
   by_cases hc0:c≠0
   ·have HR:Hid (F=c):=by
     show _=_
     rw [HF.out]
     exact Tre.fault_node H20.out (by rw [HCC.out];exact Tre.first_hit hlt HA.out (by rw [← HCC.out];exact hc0)) hc0
    go_wp2_with fail
    refine HC1.out.mono ?_
    rintro e w2 ⟨rfl,hb2⟩
    have HE2:Hid (Ext w w2):=HE.out.trans hb2
    clear hb2
    go_wp2
    go_ret
    exact⟨ret_int HR.out.symm,HE2.out⟩
   ·have hc1:c=0:=by omega
    subst hc1
    clear hc0
    have HA2:Hid (∀ j,j < k+1→Tre.nodeC zs j=0):=by
     intro j hj
     by_cases hjk:j=k
     ·subst hjk;exact HCC.out.symm
     ·exact HA.out j (by omega)
    go_wp2_with fail
    refine HC1.out.mono ?_
    rintro e w2 ⟨rfl,hb2⟩
    have HE2:Hid (Ext w w2):=HE.out.trans hb2
    clear hb2
    go_wp2
    exact⟨⟨k+1,_,by omega,by go_num,rfl,.inr ⟨k,b,off,rfl,rfl,rfl⟩,HA2,HE2⟩,by simp [intOf];omega⟩
  ·have HC1:Hid (Calls Tryz.prog 161 #[.slice a zs.length cap] wr fun e w'=>e = .returned (.int .i64 F)∧Ext wr w'):=HH.out wr HE.out (fun j hj=>HA.out j (by omega))
   go_wp2_with fail
   refine HC1.out.mono ?_
   rintro e w2 ⟨rfl,hb2⟩
   have HE2:Hid (Ext w w2):=HE.out.trans hb2
   clear hb2
   go_wp2
   go_ret
   exact⟨rfl,HE2.out⟩
set_option maxHeartbeats 1000000 in
theorem treeOrPath_any (v:Value) (zs:List Zn) (p:ByteArray) (w:World) (hg:Gd w) (hS:NSlice w v zs) :
  Calls Tryz.prog 255 #[v,.string p] w fun e w'=>e = .returned (.int .i64 (Tre.asked zs p))∧Ext w w':=by
 have HL:Hid (Calls Tryz.prog 88 #[v] w fun e w'=>e = .returned (.int .i64 (Tre.fault zs))∧Ext w w'):=implTreeFault_any v zs w hg hS
 obtain⟨a,cap,rfl,-⟩:=hS
 have HP:Hid (∀ wx:World,Ext w wx→Calls Tryz.prog 127 #[.string p] wx fun e w'=>e = .returned (.int .i64 (Pth.faultI p.data.toList))∧Ext wx w'):=fun wx h=>pathFault_any p wx (hg.ext h)
 by_cases h0:Tre.fault zs≠0
 ·rw [show Tre.asked zs p=Tre.fault zs from by unfold Tre.asked;rw [if_pos h0]]
  generalize Tre.fault zs=F at *
  go_enter Tryz.func255,Tryz.ntmps255
  go_wp2_with fail
  refine HL.out.mono ?_
  exact m22z
 ·rw [show Tre.asked zs p=Pth.faultI p.data.toList from by unfold Tre.asked;rw [if_neg h0]]
  rw [show Tre.fault zs=0 from by omega] at HL
  go_enter Tryz.func255,Tryz.ntmps255
  go_wp2_with fail
  refine HL.out.mono ?_
  rintro e w2 ⟨rfl,hb⟩
  have HB:Hid (Ext w w2):=hb
  clear hb
  go_wp2_with fail
  refine (HP.out _ HB.out).mono ?_
  rintro e w3 ⟨rfl,hb⟩
  have HB3:Hid (Ext w w3):=HB.out.trans hb
  clear hb
  go_wp2
  go_ret
  exact⟨rfl,HB3.out⟩
end Go.Proofs.YtpdejinkmnhioaaGreatDoor
namespace Go.Proofs.YtpdejinkmnhioaaGreatDoor
open Go.RowKit
set_option maxHeartbeats 1000000 in
set_option maxRecDepth 100000 in
theorem cloneZ_any (v:Value) (zs:List Zn) (w:World) (hS:NSlice w v zs) (hl:zs.length≤1048576) (hp:0 < zs.length) :
  Calls Tryz.prog 187 #[v] w fun e w'=>∃ v' g,e = .returned v'∧w.heap.size≤g∧Own w' v' g zs∧Ext w w':=by
 refine n21z ?_
 intro hi9
 obtain⟨i0,hi,hx⟩:=Option.map_eq_some_iff.1 hi9
 simp only [Prod.mk.injEq] at hx
 obtain⟨hz0,hz1,hz2⟩:=hx
 clear hi9
 obtain⟨a,cap,rfl,hlc,hcm,hx⟩:=hS
 obtain⟨b,off,rfl,hb,hN⟩:=hx hp
 refine n73z ?_
 intro HN
 clear hN hx
 unfold maxLen at hcm
 refine n44z ?_
 intro HO
 refine n69z ?_
 intro q22
 go_enter Tryz.func187,Tryz.ntmps187
 exact m21z
theorem List.set_getElem?_self' {α:Type} {l:List α} {k:Nat} {z:α} (h:l[k]?=some z):l.set k z=l:=by
 apply List.ext_getElem?
 intro i
 rw [List.getElem?_set]
 split
 ·rename_i hi;subst hi;rw [h];split
  ·rfl
  ·rename_i hn;exact absurd (List.getElem?_eq_some_iff.1 h).1 hn
 ·rfl
set_option maxHeartbeats 1000000 in
set_option maxRecDepth 100000 in
theorem copyNodes_any (v:Value) (zs:List Zn) (w:World) (hS:NSlice w v zs) (hl:zs.length≤1048576) (hp:0 < zs.length) (hz:∀ z ∈ zs,z.path.size≤1048576) :
  Calls Tryz.prog 128 #[v] w fun e w'=>∃ v' g,e = .returned v'∧w.heap.size≤g∧Own w' v' g zs∧Ext w w':=by
 have HL:Hid (∀ wx:World,Ext w wx→Calls Tryz.prog 187 #[v] wx fun e w'=>∃ v' g,e = .returned v'∧wx.heap.size≤g∧Own w' v' g zs∧Ext wx w'):=fun wx h=>cloneZ_any v zs wx (hS.ext h) hl hp
 have HZ:Hid (∀ z ∈ zs,z.path.size≤1048576):=hz
 clear hz
 obtain⟨a,cap,rfl,-⟩:=hS
 go_enter Tryz.func128,Tryz.ntmps128
 go_wp2_with fail
 refine (HL.out _ (Ext.refl _)).mono ?_
 rintro e w2 ⟨v2,g,rfl,hg,hO,hb⟩
 obtain⟨a2,cap2,rfl,hlc2,hcm2,hx2⟩:=id hO
 obtain⟨off,rfl,-,-⟩:=hx2 hp
 have HO:Hid (Own w2 (.slice (some ⟨g,off,none⟩) zs.length cap2) g zs):=hO
 have HE:Hid (Ext w w2):=hb
 have HG:Hid (w.heap.size≤g):=hg
 clear hb hO hx2 hg
 unfold maxLen at hcm2
 go_wp2
 go_loopw [9] (fun i wr=>∃ (k:Nat),k≤zs.length∧i = .int .i64 k∧Hid (Own wr (.slice (some ⟨g,off,none⟩) zs.length cap2) g zs)∧Hid (Ext w wr)) (fun i _=>zs.length - (intOf i).toNat)
 case atStart=>exact⟨0,Nat.zero_le _,rfl,HO.out,HE.out⟩
 case round =>
  clear HO HE
  obtain⟨k,hk,rfl,HO,HE⟩:=hrel
  by_cases hlt:k < zs.length
  ·obtain⟨z,hzk⟩:∃ z,zs[k]?=some z:=⟨_,List.getElem?_eq_getElem hlt⟩
   have HK:Hid (zs[k]?=some z):=hzk
   obtain⟨a3,cap3,he,-,-,hx3⟩:=id HO.out
   injection he with e1 e2 e3
   subst e1 e3
   obtain⟨off3,ho,hR,hN⟩:=hx3 hp
   injection ho with ho
   injection ho with _ ho _
   subst ho
   obtain⟨d0,-,-,-,-⟩:=hN k z hzk
   have hf:=(hR.2 (k * 5) (by omega)).2
   have HC:Hid (∀ wx:World,Calls Tryz.prog 148 #[.string z.path] wx fun e w'=>e = .returned (.string z.path)∧Ext wx w'):=fun wx=>clone_any z.path wx (HZ.out z (List.mem_of_getElem? hzk))
   have HF:Hid (wr.frozen? ⟨g,off+k * 5,none⟩=false):=hf
   have HLt:Hid (g < wr.heap.size):=hR.1
   clear hzk hx3 hR hN hf
   go_wp2_with fail
   refine (HC.out _).mono ?_
   rintro e w3 ⟨rfl,hb⟩
   have HO3:Hid (Own w3 (.slice (some ⟨g,off,none⟩) zs.length cap2) g zs):=HO.out.ext hb
   have HE3:Hid (Ext w w3):=HE.out.trans hb
   have d3:=(Below.cell hb (p:=⟨g,off+k * 5,none⟩) HLt.out).trans d0
   have f3:=(Below.frozen hb (p:=⟨g,off+k * 5,none⟩) HLt.out).trans HF.out
   clear hb d0
   go_wp2
   have HO4:Hid (Own (w3.setCell ⟨g,off+k * 5,none⟩ (.string z.path)) (.slice (some ⟨g,off,none⟩) zs.length cap2) g zs):=by
    have h:=HO3.out.field HK.out 0 (by omega) (.string z.path) z rfl
    rw [List.set_getElem?_self' HK.out] at h
    exact h
   exact⟨⟨k+1,by omega,by go_num,HO4,HE3.out.setCell (p:=⟨g,off+k * 5,none⟩) HG.out _⟩,by simp [intOf];omega⟩
  ·go_wp2
   go_ret
   exact⟨_,g,rfl,HG.out,HO.out,HE.out⟩
end Go.Proofs.YtpdejinkmnhioaaGreatDoor
namespace Go.Proofs.YtpdejinkmnhioaaGreatDoor
open Go.RowKit
theorem NodesAt.one {w:World} {b off k:Nat} {zs:List Zn} {z:Zn} (h:NodesAt w b off zs) (hz:zs[k]?=some z):NodesAt w b (off+k * 5) [z]:=by
 intro i y hy
 cases i with
 | zero=>simp at hy;subst hy;simpa using h k z hz
 | succ i=>simp at hy
namespace Tre
theorem asked_len {zs:List Zn} {p:ByteArray} (h:asked zs p=0):zs.length≤20∧Up zs∧0 < zs.length∧∀ z ∈ zs,z.path.size≤24:=by
 obtain⟨h1,_⟩:=asked_fault h
 refine⟨(fault_nodes h1).1,fault_up h1,?_,fun z hz=>few_of_ok (fault_nums h1 z hz).1⟩
 rcases atI_range zs top with ⟨hm,_⟩ | ⟨k,z,_,hk,_,_⟩
 ·have:=(fault_hang h1).1;omega
 ·omega
end Tre
set_option maxHeartbeats 1000000 in
set_option maxRecDepth 100000 in
theorem hasVersion_any (b o:Nat) (x n:Int) (w:World) (d:w.cell? ⟨b,o+2,none⟩=some (.int .i64 x)) :
  Calls Tryz.prog 237 #[.pointer (some ⟨b,o,none⟩),.int .i64 n] w fun e w'=>e = .returned (.bool (decide (n = -1∨n=x)))∧Ext w w':=by
 by_cases h1:n = -1
 ·subst h1
  go_enter Tryz.func237,Tryz.ntmps237
  go_wp2
  go_ret
  exact⟨by simp,Ext.refl _⟩
 ·have g1:(n == -1)=false:=by simpa using h1
  by_cases h2:n=x
  ·have g2:(n == x)=true:=by simpa using h2
   rw [show decide (n = -1∨n=x)=true from by simp [h2]]
   go_enter Tryz.func237,Tryz.ntmps237
   go_wp2
   go_ret
   exact⟨rfl,Ext.refl _⟩
  ·have g2:(n == x)=false:=by simpa using h2
   rw [show decide (n = -1∨n=x)=false from by simp [h1,h2]]
   go_enter Tryz.func237,Tryz.ntmps237
   go_wp2
   go_ret
   exact⟨rfl,Ext.refl _⟩
set_option maxHeartbeats 1000000 in
set_option maxRecDepth 100000 in
theorem implGetZ_any (v:Value) (zs:List Zn) (p:ByteArray) (w:World) (hg:Gd w) (hS:NSlice w v zs) :
  Calls Tryz.prog 233 #[v,.string p] w (ZRet w (Tre.getT zs p).1 (Tre.getT zs p).2.1 (Tre.getT zs p).2.2):=by
 refine n33z ?_
 intro HL
 have HS:Hid (NSlice w v zs):=hS
 obtain⟨a,cap,rfl,hlc,hcm,hx⟩:=hS
 refine n26z ?_
 intro HX
 clear hx
 unfold maxLen at hcm
 by_cases h0:Tre.asked zs p≠0
 ·rw [Tre.getT_bad rfl h0]
  generalize Tre.asked zs p=F at *
  go_enter Tryz.func233,Tryz.ntmps233
  go_wp2_with fail
  refine n48z ?_
  intro w2 HB HQ q q0 q1 q2 f0 f1 f2
  go_wp2
  exact bodyPost_ret (v:=zr F ⟨#[]⟩ (.slice none 0 0)) (by simp [results,Tryz.results233,go_sem,zr,q0,q1,q2]) rfl (zret_bad _ _ (HB.out.box3 _ _ _))
 have h00:Tre.asked zs p=0:=by omega
 rw [h00] at HL
 obtain⟨h20,hU,hpos,h24⟩:=Tre.asked_len h00
 have HPl:Hid (∀ wx:World,Ext w wx→Calls Tryz.prog 246 #[.slice a zs.length cap,.string p] wx fun e w'=>e = .returned (.tuple #[.int .i64 (Tre.cut zs p.data.toList:Nat),.bool (Tre.has zs p)])∧Ext wx w'):=fun wx h=>placeOf_any _ zs p wx (HS.out.ext h) hU (by omega)
 cases hh:Tre.has zs p with
 | false =>
  rw [Tre.getT_none h00 (Tre.has_not hh)]
  rw [hh] at HPl
  generalize Tre.cut zs p.data.toList=k at *
  clear hU h24 hh
  go_enter Tryz.func233,Tryz.ntmps233
  go_wp2_with fail
  refine (HL.out _ ((Ext.refl _).alloc _)).mono ?_
  rintro e w2 ⟨rfl,hb⟩
  have HB:Hid (Ext w w2):=((Ext.refl _).alloc _).trans hb
  have HQ:Hid (RBox w2 w.heap.size):=(RBox.new w _).ext hb
  clear hb
  go_wp2_with fail
  refine (HPl.out _ HB.out).mono ?_
  rintro e w3 ⟨rfl,hb⟩
  have HB3:Hid (Ext w w3):=HB.out.trans hb
  obtain⟨q,q0,q1,q2,f0,f1,f2⟩:=HQ.out.ext hb
  clear hb
  go_wp2
  exact bodyPost_ret (v:=zr 4 ⟨#[]⟩ (.slice none 0 0)) (by simp [results,Tryz.results233,go_sem,zr,q0,q1,q2]) rfl (zret_bad _ _ (HB3.out.box3 _ _ _))
 | true =>
  obtain⟨z,hat,hz,-⟩:=Tre.has_at hU hh
  rw [Tre.getT_ok h00 hat hz]
  rw [hh] at HPl
  have hkl:=(List.getElem?_eq_some_iff.1 hz).1
  obtain⟨b,off,rfl,hb,hN⟩:=HX.out (by omega)
  have HC:Hid (∀ wx:World,Ext w wx→Calls Tryz.prog 128 #[.slice (some ⟨b,off+Tre.cut zs p.data.toList * 5,none⟩) 1 (cap - Tre.cut zs p.data.toList)] wx fun e w'=>∃ v' g,e = .returned v'∧wx.heap.size≤g∧Own w' v' g [z]∧Ext wx w'):=fun wx h =>
   copyNodes_any _ [z] wx ⟨_,cap - Tre.cut zs p.data.toList,rfl,by simp;omega,by unfold maxLen;omega,fun _=>⟨b,_,rfl,Nat.lt_of_lt_of_le hb h.size,(hN.ext hb h).one hz⟩⟩ (by simp) (by simp) (fun y hy=>by simp at hy;subst hy;have:=h24 y (List.mem_of_getElem? hz);omega)
  generalize Tre.cut zs p.data.toList=k at *
  clear hU h24 hh hz hat hN
  go_enter Tryz.func233,Tryz.ntmps233
  go_wp2_with fail
  refine (HL.out _ ((Ext.refl _).alloc _)).mono ?_
  rintro e w2 ⟨rfl,hb⟩
  have HB:Hid (Ext w w2):=((Ext.refl _).alloc _).trans hb
  have HQ:Hid (RBox w2 w.heap.size):=(RBox.new w _).ext hb
  clear hb
  go_wp2_with fail
  refine (HPl.out _ HB.out).mono ?_
  rintro e w3 ⟨rfl,hb⟩
  have HB3:Hid (Ext w w3):=HB.out.trans hb
  have HQ3:Hid (RBox w3 w.heap.size):=HQ.out.ext hb
  clear hb
  go_wp2_with fail
  refine (HC.out _ HB3.out).mono ?_
  rintro e w4 ⟨v4,g,rfl,hg4,hO,hb⟩
  obtain⟨a4,cap4,rfl,-⟩:=id hO
  have HO:Hid (Own w4 (.slice a4 [z].length cap4) g [z]):=hO
  have HG:Hid (w.heap.size+1≤g):=by have:=HQ3.out.1;show _≤_;omega
  obtain⟨q,q0,q1,q2,f0,f1,f2⟩:=HQ3.out.ext hb
  have HB4:Hid (Ext w w4):=HB3.out.trans hb
  clear hb hO hg4
  go_wp2
  exact bodyPost_ret (v:=zr 0 ⟨#[]⟩ (.slice a4 [z].length cap4)) (by simp [results,Tryz.results233,go_sem,zr,q0,q1,q2]) rfl (zret_own 0 ⟨#[]⟩ HO.out HG.out HB4.out _ _ _)
end Go.Proofs.YtpdejinkmnhioaaGreatDoor
