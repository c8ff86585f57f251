/- T2, N0, T3, in one text. -/
import Derived.Test.YtpdejinkmnhioaaGreatDoorAoJ5
import Derived.Test.YtpdejinkmnhioaaGreatDoorAoJ3
import Derived.Test.YtpdejinkmnhioaaGreatDoorAoJ4
import Derived.Laws.OwnMore
import Derived.Test.YtpdejinkmnhioaaGreatDoorAoMk
namespace Go.Proofs.YtpdejinkmnhioaaGreatDoor
open Go.RowKit
namespace Tre
def okNums (z:Zn):Bool:=(decide (0≤z.data) && decide (z.data≤9999)) && ((decide (0≤z.version) && decide (z.version≤999)) && ((decide (0≤z.owner) && decide (z.owner≤9)) && (decide (0≤z.next) && decide (z.next≤100))))
def notUp (z y:Zn):Bool:=Op.bytesLess z.path.toList y.path.toList || (z.path.toList == y.path.toList)
def par (p:ByteArray):ByteArray:=mkB (if Pth.lastSl p.data.toList 0 0=0 then [47] else p.data.toList.take (Pth.lastSl p.data.toList 0 0))
/-- What is wrong with node i alone, and beside the one ahead of it. -/
def nodeC (zs:List Zn) (i:Nat):Int:=match zs[i]? with
 | none=>0
 | some z=>if Pth.faultI z.path.data.toList≠0 then Pth.faultI z.path.data.toList else if okNums z=false then 3 else match i with
  | 0=>0
  | m+1=>match zs[m]? with
   | none=>0
   | some y=>if notUp z y=true then 1 else 0
def parC (zs:List Zn) (i:Nat):Int:=match zs[i]? with
 | none=>0
 | some z=>if atI zs (par z.path) < 0 then 4 else 0
def ownC (zs:List Zn) (i:Nat):Int:=match zs[i]? with
 | none=>0
 | some z=>match zs[(atI zs (par z.path)).toNat]? with
  | none=>0
  | some y=>if y.owner≠0 then 1 else 0
def top:ByteArray:=⟨#[47]⟩
def fault (zs:List Zn):Int :=
 if 20 < zs.length then 2
 else if first (nodeC zs) zs.length≠0 then first (nodeC zs) zs.length
 else if atI zs top < 0 then 4
 else if first (parC zs) zs.length≠0 then first (parC zs) zs.length
 else first (ownC zs) zs.length
theorem nodeC_path {zs:List Zn} {k:Nat} {z:Zn} {c:Int} (hz:zs[k]?=some z) (hc:c=Pth.faultI z.path.data.toList) (h0:c≠0):nodeC zs k=c:=by
 unfold nodeC;rw [hz];show (if _ then _ else _)=_;rw [← hc,if_pos h0]
theorem nodeC_nums {zs:List Zn} {k:Nat} {z:Zn} (hz:zs[k]?=some z) (hc:0=Pth.faultI z.path.data.toList) (hn:okNums z=false):nodeC zs k=3:=by
 unfold nodeC;rw [hz];show (if _ then _ else _)=_;rw [← hc,if_neg (by simp),if_pos hn]
theorem nodeC_zero {zs:List Zn} {z:Zn} (hz:zs[0]?=some z) (hc:0=Pth.faultI z.path.data.toList) (hn:okNums z=true):nodeC zs 0=0:=by
 unfold nodeC;rw [hz];show (if _ then _ else _)=_;rw [← hc,if_neg (by simp),if_neg (by rw [hn];simp)]
theorem nodeC_succ {zs:List Zn} {m:Nat} {z y:Zn} (hz:zs[m+1]?=some z) (hy:zs[m]?=some y) (hc:0=Pth.faultI z.path.data.toList) (hn:okNums z=true):nodeC zs (m+1)=if notUp z y=true then 1 else 0:=by
 unfold nodeC;rw [hz];show (if _ then _ else _)=_;rw [← hc,if_neg (by simp),if_neg (by rw [hn];simp)]
 simp only [hy]
theorem nodeC_ok {zs:List Zn} {k:Nat} {z:Zn} (hz:zs[k]?=some z) (h:nodeC zs k=0):Pth.faultI z.path.data.toList=0∧okNums z=true:=by
 by_cases hc:Pth.faultI z.path.data.toList=0
 ·by_cases hn:okNums z=true
  ·exact⟨hc,hn⟩
  ·rw [nodeC_nums hz hc.symm (by simpa using hn)] at h;cases h
 ·rw [nodeC_path hz rfl hc] at h;exact absurd h hc
theorem parC_eq {zs:List Zn} {k:Nat} {z:Zn} (hz:zs[k]?=some z):parC zs k=if atI zs (par z.path) < 0 then 4 else 0:=by
 unfold parC;rw [hz]
theorem ownC_eq {zs:List Zn} {k j:Nat} {z y:Zn} (hz:zs[k]?=some z) (hj:atI zs (par z.path)=j) (hy:zs[j]?=some y):ownC zs k=if y.owner≠0 then 1 else 0:=by
 unfold ownC;simp only [hz,hj,Int.toNat_natCast,hy]
theorem fault_many {zs:List Zn} (h:20 < zs.length):fault zs=2:=by unfold fault;rw [if_pos h]
theorem fault_node {zs:List Zn} {c:Int} (h:¬ 20 < zs.length) (h1:first (nodeC zs) zs.length=c) (h0:c≠0):fault zs=c:=by unfold fault;rw [if_neg h,h1,if_pos h0]
theorem fault_top {zs:List Zn} (h:¬ 20 < zs.length) (h1:first (nodeC zs) zs.length=0) (h2:atI zs top < 0):fault zs=4:=by unfold fault;rw [if_neg h,h1,if_neg (by simp),if_pos h2]
theorem fault_par {zs:List Zn} {c:Int} (h:¬ 20 < zs.length) (h1:first (nodeC zs) zs.length=0) (h2:¬ atI zs top < 0) (h3:first (parC zs) zs.length=c) (h0:c≠0):fault zs=c:=by unfold fault;rw [if_neg h,h1,if_neg (by simp),if_neg h2,h3,if_pos h0]
theorem fault_own {zs:List Zn} {c:Int} (h:¬ 20 < zs.length) (h1:first (nodeC zs) zs.length=0) (h2:¬ atI zs top < 0) (h3:first (parC zs) zs.length=0) (h4:first (ownC zs) zs.length=c):fault zs=c:=by unfold fault;rw [if_neg h,h1,if_neg (by simp),if_neg h2,h3,if_neg (by simp),h4]
end Tre
set_option maxHeartbeats 2000000 in
set_option maxRecDepth 100000 in
theorem l2Fault_any (v:Value) (zs:List Zn) (w:World) (hS:NSlice w v zs) :
  Calls Tryz.prog 101 #[v] w fun e w'=>e = .returned (.int .i64 (Tre.fault zs))∧Ext w w':=by
 have HS:Hid (NSlice w v zs):=hS
 obtain⟨a,cap,rfl,hlc,hcm,hx⟩:=hS
 refine n26z ?_
 intro HX
 clear hx
 unfold maxLen at hcm
 by_cases h20:20 < zs.length
 ·rw [Tre.fault_many h20]
  go_enter Tryz.func101,Tryz.ntmps101
  go_wp2
  go_ret
  exact⟨rfl,Ext.refl _⟩
 obtain⟨F,hF⟩:∃ F,F=Tre.fault zs:=⟨_,rfl⟩
 have HF:Hid (F=Tre.fault zs):=hF
 rw [← hF]
 clear hF
 have H20:Hid (¬ 20 < zs.length):=h20
 go_enter Tryz.func101,Tryz.ntmps101
 go_wp2
 go_loopw [3] (fun i wr=>∃ (k:Nat),k≤zs.length∧i = .int .i64 k∧Hid (∀ j,j < k→Tre.nodeC zs j=0)∧Hid (Ext w wr)) (fun i _=>zs.length - (intOf i).toNat)
 case atStart=>exact⟨0,Nat.zero_le _,rfl,fun j h=>by omega,Ext.refl _⟩
 case round =>
  obtain⟨k,hk,rfl,HA,HE⟩:=hrel
  by_cases hlt:k < zs.length
  ·obtain⟨z,hzk⟩:∃ z,zs[k]?=some z:=⟨_,List.getElem?_eq_getElem hlt⟩
   obtain⟨b,off,rfl,hb,hN⟩:=HX.out (by omega)
   have hzk1:=hN.ext hb HE.out k z hzk
   obtain⟨d0,d1,d2,d3,d4⟩:=hzk1
   have HZ:Hid (zs[k]?=some z):=hzk
   have HN:Hid (b < w.heap.size∧NodesAt w b off zs):=⟨hb,hN⟩
   have HV:Hid (∀ c:Int,c≠0→Tre.nodeC zs k=c→c=F):=fun c h0 hc=>by
    rw [HF.out,Tre.fault_node H20.out (c:=c) (by rw [← hc];exact Tre.first_hit hlt HA.out (by rw [hc];exact h0)) h0]
   clear hzk hN hb
   obtain⟨c,hc⟩:∃ c,c=Pth.faultI z.path.data.toList:=⟨_,rfl⟩
   have HC:Hid (c=Pth.faultI z.path.data.toList):=hc
   have hf:=l1FaultI_any z.path wr
   rw [← hc] at hf
   clear hc
   go_wp2_with fail
   refine hf.mono ?_
   rintro e w2 ⟨rfl,hb2⟩
   have HE2:Hid (Ext w w2):=HE.out.trans hb2
   clear hf hb2 d0 d1 d2 d3 d4
   by_cases hc0:c≠0
   ·go_wp2
    go_ret
    exact⟨ret_int (HV.out c hc0 (Tre.nodeC_path HZ.out HC.out hc0)),HE2.out⟩
   ·have hc1:c=0:=by omega
    subst hc1
    clear hc0
    obtain⟨d0,d1,d2,d3,d4⟩:=HN.out.2.ext HN.out.1 HE2.out k z HZ.out
    have C1:Hid (∀ wx,Calls Tryz.prog 111 #[.int .i64 z.data] wx fun e w'=>e = .returned (.bool (decide (0≤z.data) && decide (z.data≤9999)))∧w'=wx):=l2Data_any z.data
    have C2:Hid (∀ wx,Calls Tryz.prog 104 #[.int .i64 z.version,.int .i64 0,.int .i64 999] wx fun e w'=>e = .returned (.bool (decide (0≤z.version) && decide (z.version≤999)))∧w'=wx):=l1In_any z.version 0 999
    have C3:Hid (∀ wx,Calls Tryz.prog 171 #[.int .i64 z.owner] wx fun e w'=>e = .returned (.bool (decide (0≤z.owner) && decide (z.owner≤9)))∧w'=wx):=l2Owner_any z.owner
    have C4:Hid (∀ wx,Calls Tryz.prog 104 #[.int .i64 z.next,.int .i64 0,.int .i64 100] wx fun e w'=>e = .returned (.bool (decide (0≤z.next) && decide (z.next≤100)))∧w'=wx):=l1In_any z.next 0 100
    have HO:Hid (∀ b1 b2 b3 b4:Bool,(decide (0≤z.data) && decide (z.data≤9999))=b1→(decide (0≤z.version) && decide (z.version≤999))=b2→(decide (0≤z.owner) && decide (z.owner≤9))=b3→(decide (0≤z.next) && decide (z.next≤100))=b4→Tre.okNums z=(b1 && (b2 && (b3 && b4)))):=by
     rintro b1 b2 b3 b4 rfl rfl rfl rfl;rfl
    cases hb1:(decide (0≤z.data) && decide (z.data≤9999)) with
    | false =>
     rw [hb1] at C1
     have HW:Hid (Tre.okNums z=false):=by show _=_;have h:=HO.out _ _ _ _ hb1 rfl rfl rfl;simpa using h
     clear HO hb1
     go_wp2_with fail
     refine (C1.out _).mono ?_
     exact m42z
    | true =>
    rw [hb1] at C1
    cases hb2:(decide (0≤z.version) && decide (z.version≤999)) with
    | false =>
     rw [hb2] at C2
     have HW:Hid (Tre.okNums z=false):=by show _=_;have h:=HO.out _ _ _ _ hb1 hb2 rfl rfl;simpa using h
     clear HO hb1 hb2
     go_wp2_with fail
     refine (C1.out _).mono ?_
     rintro e w3 ⟨rfl,rfl⟩
     go_wp2_with fail
     refine (C2.out _).mono ?_
     exact m42z
    | true =>
    rw [hb2] at C2
    cases hb3:(decide (0≤z.owner) && decide (z.owner≤9)) with
    | false =>
     rw [hb3] at C3
     have HW:Hid (Tre.okNums z=false):=by show _=_;have h:=HO.out _ _ _ _ hb1 hb2 hb3 rfl;simpa using h
     clear HO hb1 hb2 hb3
     go_wp2_with fail
     refine (C1.out _).mono ?_
     rintro e w3 ⟨rfl,rfl⟩
     go_wp2_with fail
     refine (C2.out _).mono ?_
     rintro e w3 ⟨rfl,rfl⟩
     go_wp2_with fail
     refine (C3.out _).mono ?_
     exact m42z
    | true =>
    rw [hb3] at C3
    cases hb4:(decide (0≤z.next) && decide (z.next≤100)) with
    | false =>
     rw [hb4] at C4
     have HW:Hid (Tre.okNums z=false):=by show _=_;have h:=HO.out _ _ _ _ hb1 hb2 hb3 hb4 ;simpa using h
     clear HO hb1 hb2 hb3 hb4
     go_wp2_with fail
     refine (C1.out _).mono ?_
     rintro e w3 ⟨rfl,rfl⟩
     go_wp2_with fail
     refine (C2.out _).mono ?_
     rintro e w3 ⟨rfl,rfl⟩
     go_wp2_with fail
     refine (C3.out _).mono ?_
     rintro e w3 ⟨rfl,rfl⟩
     go_wp2_with fail
     refine (C4.out _).mono ?_
     exact m42z
    | true =>
    rw [hb4] at C4
    have HW:Hid (Tre.okNums z=true):=HO.out _ _ _ _ hb1 hb2 hb3 hb4
    clear HO hb1 hb2 hb3 hb4
    by_cases hk0:k=0
    ·subst hk0
     go_wp2_with fail
     refine (C1.out _).mono ?_
     rintro e w3 ⟨rfl,rfl⟩
     go_wp2_with fail
     refine (C2.out _).mono ?_
     rintro e w3 ⟨rfl,rfl⟩
     go_wp2_with fail
     refine (C3.out _).mono ?_
     rintro e w3 ⟨rfl,rfl⟩
     go_wp2_with fail
     refine (C4.out _).mono ?_
     rintro e w3 ⟨rfl,rfl⟩
     go_wp2
     go_region
     all_goals go_wp2
     exact⟨⟨1,by omega,rfl,fun j hj=>by rw [show j=0 from by omega];exact Tre.nodeC_zero HZ.out HC.out HW.out,HE2.out.drew⟩,by simp [intOf];omega⟩
    ·obtain⟨m,rfl⟩:∃ m,k=m+1:=⟨k - 1,by omega⟩
     obtain⟨y,hy⟩:∃ y,zs[m]?=some y:=⟨_,List.getElem?_eq_getElem (by omega)⟩
     obtain⟨e0,e1,e2,e3,e4⟩:=HN.out.2.ext HN.out.1 HE2.out m y hy
     have HN2:=Tre.nodeC_succ HZ.out hy HC.out HW.out
     have HU:Hid (∀ c:Bool,Op.bytesLess z.path.toList y.path.toList=true∨(z.path.toList == y.path.toList)=true→Tre.nodeC zs (m+1)=1):=by
      intro _ h;rw [HN2,if_pos];unfold Tre.notUp;rcases h with h | h <;> rw [h] <;> simp
     have HV0:Hid (Op.bytesLess z.path.toList y.path.toList=false∧(z.path.toList == y.path.toList)=false→Tre.nodeC zs (m+1)=0):=by
      intro h;rw [HN2,if_neg];unfold Tre.notUp;rw [h.1,h.2];simp
     clear e1 e2 e3 e4 hy HN2
     go_wp2_with fail
     refine (C1.out _).mono ?_
     rintro e w3 ⟨rfl,rfl⟩
     go_wp2_with fail
     refine (C2.out _).mono ?_
     rintro e w3 ⟨rfl,rfl⟩
     go_wp2_with fail
     refine (C3.out _).mono ?_
     rintro e w3 ⟨rfl,rfl⟩
     go_wp2_with fail
     refine (C4.out _).mono ?_
     rintro e w3 ⟨rfl,rfl⟩
     go_wp2
     go_region
     all_goals go_wp2
     ·go_ret
      exact⟨ret_int (HV.out 1 (by decide) (HU.out true (by assumption))),HE2.out.drew⟩
     ·refine⟨⟨m+2,by omega,by go_num,fun j hj=>?_,HE2.out.drew⟩,by simp [intOf];omega⟩
      by_cases hjm:j=m+1
      ·subst hjm;exact HV0.out (by assumption)
      ·exact HA.out j (by omega)
  ·have HA1:Hid (∀ j,j < zs.length→Tre.nodeC zs j=0):=fun j hj=>HA.out j (by omega)
   have HB1:Hid (Tre.first (Tre.nodeC zs) zs.length=0):=Tre.first_none HA1.out
   clear HA
   have H24:Hid (∀ (j:Nat) z,zs[j]?=some z→z.path.size≤24):=fun j z hz=>few_of_ok (Tre.nodeC_ok hz (HA1.out j (List.getElem?_eq_some_iff.1 hz).1)).1
   clear HA1
   have HT:Hid (∀ (wx:World) (p:ByteArray),Ext w wx→Calls Tryz.prog 118 #[.slice a zs.length cap,.string p] wx fun e w'=>e = .returned (.int .i64 (Tre.atI zs p))∧w'=wx):=fun wx p hw=>l2At_any _ zs p wx (HS.out.ext hw)
   go_wp2_with fail
   refine (HT.out _ _ HE.out).mono ?_
   rintro e w2 ⟨rfl,rfl⟩
   have HT0:Hid (Tre.atI zs Tre.top=Tre.atI zs (⟨#[47]⟩:ByteArray)):=rfl
   generalize Tre.atI zs (⟨#[47]⟩:ByteArray)=t0 at *
   by_cases ht0:t0 < 0
   ·go_wp2
    go_ret
    exact⟨ret_int (by rw [HF.out,Tre.fault_top H20.out HB1.out (by rw [HT0.out];exact ht0)]),HE.out⟩
   have HT1:Hid (¬ Tre.atI zs Tre.top < 0):=by show ¬ _;rw [HT0.out];exact ht0
   go_wp2
   go_loopw [6] (fun i wr=>∃ (k:Nat),k≤zs.length∧i = .int .i64 k∧Hid (∀ j,j < k→Tre.parC zs j=0)∧Hid (Ext w wr)) (fun i _=>zs.length - (intOf i).toNat)
   case atStart=>exact⟨0,Nat.zero_le _,rfl,fun j h=>by omega,HE.out⟩
   case round =>
    clear hk hlt HE
    obtain⟨k,hk,rfl,HA,HE⟩:=hrel
    by_cases hlt:k < zs.length
    ·obtain⟨z,hzk⟩:∃ z,zs[k]?=some z:=⟨_,List.getElem?_eq_getElem hlt⟩
     obtain⟨b,off,rfl,hb,hN⟩:=HX.out (by omega)
     obtain⟨d0,d1,d2,d3,d4⟩:=hN.ext hb HE.out k z hzk
     have HZ:Hid (zs[k]?=some z):=hzk
     have h24:=H24.out k z hzk
     have HP:Hid (∀ wx:World,Calls Tryz.prog 172 #[.string z.path] wx fun e w'=>e = .returned (.string (Tre.par z.path))∧w'=wx):=fun wx=>l1Parent_any z.path wx h24
     have HQ:Hid (Tre.parC zs k=if Tre.atI zs (Tre.par z.path) < 0 then 4 else 0):=Tre.parC_eq hzk
     clear hzk hN hb d1 d2 d3 d4
     go_wp2_with fail
     refine (HP.out _).mono ?_
     rintro e w3 ⟨rfl,rfl⟩
     go_wp2_with fail
     refine (HT.out _ _ HE.out).mono ?_
     rintro e w3 ⟨rfl,rfl⟩
     have HQ2:Hid (∀ t:Int,t=Tre.atI zs (Tre.par z.path)→Tre.parC zs k=if t < 0 then 4 else 0):=by rintro t rfl;exact HQ.out
     obtain⟨t1,ht1⟩:∃ t1,t1=Tre.atI zs (Tre.par z.path):=⟨_,rfl⟩
     have HQ3:=HQ2.out t1 ht1
     rw [← ht1]
     by_cases hneg:t1 < 0
     ·rw [if_pos hneg] at HQ3
      have HR:Hid (F=4):=by
       show F=4
       rw [HF.out];exact Tre.fault_par H20.out HB1.out (by have:=HT1.out;omega) (by rw [← HQ3];exact Tre.first_hit hlt HA.out (by rw [HQ3];decide)) (by decide)
      clear HQ3 ht1
      go_wp2
      go_ret
      exact⟨ret_int HR.out.symm,HE.out⟩
     ·rw [if_neg hneg] at HQ3
      have HA2:Hid (∀ j,j < k+1→Tre.parC zs j=0):=by
       intro j hj
       by_cases hjk:j=k
       ·subst hjk;exact HQ3
       ·exact HA.out j (by omega)
      clear HQ3 ht1
      exact m91z
    ·have HA1:Hid (∀ j,j < zs.length→Tre.parC zs j=0):=fun j hj=>HA.out j (by omega)
     have HB2:Hid (Tre.first (Tre.parC zs) zs.length=0):=Tre.first_none HA1.out
     clear HA
     go_wp2
     go_loopw [7] (fun i wr=>∃ (k:Nat),k≤zs.length∧i = .int .i64 k∧Hid (∀ j,j < k→Tre.ownC zs j=0)∧Hid (Ext w wr)) (fun i _=>zs.length - (intOf i).toNat)
     case atStart=>exact⟨0,Nat.zero_le _,rfl,fun j h=>by omega,HE.out⟩
     case round =>
      clear hk hlt HE
      obtain⟨k,hk,rfl,HA,HE⟩:=hrel
      by_cases hlt:k < zs.length
      ·obtain⟨z,hzk⟩:∃ z,zs[k]?=some z:=⟨_,List.getElem?_eq_getElem hlt⟩
       obtain⟨b,off,rfl,hb,hN⟩:=HX.out (by omega)
       obtain⟨d0,d1,d2,d3,d4⟩:=hN.ext hb HE.out k z hzk
       have h24:=H24.out k z hzk
       have HP:Hid (∀ wx:World,Calls Tryz.prog 172 #[.string z.path] wx fun e w'=>e = .returned (.string (Tre.par z.path))∧w'=wx):=fun wx=>l1Parent_any z.path wx h24
       have hpz:=HA1.out k hlt
       rw [Tre.parC_eq hzk] at hpz
       rcases Tre.atI_range zs (Tre.par z.path) with ⟨hm,_⟩ | ⟨j,y,hj,hjl,hy,_⟩
       ·rw [if_pos (by omega)] at hpz;cases hpz
       have HQ:Hid (Tre.ownC zs k=if y.owner≠0 then 1 else 0):=Tre.ownC_eq hzk hj hy
       have HJ:Hid (Tre.atI zs (Tre.par z.path)=j):=hj
       obtain⟨e0,e1,e2,e3,e4⟩:=hN.ext hb HE.out j y hy
       clear hzk hN hb d1 d2 d3 d4 e0 e1 e2 e4 hy hj hpz
       go_wp2_with fail
       refine (HP.out _).mono ?_
       rintro e w3 ⟨rfl,rfl⟩
       go_wp2_with fail
       refine (HT.out _ _ HE.out).mono ?_
       rintro e w3 ⟨rfl,rfl⟩
       rw [HJ.out]
       by_cases ho:y.owner≠0
       ·have HR:Hid (F=1):=by
         have hq:=HQ.out
         rw [if_pos ho] at hq
         show F=1
         rw [HF.out];exact Tre.fault_own H20.out HB1.out (by have:=HT1.out;omega) HB2.out (by rw [← hq];exact Tre.first_hit hlt HA.out (by rw [hq];decide))
        go_wp2
        go_ret
        exact⟨ret_int HR.out.symm,HE.out⟩
       ·have HA2:Hid (∀ j,j < k+1→Tre.ownC zs j=0):=by
         intro j hj
         by_cases hjk:j=k
         ·subst hjk;have hq:=HQ.out;rw [if_neg ho] at hq;exact hq
         ·exact HA.out j (by omega)
        exact m91z
      ·have HR:Hid (F=0):=by
        show F=0
        rw [HF.out];exact Tre.fault_own H20.out HB1.out (by have:=HT1.out;omega) HB2.out (Tre.first_none (fun j hj=>HA.out j (by omega)))
       go_wp2
       go_ret
       exact⟨ret_int HR.out.symm,HE.out⟩
end Go.Proofs.YtpdejinkmnhioaaGreatDoor
namespace Go.Proofs.YtpdejinkmnhioaaGreatDoor
open Go.RowKit
def keyM (c n:Int) (m:Mk):Bool:=decide (m.client=c) && decide (m.number=n)
/-- The first place of a mark of c and n, counted from k on, or -1. -/
def idxM (c n:Int):Nat→List Mk→Int
 | _,[]=>-1
 | k,m :: r=>if keyM c n m=true then (k:Int) else idxM c n (k+1) r
theorem idxM_at {c n:Int} {l:List Mk} {k:Nat} {m:Mk} (h:l[k]?=some m):idxM c n k (l.drop k)=if keyM c n m=true then (k:Int) else idxM c n (k+1) (l.drop (k+1)):=by
 obtain⟨hk,rfl⟩:=List.getElem?_eq_some_iff.1 h
 rw [List.drop_eq_getElem_cons hk,idxM]
theorem idxM_is (c n:Int):∀ (l:List Mk) (k:Nat),(idxM c n k l = -1∧l.any (keyM c n)=false)∨∃ j,j < l.length∧idxM c n k l=((k+j:Nat):Int)∧(l.take j).any (keyM c n)=false∧∃ m,l[j]?=some m∧keyM c n m=true
 | [],k=>Or.inl ⟨rfl,rfl⟩
 | m :: r,k=>by
  rw [idxM]
  by_cases h:keyM c n m=true
  ·exact Or.inr ⟨0,by simp,by rw [if_pos h];rfl,rfl,m,rfl,h⟩
  ·rw [if_neg h]
   have h' : keyM c n m=false:=by simpa using h
   rcases idxM_is c n r (k+1) with ⟨q1,q2⟩ | ⟨j,q1,q2,q3,z,q4,q5⟩
   ·refine Or.inl ⟨q1,?_⟩
    rw [List.any_cons,h',q2];rfl
   ·refine Or.inr ⟨j+1,by simp;omega,by rw [q2];omega,?_,z,by simpa using q4,q5⟩
    rw [List.take_succ_cons,List.any_cons,h',q3];rfl
/-- At its own place a mark is the first of its key just where none ahead has that. -/
theorem idxM_own {l:List Mk} {k:Nat} {m:Mk} (h:l[k]?=some m):(idxM m.client m.number 0 l=(k:Int)∧(l.take k).any (keyM m.client m.number)=false)∨(idxM m.client m.number 0 l≠(k:Int)∧(l.take k).any (keyM m.client m.number)=true):=by
 have hk:=(List.getElem?_eq_some_iff.1 h).1
 have hm:keyM m.client m.number m=true:=by simp [keyM]
 rcases idxM_is m.client m.number l 0 with ⟨_,q2⟩ | ⟨j,q1,q2,q3,z,q4,q5⟩
 ·rw [List.any_eq_false] at q2
  exact absurd hm (q2 m (List.mem_of_getElem? h))
 ·rw [Nat.zero_add] at q2
  by_cases hjk:j=k
  ·subst hjk;exact Or.inl ⟨q2,q3⟩
  ·have hlt:j < k:=by
    rcases Nat.lt_or_ge j k with hh | hh
    ·exact hh
    ·exfalso
     rw [List.any_eq_false] at q3
     have:m ∈ l.take j:=List.mem_of_getElem? (i:=k) (by rw [List.getElem?_take,if_pos (by omega)];exact h)
     exact q3 m this hm
   refine Or.inr ⟨by rw [q2];omega,?_⟩
   rw [List.any_eq_true]
   exact⟨z,List.mem_of_getElem? (i:=j) (by rw [List.getElem?_take,if_pos hlt];exact q4),q5⟩
def okY (c v:Int) (p:ByteArray):Bool:=(decide (0≤c) && decide (c≤10)) && ((decide (-1≤v) && decide (v≤9999)) && decide (p.size≤24))
def okNum (n:Int):Bool:=decide (1≤n) && decide (n≤99)
def okM (m:Mk):Bool:=Ses.idOk m.client && (okNum m.number && okY m.code m.value m.path)
def markFrom:List Mk→List Mk→Int
 | _,[]=>0
 | ah,m :: r=>if okM m=false then 3 else if ah.any (keyM m.client m.number)=true then 6 else markFrom (ah ++ [m]) r
theorem markFrom_at {l:List Mk} {k:Nat} {m:Mk} (h:l[k]?=some m):markFrom (l.take k) (l.drop k)=if okM m=false then 3 else if (l.take k).any (keyM m.client m.number)=true then 6 else markFrom (l.take (k+1)) (l.drop (k+1)):=by
 obtain⟨hk,rfl⟩:=List.getElem?_eq_some_iff.1 h
 rw [List.drop_eq_getElem_cons hk,markFrom,List.take_succ_eq_append_getElem hk]
namespace Sta
def fault (s:Stt):Int:=if Tre.fault s.nodes≠0 then Tre.fault s.nodes else if Ses.fault s.ses≠0 then Ses.fault s.ses else if Ses.nowOk s.now=false then 3 else if 40 < s.marks.length then 2 else markFrom [] s.marks
theorem fault_t {s:Stt} (h:Tre.fault s.nodes≠0):fault s=Tre.fault s.nodes:=by unfold fault;rw [if_pos h]
theorem fault_e {s:Stt} (h:Tre.fault s.nodes=0) (h1:Ses.fault s.ses≠0):fault s=Ses.fault s.ses:=by unfold fault;rw [if_neg (by omega),if_pos h1]
theorem fault_n {s:Stt} (h:Tre.fault s.nodes=0) (h1:Ses.fault s.ses=0) (h2:Ses.nowOk s.now=false):fault s=3:=by unfold fault;rw [if_neg (by omega),if_neg (by omega),if_pos h2]
theorem fault_m {s:Stt} (h:Tre.fault s.nodes=0) (h1:Ses.fault s.ses=0) (h2:Ses.nowOk s.now=true) (h3:40 < s.marks.length):fault s=2:=by unfold fault;rw [if_neg (by omega),if_neg (by omega),if_neg (by rw [h2];decide),if_pos h3]
theorem fault_r {s:Stt} (h:Tre.fault s.nodes=0) (h1:Ses.fault s.ses=0) (h2:Ses.nowOk s.now=true) (h3:¬ 40 < s.marks.length):fault s=markFrom [] s.marks:=by unfold fault;rw [if_neg (by omega),if_neg (by omega),if_neg (by rw [h2];decide),if_neg h3]
theorem fault_zero {s:Stt} (h:fault s=0):Tre.fault s.nodes=0∧Ses.fault s.ses=0∧Ses.nowOk s.now=true∧s.marks.length≤40∧markFrom [] s.marks=0:=by
 unfold fault at h
 split at h
 ·rename_i h0;exact absurd h h0
 ·rename_i h0
  split at h
  ·rename_i h1;exact absurd h h1
  ·rename_i h1
   split at h
   ·cases h
   ·rename_i h2
    split at h
    ·cases h
    ·rename_i h3
     exact⟨by omega,by omega,by simpa using h2,by omega,h⟩
end Sta
end Go.Proofs.YtpdejinkmnhioaaGreatDoor
namespace Go.Proofs.YtpdejinkmnhioaaGreatDoor
open Go.RowKit
def zcells (z:Zn):List Value:=[.string z.path,.int .i64 z.data,.int .i64 z.version,.int .i64 z.owner,.int .i64 z.next]
def cellsZ:List Zn→List Value
 | []=>[]
 | z :: r=>zcells z ++ cellsZ r
theorem cellsZ_length (zs:List Zn):(cellsZ zs).length=zs.length * 5:=by
 induction zs with
 | nil=>rfl
 | cons z r ih=>simp [cellsZ,zcells,ih];omega
theorem cellsZ_append (a b:List Zn):cellsZ (a ++ b)=cellsZ a ++ cellsZ b:=by
 induction a with
 | nil=>rfl
 | cons z r ih=>simp [cellsZ,ih]
theorem cellsZ_get (zs:List Zn):∀ (i r:Nat) (z:Zn),zs[i]?=some z→r < 5→(cellsZ zs)[i * 5+r]?=(zcells z)[r]?:=by
 induction zs with
 | nil=>intro i r z h;simp at h
 | cons y t ih =>
  intro i r z h hr
  have hl:(zcells y).length=5:=rfl
  cases i with
  | zero =>
   simp at h;subst h
   rw [cellsZ,List.getElem?_append_left (by omega)]
   congr 1;omega
  | succ i =>
   rw [cellsZ,List.getElem?_append_right (by omega),hl,show (i+1) * 5+r - 5=i * 5+r from by omega]
   exact ih i r z (by simpa using h) hr
theorem cellsZ_find (zs:List Zn) (j:Nat) (u:Value) (h:(cellsZ zs)[j]?=some u):∃ (i r:Nat) (z:Zn),zs[i]?=some z∧r < 5∧j=i * 5+r∧(zcells z)[r]?=some u:=by
 have hj:=(List.getElem?_eq_some_iff.1 h).1
 rw [cellsZ_length] at hj
 have hi:j / 5 < zs.length:=by omega
 refine⟨j / 5,j % 5,zs[j / 5],List.getElem?_eq_getElem hi,by omega,by omega,?_⟩
 rw [← cellsZ_get zs (j / 5) (j % 5) _ (List.getElem?_eq_getElem hi) (by omega),show j / 5 * 5+j % 5=j from by omega,h]
theorem cellsZ_one (zs:List Zn):∀ u ∈ cellsZ zs,u.oneCell'=true:=by
 intro u hu
 induction zs with
 | nil=>simp [cellsZ] at hu
 | cons z r ih =>
  rw [cellsZ,List.mem_append] at hu
  rcases hu with hu | hu
  ·simp [zcells] at hu
   rcases hu with h | h | h | h | h <;> subst h <;> rfl
  ·exact ih hu
theorem NodesAt.news {w:World} {b off:Nat} {zs:List Zn} (h:NodesAt w b off zs):∀ j u,(cellsZ zs)[j]?=some u→w.cell? ((⟨b,off,none⟩:Addr).add j)=some u:=by
 intro j u hu
 obtain⟨i,r,z,hz,hr,rfl,hc⟩:=cellsZ_find zs j u hu
 obtain⟨c0,c1,c2,c3,c4⟩:=h i z hz
 rw [Addr.add_lit,← Nat.add_assoc]
 have hr5:r=0∨r=1∨r=2∨r=3∨r=4:=by omega
 rcases hr5 with rfl | rfl | rfl | rfl | rfl
 ·simp [zcells] at hc;subst hc;exact c0
 ·simp [zcells] at hc;subst hc;exact c1
 ·simp [zcells] at hc;subst hc;exact c2
 ·simp [zcells] at hc;subst hc;exact c3
 ·simp [zcells] at hc;subst hc;exact c4
theorem Own.of_row {w:World} {base:Nat} {e:TypeId} {v:Value} {zs:List Zn} (h:w.ownsRow base e 5 v zs.length (cellsZ zs)):∃ g,base≤g∧Own w v g zs:=by
 rcases h.2 with ⟨hv,h0⟩ | ⟨g,cap,cur,hv,hb,hh,hn,hm,hs,ht⟩
 ·exact m51z
 ·subst hv
  refine⟨g,hb,some ⟨g,0,none⟩,cap,rfl,hn,hm,fun _=>⟨0,rfl,⟨?_,fun j hj=>?_⟩,?_⟩⟩
  ·exact (Array.getElem?_eq_some_iff.1 hh).1
  ·have hc:=h.cellAt j hj
   rw [Nat.zero_add,hc]
   exact⟨⟨_,List.getElem?_eq_getElem (by rw [cellsZ_length];omega)⟩,h.frozenAt j⟩
  ·intro i z hz
   have hi:=(List.getElem?_eq_some_iff.1 hz).1
   have hc:=fun r (hr:r < 5)=>(h.cellAt (i * 5+r) (by omega)).trans (cellsZ_get zs i r z hz hr)
   simp only [Nat.zero_add]
   exact⟨hc 0 (by omega),hc 1 (by omega),hc 2 (by omega),hc 3 (by omega),hc 4 (by omega)⟩
theorem own_none (w:World) (g:Nat):Own w (.slice Option.none 0 0) g []:=⟨Option.none,0,rfl,Nat.le_refl _,by unfold maxLen;omega,fun h=>by simp at h⟩
/-- Block r holds a ZResult that nobody has written yet, and may be written. -/
def RBox (w:World) (r:Nat):Prop :=
 r < w.heap.size∧w.cell? ⟨r,0,none⟩=some (.int .i64 0)∧w.cell? ⟨r,1,none⟩=some (.string ⟨#[]⟩)∧w.cell? ⟨r,2,none⟩=some (.slice none 0 0)∧w.frozen? ⟨r,0,none⟩=false∧w.frozen? ⟨r,1,none⟩=false∧w.frozen? ⟨r,2,none⟩=false
theorem RBox.new (w:World) (t:TypeId):RBox (w.alloc (.cells #[.int .i64 0,.string ⟨#[]⟩,.slice none 0 0] t)) w.heap.size:=⟨by simp,by simp,by simp,by simp,by simp,by simp,by simp⟩
theorem RBox.ext {w w2:World} {r:Nat} (h:RBox w r) (he:Ext w w2):RBox w2 r:=by
 obtain⟨hc,hf⟩:=Ext.cell he
 obtain⟨h1,h2,h3,h4,h5,h6,h7⟩:=h
 exact⟨Nat.lt_of_lt_of_le h1 he.size,(hc _ _ h1).trans h2,(hc _ _ h1).trans h3,(hc _ _ h1).trans h4,(hf _ _ h1).trans h5,(hf _ _ h1).trans h6,(hf _ _ h1).trans h7⟩
theorem Ext.box3 {w w2:World} (h:Ext w w2) (a b c:Value):Ext w (((w2.setCell ⟨w.heap.size,0,none⟩ a).setCell ⟨w.heap.size,1,none⟩ b).setCell ⟨w.heap.size,2,none⟩ c) :=
 ((h.setCell (p:=⟨w.heap.size,0,none⟩) (Nat.le_refl _) a).setCell (p:=⟨w.heap.size,1,none⟩) (Nat.le_refl _) b).setCell (p:=⟨w.heap.size,2,none⟩) (Nat.le_refl _) c
theorem zret_bad {w w' : World} (c:Int) (p:ByteArray) (h:Ext w w'):ZRet w c p [] (.returned (zr c p (.slice none 0 0))) w':=⟨_,w.heap.size,rfl,Nat.le_refl _,own_none _ _,h⟩
set_option maxHeartbeats 1000000 in
theorem l2Bad_any (c:Int) (w:World):Calls Tryz.prog 177 #[.int .i64 c] w fun e w'=>e = .returned (zr c ⟨#[]⟩ (.slice none 0 0))∧Ext w w':=by
 go_enter Tryz.func177,Tryz.ntmps177
 go_wp2
 exact bodyPost_ret (v:=zr c ⟨#[]⟩ (.slice none 0 0)) (by simp [results,Tryz.results177,go_sem,zr]) rfl ⟨rfl,(Ext.refl _).alloc _⟩
namespace Tre
def okData (d:Int):Bool:=decide (0≤d) && decide (d≤9999)
def newT (d:Int):Int × ByteArray × List Zn:=if okData d=true then (0,⟨#[]⟩,[⟨top,d,0,0,0⟩]) else (3,⟨#[]⟩,[])
def asked (zs:List Zn) (p:ByteArray):Int:=if fault zs≠0 then fault zs else Pth.faultI p.data.toList
def getT (zs:List Zn) (p:ByteArray):Int × ByteArray × List Zn :=
 if asked zs p≠0 then (asked zs p,⟨#[]⟩,[]) else match zs[(atI zs p).toNat]? with
  | some z=>if atI zs p < 0 then (4,⟨#[]⟩,[]) else (0,⟨#[]⟩,[z])
  | none=>(4,⟨#[]⟩,[])
theorem getT_bad {zs:List Zn} {p:ByteArray} {c:Int} (h:asked zs p=c) (h0:c≠0):getT zs p=(c,⟨#[]⟩,[]):=by unfold getT;rw [h,if_pos h0]
theorem getT_none {zs:List Zn} {p:ByteArray} (h:asked zs p=0) (h0:atI zs p < 0):getT zs p=(4,⟨#[]⟩,[]):=by
 unfold getT;rw [h,if_neg (by simp)]
 split
 ·rw [if_pos h0]
 ·rfl
theorem getT_ok {zs:List Zn} {p:ByteArray} {k:Nat} {z:Zn} (h:asked zs p=0) (h0:atI zs p=k) (hz:zs[k]?=some z):getT zs p=(0,⟨#[]⟩,[z]):=by
 unfold getT;rw [h,if_neg (by simp),h0,Int.toNat_natCast,hz]
 simp only []
 rw [if_neg (by omega)]
end Tre
end Go.Proofs.YtpdejinkmnhioaaGreatDoor
