/- Q1, I1, W1, Jumps, W2, W3, in one text. -/
import Derived.Test.YtpdejinkmnhioaaGreatDoorAoJ7
import Derived.Test.YtpdejinkmnhioaaGreatDoorProg
import Derived.Test.YtpdejinkmnhioaaGreatDoorAoJ0
import Derived.ScopeJumps
import Derived.WalkMore
import Derived.Test.YtpdejinkmnhioaaGreatDoorAoMk
namespace Go.Proofs.YtpdejinkmnhioaaGreatDoor
open Go.RowKit
namespace Tre
def key (z:Zn):List UInt8:=z.path.data.toList
theorem isAt_iff {p:ByteArray} {z:Zn} : isAt p z=true↔key z=p.data.toList:=by
 unfold isAt key;rw [beq_val];simp
theorem notUp_iff {z y:Zn} : notUp z y=false↔key y < key z:=by
 unfold notUp key
 rw [beq_val,less_eq,Lib.toList_data,Lib.toList_data]
 simp only [Bool.or_eq_false_iff,decide_eq_false_iff_not]
 constructor
 ·rintro⟨h1,h2⟩;exact lt_tot h1 h2
 ·intro h;exact⟨lt_asym h,fun e=>lt_ne h e.symm⟩
/-- Each path is greater than the one ahead of it. -/
def Up (zs:List Zn):Prop:=∀ (i:Nat) y z,zs[i]?=some y→zs[i+1]?=some z→key y < key z
theorem up_lt {zs:List Zn} (h:Up zs):∀ (d i:Nat) y z,zs[i]?=some y→zs[i+d+1]?=some z→key y < key z:=by
 intro d
 induction d with
 | zero=>intro i y z hy hz;exact h i y z hy hz
 | succ d ih =>
  intro i y z hy hz
  have hl:=(List.getElem?_eq_some_iff.1 hz).1
  obtain⟨x,hx⟩:∃ x,zs[i+d+1]?=some x:=⟨_,List.getElem?_eq_getElem (by omega)⟩
  exact lt_tr (ih i y x hy hx) (h (i+d+1) x z hx hz)
theorem up_lt' {zs:List Zn} (h:Up zs) {i j:Nat} {y z:Zn} (hij:i < j) (hy:zs[i]?=some y) (hz:zs[j]?=some z):key y < key z :=
 up_lt h (j - i - 1) i y z hy (by rw [show i+(j - i - 1)+1=j from by omega];exact hz)
theorem up_of_nodes {zs:List Zn} (h:∀ j,j < zs.length→nodeC zs j=0):Up zs:=by
 intro i y z hy hz
 have h1:=h (i+1) (List.getElem?_eq_some_iff.1 hz).1
 obtain⟨hc,hn⟩:=nodeC_ok hz h1
 rw [nodeC_succ hz hy hc.symm hn] at h1
 split at h1
 ·cases h1
 ·rename_i h2;exact notUp_iff.1 (by simpa using h2)
/-- How many paths there are ahead of p. -/
def cut (zs:List Zn) (p:List UInt8):Nat:=zs.findIdx (fun z=>!decide (key z < p))
theorem cut_le (zs:List Zn) (p:List UInt8):cut zs p≤zs.length:=List.findIdx_le_length
theorem cut_eq {zs:List Zn} {p:List UInt8} {i:Nat} (hi:i≤zs.length) (h1:∀ (t:Nat) y,t < i→zs[t]?=some y→key y < p) (h2:∀ y,zs[i]?=some y→¬ key y < p):cut zs p=i:=by
 unfold cut
 by_cases hl:i < zs.length
 ·rw [List.findIdx_eq hl]
  refine⟨by simpa using h2 _ (List.getElem?_eq_getElem hl),fun j hj=>by simpa using h1 j _ hj (List.getElem?_eq_getElem _)⟩
 ·have:i=zs.length:=by omega
  subst this
  rw [List.findIdx_eq_length]
  intro x hx
  obtain⟨j,hj⟩:=List.getElem?_of_mem hx
  simpa using h1 j x (List.getElem?_eq_some_iff.1 hj).1 hj
theorem cut_lt {zs:List Zn} {p:List UInt8} {t:Nat} {y:Zn} (ht:t < cut zs p) (hy:zs[t]?=some y):key y < p:=by
 have h:=List.not_of_lt_findIdx ht
 obtain⟨hl,he⟩:=List.getElem?_eq_some_iff.1 hy
 rw [he] at h
 simpa using h
theorem cut_ge {zs:List Zn} {p:List UInt8} (hu:Up zs) {t:Nat} {y:Zn} (ht:cut zs p≤t) (hy:zs[t]?=some y):¬ key y < p:=by
 have hl:=(List.getElem?_eq_some_iff.1 hy).1
 have hc:cut zs p < zs.length:=by omega
 have h0:¬ key zs[cut zs p] < p:=by
  have:=List.findIdx_getElem (p:=fun z=>!decide (key z < p)) (xs:=zs) (w:=hc)
  unfold cut
  simpa using this
 rcases Nat.lt_or_ge (cut zs p) t with h | h
 ·exact fun hlt=>h0 (lt_tr (up_lt' hu h (List.getElem?_eq_getElem hc) hy) hlt)
 ·have:cut zs p=t:=by omega
  subst this
  rw [List.getElem?_eq_getElem hc] at hy;cases hy;exact h0
def has (zs:List Zn) (p:ByteArray):Bool:=decide (0≤atI zs p)
theorem has_iff {zs:List Zn} {p:ByteArray} (hu:Up zs) {i:Nat} (hi:cut zs p.data.toList=i):has zs p=true↔∃ z,zs[i]?=some z∧key z=p.data.toList:=by
 subst hi
 constructor
 ·intro h
  have h0:0≤atI zs p:=by simpa [has] using h
  rcases atI_range zs p with ⟨hm,-⟩ | ⟨k,z,hk,hkl,hz,ha⟩
  ·omega
  ·have hz2:=isAt_iff.1 ha
   have hkc:k=cut zs p.data.toList:=by
    rcases Nat.lt_or_ge k (cut zs p.data.toList) with hlt | hge
    ·exact absurd hz2 (lt_ne (cut_lt hlt hz))
    ·rcases Nat.lt_or_ge (cut zs p.data.toList) k with hgt | hge2
     ·obtain⟨x,hx⟩:∃ x,zs[cut zs p.data.toList]?=some x:=⟨_,List.getElem?_eq_getElem (by omega)⟩
      have h1:=up_lt' hu hgt hx hz
      rw [hz2] at h1
      exact absurd h1 (cut_ge hu (Nat.le_refl _) hx)
     ·omega
   subst hkc
   exact⟨z,hz,hz2⟩
 ·rintro⟨z,hz,hk⟩
  have:atI zs p=(cut zs p.data.toList:Nat):=atI_hit hz (isAt_iff.2 hk) (fun j y hj hy=>by
   have h1:=lt_ne (cut_lt hj hy)
   rw [← isAt_iff] at h1
   simpa using h1)
  simp [has,this]
theorem has_at {zs:List Zn} {p:ByteArray} (hu:Up zs) (h:has zs p=true):∃ z,atI zs p=(cut zs p.data.toList:Nat)∧zs[cut zs p.data.toList]?=some z∧key z=p.data.toList:=by
 obtain⟨z,hz,hk⟩:=(has_iff hu rfl).1 h
 refine⟨z,atI_hit hz (isAt_iff.2 hk) (fun j y hj hy=>?_),hz,hk⟩
 have h1:=lt_ne (cut_lt hj hy)
 rw [← isAt_iff] at h1
 simpa using h1
theorem has_not {zs:List Zn} {p:ByteArray} (h:has zs p=false):atI zs p < 0:=by
 have:¬ 0≤atI zs p:=by simpa [has] using h
 omega
theorem fault_up {zs:List Zn} (h:fault zs=0):Up zs:=up_of_nodes (fault_nodes h).2
theorem fault_hang {zs:List Zn} (h:fault zs=0):0≤atI zs top∧(∀ j,j < zs.length→parC zs j=0)∧∀ j,j < zs.length→ownC zs j=0:=by
 have h20:¬ 20 < zs.length:=by have:=(fault_nodes h).1;omega
 have h1:=first_none (fault_nodes h).2
 by_cases h2:atI zs top < 0
 ·rw [fault_top h20 h1 h2] at h;cases h
 by_cases h3:first (parC zs) zs.length=0
 ·by_cases h4:first (ownC zs) zs.length=0
  ·exact⟨by omega,first_zero h3,first_zero h4⟩
  ·rw [fault_own h20 h1 h2 h3 rfl] at h;exact absurd h h4
 ·rw [fault_par h20 h1 h2 rfl h3] at h;exact absurd h h3
end Tre
end Go.Proofs.YtpdejinkmnhioaaGreatDoor
namespace Go.Proofs.YtpdejinkmnhioaaGreatDoor
open Go.RowKit
set_option maxHeartbeats 1000000 in
set_option maxRecDepth 100000 in
theorem cmpString_any (a b:ByteArray) (w:World) :
  Calls Tryz.prog 283 #[.string a,.string b] w fun e w'=>e = .returned (.int .i64 (Lib.compareBytes a.data.toList b.data.toList))∧w'=w:=by
 go_enter Tryz.func283,Tryz.ntmps283
 go_wp2
 rw [run_callFunc_extern Tryz.func299 (by kernel_rfl) (by kernel_rfl) (by kernel_rfl) (e:=Extern.BytealgCompare.compare) (by kernel_rfl),Lib.run_compareString]
 simp only [Result.andThen]
 rw [Oper.upon_value]
 go_wp2
 go_ret
 exact⟨rfl,rfl⟩
set_option maxHeartbeats 1000000 in
theorem compare_any (a b:ByteArray) (w:World) :
  Calls Tryz.prog 266 #[.string a,.string b] w fun e w'=>e = .returned (.int .i64 (Lib.compareBytes a.data.toList b.data.toList))∧w'=w:=by
 go_enter Tryz.func266,Tryz.ntmps266
 go_wp2_with (go_at_call 283;refine (cmpString_any _ _ _).mono ?_;rintro e w' ⟨rfl,rfl⟩)
 go_ret
 exact⟨rfl,rfl⟩
set_option maxHeartbeats 1000000 in
theorem cmpZ_any (z:Zn) (p:ByteArray) (w:World) :
  Calls Tryz.prog 265 #[zagg z,.string p] w fun e w'=>e = .returned (.int .i64 (Lib.compareBytes z.path.data.toList p.data.toList))∧Ext w w':=by
 unfold zagg
 go_enter Tryz.func265,Tryz.ntmps265
 go_wp2_with fail
 refine (compare_any _ _ _).mono ?_
 rintro e w2 ⟨rfl,rfl⟩
 go_wp2
 go_ret
 exact⟨rfl,(Ext.refl _).alloc _⟩
set_option maxHeartbeats 2000000 in
set_option maxRecDepth 100000 in
theorem search_any (v:Value) (zs:List Zn) (p:ByteArray) (w:World) (hS:NSlice w v zs) (hU:Tre.Up zs) (hl:zs.length≤1048576) :
  Calls Tryz.prog 264 #[v,.string p,.func (.func 265) #[] #[]] w fun e w'=>e = .returned (.tuple #[.int .i64 (Tre.cut zs p.data.toList:Nat),.bool (Tre.has zs p)])∧Ext w w':=by
 have HU:Hid (Tre.Up zs):=hU
 have HC:Hid (∀ (z:Zn) (wx:World),Calls Tryz.prog 265 #[zagg z,.string p] wx fun e w'=>e = .returned (.int .i64 (Lib.compareBytes z.path.data.toList p.data.toList))∧Ext wx w'):=fun z wx=>cmpZ_any z p wx
 unfold zagg at HC
 clear hU
 obtain⟨a,cap,rfl,hlc,hcm,hx⟩:=hS
 refine n26z ?_
 intro HX
 clear hx
 unfold maxLen at hcm
 generalize hK:Tre.cut zs p.data.toList=K
 generalize hB:Tre.has zs p=B
 have HK:Hid (Tre.cut zs p.data.toList=K):=hK
 have HB:Hid (Tre.has zs p=B):=hB
 clear hK hB
 go_enter Tryz.func264,Tryz.ntmps264
 go_wp2
 go_loopw [9,10] (fun l h wr=>∃ (lo hi:Nat),l = .int .i64 lo∧h = .int .i64 hi∧lo≤hi∧hi≤zs.length∧Hid ((∀ (t:Nat) y,t < lo→zs[t]?=some y→Tre.key y < p.data.toList)∧(∀ (t:Nat) y,hi≤t→zs[t]?=some y→¬ Tre.key y < p.data.toList))∧Hid (Ext w wr)) (fun l h _=>(intOf h).toNat - (intOf l).toNat)
 case atStart=>exact⟨0,zs.length,rfl,rfl,Nat.zero_le _,Nat.le_refl _,⟨fun t y h=>by omega,fun t y h hy=>by have:=(List.getElem?_eq_some_iff.1 hy).1;omega⟩,Ext.refl _⟩
 case round =>
  obtain⟨lo,hi,rfl,rfl,hlh,hin,HI,HE⟩:=hrel
  by_cases hlt:lo < hi
  ·obtain⟨z,hzk⟩:∃ z,zs[(lo+hi) / 2]?=some z:=⟨_,List.getElem?_eq_getElem (by omega)⟩
   obtain⟨b,off,rfl,hb,hN⟩:=HX.out (by omega)
   obtain⟨d0,d1,d2,d3,d4⟩:=hN.ext hb HE.out _ z hzk
   have HZ:Hid (zs[(lo+hi) / 2]?=some z):=hzk
   have hm1:lo≤(lo+hi) / 2:=by omega
   have hm2:(lo+hi) / 2 < hi:=by omega
   have HM:Hid ((((lo:Int)+(hi:Int)) / 2)=(((lo+hi) / 2:Nat):Int)):=by show _=_;omega
   clear hzk hN hb
   have hc:=HC.out z
   generalize hcc:Lib.compareBytes z.path.data.toList p.data.toList=c at hc
   have HCC:Hid (Lib.compareBytes z.path.data.toList p.data.toList=c):=hcc
   have HC1:Hid (∀ (wx:World),Calls Tryz.prog 265 #[zagg z,.string p] wx fun e w'=>e = .returned (.int .i64 c)∧Ext wx w'):=hc
   unfold zagg at HC1
   clear hcc hc
   by_cases hneg:c < 0
   ·have HI2:Hid ((∀ (t:Nat) y,t < (lo+hi) / 2+1→zs[t]?=some y→Tre.key y < p.data.toList)∧(∀ (t:Nat) y,hi≤t→zs[t]?=some y→¬ Tre.key y < p.data.toList)):=by
     have hz:Tre.key z < p.data.toList:=(Tre.cmp_neg _ _).1 (by show Lib.compareBytes z.path.data.toList _ < 0;rw [HCC.out];exact hneg)
     refine⟨fun t y ht hy=>?_,HI.out.2⟩
     by_cases hte:t=(lo+hi) / 2
     ·subst hte;rw [HZ.out] at hy;cases hy;exact hz
     ·exact Tre.lt_tr (Tre.up_lt' HU.out (by omega) hy HZ.out) hz
    go_wp2_with fail
    refine (HC1.out _).mono ?_
    rintro e w2 ⟨rfl,hb2⟩
    have HE2:Hid (Ext w w2):=HE.out.trans hb2
    clear hb2
    go_wp2
    exact⟨⟨(lo+hi) / 2+1,hi,by have:=HM.out;first | rfl | (congr 1;omega),rfl,by omega,hin,HI2,HE2⟩,by simp [intOf];omega⟩
   ·have HI2:Hid ((∀ (t:Nat) y,t < lo→zs[t]?=some y→Tre.key y < p.data.toList)∧(∀ (t:Nat) y,(lo+hi) / 2≤t→zs[t]?=some y→¬ Tre.key y < p.data.toList)):=by
     have hz:¬ Tre.key z < p.data.toList:=fun h=>hneg (by rw [← HCC.out];exact (Tre.cmp_neg _ _).2 h)
     refine⟨HI.out.1,fun t y ht hy=>?_⟩
     by_cases hte:t=(lo+hi) / 2
     ·subst hte;rw [HZ.out] at hy;cases hy;exact hz
     ·exact fun h=>hz (Tre.lt_tr (Tre.up_lt' HU.out (by omega) HZ.out hy) h)
    go_wp2_with fail
    refine (HC1.out _).mono ?_
    rintro e w2 ⟨rfl,hb2⟩
    have HE2:Hid (Ext w w2):=HE.out.trans hb2
    clear hb2
    go_wp2
    exact⟨⟨lo,(lo+hi) / 2,rfl,by have:=HM.out;first | rfl | (congr 1;omega),by omega,by omega,HI2,HE2⟩,by simp [intOf];omega⟩
  ·obtain rfl:hi=lo:=by omega
   have hcut:Tre.cut zs p.data.toList=hi:=Tre.cut_eq hin HI.out.1 (fun y hy=>HI.out.2 hi y (Nat.le_refl _) hy)
   have HKE:Hid (K=hi):=HK.out.symm.trans hcut
   have HCT:Hid (Tre.cut zs p.data.toList=hi):=hcut
   clear hcut
   by_cases hn:hi < zs.length
   ·obtain⟨z,hzk⟩:∃ z,zs[hi]?=some z:=⟨_,List.getElem?_eq_getElem hn⟩
    obtain⟨b,off,rfl,hb,hN⟩:=HX.out (by omega)
    obtain⟨d0,d1,d2,d3,d4⟩:=hN.ext hb HE.out _ z hzk
    have HZ:Hid (zs[hi]?=some z):=hzk
    clear hzk hN hb
    have hc:=HC.out z
    generalize hcc:Lib.compareBytes z.path.data.toList p.data.toList=c at hc
    have HH:Hid (Tre.has zs p=decide (c=0)):=by
     show _=_
     rw [Bool.eq_iff_iff,Tre.has_iff HU.out HCT.out,HZ.out,← hcc,decide_eq_true_iff,Tre.cmp_zero]
     constructor
     ·rintro⟨y,hy,hk⟩;cases hy;exact hk
     ·intro h;exact⟨z,rfl,h⟩
    have HC1:Hid (∀ (wx:World),Calls Tryz.prog 265 #[zagg z,.string p] wx fun e w'=>e = .returned (.int .i64 c)∧Ext wx w'):=hc
    unfold zagg at HC1
    clear hcc hc
    by_cases hc0:c=0
    ·subst hc0
     have HBE:Hid (B=true):=HB.out.symm.trans HH.out
     exact m79z
    ·have hc1:(c == 0)=false:=by simpa using hc0
     have HBE:Hid (B=false):=HB.out.symm.trans (HH.out.trans (by simpa using hc0))
     exact m79z
   ·have HH:Hid (Tre.has zs p=false):=by
     show _=_
     rw [Bool.eq_false_iff,ne_eq,Tre.has_iff HU.out HCT.out]
     rintro⟨y,hy,_⟩
     have:=(List.getElem?_eq_some_iff.1 hy).1
     omega
    have HBE:Hid (B=false):=HB.out.symm.trans HH.out
    go_wp2
    go_ret2
    exact⟨by rw [HKE.out,HBE.out];rfl,HE.out⟩
set_option maxHeartbeats 1000000 in
theorem placeOf_any (v:Value) (zs:List Zn) (p:ByteArray) (w:World) (hS:NSlice w v zs) (hU:Tre.Up zs) (hl:zs.length≤1048576) :
  Calls Tryz.prog 246 #[v,.string p] w fun e w'=>e = .returned (.tuple #[.int .i64 (Tre.cut zs p.data.toList:Nat),.bool (Tre.has zs p)])∧Ext w w':=by
 have HL:Hid (∀ wx:World,Ext w wx→Calls Tryz.prog 264 #[v,.string p,.func (.func 265) #[] #[]] wx fun e w'=>e = .returned (.tuple #[.int .i64 (Tre.cut zs p.data.toList:Nat),.bool (Tre.has zs p)])∧Ext wx w'):=fun wx h=>search_any v zs p wx (hS.ext h) hU hl
 obtain⟨a,cap,rfl,-⟩:=hS
 generalize Tre.cut zs p.data.toList=k at *
 generalize Tre.has zs p=b at *
 go_enter Tryz.func246,Tryz.ntmps246
 go_wp2_with fail
 refine (HL.out _ (Ext.refl _)).mono ?_
 rintro e w2 ⟨rfl,hb⟩
 have HB:Hid (Ext w w2):=hb
 clear hb
 go_wp2
 go_ret2
 exact⟨rfl,HB.out⟩
end Go.Proofs.YtpdejinkmnhioaaGreatDoor
namespace Go.Proofs.YtpdejinkmnhioaaGreatDoor
open Go.RowKit
set_option maxHeartbeats 400000 in
theorem isNameByte_any (n:Int) (w:World) :
  Calls Tryz.prog 224 #[.int .u8 n] w fun e w'=>e = .returned (.bool (nbI n))∧w'=w:=by
 go_enter Tryz.func224,Tryz.ntmps224
 go_wp2
 all_goals (go_ret;refine⟨ret_bool ?_,rfl⟩;unfold nbI;rw [Bool.eq_iff_iff];simp;omega)
set_option maxHeartbeats 400000 in
theorem count_any (s:ByteArray) (w:World) :
  Calls Tryz.prog 250 #[.string s,.string ⟨#[47]⟩] w fun e w'=>e = .returned (.int .i64 (s.data.toList.count 47:Nat))∧w'=w:=by
 have h44:=@run_callFunc_extern Tryz.prog 270 _ Extern.BytealgCount.count Tryz.func270 (by kernel_rfl) (by kernel_rfl) (by kernel_rfl) (by kernel_rfl)
 have hr:=fun (c:Int) wx=>Lib.run_countString (P:=Tryz.prog) s c wx
 go_enter Tryz.func250,Tryz.ntmps250
 go_wp2
 go_ret
 exact⟨ret_int rfl,rfl⟩
theorem many_val (s:ByteArray):(decide (24 < (s.size:Int)) || decide (4 < ((Array.count 47 s.data:Nat):Int)))=Pth.many s.data.toList:=by
 unfold Pth.many
 rw [len_eq,Bool.eq_iff_iff]
 simp
 omega
set_option maxHeartbeats 400000 in
theorem tooMany_any (s:ByteArray) (w:World) :
  Calls Tryz.prog 223 #[.string s] w fun e w'=>e = .returned (.bool (Pth.many s.data.toList))∧w'=w:=by
 by_cases h:24 < s.size
 ·go_enter Tryz.func223,Tryz.ntmps223
  go_wp2
  go_ret
  refine⟨ret_bool ?_,rfl⟩
  unfold Pth.many
  simp [h]
 ·go_enter Tryz.func223,Tryz.ntmps223
  go_wp2_with (first | (go_at_call 250;refine (count_any _ _).mono ?_;rintro e w' ⟨rfl,rfl⟩))
  go_ret
  exact⟨ret_bool (many_val s),rfl⟩
end Go.Proofs.YtpdejinkmnhioaaGreatDoor
namespace Go.Proofs.YtpdejinkmnhioaaGreatDoor
open Go
/-- As Q; by a goto: J of its label. -/
def Jumped (J:Nat→Act→World→Prop) (Q:Exit→Act→World→Prop):Exit→Act→World→Prop
 | .goto l,a,w=>J l a w
 | e,a,w=>Q e a w
section
variable {P:Program} {a:Act} {w:World} {Q:Exit→Act→World→Prop}
theorem jumped_ret (J:Nat→Act→World→Prop):Jumped J Q .ret a w=Q .ret a w:=rfl
theorem wp_scope_labels {c:Code} (rest:Nat→Code) (J:Nat→Act→World→Prop) (μ:Nat→Act→World→Nat) (hf:∀ l a w,J l a w→findLabel c l=some (rest l))
  (first:c.wp P (Jumped J Q) a w)
  (pass:∀ l a w,J l a w→(rest l).wp P (Jumped (fun l' a' w'=>J l' a' w'∧μ l' a' w' < μ l a w) Q) a w):(Code.scope c).wp P Q a w:=by
 intro b k cs
 have hg:∀ l a w,J l a w→gotoIn l (.inScope c :: k)=some (.code (rest l) :: .inScope c :: k):=fun l a w h=>by simp [gotoIn,hf l a w h]
 have key:∀ n l a w,μ l a w=n→J l a w→∃ e a' w',Q e a' w'∧Arrives P (lone (b.at a (.code (rest l) :: .inScope c :: k)) cs w) b k cs e a' w':=by
  intro n
  induction n using Nat.strongRecOn with
  | _ n ih =>
   intro l a w hn hJ
   obtain⟨e,a₁,w₁,hq,harr⟩:=pass l a w hJ b (.inScope c :: k) cs
   cases e with
   | normal=>exact⟨.normal,a₁,w₁,hq,Steps.trans harr (.one step_inScope)⟩
   | exit id=>exact⟨.exit id,a₁,w₁,hq,fun k' hk=>harr k' (by simp [exitTo,hk])⟩
   | goto l' =>
    obtain⟨hJ',hlt⟩:=hq
    obtain⟨e₂,a₂,w₂,hq₂,harr₂⟩:=ih _ (by omega) l' a₁ w₁ rfl hJ'
    exact⟨e₂,a₂,w₂,hq₂,.of_steps (harr _ (hg l' a₁ w₁ hJ')) harr₂⟩
   | ret=>exact⟨_,a₁,w₁,hq,harr⟩
   | panic ch=>exact⟨_,a₁,w₁,hq,harr⟩
   | outgrown=>exact⟨_,a₁,w₁,hq,harr⟩
 obtain⟨e,a₁,w₁,hq,harr⟩:=first b (.inScope c :: k) cs
 cases e with
 | normal=>exact⟨.normal,a₁,w₁,hq,.head step_scope (Steps.trans harr (.one step_inScope))⟩
 | exit id=>exact⟨.exit id,a₁,w₁,hq,fun k' hk=>.head step_scope (harr k' (by simp [exitTo,hk]))⟩
 | goto l' =>
  obtain⟨e₂,a₂,w₂,hq₂,harr₂⟩:=key _ l' a₁ w₁ rfl hq
  exact⟨e₂,a₂,w₂,hq₂,.of_steps (.head step_scope (harr _ (hg l' a₁ w₁ hq))) harr₂⟩
 | ret=>exact⟨_,a₁,w₁,hq,.of_steps (.one step_scope) harr⟩
 | panic ch=>exact⟨_,a₁,w₁,hq,.of_steps (.one step_scope) harr⟩
 | outgrown=>exact⟨_,a₁,w₁,hq,.of_steps (.one step_scope) harr⟩
theorem jumped_mono {J J' : Nat→Act→World→Prop} (h:∀ l a w,J l a w→J' l a w):∀ e a w,Jumped J Q e a w→Jumped J' Q e a w:=by
 intro e a w hj
 cases e with
 | goto l=>exact h l a w hj
 | normal=>exact hj
 | exit id=>exact hj
 | ret=>exact hj
 | panic ch=>exact hj
 | outgrown=>exact hj
def J4 (J0 J1 J2 J3:Act→World→Prop):Nat→Act→World→Prop
 | 0,a,w=>J0 a w
 | 1,a,w=>J1 a w
 | 2,a,w=>J2 a w
 | 3,a,w=>J3 a w
 | _,_,_=>False
/-- Four labels, of which the code of 1 falls into that of 3, and what stands ahead into that of 1. -/
theorem wp_scope4 {c r0 r1 r2 r3:Code} (J0 J1 J2 J3:Act→World→Prop) (μ:Nat→Act→World→Nat)
  (h0:findLabel c 0=some (Code.skip.seq r0)) (h1:findLabel c 1=some (Code.skip.seq r1)) (h2:findLabel c 2=some (Code.skip.seq r2)) (h3:findLabel c 3=some (Code.skip.seq r3))
  (p0:∀ a w,J0 a w→r0.wp P (Jumped (fun l' a' w'=>J4 J0 J1 J2 J3 l' a' w'∧μ l' a' w' < μ 0 a w) Q) a w)
  (p2:∀ a w,J2 a w→r2.wp P (Jumped (fun l' a' w'=>J4 J0 J1 J2 J3 l' a' w'∧μ l' a' w' < μ 2 a w) Q) a w)
  (p3:∀ a w,J3 a w→r3.wp P (Jumped (fun l' a' w'=>J4 J0 J1 J2 J3 l' a' w'∧μ l' a' w' < μ 3 a w) Q) a w)
  (p1:∀ a w,J1 a w→(∀ a1 w1,J3 a1 w1→μ 3 a1 w1≤μ 1 a w→r3.wp P (Jumped (fun l' a' w'=>J4 J0 J1 J2 J3 l' a' w'∧μ l' a' w' < μ 1 a w) Q) a1 w1) →
   r1.wp P (Jumped (fun l' a' w'=>J4 J0 J1 J2 J3 l' a' w'∧μ l' a' w' < μ 1 a w) Q) a w)
  (first:(∀ a1 w1,J1 a1 w1→r1.wp P (Jumped (J4 J0 J1 J2 J3) Q) a1 w1)→c.wp P (Jumped (J4 J0 J1 J2 J3) Q) a w):(Code.scope c).wp P Q a w:=by
 have p1' : ∀ a w,J1 a w→r1.wp P (Jumped (fun l' a' w'=>J4 J0 J1 J2 J3 l' a' w'∧μ l' a' w' < μ 1 a w) Q) a w:=fun a w hj =>
  p1 a w hj (fun a1 w1 hj1 hm=>Code.wp_mono (jumped_mono (fun l a' w' h=>⟨h.1,by omega⟩)) (p3 a1 w1 hj1))
 refine wp_scope_labels (fun l=>match l with | 0=>Code.skip.seq r0 | 1=>Code.skip.seq r1 | 2=>Code.skip.seq r2 | 3=>Code.skip.seq r3 | _=>Code.skip) (J4 J0 J1 J2 J3) μ ?_
  (first (fun a1 w1 hj=>Code.wp_mono (jumped_mono (fun l a' w' h=>h.1)) (p1' a1 w1 hj))) ?_
 ·intro l a w hj
  match l,hj with
  | 0,_=>exact h0
  | 1,_=>exact h1
  | 2,_=>exact h2
  | 3,_=>exact h3
  | n+4,hj=>exact absurd hj (by intro h;exact h)
 ·intro l a w hj
  match l,hj with
  | 0,hj=>exact wp_seq (wp_skip (p0 a w hj))
  | 1,hj=>exact wp_seq (wp_skip (p1' a w hj))
  | 2,hj=>exact wp_seq (wp_skip (p2 a w hj))
  | 3,hj=>exact wp_seq (wp_skip (p3 a w hj))
  | n+4,hj=>exact absurd hj (by intro h;exact h)
end
end Go.Proofs.YtpdejinkmnhioaaGreatDoor
namespace Go.Proofs.YtpdejinkmnhioaaGreatDoor
open Go.RowKit
/-- The frame and the world at each label: only the place, the last name's start and the count of names turn. -/
def Frm (s:ByteArray) (w:World) (R:Nat→Nat→Nat→Prop) (a:Act) (w' : World):Prop :=
 ∃ (at_ last names:Nat) (u1 u6 u7 u8 u9 u10 u11 u12 u13 u14 u15 u16 u17 u18 u19 u20 u21 u22 u23 u24 u25 u26 u27 u28 u29 u30 u31 u32 u33 u34 u35 u36 u37 u38 u39 u40 u41 u42 u43 u44 u45 u46 u47 u48 u49 u50 u51 u52 u53 u54 u55 u56 u57 u58 u59 u60 u61 u62 u63:Value),w'=(w.alloc (.cells #[.int .i64 0,.int .i64 0] 236)).alloc (.cells #[.int .i64 (names:Int),.int .i64 (last:Int)] 236)∧a = { tmps:=#[.string s,u1,.pointer (some ⟨w.heap.size,0,none⟩),.nilIface,.pointer (some ⟨w.heap.size+1,0,none⟩),.int .i64 (at_:Int),u6,u7,u8,u9,u10,u11,u12,u13,u14,u15,u16,u17,u18,u19,u20,u21,u22,u23,u24,u25,u26,u27,u28,u29,u30,u31,u32,u33,u34,u35,u36,u37,u38,u39,u40,u41,u42,u43,u44,u45,u46,u47,u48,u49,u50,u51,u52,u53,u54,u55,u56,u57,u58,u59,u60,u61,u62,u63],defers:=[] }∧R at_ last names
def Rwrong (l:List UInt8) (_ _ _:Nat):Prop:=Pth.rd l=none
def Rdone (l:List UInt8) (_ last names:Nat):Prop:=Pth.rd l=some (names,last)
def Rname (l:List UInt8) (at_ last names:Nat):Prop :=
 at_≤l.length∧last≤at_∧at_ - last≤8∧1≤last∧names≤at_∧l.length≠1∧Pth.scan (l.drop at_) (at_ - last) at_ last names=Pth.rd l
def Rslash (l:List UInt8) (at_ last names:Nat):Prop :=
 at_≤l.length∧names≤at_∧(l.length=1→at_=0∧names=0∧last=0)∧(l≠[47]→Pth.slashAt (l.drop at_) at_ names=Pth.rd l)
/-- Inside a name: one byte on. -/
theorem name_on (s:ByteArray) (k last names:Nat) (h:k < s.size) (h8:k < last+8) (hb:nbI (s[k].toNat:Int)=true) (hr:Rname s.data.toList k last names) :
  Rname s.data.toList (k+1) last names:=by
 obtain⟨a,b,c,d,e,f,g⟩:=hr
 rw [len_eq] at *
 rw [nbI_eq] at hb
 refine⟨by rw [len_eq];omega,by omega,by omega,by omega,by omega,by rw [len_eq];exact f,?_⟩
 rw [← g,drop_at s k h,Pth.scan,if_pos ⟨by omega,hb⟩]
 congr 1;omega
/-- The name has no byte. -/
theorem name_none (s:ByteArray) (k names:Nat) (hr:Rname s.data.toList k k names) (hz:¬ (k < s.size∧k < k+8∧∃ h:k < s.size,nbI (s[k].toNat:Int)=true)):Rwrong s.data.toList k k names:=by
 obtain⟨a,b,c,d,e,f,g⟩:=hr
 rw [len_eq] at *
 unfold Rwrong
 rw [← g,Nat.sub_self]
 by_cases h:k < s.size
 ·have hb:¬ Pth.nb s[k]=true:=by
   intro hb;rw [← nbI_eq] at hb;exact hz ⟨h,by omega,h,hb⟩
  rw [drop_at s k h,Pth.scan,if_neg (fun x=>hb x.2),if_pos rfl]
 ·rw [List.drop_of_length_le (by rw [len_eq];omega)];rfl
/-- The name ends, and the text goes on. -/
theorem name_slash (s:ByteArray) (k last names:Nat) (h:k < s.size) (hne:¬ k=last) (hr:Rname s.data.toList k last names) (hz:k < last+8→nbI (s[k].toNat:Int)=false) :
  Rslash s.data.toList k last names:=by
 obtain⟨a,b,c,d,e,f,g⟩:=hr
 refine⟨a,e,fun x=>absurd x f,fun _=>?_⟩
 rw [← g,drop_at s k h,Pth.scan,if_neg ?_,if_neg (by omega)]
 ·rfl
 ·rintro⟨x,y⟩
  have:=hz (by omega)
  rw [nbI_eq,y] at this
  cases this
/-- The name ends with the text. -/
theorem name_done (s:ByteArray) (k last names:Nat) (h:¬ k < s.size) (hne:¬ k=last) (hr:Rname s.data.toList k last names):Rdone s.data.toList k last names:=by
 obtain⟨a,b,c,d,e,f,g⟩:=hr
 unfold Rdone
 rw [← g,List.drop_of_length_le (by rw [len_eq];omega),Pth.scan,if_neg (by omega)]
/-- No slash where one must stand. -/
theorem slash_wrong (s:ByteArray) (k last names:Nat) (hr:Rslash s.data.toList k last names) (hz:∀ h:k < s.size,¬ s[k]=47) (hw:k=s.size∨k < s.size):Rwrong s.data.toList k last names:=by
 obtain⟨a,b,c,d⟩:=hr
 unfold Rwrong
 have hne:s.data.toList≠[47]:=by
  intro e
  have hl:s.data.toList.length=1:=by rw [e];rfl
  obtain⟨h0,_,_⟩:=c hl
  rw [len_eq] at hl
  subst h0
  refine hz (by omega) ?_
  have:=drop_at s 0 (by omega)
  rw [List.drop_zero,e] at this
  simp only [List.cons.injEq] at this
  exact this.1.symm
 rw [← d hne]
 rcases hw with h | h
 ·rw [List.drop_of_length_le (by rw [len_eq];omega)];rfl
 ·rw [drop_at s k h,Pth.slashAt,if_neg (hz h)]
/-- The top. -/
theorem slash_top (s:ByteArray) (k last names:Nat) (hr:Rslash s.data.toList k last names) (h:k < s.size) (h47:s[k]=47) (h1:s.size=1):Rdone s.data.toList (k+1) last names:=by
 obtain⟨a,b,c,d⟩:=hr
 obtain⟨rfl,rfl,rfl⟩:=c (by rw [len_eq];exact h1)
 have e:s.data.toList = [47]:=by
  have:=drop_at s 0 h
  rw [List.drop_zero,h47,List.drop_of_length_le (by rw [len_eq];omega)] at this
  exact this
 unfold Rdone
 rw [e];rfl
/-- A slash: a name begins. -/
theorem slash_name (s:ByteArray) (k last names:Nat) (hr:Rslash s.data.toList k last names) (h:k < s.size) (h47:s[k]=47) (h1:¬ s.size=1):Rname s.data.toList (k+1) (k+1) (names+1):=by
 obtain⟨a,b,c,d⟩:=hr
 have hne:s.data.toList≠[47]:=by
  intro e
  apply h1
  rw [← len_eq,e];rfl
 refine⟨by rw [len_eq];omega,by omega,by omega,by omega,by omega,by rw [len_eq];exact h1,?_⟩
 rw [← d hne,drop_at s k h,Pth.slashAt,if_pos h47,Nat.sub_self]
theorem slash_start (l:List UInt8):Rslash l 0 0 0:=by
 refine⟨by omega,by omega,fun _=>⟨rfl,rfl,rfl⟩,fun h=>?_⟩
 rw [Pth.rd,if_neg h];rfl
end Go.Proofs.YtpdejinkmnhioaaGreatDoor
namespace Go.Proofs.YtpdejinkmnhioaaGreatDoor
open Go.RowKit
def rpMany:Value:=.tuple #[.agg #[.int .i64 0,.int .i64 0],.iface 281 (.agg #[.int .i64 2])]
def rpText:Value:=.tuple #[.agg #[.int .i64 0,.int .i64 0],.iface 281 (.agg #[.int .i64 5])]
def rpShape (n la:Nat):Value:=.tuple #[.agg #[.int .i64 n,.int .i64 la],.nilIface]
theorem below2 (w:World) (o o' : Obj):Below w.heap.size w ((w.alloc o).alloc o'):=((Below.refl _ _).alloc (Nat.le_refl _) _).alloc (by simp) _
set_option maxHeartbeats 1000000 in
set_option maxRecDepth 100000 in
theorem readPath_many (s:ByteArray) (w:World) (hm:Pth.many s.data.toList=true) :
  Calls Tryz.prog 185 #[.string s] w fun e w'=>e = .returned rpMany∧Below w.heap.size w w':=by
 go_enter Tryz.func185,Tryz.ntmps185
 go_wp2
 go_step3
 go_wp2_with (first | (go_at_call 223;refine (tooMany_any _ _).mono ?_;rintro e w' ⟨rfl,rfl⟩))
 rw [Exit.noGoto_ret]
 exact bodyPost_ret (v:=rpMany) (by simp [results,Tryz.results185,go_sem,rpMany]) rfl ⟨rfl,below2 _ _ _⟩
set_option maxHeartbeats 4000000 in
set_option maxRecDepth 100000 in
theorem readPath_few (s:ByteArray) (w:World) (hm:Pth.many s.data.toList=false) :
  Calls Tryz.prog 185 #[.string s] w fun e w'=>((Pth.rd s.data.toList=none∧e = .returned rpText)∨(∃ n la,Pth.rd s.data.toList=some (n,la)∧e = .returned (rpShape n la)))∧Below w.heap.size w w':=by
 have h24:s.size≤24:=by
  exact m56z
 go_enter Tryz.func185,Tryz.ntmps185
 go_wp2
 refine wp_scope4 (Frm s w (Rwrong s.data.toList)) (Frm s w (Rslash s.data.toList)) (Frm s w (Rdone s.data.toList)) (Frm s w (Rname s.data.toList))
  (fun l a _=>match l with | 3=>4 * (s.size - (intOf (a.tmps.getD 5 undef)).toNat)+2 | 1=>4 * (s.size - (intOf (a.tmps.getD 5 undef)).toNat)+1 | _=>0) rfl rfl rfl rfl ?p0 ?p2 ?p3 ?p1 ?first
 case p0 =>
  rintro a w' ⟨at_,last,names,u1,u6,u7,u8,u9,u10,u11,u12,u13,u14,u15,u16,u17,u18,u19,u20,u21,u22,u23,u24,u25,u26,u27,u28,u29,u30,u31,u32,u33,u34,u35,u36,u37,u38,u39,u40,u41,u42,u43,u44,u45,u46,u47,u48,u49,u50,u51,u52,u53,u54,u55,u56,u57,u58,u59,u60,u61,u62,u63,rfl,rfl, hr⟩
  go_wp2
  rw [jumped_ret]
  exact bodyPost_ret (v:=rpText) (by simp [results,Tryz.results185,go_sem,rpText]) rfl ⟨.inl ⟨hr,rfl⟩,below2 _ _ _⟩
 case p2 =>
  rintro a w' ⟨at_,last,names,u1,u6,u7,u8,u9,u10,u11,u12,u13,u14,u15,u16,u17,u18,u19,u20,u21,u22,u23,u24,u25,u26,u27,u28,u29,u30,u31,u32,u33,u34,u35,u36,u37,u38,u39,u40,u41,u42,u43,u44,u45,u46,u47,u48,u49,u50,u51,u52,u53,u54,u55,u56,u57,u58,u59,u60,u61,u62,u63,rfl,rfl, hr⟩
  go_wp2
  rw [jumped_ret]
  exact bodyPost_ret (v:=rpShape names last) (by simp [results,Tryz.results185,go_sem,rpShape]) rfl ⟨.inr ⟨_,_,hr,rfl⟩,below2 _ _ _⟩
 case p3 =>
  rintro a w' ⟨at_,last,names,u1,u6,u7,u8,u9,u10,u11,u12,u13,u14,u15,u16,u17,u18,u19,u20,u21,u22,u23,u24,u25,u26,u27,u28,u29,u30,u31,u32,u33,u34,u35,u36,u37,u38,u39,u40,u41,u42,u43,u44,u45,u46,u47,u48,u49,u50,u51,u52,u53,u54,u55,u56,u57,u58,u59,u60,u61,u62,u63,rfl,rfl, hr⟩
  have ra:at_≤s.size:=hr.1
  have rb:last≤at_:=hr.2.1
  by_cases h1:at_ < s.size
  ·by_cases h2:at_ < last+8
   ·cases h3:nbI (s[at_].toNat:Int)
    ·by_cases h5:at_=last
     ·subst h5
      go_wp2_with (first | (go_at_call 224;refine (isNameByte_any _ _).mono ?_;rintro e w' ⟨rfl,rfl⟩))
      go_step3
      exact And.intro (show Frm s w (Rwrong s.data.toList) _ _ from ⟨at_,at_,names,_,_,_,_,_,_,_,_,_,_,_,_,_,_,_,_,_,_,_,_,_,_,_,_,_,_,_,_,_,_,_,_,_,_,_,_,_,_,_,_,_,_,_,_,_,_,_,_,_,_,_,_,_,_,_,_,_,_,_,rfl,rfl,name_none s at_ names hr (by rintro⟨_,_,_,x⟩;rw [h3] at x;cases x)⟩) (by simp [intOf])
     ·have h6:((at_:Int) == (last:Int))=false:=by simp;omega
      go_wp2_with (first | (go_at_call 224;refine (isNameByte_any _ _).mono ?_;rintro e w' ⟨rfl,rfl⟩))
      go_step3
      exact And.intro (show Frm s w (Rslash s.data.toList) _ _ from ⟨at_,last,names,_,_,_,_,_,_,_,_,_,_,_,_,_,_,_,_,_,_,_,_,_,_,_,_,_,_,_,_,_,_,_,_,_,_,_,_,_,_,_,_,_,_,_,_,_,_,_,_,_,_,_,_,_,_,_,_,_,_,_,rfl,rfl,name_slash s at_ last names h1 h5 hr (fun _=>h3)⟩) (by simp [intOf])
    ·go_wp2_with (first | (go_at_call 224;refine (isNameByte_any _ _).mono ?_;rintro e w' ⟨rfl,rfl⟩))
     go_step3
     exact And.intro (show Frm s w (Rname s.data.toList) _ _ from ⟨at_+1,last,names,_,_,_,_,_,_,_,_,_,_,_,_,_,_,_,_,_,_,_,_,_,_,_,_,_,_,_,_,_,_,_,_,_,_,_,_,_,_,_,_,_,_,_,_,_,_,_,_,_,_,_,_,_,_,_,_,_,_,_,rfl,rfl,name_on s at_ last names h1 h2 h3 hr⟩) (by simp [intOf];omega)
   ·have h5:¬ at_=last:=by omega
    go_wp2_with (first | (go_at_call 224;refine (isNameByte_any _ _).mono ?_;rintro e w' ⟨rfl,rfl⟩))
    go_step3
    exact And.intro (show Frm s w (Rslash s.data.toList) _ _ from ⟨at_,last,names,_,_,_,_,_,_,_,_,_,_,_,_,_,_,_,_,_,_,_,_,_,_,_,_,_,_,_,_,_,_,_,_,_,_,_,_,_,_,_,_,_,_,_,_,_,_,_,_,_,_,_,_,_,_,_,_,_,_,_,rfl,rfl,name_slash s at_ last names h1 h5 hr (fun x=>absurd x h2)⟩) (by simp [intOf])
  ·by_cases h5:at_=last
   ·subst h5
    go_wp2_with (first | (go_at_call 224;refine (isNameByte_any _ _).mono ?_;rintro e w' ⟨rfl,rfl⟩))
    go_step3
    exact And.intro (show Frm s w (Rwrong s.data.toList) _ _ from ⟨at_,at_,names,_,_,_,_,_,_,_,_,_,_,_,_,_,_,_,_,_,_,_,_,_,_,_,_,_,_,_,_,_,_,_,_,_,_,_,_,_,_,_,_,_,_,_,_,_,_,_,_,_,_,_,_,_,_,_,_,_,_,_,rfl,rfl,name_none s at_ names hr (fun x=>h1 x.1)⟩) (by simp [intOf])
   ·have h6:((at_:Int) == (last:Int))=false:=by simp;omega
    go_wp2_with (first | (go_at_call 224;refine (isNameByte_any _ _).mono ?_;rintro e w' ⟨rfl,rfl⟩))
    go_step3
    go_wp2
    rw [jumped_ret]
    exact bodyPost_ret (v:=rpShape names last) (by simp [results,Tryz.results185,go_sem,rpShape]) rfl ⟨.inr ⟨_,_,name_done s at_ last names h1 h5 hr,rfl⟩,below2 _ _ _⟩
 case p1 =>
  rintro a w' ⟨at_,last,names,u1,u6,u7,u8,u9,u10,u11,u12,u13,u14,u15,u16,u17,u18,u19,u20,u21,u22,u23,u24,u25,u26,u27,u28,u29,u30,u31,u32,u33,u34,u35,u36,u37,u38,u39,u40,u41,u42,u43,u44,u45,u46,u47,u48,u49,u50,u51,u52,u53,u54,u55,u56,u57,u58,u59,u60,u61,u62,u63,rfl,rfl, hr⟩ hp3
  have ra:at_≤s.size:=hr.1
  have rn:names≤at_:=hr.2.1
  by_cases h1:at_ < s.size
  ·have e1:((at_:Int) == (s.size:Int))=false:=by simp;omega
   by_cases h2:s[at_]=47
   ·by_cases h3:s.size=1
    ·have H3:Hid (s.size=1):=h3
     have e3:((s.size:Int) == 1)=true:=by simp [h3]
     clear h3
     go_wp2
     go_step3
     exact And.intro (show Frm s w (Rdone s.data.toList) _ _ from ⟨at_+1,last,names,_,_,_,_,_,_,_,_,_,_,_,_,_,_,_,_,_,_,_,_,_,_,_,_,_,_,_,_,_,_,_,_,_,_,_,_,_,_,_,_,_,_,_,_,_,_,_,_,_,_,_,_,_,_,_,_,_,_,_,rfl,rfl,slash_top s at_ last names hr h1 h2 H3.out⟩) (by simp [intOf])
    ·have e3:((s.size:Int) == 1)=false:=by simp;omega
     have HP:Hid _:=hp3
     clear hp3
     go_wp2
     go_step3
     rename_i hK
     refine hK _ _ ?_
     refine HP.out _ _ ?_ ?_
     ·exact⟨at_+1,at_+1,names+1,_,_,_,_,_,_,_,_,_,_,_,_,_,_,_,_,_,_,_,_,_,_,_,_,_,_,_,_,_,_,_,_,_,_,_,_,_,_,_,_,_,_,_,_,_,_,_,_,_,_,_,_,_,_,_,_,_,_,_,rfl,rfl,slash_name s at_ last names hr h1 h2 h3⟩
     ·simp [intOf];omega
   ·have e2:((s[at_].toNat:Int) != 47)=true:=by
     rw [bne_iff_ne];intro x;apply h2;apply UInt8.toNat_inj.1;show s[at_].toNat=47;omega
    go_wp2
    go_step3
    exact And.intro (show Frm s w (Rwrong s.data.toList) _ _ from ⟨at_,last,names,_,_,_,_,_,_,_,_,_,_,_,_,_,_,_,_,_,_,_,_,_,_,_,_,_,_,_,_,_,_,_,_,_,_,_,_,_,_,_,_,_,_,_,_,_,_,_,_,_,_,_,_,_,_,_,_,_,_,_,rfl,rfl,slash_wrong s at_ last names hr (fun _=>h2) (.inr h1)⟩) (by simp [intOf])
  ·have h2:at_=s.size:=by omega
   have e1:((at_:Int) == (s.size:Int))=true:=by simp [h2]
   have H2:Hid (at_=s.size):=h2
   clear h2
   go_wp2
   go_step3
   exact And.intro (show Frm s w (Rwrong s.data.toList) _ _ from ⟨at_,last,names,_,_,_,_,_,_,_,_,_,_,_,_,_,_,_,_,_,_,_,_,_,_,_,_,_,_,_,_,_,_,_,_,_,_,_,_,_,_,_,_,_,_,_,_,_,_,_,_,_,_,_,_,_,_,_,_,_,_,_,rfl,rfl,slash_wrong s at_ last names hr (fun x=>absurd x h1) (.inl H2.out)⟩) (by simp [intOf])
 case first =>
  intro h1
  have HP:Hid _:=h1
  clear h1
  go_wp2_with (first | (go_at_call 223;refine (tooMany_any _ _).mono ?_;rintro e w' ⟨rfl,rfl⟩))
  go_step3
  rename_i hK
  refine hK _ _ ?_
  refine HP.out _ _ ?_
  exact⟨0,0,0,_,_,_,_,_,_,_,_,_,_,_,_,_,_,_,_,_,_,_,_,_,_,_,_,_,_,_,_,_,_,_,_,_,_,_,_,_,_,_,_,_,_,_,_,_,_,_,_,_,_,_,_,_,_,_,_,_,_,_,rfl,rfl,slash_start s.data.toList⟩
end Go.Proofs.YtpdejinkmnhioaaGreatDoor
