/- The program's CreateZ. -/
import Derived.Test.YtpdejinkmnhioaaGreatDoorAoJ25
import Derived.Test.YtpdejinkmnhioaaGreatDoorAoJ26
import Derived.Test.YtpdejinkmnhioaaGreatDoorAoJ20
import Derived.Test.YtpdejinkmnhioaaGreatDoorAoJ15
import Derived.Deep.RegionHeld3
import Derived.Test.YtpdejinkmnhioaaGreatDoorAoMk
namespace Go.Proofs.YtpdejinkmnhioaaGreatDoor
open Go.RowKit
/-- A node in a box of its own; its path may be written. -/
def ZW (w:World) (b:Nat) (z:Zn):Prop:=b < w.heap.size∧w.cell? ⟨b,0,none⟩=some (.string z.path)∧w.cell? ⟨b,1,none⟩=some (.int .i64 z.data)∧w.cell? ⟨b,2,none⟩=some (.int .i64 z.version)∧w.cell? ⟨b,3,none⟩=some (.int .i64 z.owner)∧w.cell? ⟨b,4,none⟩=some (.int .i64 z.next)∧w.frozen? ⟨b,0,none⟩=false
theorem ZW.ext {w w' : World} {b:Nat} {z:Zn} (h:ZW w b z) (he:Ext w w'):ZW w' b z:=by
 obtain⟨hc,hf⟩:=Ext.cell he
 obtain⟨hb,c0,c1,c2,c3,c4,f0⟩:=h
 exact⟨Nat.lt_of_lt_of_le hb he.size,(hc _ _ hb).trans c0,(hc _ _ hb).trans c1,(hc _ _ hb).trans c2,(hc _ _ hb).trans c3,(hc _ _ hb).trans c4,(hf _ _ hb).trans f0⟩
theorem zw_new (w:World) (z:Zn) (t:TypeId):ZW (w.alloc (.cells #[.string z.path,.int .i64 z.data,.int .i64 z.version,.int .i64 z.owner,.int .i64 z.next] t)) w.heap.size z:=⟨by simp,by simp,by simp,by simp,by simp,by simp,by simp⟩
theorem ZW.path {w:World} {b:Nat} {z:Zn} (h:ZW w b z) (p:ByteArray):ZW (w.setCell ⟨b,0,none⟩ (.string p)) b { z with path:=p }:=by
 obtain⟨hb,c0,c1,c2,c3,c4,f0⟩:=h
 exact⟨by simpa using hb,iset_eq _ _ _ _ ⟨_,c0⟩,by rw [iset_ne _ _ _ _ _ _ (by omega)];exact c1,by rw [iset_ne _ _ _ _ _ _ (by omega)];exact c2,by rw [iset_ne _ _ _ _ _ _ (by omega)];exact c3,by rw [iset_ne _ _ _ _ _ _ (by omega)];exact c4,by simpa using f0⟩
theorem ZW.other {w:World} {b g k:Nat} {z:Zn} {v:Value} (h:ZW w b z) (hne:g≠b):ZW (w.setCell ⟨g,k,none⟩ v) b z:=by
 obtain⟨hb,c0,c1,c2,c3,c4,f0⟩:=h
 exact⟨by simpa using hb,by rw [iset_ne _ _ _ _ _ _ (Or.inl hne)];exact c0,by rw [iset_ne _ _ _ _ _ _ (Or.inl hne)];exact c1,by rw [iset_ne _ _ _ _ _ _ (Or.inl hne)];exact c2,by rw [iset_ne _ _ _ _ _ _ (Or.inl hne)];exact c3,by rw [iset_ne _ _ _ _ _ _ (Or.inl hne)];exact c4,by simpa using f0⟩
theorem RBox.other {w:World} {b g k:Nat} {v:Value} (h:RBox w b) (hne:g≠b):RBox (w.setCell ⟨g,k,none⟩ v) b:=by
 obtain⟨hb,c0,c1,c2,f0,f1,f2⟩:=h
 exact⟨by simpa using hb,by rw [iset_ne _ _ _ _ _ _ (Or.inl hne)];exact c0,by rw [iset_ne _ _ _ _ _ _ (Or.inl hne)];exact c1,by rw [iset_ne _ _ _ _ _ _ (Or.inl hne)];exact c2,by simpa using f0,by simpa using f1,by simpa using f2⟩
theorem shape_setCell_ne (w:World) {b g k:Nat} (hne:b≠g) (v:Value):(w.setCell ⟨b,k,none⟩ v).shape? g=w.shape? g:=by
 unfold World.shape? World.setCell
 simp [Array.getElem?_modify,hne]
theorem Wide.other {w:World} {g off cap b k:Nat} {zs:List Zn} {v:Value} (h:Wide w g off cap zs) (hne:b≠g):Wide (w.setCell ⟨b,k,none⟩ v) g off cap zs:=by
 obtain⟨h1,h2,h3,h4,h5,t,c,h6,h7⟩:=h
 refine⟨h1,h2,h3,⟨by simpa using h4.1,fun j hj=>?_⟩,fun i z hz=>?_,t,c,?_,h7⟩
 ·rw [iset_ne _ _ _ _ _ _ (Or.inl hne)];exact⟨(h4.2 j hj).1,by simpa using (h4.2 j hj).2⟩
 ·obtain⟨c0,c1,c2,c3,c4⟩:=h5 i z hz
  refine⟨?_,?_,?_,?_,?_⟩ <;> rw [iset_ne _ _ _ _ _ _ (Or.inl hne)] <;> assumption
 ·rw [← h6]
  exact shape_setCell_ne w hne v
theorem alloc_lt (w:World) (o:Obj):w.heap.size < (w.alloc o).heap.size:=by simp
theorem alloc_new (w:World) (cs:Array Value) (t:TypeId):(w.alloc (.cells cs t)).heap[w.heap.size]?=some (.cells cs t (0,0)):=by show (w.heap.push _)[w.heap.size]?=_;exact Array.getElem?_push_size
namespace Tre
theorem set_next_at (zs:List Zn) {k:Nat} {y:Zn} (hy:zs[k]?=some y) (n:Int) (p:ByteArray):atI (zs.set k { y with next:=n }) p=atI zs p:=by
 have hm:(zs.set k { y with next:=n }).map (·.path)=zs.map (·.path):=by
  apply List.ext_getElem?
  intro i
  rw [List.getElem?_map,List.getElem?_map,List.getElem?_set]
  by_cases hik:k=i
  ·subst hik
   have hl:=(List.getElem?_eq_some_iff.1 hy).1
   rw [if_pos rfl,if_pos hl,hy];rfl
  ·rw [if_neg hik]
 have hf:∀ l:List Zn,l.findIdx? (isAt p)=(l.map (·.path)).findIdx? (fun b=>isAt p ⟨b,0,0,0,0⟩):=fun l=>by
  rw [List.findIdx?_map];rfl
 unfold atI
 rw [hf,hf,hm]
theorem set_next_up {zs:List Zn} {k:Nat} {y:Zn} (hu:Up zs) (hy:zs[k]?=some y) (n:Int):Up (zs.set k { y with next:=n }):=by
 have hl:=(List.getElem?_eq_some_iff.1 hy).1
 have hg:∀ (i:Nat) z,(zs.set k { y with next:=n })[i]?=some z→∃ z',zs[i]?=some z'∧key z'=key z:=fun i z hz=>by
  rw [List.getElem?_set] at hz
  by_cases hik:k=i
  ·subst hik
   rw [if_pos rfl,if_pos hl] at hz
   injection hz with hz
   subst hz
   exact⟨y,hy,rfl⟩
  ·rw [if_neg hik] at hz
   exact⟨z,hz,rfl⟩
 intro i a b ha hb
 obtain⟨a',ha',ea⟩:=hg i a ha
 obtain⟨b',hb',eb⟩:=hg (i+1) b hb
 rw [← ea,← eb]
 exact hu i a' b' ha' hb'
theorem okNums_next {z:Zn} (h:okNums z=true):0≤z.next∧z.next≤100:=by
 unfold okNums at h
 simp only [Bool.and_eq_true,decide_eq_true_eq] at h
 omega
theorem seqT_bad {zs:List Zn} {p:ByteArray} {k:Nat} {y:Zn} : (seqT zs p k y).1=(numV p y).1:=by
 unfold seqT numV
 split
 ·rfl
 ·split
  ·rfl
  ·split <;> rfl
theorem seqT_ok {zs:List Zn} {p:ByteArray} {k:Nat} {y:Zn} (h:(numV p y).1=0):seqT zs p k y=(0,seqP p y.next,zs.set k { y with next:=y.next+1 })∧(numV p y).2=(seqP p y.next).data.toList:=by
 unfold numV at h ⊢
 unfold seqT
 split at h
 ·cases h
 ·rename_i h1
  split at h
  ·cases h
  ·rename_i h2
   split at h
   ·rename_i h3;exact absurd h h3
   ·rename_i h3
    rw [if_neg h1,if_neg h2,if_neg h3,if_neg h1,if_neg h2,if_neg h3]
    exact⟨rfl,rfl⟩
end Tre
set_option maxHeartbeats 8000000 in
set_option maxRecDepth 100000 in
theorem implCreateZ_any (v:Value) (zs:List Zn) (p:ByteArray) (d o:Int) (q:Bool) (w:World) (hg:Gd w) (hS:NSlice w v zs) :
  Calls Tryz.prog 227 #[v,.string p,.int .i64 d,.int .i64 o,.bool q] w (ZRet w (Tre.createV zs p d o q).1 (Tre.createV zs p d o q).2.1 (Tre.createV zs p d o q).2.2):=by
 refine n33z ?_
 intro HL
 have HD:Hid (∀ wx:World,Calls Tryz.prog 90 #[.int .i64 d,.int .i64 9999] wx fun e w'=>e = .returned (.bool (Tre.okData d))∧w'=wx):=isUpTo_any d 9999
 have HO:Hid (∀ wx:World,Calls Tryz.prog 90 #[.int .i64 o,.int .i64 9] wx fun e w'=>e = .returned (.bool (Tre.okOwner o))∧w'=wx):=isUpTo_any o 9
 have HS:Hid (NSlice w v zs):=hS
 have HG:Hid (Gd w):=hg
 obtain⟨a0,cap0,rfl,-⟩:=hS
 clear hg
 generalize hF:Tre.asked zs p=Fc at *
 have HFc:Hid (Tre.asked zs p=Fc):=hF
 clear hF
 go_enter Tryz.func227,Tryz.ntmps227
 go_wp2_with fail
 refine (HL.out _ ((Ext.refl _).alloc _)).mono ?_
 rintro e w2 ⟨rfl,hb⟩
 have E2:Hid (Ext w w2):=((Ext.refl _).alloc _).trans hb
 have Q2:Hid (RBox w2 w.heap.size):=(RBox.new w _).ext hb
 clear hb HL
 by_cases h0:Fc=0
 rotate_left
 ·have HRb:Hid (Tre.createV zs p d o q=(Fc,⟨#[]⟩,[])):=by show _=_;unfold Tre.createV;rw [HFc.out,if_pos h0]
  obtain⟨q,q0,q1,q2,f0,f1,f2⟩:=Q2.out
  go_wp2
  exact bodyPost_ret (v:=zr Fc ⟨#[]⟩ (.slice none 0 0)) (by simp [results,Tryz.results227,go_sem,zr,q0,q1,q2]) rfl (by rw [HRb.out];exact zret_bad _ _ (E2.out.box3 _ _ _))
 subst h0
 have hA:=HFc.out
 have HC:Hid (Tre.createV zs p d o q=Tre.createT zs p d o q):=by show _=_;unfold Tre.createV;rw [hA,if_neg (by omega)]
 obtain⟨h20,hU,hpos,h24⟩:=Tre.asked_len hA
 have hpf:Pth.faultI p.data.toList=0:=(Tre.asked_fault hA).2
 have HNum:Hid (∀ z ∈ zs,Pth.faultI z.path.data.toList=0∧Tre.okNums z=true):=Tre.fault_nums (Tre.asked_fault hA).1
 have H24:Hid (∀ z ∈ zs,z.path.size≤24):=h24
 have HU:Hid (Tre.Up zs):=hU
 clear HFc hA h24 hU
 cases hd:Tre.okData d with
 | false =>
  have HR3:Hid (Tre.createV zs p d o q=(3,⟨#[]⟩,[])):=by show _=_;rw [HC.out,Tre.createT_range (by rw [hd];rfl)]
  rw [hd] at HD
  clear hd
  go_wp2_with fail
  refine (HD.out _).mono ?_
  exact m53z
 | true =>
 rw [hd] at HD
 cases ho:Tre.okOwner o with
 | false =>
  have HR3:Hid (Tre.createV zs p d o q=(3,⟨#[]⟩,[])):=by show _=_;rw [HC.out,Tre.createT_range (by rw [hd,ho];rfl)]
  rw [ho] at HO
  clear hd ho
  go_wp2_with fail
  refine (HD.out _).mono ?_
  rintro e w3 ⟨rfl,hw⟩
  rw [hw]
  clear hw w3
  go_wp2_with fail
  refine (HO.out _).mono ?_
  exact m53z
 | true =>
 rw [ho] at HO
 have hdo:(Tre.okData d && Tre.okOwner o)=true:=by rw [hd,ho];rfl
 clear hd ho
 go_wp2_with fail
 refine (HD.out _).mono ?_
 rintro e w3 ⟨rfl,hw⟩
 rw [hw]
 clear hw w3
 go_wp2_with fail
 refine (HO.out _).mono ?_
 rintro e w3 ⟨rfl,hw⟩
 rw [hw]
 clear hw w3
 cases ht:(p.toList == [47]) with
 | true =>
  have HR1:Hid (Tre.createV zs p d o q=(1,⟨#[]⟩,[])):=by show _=_;rw [HC.out,Tre.createT_top hdo ht]
  obtain⟨q,q0,q1,q2,f0,f1,f2⟩:=Q2.out
  go_wp2
  exact bodyPost_ret (v:=zr 1 ⟨#[]⟩ (.slice none 0 0)) (by simp [results,Tryz.results227,go_sem,zr,q0,q1,q2]) rfl (by rw [HR1.out];exact zret_bad _ _ (E2.out.box3 _ _ _))
 | false =>
 have HCp:Hid (∀ wx:World,Ext w wx→Calls Tryz.prog 128 #[.slice a0 zs.length cap0] wx fun e w'=>∃ g off cap',e = .returned (.slice (some ⟨g,off,none⟩) zs.length cap')∧wx.heap.size≤g∧Wide w' g off cap' zs∧Ext wx w'):=fun wx h=>copyNodes_wide _ zs wx (HS.out.ext h) (by omega) hpos (fun z hz=>by have:=H24.out z hz;omega)
 go_wp2_with fail
 refine (HCp.out _ E2.out).mono ?_
 rintro e w4 ⟨g,off,cap,rfl,hg4,hW4,hb⟩
 have E4:Hid (Ext w w4):=E2.out.trans hb
 have Q4:Hid (RBox w4 w.heap.size):=Q2.out.ext hb
 have W4:Hid (Wide w4 g off cap zs):=hW4
 have hgw:w.heap.size < g:=by have:=Q2.out.1;omega
 have hcm:=hW4.2.1
 unfold maxLen at hcm
 clear hb hW4 hg4 HCp E2 Q2
 have hpt:¬ p.data.toList = [47]:=by rw [beq_top] at ht;simpa using ht
 have HFp:Hid (∀ wx:World,Ext w4 wx→Calls Tryz.prog 217 #[.slice (some ⟨g,off,none⟩) zs.length cap,.string p] wx fun e w'=>e = .returned (ptrV g off zs (Tre.par p))∧Ext wx w'):=fun wx h=>findParent_any g off cap zs p wx (HG.out.ext (E4.out.trans h)) hpf hpt (W4.out.ext h).slice HU.out (by omega)
 cases hh:Tre.has zs (Tre.par p) with
 | false =>
  have HR4:Hid (Tre.createV zs p d o q=(4,⟨#[]⟩,[])):=by show _=_;rw [HC.out,Tre.createT_none hdo ht (Tre.has_not hh)]
  rw [ptrV_miss hh] at HFp
  go_wp2_with fail
  refine (HFp.out _ (Ext.refl _)).mono ?_
  rintro e w5 ⟨rfl,hb⟩
  have E5:Hid (Ext w w5):=E4.out.trans hb
  have Q5:Hid (RBox w5 w.heap.size):=Q4.out.ext hb
  clear hb
  obtain⟨q,q0,q1,q2,f0,f1,f2⟩:=Q5.out
  go_wp2
  exact bodyPost_ret (v:=zr 4 ⟨#[]⟩ (.slice none 0 0)) (by simp [results,Tryz.results227,go_sem,zr,q0,q1,q2]) rfl (by rw [HR4.out];exact zret_bad _ _ (E5.out.box3 _ _ _))
 | true =>
 obtain⟨y,hat,hyk,hkey⟩:=Tre.has_at HU.out hh
 rw [ptrV_hit hh rfl] at HFp
 generalize hkc:Tre.cut zs (Tre.par p).data.toList=k at *
 clear hkc hh
 have hyp:y.path=Tre.par p:=ba_eq hkey
 have hkl:=(List.getElem?_eq_some_iff.1 hyk).1
 obtain⟨hyf,hyn⟩:=HNum.out y (List.mem_of_getElem? hyk)
 have HCs:Hid _:=Tre.createT_some (q:=q) hdo ht hat hyk
 have HYK:Hid (zs[k]?=some y):=hyk
 clear hat hkey hdo
 go_wp2_with fail
 refine (HFp.out _ (Ext.refl _)).mono ?_
 rintro e w5 ⟨rfl,hb⟩
 have E5:Hid (Ext w w5):=E4.out.trans hb
 have Q5:Hid (RBox w5 w.heap.size):=Q4.out.ext hb
 have W5:Hid (Wide w5 g off cap zs):=W4.out.ext hb
 clear hb E4 Q4 W4 HFp
 obtain⟨y0,y1,y2,y3,y4⟩:=W5.out.2.2.2.2.1 k y hyk
 clear hyk
 by_cases hyo:y.owner=0
 rotate_left
 ·have HR8:Hid (Tre.createV zs p d o q=(8,⟨#[]⟩,[])):=by show _=_;rw [HC.out,HCs.out,if_pos hyo]
  obtain⟨q,q0,q1,q2,f0,f1,f2⟩:=Q5.out
  go_wp2
  exact bodyPost_ret (v:=zr 8 ⟨#[]⟩ (.slice none 0 0)) (by simp [results,Tryz.results227,go_sem,zr,q0,q1,q2]) rfl (by rw [HR8.out];exact zret_bad _ _ (E5.out.box3 _ _ _))
 have HCl:Hid (∀ wx:World,Calls Tryz.prog 148 #[.string p] wx fun e w'=>e = .returned (.string p)∧Ext wx w'):=fun wx=>clone_any p wx (by have hp:=Pth.faultI_len hpf;rw [len_eq] at hp;omega)
 go_wp2_with fail
 refine (HCl.out _).mono ?_
 rintro e w6 ⟨rfl,hb⟩
 have E6:Hid (Ext w w6):=E5.out.trans hb
 have Q6:Hid (RBox w6 w.heap.size):=Q5.out.ext hb
 have W6:Hid (Wide w6 g off cap zs):=W5.out.ext hb
 have hgl6:=W6.out.2.2.2.1.1
 clear hb E5 Q5 W5 y0 y1 y2 y3 y4 HCl
 cases q with
 | false =>
  have HFin:Hid (Tre.createV zs p d o false=Tre.finT zs p zs d o):=by show _=_;rw [HC.out,HCs.out,if_neg (by omega),if_neg (by decide)]
  obtain⟨bs,hbs⟩:∃ bs,bs=zs:=⟨_,rfl⟩
  have HAt:Hid (∀ x,Tre.atI bs x=Tre.atI zs x):=fun x=>by rw [hbs]
  have HLb:Hid (bs.length=zs.length):=by show _=_;rw [hbs]
  have HUb:Hid (Tre.Up bs):=by show Tre.Up _;rw [hbs];exact HU.out
  have WDb:Hid (Wide w6 g off cap bs):=by show Wide _ _ _ _ _;rw [hbs];exact W6.out
  have HFin' : Hid (Tre.createV zs p d o false=Tre.finT zs p bs d o):=by show _=_;rw [hbs];exact HFin.out
  have EWb:=E6
  have QWb:=Q6
  have HPl:Hid (∀ wx:World,Ext w6 wx→Calls Tryz.prog 246 #[.slice (some ⟨g,off,none⟩) zs.length cap,.string p] wx fun e w'=>e = .returned (.tuple #[.int .i64 (Tre.cut bs p.data.toList:Nat),.bool (Tre.has bs p)])∧Ext wx w'):=fun wx h=>by
   have h2:=placeOf_any _ bs p wx (WDb.out.ext h).slice HUb.out (by have:=HLb.out;omega)
   rw [HLb.out] at h2
   exact h2
  have hq6:=Q6.out.1
  clear HC HCs HFin hbs E6 Q6 W6
  have HFin:=HFin';clear HFin'
  have hhb:Tre.has bs p=Tre.has zs p:=by unfold Tre.has;rw [HAt.out]
  generalize hkk:Tre.cut bs p.data.toList=kk at *
  have HKK:Hid (Tre.cut bs p.data.toList=kk):=hkk
  have hkle:kk≤bs.length:=by rw [← hkk];exact Tre.cut_le _ _
  rw [hhb] at HPl
  clear hkk hhb
  have hlen:=HLb.out
  go_wp2_with fail
  refine (HPl.out _ ((Ext.refl _).alloc _)).mono ?_
  rintro e w9 ⟨rfl,hb9⟩
  have E9:Hid (Ext w w9):=(EWb.out.alloc _).trans hb9
  have Q9:Hid (RBox w9 w.heap.size):=QWb.out.ext (((Ext.refl _).alloc _).trans hb9)
  have WD9:Hid (Wide w9 g off cap bs):=WDb.out.ext (((Ext.refl _).alloc _).trans hb9)
  have MB9:Hid (ZW w9 w6.heap.size ⟨p,d,0,o,0⟩):=zw_new w6 ⟨p,d,0,o,0⟩ _ |>.ext hb9
  clear hb9 WDb EWb QWb HPl
  cases hh:Tre.has zs p with
  | true =>
   have HR6:Hid (Tre.createV zs p d o false=(6,⟨#[]⟩,[])):=by show _=_;rw [HFin.out,Tre.finT_taken (by simpa [Tre.has] using hh)]
   exact m64z
  | false =>
  have hnh:¬ 0≤Tre.atI zs p:=by simpa [Tre.has] using hh
  by_cases h20e:zs.length=20
  ·have HR2:Hid (Tre.createV zs p d o false=(2,⟨#[]⟩,[])):=by show _=_;rw [HFin.out,Tre.finT_many hnh (by omega)]
   exact m52z
  have HR0:Hid (Tre.createV zs p d o false=(0,p,bs.take kk ++ ⟨p,d,0,o,0⟩ :: bs.drop kk)):=by
   show _=_
   rw [HFin.out,Tre.finT_ok hnh (by omega)]
   unfold Tre.putT
   rw [show Tre.cut bs (Tre.key ⟨p,d,0,o,0⟩)=kk from HKK.out]
  have hl20:¬ ((zs.length:Nat):Int)=20:=by omega
  obtain⟨ml,m0,m1,m2,m3,m4,mf⟩:=MB9.out
  have hgl:=WD9.out.2.2.2.1.1
  have HIn:Hid (∀ (wx:World),Ext w9 wx→w9.heap.size < wx.heap.size→wx.heap[w9.heap.size]?=some (.cells #[.string p,.int .i64 d,.int .i64 0,.int .i64 o,.int .i64 0] 144 (0,0))→Calls Tryz.prog 257 #[.slice (some ⟨g,off,none⟩) zs.length cap,.int .i64 kk,.slice (some ⟨w9.heap.size,0,none⟩) 1 1] wx fun e w'=>∃ a cap g',e = .returned (.slice a (bs.length+1) cap)∧g≤g'∧Own w' (.slice a (bs.length+1) cap) g' (bs.take kk ++ ⟨p,d,0,o,0⟩ :: bs.drop kk)∧Upd g wx w'):=fun wx he hlt hv=>by
   have h:=insertZ_any g off cap kk w9.heap.size bs ⟨p,d,0,o,0⟩ wx (WD9.out.ext he) (by omega) hkle (by omega) hlt hv
   exact m101z
  have hmg:w6.heap.size≠g:=by omega
  have hmw:w6.heap.size≠w.heap.size:=by omega
  clear HKK hkle hh hnh HFin MB9 mf
  go_wp2
  go_region_held3 (fun X=>X.cell? ⟨w6.heap.size,0,none⟩=some (.string p)∧X.cell? ⟨w6.heap.size,1,none⟩=some (.int .i64 d)∧X.cell? ⟨w6.heap.size,2,none⟩=some (.int .i64 0)∧X.cell? ⟨w6.heap.size,3,none⟩=some (.int .i64 o)∧X.cell? ⟨w6.heap.size,4,none⟩=some (.int .i64 0)) (first | exact⟨m0,m1,m2,m3,m4⟩ | exact⟨n0,n1,n2,n3,n4⟩ | exact⟨by rw [alloc_cell _ _ _ _ ml];exact m0,by rw [alloc_cell _ _ _ _ ml];exact m1,by rw [alloc_cell _ _ _ _ ml];exact m2,by rw [alloc_cell _ _ _ _ ml];exact m3,by rw [alloc_cell _ _ _ _ ml];exact m4⟩ | exact⟨(alloc_cell w9.drew _ _ _ ml).trans m0,(alloc_cell w9.drew _ _ _ ml).trans m1,(alloc_cell w9.drew _ _ _ ml).trans m2,(alloc_cell w9.drew _ _ _ ml).trans m3,(alloc_cell w9.drew _ _ _ ml).trans m4⟩ | exact⟨by rw [iset_ne _ _ _ _ _ _ (by omega),iset_ne _ _ _ _ _ _ (by omega),iset_ne _ _ _ _ _ _ (by omega)];exact n0,by rw [iset_ne _ _ _ _ _ _ (by omega),iset_ne _ _ _ _ _ _ (by omega),iset_ne _ _ _ _ _ _ (by omega)];exact n1,by rw [iset_ne _ _ _ _ _ _ (by omega),iset_ne _ _ _ _ _ _ (by omega),iset_ne _ _ _ _ _ _ (by omega)];exact n2,by rw [iset_ne _ _ _ _ _ _ (by omega),iset_ne _ _ _ _ _ _ (by omega),iset_ne _ _ _ _ _ _ (by omega)];exact n3,by rw [iset_ne _ _ _ _ _ _ (by omega),iset_ne _ _ _ _ _ _ (by omega),iset_ne _ _ _ _ _ _ (by omega)];exact n4⟩ | go_keep) (first | (have tk:=E9;clear tk;go_at_call 257;have hz1:=HIn.out _ (((Ext.refl w9).alloc (Obj.cells #[.string p,.int .i64 d,.int .i64 0,.int .i64 o,.int .i64 0] 144)).drew) (alloc_lt w9 _) (alloc_new w9 _ _);refine hz1.mono ?_;rintro e w10 ⟨a10,cap10,g10,rfl,hg10,hO10,hU10⟩;have X10:Hid (Upd g w9 w10):=(Upd.ext (((Ext.refl w9).alloc (Obj.cells #[.string p,.int .i64 d,.int .i64 0,.int .i64 o,.int .i64 0] 144)).drew) (by omega)).trans hU10;have E10:Hid (Ext w w10):=X10.out.to_ext E9.out (by omega);have O10:Hid (Own w10 (.slice a10 (bs.length+1) cap10) g10 (bs.take kk ++ ⟨p,d,0,o,0⟩ :: bs.drop kk)):=hO10;obtain⟨r,r0,r1,r2,rf0,rf1,rf2⟩:=Q9.out.updS X10.out (by omega);have n0:=(X10.out.at_ne _ _ hmg ml).1.trans m0;have n1:=(X10.out.at_ne _ _ hmg ml).1.trans m1;have n2:=(X10.out.at_ne _ _ hmg ml).1.trans m2;have n3:=(X10.out.at_ne _ _ hmg ml).1.trans m3;have n4:=(X10.out.at_ne _ _ hmg ml).1.trans m4;have hm10:=X10.out.2.1;clear hz1 E9 Q9 WD9 X10 hU10 hO10 m0 m1 m2 m3 m4))
  go_wp2
  exact bodyPost_ret (v:=zr 0 p (.slice a10 (zs.length+1) cap10)) (by simp [results,Tryz.results227,go_sem,zr,r0,r1,r2]) rfl (by rw [HR0.out];have h:=O10.out;rw [hlen] at h;exact zret_own 0 p h (by omega) E10.out _ _ _)
 | true =>
  have HNu:Hid (∀ wx:World,Ext w6 wx→Calls Tryz.prog 256 #[.pointer (some ⟨g,off+k * 5,none⟩),.string p] wx fun e w'=>e = .returned (tr (Tre.numV p y))∧Ext wx w'):=fun wx h=>by
   obtain⟨y0,y1,y2,y3,y4⟩:=(W6.out.ext h).2.2.2.2.1 k y HYK.out
   have hn:=Tre.okNums_next hyn
   exact numberedPath_any g (off+k * 5) y p wx (HG.out.ext (E6.out.trans h)) (Nat.lt_of_lt_of_le hgl6 h.size) y0 y4 hpf hpt hyp hyf hn.1 hn.2
  have HCr:Hid (Tre.createV zs p d o true=if (Tre.numV p y).1≠0 then ((Tre.numV p y).1,⟨#[]⟩,[]) else Tre.finT zs (Tre.seqT zs p k y).2.1 (Tre.seqT zs p k y).2.2 d o):=by
   show _=_
   rw [HC.out,HCs.out,if_neg (by omega),if_pos rfl,Tre.seqT_bad]
  have hsk:=Tre.seqT_ok (zs:=zs) (p:=p) (k:=k) (y:=y)
  generalize hnv:Tre.numV p y=N at *
  obtain⟨nc,nt⟩:=N
  have HSK:Hid (nc=0→Tre.seqT zs p k y=(0,Tre.seqP p y.next,zs.set k { y with next:=y.next+1 })∧nt=(Tre.seqP p y.next).data.toList):=hsk
  unfold tr at HNu
  simp only at HNu HCr
  clear hsk hnv HC HCs
  have hq6:=Q6.out.1
  go_wp2_with fail
  refine (HNu.out _ ((Ext.refl _).alloc _)).mono ?_
  rintro e w7 ⟨rfl,hb7⟩
  have E7:Hid (Ext w w7):=(E6.out.alloc _).trans hb7
  have Q7:Hid (RBox w7 w.heap.size):=Q6.out.ext (((Ext.refl _).alloc _).trans hb7)
  have W7:Hid (Wide w7 g off cap zs):=W6.out.ext (((Ext.refl _).alloc _).trans hb7)
  have M7:Hid (ZW w7 w6.heap.size ⟨p,d,0,o,0⟩):=(zw_new w6 ⟨p,d,0,o,0⟩ _).ext hb7
  have hs7:=hb7.size
  simp only [World.size_alloc] at hs7
  clear hb7 E6 Q6 W6 HNu
  by_cases hnc:nc=0
  rotate_left
  ·have HRn:Hid (Tre.createV zs p d o true=(nc,⟨#[]⟩,[])):=by show _=_;rw [HCr.out,if_pos hnc]
   obtain⟨q,q0,q1,q2,f0,f1,f2⟩:=Q7.out
   have hal:=alloc_cell
   have haf:=alloc_frozen
   go_wp2
   exact bodyPost_ret (v:=zr nc ⟨#[]⟩ (.slice none 0 0)) (by simp [results,Tryz.results227,go_sem,zr,q0,q1,q2,q,alloc_cell]) rfl (by rw [HRn.out];exact zret_bad _ _ (by first | exact (E7.out.box3 _ _ _).alloc _ | exact (E7.out.alloc _).box3 _ _ _))
  subst hnc
  obtain⟨hsq,rfl⟩:=HSK.out rfl
  obtain⟨P,hP⟩:∃ P,P=Tre.seqP p y.next:=⟨_,rfl⟩
  obtain⟨bs,hbs⟩:∃ bs,bs=zs.set k { y with next:=y.next+1 }:=⟨_,rfl⟩
  have HFin:Hid (Tre.createV zs p d o true=Tre.finT zs P bs d o):=by show _=_;rw [HCr.out,if_neg (by simp),hsq,hP,hbs]
  have HAt:Hid (∀ x,Tre.atI bs x=Tre.atI zs x):=fun x=>by rw [hbs];exact Tre.set_next_at zs HYK.out _ x
  have HLb:Hid (bs.length=zs.length):=by show _=_;rw [hbs];simp
  have HUb:Hid (Tre.Up bs):=by show Tre.Up _;rw [hbs];exact Tre.set_next_up HU.out HYK.out _
  have hmt:mkB (Tre.seqP p y.next).data.toList=P:=by rw [hP];exact Tre.mkB_data _
  rw [hmt]
  have hnx:=Tre.okNums_next hyn
  have hwr:IntKind.i64.wrap (y.next+1)=y.next+1:=by rw [IntKind.wrap_i64];omega
  have h6w:w.heap.size≤w6.heap.size:=by omega
  have hgw2:w.heap.size≤g:=by omega
  have WDb:Hid (Wide ((w7.setCell ⟨w6.heap.size,0,none⟩ (.string P)).setCell ⟨g,off+k * 5+4,none⟩ (.int .i64 (y.next+1))) g off cap bs):=by
   show Wide _ _ _ _ _
   rw [hbs]
   exact Wide.field (W7.out.other (by omega)) HYK.out 4 (by omega) _ { y with next:=y.next+1 } rfl
  have MBb:Hid (ZW ((w7.setCell ⟨w6.heap.size,0,none⟩ (.string P)).setCell ⟨g,off+k * 5+4,none⟩ (.int .i64 (y.next+1))) w6.heap.size ⟨P,d,0,o,0⟩):=(M7.out.path P).other (by omega)
  have QWb:Hid (RBox ((w7.setCell ⟨w6.heap.size,0,none⟩ (.string P)).setCell ⟨g,off+k * 5+4,none⟩ (.int .i64 (y.next+1))) w.heap.size):=(Q7.out.other (by omega)).other (by omega)
  have EWb:Hid (Ext w ((w7.setCell ⟨w6.heap.size,0,none⟩ (.string P)).setCell ⟨g,off+k * 5+4,none⟩ (.int .i64 (y.next+1)))):=(E7.out.setCell (p:=⟨w6.heap.size,0,none⟩) h6w _).setCell (p:=⟨g,off+k * 5+4,none⟩) hgw2 _
  have HPl:Hid (∀ wx:World,Ext ((w7.setCell ⟨w6.heap.size,0,none⟩ (.string P)).setCell ⟨g,off+k * 5+4,none⟩ (.int .i64 (y.next+1))) wx→Calls Tryz.prog 246 #[.slice (some ⟨g,off,none⟩) zs.length cap,.string P] wx fun e w'=>e = .returned (.tuple #[.int .i64 (Tre.cut bs P.data.toList:Nat),.bool (Tre.has bs P)])∧Ext wx w'):=fun wx h=>by
   have h2:=placeOf_any _ bs P wx (WDb.out.ext h).slice HUb.out (by have:=HLb.out;omega)
   rw [HLb.out] at h2
   exact h2
  obtain⟨ml,m0,m1,m2,m3,m4,mf⟩:=M7.out
  obtain⟨y0,y1,y2,y3,y4⟩:=W7.out.2.2.2.2.1 k y HYK.out
  have yf:=(W7.out.2.2.2.1.2 (k * 5+4) (by have:=W7.out.1;omega)).2
  rw [← Nat.add_assoc] at yf
  have hal:=alloc_cell
  have haf:=alloc_frozen
  have hgl7:g < w7.heap.size:=W7.out.2.2.2.1.1
  clear HCr HSK hsq hP hbs hmt E7 Q7 W7 M7
  have hhb:Tre.has bs P=Tre.has zs P:=by unfold Tre.has;rw [HAt.out]
  generalize hkk:Tre.cut bs P.data.toList=kk at *
  have HKK:Hid (Tre.cut bs P.data.toList=kk):=hkk
  have hkle:kk≤bs.length:=by rw [← hkk];exact Tre.cut_le _ _
  rw [hhb] at HPl
  clear hkk hhb
  have hlen:=HLb.out
  go_wp2_with fail
  refine (HPl.out _ ((Ext.refl _).alloc _)).mono ?_
  rintro e w9 ⟨rfl,hb9⟩
  have E9:Hid (Ext w w9):=(EWb.out.alloc _).trans hb9
  have Q9:Hid (RBox w9 w.heap.size):=QWb.out.ext (((Ext.refl _).alloc _).trans hb9)
  have WD9:Hid (Wide w9 g off cap bs):=WDb.out.ext (((Ext.refl _).alloc _).trans hb9)
  have MB9:Hid (ZW w9 w6.heap.size ⟨P,d,0,o,0⟩):=MBb.out.ext (((Ext.refl _).alloc _).trans hb9)
  clear hb9 ml m0 m1 m2 m3 m4 mf y0 y1 y2 y3 y4 yf hal haf MBb WDb EWb QWb HPl
  cases hh:Tre.has zs P with
  | true =>
   have HR6:Hid (Tre.createV zs p d o true=(6,⟨#[]⟩,[])):=by show _=_;rw [HFin.out,Tre.finT_taken (by simpa [Tre.has] using hh)]
   exact m64z
  | false =>
  have hnh:¬ 0≤Tre.atI zs P:=by simpa [Tre.has] using hh
  by_cases h20e:zs.length=20
  ·have HR2:Hid (Tre.createV zs p d o true=(2,⟨#[]⟩,[])):=by show _=_;rw [HFin.out,Tre.finT_many hnh (by omega)]
   exact m52z
  have HR0:Hid (Tre.createV zs p d o true=(0,P,bs.take kk ++ ⟨P,d,0,o,0⟩ :: bs.drop kk)):=by
   show _=_
   rw [HFin.out,Tre.finT_ok hnh (by omega)]
   unfold Tre.putT
   rw [show Tre.cut bs (Tre.key ⟨P,d,0,o,0⟩)=kk from HKK.out]
  have hl20:¬ ((zs.length:Nat):Int)=20:=by omega
  obtain⟨ml,m0,m1,m2,m3,m4,mf⟩:=MB9.out
  have hgl:=WD9.out.2.2.2.1.1
  have HIn:Hid (∀ (wx:World),Ext w9 wx→w9.heap.size < wx.heap.size→wx.heap[w9.heap.size]?=some (.cells #[.string P,.int .i64 d,.int .i64 0,.int .i64 o,.int .i64 0] 144 (0,0))→Calls Tryz.prog 257 #[.slice (some ⟨g,off,none⟩) zs.length cap,.int .i64 kk,.slice (some ⟨w9.heap.size,0,none⟩) 1 1] wx fun e w'=>∃ a cap g',e = .returned (.slice a (bs.length+1) cap)∧g≤g'∧Own w' (.slice a (bs.length+1) cap) g' (bs.take kk ++ ⟨P,d,0,o,0⟩ :: bs.drop kk)∧Upd g wx w'):=fun wx he hlt hv=>by
   have h:=insertZ_any g off cap kk w9.heap.size bs ⟨P,d,0,o,0⟩ wx (WD9.out.ext he) (by omega) hkle (by omega) hlt hv
   exact m101z
  have hmg:w6.heap.size≠g:=by omega
  have hmw:w6.heap.size≠w.heap.size:=by omega
  clear HKK hkle hh hnh HFin MB9 mf
  go_wp2
  go_region_held3 (fun X=>X.cell? ⟨w6.heap.size,0,none⟩=some (.string P)∧X.cell? ⟨w6.heap.size,1,none⟩=some (.int .i64 d)∧X.cell? ⟨w6.heap.size,2,none⟩=some (.int .i64 0)∧X.cell? ⟨w6.heap.size,3,none⟩=some (.int .i64 o)∧X.cell? ⟨w6.heap.size,4,none⟩=some (.int .i64 0)) (first | exact⟨m0,m1,m2,m3,m4⟩ | exact⟨n0,n1,n2,n3,n4⟩ | exact⟨by rw [alloc_cell _ _ _ _ ml];exact m0,by rw [alloc_cell _ _ _ _ ml];exact m1,by rw [alloc_cell _ _ _ _ ml];exact m2,by rw [alloc_cell _ _ _ _ ml];exact m3,by rw [alloc_cell _ _ _ _ ml];exact m4⟩ | exact⟨(alloc_cell w9.drew _ _ _ ml).trans m0,(alloc_cell w9.drew _ _ _ ml).trans m1,(alloc_cell w9.drew _ _ _ ml).trans m2,(alloc_cell w9.drew _ _ _ ml).trans m3,(alloc_cell w9.drew _ _ _ ml).trans m4⟩ | exact⟨by rw [iset_ne _ _ _ _ _ _ (by omega),iset_ne _ _ _ _ _ _ (by omega),iset_ne _ _ _ _ _ _ (by omega)];exact n0,by rw [iset_ne _ _ _ _ _ _ (by omega),iset_ne _ _ _ _ _ _ (by omega),iset_ne _ _ _ _ _ _ (by omega)];exact n1,by rw [iset_ne _ _ _ _ _ _ (by omega),iset_ne _ _ _ _ _ _ (by omega),iset_ne _ _ _ _ _ _ (by omega)];exact n2,by rw [iset_ne _ _ _ _ _ _ (by omega),iset_ne _ _ _ _ _ _ (by omega),iset_ne _ _ _ _ _ _ (by omega)];exact n3,by rw [iset_ne _ _ _ _ _ _ (by omega),iset_ne _ _ _ _ _ _ (by omega),iset_ne _ _ _ _ _ _ (by omega)];exact n4⟩ | go_keep) (first | (have tk:=E9;clear tk;go_at_call 257;have hz1:=HIn.out _ (((Ext.refl w9).alloc (Obj.cells #[.string P,.int .i64 d,.int .i64 0,.int .i64 o,.int .i64 0] 144)).drew) (alloc_lt w9 _) (alloc_new w9 _ _);refine hz1.mono ?_;rintro e w10 ⟨a10,cap10,g10,rfl,hg10,hO10,hU10⟩;have X10:Hid (Upd g w9 w10):=(Upd.ext (((Ext.refl w9).alloc (Obj.cells #[.string P,.int .i64 d,.int .i64 0,.int .i64 o,.int .i64 0] 144)).drew) (by omega)).trans hU10;have E10:Hid (Ext w w10):=X10.out.to_ext E9.out (by omega);have O10:Hid (Own w10 (.slice a10 (bs.length+1) cap10) g10 (bs.take kk ++ ⟨P,d,0,o,0⟩ :: bs.drop kk)):=hO10;obtain⟨r,r0,r1,r2,rf0,rf1,rf2⟩:=Q9.out.updS X10.out (by omega);have n0:=(X10.out.at_ne _ _ hmg ml).1.trans m0;have n1:=(X10.out.at_ne _ _ hmg ml).1.trans m1;have n2:=(X10.out.at_ne _ _ hmg ml).1.trans m2;have n3:=(X10.out.at_ne _ _ hmg ml).1.trans m3;have n4:=(X10.out.at_ne _ _ hmg ml).1.trans m4;have hm10:=X10.out.2.1;clear hz1 E9 Q9 WD9 X10 hU10 hO10 m0 m1 m2 m3 m4))
  go_wp2
  exact bodyPost_ret (v:=zr 0 P (.slice a10 (zs.length+1) cap10)) (by simp [results,Tryz.results227,go_sem,zr,r0,r1,r2]) rfl (by rw [HR0.out];have h:=O10.out;rw [hlen] at h;exact zret_own 0 P h (by omega) E10.out _ _ _)
end Go.Proofs.YtpdejinkmnhioaaGreatDoor
