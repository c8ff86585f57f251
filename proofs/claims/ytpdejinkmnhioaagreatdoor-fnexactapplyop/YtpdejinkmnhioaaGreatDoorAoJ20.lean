/- W7, W8, W9, I20, in one text. -/
import Derived.Test.YtpdejinkmnhioaaGreatDoorAoJ19
import Derived.Test.YtpdejinkmnhioaaGreatDoorAoJ12
import Derived.Test.YtpdejinkmnhioaaGreatDoorAoJ0
import Derived.Test.YtpdejinkmnhioaaGreatDoorAoT8
import Derived.Deep.RegionHeld3
import Derived.Test.YtpdejinkmnhioaaGreatDoorAoMk
namespace Go.Proofs.YtpdejinkmnhioaaGreatDoor
open Go.RowKit
theorem joined_top {p m:ByteArray} (h:p.data.toList = [47]):((⟨#[47]⟩:ByteArray) ++ m).data.toList=Pth.joined p.data.toList m.data.toList:=by
 have:=join_list p m;rw [if_pos h] at this;exact this
theorem joined_not {p m:ByteArray} (h:¬ p.data.toList = [47]):(p ++ (⟨#[47]⟩:ByteArray) ++ m).data.toList=Pth.joined p.data.toList m.data.toList:=by
 have:=join_list p m;rw [if_neg h] at this;exact this
set_option maxHeartbeats 2000000 in
theorem joinPath_top (p m:ByteArray) (w:World) (hg:Gd w) (hp24:p.size≤24) (hms:m.size≤1048576) (la:Nat) (h1:p.data.toList = [47]) (hm:Pth.many p.data.toList=false) (hr:Pth.rd p.data.toList=some (0,la)) (hf:Pth.faultI p.data.toList=0) (hok:Pth.okName m.data.toList=true) :
  Calls Tryz.prog 277 #[.string p,.string m] w fun e w'=>e = .returned (tr (Pth.joinV p.data.toList m.data.toList))∧Ext w w':=by
 have HG:Hid (Gd w):=hg
 clear hg
 obtain⟨J,hJ⟩:∃ J,(⟨#[47]⟩:ByteArray) ++ m=J:=⟨_,rfl⟩
 have hJl:Pth.joined p.data.toList m.data.toList=J.data.toList:=by rw [← hJ];exact (joined_top h1).symm
 clear h1
 by_cases h0:Pth.faultI J.data.toList=0
 ·rw [joinV_ok hf hok hJl h0]
  have HCJ:Hid (Pth.faultI J.data.toList=0):=h0
  have HJM:Hid (J=mkB J.data.toList):=eq_mkB rfl
  clear h0 hJl hf
  go_enter Tryz.func277,Tryz.ntmps277
  go_wp2_with fail
  refine (rp_some p _ 0 la hm hr).mono ?_
  exact m14z
 ·obtain⟨c,hc0⟩:∃ c,Pth.faultI J.data.toList=c:=⟨_,rfl⟩
  rw [joinV_long hf hok hJl hc0 (by rw [← hc0];exact h0)]
  have hcn:(c != 0)=true:=by rw [bne_iff_ne,← hc0];exact h0
  have HCJ:Hid (Pth.faultI J.data.toList=c):=hc0
  clear h0 hJl hf hc0
  go_enter Tryz.func277,Tryz.ntmps277
  go_wp2_with fail
  refine (rp_some p _ 0 la hm hr).mono ?_
  exact m15z
set_option maxHeartbeats 2000000 in
theorem joinPath_sub (p m:ByteArray) (w:World) (hg:Gd w) (hp24:p.size≤24) (hms:m.size≤1048576) (la:Nat) (h1:¬ p.data.toList = [47]) (n:Nat) (hn:1≤n) (hm:Pth.many p.data.toList=false) (hr:Pth.rd p.data.toList=some (n,la)) (hf:Pth.faultI p.data.toList=0) (hok:Pth.okName m.data.toList=true) :
  Calls Tryz.prog 277 #[.string p,.string m] w fun e w'=>e = .returned (tr (Pth.joinV p.data.toList m.data.toList))∧Ext w w':=by
 have HG:Hid (Gd w):=hg
 clear hg
 obtain⟨J,hJ⟩:∃ J,p ++ (⟨#[47]⟩:ByteArray) ++ m=J:=⟨_,rfl⟩
 have hJl:Pth.joined p.data.toList m.data.toList=J.data.toList:=by rw [← hJ];exact (joined_not h1).symm
 have hn0:((n:Int) == 0)=false:=by simp;omega
 clear h1
 by_cases h0:Pth.faultI J.data.toList=0
 ·rw [joinV_ok hf hok hJl h0]
  have HCJ:Hid (Pth.faultI J.data.toList=0):=h0
  have HJM:Hid (J=mkB J.data.toList):=eq_mkB rfl
  clear h0 hJl hf
  go_enter Tryz.func277,Tryz.ntmps277
  go_wp2_with fail
  refine (rp_some p _ n la hm hr).mono ?_
  exact m14z
 ·obtain⟨c,hc0⟩:∃ c,Pth.faultI J.data.toList=c:=⟨_,rfl⟩
  rw [joinV_long hf hok hJl hc0 (by rw [← hc0];exact h0)]
  have hcn:(c != 0)=true:=by rw [bne_iff_ne,← hc0];exact h0
  have HCJ:Hid (Pth.faultI J.data.toList=c):=hc0
  clear h0 hJl hf hc0
  go_enter Tryz.func277,Tryz.ntmps277
  go_wp2_with fail
  refine (rp_some p _ n la hm hr).mono ?_
  exact m15z
set_option maxHeartbeats 2000000 in
theorem joinPath_any (p m:ByteArray) (w:World) (hg:Gd w) (hms:m.size≤1048576) :
  Calls Tryz.prog 277 #[.string p,.string m] w fun e w'=>e = .returned (tr (Pth.joinV p.data.toList m.data.toList))∧Ext w w':=by
 have HG:Hid (Gd w):=hg
 clear hg
 rcases Pth.fault_cases p.data.toList with ⟨hm,hf⟩ | ⟨hm,hr,hf⟩ | ⟨hm,hf,n,la,hr⟩
 ·rw [joinV_bad hf (by decide)]
  clear hf
  go_enter Tryz.func277,Tryz.ntmps277
  go_wp2_with fail
  refine (rp_many p _ hm).mono ?_
  refine n15z ?_
  intro w1 hb hz HB
  clear hb
  unfold rpMany
  go_wp2_with fail
  refine (code_err 2 _ (by exact ((HG.out.alloc _).ext HB.out).alloc _)).mono ?_
  refine n29z ?_
  intro w2 hb HB2
  clear hb
  obtain⟨hc,hf⟩:=Ext.cell HB2.out
  go_wp2
  exact bodyPost_ret (v:=tr (2,[])) (by simp [results,Tryz.results277,go_sem,tr,hc,mkB]) rfl ⟨rfl,((((Ext.refl w).alloc _).trans HB2.out).setCell (Nat.le_refl _) _).setCell (Nat.le_refl _) _⟩
 ·rw [joinV_bad hf (by decide)]
  clear hf
  go_enter Tryz.func277,Tryz.ntmps277
  go_wp2_with fail
  refine (rp_none p _ hm hr).mono ?_
  refine n15z ?_
  intro w1 hb hz HB
  clear hb
  unfold rpText
  go_wp2_with fail
  refine (code_err 5 _ (by exact ((HG.out.alloc _).ext HB.out).alloc _)).mono ?_
  refine n29z ?_
  intro w2 hb HB2
  clear hb
  exact m58z
 ·cases hok:Pth.okName m.data.toList
  ·rw [joinV_name hf hok]
   clear hf
   go_enter Tryz.func277,Tryz.ntmps277
   go_wp2_with fail
   refine (rp_some p _ n la hm hr).mono ?_
   rintro e w1 ⟨rfl,hb⟩
   have hlt:w.heap.size < w1.heap.size:=by have:=hb.size;simp at this;omega
   refine n28z ?_
   intro HB
   clear hb hr hm
   unfold rpShape
   go_wp2_with fail
   refine (isName_any m _ hms).mono ?_
   refine n29z ?_
   intro w2 hb HB2
   obtain⟨hc,hf⟩:=Ext.cell hb
   clear hb
   have HB3:Hid (Ext (w.alloc (.cells #[.int .i64 0,.string ByteArray.empty] 303)) w2):=HB2
   clear hc hf
   exact m58z
  ·rcases Pth.rd_top _ _ _ hr with ⟨h1,h2,_⟩ | ⟨h1,h2,h3,_⟩
   ·subst h2
    exact joinPath_top p m w HG.out (few_of_ok hf) hms la h1 hm hr hf hok
   ·exact joinPath_sub p m w HG.out (few_of_ok hf) hms la h1 n h3 hm hr hf hok
end Go.Proofs.YtpdejinkmnhioaaGreatDoor
namespace Go.Proofs.YtpdejinkmnhioaaGreatDoor
open Go.RowKit
set_option maxHeartbeats 1000000 in
theorem formatInt_digit (d:Int) (w:World) (h0:0≤d) (h9:d≤9) :
  Calls Tryz.prog 286 #[.int .i64 d,.int .i64 10] w fun e w'=>e = .returned (.string (dig d))∧w'=w:=by
 have hd:d=0∨d=1∨d=2∨d=3∨d=4∨d=5∨d=6∨d=7∨d=8∨d=9:=by omega
 clear h0 h9
 rcases hd with rfl | rfl | rfl | rfl | rfl | rfl | rfl | rfl | rfl | rfl
 all_goals
  go_enter Tryz.func286,Tryz.ntmps286
  go_wp2
  go_ret
  exact⟨rfl,rfl⟩
end Go.Proofs.YtpdejinkmnhioaaGreatDoor
namespace Go.Proofs.YtpdejinkmnhioaaGreatDoor
open Go.RowKit
theorem seqV_name {l:List UInt8} {n:Int} (h:Pth.okName l=false):Pth.seqV l n=(5,[]):=by
 unfold Pth.seqV;rw [if_pos h]
theorem seqV_range {l:List UInt8} {n:Int} (h:Pth.okName l=true) (hr:n < 0∨99 < n):Pth.seqV l n=(3,[]):=by
 unfold Pth.seqV;rw [if_neg (by rw [h];decide),if_pos hr]
theorem seqV_long {l j:List UInt8} {n:Int} (h:Pth.okName l=true) (hr:¬ (n < 0∨99 < n)) (hj:Pth.seqd l n.toNat=j) (h2:Pth.okName j=false):Pth.seqV l n=(5,[]):=by
 unfold Pth.seqV;rw [if_neg (by rw [h];decide),if_neg hr,hj,if_pos h2]
theorem seqV_ok {l j:List UInt8} {n:Int} (h:Pth.okName l=true) (hr:¬ (n < 0∨99 < n)) (hj:Pth.seqd l n.toNat=j) (h2:Pth.okName j=true):Pth.seqV l n=(0,j):=by
 unfold Pth.seqV;rw [if_neg (by rw [h];decide),if_neg hr,hj,if_neg (by rw [h2];decide)]
theorem okName_len {s:ByteArray} (h:Pth.okName s.data.toList=true):s.size≤8:=by
 unfold Pth.okName at h
 simp only [Bool.and_eq_true,decide_eq_true_eq,len_eq] at h
 exact h.2.2
set_option maxHeartbeats 2000000 in
theorem seqName_any (s:ByteArray) (n:Int) (w:World) (hs:s.size≤1048576) :
  Calls Tryz.prog 275 #[.string s,.int .i64 n] w fun e w'=>e = .returned (tr (Pth.seqV s.data.toList n))∧Ext w w':=by
 cases hok:Pth.okName s.data.toList
 ·rw [seqV_name hok]
  go_enter Tryz.func275,Tryz.ntmps275
  go_wp2_with fail
  refine (isName_any s _ hs).mono ?_
  rintro e w1 ⟨rfl,hb⟩
  rw [hok]
  refine n28z ?_
  intro HB
  clear hb hok
  obtain⟨hc,hf⟩:=Ext.cell HB.out
  go_wp2
  exact bodyPost_ret (v:=tr (5,[])) (by simp [results,Tryz.results275,go_sem,tr,hc,mkB]) rfl ⟨rfl,((((Ext.refl w).alloc _).trans HB.out).setCell (Nat.le_refl _) _).setCell (Nat.le_refl _) _⟩
 ·by_cases hr:n < 0∨99 < n
  ·rw [seqV_range hok hr]
   rcases hr with hr | hr
   ·exact m30z
   ·exact m30z
  ·have h0:0≤n:=by omega
   have h9:n≤99:=by omega
   obtain⟨J,hJ⟩:∃ J,s ++ dig (n / 10) ++ dig (n % 10)=J:=⟨_,rfl⟩
   have hJl:Pth.seqd s.data.toList n.toNat=J.data.toList:=by rw [← hJ];exact (seq_list s n h0).symm
   have z1:=dig_size (n / 10)
   have z2:=dig_size (n % 10)
   have hJz:J.size=s.size+1+1:=by rw [← hJ,ByteArray.size_append,ByteArray.size_append,z1,z2]
   have hs8:=okName_len hok
   have hJs:J.size≤1048576:=by omega
   clear hJz
   cases hok2:Pth.okName J.data.toList
   ·rw [seqV_long hok hr hJl hok2]
    clear hJl hr
    go_enter Tryz.func275,Tryz.ntmps275
    go_wp2_with fail
    refine (isName_any s _ hs).mono ?_
    rintro e w1 ⟨rfl,hb⟩
    rw [hok]
    refine n28z ?_
    intro HB
    clear hb hok
    go_wp2_with fail
    refine (formatInt_digit (n / 10) _ (by omega) (by omega)).mono ?_
    rintro e w2 ⟨rfl,rfl⟩
    go_wp2_with fail
    refine (formatInt_digit (n % 10) _ (by omega) (by omega)).mono ?_
    rintro e w3 ⟨rfl,rfl⟩
    go_wp2_with fail
    refine (isName_any J _ hJs).mono ?_
    rintro e w4 ⟨rfl,hb⟩
    rw [hok2]
    have HB3:Hid (Ext (w.alloc (.cells #[.int .i64 0,.string ByteArray.empty] 303)) w4):=HB.out.trans hb
    clear hb hok2
    obtain⟨hc,hf⟩:=Ext.cell HB3.out
    go_wp2
    exact bodyPost_ret (v:=tr (5,[])) (by simp [results,Tryz.results275,go_sem,tr,hc,mkB]) rfl ⟨rfl,((((Ext.refl w).alloc _).trans HB3.out).setCell (Nat.le_refl _) _).setCell (Nat.le_refl _) _⟩
   ·rw [seqV_ok hok hr hJl hok2]
    have HJM:Hid (J=mkB J.data.toList):=eq_mkB rfl
    clear hJl hr
    go_enter Tryz.func275,Tryz.ntmps275
    go_wp2_with fail
    refine (isName_any s _ hs).mono ?_
    rintro e w1 ⟨rfl,hb⟩
    rw [hok]
    refine n28z ?_
    intro HB
    clear hb hok
    go_wp2_with fail
    refine (formatInt_digit (n / 10) _ (by omega) (by omega)).mono ?_
    rintro e w2 ⟨rfl,rfl⟩
    go_wp2_with fail
    refine (formatInt_digit (n % 10) _ (by omega) (by omega)).mono ?_
    rintro e w3 ⟨rfl,rfl⟩
    go_wp2_with fail
    refine (isName_any J _ hJs).mono ?_
    rintro e w4 ⟨rfl,hb⟩
    rw [hok2]
    have HB3:Hid (Ext (w.alloc (.cells #[.int .i64 0,.string ByteArray.empty] 303)) w4):=HB.out.trans hb
    clear hb hok2
    obtain⟨hc,hf⟩:=Ext.cell HB3.out
    go_wp2
    exact bodyPost_ret (v:=.agg #[.int .i64 0,.string J]) (by simp [results,Tryz.results275,go_sem,hc]) rfl ⟨(by unfold tr;rw [← HJM.out]),((((Ext.refl w).alloc _).trans HB3.out).setCell (Nat.le_refl _) _).setCell (Nat.le_refl _) _⟩
end Go.Proofs.YtpdejinkmnhioaaGreatDoor
namespace Go.Proofs.YtpdejinkmnhioaaGreatDoor
open Go.RowKit
namespace Pth
theorem lastSl_shift:∀ (l:List UInt8) (i a:Nat),lastSl l i a=if (47:UInt8) ∈ l then i+lastSl l 0 0 else a
 | [],i,a=>by simp [lastSl]
 | c :: r,i,a=>by
  have h1:lastSl (c :: r) i a=if c=47 then lastSl r (i+1) i else lastSl r (i+1) a:=rfl
  have h2:lastSl (c :: r) 0 0=if c=47 then lastSl r (0+1) 0 else lastSl r (0+1) 0:=rfl
  have e0:=lastSl_shift r (0+1) 0
  have e1:=lastSl_shift r (i+1) i
  have e2:=lastSl_shift r (i+1) a
  by_cases hc:c=47
  ·have hm:(47:UInt8) ∈ c :: r:=by rw [hc];exact List.mem_cons_self
   rw [h1,if_pos hc,if_pos hm,h2,if_pos hc,e0,e1]
   by_cases hr:(47:UInt8) ∈ r
   ·rw [if_pos hr,if_pos hr];omega
   ·rw [if_neg hr,if_neg hr];omega
  ·rw [h1,if_neg hc,h2,if_neg hc,e0,e2]
   by_cases hr:(47:UInt8) ∈ r
   ·rw [if_pos hr,if_pos (List.mem_cons_of_mem _ hr),if_pos hr];omega
   ·rw [if_neg hr,if_neg (by simp only [List.mem_cons,not_or];exact⟨fun h=>hc h.symm,hr⟩)]
theorem cut_last:∀ (l cur:List UInt8),(cut cur l).getLast?=some (if (47:UInt8) ∈ l then l.drop (lastSl l 0 0+1) else cur ++ l)
 | [],cur=>by simp [cut]
 | c :: r,cur=>by
  have h2:lastSl (c :: r) 0 0=if c=47 then lastSl r (0+1) 0 else lastSl r (0+1) 0:=rfl
  have e0:=lastSl_shift r (0+1) 0
  by_cases hc:c=47
  ·have hm:(47:UInt8) ∈ c :: r:=by rw [hc];exact List.mem_cons_self
   rw [if_pos hm,h2,if_pos hc,e0]
   have hcut:cut cur (c :: r)=cur :: cut [] r:=by rw [hc];exact cut_sl cur r
   rw [hcut,List.getLast?_cons,cut_last r [],Option.getD_some]
   by_cases hr:(47:UInt8) ∈ r
   ·rw [if_pos hr,if_pos hr,show 0+1+lastSl r 0 0+1=(lastSl r 0 0+1)+1 from by omega,List.drop_succ_cons]
   ·rw [if_neg hr,if_neg hr];simp
  ·rw [cut_ne _ _ _ hc,cut_last r,h2,if_neg hc,e0]
   by_cases hr:(47:UInt8) ∈ r
   ·rw [if_pos hr,if_pos (List.mem_cons_of_mem _ hr),if_pos hr,show 0+1+lastSl r 0 0+1=(lastSl r 0 0+1)+1 from by omega,List.drop_succ_cons]
   ·rw [if_neg hr,if_neg (by simp only [List.mem_cons,not_or];exact⟨fun h=>hc h.symm,hr⟩)];simp
/-- The last name of a path without fault is a name. -/
theorem last_ok {l:List UInt8} (h:faultI l=0) (hne:l≠[47]):okName (l.drop (lastSl l 0 0+1))=true:=by
 rw [fault_eq] at h
 unfold faultS at h
 split at h
 ·cases h
 ·split at h
  ·cases h
  ·rename_i hn
   unfold namesS at hn
   rw [if_neg hne] at hn
   split at hn
   ·simp at hn
   ·rename_i hc
    split at hn
    ·rename_i ha
     have hlen:2≤(cut [] l).length:=by
      rcases Nat.lt_or_ge (cut [] l).length 2 with hh | hh
      ·exact absurd (Or.inl hh) hc
      ·exact hh
     have hmem:(47:UInt8) ∈ l:=by
      rw [cut_length] at hlen
      exact List.count_pos_iff.1 (by omega)
     have hl:=cut_last l []
     rw [if_pos hmem] at hl
     have hg:l.drop (lastSl l 0 0+1) ∈ (cut [] l).tail:=by
      match hcut:cut [] l,hlen with
      | x :: y :: r,_ =>
       rw [hcut,List.getLast?_cons_cons] at hl
       exact List.mem_of_getLast? hl
     exact List.all_eq_true.1 ha _ hg
    ·simp at hn
end Pth
theorem Pth.faultI_len {l:List UInt8} (h:Pth.faultI l=0):l.length≤24:=by
 unfold Pth.faultI Pth.many at h
 split at h
 ·cases h
 ·rename_i hm
  simp only [Bool.or_eq_true,decide_eq_true_eq,not_or] at hm
  omega
namespace Tre
theorem lastName_ok {p:ByteArray} (h:Pth.faultI p.data.toList=0) (ht:¬ p.data.toList = [47]):Pth.okName (lastName p).data.toList=true:=by
 unfold lastName
 rw [extract_list,List.take_of_length_le (by rw [List.length_drop,len_eq];omega)]
 exact Pth.last_ok h ht
def numV (p:ByteArray) (y:Zn):Int × List UInt8 :=
 if 100≤y.next then (3,[]) else if Pth.okName (seqN p y.next).data.toList=false then (5,[])
 else if Pth.faultI (seqP p y.next).data.toList≠0 then (Pth.faultI (seqP p y.next).data.toList,[]) else (0,(seqP p y.next).data.toList)
theorem seqN_list (p:ByteArray) {n:Int} (h0:0≤n):(seqN p n).data.toList=Pth.seqd (lastName p).data.toList n.toNat:=by
 unfold seqN;exact seq_list _ n h0
end Tre
/-- A code and a text in a box that may be written. -/
def NWr (w:World) (b:Nat) (c:Int) (t:ByteArray):Prop:=b < w.heap.size∧w.cell? ⟨b,0,none⟩=some (.int .i64 c)∧w.cell? ⟨b,1,none⟩=some (.string t)∧w.frozen? ⟨b,0,none⟩=false∧w.frozen? ⟨b,1,none⟩=false
theorem NWr.ext {w w' : World} {b:Nat} {c:Int} {t:ByteArray} (h:NWr w b c t) (he:Ext w w'):NWr w' b c t:=by
 obtain⟨hc,hf⟩:=Ext.cell he
 obtain⟨hb,c0,c1,f0,f1⟩:=h
 exact⟨Nat.lt_of_lt_of_le hb he.size,(hc _ _ hb).trans c0,(hc _ _ hb).trans c1,(hf _ _ hb).trans f0,(hf _ _ hb).trans f1⟩
theorem nwr_new (w:World) (c:Int) (t:ByteArray) (ty:TypeId):NWr (w.alloc (.cells #[.int .i64 c,.string t] ty)) w.heap.size c t:=⟨by simp,by simp,by simp,by simp,by simp⟩
theorem nwr_put {W:World} {b:Nat} {c0:Int} {t0:ByteArray} (h:NWr W b c0 t0) (c:Int) (t:ByteArray):NWr ((W.setCell ⟨b,0,none⟩ (.int .i64 c)).setCell ⟨b,1,none⟩ (.string t)) b c t:=by
 obtain⟨hb,q0,q1,f0,f1⟩:=h
 exact⟨by simpa using hb,by rw [iset_ne _ _ _ _ _ _ (by omega)];exact iset_eq _ _ _ _ ⟨_,q0⟩,by apply iset_eq;rw [iset_ne _ _ _ _ _ _ (by omega)];exact⟨_,q1⟩,by simpa using f0,by simpa using f1⟩
theorem nwr_other {W:World} {b d:Nat} {c0:Int} {t0:ByteArray} (h:NWr W d c0 t0) (hne:b≠d) (c:Int) (t:ByteArray):NWr ((W.setCell ⟨b,0,none⟩ (.int .i64 c)).setCell ⟨b,1,none⟩ (.string t)) d c0 t0:=by
 obtain⟨hb,q0,q1,f0,f1⟩:=h
 exact⟨by simpa using hb,by rw [iset_ne _ _ _ _ _ _ (Or.inl hne),iset_ne _ _ _ _ _ _ (Or.inl hne)];exact q0,by rw [iset_ne _ _ _ _ _ _ (Or.inl hne),iset_ne _ _ _ _ _ _ (Or.inl hne)];exact q1,by simpa using f0,by simpa using f1⟩
theorem nwr_ext {w W:World} {b:Nat} (h:Ext w W) (hb:w.heap.size≤b) (c:Int) (t:ByteArray):Ext w ((W.setCell ⟨b,0,none⟩ (.int .i64 c)).setCell ⟨b,1,none⟩ (.string t)) :=
 (h.setCell (p:=⟨b,0,none⟩) hb _).setCell (p:=⟨b,1,none⟩) hb _
/-- A statement that goes on, and nothing else. -/
def OnlyZ (R:Act→World→Prop):Exit→Act→World→Prop
 | .normal,a,w=>R a w
 | _,_,_=>False
theorem OnlyZ.out {R:Act→World→Prop} {e:Exit} {a:Act} {w:World} (h:OnlyZ R e a w):e = .normal∧R a w:=by
 cases e <;> first | exact⟨rfl,h⟩ | exact (h:False).elim
set_option maxHeartbeats 8000000 in
set_option maxRecDepth 100000 in
theorem numberedPath_any (b o:Nat) (y:Zn) (p:ByteArray) (w:World) (hg:Gd w) (hb:b < w.heap.size) (h0:w.cell? ⟨b,o,none⟩=some (.string y.path)) (h4:w.cell? ⟨b,o+4,none⟩=some (.int .i64 y.next))
  (hf:Pth.faultI p.data.toList=0) (ht:¬ p.data.toList = [47]) (hy:y.path=Tre.par p) (hyf:Pth.faultI y.path.data.toList=0) (hn0:0≤y.next) (hn1:y.next≤100) :
  Calls Tryz.prog 256 #[.pointer (some ⟨b,o,none⟩),.string p] w fun e w'=>e = .returned (tr (Tre.numV p y))∧Ext w w':=by
 have hal:=alloc_cell
 by_cases h100:y.next=100
 ·rw [show Tre.numV p y=(3,[]) from by unfold Tre.numV;rw [if_pos (by omega)]]
  go_enter Tryz.func256,Tryz.ntmps256
  go_wp2
  exact bodyPost_ret (v:=tr (3,[])) (by simp [results,Tryz.results256,go_sem,tr,mkB]) rfl ⟨rfl,(Ext.refl _).alloc _⟩
 ·have hls:(Tre.lastName p).size≤1048576:=by
   have h1:(Tre.lastName p).size≤p.size:=by unfold Tre.lastName;simp [ByteArray.size_extract]
   have h2:=Tre.lastName_ok hf ht
   unfold Pth.okName at h2
   simp only [Bool.and_eq_true,decide_eq_true_eq] at h2
   have h3:=h2.2.2
   rw [len_eq] at h3
   omega
  have hlo:=Tre.lastName_ok hf ht
  have HNm:Hid (∀ wx:World,Ext w wx→Calls Tryz.prog 276 #[.string p] wx fun e w'=>e = .returned (.agg #[.int .i64 0,.string (Tre.lastName p)])∧Ext wx w'):=fun wx he=>by
   have:=nameIn_any p wx (hg.ext he)
   rw [Tre.nameV_ok hf ht] at this
   unfold tr at this
   simp only [Tre.mkB_data] at this
   exact this
  have HSq:Hid (∀ wx:World,Calls Tryz.prog 275 #[.string (Tre.lastName p),.int .i64 y.next] wx fun e w'=>e = .returned (tr (Pth.seqV (Tre.lastName p).data.toList y.next))∧Ext wx w'):=fun wx=>seqName_any _ _ wx hls
  have hsl:=Tre.seqN_list p hn0
  have HJ:Hid (∀ wx:World,Ext w wx→Calls Tryz.prog 277 #[.string y.path,.string (Tre.seqN p y.next)] wx fun e w'=>e = .returned (tr (Pth.joinV y.path.data.toList (Tre.seqN p y.next).data.toList))∧Ext wx w'):=fun wx he=>joinPath_any _ _ wx (hg.ext he) (by
   have:=Tre.seqN_size p y.next
   have hp:=Pth.faultI_len hf
   rw [len_eq] at hp
   omega)
  obtain⟨sc,st,hsq,hcase⟩:∃ (sc:Int) (st:ByteArray),(∀ wx:World,Calls Tryz.prog 275 #[.string (Tre.lastName p),.int .i64 y.next] wx fun e w'=>e = .returned (.agg #[.int .i64 sc,.string st])∧Ext wx w') ∧
    ((sc=5∧st=⟨#[]⟩∧Tre.numV p y=(5,[]))∨(sc=0∧st=Tre.seqN p y.next∧tr (Tre.numV p y)=tr (Pth.joinV y.path.data.toList (Tre.seqN p y.next).data.toList))):=by
   cases hok:Pth.okName (Tre.seqN p y.next).data.toList with
   | false =>
    rw [seqV_long hlo (by omega) hsl.symm hok] at HSq
    exact⟨5,⟨#[]⟩,fun wx=>HSq.out wx,Or.inl ⟨rfl,rfl,by unfold Tre.numV;rw [if_neg (by omega),if_pos hok]⟩⟩
   | true =>
    rw [seqV_ok hlo (by omega) hsl.symm hok] at HSq
    unfold tr at HSq
    simp only [Tre.mkB_data] at HSq
    refine⟨0,Tre.seqN p y.next,fun wx=>HSq.out wx,Or.inr ⟨rfl,rfl,?_⟩⟩
    have hj:Pth.joined y.path.data.toList (Tre.seqN p y.next).data.toList=(Tre.seqP p y.next).data.toList:=by unfold Tre.seqP;rw [mkB_list,hy]
    by_cases hc:Pth.faultI (Tre.seqP p y.next).data.toList=0
    ·rw [joinV_ok hyf hok hj hc];unfold Tre.numV;rw [if_neg (by omega),if_neg (by rw [hok];decide),if_neg (by omega)]
    ·rw [joinV_long hyf hok hj rfl hc];unfold Tre.numV;rw [if_neg (by omega),if_neg (by rw [hok];decide),if_pos hc]
  have HSr:Hid (∀ wx:World,Calls Tryz.prog 275 #[.string (Tre.lastName p),.int .i64 y.next] wx fun e w'=>e = .returned (.agg #[.int .i64 sc,.string st])∧Ext wx w'):=hsq
  have HC:Hid _:=hcase
  have hft:=fieldT_text
  clear hsq hcase HSq hsl hlo hls hy hyf
  go_enter Tryz.func256,Tryz.ntmps256
  go_wp2
  have E1:Hid (Ext w (w.alloc (.cells #[.int .i64 0,.string ⟨#[]⟩] 303))):=(Ext.refl _).alloc _
  have T1:Hid (NWr (w.alloc (.cells #[.int .i64 0,.string ⟨#[]⟩] 303)) w.heap.size 0 ⟨#[]⟩):=nwr_new w 0 ⟨#[]⟩ 303
  have hw1:w.heap.size < (w.alloc (.cells #[.int .i64 0,.string ⟨#[]⟩] 303)).heap.size:=T1.out.1
  generalize w.alloc (.cells #[.int .i64 0,.string ⟨#[]⟩] 303)=w1 at *
  have y4:=((Ext.cell E1.out).1 _ _ hb).trans h4
  have hb1:b < w1.heap.size:=by omega
  refine Code.wp_mono (Q:=OnlyZ fun a W=>∃ (nb:Nat) (v10:Value),a = { tmps:=#[.pointer (some ⟨b,o,none⟩),.string p,undef,undef,.pointer (some ⟨w.heap.size,0,none⟩),.pointer (some ⟨nb,0,none⟩),.pointer (some ⟨b,o,none⟩),.pointer (some ⟨b,o,none⟩),.pointer (some ⟨b,o+4,none⟩),.int .i64 y.next,v10,undef,.string p,.agg #[.int .i64 0,.string (Tre.lastName p)],.string (Tre.lastName p),.pointer (some ⟨b,o,none⟩),.pointer (some ⟨b,o,none⟩),.pointer (some ⟨b,o+4,none⟩),.int .i64 y.next,.agg #[.int .i64 sc,.string st],undef,undef,undef,undef,undef,undef,undef,undef,undef,undef,undef],defers:=[] }∧w.heap.size < nb∧Ext w W∧NWr W nb sc st∧NWr W w.heap.size 0 ⟨#[]⟩) ?_ ?_
  rotate_left
  ·go_region_with (first
    | (go_at_call 276;refine (HNm.out _ (by first | exact E1.out.drew | exact E1.out | exact (E1.out.drew).alloc _ | exact E1.out.alloc _)).mono ?_;rintro e w2 ⟨rfl,hb2⟩;have X2:Hid (Ext w1 w2):=(by first | exact ((Ext.refl _).drew).trans hb2 | exact hb2 | exact (((Ext.refl _).drew).alloc _).trans hb2 | exact ((Ext.refl _).alloc _).trans hb2);(first | (have B2:Hid (NWr w2 w1.heap.size 0 ⟨#[]⟩):=(nwr_new w1.drew 0 ⟨#[]⟩ _).ext hb2) | (have B2:Hid (NWr w2 w1.heap.size 0 ⟨#[]⟩):=(nwr_new w1 0 ⟨#[]⟩ _).ext hb2) | (have B2:=trivial));have y4b:=((Ext.cell X2.out).1 _ _ hb1).trans y4;have x2:=X2.out.size;have hb2b:b < w2.heap.size:=(by omega);clear hb2)
    | (go_at_call 275;refine (HSr.out _).mono ?_;rintro e w3 ⟨rfl,hb3⟩;have X3:Hid (Ext w2 w3):=(by first | exact ((Ext.refl _).drew).trans hb3 | exact hb3 | exact (((Ext.refl _).drew).alloc _).trans hb3 | exact ((Ext.refl _).alloc _).trans hb3);(first | (have B3:Hid (NWr w3 w1.heap.size 0 ⟨#[]⟩):=B2.out.ext X3.out) | (have B3:Hid (NWr w3 w2.heap.size 0 ⟨#[]⟩):=(nwr_new w2.drew 0 ⟨#[]⟩ _).ext hb3) | (have B3:Hid (NWr w3 w2.heap.size 0 ⟨#[]⟩):=(nwr_new w2 0 ⟨#[]⟩ _).ext hb3) | (have B3:=trivial));have x3:=X3.out.size;(first | (obtain⟨bl,b0,b1,bf0,bf1⟩:=B3.out) | skip);clear hb3))
   all_goals
    have E3:Hid (Ext w w3):=(E1.out.trans X2.out).trans X3.out
    have T3:Hid (NWr w3 w.heap.size 0 ⟨#[]⟩):=(T1.out.ext X2.out).ext X3.out
    first
     | exact⟨w1.heap.size,_,rfl,by omega,nwr_ext (W:=w3) (b:=w1.heap.size) E3.out (by omega) sc st,nwr_put (W:=w3) (b:=w1.heap.size) B3.out sc st,nwr_other (W:=w3) (b:=w1.heap.size) T3.out (by omega) sc st⟩
     | exact⟨w3.heap.size,_,rfl,by omega,E3.out.alloc _,nwr_new w3 sc st _,T3.out.ext ((Ext.refl _).alloc _)⟩
     | exact⟨w2.heap.size,_,rfl,by omega,nwr_ext (W:=w3) (b:=w2.heap.size) E3.out (by omega) sc st,nwr_put (W:=w3) (b:=w2.heap.size) B3.out sc st,nwr_other (W:=w3) (b:=w2.heap.size) T3.out (by omega) sc st⟩
  rintro e fr W hN
  obtain⟨rfl,hN⟩:=hN.out
  obtain⟨nb,v10,rfl,hnb,hE,hB,hT⟩:=hN
  have EW:Hid (Ext w W):=hE
  have TW:Hid (NWr W w.heap.size 0 ⟨#[]⟩):=hT
  have BW:Hid (NWr W nb sc st):=hB
  have yW:=((Ext.cell hE).1 _ _ hb).trans h0
  have hbW:b < W.heap.size:=Nat.lt_of_lt_of_le hb hE.size
  obtain⟨bl,b0,b1,bf0,bf1⟩:=hB
  obtain⟨tl,t0,t1,tf0,tf1⟩:=hT
  clear hE HNm HSr E1 T1 y4
  rcases HC.out with ⟨rfl,rfl,hv⟩ | ⟨rfl,rfl,hv⟩
  ·have HV:Hid (Tre.numV p y=(5,[])):=hv
   clear hv HC HJ
   go_wp2
   refine bodyPost_ret (v:=tr (5,[])) (by simp [results,Tryz.results256,go_sem,tr,mkB, *]) rfl ⟨by rw [HV.out],?_⟩
   exact (EW.out.setCell (p:=⟨w.heap.size,0,none⟩) (Nat.le_refl _) _).setCell (p:=⟨w.heap.size,1,none⟩) (Nat.le_refl _) _
  ·have HV:Hid (tr (Tre.numV p y)=tr (Pth.joinV y.path.data.toList (Tre.seqN p y.next).data.toList)):=hv
   clear hv HC
   generalize Pth.joinV y.path.data.toList (Tre.seqN p y.next).data.toList=J at *
   obtain⟨jc,jt⟩:=J
   have HV2:Hid (tr (Tre.numV p y) = .agg #[.int .i64 jc,.string (mkB jt)]):=HV.out
   unfold tr at HJ
   simp only at HJ
   clear HV
   generalize mkB jt=JT at *
   go_wp2
   go_region_held3 (fun X=>X.cell? ⟨b,o,none⟩=some (.string y.path)∧X.cell? ⟨nb,1,none⟩=some (.string (Tre.seqN p y.next))) (first | exact⟨yW,b1⟩ | exact⟨y5,b5⟩ | exact⟨by rw [iset_ne _ _ _ _ _ _ (by omega),iset_ne _ _ _ _ _ _ (by omega)];exact y5,by rw [iset_ne _ _ _ _ _ _ (by omega),iset_ne _ _ _ _ _ _ (by omega)];exact b5⟩ | go_keep) (first | (have tk:=EW;clear tk;go_at_call 277;refine (HJ.out _ (by first | exact EW.out.drew | exact EW.out)).mono ?_;rintro e w5 ⟨rfl,hb5⟩;have X5:Hid (Ext W w5):=(by first | exact ((Ext.refl _).drew).trans hb5 | exact hb5);have E5:Hid (Ext w w5):=EW.out.trans X5.out;have y5:=((Ext.cell X5.out).1 _ _ hbW).trans yW;have b5:=((Ext.cell X5.out).1 _ _ bl).trans b1;obtain⟨sl,s0,s1,sf0,sf1⟩:=TW.out.ext X5.out;clear hb5 X5 EW t0 t1 tf0 tf1 tl))
   go_wp2
   refine bodyPost_ret (v:=.agg #[.int .i64 jc,.string JT]) (by simp [results,Tryz.results256,go_sem, *]) rfl ⟨by rw [HV2.out],?_⟩
   exact (E5.out.setCell (p:=⟨w.heap.size,0,none⟩) (Nat.le_refl _) _).setCell (p:=⟨w.heap.size,1,none⟩) (Nat.le_refl _) _
end Go.Proofs.YtpdejinkmnhioaaGreatDoor
