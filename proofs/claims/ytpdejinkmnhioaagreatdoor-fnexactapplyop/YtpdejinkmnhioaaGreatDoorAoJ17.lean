/- E8, E9, in one text. -/
import Derived.Test.YtpdejinkmnhioaaGreatDoorAoJ16
import Derived.Deep.RegionLaw
import Derived.Test.YtpdejinkmnhioaaGreatDoorAoMk
namespace Go.Proofs.YtpdejinkmnhioaaGreatDoor
open Go.RowKit Go.Maps
/-- A SessionsResult as a value. -/
def er (c:Int) (v:Value):Value:=.agg #[.int .i64 c,v]
/-- A SessionsResult of code c and sessions rs came back, its sessions in new memory. -/
def ERet (w:World) (c:Int) (rs:List Se) (e:Ending) (w' : World):Prop :=
 ∃ v g,e = .returned (er c v)∧w.heap.size≤g∧EOwn w' v g rs∧Ext w w'
/-- Block r holds a SessionsResult that nobody has written yet, and may be written. -/
def EBox (w:World) (r:Nat):Prop :=
 r < w.heap.size∧w.cell? ⟨r,0,none⟩=some (.int .i64 0)∧w.cell? ⟨r,1,none⟩=some (.slice none 0 0)∧w.frozen? ⟨r,0,none⟩=false∧w.frozen? ⟨r,1,none⟩=false
theorem EBox.new (w:World) (t:TypeId):EBox (w.alloc (.cells #[.int .i64 0,.slice none 0 0] t)) w.heap.size:=⟨by simp,by simp,by simp,by simp,by simp⟩
theorem EBox.below {w w2:World} {r B:Nat} (h:EBox w r) (he:Below B w w2) (hr:r < B):EBox w2 r:=by
 obtain⟨h1,h2,h3,h5,h6⟩:=h
 exact⟨Nat.lt_of_lt_of_le h1 he.size,(he.cell (p:=⟨r,0,none⟩) hr).trans h2,(he.cell (p:=⟨r,1,none⟩) hr).trans h3,(he.frozen (p:=⟨r,0,none⟩) hr).trans h5,(he.frozen (p:=⟨r,1,none⟩) hr).trans h6⟩
theorem EBox.ext {w w2:World} {r:Nat} (h:EBox w r) (he:Ext w w2):EBox w2 r:=h.below he h.1
theorem eret_box {w w2:World} (c:Int) {v:Value} {g:Nat} {rs:List Se} (hE:Ext w w2) (hO:EOwn w2 v g rs) (hg:w.heap.size < g) :
  ERet w c rs (.returned (er c v)) ((w2.setCell ⟨w.heap.size,0,none⟩ (.int .i64 c)).setCell ⟨w.heap.size,1,none⟩ v) :=
 ⟨v,g,rfl,Nat.le_of_lt hg,hO.upd' (((Upd.refl w.heap.size w2).setAt _ _).setAt _ _) (fun _=>by omega),hE.two _ _⟩
theorem eret_bad {w w2:World} (c:Int) (hE:Ext w w2) :
  ERet w c [] (.returned (er c (.slice none 0 0))) ((w2.setCell ⟨w.heap.size,0,none⟩ (.int .i64 c)).setCell ⟨w.heap.size,1,none⟩ (.slice none 0 0)) :=
 eret_box (g:=w.heap.size+1) c hE ⟨none,0,rfl,Nat.le_refl _,by unfold maxLen;omega,fun h=>by simp at h⟩ (by omega)
theorem putSe_mem {s t:Se} {l:List Se} (h:t ∈ putSe s l):t=s∨t ∈ l:=by
 unfold putSe at h
 rcases List.mem_append.1 h with h | h
 ·exact Or.inr (List.mem_filter.1 h).1
 ·rcases List.mem_cons.1 h with h | h
  ·exact Or.inl h
  ·exact Or.inr (List.mem_filter.1 h).1
set_option maxHeartbeats 2000000 in
set_option maxRecDepth 100000 in
theorem implOpenSession_any (v:Value) (l:List Se) (i n:Int) (w:World) (hS:ESlice w v l) :
  Calls Tryz.prog 189 #[v,.int .i64 i,.int .i64 n] w (ERet w (Ses.openV l i n).1 (Ses.openV l i n).2):=by
 have HS:Hid (ESlice w v l):=hS
 have HF:Hid (∀ wx,Ext w wx→Calls Tryz.prog 211 #[v,.int .i64 i,.int .i64 n] wx fun e w'=>e = .returned (.int .i64 (Ses.asked l i n))∧Ext wx w'):=fun wx he=>sessionFault_any v l i n wx (hS.ext he)
 obtain⟨a,cap,rfl,-⟩:=hS
 unfold Ses.openV
 by_cases hc:Ses.asked l i n=0
 ·obtain⟨hf,hi,hn⟩:=Ses.asked_zero hc
  refine n65z ?_
  intro h6 hr ho HR
  have HP:Hid (Rises l∧∀ s ∈ l,Ses.ok s=true):=⟨hr,ho⟩
  have hkey:keyOf Tryz.prog 2 (.int .i64 i)=some (.int .i64 i):=key64 (by omega)
  have hhas:Maps.has (mapE l) (.int .i64 i)=hasE l i:=mapE_has l i
  rw [hc] at HF
  rw [if_neg (by simp [hc])]
  clear hc hf hr ho
  cases hh:hasE l i with
  | true =>
   rw [hh] at hhas
   rw [if_pos rfl]
   go_enter Tryz.func189,Tryz.ntmps189
   go_wp2_with fail
   refine (HF.out _ ((Ext.refl _).alloc _)).mono ?_
   rintro e w2 ⟨rfl,hb⟩
   have HX2:Hid (EBox w2 w.heap.size):=(EBox.new w _).ext hb
   have HB:Hid (Ext w w2):=((Ext.refl _).alloc _).trans hb
   clear hb
   go_wp2_with fail
   refine (HR.out _ HB.out).mono ?_
   rintro e w3 ⟨b,rfl,hb3,hM,hb⟩
   have HM:Hid (EMap w3 b l.length l):=hM
   have HX3:Hid (EBox w3 w.heap.size):=HX2.out.ext hb
   obtain⟨x0,x1,x2,x3,x4⟩:=id HX3.out
   have HB3:Hid (Ext w w3):=HB.out.trans hb
   clear hb hM
   go_wp2_with (at_lookup;refine wpList_lookup_own_ok_int _ rfl _ _ 267 rfl 2 2 .i64 law64 Tryz.underlying267 Tryz.underlying2 (zero64 _) b l.length _ rfl HM.out _ _ rfl hkey ?_;intro c hat hwc;rw [hhas])
   exact bodyPost_ret (v:=er 6 (.slice none 0 0)) (by simp [results,Tryz.results189,go_sem,er,x1,x2]) rfl (eret_bad _ HB3.out)
  | false =>
   rw [hh] at hhas
   rw [if_neg (by simp)]
   have hsz:Maps.size (mapE l)=l.length:=mapE_size l
   by_cases h66:6≤l.length
   ·rw [if_pos h66]
    have hl6:((l.length:Nat):Int)=6:=by omega
    go_enter Tryz.func189,Tryz.ntmps189
    go_wp2_with fail
    refine (HF.out _ ((Ext.refl _).alloc _)).mono ?_
    rintro e w2 ⟨rfl,hb⟩
    have HX2:Hid (EBox w2 w.heap.size):=(EBox.new w _).ext hb
    have HB:Hid (Ext w w2):=((Ext.refl _).alloc _).trans hb
    clear hb
    go_wp2_with fail
    refine (HR.out _ HB.out).mono ?_
    rintro e w3 ⟨b,rfl,hb3,hM,hb⟩
    have HM:Hid (EMap w3 b l.length l):=hM
    have HX3:Hid (EBox w3 w.heap.size):=HX2.out.ext hb
    obtain⟨x0,x1,x2,x3,x4⟩:=id HX3.out
    have HB3:Hid (Ext w w3):=HB.out.trans hb
    clear hb hM
    go_wp2_with (first | (at_lookup;refine wpList_lookup_own_ok_int _ rfl _ _ 267 rfl 2 2 .i64 law64 Tryz.underlying267 Tryz.underlying2 (zero64 _) b l.length _ rfl HM.out _ _ rfl hkey ?_;intro c hat hwc;rw [hhas]) | (at_len;refine wpList_len_own _ rfl _ 267 rfl 2 2 Tryz.underlying267 _ b l.length _ rfl HM.out ?_;rw [hsz,hl6]))
    exact bodyPost_ret (v:=er 2 (.slice none 0 0)) (by simp [results,Tryz.results189,go_sem,er,x1,x2]) rfl (eret_bad _ HB3.out)
   ·rw [if_neg h66]
    have hl6:((l.length:Nat):Int)≠6:=by omega
    have hval:plainElem (H:=Unit) Tryz.prog 2 (.int .i64 (n+10))=some (.lit (.int .i64 (n+10)),[]):=plainElem_int Tryz.underlying2 (wf64 (by omega))
    have hput:(mapE l).put (.int .i64 i) (.lit (.int .i64 (n+10)))=mapE (putSe ⟨i,n+10⟩ l):=mapE_put ⟨i,n+10⟩ l HP.out.1
    have HIn:Hid (∀ (b:Nat) (wx:World),EMap wx b (l.length+1) (putSe ⟨i,n+10⟩ l)→Calls Tryz.prog 207 #[.map (some b)] wx fun e w'=>∃ v g,e = .returned v∧wx.heap.size≤g∧EOwn w' v g (putSe ⟨i,n+10⟩ l)∧Ext wx w'):=fun b wx h=>inOrder_any b _ _ wx h (HP.out.1.put _) (by have:=putSe_len ⟨i,n+10⟩ l;omega) (fun s hs=>by
     rcases putSe_mem hs with rfl | hs
     ·show _≤i∧i≤_;omega
     ·have:=Ses.ok_iff.1 (HP.out.2 s hs);omega)
    generalize putSe ⟨i,n+10⟩ l=rs at *
    go_enter Tryz.func189,Tryz.ntmps189
    go_wp2_with fail
    refine (HF.out _ ((Ext.refl _).alloc _)).mono ?_
    rintro e w2 ⟨rfl,hb⟩
    have HX2:Hid (EBox w2 w.heap.size):=(EBox.new w _).ext hb
    have HB:Hid (Ext w w2):=((Ext.refl _).alloc _).trans hb
    clear hb
    go_wp2_with fail
    refine (HR.out _ HB.out).mono ?_
    rintro e w3 ⟨b,rfl,hb3,hM,hb⟩
    have HM:Hid (EMap w3 b l.length l):=hM
    have HX3:Hid (EBox w3 w.heap.size):=HX2.out.ext hb
    obtain⟨x0,x1,x2,x3,x4⟩:=id HX3.out
    have HB3:Hid (Ext w w3):=HB.out.trans hb
    have hb4:w.heap.size < b:=Nat.lt_of_lt_of_le HX2.out.1 hb3
    clear hb hM hb3
    go_wp2_with (first | (at_lookup;refine wpList_lookup_own_ok_int _ rfl _ _ 267 rfl 2 2 .i64 law64 Tryz.underlying267 Tryz.underlying2 (zero64 _) b l.length _ rfl HM.out _ _ rfl hkey ?_;intro c hat hwc;rw [hhas];clear hat hwc) | (at_len;refine wpList_len_own _ rfl _ 267 rfl 2 2 Tryz.underlying267 _ b l.length _ rfl HM.out ?_;rw [hsz]) | (at_mapUpdate;refine wpList_mapUpdate_own _ rfl _ _ _ 267 rfl 2 2 law64 Tryz.underlying267 _ b l.length _ rfl HM.out (by unfold maxLen;omega) _ _ _ rfl rfl hkey _ [] hval ?_;intro w4 hown4 hgrow4;rw [hput] at hown4;have HM4:Hid (EMap w4 b (l.length+1) rs):=hown4;have HB4:Hid (Ext w w4):=Below.grown HB3.out hgrow4 HB3.out.size (fun j hj=>by cases hj;exact Nat.le_of_lt hb4);have HX4:Hid (EBox w4 w.heap.size):=HX3.out.below ((Below.refl b w3).grown hgrow4 (Nat.le_of_lt HM.out.lt) (fun j hj=>by cases hj;exact Nat.le_refl _)) hb4;clear hown4 hgrow4))
    refine (HIn.out _ _ HM4.out).mono ?_
    rintro e w5 ⟨v5,g5,rfl,hg5,hO5,hb⟩
    have HX5:Hid (EBox w5 w.heap.size):=HX4.out.ext hb
    have HB5:Hid (Ext w w5):=HB4.out.trans hb
    have HO5:Hid (EOwn w5 v5 g5 rs):=hO5
    have hg6:w.heap.size < g5:=Nat.lt_of_lt_of_le HX4.out.1 hg5
    obtain⟨a5,cap5,rfl,-⟩:=id hO5
    clear hb hO5 x0 x1 x2 x3 x4
    obtain⟨x0,x1,x2,x3,x4⟩:=id HX5.out
    go_wp2
    exact bodyPost_ret (v:=er 0 (.slice a5 rs.length cap5)) (by simp [results,Tryz.results189,go_sem,er,x1,x2]) rfl (eret_box 0 HB5.out HO5.out hg6)
 ·rw [if_pos hc]
  generalize Ses.asked l i n=c at *
  go_enter Tryz.func189,Tryz.ntmps189
  go_wp2_with fail
  refine (HF.out _ ((Ext.refl _).alloc _)).mono ?_
  rintro e w2 ⟨rfl,hb⟩
  have HX2:Hid (EBox w2 w.heap.size):=(EBox.new w _).ext hb
  have HB:Hid (Ext w w2):=((Ext.refl _).alloc _).trans hb
  clear hb
  obtain⟨x0,x1,x2,x3,x4⟩:=id HX2.out
  go_wp2
  exact bodyPost_ret (v:=er c (.slice none 0 0)) (by simp [results,Tryz.results189,go_sem,er,x1,x2]) rfl (eret_bad _ HB.out)
end Go.Proofs.YtpdejinkmnhioaaGreatDoor
namespace Go.Proofs.YtpdejinkmnhioaaGreatDoor
open Go.RowKit
theorem put_cut {l:List Se} {s:Se} {k:Nat} (hk:k≤l.length) (hr:Rises l) (hh:hasE l s.id=false) (h1:∀ (j:Nat) t,j < k→l[j]?=some t→t.id < s.id) (h2:∀ t,l[k]?=some t→¬ t.id < s.id):putSe s l=l.take k ++ s :: l.drop k:=by
 have hA:∀ t ∈ l.take k,t.id < s.id:=by
  intro t ht
  obtain⟨j,hj,rfl⟩:=List.mem_iff_getElem.1 ht
  rw [List.length_take] at hj
  rw [List.getElem_take]
  exact h1 j _ (by omega) (List.getElem?_eq_getElem (by omega))
 have hB:∀ t ∈ l.drop k,s.id < t.id:=by
  intro t ht
  obtain⟨j,hj,rfl⟩:=List.mem_iff_getElem.1 ht
  rw [List.length_drop] at hj
  rw [List.getElem_drop]
  have h3:=h2 (l[k]'(by omega)) (List.getElem?_eq_getElem (by omega))
  have h4:l[k+j].id≠s.id:=by
   intro e
   have:hasE l s.id=true:=by
    unfold hasE
    rw [List.any_eq_true]
    exact⟨l[k+j],List.getElem_mem _,by simp [e]⟩
   rw [hh] at this;cases this
  rcases Nat.eq_zero_or_pos j with rfl | hj0
  ·simp only [Nat.add_zero] at h4 ⊢;omega
  ·have:=List.pairwise_iff_getElem.1 hr k (k+j) (by omega) (by omega) (by omega)
   omega
 unfold putSe
 conv=>lhs;rw [← List.take_append_drop k l]
 rw [List.filter_append,List.filter_append,List.filter_eq_self.2 (fun t ht=>by simpa using hA t ht),List.filter_eq_nil_iff.2 (fun t ht=>by have:=hB t ht;simp;omega),List.filter_eq_nil_iff.2 (fun t ht=>by have:=hA t ht;simp;omega),List.filter_eq_self.2 (fun t ht=>by simpa using hB t ht),List.append_nil,List.nil_append]
theorem SesAt.take {w:World} {b off:Nat} {l:List Se} (h:SesAt w b off l) (k:Nat):SesAt w b off (l.take k):=by
 intro i s hs
 rw [List.getElem?_take] at hs
 split at hs
 ·exact h i s hs
 ·cases hs
theorem SesAt.drop {w:World} {b off:Nat} {l:List Se} (h:SesAt w b off l) (k:Nat):SesAt w b (off+k * 2) (l.drop k):=by
 intro i s hs
 rw [List.getElem?_drop] at hs
 have:=h (k+i) s hs
 rw [show off+(k+i) * 2=off+k * 2+i * 2 from by omega] at this
 exact this
theorem cellsE_get:∀ (l:List Se) (j:Nat) (u:Value),(cellsE l)[j]?=some u→∃ i s,l[i]?=some s∧((j=i * 2∧u = .int .i64 s.id)∨(j=i * 2+1∧u = .int .i64 s.til))
 | [],j,u,h=>by simp [cellsE] at h
 | s :: r,0,u,h=>by simp [cellsE] at h;exact⟨0,s,rfl,Or.inl ⟨rfl,h.symm⟩⟩
 | s :: r,1,u,h=>by simp [cellsE] at h;exact⟨0,s,rfl,Or.inr ⟨rfl,h.symm⟩⟩
 | s :: r,j+2,u,h=>by
  have h' : (cellsE r)[j]?=some u:=by simpa [cellsE] using h
  obtain⟨i,t,q1,q2⟩:=cellsE_get r j u h'
  refine⟨i+1,t,by simpa using q1,?_⟩
  rcases q2 with ⟨q,e⟩ | ⟨q,e⟩
  ·exact Or.inl ⟨by omega,e⟩
  ·exact Or.inr ⟨by omega,e⟩
theorem SesAt.news {w:World} {b off:Nat} {l:List Se} (h:SesAt w b off l):∀ j u,(cellsE l)[j]?=some u→w.cell? ((⟨b,off,none⟩:Addr).add j)=some u:=by
 intro j u hu
 rw [Addr.add_lit]
 obtain⟨i,s,hs,q⟩:=cellsE_get l j u hu
 obtain⟨c0,c1⟩:=h i s hs
 rcases q with ⟨rfl,rfl⟩ | ⟨rfl,rfl⟩
 ·exact c0
 ·rw [← Nat.add_assoc];exact c1
theorem eown3 {w:World} {base N:Nat} {v:Value} {cs:List Value} {rs:List Se} (h:w.ownsRow base 134 2 v N cs) (hN:N=rs.length) (hc:cs=cellsE rs):∃ g a cap,base≤g∧v = .slice a rs.length cap∧EOwn w v g rs:=by
 subst hN hc
 obtain⟨g,hg,hO⟩:=eown_of_owns h
 obtain⟨a,cap,hv,hr⟩:=id hO
 exact⟨g,a,cap,hg,hv,hO⟩
theorem eown4 {w:World} {base N:Nat} {v:Value} {cs:List Value} {rs:List Se} (h:w.ownsRow base 134 2 v N cs) (hN:N=rs.length) (hc:cs=cellsE rs):w.ownsRow base 134 2 v rs.length (cellsE rs):=by
 subst hN hc
 exact h
/-- The same, its sessions in a row of its own, behind the result's block. -/
def ERetO (w:World) (c:Int) (rs:List Se) (e:Ending) (w' : World):Prop :=
 ∃ v,e = .returned (er c v)∧w'.ownsRow (w.heap.size+1) 134 2 v rs.length (cellsE rs)∧Ext w w'
theorem ERetO.to {w w' : World} {c:Int} {rs:List Se} {e:Ending} (h:ERetO w c rs e w'):ERet w c rs e w':=by
 obtain⟨v,h1,h2,h3⟩:=h
 obtain⟨g,hg,hO⟩:=eown_of_owns h2
 exact⟨v,g,h1,by omega,hO,h3⟩
theorem eretO_box {w w2:World} (c:Int) {v:Value} {rs:List Se} (hE:Ext w w2) (hO:w2.ownsRow (w.heap.size+1) 134 2 v rs.length (cellsE rs)) :
  ERetO w c rs (.returned (er c v)) ((w2.setCell ⟨w.heap.size,0,none⟩ (.int .i64 c)).setCell ⟨w.heap.size,1,none⟩ v) :=
 ⟨v,rfl,ownsRow_setCell_below (ownsRow_setCell_below hO (a:=⟨w.heap.size,0,none⟩) (Nat.lt_succ_self _) _) (a:=⟨w.heap.size,1,none⟩) (Nat.lt_succ_self _) _,hE.two _ _⟩
theorem eretO_bad {w w2:World} (c:Int) (hE:Ext w w2) :
  ERetO w c [] (.returned (er c (.slice none 0 0))) ((w2.setCell ⟨w.heap.size,0,none⟩ (.int .i64 c)).setCell ⟨w.heap.size,1,none⟩ (.slice none 0 0)) :=
 eretO_box c hE (World.ownsRow_nil _ _ _ _)
def Ses.opened (l:List Se) (i n:Int):Int × List Se:=if hasE l i=true then (6,[]) else if 6≤l.length then (2,[]) else (0,putSe ⟨i,n+10⟩ l)
theorem Ses.openV_eq (l:List Se) (i n:Int):Ses.openV l i n=if Ses.asked l i n≠0 then (Ses.asked l i n,[]) else Ses.opened l i n:=rfl
/-- The result's block was laid behind w, and nothing up to it has turned since. -/
def OBox (w wx:World):Prop:=Below (w.heap.size+1) (w.alloc (.cells #[.int .i64 0,.slice none 0 0] 161)) wx
theorem OBox.new (w:World):OBox w (w.alloc (.cells #[.int .i64 0,.slice none 0 0] 161)):=Below.refl _ _
theorem OBox.to {w wx:World} (h:OBox w wx):Ext w wx:=((Ext.refl w).alloc _).trans (Below.mono h (by simp))
theorem OBox.drew {w wx:World} (h:OBox w wx):OBox w wx.drew:=Below.drew h
theorem OBox.size {w wx:World} (h:OBox w wx):w.heap.size+1≤wx.heap.size:=by have:=Below.size h;simpa using this
theorem OBox.alloc {w wx:World} (h:OBox w wx) (o:Obj):OBox w (wx.alloc o):=Below.alloc h h.size o
theorem OBox.ext {w wx wy:World} (h:OBox w wx) (he:Ext wx wy):OBox w wy:=Below.trans h (Below.mono he h.size)
theorem OBox.grown {w wx wy:World} {row:Option Nat} (h:OBox w wx) (hg:wx.grownBy wy row) (hr:∀ q,row=some q→w.heap.size+1≤q):OBox w wy:=Below.grown h hg h.size hr
theorem OBox.box {w wx:World} (h:OBox w wx):EBox wx w.heap.size:=(EBox.new w _).below h (by omega)
set_option maxHeartbeats 4000000 in
set_option maxRecDepth 100000 in
theorem l4Open_own (b off cap:Nat) (l:List Se) (i n:Int) (w:World) (hS:ESlice w (.slice (some ⟨b,off,none⟩) l.length cap) l) (hr:Rises l) (hl:l.length≤1000) (hn : -100000≤n∧n≤100000) :
  Calls Tryz.prog 112 #[.slice (some ⟨b,off,none⟩) l.length cap,.int .i64 i,.int .i64 n] w (ERetO w (Ses.opened l i n).1 (Ses.opened l i n).2):=by
 refine n43z ?_
 intro hi9
 obtain⟨ti,hti,hxx⟩:=Option.map_eq_some_iff.1 hi9
 simp only [Prod.mk.injEq] at hxx
 obtain⟨hz0,hz1,hz2⟩:=hxx
 clear hi9
 have HAt:Hid (∀ wx,Ext w wx→Calls Tryz.prog 175 #[.slice (some ⟨b,off,none⟩) l.length cap,.int .i64 i] wx fun e w'=>e = .returned (.int .i64 (Ses.atF i 0 l))∧w'=wx):=fun wx he=>l4At_any _ l i wx (hS.ext he)
 obtain⟨a',cap',he,hlc,hcm,hx⟩:=hS
 injection he with e1 _ e3
 subst e1 e3
 have HX:Hid (0 < l.length→∃ b' off',(some (⟨b,off,none⟩:Addr))=some ⟨b',off',none⟩∧b' < w.heap.size∧SesAt w b' off' l):=hx
 have HNA:Hid (∀ wx,Ext w wx→SesAt wx b off l):=by
  intro wx he
  by_cases h0:0 < l.length
  ·obtain⟨b',off',he',hb,hN⟩:=hx h0
   injection he' with he'
   injection he' with e1 e2 _
   subst e1 e2
   exact hN.ext hb he
  ·intro j s hs
   have:=(List.getElem?_eq_some_iff.1 hs).1
   omega
 clear hx
 unfold maxLen at hcm
 rcases Ses.atF_is i l 0 with ⟨q1,q2⟩ | ⟨j,s,q1,q2,q3,q4,q5⟩
 ·rw [q1] at HAt
  by_cases h6:6≤l.length
  ·rw [show Ses.opened l i n=(2,[]) from by unfold Ses.opened;rw [if_neg (by simp [q2]),if_pos h6]]
   have hl6:(6:Int)≤((l.length:Nat):Int):=by omega
   go_enter Tryz.func112,Tryz.ntmps112
   go_wp2_with fail
   refine n71z ?_
   intro w2 HB
   obtain⟨x0,x1,x2,x3,x4⟩:=HB.out.box
   go_wp2
   exact bodyPost_ret (v:=er 2 (.slice none 0 0)) (by simp [results,Tryz.results112,go_sem,er,x1,x2]) rfl (eretO_bad _ HB.out.to)
  ·rw [show Ses.opened l i n=(0,putSe ⟨i,n+10⟩ l) from by unfold Ses.opened;rw [if_neg (by simp [q2]),if_neg h6]]
   have hl6:¬ (6:Int)≤((l.length:Nat):Int):=by omega
   have HP:Hid (Rises l∧hasE l i=false):=⟨hr,q2⟩
   clear q1 q2 hr
   generalize hR:putSe ⟨i,n+10⟩ l=rs
   have HR:Hid (putSe ⟨i,n+10⟩ l=rs):=hR
   clear hR
   go_enter Tryz.func112,Tryz.ntmps112
   go_wp2_with fail
   refine n71z ?_
   intro w2 HB
   go_wp2
   go_loopw [7] (fun iv wr=>∃ (k:Nat),k≤l.length∧iv = .int .i64 k∧Hid (∀ (j:Nat) t,j < k→l[j]?=some t→t.id < i)∧Hid (OBox w wr)) (fun iv _=>l.length - (intOf iv).toNat)
   case atStart=>exact⟨0,Nat.zero_le _,rfl,fun j y h=>by omega,HB.out⟩
   case round =>
    obtain⟨k,hk,rfl,HA,HE⟩:=hrel
    by_cases hlt:k < l.length
    ·obtain⟨t,htk⟩:∃ t,l[k]?=some t:=⟨_,List.getElem?_eq_getElem hlt⟩
     obtain⟨d0,d1⟩:=HNA.out _ HE.out.to k t htk
     by_cases hti' : t.id < i
     ·have HA2:Hid (∀ (j:Nat) x,j < k+1→l[j]?=some x→x.id < i):=by
       intro j x hj hx
       by_cases hjk:j=k
       ·subst hjk;rw [htk] at hx;cases hx;exact hti'
       ·exact HA.out j x (by omega) hx
      clear htk
      exact m91z
     ·have HRS:Hid (rs=l.take k ++ ⟨i,n+10⟩ :: l.drop k):=by
       show _=_
       rw [← HR.out]
       exact put_cut hk HP.out.1 HP.out.2 HA.out (fun x hx=>by rw [htk] at hx;cases hx;exact hti')
      clear htk
      have HSa:Hid (∀ wy:World,SesAt wy b off l→∀ j u,(cellsE (l.drop k))[j]?=some u→wy.cell? ((⟨b,off+k * 2,none⟩:Addr).add j)=some u):=fun wy hN=>(hN.drop k).news
      have HSb:Hid (cap=k→∀ wy:World,∀ j u,(cellsE (l.drop k))[j]?=some u→wy.cell? ((⟨b,off,none⟩:Addr).add j)=some u):=fun h wy t u hu=>by
       rw [List.drop_of_length_le (by omega)] at hu
       simp [cellsE] at hu
      have hkc:k≤cap:=by omega
      have hlt2:(cellsE (l.take k)).length=k * 2:=by rw [cellsE_len,List.length_take];omega
      have hld:(cellsE (l.drop k)).length=(l.length - k) * 2:=by rw [cellsE_len,List.length_drop]
      have HN0:Hid (SesAt (wr.alloc (.cells #[] 134)) b off l):=HNA.out _ (HE.out.alloc _).to
      have HO:Hid ((wr.alloc (.cells #[] 134)).ownsRow (w.heap.size+1) 134 2 (.slice (some ⟨wr.heap.size,0,none⟩) 0 0) 0 []):=World.ownsRow_made wr #[] 0 HE.out.size (by unfold maxLen;omega) rfl
      go_wp2_with (first | (at_builtin;have HO5':=HO5.out;go_must (first | (refine wpList_append_own _ rfl _ _ 34 rfl (w.heap.size+1) 134 ti (.agg #[.int .i64 0,.int .i64 0]) 2 16 Tryz.underlying34 hti hz0 hz1 hz2 rfl (by decide) v5 (0+k+1) ([] ++ cellsE (l.take k) ++ cellsE [⟨i,n+10⟩]) rfl HO5' ⟨b,off+k * 2,none⟩ (l.length - k) _ (cellsE (l.drop k)) rfl hld (HSa.out w5 HN5.out) (cellsE_one _) (by unfold maxLen;omega) (by omega) (by have:=HE5.out.size;omega) ?_;intro v6 w6 hown6 hgrow6 hnil6;have HE6:Hid (OBox w w6):=HE5.out.grown hgrow6 (fun q hq=>(HO5.out.lt q hq).1);have HO6:Hid (w6.ownsRow (w.heap.size+1) 134 2 v6 (0+k+1+(l.length - k)) ([] ++ cellsE (l.take k) ++ cellsE [⟨i,n+10⟩] ++ cellsE (l.drop k))):=hown6;clear hown6 hgrow6 hnil6 HO5';obtain⟨g6,a6,cap6,hg6,hv6,hO6'⟩:=eown3 (rs:=rs) HO6.out (by rw [HRS.out];simp;omega) (by rw [HRS.out,cellsE_app];simp [cellsE]);have HO7:Hid (w6.ownsRow (w.heap.size+1) 134 2 v6 rs.length (cellsE rs)):=eown4 HO6.out (by rw [HRS.out];simp;omega) (by rw [HRS.out,cellsE_app];simp [cellsE]);subst hv6;clear hO6';obtain⟨x0,x1,x2,x3,x4⟩:=HE6.out.box) | (refine wpList_append_own _ rfl _ _ 34 rfl (w.heap.size+1) 134 ti (.agg #[.int .i64 0,.int .i64 0]) 2 16 Tryz.underlying34 hti hz0 hz1 hz2 rfl (by decide) v5 (0+k+1) ([] ++ cellsE (l.take k) ++ cellsE [⟨i,n+10⟩]) rfl HO5' ⟨b,off,none⟩ (l.length - k) _ (cellsE (l.drop k)) rfl hld (HSb.out (by assumption) w5) (cellsE_one _) (by unfold maxLen;omega) (by omega) (by have:=HE5.out.size;omega) ?_;intro v6 w6 hown6 hgrow6 hnil6;have HE6:Hid (OBox w w6):=HE5.out.grown hgrow6 (fun q hq=>(HO5.out.lt q hq).1);have HO6:Hid (w6.ownsRow (w.heap.size+1) 134 2 v6 (0+k+1+(l.length - k)) ([] ++ cellsE (l.take k) ++ cellsE [⟨i,n+10⟩] ++ cellsE (l.drop k))):=hown6;clear hown6 hgrow6 hnil6 HO5';obtain⟨g6,a6,cap6,hg6,hv6,hO6'⟩:=eown3 (rs:=rs) HO6.out (by rw [HRS.out];simp;omega) (by rw [HRS.out,cellsE_app];simp [cellsE]);have HO7:Hid (w6.ownsRow (w.heap.size+1) 134 2 v6 rs.length (cellsE rs)):=eown4 HO6.out (by rw [HRS.out];simp;omega) (by rw [HRS.out,cellsE_app];simp [cellsE]);subst hv6;clear hO6';obtain⟨x0,x1,x2,x3,x4⟩:=HE6.out.box))) | (at_builtin;have HO4':=HO4.out;refine wpList_append_own _ rfl _ _ 34 rfl (w.heap.size+1) 134 ti (.agg #[.int .i64 0,.int .i64 0]) 2 16 Tryz.underlying34 hti hz0 hz1 hz2 rfl (by decide) v4 (0+k) ([] ++ cellsE (l.take k)) rfl (HO4.out.alloc _) ⟨w4.heap.size,0,none⟩ 1 1 (cellsE [⟨i,n+10⟩]) rfl rfl (cells_ses _ _ _ _) (cellsE_one _) (by unfold maxLen;omega) (by omega) (by have:=HE4.out.size;simp;omega) ?_;intro v5 w5 hown5 hgrow5 hnil5;have HE5:Hid (OBox w w5):=(HE4.out.alloc _).grown hgrow5 (fun q hq=>(HO4.out.lt q hq).1);have HO5:Hid (w5.ownsRow (w.heap.size+1) 134 2 v5 (0+k+1) ([] ++ cellsE (l.take k) ++ cellsE [⟨i,n+10⟩])):=hown5;have HN5:Hid (SesAt w5 b off l):=HNA.out _ HE5.out.to;clear hown5 hgrow5 hnil5 HO4') | (at_builtin;refine wpList_append_own _ rfl _ _ 34 rfl (w.heap.size+1) 134 ti (.agg #[.int .i64 0,.int .i64 0]) 2 16 Tryz.underlying34 hti hz0 hz1 hz2 rfl (by decide) (.slice (some ⟨wr.heap.size,0,none⟩) 0 0) 0 [] rfl HO.out ⟨b,off,none⟩ k _ (cellsE (l.take k)) rfl hlt2 (HN0.out.take k).news (cellsE_one _) (by unfold maxLen;omega) (by omega) (by have:=HE.out.size;simp;omega) ?_;intro v4 w4 hown4 hgrow4 hnil4;have HE4:Hid (OBox w w4):=(HE.out.alloc _).grown hgrow4 (fun q hq=>(HO.out.lt q hq).1);have HO4:Hid (w4.ownsRow (w.heap.size+1) 134 2 v4 (0+k) ([] ++ cellsE (l.take k))):=hown4;clear hown4 hgrow4 hnil4))
      all_goals exact m87z
    ·obtain rfl:k=l.length:=by omega
     have HRS:Hid (rs=l.take l.length ++ ⟨i,n+10⟩ :: l.drop l.length):=by
      show _=_
      rw [← HR.out]
      exact put_cut hk HP.out.1 HP.out.2 HA.out (fun x hx=>by have:=(List.getElem?_eq_some_iff.1 hx).1;omega)
     have HSa:Hid (∀ wy:World,SesAt wy b off l→∀ j u,(cellsE (l.drop l.length))[j]?=some u→wy.cell? ((⟨b,off+l.length * 2,none⟩:Addr).add j)=some u):=fun wy hN=>(hN.drop l.length).news
     have HSb:Hid (cap=l.length→∀ wy:World,∀ j u,(cellsE (l.drop l.length))[j]?=some u→wy.cell? ((⟨b,off,none⟩:Addr).add j)=some u):=fun h wy t u hu=>by
      rw [List.drop_of_length_le (by omega)] at hu
      simp [cellsE] at hu
     have hkc:l.length≤cap:=by omega
     have hlt2:(cellsE (l.take l.length)).length=l.length * 2:=by rw [cellsE_len,List.length_take];omega
     have hld:(cellsE (l.drop l.length)).length=0 * 2:=by simp [cellsE]
     have HN0:Hid (SesAt (wr.alloc (.cells #[] 134)) b off l):=HNA.out _ (HE.out.alloc _).to
     have HO:Hid ((wr.alloc (.cells #[] 134)).ownsRow (w.heap.size+1) 134 2 (.slice (some ⟨wr.heap.size,0,none⟩) 0 0) 0 []):=World.ownsRow_made wr #[] 0 HE.out.size (by unfold maxLen;omega) rfl
     obtain⟨A,hA⟩:∃ A:Addr,(if cap=l.length then some (⟨b,off,none⟩:Addr) else some ⟨b,off+l.length * 2,none⟩)=some A:=by by_cases h:cap=l.length <;> simp [h]
     go_wp2_with (first | (at_builtin;have HO5':=HO5.out;go_must (refine wpList_append_own _ rfl _ _ 34 rfl (w.heap.size+1) 134 ti (.agg #[.int .i64 0,.int .i64 0]) 2 16 Tryz.underlying34 hti hz0 hz1 hz2 rfl (by decide) v5 (0+l.length+1) ([] ++ cellsE (l.take l.length) ++ cellsE [⟨i,n+10⟩]) rfl HO5' A 0 _ (cellsE (l.drop l.length)) rfl hld (fun t u hu=>by simp [cellsE] at hu) (cellsE_one _) (by unfold maxLen;omega) (by omega) (by have:=HE5.out.size;omega) ?_;intro v6 w6 hown6 hgrow6 hnil6;have HE6:Hid (OBox w w6):=HE5.out.grown hgrow6 (fun q hq=>(HO5.out.lt q hq).1);have HO6:Hid (w6.ownsRow (w.heap.size+1) 134 2 v6 (0+l.length+1+0) ([] ++ cellsE (l.take l.length) ++ cellsE [⟨i,n+10⟩] ++ cellsE (l.drop l.length))):=hown6;clear hown6 hgrow6 hnil6 HO5';obtain⟨g6,a6,cap6,hg6,hv6,hO6'⟩:=eown3 (rs:=rs) HO6.out (by rw [HRS.out];simp) (by rw [HRS.out,cellsE_app];simp [cellsE]);have HO7:Hid (w6.ownsRow (w.heap.size+1) 134 2 v6 rs.length (cellsE rs)):=eown4 HO6.out (by rw [HRS.out];simp) (by rw [HRS.out,cellsE_app];simp [cellsE]);subst hv6;clear hO6';obtain⟨x0,x1,x2,x3,x4⟩:=HE6.out.box)) | (at_builtin;have HO4':=HO4.out;refine wpList_append_own _ rfl _ _ 34 rfl (w.heap.size+1) 134 ti (.agg #[.int .i64 0,.int .i64 0]) 2 16 Tryz.underlying34 hti hz0 hz1 hz2 rfl (by decide) v4 (0+l.length) ([] ++ cellsE (l.take l.length)) rfl (HO4.out.alloc _) ⟨w4.heap.size,0,none⟩ 1 1 (cellsE [⟨i,n+10⟩]) rfl rfl (cells_ses _ _ _ _) (cellsE_one _) (by unfold maxLen;omega) (by omega) (by have:=HE4.out.size;simp;omega) ?_;intro v5 w5 hown5 hgrow5 hnil5;have HE5:Hid (OBox w w5):=(HE4.out.alloc _).grown hgrow5 (fun q hq=>(HO4.out.lt q hq).1);have HO5:Hid (w5.ownsRow (w.heap.size+1) 134 2 v5 (0+l.length+1) ([] ++ cellsE (l.take l.length) ++ cellsE [⟨i,n+10⟩])):=hown5;have HN5:Hid (SesAt w5 b off l):=HNA.out _ HE5.out.to;clear hown5 hgrow5 hnil5 HO4') | (at_builtin;refine wpList_append_own _ rfl _ _ 34 rfl (w.heap.size+1) 134 ti (.agg #[.int .i64 0,.int .i64 0]) 2 16 Tryz.underlying34 hti hz0 hz1 hz2 rfl (by decide) (.slice (some ⟨wr.heap.size,0,none⟩) 0 0) 0 [] rfl HO.out ⟨b,off,none⟩ l.length _ (cellsE (l.take l.length)) rfl hlt2 (HN0.out.take l.length).news (cellsE_one _) (by unfold maxLen;omega) (by omega) (by have:=HE.out.size;simp;omega) ?_;intro v4 w4 hown4 hgrow4 hnil4;have HE4:Hid (OBox w w4):=(HE.out.alloc _).grown hgrow4 (fun q hq=>(HO.out.lt q hq).1);have HO4:Hid (w4.ownsRow (w.heap.size+1) 134 2 v4 (0+l.length) ([] ++ cellsE (l.take l.length))):=hown4;clear hown4 hgrow4 hnil4))
     all_goals exact m87z
 ·rw [show Ses.opened l i n=(6,[]) from by unfold Ses.opened;rw [q4,if_pos rfl]]
  rw [q2,Nat.zero_add] at HAt
  have hj:(0:Int)≤(j:Int):=by omega
  clear q1 q2 q3 q4 q5
  go_enter Tryz.func112,Tryz.ntmps112
  go_wp2_with fail
  refine n71z ?_
  intro w2 HB
  obtain⟨x0,x1,x2,x3,x4⟩:=HB.out.box
  go_wp2
  exact bodyPost_ret (v:=er 6 (.slice none 0 0)) (by simp [results,Tryz.results112,go_sem,er,x1,x2]) rfl (eretO_bad _ HB.out.to)
theorem l4Open_any (b off cap:Nat) (l:List Se) (i n:Int) (w:World) (hS:ESlice w (.slice (some ⟨b,off,none⟩) l.length cap) l) (hr:Rises l) (hl:l.length≤1000) (hn : -100000≤n∧n≤100000) :
  Calls Tryz.prog 112 #[.slice (some ⟨b,off,none⟩) l.length cap,.int .i64 i,.int .i64 n] w (ERet w (Ses.opened l i n).1 (Ses.opened l i n).2) :=
 (l4Open_own b off cap l i n w hS hr hl hn).mono fun _ _ h=>h.to
end Go.Proofs.YtpdejinkmnhioaaGreatDoor
