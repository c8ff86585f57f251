/- N13, S2, S3, S4, T1, in one text. -/
import Derived.Test.YtpdejinkmnhioaaGreatDoorAoJ4
import Derived.Test.YtpdejinkmnhioaaGreatDoorAoJ0
import Derived.Test.YtpdejinkmnhioaaGreatDoorAoJ1
import Derived.Test.YtpdejinkmnhioaaGreatDoorAoMk
namespace Go.Proofs.YtpdejinkmnhioaaGreatDoor
open Go.RowKit
/-- Where P, block g may have turned; nothing else that was there. -/
def Stp (P:Prop) (g:Nat) (w w' : World):Prop :=
 (∀ w0,Ext w0 w→(P→w0.heap.size≤g)→Ext w0 w')∧(∀ c o,c < w.heap.size→(P→c≠g)→w'.cell? ⟨c,o,none⟩=w.cell? ⟨c,o,none⟩∧w'.frozen? ⟨c,o,none⟩=w.frozen? ⟨c,o,none⟩)∧w.heap.size≤w'.heap.size
theorem Stp.of_upd {P:Prop} {g:Nat} {w w' : World} (hP:P) (h:Upd g w w'):Stp P g w w' :=
 ⟨fun _ he hg=>h.to_ext he (hg hP),fun c o hc hne=>h.at_ne c o (hne hP) hc,h.2.1⟩
theorem Stp.of_new {P:Prop} {g:Nat} {w w' : World} (h:Upd (w.heap.size+1) w w'):Stp P g w w' :=
 ⟨fun _ he _=>h.to_ext he (Nat.le_succ_of_le he.size),fun c o hc _=>h.at_ne c o (by omega) hc,h.2.1⟩
theorem Own.stp {P:Prop} {g b:Nat} {w w' : World} {v:Value} {zs:List Zn} (h:Own w v g zs) (hs:Stp P b w w') (hne:0 < zs.length→P→g≠b):Own w' v g zs:=by
 exact m33z
theorem EOwn.stp {P:Prop} {g b:Nat} {w w' : World} {v:Value} {zs:List Se} (h:EOwn w v g zs) (hs:Stp P b w w') (hne:0 < zs.length→P→g≠b):EOwn w' v g zs:=by
 obtain⟨a,cap,h1,h2,h3,h4⟩:=h
 refine⟨a,cap,h1,h2,h3,fun h0=>?_⟩
 obtain⟨off,e,hr,hN⟩:=h4 h0
 have hq:=fun o=>hs.2.1 g o hr.1 (hne h0)
 refine⟨off,e,⟨Nat.lt_of_lt_of_le hr.1 hs.2.2,fun j hj=>⟨by rw [(hq _).1];exact (hr.2 j hj).1,by rw [(hq _).2];exact (hr.2 j hj).2⟩⟩,fun i z hz=>?_⟩
 obtain⟨c0,c1⟩:=hN i z hz
 exact⟨(hq _).1.trans c0,(hq _).1.trans c1⟩
theorem MOwn.stp {P:Prop} {g b:Nat} {w w' : World} {v:Value} {zs:List Mk} (h:MOwn w v g zs) (hs:Stp P b w w') (hne:0 < zs.length→P→g≠b):MOwn w' v g zs:=by
 exact m33z
theorem MOwn.nil {w w' : World} {v:Value} {g g' : Nat} {zs:List Mk} (h:MOwn w v g zs) (h0:¬ 0 < zs.length):MOwn w' v g' zs:=by
 exact m32z
theorem SBoxAt.stp {P:Prop} {g b:Nat} {w w' : World} {v0 v1 v2 v3:Value} (h:SBoxAt w b v0 v1 v2 v3) (hs:Stp P g w w') (hne:P→b≠g):SBoxAt w' b v0 v1 v2 v3:=by
 obtain⟨hb,⟨c0,c1,c2,c3⟩,f0,f1,f2,f3⟩:=h
 have hq:=fun o=>hs.2.1 b o hb hne
 exact⟨Nat.lt_of_lt_of_le hb hs.2.2,⟨(hq _).1.trans c0,(hq _).1.trans c1,(hq _).1.trans c2,(hq _).1.trans c3⟩,(hq _).2.trans f0,(hq _).2.trans f1,(hq _).2.trans f2,(hq _).2.trans f3⟩
theorem markZ_stp (v:Value) (g:Nat) (zs:List Zn) (k:Nat) (w:World) (hO:Own w v g zs) (hk:k≤100) (hl:zs.length≤1048576) :
  Calls Tryz.prog 66 #[v,.int .i64 k] w fun e w'=>e = .returned (.int .i64 (k+5 * zs.length:Nat))∧Own w' v g (marks k zs.length)∧Stp (0 < zs.length) g w w':=by
 by_cases h0:0 < zs.length
 ·exact (markZnodeS_any v g zs k w hO hk hl).mono fun e w' ⟨h1,h2,h3⟩=>⟨h1,h2,Stp.of_upd h0 h3⟩
 ·exact (markZnodeS_any v (w.heap.size+1) zs k w (hO.nil h0) hk hl).mono fun e w' ⟨h1,h2,h3⟩=>⟨h1,h2.nil (by rw [marks_length];exact h0),Stp.of_new h3⟩
theorem markE_stp (v:Value) (g:Nat) (zs:List Se) (k:Nat) (w:World) (hO:EOwn w v g zs) (hk:k≤6000000) (hl:zs.length≤1048576) :
  Calls Tryz.prog 67 #[v,.int .i64 k] w fun e w'=>e = .returned (.int .i64 (k+2 * zs.length:Nat))∧EOwn w' v g (emarks k zs.length)∧Stp (0 < zs.length) g w w':=by
 by_cases h0:0 < zs.length
 ·exact (markSesW_any v g zs k w hO hk hl).mono fun e w' ⟨h1,h2,h3⟩=>⟨h1,h2,Stp.of_upd h0 h3⟩
 ·exact (markSesW_any v (w.heap.size+1) zs k w (hO.nil h0) hk hl).mono fun e w' ⟨h1,h2,h3⟩=>⟨h1,h2.nil (by rw [emarks_length];exact h0),Stp.of_new h3⟩
theorem markM_stp (v:Value) (g:Nat) (zs:List Mk) (k:Nat) (w:World) (hO:MOwn w v g zs) (hk:k≤8000000) (hl:zs.length≤1048576) :
  Calls Tryz.prog 68 #[v,.int .i64 k] w fun e w'=>e = .returned (.int .i64 (k+5 * zs.length:Nat))∧MOwn w' v g (mmarks k zs.length)∧Stp (0 < zs.length) g w w':=by
 by_cases h0:0 < zs.length
 ·exact (markMarkS_any v g zs k w hO hk hl).mono fun e w' ⟨h1,h2,h3⟩=>⟨h1,h2,Stp.of_upd h0 h3⟩
 ·exact (markMarkS_any v (w.heap.size+1) zs k w (hO.nil h0) hk hl).mono fun e w' ⟨h1,h2,h3⟩=>⟨h1,h2.nil (by rw [mmarks_length];exact h0),Stp.of_new h3⟩
set_option maxHeartbeats 1000000 in
set_option maxRecDepth 100000 in
theorem markState_any (s:Stt) (vn vs vm:Value) (g1 g2 g3 k:Nat) (w:World) (h1:Own w vn g1 s.nodes) (h2:EOwn w vs g2 s.ses) (h3:MOwn w vm g3 s.marks) (hd12:0 < s.nodes.length→0 < s.ses.length→g1≠g2) (hd13:0 < s.nodes.length→0 < s.marks.length→g1≠g3) (hd23:0 < s.ses.length→0 < s.marks.length→g2≠g3) (hk:k≤100) (hn:s.nodes.length≤1048576) (he:s.ses.length≤1048576) (hm:s.marks.length≤1048576) :
  Calls Tryz.prog 19 #[sagg vn vs s.now vm,.int .i64 k] w fun e w'=>e = .returned (.int .i64 (k+5 * s.nodes.length+2 * s.ses.length+5 * s.marks.length:Nat))∧Own w' vn g1 (marks k s.nodes.length)∧EOwn w' vs g2 (emarks (k+5 * s.nodes.length) s.ses.length)∧MOwn w' vm g3 (mmarks (k+5 * s.nodes.length+2 * s.ses.length) s.marks.length) ∧
   ∃ wa wb wc,Ext w wa∧Stp (0 < s.nodes.length) g1 wa wb∧Stp (0 < s.ses.length) g2 wb wc∧Stp (0 < s.marks.length) g3 wc w':=by
 have hlt1:0 < s.nodes.length→g1 < w.heap.size:=h1.lt
 have hlt2:0 < s.ses.length→g2 < w.heap.size:=h2.lt
 have hlt3:0 < s.marks.length→g3 < w.heap.size:=fun h0=>by obtain⟨a,cap,-,-,-,h4⟩:=h3;obtain⟨off,-,hr,-⟩:=h4 h0;exact hr.1
 have HZ:Hid (∀ wx:World,Own wx vn g1 s.nodes→Calls Tryz.prog 66 #[vn,.int .i64 k] wx fun e w'=>e = .returned (.int .i64 (k+5 * s.nodes.length:Nat))∧Own w' vn g1 (marks k s.nodes.length)∧Stp (0 < s.nodes.length) g1 wx w'):=fun wx h=>markZ_stp vn g1 s.nodes k wx h hk hn
 have HE:Hid (∀ wx:World,EOwn wx vs g2 s.ses→Calls Tryz.prog 67 #[vs,.int .i64 (k+5 * s.nodes.length:Nat)] wx fun e w'=>e = .returned (.int .i64 (k+5 * s.nodes.length+2 * s.ses.length:Nat))∧EOwn w' vs g2 (emarks (k+5 * s.nodes.length) s.ses.length)∧Stp (0 < s.ses.length) g2 wx w'):=fun wx h=>markE_stp vs g2 s.ses _ wx h (by omega) he
 have HM:Hid (∀ wx:World,MOwn wx vm g3 s.marks→Calls Tryz.prog 68 #[vm,.int .i64 (k+5 * s.nodes.length+2 * s.ses.length:Nat)] wx fun e w'=>e = .returned (.int .i64 (k+5 * s.nodes.length+2 * s.ses.length+5 * s.marks.length:Nat))∧MOwn w' vm g3 (mmarks (k+5 * s.nodes.length+2 * s.ses.length) s.marks.length)∧Stp (0 < s.marks.length) g3 wx w'):=fun wx h=>markM_stp vm g3 s.marks _ wx h (by omega) hm
 have O1:Hid (Own w vn g1 s.nodes):=h1
 have O2:Hid (EOwn w vs g2 s.ses):=h2
 have O3:Hid (MOwn w vm g3 s.marks):=h3
 have HD:Hid ((0 < s.nodes.length→0 < s.ses.length→g1≠g2)∧(0 < s.nodes.length→0 < s.marks.length→g1≠g3)∧(0 < s.ses.length→0 < s.marks.length→g2≠g3)∧(0 < s.nodes.length→g1 < w.heap.size)∧(0 < s.ses.length→g2 < w.heap.size)∧(0 < s.marks.length→g3 < w.heap.size)):=⟨hd12,hd13,hd23,hlt1,hlt2,hlt3⟩
 obtain⟨an,cn,rfl,-⟩:=h1
 obtain⟨ae,ce,rfl,-⟩:=h2
 obtain⟨am,cm,rfl,-⟩:=h3
 clear hd12 hd13 hd23 hlt1 hlt2 hlt3
 generalize hk1:k+5 * s.nodes.length=k1 at *
 generalize hk2:k1+2 * s.ses.length=k2 at *
 generalize hk3:k2+5 * s.marks.length=k3 at *
 clear hk1 hk2 hk3
 unfold sagg
 go_enter Tryz.func19,Tryz.ntmps19
 go_wp2_with fail
 refine (HZ.out _ (O1.out.ext ((Ext.refl _).alloc _))).mono ?_
 rintro e w2 ⟨rfl,p1,s1⟩
 have S1:Hid (Stp (0 < s.nodes.length) g1 (w.alloc (.cells #[.slice an s.nodes.length cn,.slice ae s.ses.length ce,.int .i64 s.now,.slice am s.marks.length cm] 37)) w2):=s1
 have P1:Hid (Own w2 (.slice an s.nodes.length cn) g1 (marks k s.nodes.length)):=p1
 have P2:Hid (EOwn w2 (.slice ae s.ses.length ce) g2 s.ses):=(O2.out.ext ((Ext.refl _).alloc _)).stp s1 (fun a b=>(HD.out.1 b a).symm)
 have P3:Hid (MOwn w2 (.slice am s.marks.length cm) g3 s.marks):=(O3.out.ext ((Ext.refl _).alloc _)).stp s1 (fun a b=>(HD.out.2.1 b a).symm)
 have X2:Hid (SBoxAt w2 w.heap.size (.slice an s.nodes.length cn) (.slice ae s.ses.length ce) (.int .i64 s.now) (.slice am s.marks.length cm)):=(sbox_new w _ _ _ _ _).stp s1 (fun a=>by have:=HD.out.2.2.2.1 a;omega)
 obtain⟨q,⟨q0,q1,q2,q3⟩,-⟩:=X2.out
 clear s1 p1
 go_wp2_with fail
 refine (HE.out _ P2.out).mono ?_
 rintro e w3 ⟨rfl,p2,s2⟩
 have S2:Hid (Stp (0 < s.ses.length) g2 w2 w3):=s2
 have R1:Hid (Own w3 (.slice an s.nodes.length cn) g1 (marks k s.nodes.length)):=P1.out.stp s2 (fun a b=>HD.out.1 (by rw [marks_length] at a;exact a) b)
 have R2:Hid (EOwn w3 (.slice ae s.ses.length ce) g2 (emarks k1 s.ses.length)):=p2
 have R3:Hid (MOwn w3 (.slice am s.marks.length cm) g3 s.marks):=P3.out.stp s2 (fun a b=>(HD.out.2.2.1 b a).symm)
 have X3:Hid (SBoxAt w3 w.heap.size (.slice an s.nodes.length cn) (.slice ae s.ses.length ce) (.int .i64 s.now) (.slice am s.marks.length cm)):=X2.out.stp s2 (fun a=>by have:=HD.out.2.2.2.2.1 a;omega)
 clear s2 p2 q q0 q1 q2 q3 X2 P1 P2 P3
 obtain⟨q,⟨q0,q1,q2,q3⟩,-⟩:=X3.out
 go_wp2_with fail
 refine (HM.out _ R3.out).mono ?_
 rintro e w4 ⟨rfl,p3,s3⟩
 have S3:Hid (Stp (0 < s.marks.length) g3 w3 w4):=s3
 have T1:Hid (Own w4 (.slice an s.nodes.length cn) g1 (marks k s.nodes.length)):=R1.out.stp s3 (fun a b=>HD.out.2.1 (by rw [marks_length] at a;exact a) b)
 have T2:Hid (EOwn w4 (.slice ae s.ses.length ce) g2 (emarks k1 s.ses.length)):=R2.out.stp s3 (fun a b=>HD.out.2.2.1 (by rw [emarks_length] at a;exact a) b)
 have T3:Hid (MOwn w4 (.slice am s.marks.length cm) g3 (mmarks k2 s.marks.length)):=p3
 clear s3 p3 q q0 q1 q2 q3 X3 R1 R2 R3
 go_wp2
 go_ret
 exact⟨rfl,T1.out,T2.out,T3.out,_,_,_,(Ext.refl w).alloc _,S1.out,S2.out,S3.out⟩
end Go.Proofs.YtpdejinkmnhioaaGreatDoor
namespace Go.Proofs.YtpdejinkmnhioaaGreatDoor
open Go.RowKit
/-- The slice value v of world w' holds the texts ps. -/
def Txts (w' : World) (v:Value) (ps:List ByteArray):Prop :=
 ∃ g off cap,v = .slice (some ⟨g,off,none⟩) ps.length cap∧ps.length≤cap∧cap≤maxLen∧∀ j b,ps[j]?=some b→w'.cell? ⟨g,off+j,none⟩=some (.string b)
theorem txts_of_owns {w' : World} {base:Nat} {v:Value} {ps:List ByteArray} (h:w'.ownsRow base 9 1 v ps.length (ps.map Value.string)) (hne:ps≠[]):Txts w' v ps:=by
 rcases h.2 with ⟨_,h0⟩ | ⟨g,cap,cur,hv,hb,hh,hn,hm,_⟩
 ·exact absurd (List.eq_nil_of_length_eq_zero h0) hne
 ·refine⟨g,0,cap,hv,hn,hm,fun j b hj=>?_⟩
  have:=h.cells (g:=g) (by rw [hv];rfl) j (.string b) (by rw [List.getElem?_map,hj];rfl)
  rw [Addr.add_lit] at this
  simpa using this
set_option maxHeartbeats 2000000 in
set_option maxRecDepth 100000 in
theorem l1Cut_any (s:ByteArray) (w:World) (hs:s.size≤24) :
  Calls Tryz.prog 173 #[.string s,.int .u8 47] w fun e w'=>∃ v ps,e = .returned v∧Txts w' v ps∧ps.map (·.data.toList)=Pth.cut [] s.data.toList∧Ext w w':=by
 refine n59z ?_
 intro hi9 i0 hi hx
 simp only [Prod.mk.injEq] at hx
 obtain⟨hz0,hz1,hz2⟩:=hx
 clear hi9
 go_enter Tryz.func173,Tryz.ntmps173
 go_wp2
 go_loopw [5,6,7] (fun v fr i wr=>∃ (k f:Nat) (ps:List ByteArray),k≤s.size+1∧i = .int .i64 k∧fr = .int .i64 f∧Hid (wr.ownsRow w.heap.size 9 1 v ps.length (ps.map Value.string))∧CutAt s.data.toList ps f k∧Hid (Below w.heap.size w wr))
  (fun _ _ i _=>s.size+1 - (intOf i).toNat)
 case atStart =>
  refine⟨0,0,[],by omega,rfl,rfl,?_,cutAt_start _,(Below.refl _ _).alloc (Nat.le_refl _) _⟩
  exact World.ownsRow_made w #[] 0 (Nat.le_refl _) (by unfold maxLen;omega) rfl
 case round =>
  obtain⟨k,f,ps,hk,rfl,rfl,HO,hc,HB⟩:=hrel
  have hfk:f≤k:=hc.1
  have hpk:ps.length≤k:=hc.2.1
  by_cases h1:k≤s.size
  ·by_cases h2:k=s.size
   ·subst h2
    have hle:ps.length≤24:=by omega
    go_wp2_with (at_builtin;go_must (refine wpList_append_own _ rfl _ _ 222 rfl w.heap.size 9 i0 (.string ByteArray.empty) 1 16 Tryz.underlying222 hi hz0 hz1 hz2 rfl (by decide) _ _ _ rfl (HO.out.alloc _) ⟨wr.heap.size,0,none⟩ 1 1 [.string (s.extract f s.size)] rfl rfl (cell_one_new _ _ _) (fun x hx=>by simp at hx;subst hx;rfl) (by unfold maxLen;omega) (by omega) (by have:=HB.out.size;simp;omega) ?_;intro v' w3 hown' hgrow3 hnil3))
    refine⟨⟨s.size+1,s.size+1,ps ++ [s.extract f s.size],by omega,by go_num,by go_num,?_,cutAt_last s ps f hc,(HB.out.alloc HB.out.size _).grown hgrow3 (by have:=HB.out.size;simp;omega) (fun q hq=>(HO.out.lt q hq).1)⟩,by simp [intOf]⟩
    show w3.ownsRow _ _ _ _ _ _
    rw [List.map_append,List.length_append]
    exact hown'
   ·have h3:k < s.size:=by omega
    have e1:((k:Int) == (s.size:Int))=false:=by simp;omega
    by_cases h4:s[k]=47
    ·have hle:ps.length≤24:=by omega
     go_wp2_with (at_builtin;go_must (refine wpList_append_own _ rfl _ _ 222 rfl w.heap.size 9 i0 (.string ByteArray.empty) 1 16 Tryz.underlying222 hi hz0 hz1 hz2 rfl (by decide) _ _ _ rfl (HO.out.alloc _) ⟨wr.heap.size,0,none⟩ 1 1 [.string (s.extract f k)] rfl rfl (cell_one_new _ _ _) (fun x hx=>by simp at hx;subst hx;rfl) (by unfold maxLen;omega) (by omega) (by have:=HB.out.size;simp;omega) ?_;intro v' w3 hown' hgrow3 hnil3))
     refine⟨⟨k+1,k+1,ps ++ [s.extract f k],by omega,by go_num,by go_num,?_,cutAt_piece s ps f k h3 h4 hc,(HB.out.alloc HB.out.size _).grown hgrow3 (by have:=HB.out.size;simp;omega) (fun q hq=>(HO.out.lt q hq).1)⟩,by simp [intOf];omega⟩
     show w3.ownsRow _ _ _ _ _ _
     rw [List.map_append,List.length_append]
     exact hown'
    ·have e4:((s[k].toNat:Int) == 47)=false:=by
      rw [beq_eq_false_iff_ne];intro x;apply h4;apply UInt8.toNat_inj.1;show s[k].toNat=47;omega
     go_wp2
     exact⟨⟨k+1,f,ps,by omega,by go_num,rfl,HO,cutAt_on s ps f k h3 h4 hc,HB⟩,by simp [intOf];omega⟩
  ·have h2:k=s.size+1:=by omega
   subst h2
   have HE:Hid (ps.map (·.data.toList)=Pth.cut [] s.data.toList):=cutAt_end s ps f hc
   go_wp2
   go_ret
   refine⟨_,ps,rfl,txts_of_owns HO.out ?_,HE.out,HB.out⟩
   intro e
   have h3:=Pth.cut_length s.data.toList []
   rw [← HE.out,e] at h3
   simp at h3
section
variable {l:List UInt8} {ps:List ByteArray}
theorem names_short (hc:ps.map (·.data.toList)=Pth.cut [] l) (hne:l≠[47]) (h:ps.length < 2):Pth.namesS l=none:=by
 unfold Pth.namesS
 rw [if_neg hne,if_pos (Or.inl (by rw [← hc];simpa using h))]
theorem names_head (hc:ps.map (·.data.toList)=Pth.cut [] l) (hne:l≠[47]) (p:ByteArray) (h:ps[0]?=some p) (hp:p.data.toList≠[]):Pth.namesS l=none:=by
 unfold Pth.namesS
 rw [if_neg hne,if_pos (Or.inr ?_)]
 rw [← hc,List.head?_eq_getElem?,List.getElem?_map,h]
 simpa using hp
theorem tail_get (i:Nat) (b:ByteArray) (h:ps[i+1]?=some b):(ps.map (·.data.toList)).tail[i]?=some b.data.toList:=by
 rw [List.getElem?_tail,List.getElem?_map,h];rfl
theorem names_bad (hc:ps.map (·.data.toList)=Pth.cut [] l) (hne:l≠[47]) (i:Nat) (b:ByteArray) (hi:1≤i) (h:ps[i]?=some b) (hb:Pth.okName b.data.toList=false):Pth.namesS l=none:=by
 unfold Pth.namesS
 rw [if_neg hne]
 have:¬ (Pth.cut [] l).tail.all Pth.okName=true:=by
  rw [← hc]
  intro ha
  obtain⟨j,rfl⟩:∃ j,i=j+1:=⟨i - 1,by omega⟩
  have:=List.all_eq_true.1 ha _ (List.mem_of_getElem? (tail_get j b h))
  rw [hb] at this;cases this
 rw [if_neg this]
 split <;> rfl
theorem names_good (hc:ps.map (·.data.toList)=Pth.cut [] l) (hne:l≠[47]) (h2:2≤ps.length) (p:ByteArray) (h:ps[0]?=some p) (hp:p.data.toList = [])
  (ha:∀ j b,1≤j→j < ps.length→ps[j]?=some b→Pth.okName b.data.toList=true):∃ ns,Pth.namesS l=some ns∧ns.length=ps.length - 1:=by
 refine⟨(Pth.cut [] l).tail,?_,by rw [← hc];simp⟩
 unfold Pth.namesS
 rw [if_neg hne,if_neg,if_pos]
 ·rw [← hc,List.all_eq_true]
  intro x hx
  obtain⟨j,hj⟩:=List.getElem?_of_mem hx
  rw [List.getElem?_tail,List.getElem?_map] at hj
  cases hb:ps[j+1]? with
  | none=>rw [hb] at hj;cases hj
  | some b =>
   rw [hb] at hj
   simp only [Option.map_some,Option.some.injEq] at hj
   rw [← hj]
   exact ha (j+1) b (by omega) (List.getElem?_eq_some_iff.1 hb).1 hb
 ·rw [← hc]
  rintro (x | x)
  ·simp at x;omega
  ·rw [List.head?_eq_getElem?,List.getElem?_map,h] at x
   simp [hp] at x
end
def namesSaid (l:List UInt8) (w:World) (e:Ending) (w' : World):Prop :=
 ∃ v:Value,e = .returned (.tuple #[v,.bool (Pth.namesS l).isSome])∧(∀ ns,Pth.namesS l=some ns→∃ a cap,v = .slice (some a) ns.length cap)∧Ext w w'
theorem said_none {l:List UInt8} {w w' : World} {v:Value} (h:Pth.namesS l=none) (hb:Ext w w'):namesSaid l w (.returned (.tuple #[v,.bool false])) w' :=
 ⟨v,by rw [h];rfl,fun ns hn=>(by rw [h] at hn;cases hn),hb⟩
theorem said_some {l:List UInt8} {w w' : World} {a:Addr} {n cap:Nat} {ns:List (List UInt8)} (h:Pth.namesS l=some ns) (hl:ns.length=n) (hb:Ext w w'):namesSaid l w (.returned (.tuple #[.slice (some a) n cap,.bool true])) w' :=
 ⟨_,by rw [h];rfl,fun ns' hn=>(by rw [h] at hn;cases hn;exact⟨a,cap,by rw [hl]⟩),hb⟩
set_option maxHeartbeats 2000000 in
set_option maxRecDepth 100000 in
theorem l1Names_any (s:ByteArray) (w:World) (hs:s.size≤24) :
  Calls Tryz.prog 174 #[.string s] w (namesSaid s.data.toList w):=by
 by_cases h0:s.data.toList = [47]
 ·have e0:(s.toList == [47])=true:=by rw [Lib.toList_data,h0];rfl
  have H0:Hid (s.data.toList = [47]):=h0
  clear h0
  go_enter Tryz.func174,Tryz.ntmps174
  go_wp2
  go_ret2
  exact said_some (ns:=[]) (by rw [H0.out];rfl) rfl ((Ext.refl _).alloc _)
 ·have e0:(s.toList == [47])=false:=by rw [Lib.toList_data];simpa using h0
  go_enter Tryz.func174,Tryz.ntmps174
  go_wp2_with fail
  refine (l1Cut_any s _ hs).mono ?_
  rintro e w1 ⟨v,ps,rfl,⟨g,off,cap,rfl,hle,hm,hcell⟩,hc,hb⟩
  have HB:Hid (Ext w w1):=hb
  have HC:Hid (ps.map (·.data.toList)=Pth.cut [] s.data.toList):=hc
  have HL:Hid (∀ j b,ps[j]?=some b→w1.cell? ⟨g,off+j,none⟩=some (.string b)):=hcell
  clear hb hc hcell
  have hn:ps.length≤25:=by
   have e:=Pth.cut_length s.data.toList []
   rw [← HC.out] at e
   have:=List.count_le_length (a:=(47:UInt8)) (l:=s.data.toList)
   rw [len_eq] at this
   simp only [List.length_map] at e
   omega
  by_cases h1:ps.length < 2
  ·go_wp2
   go_ret2
   exact said_none (names_short HC.out h0 h1) HB.out
  ·obtain⟨p0,hp0⟩:∃ p0,ps[0]?=some p0:=⟨_,List.getElem?_eq_getElem (by omega)⟩
   have hc0:w1.cell? ⟨g,off,none⟩=some (.string p0):=HL.out 0 p0 hp0
   have HP:Hid (ps[0]?=some p0):=hp0
   clear hp0
   by_cases h2:p0.data.toList = []
   ·have e2:p0.toList.isEmpty=true:=by rw [Lib.toList_data,h2];rfl
    have H2:Hid (p0.data.toList = []):=h2
    clear h2
    go_wp2
    go_loop [5] (fun i=>∃ k:Nat,1≤k∧k≤ps.length∧i = .int .i64 k∧Hid (∀ j b,1≤j→j < k→ps[j]?=some b→Pth.okName b.data.toList=true)) (fun i=>ps.length - (intOf i).toNat)
    case atStart=>exact⟨1,by omega,by omega,rfl,fun j b x y=>by omega⟩
    case round =>
     obtain⟨k,hk1,hk,rfl,HA⟩:=hrel
     by_cases hlt:k < ps.length
     ·obtain⟨b,hb⟩:∃ b,ps[k]?=some b:=⟨_,List.getElem?_eq_getElem hlt⟩
      have hck:w1.cell? ⟨g,off+k,none⟩=some (.string b):=HL.out k b hb
      have hbs:b.size≤maxLen:=by
       have hm1:b.data.toList ∈ Pth.cut [] s.data.toList:=by
        rw [← HC.out];exact List.mem_map.2 ⟨b,List.mem_of_getElem? hb,rfl⟩
       have:=Pth.cut_mem_len _ _ _ hm1
       rw [len_eq,len_eq] at this
       simp at this
       unfold maxLen;omega
      have HK:Hid (ps[k]?=some b):=hb
      clear hb
      cases hok:Pth.okName b.data.toList
      ·go_wp2_with (go_at_call 179;refine (l1Name_any b _ hbs).mono ?_;rintro e w' ⟨rfl,rfl⟩)
       go_ret2
       exact said_none (names_bad HC.out h0 k b hk1 HK.out hok) HB.out
      ·have HA2:Hid (∀ j b,1≤j→j < k+1→ps[j]?=some b→Pth.okName b.data.toList=true):=by
        intro j b' hj1 hj2 hb'
        by_cases hjk:j=k
        ·subst hjk;rw [HK.out] at hb';cases hb';exact hok
        ·exact HA.out j b' hj1 (by omega) hb'
       go_wp2_with (go_at_call 179;refine (l1Name_any b _ hbs).mono ?_;rintro e w' ⟨rfl,rfl⟩)
       exact⟨⟨k+1,by omega,by omega,by go_num,HA2⟩,by simp [intOf];omega⟩
     ·have hke:k=ps.length:=by omega
      obtain⟨ns,hns,hnl⟩:=names_good HC.out h0 (by omega) p0 HP.out H2.out (by rw [← hke];exact HA.out)
      have HN:Hid (Pth.namesS s.data.toList=some ns):=hns
      have HNL:Hid (ns.length=ps.length - 1):=hnl
      clear hke hns hnl
      go_wp2
      go_ret2
      exact said_some HN.out HNL.out HB.out
   ·have e2:p0.toList.isEmpty=false:=by rw [Lib.toList_data];simpa using h2
    go_wp2
    go_ret2
    exact said_none (names_head HC.out h0 p0 HP.out h2) HB.out
set_option maxHeartbeats 1000000 in
theorem l1Fault_any (s:ByteArray) (w:World) :
  Calls Tryz.prog 110 #[.string s] w fun e w'=>e = .returned (.int .i64 (Pth.faultS s.data.toList))∧Ext w w':=by
 by_cases h1:24 < s.size
 ·have hf:Pth.faultS s.data.toList=2:=by
   unfold Pth.faultS Pth.manyS;rw [len_eq];simp [h1]
  rw [hf]
  go_enter Tryz.func110,Tryz.ntmps110
  go_wp2
  go_ret
  exact⟨rfl,Ext.refl _⟩
 ·by_cases h0:s.data.toList = [47]
  ·have e0:(s.toList == [47])=true:=by rw [Lib.toList_data,h0];rfl
   have hf:Pth.faultS s.data.toList=0:=by rw [h0];rfl
   have hn:Pth.namesS s.data.toList=some []:=by rw [h0];rfl
   have hz:s.size≤24:=by omega
   rw [hf]
   have HN:Hid (Pth.namesS s.data.toList=some []):=hn
   clear h0 hf hn
   go_enter Tryz.func110,Tryz.ntmps110
   go_wp2_with fail
   refine (l1Names_any s _ hz).mono ?_
   rintro e w1 ⟨v,rfl,_,hb⟩
   have HB:Hid (Ext w w1):=hb
   rw [HN.out]
   clear hb
   go_wp2
   go_ret
   exact⟨rfl,HB.out⟩
  ·have e0:(s.toList == [47])=false:=by rw [Lib.toList_data];simpa using h0
   have hz:s.size≤24:=by omega
   have HM:Hid (Pth.manyS s.data.toList=decide (5 < (Pth.cut [] s.data.toList).length)):=by
    show _=_
    unfold Pth.manyS
    rw [len_eq]
    have:decide (24 < s.size)=false:=by simpa using h1
    simp [this,h0]
   go_enter Tryz.func110,Tryz.ntmps110
   go_wp2_with fail
   refine (l1Cut_any s _ hz).mono ?_
   rintro e w1 ⟨v,ps,rfl,⟨g,off,cap,rfl,hle,hm,hcell⟩,hc,hb⟩
   have HB:Hid (Ext w w1):=hb
   have HC:Hid ((Pth.cut [] s.data.toList).length=ps.length):=by show _=_;rw [← hc];simp
   clear hb hc hcell
   by_cases h5:5 < ps.length
   ·have HF:Hid (Pth.faultS s.data.toList=2):=by
     show _=_;unfold Pth.faultS;rw [HM.out,HC.out];simp [h5]
    go_wp2
    go_ret
    exact⟨ret_int HF.out.symm,HB.out⟩
   ·have HF:Hid (Pth.faultS s.data.toList=if (Pth.namesS s.data.toList).isNone then 5 else 0):=by
     show _=_;unfold Pth.faultS;rw [HM.out,HC.out];simp [h5]
    go_wp2_with fail
    refine (l1Names_any s _ hz).mono ?_
    rintro e w2 ⟨v,rfl,_,hb⟩
    have HB2:Hid (Ext w1 w2):=hb
    clear hb
    cases hn:Pth.namesS s.data.toList with
    | none =>
     have HF2:Hid (Pth.faultS s.data.toList=5):=by show _=_;rw [HF.out,hn];rfl
     clear hn
     rw [Option.isSome_none]
     go_wp2
     go_ret
     exact⟨ret_int HF2.out.symm,HB.out.trans HB2.out⟩
    | some ns =>
     have HF2:Hid (Pth.faultS s.data.toList=0):=by show _=_;rw [HF.out,hn];rfl
     clear hn
     rw [Option.isSome_some]
     go_wp2
     go_ret
     exact⟨ret_int HF2.out.symm,HB.out.trans HB2.out⟩
end Go.Proofs.YtpdejinkmnhioaaGreatDoor
namespace Go.Proofs.YtpdejinkmnhioaaGreatDoor
open Go.RowKit
theorem last_on (s:ByteArray) (k a:Nat) (h:k < s.size):Pth.lastSl (s.data.toList.drop k) k a=Pth.lastSl (s.data.toList.drop (k+1)) (k+1) (if s[k]=47 then k else a):=by
 rw [drop_at s k h,Pth.lastSl]
 split <;> rfl
set_option maxHeartbeats 1000000 in
theorem l1Last_any (s:ByteArray) (w:World) (hs:s.size≤24) :
  Calls Tryz.prog 178 #[.string s] w fun e w'=>e = .returned (.int .i64 (Pth.lastSl s.data.toList 0 0:Nat))∧w'=w:=by
 go_enter Tryz.func178,Tryz.ntmps178
 go_wp2
 go_loop [3,4] (fun at_ i=>∃ k a:Nat,k≤s.size∧i = .int .i64 k∧at_ = .int .i64 a∧Hid (Pth.lastSl (s.data.toList.drop k) k a=Pth.lastSl s.data.toList 0 0)) (fun _ i=>s.size - (intOf i).toNat)
 case atStart=>exact⟨0,0,Nat.zero_le _,rfl,rfl,rfl⟩
 case round =>
  obtain⟨k,a,hk,rfl,rfl,HA⟩:=hrel
  by_cases hlt:k < s.size
  ·have hon:=last_on s k a hlt
   by_cases h47:s[k]=47
   ·have HB:Hid (Pth.lastSl (s.data.toList.drop (k+1)) (k+1) k=Pth.lastSl s.data.toList 0 0):=by
     show _=_;rw [← HA.out,hon,if_pos h47]
    clear hon
    go_wp2
    exact⟨⟨k+1,k,by omega,by go_num,rfl,HB⟩,by simp [intOf];omega⟩
   ·have HB:Hid (Pth.lastSl (s.data.toList.drop (k+1)) (k+1) a=Pth.lastSl s.data.toList 0 0):=by
     show _=_;rw [← HA.out,hon,if_neg h47]
    have e4:((s[k].toNat:Int) == 47)=false:=by
     rw [beq_eq_false_iff_ne];intro x;apply h47;apply UInt8.toNat_inj.1;show s[k].toNat=47;omega
    clear hon
    go_wp2
    exact⟨⟨k+1,a,by omega,by go_num,rfl,HB⟩,by simp [intOf];omega⟩
  ·have HB:Hid (a=Pth.lastSl s.data.toList 0 0):=by
    show _=_;rw [← HA.out,List.drop_of_length_le (by rw [len_eq];omega)];rfl
   go_wp2
   go_ret
   exact⟨ret_int (by rw [← HB.out]),rfl⟩
theorem lastSl_le (l:List UInt8):Pth.lastSl l 0 0≤l.length:=by
 rcases Pth.lastSl_lt l 0 0 with h | h <;> omega
set_option maxHeartbeats 1000000 in
theorem l1Parent_any (s:ByteArray) (w:World) (hs:s.size≤24) :
  Calls Tryz.prog 172 #[.string s] w fun e w'=>e = .returned (.string (mkB (if Pth.lastSl s.data.toList 0 0=0 then [47] else s.data.toList.take (Pth.lastSl s.data.toList 0 0))))∧w'=w:=by
 have hle:=lastSl_le s.data.toList
 rw [len_eq] at hle
 have hx:s.extract 0 (Pth.lastSl s.data.toList 0 0)=mkB (s.data.toList.take (Pth.lastSl s.data.toList 0 0)):=eq_mkB (by rw [extract_list];simp)
 have hl:=l1Last_any s
 generalize Pth.lastSl s.data.toList 0 0=a at *
 have HX:Hid (s.extract 0 a=mkB (s.data.toList.take a)):=hx
 clear hx
 have HL:Hid (∀ w:World,s.size≤24→Calls Tryz.prog 178 #[.string s] w fun e w'=>e = .returned (.int .i64 (a:Nat))∧w'=w):=hl
 clear hl
 by_cases h:a=0
 ·subst h
  go_enter Tryz.func172,Tryz.ntmps172
  go_wp2_with (go_at_call 178;refine (HL.out _ hs).mono ?_;rintro e w' ⟨rfl,rfl⟩)
  go_ret
  exact⟨rfl,rfl⟩
 ·have e1:((a:Int) == 0)=false:=by simp;omega
  rw [if_neg h]
  go_enter Tryz.func172,Tryz.ntmps172
  go_wp2_with (go_at_call 178;refine (HL.out _ hs).mono ?_;rintro e w' ⟨rfl,rfl⟩)
  go_ret
  refine⟨?_,rfl⟩
  rw [← HX.out]
  rfl
end Go.Proofs.YtpdejinkmnhioaaGreatDoor
namespace Go.Proofs.YtpdejinkmnhioaaGreatDoor
open Go.RowKit
theorem l1FaultI_any (s:ByteArray) (w:World) :
  Calls Tryz.prog 110 #[.string s] w fun e w'=>e = .returned (.int .i64 (Pth.faultI s.data.toList))∧Ext w w':=by
 rw [Pth.fault_eq];exact l1Fault_any s w
theorem few_of_ok {s:ByteArray} (h:Pth.faultI s.data.toList=0):s.size≤24:=by
 rcases Pth.fault_cases s.data.toList with ⟨_,h2⟩ | ⟨_,_,h2⟩ | ⟨hm,_⟩
 ·rw [h] at h2;cases h2
 ·rw [h] at h2;cases h2
 ·exact m56z
theorem lastSl_le2 (s:ByteArray) (h:Pth.faultI s.data.toList=0) (h0:(s.toList == [47])=false):Pth.lastSl s.data.toList 0 0+1≤s.size:=by
 rcases Pth.fault_cases s.data.toList with ⟨_,h2⟩ | ⟨_,_,h2⟩ | ⟨hm,_,n,la,hr⟩
 ·rw [h] at h2;cases h2
 ·rw [h] at h2;cases h2
 ·rcases Pth.rd_top _ _ _ hr with ⟨h1,_⟩ | ⟨_,_,_,h4,_,h5⟩
  ·rw [Lib.toList_data,h1] at h0;cases h0
  ·rw [h4,len_eq] at h5;exact h5
end Go.Proofs.YtpdejinkmnhioaaGreatDoor
namespace Go.Proofs.YtpdejinkmnhioaaGreatDoor
open Go.RowKit
namespace Tre
def isAt (p:ByteArray) (z:Zn):Bool:=z.path.toList == p.toList
/-- The place of the first node of path p, or -1. -/
def atI (zs:List Zn) (p:ByteArray):Int:=match zs.findIdx? (isAt p) with | some i=>i | none=>-1
theorem atI_hit {zs:List Zn} {p:ByteArray} {k:Nat} {z:Zn} (hz:zs[k]?=some z) (h:isAt p z=true) (ha:∀ (j:Nat) y,j < k→zs[j]?=some y→isAt p y=false):atI zs p=k:=by
 have:zs.findIdx? (isAt p)=some k:=by
  rw [List.findIdx?_eq_some_iff_getElem]
  obtain⟨hk,he⟩:=List.getElem?_eq_some_iff.1 hz
  refine⟨hk,by rw [he];exact h,fun j hj=>?_⟩
  rw [ha j _ hj (List.getElem?_eq_getElem _)];decide
 unfold atI;rw [this]
theorem atI_miss {zs:List Zn} {p:ByteArray} (ha:∀ (j:Nat) y,zs[j]?=some y→isAt p y=false):atI zs p = -1:=by
 have:zs.findIdx? (isAt p)=none:=by
  rw [List.findIdx?_eq_none_iff]
  intro x hx
  obtain⟨j,hj⟩:=List.getElem?_of_mem hx
  exact ha j x hj
 unfold atI;rw [this]
theorem atI_range (zs:List Zn) (p:ByteArray):(atI zs p = -1∧∀ y ∈ zs,isAt p y=false)∨∃ (k:Nat) (z:Zn),atI zs p=k∧k < zs.length∧zs[k]?=some z∧isAt p z=true:=by
 unfold atI
 cases h:zs.findIdx? (isAt p) with
 | none=>left;exact⟨rfl,by rw [List.findIdx?_eq_none_iff] at h;exact h⟩
 | some k =>
  right
  rw [List.findIdx?_eq_some_iff_getElem] at h
  obtain⟨hk,h1,_⟩:=h
  exact⟨k,zs[k],rfl,hk,List.getElem?_eq_getElem hk,h1⟩
/-- The first of f 0 .. f (n-1) that is not 0, or 0. -/
def first (f:Nat→Int):Nat→Int
 | 0=>0
 | n+1=>if first f n≠0 then first f n else f n
theorem first_none {f:Nat→Int} {n:Nat} (h:∀ j,j < n→f j=0):first f n=0:=by
 induction n with
 | zero=>rfl
 | succ n ih=>rw [first,ih (fun j hj=>h j (by omega)),if_neg (by simp),h n (by omega)]
theorem first_hit {f:Nat→Int} {n k:Nat} (hk:k < n) (h:∀ j,j < k→f j=0) (h0:f k≠0):first f n=f k:=by
 induction n with
 | zero=>omega
 | succ n ih =>
  by_cases hkn:k=n
  ·subst hkn;rw [first,first_none h,if_neg (by simp)]
  ·have:=ih (by omega)
   rw [first,this,if_pos h0]
theorem first_zero {f:Nat→Int} {n:Nat} (h:first f n=0):∀ j,j < n→f j=0:=by
 induction n with
 | zero=>intro j hj;omega
 | succ n ih =>
  rw [first] at h
  split at h
  ·rename_i h1;exact absurd h h1
  ·rename_i h1
   intro j hj
   by_cases hjn:j=n
   ·subst hjn;exact h
   ·exact ih (by simpa using h1) j (by omega)
end Tre
set_option maxHeartbeats 1000000 in
set_option maxRecDepth 100000 in
theorem l2At_any (v:Value) (zs:List Zn) (p:ByteArray) (w:World) (hS:NSlice w v zs) :
  Calls Tryz.prog 118 #[v,.string p] w fun e w'=>e = .returned (.int .i64 (Tre.atI zs p))∧w'=w:=by
 obtain⟨a,cap,rfl,hlc,hcm,hx⟩:=hS
 refine n26z ?_
 intro HX
 clear hx
 unfold maxLen at hcm
 go_enter Tryz.func118,Tryz.ntmps118
 go_wp2
 go_loopw [5] (fun i wr=>∃ (k:Nat),k≤zs.length∧i = .int .i64 k∧Hid (∀ (j:Nat) y,j < k→zs[j]?=some y→Tre.isAt p y=false)∧wr=w) (fun i _=>zs.length - (intOf i).toNat)
 case atStart=>exact⟨0,Nat.zero_le _,rfl,fun j y h=>by omega,rfl⟩
 case round =>
  obtain⟨k,hk,rfl,HA,rfl⟩:=hrel
  by_cases hlt:k < zs.length
  ·obtain⟨z,hzk⟩:∃ z,zs[k]?=some z:=⟨_,List.getElem?_eq_getElem hlt⟩
   obtain⟨b,off,rfl,hb,hN⟩:=HX.out (by omega)
   obtain⟨d0,d1,d2,d3,d4⟩:=hN k z hzk
   have HZ:Hid (zs[k]?=some z):=hzk
   clear hzk hN
   by_cases he:(z.path.toList == p.toList)=true
   ·go_wp2
    go_ret
    exact⟨ret_int (Tre.atI_hit HZ.out he HA.out).symm,rfl⟩
   ·have he' : (z.path.toList == p.toList)=false:=by simpa using he
    clear he
    have HA2:Hid (∀ (j:Nat) y,j < k+1→zs[j]?=some y→Tre.isAt p y=false):=by
     intro j y hj hy
     by_cases hjk:j=k
     ·subst hjk;rw [HZ.out] at hy;cases hy;exact he'
     ·exact HA.out j y (by omega) hy
    go_wp2
    exact⟨⟨k+1,by omega,by go_num,HA2,trivial⟩,by simp [intOf];omega⟩
  ·have HM:Hid (Tre.atI zs p = -1):=Tre.atI_miss (fun j y hy=>HA.out j y (by have:=(List.getElem?_eq_some_iff.1 hy).1;omega) hy)
   go_wp2
   go_ret
   exact⟨ret_int HM.out.symm,rfl⟩
set_option maxHeartbeats 1000000 in
theorem l2Data_any (d:Int) (w:World):Calls Tryz.prog 111 #[.int .i64 d] w fun e w'=>e = .returned (.bool (decide (0≤d) && decide (d≤9999)))∧w'=w:=by
 go_enter Tryz.func111,Tryz.ntmps111
 go_wp2_with fail
 refine (l1In_any _ _ _ _).mono ?_
 rintro e w2 ⟨rfl,rfl⟩
 go_wp2
 go_ret
 exact⟨rfl,rfl⟩
set_option maxHeartbeats 1000000 in
theorem l2Owner_any (d:Int) (w:World):Calls Tryz.prog 171 #[.int .i64 d] w fun e w'=>e = .returned (.bool (decide (0≤d) && decide (d≤9)))∧w'=w:=by
 go_enter Tryz.func171,Tryz.ntmps171
 go_wp2_with fail
 refine (l1In_any _ _ _ _).mono ?_
 rintro e w2 ⟨rfl,rfl⟩
 go_wp2
 go_ret
 exact⟨rfl,rfl⟩
end Go.Proofs.YtpdejinkmnhioaaGreatDoor
