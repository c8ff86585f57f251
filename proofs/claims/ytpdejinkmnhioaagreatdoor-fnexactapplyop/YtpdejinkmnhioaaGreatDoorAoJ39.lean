/- YB3, YB4e, YB1, YB4cbo, in one text. -/
import Derived.Test.YtpdejinkmnhioaaGreatDoorAoJ24
import Derived.Test.YtpdejinkmnhioaaGreatDoorAoJ25
import Derived.Test.YtpdejinkmnhioaaGreatDoorAoJ38
import Derived.Test.YtpdejinkmnhioaaGreatDoorAoJ21
import Derived.Test.YtpdejinkmnhioaaGreatDoorAoJ33
import Derived.Deep.RegionHeld3
import Derived.Test.YtpdejinkmnhioaaGreatDoorAoJ15
import Derived.Test.YtpdejinkmnhioaaGreatDoorAoJ18
import Derived.Test.YtpdejinkmnhioaaGreatDoorAoT9
import Derived.Test.YtpdejinkmnhioaaGreatDoorAoMk
namespace Go.Proofs.YtpdejinkmnhioaaGreatDoor
open Go.RowKit Go.Maps
set_option linter.unusedSimpArgs false in
set_option maxHeartbeats 1000000 in
set_option maxRecDepth 100000 in
theorem l6Close_any (s:Stt) (vn vs vm:Value) (c:Int) (w:World) (hS:SSlice w vn vs vm s) (hl:s.ses.length≤1000) (hn:s.nodes.length≤1000) :
  Calls Tryz.prog 114 #[sagg vn vs s.now vm,.int .i64 c] w fun e w'=>∃ un us g1 g2,e = .returned (sagg un us s.now vm)∧(w.heap.size≤g1∧w.heap.size≤g2)∧(0 < (Sta.notId c s.ses).length→g2 < g1)∧Own w' un g1 (dropL [c] s.nodes)∧EOwn w' us g2 (Sta.notId c s.ses)∧Ext w w':=by
 refine n43z ?_
 intro hi9
 obtain⟨si,hsi,hxx⟩:=Option.map_eq_some_iff.1 hi9
 simp only [Prod.mk.injEq] at hxx
 obtain⟨hy0,hy1,hy2⟩:=hxx
 clear hi9
 have HDr:Hid (∀ wx u,Ext w wx→ISlice wx u [c]→Calls Tryz.prog 176 #[vn,u] wx fun e w'=>∃ v' g,e = .returned v'∧wx.heap.size≤g∧Own w' v' g (dropL [c] s.nodes)∧Ext wx w'):=fun wx u he hI=>l4Drop_any vn u s.nodes [c] wx (hS.1.ext he) hI hn
 obtain⟨⟨an,cn,rfl⟩,⟨am,cm,rfl⟩⟩:=And.intro (NSlice.vis hS.1) (MSlice.vis hS.2.2)
 obtain⟨-,⟨a,cap,rfl,hlc,hcm,hx⟩,-⟩:=hS
 have HX:Hid (0 < s.ses.length→∃ b off,a=some ⟨b,off,none⟩∧b < w.heap.size∧SesAt w b off s.ses):=hx
 clear hx
 unfold maxLen at hcm
 have X0:Hid (∀ t1 t2 t3,SBoxAt (((w.alloc (.cells #[.slice an s.nodes.length cn,.slice a s.ses.length cap,.int .i64 s.now,.slice am s.marks.length cm] t1)).alloc (.cells #[.slice none 0 0,.slice none 0 0,.int .i64 0,.slice none 0 0] t2)).alloc (.cells #[] t3)) w.heap.size (.slice an s.nodes.length cn) (.slice a s.ses.length cap) (.int .i64 s.now) (.slice am s.marks.length cm)):=fun t1 t2 t3=>(sbox_new w _ _ _ _ t1).ext (((Ext.refl _).alloc _).alloc _)
 have R0:Hid (∀ t1 t2 t3,SBoxAt (((w.alloc (.cells #[.slice an s.nodes.length cn,.slice a s.ses.length cap,.int .i64 s.now,.slice am s.marks.length cm] t1)).alloc (.cells #[.slice none 0 0,.slice none 0 0,.int .i64 0,.slice none 0 0] t2)).alloc (.cells #[] t3)) (w.heap.size+1) (.slice none 0 0) (.slice none 0 0) (.int .i64 0) (.slice none 0 0)):=fun t1 t2 t3=>by
  have h:=(sbox_new (w.alloc (.cells #[.slice an s.nodes.length cn,.slice a s.ses.length cap,.int .i64 s.now,.slice am s.marks.length cm] t1)) (.slice none 0 0) (.slice none 0 0) (.int .i64 0) (.slice none 0 0) t2).ext ((Ext.refl _).alloc (.cells #[] t3))
  simp only [World.size_alloc] at h
  exact h
 have M0:Hid (∀ t1 t2,(((w.alloc (.cells #[.slice an s.nodes.length cn,.slice a s.ses.length cap,.int .i64 s.now,.slice am s.marks.length cm] t1)).alloc (.cells #[.slice none 0 0,.slice none 0 0,.int .i64 0,.slice none 0 0] t2)).alloc (.cells #[] 134)).ownsRow (w.heap.size+2) 134 2 (.slice (some ⟨w.heap.size+1+1,0,none⟩) 0 0) 0 []):=fun t1 t2=>by
  have h:=World.ownsRow_made (base:=w.heap.size+2) (e:=134) (size:=2) ((w.alloc (.cells #[.slice an s.nodes.length cn,.slice a s.ses.length cap,.int .i64 s.now,.slice am s.marks.length cm] t1)).alloc (.cells #[.slice none 0 0,.slice none 0 0,.int .i64 0,.slice none 0 0] t2)) #[] 0 (by simp) (by unfold maxLen;omega) rfl
  simpa using h
 unfold sagg
 go_enter Tryz.func114,Tryz.ntmps114
 go_wp2
 go_loopw [5,6] (fun ov i wr=>∃ (k:Nat),k≤s.ses.length∧i = .int .i64 k∧Hid (wr.ownsRow (w.heap.size+2) 134 2 ov (Sta.notId c (s.ses.take k)).length (cellsE (Sta.notId c (s.ses.take k))))∧Hid (SBoxAt wr w.heap.size (.slice an s.nodes.length cn) (.slice a s.ses.length cap) (.int .i64 s.now) (.slice am s.marks.length cm))∧Hid (SBoxAt wr (w.heap.size+1) (.slice none 0 0) (.slice none 0 0) (.int .i64 0) (.slice none 0 0))∧Hid (Ext w wr)) (fun _ i _=>s.ses.length - (intOf i).toNat)
 case atStart=>exact⟨0,Nat.zero_le _,rfl,M0.out _ _,X0.out _ _ _,R0.out _ _ _,(((Ext.refl _).alloc _).alloc _).alloc _⟩
 case round =>
  clear X0 R0 M0
  obtain⟨k,hk,rfl,HL,HB,HR,HE⟩:=hrel
  obtain⟨q0,⟨b0,b1,b2,b3⟩,l0,l1,l2,l3⟩:=HB.out
  by_cases hlt:k < s.ses.length
  ·obtain⟨z,hzk⟩:∃ z,s.ses[k]?=some z:=⟨_,List.getElem?_eq_getElem hlt⟩
   obtain⟨bb,off,rfl,hb,hN⟩:=HX.out (by omega)
   obtain⟨d0,d1⟩:=hN.ext hb HE.out k z hzk
   have hbw:=HE.out.size
   have htk:=notId_take (ids:=c) hzk
   by_cases q:z.id=c
   ·have HL2:Hid (Sta.notId c (s.ses.take (k+1))=Sta.notId c (s.ses.take k)):=by show _=_;rw [htk,if_pos (by unfold goneE;simp [q]),List.append_nil]
    have HL3:Hid (wr.ownsRow (w.heap.size+2) 134 2 u5 (Sta.notId c (s.ses.take (k+1))).length (cellsE (Sta.notId c (s.ses.take (k+1))))):=by show World.ownsRow _ _ _ _ _ _ _;rw [HL2.out];exact HL.out
    clear hN hzk htk
    go_wp2
    exact⟨⟨k+1,by omega,by go_num,HL3,HB,HR,HE⟩,by simp [intOf];omega⟩
   ·have HL2:Hid (Sta.notId c (s.ses.take (k+1))=Sta.notId c (s.ses.take k) ++ [z]):=by show _=_;rw [htk,if_neg (by unfold goneE;simp [q])]
    have hll:(Sta.notId c (s.ses.take k)).length≤1000:=by
     have h1:=notId_len c (s.ses.take k)
     rw [List.length_take] at h1
     omega
    clear hN hzk htk
    generalize Sta.notId c (s.ses.take k)=ls at *
    go_wp2_with (at_builtin;go_must (refine wpList_append_own_at _ rfl _ _ 34 rfl (w.heap.size+2) 134 si (.agg #[.int .i64 0,.int .i64 0]) 2 16 Tryz.underlying34 hsi hy0 hy1 hy2 rfl (by decide) u5 _ _ rfl (HL.out.alloc _) ⟨wr.heap.size,0,none⟩ 1 1 (cellsE [z]) rfl rfl (cells_lit _ _ _) (cellsE_one _) (by unfold maxLen;omega) (by omega) (by simp;omega) ?_;intro v6 w6 hown6 hgrow6 hnil6 hloc6))
    have hR1:=HR.out.1
    have HL6:Hid (w6.ownsRow (w.heap.size+2) 134 2 v6 (Sta.notId c (s.ses.take (k+1))).length (cellsE (Sta.notId c (s.ses.take (k+1))))):=by show World.ownsRow _ _ _ _ _ _ _;rw [HL2.out,List.length_append,cellsE_app];exact hown6
    have HBe:Hid (Below (w.heap.size+2) wr w6):=((Below.refl _ _).alloc (by omega) _).grown hgrow6 (by simp;omega) (fun q hq=>(HL.out.lt q hq).1)
    have HE6:Hid (Ext w w6):=Below.trans HE.out (Below.mono HBe.out (by omega))
    have hbl:=fun (p:Addr) (h:p.block < w.heap.size+2)=>And.intro (HBe.out.cell (p:=p) h) (HBe.out.frozen (p:=p) h)
    have HB6:Hid (SBoxAt w6 w.heap.size (.slice an s.nodes.length cn) (.slice (some ⟨bb,off,none⟩) s.ses.length cap) (.int .i64 s.now) (.slice am s.marks.length cm)) :=
     ⟨Nat.lt_of_lt_of_le HB.out.1 HBe.out.size,⟨(hbl ⟨_,0,none⟩ (by show w.heap.size < _;omega)).1.trans HB.out.2.1.1,(hbl ⟨_,1,none⟩ (by show w.heap.size < _;omega)).1.trans HB.out.2.1.2.1,(hbl ⟨_,2,none⟩ (by show w.heap.size < _;omega)).1.trans HB.out.2.1.2.2.1,(hbl ⟨_,3,none⟩ (by show w.heap.size < _;omega)).1.trans HB.out.2.1.2.2.2⟩,(hbl ⟨_,0,none⟩ (by show w.heap.size < _;omega)).2.trans HB.out.2.2.1,(hbl ⟨_,1,none⟩ (by show w.heap.size < _;omega)).2.trans HB.out.2.2.2.1,(hbl ⟨_,2,none⟩ (by show w.heap.size < _;omega)).2.trans HB.out.2.2.2.2.1,(hbl ⟨_,3,none⟩ (by show w.heap.size < _;omega)).2.trans HB.out.2.2.2.2.2⟩
    have HR6:Hid (SBoxAt w6 (w.heap.size+1) (.slice none 0 0) (.slice none 0 0) (.int .i64 0) (.slice none 0 0)) :=
     ⟨Nat.lt_of_lt_of_le HR.out.1 HBe.out.size,⟨(hbl ⟨_,0,none⟩ (by show w.heap.size+1 < _;omega)).1.trans HR.out.2.1.1,(hbl ⟨_,1,none⟩ (by show w.heap.size+1 < _;omega)).1.trans HR.out.2.1.2.1,(hbl ⟨_,2,none⟩ (by show w.heap.size+1 < _;omega)).1.trans HR.out.2.1.2.2.1,(hbl ⟨_,3,none⟩ (by show w.heap.size+1 < _;omega)).1.trans HR.out.2.1.2.2.2⟩,(hbl ⟨_,0,none⟩ (by show w.heap.size+1 < _;omega)).2.trans HR.out.2.2.1,(hbl ⟨_,1,none⟩ (by show w.heap.size+1 < _;omega)).2.trans HR.out.2.2.2.1,(hbl ⟨_,2,none⟩ (by show w.heap.size+1 < _;omega)).2.trans HR.out.2.2.2.2.1,(hbl ⟨_,3,none⟩ (by show w.heap.size+1 < _;omega)).2.trans HR.out.2.2.2.2.2⟩
    clear hown6 hgrow6 hnil6 hloc6 hbl
    go_wp2
    exact⟨⟨k+1,by omega,by go_num,HL6,HB6,HR6,HE6⟩,by simp [intOf];omega⟩
  ·have hke:k=s.ses.length:=by omega
   subst hke
   obtain⟨g2,a2,c2,hg2,rfl,hO2⟩:=eown3 (rs:=Sta.notId c s.ses) HL.out (by rw [List.take_length]) (by rw [List.take_length])
   have O2:Hid (EOwn wr (.slice a2 (Sta.notId c s.ses).length c2) g2 (Sta.notId c s.ses)):=hO2
   have hge:=HE.out.size
   have hR1:=HR.out.1
   clear hO2 HL
   have hI:ISlice ((wr.setCell ⟨w.heap.size,1,none⟩ (.slice a2 (Sta.notId c s.ses).length c2)).alloc (.cells #[.int .i64 c] 2)) (.slice (some ⟨wr.heap.size,0,none⟩) 1 1) [c]:=by
    have h:=islice1 (wr.setCell ⟨w.heap.size,1,none⟩ (.slice a2 (Sta.notId c s.ses).length c2)) c 2
    rw [show (wr.setCell ⟨w.heap.size,1,none⟩ (.slice a2 (Sta.notId c s.ses).length c2)).heap.size=wr.heap.size from by simp] at h
    exact h
   have HCa:Hid (Calls Tryz.prog 176 #[.slice an s.nodes.length cn,.slice (some ⟨wr.heap.size,0,none⟩) 1 1] ((wr.setCell ⟨w.heap.size,1,none⟩ (.slice a2 (Sta.notId c s.ses).length c2)).alloc (.cells #[.int .i64 c] 2)) fun e w'=>∃ v' g,e = .returned v'∧wr.heap.size+1≤g∧Own w' v' g (dropL [c] s.nodes)∧Ext ((wr.setCell ⟨w.heap.size,1,none⟩ (.slice a2 (Sta.notId c s.ses).length c2)).alloc (.cells #[.int .i64 c] 2)) w'):=by
    have h:=HDr.out _ _ ((HE.out.setCell (p:=⟨w.heap.size,1,none⟩) (Nat.le_refl _) (.slice a2 (Sta.notId c s.ses).length c2)).alloc (.cells #[.int .i64 c] 2)) hI
    rw [show ((wr.setCell ⟨w.heap.size,1,none⟩ (.slice a2 (Sta.notId c s.ses).length c2)).alloc (.cells #[.int .i64 c] 2)).heap.size=wr.heap.size+1 from by simp] at h
    exact h
   clear hI
   go_wp2_with fail
   refine HCa.out.mono ?_
   rintro e w5 ⟨v5,g5,rfl,hg5,hO5,hb5⟩
   obtain⟨a5,c5,rfl⟩:=hO5.vis
   have hg5' : wr.heap.size+1≤g5:=hg5
   have B5:Hid (SBoxAt w5 w.heap.size (.slice an s.nodes.length cn) (.slice a2 (Sta.notId c s.ses).length c2) (.int .i64 s.now) (.slice am s.marks.length cm)):=((HB.out.set1 _).ext ((Ext.refl _).alloc _)).ext hb5
   have R5:Hid (SBoxAt w5 (w.heap.size+1) (.slice none 0 0) (.slice none 0 0) (.int .i64 0) (.slice none 0 0)):=((HR.out.other _ (by omega)).ext ((Ext.refl _).alloc _)).ext hb5
   have O25:Hid (EOwn w5 (.slice a2 (Sta.notId c s.ses).length c2) g2 (Sta.notId c s.ses)):=((O2.out.updS ((Upd.refl w.heap.size wr).setAt 1 _) (fun _=>by omega)).ext ((Ext.refl _).alloc _)).ext hb5
   have O5:Hid (Own w5 (.slice a5 (dropL [c] s.nodes).length c5) g5 (dropL [c] s.nodes)):=hO5
   have E5:Hid (Ext w w5):=((HE.out.setCell (p:=⟨w.heap.size,1,none⟩) (Nat.le_refl _) _).alloc _).trans hb5
   have G2:Hid (0 < (Sta.notId c s.ses).length→g2 < wr.heap.size):=O2.out.ltS
   clear hO5 hb5 hg5 O2 HB HR HE q0 b0 b1 b2 b3 l0 l1 l2 l3
   obtain⟨q0,⟨b0,b1,b2,b3⟩,l0,l1,l2,l3⟩:=B5.out
   obtain⟨p0,⟨r0,r1,r2,r3⟩,m0,m1,m2,m3⟩:=R5.out
   go_wp2
   have hU:Upd w.heap.size w5 (w5.setCell ⟨w.heap.size,0,none⟩ (.slice a5 (dropL [c] s.nodes).length c5)):=(Upd.refl _ _).setAt 0 _
   exact bodyPost_ret (v:=sagg (.slice a5 (dropL [c] s.nodes).length c5) (.slice a2 (Sta.notId c s.ses).length c2) s.now (.slice am s.marks.length cm)) (by simp [results,Tryz.results114,go_sem,sagg, *]) rfl
    ⟨_,_,g5,g2,rfl,⟨by omega,by omega⟩,fun h0=>by have:=G2.out h0;omega,
     (O5.out.updS hU (fun _=>by omega)).updS ((((Upd.refl (w.heap.size+1) _).setAt 0 _).setAt 1 _).setAt 2 _ |>.setAt 3 _) (fun _=>by omega),
     (O25.out.updS hU (fun _=>by omega)).updS ((((Upd.refl (w.heap.size+1) _).setAt 0 _).setAt 1 _).setAt 2 _ |>.setAt 3 _) (fun _=>by omega),
     ((((E5.out.setCell (p:=⟨w.heap.size,0,none⟩) (Nat.le_refl _) _).setCell (p:=⟨w.heap.size+1,0,none⟩) (by show _≤w.heap.size+1;omega) _).setCell (p:=⟨w.heap.size+1,1,none⟩) (by show _≤w.heap.size+1;omega) _).setCell (p:=⟨w.heap.size+1,2,none⟩) (by show _≤w.heap.size+1;omega) _).setCell (p:=⟨w.heap.size+1,3,none⟩) (by show _≤w.heap.size+1;omega) _⟩
end Go.Proofs.YtpdejinkmnhioaaGreatDoor
namespace Go.Proofs.YtpdejinkmnhioaaGreatDoor
open Go.RowKit
set_option linter.unusedSimpArgs false in
set_option maxHeartbeats 500000 in
set_option maxRecDepth 100000 in
theorem l6Do_close (b:Nat) (s:Stt) (an ae am:Option Addr) (cn ce cm:Nat) (c:Int) (z:Opn) (w:World) (hS:SSlice w (.slice an s.nodes.length cn) (.slice ae s.ses.length ce) (.slice am s.marks.length cm) s) (hO:OBoxAt w b z) (hkk:z.kind=2) (hl:Ses.live s.ses c s.now=true) (hsl:s.ses.length≤1000) (hnl:s.nodes.length≤1000) :
  Calls Tryz.prog 52 #[sagg (.slice an s.nodes.length cn) (.slice ae s.ses.length ce) s.now (.slice am s.marks.length cm),.int .i64 c,.pointer (some ⟨b,0,none⟩)] w fun e w'=>∃ a5 c5 a6 c6 g1 g2,e = .returned (.tuple #[sagg (.slice a5 (dropL [c] s.nodes).length c5) (.slice a6 (Sta.notId c s.ses).length c6) s.now (.slice am s.marks.length cm),yagg 0 0 ⟨#[]⟩])∧(w.heap.size≤g1∧w.heap.size≤g2)∧(0 < (Sta.notId c s.ses).length→g2 < g1)∧Own w' (.slice a5 (dropL [c] s.nodes).length c5) g1 (dropL [c] s.nodes)∧EOwn w' (.slice a6 (Sta.notId c s.ses).length c6) g2 (Sta.notId c s.ses)∧Ext w w':=by
 refine n8z ?_
 intro HL
 clear hl
 have HCa:Hid (∀ wx,Ext w wx→Calls Tryz.prog 114 #[sagg (.slice an s.nodes.length cn) (.slice ae s.ses.length ce) s.now (.slice am s.marks.length cm),.int .i64 c] wx fun e w'=>∃ un us g1 g2,e = .returned (sagg un us s.now (.slice am s.marks.length cm))∧(wx.heap.size≤g1∧wx.heap.size≤g2)∧(0 < (Sta.notId c s.ses).length→g2 < g1)∧Own w' un g1 (dropL [c] s.nodes)∧EOwn w' us g2 (Sta.notId c s.ses)∧Ext wx w'):=fun wx he=>l6Close_any s _ _ _ c wx (hS.ext he) hsl hnl
 clear hsl hnl
 unfold sagg at HCa
 refine n1z ?_
 intro X0 R0 Y0 HO ob o0 o1 o2 o3 o4 o5
 clear hS hO
 unfold sagg
 go_enter Tryz.func52,Tryz.ntmps52
 refine n3z ?_
 intro hxl x0 x1 x2 x3 xf0 xf1 xf2 xf3 hrl r0 r1 r2 r3 rf0 rf1 rf2 rf3 hyl y0 y1 y2 yf0 yf1 yf2 k0 k1 k2 k3 k4 k5 hE0
 go_wp2_with fail
 refine (HL.out _ hE0.out).mono ?_
 rintro e w2 ⟨rfl,hw⟩
 rw [hw]
 clear hw w2
 generalize hw1:World.alloc (World.alloc (World.alloc w _) _) _=w1
 refine n10z ?_
 intro E1 X1 R1 Y1
 clear hw1 hE0 X0 R0 Y0 HL hxl x0 x1 x2 x3 xf0 xf1 xf2 xf3 hrl r0 r1 r2 r3 rf0 rf1 rf2 rf3 hyl y0 y1 y2 yf0 yf1 yf2 k0 k1 k2 k3 k4 k5 o0 o1 o2 o3 o4 o5
 refine n49z ?_
 intro hxl x0 x1 x2 x3 k0 k1 k2 k3 k4 k5
 rw [hkk] at k0
 go_wp2_with fail
 refine (HCa.out _ E1.out).mono ?_
 rintro e w5 ⟨un,us,g1,g2,rfl,⟨hg1,hg2⟩,hgg,hO1,hO2,hb5⟩
 obtain⟨a5,c5,rfl⟩:=hO1.vis
 obtain⟨a6,c6,rfl⟩:=hO2.vis
 have E5:Hid (Ext w w5):=E1.out.trans hb5
 have O1:Hid (Own w5 (.slice a5 (dropL [c] s.nodes).length c5) g1 (dropL [c] s.nodes)):=hO1
 have O2:Hid (EOwn w5 (.slice a6 (Sta.notId c s.ses).length c6) g2 (Sta.notId c s.ses)):=hO2
 have HGG:Hid (0 < (Sta.notId c s.ses).length→g2 < g1):=hgg
 have R5:Hid (SBoxAt w5 (w.heap.size+1) (.slice none 0 0) (.slice none 0 0) (.int .i64 0) (.slice none 0 0)):=R1.out.ext hb5
 have Y5:Hid (RyAt w5 (w.heap.size+2) (.int .i64 0) (.int .i64 0) (.string ByteArray.empty)):=Y1.out.ext hb5
 have hr9:=Y1.out.1
 clear hb5 hO1 hO2 hgg R1 Y1 X1 HCa hxl x0 x1 x2 x3 k0 k1 k2 k3 k4 k5
 obtain⟨hrl,⟨r0,r1,r2,r3⟩,rf0,rf1,rf2,rf3⟩:=R5.out
 obtain⟨hyl,⟨y0,y1,y2⟩,yf0,yf1,yf2⟩:=Y5.out
 have HE9:=E5
 go_wp2
 exact bodyPost_ret (v:=.tuple #[sagg (.slice a5 (dropL [c] s.nodes).length c5) (.slice a6 (Sta.notId c s.ses).length c6) s.now (.slice am s.marks.length cm),yagg 0 0 ⟨#[]⟩]) (by simp [results,Tryz.results52,go_sem,sagg,yagg, *]) rfl ⟨a5,c5,a6,c6,g1,g2,rfl,⟨by omega,by omega⟩,HGG.out,by repeat (first | refine Own.updS ?_ ((Upd.refl _ _).setAt _ _) (fun _=>by omega) | exact O1.out),by repeat (first | refine EOwn.updS ?_ ((Upd.refl _ _).setAt _ _) (fun _=>by omega) | exact O2.out),by repeat (first | (with_reducible refine Ext.setCell ?_ ?_ _;rotate_left;(show w.heap.size≤_;(try simp only [World.size_alloc]);omega)) | with_reducible refine Ext.alloc ?_ _ | with_reducible refine Ext.drew ?_ | with_reducible exact HE9.out | with_reducible exact Ext.refl _)⟩
end Go.Proofs.YtpdejinkmnhioaaGreatDoor
namespace Go.Proofs.YtpdejinkmnhioaaGreatDoor
open Go.RowKit
set_option linter.unusedSimpArgs false in
set_option maxHeartbeats 1000000 in
set_option maxRecDepth 100000 in
theorem l6Tree_bad (an ae am av:Option Addr) (n1 c1 n2 c2 n3 c3 n4 c4:Nat) (now rc val:Int) (rp:ByteArray) (w:World) (hrc:¬ rc=0) :
  Calls Tryz.prog 115 #[sagg (.slice an n1 c1) (.slice ae n2 c2) now (.slice am n3 c3),zr rc rp (.slice av n4 c4),.int .i64 val] w fun e w'=>e = .returned (.tuple #[sagg (.slice an n1 c1) (.slice ae n2 c2) now (.slice am n3 c3),yagg rc 0 ⟨#[]⟩])∧Ext w w':=by
 unfold sagg zr
 go_enter Tryz.func115,Tryz.ntmps115
 go_wp2
 go_region
 all_goals
  go_wp2
  exact bodyPost_ret (v:=.tuple #[sagg (.slice an n1 c1) (.slice ae n2 c2) now (.slice am n3 c3),yagg rc 0 ⟨#[]⟩]) (by simp [results,Tryz.results115,go_sem,sagg,yagg]) rfl ⟨rfl,by repeat (first | exact Ext.refl _ | refine Ext.drew ?_ | refine Ext.alloc ?_ _ | refine Ext.setCell ?_ (by show w.heap.size≤_;(try simp only [World.size_alloc]);omega) _)⟩
set_option linter.unusedSimpArgs false in
set_option maxHeartbeats 1000000 in
set_option maxRecDepth 100000 in
theorem l6Tree_ok (an ae am av:Option Addr) (n1 c1 n2 c2 n3 c3 n4 c4:Nat) (now val:Int) (rp:ByteArray) (w:World) :
  Calls Tryz.prog 115 #[sagg (.slice an n1 c1) (.slice ae n2 c2) now (.slice am n3 c3),zr 0 rp (.slice av n4 c4),.int .i64 val] w fun e w'=>e = .returned (.tuple #[sagg (.slice av n4 c4) (.slice ae n2 c2) now (.slice am n3 c3),yagg 0 val rp])∧Ext w w':=by
 unfold sagg zr
 go_enter Tryz.func115,Tryz.ntmps115
 go_wp2
 go_region
 all_goals
  go_wp2
  exact bodyPost_ret (v:=.tuple #[sagg (.slice av n4 c4) (.slice ae n2 c2) now (.slice am n3 c3),yagg 0 val rp]) (by simp [results,Tryz.results115,go_sem,sagg,yagg]) rfl ⟨rfl,by repeat (first | exact Ext.refl _ | refine Ext.drew ?_ | refine Ext.alloc ?_ _ | refine Ext.setCell ?_ (by show w.heap.size≤_;(try simp only [World.size_alloc]);omega) _)⟩
end Go.Proofs.YtpdejinkmnhioaaGreatDoor
namespace Go.Proofs.YtpdejinkmnhioaaGreatDoor
open Go.RowKit
set_option linter.unusedSimpArgs false in
set_option maxHeartbeats 500000 in
set_option maxRecDepth 100000 in
theorem l6Do_create_bad_own (b:Nat) (s:Stt) (an ae am:Option Addr) (cn ce cm:Nat) (c:Int) (z:Opn) (w:World) (hS:SSlice w (.slice an s.nodes.length cn) (.slice ae s.ses.length ce) (.slice am s.marks.length cm) s) (hO:OBoxAt w b z) (rc:Int) (rp:ByteArray) (rs:List Zn) (hkk:z.kind=3) (hl:Ses.live s.ses c s.now=true) (hrc:¬ rc=0) (hp:Pth.faultI z.path.data.toList=0) (hpos:0 < s.nodes.length) (hnl:s.nodes.length≤1000) (hnx:∀ z ∈ s.nodes,0≤z.next) (hT:Tre.createT s.nodes z.path z.data (c) z.seq=(rc,rp,rs)) (how:z.own=true) :
  Calls Tryz.prog 52 #[sagg (.slice an s.nodes.length cn) (.slice ae s.ses.length ce) s.now (.slice am s.marks.length cm),.int .i64 c,.pointer (some ⟨b,0,none⟩)] w fun e w'=>e = .returned (.tuple #[sagg (.slice an s.nodes.length cn) (.slice ae s.ses.length ce) s.now (.slice am s.marks.length cm),yagg rc 0 ⟨#[]⟩])∧Ext w w':=by
 refine n8z ?_
 intro HL
 clear hl
 have HCa:Hid (∀ wx,Ext w wx→Calls Tryz.prog 116 #[.slice an s.nodes.length cn,.string z.path,.int .i64 z.data,.int .i64 (c),.bool z.seq] wx (ZRet wx rc rp rs)):=fun wx he=>by
  exact m61z
 exact m3z
end Go.Proofs.YtpdejinkmnhioaaGreatDoor
