/- YA11, YB7, E11, O7, in one text. -/
import Derived.Test.YtpdejinkmnhioaaGreatDoorAoJ36
import Derived.Test.YtpdejinkmnhioaaGreatDoorAoYB6
import Derived.Test.YtpdejinkmnhioaaGreatDoorAoJ22
import Derived.Test.YtpdejinkmnhioaaGreatDoorAoJ18
import Derived.Test.YtpdejinkmnhioaaGreatDoorAoJ38
import Derived.Test.YtpdejinkmnhioaaGreatDoorAoMk
namespace Go.Proofs.YtpdejinkmnhioaaGreatDoor
open Go.RowKit
theorem aret_bad {w w' : World} (c:Int) (he:Ext w w'):ARet w (c,Sta.bad 0,Sta.none) (.returned (rsagg c 0 0 ⟨#[]⟩ (.slice none 0 0) (.slice none 0 0) 0 (.slice none 0 0))) w' :=
 ⟨_,_,_,rfl,SHas.empty _ _,he⟩
theorem Ext.put8 {w w' : World} (h:Ext w w') (R:Nat) (hR:w.heap.size≤R) (a b c d e f g i:Value):Ext w ((((((((w'.setCell ⟨R,0,none⟩ a).setCell ⟨R,1,none⟩ b).setCell ⟨R,2,none⟩ c).setCell ⟨R,3,none⟩ d).setCell ⟨R,4,none⟩ e).setCell ⟨R,5,none⟩ f).setCell ⟨R,6,none⟩ g).setCell ⟨R,7,none⟩ i) :=
 (((((((h.setCell (p:=⟨R,0,none⟩) hR _).setCell (p:=⟨R,1,none⟩) hR _).setCell (p:=⟨R,2,none⟩) hR _).setCell (p:=⟨R,3,none⟩) hR _).setCell (p:=⟨R,4,none⟩) hR _).setCell (p:=⟨R,5,none⟩) hR _).setCell (p:=⟨R,6,none⟩) hR _).setCell (p:=⟨R,7,none⟩) hR _
theorem Upd.put8 {w w' : World} {R:Nat} (h:Upd R w w') (a b c d e f g i:Value):Upd R w ((((((((w'.setCell ⟨R,0,none⟩ a).setCell ⟨R,1,none⟩ b).setCell ⟨R,2,none⟩ c).setCell ⟨R,3,none⟩ d).setCell ⟨R,4,none⟩ e).setCell ⟨R,5,none⟩ f).setCell ⟨R,6,none⟩ g).setCell ⟨R,7,none⟩ i) :=
 (((((((h.setAt 0 _).setAt 1 _).setAt 2 _).setAt 3 _).setAt 4 _).setAt 5 _).setAt 6 _).setAt 7 _
theorem rz_put {w:World} {R:Nat} (h:RZ w R) (a b c d e f g i:Value) :
  (((((((((w.setCell ⟨R,0,none⟩ a).setCell ⟨R,1,none⟩ b).setCell ⟨R,2,none⟩ c).setCell ⟨R,3,none⟩ d).setCell ⟨R,4,none⟩ e).setCell ⟨R,5,none⟩ f).setCell ⟨R,6,none⟩ g).setCell ⟨R,7,none⟩ i)).heap.size=w.heap.size ∧
  (∀ o v,([a,b,c,d,e,f,g,i]:List Value)[o]?=some v→(((((((((w.setCell ⟨R,0,none⟩ a).setCell ⟨R,1,none⟩ b).setCell ⟨R,2,none⟩ c).setCell ⟨R,3,none⟩ d).setCell ⟨R,4,none⟩ e).setCell ⟨R,5,none⟩ f).setCell ⟨R,6,none⟩ g).setCell ⟨R,7,none⟩ i)).cell? ⟨R,o,none⟩=some v):=by
 obtain⟨⟨-,c0,c1,c2,c3,c4,c5,c6,c7⟩,-⟩:=h
 refine⟨by simp,fun o v ho=>?_⟩
 match o,ho with
 | 0,ho=>simp at ho;subst ho;rw [iset_ne _ _ _ _ _ _ (by omega)];rw [iset_ne _ _ _ _ _ _ (by omega)];rw [iset_ne _ _ _ _ _ _ (by omega)];rw [iset_ne _ _ _ _ _ _ (by omega)];rw [iset_ne _ _ _ _ _ _ (by omega)];rw [iset_ne _ _ _ _ _ _ (by omega)];rw [iset_ne _ _ _ _ _ _ (by omega)];apply iset_eq;exact⟨_,c0⟩
 | 1,ho=>simp at ho;subst ho;rw [iset_ne _ _ _ _ _ _ (by omega)];rw [iset_ne _ _ _ _ _ _ (by omega)];rw [iset_ne _ _ _ _ _ _ (by omega)];rw [iset_ne _ _ _ _ _ _ (by omega)];rw [iset_ne _ _ _ _ _ _ (by omega)];rw [iset_ne _ _ _ _ _ _ (by omega)];apply iset_eq;rw [iset_ne _ _ _ _ _ _ (by omega)];exact⟨_,c1⟩
 | 2,ho=>simp at ho;subst ho;rw [iset_ne _ _ _ _ _ _ (by omega)];rw [iset_ne _ _ _ _ _ _ (by omega)];rw [iset_ne _ _ _ _ _ _ (by omega)];rw [iset_ne _ _ _ _ _ _ (by omega)];rw [iset_ne _ _ _ _ _ _ (by omega)];apply iset_eq;rw [iset_ne _ _ _ _ _ _ (by omega)];rw [iset_ne _ _ _ _ _ _ (by omega)];exact⟨_,c2⟩
 | 3,ho=>simp at ho;subst ho;rw [iset_ne _ _ _ _ _ _ (by omega)];rw [iset_ne _ _ _ _ _ _ (by omega)];rw [iset_ne _ _ _ _ _ _ (by omega)];rw [iset_ne _ _ _ _ _ _ (by omega)];apply iset_eq;rw [iset_ne _ _ _ _ _ _ (by omega)];rw [iset_ne _ _ _ _ _ _ (by omega)];rw [iset_ne _ _ _ _ _ _ (by omega)];exact⟨_,c3⟩
 | 4,ho=>simp at ho;subst ho;rw [iset_ne _ _ _ _ _ _ (by omega)];rw [iset_ne _ _ _ _ _ _ (by omega)];rw [iset_ne _ _ _ _ _ _ (by omega)];apply iset_eq;rw [iset_ne _ _ _ _ _ _ (by omega)];rw [iset_ne _ _ _ _ _ _ (by omega)];rw [iset_ne _ _ _ _ _ _ (by omega)];rw [iset_ne _ _ _ _ _ _ (by omega)];exact⟨_,c4⟩
 | 5,ho=>simp at ho;subst ho;rw [iset_ne _ _ _ _ _ _ (by omega)];rw [iset_ne _ _ _ _ _ _ (by omega)];apply iset_eq;rw [iset_ne _ _ _ _ _ _ (by omega)];rw [iset_ne _ _ _ _ _ _ (by omega)];rw [iset_ne _ _ _ _ _ _ (by omega)];rw [iset_ne _ _ _ _ _ _ (by omega)];rw [iset_ne _ _ _ _ _ _ (by omega)];exact⟨_,c5⟩
 | 6,ho=>simp at ho;subst ho;rw [iset_ne _ _ _ _ _ _ (by omega)];apply iset_eq;rw [iset_ne _ _ _ _ _ _ (by omega)];rw [iset_ne _ _ _ _ _ _ (by omega)];rw [iset_ne _ _ _ _ _ _ (by omega)];rw [iset_ne _ _ _ _ _ _ (by omega)];rw [iset_ne _ _ _ _ _ _ (by omega)];rw [iset_ne _ _ _ _ _ _ (by omega)];exact⟨_,c6⟩
 | 7,ho=>simp at ho;subst ho;apply iset_eq;rw [iset_ne _ _ _ _ _ _ (by omega)];rw [iset_ne _ _ _ _ _ _ (by omega)];rw [iset_ne _ _ _ _ _ _ (by omega)];rw [iset_ne _ _ _ _ _ _ (by omega)];rw [iset_ne _ _ _ _ _ _ (by omega)];rw [iset_ne _ _ _ _ _ _ (by omega)];rw [iset_ne _ _ _ _ _ _ (by omega)];exact⟨_,c7⟩
 | o+8,ho=>simp at ho
set_option linter.unusedSimpArgs false in
set_option maxHeartbeats 1000000 in
set_option maxRecDepth 100000 in
theorem implApplyOp_any (s:Stt) (vn vs vm:Value) (c:Int) (z:Opn) (w:World) (hg:Gd w) (hz:s.fits) (hS:SSlice w vn vs vm s) :
  Calls Tryz.prog 16 #[sagg vn vs s.now vm,.int .i64 c,oagg z] w (ARet w (Sta.applyV s c z)):=by
 have HSf:Hid (∀ wx,Ext w wx→Calls Tryz.prog 37 #[sagg vn vs s.now vm] wx fun e w'=>e = .returned (.int .i64 (Sta.fault s))∧Ext wx w'):=fun wx he=>implStateFault_any s vn vs vm wx (hg.ext he) hz (hS.ext he)
 have HW:Hid (∀ wx,Calls Tryz.prog 57 #[.int .i64 c,.int .i64 1,.int .i64 9] wx fun e w'=>e = .returned (.bool (decide (1≤c) && decide (c≤9)))∧w'=wx):=fun wx=>within_any c 1 9 wx
 have HOf:Hid (∀ wx,Ext w wx→Calls Tryz.prog 58 #[oagg z] wx fun e w'=>e = .returned (.int .i64 (Opr.fault z))∧Ext wx w'):=fun wx he=>implOpFault_any z wx (hg.ext he)
 have HCp:Hid (Sta.fault s=0→∀ wx,Ext w wx→Calls Tryz.prog 59 #[sagg vn vs s.now vm] wx fun e w'=>∃ un us um,e = .returned (sagg un us s.now um)∧SHas (wx.heap.size+2) (fun b=>w'.heap.size≤b) w' un us um s∧Ext wx w'):=fun h wx he=>copyState_any s vn vs vm wx (hS.ext he) (Sta.small_of h).1 (Sta.small_of h).2
 have HG:Hid (Gd w):=hg
 obtain⟨⟨an,cn,rfl⟩,⟨ae,ce,rfl⟩,⟨am,cm,rfl⟩⟩:=And.intro (NSlice.vis hS.1) (And.intro (ESlice.vis hS.2.1) (MSlice.vis hS.2.2))
 refine n20z ?_
 intro X0 O0 R0
 clear hS hg hz
 unfold sagg oagg at *
 go_enter Tryz.func16,Tryz.ntmps16
 go_wp2_with fail
 refine (HSf.out _ ((((Ext.refl _).alloc _).alloc _).alloc _)).mono ?_
 refine n56z ?_
 intro w1 hb E1 X1 O1 R1
 clear hb X0 O0 R0 HSf
 by_cases hf:Sta.fault s=0
 rotate_left
 ·have HV:Hid (Sta.applyV s c z=(Sta.fault s,Sta.bad 0,Sta.none)):=Sta.applyV_f hf
  generalize Sta.fault s=F at *
  obtain⟨⟨q0,r0,r1,r2,r3,r4,r5,r6,r7⟩,rf⟩:=R1.out
  have f0:=rf 0 (by decide)
  have f1:=rf 1 (by decide)
  have f2:=rf 2 (by decide)
  have f3:=rf 3 (by decide)
  have f4:=rf 4 (by decide)
  have f5:=rf 5 (by decide)
  have f6:=rf 6 (by decide)
  have f7:=rf 7 (by decide)
  clear rf
  go_wp2
  exact bodyPost_ret (v:=rsagg F 0 0 ⟨#[]⟩ (.slice none 0 0) (.slice none 0 0) 0 (.slice none 0 0)) (by simp [results,Tryz.results16,go_sem,rsagg,r0,r1,r2,r3,r4,r5,r6,r7]) rfl (by rw [HV.out];exact aret_bad F (E1.out.put8 (w.heap.size+2) (by omega) _ _ _ _ _ _ _ _))
 have HF0:Hid (Sta.fault s=0):=hf
 rw [hf]
 clear hf
 go_wp2_with fail
 refine (HW.out _).mono ?_
 rintro e w2 ⟨rfl,hw2⟩
 rw [hw2]
 clear hw2 w2
 cases hcw:(decide (1≤c) && decide (c≤9)) with
 | false =>
  have HV:Hid (Sta.applyV s c z=(3,Sta.bad 0,Sta.none)):=Sta.applyV_c HF0.out hcw
  clear hcw HW HOf HCp
  obtain⟨⟨q0,r0,r1,r2,r3,r4,r5,r6,r7⟩,rf⟩:=R1.out
  have f0:=rf 0 (by decide)
  have f1:=rf 1 (by decide)
  have f2:=rf 2 (by decide)
  have f3:=rf 3 (by decide)
  have f4:=rf 4 (by decide)
  have f5:=rf 5 (by decide)
  have f6:=rf 6 (by decide)
  have f7:=rf 7 (by decide)
  clear rf
  go_wp2
  exact bodyPost_ret (v:=rsagg 3 0 0 ⟨#[]⟩ (.slice none 0 0) (.slice none 0 0) 0 (.slice none 0 0)) (by simp [results,Tryz.results16,go_sem,rsagg,r0,r1,r2,r3,r4,r5,r6,r7]) rfl (by rw [HV.out];exact aret_bad 3 (E1.out.put8 (w.heap.size+2) (by omega) _ _ _ _ _ _ _ _))
 | true =>
  have HCW:Hid ((decide (1≤c) && decide (c≤9))=true):=hcw
  clear hcw HW
  obtain⟨oq,o0,o1,o2,o3,o4,o5⟩:=O1.out
  go_wp2_with fail
  refine (HOf.out _ E1.out).mono ?_
  rintro e w3 ⟨rfl,hb⟩
  have E3:Hid (Ext w w3):=E1.out.trans hb
  have X3:Hid (SBoxAt w3 w.heap.size (.slice an s.nodes.length cn) (.slice ae s.ses.length ce) (.int .i64 s.now) (.slice am s.marks.length cm)):=X1.out.ext hb
  have O3:Hid (OBoxAt w3 (w.heap.size+1) z):=O1.out.ext hb
  have R3:Hid (RZ w3 (w.heap.size+2)):=R1.out.ext hb
  clear hb X1 O1 R1 E1 HOf oq o0 o1 o2 o3 o4 o5
  by_cases hzf:Opr.fault z=0
  rotate_left
  ·have HV:Hid (Sta.applyV s c z=(Opr.fault z,Sta.bad 0,Sta.none)):=Sta.applyV_z HF0.out HCW.out hzf
   generalize Opr.fault z=F at *
   obtain⟨⟨q0,r0,r1,r2,r3,r4,r5,r6,r7⟩,rf⟩:=R3.out
   have f0:=rf 0 (by decide)
   have f1:=rf 1 (by decide)
   have f2:=rf 2 (by decide)
   have f3:=rf 3 (by decide)
   have f4:=rf 4 (by decide)
   have f5:=rf 5 (by decide)
   have f6:=rf 6 (by decide)
   have f7:=rf 7 (by decide)
   clear rf
   go_wp2
   exact bodyPost_ret (v:=rsagg F 0 0 ⟨#[]⟩ (.slice none 0 0) (.slice none 0 0) 0 (.slice none 0 0)) (by simp [results,Tryz.results16,go_sem,rsagg,r0,r1,r2,r3,r4,r5,r6,r7]) rfl (by rw [HV.out];exact aret_bad F (E3.out.put8 (w.heap.size+2) (by omega) _ _ _ _ _ _ _ _))
  ·have HZF:Hid (Opr.fault z=0):=hzf
   have hc19:1≤c∧c≤9:=by have:=HCW.out;simpa using this
   have HV:Hid (Sta.applyV s c z=(0,(Sta.doT s c z).1,(Sta.doT s c z).2)):=Sta.applyV_ok HF0.out HCW.out hzf
   rw [hzf]
   clear hzf
   have HqC:=Sta.doT_code s c z
   have HCp2:Hid _:=HCp.out HF0.out
   clear HCp
   have HSt:Hid (∀ (n B:Nat) (wx:World),Ext w wx→n≤wx.heap.size→Calls Tryz.prog 61 #[.int .i64 c,.agg #[.int .i64 z.kind,.string z.path,.int .i64 z.data,.int .i64 z.version,.bool z.seq,.bool z.own]] wx (Maker True n B wx s (Sta.doT s c z))):=fun n B wx he hn=>stepOf_any n B s c z wx HZF.out hc19 (Sta.right_of HF0.out) (HG.out.ext he) hn
   generalize Sta.doT s c z=q at *
   have HQS:Hid (¬ q.1.code=0→q.2=s):=fun h=>by rw [HqC h]
   clear HqC
   obtain⟨q0,⟨b0,b1,b2,b3⟩,-,-,-,-⟩:=X3.out
   go_wp2_with fail
   refine (HCp2.out _ E3.out).mono ?_
   rintro e w5 ⟨un,us,um,rfl,hH5,hb⟩
   obtain⟨⟨n1,m1,rfl⟩,⟨n2,m2,rfl⟩,⟨n3,m3,rfl⟩⟩:=And.intro (NSlice.vis hH5.slice.1) (And.intro (ESlice.vis hH5.slice.2.1) (MSlice.vis hH5.slice.2.2))
   have hs3:=E3.out.size
   have hs5:=hb.size
   have hR3:=R3.out.1.1
   have hs35:w3.heap.size+2 < w5.heap.size:=by
    obtain⟨g1,g2,g3,⟨a1,-,-⟩,-,-,h1,-,-⟩:=id hH5
    have:=h1.ltS (Sta.small_of HF0.out).2
    omega
   have E5:Hid (Ext w w5):=E3.out.trans hb
   have O5:Hid (OBoxAt w5 (w.heap.size+1) z):=O3.out.ext hb
   have R5:Hid (RZ w5 (w.heap.size+2)):=R3.out.ext hb
   have A6:Hid (∀ t,StAt (w3.heap.size+2) w5.heap.size (fun b=>(b=w5.heap.size∨b < w3.heap.size+2)) (w5.alloc (.cells #[.slice n1 s.nodes.length m1,.slice n2 s.ses.length m2,.int .i64 s.now,.slice n3 s.marks.length m3] t)) s):=fun t =>
    ⟨_,_,_,sbox_new w5 _ _ _ _ t,(((hH5.turn (K':=fun b=>b=w5.heap.size) (fun b hb h=>by omega)).ext ((Ext.refl _).alloc _)).below).turn fun b _ h=>h⟩
   clear hb X3 O3 R3 hH5 HCp2 q0 b0 b1 b2 b3
   obtain⟨oq,o0,o1,o2,o3,o4,o5⟩:=O5.out
   have hal:=alloc_cell
   go_wp2_with fail
   refine (HSt.out (w3.heap.size+2) w5.heap.size _ (E5.out.trans ((Ext.refl _).alloc _)) (by have hsz:=E5.out.size;simp only [World.size_alloc];omega)).mono ?_
   rintro e w7 ⟨F,caps,rfl,hF,hD,hE⟩
   have A7:Hid (StAt (w3.heap.size+2) w5.heap.size (fun b=>(b=w5.heap.size∨b < w3.heap.size+2)) w7 s):=(A6.out _).ext hE
   have E7:Hid (Ext w w7):=(E5.out.trans ((Ext.refl _).alloc _)).trans hE
   have R7:Hid (RZ w7 (w.heap.size+2)):=(R5.out.ext ((Ext.refl _).alloc _)).ext hE
   have HD7:Hid (Does (w3.heap.size+2) w5.heap.size F caps w7 s q):=hD trivial
   have HWh:Hid (Calls Tryz.prog 60 #[.pointer (some ⟨w5.heap.size,0,none⟩),.func (.func F) #[] caps] w7 (Whole (w3.heap.size+2) w5.heap.size (fun b=>(b=w5.heap.size∨b < w3.heap.size+2)) w7 q)):=doWhole_any _ _ _ s q F caps w7 A7.out (Or.inl rfl) hF HD7.out HQS.out
   have hs7:=A7.out.lt
   clear hE hD hF A6 O5 R5 HSt oq o0 o1 o2 o3 o4 o5 A7 HD7 HQS
   go_wp2_with fail
   refine HWh.out.mono ?_
   rintro e w8 ⟨rfl,hU,hst,-⟩
   have hsz5:=E5.out.size
   have E8:Hid (Ext w w8):=hU.to_ext E7.out (by omega)
   have R8:Hid (RZ w8 (w.heap.size+2)):=R7.out.upd hU (by omega)
   obtain⟨yn,ys,ym,hy,hh⟩:=hst
   obtain⟨⟨n1',m1',rfl⟩,⟨n2',m2',rfl⟩,⟨n3',m3',rfl⟩⟩:=And.intro (NSlice.vis hh.slice.1) (And.intro (ESlice.vis hh.slice.2.1) (MSlice.vis hh.slice.2.2))
   have H8:Hid (SHas (w3.heap.size+2) (fun b=>b < w7.heap.size∧(b=w5.heap.size∨b < w3.heap.size+2)) w8 (.slice n1' q.2.nodes.length m1') (.slice n2' q.2.ses.length m2') (.slice n3' q.2.marks.length m3') q.2):=hh
   have hK:w.heap.size+2 < w7.heap.size:=by omega
   clear hU hh HWh
   obtain⟨qy,⟨y0,y1,y2,y3⟩,-,-,-,-⟩:=hy
   obtain⟨⟨q0,r0,r1,r2,r3,r4,r5,r6,r7⟩,rf⟩:=R8.out
   have f0:=rf 0 (by decide)
   have f1:=rf 1 (by decide)
   have f2:=rf 2 (by decide)
   have f3:=rf 3 (by decide)
   have f4:=rf 4 (by decide)
   have f5:=rf 5 (by decide)
   have f6:=rf 6 (by decide)
   have f7:=rf 7 (by decide)
   have hne:¬ w.heap.size+2=w8.heap.size:=by omega
   have hlt8:w.heap.size+2 < w8.heap.size:=q0
   clear rf
   unfold yagg
   have hput:=rz_put R8.out (.int .i64 0) (.int .i64 q.1.code) (.int .i64 q.1.value) (.string q.1.path) (.slice n1' q.2.nodes.length m1') (.slice n2' q.2.ses.length m2') (.int .i64 q.2.now) (.slice n3' q.2.marks.length m3')
   have hfin:∀ t,ARet w (0,q.1,q.2) (.returned (rsagg 0 q.1.code q.1.value q.1.path (.slice n1' q.2.nodes.length m1') (.slice n2' q.2.ses.length m2') q.2.now (.slice n3' q.2.marks.length m3'))) (((((((((w8.setCell ⟨w.heap.size+2,0,none⟩ (.int .i64 0)).setCell ⟨w.heap.size+2,1,none⟩ (.int .i64 q.1.code)).setCell ⟨w.heap.size+2,2,none⟩ (.int .i64 q.1.value)).setCell ⟨w.heap.size+2,3,none⟩ (.string q.1.path)).setCell ⟨w.heap.size+2,4,none⟩ (.slice n1' q.2.nodes.length m1')).setCell ⟨w.heap.size+2,5,none⟩ (.slice n2' q.2.ses.length m2')).setCell ⟨w.heap.size+2,6,none⟩ (.int .i64 q.2.now)).setCell ⟨w.heap.size+2,7,none⟩ (.slice n3' q.2.marks.length m3')).alloc (.cells #[.int .i64 q.1.code,.int .i64 q.1.value,.string q.1.path] t)):=fun t =>
    ⟨_,_,_,rfl,((((H8.out.upd ((Upd.refl (w.heap.size+2) _).put8 _ _ _ _ _ _ _ _) ⟨hK,Or.inr (by omega)⟩)).least (by omega)).turn fun _ _ h=>h.elim).ext ((Ext.refl _).alloc _),(E8.out.put8 (w.heap.size+2) (by omega) _ _ _ _ _ _ _ _).alloc _⟩
   have HFin:Hid _:=hfin
   have HPut:Hid _:=hput
   clear hfin hput
   go_wp2
   have hput:=HPut.out
   have hfin:=HFin.out
   clear HPut HFin
   generalize hW:World.alloc (World.setCell _ _ _) _=W9
   have z0:W9.cell? ⟨w.heap.size+1+1,0,none⟩=some (.int .i64 0):=by rw [← hW,alloc_cell _ _ _ _ (by rw [hput.1];exact hlt8)];exact hput.2 0 _ rfl
   have z1:W9.cell? ⟨w.heap.size+1+1,1,none⟩=some (.int .i64 q.1.code):=by rw [← hW,alloc_cell _ _ _ _ (by rw [hput.1];exact hlt8)];exact hput.2 1 _ rfl
   have z2:W9.cell? ⟨w.heap.size+1+1,2,none⟩=some (.int .i64 q.1.value):=by rw [← hW,alloc_cell _ _ _ _ (by rw [hput.1];exact hlt8)];exact hput.2 2 _ rfl
   have z3:W9.cell? ⟨w.heap.size+1+1,3,none⟩=some (.string q.1.path):=by rw [← hW,alloc_cell _ _ _ _ (by rw [hput.1];exact hlt8)];exact hput.2 3 _ rfl
   have z4:W9.cell? ⟨w.heap.size+1+1,4,none⟩=some (.slice n1' q.2.nodes.length m1'):=by rw [← hW,alloc_cell _ _ _ _ (by rw [hput.1];exact hlt8)];exact hput.2 4 _ rfl
   have z5:W9.cell? ⟨w.heap.size+1+1,5,none⟩=some (.slice n2' q.2.ses.length m2'):=by rw [← hW,alloc_cell _ _ _ _ (by rw [hput.1];exact hlt8)];exact hput.2 5 _ rfl
   have z6:W9.cell? ⟨w.heap.size+1+1,6,none⟩=some (.int .i64 q.2.now):=by rw [← hW,alloc_cell _ _ _ _ (by rw [hput.1];exact hlt8)];exact hput.2 6 _ rfl
   have z7:W9.cell? ⟨w.heap.size+1+1,7,none⟩=some (.slice n3' q.2.marks.length m3'):=by rw [← hW,alloc_cell _ _ _ _ (by rw [hput.1];exact hlt8)];exact hput.2 7 _ rfl
   refine bodyPost_ret (v:=rsagg 0 q.1.code q.1.value q.1.path (.slice n1' q.2.nodes.length m1') (.slice n2' q.2.ses.length m2') q.2.now (.slice n3' q.2.marks.length m3')) (by clear hfin hput hW;simp [results,Tryz.results16,go_sem,rsagg,z0,z1,z2,z3,z4,z5,z6,z7]) rfl (by rw [HV.out,← hW];exact hfin _)
end Go.Proofs.YtpdejinkmnhioaaGreatDoor
namespace Go.Proofs.YtpdejinkmnhioaaGreatDoor
open Go.RowKit
theorem oat_box {w:World} {b:Nat} {z:Opn} (h:OBoxAt w b z):OAt w b 0 z:=by
 obtain⟨-,h0,h1,h2,h3,h4,h5⟩:=h
 exact⟨h0,h1,h2,h3,h4,h5⟩
set_option linter.unusedSimpArgs false in
set_option maxHeartbeats 1000000 in
set_option maxRecDepth 100000 in
theorem specApplyOp_any (s:Stt) (vn vs vm:Value) (c:Int) (z:Opn) (w:World) (hz:s.fits) (hS:SSlice w vn vs vm s) :
  Calls Tryz.prog 13 #[sagg vn vs s.now vm,.int .i64 c,oagg z] w (ARet w (Sta.applyV s c z)):=by
 have HS0:Hid (∀ wx,Ext w wx→SSlice wx vn vs vm s):=fun wx he=>hS.ext he
 have HCp:Hid (Sta.fault s=0→∀ wx,Ext w wx→Calls Tryz.prog 53 #[sagg vn vs s.now vm] wx fun e w'=>∃ un us um,e = .returned (sagg un us s.now um)∧SomeS us∧SHas wx.heap.size (fun _=>False) w' un us um s∧Ext wx w'):=fun h wx he=>l6Copy_any s vn vs vm wx (hS.ext he) (by obtain⟨⟨⟨h1,-⟩,h2,h3,-⟩,-⟩:=Sta.small_of h;omega) (Sta.small_of h).2
 have HW:Hid (∀ wx,Calls Tryz.prog 50 #[.int .i64 c] wx fun e w'=>e = .returned (.bool (decide (1≤c) && decide (c≤9)))∧w'=wx):=fun wx=>l4IdO_any c wx
 have HOf:Hid (∀ wx,OBoxAt wx (w.heap.size+1) z→Calls Tryz.prog 51 #[.pointer (some ⟨w.heap.size+1,0,none⟩)] wx fun e w'=>e = .returned (.int .i64 (Opr.fault z))∧Ext wx w'):=fun wx h=>l5Op_any _ 0 z wx h.1 (oat_box h)
 obtain⟨⟨an,cn,rfl⟩,⟨ae,ce,rfl⟩,⟨am,cm,rfl⟩⟩:=And.intro (NSlice.vis hS.1) (And.intro (ESlice.vis hS.2.1) (MSlice.vis hS.2.2))
 have HSf:Hid (∀ wx,Ext w wx→SBoxAt wx w.heap.size (.slice an s.nodes.length cn) (.slice ae s.ses.length ce) (.int .i64 s.now) (.slice am s.marks.length cm)→Calls Tryz.prog 49 #[.pointer (some ⟨w.heap.size,0,none⟩)] wx fun e w'=>e = .returned (.int .i64 (Sta.fault s))∧Ext wx w'):=fun wx he h=>l6Fault_any _ s an ae am cn ce cm wx h hz (HS0.out wx he)
 refine n20z ?_
 intro X0 O0 R0
 clear hS hz HS0
 unfold sagg oagg at *
 go_enter Tryz.func13,Tryz.ntmps13
 go_wp2_with fail
 refine (HSf.out _ ((((Ext.refl _).alloc _).alloc _).alloc _) (X0.out _ _ _)).mono ?_
 refine n56z ?_
 intro w1 hb E1 X1 O1 R1
 clear hb X0 O0 R0 HSf
 by_cases hf:Sta.fault s=0
 rotate_left
 ·have HV:Hid (Sta.applyV s c z=(Sta.fault s,Sta.bad 0,Sta.none)):=Sta.applyV_f hf
  generalize Sta.fault s=F at *
  obtain⟨⟨q0,r0,r1,r2,r3,r4,r5,r6,r7⟩,rf⟩:=R1.out
  have f0:=rf 0 (by decide)
  have f1:=rf 1 (by decide)
  have f2:=rf 2 (by decide)
  have f3:=rf 3 (by decide)
  have f4:=rf 4 (by decide)
  have f5:=rf 5 (by decide)
  have f6:=rf 6 (by decide)
  have f7:=rf 7 (by decide)
  clear rf
  go_wp2
  exact bodyPost_ret (v:=rsagg F 0 0 ⟨#[]⟩ (.slice none 0 0) (.slice none 0 0) 0 (.slice none 0 0)) (by simp [results,Tryz.results13,go_sem,rsagg,r0,r1,r2,r3,r4,r5,r6,r7]) rfl (by rw [HV.out];exact aret_bad F (E1.out.put8 (w.heap.size+2) (by omega) _ _ _ _ _ _ _ _))
 have HF0:Hid (Sta.fault s=0):=hf
 rw [hf]
 clear hf
 go_wp2_with fail
 refine (HW.out _).mono ?_
 rintro e w2 ⟨rfl,hw2⟩
 rw [hw2]
 clear hw2 w2
 cases hcw:(decide (1≤c) && decide (c≤9)) with
 | false =>
  have HV:Hid (Sta.applyV s c z=(3,Sta.bad 0,Sta.none)):=Sta.applyV_c HF0.out hcw
  clear hcw HW HOf HCp
  obtain⟨⟨q0,r0,r1,r2,r3,r4,r5,r6,r7⟩,rf⟩:=R1.out
  have f0:=rf 0 (by decide)
  have f1:=rf 1 (by decide)
  have f2:=rf 2 (by decide)
  have f3:=rf 3 (by decide)
  have f4:=rf 4 (by decide)
  have f5:=rf 5 (by decide)
  have f6:=rf 6 (by decide)
  have f7:=rf 7 (by decide)
  clear rf
  go_wp2
  exact bodyPost_ret (v:=rsagg 3 0 0 ⟨#[]⟩ (.slice none 0 0) (.slice none 0 0) 0 (.slice none 0 0)) (by simp [results,Tryz.results13,go_sem,rsagg,r0,r1,r2,r3,r4,r5,r6,r7]) rfl (by rw [HV.out];exact aret_bad 3 (E1.out.put8 (w.heap.size+2) (by omega) _ _ _ _ _ _ _ _))
 | true =>
  have HCW:Hid ((decide (1≤c) && decide (c≤9))=true):=hcw
  clear hcw HW
  go_wp2_with fail
  refine (HOf.out _ O1.out).mono ?_
  rintro e w3 ⟨rfl,hb⟩
  have E3:Hid (Ext w w3):=E1.out.trans hb
  have X3:Hid (SBoxAt w3 w.heap.size (.slice an s.nodes.length cn) (.slice ae s.ses.length ce) (.int .i64 s.now) (.slice am s.marks.length cm)):=X1.out.ext hb
  have O3:Hid (OBoxAt w3 (w.heap.size+1) z):=O1.out.ext hb
  have R3:Hid (RZ w3 (w.heap.size+2)):=R1.out.ext hb
  clear hb X1 O1 R1 E1 HOf
  by_cases hzf:Opr.fault z=0
  rotate_left
  ·have HV:Hid (Sta.applyV s c z=(Opr.fault z,Sta.bad 0,Sta.none)):=Sta.applyV_z HF0.out HCW.out hzf
   generalize Opr.fault z=F at *
   obtain⟨⟨q0,r0,r1,r2,r3,r4,r5,r6,r7⟩,rf⟩:=R3.out
   have f0:=rf 0 (by decide)
   have f1:=rf 1 (by decide)
   have f2:=rf 2 (by decide)
   have f3:=rf 3 (by decide)
   have f4:=rf 4 (by decide)
   have f5:=rf 5 (by decide)
   have f6:=rf 6 (by decide)
   have f7:=rf 7 (by decide)
   clear rf
   go_wp2
   exact bodyPost_ret (v:=rsagg F 0 0 ⟨#[]⟩ (.slice none 0 0) (.slice none 0 0) 0 (.slice none 0 0)) (by simp [results,Tryz.results13,go_sem,rsagg,r0,r1,r2,r3,r4,r5,r6,r7]) rfl (by rw [HV.out];exact aret_bad F (E3.out.put8 (w.heap.size+2) (by omega) _ _ _ _ _ _ _ _))
  ·have HZF:Hid (Opr.fault z=0):=hzf
   have HV:Hid (Sta.applyV s c z=(0,(Sta.doT s c z).1,(Sta.doT s c z).2)):=Sta.applyV_ok HF0.out HCW.out hzf
   rw [hzf]
   clear hzf
   have HCp2:Hid _:=HCp.out HF0.out
   clear HCp
   have HDo:Hid (∀ (n:Nat) (vn vs vm:Value) (wx:World),SHas n (fun _=>False) wx vn vs vm s→SomeS vs→OBoxAt wx (w.heap.size+1) z→n≤wx.heap.size→Calls Tryz.prog 52 #[.agg #[vn,vs,.int .i64 s.now,vm],.int .i64 c,.pointer (some ⟨w.heap.size+1,0,none⟩)] wx (DRet n wx vm (Sta.doT s c z))):=fun n vn vs vm wx h1 h2 h3 h4=>l6Do_any n _ s vn vs vm c z wx h1 h2 h3 h4 (Sta.right_of HF0.out) HZF.out
   generalize Sta.doT s c z=q at *
   obtain⟨q0,⟨b0,b1,b2,b3⟩,-,-,-,-⟩:=X3.out
   go_wp2_with fail
   refine (HCp2.out _ E3.out).mono ?_
   rintro e w5 ⟨un,us,um,rfl,hSo,hH5,hb⟩
   have HD5:Hid (Calls Tryz.prog 52 #[.agg #[un,us,.int .i64 s.now,um],.int .i64 c,.pointer (some ⟨w.heap.size+1,0,none⟩)] w5 (DRet w3.heap.size w5 um q)):=HDo.out _ un us um w5 hH5 hSo (O3.out.ext hb) hb.size
   obtain⟨⟨n1,m1,rfl⟩,⟨n2,m2,rfl⟩,⟨n3,m3,rfl⟩⟩:=And.intro (NSlice.vis hH5.slice.1) (And.intro (ESlice.vis hH5.slice.2.1) (MSlice.vis hH5.slice.2.2))
   have E5:Hid (Ext w w5):=E3.out.trans hb
   have R5:Hid (RZ w5 (w.heap.size+2)):=R3.out.ext hb
   have hs5:w.heap.size+2 < w3.heap.size:=R3.out.1.1
   have S5:Hid (w3.heap.size≤w5.heap.size):=hb.size
   clear hb X3 O3 R3 hH5 hSo HCp2 HDo q0 b0 b1 b2 b3
   go_wp2_with fail
   refine HD5.out.mono ?_
   rintro e w8 ⟨yn,ys,rfl,hh,hb⟩
   obtain⟨⟨n1',m1',rfl⟩,⟨n2',m2',rfl⟩⟩:=And.intro (NSlice.vis hh.slice.1) (ESlice.vis hh.slice.2.1)
   have E8:Hid (Ext w w8):=E5.out.trans hb
   have R8:Hid (RZ w8 (w.heap.size+2)):=R5.out.ext hb
   have H8:Hid (SHas w3.heap.size (fun _=>False) w8 (.slice n1' q.2.nodes.length m1') (.slice n2' q.2.ses.length m2') (.slice n3 s.marks.length m3) q.2):=hh
   have hlt8:w.heap.size+2 < w8.heap.size:=R8.out.1.1
   clear hh hb E5 R5 HD5 S5
   unfold sagg yagg
   obtain⟨⟨q0,r0,r1,r2,r3,r4,r5,r6,r7⟩,rf⟩:=(R8.out.ext ((Ext.refl _).alloc (.cells #[.slice n1' q.2.nodes.length m1',.slice n2' q.2.ses.length m2',.int .i64 q.2.now,.slice n3 s.marks.length m3] 37))).ext ((Ext.refl _).alloc (.cells #[.int .i64 q.1.code,.int .i64 q.1.value,.string q.1.path] 32))
   have f0:=rf 0 (by decide)
   have f1:=rf 1 (by decide)
   have f2:=rf 2 (by decide)
   have f3:=rf 3 (by decide)
   have f4:=rf 4 (by decide)
   have f5:=rf 5 (by decide)
   have f6:=rf 6 (by decide)
   have f7:=rf 7 (by decide)
   have hne:¬ w.heap.size+2=w8.heap.size:=by omega
   have hne2:¬ w.heap.size+2=w8.heap.size+1:=by omega
   clear rf
   have R9:Hid (RZ ((w8.alloc (.cells #[.slice n1' q.2.nodes.length m1',.slice n2' q.2.ses.length m2',.int .i64 q.2.now,.slice n3 s.marks.length m3] 37)).alloc (.cells #[.int .i64 q.1.code,.int .i64 q.1.value,.string q.1.path] 32)) (w.heap.size+2)):=(R8.out.ext ((Ext.refl _).alloc _)).ext ((Ext.refl _).alloc _)
   have hput:=rz_put R9.out (.int .i64 0) (.int .i64 q.1.code) (.int .i64 q.1.value) (.string q.1.path) (.slice n1' q.2.nodes.length m1') (.slice n2' q.2.ses.length m2') (.int .i64 q.2.now) (.slice n3 s.marks.length m3)
   have hfin:ARet w (0,q.1,q.2) (.returned (rsagg 0 q.1.code q.1.value q.1.path (.slice n1' q.2.nodes.length m1') (.slice n2' q.2.ses.length m2') q.2.now (.slice n3 s.marks.length m3))) ((((((((((w8.alloc (.cells #[.slice n1' q.2.nodes.length m1',.slice n2' q.2.ses.length m2',.int .i64 q.2.now,.slice n3 s.marks.length m3] 37)).alloc (.cells #[.int .i64 q.1.code,.int .i64 q.1.value,.string q.1.path] 32)).setCell ⟨w.heap.size+2,0,none⟩ (.int .i64 0)).setCell ⟨w.heap.size+2,1,none⟩ (.int .i64 q.1.code)).setCell ⟨w.heap.size+2,2,none⟩ (.int .i64 q.1.value)).setCell ⟨w.heap.size+2,3,none⟩ (.string q.1.path)).setCell ⟨w.heap.size+2,4,none⟩ (.slice n1' q.2.nodes.length m1')).setCell ⟨w.heap.size+2,5,none⟩ (.slice n2' q.2.ses.length m2')).setCell ⟨w.heap.size+2,6,none⟩ (.int .i64 q.2.now)).setCell ⟨w.heap.size+2,7,none⟩ (.slice n3 s.marks.length m3)) :=
    ⟨_,_,_,rfl,((((H8.out.ext ((Ext.refl _).alloc _)).ext ((Ext.refl _).alloc _)).below.upd ((Upd.refl (w.heap.size+2) _).put8 _ _ _ _ _ _ _ _) (Or.inr hs5)).least (by omega)).turn fun _ _ h=>h.elim,((E8.out.alloc _).alloc _).put8 (w.heap.size+2) (by omega) _ _ _ _ _ _ _ _⟩
   have HFin:Hid _:=hfin
   have HPut:Hid _:=hput
   clear hfin hput R9
   go_wp2
   have hput:=HPut.out
   have hfin:=HFin.out
   clear HPut HFin
   generalize hW:World.setCell (World.setCell (World.setCell (World.setCell _ _ _) _ _) _ _) _ _=W9
   have z0:W9.cell? ⟨w.heap.size+1+1,0,none⟩=some (.int .i64 0):=by rw [← hW];exact hput.2 0 _ rfl
   have z1:W9.cell? ⟨w.heap.size+1+1,1,none⟩=some (.int .i64 q.1.code):=by rw [← hW];exact hput.2 1 _ rfl
   have z2:W9.cell? ⟨w.heap.size+1+1,2,none⟩=some (.int .i64 q.1.value):=by rw [← hW];exact hput.2 2 _ rfl
   have z3:W9.cell? ⟨w.heap.size+1+1,3,none⟩=some (.string q.1.path):=by rw [← hW];exact hput.2 3 _ rfl
   have z4:W9.cell? ⟨w.heap.size+1+1,4,none⟩=some (.slice n1' q.2.nodes.length m1'):=by rw [← hW];exact hput.2 4 _ rfl
   have z5:W9.cell? ⟨w.heap.size+1+1,5,none⟩=some (.slice n2' q.2.ses.length m2'):=by rw [← hW];exact hput.2 5 _ rfl
   have z6:W9.cell? ⟨w.heap.size+1+1,6,none⟩=some (.int .i64 q.2.now):=by rw [← hW];exact hput.2 6 _ rfl
   have z7:W9.cell? ⟨w.heap.size+1+1,7,none⟩=some (.slice n3 s.marks.length m3):=by rw [← hW];exact hput.2 7 _ rfl
   refine bodyPost_ret (v:=rsagg 0 q.1.code q.1.value q.1.path (.slice n1' q.2.nodes.length m1') (.slice n2' q.2.ses.length m2') q.2.now (.slice n3 s.marks.length m3)) (by clear hfin hput hW;simp [results,Tryz.results13,go_sem,rsagg,z0,z1,z2,z3,z4,z5,z6,z7]) rfl (by rw [HV.out,← hW];exact hfin)
end Go.Proofs.YtpdejinkmnhioaaGreatDoor
namespace Go.Proofs.YtpdejinkmnhioaaGreatDoor
open Go.RowKit Go.Maps
/-- The Until of one session was written. -/
theorem EOwn.til {w:World} {g cap k:Nat} {off:Nat} {l:List Se} {s:Se} (hr:ERoom w g off l.length) (hN:SesAt w g off l) (hl:l.length≤cap) (hc:cap≤maxLen) (hk:l[k]?=some s) (y:Int) :
  EOwn (w.setCell ⟨g,off+k * 2+1,none⟩ (.int .i64 y)) (.slice (some ⟨g,off,none⟩) l.length cap) g (l.set k ⟨s.id,y⟩):=by
 have hkl:=(List.getElem?_eq_some_iff.1 hk).1
 have hc' : ∀ j,j≠off+k * 2+1→(w.setCell ⟨g,off+k * 2+1,none⟩ (.int .i64 y)).cell? ⟨g,j,none⟩=w.cell? ⟨g,j,none⟩:=fun j hj=>iset_ne _ _ _ _ _ _ (by omega)
 have hcy:(w.setCell ⟨g,off+k * 2+1,none⟩ (.int .i64 y)).cell? ⟨g,off+k * 2+1,none⟩=some (.int .i64 y):=iset_eq _ _ _ _ (by rw [Nat.add_assoc];exact (hr.2 (k * 2+1) (by omega)).1)
 refine⟨some ⟨g,off,none⟩,cap,by rw [List.length_set],by rw [List.length_set];exact hl,hc,fun _=>⟨off,rfl,⟨by simpa using hr.1,fun j hj=>⟨?_,by rw [List.length_set] at hj;simpa using (hr.2 j hj).2⟩⟩,?_⟩⟩
 ·rw [List.length_set] at hj
  by_cases h:off+j=off+k * 2+1
  ·rw [h];exact⟨_,hcy⟩
  ·rw [hc' _ h];exact (hr.2 j hj).1
 ·intro i t ht
  rw [List.getElem?_set] at ht
  split at ht
  ·rename_i hki
   subst hki
   cases ht
   exact⟨by rw [hc' _ (by omega)];exact (hN k s hk).1,hcy⟩
  ·obtain⟨c0,c1⟩:=hN i t ht
   exact⟨by rw [hc' _ (by omega)];exact c0,by rw [hc' _ (by omega)];exact c1⟩
def Ses.touched (l:List Se) (i n:Int):Int × List Se:=if Ses.live l i n=true then (0,putSe ⟨i,n+10⟩ l) else (9,[])
end Go.Proofs.YtpdejinkmnhioaaGreatDoor
namespace Go.Proofs.YtpdejinkmnhioaaGreatDoor
open Go.RowKit
namespace Opr
def firstF:List Opn→Int
 | []=>0
 | o :: t=>if fault o≠0 then fault o else firstF t
def session (o:Opn):Bool:=decide (o.kind=1) || decide (o.kind=2)
def faultR (r:Rq):Int :=
 if (decide (1≤r.client) && decide (r.client≤9))=false then 3
 else if (decide (1≤r.number) && decide (r.number≤99))=false then 3
 else if (decide (0≤r.time) && decide (r.time≤9000))=false then 3
 else if r.ops.length < 1∨3 < r.ops.length then 2
 else if firstF r.ops≠0 then firstF r.ops
 else if 1 < r.ops.length∧r.ops.any session=true then 1 else 0
def okHead (r:Rq):Prop:=(decide (1≤r.client) && decide (r.client≤9))=true∧(decide (1≤r.number) && decide (r.number≤99))=true∧(decide (0≤r.time) && decide (r.time≤9000))=true
end Opr
/-- A request at an address. -/
def RAt (w:World) (b o:Nat) (r:Rq) (v:Value):Prop:=b < w.heap.size∧w.cell? ⟨b,o,none⟩=some (.int .i64 r.client)∧w.cell? ⟨b,o+1,none⟩=some (.int .i64 r.number)∧w.cell? ⟨b,o+2,none⟩=some (.int .i64 r.time)∧w.cell? ⟨b,o+3,none⟩=some v
theorem RAt.ext {w w' : World} {b o:Nat} {r:Rq} {v:Value} (h:RAt w b o r v) (he:Ext w w'):RAt w' b o r v:=by
 obtain⟨hc,_⟩:=Ext.cell he
 exact⟨Nat.lt_of_lt_of_le h.1 he.size,(hc _ _ h.1).trans h.2.1,(hc _ _ h.1).trans h.2.2.1,(hc _ _ h.1).trans h.2.2.2.1,(hc _ _ h.1).trans h.2.2.2.2⟩
end Go.Proofs.YtpdejinkmnhioaaGreatDoor
