/- N4, N3, N5, in one text. -/
import Derived.Test.YtpdejinkmnhioaaGreatDoorAoJ6
import Derived.Test.YtpdejinkmnhioaaGreatDoorAoJ15
import Derived.Test.YtpdejinkmnhioaaGreatDoorAoJ16
import Derived.Test.YtpdejinkmnhioaaGreatDoorAoJ10
import Derived.Deep.RegionHeld3
import Derived.Test.YtpdejinkmnhioaaGreatDoorAoMk
namespace Go.Proofs.YtpdejinkmnhioaaGreatDoor
open Go.RowKit
set_option maxHeartbeats 2000000 in
set_option maxRecDepth 100000 in
theorem l6Mark_any (B:Nat) (am:Option Addr) (cm:Nat) (l:List Mk) (c n:Int) (w:World) (hc:w.cell? ⟨B,3,none⟩=some (.slice am l.length cm)) (hS:MSlice w (.slice am l.length cm) l) :
  Calls Tryz.prog 106 #[.pointer (some ⟨B,0,none⟩),.int .i64 c,.int .i64 n] w fun e w'=>e = .returned (.int .i64 (idxM c n 0 l))∧Ext w w':=by
 obtain⟨a,cap,e,hlc,hcm,hx⟩:=hS
 injection e with e1 e2 e3
 subst e1 e3
 have HX:Hid (0 < l.length→∃ b off,am=some ⟨b,off,none⟩∧b < w.heap.size∧MksAt w b off l):=hx
 have hB:=World.block_lt_of_cell? w _ hc
 have HB0:Hid (∀ wx:World,Ext w wx→wx.cell? ⟨B,3,none⟩=some (.slice am l.length cm)):=fun wx he=>((Ext.cell he).1 _ _ hB).trans hc
 clear hx e2
 unfold maxLen at hcm
 go_enter Tryz.func106,Tryz.ntmps106
 go_wp2
 go_loopw [7] (fun i wr=>∃ (k:Nat),k≤l.length∧i = .int .i64 k∧Hid (idxM c n k (l.drop k)=idxM c n 0 l)∧Hid (Ext w wr)) (fun i _=>l.length - (intOf i).toNat)
 case atStart=>exact⟨0,Nat.zero_le _,rfl,rfl,Ext.refl _⟩
 clear hc
 obtain⟨k,hk,rfl,HA,HE⟩:=hrel
 have hc:=HB0.out _ HE.out
 by_cases hlt:k < l.length
 ·obtain⟨z,hzk⟩:∃ z,l[k]?=some z:=⟨_,List.getElem?_eq_getElem hlt⟩
  obtain⟨b,off,rfl,hb,hN⟩:=HX.out (by omega)
  obtain⟨d0,d1,d2,d3,d4⟩:=hN.ext hb HE.out k z hzk
  have hat:=idxM_at (c:=c) (n:=n) hzk
  clear hzk hN
  by_cases g0:z.client=c
  ·by_cases g1:z.number=n
   ·have HF:Hid (idxM c n 0 l=k):=by show _=_;rw [← HA.out,hat,if_pos (by simp [keyM,g0,g1])]
    clear hat
    go_wp2
    try go_region
    all_goals
     go_wp2
     go_ret
     first | exact⟨ret_int HF.out.symm,HE.out⟩ | exact⟨ret_int HF.out.symm,HE.out.drew⟩
   ·have HA2:Hid (idxM c n (k+1) (l.drop (k+1))=idxM c n 0 l):=by show _=_;rw [← HA.out,hat,if_neg (by simp [keyM,g1])]
    exact m69z
  ·have HA2:Hid (idxM c n (k+1) (l.drop (k+1))=idxM c n 0 l):=by show _=_;rw [← HA.out,hat,if_neg (by simp [keyM,g0])]
   exact m69z
 ·exact m92z
set_option maxHeartbeats 1000000 in
set_option maxRecDepth 100000 in
theorem l6Reply_any (b o:Nat) (c v:Int) (p:ByteArray) (w:World) (h0:w.cell? ⟨b,o,none⟩=some (.int .i64 c)) (h1:w.cell? ⟨b,o+1,none⟩=some (.int .i64 v)) (h2:w.cell? ⟨b,o+2,none⟩=some (.string p)) (hp:p.size≤maxLen) :
  Calls Tryz.prog 105 #[.pointer (some ⟨b,o,none⟩)] w fun e w'=>e = .returned (.bool (okY c v p))∧w'=w:=by
 unfold maxLen at hp
 have HU:Hid (∀ wx:World,Calls Tryz.prog 104 #[.int .i64 c,.int .i64 0,.int .i64 10] wx fun e w'=>e = .returned (.bool (decide (0≤c) && decide (c≤10)))∧w'=wx):=fun wx=>l1In_any _ _ _ _
 have HW:Hid (∀ wx:World,Calls Tryz.prog 104 #[.int .i64 v,.int .i64 (-1),.int .i64 9999] wx fun e w'=>e = .returned (.bool (decide (-1≤v) && decide (v≤9999)))∧w'=wx):=fun wx=>l1In_any _ _ _ _
 have HD:Hid (okY c v p=((decide (0≤c) && decide (c≤10)) && ((decide (-1≤v) && decide (v≤9999)) && decide (p.size≤24)))):=rfl
 generalize okY c v p=R at *
 generalize (decide (0≤c) && decide (c≤10))=b1 at *
 generalize (decide (-1≤v) && decide (v≤9999))=b2 at *
 cases b1 with
 | false =>
  have HF:Hid (R=false):=HD.out
  go_enter Tryz.func105,Tryz.ntmps105
  go_wp2_with fail
  refine (HU.out _).mono ?_
  rintro e w1 ⟨rfl,hw⟩
  rw [hw]
  clear hw w1
  go_wp2
  go_ret
  exact⟨ret_bool HF.out.symm,rfl⟩
 | true =>
 cases b2 with
 | false =>
  have HF:Hid (R=false):=HD.out
  go_enter Tryz.func105,Tryz.ntmps105
  go_wp2_with fail
  refine (HU.out _).mono ?_
  rintro e w1 ⟨rfl,hw⟩
  rw [hw]
  clear hw w1
  go_wp2_with fail
  refine (HW.out _).mono ?_
  rintro e w1 ⟨rfl,hw⟩
  rw [hw]
  clear hw w1
  go_wp2
  go_ret
  exact⟨ret_bool HF.out.symm,rfl⟩
 | true =>
  have HF:Hid (R=decide (p.size≤24)):=by show _=_;rw [HD.out];simp
  go_enter Tryz.func105,Tryz.ntmps105
  go_wp2_with fail
  refine (HU.out _).mono ?_
  rintro e w1 ⟨rfl,hw⟩
  rw [hw]
  clear hw w1
  go_wp2_with fail
  refine (HW.out _).mono ?_
  rintro e w1 ⟨rfl,hw⟩
  rw [hw]
  clear hw w1
  go_wp2
  go_ret
  exact⟨ret_bool (by rw [HF.out];congr 1;simp;omega),rfl⟩
set_option maxHeartbeats 4000000 in
set_option maxRecDepth 100000 in
theorem l6Fault_any (B:Nat) (s:Stt) (an ae am:Option Addr) (cn cs cm:Nat) (w:World) (hb0:SBoxAt w B (.slice an s.nodes.length cn) (.slice ae s.ses.length cs) (.int .i64 s.now) (.slice am s.marks.length cm)) (hz:s.fits) (hS:SSlice w (.slice an s.nodes.length cn) (.slice ae s.ses.length cs) (.slice am s.marks.length cm) s) :
  Calls Tryz.prog 49 #[.pointer (some ⟨B,0,none⟩)] w fun e w'=>e = .returned (.int .i64 (Sta.fault s))∧Ext w w':=by
 have HT:Hid (∀ wx:World,Ext w wx→Calls Tryz.prog 101 #[.slice an s.nodes.length cn] wx fun e w'=>e = .returned (.int .i64 (Tre.fault s.nodes))∧Ext wx w'):=fun wx he=>l2Fault_any _ s.nodes wx (hS.1.ext he)
 have HE:Hid (∀ wx:World,Ext w wx→Calls Tryz.prog 102 #[.slice ae s.ses.length cs] wx fun e w'=>e = .returned (.int .i64 (Ses.fault s.ses))∧Ext wx w'):=fun wx he=>l4Fault_any _ s.ses wx (hS.2.1.ext he)
 have HU:Hid (∀ wx:World,Calls Tryz.prog 103 #[.int .i64 s.now] wx fun e w'=>e = .returned (.bool (Ses.nowOk s.now))∧w'=wx):=fun wx=>l4Now_any _ _
 have HS:Hid (SSlice w (.slice an s.nodes.length cn) (.slice ae s.ses.length cs) (.slice am s.marks.length cm) s):=hS
 have HZ:Hid s.fits:=hz
 have XB:Hid (SBoxAt w B (.slice an s.nodes.length cn) (.slice ae s.ses.length cs) (.int .i64 s.now) (.slice am s.marks.length cm)):=hb0
 obtain⟨am',cm',e,hml,hmm,hmx⟩:=hS.2.2
 injection e with e1 e2 e3
 subst e1 e3
 have HX:Hid (0 < s.marks.length→∃ b off,am=some ⟨b,off,none⟩∧b < w.heap.size∧MksAt w b off s.marks):=hmx
 clear hmx hz hS hb0 e2
 unfold maxLen at hmm
 obtain⟨R,hR⟩:∃ R,R=Sta.fault s:=⟨_,rfl⟩
 have HR:Hid (R=Sta.fault s):=hR
 rw [← hR]
 clear hR
 generalize ht:Tre.fault s.nodes=ct at *
 generalize hs:Ses.fault s.ses=ce at *
 generalize hn:Ses.nowOk s.now=cn0 at *
 have T0:Hid (Tre.fault s.nodes=ct):=ht
 have T1:Hid (Ses.fault s.ses=ce):=hs
 have T2:Hid (Ses.nowOk s.now=cn0):=hn
 clear ht hs hn
 obtain⟨q0,⟨c0,c1,c2,c3⟩,-,-,-,-⟩:=XB.out
 go_enter Tryz.func49,Tryz.ntmps49
 go_wp2_with fail
 refine (HT.out _ (Ext.refl _)).mono ?_
 rintro e w1 ⟨rfl,hb⟩
 have HB:Hid (Ext w w1):=hb
 have XN:Hid (SBoxAt w1 B (.slice an s.nodes.length cn) (.slice ae s.ses.length cs) (.int .i64 s.now) (.slice am s.marks.length cm)):=XB.out.ext hb
 clear hb XB q0 c0 c1 c2 c3
 have XB:=XN;clear XN
 obtain⟨q0,⟨c0,c1,c2,c3⟩,-,-,-,-⟩:=XB.out
 by_cases h0:ct=0
 rotate_left
 ·exact m96z
 subst h0
 go_wp2_with fail
 refine (HE.out _ HB.out).mono ?_
 rintro e w2 ⟨rfl,hb⟩
 have HB2:Hid (Ext w w2):=HB.out.trans hb
 have XB2:Hid (SBoxAt w2 B (.slice an s.nodes.length cn) (.slice ae s.ses.length cs) (.int .i64 s.now) (.slice am s.marks.length cm)):=XB.out.ext hb
 clear hb XB HB q0 c0 c1 c2 c3
 obtain⟨q0,⟨c0,c1,c2,c3⟩,-,-,-,-⟩:=XB2.out
 by_cases h1:ce=0
 rotate_left
 ·exact m93z
 subst h1
 go_wp2_with fail
 refine (HU.out _).mono ?_
 rintro e w3 ⟨rfl,hw⟩
 rw [hw]
 clear hw w3
 cases cn0 with
 | false =>
  exact m105z
 | true =>
 by_cases h40:40 < s.marks.length
 ·exact m104z
 have HF:Hid (markFrom [] s.marks=R):=by show _=_;rw [HR.out,Sta.fault_r T0.out T1.out T2.out h40]
 clear HR T0 T1 T2 HT HE HU
 have HK:Hid (∀ (c n:Int) (wx:World),Ext w wx→wx.cell? ⟨B,3,none⟩=some (.slice am s.marks.length cm)→Calls Tryz.prog 106 #[.pointer (some ⟨B,0,none⟩),.int .i64 c,.int .i64 n] wx fun e w'=>e = .returned (.int .i64 (idxM c n 0 s.marks))∧Ext wx w'):=fun c n wx he h=>l6Mark_any B am cm s.marks c n wx h (HS.out.2.2.ext he)
 go_wp2
 go_loopw [5] (fun i wr=>∃ (k:Nat),k≤s.marks.length∧i = .int .i64 k∧Hid (markFrom (s.marks.take k) (s.marks.drop k)=R)∧Hid (SBoxAt wr B (.slice an s.nodes.length cn) (.slice ae s.ses.length cs) (.int .i64 s.now) (.slice am s.marks.length cm))∧Hid (Ext w wr)) (fun i _=>s.marks.length - (intOf i).toNat)
 case atStart=>exact⟨0,Nat.zero_le _,rfl,HF.out,XB2.out,HB2.out⟩
 clear XB2 HB2 q0 c0 c1 c2 c3
 obtain⟨k,hk,rfl,HA,XB,HB⟩:=hrel
 obtain⟨q0,⟨c0,c1,c2,c3⟩,-,-,-,-⟩:=XB.out
 by_cases hlt:k < s.marks.length
 rotate_left
 ·exact m97z
 obtain⟨z,hzk⟩:∃ z,s.marks[k]?=some z:=⟨_,List.getElem?_eq_getElem hlt⟩
 have hzp:=HZ.out.2 z (List.mem_of_getElem? hzk)
 obtain⟨b,off,rfl,hb,hN⟩:=HX.out (by omega)
 obtain⟨d0,d1,d2,d3,d4⟩:=hN.ext hb HB.out k z hzk
 have hat:=markFrom_at hzk
 have HI:Hid (∀ wx:World,Calls Tryz.prog 50 #[.int .i64 z.client] wx fun e w'=>e = .returned (.bool (Ses.idOk z.client))∧w'=wx):=fun wx=>l4Id_any _ _
 have HJ:Hid (∀ wx:World,Calls Tryz.prog 104 #[.int .i64 z.number,.int .i64 1,.int .i64 99] wx fun e w'=>e = .returned (.bool (okNum z.number))∧w'=wx):=fun wx=>l1In_any _ _ _ _
 have HY:Hid (Calls Tryz.prog 105 #[.pointer (some ⟨b,off+k * 5+2,none⟩)] wr fun e w'=>e = .returned (.bool (okY z.code z.value z.path))∧w'=wr):=l6Reply_any b _ _ _ _ wr d2 d3 d4 hzp
 have HO:Hid _:=idxM_own hzk
 have HAT:Hid _:=hat
 have HMK:Hid (∀ wx:World,Ext wr wx→Calls Tryz.prog 106 #[.pointer (some ⟨B,0,none⟩),.int .i64 z.client,.int .i64 z.number] wx fun e w'=>e = .returned (.int .i64 (idxM z.client z.number 0 s.marks))∧Ext wx w'):=fun wx he=>HK.out z.client z.number wx (HB.out.trans he) (XB.out.ext he).2.1.2.2.2
 clear hat hzk hN HK hzp
 have HBad:Hid (okM z=false→R=3):=fun h=>by rw [← HA.out,HAT.out,if_pos h]
 cases hc:Ses.idOk z.client with
 | false =>
  have HG:Hid (R=3):=HBad.out (by unfold okM;rw [hc];rfl)
  rw [hc] at HI
  clear hc
  go_wp2_with fail
  refine (HI.out _).mono ?_
  exact m84z
 | true =>
 cases hn:okNum z.number with
 | false =>
  have HG:Hid (R=3):=HBad.out (by unfold okM;rw [hn];simp)
  rw [hc] at HI
  rw [hn] at HJ
  clear hc hn
  go_wp2_with fail
  refine (HI.out _).mono ?_
  rintro e w3 ⟨rfl,hw⟩
  rw [hw]
  clear hw w3
  go_wp2_with fail
  refine (HJ.out _).mono ?_
  exact m84z
 | true =>
 cases hy:okY z.code z.value z.path with
 | false =>
  have HG:Hid (R=3):=HBad.out (by unfold okM;rw [hy];simp)
  rw [hc] at HI
  rw [hn] at HJ
  rw [hy] at HY
  clear hc hn hy
  go_wp2_with fail
  refine (HI.out _).mono ?_
  rintro e w3 ⟨rfl,hw⟩
  rw [hw]
  clear hw w3
  go_wp2_with fail
  refine (HJ.out _).mono ?_
  rintro e w3 ⟨rfl,hw⟩
  rw [hw]
  clear hw w3
  go_wp2_with fail
  refine (HY.out).mono ?_
  exact m84z
 | true =>
  have HG:Hid (okM z=true):=by show _=_;unfold okM;rw [hc,hn,hy];rfl
  rw [hc] at HI
  rw [hn] at HJ
  rw [hy] at HY
  clear hc hn hy HBad
  rcases HO.out with ⟨g1,g2⟩ | ⟨g1,g2⟩
  ·have HA2:Hid (markFrom (s.marks.take (k+1)) (s.marks.drop (k+1))=R):=by show _=_;rw [← HA.out,HAT.out,if_neg (by rw [HG.out];decide),if_neg (by rw [g2];decide)]
   rw [g1] at HMK
   clear g1 g2 HO
   go_wp2_with fail
   refine (HI.out _).mono ?_
   rintro e w3 ⟨rfl,hw⟩
   rw [hw]
   clear hw w3
   go_wp2_with fail
   refine (HJ.out _).mono ?_
   rintro e w3 ⟨rfl,hw⟩
   rw [hw]
   clear hw w3
   go_wp2_with fail
   refine (HY.out).mono ?_
   rintro e w3 ⟨rfl,hw⟩
   rw [hw]
   clear hw w3
   go_wp2
   go_region_with (go_at_call 106;refine (HMK.out _ (by first | exact (Ext.refl _).drew | exact Ext.refl _)).mono ?_;rintro e w4 ⟨rfl,hb4⟩)
   all_goals
    have hb5:Ext wr w4:=by first | exact ((Ext.refl _).drew).trans hb4 | exact hb4
    have HB4:Hid (Ext w w4):=HB.out.trans hb5
    have XB4:Hid (SBoxAt w4 B (.slice an s.nodes.length cn) (.slice ae s.ses.length cs) (.int .i64 s.now) (.slice (some ⟨b,off,none⟩) s.marks.length cm)):=XB.out.ext hb5
    clear hb4 hb5
    go_wp2
    exact⟨⟨k+1,by omega,by go_num,HA2,XB4,HB4⟩,by simp [intOf];omega⟩
  ·have HF6:Hid (R=6):=by show _=_;rw [← HA.out,HAT.out,if_neg (by rw [HG.out];decide),if_pos g2]
   generalize idxM z.client z.number 0 s.marks=I at *
   have hI:(I != (k:Int))=true:=by simpa using g1
   clear g2 HO
   go_wp2_with fail
   refine (HI.out _).mono ?_
   rintro e w3 ⟨rfl,hw⟩
   rw [hw]
   clear hw w3
   go_wp2_with fail
   refine (HJ.out _).mono ?_
   rintro e w3 ⟨rfl,hw⟩
   rw [hw]
   clear hw w3
   go_wp2_with fail
   refine (HY.out).mono ?_
   rintro e w3 ⟨rfl,hw⟩
   rw [hw]
   clear hw w3
   go_wp2
   go_region_with (go_at_call 106;refine (HMK.out _ (by first | exact (Ext.refl _).drew | exact Ext.refl _)).mono ?_;rintro e w4 ⟨rfl,hb4⟩)
   all_goals
    have hb5:Ext wr w4:=by first | exact ((Ext.refl _).drew).trans hb4 | exact hb4
    have HB4:Hid (Ext w w4):=HB.out.trans hb5
    clear hb4 hb5
    go_wp2
    go_ret
    exact⟨ret_int HF6.out.symm,HB4.out⟩
end Go.Proofs.YtpdejinkmnhioaaGreatDoor
namespace Go.Proofs.YtpdejinkmnhioaaGreatDoor
open Go.RowKit
set_option maxHeartbeats 1000000 in
theorem within_any (n l m:Int) (w:World):Calls Tryz.prog 57 #[.int .i64 n,.int .i64 l,.int .i64 m] w fun e w'=>e = .returned (.bool (decide (l≤n) && decide (n≤m)))∧w'=w:=by
 by_cases h0:l≤n
 ·by_cases h1:n≤m
  ·go_enter Tryz.func57,Tryz.ntmps57
   go_wp2
   go_ret
   exact⟨by simp [h0,h1],rfl⟩
  ·go_enter Tryz.func57,Tryz.ntmps57
   go_wp2
   go_ret
   exact⟨by simp [h1],rfl⟩
 ·go_enter Tryz.func57,Tryz.ntmps57
  go_wp2
  go_ret
  exact⟨by simp;omega,rfl⟩
set_option maxHeartbeats 1000000 in
set_option maxRecDepth 100000 in
theorem isReply_any (c v:Int) (p:ByteArray) (w:World) (hp:p.size≤maxLen):Calls Tryz.prog 163 #[yagg c v p] w fun e w'=>e = .returned (.bool (okY c v p))∧Ext w w':=by
 unfold maxLen at hp
 have HU:Hid (∀ wx:World,Calls Tryz.prog 90 #[.int .i64 c,.int .i64 10] wx fun e w'=>e = .returned (.bool (decide (0≤c) && decide (c≤10)))∧w'=wx):=fun wx=>upTo_any _ _ _
 have HW:Hid (∀ wx:World,Calls Tryz.prog 57 #[.int .i64 v,.int .i64 (-1),.int .i64 9999] wx fun e w'=>e = .returned (.bool (decide (-1≤v) && decide (v≤9999)))∧w'=wx):=fun wx=>within_any _ _ _ _
 have HD:Hid (okY c v p=((decide (0≤c) && decide (c≤10)) && ((decide (-1≤v) && decide (v≤9999)) && decide (p.size≤24)))):=rfl
 generalize okY c v p=R at *
 generalize (decide (0≤c) && decide (c≤10))=b1 at *
 generalize (decide (-1≤v) && decide (v≤9999))=b2 at *
 unfold yagg
 cases b1 with
 | false =>
  have HF:Hid (R=false):=HD.out
  go_enter Tryz.func163,Tryz.ntmps163
  go_wp2_with fail
  refine (HU.out _).mono ?_
  rintro e w1 ⟨rfl,hw⟩
  rw [hw]
  clear hw w1
  go_wp2
  go_ret
  exact⟨ret_bool HF.out.symm,(Ext.refl _).alloc _⟩
 | true =>
 cases b2 with
 | false =>
  have HF:Hid (R=false):=HD.out
  go_enter Tryz.func163,Tryz.ntmps163
  go_wp2_with fail
  refine (HU.out _).mono ?_
  rintro e w1 ⟨rfl,hw⟩
  rw [hw]
  clear hw w1
  go_wp2_with fail
  refine (HW.out _).mono ?_
  rintro e w1 ⟨rfl,hw⟩
  rw [hw]
  clear hw w1
  go_wp2
  go_ret
  exact⟨ret_bool HF.out.symm,(Ext.refl _).alloc _⟩
 | true =>
  have HF:Hid (R=decide (p.size≤24)):=by show _=_;rw [HD.out];simp
  go_enter Tryz.func163,Tryz.ntmps163
  go_wp2_with fail
  refine (HU.out _).mono ?_
  rintro e w1 ⟨rfl,hw⟩
  rw [hw]
  clear hw w1
  go_wp2_with fail
  refine (HW.out _).mono ?_
  rintro e w1 ⟨rfl,hw⟩
  rw [hw]
  clear hw w1
  go_wp2
  go_ret
  exact⟨ret_bool (by rw [HF.out];congr 1;simp;omega),(Ext.refl _).alloc _⟩
set_option maxHeartbeats 1000000 in
set_option maxRecDepth 100000 in
theorem mark1_any (B D:Nat) (c n:Int) (z:Mk) (w:World) (h1:w.cell? ⟨B,0,none⟩=some (.int .i64 c)) (h2:w.cell? ⟨D,0,none⟩=some (.int .i64 n)) :
  Calls Tryz.prog 147 #[magg z,.pointer (some ⟨B,0,none⟩),.pointer (some ⟨D,0,none⟩)] w fun e w'=>e = .returned (.bool (keyM c n z))∧Ext w w':=by
 have hB:=World.block_lt_of_cell? w _ h1
 have hD:=World.block_lt_of_cell? w _ h2
 have hal:=alloc_cell
 unfold magg keyM
 by_cases g:z.client=c
 ·exact m85z
 ·exact m85z
set_option maxHeartbeats 2000000 in
set_option maxRecDepth 100000 in
theorem indexMark_any (v:Value) (l:List Mk) (B D:Nat) (c n:Int) (w:World) (hS:MSlice w v l) (h1:w.cell? ⟨B,0,none⟩=some (.int .i64 c)) (h2:w.cell? ⟨D,0,none⟩=some (.int .i64 n)) :
  Calls Tryz.prog 146 #[v,.func (.func 147) #[] #[.pointer (some ⟨B,0,none⟩),.pointer (some ⟨D,0,none⟩)]] w fun e w'=>e = .returned (.int .i64 (idxM c n 0 l))∧Ext w w':=by
 obtain⟨a,cap,rfl,hlc,hcm,hx⟩:=hS
 have HX:Hid (0 < l.length→∃ b off,a=some ⟨b,off,none⟩∧b < w.heap.size∧MksAt w b off l):=hx
 have HQ:Hid (∀ (wx:World) (z:Mk),Ext w wx→Calls Tryz.prog 147 #[magg z,.pointer (some ⟨B,0,none⟩),.pointer (some ⟨D,0,none⟩)] wx fun e w'=>e = .returned (.bool (keyM c n z))∧Ext wx w'):=fun wx z he=>mark1_any B D c n z wx (((Ext.cell he).1 _ _ (World.block_lt_of_cell? w _ h1)).trans h1) (((Ext.cell he).1 _ _ (World.block_lt_of_cell? w _ h2)).trans h2)
 clear hx h1 h2
 unfold maxLen at hcm
 go_enter Tryz.func146,Tryz.ntmps146
 go_wp2
 go_loopw [8] (fun i wr=>∃ (k:Nat),k≤l.length∧i = .int .i64 k∧Hid (idxM c n k (l.drop k)=idxM c n 0 l)∧Hid (Ext w wr)) (fun i _=>l.length - (intOf i).toNat)
 case atStart=>exact⟨0,Nat.zero_le _,rfl,rfl,Ext.refl _⟩
 case round =>
  obtain⟨k,hk,rfl,HA,HE⟩:=hrel
  by_cases hlt:k < l.length
  ·obtain⟨z,hzk⟩:∃ z,l[k]?=some z:=⟨_,List.getElem?_eq_getElem hlt⟩
   obtain⟨b,off,rfl,hb,hN⟩:=HX.out (by omega)
   obtain⟨d0,d1,d2,d3,d4⟩:=hN.ext hb HE.out k z hzk
   have hat:=idxM_at (c:=c) (n:=n) hzk
   have HS:Hid (∀ wx:World,Ext w wx→Calls Tryz.prog 147 #[magg z,.pointer (some ⟨B,0,none⟩),.pointer (some ⟨D,0,none⟩)] wx fun e w'=>e = .returned (.bool (keyM c n z))∧Ext wx w'):=fun wx he=>HQ.out wx z he
   unfold magg at HS
   clear hzk hN
   cases hs:keyM c n z with
   | true =>
    have HF:Hid (idxM c n 0 l=k):=by show _=_;rw [← HA.out,hat,if_pos hs]
    rw [hs] at HS
    clear hs hat
    go_wp2_with fail
    refine (HS.out _ HE.out).mono ?_
    rintro e w2 ⟨rfl,hb2⟩
    have HE2:Hid (Ext w w2):=HE.out.trans hb2
    clear hb2 d0 d1 d2 d3 d4
    go_wp2
    go_ret
    exact⟨ret_int HF.out.symm,HE2.out⟩
   | false =>
    have HA2:Hid (idxM c n (k+1) (l.drop (k+1))=idxM c n 0 l):=by show _=_;rw [← HA.out,hat,if_neg (by rw [hs];decide)]
    rw [hs] at HS
    clear hs hat
    go_wp2_with fail
    refine (HS.out _ HE.out).mono ?_
    rintro e w2 ⟨rfl,hb2⟩
    have HE2:Hid (Ext w w2):=HE.out.trans hb2
    clear hb2 d0 d1 d2 d3 d4
    go_wp2
    exact⟨⟨k+1,by omega,by go_num,HA2,HE2⟩,by simp [intOf];omega⟩
  ·exact m92z
/-- The pointer that findMark answers. -/
def FoundM (w:World) (l:List Mk) (c n:Int) (p:Option Addr):Prop :=
 (p=none∧idxM c n 0 l = -1∧l.any (keyM c n)=false)∨∃ b o k z,p=some ⟨b,o,none⟩∧b < w.heap.size∧MAt w b o z∧l[k]?=some z∧idxM c n 0 l=((k:Nat):Int)∧l.any (keyM c n)=true
set_option maxHeartbeats 2000000 in
set_option maxRecDepth 100000 in
theorem findMark_any (v:Value) (l:List Mk) (c n:Int) (w:World) (hS:MSlice w v l) :
  Calls Tryz.prog 75 #[v,.int .i64 c,.int .i64 n] w fun e w'=>∃ p,e = .returned (.pointer p)∧FoundM w l c n p∧Ext w w':=by
 have HI:Hid (∀ (B D:Nat) (wx:World),Ext w wx→wx.cell? ⟨B,0,none⟩=some (.int .i64 c)→wx.cell? ⟨D,0,none⟩=some (.int .i64 n)→Calls Tryz.prog 146 #[v,.func (.func 147) #[] #[.pointer (some ⟨B,0,none⟩),.pointer (some ⟨D,0,none⟩)]] wx fun e w'=>e = .returned (.int .i64 (idxM c n 0 l))∧Ext wx w'):=fun B D wx he h1 h2=>indexMark_any v l B D c n wx (hS.ext he) h1 h2
 obtain⟨a,cap,rfl,hlc,hcm,hx⟩:=hS
 unfold maxLen at hcm
 rcases idxM_is c n l 0 with ⟨q1,q2⟩ | ⟨k,q1,q2,q3,z,q4,q5⟩
 ·have HP:Hid (FoundM w l c n none):=Or.inl ⟨rfl,q1,q2⟩
  rw [q1] at HI
  clear hx q1 q2
  exact m48z
 ·rw [Nat.zero_add] at q2
  obtain⟨b,off,rfl,hb,hN⟩:=hx (by omega)
  have HP:Hid (FoundM w l c n (some ⟨b,off+k * 5,none⟩)):=Or.inr ⟨b,_,k,z,rfl,hb,hN k z q4,q4,q2,by rw [List.any_eq_true];exact⟨z,List.mem_of_getElem? q4,q5⟩⟩
  rw [q2] at HI
  clear hb hN q2 q3 q4 q5
  exact m48z
end Go.Proofs.YtpdejinkmnhioaaGreatDoor
namespace Go.Proofs.YtpdejinkmnhioaaGreatDoor
open Go.RowKit
theorem okM_0 {m:Mk} (h:Ses.idOk m.client=false):okM m=false:=by unfold okM;rw [h];rfl
theorem okM_1 {m:Mk} (h:okNum m.number=false):okM m=false:=by unfold okM;rw [h];simp
theorem okM_2 {m:Mk} (h:okY m.code m.value m.path=false):okM m=false:=by unfold okM;rw [h];simp
theorem okM_3 {m:Mk} (h0:Ses.idOk m.client=true) (h1:okNum m.number=true) (h2:okY m.code m.value m.path=true):okM m=true:=by unfold okM;rw [h0,h1,h2];rfl
/-- The code of one mark behind those ahead. -/
def markC (m:Mk) (ah:List Mk):Int:=if okM m=false then 3 else if ah.any (keyM m.client m.number)=true then 6 else 0
set_option maxHeartbeats 2000000 in
set_option maxRecDepth 100000 in
theorem markFault_any (z:Mk) (v:Value) (l:List Mk) (w:World) (hp:z.path.size≤maxLen) (hS:MSlice w v l) :
  Calls Tryz.prog 91 #[magg z,v] w fun e w'=>e = .returned (.int .i64 (markC z l))∧Ext w w':=by
 have HC:Hid (∀ wx:World,Calls Tryz.prog 57 #[.int .i64 z.client,.int .i64 1,.int .i64 9] wx fun e w'=>e = .returned (.bool (Ses.idOk z.client))∧w'=wx):=fun wx=>within_any _ _ _ _
 have HN:Hid (∀ wx:World,Calls Tryz.prog 57 #[.int .i64 z.number,.int .i64 1,.int .i64 99] wx fun e w'=>e = .returned (.bool (okNum z.number))∧w'=wx):=fun wx=>within_any _ _ _ _
 have HY:Hid (∀ wx:World,Calls Tryz.prog 163 #[.agg #[.int .i64 z.code,.int .i64 z.value,.string z.path]] wx fun e w'=>e = .returned (.bool (okY z.code z.value z.path))∧Ext wx w'):=fun wx=>isReply_any z.code z.value z.path wx hp
 have HM:Hid (∀ wx:World,Ext w wx→Calls Tryz.prog 75 #[v,.int .i64 z.client,.int .i64 z.number] wx fun e w'=>∃ p,e = .returned (.pointer p)∧FoundM wx l z.client z.number p∧Ext wx w'):=fun wx he=>findMark_any v l z.client z.number wx (hS.ext he)
 obtain⟨a,cap,rfl,-⟩:=hS
 obtain⟨R,hR⟩:∃ R,R=markC z l:=⟨_,rfl⟩
 have HR:Hid (R=markC z l):=hR
 rw [← hR]
 clear hR
 cases hc:Ses.idOk z.client with
 | false =>
  have HF:Hid (R=3):=by show _=_;rw [HR.out,markC,if_pos (okM_0 hc)]
  rw [hc] at HC
  clear hc HR
  unfold magg
  go_enter Tryz.func91,Tryz.ntmps91
  go_wp2_with fail
  refine (HC.out _).mono ?_
  rintro e w1 ⟨rfl,hw⟩
  rw [hw]
  clear hw w1
  go_wp2
  go_ret
  exact⟨ret_int HF.out.symm,(Ext.refl _).alloc _⟩
 | true =>
 cases hn:okNum z.number with
 | false =>
  have HF:Hid (R=3):=by show _=_;rw [HR.out,markC,if_pos (okM_1 hn)]
  rw [hc] at HC
  rw [hn] at HN
  clear hc hn HR
  unfold magg
  go_enter Tryz.func91,Tryz.ntmps91
  go_wp2_with fail
  refine (HC.out _).mono ?_
  rintro e w1 ⟨rfl,hw⟩
  rw [hw]
  clear hw w1
  go_wp2_with fail
  refine (HN.out _).mono ?_
  rintro e w1 ⟨rfl,hw⟩
  rw [hw]
  clear hw w1
  go_wp2
  go_ret
  exact⟨ret_int HF.out.symm,(Ext.refl _).alloc _⟩
 | true =>
 cases hy:okY z.code z.value z.path with
 | false =>
  have HF:Hid (R=3):=by show _=_;rw [HR.out,markC,if_pos (okM_2 hy)]
  rw [hc] at HC
  rw [hn] at HN
  rw [hy] at HY
  clear hc hn hy HR
  unfold magg
  go_enter Tryz.func91,Tryz.ntmps91
  go_wp2_with fail
  refine (HC.out _).mono ?_
  rintro e w1 ⟨rfl,hw⟩
  rw [hw]
  clear hw w1
  go_wp2_with fail
  refine (HN.out _).mono ?_
  rintro e w1 ⟨rfl,hw⟩
  rw [hw]
  clear hw w1
  go_wp2_with fail
  refine (HY.out _).mono ?_
  rintro e w1 ⟨rfl,hb⟩
  have HB:Hid (Ext w w1):=((Ext.refl _).alloc _).trans hb
  clear hb
  go_wp2
  go_ret
  exact⟨ret_int HF.out.symm,HB.out⟩
 | true =>
  have HD:Hid (R=if l.any (keyM z.client z.number)=true then 6 else 0):=by show _=_;rw [HR.out,markC,if_neg (by rw [okM_3 hc hn hy];decide)]
  rw [hc] at HC
  rw [hn] at HN
  rw [hy] at HY
  clear hc hn hy HR
  unfold magg
  go_enter Tryz.func91,Tryz.ntmps91
  go_wp2_with fail
  refine (HC.out _).mono ?_
  rintro e w1 ⟨rfl,hw⟩
  rw [hw]
  clear hw w1
  go_wp2_with fail
  refine (HN.out _).mono ?_
  rintro e w1 ⟨rfl,hw⟩
  rw [hw]
  clear hw w1
  go_wp2_with fail
  refine (HY.out _).mono ?_
  rintro e w1 ⟨rfl,hb⟩
  have HB:Hid (Ext w w1):=((Ext.refl _).alloc _).trans hb
  obtain⟨q,⟨q0,q1,q2,q3,q4⟩,-⟩:=(mbox_new w z _).ext hb
  clear hb
  go_wp2_with fail
  refine (HM.out _ HB.out).mono ?_
  rintro e w2 ⟨p,rfl,hp2,hb⟩
  have HB2:Hid (Ext w w2):=HB.out.trans hb
  clear hb q0 q1 q2 q3 q4 q
  rcases hp2 with ⟨rfl,-,h0⟩ | ⟨b,o,k,y,rfl,-,-,-,-,h1⟩
  ·have HF:Hid (R=0):=by show _=_;rw [HD.out,if_neg (by rw [h0];decide)]
   clear h0 HD
   go_wp2
   go_ret
   exact⟨ret_int HF.out.symm,HB2.out⟩
  ·have HF:Hid (R=6):=by show _=_;rw [HD.out,if_pos h1]
   clear h1 HD
   go_wp2
   go_ret
   exact⟨ret_int HF.out.symm,HB2.out⟩
theorem MSlice.take {w:World} {a:Option Addr} {cap:Nat} {l:List Mk} (h:MSlice w (.slice a l.length cap) l) (k:Nat) (hk:k≤l.length):MSlice w (.slice a k cap) (l.take k):=by
 obtain⟨a',cap',e,h2,h3,h4⟩:=h
 injection e with e1 e2 e3
 subst e1 e3
 have hlen:(l.take k).length=k:=by simp;omega
 refine⟨a,cap,by rw [hlen],by rw [hlen];omega,h3,fun h0=>?_⟩
 obtain⟨b,off,e,hb,hN⟩:=h4 (by omega)
 refine⟨b,off,e,hb,fun i z hz=>hN i z ?_⟩
 rw [List.getElem?_take] at hz
 split at hz
 ·exact hz
 ·cases hz
set_option maxHeartbeats 4000000 in
set_option maxRecDepth 100000 in
theorem implStateFault_any (s:Stt) (vn vs vm:Value) (w:World) (hg:Gd w) (hz:s.fits) (hS:SSlice w vn vs vm s) :
  Calls Tryz.prog 37 #[sagg vn vs s.now vm] w fun e w'=>e = .returned (.int .i64 (Sta.fault s))∧Ext w w':=by
 have HT:Hid (∀ wx:World,Ext w wx→Calls Tryz.prog 88 #[vn] wx fun e w'=>e = .returned (.int .i64 (Tre.fault s.nodes))∧Ext wx w'):=fun wx he=>implTreeFault_any vn s.nodes wx (hg.ext he) (hS.1.ext he)
 have HE:Hid (∀ wx:World,Ext w wx→Calls Tryz.prog 89 #[vs] wx fun e w'=>e = .returned (.int .i64 (Ses.fault s.ses))∧Ext wx w'):=fun wx he=>implSessionsFault_any vs s.ses wx (hS.2.1.ext he)
 have HU:Hid (∀ wx:World,Calls Tryz.prog 90 #[.int .i64 s.now,.int .i64 9000] wx fun e w'=>e = .returned (.bool (Ses.nowOk s.now))∧w'=wx):=fun wx=>upTo_any _ _ _
 have HS:Hid (SSlice w vn vs vm s):=hS
 have HZ:Hid s.fits:=hz
 obtain⟨⟨an,cn,rfl,-⟩,⟨ae,cs,rfl,-⟩,⟨am,cm,rfl,hml,hmm,hmx⟩⟩:=hS
 have HX:Hid (0 < s.marks.length→∃ b off,am=some ⟨b,off,none⟩∧b < w.heap.size∧MksAt w b off s.marks):=hmx
 clear hmx hz hg
 unfold maxLen at hmm
 obtain⟨R,hR⟩:∃ R,R=Sta.fault s:=⟨_,rfl⟩
 have HR:Hid (R=Sta.fault s):=hR
 rw [← hR]
 clear hR
 generalize ht:Tre.fault s.nodes=ct at *
 generalize hs:Ses.fault s.ses=ce at *
 generalize hn:Ses.nowOk s.now=cn0 at *
 have T0:Hid (Tre.fault s.nodes=ct):=ht
 have T1:Hid (Ses.fault s.ses=ce):=hs
 have T2:Hid (Ses.nowOk s.now=cn0):=hn
 clear ht hs hn
 unfold sagg
 go_enter Tryz.func37,Tryz.ntmps37
 go_wp2_with fail
 refine (HT.out _ ((Ext.refl _).alloc _)).mono ?_
 rintro e w1 ⟨rfl,hb⟩
 refine n74z ?_
 intro HB XB
 clear hb
 obtain⟨q0,⟨c0,c1,c2,c3⟩,-,-,-,-⟩:=XB.out
 by_cases h0:ct=0
 rotate_left
 ·exact m96z
 subst h0
 go_wp2_with fail
 refine (HE.out _ HB.out).mono ?_
 rintro e w2 ⟨rfl,hb⟩
 have HB2:Hid (Ext w w2):=HB.out.trans hb
 have XB2:Hid (SBoxAt w2 w.heap.size (.slice an s.nodes.length cn) (.slice ae s.ses.length cs) (.int .i64 s.now) (.slice am s.marks.length cm)):=XB.out.ext hb
 clear hb XB HB q0 c0 c1 c2 c3
 obtain⟨q0,⟨c0,c1,c2,c3⟩,-,-,-,-⟩:=XB2.out
 by_cases h1:ce=0
 rotate_left
 ·exact m93z
 subst h1
 go_wp2_with fail
 refine (HU.out _).mono ?_
 rintro e w3 ⟨rfl,hw⟩
 rw [hw]
 clear hw w3
 cases cn0 with
 | false =>
  exact m105z
 | true =>
 by_cases h40:40 < s.marks.length
 ·exact m104z
 have HF:Hid (markFrom [] s.marks=R):=by show _=_;rw [HR.out,Sta.fault_r T0.out T1.out T2.out h40]
 clear HR T0 T1 T2 HT HE HU
 have HK:Hid (∀ (z:Mk) (k:Nat) (wx:World),Ext w wx→z ∈ s.marks→k≤s.marks.length→Calls Tryz.prog 91 #[magg z,.slice am k cm] wx fun e w'=>e = .returned (.int .i64 (markC z (s.marks.take k)))∧Ext wx w'):=fun z k wx he hzm hk=>markFault_any z _ _ wx (HZ.out.2 z hzm) ((HS.out.2.2.ext he).take k hk)
 go_wp2
 go_loopw [31] (fun i wr=>∃ (k:Nat),k≤s.marks.length∧i = .int .i64 k∧Hid (markFrom (s.marks.take k) (s.marks.drop k)=R)∧Hid (SBoxAt wr w.heap.size (.slice an s.nodes.length cn) (.slice ae s.ses.length cs) (.int .i64 s.now) (.slice am s.marks.length cm))∧Hid (Ext w wr)) (fun i _=>s.marks.length - (intOf i).toNat)
 case atStart=>exact⟨0,Nat.zero_le _,rfl,HF.out,XB2.out,HB2.out⟩
 clear XB2 HB2 q0 c0 c1 c2 c3
 obtain⟨k,hk,rfl,HA,XB,HB⟩:=hrel
 obtain⟨q0,⟨c0,c1,c2,c3⟩,-,-,-,-⟩:=XB.out
 by_cases hlt:k < s.marks.length
 ·obtain⟨z,hzk⟩:∃ z,s.marks[k]?=some z:=⟨_,List.getElem?_eq_getElem hlt⟩
  obtain⟨b,off,rfl,hb,hN⟩:=HX.out (by omega)
  obtain⟨d0,d1,d2,d3,d4⟩:=hN.ext hb HB.out k z hzk
  have hat:=markFrom_at hzk
  have HC:Hid (∀ wx:World,Ext w wx→Calls Tryz.prog 91 #[magg z,.slice (some ⟨b,off,none⟩) k cm] wx fun e w'=>e = .returned (.int .i64 (markC z (s.marks.take k)))∧Ext wx w'):=fun wx he=>HK.out z k wx he (List.mem_of_getElem? hzk) hk
  unfold magg at HC
  obtain⟨C,hC⟩:∃ C,C=markC z (s.marks.take k):=⟨_,rfl⟩
  have HCC:Hid (C=markC z (s.marks.take k)):=hC
  rw [← hC] at HC
  have HAT:Hid (C≠0→R=C):=fun h=>by
   rw [← HA.out,hat,HCC.out]
   rw [HCC.out] at h
   unfold markC at h ⊢
   split <;> rename_i g
   ·rfl
   ·rw [if_neg g] at h
    split <;> rename_i g2
    ·rfl
    ·rw [if_neg g2] at h;exact absurd rfl h
  have HAZ:Hid (C=0→markFrom (s.marks.take (k+1)) (s.marks.drop (k+1))=R):=fun h=>by
   rw [← HA.out,hat]
   rw [HCC.out] at h
   unfold markC at h
   split at h <;> rename_i g
   ·cases h
   ·split at h <;> rename_i g2
    ·cases h
    ·rw [if_neg g,if_neg g2]
  clear hat hC HCC hzk hN
  go_wp2
  have mb:=mbox_new wr z 123
  have xb:SBoxAt (wr.alloc (Obj.cells #[.int .i64 z.client,.int .i64 z.number,.int .i64 z.code,.int .i64 z.value,.string z.path] 123)) w.heap.size (.slice an s.nodes.length cn) (.slice ae s.ses.length cs) (.int .i64 s.now) (.slice (some ⟨b,off,none⟩) s.marks.length cm):=XB.out.ext ((Ext.refl wr).alloc _)
  have eb:Ext w (wr.alloc (Obj.cells #[.int .i64 z.client,.int .i64 z.number,.int .i64 z.code,.int .i64 z.value,.string z.path] 123)):=HB.out.alloc _
  generalize wr.alloc (Obj.cells #[.int .i64 z.client,.int .i64 z.number,.int .i64 z.code,.int .i64 z.value,.string z.path] 123)=W1 at *
  have EB:Hid (Ext w W1):=eb
  have XC:Hid (SBoxAt W1 w.heap.size (.slice an s.nodes.length cn) (.slice ae s.ses.length cs) (.int .i64 s.now) (.slice (some ⟨b,off,none⟩) s.marks.length cm)):=xb
  have MB:Hid (MBoxAt W1 wr.heap.size z):=mb
  obtain⟨ml,⟨m0,m1,m2,m3,m4⟩,-⟩:=mb
  have i0:(0:Int)≤(k:Int):=by omega
  have i1:(k:Int)≤(cm:Int):=by omega
  obtain⟨xl,⟨x0,x1,x2,x3⟩,-⟩:=xb
  clear eb XB HB q0 c0 c1 c2 c3 d0 d1 d2 d3 d4
  go_region_held3 (fun W=>W.cell? ⟨wr.heap.size,0,none⟩=some (.int .i64 z.client)∧W.cell? ⟨wr.heap.size,1,none⟩=some (.int .i64 z.number)∧W.cell? ⟨wr.heap.size,2,none⟩=some (.int .i64 z.code)∧W.cell? ⟨wr.heap.size,3,none⟩=some (.int .i64 z.value)∧W.cell? ⟨wr.heap.size,4,none⟩=some (.string z.path)∧W.cell? ⟨w.heap.size,3,none⟩=some (.slice (some ⟨b,off,none⟩) s.marks.length cm)) (first | exact⟨m0,m1,m2,m3,m4,x3⟩ | exact⟨n0,n1,n2,n3,n4,y3⟩ | go_keep) (first | (have tk:=EB;clear tk;go_at_call 91;refine (HC.out _ (by first | exact EB.out.drew | exact EB.out)).mono ?_;rintro e w3 ⟨rfl,hb3⟩;have hb4:Hid (Ext W1 w3):=(by first | exact ((Ext.refl _).drew).trans hb3 | exact hb3);have HB3:Hid (Ext w w3):=EB.out.trans hb4.out;have XB3:Hid (SBoxAt w3 w.heap.size (.slice an s.nodes.length cn) (.slice ae s.ses.length cs) (.int .i64 s.now) (.slice (some ⟨b,off,none⟩) s.marks.length cm)):=XC.out.ext hb4.out;obtain⟨nl,⟨n0,n1,n2,n3,n4⟩,-⟩:=MB.out.ext hb4.out;obtain⟨yl,⟨y0,y1,y2,y3⟩,-⟩:=XB3.out;clear hb3 hb4 EB XC MB m0 m1 m2 m3 m4 x0 x1 x2 x3))
  by_cases h0:C=0
  ·have HA2:Hid _:=HAZ.out h0
   subst h0
   go_wp2
   exact⟨⟨k+1,by omega,by go_num,HA2,XB3,HB3⟩,by simp [intOf];omega⟩
  ·have HG:Hid (R=C):=HAT.out h0
   go_wp2
   go_ret
   exact⟨ret_int HG.out.symm,HB3.out⟩
 ·exact m97z
end Go.Proofs.YtpdejinkmnhioaaGreatDoor
