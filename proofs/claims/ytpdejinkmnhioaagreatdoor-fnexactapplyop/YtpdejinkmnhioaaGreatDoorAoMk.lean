/- scripts that close a goal, or go on from one, in several places. -/
import Derived.Below
import Derived.Carry
import Derived.ChangeOld
import Derived.ChangeSame
import Derived.ChangeVars
import Derived.Deep.AppendSrc
import Derived.Deep.Onto
import Derived.Deep.RegionHeld3
import Derived.Deep.RegionLaw
import Derived.Deep.RegionWith
import Derived.Deep.Slices
import Derived.Defers
import Derived.JoinedOf
import Derived.LaidEql
import Derived.LaidHandle
import Derived.LaidLaws
import Derived.Laws.Append
import Derived.Laws.Externs
import Derived.Laws.IdiomCopy
import Derived.Laws.MakeOwn
import Derived.Laws.OwnMore
import Derived.Lib.AppendZeros
import Derived.Lib.AppendZerosOnto
import Derived.Lib.Bytealg
import Derived.Lib.JoinLaws
import Derived.Lib.LaidTab
import Derived.Lib.Overlaps
import Derived.Lib.SlKeysI
import Derived.Lib.SliceRun
import Derived.Lib.Strings
import Derived.Maps.AppendAt
import Derived.Maps.OwnOps
import Derived.Maps.OwnSet
import Derived.Maps.Views
import Derived.OpenShut
import Derived.ProofKit
import Derived.Recover
import Derived.RowKit
import Derived.RowKitTokens
import Derived.ScopeJumps
import Derived.SevenTiedAt
import Derived.Shelf.LaysM
import Derived.Shelf.SlIterI.Sorted
import Derived.Shelf.SortM.Plain
import Derived.Shelf.SortM.SortNone
import Derived.Shelf.Strconv.Clone
import Derived.Stop.Joined
import Derived.Stop.LaidErr
import Derived.WalkKit
import Derived.WalkLawsBesides
import Derived.WalkMore
import Derived.WalkSpells
namespace Go.Proofs.YtpdejinkmnhioaaGreatDoor
open Go.RowKit
structure Kk (Q:Prop):Prop where
  out:Q
theorem n0z {Q P:Prop} (q:Q) (h:Kk Q→P:=by
  intro kq
  have HS:Hid (NSlice w (.slice (some ⟨b,off,none⟩) zs.length cap) zs):=hS
  have h24:=few_of_ok hf
  have HD:Hid (∀ wx:World,Calls Tryz.prog 111 #[.int .i64 d] wx fun e w'=>e = .returned (.bool (Tre.okData d))∧w'=wx):=l2Data_any d
  have HW:Hid (∀ wx:World,Calls Tryz.prog 171 #[.int .i64 o] wx fun e w'=>e = .returned (.bool (Tre.okOwner o))∧w'=wx):=l2Owner_any o
  have HP:Hid (∀ wx:World,Calls Tryz.prog 172 #[.string p] wx fun e w'=>e = .returned (.string (Tre.par p))∧w'=wx):=fun wx=>l1Parent_any p wx h24
  have HT:Hid (∀ (wx:World) (s:ByteArray),Ext w wx→Calls Tryz.prog 118 #[.slice (some ⟨b,off,none⟩) zs.length cap,.string s] wx fun e w'=>e = .returned (.int .i64 (Tre.atI zs s))∧w'=wx):=fun wx s h=>l2At_any _ zs s wx (hS.ext h)
  have HB0:Hid (∀ (c:Int) (wx:World),Calls Tryz.prog 177 #[.int .i64 c] wx fun e w'=>e = .returned (zr c ⟨#[]⟩ (.slice none 0 0))∧Ext wx w'):=l2Bad_any
  revert HS h24 HD HW HP HT HB0
  exact kq.out):P:=h ⟨q⟩
theorem n1z {Q P:Prop} (q:Q) (h:Kk Q→P:=by
  intro kq
  have X0:Hid (∀ t1 t2 t3,SBoxAt (((w.alloc (.cells #[.slice an s.nodes.length cn,.slice ae s.ses.length ce,.int .i64 s.now,.slice am s.marks.length cm] t1)).alloc (.cells #[.slice none 0 0,.slice none 0 0,.int .i64 0,.slice none 0 0] t2)).alloc (.cells #[.int .i64 0,.int .i64 0,.string ⟨#[]⟩] t3)) w.heap.size (.slice an s.nodes.length cn) (.slice ae s.ses.length ce) (.int .i64 s.now) (.slice am s.marks.length cm)):=fun t1 t2 t3=>(sbox_new w _ _ _ _ t1).ext (((Ext.refl _).alloc _).alloc _)
  have R0:Hid (∀ t1 t2 t3,SBoxAt (((w.alloc (.cells #[.slice an s.nodes.length cn,.slice ae s.ses.length ce,.int .i64 s.now,.slice am s.marks.length cm] t1)).alloc (.cells #[.slice none 0 0,.slice none 0 0,.int .i64 0,.slice none 0 0] t2)).alloc (.cells #[.int .i64 0,.int .i64 0,.string ⟨#[]⟩] t3)) (w.heap.size+1) (.slice none 0 0) (.slice none 0 0) (.int .i64 0) (.slice none 0 0)):=fun t1 t2 t3=>by
   exact m9z
  have Y0:Hid (∀ t1 t2 t3,RyAt (((w.alloc (.cells #[.slice an s.nodes.length cn,.slice ae s.ses.length ce,.int .i64 s.now,.slice am s.marks.length cm] t1)).alloc (.cells #[.slice none 0 0,.slice none 0 0,.int .i64 0,.slice none 0 0] t2)).alloc (.cells #[.int .i64 0,.int .i64 0,.string ⟨#[]⟩] t3)) (w.heap.size+2) (.int .i64 0) (.int .i64 0) (.string ByteArray.empty)):=fun t1 t2 t3=>by
   exact m10z
  have HO:Hid (∀ W,Ext w W→OBoxAt W b z):=fun W he=>hO.ext he
  obtain⟨ob,o0,o1,o2,o3,o4,o5⟩:=id hO
  revert X0 R0 Y0 HO ob o0 o1 o2 o3 o4 o5
  exact kq.out):P:=h ⟨q⟩
theorem n2z {Q P:Prop} (q:Q) (h:Kk Q→P:=by
  intro kq
  have hkl:=(List.getElem?_eq_some_iff.1 hy).1
  have HY:Hid (zs[k]?=some y):=hy
  have HTp:Hid (∀ (wx:World),Ext w wx→Calls Tryz.prog 118 #[.slice (some ⟨b,off,none⟩) zs.length cap,.string (Tre.par p)] wx fun e w'=>e = .returned (.int .i64 k)∧w'=wx):=fun wx h=>by have:=HT.out wx (Tre.par p) h;rw [ha] at this;exact this
  have HDy:Hid (∀ wx:World,Ext w wx→wx.cell? ⟨b,off+k * 5+3,none⟩=some (.int .i64 y.owner)∧wx.cell? ⟨b,off+k * 5+4,none⟩=some (.int .i64 y.next)):=fun wx h=>⟨(HN.out.2.ext HN.out.1 h k y HY.out).2.2.2.1,(HN.out.2.ext HN.out.1 h k y HY.out).2.2.2.2⟩
  revert hkl HY HTp HDy
  exact kq.out):P:=h ⟨q⟩
theorem n3z {Q P:Prop} (q:Q) (h:Kk Q→P:=by
  intro kq
  obtain⟨hxl,⟨x0,x1,x2,x3⟩,xf0,xf1,xf2,xf3⟩:=X0.out 37 37 32
  obtain⟨hrl,⟨r0,r1,r2,r3⟩,rf0,rf1,rf2,rf3⟩:=R0.out 37 37 32
  obtain⟨hyl,⟨y0,y1,y2⟩,yf0,yf1,yf2⟩:=Y0.out 37 37 32
  obtain⟨-,k0,k1,k2,k3,k4,k5⟩:=HO.out _ ((((Ext.refl w).alloc (.cells #[.slice an s.nodes.length cn,.slice ae s.ses.length ce,.int .i64 s.now,.slice am s.marks.length cm] 37)).alloc (.cells #[.slice none 0 0,.slice none 0 0,.int .i64 0,.slice none 0 0] 37)).alloc (.cells #[.int .i64 0,.int .i64 0,.string ⟨#[]⟩] 32))
  have hE0:Hid (Ext w (((w.alloc (.cells #[.slice an s.nodes.length cn,.slice ae s.ses.length ce,.int .i64 s.now,.slice am s.marks.length cm] 37)).alloc (.cells #[.slice none 0 0,.slice none 0 0,.int .i64 0,.slice none 0 0] 37)).alloc (.cells #[.int .i64 0,.int .i64 0,.string ⟨#[]⟩] 32))):=(((Ext.refl w).alloc _).alloc _).alloc _
  revert hxl x0 x1 x2 x3 xf0 xf1 xf2 xf3 hrl r0 r1 r2 r3 rf0 rf1 rf2 rf3 hyl y0 y1 y2 yf0 yf1 yf2 k0 k1 k2 k3 k4 k5 hE0
  exact kq.out):P:=h ⟨q⟩
theorem n4z {Q P:Prop} (q:Q) (h:Kk Q→P:=by
  intro kq
  have HSq:Hid (∀ wx:World,Calls Tryz.prog 180 #[.string (p.extract (Pth.lastSl p.data.toList 0 0+1) p.size),.int .i64 y.next] wx fun e w'=>e = .returned (.string (Tre.seqN p y.next))∧Ext wx w'):=fun wx=>l1Seq_any _ y.next wx (by simp [ByteArray.size_extract];omega) hn0 (by omega)
  have hsn:=Tre.seqN_size p y.next
  have hps:=Tre.par_size p
  have HNm:Hid (∀ wx:World,Calls Tryz.prog 179 #[.string (Tre.seqN p y.next)] wx fun e w'=>e = .returned (.bool (Pth.okName (Tre.seqN p y.next).data.toList))∧w'=wx):=fun wx=>l1Name_any _ wx (by unfold maxLen;omega)
  have HJ:Hid (∀ wx:World,Calls Tryz.prog 181 #[.string (Tre.par p),.string (Tre.seqN p y.next)] wx fun e w'=>e = .returned (.string (Tre.seqP p y.next))∧w'=wx):=fun wx=>l1Join_any _ _ wx (by omega) (by omega)
  have HFt:Hid (∀ wx:World,Calls Tryz.prog 110 #[.string (Tre.seqP p y.next)] wx fun e w'=>e = .returned (.int .i64 (Pth.faultI (Tre.seqP p y.next).data.toList))∧Ext wx w'):=l1FaultI_any _
  revert HSq hsn hps HNm HJ HFt
  exact kq.out):P:=h ⟨q⟩
theorem n5z {Q P:Prop} (q:Q) (h:Kk Q→P:=by
  intro kq
  have E1:Hid (Ext w w1):=by show Ext w w1;rw [← hw1];exact (Ext.refl _).alloc _
  have R1:Hid (RyAt w1 w.heap.size (.int .i64 0) (.int .i64 0) (.string ByteArray.empty)):=by show RyAt w1 w.heap.size _ _ _;rw [← hw1];exact ry_new _ _ _ _ _
  revert E1 R1
  exact kq.out):P:=h ⟨q⟩
theorem n6z {Q P:Prop} (q:Q) (h:Kk Q→P:=by
  intro kq
  have HC:Hid (∀ wx:World,Ext w wx→Calls Tryz.prog 121 #[.slice (some ⟨b,off,none⟩) zs.length cap] wx fun e w'=>∃ v' g,e = .returned v'∧wx.heap.size≤g∧Own w' v' g zs∧Ext wx w'):=fun wx h=>l2Copy_any _ zs wx (hS.ext h) (by omega) hp
  revert HC
  exact kq.out):P:=h ⟨q⟩
theorem n7z {Q P:Prop} (q:Q) (h:Kk Q→P:=by
  intro kq
  have HB0:Hid (∀ (c:Int) (wx:World),Calls Tryz.prog 177 #[.int .i64 c] wx fun e w'=>e = .returned (zr c ⟨#[]⟩ (.slice none 0 0))∧Ext wx w'):=l2Bad_any
  revert HB0
  exact kq.out):P:=h ⟨q⟩
theorem n8z {Q P:Prop} (q:Q) (h:Kk Q→P:=by
  intro kq
  have HL:Hid (∀ wx,Ext w wx→Calls Tryz.prog 113 #[.slice ae s.ses.length ce,.int .i64 c,.int .i64 s.now] wx fun e w'=>e = .returned (.bool true)∧w'=wx):=fun wx he=>by have h:=l4Live_any (.slice ae s.ses.length ce) s.ses c s.now wx (hS.2.1.ext he);rw [hl] at h;exact h
  revert HL
  exact kq.out):P:=h ⟨q⟩
theorem n9z {Q P:Prop} (q:Q) (h:Kk Q→P:=by
  intro kq
  obtain⟨hxl,⟨x0,x1,x2,x3⟩,xf0,xf1,xf2,xf3⟩:=X0.out 37 37 32
  obtain⟨hrl,⟨r0,r1,r2,r3⟩,rf0,rf1,rf2,rf3⟩:=R0.out 37 37 32
  obtain⟨hyl,⟨y0,y1,y2⟩,yf0,yf1,yf2⟩:=Y0.out 37 37 32
  revert hxl x0 x1 x2 x3 xf0 xf1 xf2 xf3 hrl r0 r1 r2 r3 rf0 rf1 rf2 rf3 hyl y0 y1 y2 yf0 yf1 yf2
  exact kq.out):P:=h ⟨q⟩
theorem n10z {Q P:Prop} (q:Q) (h:Kk Q→P:=by
  intro kq
  have E1:Hid (Ext w w1):=by show Ext w w1;rw [← hw1];exact (((Ext.refl w).alloc _).alloc _).alloc _
  have X1:Hid (SBoxAt w1 w.heap.size (.slice an s.nodes.length cn) (.slice ae s.ses.length ce) (.int .i64 s.now) (.slice am s.marks.length cm)):=by show SBoxAt w1 _ _ _ _ _;rw [← hw1];exact X0.out _ _ _
  have R1:Hid (SBoxAt w1 (w.heap.size+1) (.slice none 0 0) (.slice none 0 0) (.int .i64 0) (.slice none 0 0)):=by show SBoxAt w1 _ _ _ _ _;rw [← hw1];exact R0.out _ _ _
  have Y1:Hid (RyAt w1 (w.heap.size+2) (.int .i64 0) (.int .i64 0) (.string ByteArray.empty)):=by show RyAt w1 _ _ _ _;rw [← hw1];exact Y0.out _ _ _
  revert E1 X1 R1 Y1
  exact kq.out):P:=h ⟨q⟩
theorem n11z {Q P:Prop} (q:Q) (h:Kk Q→P:=by
  intro kq
  have c1:w.cell? ⟨b,off+1,none⟩=some (.string p):=hO.2.1
  have c2:w.cell? ⟨b,off+2,none⟩=some (.int .i64 d):=hO.2.2.1
  have c3:w.cell? ⟨b,off+3,none⟩=some (.int .i64 v):=hO.2.2.2.1
  have c4:w.cell? ⟨b,off+4,none⟩=some (.bool s):=hO.2.2.2.2.1
  have c5:w.cell? ⟨b,off+5,none⟩=some (.bool q):=hO.2.2.2.2.2
  revert c1 c2 c3 c4 c5
  exact kq.out):P:=h ⟨q⟩
theorem n12z {Q P:Prop} (q:Q) (h:Kk Q→P:=by
  intro kq
  have HO:Hid (Own w3 (.slice (some ⟨g,off3,none⟩) zs.length cap3) g zs):=hO
  have HG:Hid (w.heap.size+1≤g):=by have h:=hg;simp at h;exact h
  have HQ:Hid (RBox w3 w.heap.size):=(RBox.new w _).ext hb3
  have HB3:Hid (Ext w w3):=((Ext.refl _).alloc _).trans hb3
  revert HO HG HQ HB3
  exact kq.out):P:=h ⟨q⟩
theorem n13z {Q P:Prop} (q:Q) (h:Kk Q→P:=by
  intro kq
  have HS:Hid (∀ W,Ext w W→W.cell? ⟨B,0,none⟩=some (.slice an s.nodes.length cn)∧W.cell? ⟨b,1,none⟩=some (.string z.path)):=fun W he=>⟨(hX.ext he).2.1.1,(hO.ext he).2.2.1⟩
  have HK:Hid (∀ W,Ext w W→W.cell? ⟨b,0,none⟩=some (.int .i64 z.kind)∧W.cell? ⟨b,3,none⟩=some (.int .i64 z.version)):=fun W he=>⟨(hO.ext he).2.1,(hO.ext he).2.2.2.2.1⟩
  revert HS HK
  exact kq.out):P:=h ⟨q⟩
theorem n14z {Q P:Prop} (q:Q) (h:Kk Q→P:=by
  intro kq
  have HK:Hid (∀ wx:World,Ext w wx→Calls Tryz.prog 183 #[.slice a zs.length cap,.string p] wx fun e w'=>∃ v' g,e = .returned v'∧wx.heap.size≤g∧TOwn w' v' g (Tre.kids zs p)∧Ext wx w'):=fun wx h=>l2Kids_any _ zs p wx (hS.ext h) hl hf
  have HT:Hid (∀ wx:World,Ext w wx→Calls Tryz.prog 118 #[.slice a zs.length cap,.string p] wx fun e w'=>e = .returned (.int .i64 (Tre.atI zs p))∧w'=wx):=fun wx h=>l2At_any _ zs p wx (hS.ext h)
  revert HK HT
  exact kq.out):P:=h ⟨q⟩
theorem n15z {Q P:Prop} (q:Q) (h:Kk Q→P:=by
  intro kq
  rintro e w1 ⟨rfl,hb⟩
  have hz:w.heap.size+1≤w1.heap.size:=by have:=hb.size;simpa using this
  have HB:Hid (Ext (w.alloc (.cells #[.int .i64 0,.string ByteArray.empty] 303)) w1):=hb
  revert w1 hb hz HB
  exact kq.out):P:=h ⟨q⟩
theorem n16z {Q P:Prop} (q:Q) (h:Kk Q→P:=by
  intro kq
  have R1:Hid (SBoxAt w1 (w.heap.size+1) (.slice none 0 0) (.slice none 0 0) (.int .i64 0) (.slice none 0 0)):=by show SBoxAt w1 _ _ _ _ _;rw [← hw1];exact R0.out _ _ _
  have Y1:Hid (RyAt w1 (w.heap.size+2) (.int .i64 0) (.int .i64 0) (.string ByteArray.empty)):=by show RyAt w1 _ _ _ _;rw [← hw1];exact Y0.out _ _ _
  revert R1 Y1
  exact kq.out):P:=h ⟨q⟩
theorem n17z {Q P:Prop} (q:Q) (h:Kk Q→P:=by
  intro kq
  have HAt:Hid (∀ wx,Ext w wx→Calls Tryz.prog 118 #[vn,.string z.path] wx fun e w'=>e = .returned (.int .i64 (Tre.atI s.nodes z.path))∧w'=wx):=fun wx he=>l2At_any vn s.nodes z.path wx (hS.ext he)
  have hkl:=(List.getElem?_eq_some_iff.1 hz).1
  have HN:Hid (∃ bb off,(∃ cp,vn = .slice (some ⟨bb,off,none⟩) s.nodes.length cp∧s.nodes.length≤cp)∧∀ W,Ext w W→W.cell? ⟨bb,off+k * 5+1,none⟩=some (.int .i64 y.data)∧W.cell? ⟨bb,off+k * 5+2,none⟩=some (.int .i64 y.version)):=by
   exact m20z
  revert HAt hkl HN
  exact kq.out):P:=h ⟨q⟩
theorem n18z {Q P:Prop} (q:Q) (h:Kk Q→P:=by
  intro kq
  have X0:Hid (∀ t1 t2 t3,SBoxAt (((w.alloc (.cells #[.slice an s.nodes.length cn,.slice (some ⟨bb,off,none⟩) s.ses.length ce,.int .i64 s.now,.slice am s.marks.length cm] t1)).alloc (.cells #[.slice none 0 0,.slice none 0 0,.int .i64 0,.slice none 0 0] t2)).alloc (.cells #[.int .i64 0,.int .i64 0,.string ⟨#[]⟩] t3)) w.heap.size (.slice an s.nodes.length cn) (.slice (some ⟨bb,off,none⟩) s.ses.length ce) (.int .i64 s.now) (.slice am s.marks.length cm)):=fun t1 t2 t3=>(sbox_new w _ _ _ _ t1).ext (((Ext.refl _).alloc _).alloc _)
  have R0:Hid (∀ t1 t2 t3,SBoxAt (((w.alloc (.cells #[.slice an s.nodes.length cn,.slice (some ⟨bb,off,none⟩) s.ses.length ce,.int .i64 s.now,.slice am s.marks.length cm] t1)).alloc (.cells #[.slice none 0 0,.slice none 0 0,.int .i64 0,.slice none 0 0] t2)).alloc (.cells #[.int .i64 0,.int .i64 0,.string ⟨#[]⟩] t3)) (w.heap.size+1) (.slice none 0 0) (.slice none 0 0) (.int .i64 0) (.slice none 0 0)):=fun t1 t2 t3=>by
   exact m40z
  have Y0:Hid (∀ t1 t2 t3,RyAt (((w.alloc (.cells #[.slice an s.nodes.length cn,.slice (some ⟨bb,off,none⟩) s.ses.length ce,.int .i64 s.now,.slice am s.marks.length cm] t1)).alloc (.cells #[.slice none 0 0,.slice none 0 0,.int .i64 0,.slice none 0 0] t2)).alloc (.cells #[.int .i64 0,.int .i64 0,.string ⟨#[]⟩] t3)) (w.heap.size+2) (.int .i64 0) (.int .i64 0) (.string ByteArray.empty)):=fun t1 t2 t3=>by
   exact m45z
  have HO:Hid (∀ W,Ext w W→OBoxAt W b z):=fun W he=>hO.ext he
  obtain⟨ob,o0,o1,o2,o3,o4,o5⟩:=id hO
  revert X0 R0 Y0 HO ob o0 o1 o2 o3 o4 o5
  exact kq.out):P:=h ⟨q⟩
theorem n19z {Q P:Prop} (q:Q) (h:Kk Q→P:=by
  intro kq
  have X0:Hid (∀ t1 t2 t3,SBoxAt (((w.alloc (.cells #[.slice (some ⟨bb,off,none⟩) s.nodes.length cn,.slice ae s.ses.length ce,.int .i64 s.now,.slice am s.marks.length cm] t1)).alloc (.cells #[.slice none 0 0,.slice none 0 0,.int .i64 0,.slice none 0 0] t2)).alloc (.cells #[.int .i64 0,.int .i64 0,.string ⟨#[]⟩] t3)) w.heap.size (.slice (some ⟨bb,off,none⟩) s.nodes.length cn) (.slice ae s.ses.length ce) (.int .i64 s.now) (.slice am s.marks.length cm)):=fun t1 t2 t3=>(sbox_new w _ _ _ _ t1).ext (((Ext.refl _).alloc _).alloc _)
  have R0:Hid (∀ t1 t2 t3,SBoxAt (((w.alloc (.cells #[.slice (some ⟨bb,off,none⟩) s.nodes.length cn,.slice ae s.ses.length ce,.int .i64 s.now,.slice am s.marks.length cm] t1)).alloc (.cells #[.slice none 0 0,.slice none 0 0,.int .i64 0,.slice none 0 0] t2)).alloc (.cells #[.int .i64 0,.int .i64 0,.string ⟨#[]⟩] t3)) (w.heap.size+1) (.slice none 0 0) (.slice none 0 0) (.int .i64 0) (.slice none 0 0)):=fun t1 t2 t3=>by
   exact m41z
  have Y0:Hid (∀ t1 t2 t3,RyAt (((w.alloc (.cells #[.slice (some ⟨bb,off,none⟩) s.nodes.length cn,.slice ae s.ses.length ce,.int .i64 s.now,.slice am s.marks.length cm] t1)).alloc (.cells #[.slice none 0 0,.slice none 0 0,.int .i64 0,.slice none 0 0] t2)).alloc (.cells #[.int .i64 0,.int .i64 0,.string ⟨#[]⟩] t3)) (w.heap.size+2) (.int .i64 0) (.int .i64 0) (.string ByteArray.empty)):=fun t1 t2 t3=>by
   exact m46z
  have HO:Hid (∀ W,Ext w W→OBoxAt W b z):=fun W he=>hO.ext he
  obtain⟨ob,o0,o1,o2,o3,o4,o5⟩:=id hO
  revert X0 R0 Y0 HO ob o0 o1 o2 o3 o4 o5
  exact kq.out):P:=h ⟨q⟩
theorem n20z {Q P:Prop} (q:Q) (h:Kk Q→P:=by
  intro kq
  have X0:Hid (∀ t1 t2 t3,SBoxAt (((w.alloc (.cells #[.slice an s.nodes.length cn,.slice ae s.ses.length ce,.int .i64 s.now,.slice am s.marks.length cm] t1)).alloc (.cells #[.int .i64 z.kind,.string z.path,.int .i64 z.data,.int .i64 z.version,.bool z.seq,.bool z.own] t2)).alloc (.cells #[.int .i64 0,.int .i64 0,.int .i64 0,.string ⟨#[]⟩,.slice none 0 0,.slice none 0 0,.int .i64 0,.slice none 0 0] t3)) w.heap.size (.slice an s.nodes.length cn) (.slice ae s.ses.length ce) (.int .i64 s.now) (.slice am s.marks.length cm)):=fun t1 t2 t3=>(sbox_new w _ _ _ _ t1).ext (((Ext.refl _).alloc _).alloc _)
  have O0:Hid (∀ t1 t2 t3,OBoxAt (((w.alloc (.cells #[.slice an s.nodes.length cn,.slice ae s.ses.length ce,.int .i64 s.now,.slice am s.marks.length cm] t1)).alloc (.cells #[.int .i64 z.kind,.string z.path,.int .i64 z.data,.int .i64 z.version,.bool z.seq,.bool z.own] t2)).alloc (.cells #[.int .i64 0,.int .i64 0,.int .i64 0,.string ⟨#[]⟩,.slice none 0 0,.slice none 0 0,.int .i64 0,.slice none 0 0] t3)) (w.heap.size+1) z):=fun t1 t2 t3=>by
   exact m44z
  have R0:Hid (∀ t1 t2 t3,RZ (((w.alloc (.cells #[.slice an s.nodes.length cn,.slice ae s.ses.length ce,.int .i64 s.now,.slice am s.marks.length cm] t1)).alloc (.cells #[.int .i64 z.kind,.string z.path,.int .i64 z.data,.int .i64 z.version,.bool z.seq,.bool z.own] t2)).alloc (.cells #[.int .i64 0,.int .i64 0,.int .i64 0,.string ⟨#[]⟩,.slice none 0 0,.slice none 0 0,.int .i64 0,.slice none 0 0] t3)) (w.heap.size+2)):=fun t1 t2 t3=>by
   exact m50z
  revert X0 O0 R0
  exact kq.out):P:=h ⟨q⟩
theorem n21z {Q P:Prop} (q:Q) (h:Kk Q→P:=by
  intro kq
  have hi9:(Tryz.prog.info? 144).map (fun i=>(i.zero,i.size,i.bytes))=some (some (.agg #[.string ByteArray.empty,.int .i64 0,.int .i64 0,.int .i64 0,.int .i64 0]),5,48):=by kernel_rfl
  revert hi9
  exact kq.out):P:=h ⟨q⟩
theorem n22z {Q P:Prop} (q:Q) (h:Kk Q→P:=by
  intro kq
  have HX:Hid (SBoxAt w B (.slice an s.nodes.length cn) vs (.int .i64 s.now) vm):=hX
  have HH:Hid (SHas n K w (.slice an s.nodes.length cn) vs vm s):=hH
  have hBl:B < w.heap.size:=hX.1
  revert HX HH hBl
  exact kq.out):P:=h ⟨q⟩
theorem n23z {Q P:Prop} (q:Q) (h:Kk Q→P:=by
  intro kq
  have HS7:Hid (Own (w6.setCell ⟨g,off3+k * 5+4,none⟩ (.int .i64 (y.next+1))) (.slice (some ⟨g,off3,none⟩) zs.length cap3) g (zs.set k { y with next:=y.next+1 })):=HO6.out.field HY.out 4 (by omega) (.int .i64 (y.next+1)) { y with next:=y.next+1 } rfl
  have HB7s:Hid (Ext w (w6.setCell ⟨g,off3+k * 5+4,none⟩ (.int .i64 (y.next+1)))):=HB6.out.setCell (p:=⟨g,off3+k * 5+4,none⟩) (by have:=HG.out;show _≤g;omega) _
  have HQ7s:Hid (RBox (w6.setCell ⟨g,off3+k * 5+4,none⟩ (.int .i64 (y.next+1))) w.heap.size):=HQ6.out.updS ((Upd.refl g w6).setAt _ _) (by have:=HG.out;omega)
  revert HS7 HB7s HQ7s
  exact kq.out):P:=h ⟨q⟩
theorem n24z {Q P:Prop} (q:Q) (h:Kk Q→P:=by
  intro kq
  have hmf:∀ (fn:Fn) (first cap:Array Value) (w:World),(Instr.makeFunc fn first cap).run Tryz.prog w = .ok (.func fn first cap) w:=fun _ _ _ _=>rfl
  revert hmf
  exact kq.out):P:=h ⟨q⟩
theorem n25z {Q P:Prop} (q:Q) (h:Kk Q→P:=by
  intro kq
  have HS1:Hid (∀ W,Ext w1 W→W.cell? ⟨B,0,none⟩=some (.slice an s.nodes.length cn)∧W.cell? ⟨D,0,none⟩=some (.string p)):=fun W he=>HS.out W (E1.out.trans he)
  obtain⟨s0,s1⟩:=HS1.out w1 (Ext.refl _)
  revert HS1 s0 s1
  exact kq.out):P:=h ⟨q⟩
theorem n26z {Q P:Prop} (q:Q) (h:Kk Q→P:=by
  intro kq
  have HX:Hid (0 < zs.length→∃ b off,a=some ⟨b,off,none⟩∧b < w.heap.size∧NodesAt w b off zs):=hx
  revert HX
  exact kq.out):P:=h ⟨q⟩
theorem n27z {Q P:Prop} (q:Q) (h:Kk Q→P:=by
  intro kq
  have HSx:Hid (∀ W,Ext wq W→W.cell? ⟨w.heap.size,0,none⟩=some (.slice (some ⟨bb,off,none⟩) s.nodes.length cn)∧W.cell? ⟨w.heap.size,1,none⟩=some (.slice ae s.ses.length ce)∧W.cell? ⟨w.heap.size,2,none⟩=some (.int .i64 s.now)∧W.cell? ⟨w.heap.size,3,none⟩=some (.slice am s.marks.length cm)∧W.cell? ⟨b,1,none⟩=some (.string z.path)∧W.cell? ⟨b,2,none⟩=some (.int .i64 z.data)∧W.cell? ⟨b,3,none⟩=some (.int .i64 z.version)):=fun W he=>⟨((Ext.cell he).1 _ _ (World.block_lt_of_cell? _ _ x0)).trans x0,((Ext.cell he).1 _ _ (World.block_lt_of_cell? _ _ x1)).trans x1,((Ext.cell he).1 _ _ (World.block_lt_of_cell? _ _ x2)).trans x2,((Ext.cell he).1 _ _ (World.block_lt_of_cell? _ _ x3)).trans x3,((Ext.cell he).1 _ _ (World.block_lt_of_cell? _ _ k1)).trans k1,((Ext.cell he).1 _ _ (World.block_lt_of_cell? _ _ k2)).trans k2,((Ext.cell he).1 _ _ (World.block_lt_of_cell? _ _ k3)).trans k3⟩
  revert HSx
  exact kq.out):P:=h ⟨q⟩
theorem n28z {Q P:Prop} (q:Q) (h:Kk Q→P:=by
  intro kq
  have HB:Hid (Ext (w.alloc (.cells #[.int .i64 0,.string ByteArray.empty] 303)) w1):=hb
  revert HB
  exact kq.out):P:=h ⟨q⟩
theorem n29z {Q P:Prop} (q:Q) (h:Kk Q→P:=by
  intro kq
  rintro e w2 ⟨rfl,hb⟩
  have HB2:Hid (Ext (w.alloc (.cells #[.int .i64 0,.string ByteArray.empty] 303)) w2):=(HB.out.alloc _).trans hb
  revert w2 hb HB2
  exact kq.out):P:=h ⟨q⟩
theorem n30z {Q P:Prop} (q:Q) (h:Kk Q→P:=by
  intro kq
  have HAt:Hid (∀ wx,Ext w wx→Calls Tryz.prog 118 #[vn,.string z.path] wx fun e w'=>e = .returned (.int .i64 (Tre.atI s.nodes z.path))∧w'=wx):=fun wx he=>l2At_any vn s.nodes z.path wx (hS.ext he)
  revert HAt
  exact kq.out):P:=h ⟨q⟩
theorem n31z {Q P:Prop} (q:Q) (h:Kk Q→P:=by
  intro kq
  refine (HSq.out _).mono ?_
  rintro e w4 ⟨rfl,hb4⟩
  have HB4:Hid (Ext w w4):=HB3.out.trans hb4
  have HQ4:Hid (RBox w4 w.heap.size):=HQ.out.ext hb4
  have HO4:Hid (Own w4 (.slice (some ⟨g,off3,none⟩) zs.length cap3) g zs):=HO.out.ext hb4
  clear hb4
  revert w4 HB4 HQ4 HO4
  exact kq.out):P:=h ⟨q⟩
theorem n32z {Q P:Prop} (q:Q) (h:Kk Q→P:=by
  intro kq
  have HSx:Hid (∀ W,Ext w1 W→W.cell? ⟨w.heap.size,0,none⟩=some (.slice an s.nodes.length cn)∧W.cell? ⟨w.heap.size,1,none⟩=some (.slice ae s.ses.length ce)∧W.cell? ⟨w.heap.size,2,none⟩=some (.int .i64 s.now)∧W.cell? ⟨w.heap.size,3,none⟩=some (.slice am s.marks.length cm)∧W.cell? ⟨b,1,none⟩=some (.string z.path)∧W.cell? ⟨b,3,none⟩=some (.int .i64 z.version)):=fun W he=>⟨((Ext.cell he).1 _ _ (World.block_lt_of_cell? _ _ x0)).trans x0,((Ext.cell he).1 _ _ (World.block_lt_of_cell? _ _ x1)).trans x1,((Ext.cell he).1 _ _ (World.block_lt_of_cell? _ _ x2)).trans x2,((Ext.cell he).1 _ _ (World.block_lt_of_cell? _ _ x3)).trans x3,((Ext.cell he).1 _ _ (World.block_lt_of_cell? _ _ k1)).trans k1,((Ext.cell he).1 _ _ (World.block_lt_of_cell? _ _ k3)).trans k3⟩
  revert HSx
  exact kq.out):P:=h ⟨q⟩
theorem n33z {Q P:Prop} (q:Q) (h:Kk Q→P:=by
  intro kq
  have HL:Hid (∀ wx:World,Ext w wx→Calls Tryz.prog 255 #[v,.string p] wx fun e w'=>e = .returned (.int .i64 (Tre.asked zs p))∧Ext wx w'):=fun wx h=>treeOrPath_any v zs p wx (hg.ext h) (hS.ext h)
  revert HL
  exact kq.out):P:=h ⟨q⟩
theorem n34z {Q P:Prop} (q:Q) (h:Kk Q→P:=by
  intro kq
  obtain⟨-,k0,k1,k2,k3,k4,k5⟩:=HO.out _ ((((Ext.refl w).alloc (.cells #[.slice an s.nodes.length cn,.slice (some ⟨bb,off,none⟩) s.ses.length ce,.int .i64 s.now,.slice am s.marks.length cm] 37)).alloc (.cells #[.slice none 0 0,.slice none 0 0,.int .i64 0,.slice none 0 0] 37)).alloc (.cells #[.int .i64 0,.int .i64 0,.string ⟨#[]⟩] 32))
  have hE0:Hid (Ext w (((w.alloc (.cells #[.slice an s.nodes.length cn,.slice (some ⟨bb,off,none⟩) s.ses.length ce,.int .i64 s.now,.slice am s.marks.length cm] 37)).alloc (.cells #[.slice none 0 0,.slice none 0 0,.int .i64 0,.slice none 0 0] 37)).alloc (.cells #[.int .i64 0,.int .i64 0,.string ⟨#[]⟩] 32))):=(((Ext.refl w).alloc _).alloc _).alloc _
  revert k0 k1 k2 k3 k4 k5 hE0
  exact kq.out):P:=h ⟨q⟩
theorem n35z {Q P:Prop} (q:Q) (h:Kk Q→P:=by
  intro kq
  obtain⟨-,k0,k1,k2,k3,k4,k5⟩:=HO.out _ ((((Ext.refl w).alloc (.cells #[.slice (some ⟨bb,off,none⟩) s.nodes.length cn,.slice ae s.ses.length ce,.int .i64 s.now,.slice am s.marks.length cm] 37)).alloc (.cells #[.slice none 0 0,.slice none 0 0,.int .i64 0,.slice none 0 0] 37)).alloc (.cells #[.int .i64 0,.int .i64 0,.string ⟨#[]⟩] 32))
  have hE0:Hid (Ext w (((w.alloc (.cells #[.slice (some ⟨bb,off,none⟩) s.nodes.length cn,.slice ae s.ses.length ce,.int .i64 s.now,.slice am s.marks.length cm] 37)).alloc (.cells #[.slice none 0 0,.slice none 0 0,.int .i64 0,.slice none 0 0] 37)).alloc (.cells #[.int .i64 0,.int .i64 0,.string ⟨#[]⟩] 32))):=(((Ext.refl w).alloc _).alloc _).alloc _
  revert k0 k1 k2 k3 k4 k5 hE0
  exact kq.out):P:=h ⟨q⟩
theorem n36z {Q P:Prop} (q:Q) (h:Kk Q→P:=by
  intro kq
  have hll:=lastSl_le2 p hf ht
  have HL:Hid (∀ wx:World,Calls Tryz.prog 178 #[.string p] wx fun e w'=>e = .returned (.int .i64 (Pth.lastSl p.data.toList 0 0:Nat))∧w'=wx):=fun wx=>l1Last_any p wx h24
  revert hll HL
  exact kq.out):P:=h ⟨q⟩
theorem n37z {Q P:Prop} (q:Q) (h:Kk Q→P:=by
  intro kq
  have hdy:=(HDy.out _ ((Ext.refl w).alloc (.cells #[.int .i64 0,.string ⟨#[]⟩,.slice none 0 0] 148))).1
  revert hdy
  exact kq.out):P:=h ⟨q⟩
theorem n38z {Q P:Prop} (q:Q) (h:Kk Q→P:=by
  intro kq
  refine (HSq.out _).mono ?_
  rintro e w5 ⟨rfl,hb5⟩
  have HB5:Hid (Ext w w5):=HB4.out.trans hb5
  have HQ5:Hid (RBox w5 w.heap.size):=HQ4.out.ext hb5
  have HO5:Hid (Own w5 (.slice (some ⟨g,off3,none⟩) zs.length cap3) g zs):=HO4.out.ext hb5
  clear hb5
  revert w5 HB5 HQ5 HO5
  exact kq.out):P:=h ⟨q⟩
theorem n39z {Q P:Prop} (q:Q) (h:Kk Q→P:=by
  intro kq
  refine (HFt.out _).mono ?_
  rintro e w6 ⟨rfl,hb6⟩
  have HB6:Hid (Ext w w6):=HB5.out.trans hb6
  have HQ6:Hid (RBox w6 w.heap.size):=HQ5.out.ext hb6
  have HO6:Hid (Own w6 (.slice (some ⟨g,off3,none⟩) zs.length cap3) g zs):=HO5.out.ext hb6
  clear hb6
  revert w6 HB6 HQ6 HO6
  exact kq.out):P:=h ⟨q⟩
theorem n40z {Q P:Prop} (q:Q) (h:Kk Q→P:=by
  intro kq
  have EQ:Hid (Ext w wq):=by show Ext w wq;rw [← hwq];exact E1.out.trans (Ext.refl _).drew
  have XQ:Hid (SBoxAt wq w.heap.size (.slice (some ⟨bb,off,none⟩) s.nodes.length cn) (.slice ae s.ses.length ce) (.int .i64 s.now) (.slice am s.marks.length cm)):=by show SBoxAt wq _ _ _ _ _;rw [← hwq];exact X1.out.ext (Ext.refl _).drew
  have RQ:Hid (SBoxAt wq (w.heap.size+1) (.slice none 0 0) (.slice none 0 0) (.int .i64 0) (.slice none 0 0)):=by show SBoxAt wq _ _ _ _ _;rw [← hwq];exact R1.out.ext (Ext.refl _).drew
  have YQ:Hid (RyAt wq (w.heap.size+2) (.int .i64 0) (.int .i64 0) (.string ByteArray.empty)):=by show RyAt wq _ _ _ _;rw [← hwq];exact Y1.out.ext (Ext.refl _).drew
  revert EQ XQ RQ YQ
  exact kq.out):P:=h ⟨q⟩
theorem n41z {Q P:Prop} (q:Q) (h:Kk Q→P:=by
  intro kq
  have E5:Hid (Ext w w5):=hE0.out.trans hb5
  have O5:Hid (EOwn w5 (.slice a5 rs.length c5) g5 rs):=hO5
  have X5:Hid (SBoxAt w5 w.heap.size (.slice an s.nodes.length cn) (.slice (some ⟨bb,off,none⟩) s.ses.length ce) (.int .i64 s.now) (.slice am s.marks.length cm)):=(X0.out _ _ _).ext hb5
  have R5:Hid (SBoxAt w5 (w.heap.size+1) (.slice none 0 0) (.slice none 0 0) (.int .i64 0) (.slice none 0 0)):=(R0.out _ _ _).ext hb5
  have Y5:Hid (RyAt w5 (w.heap.size+2) (.int .i64 0) (.int .i64 0) (.string ByteArray.empty)):=(Y0.out _ _ _).ext hb5
  have hg9:w.heap.size+3≤g5:=by simp only [World.size_alloc] at hg5;omega
  revert E5 O5 X5 R5 Y5 hg9
  exact kq.out):P:=h ⟨q⟩
theorem n42z {Q P:Prop} (q:Q) (h:Kk Q→P:=by
  intro kq
  have hb:=hFX.1
  have A0_83:=hxbx A0_75 hb
  have A2_84:=hxbx A2_76 hb
  have E_85:=hxE E_77 hb
  have Bp_86:=hxbx Bp_78 hb
  have Rp_87:=hxat Rp_79 hb
  have XB0_88:=hxbx XB0_80 hb
  have Bg_89:=hxbx Bg_81 hb
  have Mg_90:=hxat Mg_82 hb
  revert hb A0_83 A2_84 E_85 Bp_86 Rp_87 XB0_88 Bg_89 Mg_90
  exact kq.out):P:=h ⟨q⟩
theorem n43z {Q P:Prop} (q:Q) (h:Kk Q→P:=by
  intro kq
  have hi9:(Tryz.prog.info? 134).map (fun i=>(i.zero,i.size,i.bytes))=some (some (.agg #[.int .i64 0,.int .i64 0]),2,16):=by kernel_rfl
  revert hi9
  exact kq.out):P:=h ⟨q⟩
theorem n44z {Q P:Prop} (q:Q) (h:Kk Q→P:=by
  intro kq
  have HO:Hid ((w.alloc (.cells #[] 144)).ownsRow w.heap.size 144 5 (.slice (some ⟨w.heap.size,0,none⟩) 0 0) 0 []):=World.ownsRow_made w #[] 0 (Nat.le_refl _) (by unfold maxLen;omega) rfl
  revert HO
  exact kq.out):P:=h ⟨q⟩
theorem n45z {Q P:Prop} (q:Q) (h:Kk Q→P:=by
  intro kq
  have HAt:Hid (∀ wx,Ext w wx→Calls Tryz.prog 118 #[.slice (some ⟨bb,off,none⟩) s.nodes.length cn,.string z.path] wx fun e w'=>e = .returned (.int .i64 ((k:Int)))∧w'=wx):=fun wx he=>by have h:=l2At_any (.slice (some ⟨bb,off,none⟩) s.nodes.length cn) s.nodes z.path wx (hS.1.ext he);rw [ha] at h;exact h
  have hkl:=(List.getElem?_eq_some_iff.1 hz).1
  have HN:Hid (s.nodes.length≤cn∧∀ W,Ext w W→W.cell? ⟨bb,off+k * 5+2,none⟩=some (.int .i64 y.version)):=by
   exact m63z
  revert HAt hkl HN
  exact kq.out):P:=h ⟨q⟩
theorem n46z {Q P:Prop} (q:Q) (h:Kk Q→P:=by
  intro kq
  have HT2:Hid (∀ (wx:World),Ext w wx→Calls Tryz.prog 118 #[.slice (some ⟨b,off,none⟩) zs.length cap,.string (Tre.seqP p y.next)] wx fun e w'=>e = .returned (.int .i64 (Tre.atI zs (Tre.seqP p y.next)))∧w'=wx):=fun wx h=>HT.out wx (Tre.seqP p y.next) h
  revert HT2
  exact kq.out):P:=h ⟨q⟩
theorem n47z {Q P:Prop} (q:Q) (h:Kk Q→P:=by
  intro kq
  have HT:Hid (∀ (a5:Option Addr) (c5:Nat) (wx:World),Calls Tryz.prog 115 #[sagg (.slice an s.nodes.length cn) (.slice ae s.ses.length ce) s.now (.slice am s.marks.length cm),zr rc rp (.slice a5 rs.length c5),.int .i64 (0)] wx fun e w'=>e = .returned (.tuple #[sagg (.slice an s.nodes.length cn) (.slice ae s.ses.length ce) s.now (.slice am s.marks.length cm),yagg rc 0 ⟨#[]⟩])∧Ext wx w'):=fun a5 c5 wx=>l6Tree_bad an ae am a5 _ _ _ _ _ _ _ _ _ _ _ _ wx hrc
  revert HT
  exact kq.out):P:=h ⟨q⟩
theorem n48z {Q P:Prop} (q:Q) (h:Kk Q→P:=by
  intro kq
  refine (HL.out _ ((Ext.refl _).alloc _)).mono ?_
  rintro e w2 ⟨rfl,hb⟩
  have HB:Hid (Ext w w2):=((Ext.refl _).alloc _).trans hb
  have HQ:Hid (RBox w2 w.heap.size):=(RBox.new w _).ext hb
  clear hb
  obtain⟨q,q0,q1,q2,f0,f1,f2⟩:=HQ.out
  revert w2 HB HQ q q0 q1 q2 f0 f1 f2
  exact kq.out):P:=h ⟨q⟩
theorem n49z {Q P:Prop} (q:Q) (h:Kk Q→P:=by
  intro kq
  obtain⟨hxl,⟨x0,x1,x2,x3⟩,-⟩:=X1.out
  obtain⟨-,k0,k1,k2,k3,k4,k5⟩:=HO.out w1 E1.out
  revert hxl x0 x1 x2 x3 k0 k1 k2 k3 k4 k5
  exact kq.out):P:=h ⟨q⟩
theorem n50z {Q P:Prop} (q:Q) (h:Kk Q→P:=by
  intro kq
  have HS:Hid (∀ W,Ext w W→W.cell? ⟨B,0,none⟩=some (.slice an s.nodes.length cn)∧W.cell? ⟨D,0,none⟩=some (.string p)):=fun W he=>⟨((Ext.cell he).1 _ _ hBl).trans hX.2.1.1,((Ext.cell he).1 _ _ hLD).trans hKD.1⟩
  revert HS
  exact kq.out):P:=h ⟨q⟩
theorem n51z {Q P:Prop} (q:Q) (h:Kk Q→P:=by
  intro kq
  have HS:Hid (∀ W,Ext w W→W.cell? ⟨B,0,none⟩=some (.slice an s.nodes.length cn)∧W.cell? ⟨D,0,none⟩=some (.string p)):=fun W he=>⟨((Ext.cell he).1 _ _ hBl).trans hX.2.1.1,((Ext.cell he).1 _ _ hLD).trans hKD⟩
  revert HS
  exact kq.out):P:=h ⟨q⟩
theorem n52z {Q P:Prop} (q:Q) (h:Kk Q→P:=by
  intro kq
  have HT2:Hid (∀ (wx:World),Ext w wx→Calls Tryz.prog 118 #[.slice (some ⟨b,off,none⟩) zs.length cap,.string p] wx fun e w'=>e = .returned (.int .i64 (Tre.atI zs p))∧w'=wx):=fun wx h=>HT.out wx p h
  revert HT2
  exact kq.out):P:=h ⟨q⟩
theorem n53z {Q P:Prop} (q:Q) (h:Kk Q→P:=by
  intro kq
  have HS:Hid (∀ W,Ext w W→W.cell? ⟨B,0,none⟩=some (.slice an s.nodes.length cn)∧W.cell? ⟨D,0,none⟩=some (.string p)∧W.cell? ⟨D,1,none⟩=some (.int .i64 d)∧W.cell? ⟨D,2,none⟩=some (.int .i64 nv)):=fun W he=>⟨((Ext.cell he).1 _ _ hBl).trans hX.2.1.1,((Ext.cell he).1 _ _ hLD).trans hKD.1,((Ext.cell he).1 _ _ hLD).trans hKD.2.1,((Ext.cell he).1 _ _ hLD).trans hKD.2.2⟩
  revert HS
  exact kq.out):P:=h ⟨q⟩
theorem n54z {Q P:Prop} (q:Q) (h:Kk Q→P:=by
  intro kq
  have HX:Hid (0 < l.length→∃ b off,a=some ⟨b,off,none⟩∧b < w.heap.size∧SesAt w b off l):=hx
  revert HX
  exact kq.out):P:=h ⟨q⟩
theorem n55z {Q P:Prop} (q:Q) (h:Kk Q→P:=by
  intro kq
  obtain⟨hc,hf⟩:=Ext.cell HB.out
  have hlt:w.heap.size < w1.heap.size:=by omega
  have hal:=alloc_cell
  have hfl:=alloc_frozen
  revert hc hf hlt hal hfl
  exact kq.out):P:=h ⟨q⟩
theorem n56z {Q P:Prop} (q:Q) (h:Kk Q→P:=by
  intro kq
  rintro e w1 ⟨rfl,hb⟩
  have E1:Hid (Ext w w1):=((((Ext.refl _).alloc _).alloc _).alloc _).trans hb
  have X1:Hid (SBoxAt w1 w.heap.size (.slice an s.nodes.length cn) (.slice ae s.ses.length ce) (.int .i64 s.now) (.slice am s.marks.length cm)):=(X0.out _ _ _).ext hb
  have O1:Hid (OBoxAt w1 (w.heap.size+1) z):=(O0.out _ _ _).ext hb
  have R1:Hid (RZ w1 (w.heap.size+2)):=(R0.out _ _ _).ext hb
  revert w1 hb E1 X1 O1 R1
  exact kq.out):P:=h ⟨q⟩
theorem n57z {Q P:Prop} (q:Q) (h:Kk Q→P:=by
  intro kq
  have HO:Hid (∀ wx,Ext w wx→Calls Tryz.prog 233 #[vn,.string p] wx (ZRet wx 0 rp [z])):=fun wx he=>by have h:=implGetZ_any vn s.nodes p wx (hgd.ext he) (hH.slice.1.ext he);rw [hc] at h;exact h
  revert HO
  exact kq.out):P:=h ⟨q⟩
theorem n58z {Q P:Prop} (q:Q) (h:Kk Q→P:=by
  intro kq
  have hi9:(Tryz.prog.info? 123).map (fun i=>(i.zero,i.size,i.bytes))=some (some (.agg #[.int .i64 0,.int .i64 0,.int .i64 0,.int .i64 0,.string ByteArray.empty]),5,48):=by kernel_rfl
  revert hi9
  exact kq.out):P:=h ⟨q⟩
theorem n59z {Q P:Prop} (q:Q) (h:Kk Q→P:=by
  intro kq
  have hi9:(Tryz.prog.info? 9).map (fun i=>(i.zero,i.size,i.bytes))=some (some (.string ByteArray.empty),1,16):=by kernel_rfl
  obtain⟨i0,hi,hx⟩:=Option.map_eq_some_iff.1 hi9
  revert hi9 i0 hi hx
  exact kq.out):P:=h ⟨q⟩
theorem n60z {Q P:Prop} (q:Q) (h:Kk Q→P:=by
  intro kq
  refine (HB0.out _ _).mono ?_
  rintro e w9 ⟨rfl,hb9⟩
  obtain⟨q9,q0,q1,q2,f0,f1,f2⟩:=(RBox.new w _).ext hb9
  have HB9:Hid (Ext w w9):=((Ext.refl _).alloc _).trans hb9
  clear hb9
  revert w9 q9 q0 q1 q2 f0 f1 f2 HB9
  exact kq.out):P:=h ⟨q⟩
theorem n61z {Q P:Prop} (q:Q) (h:Kk Q→P:=by
  intro kq
  have HS:Hid (∀ W,Ext w W→W.cell? ⟨B,1,none⟩=some (.slice ae s.ses.length ce)∧W.cell? ⟨C,0,none⟩=some (.int .i64 c)∧W.cell? ⟨B,2,none⟩=some (.int .i64 s.now)):=fun W he=>⟨((Ext.cell he).1 _ _ hBl).trans hX.2.1.2.1,((Ext.cell he).1 _ _ hLC).trans hKC,((Ext.cell he).1 _ _ hBl).trans hX.2.1.2.2.1⟩
  revert HS
  exact kq.out):P:=h ⟨q⟩
theorem n62z {Q P:Prop} (q:Q) (h:Kk Q→P:=by
  intro kq
  refine (HB0.out _ _).mono ?_
  rintro e w4 ⟨rfl,hb4⟩
  obtain⟨q,q0,q1,q2,f0,f1,f2⟩:=(RBox.new w _).ext hb4
  have HB4:Hid (Ext w w4):=((Ext.refl _).alloc _).trans hb4
  clear hb4
  revert w4 q q0 q1 q2 f0 f1 f2 HB4
  exact kq.out):P:=h ⟨q⟩
theorem n63z {Q P:Prop} (q:Q) (h:Kk Q→P:=by
  intro kq
  have HS1:Hid (∀ W,Ext w1 W→W.cell? ⟨B,0,none⟩=some (.slice an s.nodes.length cn)∧W.cell? ⟨D,0,none⟩=some (.string p)∧W.cell? ⟨D,1,none⟩=some (.int .i64 d)∧W.cell? ⟨D,2,none⟩=some (.int .i64 nv)):=fun W he=>HS.out W (E1.out.trans he)
  obtain⟨s0,s1,s2,s3⟩:=HS1.out w1 (Ext.refl _)
  revert HS1 s0 s1 s2 s3
  exact kq.out):P:=h ⟨q⟩
theorem n64z {Q P:Prop} (q:Q) (h:Kk Q→P:=by
  intro kq
  have E1:Hid (Ext w w1):=by show Ext w w1;rw [← hw1];exact (((Ext.refl w).alloc _).alloc _).alloc _
  have X1:Hid (SBoxAt w1 w.heap.size (.slice (some ⟨bb,off,none⟩) s.nodes.length cn) (.slice ae s.ses.length ce) (.int .i64 s.now) (.slice am s.marks.length cm)):=by show SBoxAt w1 _ _ _ _ _;rw [← hw1];exact X0.out _ _ _
  revert E1 X1
  exact kq.out):P:=h ⟨q⟩
theorem n65z {Q P:Prop} (q:Q) (h:Kk Q→P:=by
  intro kq
  obtain⟨h6,hr,ho⟩:=Ses.fault_zero hf
  have HR:Hid (∀ wx,Ext w wx→Calls Tryz.prog 205 #[.slice a l.length cap] wx fun e w'=>∃ b,e = .returned (.map (some b))∧wx.heap.size≤b∧EMap w' b l.length l∧Ext wx w'):=fun wx he=>rollOf_any _ l wx (HS.out.ext he) h6 hr ho
  revert h6 hr ho HR
  exact kq.out):P:=h ⟨q⟩
theorem n66z {Q P:Prop} (q:Q) (h:Kk Q→P:=by
  intro kq
  have HX:Hid (SBoxAt w B vn vs (.int .i64 s.now) vm):=hX
  have HO:Hid (OBoxAt w b z):=hO
  revert HX HO
  exact kq.out):P:=h ⟨q⟩
theorem n67z {Q P:Prop} (q:Q) (h:Kk Q→P:=by
  intro kq
  have hld:(cellsZ (zs.drop k)).length=(zs.length - k) * 5:=by rw [cellsZ_length,List.length_drop]
  revert hld
  exact kq.out):P:=h ⟨q⟩
theorem n68z {Q P:Prop} (q:Q) (h:Kk Q→P:=by
  intro kq
  have HO:Hid (∀ wx,Ext w wx→Calls Tryz.prog 233 #[vn,.string p] wx (ZRet wx rc rp rs)):=fun wx he=>by have h:=implGetZ_any vn s.nodes p wx (hgd.ext he) (hH.slice.1.ext he);rw [hc] at h;exact h
  have HQ:Hid (q=(Sta.bad rc,s)∧rc≠0):=hq
  revert HO HQ
  exact kq.out):P:=h ⟨q⟩
theorem n69z {Q P:Prop} (q:Q) (h:Kk Q→P:=by
  intro kq
  have q22:∀ (w:World) (a:Option Addr) (n c n' c' : Nat),(binOp .eql 33 (.slice a n c) (.slice none n' c')).run Tryz.prog w = .ok (.bool a.isNone) w:=fun w a n c n' c'=>Lib.run_eql_slice_nil w _ _ a n c n' c' Tryz.underlying33
  revert q22
  exact kq.out):P:=h ⟨q⟩
theorem n70z {Q P:Prop} (q:Q) (h:Kk Q→P:=by
  intro kq
  have hlt:(cellsZ (zs.take k)).length=k * 5:=by rw [cellsZ_length,List.length_take];omega
  revert hlt
  exact kq.out):P:=h ⟨q⟩
theorem n71z {Q P:Prop} (q:Q) (h:Kk Q→P:=by
  intro kq
  refine (HAt.out _ ((Ext.refl _).alloc _)).mono ?_
  rintro e w2 ⟨rfl,hw⟩
  have HB:Hid (OBox w w2):=by rw [hw];exact OBox.new w
  clear hw
  revert w2 HB
  exact kq.out):P:=h ⟨q⟩
theorem n72z {Q P:Prop} (q:Q) (h:Kk Q→P:=by
  intro kq
  have s1:=hRd.some (off+(k+1) * 5) (cellsZ (zs.drop k)).length (by omega) (by omega)
  have hR1:=hRd.setCells (off+(k+1) * 5) (cellsZ (zs.drop k)) (fun j hj=>(s1 j hj).1)
  have s2:=hR1.some (off+k * 5) 5 (by omega) (by omega)
  revert s1 hR1 s2
  exact kq.out):P:=h ⟨q⟩
theorem n73z {Q P:Prop} (q:Q) (h:Kk Q→P:=by
  intro kq
  have HN:Hid (NodesAt (w.alloc (.cells #[] 144)) b off zs):=hN.ext hb ((Ext.refl _).alloc _)
  revert HN
  exact kq.out):P:=h ⟨q⟩
theorem n74z {Q P:Prop} (q:Q) (h:Kk Q→P:=by
  intro kq
  have HB:Hid (Ext w w1):=((Ext.refl _).alloc _).trans hb
  have XB:Hid (SBoxAt w1 w.heap.size (.slice an s.nodes.length cn) (.slice ae s.ses.length cs) (.int .i64 s.now) (.slice am s.marks.length cm)):=(sbox_new _ _ _ _ _ _).ext hb
  revert HB XB
  exact kq.out):P:=h ⟨q⟩
theorem n75z {Q P:Prop} (q:Q) (h:Kk Q→P:=by
  intro kq
  have hz5:(zcells z).length=5:=rfl
  have hcv:∀ j u,(zcells z)[j]?=some u→w.cell? ((⟨vb,0,none⟩:Addr).add j)=some u:=fun j u hu=>by
   rw [Addr.add_lit,Nat.zero_add];simp [World.cell?,hv];simpa using hu
  revert hz5 hcv
  exact kq.out):P:=h ⟨q⟩
theorem n76z {Q P:Prop} (q:Q) (h:Kk Q→P:=by
  intro kq
  refine (HT.out _ HN.out.to).mono ?_
  rintro e w2 ⟨rfl,hb⟩
  have HD:Hid (DBx w (.slice b ids.length cbp) ids w2):=HN.out.ext hb
  revert w2 hb HD
  exact kq.out):P:=h ⟨q⟩
theorem n77z {Q P:Prop} (q:Q) (h:Kk Q→P:=by
  intro kq
  have HX:Hid (0 < zs.length→∃ b off,a=some ⟨b,off,none⟩∧b < w.heap.size∧MksAt w b off zs):=hx
  revert HX
  exact kq.out):P:=h ⟨q⟩
theorem m0z {P:Prop} (h:P:=by
  go_enter Tryz.func51,Tryz.ntmps51
  go_wp2_with (first | (go_at_call 104;refine (l1In_any _ _ _ _).mono ?_;rintro e w9 ⟨rfl,hw9⟩;rw [hw9];clear hw9 w9;(try rw [HBd.out]);(try rw [HBv.out])) | (go_at_call 107;refine (CP.out _).mono ?_;rintro e w9 ⟨rfl,hw9⟩;rw [hw9];clear hw9 w9;(try rw [HBd.out]);(try rw [HBv.out])) | (go_at_call 108;refine (CD.out _).mono ?_;rintro e w9 ⟨rfl,hw9⟩;rw [hw9];clear hw9 w9;(try rw [HBd.out]);(try rw [HBv.out])) | (go_at_call 109;refine (CV.out _).mono ?_;rintro e w9 ⟨rfl,hw9⟩;rw [hw9];clear hw9 w9;(try rw [HBd.out]);(try rw [HBv.out])) | (go_at_call 111;refine (l2DataO_any _ _).mono ?_;rintro e w9 ⟨rfl,hw9⟩;rw [hw9];clear hw9 w9;(try rw [HBd.out]);(try rw [HBv.out])))
  refine (HL.out _).mono ?_
  rintro e w2 ⟨rfl,hb2⟩
  have HB2:Hid (Ext w w2):=hb2
  obtain⟨e0,e1,e2,e3,e4,e5⟩:=HO.out.ext hb hb2
  clear hb2 c0 c1 c2 c3 c4 c5
  go_wp2_with (first | (go_at_call 104;refine (l1In_any _ _ _ _).mono ?_;rintro e w9 ⟨rfl,hw9⟩;rw [hw9];clear hw9 w9;(try rw [HBd.out]);(try rw [HBv.out])) | (go_at_call 107;refine (CP.out _).mono ?_;rintro e w9 ⟨rfl,hw9⟩;rw [hw9];clear hw9 w9;(try rw [HBd.out]);(try rw [HBv.out])) | (go_at_call 108;refine (CD.out _).mono ?_;rintro e w9 ⟨rfl,hw9⟩;rw [hw9];clear hw9 w9;(try rw [HBd.out]);(try rw [HBv.out])) | (go_at_call 109;refine (CV.out _).mono ?_;rintro e w9 ⟨rfl,hw9⟩;rw [hw9];clear hw9 w9;(try rw [HBd.out]);(try rw [HBv.out])) | (go_at_call 111;refine (l2DataO_any _ _).mono ?_;rintro e w9 ⟨rfl,hw9⟩;rw [hw9];clear hw9 w9;(try rw [HBd.out]);(try rw [HBv.out])))
  go_ret
  exact⟨ret_int HF.out.symm,HB2.out⟩):P:=h
theorem m1z {P:Prop} (h:P:=by
  go_enter Tryz.func51,Tryz.ntmps51
  go_wp2_with (first | (go_at_call 104;refine (l1In_any _ _ _ _).mono ?_;rintro e w9 ⟨rfl,hw9⟩;rw [hw9];clear hw9 w9;(try rw [HBd.out]);(try rw [HBv.out])) | (go_at_call 107;refine (CP.out _).mono ?_;rintro e w9 ⟨rfl,hw9⟩;rw [hw9];clear hw9 w9;(try rw [HBd.out]);(try rw [HBv.out])) | (go_at_call 108;refine (CD.out _).mono ?_;rintro e w9 ⟨rfl,hw9⟩;rw [hw9];clear hw9 w9;(try rw [HBd.out]);(try rw [HBv.out])) | (go_at_call 109;refine (CV.out _).mono ?_;rintro e w9 ⟨rfl,hw9⟩;rw [hw9];clear hw9 w9;(try rw [HBd.out]);(try rw [HBv.out])) | (go_at_call 111;refine (l2DataO_any _ _).mono ?_;rintro e w9 ⟨rfl,hw9⟩;rw [hw9];clear hw9 w9;(try rw [HBd.out]);(try rw [HBv.out])))
  go_ret
  exact⟨ret_int HF.out.symm,Ext.refl _⟩):P:=h
theorem m2z {P:Prop} (h:P:=by
  clear hT hp hnl hnx
  have HT:Hid (∀ (a5:Option Addr) (c5:Nat) (wx:World),Calls Tryz.prog 115 #[sagg (.slice an s.nodes.length cn) (.slice ae s.ses.length ce) s.now (.slice am s.marks.length cm),zr 0 rp (.slice a5 rs.length c5),.int .i64 (0)] wx fun e w'=>e = .returned (.tuple #[sagg (.slice a5 rs.length c5) (.slice ae s.ses.length ce) s.now (.slice am s.marks.length cm),yagg 0 (0) rp])∧Ext wx w'):=fun a5 c5 wx=>l6Tree_ok an ae am a5 _ _ _ _ _ _ _ _ _ _ _ wx
  unfold sagg zr yagg at HT
  have X0:Hid (∀ t1 t2 t3,SBoxAt (((w.alloc (.cells #[.slice an s.nodes.length cn,.slice ae s.ses.length ce,.int .i64 s.now,.slice am s.marks.length cm] t1)).alloc (.cells #[.slice none 0 0,.slice none 0 0,.int .i64 0,.slice none 0 0] t2)).alloc (.cells #[.int .i64 0,.int .i64 0,.string ⟨#[]⟩] t3)) w.heap.size (.slice an s.nodes.length cn) (.slice ae s.ses.length ce) (.int .i64 s.now) (.slice am s.marks.length cm)):=fun t1 t2 t3=>(sbox_new w _ _ _ _ t1).ext (((Ext.refl _).alloc _).alloc _)
  have R0:Hid (∀ t1 t2 t3,SBoxAt (((w.alloc (.cells #[.slice an s.nodes.length cn,.slice ae s.ses.length ce,.int .i64 s.now,.slice am s.marks.length cm] t1)).alloc (.cells #[.slice none 0 0,.slice none 0 0,.int .i64 0,.slice none 0 0] t2)).alloc (.cells #[.int .i64 0,.int .i64 0,.string ⟨#[]⟩] t3)) (w.heap.size+1) (.slice none 0 0) (.slice none 0 0) (.int .i64 0) (.slice none 0 0)):=fun t1 t2 t3=>by
   have h:=(sbox_new (w.alloc (.cells #[.slice an s.nodes.length cn,.slice ae s.ses.length ce,.int .i64 s.now,.slice am s.marks.length cm] t1)) (.slice none 0 0) (.slice none 0 0) (.int .i64 0) (.slice none 0 0) t2).ext ((Ext.refl _).alloc (.cells #[.int .i64 0,.int .i64 0,.string ⟨#[]⟩] t3))
   simp only [World.size_alloc] at h
   exact h
  have Y0:Hid (∀ t1 t2 t3,RyAt (((w.alloc (.cells #[.slice an s.nodes.length cn,.slice ae s.ses.length ce,.int .i64 s.now,.slice am s.marks.length cm] t1)).alloc (.cells #[.slice none 0 0,.slice none 0 0,.int .i64 0,.slice none 0 0] t2)).alloc (.cells #[.int .i64 0,.int .i64 0,.string ⟨#[]⟩] t3)) (w.heap.size+2) (.int .i64 0) (.int .i64 0) (.string ByteArray.empty)):=fun t1 t2 t3=>by
   have h:=ry_new ((w.alloc (.cells #[.slice an s.nodes.length cn,.slice ae s.ses.length ce,.int .i64 s.now,.slice am s.marks.length cm] t1)).alloc (.cells #[.slice none 0 0,.slice none 0 0,.int .i64 0,.slice none 0 0] t2)) (.int .i64 0) (.int .i64 0) (.string ⟨#[]⟩) t3
   simp only [World.size_alloc] at h
   exact h
  have HO:Hid (∀ W,Ext w W→OBoxAt W b z):=fun W he=>hO.ext he
  obtain⟨ob,o0,o1,o2,o3,o4,o5⟩:=id hO
  clear hS hO
  unfold sagg
  go_enter Tryz.func52,Tryz.ntmps52
  obtain⟨hxl,⟨x0,x1,x2,x3⟩,xf0,xf1,xf2,xf3⟩:=X0.out 37 37 32
  obtain⟨hrl,⟨r0,r1,r2,r3⟩,rf0,rf1,rf2,rf3⟩:=R0.out 37 37 32
  obtain⟨hyl,⟨y0,y1,y2⟩,yf0,yf1,yf2⟩:=Y0.out 37 37 32
  obtain⟨-,k0,k1,k2,k3,k4,k5⟩:=HO.out _ ((((Ext.refl w).alloc (.cells #[.slice an s.nodes.length cn,.slice ae s.ses.length ce,.int .i64 s.now,.slice am s.marks.length cm] 37)).alloc (.cells #[.slice none 0 0,.slice none 0 0,.int .i64 0,.slice none 0 0] 37)).alloc (.cells #[.int .i64 0,.int .i64 0,.string ⟨#[]⟩] 32))
  have hE0:Hid (Ext w (((w.alloc (.cells #[.slice an s.nodes.length cn,.slice ae s.ses.length ce,.int .i64 s.now,.slice am s.marks.length cm] 37)).alloc (.cells #[.slice none 0 0,.slice none 0 0,.int .i64 0,.slice none 0 0] 37)).alloc (.cells #[.int .i64 0,.int .i64 0,.string ⟨#[]⟩] 32))):=(((Ext.refl w).alloc _).alloc _).alloc _
  go_wp2_with fail
  refine (HL.out _ hE0.out).mono ?_
  rintro e w2 ⟨rfl,hw⟩
  rw [hw]
  clear hw w2
  generalize hw1:World.alloc (World.alloc (World.alloc w _) _) _=w1
  have E1:Hid (Ext w w1):=by show Ext w w1;rw [← hw1];exact (((Ext.refl w).alloc _).alloc _).alloc _
  have X1:Hid (SBoxAt w1 w.heap.size (.slice an s.nodes.length cn) (.slice ae s.ses.length ce) (.int .i64 s.now) (.slice am s.marks.length cm)):=by show SBoxAt w1 _ _ _ _ _;rw [← hw1];exact X0.out _ _ _
  have R1:Hid (SBoxAt w1 (w.heap.size+1) (.slice none 0 0) (.slice none 0 0) (.int .i64 0) (.slice none 0 0)):=by show SBoxAt w1 _ _ _ _ _;rw [← hw1];exact R0.out _ _ _
  have Y1:Hid (RyAt w1 (w.heap.size+2) (.int .i64 0) (.int .i64 0) (.string ByteArray.empty)):=by show RyAt w1 _ _ _ _;rw [← hw1];exact Y0.out _ _ _
  clear hw1 hE0 X0 R0 Y0 HL hxl x0 x1 x2 x3 xf0 xf1 xf2 xf3 hrl r0 r1 r2 r3 rf0 rf1 rf2 rf3 hyl y0 y1 y2 yf0 yf1 yf2 k0 k1 k2 k3 k4 k5 o0 o1 o2 o3 o4 o5
  obtain⟨hxl,⟨x0,x1,x2,x3⟩,-⟩:=X1.out
  obtain⟨-,k0,k1,k2,k3,k4,k5⟩:=HO.out w1 E1.out
  rw [hkk] at k0
  rw [how] at k5
  go_wp2
  have HSx:Hid (∀ W,Ext w1 W→W.cell? ⟨w.heap.size,0,none⟩=some (.slice an s.nodes.length cn)∧W.cell? ⟨w.heap.size,1,none⟩=some (.slice ae s.ses.length ce)∧W.cell? ⟨w.heap.size,2,none⟩=some (.int .i64 s.now)∧W.cell? ⟨w.heap.size,3,none⟩=some (.slice am s.marks.length cm)∧W.cell? ⟨b,1,none⟩=some (.string z.path)∧W.cell? ⟨b,2,none⟩=some (.int .i64 z.data)∧W.cell? ⟨b,4,none⟩=some (.bool z.seq)):=fun W he=>⟨((Ext.cell he).1 _ _ (World.block_lt_of_cell? _ _ x0)).trans x0,((Ext.cell he).1 _ _ (World.block_lt_of_cell? _ _ x1)).trans x1,((Ext.cell he).1 _ _ (World.block_lt_of_cell? _ _ x2)).trans x2,((Ext.cell he).1 _ _ (World.block_lt_of_cell? _ _ x3)).trans x3,((Ext.cell he).1 _ _ (World.block_lt_of_cell? _ _ k1)).trans k1,((Ext.cell he).1 _ _ (World.block_lt_of_cell? _ _ k2)).trans k2,((Ext.cell he).1 _ _ (World.block_lt_of_cell? _ _ k4)).trans k4⟩
  go_region_held3 (fun W=>W.cell? ⟨w.heap.size,0,none⟩=some (.slice an s.nodes.length cn)∧W.cell? ⟨w.heap.size,1,none⟩=some (.slice ae s.ses.length ce)∧W.cell? ⟨w.heap.size,2,none⟩=some (.int .i64 s.now)∧W.cell? ⟨w.heap.size,3,none⟩=some (.slice am s.marks.length cm)∧W.cell? ⟨b,1,none⟩=some (.string z.path)∧W.cell? ⟨b,2,none⟩=some (.int .i64 z.data)∧W.cell? ⟨b,4,none⟩=some (.bool z.seq)) (first | exact⟨by (repeat rw [iset_ne _ _ _ _ _ _ (Or.inl (by omega))]);exact Tx0,by (repeat rw [iset_ne _ _ _ _ _ _ (Or.inl (by omega))]);exact Tx1,by (repeat rw [iset_ne _ _ _ _ _ _ (Or.inl (by omega))]);exact Tx2,by (repeat rw [iset_ne _ _ _ _ _ _ (Or.inl (by omega))]);exact Tx3,by (repeat rw [iset_ne _ _ _ _ _ _ (Or.inl (by omega))]);exact Tk1,by (repeat rw [iset_ne _ _ _ _ _ _ (Or.inl (by omega))]);exact Tk2,by (repeat rw [iset_ne _ _ _ _ _ _ (Or.inl (by omega))]);exact Tk4⟩ | exact⟨x0,x1,x2,x3,k1,k2,k4⟩ | exact HSx.out _ ((Ext.refl _).drew) | exact HSx.out _ HE6.out | exact HSx.out _ HE5.out | go_keep) (first | (go_at_call 116;refine (HCa.out _ (E1.out.trans (by first | exact (Ext.refl _).drew | exact Ext.refl _))).mono ?_;rintro e w5 ⟨v5,g5,rfl,hg5,hO5,hb5⟩;obtain⟨a5,c5,rfl⟩:=hO5.vis;have HE5:Hid (Ext w1 w5):=(by first | exact ((Ext.refl _).drew).trans hb5 | exact hb5);have O5:Hid (Own w5 (.slice a5 rs.length c5) g5 rs):=hO5;have G5:Hid (w1.heap.size≤g5):=(by (try simp at hg5);show _≤_;omega);clear hb5 hO5 hg5;unfold zr) | (have tk:=HE5;clear tk;go_at_call 115;refine (HT.out _ _ _).mono ?_;rintro e w6 ⟨rfl,hb6⟩;have HE56:Hid (Ext w5 w6):=hb6;have HE6:Hid (Ext w1 w6):=HE5.out.trans hb6;clear hb6;obtain⟨Tx0,Tx1,Tx2,Tx3,Tk1,Tk2,Tk4⟩:=HSx.out w6 HE6.out;obtain⟨hrl,⟨r0,r1,r2,r3⟩,rf0,rf1,rf2,rf3⟩:=R1.out.ext HE6.out;obtain⟨hyl,⟨y0,y1,y2⟩,yf0,yf1,yf2⟩:=Y1.out.ext HE6.out))
  all_goals
   have HE9:Hid (Ext w w6):=E1.out.trans HE6.out
   have hsz:=E1.out.size
   have hx9:=X1.out.1
   have hy9:=Y1.out.1
   clear x0 x1 x2 x3 k1 k2 k4
   (try go_wp2)
   exact bodyPost_ret (v:=.tuple #[sagg (.slice a5 rs.length c5) (.slice ae s.ses.length ce) s.now (.slice am s.marks.length cm),yagg 0 (0) rp]) (by simp [results,Tryz.results52,go_sem,sagg,yagg, *]) rfl ⟨a5,c5,g5,rfl,by have:=G5.out;omega,by (repeat refine Own.updS ?_ ((Upd.refl _ _).setAt _ _) (fun _=>by have:=G5.out;omega));exact O5.out.ext HE56.out,by repeat (first | (with_reducible refine Ext.setCell ?_ ?_ _;rotate_left;(show w.heap.size≤_;(try simp only [World.size_alloc]);omega)) | with_reducible refine Ext.alloc ?_ _ | with_reducible refine Ext.drew ?_ | with_reducible exact HE9.out | with_reducible exact Ext.refl _)⟩):P:=h
theorem m3z {P:Prop} (h:P:=by
  clear hT hp hnl hnx
  have HT:Hid (∀ (a5:Option Addr) (c5:Nat) (wx:World),Calls Tryz.prog 115 #[sagg (.slice an s.nodes.length cn) (.slice ae s.ses.length ce) s.now (.slice am s.marks.length cm),zr rc rp (.slice a5 rs.length c5),.int .i64 (0)] wx fun e w'=>e = .returned (.tuple #[sagg (.slice an s.nodes.length cn) (.slice ae s.ses.length ce) s.now (.slice am s.marks.length cm),yagg rc 0 ⟨#[]⟩])∧Ext wx w'):=fun a5 c5 wx=>l6Tree_bad an ae am a5 _ _ _ _ _ _ _ _ _ _ _ _ wx hrc
  unfold sagg zr yagg at HT
  have X0:Hid (∀ t1 t2 t3,SBoxAt (((w.alloc (.cells #[.slice an s.nodes.length cn,.slice ae s.ses.length ce,.int .i64 s.now,.slice am s.marks.length cm] t1)).alloc (.cells #[.slice none 0 0,.slice none 0 0,.int .i64 0,.slice none 0 0] t2)).alloc (.cells #[.int .i64 0,.int .i64 0,.string ⟨#[]⟩] t3)) w.heap.size (.slice an s.nodes.length cn) (.slice ae s.ses.length ce) (.int .i64 s.now) (.slice am s.marks.length cm)):=fun t1 t2 t3=>(sbox_new w _ _ _ _ t1).ext (((Ext.refl _).alloc _).alloc _)
  have R0:Hid (∀ t1 t2 t3,SBoxAt (((w.alloc (.cells #[.slice an s.nodes.length cn,.slice ae s.ses.length ce,.int .i64 s.now,.slice am s.marks.length cm] t1)).alloc (.cells #[.slice none 0 0,.slice none 0 0,.int .i64 0,.slice none 0 0] t2)).alloc (.cells #[.int .i64 0,.int .i64 0,.string ⟨#[]⟩] t3)) (w.heap.size+1) (.slice none 0 0) (.slice none 0 0) (.int .i64 0) (.slice none 0 0)):=fun t1 t2 t3=>by
   have h:=(sbox_new (w.alloc (.cells #[.slice an s.nodes.length cn,.slice ae s.ses.length ce,.int .i64 s.now,.slice am s.marks.length cm] t1)) (.slice none 0 0) (.slice none 0 0) (.int .i64 0) (.slice none 0 0) t2).ext ((Ext.refl _).alloc (.cells #[.int .i64 0,.int .i64 0,.string ⟨#[]⟩] t3))
   simp only [World.size_alloc] at h
   exact h
  have Y0:Hid (∀ t1 t2 t3,RyAt (((w.alloc (.cells #[.slice an s.nodes.length cn,.slice ae s.ses.length ce,.int .i64 s.now,.slice am s.marks.length cm] t1)).alloc (.cells #[.slice none 0 0,.slice none 0 0,.int .i64 0,.slice none 0 0] t2)).alloc (.cells #[.int .i64 0,.int .i64 0,.string ⟨#[]⟩] t3)) (w.heap.size+2) (.int .i64 0) (.int .i64 0) (.string ByteArray.empty)):=fun t1 t2 t3=>by
   have h:=ry_new ((w.alloc (.cells #[.slice an s.nodes.length cn,.slice ae s.ses.length ce,.int .i64 s.now,.slice am s.marks.length cm] t1)).alloc (.cells #[.slice none 0 0,.slice none 0 0,.int .i64 0,.slice none 0 0] t2)) (.int .i64 0) (.int .i64 0) (.string ⟨#[]⟩) t3
   simp only [World.size_alloc] at h
   exact h
  have HO:Hid (∀ W,Ext w W→OBoxAt W b z):=fun W he=>hO.ext he
  obtain⟨ob,o0,o1,o2,o3,o4,o5⟩:=id hO
  clear hS hO
  unfold sagg
  go_enter Tryz.func52,Tryz.ntmps52
  obtain⟨hxl,⟨x0,x1,x2,x3⟩,xf0,xf1,xf2,xf3⟩:=X0.out 37 37 32
  obtain⟨hrl,⟨r0,r1,r2,r3⟩,rf0,rf1,rf2,rf3⟩:=R0.out 37 37 32
  obtain⟨hyl,⟨y0,y1,y2⟩,yf0,yf1,yf2⟩:=Y0.out 37 37 32
  obtain⟨-,k0,k1,k2,k3,k4,k5⟩:=HO.out _ ((((Ext.refl w).alloc (.cells #[.slice an s.nodes.length cn,.slice ae s.ses.length ce,.int .i64 s.now,.slice am s.marks.length cm] 37)).alloc (.cells #[.slice none 0 0,.slice none 0 0,.int .i64 0,.slice none 0 0] 37)).alloc (.cells #[.int .i64 0,.int .i64 0,.string ⟨#[]⟩] 32))
  have hE0:Hid (Ext w (((w.alloc (.cells #[.slice an s.nodes.length cn,.slice ae s.ses.length ce,.int .i64 s.now,.slice am s.marks.length cm] 37)).alloc (.cells #[.slice none 0 0,.slice none 0 0,.int .i64 0,.slice none 0 0] 37)).alloc (.cells #[.int .i64 0,.int .i64 0,.string ⟨#[]⟩] 32))):=(((Ext.refl w).alloc _).alloc _).alloc _
  go_wp2_with fail
  refine (HL.out _ hE0.out).mono ?_
  rintro e w2 ⟨rfl,hw⟩
  rw [hw]
  clear hw w2
  generalize hw1:World.alloc (World.alloc (World.alloc w _) _) _=w1
  have E1:Hid (Ext w w1):=by show Ext w w1;rw [← hw1];exact (((Ext.refl w).alloc _).alloc _).alloc _
  have X1:Hid (SBoxAt w1 w.heap.size (.slice an s.nodes.length cn) (.slice ae s.ses.length ce) (.int .i64 s.now) (.slice am s.marks.length cm)):=by show SBoxAt w1 _ _ _ _ _;rw [← hw1];exact X0.out _ _ _
  have R1:Hid (SBoxAt w1 (w.heap.size+1) (.slice none 0 0) (.slice none 0 0) (.int .i64 0) (.slice none 0 0)):=by show SBoxAt w1 _ _ _ _ _;rw [← hw1];exact R0.out _ _ _
  have Y1:Hid (RyAt w1 (w.heap.size+2) (.int .i64 0) (.int .i64 0) (.string ByteArray.empty)):=by show RyAt w1 _ _ _ _;rw [← hw1];exact Y0.out _ _ _
  clear hw1 hE0 X0 R0 Y0 HL hxl x0 x1 x2 x3 xf0 xf1 xf2 xf3 hrl r0 r1 r2 r3 rf0 rf1 rf2 rf3 hyl y0 y1 y2 yf0 yf1 yf2 k0 k1 k2 k3 k4 k5 o0 o1 o2 o3 o4 o5
  obtain⟨hxl,⟨x0,x1,x2,x3⟩,-⟩:=X1.out
  obtain⟨-,k0,k1,k2,k3,k4,k5⟩:=HO.out w1 E1.out
  rw [hkk] at k0
  rw [how] at k5
  go_wp2
  have HSx:Hid (∀ W,Ext w1 W→W.cell? ⟨w.heap.size,0,none⟩=some (.slice an s.nodes.length cn)∧W.cell? ⟨w.heap.size,1,none⟩=some (.slice ae s.ses.length ce)∧W.cell? ⟨w.heap.size,2,none⟩=some (.int .i64 s.now)∧W.cell? ⟨w.heap.size,3,none⟩=some (.slice am s.marks.length cm)∧W.cell? ⟨b,1,none⟩=some (.string z.path)∧W.cell? ⟨b,2,none⟩=some (.int .i64 z.data)∧W.cell? ⟨b,4,none⟩=some (.bool z.seq)):=fun W he=>⟨((Ext.cell he).1 _ _ (World.block_lt_of_cell? _ _ x0)).trans x0,((Ext.cell he).1 _ _ (World.block_lt_of_cell? _ _ x1)).trans x1,((Ext.cell he).1 _ _ (World.block_lt_of_cell? _ _ x2)).trans x2,((Ext.cell he).1 _ _ (World.block_lt_of_cell? _ _ x3)).trans x3,((Ext.cell he).1 _ _ (World.block_lt_of_cell? _ _ k1)).trans k1,((Ext.cell he).1 _ _ (World.block_lt_of_cell? _ _ k2)).trans k2,((Ext.cell he).1 _ _ (World.block_lt_of_cell? _ _ k4)).trans k4⟩
  go_region_held3 (fun W=>W.cell? ⟨w.heap.size,0,none⟩=some (.slice an s.nodes.length cn)∧W.cell? ⟨w.heap.size,1,none⟩=some (.slice ae s.ses.length ce)∧W.cell? ⟨w.heap.size,2,none⟩=some (.int .i64 s.now)∧W.cell? ⟨w.heap.size,3,none⟩=some (.slice am s.marks.length cm)∧W.cell? ⟨b,1,none⟩=some (.string z.path)∧W.cell? ⟨b,2,none⟩=some (.int .i64 z.data)∧W.cell? ⟨b,4,none⟩=some (.bool z.seq)) (first | exact⟨by (repeat rw [iset_ne _ _ _ _ _ _ (Or.inl (by omega))]);exact Tx0,by (repeat rw [iset_ne _ _ _ _ _ _ (Or.inl (by omega))]);exact Tx1,by (repeat rw [iset_ne _ _ _ _ _ _ (Or.inl (by omega))]);exact Tx2,by (repeat rw [iset_ne _ _ _ _ _ _ (Or.inl (by omega))]);exact Tx3,by (repeat rw [iset_ne _ _ _ _ _ _ (Or.inl (by omega))]);exact Tk1,by (repeat rw [iset_ne _ _ _ _ _ _ (Or.inl (by omega))]);exact Tk2,by (repeat rw [iset_ne _ _ _ _ _ _ (Or.inl (by omega))]);exact Tk4⟩ | exact⟨x0,x1,x2,x3,k1,k2,k4⟩ | exact HSx.out _ ((Ext.refl _).drew) | exact HSx.out _ HE6.out | exact HSx.out _ HE5.out | go_keep) (first | (go_at_call 116;refine (HCa.out _ (E1.out.trans (by first | exact (Ext.refl _).drew | exact Ext.refl _))).mono ?_;rintro e w5 ⟨v5,g5,rfl,hg5,hO5,hb5⟩;obtain⟨a5,c5,rfl⟩:=hO5.vis;have HE5:Hid (Ext w1 w5):=(by first | exact ((Ext.refl _).drew).trans hb5 | exact hb5);have O5:Hid (Own w5 (.slice a5 rs.length c5) g5 rs):=hO5;have G5:Hid (w1.heap.size≤g5):=(by (try simp at hg5);show _≤_;omega);clear hb5 hO5 hg5;unfold zr) | (have tk:=HE5;clear tk;go_at_call 115;refine (HT.out _ _ _).mono ?_;rintro e w6 ⟨rfl,hb6⟩;have HE56:Hid (Ext w5 w6):=hb6;have HE6:Hid (Ext w1 w6):=HE5.out.trans hb6;clear hb6;obtain⟨Tx0,Tx1,Tx2,Tx3,Tk1,Tk2,Tk4⟩:=HSx.out w6 HE6.out;obtain⟨hrl,⟨r0,r1,r2,r3⟩,rf0,rf1,rf2,rf3⟩:=R1.out.ext HE6.out;obtain⟨hyl,⟨y0,y1,y2⟩,yf0,yf1,yf2⟩:=Y1.out.ext HE6.out))
  all_goals
   have HE9:Hid (Ext w w6):=E1.out.trans HE6.out
   have hsz:=E1.out.size
   have hx9:=X1.out.1
   have hy9:=Y1.out.1
   clear x0 x1 x2 x3 k1 k2 k4
   (try go_wp2)
   exact bodyPost_ret (v:=.tuple #[sagg (.slice an s.nodes.length cn) (.slice ae s.ses.length ce) s.now (.slice am s.marks.length cm),yagg rc 0 ⟨#[]⟩]) (by simp [results,Tryz.results52,go_sem,sagg,yagg, *]) rfl ⟨rfl,by repeat (first | (with_reducible refine Ext.setCell ?_ ?_ _;rotate_left;(show w.heap.size≤_;(try simp only [World.size_alloc]);omega)) | with_reducible refine Ext.alloc ?_ _ | with_reducible refine Ext.drew ?_ | with_reducible exact HE9.out | with_reducible exact Ext.refl _)⟩):P:=h
theorem m4z {P:Prop} (h:P:=by
  clear hFX hb HS
  have cBh0:=(Bh_91.out.2 0 _ rfl).1
  have cBh1:=(Bh_91.out.2 1 _ rfl).1
  have cBh2:=(Bh_91.out.2 2 _ rfl).1
  have cBh3:=(Bh_91.out.2 3 _ rfl).1
  have cBh4:=(Bh_91.out.2 4 _ rfl).1
  have cBh5:=(Bh_91.out.2 5 _ rfl).1
  have cBh6:=(Bh_91.out.2 6 _ rfl).1
  have cBh7:=(Bh_91.out.2 7 _ rfl).1
  have lBh:=Bh_91.out.1
  have cBp0:=(Bp_86.out.2 0 _ rfl).1
  have cBp1:=(Bp_86.out.2 1 _ rfl).1
  have cBp2:=(Bp_86.out.2 2 _ rfl).1
  have cBp3:=(Bp_86.out.2 3 _ rfl).1
  have cBp4:=(Bp_86.out.2 4 _ rfl).1
  have cBp5:=(Bp_86.out.2 5 _ rfl).1
  have cBp6:=(Bp_86.out.2 6 _ rfl).1
  have cBp7:=(Bp_86.out.2 7 _ rfl).1
  have lBp:=Bp_86.out.1
  go_wp2_with fail
  refine (HEq.out anh aeh amh cnh ceh cmh anp aep amp cnp cep cmp _ Rh_92.out.slice Rp_87.out.slice).mono ?_
  rintro e w12 ⟨rfl,hb⟩
  clear cBh0 cBh1 cBh2 cBh3 cBh4 cBh5 cBh6 cBh7 lBh cBp0 cBp1 cBp2 cBp3 cBp4 cBp5 cBp6 cBp7 lBp
  have A0_93:=hxbx A0_83 hb
  have A2_94:=hxbx A2_84 hb
  have E_95:=hxE E_85 hb
  have Bp_96:=hxbx Bp_86 hb
  have Rp_97:=hxat Rp_87 hb
  have XB0_98:=hxbx XB0_88 hb
  have Bg_99:=hxbx Bg_89 hb
  have Mg_100:=hxat Mg_90 hb
  have Bh_101:=hxbx Bh_91 hb
  have Rh_102:=hxat Rh_92 hb
  clear A0_83 A2_84 E_85 Bp_86 Rp_87 XB0_88 Bg_89 Mg_90 Bh_91 Rh_92 hb
  have cBg0:=(Bg_99.out.2 0 _ rfl).1
  have cBg1:=(Bg_99.out.2 1 _ rfl).1
  have cBg2:=(Bg_99.out.2 2 _ rfl).1
  have cBg3:=(Bg_99.out.2 3 _ rfl).1
  have cBg4:=(Bg_99.out.2 4 _ rfl).1
  have cBg5:=(Bg_99.out.2 5 _ rfl).1
  have cBg6:=(Bg_99.out.2 6 _ rfl).1
  have cBg7:=(Bg_99.out.2 7 _ rfl).1
  have lBg:=Bg_99.out.1
  go_wp2_with fail
  refine (HHe.out ang aeg amg cng ceg cmg _ Mg_100.out.slice).mono ?_
  rintro e w13 ⟨rfl,hb⟩
  clear cBg0 cBg1 cBg2 cBg3 cBg4 cBg5 cBg6 cBg7 lBg
  have A0_103:=hxbx A0_93 hb
  have A2_104:=hxbx A2_94 hb
  have E_105:=hxE E_95 hb
  have Bp_106:=hxbx Bp_96 hb
  have Rp_107:=hxat Rp_97 hb
  have XB0_108:=hxbx XB0_98 hb
  have Bg_109:=hxbx Bg_99 hb
  have Mg_110:=hxat Mg_100 hb
  have Bh_111:=hxbx Bh_101 hb
  have Rh_112:=hxat Rh_102 hb
  clear A0_93 A2_94 E_95 Bp_96 Rp_97 XB0_98 Bg_99 Mg_100 Bh_101 Rh_102 hb
  go_wp2
  go_ret
  exact⟨rfl,E_105.out⟩):P:=h
theorem m5z {P:Prop} (h:P:=by
  unfold oagg
  go_enter Tryz.func61,Tryz.ntmps61
  go_wp2_with fail
  refine (HDd.out _).mono ?_
  rintro e w1 ⟨rfl,hb⟩
  have HE:Hid (Ext w w1):=((Ext.refl _).alloc _).trans hb
  clear hb
  go_wp2_with fail
  refine (HLs.out _ HE.out).mono ?_
  rintro e w2 ⟨F,caps,rfl,hF,hD,hE⟩
  have HE2:Hid (Ext w w2):=HE.out.trans hE
  have HM2:Hid (Calls Tryz.prog 133 #[.int .i64 c,.func (.func F) #[] caps] w2 (Maker True n B w s q)):=HM.out F caps w2 HE2.out hF hD
  clear hD hE hF HM HLs HDd
  go_wp2_with fail
  refine HM2.out.mono ?_
  rintro e w3 ⟨F2,caps2,rfl,hF2,hD2,hE2⟩
  have HD:Hid (True→Does n B F2 caps2 w3 s q):=hD2
  have HE3:Hid (Ext w w3):=hE2
  clear hD2 hE2
  go_wp2
  go_ret
  exact⟨F2,caps2,rfl,hF2,HD.out,HE3.out⟩):P:=h
theorem m6z {P:Prop} (h:P:=by
  intro F caps w0 hE00 hF hDo
  refine (whileLive_mk c (.func F) #[] caps w0).mono ?_
  rintro e w1 ⟨C,D,rfl,hC,hD,hb⟩
  have hE0:=hE00.trans hb
  refine⟨190,#[.pointer (some ⟨C,0,none⟩),.pointer (some ⟨D,0,none⟩)],rfl,fun _ _=>by kernel_rfl,fun _=>?_,hE0⟩
  intro wx K he hA hKB
  rw [show (#[Value.pointer (some ⟨B,0,none⟩)] ++ #[.pointer (some ⟨C,0,none⟩),.pointer (some ⟨D,0,none⟩)]:Array Value) = #[.pointer (some ⟨B,0,none⟩),.pointer (some ⟨C,0,none⟩),.pointer (some ⟨D,0,none⟩)] from by simp]
  rw [Sta.doT_if (by simp)]
  exact whileLive1_any n B C D s c F caps _ wx K hA hKB (cell_on hC he) (cell_on hD he) hr hc hF fun h=>(hDo h).ext (hb.trans he)):P:=h
theorem m7z {P:Prop} (h:P:=by
  have HRS:Hid (rs=zs.take k ++ z :: zs.drop k):=by show _=_;rw [← HR.out];unfold Tre.putT;rw [HC.out]
  obtain⟨A,hA,HSrc⟩:∃ A:Addr,(if cap=k then some (⟨b,off,none⟩:Addr) else some ⟨b,off+k * 5,none⟩)=some A∧Hid (∀ wy:World,NodesAt wy b off zs→∀ j u,(cellsZ (zs.drop k))[j]?=some u→wy.cell? (A.add j)=some u):=by
   by_cases h:cap=k
   ·refine⟨⟨b,off,none⟩,by simp [h],fun wy _ t u hu=>?_⟩
    rw [List.drop_of_length_le (by omega)] at hu
    simp [cellsZ] at hu
   ·refine⟨⟨b,off+k * 5,none⟩,by simp [h],fun wy hN=>(hN.drop k).news⟩
  have hkc:k≤cap:=by omega
  have hlt5:(cellsZ (zs.take k)).length=k * 5:=by rw [cellsZ_length,List.length_take];omega
  have hld:(cellsZ (zs.drop k)).length=(zs.length - k) * 5:=by rw [cellsZ_length,List.length_drop]
  have HN0:Hid (NodesAt (w1.alloc (.cells #[] 144)) b off zs):=HN.out.2.ext HN.out.1 (HE1.out.alloc _).ext
  have HO:Hid ((w1.alloc (.cells #[] 144)).ownsRow (w.heap.size+1) 144 5 (.slice (some ⟨w1.heap.size,0,none⟩) 0 0) 0 []):=World.ownsRow_made w1 #[] 0 HE1.out.size (by unfold maxLen;omega) rfl
  have hbl1:b < w1.heap.size:=Nat.lt_of_lt_of_le hb HE1.out.ext.size
  go_wp2_with (at_builtin;refine wpList_append_own _ rfl _ _ 33 rfl (w.heap.size+1) 144 i0 (.agg #[.string ByteArray.empty,.int .i64 0,.int .i64 0,.int .i64 0,.int .i64 0]) 5 48 Tryz.underlying33 hi hz0 hz1 hz2 rfl (by decide) (.slice (some ⟨w1.heap.size,0,none⟩) 0 0) 0 [] rfl HO.out ⟨b,off,none⟩ k _ (cellsZ (zs.take k)) rfl hlt5 (HN0.out.take k).news (cellsZ_one _) (by unfold maxLen;omega) (by omega) (by have:=HE1.out.size;simp;omega) ?_;intro v4 w4 hown4 hgrow4 hnil4)
  have HE4:Hid (Boxd w w4 z):=(HE1.out.alloc _).grown hgrow4 (fun q hq=>(HO.out.lt q hq).1)
  have HO4:Hid (w4.ownsRow (w.heap.size+1) 144 5 v4 (0+k) ([] ++ cellsZ (zs.take k))):=hown4
  obtain⟨c0,c1,c2,c3,c4⟩:=HE4.out.cells
  have hwl:w.heap.size < w4.heap.size:=by have:=HE4.out.size;omega
  clear hown4 hgrow4 hnil4
  go_region_law (first | (refine step_append_own _ rfl (.tmp 31) (.tmp 34) 33 rfl (w.heap.size+1) 144 i0 (.agg #[.string ByteArray.empty,.int .i64 0,.int .i64 0,.int .i64 0,.int .i64 0]) 5 48 Tryz.underlying33 hi hz0 hz1 hz2 rfl (by decide) v5 (0+k+1) ([] ++ cellsZ (zs.take k) ++ cellsZ [z]) (by simp [Act.eval]) HO5.out A (zs.length - k) (cap - k) (cellsZ (zs.drop k)) (by simp [Act.eval]) hld (HSrc.out w5 HN5.out) (cellsZ_one _) (by unfold maxLen;omega) (by omega) (by have:=HE5.out.size;omega) ?_;intro v6 w6 hown6 hgrow6 hnil6;have HE6:Hid (Boxd w w6 z):=HE5.out.grown hgrow6 (fun q hq=>(HO5.out.lt q hq).1);have HO6:Hid (w6.ownsRow (w.heap.size+1) 144 5 v6 (0+k+1+(zs.length - k)) ([] ++ cellsZ (zs.take k) ++ cellsZ [z] ++ cellsZ (zs.drop k))):=hown6;clear hown6 hgrow6 hnil6) | (refine step_append_own _ rfl (.tmp 28) (.tmp 30) 33 rfl (w.heap.size+1) 144 i0 (.agg #[.string ByteArray.empty,.int .i64 0,.int .i64 0,.int .i64 0,.int .i64 0]) 5 48 Tryz.underlying33 hi hz0 hz1 hz2 rfl (by decide) v4 (0+k) ([] ++ cellsZ (zs.take k)) (by simp [Act.eval]) (World.ownsRow.alloc (w:=w4.drew) HO4.out _) ⟨w4.heap.size,0,none⟩ 1 1 (cellsZ [z]) (by simp [Act.eval]) rfl (cells_new w4.drew z _) (cellsZ_one _) (by unfold maxLen;omega) (by omega) (by have:=HE4.out.size;simp;omega) ?_;intro v5 w5 hown5 hgrow5 hnil5;have HE5:Hid (Boxd w w5 z):=(HE4.out.drew.alloc _).grown hgrow5 (fun q hq=>(HO4.out.lt q hq).1);have HO5:Hid (w5.ownsRow (w.heap.size+1) 144 5 v5 (0+k+1) ([] ++ cellsZ (zs.take k) ++ cellsZ [z])):=hown5;have HN5:Hid (NodesAt w5 b off zs):=HN.out.2.ext HN.out.1 HE5.out.ext;clear hown5 hgrow5 hnil5))
  all_goals go_wp2
  all_goals
   obtain⟨g,a6,cap6,hg6,rfl,hO6⟩:=zret_own3 (rs:=zs.take k ++ z :: zs.drop k) HO6.out (by simp;omega) (by rw [cellsZ_append];simp [cellsZ])
   go_ret
   exact⟨_,g,rfl,by omega,by rw [HRS.out];exact hO6,HE6.out.ext⟩):P:=h
theorem m8z {P:Prop} (h:P:=by
  go_enter Tryz.func117,Tryz.ntmps117
  go_wp2_with fail
  refine (HT.out _ ((Ext.refl _).alloc _)).mono ?_
  rintro e w3 ⟨rfl,rfl⟩
  go_wp2_with fail
  refine (HK.out _ ((Ext.refl _).alloc _)).mono ?_
  rintro e w3 ⟨v3,g,rfl,hg,hO,hb3⟩
  obtain⟨a3,cap3,rfl,-⟩:=hO
  have HB3:Hid (Ext w w3):=((Ext.refl _).alloc _).trans hb3
  have HQ:Hid (RBox w3 w.heap.size):=(RBox.new w _).ext hb3
  clear hb3 hg
  rw [hkz]
  have hbl:b < w3.heap.size:=Nat.lt_of_lt_of_le hb HB3.out.size
  have HN3:Hid (NodesAt (w3.alloc (.cells #[] 144)) b off zs):=HN.out.2.ext HN.out.1 (HB3.out.alloc _)
  have HO:Hid ((w3.alloc (.cells #[] 144)).ownsRow w3.heap.size 144 5 (.slice (some ⟨w3.heap.size,0,none⟩) 0 0) 0 []):=World.ownsRow_made w3 #[] 0 (Nat.le_refl _) (by unfold maxLen;omega) rfl
  go_wp2_with first | (at_builtin;refine wpList_append_own _ rfl _ _ 33 rfl w3.heap.size 144 i0 (.agg #[.string ByteArray.empty,.int .i64 0,.int .i64 0,.int .i64 0,.int .i64 0]) 5 48 Tryz.underlying33 hi hz0 hz1 hz2 rfl (by decide) v4 (0+k) ([] ++ cellsZ (zs.take k)) rfl HO4.out A (zs.length - (k+1)) _ (cellsZ (zs.drop (k+1))) rfl hld (HSrc.out w4 HN4.out) (cellsZ_one _) (by unfold maxLen;omega) (by omega) (by have:=HS4.out;omega) ?_;intro v5 w5 hown5 hgrow5 hnil5;obtain⟨g5,a5,cap5,hg5,rfl,hO5⟩:=zret_own3 (rs:=zs.take k ++ zs.drop (k+1)) hown5 (by simp;omega) (by rw [cellsZ_append];simp);have HE5:Hid (Ext w3 w5):=Below.grown HE34.out hgrow5 (by have:=HS4.out;omega) (fun q hq=>(HO4.out.lt q hq).1);have HO5:Hid (Own w5 (.slice a5 (zs.take k ++ zs.drop (k+1)).length cap5) g5 (zs.take k ++ zs.drop (k+1))∧w3.heap.size≤g5):=⟨hO5,hg5⟩;obtain⟨q,q0,q1,q2,f0,f1,f2⟩:=HQ.out.ext HE5.out;clear hown5 hgrow5 hnil5 hO5 hg5) | (at_builtin;refine wpList_append_own _ rfl _ _ 33 rfl w3.heap.size 144 i0 (.agg #[.string ByteArray.empty,.int .i64 0,.int .i64 0,.int .i64 0,.int .i64 0]) 5 48 Tryz.underlying33 hi hz0 hz1 hz2 rfl (by decide) (.slice (some ⟨w3.heap.size,0,none⟩) 0 0) 0 [] rfl HO.out ⟨b,off,none⟩ k _ (cellsZ (zs.take k)) rfl hlt (HN3.out.take k).news (cellsZ_one _) (by unfold maxLen;omega) (by omega) (by simp) ?_;intro v4 w4 hown4 hgrow4 hnil4;have HE34:Hid (Ext w3 w4):=Below.grown ((Ext.refl _).alloc _) hgrow4 (by simp) (fun q hq=>(HO.out.lt q hq).1);have HS4:Hid (w3.heap.size≤w4.heap.size):=HE34.out.size;have HN4:Hid (NodesAt w4 b off zs):=HN.out.2.ext HN.out.1 (HB3.out.trans HE34.out);have HO4:Hid (w4.ownsRow w3.heap.size 144 5 v4 (0+k) ([] ++ cellsZ (zs.take k))):=hown4;clear hown4 hgrow4 hnil4)
  exact bodyPost_ret (v:=zr 0 ⟨#[]⟩ (.slice a5 (zs.take k ++ zs.drop (k+1)).length cap5)) (by simp [results,Tryz.results117,go_sem,zr,q0,q1,q2]) rfl (zret_own 0 ⟨#[]⟩ HO5.out.1 (by have:=HO5.out.2;have:=HQ.out.1;omega) (HB3.out.trans HE5.out) _ _ _)):P:=h
theorem m9z {P:Prop} (h:P:=by
  have h:=(sbox_new (w.alloc (.cells #[.slice an s.nodes.length cn,.slice ae s.ses.length ce,.int .i64 s.now,.slice am s.marks.length cm] t1)) (.slice none 0 0) (.slice none 0 0) (.int .i64 0) (.slice none 0 0) t2).ext ((Ext.refl _).alloc (.cells #[.int .i64 0,.int .i64 0,.string ⟨#[]⟩] t3))
  simp only [World.size_alloc] at h
  exact h):P:=h
theorem m10z {P:Prop} (h:P:=by
  have h:=ry_new ((w.alloc (.cells #[.slice an s.nodes.length cn,.slice ae s.ses.length ce,.int .i64 s.now,.slice am s.marks.length cm] t1)).alloc (.cells #[.slice none 0 0,.slice none 0 0,.int .i64 0,.slice none 0 0] t2)) (.int .i64 0) (.int .i64 0) (.string ⟨#[]⟩) t3
  simp only [World.size_alloc] at h
  exact h):P:=h
theorem m11z {P:Prop} (h:P:=by
  go_enter Tryz.func134,Tryz.ntmps134
  go_wp2_with fail
  refine (HM.out _ (by first | exact (Ext.refl _).alloc _ | exact Ext.refl _)).mono ?_
  rintro e w1 ⟨F,caps,rfl,hF,hD,hE⟩
  have HD:Hid (Ses.live s.ses c s.now=true→Does n B F caps w1 s q):=hD
  have HE:Hid (Ext w w1):=hE
  clear hD hE
  go_wp2
  go_ret
  exact⟨F,caps,rfl,hF,HD.out,HE.out⟩):P:=h
theorem m12z {P:Prop} (h:P:=by
  rw [if_neg h9]
  go_enter Tryz.func119,Tryz.ntmps119
  go_wp2_with fail
  refine (HD.out _).mono ?_
  rintro e w2 ⟨rfl,rfl⟩
  go_wp2_with fail
  refine (HT.out _ ((Ext.refl _).alloc _)).mono ?_
  rintro e w3 ⟨rfl,rfl⟩
  go_wp2_with fail
  refine (l2Copy_any _ zs _ (by exact HS.out.ext ((Ext.refl _).alloc _)) hl hpos).mono ?_
  rintro e w3 ⟨v3,g,rfl,hg,hO,hb⟩
  obtain⟨a3,cap3,rfl,hlc3,hcm3,hx3⟩:=id hO
  obtain⟨off3,rfl,hR,hM⟩:=hx3 hpos
  obtain⟨⟨y1,r1⟩,s1⟩:=hR.2 (k * 5+1) (by omega)
  obtain⟨-,s2⟩:=hR.2 (k * 5+2) (by omega)
  obtain⟨-,-,r2,-,-⟩:=hM k z HZ.out
  rw [← Nat.add_assoc] at r1 s1 s2
  have HO:Hid (Own w3 (.slice (some ⟨g,off3,none⟩) zs.length cap3) g zs):=hO
  have hg1:w.heap.size+1≤g:=by simpa using hg
  have HG:Hid (w.heap.size+1≤g):=hg1
  have hgn:¬ w.heap.size=g:=by omega
  have hgn2:¬ g=w.heap.size:=by omega
  have HQ:Hid (RBox w3 w.heap.size):=(RBox.new w _).ext hb
  have HB3:Hid (Ext w w3):=((Ext.refl _).alloc _).trans hb
  clear hb hO hR hM hx3 hg hg1
  unfold maxLen at hcm3
  obtain⟨q,q0,q1,q2,f0,f1,f2⟩:=HQ.out
  go_wp2
  refine bodyPost_ret (v:=zr 0 ⟨#[]⟩ (.slice (some ⟨g,off3,none⟩) zs.length cap3)) (by simp [results,Tryz.results119,go_sem,zr,q0,q1,q2]) rfl ?_
  exact zret_own 0 ⟨#[]⟩ (own_setDV HO.out HZ.out d (z.version+1)) HG.out ((HB3.out.setCell (p:=⟨g,off3+k * 5+1,none⟩) (by have:=HG.out;show _≤g;omega) _).setCell (p:=⟨g,off3+k * 5+2,none⟩) (by have:=HG.out;show _≤g;omega) _) _ _ _):P:=h
theorem m13z {P:Prop} (h:P:=by
  (try go_wp2)
  exact bodyPost_ret (v:=.tuple #[sagg (.slice an s.nodes.length cn) (.slice ae s.ses.length ce) s.now (.slice am s.marks.length cm),yagg rc 0 ⟨#[]⟩]) (by simp [results,Tryz.results52,go_sem,sagg,yagg, *]) rfl ⟨rfl,by repeat (first | (with_reducible refine Ext.setCell ?_ ?_ _;rotate_left;(show w.heap.size≤_;(try simp only [World.size_alloc]);omega)) | with_reducible refine Ext.alloc ?_ _ | with_reducible refine Ext.drew ?_ | with_reducible exact HE9.out | with_reducible exact Ext.refl _)⟩):P:=h
theorem m14z {P:Prop} (h:P:=by
  rintro e w1 ⟨rfl,hb⟩
  have hlt:w.heap.size < w1.heap.size:=by have:=hb.size;simp at this;omega
  have HB:Hid (Ext (w.alloc (.cells #[.int .i64 0,.string ByteArray.empty] 303)) w1):=hb
  clear hb hr hm
  unfold rpShape
  go_wp2_with fail
  refine (isName_any m _ hms).mono ?_
  rintro e w2 ⟨rfl,hb⟩
  rw [hok]
  have HB2:Hid (Ext (w.alloc (.cells #[.int .i64 0,.string ByteArray.empty] 303)) w2):=(HB.out.alloc _).trans hb
  obtain⟨hc,hf⟩:=Ext.cell hb
  have hlt2:w1.heap.size < w2.heap.size:=by have:=hb.size;simp at this;omega
  clear hb hok
  go_wp2_with fail
  refine (pathFault_any J _ (by exact (HG.out.alloc _).ext HB2.out)).mono ?_
  rintro e w3 ⟨rfl,hb⟩
  rw [HCJ.out]
  have HB3:Hid (Ext (w.alloc (.cells #[.int .i64 0,.string ByteArray.empty] 303)) w3):=HB2.out.trans hb
  clear hb hc hf
  obtain⟨hc,hf⟩:=Ext.cell HB3.out
  go_wp2
  exact bodyPost_ret (v:=.agg #[.int .i64 0,.string J]) (by simp [results,Tryz.results277,go_sem,hc]) rfl ⟨(by unfold tr;rw [← HJM.out]),((((Ext.refl w).alloc _).trans HB3.out).setCell (Nat.le_refl _) _).setCell (Nat.le_refl _) _⟩):P:=h
theorem m15z {P:Prop} (h:P:=by
  rintro e w1 ⟨rfl,hb⟩
  have hlt:w.heap.size < w1.heap.size:=by have:=hb.size;simp at this;omega
  have HB:Hid (Ext (w.alloc (.cells #[.int .i64 0,.string ByteArray.empty] 303)) w1):=hb
  clear hb hr hm
  unfold rpShape
  go_wp2_with fail
  refine (isName_any m _ hms).mono ?_
  rintro e w2 ⟨rfl,hb⟩
  rw [hok]
  have HB2:Hid (Ext (w.alloc (.cells #[.int .i64 0,.string ByteArray.empty] 303)) w2):=(HB.out.alloc _).trans hb
  obtain⟨hc,hf⟩:=Ext.cell hb
  have hlt2:w1.heap.size < w2.heap.size:=by have:=hb.size;simp at this;omega
  clear hb hok
  go_wp2_with fail
  refine (pathFault_any J _ (by exact (HG.out.alloc _).ext HB2.out)).mono ?_
  rintro e w3 ⟨rfl,hb⟩
  rw [HCJ.out]
  have HB3:Hid (Ext (w.alloc (.cells #[.int .i64 0,.string ByteArray.empty] 303)) w3):=HB2.out.trans hb
  clear hb hc hf
  obtain⟨hc,hf⟩:=Ext.cell HB3.out
  go_wp2
  exact bodyPost_ret (v:=tr (c,[])) (by simp [results,Tryz.results277,go_sem,tr,hc,mkB]) rfl ⟨rfl,((((Ext.refl w).alloc _).trans HB3.out).setCell (Nat.le_refl _) _).setCell (Nat.le_refl _) _⟩):P:=h
theorem m16z {P:Prop} (h:P:=by
  obtain⟨a,cap,h1,h2,h3,h4⟩:=h
  refine⟨a,cap,h1,h2,h3,fun h0=>?_⟩
  obtain⟨b,off,e,hb,hN⟩:=h4 h0
  exact⟨b,off,e,Nat.lt_of_lt_of_le hb he.size,hN.ext hb he⟩):P:=h
theorem m17z {P:Prop} (h:P:=by
  refine tk 15 ⟨some 64,.pick (.tmp 54) (.tmp 63) (.const (.bool false)),4,oz0,oy8,none⟩ ?_
  refine wpAnyH_done (by kernel_rfl) ?_ _
  generalize hw4:World.drew w3=w4
  have HE94:Hid (Ext w w4):=by show Ext w w4;rw [← hw4];exact E3.out.trans (Ext.refl _).drew
  obtain⟨n1',n2'⟩:=HN2.out w4 HE94.out
  obtain⟨p0',⟨c0',c1',c2'⟩,m0',m1',m2'⟩:RyAt w4 w.heap.size (.int .i64 0) (.int .i64 0) (.string ByteArray.empty):=by rw [← hw4];exact R3.out.ext (Ext.refl _).drew
  clear hw4 HE9
  have HE9:=HE94
  (try go_wp2)
  exact bodyPost_ret (v:=yagg 0 y.version ⟨#[]⟩) (by simp [results,Tryz.results120,go_sem,yagg, *]) rfl ⟨by first | rfl | simp [yagg],by repeat (first | exact Ext.refl _ | exact HE9.out | refine Ext.drew ?_ | refine Ext.alloc ?_ _ | refine Ext.setCell ?_ (by show w.heap.size≤_;(try simp only [World.size_alloc]);omega) _)⟩):P:=h
theorem m18z {P:Prop} (h:P:=by
  obtain⟨hc,hf⟩:=Ext.cell he
  exact⟨Nat.lt_of_lt_of_le h.1 he.size,fun j hj=>⟨by rw [hc _ _ h.1];exact (h.2 j hj).1,by rw [hf _ _ h.1];exact (h.2 j hj).2⟩⟩):P:=h
theorem m19z {P:Prop} (h:P:=by
  go_enter Tryz.func117,Tryz.ntmps117
  go_wp2_with fail
  refine (HT.out _ ((Ext.refl _).alloc _)).mono ?_
  rintro e w3 ⟨rfl,rfl⟩
  go_wp2_with fail
  refine (HK.out _ ((Ext.refl _).alloc _)).mono ?_
  rintro e w3 ⟨v3,g,rfl,hg,hO,hb3⟩
  obtain⟨a3,cap3,rfl,-⟩:=hO
  have HB3:Hid (Ext w w3):=((Ext.refl _).alloc _).trans hb3
  have HQ:Hid (RBox w3 w.heap.size):=(RBox.new w _).ext hb3
  clear hb3 hg
  go_wp2_with fail
  refine (HB0.out _ _).mono ?_
  rintro e w4 ⟨rfl,hb4⟩
  obtain⟨q,q0,q1,q2,f0,f1,f2⟩:=(HQ.out).ext hb4
  have HB4:Hid (Ext w w4):=(HB3.out).trans hb4
  clear hb4
  go_wp2
  exact bodyPost_ret (v:=zr 8 ⟨#[]⟩ (.slice none 0 0)) (by simp [results,Tryz.results117,go_sem,zr,q0,q1,q2]) rfl (zret_bad _ _ (HB4.out.box3 _ _ _))):P:=h
theorem m20z {P:Prop} (h:P:=by
  obtain⟨a,cap,h1,h2,-,h4⟩:=hS
  obtain⟨bb,off,rfl,hbb,hN⟩:=h4 (by omega)
  exact⟨bb,off,⟨cap,h1,h2⟩,fun W he=>⟨(hN.ext hbb he k y hz).2.1,(hN.ext hbb he k y hz).2.2.1⟩⟩):P:=h
theorem m21z {P:Prop} (h:P:=by
  go_wp2_with (at_builtin;go_must (refine wpList_append_own _ rfl _ _ 33 rfl w.heap.size 144 i0 (.agg #[.string ByteArray.empty,.int .i64 0,.int .i64 0,.int .i64 0,.int .i64 0]) 5 48 Tryz.underlying33 hi hz0 hz1 hz2 rfl (by decide) _ 0 [] rfl HO.out ⟨b,off,none⟩ zs.length cap (cellsZ zs) rfl (cellsZ_length zs) HN.out.news (cellsZ_one zs) (by unfold maxLen;omega) (by omega) (by simp) ?_;intro v' w3 hown' hgrow3 hnil3))
  have hown2:w3.ownsRow w.heap.size 144 5 v' zs.length (cellsZ zs):=by simpa using hown'
  obtain⟨g,hg,hO⟩:=Own.of_row hown2
  have HE:Ext w w3:=((Below.refl _ _).alloc (Nat.le_refl _) _).grown hgrow3 (by simp) (fun q hq=>(HO.out.lt q hq).1)
  go_ret
  exact⟨_,g,rfl,hg,hO,HE⟩):P:=h
theorem m22z {P:Prop} (h:P:=by
  rintro e w2 ⟨rfl,hb⟩
  have HB:Hid (Ext w w2):=hb
  clear hb
  go_wp2
  go_ret
  exact⟨rfl,HB.out⟩):P:=h
theorem m23z {P:Prop} (h:P:=by
  have h0' : 0 < l0:=by simpa using h0
  have hs:a=⟨a.block,a.off,none⟩:=spot_none (by have:=(hfz 0 (by omega)).2.1;simpa [Addr.add] using this)
  refine⟨a.block,a.off,by rw [← hs],World.block_lt_of_cell? W _ (hfz 0 (by omega)).2.1,?_⟩
  intro i z hz
  rw [List.getElem?_map] at hz
  obtain⟨j,hj,rfl⟩:=Option.map_eq_some_iff.1 hz
  have hi:=(List.getElem?_eq_some_iff.1 hj).1
  rw [List.length_range] at hi
  have hj2:i=j:=by rw [List.getElem?_range hi] at hj;exact Option.some.inj hj
  subst hj2
  obtain⟨_,q0,q1,q2,q3,q4⟩:=hfz i (by omega)
  rw [hs,Addr.add_lit] at q0 q1 q2 q3 q4
  simp only [Nat.add_zero,← Nat.add_assoc] at q0 q1 q2 q3 q4
  exact⟨q0,q1,q2,q3,q4⟩):P:=h
theorem m24z {P:Prop} (h:P:=by
  unfold oagg
  go_enter Tryz.func135,Tryz.ntmps135
  go_wp2
  go_ret
  exact⟨rfl,(Ext.refl _).alloc _⟩):P:=h
theorem m25z {P:Prop} (h:P:=by
  obtain⟨a,cap,h1,h2,h3,h4⟩:=h
  refine⟨a,cap,h1,h2,h3,fun h0=>?_⟩
  obtain⟨off,e,hr,hN⟩:=h4 h0
  exact⟨off,e,hr.ext he,hN.ext hr.1 he⟩):P:=h
theorem m26z {P:Prop} (h:P:=by
  rw [if_pos h9]
  go_enter Tryz.func119,Tryz.ntmps119
  go_wp2_with fail
  refine (HD.out _).mono ?_
  rintro e w2 ⟨rfl,rfl⟩
  go_wp2_with fail
  refine (HT.out _ ((Ext.refl _).alloc _)).mono ?_
  rintro e w3 ⟨rfl,rfl⟩
  go_wp2_with fail
  refine (HB0.out _ _).mono ?_
  rintro e w3 ⟨rfl,hb⟩
  obtain⟨q,q0,q1,q2,f0,f1,f2⟩:=(RBox.new w _).ext hb
  have HB3:Hid (Ext w w3):=((Ext.refl _).alloc _).trans hb
  clear hb
  go_wp2
  exact bodyPost_ret (v:=zr 2 ⟨#[]⟩ (.slice none 0 0)) (by simp [results,Tryz.results119,go_sem,zr,q0,q1,q2]) rfl (zret_bad _ _ (HB3.out.box3 _ _ _))):P:=h
theorem m27z {P:Prop} (h:P:=by
  go_wp2_with fail
  refine HF.out.mono ?_
  rintro e w2 ⟨rfl,hb⟩
  have HB:Hid (Ext w w2):=hb
  clear hb
  go_wp2_with fail
  refine (HN.out _).mono ?_
  rintro e w' ⟨rfl,rfl⟩
  go_wp2
  go_ret
  exact⟨rfl,HB.out⟩):P:=h
theorem m28z {P:Prop} (h:P:=by
  obtain⟨a,cap,h1,h2,h3,h4⟩:=h
  refine⟨a,cap,h1,h2,h3,fun h0=>?_⟩
  obtain⟨off,e,hr,hN⟩:=h4 h0
  exact⟨g,off,e,hr.1,hN⟩):P:=h
theorem m29z {P:Prop} (h:P:=by
  obtain⟨h1,h2,h3,h4,h5,h6,h7⟩:=h
  exact⟨Nat.lt_of_lt_of_le h1 he.2.1,(he.at_ne _ _ hne h1).1.trans h2,(he.at_ne _ _ hne h1).1.trans h3,(he.at_ne _ _ hne h1).1.trans h4,(he.at_ne _ _ hne h1).2.trans h5,(he.at_ne _ _ hne h1).2.trans h6,(he.at_ne _ _ hne h1).2.trans h7⟩):P:=h
theorem m30z {P:Prop} (h:P:=by
  go_enter Tryz.func275,Tryz.ntmps275
  go_wp2_with fail
  refine (isName_any s _ hs).mono ?_
  rintro e w1 ⟨rfl,hb⟩
  rw [hok]
  have HB:Hid (Ext (w.alloc (.cells #[.int .i64 0,.string ByteArray.empty] 303)) w1):=hb
  clear hb hok
  obtain⟨hc,hf⟩:=Ext.cell HB.out
  go_wp2
  exact bodyPost_ret (v:=tr (3,[])) (by simp [results,Tryz.results275,go_sem,tr,hc,mkB]) rfl ⟨rfl,((((Ext.refl w).alloc _).trans HB.out).setCell (Nat.le_refl _) _).setCell (Nat.le_refl _) _⟩):P:=h
theorem m31z {P:Prop} (h:P:=by
  refine⟨0,Nat.zero_le _,rfl,rfl,?_,Upd.refl _ _⟩
  intro off ha h0
  obtain⟨off',ha',hr,_⟩:=HX.out h0
  rw [ha] at ha'
  simp only [Option.some.injEq,Addr.mk.injEq,true_and,and_true] at ha'
  subst ha'
  exact⟨hr,fun i z h=>by simp at h⟩):P:=h
theorem m32z {P:Prop} (h:P:=by
  obtain⟨a,cap,h1,h2,h3,-⟩:=h
  exact⟨a,cap,h1,h2,h3,fun h=>absurd h h0⟩):P:=h
theorem m33z {P:Prop} (h:P:=by
  obtain⟨a,cap,h1,h2,h3,h4⟩:=h
  refine⟨a,cap,h1,h2,h3,fun h0=>?_⟩
  obtain⟨off,e,hr,hN⟩:=h4 h0
  have hq:=fun o=>hs.2.1 g o hr.1 (hne h0)
  refine⟨off,e,⟨Nat.lt_of_lt_of_le hr.1 hs.2.2,fun j hj=>⟨by rw [(hq _).1];exact (hr.2 j hj).1,by rw [(hq _).2];exact (hr.2 j hj).2⟩⟩,fun i z hz=>?_⟩
  obtain⟨c0,c1,c2,c3,c4⟩:=hN i z hz
  exact⟨(hq _).1.trans c0,(hq _).1.trans c1,(hq _).1.trans c2,(hq _).1.trans c3,(hq _).1.trans c4⟩):P:=h
theorem m34z {P:Prop} (h:P:=by
  rw [if_neg hpz] at hsz
  have HA2:Hid (∀ (j:Nat) z,j < k+1→zs[j]?=some z→z.path.size≤1048576):=by
   intro j z' hj hz'
   by_cases hjk:j=k
   ·subst hjk;rw [HZ.out] at hz';cases hz';omega
   ·exact HA.out j z' (by omega) hz'
  go_wp2_with fail
  refine hsz.mono ?_
  rintro e w2 ⟨rfl,hb2⟩
  have HE2:Hid (Ext w w2):=HE.out.trans hb2
  clear hb2 hsz
  go_wp2
  exact⟨⟨k+1,_,by omega,by go_num,rfl,by omega,by omega,HA2,HE2⟩,by simp [intOf];omega⟩):P:=h
theorem m35z {P:Prop} (h:P:=by
  have HE:Ext w w3:=((Below.refl _ _).alloc (Nat.le_refl _) _).grown hgrow3 (by simp) (fun q hq=>(HO.out.lt q hq).1)
  go_ret
  exact⟨_,g,rfl,hg,hO,HE⟩):P:=h
theorem m36z {P:Prop} (h:P:=by
  obtain⟨a,cap,h1,h2,h3,h4⟩:=h
  refine⟨a,cap,h1,h2,h3,fun h0=>?_⟩
  obtain⟨off,e,hr,hN⟩:=h4 h0
  have hq:=hq h0
  refine⟨off,e,⟨Nat.lt_of_lt_of_le hr.1 hs,fun j hj=>⟨by rw [(hq _).1];exact (hr.2 j hj).1,by rw [(hq _).2];exact (hr.2 j hj).2⟩⟩,fun i z hz=>?_⟩
  obtain⟨c0,c1,c2,c3,c4⟩:=hN i z hz
  exact⟨(hq _).1.trans c0,(hq _).1.trans c1,(hq _).1.trans c2,(hq _).1.trans c3,(hq _).1.trans c4⟩):P:=h
theorem m37z {P:Prop} (h:P:=by
  obtain⟨a,cap,-,-,-,h4⟩:=h
  obtain⟨off,-,hr,-⟩:=h4 h0
  exact hr.1):P:=h
theorem m38z {P:Prop} (h:P:=by
  rintro e w0 ⟨rfl,rfl⟩
  go_wp2_with fail
  refine (HB0.out _ _).mono ?_
  rintro e w9 ⟨rfl,hb9⟩
  obtain⟨q9,q0,q1,q2,f0,f1,f2⟩:=(RBox.new w _).ext hb9
  have HB9:Hid (Ext w w9):=((Ext.refl _).alloc _).trans hb9
  clear hb9
  go_wp2
  exact bodyPost_ret (v:=zr 3 ⟨#[]⟩ (.slice none 0 0)) (by simp [results,Tryz.results116,go_sem,zr,q0,q1,q2]) rfl (zret_bad _ _ (HB9.out.box3 _ _ _))):P:=h
theorem m39z {P:Prop} (h:P:=by
  rw [Nat.zero_add] at p1 p2 p3
  have P1:Hid _:=p1
  have P2:Hid _:=p2
  have P3:Hid _:=p3
  clear p1 p2 p3
  go_wp2
  exact⟨⟨k+1,by omega,by go_num,P1.out,P2.out,P3.out⟩,by simp [intOf];omega⟩):P:=h
theorem m40z {P:Prop} (h:P:=by
  have h:=(sbox_new (w.alloc (.cells #[.slice an s.nodes.length cn,.slice (some ⟨bb,off,none⟩) s.ses.length ce,.int .i64 s.now,.slice am s.marks.length cm] t1)) (.slice none 0 0) (.slice none 0 0) (.int .i64 0) (.slice none 0 0) t2).ext ((Ext.refl _).alloc (.cells #[.int .i64 0,.int .i64 0,.string ⟨#[]⟩] t3))
  simp only [World.size_alloc] at h
  exact h):P:=h
theorem m41z {P:Prop} (h:P:=by
  have h:=(sbox_new (w.alloc (.cells #[.slice (some ⟨bb,off,none⟩) s.nodes.length cn,.slice ae s.ses.length ce,.int .i64 s.now,.slice am s.marks.length cm] t1)) (.slice none 0 0) (.slice none 0 0) (.int .i64 0) (.slice none 0 0) t2).ext ((Ext.refl _).alloc (.cells #[.int .i64 0,.int .i64 0,.string ⟨#[]⟩] t3))
  simp only [World.size_alloc] at h
  exact h):P:=h
theorem m42z {P:Prop} (h:P:=by
  rintro e w3 ⟨rfl,rfl⟩
  go_wp2
  go_ret
  exact⟨ret_int (HV.out 3 (by decide) (Tre.nodeC_nums HZ.out HC.out HW.out)),HE2.out⟩):P:=h
theorem m43z {P:Prop} (h:P:=by
  obtain⟨a,cap,h1,h2,h3,h4⟩:=h
  refine⟨a,cap,h1,h2,h3,fun _=>?_⟩
  obtain⟨off,e,hr,hN⟩:=h4 h0
  exact⟨off,e,hr.upd he (hne h0),hN.upd he (hne h0) hr.1⟩):P:=h
theorem m44z {P:Prop} (h:P:=by
  have h:=(OBox6.new (w.alloc (.cells #[.slice an s.nodes.length cn,.slice ae s.ses.length ce,.int .i64 s.now,.slice am s.marks.length cm] t1)) z t2).ext ((Ext.refl _).alloc (.cells #[.int .i64 0,.int .i64 0,.int .i64 0,.string ⟨#[]⟩,.slice none 0 0,.slice none 0 0,.int .i64 0,.slice none 0 0] t3))
  simp only [World.size_alloc] at h
  exact h):P:=h
theorem m45z {P:Prop} (h:P:=by
  have h:=ry_new ((w.alloc (.cells #[.slice an s.nodes.length cn,.slice (some ⟨bb,off,none⟩) s.ses.length ce,.int .i64 s.now,.slice am s.marks.length cm] t1)).alloc (.cells #[.slice none 0 0,.slice none 0 0,.int .i64 0,.slice none 0 0] t2)) (.int .i64 0) (.int .i64 0) (.string ⟨#[]⟩) t3
  simp only [World.size_alloc] at h
  exact h):P:=h
theorem m46z {P:Prop} (h:P:=by
  have h:=ry_new ((w.alloc (.cells #[.slice (some ⟨bb,off,none⟩) s.nodes.length cn,.slice ae s.ses.length ce,.int .i64 s.now,.slice am s.marks.length cm] t1)).alloc (.cells #[.slice none 0 0,.slice none 0 0,.int .i64 0,.slice none 0 0] t2)) (.int .i64 0) (.int .i64 0) (.string ⟨#[]⟩) t3
  simp only [World.size_alloc] at h
  exact h):P:=h
theorem m47z {P:Prop} (h:P:=by
  go_enter Tryz.func257,Tryz.ntmps257
  go_wp2_with (at_builtin;refine Lib.wpList_append_run _ rfl _ _ _ _ rfl _ _ rfl rfl _ _ (hrun _) ?_)
  all_goals (go_ret;exact⟨rfl,rfl⟩)):P:=h
theorem m48z {P:Prop} (h:P:=by
  go_enter Tryz.func75,Tryz.ntmps75
  go_wp2_with fail
  refine (HI.out _ _ _ (((Ext.refl _).alloc _).alloc _) (by simp) (by simp)).mono ?_
  rintro e w1 ⟨rfl,hb⟩
  have HB:Hid (Ext w w1):=(((Ext.refl _).alloc _).alloc _).trans hb
  clear hb
  go_wp2
  go_ret
  exact⟨_,rfl,HP.out,HB.out⟩):P:=h
theorem m49z {P:Prop} (h:P:=by
  obtain⟨hc,hf⟩:=Ext.cell he
  obtain⟨hb,⟨c0,c1,c2,c3⟩,f0,f1,f2,f3⟩:=h
  exact⟨Nat.lt_of_lt_of_le hb he.size,⟨(hc _ _ hb).trans c0,(hc _ _ hb).trans c1,(hc _ _ hb).trans c2,(hc _ _ hb).trans c3⟩,(hf _ _ hb).trans f0,(hf _ _ hb).trans f1,(hf _ _ hb).trans f2,(hf _ _ hb).trans f3⟩):P:=h
theorem m50z {P:Prop} (h:P:=by
  have h:=RZ.new ((w.alloc (.cells #[.slice an s.nodes.length cn,.slice ae s.ses.length ce,.int .i64 s.now,.slice am s.marks.length cm] t1)).alloc (.cells #[.int .i64 z.kind,.string z.path,.int .i64 z.data,.int .i64 z.version,.bool z.seq,.bool z.own] t2)) t3
  simp only [World.size_alloc] at h
  exact h):P:=h
theorem m51z {P:Prop} (h:P:=by
  exact⟨base,Nat.le_refl _,none,0,by rw [hv,h0],by omega,by unfold maxLen;omega,fun h=>by omega⟩):P:=h
theorem m52z {P:Prop} (h:P:=by
  have hl20:((zs.length:Nat):Int)=20:=by omega
  obtain⟨q,q0,q1,q2,f0,f1,f2⟩:=Q9.out
  go_wp2
  exact bodyPost_ret (v:=zr 2 ⟨#[]⟩ (.slice none 0 0)) (by simp [results,Tryz.results227,go_sem,zr,q0,q1,q2]) rfl (by rw [HR2.out];exact zret_bad _ _ (E9.out.box3 _ _ _))):P:=h
theorem m53z {P:Prop} (h:P:=by
  rintro e w3 ⟨rfl,hw⟩
  rw [hw]
  clear hw w3
  obtain⟨q,q0,q1,q2,f0,f1,f2⟩:=Q2.out
  go_wp2
  exact bodyPost_ret (v:=zr 3 ⟨#[]⟩ (.slice none 0 0)) (by simp [results,Tryz.results227,go_sem,zr,q0,q1,q2]) rfl (by rw [HR3.out];exact zret_bad _ _ (E2.out.box3 _ _ _))):P:=h
theorem m54z {P:Prop} (h:P:=by
  intro i z hz
  obtain⟨c0,c1,c2,c3,c4⟩:=h i z hz
  refine⟨?_,?_,?_,?_,?_⟩ <;> rw [iset_ne _ _ _ _ _ _ (Or.inl hne)] <;> assumption):P:=h
theorem m55z {P:Prop} (h:P:=by
  have hke:k=zs.length:=by omega
  subst hke
  obtain⟨g,hg,hT⟩:=TOwn.of_row HO.out
  rw [List.take_length] at hT
  have HT:Hid (w.heap.size≤g∧TOwn wr u5 g (Tre.kids zs p)):=⟨hg,hT⟩
  clear hg hT
  go_wp2
  go_ret
  exact⟨_,g,rfl,HT.out.1,HT.out.2,HE.out⟩):P:=h
theorem m56z {P:Prop} (h:P:=by
  unfold Pth.many at hm
  simp only [Bool.or_eq_false_iff,decide_eq_false_iff_not,len_eq] at hm
  omega):P:=h
theorem m57z {P:Prop} (h:P:=by
  refine⟨by simp,fun j hj=>⟨⟨M[j]'(by omega),?_⟩,by simp⟩⟩
  rw [Nat.zero_add,World.cell?_alloc_at _ _ _ _ rfl]
  simp [hMs,hj]):P:=h
theorem m58z {P:Prop} (h:P:=by
  obtain⟨hc,hf⟩:=Ext.cell HB2.out
  go_wp2
  exact bodyPost_ret (v:=tr (5,[])) (by simp [results,Tryz.results277,go_sem,tr,hc,mkB]) rfl ⟨rfl,((((Ext.refl w).alloc _).trans HB2.out).setCell (Nat.le_refl _) _).setCell (Nat.le_refl _) _⟩):P:=h
theorem m59z {P:Prop} (h:P:=by
  clear hat hi ht hN hsk
  go_wp2_with fail
  refine (HI.out _).mono ?_
  rintro e w' ⟨rfl,rfl⟩
  go_wp2_with fail
  refine (HT.out _).mono ?_
  rintro e w' ⟨rfl,rfl⟩
  go_wp2
  go_ret
  exact⟨ret_int HR.out.symm,by first | exact HE.out | exact HE.out.alloc _⟩):P:=h
theorem m60z {P:Prop} (h:P:=by
  all_goals
   go_wp2
   exact⟨⟨k+1,by omega,by go_num,HE.out.trans (((Ext.refl _).drew).trans hb2)⟩,by simp [intOf];omega⟩):P:=h
theorem m61z {P:Prop} (h:P:=by
  obtain⟨a9,c9,h9,-,-,h8⟩:=hS.1
  obtain⟨b9,off9,e9,-,-⟩:=h8 hpos
  injection h9 with e1 e2 e3
  subst e1 e3
  subst e9
  have h:=l2Create_any b9 off9 cn s.nodes z.path z.data (c) z.seq wx (hS.1.ext he) hnl hpos hp hnx
  rw [hT] at h
  exact h):P:=h
theorem m62z {P:Prop} (h:P:=by
  obtain⟨a9,c9,h9,-,-,h8⟩:=hS.1
  obtain⟨b9,off9,e9,-,-⟩:=h8 hpos
  injection h9 with e1 e2 e3
  subst e1 e3
  subst e9
  have h:=l2Create_any b9 off9 cn s.nodes z.path z.data (0) z.seq wx (hS.1.ext he) hnl hpos hp hnx
  rw [hT] at h
  exact h):P:=h
theorem m63z {P:Prop} (h:P:=by
  obtain⟨a9,c9,h9,h7,-,h8⟩:=hS.1
  obtain⟨b9,off9,e9,hb9,hN9⟩:=h8 (by omega)
  subst e9
  injection h9 with e1 e2 e3
  injection e1 with e1
  injection e1 with e4 e5 _
  subst e3 e4 e5
  exact⟨h7,fun W he=>(hN9.ext hb9 he k y hz).2.2.1⟩):P:=h
theorem m64z {P:Prop} (h:P:=by
  obtain⟨q,q0,q1,q2,f0,f1,f2⟩:=Q9.out
  go_wp2
  exact bodyPost_ret (v:=zr 6 ⟨#[]⟩ (.slice none 0 0)) (by simp [results,Tryz.results227,go_sem,zr,q0,q1,q2]) rfl (by rw [HR6.out];exact zret_bad _ _ (E9.out.box3 _ _ _))):P:=h
theorem m65z {P:Prop} (h:P:=by
  intro i z hz
  obtain⟨c0,c1,c2,c3,c4⟩:=h i z hz
  exact⟨(he.at_ne _ _ hne hg).1.trans c0,(he.at_ne _ _ hne hg).1.trans c1,(he.at_ne _ _ hne hg).1.trans c2,(he.at_ne _ _ hne hg).1.trans c3,(he.at_ne _ _ hne hg).1.trans c4⟩):P:=h
theorem m66z {P:Prop} (h:P:=by
  go_enter Tryz.func100,Tryz.ntmps100
  go_wp2_with fail
  refine (HC.out _).mono ?_
  rintro e w1 ⟨rfl,hb⟩
  have HB:Hid (Ext w w1):=((Ext.refl _).alloc _).trans hb
  clear hb
  go_wp2
  go_ret
  exact⟨rfl,HB.out⟩):P:=h
theorem m67z {P:Prop} (h:P:=by
  clear hat hN hzk hg
  go_wp2_with fail
  refine (HC.out _ HE.out).mono ?_
  rintro e w2 ⟨rfl,hb2⟩
  have HB:Hid (Ext w w2):=HE.out.trans hb2
  clear hb2
  go_wp2
  exact⟨⟨k+1,by omega,by go_num,HA2,HB⟩,by simp [intOf];omega⟩):P:=h
theorem m68z {P:Prop} (h:P:=by
  rintro e w' ⟨a5,c5,g5,rfl,hg,hO5,hE⟩
  exact dret_nodes hH hn rfl hg hO5 hE):P:=h
theorem m69z {P:Prop} (h:P:=by
  clear hat
  go_wp2
  try go_region
  all_goals
   go_wp2
   first | exact⟨⟨k+1,by omega,by go_num,HA2,HE⟩,by simp [intOf];omega⟩ | exact⟨⟨k+1,by omega,by go_num,HA2,HE.out.drew⟩,by simp [intOf];omega⟩):P:=h
theorem m70z {P:Prop} (h:P:=by
  refine callsD_of_wpS Tryz.func131 rfl fun c₀ cs hu=>?_
  refine wpS_of_wp ?_
  rw [Tryz.ntmps131]
  go_wp2
  cases c₀
  simp_all [bodyPostS,results,Tryz.results131,go_sem]):P:=h
theorem m71z {P:Prop} (h:P:=by
  all_goals
   go_wp2
   exact⟨⟨j+1,by omega,by go_num,by rw [show k+5 * (j+1)=kk+5 from by rw [HK.out];omega];go_num,HE.out.trans (((Ext.refl _).drew).trans hb2)⟩,by simp [intOf];omega⟩):P:=h
theorem m72z {P:Prop} (h:P:=by
  clear hat hN hzk hg
  go_wp2_with fail
  refine (HC.out _ HE.out).mono ?_
  rintro e w2 ⟨rfl,hb2⟩
  have HB:Hid (Ext w w2):=HE.out.trans hb2
  clear hb2
  go_wp2
  go_ret
  exact⟨ret_int HR.out.symm,HB.out⟩):P:=h
theorem m73z {P:Prop} (h:P:=by
  go_enter Tryz.func90,Tryz.ntmps90
  go_wp2
  go_ret
  exact⟨by simp [h0,h1],rfl⟩):P:=h
theorem m74z {P:Prop} (h:P:=by
  obtain⟨hc,hf⟩:=Ext.cell he
  obtain⟨h1,h2,h3,h5,h6⟩:=h
  exact⟨Nat.lt_of_lt_of_le h1 he.size,(hc _ _ h1).trans h2,(hc _ _ h1).trans h3,(hf _ _ h1).trans h5,(hf _ _ h1).trans h6⟩):P:=h
theorem m75z {P:Prop} (h:P:=by
  have hq1:¬ cap=m:=by omega
  have hq2:m≤zs.length:=by omega
  have hq3:m≤cap:=by omega
  go_wp2
  go_ret
  exact⟨by rw [← HM1.out];rfl,by exact (HF.out _ rfl).1,(HF.out _ rfl).2⟩):P:=h
theorem m76z {P:Prop} (h:P:=by
  go_enter Tryz.func90,Tryz.ntmps90
  go_wp2
  go_ret
  exact⟨by simp;omega,rfl⟩):P:=h
theorem m77z {P:Prop} (h:P:=by
  go_enter Tryz.func90,Tryz.ntmps90
  go_wp2
  go_ret
  exact⟨by simp [h1],rfl⟩):P:=h
theorem m78z {P:Prop} (h:P:=by
  go_wp2
  go_ret
  exact⟨w.heap.size,rfl,by simp,(Ext.refl _).alloc _⟩):P:=h
theorem m79z {P:Prop} (h:P:=by
  go_wp2_with fail
  refine (HC1.out _).mono ?_
  rintro e w2 ⟨rfl,hb2⟩
  have HE2:Hid (Ext w w2):=HE.out.trans hb2
  clear hb2
  go_wp2
  go_ret2
  exact⟨by rw [HKE.out,HBE.out];rfl,HE2.out⟩):P:=h
theorem m80z {P:Prop} (h:P:=by
  go_enter Tryz.func109,Tryz.ntmps109
  go_wp2
  go_ret
  exact⟨rfl,rfl⟩):P:=h
theorem m81z {P:Prop} (h:P:=by
  clear hb9
  go_wp2
  exact bodyPost_ret (v:=zr 6 ⟨#[]⟩ (.slice none 0 0)) (by simp [results,Tryz.results116,go_sem,zr,q0,q1,q2]) rfl (zret_bad _ _ (HB9.out.box3 _ _ _))):P:=h
theorem m82z {P:Prop} (h:P:=by
  clear hb9
  go_wp2
  exact bodyPost_ret (v:=zr 2 ⟨#[]⟩ (.slice none 0 0)) (by simp [results,Tryz.results116,go_sem,zr,q0,q1,q2]) rfl (zret_bad _ _ (HB9.out.box3 _ _ _))):P:=h
theorem m83z {P:Prop} (h:P:=by
  exact⟨g,Nat.le_of_lt (h.lt h0),h,Or.inr ⟨rfl,h.lt h0,h0⟩⟩):P:=h
theorem m84z {P:Prop} (h:P:=by
  rintro e w3 ⟨rfl,hw⟩
  rw [hw]
  clear hw w3
  go_wp2
  go_ret
  exact⟨ret_int HG.out.symm,HB.out⟩):P:=h
theorem m85z {P:Prop} (h:P:=by
  go_enter Tryz.func147,Tryz.ntmps147
  go_wp2
  go_ret
  exact⟨ret_bool (by first | rfl | (simp;done) | (simp_all;done)),(Ext.refl _).alloc _⟩):P:=h
theorem m86z {P:Prop} (h:P:=by
  rw [iset_ne _ _ _ _ _ _ (Or.inl hne)]
  exact⟨(hr.2 j hj).1,by simpa using (hr.2 j hj).2⟩):P:=h
theorem m87z {P:Prop} (h:P:=by
  all_goals exact bodyPost_ret (v:=er 0 (.slice a6 rs.length cap6)) (by simp [results,Tryz.results112,go_sem,er,x1,x2]) rfl (eretO_box 0 HE6.out.to HO7.out)):P:=h
theorem m88z {P:Prop} (h:P:=by
  go_wp2
  go_ret
  exact⟨ret_int HR.out.symm,by first | exact HE.out | exact HE.out.drew⟩):P:=h
theorem m89z {P:Prop} (h:P:=by
  have:=hasVersion_any g (off4+k * 5) z.version n w5 d2
  rw [HNV.out] at this
  exact this):P:=h
theorem m90z {P:Prop} (h:P:=by
  intro j hj
  obtain⟨⟨u,hu⟩,hf⟩:=h.2 (o+j - off) (by omega)
  rw [show off+(o+j - off)=o+j from by omega] at hu hf
  exact⟨by rw [hu];rfl,hf⟩):P:=h
theorem m91z {P:Prop} (h:P:=by
  go_wp2
  exact⟨⟨k+1,by omega,by go_num,HA2,HE.out⟩,by simp [intOf];omega⟩):P:=h
theorem m92z {P:Prop} (h:P:=by
  have HF:Hid (idxM c n 0 l = -1):=by show _=_;rw [← HA.out,List.drop_of_length_le (by omega),idxM]
  go_wp2
  go_ret
  exact⟨ret_int HF.out.symm,HE.out⟩):P:=h
theorem m93z {P:Prop} (h:P:=by
  have HF:Hid (R=ce):=by show _=_;rw [HR.out,Sta.fault_e T0.out (by rw [T1.out];exact h1),T1.out]
  go_wp2
  go_ret
  exact⟨ret_int HF.out.symm,HB2.out⟩):P:=h
theorem m94z {P:Prop} (h:P:=by
  go_enter Tryz.func113,Tryz.ntmps113
  go_wp2_with fail
  refine HF.out.mono ?_
  rintro e w' ⟨rfl,rfl⟩
  go_wp2
  go_ret
  exact⟨rfl,rfl⟩):P:=h
theorem m95z {P:Prop} (h:P:=by
  obtain⟨hc,_⟩:=Ext.cell he
  exact⟨(hc _ _ hb).trans c0,(hc _ _ hb).trans c1,(hc _ _ hb).trans c2,(hc _ _ hb).trans c3,(hc _ _ hb).trans c4⟩):P:=h
theorem m96z {P:Prop} (h:P:=by
  have HF:Hid (R=ct):=by show _=_;rw [HR.out,Sta.fault_t (by rw [T0.out];exact h0),T0.out]
  go_wp2
  go_ret
  exact⟨ret_int HF.out.symm,HB.out⟩):P:=h
theorem m97z {P:Prop} (h:P:=by
  have HG:Hid (R=0):=by show _=_;rw [← HA.out,List.drop_of_length_le (by omega),markFrom]
  go_wp2
  go_ret
  exact⟨ret_int HG.out.symm,HB.out⟩):P:=h
theorem m98z {P:Prop} (h:P:=by
  rintro e w2 ⟨rfl,hb⟩
  go_wp2
  go_ret
  exact⟨rfl,(HB.out.alloc _).trans hb⟩):P:=h
theorem m99z {P:Prop} (h:P:=by
  have h:=l2Set_any (.slice (some ⟨bb,off,none⟩) s.nodes.length cn) s.nodes z.path z.data z.version wx (hS.1.ext he) hnl hvn
  rw [hT] at h
  exact h):P:=h
theorem m100z {P:Prop} (h:P:=by
  go_wp2
  refine⟨⟨k+1,by omega,by go_num,?_,HE.out⟩,by simp [intOf];omega⟩
  show World.ownsRow _ _ _ _ _ _ _
  rw [HK2.out];exact HO.out):P:=h
theorem m101z {P:Prop} (h:P:=by
  rw [show Value.slice (some ⟨g,off,none⟩) bs.length cap=Value.slice (some ⟨g,off,none⟩) zs.length cap from by rw [hlen]] at h
  exact h):P:=h
theorem m102z {P:Prop} (h:P:=by
  go_enter Tryz.func240,Tryz.ntmps240
  go_wp2
  go_ret
  exact⟨ret_bool (by simp [h0]),(Ext.refl _).alloc _⟩):P:=h
theorem m103z {P:Prop} (h:P:=by
  go_wp2
  go_ret
  exact⟨_,_,rfl,Nat.le_refl _,⟨none,0,rfl,Nat.le_refl _,by unfold maxLen;omega,fun h=>by simp at h⟩,Ext.refl _⟩):P:=h
theorem m104z {P:Prop} (h:P:=by
  have HF:Hid (R=2):=by show _=_;rw [HR.out,Sta.fault_m T0.out T1.out T2.out h40]
  go_wp2
  go_ret
  exact⟨ret_int HF.out.symm,HB2.out⟩):P:=h
theorem m105z {P:Prop} (h:P:=by
  have HF:Hid (R=3):=by show _=_;rw [HR.out,Sta.fault_n T0.out T1.out T2.out]
  go_wp2
  go_ret
  exact⟨ret_int HF.out.symm,HB2.out⟩):P:=h
theorem m106z {P:Prop} (h:P:=by
  have hje:j=n:=by omega
  subst hje
  go_wp2
  go_ret
  exact⟨rfl,HE.out⟩):P:=h
end Go.Proofs.YtpdejinkmnhioaaGreatDoor
