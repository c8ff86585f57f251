/- YB4a, YB4ob, YB4oo, E10, E12, E13, G4, in one text. -/
import Derived.Test.YtpdejinkmnhioaaGreatDoorAoJ21
import Derived.Test.YtpdejinkmnhioaaGreatDoorAoJ24
import Derived.Test.YtpdejinkmnhioaaGreatDoorAoJ33
import Derived.Deep.RegionHeld3
import Derived.Test.YtpdejinkmnhioaaGreatDoorAoJ15
import Derived.Test.YtpdejinkmnhioaaGreatDoorAoJ17
import Derived.Maps.AppendAt
import Derived.Test.YtpdejinkmnhioaaGreatDoorAoJ12
import Derived.Test.YtpdejinkmnhioaaGreatDoorAoMk
namespace Go.Proofs.YtpdejinkmnhioaaGreatDoor
open Go.RowKit
set_option linter.unusedSimpArgs false in
set_option maxHeartbeats 1000000 in
set_option maxRecDepth 100000 in
theorem l6Do_gone (b:Nat) (s:Stt) (an ae am:Option Addr) (cn ce cm:Nat) (c:Int) (z:Opn) (w:World) (hS:SSlice w (.slice an s.nodes.length cn) (.slice ae s.ses.length ce) (.slice am s.marks.length cm) s) (hO:OBoxAt w b z) (hk:¬ z.kind=1) (hl:Ses.live s.ses c s.now=false) :
  Calls Tryz.prog 52 #[sagg (.slice an s.nodes.length cn) (.slice ae s.ses.length ce) s.now (.slice am s.marks.length cm),.int .i64 c,.pointer (some ⟨b,0,none⟩)] w fun e w'=>e = .returned (.tuple #[sagg (.slice an s.nodes.length cn) (.slice ae s.ses.length ce) s.now (.slice am s.marks.length cm),yagg 9 0 ⟨#[]⟩])∧Ext w w':=by
 have HL:Hid (∀ wx,Ext w wx→Calls Tryz.prog 113 #[.slice ae s.ses.length ce,.int .i64 c,.int .i64 s.now] wx fun e w'=>e = .returned (.bool false)∧w'=wx):=fun wx he=>by have h:=l4Live_any (.slice ae s.ses.length ce) s.ses c s.now wx (hS.2.1.ext he);rw [hl] at h;exact h
 clear hl
 refine n1z ?_
 intro X0 R0 Y0 HO ob o0 o1 o2 o3 o4 o5
 clear hS hO
 unfold sagg
 go_enter Tryz.func52,Tryz.ntmps52
 refine n3z ?_
 intro hxl x0 x1 x2 x3 xf0 xf1 xf2 xf3 hrl r0 r1 r2 r3 rf0 rf1 rf2 rf3 hyl y0 y1 y2 yf0 yf1 yf2 k0 k1 k2 k3 k4 k5 hE0
 go_wp2_with fail
 refine (HL.out _ hE0.out).mono ?_
 rintro e w2 ⟨rfl,hw⟩
 rw [hw]
 clear hw w2
 have HE9:=hE0
 go_wp2
 exact bodyPost_ret (v:=.tuple #[sagg (.slice an s.nodes.length cn) (.slice ae s.ses.length ce) s.now (.slice am s.marks.length cm),yagg 9 0 ⟨#[]⟩]) (by simp [results,Tryz.results52,go_sem,sagg,yagg, *]) rfl ⟨rfl,by repeat (first | (with_reducible refine Ext.setCell ?_ ?_ _;rotate_left;(show w.heap.size≤_;(try simp only [World.size_alloc]);omega)) | with_reducible refine Ext.alloc ?_ _ | with_reducible refine Ext.drew ?_ | with_reducible exact HE9.out | with_reducible exact Ext.refl _)⟩
end Go.Proofs.YtpdejinkmnhioaaGreatDoor
namespace Go.Proofs.YtpdejinkmnhioaaGreatDoor
open Go.RowKit
set_option linter.unusedSimpArgs false in
set_option maxHeartbeats 500000 in
set_option maxRecDepth 100000 in
theorem l6Do_open_bad (b:Nat) (s:Stt) (bb off:Nat) (an am:Option Addr) (cn ce cm:Nat) (c:Int) (z:Opn) (w:World) (hS:SSlice w (.slice an s.nodes.length cn) (.slice (some ⟨bb,off,none⟩) s.ses.length ce) (.slice am s.marks.length cm) s) (hO:OBoxAt w b z) (rc:Int) (rs:List Se) (hkk:z.kind=1) (hrc:¬ rc=0) (hri:Rises s.ses) (hsl:s.ses.length≤1000) (hnw : -100000≤s.now∧s.now≤100000) (hT:Ses.opened s.ses c s.now=(rc,rs)) :
  Calls Tryz.prog 52 #[sagg (.slice an s.nodes.length cn) (.slice (some ⟨bb,off,none⟩) s.ses.length ce) s.now (.slice am s.marks.length cm),.int .i64 c,.pointer (some ⟨b,0,none⟩)] w fun e w'=>e = .returned (.tuple #[sagg (.slice an s.nodes.length cn) (.slice (some ⟨bb,off,none⟩) s.ses.length ce) s.now (.slice am s.marks.length cm),yagg rc 0 ⟨#[]⟩])∧Ext w w':=by
 have HCa:Hid (∀ wx,Ext w wx→Calls Tryz.prog 112 #[.slice (some ⟨bb,off,none⟩) s.ses.length ce,.int .i64 c,.int .i64 s.now] wx (ERet wx rc rs)):=fun wx he=>by
  have h:=l4Open_any bb off ce s.ses c s.now wx (hS.2.1.ext he) hri hsl hnw
  rw [hT] at h
  exact h
 clear hT hri hsl hnw
 refine n18z ?_
 intro X0 R0 Y0 HO ob o0 o1 o2 o3 o4 o5
 clear hS hO
 unfold sagg
 go_enter Tryz.func52,Tryz.ntmps52
 refine n9z ?_
 intro hxl x0 x1 x2 x3 xf0 xf1 xf2 xf3 hrl r0 r1 r2 r3 rf0 rf1 rf2 rf3 hyl y0 y1 y2 yf0 yf1 yf2
 refine n34z ?_
 intro k0 k1 k2 k3 k4 k5 hE0
 rw [hkk] at k0
 go_wp2_with fail
 refine (HCa.out _ hE0.out).mono ?_
 rintro e w5 ⟨v5,g5,rfl,hg5,hO5,hb5⟩
 obtain⟨a5,c5,rfl⟩:=hO5.vis
 refine n41z ?_
 intro E5 O5 X5 R5 Y5 hg9
 clear hb5 hO5 hg5 hE0 X0 R0 Y0 HCa hxl x0 x1 x2 x3 xf0 xf1 xf2 xf3 hrl r0 r1 r2 r3 rf0 rf1 rf2 rf3 hyl y0 y1 y2 yf0 yf1 yf2 k0 k1 k2 k3 k4 k5 o0 o1 o2 o3 o4 o5
 obtain⟨hxl,⟨x0,x1,x2,x3⟩,xf0,xf1,xf2,xf3⟩:=X5.out
 obtain⟨hrl,⟨r0,r1,r2,r3⟩,rf0,rf1,rf2,rf3⟩:=R5.out
 obtain⟨hyl,⟨y0,y1,y2⟩,yf0,yf1,yf2⟩:=Y5.out
 unfold er
 have HE9:=E5
 have hsz:=E5.out.size
 have hne1:¬ w.heap.size=w5.heap.size:=by omega
 have hne2:¬ w.heap.size+1=w5.heap.size:=by omega
 have hne3:¬ w.heap.size+2=w5.heap.size:=by omega
 go_wp2
 go_region
 all_goals
  go_wp2
  exact bodyPost_ret (v:=.tuple #[sagg (.slice an s.nodes.length cn) (.slice (some ⟨bb,off,none⟩) s.ses.length ce) s.now (.slice am s.marks.length cm),yagg rc 0 ⟨#[]⟩]) (by simp [results,Tryz.results52,go_sem,sagg,yagg, *]) rfl ⟨rfl,by repeat (first | (with_reducible refine Ext.setCell ?_ ?_ _;rotate_left;(show w.heap.size≤_;(try simp only [World.size_alloc]);omega)) | with_reducible refine Ext.alloc ?_ _ | with_reducible refine Ext.drew ?_ | with_reducible exact HE9.out | with_reducible exact Ext.refl _)⟩
end Go.Proofs.YtpdejinkmnhioaaGreatDoor
namespace Go.Proofs.YtpdejinkmnhioaaGreatDoor
open Go.RowKit
theorem eown_put {w:World} {v x:Value} {g b o:Nat} {zs:List Se} (h:EOwn w v g zs) (hne:0 < zs.length→g≠b):EOwn (w.setCell ⟨b,o,none⟩ x) v g zs:=h.updS ((Upd.refl b w).setAt o x) hne
theorem eown_alc {w:World} {v:Value} {g:Nat} {o:Obj} {zs:List Se} (h:EOwn w v g zs):EOwn (w.alloc o) v g zs:=h.ext ((Ext.refl _).alloc _)
set_option linter.unusedSimpArgs false in
set_option maxHeartbeats 500000 in
set_option maxRecDepth 100000 in
theorem l6Do_open_ok (b:Nat) (s:Stt) (bb off:Nat) (an am:Option Addr) (cn ce cm:Nat) (c:Int) (z:Opn) (w:World) (hS:SSlice w (.slice an s.nodes.length cn) (.slice (some ⟨bb,off,none⟩) s.ses.length ce) (.slice am s.marks.length cm) s) (hO:OBoxAt w b z) (rs:List Se) (hkk:z.kind=1)  (hri:Rises s.ses) (hsl:s.ses.length≤1000) (hnw : -100000≤s.now∧s.now≤100000) (hT:Ses.opened s.ses c s.now=(0,rs)) :
  Calls Tryz.prog 52 #[sagg (.slice an s.nodes.length cn) (.slice (some ⟨bb,off,none⟩) s.ses.length ce) s.now (.slice am s.marks.length cm),.int .i64 c,.pointer (some ⟨b,0,none⟩)] w fun e w'=>∃ a5 c5 g5,e = .returned (.tuple #[sagg (.slice an s.nodes.length cn) (.slice a5 rs.length c5) s.now (.slice am s.marks.length cm),yagg 0 0 ⟨#[]⟩])∧w.heap.size≤g5∧EOwn w' (.slice a5 rs.length c5) g5 rs∧Ext w w':=by
 have HCa:Hid (∀ wx,Ext w wx→Calls Tryz.prog 112 #[.slice (some ⟨bb,off,none⟩) s.ses.length ce,.int .i64 c,.int .i64 s.now] wx (ERet wx 0 rs)):=fun wx he=>by
  have h:=l4Open_any bb off ce s.ses c s.now wx (hS.2.1.ext he) hri hsl hnw
  rw [hT] at h
  exact h
 clear hT hri hsl hnw
 refine n18z ?_
 intro X0 R0 Y0 HO ob o0 o1 o2 o3 o4 o5
 clear hS hO
 unfold sagg
 go_enter Tryz.func52,Tryz.ntmps52
 refine n9z ?_
 intro hxl x0 x1 x2 x3 xf0 xf1 xf2 xf3 hrl r0 r1 r2 r3 rf0 rf1 rf2 rf3 hyl y0 y1 y2 yf0 yf1 yf2
 refine n34z ?_
 intro k0 k1 k2 k3 k4 k5 hE0
 rw [hkk] at k0
 go_wp2_with fail
 refine (HCa.out _ hE0.out).mono ?_
 rintro e w5 ⟨v5,g5,rfl,hg5,hO5,hb5⟩
 obtain⟨a5,c5,rfl⟩:=hO5.vis
 refine n41z ?_
 intro E5 O5 X5 R5 Y5 hg9
 clear hb5 hO5 hg5 hE0 X0 R0 Y0 HCa hxl x0 x1 x2 x3 xf0 xf1 xf2 xf3 hrl r0 r1 r2 r3 rf0 rf1 rf2 rf3 hyl y0 y1 y2 yf0 yf1 yf2 k0 k1 k2 k3 k4 k5 o0 o1 o2 o3 o4 o5
 obtain⟨hxl,⟨x0,x1,x2,x3⟩,xf0,xf1,xf2,xf3⟩:=X5.out
 obtain⟨hrl,⟨r0,r1,r2,r3⟩,rf0,rf1,rf2,rf3⟩:=R5.out
 obtain⟨hyl,⟨y0,y1,y2⟩,yf0,yf1,yf2⟩:=Y5.out
 unfold er
 have HE9:=E5
 have hsz:=E5.out.size
 have hne1:¬ w.heap.size=w5.heap.size:=by omega
 have hne2:¬ w.heap.size+1=w5.heap.size:=by omega
 have hne3:¬ w.heap.size+2=w5.heap.size:=by omega
 go_wp2
 exact bodyPost_ret (v:=.tuple #[sagg (.slice an s.nodes.length cn) (.slice a5 rs.length c5) s.now (.slice am s.marks.length cm),yagg 0 0 ⟨#[]⟩]) (by simp [results,Tryz.results52,go_sem,sagg,yagg, *]) rfl ⟨a5,c5,g5,rfl,by omega,by repeat (first | with_reducible exact O5.out | (with_reducible refine eown_put ?_ ?_;rotate_left;(intro _;clear hyl hrl hxl;omega)) | with_reducible refine eown_alc ?_),by repeat (first | (with_reducible refine Ext.setCell ?_ ?_ _;rotate_left;(show w.heap.size≤_;(try simp only [World.size_alloc]);omega)) | with_reducible refine Ext.alloc ?_ _ | with_reducible refine Ext.drew ?_ | with_reducible exact HE9.out | with_reducible exact Ext.refl _)⟩
end Go.Proofs.YtpdejinkmnhioaaGreatDoor
namespace Go.Proofs.YtpdejinkmnhioaaGreatDoor
open Go.RowKit
/-- Block b holds a SessionsResult. -/
def EBoxAt (w:World) (b:Nat) (c:Int) (v:Value):Prop :=
 b < w.heap.size∧w.cell? ⟨b,0,none⟩=some (.int .i64 c)∧w.cell? ⟨b,1,none⟩=some v
theorem EBoxAt.ext {w w' : World} {b:Nat} {c:Int} {v:Value} (h:EBoxAt w b c v) (he:Ext w w'):EBoxAt w' b c v:=by
 obtain⟨hc,_⟩:=Ext.cell he
 exact⟨Nat.lt_of_lt_of_le h.1 he.size,(hc _ _ h.1).trans h.2.1,(hc _ _ h.1).trans h.2.2⟩
theorem EBoxAt.upd {w w' : World} {b g:Nat} {c:Int} {v:Value} (h:EBoxAt w b c v) (he:Upd g w w') (hne:b≠g):EBoxAt w' b c v :=
 ⟨Nat.lt_of_lt_of_le h.1 he.2.1,(he.at_ne _ _ hne h.1).1.trans h.2.1,(he.at_ne _ _ hne h.1).1.trans h.2.2⟩
end Go.Proofs.YtpdejinkmnhioaaGreatDoor
namespace Go.Proofs.YtpdejinkmnhioaaGreatDoor
open Go.RowKit Go.Maps
def Ses.liveL (l:List Se) (n:Int):List Se:=l.filter fun s=>decide (n≤s.til)
def Ses.overL (l:List Se) (n:Int):List Int:=(l.filter fun s=>decide (s.til < n)).map (·.id)
/-- What is in the map when k sessions were looked at. -/
def Ses.cur (l:List Se) (k:Nat) (n:Int):List Se:=Ses.liveL (l.take k) n ++ l.drop k
/-- A SplitResult as a value. -/
def sr (c:Int) (v u:Value):Value:=.agg #[.int .i64 c,v,u]
/-- A SplitResult came back, its two lists in new memory, each in its own. -/
def SRet (w:World) (c:Int) (ls:List Se) (os:List Int) (e:Ending) (w' : World):Prop :=
 ∃ v u g h,e = .returned (sr c v u)∧w.heap.size≤g∧w.heap.size≤h∧(0 < ls.length→0 < os.length→g≠h)∧EOwn w' v g ls∧IOwn w' u h os∧Ext w w'
/-- The result's block was laid behind w, and nothing up to it has turned since. -/
def SBox (w wx:World):Prop:=Below (w.heap.size+1) (w.alloc (.cells #[.int .i64 0,.slice none 0 0,.slice none 0 0] 198)) wx
theorem SBox.new (w:World):SBox w (w.alloc (.cells #[.int .i64 0,.slice none 0 0,.slice none 0 0] 198)):=Below.refl _ _
theorem SBox.to {w wx:World} (h:SBox w wx):Ext w wx:=((Ext.refl w).alloc _).trans (Below.mono h (by simp))
theorem SBox.drew {w wx:World} (h:SBox w wx):SBox w wx.drew:=Below.drew h
theorem SBox.size {w wx:World} (h:SBox w wx):w.heap.size+1≤wx.heap.size:=by have:=Below.size h;simpa using this
theorem SBox.alloc {w wx:World} (h:SBox w wx) (o:Obj):SBox w (wx.alloc o):=Below.alloc h h.size o
theorem SBox.ext {w wx wy:World} (h:SBox w wx) (he:Ext wx wy):SBox w wy:=Below.trans h (Below.mono he h.size)
theorem SBox.grown {w wx wy:World} {row:Option Nat} (h:SBox w wx) (hg:wx.grownBy wy row) (hr:∀ q,row=some q→w.heap.size+1≤q):SBox w wy:=Below.grown h hg h.size hr
theorem SBox.box {w wx:World} (h:SBox w wx):w.heap.size < wx.heap.size∧wx.cell? ⟨w.heap.size,0,none⟩=some (.int .i64 0)∧wx.cell? ⟨w.heap.size,1,none⟩=some (.slice none 0 0)∧wx.cell? ⟨w.heap.size,2,none⟩=some (.slice none 0 0)∧wx.frozen? ⟨w.heap.size,0,none⟩=false∧wx.frozen? ⟨w.heap.size,1,none⟩=false∧wx.frozen? ⟨w.heap.size,2,none⟩=false:=by
 have hc:=fun r=>Below.cell h (p:=⟨w.heap.size,r,none⟩) (by show w.heap.size < _;omega)
 have hf:=fun r=>Below.frozen h (p:=⟨w.heap.size,r,none⟩) (by show w.heap.size < _;omega)
 have:=h.size
 exact⟨by omega,(hc 0).trans (by simp),(hc 1).trans (by simp),(hc 2).trans (by simp),(hf 0).trans (by simp),(hf 1).trans (by simp),(hf 2).trans (by simp)⟩
def Ses.splitV (l:List Se) (n:Int):Int × List Se × List Int:=if Ses.moment l n≠0 then (Ses.moment l n,[],[]) else (0,Ses.liveL l n,Ses.overL l n)
theorem EMap.kept {w w' : World} {b n:Nat} {l:List Se} {row:Option Nat} (h:EMap w b n l) (hg:w.grownBy w' row) (hne:some b≠row):EMap w' b n l:=World.ownsMap.kept h hg hne
end Go.Proofs.YtpdejinkmnhioaaGreatDoor
namespace Go.Proofs.YtpdejinkmnhioaaGreatDoor
open Go.RowKit Go.Maps
theorem cells_lit (w:World) (s:Se) (t:TypeId):∀ j u,(cellsE [s])[j]?=some u→(w.alloc (.cells #[.int .i64 s.id,.int .i64 s.til] t)).cell? ((⟨w.heap.size,0,none⟩:Addr).add j)=some u:=cells_ses w s.id s.til t
def Apart (v u:Value):Prop:=∃ g h,v.ownBlock=some g∧u.ownBlock=some h∧g≠h
end Go.Proofs.YtpdejinkmnhioaaGreatDoor
namespace Go.Proofs.YtpdejinkmnhioaaGreatDoor
open Go.RowKit
theorem hasI_take {l:List Int} {k:Nat} {y:Int} (x:Int) (h:l[k]?=some y):hasI (l.take (k+1)) x=(hasI (l.take k) x || (x == y)):=by
 obtain⟨hk,rfl⟩:=List.getElem?_eq_some_iff.1 h
 unfold hasI
 rw [List.take_succ_eq_append_getElem hk,List.any_append]
 simp
set_option maxHeartbeats 1000000 in
set_option maxRecDepth 100000 in
theorem l4Drop_any (v u:Value) (zs:List Zn) (ids:List Int) (w:World) (hS:NSlice w v zs) (hI:ISlice w u ids) (hl:zs.length≤1000) :
  Calls Tryz.prog 176 #[v,u] w fun e w'=>∃ v' g,e = .returned v'∧w.heap.size≤g∧Own w' v' g (dropL ids zs)∧Ext w w':=by
 refine n21z ?_
 intro hi9
 obtain⟨i0,hi,hx9⟩:=Option.map_eq_some_iff.1 hi9
 simp only [Prod.mk.injEq] at hx9
 obtain⟨hz0,hz1,hz2⟩:=hx9
 clear hi9
 obtain⟨a,cap,rfl,hlc,hcm,hx⟩:=hS
 obtain⟨b,cbp,rfl,hlb,hcb,hy⟩:=hI
 refine n26z ?_
 intro HX
 have HY:Hid (0 < ids.length→∃ b' off,b=some ⟨b',off,none⟩∧b' < w.heap.size∧NumsAt w b' off ids):=hy
 clear hx hy
 unfold maxLen at hcm hcb
 go_enter Tryz.func176,Tryz.ntmps176
 go_wp2
 go_loopw [5,6] (fun ov iv wr=>∃ (k:Nat),k≤zs.length∧iv = .int .i64 k∧Hid (wr.ownsRow w.heap.size 144 5 ov (dropL ids (zs.take k)).length (cellsZ (dropL ids (zs.take k))))∧Hid (Ext w wr)) (fun _ iv _=>zs.length - (intOf iv).toNat)
 case atStart=>exact⟨0,Nat.zero_le _,rfl,World.ownsRow_made w #[] 0 (Nat.le_refl _) (by unfold maxLen;omega) rfl,(Ext.refl _).alloc _⟩
 case round =>
  obtain⟨k,hk,rfl,HO,HE⟩:=hrel
  by_cases hlt:k < zs.length
  ·obtain⟨z,hzk⟩:∃ z,zs[k]?=some z:=⟨_,List.getElem?_eq_getElem hlt⟩
   obtain⟨bb,off,rfl,hb,hN⟩:=HX.out (by omega)
   have HNk:Hid (∀ wx,Ext w wx→wx.cell? ⟨bb,off+k * 5,none⟩=some (.string z.path)∧wx.cell? ⟨bb,off+k * 5+1,none⟩=some (.int .i64 z.data)∧wx.cell? ⟨bb,off+k * 5+2,none⟩=some (.int .i64 z.version)∧wx.cell? ⟨bb,off+k * 5+3,none⟩=some (.int .i64 z.owner)∧wx.cell? ⟨bb,off+k * 5+4,none⟩=some (.int .i64 z.next)):=fun wx he=>hN.ext hb he k z hzk
   have HZk:Hid (zs[k]?=some z):=hzk
   clear hN hzk hb
   go_wp2
   go_loopw [7,8] (fun gv jv wy=>∃ (j:Nat),j≤ids.length∧jv = .int .i64 j∧gv = .bool ((z.owner != 0) && hasI (ids.take j) z.owner)∧Hid (wy.ownsRow w.heap.size 144 5 u5 (dropL ids (zs.take k)).length (cellsZ (dropL ids (zs.take k))))∧Hid (Ext w wy)) (fun _ jv _=>ids.length - (intOf jv).toNat)
   case atStart=>exact⟨0,Nat.zero_le _,rfl,by simp [hasI],HO,HE⟩
   case round =>
    obtain⟨j,hj,rfl,rfl,HOy,HEy⟩:=hrel
    by_cases hjl:j < ids.length
    ·obtain⟨y,hyj⟩:∃ y,ids[j]?=some y:=⟨_,List.getElem?_eq_getElem hjl⟩
     obtain⟨b',off',rfl,hb',hNy⟩:=HY.out (by omega)
     have e0:=hNy.ext hb' HEy.out j y hyj
     have ht:=hasI_take z.owner hyj
     obtain⟨-,-,-,d3,-⟩:=HNk.out _ HEy.out
     have HOd:Hid (wr.drew.ownsRow w.heap.size 144 5 u5 (dropL ids (zs.take k)).length (cellsZ (dropL ids (zs.take k)))):=HOy.out.drew
     clear hNy hyj
     by_cases h0:z.owner=0
     ·have hg:((z.owner != 0) && hasI (ids.take j) z.owner)=false:=by simp [h0]
      have HG:Hid (((z.owner != 0) && hasI (ids.take (j+1)) z.owner)=false):=by show _=_;simp [h0]
      rw [hg]
      clear ht hg
      go_wp2
      go_region
      all_goals go_wp2
      all_goals exact⟨⟨j+1,by omega,by go_num,by rw [HG.out],HOd,HEy.out.drew⟩,by simp [intOf];omega⟩
     ·have hn0:(z.owner != 0)=true:=by simp [h0]
      rw [hn0,Bool.true_and]
      cases hg:hasI (ids.take j) z.owner with
      | true =>
       have HG:Hid (hasI (ids.take (j+1)) z.owner=true):=by show _=_;rw [ht,hg];rfl
       clear ht hg
       go_wp2
       go_region
       all_goals go_wp2
       all_goals exact⟨⟨j+1,by omega,by go_num,by rw [HG.out];rfl,HOd,HEy.out.drew⟩,by simp [intOf];omega⟩
      | false =>
       by_cases hy:z.owner=y
       ·subst hy
        have HG:Hid (hasI (ids.take (j+1)) z.owner=true):=by show _=_;rw [ht,hg];simp
        clear ht hg
        go_wp2
        go_region_held3 (fun W=>W.cell? ⟨bb,off+k * 5+3,none⟩=some (.int .i64 z.owner)∧W.cell? ⟨b',off'+j,none⟩=some (.int .i64 z.owner)) (first | exact⟨d3,e0⟩ | go_keep) (fail)
        all_goals go_wp2
        all_goals exact⟨⟨j+1,by omega,by go_num,by rw [HG.out];rfl,HOd,HEy.out.drew⟩,by simp [intOf];omega⟩
       ·have HG:Hid (hasI (ids.take (j+1)) z.owner=false):=by show _=_;rw [ht,hg];simp [hy]
        clear ht hg
        go_wp2
        go_region_held3 (fun W=>W.cell? ⟨bb,off+k * 5+3,none⟩=some (.int .i64 z.owner)∧W.cell? ⟨b',off'+j,none⟩=some (.int .i64 y)) (first | exact⟨d3,e0⟩ | go_keep) (fail)
        all_goals go_wp2
        all_goals exact⟨⟨j+1,by omega,by go_num,by rw [HG.out];simp [hy],HOd,HEy.out.drew⟩,by simp [intOf];omega⟩
    ·have hje:j=ids.length:=by omega
     subst hje
     rw [List.take_length]
     obtain⟨d0,d1,d2,d3,d4⟩:=HNk.out _ HEy.out
     have hl4:(dropL ids (zs.take k)).length≤1000:=by have:=dropL_len ids (zs.take k);rw [List.length_take] at this;omega
     cases hg:((z.owner != 0) && hasI ids z.owner) with
     | true =>
      have HD:Hid (dropL ids (zs.take (k+1))=dropL ids (zs.take k)):=by show _=_;rw [dropL_take HZk.out,if_pos (by unfold goneB;exact hg),List.append_nil]
      clear hg
      go_wp2
      exact⟨⟨k+1,by omega,by go_num,by rw [HD.out];exact HOy.out,HEy⟩,by simp [intOf];omega⟩
     | false =>
      have HD:Hid (dropL ids (zs.take (k+1))=dropL ids (zs.take k) ++ [z]):=by show _=_;rw [dropL_take HZk.out,if_neg (by unfold goneB;rw [hg];simp)]
      clear hg
      have hws:=HEy.out.size
      generalize dropL ids (zs.take k)=ds at *
      go_wp2_with (at_builtin;go_must (refine wpList_append_own _ rfl _ _ 33 rfl w.heap.size 144 i0 (.agg #[.string ByteArray.empty,.int .i64 0,.int .i64 0,.int .i64 0,.int .i64 0]) 5 48 Tryz.underlying33 hi hz0 hz1 hz2 rfl (by decide) u5 _ _ rfl (HOy.out.alloc _) ⟨wr.heap.size,0,none⟩ 1 1 (cellsZ [z]) rfl rfl (cells_new wr z _) (cellsZ_one _) (by unfold maxLen;omega) (by omega) (by simp;omega) ?_;intro v6 w6 hown6 hgrow6 hnil6;have HO6:Hid (w6.ownsRow w.heap.size 144 5 v6 (ds.length+1) (cellsZ ds ++ cellsZ [z])):=hown6;have HE6:Hid (Ext w w6):=Below.trans HEy.out (((Below.refl _ _).alloc HEy.out.size _).grown hgrow6 (by have:=HEy.out.size;simp;omega) (fun q hq=>(HOy.out.lt q hq).1));clear hown6 hgrow6 hnil6))
      exact⟨⟨k+1,by omega,by go_num,by rw [HD.out,List.length_append,cellsZ_append];exact HO6.out,HE6⟩,by simp [intOf];omega⟩
  ·have hke:k=zs.length:=by omega
   subst hke
   rw [List.take_length] at HO
   obtain⟨g,a5,cap5,hg5,hv5,hO5⟩:=zret_own3 HO.out rfl rfl
   subst hv5
   have HF:Hid (Own wr (.slice a5 (dropL ids zs).length cap5) g (dropL ids zs)):=hO5
   clear hO5
   go_wp2
   go_ret
   exact⟨_,g,rfl,hg5,by exact HF.out,HE.out⟩
end Go.Proofs.YtpdejinkmnhioaaGreatDoor
