/- YB4db, YB4do, YB4sb, in one text. -/
import Derived.Test.YtpdejinkmnhioaaGreatDoorAoJ21
import Derived.Test.YtpdejinkmnhioaaGreatDoorAoJ24
import Derived.Test.YtpdejinkmnhioaaGreatDoorAoJ33
import Derived.Deep.RegionHeld3
import Derived.Test.YtpdejinkmnhioaaGreatDoorAoJ15
import Derived.Test.YtpdejinkmnhioaaGreatDoorAoJ11
import Derived.Test.YtpdejinkmnhioaaGreatDoorAoJ39
import Derived.Test.YtpdejinkmnhioaaGreatDoorAoJ7
import Derived.Test.YtpdejinkmnhioaaGreatDoorAoMk
namespace Go.Proofs.YtpdejinkmnhioaaGreatDoor
open Go.RowKit
set_option linter.unusedSimpArgs false in
set_option maxHeartbeats 500000 in
set_option maxRecDepth 100000 in
theorem l6Do_delete_bad (b:Nat) (s:Stt) (an ae am:Option Addr) (cn ce cm:Nat) (c:Int) (z:Opn) (w:World) (hS:SSlice w (.slice an s.nodes.length cn) (.slice ae s.ses.length ce) (.slice am s.marks.length cm) s) (hO:OBoxAt w b z) (rc:Int) (rp:ByteArray) (rs:List Zn) (hkk:z.kind=4) (hl:Ses.live s.ses c s.now=true) (hrc:¬ rc=0) (hnl:s.nodes.length≤1048576) (hgo:∀ z ∈ s.nodes,Pth.faultI z.path.data.toList=0) (hT:Tre.delT s.nodes z.path z.version=(rc,rp,rs)) :
  Calls Tryz.prog 52 #[sagg (.slice an s.nodes.length cn) (.slice ae s.ses.length ce) s.now (.slice am s.marks.length cm),.int .i64 c,.pointer (some ⟨b,0,none⟩)] w fun e w'=>e = .returned (.tuple #[sagg (.slice an s.nodes.length cn) (.slice ae s.ses.length ce) s.now (.slice am s.marks.length cm),yagg rc 0 ⟨#[]⟩])∧Ext w w':=by
 refine n8z ?_
 intro HL
 clear hl
 have HCa:Hid (∀ wx,Ext w wx→Calls Tryz.prog 117 #[.slice an s.nodes.length cn,.string z.path,.int .i64 z.version] wx (ZRet wx rc rp rs)):=fun wx he=>by
  have h:=l2Delete_any (.slice an s.nodes.length cn) s.nodes z.path z.version wx (hS.1.ext he) hnl hgo
  rw [hT] at h
  exact h
 clear hT hnl hgo
 refine n47z ?_
 intro HT
 unfold sagg zr yagg at HT
 refine n1z ?_
 intro X0 R0 Y0 HO ob o0 o1 o2 o3 o4 o5
 clear hS hO
 unfold sagg
 go_enter Tryz.func52,Tryz.ntmps52
 refine n3z ?_
 intro hxl x0 x1 x2 x3 xf0 xf1 xf2 xf3 hrl r0 r1 r2 r3 rf0 rf1 rf2 rf3 hyl y0 y1 y2 yf0 yf1 yf2 k0 k1 k2 k3 k4 k5 hE0
 go_wp2_with fail
 refine (HL.out _ hE0.out).mono ?_
 rintro e w2 ⟨rfl,hw⟩
 rw [hw]
 clear hw w2
 generalize hw1:World.alloc (World.alloc (World.alloc w _) _) _=w1
 refine n10z ?_
 intro E1 X1 R1 Y1
 clear hw1 hE0 X0 R0 Y0 HL hxl x0 x1 x2 x3 xf0 xf1 xf2 xf3 hrl r0 r1 r2 r3 rf0 rf1 rf2 rf3 hyl y0 y1 y2 yf0 yf1 yf2 k0 k1 k2 k3 k4 k5 o0 o1 o2 o3 o4 o5
 refine n49z ?_
 intro hxl x0 x1 x2 x3 k0 k1 k2 k3 k4 k5
 rw [hkk] at k0
 go_wp2
 refine n32z ?_
 intro HSx
 go_region_held3 (fun W=>W.cell? ⟨w.heap.size,0,none⟩=some (.slice an s.nodes.length cn)∧W.cell? ⟨w.heap.size,1,none⟩=some (.slice ae s.ses.length ce)∧W.cell? ⟨w.heap.size,2,none⟩=some (.int .i64 s.now)∧W.cell? ⟨w.heap.size,3,none⟩=some (.slice am s.marks.length cm)∧W.cell? ⟨b,1,none⟩=some (.string z.path)∧W.cell? ⟨b,3,none⟩=some (.int .i64 z.version)) (first | exact⟨by (repeat rw [iset_ne _ _ _ _ _ _ (Or.inl (by omega))]);exact Tx0,by (repeat rw [iset_ne _ _ _ _ _ _ (Or.inl (by omega))]);exact Tx1,by (repeat rw [iset_ne _ _ _ _ _ _ (Or.inl (by omega))]);exact Tx2,by (repeat rw [iset_ne _ _ _ _ _ _ (Or.inl (by omega))]);exact Tx3,by (repeat rw [iset_ne _ _ _ _ _ _ (Or.inl (by omega))]);exact Tk1,by (repeat rw [iset_ne _ _ _ _ _ _ (Or.inl (by omega))]);exact Tk3⟩ | exact⟨x0,x1,x2,x3,k1,k3⟩ | exact HSx.out _ ((Ext.refl _).drew) | exact HSx.out _ HE6.out | exact HSx.out _ HE5.out | go_keep) (first | (go_at_call 117;refine (HCa.out _ (E1.out.trans (by first | exact (Ext.refl _).drew | exact Ext.refl _))).mono ?_;rintro e w5 ⟨v5,g5,rfl,hg5,hO5,hb5⟩;obtain⟨a5,c5,rfl⟩:=hO5.vis;have HE5:Hid (Ext w1 w5):=(by first | exact ((Ext.refl _).drew).trans hb5 | exact hb5);have O5:Hid (Own w5 (.slice a5 rs.length c5) g5 rs):=hO5;have G5:Hid (w1.heap.size≤g5):=(by (try simp at hg5);show _≤_;omega);clear hb5 hO5 hg5;unfold zr) | (have tk:=HE5;clear tk;go_at_call 115;refine (HT.out _ _ _).mono ?_;rintro e w6 ⟨rfl,hb6⟩;have HE56:Hid (Ext w5 w6):=hb6;have HE6:Hid (Ext w1 w6):=HE5.out.trans hb6;clear hb6;obtain⟨Tx0,Tx1,Tx2,Tx3,Tk1,Tk3⟩:=HSx.out w6 HE6.out;obtain⟨hrl,⟨r0,r1,r2,r3⟩,rf0,rf1,rf2,rf3⟩:=R1.out.ext HE6.out;obtain⟨hyl,⟨y0,y1,y2⟩,yf0,yf1,yf2⟩:=Y1.out.ext HE6.out))
 all_goals
  have HE9:Hid (Ext w w6):=E1.out.trans HE6.out
  have hsz:=E1.out.size
  have hx9:=X1.out.1
  have hy9:=Y1.out.1
  clear x0 x1 x2 x3 k1 k3
  exact m13z
end Go.Proofs.YtpdejinkmnhioaaGreatDoor
namespace Go.Proofs.YtpdejinkmnhioaaGreatDoor
open Go.RowKit
set_option linter.unusedSimpArgs false in
set_option maxHeartbeats 500000 in
set_option maxRecDepth 100000 in
theorem l6Do_delete_ok (b:Nat) (s:Stt) (an ae am:Option Addr) (cn ce cm:Nat) (c:Int) (z:Opn) (w:World) (hS:SSlice w (.slice an s.nodes.length cn) (.slice ae s.ses.length ce) (.slice am s.marks.length cm) s) (hO:OBoxAt w b z) (rp:ByteArray) (rs:List Zn) (hkk:z.kind=4) (hl:Ses.live s.ses c s.now=true)  (hnl:s.nodes.length≤1048576) (hgo:∀ z ∈ s.nodes,Pth.faultI z.path.data.toList=0) (hT:Tre.delT s.nodes z.path z.version=(0,rp,rs)) :
  Calls Tryz.prog 52 #[sagg (.slice an s.nodes.length cn) (.slice ae s.ses.length ce) s.now (.slice am s.marks.length cm),.int .i64 c,.pointer (some ⟨b,0,none⟩)] w fun e w'=>∃ a5 c5 g5,e = .returned (.tuple #[sagg (.slice a5 rs.length c5) (.slice ae s.ses.length ce) s.now (.slice am s.marks.length cm),yagg 0 (0) rp])∧w.heap.size≤g5∧Own w' (.slice a5 rs.length c5) g5 rs∧Ext w w':=by
 refine n8z ?_
 intro HL
 clear hl
 have HCa:Hid (∀ wx,Ext w wx→Calls Tryz.prog 117 #[.slice an s.nodes.length cn,.string z.path,.int .i64 z.version] wx (ZRet wx 0 rp rs)):=fun wx he=>by
  have h:=l2Delete_any (.slice an s.nodes.length cn) s.nodes z.path z.version wx (hS.1.ext he) hnl hgo
  rw [hT] at h
  exact h
 clear hT hnl hgo
 have HT:Hid (∀ (a5:Option Addr) (c5:Nat) (wx:World),Calls Tryz.prog 115 #[sagg (.slice an s.nodes.length cn) (.slice ae s.ses.length ce) s.now (.slice am s.marks.length cm),zr 0 rp (.slice a5 rs.length c5),.int .i64 (0)] wx fun e w'=>e = .returned (.tuple #[sagg (.slice a5 rs.length c5) (.slice ae s.ses.length ce) s.now (.slice am s.marks.length cm),yagg 0 (0) rp])∧Ext wx w'):=fun a5 c5 wx=>l6Tree_ok an ae am a5 _ _ _ _ _ _ _ _ _ _ _ wx
 unfold sagg zr yagg at HT
 refine n1z ?_
 intro X0 R0 Y0 HO ob o0 o1 o2 o3 o4 o5
 clear hS hO
 unfold sagg
 go_enter Tryz.func52,Tryz.ntmps52
 refine n3z ?_
 intro hxl x0 x1 x2 x3 xf0 xf1 xf2 xf3 hrl r0 r1 r2 r3 rf0 rf1 rf2 rf3 hyl y0 y1 y2 yf0 yf1 yf2 k0 k1 k2 k3 k4 k5 hE0
 go_wp2_with fail
 refine (HL.out _ hE0.out).mono ?_
 rintro e w2 ⟨rfl,hw⟩
 rw [hw]
 clear hw w2
 generalize hw1:World.alloc (World.alloc (World.alloc w _) _) _=w1
 refine n10z ?_
 intro E1 X1 R1 Y1
 clear hw1 hE0 X0 R0 Y0 HL hxl x0 x1 x2 x3 xf0 xf1 xf2 xf3 hrl r0 r1 r2 r3 rf0 rf1 rf2 rf3 hyl y0 y1 y2 yf0 yf1 yf2 k0 k1 k2 k3 k4 k5 o0 o1 o2 o3 o4 o5
 refine n49z ?_
 intro hxl x0 x1 x2 x3 k0 k1 k2 k3 k4 k5
 rw [hkk] at k0
 go_wp2
 refine n32z ?_
 intro HSx
 go_region_held3 (fun W=>W.cell? ⟨w.heap.size,0,none⟩=some (.slice an s.nodes.length cn)∧W.cell? ⟨w.heap.size,1,none⟩=some (.slice ae s.ses.length ce)∧W.cell? ⟨w.heap.size,2,none⟩=some (.int .i64 s.now)∧W.cell? ⟨w.heap.size,3,none⟩=some (.slice am s.marks.length cm)∧W.cell? ⟨b,1,none⟩=some (.string z.path)∧W.cell? ⟨b,3,none⟩=some (.int .i64 z.version)) (first | exact⟨by (repeat rw [iset_ne _ _ _ _ _ _ (Or.inl (by omega))]);exact Tx0,by (repeat rw [iset_ne _ _ _ _ _ _ (Or.inl (by omega))]);exact Tx1,by (repeat rw [iset_ne _ _ _ _ _ _ (Or.inl (by omega))]);exact Tx2,by (repeat rw [iset_ne _ _ _ _ _ _ (Or.inl (by omega))]);exact Tx3,by (repeat rw [iset_ne _ _ _ _ _ _ (Or.inl (by omega))]);exact Tk1,by (repeat rw [iset_ne _ _ _ _ _ _ (Or.inl (by omega))]);exact Tk3⟩ | exact⟨x0,x1,x2,x3,k1,k3⟩ | exact HSx.out _ ((Ext.refl _).drew) | exact HSx.out _ HE6.out | exact HSx.out _ HE5.out | go_keep) (first | (go_at_call 117;refine (HCa.out _ (E1.out.trans (by first | exact (Ext.refl _).drew | exact Ext.refl _))).mono ?_;rintro e w5 ⟨v5,g5,rfl,hg5,hO5,hb5⟩;obtain⟨a5,c5,rfl⟩:=hO5.vis;have HE5:Hid (Ext w1 w5):=(by first | exact ((Ext.refl _).drew).trans hb5 | exact hb5);have O5:Hid (Own w5 (.slice a5 rs.length c5) g5 rs):=hO5;have G5:Hid (w1.heap.size≤g5):=(by (try simp at hg5);show _≤_;omega);clear hb5 hO5 hg5;unfold zr) | (have tk:=HE5;clear tk;go_at_call 115;refine (HT.out _ _ _).mono ?_;rintro e w6 ⟨rfl,hb6⟩;have HE56:Hid (Ext w5 w6):=hb6;have HE6:Hid (Ext w1 w6):=HE5.out.trans hb6;clear hb6;obtain⟨Tx0,Tx1,Tx2,Tx3,Tk1,Tk3⟩:=HSx.out w6 HE6.out;obtain⟨hrl,⟨r0,r1,r2,r3⟩,rf0,rf1,rf2,rf3⟩:=R1.out.ext HE6.out;obtain⟨hyl,⟨y0,y1,y2⟩,yf0,yf1,yf2⟩:=Y1.out.ext HE6.out))
 all_goals
  have HE9:Hid (Ext w w6):=E1.out.trans HE6.out
  have hsz:=E1.out.size
  have hx9:=X1.out.1
  have hy9:=Y1.out.1
  clear x0 x1 x2 x3 k1 k3
  (try go_wp2)
  exact bodyPost_ret (v:=.tuple #[sagg (.slice a5 rs.length c5) (.slice ae s.ses.length ce) s.now (.slice am s.marks.length cm),yagg 0 (0) rp]) (by simp [results,Tryz.results52,go_sem,sagg,yagg, *]) rfl ⟨a5,c5,g5,rfl,by have:=G5.out;omega,by (repeat refine Own.updS ?_ ((Upd.refl _ _).setAt _ _) (fun _=>by have:=G5.out;omega));exact O5.out.ext HE56.out,by repeat (first | (with_reducible refine Ext.setCell ?_ ?_ _;rotate_left;(show w.heap.size≤_;(try simp only [World.size_alloc]);omega)) | with_reducible refine Ext.alloc ?_ _ | with_reducible refine Ext.drew ?_ | with_reducible exact HE9.out | with_reducible exact Ext.refl _)⟩
end Go.Proofs.YtpdejinkmnhioaaGreatDoor
namespace Go.Proofs.YtpdejinkmnhioaaGreatDoor
open Go.RowKit
set_option linter.unusedSimpArgs false in
set_option maxHeartbeats 500000 in
set_option maxRecDepth 100000 in
theorem l6Do_set_bad (b:Nat) (s:Stt) (bb off:Nat) (ae am:Option Addr) (cn ce cm:Nat) (c:Int) (z:Opn) (w:World) (hS:SSlice w (.slice (some ⟨bb,off,none⟩) s.nodes.length cn) (.slice ae s.ses.length ce) (.slice am s.marks.length cm) s) (hO:OBoxAt w b z) (rc:Int) (rp:ByteArray) (rs:List Zn) (hkk:z.kind=5) (hl:Ses.live s.ses c s.now=true) (hrc:¬ rc=0) (hnl:s.nodes.length≤1048576) (hvn:∀ z ∈ s.nodes,0≤z.version) (hT:Tre.setT s.nodes z.path z.data z.version=(rc,rp,rs)) (k:Nat) (y:Zn) (ha:Tre.atI s.nodes z.path=k) (hz:s.nodes[k]?=some y) (hyv:0≤y.version∧y.version≤1000) :
  Calls Tryz.prog 52 #[sagg (.slice (some ⟨bb,off,none⟩) s.nodes.length cn) (.slice ae s.ses.length ce) s.now (.slice am s.marks.length cm),.int .i64 c,.pointer (some ⟨b,0,none⟩)] w fun e w'=>e = .returned (.tuple #[sagg (.slice (some ⟨bb,off,none⟩) s.nodes.length cn) (.slice ae s.ses.length ce) s.now (.slice am s.marks.length cm),yagg rc 0 ⟨#[]⟩])∧Ext w w':=by
 refine n8z ?_
 intro HL
 clear hl
 have HCa:Hid (∀ wx,Ext w wx→Calls Tryz.prog 119 #[.slice (some ⟨bb,off,none⟩) s.nodes.length cn,.string z.path,.int .i64 z.data,.int .i64 z.version] wx (ZRet wx rc rp rs)):=fun wx he=>by
  exact m99z
 refine n45z ?_
 intro HAt hkl HN
 clear hz
 clear hT hnl hvn ha
 have HT:Hid (∀ (a5:Option Addr) (c5:Nat) (wx:World),Calls Tryz.prog 115 #[sagg (.slice (some ⟨bb,off,none⟩) s.nodes.length cn) (.slice ae s.ses.length ce) s.now (.slice am s.marks.length cm),zr rc rp (.slice a5 rs.length c5),.int .i64 (y.version+1)] wx fun e w'=>e = .returned (.tuple #[sagg (.slice (some ⟨bb,off,none⟩) s.nodes.length cn) (.slice ae s.ses.length ce) s.now (.slice am s.marks.length cm),yagg rc 0 ⟨#[]⟩])∧Ext wx w'):=fun a5 c5 wx=>l6Tree_bad (some ⟨bb,off,none⟩) ae am a5 _ _ _ _ _ _ _ _ _ _ _ _ wx hrc
 unfold sagg zr yagg at HT
 refine n19z ?_
 intro X0 R0 Y0 HO ob o0 o1 o2 o3 o4 o5
 clear hS hO
 unfold sagg
 go_enter Tryz.func52,Tryz.ntmps52
 refine n9z ?_
 intro hxl x0 x1 x2 x3 xf0 xf1 xf2 xf3 hrl r0 r1 r2 r3 rf0 rf1 rf2 rf3 hyl y0 y1 y2 yf0 yf1 yf2
 refine n35z ?_
 intro k0 k1 k2 k3 k4 k5 hE0
 go_wp2_with fail
 refine (HL.out _ hE0.out).mono ?_
 rintro e w2 ⟨rfl,hw⟩
 rw [hw]
 clear hw w2
 generalize hw1:World.alloc (World.alloc (World.alloc w _) _) _=w1
 refine n64z ?_
 intro E1 X1
 refine n16z ?_
 intro R1 Y1
 clear hw1 hE0 X0 R0 Y0 HL hxl x0 x1 x2 x3 xf0 xf1 xf2 xf3 hrl r0 r1 r2 r3 rf0 rf1 rf2 rf3 hyl y0 y1 y2 yf0 yf1 yf2 k0 k1 k2 k3 k4 k5 o0 o1 o2 o3 o4 o5
 refine n49z ?_
 intro hxl x0 x1 x2 x3 k0 k1 k2 k3 k4 k5
 rw [hkk] at k0
 go_wp2
 go_region_held3 (fun W=>W.cell? ⟨w.heap.size,0,none⟩=some (.slice (some ⟨bb,off,none⟩) s.nodes.length cn)∧W.cell? ⟨b,1,none⟩=some (.string z.path)) (first | exact⟨x0,k1⟩ | exact⟨((Ext.cell ((Ext.refl w1).drew)).1 _ _ hxl).trans x0,((Ext.cell ((Ext.refl w1).drew)).1 _ _ (World.block_lt_of_cell? _ _ k1)).trans k1⟩ | go_keep) (first | (go_at_call 118;refine (HAt.out _ (E1.out.trans (by first | exact (Ext.refl _).drew | exact Ext.refl _))).mono ?_;rintro e w2 ⟨rfl,hw2⟩;rw [hw2];clear hw2 w2))
 clear hxl x0 x1 x2 x3 k0 k1 k2 k3 k4 k5
 generalize hwq:World.drew w1=wq
 refine n40z ?_
 intro EQ XQ RQ YQ
 clear hwq
 obtain⟨hxl,⟨x0,x1,x2,x3⟩,-⟩:=XQ.out
 obtain⟨-,k0,k1,k2,k3,k4,k5⟩:=HO.out wq EQ.out
 obtain⟨hkc,hn9⟩:=HN.out
 have n9:=hn9 wq EQ.out
 have hwv:IntKind.i64.wrap (y.version+1)=y.version+1:=by rw [IntKind.wrap_i64];omega
 clear HN hn9
 go_wp2
 refine n27z ?_
 intro HSx
 go_region_held3 (fun W=>W.cell? ⟨w.heap.size,0,none⟩=some (.slice (some ⟨bb,off,none⟩) s.nodes.length cn)∧W.cell? ⟨w.heap.size,1,none⟩=some (.slice ae s.ses.length ce)∧W.cell? ⟨w.heap.size,2,none⟩=some (.int .i64 s.now)∧W.cell? ⟨w.heap.size,3,none⟩=some (.slice am s.marks.length cm)∧W.cell? ⟨b,1,none⟩=some (.string z.path)∧W.cell? ⟨b,2,none⟩=some (.int .i64 z.data)∧W.cell? ⟨b,3,none⟩=some (.int .i64 z.version)) (first | exact⟨by (repeat rw [iset_ne _ _ _ _ _ _ (Or.inl (by omega))]);exact Tx0,by (repeat rw [iset_ne _ _ _ _ _ _ (Or.inl (by omega))]);exact Tx1,by (repeat rw [iset_ne _ _ _ _ _ _ (Or.inl (by omega))]);exact Tx2,by (repeat rw [iset_ne _ _ _ _ _ _ (Or.inl (by omega))]);exact Tx3,by (repeat rw [iset_ne _ _ _ _ _ _ (Or.inl (by omega))]);exact Tk1,by (repeat rw [iset_ne _ _ _ _ _ _ (Or.inl (by omega))]);exact Tk2,by (repeat rw [iset_ne _ _ _ _ _ _ (Or.inl (by omega))]);exact Tk3⟩ | exact⟨x0,x1,x2,x3,k1,k2,k3⟩ | exact HSx.out _ ((Ext.refl _).drew) | exact HSx.out _ HE6.out | exact HSx.out _ HE5.out | go_keep) (first | (go_at_call 119;refine (HCa.out _ (EQ.out.trans (by first | exact (Ext.refl _).drew | exact Ext.refl _))).mono ?_;rintro e w5 ⟨v5,g5,rfl,hg5,hO5,hb5⟩;obtain⟨a5,c5,rfl⟩:=hO5.vis;have HE5:Hid (Ext wq w5):=(by first | exact ((Ext.refl _).drew).trans hb5 | exact hb5);have O5:Hid (Own w5 (.slice a5 rs.length c5) g5 rs):=hO5;have G5:Hid (wq.heap.size≤g5):=(by (try simp at hg5);show _≤_;omega);clear hb5 hO5 hg5;unfold zr) | (have tk:=HE5;clear tk;go_at_call 115;refine (HT.out _ _ _).mono ?_;rintro e w6 ⟨rfl,hb6⟩;have HE56:Hid (Ext w5 w6):=hb6;have HE6:Hid (Ext wq w6):=HE5.out.trans hb6;clear hb6;obtain⟨Tx0,Tx1,Tx2,Tx3,Tk1,Tk2,Tk3⟩:=HSx.out w6 HE6.out;obtain⟨hrl,⟨r0,r1,r2,r3⟩,rf0,rf1,rf2,rf3⟩:=RQ.out.ext HE6.out;obtain⟨hyl,⟨y0,y1,y2⟩,yf0,yf1,yf2⟩:=YQ.out.ext HE6.out))
 all_goals
  have HE9:Hid (Ext w w6):=EQ.out.trans HE6.out
  have hsz:=EQ.out.size
  have hx9:=XQ.out.1
  have hy9:=YQ.out.1
  clear x0 x1 x2 x3 k1 k2 k3
  (try go_wp2)
  exact bodyPost_ret (v:=.tuple #[sagg (.slice (some ⟨bb,off,none⟩) s.nodes.length cn) (.slice ae s.ses.length ce) s.now (.slice am s.marks.length cm),yagg rc 0 ⟨#[]⟩]) (by simp [results,Tryz.results52,go_sem,sagg,yagg, *]) rfl ⟨rfl,by repeat (first | (with_reducible refine Ext.setCell ?_ ?_ _;rotate_left;(show w.heap.size≤_;(try simp only [World.size_alloc]);omega)) | with_reducible refine Ext.alloc ?_ _ | with_reducible refine Ext.drew ?_ | with_reducible exact HE9.out | with_reducible exact Ext.refl _)⟩
end Go.Proofs.YtpdejinkmnhioaaGreatDoor
