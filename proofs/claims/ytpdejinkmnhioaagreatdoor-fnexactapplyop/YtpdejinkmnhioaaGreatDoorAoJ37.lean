/- YB2c, YB2, in one text. -/
import Derived.Test.YtpdejinkmnhioaaGreatDoorAoJ21
import Derived.Test.YtpdejinkmnhioaaGreatDoorAoJ24
import Derived.Test.YtpdejinkmnhioaaGreatDoorAoJ33
import Derived.Deep.RegionHeld3
import Derived.Test.YtpdejinkmnhioaaGreatDoorAoTk
import Derived.Test.YtpdejinkmnhioaaGreatDoorAoMk
namespace Go.Proofs.YtpdejinkmnhioaaGreatDoor
open Go.RowKit
set_option linter.unusedSimpArgs false in
set_option maxHeartbeats 400000 in
set_option maxRecDepth 100000 in
theorem l6Read_any (B b:Nat) (s:Stt) (vn vs vm:Value) (z:Opn) (k:Nat) (y:Zn) (w:World) (hX:SBoxAt w B vn vs (.int .i64 s.now) vm) (hS:NSlice w vn s.nodes) (hO:OBoxAt w b z) (hk8:z.kind=8) (ha:Tre.atI s.nodes z.path=k) (hz:s.nodes[k]?=some y) (hv:z.version = -1) :
  Calls Tryz.prog 120 #[.pointer (some ⟨B,0,none⟩),.pointer (some ⟨b,0,none⟩)] w fun e w'=>e = .returned (yagg 0 y.version ⟨#[]⟩)∧Ext w w':=by
 have HAt:Hid (∀ wx,Ext w wx→Calls Tryz.prog 118 #[vn,.string z.path] wx fun e w'=>e = .returned (.int .i64 (Tre.atI s.nodes z.path))∧w'=wx):=fun wx he=>l2At_any vn s.nodes z.path wx (hS.ext he)
 have hkl:=(List.getElem?_eq_some_iff.1 hz).1
 have HN:Hid (∃ bb off,(∃ cp,vn = .slice (some ⟨bb,off,none⟩) s.nodes.length cp∧s.nodes.length≤cp)∧∀ W,Ext w W→W.cell? ⟨bb,off+k * 5+1,none⟩=some (.int .i64 y.data)∧W.cell? ⟨bb,off+k * 5+2,none⟩=some (.int .i64 y.version)):=by
  exact m20z
 rw [ha] at HAt
 clear ha hz
 refine n66z ?_
 intro HX HO
 obtain⟨an,cn,rfl⟩:=hS.vis
 refine n13z ?_
 intro HS HK
 clear hX hS hO
 go_enter Tryz.func120,Tryz.ntmps120
 go_wp2
 generalize hw1:World.alloc w _=w1
 refine n5z ?_
 intro E1 R1
 clear hw1
 obtain⟨s0,s1⟩:=HS.out w1 E1.out
 go_region_held3 (fun W=>W.cell? ⟨B,0,none⟩=some (.slice an s.nodes.length cn)∧W.cell? ⟨b,1,none⟩=some (.string z.path)) (first | exact⟨s0,s1⟩ | exact HS.out _ (E1.out.trans (Ext.refl _).drew) | go_keep) (first | (go_at_call 118;refine (HAt.out _ (E1.out.trans (by first | exact (Ext.refl _).drew | exact Ext.refl _))).mono ?_;rintro e w2 ⟨rfl,hw2⟩;rw [hw2];clear hw2 w2))
 all_goals
  generalize hw3:World.drew w1=w3
  have E3:Hid (Ext w w3):=by show Ext w w3;rw [← hw3];exact E1.out.trans (Ext.refl _).drew
  have R3:Hid (RyAt w3 w.heap.size (.int .i64 0) (.int .i64 0) (.string ByteArray.empty)):=by show RyAt w3 _ _ _ _;rw [← hw3];exact R1.out.ext (Ext.refl _).drew
  clear hw3 s0 s1
  obtain⟨p0,⟨c0,c1,c2⟩,m0,m1,m2⟩:=R3.out
  obtain⟨s0,s1⟩:=HS.out w3 E3.out
  obtain⟨k0,k1⟩:=HK.out w3 E3.out
  obtain⟨bb,off,⟨cp,hv,hlc⟩,hN⟩:=HN.out
  injection hv with v1 v2 v3
  subst v1 v3
  obtain⟨n1,n2⟩:=hN w3 E3.out
  have HN2:Hid _:=hN
  clear hN
  rw [hk8] at k0
  rw [hv] at k1
  clear hv
  have HC3:Hid (∀ W,Ext w3 W→(fun W' : World=>W'.cell? ⟨b,3,none⟩=some (.int .i64 (-1))∧W'.cell? ⟨bb,off+k * 5+2,none⟩=some (.int .i64 y.version)) W):=fun W he=>⟨((Ext.cell he).1 _ _ (World.block_lt_of_cell? _ _ k1)).trans k1,((Ext.cell he).1 _ _ (World.block_lt_of_cell? _ _ n2)).trans n2⟩
  have HE9:=E3
  go_wp2
  refine wp_region_held_drew (S:=(fun W' : World=>W'.cell? ⟨b,3,none⟩=some (.int .i64 (-1))∧W'.cell? ⟨bb,off+k * 5+2,none⟩=some (.int .i64 y.version))) (by kernel_rfl) (HC3.out _ ((Ext.refl _).drew)) (fun hHeld=>?_)
  refine tk 0 ⟨some 49,.move (.tmp 1),93,oz0,#[],none⟩ ?_
  refine tk 1 ⟨some 50,.nilCheck (.tmp 49),0,oz0,#[⟨0,.data⟩],none⟩ ?_
  refine tk 2 ⟨some 51,.fieldAddr 42 (.tmp 50) 3,0,oz0,#[⟨1,.data⟩],none⟩ ?_
  refine tk 3 ⟨some 52,.load 2 (.tmp 51),2,oz0,#[⟨2,.data⟩],none⟩ ?_
  refine tk 4 ⟨some 53,.binOp .neq 2 (.tmp 52) (.const (.int .i64 (-1))) 2,4,oz0,#[⟨3,.data⟩],none⟩ ?_
  refine tk 5 ⟨some 54,.move (.tmp 53),4,oz0,#[⟨4,.data⟩],none⟩ ?_
  refine tn 6 ⟨some 55,.move (.tmp 1),93,oz0,#[⟨5,.guard⟩],some (5,true)⟩ ?_
  refine tn 7 ⟨some 56,.nilCheck (.tmp 55),0,oz0,oy1,some (5,true)⟩ ?_
  refine tn 8 ⟨some 57,.fieldAddr 42 (.tmp 56) 3,0,oz0,oy2,some (5,true)⟩ ?_
  refine tn 9 ⟨some 58,.load 2 (.tmp 57),2,oz0,oy3,some (5,true)⟩ ?_
  refine tn 10 ⟨some 59,.move (.tmp 6),142,oz0,#[⟨5,.guard⟩],some (5,true)⟩ ?_
  refine tn 11 ⟨some 60,.nilCheck (.tmp 59),0,oz0,oy4,some (5,true)⟩ ?_
  refine tn 12 ⟨some 61,.fieldAddr 144 (.tmp 60) 2,0,oz0,oy5,some (5,true)⟩ ?_
  refine tn 13 ⟨some 62,.load 2 (.tmp 61),2,oz0,oy6,some (5,true)⟩ ?_
  refine tn 14 ⟨some 63,.binOp .neq 2 (.tmp 58) (.tmp 62) 2,4,oz0,oy7,some (5,true)⟩ ?_
  exact m17z
set_option linter.unusedSimpArgs false in
set_option maxHeartbeats 400000 in
set_option maxRecDepth 100000 in
theorem l6Read_same (B b:Nat) (s:Stt) (vn vs vm:Value) (z:Opn) (k:Nat) (y:Zn) (w:World) (hX:SBoxAt w B vn vs (.int .i64 s.now) vm) (hS:NSlice w vn s.nodes) (hO:OBoxAt w b z) (hk8:z.kind=8) (ha:Tre.atI s.nodes z.path=k) (hz:s.nodes[k]?=some y) (hv1:¬ z.version = -1) (hv:z.version=y.version) :
  Calls Tryz.prog 120 #[.pointer (some ⟨B,0,none⟩),.pointer (some ⟨b,0,none⟩)] w fun e w'=>e = .returned (yagg 0 y.version ⟨#[]⟩)∧Ext w w':=by
 have HAt:Hid (∀ wx,Ext w wx→Calls Tryz.prog 118 #[vn,.string z.path] wx fun e w'=>e = .returned (.int .i64 (Tre.atI s.nodes z.path))∧w'=wx):=fun wx he=>l2At_any vn s.nodes z.path wx (hS.ext he)
 have hkl:=(List.getElem?_eq_some_iff.1 hz).1
 have HN:Hid (∃ bb off,(∃ cp,vn = .slice (some ⟨bb,off,none⟩) s.nodes.length cp∧s.nodes.length≤cp)∧∀ W,Ext w W→W.cell? ⟨bb,off+k * 5+1,none⟩=some (.int .i64 y.data)∧W.cell? ⟨bb,off+k * 5+2,none⟩=some (.int .i64 y.version)):=by
  exact m20z
 rw [ha] at HAt
 clear ha hz
 refine n66z ?_
 intro HX HO
 obtain⟨an,cn,rfl⟩:=hS.vis
 refine n13z ?_
 intro HS HK
 clear hX hS hO
 go_enter Tryz.func120,Tryz.ntmps120
 go_wp2
 generalize hw1:World.alloc w _=w1
 refine n5z ?_
 intro E1 R1
 clear hw1
 obtain⟨s0,s1⟩:=HS.out w1 E1.out
 go_region_held3 (fun W=>W.cell? ⟨B,0,none⟩=some (.slice an s.nodes.length cn)∧W.cell? ⟨b,1,none⟩=some (.string z.path)) (first | exact⟨s0,s1⟩ | exact HS.out _ (E1.out.trans (Ext.refl _).drew) | go_keep) (first | (go_at_call 118;refine (HAt.out _ (E1.out.trans (by first | exact (Ext.refl _).drew | exact Ext.refl _))).mono ?_;rintro e w2 ⟨rfl,hw2⟩;rw [hw2];clear hw2 w2))
 all_goals
  generalize hw3:World.drew w1=w3
  have E3:Hid (Ext w w3):=by show Ext w w3;rw [← hw3];exact E1.out.trans (Ext.refl _).drew
  have R3:Hid (RyAt w3 w.heap.size (.int .i64 0) (.int .i64 0) (.string ByteArray.empty)):=by show RyAt w3 _ _ _ _;rw [← hw3];exact R1.out.ext (Ext.refl _).drew
  clear hw3 s0 s1
  obtain⟨p0,⟨c0,c1,c2⟩,m0,m1,m2⟩:=R3.out
  obtain⟨s0,s1⟩:=HS.out w3 E3.out
  obtain⟨k0,k1⟩:=HK.out w3 E3.out
  obtain⟨bb,off,⟨cp,hv,hlc⟩,hN⟩:=HN.out
  injection hv with v1 v2 v3
  subst v1 v3
  obtain⟨n1,n2⟩:=hN w3 E3.out
  have HN2:Hid _:=hN
  clear hN
  rw [hk8] at k0
  have P4:Hid ((z.version != -1)=true):=by show _=_;simp [hv1]
  have P14:Hid ((z.version != y.version)=false):=by show _=_;simp [hv]
  clear hv hv1
  have HC3:Hid (∀ W,Ext w3 W→(fun W' : World=>W'.cell? ⟨b,3,none⟩=some (.int .i64 (z.version))∧W'.cell? ⟨bb,off+k * 5+2,none⟩=some (.int .i64 y.version)) W):=fun W he=>⟨((Ext.cell he).1 _ _ (World.block_lt_of_cell? _ _ k1)).trans k1,((Ext.cell he).1 _ _ (World.block_lt_of_cell? _ _ n2)).trans n2⟩
  have HE9:=E3
  go_wp2
  refine wp_region_held_drew (S:=(fun W' : World=>W'.cell? ⟨b,3,none⟩=some (.int .i64 (z.version))∧W'.cell? ⟨bb,off+k * 5+2,none⟩=some (.int .i64 y.version))) (by kernel_rfl) (HC3.out _ ((Ext.refl _).drew)) (fun hHeld=>?_)
  refine tk 0 ⟨some 49,.move (.tmp 1),93,oz0,#[],none⟩ ?_
  refine tk 1 ⟨some 50,.nilCheck (.tmp 49),0,oz0,#[⟨0,.data⟩],none⟩ ?_
  refine tk 2 ⟨some 51,.fieldAddr 42 (.tmp 50) 3,0,oz0,#[⟨1,.data⟩],none⟩ ?_
  refine tk 3 ⟨some 52,.load 2 (.tmp 51),2,oz0,#[⟨2,.data⟩],none⟩ ?_
  refine tk 4 ⟨some 53,.binOp .neq 2 (.tmp 52) (.const (.int .i64 (-1))) 2,4,oz0,#[⟨3,.data⟩],none⟩ ?_
  (try rw [P4.out])
  refine tk 5 ⟨some 54,.move (.tmp 53),4,oz0,#[⟨4,.data⟩],none⟩ ?_
  refine tk 6 ⟨some 55,.move (.tmp 1),93,oz0,#[⟨5,.guard⟩],some (5,true)⟩ ?_
  refine tk 7 ⟨some 56,.nilCheck (.tmp 55),0,oz0,oy1,some (5,true)⟩ ?_
  refine tk 8 ⟨some 57,.fieldAddr 42 (.tmp 56) 3,0,oz0,oy2,some (5,true)⟩ ?_
  refine tk 9 ⟨some 58,.load 2 (.tmp 57),2,oz0,oy3,some (5,true)⟩ ?_
  refine tk 10 ⟨some 59,.move (.tmp 6),142,oz0,#[⟨5,.guard⟩],some (5,true)⟩ ?_
  refine tk 11 ⟨some 60,.nilCheck (.tmp 59),0,oz0,oy4,some (5,true)⟩ ?_
  refine tk 12 ⟨some 61,.fieldAddr 144 (.tmp 60) 2,0,oz0,oy5,some (5,true)⟩ ?_
  refine tk 13 ⟨some 62,.load 2 (.tmp 61),2,oz0,oy6,some (5,true)⟩ ?_
  refine tk 14 ⟨some 63,.binOp .neq 2 (.tmp 58) (.tmp 62) 2,4,oz0,oy7,some (5,true)⟩ ?_
  (try rw [P14.out])
  exact m17z
set_option linter.unusedSimpArgs false in
set_option maxHeartbeats 400000 in
set_option maxRecDepth 100000 in
theorem l6Read_other (B b:Nat) (s:Stt) (vn vs vm:Value) (z:Opn) (k:Nat) (y:Zn) (w:World) (hX:SBoxAt w B vn vs (.int .i64 s.now) vm) (hS:NSlice w vn s.nodes) (hO:OBoxAt w b z) (hk8:z.kind=8) (ha:Tre.atI s.nodes z.path=k) (hz:s.nodes[k]?=some y) (hv1:¬ z.version = -1) (hv2:¬ z.version=y.version) :
  Calls Tryz.prog 120 #[.pointer (some ⟨B,0,none⟩),.pointer (some ⟨b,0,none⟩)] w fun e w'=>e = .returned (yagg 7 0 ⟨#[]⟩)∧Ext w w':=by
 have HAt:Hid (∀ wx,Ext w wx→Calls Tryz.prog 118 #[vn,.string z.path] wx fun e w'=>e = .returned (.int .i64 (Tre.atI s.nodes z.path))∧w'=wx):=fun wx he=>l2At_any vn s.nodes z.path wx (hS.ext he)
 have hkl:=(List.getElem?_eq_some_iff.1 hz).1
 have HN:Hid (∃ bb off,(∃ cp,vn = .slice (some ⟨bb,off,none⟩) s.nodes.length cp∧s.nodes.length≤cp)∧∀ W,Ext w W→W.cell? ⟨bb,off+k * 5+1,none⟩=some (.int .i64 y.data)∧W.cell? ⟨bb,off+k * 5+2,none⟩=some (.int .i64 y.version)):=by
  exact m20z
 rw [ha] at HAt
 clear ha hz
 refine n66z ?_
 intro HX HO
 obtain⟨an,cn,rfl⟩:=hS.vis
 refine n13z ?_
 intro HS HK
 clear hX hS hO
 go_enter Tryz.func120,Tryz.ntmps120
 go_wp2
 generalize hw1:World.alloc w _=w1
 refine n5z ?_
 intro E1 R1
 clear hw1
 obtain⟨s0,s1⟩:=HS.out w1 E1.out
 go_region_held3 (fun W=>W.cell? ⟨B,0,none⟩=some (.slice an s.nodes.length cn)∧W.cell? ⟨b,1,none⟩=some (.string z.path)) (first | exact⟨s0,s1⟩ | exact HS.out _ (E1.out.trans (Ext.refl _).drew) | go_keep) (first | (go_at_call 118;refine (HAt.out _ (E1.out.trans (by first | exact (Ext.refl _).drew | exact Ext.refl _))).mono ?_;rintro e w2 ⟨rfl,hw2⟩;rw [hw2];clear hw2 w2))
 all_goals
  generalize hw3:World.drew w1=w3
  have E3:Hid (Ext w w3):=by show Ext w w3;rw [← hw3];exact E1.out.trans (Ext.refl _).drew
  have R3:Hid (RyAt w3 w.heap.size (.int .i64 0) (.int .i64 0) (.string ByteArray.empty)):=by show RyAt w3 _ _ _ _;rw [← hw3];exact R1.out.ext (Ext.refl _).drew
  clear hw3 s0 s1
  obtain⟨p0,⟨c0,c1,c2⟩,m0,m1,m2⟩:=R3.out
  obtain⟨s0,s1⟩:=HS.out w3 E3.out
  obtain⟨k0,k1⟩:=HK.out w3 E3.out
  obtain⟨bb,off,⟨cp,hv,hlc⟩,hN⟩:=HN.out
  injection hv with v1 v2 v3
  subst v1 v3
  obtain⟨n1,n2⟩:=hN w3 E3.out
  have HN2:Hid _:=hN
  clear hN
  rw [hk8] at k0
  have P4:Hid ((z.version != -1)=true):=by show _=_;simp [hv1]
  have P14:Hid ((z.version != y.version)=true):=by show _=_;simp [hv2]
  clear hv1 hv2
  have HC3:Hid (∀ W,Ext w3 W→(fun W' : World=>W'.cell? ⟨b,3,none⟩=some (.int .i64 (z.version))∧W'.cell? ⟨bb,off+k * 5+2,none⟩=some (.int .i64 y.version)) W):=fun W he=>⟨((Ext.cell he).1 _ _ (World.block_lt_of_cell? _ _ k1)).trans k1,((Ext.cell he).1 _ _ (World.block_lt_of_cell? _ _ n2)).trans n2⟩
  have HE9:=E3
  go_wp2
  refine wp_region_held_drew (S:=(fun W' : World=>W'.cell? ⟨b,3,none⟩=some (.int .i64 (z.version))∧W'.cell? ⟨bb,off+k * 5+2,none⟩=some (.int .i64 y.version))) (by kernel_rfl) (HC3.out _ ((Ext.refl _).drew)) (fun hHeld=>?_)
  refine tk 0 ⟨some 49,.move (.tmp 1),93,oz0,#[],none⟩ ?_
  refine tk 1 ⟨some 50,.nilCheck (.tmp 49),0,oz0,#[⟨0,.data⟩],none⟩ ?_
  refine tk 2 ⟨some 51,.fieldAddr 42 (.tmp 50) 3,0,oz0,#[⟨1,.data⟩],none⟩ ?_
  refine tk 3 ⟨some 52,.load 2 (.tmp 51),2,oz0,#[⟨2,.data⟩],none⟩ ?_
  refine tk 4 ⟨some 53,.binOp .neq 2 (.tmp 52) (.const (.int .i64 (-1))) 2,4,oz0,#[⟨3,.data⟩],none⟩ ?_
  (try rw [P4.out])
  refine tk 5 ⟨some 54,.move (.tmp 53),4,oz0,#[⟨4,.data⟩],none⟩ ?_
  refine tk 6 ⟨some 55,.move (.tmp 1),93,oz0,#[⟨5,.guard⟩],some (5,true)⟩ ?_
  refine tk 7 ⟨some 56,.nilCheck (.tmp 55),0,oz0,oy1,some (5,true)⟩ ?_
  refine tk 8 ⟨some 57,.fieldAddr 42 (.tmp 56) 3,0,oz0,oy2,some (5,true)⟩ ?_
  refine tk 9 ⟨some 58,.load 2 (.tmp 57),2,oz0,oy3,some (5,true)⟩ ?_
  refine tk 10 ⟨some 59,.move (.tmp 6),142,oz0,#[⟨5,.guard⟩],some (5,true)⟩ ?_
  refine tk 11 ⟨some 60,.nilCheck (.tmp 59),0,oz0,oy4,some (5,true)⟩ ?_
  refine tk 12 ⟨some 61,.fieldAddr 144 (.tmp 60) 2,0,oz0,oy5,some (5,true)⟩ ?_
  refine tk 13 ⟨some 62,.load 2 (.tmp 61),2,oz0,oy6,some (5,true)⟩ ?_
  refine tk 14 ⟨some 63,.binOp .neq 2 (.tmp 58) (.tmp 62) 2,4,oz0,oy7,some (5,true)⟩ ?_
  (try rw [P14.out])
  refine tk 15 ⟨some 64,.pick (.tmp 54) (.tmp 63) (.const (.bool false)),4,oz0,oy8,none⟩ ?_
  refine wpAnyH_done (by kernel_rfl) ?_ _
  generalize hw4:World.drew w3=w4
  have HE94:Hid (Ext w w4):=by show Ext w w4;rw [← hw4];exact E3.out.trans (Ext.refl _).drew
  obtain⟨n1',n2'⟩:=HN2.out w4 HE94.out
  obtain⟨p0',⟨c0',c1',c2'⟩,m0',m1',m2'⟩:RyAt w4 w.heap.size (.int .i64 0) (.int .i64 0) (.string ByteArray.empty):=by rw [← hw4];exact R3.out.ext (Ext.refl _).drew
  clear hw4 HE9
  have HE9:=HE94
  (try go_wp2)
  exact bodyPost_ret (v:=yagg 7 0 ⟨#[]⟩) (by simp [results,Tryz.results120,go_sem,yagg, *]) rfl ⟨by first | rfl | simp [yagg],by repeat (first | exact Ext.refl _ | exact HE9.out | refine Ext.drew ?_ | refine Ext.alloc ?_ _ | refine Ext.setCell ?_ (by show w.heap.size≤_;(try simp only [World.size_alloc]);omega) _)⟩
end Go.Proofs.YtpdejinkmnhioaaGreatDoor
namespace Go.Proofs.YtpdejinkmnhioaaGreatDoor
open Go.RowKit
set_option linter.unusedSimpArgs false in
set_option maxHeartbeats 1000000 in
set_option maxRecDepth 100000 in
theorem l6Read_none (B b:Nat) (s:Stt) (vn vs vm:Value) (z:Opn)  (w:World) (hX:SBoxAt w B vn vs (.int .i64 s.now) vm) (hS:NSlice w vn s.nodes) (hO:OBoxAt w b z) (ha:Tre.atI s.nodes z.path = -1) :
  Calls Tryz.prog 120 #[.pointer (some ⟨B,0,none⟩),.pointer (some ⟨b,0,none⟩)] w fun e w'=>e = .returned (yagg 4 0 ⟨#[]⟩)∧Ext w w':=by
 refine n30z ?_
 intro HAt
 rw [ha] at HAt
 clear ha
 refine n66z ?_
 intro HX HO
 obtain⟨an,cn,rfl⟩:=hS.vis
 refine n13z ?_
 intro HS HK
 clear hX hS hO
 go_enter Tryz.func120,Tryz.ntmps120
 go_wp2
 generalize hw1:World.alloc w _=w1
 refine n5z ?_
 intro E1 R1
 clear hw1
 obtain⟨s0,s1⟩:=HS.out w1 E1.out
 go_region_held3 (fun W=>W.cell? ⟨B,0,none⟩=some (.slice an s.nodes.length cn)∧W.cell? ⟨b,1,none⟩=some (.string z.path)) (first | exact⟨s0,s1⟩ | exact HS.out _ (E1.out.trans (Ext.refl _).drew) | go_keep) (first | (go_at_call 118;refine (HAt.out _ (E1.out.trans (by first | exact (Ext.refl _).drew | exact Ext.refl _))).mono ?_;rintro e w2 ⟨rfl,hw2⟩;rw [hw2];clear hw2 w2))
 all_goals
  generalize hw3:World.drew w1=w3
  have E3:Hid (Ext w w3):=by show Ext w w3;rw [← hw3];exact E1.out.trans (Ext.refl _).drew
  have R3:Hid (RyAt w3 w.heap.size (.int .i64 0) (.int .i64 0) (.string ByteArray.empty)):=by show RyAt w3 _ _ _ _;rw [← hw3];exact R1.out.ext (Ext.refl _).drew
  clear hw3 s0 s1
  obtain⟨p0,⟨c0,c1,c2⟩,m0,m1,m2⟩:=R3.out
  obtain⟨s0,s1⟩:=HS.out w3 E3.out
  obtain⟨k0,k1⟩:=HK.out w3 E3.out
  have HE9:=E3
  go_wp2
  exact bodyPost_ret (v:=yagg 4 0 ⟨#[]⟩) (by simp [results,Tryz.results120,go_sem,yagg, *]) rfl ⟨by first | rfl | simp [yagg],by repeat (first | exact Ext.refl _ | exact HE9.out | refine Ext.drew ?_ | refine Ext.alloc ?_ _ | refine Ext.setCell ?_ (by show w.heap.size≤_;(try simp only [World.size_alloc]);omega) _)⟩
set_option linter.unusedSimpArgs false in
set_option maxHeartbeats 1000000 in
set_option maxRecDepth 100000 in
theorem l6Read_get (B b:Nat) (s:Stt) (vn vs vm:Value) (z:Opn) (k:Nat) (y:Zn) (w:World) (hX:SBoxAt w B vn vs (.int .i64 s.now) vm) (hS:NSlice w vn s.nodes) (hO:OBoxAt w b z) (hk6:z.kind=6) (ha:Tre.atI s.nodes z.path=k) (hz:s.nodes[k]?=some y) :
  Calls Tryz.prog 120 #[.pointer (some ⟨B,0,none⟩),.pointer (some ⟨b,0,none⟩)] w fun e w'=>e = .returned (yagg 0 y.data ⟨#[]⟩)∧Ext w w':=by
 have HAt:Hid (∀ wx,Ext w wx→Calls Tryz.prog 118 #[vn,.string z.path] wx fun e w'=>e = .returned (.int .i64 (Tre.atI s.nodes z.path))∧w'=wx):=fun wx he=>l2At_any vn s.nodes z.path wx (hS.ext he)
 have hkl:=(List.getElem?_eq_some_iff.1 hz).1
 have HN:Hid (∃ bb off,(∃ cp,vn = .slice (some ⟨bb,off,none⟩) s.nodes.length cp∧s.nodes.length≤cp)∧∀ W,Ext w W→W.cell? ⟨bb,off+k * 5+1,none⟩=some (.int .i64 y.data)∧W.cell? ⟨bb,off+k * 5+2,none⟩=some (.int .i64 y.version)):=by
  exact m20z
 rw [ha] at HAt
 clear ha hz
 refine n66z ?_
 intro HX HO
 obtain⟨an,cn,rfl⟩:=hS.vis
 refine n13z ?_
 intro HS HK
 clear hX hS hO
 go_enter Tryz.func120,Tryz.ntmps120
 go_wp2
 generalize hw1:World.alloc w _=w1
 refine n5z ?_
 intro E1 R1
 clear hw1
 obtain⟨s0,s1⟩:=HS.out w1 E1.out
 go_region_held3 (fun W=>W.cell? ⟨B,0,none⟩=some (.slice an s.nodes.length cn)∧W.cell? ⟨b,1,none⟩=some (.string z.path)) (first | exact⟨s0,s1⟩ | exact HS.out _ (E1.out.trans (Ext.refl _).drew) | go_keep) (first | (go_at_call 118;refine (HAt.out _ (E1.out.trans (by first | exact (Ext.refl _).drew | exact Ext.refl _))).mono ?_;rintro e w2 ⟨rfl,hw2⟩;rw [hw2];clear hw2 w2))
 all_goals
  generalize hw3:World.drew w1=w3
  have E3:Hid (Ext w w3):=by show Ext w w3;rw [← hw3];exact E1.out.trans (Ext.refl _).drew
  have R3:Hid (RyAt w3 w.heap.size (.int .i64 0) (.int .i64 0) (.string ByteArray.empty)):=by show RyAt w3 _ _ _ _;rw [← hw3];exact R1.out.ext (Ext.refl _).drew
  clear hw3 s0 s1
  obtain⟨p0,⟨c0,c1,c2⟩,m0,m1,m2⟩:=R3.out
  obtain⟨s0,s1⟩:=HS.out w3 E3.out
  obtain⟨k0,k1⟩:=HK.out w3 E3.out
  obtain⟨bb,off,⟨cp,hv,hlc⟩,hN⟩:=HN.out
  injection hv with v1 v2 v3
  subst v1 v3
  obtain⟨n1,n2⟩:=hN w3 E3.out
  have HN2:Hid _:=hN
  clear hN
  rw [hk6] at k0
  have HE9:=E3
  go_wp2
  exact bodyPost_ret (v:=yagg 0 y.data ⟨#[]⟩) (by simp [results,Tryz.results120,go_sem,yagg, *]) rfl ⟨by first | rfl | simp [yagg],by repeat (first | exact Ext.refl _ | exact HE9.out | refine Ext.drew ?_ | refine Ext.alloc ?_ _ | refine Ext.setCell ?_ (by show w.heap.size≤_;(try simp only [World.size_alloc]);omega) _)⟩
set_option linter.unusedSimpArgs false in
set_option maxHeartbeats 1000000 in
set_option maxRecDepth 100000 in
theorem l6Read_kids (B b:Nat) (s:Stt) (vn vs vm:Value) (z:Opn) (k:Nat) (y:Zn) (w:World) (hX:SBoxAt w B vn vs (.int .i64 s.now) vm) (hS:NSlice w vn s.nodes) (hO:OBoxAt w b z) (hk7:z.kind=7) (ha:Tre.atI s.nodes z.path=k) (hz:s.nodes[k]?=some y) (hl:s.nodes.length≤1048576) (hgo:∀ z ∈ s.nodes,Pth.faultI z.path.data.toList=0) :
  Calls Tryz.prog 120 #[.pointer (some ⟨B,0,none⟩),.pointer (some ⟨b,0,none⟩)] w fun e w'=>e = .returned (yagg 0 ((Tre.kids s.nodes z.path).length:Nat) ⟨#[]⟩)∧Ext w w':=by
 refine n30z ?_
 intro HAt
 have HKi:Hid (∀ wx,Ext w wx→Calls Tryz.prog 183 #[vn,.string z.path] wx fun e w'=>∃ v' g,e = .returned v'∧wx.heap.size≤g∧TOwn w' v' g (Tre.kids s.nodes z.path)∧Ext wx w'):=fun wx he=>l2Kids_any vn s.nodes z.path wx (hS.ext he) hl hgo
 have hkl:=(List.getElem?_eq_some_iff.1 hz).1
 have HN:Hid (∃ bb off,(∃ cp,vn = .slice (some ⟨bb,off,none⟩) s.nodes.length cp∧s.nodes.length≤cp)∧∀ W,Ext w W→W.cell? ⟨bb,off+k * 5+1,none⟩=some (.int .i64 y.data)∧W.cell? ⟨bb,off+k * 5+2,none⟩=some (.int .i64 y.version)):=by
  exact m20z
 rw [ha] at HAt
 clear ha hz hl hgo
 refine n66z ?_
 intro HX HO
 obtain⟨an,cn,rfl⟩:=hS.vis
 refine n13z ?_
 intro HS HK
 clear hX hS hO
 go_enter Tryz.func120,Tryz.ntmps120
 go_wp2
 generalize hw1:World.alloc w _=w1
 refine n5z ?_
 intro E1 R1
 clear hw1
 obtain⟨s0,s1⟩:=HS.out w1 E1.out
 go_region_held3 (fun W=>W.cell? ⟨B,0,none⟩=some (.slice an s.nodes.length cn)∧W.cell? ⟨b,1,none⟩=some (.string z.path)) (first | exact⟨s0,s1⟩ | exact HS.out _ (E1.out.trans (Ext.refl _).drew) | go_keep) (first | (go_at_call 118;refine (HAt.out _ (E1.out.trans (by first | exact (Ext.refl _).drew | exact Ext.refl _))).mono ?_;rintro e w2 ⟨rfl,hw2⟩;rw [hw2];clear hw2 w2))
 all_goals
  generalize hw3:World.drew w1=w3
  have E3:Hid (Ext w w3):=by show Ext w w3;rw [← hw3];exact E1.out.trans (Ext.refl _).drew
  have R3:Hid (RyAt w3 w.heap.size (.int .i64 0) (.int .i64 0) (.string ByteArray.empty)):=by show RyAt w3 _ _ _ _;rw [← hw3];exact R1.out.ext (Ext.refl _).drew
  clear hw3 s0 s1
  obtain⟨p0,⟨c0,c1,c2⟩,m0,m1,m2⟩:=R3.out
  obtain⟨s0,s1⟩:=HS.out w3 E3.out
  obtain⟨k0,k1⟩:=HK.out w3 E3.out
  obtain⟨bb,off,⟨cp,hv,hlc⟩,hN⟩:=HN.out
  injection hv with v1 v2 v3
  subst v1 v3
  obtain⟨n1,n2⟩:=hN w3 E3.out
  have HN2:Hid _:=hN
  clear hN
  rw [hk7] at k0
  have hBl:=HX.out.1
  have hbl:=HO.out.1
  go_wp2
  go_region_held3 (fun W=>W.cell? ⟨B,0,none⟩=some (.slice (some ⟨bb,off,none⟩) s.nodes.length cn)∧W.cell? ⟨b,1,none⟩=some (.string z.path)) (first | exact⟨s0,s1⟩ | exact HS.out _ (E3.out.trans (Ext.refl _).drew) | exact HS.out _ HE9.out | exact⟨by rw [iset_ne _ _ _ _ _ _ (Or.inl (by omega)),iset_ne _ _ _ _ _ _ (Or.inl (by omega)),iset_ne _ _ _ _ _ _ (Or.inl (by omega))];exact t0,by rw [iset_ne _ _ _ _ _ _ (Or.inl (by omega)),iset_ne _ _ _ _ _ _ (Or.inl (by omega)),iset_ne _ _ _ _ _ _ (Or.inl (by omega))];exact t1⟩ | go_keep) (first | (go_at_call 183;refine (HKi.out _ (E3.out.trans (by first | exact (Ext.refl _).drew | exact Ext.refl _))).mono ?_;rintro e w5 ⟨v5,g5,rfl,-,hT5,hb5⟩;obtain⟨a5,c5,rfl⟩:=hT5.visT;have HE35:Hid (Ext w3 w5):=(by first | exact ((Ext.refl _).drew).trans hb5 | exact hb5);have HE9:Hid (Ext w w5):=E3.out.trans HE35.out;obtain⟨t0,t1⟩:=HS.out w5 HE9.out;clear hb5 hT5 p0 c0 c1 c2 m0 m1 m2 s0 s1;obtain⟨p0,⟨c0,c1,c2⟩,m0,m1,m2⟩:=R3.out.ext HE35.out))
 all_goals
  (try go_wp2)
  clear t0 t1 k0 k1 n1 n2
  exact bodyPost_ret (v:=yagg 0 ((Tre.kids s.nodes z.path).length:Nat) ⟨#[]⟩) (by simp [results,Tryz.results120,go_sem,yagg, *]) rfl ⟨by first | rfl | simp [yagg],by repeat (first | exact Ext.refl _ | exact HE9.out | refine Ext.drew ?_ | refine Ext.alloc ?_ _ | refine Ext.setCell ?_ (by show w.heap.size≤_;(try simp only [World.size_alloc]);omega) _)⟩
end Go.Proofs.YtpdejinkmnhioaaGreatDoor
