/- YB4coo, YB4cbn, YB4con, in one text. -/
import Derived.Test.YtpdejinkmnhioaaGreatDoorAoJ21
import Derived.Test.YtpdejinkmnhioaaGreatDoorAoJ24
import Derived.Test.YtpdejinkmnhioaaGreatDoorAoJ33
import Derived.Deep.RegionHeld3
import Derived.Test.YtpdejinkmnhioaaGreatDoorAoJ15
import Derived.Test.YtpdejinkmnhioaaGreatDoorAoT9
import Derived.Test.YtpdejinkmnhioaaGreatDoorAoJ39
import Derived.Test.YtpdejinkmnhioaaGreatDoorAoMk
namespace Go.Proofs.YtpdejinkmnhioaaGreatDoor
open Go.RowKit
set_option linter.unusedSimpArgs false in
set_option maxHeartbeats 500000 in
set_option maxRecDepth 100000 in
theorem l6Do_create_ok_own (b:Nat) (s:Stt) (an ae am:Option Addr) (cn ce cm:Nat) (c:Int) (z:Opn) (w:World) (hS:SSlice w (.slice an s.nodes.length cn) (.slice ae s.ses.length ce) (.slice am s.marks.length cm) s) (hO:OBoxAt w b z) (rp:ByteArray) (rs:List Zn) (hkk:z.kind=3) (hl:Ses.live s.ses c s.now=true)  (hp:Pth.faultI z.path.data.toList=0) (hpos:0 < s.nodes.length) (hnl:s.nodes.length≤1000) (hnx:∀ z ∈ s.nodes,0≤z.next) (hT:Tre.createT s.nodes z.path z.data (c) z.seq=(0,rp,rs)) (how:z.own=true) :
  Calls Tryz.prog 52 #[sagg (.slice an s.nodes.length cn) (.slice ae s.ses.length ce) s.now (.slice am s.marks.length cm),.int .i64 c,.pointer (some ⟨b,0,none⟩)] w fun e w'=>∃ a5 c5 g5,e = .returned (.tuple #[sagg (.slice a5 rs.length c5) (.slice ae s.ses.length ce) s.now (.slice am s.marks.length cm),yagg 0 (0) rp])∧w.heap.size≤g5∧Own w' (.slice a5 rs.length c5) g5 rs∧Ext w w':=by
 refine n8z ?_
 intro HL
 clear hl
 have HCa:Hid (∀ wx,Ext w wx→Calls Tryz.prog 116 #[.slice an s.nodes.length cn,.string z.path,.int .i64 z.data,.int .i64 (c),.bool z.seq] wx (ZRet wx 0 rp rs)):=fun wx he=>by
  exact m61z
 exact m2z
end Go.Proofs.YtpdejinkmnhioaaGreatDoor
namespace Go.Proofs.YtpdejinkmnhioaaGreatDoor
open Go.RowKit
set_option linter.unusedSimpArgs false in
set_option maxHeartbeats 500000 in
set_option maxRecDepth 100000 in
theorem l6Do_create_bad_not (b:Nat) (s:Stt) (an ae am:Option Addr) (cn ce cm:Nat) (c:Int) (z:Opn) (w:World) (hS:SSlice w (.slice an s.nodes.length cn) (.slice ae s.ses.length ce) (.slice am s.marks.length cm) s) (hO:OBoxAt w b z) (rc:Int) (rp:ByteArray) (rs:List Zn) (hkk:z.kind=3) (hl:Ses.live s.ses c s.now=true) (hrc:¬ rc=0) (hp:Pth.faultI z.path.data.toList=0) (hpos:0 < s.nodes.length) (hnl:s.nodes.length≤1000) (hnx:∀ z ∈ s.nodes,0≤z.next) (hT:Tre.createT s.nodes z.path z.data (0) z.seq=(rc,rp,rs)) (how:z.own=false) :
  Calls Tryz.prog 52 #[sagg (.slice an s.nodes.length cn) (.slice ae s.ses.length ce) s.now (.slice am s.marks.length cm),.int .i64 c,.pointer (some ⟨b,0,none⟩)] w fun e w'=>e = .returned (.tuple #[sagg (.slice an s.nodes.length cn) (.slice ae s.ses.length ce) s.now (.slice am s.marks.length cm),yagg rc 0 ⟨#[]⟩])∧Ext w w':=by
 refine n8z ?_
 intro HL
 clear hl
 have HCa:Hid (∀ wx,Ext w wx→Calls Tryz.prog 116 #[.slice an s.nodes.length cn,.string z.path,.int .i64 z.data,.int .i64 (0),.bool z.seq] wx (ZRet wx rc rp rs)):=fun wx he=>by
  exact m62z
 exact m3z
end Go.Proofs.YtpdejinkmnhioaaGreatDoor
namespace Go.Proofs.YtpdejinkmnhioaaGreatDoor
open Go.RowKit
set_option linter.unusedSimpArgs false in
set_option maxHeartbeats 500000 in
set_option maxRecDepth 100000 in
theorem l6Do_create_ok_not (b:Nat) (s:Stt) (an ae am:Option Addr) (cn ce cm:Nat) (c:Int) (z:Opn) (w:World) (hS:SSlice w (.slice an s.nodes.length cn) (.slice ae s.ses.length ce) (.slice am s.marks.length cm) s) (hO:OBoxAt w b z) (rp:ByteArray) (rs:List Zn) (hkk:z.kind=3) (hl:Ses.live s.ses c s.now=true)  (hp:Pth.faultI z.path.data.toList=0) (hpos:0 < s.nodes.length) (hnl:s.nodes.length≤1000) (hnx:∀ z ∈ s.nodes,0≤z.next) (hT:Tre.createT s.nodes z.path z.data (0) z.seq=(0,rp,rs)) (how:z.own=false) :
  Calls Tryz.prog 52 #[sagg (.slice an s.nodes.length cn) (.slice ae s.ses.length ce) s.now (.slice am s.marks.length cm),.int .i64 c,.pointer (some ⟨b,0,none⟩)] w fun e w'=>∃ a5 c5 g5,e = .returned (.tuple #[sagg (.slice a5 rs.length c5) (.slice ae s.ses.length ce) s.now (.slice am s.marks.length cm),yagg 0 (0) rp])∧w.heap.size≤g5∧Own w' (.slice a5 rs.length c5) g5 rs∧Ext w w':=by
 refine n8z ?_
 intro HL
 clear hl
 have HCa:Hid (∀ wx,Ext w wx→Calls Tryz.prog 116 #[.slice an s.nodes.length cn,.string z.path,.int .i64 z.data,.int .i64 (0),.bool z.seq] wx (ZRet wx 0 rp rs)):=fun wx he=>by
  exact m62z
 exact m2z
end Go.Proofs.YtpdejinkmnhioaaGreatDoor
