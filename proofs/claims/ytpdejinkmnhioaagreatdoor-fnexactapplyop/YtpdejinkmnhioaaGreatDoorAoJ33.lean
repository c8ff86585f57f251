/- YA7, YA8, YA9, O4, in one text. -/
import Derived.Test.YtpdejinkmnhioaaGreatDoorAoJ32
import Derived.Test.YtpdejinkmnhioaaGreatDoorAoJ21
import Derived.Recover
import Derived.Defers
import Derived.Test.YtpdejinkmnhioaaGreatDoorAoJ24
import Derived.Test.YtpdejinkmnhioaaGreatDoorAoJ18
import Derived.Test.YtpdejinkmnhioaaGreatDoorAoJ9
import Derived.Test.YtpdejinkmnhioaaGreatDoorAoMk
namespace Go.Proofs.YtpdejinkmnhioaaGreatDoor
open Go.RowKit
theorem Sta.doT_if {s:Stt} {c:Int} {o:Opn} (h:¬ o.kind=1):Sta.doT s c o=if Ses.live s.ses c s.now=true then Sta.liveT s c o else (Sta.bad 9,s):=by
 cases hl:Ses.live s.ses c s.now with
 | true=>rw [if_pos rfl];exact Sta.doT_live h hl
 | false=>rw [if_neg (by decide)];exact Sta.doT_gone h hl
theorem cell_on {w w' : World} {b o:Nat} {v:Value} (h:w.cell? ⟨b,o,none⟩=some v) (he:Ext w w'):w'.cell? ⟨b,o,none⟩=some v:=((Ext.cell he).1 _ _ (World.block_lt_of_cell? _ _ h)).trans h
set_option maxHeartbeats 1000000 in
set_option maxRecDepth 100000 in
theorem stepOf_1 (n B:Nat) (s:Stt) (c:Int) (p:ByteArray) (d v:Int) (sq ow:Bool) (w:World) (hc:1≤c∧c≤9) (hr:Sta.right s) (hn:n≤w.heap.size) :
  Calls Tryz.prog 61 #[.int .i64 c,oagg ⟨1,p,d,v,sq,ow⟩] w (Maker True n B w s (Sta.doT s c ⟨1,p,d,v,sq,ow⟩)):=by
 have HM:Hid (∀ wx,Ext w wx→Calls Tryz.prog 132 #[.int .i64 c] wx (Maker True n B w s (Sta.doT s c ⟨1,p,d,v,sq,ow⟩))):=by
  intro w0 hE00
  refine (openStep_mk c w0).mono ?_
  rintro e w1 ⟨D,rfl,hD,hb⟩
  have hE0:=hE00.trans hb
  refine⟨188,#[.pointer (some ⟨D,0,none⟩)],rfl,fun _ _=>by kernel_rfl,fun _=>?_,hE0⟩
  intro wx K he hA hKB
  rw [show (#[Value.pointer (some ⟨B,0,none⟩)] ++ #[.pointer (some ⟨D,0,none⟩)]:Array Value) = #[.pointer (some ⟨B,0,none⟩),.pointer (some ⟨D,0,none⟩)] from by simp]
  rw [Sta.doT_open rfl]
  exact openStep1_any n B D s c wx K hA (cell_on hD he) hKB (by have:=hE0.size;have:=he.size;omega) hr hc
 clear hc hr hn
 generalize Sta.doT s c ⟨1,p,d,v,sq,ow⟩=q at *
 unfold oagg
 go_enter Tryz.func61,Tryz.ntmps61
 go_wp2_with fail
 refine (HM.out _ (by first | exact (Ext.refl _).alloc _ | exact Ext.refl _)).mono ?_
 rintro e w1 ⟨F,caps,rfl,hF,hD,hE⟩
 have HD:Hid (True→Does n B F caps w1 s q):=hD
 have HE:Hid (Ext w w1):=hE
 clear hD hE
 go_wp2
 go_ret
 exact⟨F,caps,rfl,hF,HD.out,HE.out⟩
set_option maxHeartbeats 1000000 in
set_option maxRecDepth 100000 in
theorem stepOf_2 (n B:Nat) (s:Stt) (c:Int) (p:ByteArray) (d v:Int) (sq ow:Bool) (w:World) (hc:1≤c∧c≤9) (hr:Sta.right s) (hgd:Gd w) (hn:n≤w.heap.size) :
  Calls Tryz.prog 61 #[.int .i64 c,oagg ⟨2,p,d,v,sq,ow⟩] w (Maker True n B w s (Sta.doT s c ⟨2,p,d,v,sq,ow⟩)):=by
 have HM:Hid (∀ (F:FuncId) (caps:Array Value) (w0:World),Ext w w0→(∀ (args:Array Value) (W:World),(callFunc F args).run Tryz.prog W = .ok (.enter F args) W)→(Ses.live s.ses c s.now=true→Does n B F caps w0 s (Sta.liveT s c ⟨2,p,d,v,sq,ow⟩))→Calls Tryz.prog 133 #[.int .i64 c,.func (.func F) #[] caps] w0 (Maker True n B w s (Sta.doT s c ⟨2,p,d,v,sq,ow⟩))):=by
  exact m6z
 have HDd:Hid (∀ wx:World,Calls Tryz.prog 135 #[.agg #[.int .i64 2,.string p,.int .i64 d,.int .i64 v,.bool sq,.bool ow]] wx fun e w'=>e = .returned (.iface 260 (.agg #[]))∧Ext wx w'):=fun wx=>deedOf_2 p d v sq ow wx
 have HLs:Hid (∀ wx:World,Ext w wx→Calls Tryz.prog 134 #[.int .i64 c,.iface 260 (.agg #[])] wx (Maker (Ses.live s.ses c s.now=true) n B wx s (Sta.liveT s c ⟨2,p,d,v,sq,ow⟩))):=fun wx he=>liveStep_2 n B s c p d v sq ow wx (by have:=he.size;omega) hr (hgd.ext he)
 clear hc hr hgd hn
 generalize Sta.doT s c ⟨2,p,d,v,sq,ow⟩=q at *
 generalize Sta.liveT s c ⟨2,p,d,v,sq,ow⟩=ql at *
 exact m5z
set_option maxHeartbeats 1000000 in
set_option maxRecDepth 100000 in
theorem stepOf_3 (n B:Nat) (s:Stt) (c:Int) (p:ByteArray) (d v:Int) (sq ow:Bool) (w:World) (hc:1≤c∧c≤9) (hr:Sta.right s) (hgd:Gd w) (hn:n≤w.heap.size) (hp:Pth.faultI p.data.toList=0) :
  Calls Tryz.prog 61 #[.int .i64 c,oagg ⟨3,p,d,v,sq,ow⟩] w (Maker True n B w s (Sta.doT s c ⟨3,p,d,v,sq,ow⟩)):=by
 have HM:Hid (∀ (F:FuncId) (caps:Array Value) (w0:World),Ext w w0→(∀ (args:Array Value) (W:World),(callFunc F args).run Tryz.prog W = .ok (.enter F args) W)→(Ses.live s.ses c s.now=true→Does n B F caps w0 s (Sta.liveT s c ⟨3,p,d,v,sq,ow⟩))→Calls Tryz.prog 133 #[.int .i64 c,.func (.func F) #[] caps] w0 (Maker True n B w s (Sta.doT s c ⟨3,p,d,v,sq,ow⟩))):=by
  exact m6z
 have HDd:Hid (∀ wx:World,Calls Tryz.prog 135 #[.agg #[.int .i64 3,.string p,.int .i64 d,.int .i64 v,.bool sq,.bool ow]] wx fun e w'=>e = .returned (.iface 243 (.agg #[.string p,.int .i64 d,.bool sq,.bool ow]))∧Ext wx w'):=fun wx=>deedOf_3 p d v sq ow wx
 have HLs:Hid (∀ wx:World,Ext w wx→Calls Tryz.prog 134 #[.int .i64 c,.iface 243 (.agg #[.string p,.int .i64 d,.bool sq,.bool ow])] wx (Maker (Ses.live s.ses c s.now=true) n B wx s (Sta.liveT s c ⟨3,p,d,v,sq,ow⟩))):=fun wx he=>liveStep_3 n B s c p d v sq ow wx (by have:=he.size;omega) hr (hgd.ext he) hp
 clear hc hr hgd hn hp
 generalize Sta.doT s c ⟨3,p,d,v,sq,ow⟩=q at *
 generalize Sta.liveT s c ⟨3,p,d,v,sq,ow⟩=ql at *
 exact m5z
set_option maxHeartbeats 1000000 in
set_option maxRecDepth 100000 in
theorem stepOf_4 (n B:Nat) (s:Stt) (c:Int) (p:ByteArray) (d v:Int) (sq ow:Bool) (w:World) (hc:1≤c∧c≤9) (hr:Sta.right s) (hgd:Gd w) (hn:n≤w.heap.size) (hp:Pth.faultI p.data.toList=0) :
  Calls Tryz.prog 61 #[.int .i64 c,oagg ⟨4,p,d,v,sq,ow⟩] w (Maker True n B w s (Sta.doT s c ⟨4,p,d,v,sq,ow⟩)):=by
 have HM:Hid (∀ (F:FuncId) (caps:Array Value) (w0:World),Ext w w0→(∀ (args:Array Value) (W:World),(callFunc F args).run Tryz.prog W = .ok (.enter F args) W)→(Ses.live s.ses c s.now=true→Does n B F caps w0 s (Sta.liveT s c ⟨4,p,d,v,sq,ow⟩))→Calls Tryz.prog 133 #[.int .i64 c,.func (.func F) #[] caps] w0 (Maker True n B w s (Sta.doT s c ⟨4,p,d,v,sq,ow⟩))):=by
  exact m6z
 have HDd:Hid (∀ wx:World,Calls Tryz.prog 135 #[.agg #[.int .i64 4,.string p,.int .i64 d,.int .i64 v,.bool sq,.bool ow]] wx fun e w'=>e = .returned (.iface 246 (.agg #[.string p,.int .i64 v]))∧Ext wx w'):=fun wx=>deedOf_4 p d v sq ow wx
 have HLs:Hid (∀ wx:World,Ext w wx→Calls Tryz.prog 134 #[.int .i64 c,.iface 246 (.agg #[.string p,.int .i64 v])] wx (Maker (Ses.live s.ses c s.now=true) n B wx s (Sta.liveT s c ⟨4,p,d,v,sq,ow⟩))):=fun wx he=>liveStep_4 n B s c p d v sq ow wx (by have:=he.size;omega) hr (hgd.ext he) hp
 clear hc hr hgd hn hp
 generalize Sta.doT s c ⟨4,p,d,v,sq,ow⟩=q at *
 generalize Sta.liveT s c ⟨4,p,d,v,sq,ow⟩=ql at *
 exact m5z
set_option maxHeartbeats 1000000 in
set_option maxRecDepth 100000 in
theorem stepOf_5 (n B:Nat) (s:Stt) (c:Int) (p:ByteArray) (d v:Int) (sq ow:Bool) (w:World) (hc:1≤c∧c≤9) (hr:Sta.right s) (hgd:Gd w) (hn:n≤w.heap.size) (hp:Pth.faultI p.data.toList=0) :
  Calls Tryz.prog 61 #[.int .i64 c,oagg ⟨5,p,d,v,sq,ow⟩] w (Maker True n B w s (Sta.doT s c ⟨5,p,d,v,sq,ow⟩)):=by
 have HM:Hid (∀ (F:FuncId) (caps:Array Value) (w0:World),Ext w w0→(∀ (args:Array Value) (W:World),(callFunc F args).run Tryz.prog W = .ok (.enter F args) W)→(Ses.live s.ses c s.now=true→Does n B F caps w0 s (Sta.liveT s c ⟨5,p,d,v,sq,ow⟩))→Calls Tryz.prog 133 #[.int .i64 c,.func (.func F) #[] caps] w0 (Maker True n B w s (Sta.doT s c ⟨5,p,d,v,sq,ow⟩))):=by
  exact m6z
 have HDd:Hid (∀ wx:World,Calls Tryz.prog 135 #[.agg #[.int .i64 5,.string p,.int .i64 d,.int .i64 v,.bool sq,.bool ow]] wx fun e w'=>e = .returned (.iface 249 (.agg #[.string p,.int .i64 d,.int .i64 v]))∧Ext wx w'):=fun wx=>deedOf_5 p d v sq ow wx
 have HLs:Hid (∀ wx:World,Ext w wx→Calls Tryz.prog 134 #[.int .i64 c,.iface 249 (.agg #[.string p,.int .i64 d,.int .i64 v])] wx (Maker (Ses.live s.ses c s.now=true) n B wx s (Sta.liveT s c ⟨5,p,d,v,sq,ow⟩))):=fun wx he=>liveStep_5 n B s c p d v sq ow wx (by have:=he.size;omega) hr (hgd.ext he) hp
 clear hc hr hgd hn hp
 generalize Sta.doT s c ⟨5,p,d,v,sq,ow⟩=q at *
 generalize Sta.liveT s c ⟨5,p,d,v,sq,ow⟩=ql at *
 exact m5z
set_option maxHeartbeats 1000000 in
set_option maxRecDepth 100000 in
theorem stepOf_6 (n B:Nat) (s:Stt) (c:Int) (p:ByteArray) (d v:Int) (sq ow:Bool) (w:World) (hc:1≤c∧c≤9) (hr:Sta.right s) (hgd:Gd w) (hp:Pth.faultI p.data.toList=0) :
  Calls Tryz.prog 61 #[.int .i64 c,oagg ⟨6,p,d,v,sq,ow⟩] w (Maker True n B w s (Sta.doT s c ⟨6,p,d,v,sq,ow⟩)):=by
 have HM:Hid (∀ (F:FuncId) (caps:Array Value) (w0:World),Ext w w0→(∀ (args:Array Value) (W:World),(callFunc F args).run Tryz.prog W = .ok (.enter F args) W)→(Ses.live s.ses c s.now=true→Does n B F caps w0 s (Sta.liveT s c ⟨6,p,d,v,sq,ow⟩))→Calls Tryz.prog 133 #[.int .i64 c,.func (.func F) #[] caps] w0 (Maker True n B w s (Sta.doT s c ⟨6,p,d,v,sq,ow⟩))):=by
  exact m6z
 have HDd:Hid (∀ wx:World,Calls Tryz.prog 135 #[.agg #[.int .i64 6,.string p,.int .i64 d,.int .i64 v,.bool sq,.bool ow]] wx fun e w'=>e = .returned (.iface 252 (.agg #[.string p]))∧Ext wx w'):=fun wx=>deedOf_6 p d v sq ow wx
 have HLs:Hid (∀ wx:World,Ext w wx→Calls Tryz.prog 134 #[.int .i64 c,.iface 252 (.agg #[.string p])] wx (Maker (Ses.live s.ses c s.now=true) n B wx s (Sta.liveT s c ⟨6,p,d,v,sq,ow⟩))):=fun wx he=>liveStep_6 n B s c p d v sq ow wx  hr (hgd.ext he) hp
 clear hc hr hgd hp
 generalize Sta.doT s c ⟨6,p,d,v,sq,ow⟩=q at *
 generalize Sta.liveT s c ⟨6,p,d,v,sq,ow⟩=ql at *
 exact m5z
set_option maxHeartbeats 1000000 in
set_option maxRecDepth 100000 in
theorem stepOf_7 (n B:Nat) (s:Stt) (c:Int) (p:ByteArray) (d v:Int) (sq ow:Bool) (w:World) (hc:1≤c∧c≤9) (hr:Sta.right s) (hgd:Gd w) (hp:Pth.faultI p.data.toList=0) :
  Calls Tryz.prog 61 #[.int .i64 c,oagg ⟨7,p,d,v,sq,ow⟩] w (Maker True n B w s (Sta.doT s c ⟨7,p,d,v,sq,ow⟩)):=by
 have HM:Hid (∀ (F:FuncId) (caps:Array Value) (w0:World),Ext w w0→(∀ (args:Array Value) (W:World),(callFunc F args).run Tryz.prog W = .ok (.enter F args) W)→(Ses.live s.ses c s.now=true→Does n B F caps w0 s (Sta.liveT s c ⟨7,p,d,v,sq,ow⟩))→Calls Tryz.prog 133 #[.int .i64 c,.func (.func F) #[] caps] w0 (Maker True n B w s (Sta.doT s c ⟨7,p,d,v,sq,ow⟩))):=by
  exact m6z
 have HDd:Hid (∀ wx:World,Calls Tryz.prog 135 #[.agg #[.int .i64 7,.string p,.int .i64 d,.int .i64 v,.bool sq,.bool ow]] wx fun e w'=>e = .returned (.iface 254 (.agg #[.string p]))∧Ext wx w'):=fun wx=>deedOf_7 p d v sq ow wx
 have HLs:Hid (∀ wx:World,Ext w wx→Calls Tryz.prog 134 #[.int .i64 c,.iface 254 (.agg #[.string p])] wx (Maker (Ses.live s.ses c s.now=true) n B wx s (Sta.liveT s c ⟨7,p,d,v,sq,ow⟩))):=fun wx he=>liveStep_7 n B s c p d v sq ow wx  hr (hgd.ext he) hp
 clear hc hr hgd hp
 generalize Sta.doT s c ⟨7,p,d,v,sq,ow⟩=q at *
 generalize Sta.liveT s c ⟨7,p,d,v,sq,ow⟩=ql at *
 exact m5z
set_option maxHeartbeats 1000000 in
set_option maxRecDepth 100000 in
theorem stepOf_8 (n B:Nat) (s:Stt) (c:Int) (p:ByteArray) (d v:Int) (sq ow:Bool) (w:World) (hc:1≤c∧c≤9) (hr:Sta.right s) (hgd:Gd w) (hp:Pth.faultI p.data.toList=0) :
  Calls Tryz.prog 61 #[.int .i64 c,oagg ⟨8,p,d,v,sq,ow⟩] w (Maker True n B w s (Sta.doT s c ⟨8,p,d,v,sq,ow⟩)):=by
 have HM:Hid (∀ (F:FuncId) (caps:Array Value) (w0:World),Ext w w0→(∀ (args:Array Value) (W:World),(callFunc F args).run Tryz.prog W = .ok (.enter F args) W)→(Ses.live s.ses c s.now=true→Does n B F caps w0 s (Sta.liveT s c ⟨8,p,d,v,sq,ow⟩))→Calls Tryz.prog 133 #[.int .i64 c,.func (.func F) #[] caps] w0 (Maker True n B w s (Sta.doT s c ⟨8,p,d,v,sq,ow⟩))):=by
  exact m6z
 have HDd:Hid (∀ wx:World,Calls Tryz.prog 135 #[.agg #[.int .i64 8,.string p,.int .i64 d,.int .i64 v,.bool sq,.bool ow]] wx fun e w'=>e = .returned (.iface 256 (.agg #[.string p,.int .i64 v]))∧Ext wx w'):=fun wx=>deedOf_8 p d v sq ow wx
 have HLs:Hid (∀ wx:World,Ext w wx→Calls Tryz.prog 134 #[.int .i64 c,.iface 256 (.agg #[.string p,.int .i64 v])] wx (Maker (Ses.live s.ses c s.now=true) n B wx s (Sta.liveT s c ⟨8,p,d,v,sq,ow⟩))):=fun wx he=>liveStep_8 n B s c p d v sq ow wx  hr (hgd.ext he) hp
 clear hc hr hgd hp
 generalize Sta.doT s c ⟨8,p,d,v,sq,ow⟩=q at *
 generalize Sta.liveT s c ⟨8,p,d,v,sq,ow⟩=ql at *
 exact m5z
theorem stepOf_any (n B:Nat) (s:Stt) (c:Int) (z:Opn) (w:World) (hz:Opr.fault z=0) (hc:1≤c∧c≤9) (hr:Sta.right s) (hgd:Gd w) (hn:n≤w.heap.size) :
  Calls Tryz.prog 61 #[.int .i64 c,oagg z] w (Maker True n B w s (Sta.doT s c z)):=by
 obtain⟨h1,h8⟩:=Sta.kind_of hz
 have hp:3≤z.kind→Pth.faultI z.path.data.toList=0:=fun h=>(Sta.path_zero hz h).2
 obtain⟨k,p,d,v,sq,ow⟩:=z
 simp only at h1 h8 hp
 obtain rfl | rfl | rfl | rfl | rfl | rfl | rfl | rfl:k=1∨k=2∨k=3∨k=4∨k=5∨k=6∨k=7∨k=8:=by omega
 ·exact stepOf_1 n B s c p d v sq ow w hc hr hn
 ·exact stepOf_2 n B s c p d v sq ow w hc hr hgd hn
 ·exact stepOf_3 n B s c p d v sq ow w hc hr hgd hn (hp (by omega))
 ·exact stepOf_4 n B s c p d v sq ow w hc hr hgd hn (hp (by omega))
 ·exact stepOf_5 n B s c p d v sq ow w hc hr hgd hn (hp (by omega))
 ·exact stepOf_6 n B s c p d v sq ow w hc hr hgd (hp (by omega))
 ·exact stepOf_7 n B s c p d v sq ow w hc hr hgd (hp (by omega))
 ·exact stepOf_8 n B s c p d v sq ow w hc hr hgd (hp (by omega))
end Go.Proofs.YtpdejinkmnhioaaGreatDoor
namespace Go.Proofs.YtpdejinkmnhioaaGreatDoor
open Go.RowKit
set_option linter.unusedSimpArgs false in
set_option maxHeartbeats 400000 in
set_option maxRecDepth 100000 in
theorem whole1_idle (R F P:Nat) (w:World) (h0:w.cell? ⟨R,0,none⟩=some (.int .i64 0)) :
  CallsD Tryz.prog 131 #[.pointer (some ⟨R,0,none⟩),.pointer (some ⟨F,0,none⟩),.pointer (some ⟨P,0,none⟩)] .returning w fun e u' w'=>e = .returned (.tuple #[])∧u' = .returning∧w'=w:=by
 exact m70z
set_option linter.unusedSimpArgs false in
set_option maxHeartbeats 400000 in
set_option maxRecDepth 100000 in
theorem whole1_back (R F P B:Nat) (c now:Int) (an ae am:Option Addr) (n1 c1 n2 c2 n3 c3:Nat) (u0 u1 u2 u3:Value) (w:World) (h0:w.cell? ⟨R,0,none⟩=some (.int .i64 c)) (hc:¬ c=0) (hP:w.cell? ⟨P,0,none⟩=some (.pointer (some ⟨B,0,none⟩)))
  (hF:w.cell? ⟨F,0,none⟩=some (.slice an n1 c1)∧w.cell? ⟨F,1,none⟩=some (.slice ae n2 c2)∧w.cell? ⟨F,2,none⟩=some (.int .i64 now)∧w.cell? ⟨F,3,none⟩=some (.slice am n3 c3)) (hB:SBoxAt w B u0 u1 u2 u3) :
  CallsD Tryz.prog 131 #[.pointer (some ⟨R,0,none⟩),.pointer (some ⟨F,0,none⟩),.pointer (some ⟨P,0,none⟩)] .returning w fun e u' w'=>e = .returned (.tuple #[])∧u' = .returning∧w'=(((w.setCell ⟨B,0,none⟩ (.slice an n1 c1)).setCell ⟨B,1,none⟩ (.slice ae n2 c2)).setCell ⟨B,2,none⟩ (.int .i64 now)).setCell ⟨B,3,none⟩ (.slice am n3 c3):=by
 obtain⟨f0,f1,f2,f3⟩:=hF
 obtain⟨q0,⟨b0,b1,b2,b3⟩,l0,l1,l2,l3⟩:=hB
 exact m70z
end Go.Proofs.YtpdejinkmnhioaaGreatDoor
namespace Go.Proofs.YtpdejinkmnhioaaGreatDoor
open Go.RowKit
/-- What comes of a step that is done whole or not at all: the state that came of it lies in the box, whatever it told. -/
def Whole (n B:Nat) (K:Nat→Prop) (w:World) (q:Ry × Stt) (e:Ending) (w' : World):Prop :=
 e = .returned (yagg q.1.code q.1.value q.1.path)∧Upd B w w'∧StAt n B (fun b=>b < w.heap.size∧K b) w' q.2∧w'.cell? ⟨B,3,none⟩=w.cell? ⟨B,3,none⟩
theorem SBoxAt.put4 {w:World} {B:Nat} {u0 u1 u2 u3 v0 v1 v2 v3:Value} (h:SBoxAt w B u0 u1 u2 u3):SBoxAt ((((w.setCell ⟨B,0,none⟩ v0).setCell ⟨B,1,none⟩ v1).setCell ⟨B,2,none⟩ v2).setCell ⟨B,3,none⟩ v3) B v0 v1 v2 v3:=(((h.set0 v0).set1 v1).set2 v2).set3 v3
set_option linter.unusedSimpArgs false in
set_option maxHeartbeats 2000000 in
set_option maxRecDepth 100000 in
theorem doWhole_any (n B:Nat) (K:Nat→Prop) (s:Stt) (q:Ry × Stt) (F:FuncId) (caps:Array Value) (w:World) (hA:StAt n B K w s) (hKB:K B) (hF:∀ (args:Array Value) (W:World),(callFunc F args).run Tryz.prog W = .ok (.enter F args) W) (hDo:Does n B F caps w s q) (hqs:¬ q.1.code=0→q.2=s) :
  Calls Tryz.prog 60 #[.pointer (some ⟨B,0,none⟩),.func (.func F) #[] caps] w (Whole n B K w q):=by
 refine n24z ?_
 intro hmf
 have HA:Hid (StAt n B K w s):=hA
 have hBl:=hA.lt
 have HDo:Hid (∀ wx,Ext w wx→Calls Tryz.prog F (#[.pointer (some ⟨B,0,none⟩)] ++ caps) wx (Step n B (fun b=>(b < w.heap.size∧K b)∨(w.heap.size≤b∧b < w.heap.size+3)) wx q)):=fun wx he =>
  hDo wx _ he ((hA.turn (fun b hb h=>(h.resolve_right (by omega)).2)).ext he) (Or.inl ⟨hBl,hKB⟩)
 obtain⟨vn,vs,vm,hX,hH⟩:=hA
 obtain⟨⟨an,cn,rfl⟩,⟨ae,ce,rfl⟩,⟨am,cm,rfl⟩⟩:=And.intro hH.slice.1.vis (And.intro hH.slice.2.1.vis hH.slice.2.2.vis)
 have HX:Hid (SBoxAt w B (.slice an s.nodes.length cn) (.slice ae s.ses.length ce) (.int .i64 s.now) (.slice am s.marks.length cm)):=hX
 have HH:Hid (SHas n K w (.slice an s.nodes.length cn) (.slice ae s.ses.length ce) (.slice am s.marks.length cm) s):=hH
 have HQ:Hid (¬ q.1.code=0→q.2=s):=hqs
 obtain⟨q0,⟨b0,b1,b2,b3⟩,l0,l1,l2,l3⟩:=hX
 have Y0:Hid (∀ t1 t2 t3,RyAt (((w.alloc (.cells #[.pointer (some ⟨B,0,none⟩)] t1)).alloc (.cells #[.int .i64 0,.int .i64 0,.string ⟨#[]⟩] t2)).alloc (.cells #[.slice an s.nodes.length cn,.slice ae s.ses.length ce,.int .i64 s.now,.slice am s.marks.length cm] t3)) (w.heap.size+1) (.int .i64 0) (.int .i64 0) (.string ByteArray.empty)):=fun t1 t2 t3=>by
  have h:=(ry_new (w.alloc (.cells #[.pointer (some ⟨B,0,none⟩)] t1)) (.int .i64 0) (.int .i64 0) (.string ⟨#[]⟩) t2).ext ((Ext.refl _).alloc (.cells #[.slice an s.nodes.length cn,.slice ae s.ses.length ce,.int .i64 s.now,.slice am s.marks.length cm] t3))
  simp only [World.size_alloc] at h
  exact h
 have Y1:Hid (∀ t1 t2 t3,(((w.alloc (.cells #[.pointer (some ⟨B,0,none⟩)] t1)).alloc (.cells #[.int .i64 0,.int .i64 0,.string ⟨#[]⟩] t2)).alloc (.cells #[.slice an s.nodes.length cn,.slice ae s.ses.length ce,.int .i64 s.now,.slice am s.marks.length cm] t3)).cell? ⟨w.heap.size,0,none⟩=some (.pointer (some ⟨B,0,none⟩))):=fun t1 t2 t3=>by
  rw [alloc_cell _ _ _ _ (by simp only [World.size_alloc];omega),alloc_cell _ _ _ _ (by simp only [World.size_alloc];omega)];simp
 have Y2:Hid (∀ t1 t2 t3,SBoxAt (((w.alloc (.cells #[.pointer (some ⟨B,0,none⟩)] t1)).alloc (.cells #[.int .i64 0,.int .i64 0,.string ⟨#[]⟩] t2)).alloc (.cells #[.slice an s.nodes.length cn,.slice ae s.ses.length ce,.int .i64 s.now,.slice am s.marks.length cm] t3)) (w.heap.size+2) (.slice an s.nodes.length cn) (.slice ae s.ses.length ce) (.int .i64 s.now) (.slice am s.marks.length cm)):=fun t1 t2 t3=>by
  have h:=sbox_new ((w.alloc (.cells #[.pointer (some ⟨B,0,none⟩)] t1)).alloc (.cells #[.int .i64 0,.int .i64 0,.string ⟨#[]⟩] t2)) (.slice an s.nodes.length cn) (.slice ae s.ses.length ce) (.int .i64 s.now) (.slice am s.marks.length cm) t3
  simp only [World.size_alloc] at h
  exact h
 have hal:=alloc_cell
 clear hH hDo hqs
 go_enter_defers Tryz.func60,Tryz.ntmps60
 go_wp2_with fail
 refine (HDo.out _ ((((Ext.refl w).alloc _).alloc _).alloc _)).mono ?_
 intro e w4 hst
 obtain⟨rfl,hU,⟨v0,v1,v2,v3,hbx,hm3⟩,hz⟩:=hst
 have hv3:v3 = .slice am s.marks.length cm:=by
  have h9:=hm3.symm.trans (((Ext.cell ((((Ext.refl w).alloc _).alloc _).alloc _)).1 _ _ hBl).trans HX.out.2.1.2.2.2)
  injection h9
 subst hv3
 clear hm3
 have hs4:=hU.2.1
 simp only [World.size_alloc] at hs4
 have R4:Hid (RyAt w4 (w.heap.size+1) (.int .i64 0) (.int .i64 0) (.string ByteArray.empty)):=by
  obtain⟨h1,⟨c0,c1,c2⟩,f0,f1,f2⟩:=Y0.out _ _ _
  have hn0:=fun o=>hU.at_ne (w.heap.size+1) o (by omega) h1
  exact⟨by show _ < _;omega,⟨(hn0 0).1.trans c0,(hn0 1).1.trans c1,(hn0 2).1.trans c2⟩,(hn0 0).2.trans f0,(hn0 1).2.trans f1,(hn0 2).2.trans f2⟩
 have P4:Hid (w4.cell? ⟨w.heap.size,0,none⟩=some (.pointer (some ⟨B,0,none⟩))):=(hU.at_ne w.heap.size 0 (by omega) (by simp only [World.size_alloc];omega)).1.trans (Y1.out _ _ _)
 have F4:Hid (w4.cell? ⟨w.heap.size+2,0,none⟩=some (.slice an s.nodes.length cn)∧w4.cell? ⟨w.heap.size+2,1,none⟩=some (.slice ae s.ses.length ce)∧w4.cell? ⟨w.heap.size+2,2,none⟩=some (.int .i64 s.now)∧w4.cell? ⟨w.heap.size+2,3,none⟩=some (.slice am s.marks.length cm)):=by
  obtain⟨h1,⟨c0,c1,c2,c3⟩,-⟩:=Y2.out _ _ _
  have hn0:=fun o=>hU.at_ne (w.heap.size+2) o (by omega) h1
  exact⟨(hn0 0).1.trans c0,(hn0 1).1.trans c1,(hn0 2).1.trans c2,(hn0 3).1.trans c3⟩
 have U4:Hid (Upd B w w4):=(Upd.ext ((((Ext.refl w).alloc _).alloc _).alloc _) (by omega)).trans hU
 have B4:Hid (SBoxAt w4 B v0 v1 v2 (.slice am s.marks.length cm)):=hbx
 have Z4:Hid (q.1.code=0→StAt n B (fun b=>(b < w.heap.size∧K b)∨(w.heap.size≤b∧b < w.heap.size+3)) w4 q.2):=fun h=>(hz h).turn fun b hb h=>⟨by rcases h with ⟨h,-⟩ | ⟨-,h⟩ <;> (simp only [World.size_alloc];omega),h⟩
 clear hU hbx hz hs4
 unfold yagg
 obtain⟨p0,⟨d0,d1,d2⟩,m0,m1,m2⟩:=R4.out
 go_wp2
 have hry:=ry_put (x:=.int .i64 q.1.code) (y:=.int .i64 q.1.value) (z:=.string q.1.path) R4.out
 have hp4:(put3R w4 (w.heap.size+1) (.int .i64 q.1.code) (.int .i64 q.1.value) (.string q.1.path)).cell? ⟨w.heap.size,0,none⟩=some (.pointer (some ⟨B,0,none⟩)):=by unfold put3R;rw [iset_ne _ _ _ _ _ _ (Or.inl (by omega)),iset_ne _ _ _ _ _ _ (Or.inl (by omega)),iset_ne _ _ _ _ _ _ (Or.inl (by omega))];exact P4.out
 have hf4:∀ o v,w4.cell? ⟨w.heap.size+2,o,none⟩=some v→(put3R w4 (w.heap.size+1) (.int .i64 q.1.code) (.int .i64 q.1.value) (.string q.1.path)).cell? ⟨w.heap.size+2,o,none⟩=some v:=by intro o v h;unfold put3R;rw [iset_ne _ _ _ _ _ _ (Or.inl (by omega)),iset_ne _ _ _ _ _ _ (Or.inl (by omega)),iset_ne _ _ _ _ _ _ (Or.inl (by omega))];exact h
 have hb5:SBoxAt (put3R w4 (w.heap.size+1) (.int .i64 q.1.code) (.int .i64 q.1.value) (.string q.1.path)) B v0 v1 v2 (.slice am s.marks.length cm):=B4.out.put3R (by omega)
 have hU5:Upd B w (put3R w4 (w.heap.size+1) (.int .i64 q.1.code) (.int .i64 q.1.value) (.string q.1.path)):=U4.out.put3R (by omega) (by omega)
 have hF5:(put3R w4 (w.heap.size+1) (.int .i64 q.1.code) (.int .i64 q.1.value) (.string q.1.path)).cell? ⟨w.heap.size+2,0,none⟩=some (.slice an s.nodes.length cn)∧_∧_∧_:=⟨hf4 0 _ F4.out.1,hf4 1 _ F4.out.2.1,hf4 2 _ F4.out.2.2.1,hf4 3 _ F4.out.2.2.2⟩
 have hZ5:q.1.code=0→StAt n B (fun b=>b < w.heap.size∧K b) (put3R w4 (w.heap.size+1) (.int .i64 q.1.code) (.int .i64 q.1.value) (.string q.1.path)) q.2:=fun h=>by
  obtain⟨un,us,um,hx,hh⟩:=Z4.out h
  exact⟨un,us,um,hx.put3R (by omega),(hh.put3R (R:=w.heap.size+1) (Or.inr ⟨by omega,by omega⟩)).turn fun b _ h=>Or.inl h⟩
 have hS5:SHas n (fun b=>b < w.heap.size∧K b) (put3R w4 (w.heap.size+1) (.int .i64 q.1.code) (.int .i64 q.1.value) (.string q.1.path)) (.slice an s.nodes.length cn) (.slice ae s.ses.length ce) (.slice am s.marks.length cm) s:=(HH.out.turn fun b _ h=>h.2).upd hU5 ⟨hBl,hKB⟩
 unfold put3R at hry
 change (w4.setCell _ _ |>.setCell _ _ |>.setCell _ _).cell? _=_∧_∧_ at hry
 obtain⟨y0,y1,y2⟩:=hry
 refine leaves_cons (f:=131) (args:=#[.pointer (some ⟨w.heap.size+1,0,none⟩),.pointer (some ⟨w.heap.size+2,0,none⟩),.pointer (some ⟨w.heap.size,0,none⟩)]) (by simp) (by simp [go_sem]) ?_
 by_cases hc:q.1.code=0
 ·refine (whole1_idle _ _ _ _ (by rw [y0,hc])).mono ?_
  rintro e u' w9 ⟨rfl,rfl,hw⟩
  show Leaves _ _ _ _ [] .returning _
  refine⟨yagg q.1.code q.1.value q.1.path,by rw [hw];simp [results,Tryz.results60,go_sem,yagg,y0,y1,y2],rfl,?_,?_,?_⟩
  ·rw [hw];exact hU5
  ·rw [hw];exact hZ5 hc
  ·rw [hw,HX.out.2.1.2.2.2];exact hb5.2.1.2.2.2
 ·refine (whole1_back _ _ _ B _ s.now an ae am _ _ _ _ _ _ v0 v1 v2 _ _ y0 hc hp4 hF5 hb5).mono ?_
  rintro e u' w9 ⟨rfl,rfl,hw⟩
  show Leaves _ _ _ _ [] .returning _
  have z0:∀ o,w9.cell? ⟨w.heap.size+1,o,none⟩=(put3R w4 (w.heap.size+1) (.int .i64 q.1.code) (.int .i64 q.1.value) (.string q.1.path)).cell? ⟨w.heap.size+1,o,none⟩:=by
   intro o;rw [hw,iset_ne _ _ _ _ _ _ (Or.inl (by omega)),iset_ne _ _ _ _ _ _ (Or.inl (by omega)),iset_ne _ _ _ _ _ _ (Or.inl (by omega)),iset_ne _ _ _ _ _ _ (Or.inl (by omega))];rfl
  have z1:=(z0 0).trans y0
  have z2:=(z0 1).trans y1
  have z3:=(z0 2).trans y2
  refine⟨yagg q.1.code q.1.value q.1.path,by simp [results,Tryz.results60,go_sem,yagg,z1,z2,z3],rfl,?_,?_,?_⟩
  ·rw [hw];exact (((hU5.setAt 0 _).setAt 1 _).setAt 2 _).setAt 3 _
  ·rw [HQ.out hc,hw]
   exact⟨_,_,_,hb5.put4,hS5.upd ((((Upd.refl B _).setAt 0 _).setAt 1 _).setAt 2 _ |>.setAt 3 _) ⟨hBl,hKB⟩⟩
  ·rw [hw,HX.out.2.1.2.2.2];exact hb5.put4.2.1.2.2.2
end Go.Proofs.YtpdejinkmnhioaaGreatDoor
namespace Go.Proofs.YtpdejinkmnhioaaGreatDoor
open Go.RowKit
theorem bytes_ne {p:ByteArray} (h:¬ p=⟨#[]⟩):(p.toList == ([]:List UInt8))=false:=by
 rw [Lib.toList_data]
 simp only [beq_eq_false_iff_ne,ne_eq]
 intro e
 exact h (ba_eq e)
def OBoxAt (w:World) (b:Nat) (z:Opn):Prop:=b < w.heap.size∧w.cell? ⟨b,0,none⟩=some (.int .i64 z.kind)∧w.cell? ⟨b,1,none⟩=some (.string z.path)∧w.cell? ⟨b,2,none⟩=some (.int .i64 z.data)∧w.cell? ⟨b,3,none⟩=some (.int .i64 z.version)∧w.cell? ⟨b,4,none⟩=some (.bool z.seq)∧w.cell? ⟨b,5,none⟩=some (.bool z.own)
theorem OBoxAt.ext {w w' : World} {b:Nat} {z:Opn} (h:OBoxAt w b z) (he:Ext w w'):OBoxAt w' b z:=by
 obtain⟨hb,c0,c1,c2,c3,c4,c5⟩:=h
 obtain⟨hc,_⟩:=Ext.cell he
 exact⟨Nat.lt_of_lt_of_le hb he.size,(hc _ _ hb).trans c0,(hc _ _ hb).trans c1,(hc _ _ hb).trans c2,(hc _ _ hb).trans c3,(hc _ _ hb).trans c4,(hc _ _ hb).trans c5⟩
theorem obox_new (w:World) (z:Opn) (t:TypeId):OBoxAt (w.alloc (.cells #[.int .i64 z.kind,.string z.path,.int .i64 z.data,.int .i64 z.version,.bool z.seq,.bool z.own] t)) w.heap.size z:=⟨by simp,by simp,by simp,by simp,by simp,by simp,by simp⟩
set_option maxHeartbeats 1000000 in
theorem isOfSession_any (z:Opn) (w:World):Calls Tryz.prog 126 #[oagg z] w fun e w'=>e = .returned (.bool (decide (z.kind=1) || decide (z.kind=2)))∧Ext w w':=by
 unfold oagg
 by_cases h1:z.kind=1
 ·go_enter Tryz.func126,Tryz.ntmps126
  go_wp2
  go_ret
  exact⟨ret_bool (by simp [h1]),(Ext.refl _).alloc _⟩
 ·by_cases h2:z.kind=2
  ·go_enter Tryz.func126,Tryz.ntmps126
   go_wp2
   go_ret
   exact⟨ret_bool (by simp [h2]),(Ext.refl _).alloc _⟩
  ·go_enter Tryz.func126,Tryz.ntmps126
   go_wp2
   go_ret
   exact⟨ret_bool (by simp [h1,h2]),(Ext.refl _).alloc _⟩
end Go.Proofs.YtpdejinkmnhioaaGreatDoor
