/- T7, S6, in one text. -/
import Derived.Test.YtpdejinkmnhioaaGreatDoorAoJ11
import Derived.Test.YtpdejinkmnhioaaGreatDoorAoJ8
import Derived.Deep.RegionLaw
import Derived.Test.YtpdejinkmnhioaaGreatDoorAoJ0
import Derived.Test.YtpdejinkmnhioaaGreatDoorAoJ4
import Derived.Test.YtpdejinkmnhioaaGreatDoorAoMk
namespace Go.Proofs.YtpdejinkmnhioaaGreatDoor
open Go.RowKit
namespace Tre
def putT (zs:List Zn) (z:Zn):List Zn:=zs.take (cut zs (key z)) ++ z :: zs.drop (cut zs (key z))
theorem less_path (y z:Zn):Op.bytesLess y.path.toList z.path.toList=decide (key y < key z):=by
 unfold key;rw [less_eq,Lib.toList_data,Lib.toList_data]
end Tre
theorem cells_new (w:World) (z:Zn) (t:TypeId):∀ j u,(cellsZ [z])[j]?=some u→(w.alloc (.cells #[.string z.path,.int .i64 z.data,.int .i64 z.version,.int .i64 z.owner,.int .i64 z.next] t)).cell? ((⟨w.heap.size,0,none⟩:Addr).add j)=some u:=by
 intro j u hu
 have hj:=(List.getElem?_eq_some_iff.1 hu).1
 have hl:(cellsZ [z]).length=5:=rfl
 have h5:j=0∨j=1∨j=2∨j=3∨j=4:=by omega
 rw [Addr.add_lit]
 rcases h5 with rfl | rfl | rfl | rfl | rfl <;> simp [cellsZ,zcells] at hu <;> subst hu <;> simp
/-- The node z was laid behind w, and nothing up to it has turned since. -/
def Boxd (w wx:World) (z:Zn):Prop:=Below (w.heap.size+1) (w.alloc (.cells #[.string z.path,.int .i64 z.data,.int .i64 z.version,.int .i64 z.owner,.int .i64 z.next] 144)) wx
theorem Boxd.new (w:World) (z:Zn):Boxd w (w.alloc (.cells #[.string z.path,.int .i64 z.data,.int .i64 z.version,.int .i64 z.owner,.int .i64 z.next] 144)) z:=Below.refl _ _
theorem Boxd.ext {w wx:World} {z:Zn} (h:Boxd w wx z):Ext w wx:=((Ext.refl w).alloc _).trans (Below.mono h (by simp))
theorem Boxd.drew {w wx:World} {z:Zn} (h:Boxd w wx z):Boxd w wx.drew z:=Below.drew h
theorem Boxd.alloc {w wx:World} {z:Zn} (h:Boxd w wx z) (o:Obj):Boxd w (wx.alloc o) z:=Below.alloc h (by have:=Below.size h;simpa using this) o
theorem Boxd.size {w wx:World} {z:Zn} (h:Boxd w wx z):w.heap.size+1≤wx.heap.size:=by have:=Below.size h;simpa using this
theorem Boxd.grown {w wx wy:World} {z:Zn} {row:Option Nat} (h:Boxd w wx z) (hg:wx.grownBy wy row) (hr:∀ q,row=some q→w.heap.size+1≤q):Boxd w wy z:=Below.grown h hg h.size hr
theorem Boxd.cells {w wx:World} {z:Zn} (h:Boxd w wx z):wx.cell? ⟨w.heap.size,0,none⟩=some (.string z.path)∧wx.cell? ⟨w.heap.size,1,none⟩=some (.int .i64 z.data)∧wx.cell? ⟨w.heap.size,2,none⟩=some (.int .i64 z.version)∧wx.cell? ⟨w.heap.size,3,none⟩=some (.int .i64 z.owner)∧wx.cell? ⟨w.heap.size,4,none⟩=some (.int .i64 z.next):=by
 have hc:=fun r=>Below.cell h (p:=⟨w.heap.size,r,none⟩) (by show w.heap.size < _;omega)
 exact⟨(hc 0).trans (by simp),(hc 1).trans (by simp),(hc 2).trans (by simp),(hc 3).trans (by simp),(hc 4).trans (by simp)⟩
theorem step_append_own {P:Program} (w:World) {ops:Array Oper} {o:Oper} {a:Act} {K:Act→World→Prop} {Q:Exit→Act→World→Prop} {E:Prop} (hgd:o.guard=none) (s x:Operand) (t:TypeId)
  (ho:o.op = .call { callee:=.builtin .append,args:=#[s,x],argTypes:=#[t,t] })
  (base:Nat) (e:TypeId) (i:TypeInfo) (z:Value) (size bytes:Nat) (ht:P.underlying t=some (.slice e)) (hi:P.info? e=some i) (hz:i.zero=some z)
  (hsize:i.size=size) (hby:i.bytes=bytes) (hzs:z.cells.size=size) (hsz:0 < size)
  (v:Value) (n:Nat) (xs:List Value) (hs:a.eval s=v) (hown:w.ownsRow base e size v n xs)
  (ad:Addr) (m c:Nat) (news:List Value) (hx:a.eval x = .slice (some ad) m c) (hl:news.length=m * size) (hnews:∀ j u,news[j]?=some u→w.cell? (ad.add j)=some u) (h1:∀ u ∈ news,u.oneCell'=true)
  (h63:n+m≤maxLen) (hbytes:(n+m) * bytes≤140737488355328) (hbase:base≤w.heap.size)
  (h:∀ v' w',w'.ownsRow base e size v' (n+m) (xs ++ news)→w.grownBy w' v.ownBlock→(v' = .slice none 0 0↔v = .slice none 0 0∧m=0)→K (a.put o.dst v') w') :
  if Region.wanted o (yielded ops a.tmps)=true then Oper.wp P o a w K Q else E:=by
 have hw:Region.wanted o (yielded ops a.tmps)=true:=by simp [Region.wanted,hgd]
 rw [if_pos hw]
 exact wp_append_own w s x t ho base e i z size bytes ht hi hz hsize hby hzs hsz v n xs hs hown ad m c news hx hl hnews h1 h63 hbytes hbase h
set_option maxHeartbeats 4000000 in
set_option maxRecDepth 100000 in
theorem l2Put_any (b off cap:Nat) (zs:List Zn) (z:Zn) (w:World) (hS:NSlice w (.slice (some ⟨b,off,none⟩) zs.length cap) zs) (hl:zs.length≤1000000) (hp:0 < zs.length) :
  Calls Tryz.prog 182 #[.slice (some ⟨b,off,none⟩) zs.length cap,zagg z] w fun e w'=>∃ v' g,e = .returned v'∧w.heap.size≤g∧Own w' v' g (Tre.putT zs z)∧Ext w w':=by
 refine n21z ?_
 intro hi9
 obtain⟨i0,hi,hx9⟩:=Option.map_eq_some_iff.1 hi9
 simp only [Prod.mk.injEq] at hx9
 obtain⟨hz0,hz1,hz2⟩:=hx9
 clear hi9
 obtain⟨a',cap',he,hlc,hcm,hx⟩:=hS
 injection he with e1 _ e3
 subst e1 e3
 obtain⟨b',off',he,hb,hN⟩:=hx hp
 injection he with he
 injection he with e1 e2 _
 subst e1 e2
 have HN:Hid (b < w.heap.size∧NodesAt w b off zs):=⟨hb,hN⟩
 generalize hR:Tre.putT zs z=rs
 have HR:Hid (Tre.putT zs z=rs):=hR
 clear hx hN hR
 unfold maxLen at hcm
 unfold zagg
 go_enter Tryz.func182,Tryz.ntmps182
 go_wp2
 go_loopw [5] (fun i wr=>∃ (k:Nat),k≤zs.length∧i = .int .i64 k∧Hid (∀ (j:Nat) y,j < k→zs[j]?=some y→Tre.key y < Tre.key z)∧Hid (Boxd w wr z)) (fun i _=>zs.length - (intOf i).toNat)
 case atStart=>exact⟨0,Nat.zero_le _,rfl,fun j y h=>by omega,Boxd.new w z⟩
 case round =>
  obtain⟨k,hk,rfl,HA,HE⟩:=hrel
  obtain⟨c0,-,-,-,-⟩:=HE.out.cells
  by_cases hlt:k < zs.length
  ·obtain⟨y,hyk⟩:∃ y,zs[k]?=some y:=⟨_,List.getElem?_eq_getElem hlt⟩
   obtain⟨d0,-,-,-,-⟩:=HN.out.2.ext HN.out.1 HE.out.ext k y hyk
   have HY:Hid (zs[k]?=some y):=hyk
   clear hyk
   by_cases hyz:Tre.key y < Tre.key z
   ·have hbl:Op.bytesLess y.path.toList z.path.toList=true:=by rw [Tre.less_path];exact decide_eq_true hyz
    have HA2:Hid (∀ (j:Nat) x,j < k+1→zs[j]?=some x→Tre.key x < Tre.key z):=by
     intro j x hj hx
     by_cases hjk:j=k
     ·subst hjk;rw [HY.out] at hx;cases hx;exact hyz
     ·exact HA.out j x (by omega) hx
    clear hyz
    go_wp2
    go_region
    all_goals go_wp2
    exact⟨⟨k+1,by omega,by go_num,HA2,HE.out.drew⟩,by simp [intOf];omega⟩
   ·have hbl:Op.bytesLess y.path.toList z.path.toList=false:=by rw [Tre.less_path];exact decide_eq_false hyz
    have HC:Hid (Tre.cut zs (Tre.key z)=k):=Tre.cut_eq hk HA.out (fun x hx=>by rw [HY.out] at hx;cases hx;exact hyz)
    clear hyz
    go_wp2
    go_region
    generalize hw1:wr.drew=w1
    have HE1:Hid (Boxd w w1 z):=by show Boxd _ _ _;rw [← hw1];exact HE.out.drew
    clear hw1 d0 c0 hbl HE
    exact m7z
  ·have HC:Hid (Tre.cut zs (Tre.key z)=k):=Tre.cut_eq hk HA.out (fun x hx=>by have:=(List.getElem?_eq_some_iff.1 hx).1;omega)
   go_wp2
   go_region
   generalize hw1:wr.drew=w1
   have HE1:Hid (Boxd w w1 z):=by show Boxd _ _ _;rw [← hw1];exact HE.out.drew
   clear hw1 c0 HE
   exact m7z
end Go.Proofs.YtpdejinkmnhioaaGreatDoor
namespace Go.Proofs.YtpdejinkmnhioaaGreatDoor
open Go.RowKit
def dig (d:Int):ByteArray:=mkB [UInt8.ofNat (48+d.toNat)]
set_option maxHeartbeats 1000000 in
set_option maxRecDepth 100000 in
theorem l1Digits_digit (d:Int) (w:World) (h0:0≤d) (h9:d≤9) :
  Calls Tryz.prog 222 #[.int .i64 d] w fun e w'=>e = .returned (.string (dig d))∧Ext w w':=by
 have hcv:=conv_one
 have hd:d=0∨d=1∨d=2∨d=3∨d=4∨d=5∨d=6∨d=7∨d=8∨d=9:=by omega
 clear h0 h9
 rcases hd with rfl | rfl | rfl | rfl | rfl | rfl | rfl | rfl | rfl | rfl
 all_goals
  go_enter Tryz.func222,Tryz.ntmps222
  go_wp2
  go_ret
  exact⟨rfl,(Ext.refl _).alloc _⟩
theorem dig_size (d:Int):(dig d).size=1:=by
 show (mkB _).size=1
 rw [← len_eq,mkB_list];rfl
theorem seq_list (s:ByteArray) (n:Int) (h0:0≤n):(s ++ dig (n / 10) ++ dig (n % 10)).data.toList=Pth.seqd s.data.toList n.toNat:=by
 have e1:(n / 10).toNat=n.toNat / 10:=by omega
 have e2:(n % 10).toNat=n.toNat % 10:=by omega
 unfold Pth.seqd dig
 rw [e1,e2]
 simp [ByteArray.data_append,mkB]
set_option maxHeartbeats 1000000 in
theorem l1Seq_any (s:ByteArray) (n:Int) (w:World) (hs:s.size≤1048576) (h0:0≤n) (h9:n≤99) :
  Calls Tryz.prog 180 #[.string s,.int .i64 n] w fun e w'=>e = .returned (.string (s ++ dig (n / 10) ++ dig (n % 10)))∧Ext w w':=by
 have z1:=dig_size (n / 10)
 have z2:=dig_size (n % 10)
 go_enter Tryz.func180,Tryz.ntmps180
 go_wp2_with fail
 refine (l1Digits_digit (n / 10) _ (by omega) (by omega)).mono ?_
 rintro e w1 ⟨rfl,hb⟩
 have HB:Hid (Ext w w1):=hb
 clear hb
 go_wp2_with fail
 refine (l1Digits_digit (n % 10) _ (by omega) (by omega)).mono ?_
 rintro e w2 ⟨rfl,hb⟩
 go_wp2
 go_ret
 exact⟨rfl,HB.out.trans hb⟩
end Go.Proofs.YtpdejinkmnhioaaGreatDoor
