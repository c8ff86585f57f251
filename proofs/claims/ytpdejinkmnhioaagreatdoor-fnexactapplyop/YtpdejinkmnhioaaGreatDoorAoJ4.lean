/- Conv, Z3, N10, N11, Z4, Z5, N12, in one text. -/
import Derived.Test.YtpdejinkmnhioaaGreatDoorProg
import Derived.Test.YtpdejinkmnhioaaGreatDoorAoJ0
import Derived.Test.YtpdejinkmnhioaaGreatDoorAoJ3
import Derived.Test.YtpdejinkmnhioaaGreatDoorAoMk
namespace Go.Proofs.YtpdejinkmnhioaaGreatDoor
open Go.RowKit
theorem conv_one (w:World) (n:Int) :
  (convert 69 9 (.slice (some ⟨w.heap.size,0,none⟩) 1 1)).run Tryz.prog (w.alloc (.cells #[.int .u8 n] 5)) = .ok (.string (mkB [UInt8.ofNat n.toNat])) (w.alloc (.cells #[.int .u8 n] 5)):=by
 rw [run_convert_bytes_string _ _ _ 5 _ _ _ Tryz.underlying69 Tryz.underlying5 Tryz.underlying9]
 rw [run_bytesToString _ _ 1 1 [n] (by simp [loadCells,loadCellsFrom,Addr.add])]
 rfl
end Go.Proofs.YtpdejinkmnhioaaGreatDoor
namespace Go.Proofs.YtpdejinkmnhioaaGreatDoor
open Go.RowKit
def dgsF:Nat→Nat→List UInt8→List UInt8
 | 0,_,acc=>acc
 | f+1,n,acc=>if n=0 then acc else dgsF f (n / 10) ((48+UInt8.ofNat (n % 10)) :: acc)
/-- The text of a mark. -/
def mtext (k:Nat):ByteArray:=if k=0 then ⟨#[109,48]⟩ else (⟨#[109]⟩:ByteArray) ++ mkB (dgsF k k [])
theorem dgsF_zero (f:Nat) (acc:List UInt8):dgsF f 0 acc=acc:=by cases f <;> simp [dgsF]
theorem cat_mkB (x:UInt8) (s:ByteArray):mkB [x] ++ s=mkB (x :: s.data.toList):=by
 apply ba_eq;simp [mkB,ByteArray.data_append]
set_option maxHeartbeats 1000000 in
set_option maxRecDepth 100000 in
theorem markText_any (k:Nat) (w:World) (hk:k≤16777216) :
  Calls Tryz.prog 139 #[.int .i64 k] w fun e w'=>e = .returned (.string (mtext k))∧Ext w w':=by
 have hcv:=conv_one
 by_cases h0:k=0
 ·subst h0
  go_enter Tryz.func139,Tryz.ntmps139
  go_wp2
  go_ret
  exact⟨rfl,Ext.refl _⟩
 ·have HT:Hid (mtext k=(⟨#[109]⟩:ByteArray) ++ mkB (dgsF k k [])):=by show _=_;unfold mtext;rw [if_neg h0]
  go_enter Tryz.func139,Tryz.ntmps139
  go_wp2
  go_loopw [0,3] (fun kv ov wr=>∃ (n f:Nat) (s:ByteArray),kv = .int .i64 n∧ov = .string s∧n≤f∧n≤k∧s.size+n≤k∧Hid (dgsF f n s.data.toList=dgsF k k [])∧Hid (Ext w wr)) (fun kv _ _=>(intOf kv).toNat)
  case atStart=>exact⟨k,k,⟨#[]⟩,rfl,rfl,Nat.le_refl _,Nat.le_refl _,by show 0+k≤k;omega,rfl,Ext.refl _⟩
  case round =>
   obtain⟨n,f,s,rfl,rfl,hnf,hnk,hsn,HD,HE⟩:=hrel
   by_cases hn:0 < n
   ·obtain⟨f',rfl⟩:∃ f',f=f'+1:=⟨f - 1,by omega⟩
    have HD2:Hid (dgsF f' (n / 10) (mkB [48+UInt8.ofNat (n % 10)] ++ s).data.toList=dgsF k k []):=by
     show _=_
     rw [← HD.out,cat_mkB,mkB_list]
     conv=>rhs;rw [dgsF]
     rw [if_neg (by omega)]
    have hz:(mkB [48+UInt8.ofNat (n % 10)]).size=1:=by rw [← len_eq,mkB_list];rfl
    have hm0:0≤(n:Int) % 10:=by omega
    have hm1:(n:Int) % 10≤9:=by omega
    go_wp2
    exact⟨⟨n / 10,f',_,by go_num,rfl,by omega,by omega,by rw [ByteArray.size_append,hz];omega,HD2,HE.out.alloc _⟩,by simp [intOf];omega⟩
   ·have hn0:n=0:=by omega
    subst hn0
    go_wp2
    go_ret
    refine⟨?_,HE.out⟩
    rw [HT.out,← HD.out,dgsF_zero,← eq_mkB rfl]
    rfl
/-- The mark that begins with k. -/
def mz (k:Nat):Zn:=⟨mtext k,(k+1:Nat),(k+2:Nat),(k+3:Nat),(k+4:Nat)⟩
def marks (k n:Nat):List Zn:=(List.range n).map fun i=>mz (k+5 * i)
theorem marks_length (k n:Nat):(marks k n).length=n:=by simp [marks]
theorem marks_get (k n i:Nat) (h:i < n):(marks k n)[i]?=some (mz (k+5 * i)):=by
 unfold marks
 rw [List.getElem?_map,List.getElem?_range h];rfl
set_option maxHeartbeats 2000000 in
set_option maxRecDepth 100000 in
theorem markZnodeS_any (v:Value) (g:Nat) (zs:List Zn) (k:Nat) (w:World) (hO:Own w v g zs) (hk:k≤100) (hl:zs.length≤1048576) :
  Calls Tryz.prog 66 #[v,.int .i64 k] w fun e w'=>e = .returned (.int .i64 (k+5 * zs.length:Nat))∧Own w' v g (marks k zs.length)∧Upd g w w':=by
 obtain⟨a,cap,rfl,hlc,hcm,hx⟩:=hO
 have HX:Hid (0 < zs.length→∃ off,a=some ⟨g,off,none⟩∧Room w g off zs.length∧NodesAt w g off zs):=hx
 clear hx
 have hcm' : cap≤maxLen:=hcm
 have HC:Hid (cap≤maxLen):=hcm'
 clear hcm'
 unfold maxLen at hcm
 go_enter Tryz.func66,Tryz.ntmps66
 go_wp2
 go_loopw [1,5] (fun kv i wr=>∃ (j:Nat),j≤zs.length∧i = .int .i64 j∧kv = .int .i64 (k+5 * j:Nat)∧Hid (∀ off,a=some ⟨g,off,none⟩→0 < zs.length→Room wr g off zs.length∧NodesAt wr g off ((marks k zs.length).take j))∧Hid (Upd g w wr)) (fun _ i _=>zs.length - (intOf i).toNat)
 case atStart =>
  exact m31z
 case round =>
  obtain⟨j,hj,rfl,rfl,HR,HU⟩:=hrel
  by_cases hlt:j < zs.length
  ·obtain⟨off,rfl,_,_⟩:=HX.out (by omega)
   obtain⟨hr,hN⟩:=HR.out off rfl (by omega)
   obtain⟨kk,hkk⟩:∃ kk,kk=k+5 * j:=⟨_,rfl⟩
   have hkb:kk≤5242981:=by omega
   have HK:Hid (kk=k+5 * j):=hkk
   rw [← hkk]
   clear hkk
   have hmt:=markText_any kk wr (by omega)
   have HRR:Hid (Room wr g off zs.length):=hr
   have HNN:Hid (NodesAt wr g off ((marks k zs.length).take j)):=hN
   clear hr hN
   go_wp2_with fail
   refine hmt.mono ?_
   rintro e w2 ⟨rfl,hb2⟩
   clear hmt
   have HR2:Hid (Room w2 g off zs.length):=HRR.out.ext hb2
   have HN2:Hid (NodesAt w2 g off ((marks k zs.length).take j)):=HNN.out.ext HRR.out.1 hb2
   have HU2:Hid (Upd g w w2):=HU.out.trans (Upd.ext hb2 (by have:=HRR.out.1;omega))
   clear hb2
   obtain⟨⟨u0,r0⟩,f0⟩:=HR2.out.2 (j * 5) (by omega)
   obtain⟨⟨u1,r1⟩,f1⟩:=HR2.out.2 (j * 5+1) (by omega)
   obtain⟨⟨u2,r2⟩,f2⟩:=HR2.out.2 (j * 5+2) (by omega)
   obtain⟨⟨u3,r3⟩,f3⟩:=HR2.out.2 (j * 5+3) (by omega)
   obtain⟨⟨u4,r4⟩,f4⟩:=HR2.out.2 (j * 5+4) (by omega)
   rw [← Nat.add_assoc] at r1 r2 r3 r4 f1 f2 f3 f4
   have P1:Hid (Room (putZ w2 g (off+j * 5) (mz kk)) g off zs.length):=HR2.out.put (mz kk) hlt
   have P2:Hid (NodesAt (putZ w2 g (off+j * 5) (mz kk)) g off ((marks k zs.length).take (j+1))):=NodesAt.put HR2.out hlt (by rw [marks_get _ _ _ hlt,← HK.out]) HN2.out
   have P3:Hid (Upd g w (putZ w2 g (off+j * 5) (mz kk))):=upd_putZ HU2.out _ _
   go_wp2
   refine⟨⟨j+1,by omega,by go_num,by rw [show k+5 * (j+1)=kk+5 from by rw [HK.out];omega];go_num,?_,P3.out⟩,by simp [intOf];omega⟩
   intro off' ho _
   simp only [Option.some.injEq,Addr.mk.injEq,true_and,and_true] at ho
   subst ho
   exact⟨P1.out,P2.out⟩
  ·have hje:j=zs.length:=by omega
   subst hje
   go_wp2
   go_ret
   refine⟨rfl,⟨_,cap,by rw [marks_length],by rw [marks_length];exact hlc,HC.out,fun h0=>?_⟩,HU.out⟩
   rw [marks_length] at h0
   obtain⟨off,rfl,_,_⟩:=HX.out h0
   obtain⟨hr,hN⟩:=HR.out off rfl h0
   rw [List.take_of_length_le (by rw [marks_length];omega)] at hN
   exact⟨off,rfl,by rw [marks_length];exact hr,hN⟩
set_option maxHeartbeats 2000000 in
set_option maxRecDepth 100000 in
theorem heldZnodeS_any (v:Value) (n k:Nat) (w:World) (hO:NSlice w v (marks k n)) (hk:k≤100) (hl:n≤1048576) :
  Calls Tryz.prog 140 #[v,.int .i64 k] w fun e w'=>e = .returned (.int .i64 (k+5 * n:Nat))∧Ext w w':=by
 obtain⟨a,cap,rfl,hlc,hcm,hx⟩:=hO
 have HX:Hid (0 < (marks k n).length→∃ b off,a=some ⟨b,off,none⟩∧b < w.heap.size∧NodesAt w b off (marks k n)):=hx
 clear hx
 unfold maxLen at hcm
 rw [marks_length] at hlc ⊢
 go_enter Tryz.func140,Tryz.ntmps140
 go_wp2
 go_loopw [1,5] (fun kv i wr=>∃ (j:Nat),j≤n∧i = .int .i64 j∧kv = .int .i64 (k+5 * j:Nat)∧Hid (Ext w wr)) (fun _ i _=>n - (intOf i).toNat)
 case atStart=>exact⟨0,Nat.zero_le _,rfl,rfl,Ext.refl _⟩
 case round =>
  obtain⟨j,hj,rfl,rfl,HE⟩:=hrel
  by_cases hlt:j < n
  ·obtain⟨b,off,rfl,hb,hN⟩:=HX.out (by rw [marks_length];omega)
   obtain⟨d0,d1,d2,d3,d4⟩:=hN.ext hb HE.out j _ (marks_get k n j hlt)
   obtain⟨kk,hkk⟩:∃ kk,kk=k+5 * j:=⟨_,rfl⟩
   have hkb:kk≤5242981:=by omega
   have HK:Hid (kk=k+5 * j):=hkk
   rw [← hkk] at d0 d1 d2 d3 d4 ⊢
   have hbr:b < wr.heap.size:=Nat.lt_of_lt_of_le hb HE.out.size
   simp only [mz] at d0 d1 d2 d3 d4
   clear hkk hN
   have HT:Hid (∀ wx:World,Calls Tryz.prog 139 #[.int .i64 kk] wx fun e w'=>e = .returned (.string (mtext kk))∧Ext wx w'):=fun wx=>markText_any kk wx (by omega)
   have HC:Hid (∀ wx:World,Ext wr.drew wx→wx.cell? ⟨b,off+j * 5,none⟩=some (.string (mtext kk))∧wx.cell? ⟨b,off+j * 5+1,none⟩=some (.int .i64 ((kk+1:Nat):Int))∧wx.cell? ⟨b,off+j * 5+2,none⟩=some (.int .i64 ((kk+2:Nat):Int))∧wx.cell? ⟨b,off+j * 5+3,none⟩=some (.int .i64 ((kk+3:Nat):Int))∧wx.cell? ⟨b,off+j * 5+4,none⟩=some (.int .i64 ((kk+4:Nat):Int))):=by
    intro wx hx
    obtain⟨hc,_⟩:=Ext.cell hx
    exact⟨(hc _ _ hbr).trans d0,(hc _ _ hbr).trans d1,(hc _ _ hbr).trans d2,(hc _ _ hbr).trans d3,(hc _ _ hbr).trans d4⟩
   clear d1 d2 d3 d4
   generalize mtext kk=mt at *
   go_wp2
   go_region_with (go_at_call 139;refine (HT.out _).mono ?_;rintro e w2 ⟨rfl,hb2⟩;obtain⟨c0,c1,c2,c3,c4⟩:=HC.out _ hb2)
   all_goals exact m71z
  ·exact m106z
end Go.Proofs.YtpdejinkmnhioaaGreatDoor
namespace Go.Proofs.YtpdejinkmnhioaaGreatDoor
open Go.RowKit
theorem MRoom.set {w:World} {g off n:Nat} (h:MRoom w g off n) (o:Nat) (v:Value):MRoom (w.setCell ⟨g,o,none⟩ v) g off n:=by
 refine⟨by simpa using h.1,fun j hj=>⟨?_,by simpa using (h.2 j hj).2⟩⟩
 by_cases hj2:o=off+j
 ·subst hj2;exact⟨_,iset_eq _ _ _ _ (h.2 j hj).1⟩
 ·rw [iset_ne _ _ _ _ _ _ (Or.inr hj2)];exact (h.2 j hj).1
theorem MksAt.beyond {w:World} {g off o:Nat} {zs:List Mk} {v:Value} (h:MksAt w g off zs) (ho:off+zs.length * 5≤o):MksAt (w.setCell ⟨g,o,none⟩ v) g off zs:=by
 intro i z hz
 have hi:=(List.getElem?_eq_some_iff.1 hz).1
 obtain⟨c0,c1,c2,c3,c4⟩:=h i z hz
 refine⟨?_,?_,?_,?_,?_⟩ <;> rw [iset_ne _ _ _ _ _ _ (by omega)] <;> assumption
theorem MksAt.upd {w w' : World} {g off b:Nat} {zs:List Mk} (h:MksAt w g off zs) (he:Upd b w w') (hne:g≠b) (hg:g < w.heap.size):MksAt w' g off zs:=by
 exact m65z
theorem MRoom.upd {w w' : World} {g off n b:Nat} (h:MRoom w g off n) (he:Upd b w w') (hne:g≠b):MRoom w' g off n :=
 ⟨Nat.lt_of_lt_of_le h.1 he.2.1,fun j hj=>⟨by rw [(he.at_ne _ _ hne h.1).1];exact (h.2 j hj).1,by rw [(he.at_ne _ _ hne h.1).2];exact (h.2 j hj).2⟩⟩
/-- The mark that begins with k. -/
def mk1 (k:Nat):Mk:=⟨(k:Nat),(k+1:Nat),(k+2:Nat),(k+3:Nat),mtext (k+4)⟩
def mmarks (k n:Nat):List Mk:=(List.range n).map fun i=>mk1 (k+5 * i)
theorem mmarks_length (k n:Nat):(mmarks k n).length=n:=by simp [mmarks]
theorem mmarks_get (k n i:Nat) (h:i < n):(mmarks k n)[i]?=some (mk1 (k+5 * i)):=by
 unfold mmarks
 rw [List.getElem?_map,List.getElem?_range h];rfl
/-- Four of a mark's five cells are written. -/
def put4 (w:World) (g o:Nat) (k:Nat):World:=(((w.setCell ⟨g,o,none⟩ (.int .i64 (k:Nat))).setCell ⟨g,o+1,none⟩ (.int .i64 (k+1:Nat))).setCell ⟨g,o+2,none⟩ (.int .i64 (k+2:Nat))).setCell ⟨g,o+3,none⟩ (.int .i64 (k+3:Nat))
theorem put4_room {w:World} {g off n o k:Nat} (h:MRoom w g off n):MRoom (put4 w g o k) g off n:=(((h.set _ _).set _ _).set _ _).set _ _
theorem put4_at {w:World} {g off o k:Nat} {zs:List Mk} (h:MksAt w g off zs) (ho:off+zs.length * 5≤o):MksAt (put4 w g o k) g off zs:=(((h.beyond ho).beyond (by omega)).beyond (by omega)).beyond (by omega)
theorem put4_cells {w:World} {g o k:Nat} (h:∀ j,j < 4→∃ u,w.cell? ⟨g,o+j,none⟩=some u):(put4 w g o k).cell? ⟨g,o,none⟩=some (.int .i64 (k:Nat))∧(put4 w g o k).cell? ⟨g,o+1,none⟩=some (.int .i64 (k+1:Nat))∧(put4 w g o k).cell? ⟨g,o+2,none⟩=some (.int .i64 (k+2:Nat))∧(put4 w g o k).cell? ⟨g,o+3,none⟩=some (.int .i64 (k+3:Nat)):=by
 unfold put4
 refine⟨?_,?_,?_,?_⟩
 ·rw [iset_ne _ _ _ _ _ _ (by omega),iset_ne _ _ _ _ _ _ (by omega),iset_ne _ _ _ _ _ _ (by omega)];exact iset_eq _ _ _ _ (h 0 (by omega))
 ·rw [iset_ne _ _ _ _ _ _ (by omega),iset_ne _ _ _ _ _ _ (by omega)];apply iset_eq;rw [iset_ne _ _ _ _ _ _ (by omega)];exact h 1 (by omega)
 ·rw [iset_ne _ _ _ _ _ _ (by omega)];apply iset_eq;rw [iset_ne _ _ _ _ _ _ (by omega),iset_ne _ _ _ _ _ _ (by omega)];exact h 2 (by omega)
 ·apply iset_eq;rw [iset_ne _ _ _ _ _ _ (by omega),iset_ne _ _ _ _ _ _ (by omega),iset_ne _ _ _ _ _ _ (by omega)];exact h 3 (by omega)
theorem put4_upd {w w' : World} {g:Nat} (h:Upd g w w') (o k:Nat):Upd g w (put4 w' g o k):=(((h.setAt o _).setAt (o+1) _).setAt (o+2) _).setAt (o+3) _
/-- A round of markMarkS: what is there behind the fifth cell. -/
theorem mark_round {wr w2:World} {g off n j k:Nat} (hr:MRoom wr g off n) (hj:j < n) (hN:MksAt wr g off ((mmarks k n).take j)) (hE:Ext (put4 wr g (off+j * 5) (k+5 * j)) w2) :
  MRoom (w2.setCell ⟨g,off+j * 5+4,none⟩ (.string (mtext (k+5 * j+4)))) g off n∧MksAt (w2.setCell ⟨g,off+j * 5+4,none⟩ (.string (mtext (k+5 * j+4)))) g off ((mmarks k n).take (j+1)):=by
 have hlen:((mmarks k n).take j).length=j:=by rw [List.length_take,mmarks_length];omega
 have h4:=put4_room (o:=off+j * 5) (k:=k+5 * j) hr
 have hA:=put4_at (o:=off+j * 5) (k:=k+5 * j) hN (by rw [hlen];omega)
 have h2:=h4.ext hE
 have hA2:=hA.ext h4.1 hE
 obtain⟨c0,c1,c2,c3⟩:=put4_cells (k:=k+5 * j) (fun i hi=>by rw [Nat.add_assoc];exact (hr.2 (j * 5+i) (by omega)).1)
 obtain⟨hc,-⟩:=Ext.cell hE
 refine⟨h2.set _ _,fun i z hz=>?_⟩
 rw [List.getElem?_take] at hz
 split at hz
 ·by_cases hij:i=j
  ·subst hij
   rw [mmarks_get _ _ _ hj] at hz
   cases hz
   refine⟨?_,?_,?_,?_,?_⟩
   ·rw [iset_ne _ _ _ _ _ _ (by omega)];exact (hc _ _ h4.1).trans c0
   ·rw [iset_ne _ _ _ _ _ _ (by omega)];exact (hc _ _ h4.1).trans c1
   ·rw [iset_ne _ _ _ _ _ _ (by omega)];exact (hc _ _ h4.1).trans c2
   ·rw [iset_ne _ _ _ _ _ _ (by omega)];exact (hc _ _ h4.1).trans c3
   ·apply iset_eq;have:=(h2.2 (i * 5+4) (by omega)).1;rw [← Nat.add_assoc] at this;exact this
  ·obtain⟨d0,d1,d2,d3,d4⟩:=hA2 i z (by rw [List.getElem?_take,if_pos (by omega)];exact hz)
   refine⟨?_,?_,?_,?_,?_⟩ <;> rw [iset_ne _ _ _ _ _ _ (by omega)] <;> assumption
 ·cases hz
set_option maxHeartbeats 2000000 in
set_option maxRecDepth 100000 in
theorem markMarkS_any (v:Value) (g:Nat) (zs:List Mk) (k:Nat) (w:World) (hO:MOwn w v g zs) (hk:k≤8000000) (hl:zs.length≤1048576) :
  Calls Tryz.prog 68 #[v,.int .i64 k] w fun e w'=>e = .returned (.int .i64 (k+5 * zs.length:Nat))∧MOwn w' v g (mmarks k zs.length)∧Upd g w w':=by
 obtain⟨a,cap,rfl,hlc,hcm,hx⟩:=hO
 have HX:Hid (0 < zs.length→∃ off,a=some ⟨g,off,none⟩∧MRoom w g off zs.length∧MksAt w g off zs):=hx
 clear hx
 have HC:Hid (cap≤maxLen):=hcm
 unfold maxLen at hcm
 go_enter Tryz.func68,Tryz.ntmps68
 go_wp2
 go_loopw [1,5] (fun kv i wr=>∃ (j:Nat),j≤zs.length∧i = .int .i64 j∧kv = .int .i64 (k+5 * j:Nat)∧Hid (∀ off,a=some ⟨g,off,none⟩→0 < zs.length→MRoom wr g off zs.length∧MksAt wr g off ((mmarks k zs.length).take j))∧Hid (Upd g w wr)) (fun _ i _=>zs.length - (intOf i).toNat)
 case atStart =>
  exact m31z
 case round =>
  obtain⟨j,hj,rfl,rfl,HR,HU⟩:=hrel
  by_cases hlt:j < zs.length
  ·obtain⟨off,rfl,_,_⟩:=HX.out (by omega)
   obtain⟨hr,hN⟩:=HR.out off rfl (by omega)
   have HRd:Hid (∀ w2:World,Ext (put4 wr g (off+j * 5) (k+5 * j)) w2→MRoom (w2.setCell ⟨g,off+j * 5+4,none⟩ (.string (mtext (k+5 * j+4)))) g off zs.length∧MksAt (w2.setCell ⟨g,off+j * 5+4,none⟩ (.string (mtext (k+5 * j+4)))) g off ((mmarks k zs.length).take (j+1))):=fun w2 h=>mark_round hr hlt hN h
   have HR4:Hid (MRoom (put4 wr g (off+j * 5) (k+5 * j)) g off zs.length):=put4_room hr
   have HU4:Hid (Upd g w (put4 wr g (off+j * 5) (k+5 * j))):=put4_upd HU.out _ _
   obtain⟨kk,hkk⟩:∃ kk,kk=k+5 * j:=⟨_,rfl⟩
   have hkb:kk≤13242880:=by omega
   have HK:Hid (kk=k+5 * j):=hkk
   rw [← hkk] at HRd HR4 HU4 ⊢
   clear hkk
   have hmt:∀ wx:World,Calls Tryz.prog 139 #[.int .i64 ((kk+4:Nat):Int)] wx fun e w'=>e = .returned (.string (mtext (kk+4)))∧Ext wx w':=fun wx=>markText_any (kk+4) wx (by omega)
   have HM:Hid (∀ wx:World,Calls Tryz.prog 139 #[.int .i64 ((kk+4:Nat):Int)] wx fun e w'=>e = .returned (.string (mtext (kk+4)))∧Ext wx w'):=hmt
   clear hmt
   have e4:((kk:Int)+1+1+1+1)=((kk+4:Nat):Int):=by omega
   have e3:((kk:Int)+1+1+1)=((kk+3:Nat):Int):=by omega
   have e2:((kk:Int)+1+1)=((kk+2:Nat):Int):=by omega
   have e1:((kk:Int)+1)=((kk+1:Nat):Int):=by omega
   have HQ:Hid (((kk:Int)+1+1+1+1)=((kk+4:Nat):Int)∧((kk:Int)+1+1+1)=((kk+3:Nat):Int)∧((kk:Int)+1+1)=((kk+2:Nat):Int)∧((kk:Int)+1)=((kk+1:Nat):Int)):=⟨e4,e3,e2,e1⟩
   clear e4 e3 e2 e1
   obtain⟨⟨u0,r0⟩,f0⟩:=hr.2 (j * 5) (by omega)
   obtain⟨⟨u1,r1⟩,f1⟩:=hr.2 (j * 5+1) (by omega)
   obtain⟨⟨u2,r2⟩,f2⟩:=hr.2 (j * 5+2) (by omega)
   obtain⟨⟨u3,r3⟩,f3⟩:=hr.2 (j * 5+3) (by omega)
   rw [← Nat.add_assoc] at r1 r2 r3 f1 f2 f3
   clear hr hN
   go_wp2_with fail
   rw [HQ.out.1,HQ.out.2.1,HQ.out.2.2.1,HQ.out.2.2.2]
   refine (HM.out (put4 wr g (off+j * 5) kk)).mono ?_
   rintro e w2 ⟨rfl,hb2⟩
   have HP:Hid _:=HRd.out w2 hb2
   have HU2:Hid (Upd g w w2):=HU4.out.trans (Upd.ext hb2 (by have:=HR4.out.1;omega))
   obtain⟨⟨u4,r4⟩,f4⟩:=(HR4.out.ext hb2).2 (j * 5+4) (by omega)
   rw [← Nat.add_assoc] at r4 f4
   clear hb2 r0 r1 r2 r3 f0 f1 f2 f3 HM HRd
   go_wp2
   refine⟨⟨j+1,by omega,by go_num,by rw [show k+5 * (j+1)=kk+5 from by rw [HK.out];omega];go_num,?_,HU2.out.setAt _ _⟩,by simp [intOf];omega⟩
   intro off' ho _
   simp only [Option.some.injEq,Addr.mk.injEq,true_and,and_true] at ho
   subst ho
   exact HP.out
  ·have hje:j=zs.length:=by omega
   subst hje
   go_wp2
   go_ret
   refine⟨rfl,⟨_,cap,by rw [mmarks_length],by rw [mmarks_length];exact hlc,HC.out,fun h0=>?_⟩,HU.out⟩
   rw [mmarks_length] at h0
   obtain⟨off,rfl,_,_⟩:=HX.out h0
   obtain⟨hr,hN⟩:=HR.out off rfl h0
   rw [List.take_of_length_le (by rw [mmarks_length];omega)] at hN
   exact⟨off,rfl,by rw [mmarks_length];exact hr,hN⟩
set_option maxHeartbeats 2000000 in
set_option maxRecDepth 100000 in
theorem heldMarkS_any (v:Value) (n k:Nat) (w:World) (hO:MSlice w v (mmarks k n)) (hk:k≤8000000) (hl:n≤1048576) :
  Calls Tryz.prog 142 #[v,.int .i64 k] w fun e w'=>e = .returned (.int .i64 (k+5 * n:Nat))∧Ext w w':=by
 obtain⟨a,cap,rfl,hlc,hcm,hx⟩:=hO
 have HX:Hid (0 < (mmarks k n).length→∃ b off,a=some ⟨b,off,none⟩∧b < w.heap.size∧MksAt w b off (mmarks k n)):=hx
 clear hx
 unfold maxLen at hcm
 rw [mmarks_length] at hlc ⊢
 go_enter Tryz.func142,Tryz.ntmps142
 go_wp2
 go_loopw [1,5] (fun kv i wr=>∃ (j:Nat),j≤n∧i = .int .i64 j∧kv = .int .i64 (k+5 * j:Nat)∧Hid (Ext w wr)) (fun _ i _=>n - (intOf i).toNat)
 case atStart=>exact⟨0,Nat.zero_le _,rfl,rfl,Ext.refl _⟩
 case round =>
  obtain⟨j,hj,rfl,rfl,HE⟩:=hrel
  by_cases hlt:j < n
  ·obtain⟨b,off,rfl,hb,hN⟩:=HX.out (by rw [mmarks_length];omega)
   obtain⟨d0,d1,d2,d3,d4⟩:=hN.ext hb HE.out j _ (mmarks_get k n j hlt)
   obtain⟨kk,hkk⟩:∃ kk,kk=k+5 * j:=⟨_,rfl⟩
   have hkb:kk≤13242880:=by omega
   have HK:Hid (kk=k+5 * j):=hkk
   rw [← hkk] at d0 d1 d2 d3 d4 ⊢
   have hbr:b < wr.heap.size:=Nat.lt_of_lt_of_le hb HE.out.size
   simp only [mk1] at d0 d1 d2 d3 d4
   rw [show ((kk+1:Nat):Int)=(kk:Int)+1 from by omega] at d1
   rw [show ((kk+2:Nat):Int)=(kk:Int)+1+1 from by omega] at d2
   rw [show ((kk+3:Nat):Int)=(kk:Int)+1+1+1 from by omega] at d3
   clear hkk hN
   have HT:Hid (∀ wx:World,Calls Tryz.prog 139 #[.int .i64 ((kk:Int)+1+1+1+1)] wx fun e w'=>e = .returned (.string (mtext (kk+4)))∧Ext wx w'):=fun wx=>by
    have h:=markText_any (kk+4) wx (by omega)
    rw [show ((kk+4:Nat):Int)=(kk:Int)+1+1+1+1 from by omega] at h
    exact h
   generalize mtext (kk+4)=mt at *
   go_wp2
   go_region_with (go_at_call 139;refine (HT.out _).mono ?_;rintro e w2 ⟨rfl,hb2⟩;have c4:=((Ext.cell hb2).1 _ _ hbr).trans d4)
   all_goals exact m71z
  ·exact m106z
end Go.Proofs.YtpdejinkmnhioaaGreatDoor
namespace Go.Proofs.YtpdejinkmnhioaaGreatDoor
open Go.RowKit
set_option maxHeartbeats 2000000 in
set_option maxRecDepth 100000 in
theorem markSesW_any (v:Value) (g:Nat) (ts:List Se) (k:Nat) (w:World) (hO:EOwn w v g ts) (hk:k≤6000000) (hl:ts.length≤1048576) :
  Calls Tryz.prog 67 #[v,.int .i64 k] w fun e w'=>e = .returned (.int .i64 (k+2 * ts.length:Nat))∧EOwn w' v g (emarks k ts.length)∧Upd g w w':=by
 obtain⟨a,cap,rfl,hlc,hcm,hx⟩:=hO
 have HX:Hid (0 < ts.length→∃ off,a=some ⟨g,off,none⟩∧ERoom w g off ts.length∧SesAt w g off ts):=hx
 clear hx
 have hcm' : cap≤maxLen:=hcm
 have HC:Hid (cap≤maxLen):=hcm'
 clear hcm'
 unfold maxLen at hcm
 go_enter Tryz.func67,Tryz.ntmps67
 go_wp2
 go_loopw [1,5] (fun kv i wr=>∃ (j:Nat),j≤ts.length∧i = .int .i64 j∧kv = .int .i64 (k+2 * j:Nat)∧Hid (∀ off,a=some ⟨g,off,none⟩→0 < ts.length→ERoom wr g off ts.length∧SesAt wr g off ((emarks k ts.length).take j))∧Hid (Upd g w wr)) (fun _ i _=>ts.length - (intOf i).toNat)
 case atStart =>
  exact m31z
 case round =>
  obtain⟨j,hj,rfl,rfl,HR,HU⟩:=hrel
  by_cases hlt:j < ts.length
  ·obtain⟨off,rfl,_,_⟩:=HX.out (by omega)
   obtain⟨hr,hN⟩:=HR.out off rfl (by omega)
   obtain⟨kk,hkk⟩:∃ kk,kk=k+2 * j:=⟨_,rfl⟩
   have hkb:kk≤8097152:=by omega
   have HK:Hid (kk=k+2 * j):=hkk
   rw [← hkk]
   clear hkk
   have HRR:Hid (ERoom wr g off ts.length):=hr
   have HNN:Hid (SesAt wr g off ((emarks k ts.length).take j)):=hN
   clear hr hN
   obtain⟨⟨u0,r0⟩,f0⟩:=HRR.out.2 (j * 2) (by omega)
   obtain⟨⟨u1,r1⟩,f1⟩:=HRR.out.2 (j * 2+1) (by omega)
   rw [← Nat.add_assoc] at r1 f1
   have P1:Hid (ERoom (putE wr g (off+j * 2) (emark kk)) g off ts.length):=HRR.out.put (emark kk) hlt
   have P2:Hid (SesAt (putE wr g (off+j * 2) (emark kk)) g off ((emarks k ts.length).take (j+1))):=SesAt.put HRR.out hlt (by rw [emarks_get _ _ _ hlt,← HK.out]) HNN.out
   have P3:Hid (Upd g w (putE wr g (off+j * 2) (emark kk))):=(HU.out.setAt _ _).setAt _ _
   go_wp2
   refine⟨⟨j+1,by omega,by go_num,by rw [show k+2 * (j+1)=kk+1+1 from by rw [HK.out];omega];go_num,?_,P3.out⟩,by simp [intOf];omega⟩
   intro off' ho _
   simp only [Option.some.injEq,Addr.mk.injEq,true_and,and_true] at ho
   subst ho
   exact⟨P1.out,P2.out⟩
  ·have hje:j=ts.length:=by omega
   subst hje
   go_wp2
   go_ret
   refine⟨rfl,⟨_,cap,by rw [emarks_length],by rw [emarks_length];exact hlc,HC.out,fun h0=>?_⟩,HU.out⟩
   rw [emarks_length] at h0
   obtain⟨off,rfl,_,_⟩:=HX.out h0
   obtain⟨hr,hN⟩:=HR.out off rfl h0
   rw [List.take_of_length_le (by rw [emarks_length];omega)] at hN
   exact⟨off,rfl,by rw [emarks_length];exact hr,hN⟩
set_option maxHeartbeats 2000000 in
set_option maxRecDepth 100000 in
theorem heldSesW_any (v:Value) (n k:Nat) (w:World) (hO:ESlice w v (emarks k n)) (hk:k≤6000000) (hl:n≤1048576) :
  Calls Tryz.prog 141 #[v,.int .i64 k] w fun e w'=>e = .returned (.int .i64 (k+2 * n:Nat))∧Ext w w':=by
 obtain⟨a,cap,rfl,hlc,hcm,hx⟩:=hO
 have HX:Hid (0 < (emarks k n).length→∃ b off,a=some ⟨b,off,none⟩∧b < w.heap.size∧SesAt w b off (emarks k n)):=hx
 clear hx
 unfold maxLen at hcm
 rw [emarks_length] at hlc ⊢
 go_enter Tryz.func141,Tryz.ntmps141
 go_wp2
 go_loopw [1,5] (fun kv i wr=>∃ (j:Nat),j≤n∧i = .int .i64 j∧kv = .int .i64 (k+2 * j:Nat)∧Hid (Ext w wr)) (fun _ i _=>n - (intOf i).toNat)
 case atStart=>exact⟨0,Nat.zero_le _,rfl,rfl,Ext.refl _⟩
 case round =>
  obtain⟨j,hj,rfl,rfl,HE⟩:=hrel
  by_cases hlt:j < n
  ·obtain⟨b,off,rfl,hb,hN⟩:=HX.out (by rw [emarks_length];omega)
   obtain⟨d0,d1⟩:=hN.ext hb HE.out j _ (emarks_get k n j hlt)
   obtain⟨kk,hkk⟩:∃ kk,kk=k+2 * j:=⟨_,rfl⟩
   have hkb:kk≤8097152:=by omega
   have HK:Hid (kk=k+2 * j):=hkk
   rw [← hkk] at d0 d1 ⊢
   have hd1:wr.cell? ⟨b,off+j * 2+1,none⟩=some (.int .i64 ((kk:Int)+1)):=d1
   have hd0:wr.cell? ⟨b,off+j * 2,none⟩=some (.int .i64 (kk:Int)):=d0
   clear hkk hN d0 d1
   go_wp2
   exact⟨⟨j+1,by omega,by go_num,by rw [show k+2 * (j+1)=kk+1+1 from by rw [HK.out];omega];go_num,HE⟩,by simp [intOf];omega⟩
  ·exact m106z
end Go.Proofs.YtpdejinkmnhioaaGreatDoor
namespace Go.Proofs.YtpdejinkmnhioaaGreatDoor
open Go.RowKit
/-- A ZResult as a value. -/
def zr (c:Int) (p:ByteArray) (v:Value):Value:=.agg #[.int .i64 c,.string p,v]
end Go.Proofs.YtpdejinkmnhioaaGreatDoor
namespace Go.Proofs.YtpdejinkmnhioaaGreatDoor
open Go.RowKit
/-- A ZResult of code c, path p and nodes rs came back, its nodes in new memory. -/
def ZRet (w:World) (c:Int) (p:ByteArray) (rs:List Zn) (e:Ending) (w' : World):Prop :=
 ∃ v g,e = .returned (zr c p v)∧w.heap.size≤g∧Own w' v g rs∧Ext w w'
/-- Block b holds a ZResult. -/
def BoxAt (w:World) (b:Nat) (c:Int) (p:ByteArray) (v:Value):Prop :=
 b < w.heap.size∧w.cell? ⟨b,0,none⟩=some (.int .i64 c)∧w.cell? ⟨b,1,none⟩=some (.string p)∧w.cell? ⟨b,2,none⟩=some v
theorem Own.lt {w:World} {v:Value} {g:Nat} {zs:List Zn} (h:Own w v g zs) (h0:0 < zs.length):g < w.heap.size:=by
 exact m37z
theorem Own.nil {w w' : World} {v:Value} {g g' : Nat} {zs:List Zn} (h:Own w v g zs) (h0:¬ 0 < zs.length):Own w' v g' zs:=by
 exact m32z
theorem Own.upd' {w w' : World} {v:Value} {g b:Nat} {zs:List Zn} (h:Own w v g zs) (he:Upd b w w') (hne:0 < zs.length→g≠b):Own w' v g zs:=by
 by_cases h0:0 < zs.length
 ·exact h.upd he (hne h0)
 ·exact h.nil h0
theorem Own.pick {w:World} {v:Value} {g:Nat} {zs:List Zn} (h:Own w v g zs):∃ g',g'≤w.heap.size∧Own w v g' zs∧(g'=w.heap.size∧¬ 0 < zs.length∨(g'=g∧g < w.heap.size∧0 < zs.length)):=by
 by_cases h0:0 < zs.length
 ·exact m83z
 ·exact⟨_,Nat.le_refl _,h.nil h0,Or.inl ⟨rfl,h0⟩⟩
theorem BoxAt.ext {w w' : World} {b:Nat} {c:Int} {p:ByteArray} {v:Value} (h:BoxAt w b c p v) (he:Ext w w'):BoxAt w' b c p v:=by
 obtain⟨hc,_⟩:=Ext.cell he
 exact⟨Nat.lt_of_lt_of_le h.1 he.size,(hc _ _ h.1).trans h.2.1,(hc _ _ h.1).trans h.2.2.1,(hc _ _ h.1).trans h.2.2.2⟩
theorem BoxAt.upd {w w' : World} {b g:Nat} {c:Int} {p:ByteArray} {v:Value} (h:BoxAt w b c p v) (he:Upd g w w') (hne:b≠g):BoxAt w' b c p v :=
 ⟨Nat.lt_of_lt_of_le h.1 he.2.1,(he.at_ne _ _ hne h.1).1.trans h.2.1,(he.at_ne _ _ hne h.1).1.trans h.2.2.1,(he.at_ne _ _ hne h.1).1.trans h.2.2.2⟩
end Go.Proofs.YtpdejinkmnhioaaGreatDoor
namespace Go.Proofs.YtpdejinkmnhioaaGreatDoor
open Go.RowKit
/-- An answer with a reply and a state. -/
def rsagg (c d x:Int) (p:ByteArray) (vn vs:Value) (n:Int) (vm:Value):Value:=.agg #[.int .i64 c,.int .i64 d,.int .i64 x,.string p,vn,vs,.int .i64 n,vm]
def RsBoxAt (w:World) (b:Nat) (c d x:Int) (p:ByteArray) (vn vs:Value) (n:Int) (vm:Value):Prop:=b < w.heap.size∧w.cell? ⟨b,0,none⟩=some (.int .i64 c)∧w.cell? ⟨b,1,none⟩=some (.int .i64 d)∧w.cell? ⟨b,2,none⟩=some (.int .i64 x)∧w.cell? ⟨b,3,none⟩=some (.string p)∧w.cell? ⟨b,4,none⟩=some (vn)∧w.cell? ⟨b,5,none⟩=some (vs)∧w.cell? ⟨b,6,none⟩=some (.int .i64 n)∧w.cell? ⟨b,7,none⟩=some (vm)
theorem RsBoxAt.ext {w w' : World} {b:Nat} {c d x:Int} {p:ByteArray} {vn vs:Value} {n:Int} {vm:Value} (h:RsBoxAt w b c d x p vn vs n vm) (he:Ext w w'):RsBoxAt w' b c d x p vn vs n vm:=by
 obtain⟨hc,-⟩:=Ext.cell he
 obtain⟨hb,c0,c1,c2,c3,c4,c5,c6,c7⟩:=h
 exact⟨Nat.lt_of_lt_of_le hb he.size,(hc _ _ hb).trans c0,(hc _ _ hb).trans c1,(hc _ _ hb).trans c2,(hc _ _ hb).trans c3,(hc _ _ hb).trans c4,(hc _ _ hb).trans c5,(hc _ _ hb).trans c6,(hc _ _ hb).trans c7⟩
theorem rsbox_new (w:World) (c d x:Int) (p:ByteArray) (vn vs:Value) (n:Int) (vm:Value) (t:TypeId):RsBoxAt (w.alloc (.cells #[.int .i64 c,.int .i64 d,.int .i64 x,.string p,vn,vs,.int .i64 n,vm] t)) w.heap.size c d x p vn vs n vm:=⟨by simp,by simp,by simp,by simp,by simp,by simp,by simp,by simp,by simp⟩
set_option maxHeartbeats 1000000 in
set_option maxRecDepth 100000 in
theorem eqStateResult_same (c d x:Int) (p:ByteArray) (s:Stt) (vn vs vm un us um:Value) (w:World) (h:SSlice w vn vs vm s) (h' : SSlice w un us um s) :
  Calls Tryz.prog 17 #[rsagg c d x p vn vs s.now vm,rsagg c d x p un us s.now um] w fun e w'=>e = .returned (.bool true)∧Ext w w':=by
 have HR:Hid (∀ wx:World,Calls Tryz.prog 62 #[.agg #[.int .i64 d,.int .i64 x,.string p],.agg #[.int .i64 d,.int .i64 x,.string p]] wx fun e w'=>e = .returned (.bool true)∧Ext wx w'):=fun wx=>eqReply_same d x p wx
 have HE:Hid (∀ wx:World,Ext w wx→Calls Tryz.prog 18 #[.agg #[vn,vs,.int .i64 s.now,vm],.agg #[un,us,.int .i64 s.now,um]] wx fun e w'=>e = .returned (.bool true)∧Ext wx w'):=fun wx he=>eqState_same s vn vs vm un us um wx (h.ext he) (h'.ext he)
 obtain⟨⟨an,cn,rfl,-⟩,⟨ae,ce,rfl,-⟩,⟨am,cm,rfl,-⟩⟩:=h
 obtain⟨⟨bn,dn,rfl,-⟩,⟨be,de,rfl,-⟩,⟨bm,dm,rfl,-⟩⟩:=h'
 unfold rsagg
 go_enter Tryz.func17,Tryz.ntmps17
 go_wp2_with fail
 refine (HR.out _).mono ?_
 rintro e w2 ⟨rfl,hb⟩
 have x0:=(rsbox_new w c d x p (.slice an s.nodes.length cn) (.slice ae s.ses.length ce) s.now (.slice am s.marks.length cm) _).ext (((Ext.refl _).alloc _).trans hb)
 have y0:=(rsbox_new (w.alloc _) c d x p (.slice bn s.nodes.length dn) (.slice be s.ses.length de) s.now (.slice bm s.marks.length dm) _).ext hb
 simp only [World.size_alloc] at y0
 obtain⟨xl,x0,x1,x2,x3,x4,x5,x6,x7⟩:=x0
 obtain⟨yl,y0,y1,y2,y3,y4,y5,y6,y7⟩:=y0
 have HB:Hid (Ext w w2):=(((Ext.refl _).alloc _).alloc _).trans hb
 clear hb
 go_wp2_with fail
 refine (HE.out _ HB.out).mono ?_
 rintro e w3 ⟨rfl,hb⟩
 have HB3:Hid (Ext w w3):=HB.out.trans hb
 clear hb xl yl x0 x1 x2 x3 x4 x5 x6 x7 y0 y1 y2 y3 y4 y5 y6 y7
 go_wp2
 go_ret
 exact⟨rfl,HB3.out⟩
set_option maxHeartbeats 1000000 in
set_option maxRecDepth 100000 in
theorem heldState_any (i j l k:Nat) (n:Int) (vn vs vm:Value) (w:World) (h1:NSlice w vn (marks k i)) (h2:ESlice w vs (emarks (k+5 * i) j)) (h3:MSlice w vm (mmarks (k+5 * i+2 * j) l)) (hk:k≤100) (hi:i≤1048576) (hj:j≤1048576) (hl:l≤1048576) :
  Calls Tryz.prog 69 #[sagg vn vs n vm,.int .i64 k] w fun e w'=>e = .returned (.int .i64 (k+5 * i+2 * j+5 * l:Nat))∧Ext w w':=by
 have H1:Hid (∀ wx:World,Ext w wx→Calls Tryz.prog 140 #[vn,.int .i64 k] wx fun e w'=>e = .returned (.int .i64 (k+5 * i:Nat))∧Ext wx w'):=fun wx he=>heldZnodeS_any vn i k wx (h1.ext he) hk hi
 have H2:Hid (∀ wx:World,Ext w wx→Calls Tryz.prog 141 #[vs,.int .i64 (k+5 * i:Nat)] wx fun e w'=>e = .returned (.int .i64 (k+5 * i+2 * j:Nat))∧Ext wx w'):=fun wx he=>heldSesW_any vs j (k+5 * i) wx (h2.ext he) (by omega) hj
 have H3:Hid (∀ wx:World,Ext w wx→Calls Tryz.prog 142 #[vm,.int .i64 (k+5 * i+2 * j:Nat)] wx fun e w'=>e = .returned (.int .i64 (k+5 * i+2 * j+5 * l:Nat))∧Ext wx w'):=fun wx he=>heldMarkS_any vm l (k+5 * i+2 * j) wx (h3.ext he) (by omega) hl
 obtain⟨an,cn,rfl,-⟩:=h1
 obtain⟨ae,ce,rfl,-⟩:=h2
 obtain⟨am,cm,rfl,-⟩:=h3
 generalize k+5 * i=k1 at *
 generalize k1+2 * j=k2 at *
 generalize k2+5 * l=k3 at *
 unfold sagg
 go_enter Tryz.func69,Tryz.ntmps69
 go_wp2_with fail
 refine (H1.out _ ((Ext.refl _).alloc _)).mono ?_
 rintro e w2 ⟨rfl,hb⟩
 have X2:Hid (SBoxAt w2 w.heap.size (.slice an (marks k i).length cn) (.slice ae (emarks k1 j).length ce) (.int .i64 n) (.slice am (mmarks k2 l).length cm)):=(sbox_new w _ _ _ _ _).ext hb
 have E2:Hid (Ext w w2):=((Ext.refl _).alloc _).trans hb
 obtain⟨q,⟨q0,q1,q2,q3⟩,-⟩:=X2.out
 clear hb
 go_wp2_with fail
 refine (H2.out _ E2.out).mono ?_
 rintro e w3 ⟨rfl,hb⟩
 have X3:Hid (SBoxAt w3 w.heap.size (.slice an (marks k i).length cn) (.slice ae (emarks k1 j).length ce) (.int .i64 n) (.slice am (mmarks k2 l).length cm)):=X2.out.ext hb
 have E3:Hid (Ext w w3):=E2.out.trans hb
 clear hb q q0 q1 q2 q3 X2
 obtain⟨q,⟨q0,q1,q2,q3⟩,-⟩:=X3.out
 go_wp2_with fail
 refine (H3.out _ E3.out).mono ?_
 rintro e w4 ⟨rfl,hb⟩
 have E4:Hid (Ext w w4):=E3.out.trans hb
 clear hb q q0 q1 q2 q3 X3
 go_wp2
 go_ret
 exact⟨rfl,E4.out⟩
end Go.Proofs.YtpdejinkmnhioaaGreatDoor
