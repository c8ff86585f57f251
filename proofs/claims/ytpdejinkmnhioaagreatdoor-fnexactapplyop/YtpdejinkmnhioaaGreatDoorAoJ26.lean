/- I18a, I18, I19, in one text. -/
import Derived.Test.YtpdejinkmnhioaaGreatDoorAoJ25
import Derived.Lib.AppendZerosOnto
import Derived.Test.YtpdejinkmnhioaaGreatDoorAoMk
namespace Go.Proofs.YtpdejinkmnhioaaGreatDoor
open Go.RowKit
set_option maxHeartbeats 400000 in
set_option maxRecDepth 100000 in
theorem grow_zeros (g off cap k:Nat) (zs:List Zn) (w:World) (hW:Wide w g off cap zs) (hl:zs.length≤1000) (hk:k < zs.length) (hroom:cap < zs.length+1) :
  ∃ (G:Nat) (ROW:Array Value),(∀ ty,(Builtin.append_ #[33,3] ty #[.slice (some ⟨g,off,none⟩) k cap,.int .i64 ((zs.length:Int)+1 - (k:Int))]).run Tryz.prog w =
   .ok (.slice (some ⟨w.heap.size,0,none⟩) (zs.length+1) G) (w.drew.alloc (.cells ROW 144)))∧zs.length+1≤G∧G≤9223372036854775807∧G≤maxLen∧(zs.length+1) * 5≤ROW.size∧(∀ (j:Nat) (u:Value),(cellsZ (zs.take k))[j]?=some u→ROW[j]?=some u):=by
 obtain⟨hnc,hcm,hp,hR,hN,tB,kB,hsb,hkB⟩:=hW
 unfold maxLen at hcm
 obtain⟨i0,hi,hz0,hz1,hz2⟩:=znInfo
 have hbw:g < w.heap.size:=hR.1
 refine n67z ?_
 intro hld
 refine n70z ?_
 intro hlt
 have hkk:(zs.length:Int)+1 - (k:Int)=((zs.length+1 - k:Nat):Int):=by omega
 have hik:k+(zs.length+1 - k)=zs.length+1:=by omega
 have hold:(Builtin.firstCells i0.size k (.slice (some ⟨g,off,none⟩) k cap)).run Tryz.prog w.drew = .ok (cellsZ (zs.take k)).toArray w.drew:=by
  rw [hz1]
  exact run_firstCells_some w.drew 5 k ⟨g,off,none⟩ k cap (cellsZ (zs.take k)) hlt (NodesAt.news (w:=w.drew) (hN.take k))
 obtain⟨G,hG⟩:∃ G,G=grownCap w (zs.length+1) cap 144:=⟨_,rfl⟩
 obtain⟨ROW,hROW⟩:∃ ROW:Array Value,ROW=(cellsZ (zs.take k)).toArray ++ Builtin.zeroCells (Value.agg #[.string ByteArray.empty,.int .i64 0,.int .i64 0,.int .i64 0,.int .i64 0]).cells (zs.length+1 - k) ++ Builtin.zeroCells (Value.agg #[.string ByteArray.empty,.int .i64 0,.int .i64 0,.int .i64 0,.int .i64 0]).cells (G - (zs.length+1)):=⟨_,rfl⟩
 have hrz:∀ ty,(Builtin.append_ #[33,3] ty #[.slice (some ⟨g,off,none⟩) k cap,.int .i64 ((zs.length:Int)+1 - (k:Int))]).run Tryz.prog w =
   .ok (.slice (some ⟨w.heap.size,0,none⟩) (zs.length+1) G) (w.drew.alloc (.cells ROW 144)):=fun ty=>by
  have h:=Lib.run_append_grow_zeros w 33 3 ty 144 i0 _ .i64 .i64 Tryz.underlying33 Tryz.underlying3 hi hz0 (some ⟨g,off,none⟩) k cap (cellsZ (zs.take k)) hold (zs.length+1 - k) (by omega) (by omega) (by omega) (by omega) (by rw [hz2];omega) (by rw [hz2,hik];exact growslice_fits hroom (by omega))
  rw [hik] at h
  rw [hkk,hROW,hG]
  exact h
 have hGn:zs.length+1≤G:=by rw [hG];exact grownCap_ge w _ _ _
 have hGm:G≤maxLen:=by
  have:=grownCap_le_maxLen w (zs.length+1) cap 144 (by unfold maxLen;omega)
  rw [← hG] at this
  exact this
 have hG63:G≤9223372036854775807:=by
  unfold maxLen at hGm
  omega
 have hcells5:(Value.agg #[.string ByteArray.empty,.int .i64 0,.int .i64 0,.int .i64 0,.int .i64 0]).cells.size=5:=by kernel_rfl
 have hRl:(zs.length+1) * 5≤ROW.size:=by
  rw [hROW]
  simp only [Array.size_append,List.size_toArray,hlt,Builtin.zeroCells,Array.size_map,Array.size_range,hcells5]
  omega
 have hRt:∀ (j:Nat) (u:Value),(cellsZ (zs.take k))[j]?=some u→ROW[j]?=some u:=fun j u hu=>by
  have hj:=(List.getElem?_eq_some_iff.1 hu).1
  rw [hROW,Array.append_assoc,Array.getElem?_append_left (by simpa using hj)]
  simpa using hu
 exact⟨G,ROW,hrz,hGn,hG63,hGm,hRl,hRt⟩
set_option maxHeartbeats 400000 in
set_option maxRecDepth 100000 in
theorem grow_copies (g off cap k vb:Nat) (zs:List Zn) (z:Zn) (w W1:World) (ROW:Array Value) (hW:Wide w g off cap zs) (hk:k < zs.length) (hvw:vb < w.heap.size)
  (hv:w.heap[vb]?=some (.cells (zcells z).toArray 144 (0,0))) (hRl:(zs.length+1) * 5≤ROW.size) (hW1:W1=w.drew.alloc (.cells ROW 144)) :
  (∀ (W:World),(∀ x,W.cell? x=W1.cell? x)→(∀ x,W.frozen? x=W1.frozen? x)→∀ ty dc,(Builtin.copy_ #[33,33] ty #[.slice (some ⟨w.heap.size,k * 5,none⟩) (zs.length+1 - k) dc,.slice (some ⟨vb,0,none⟩) 1 1]).run Tryz.prog W = .ok (goInt (Nat.min 1 (zs.length+1 - k))) (W.setCells w.heap.size (k * 5) (zcells z))) ∧
  (∀ (W:World),(∀ x,W.cell? x=(W1.setCells w.heap.size (k * 5) (zcells z)).cell? x)→(∀ x,W.frozen? x=(W1.setCells w.heap.size (k * 5) (zcells z)).frozen? x)→∀ ty dc sc,(Builtin.copy_ #[33,33] ty #[.slice (some ⟨w.heap.size,(k+1) * 5,none⟩) (zs.length - k) dc,.slice (some ⟨g,off+k * 5,none⟩) (zs.length - k) sc]).run Tryz.prog W = .ok (goInt (Nat.min (zs.length - k) (zs.length - k))) (W.setCells w.heap.size ((k+1) * 5) (cellsZ (zs.drop k)))):=by
 obtain⟨hnc,hcm,hp,hR,hN,tB,kB,hsb,hkB⟩:=hW
 have hz5:(zcells z).length=5:=rfl
 have hbw:g < w.heap.size:=hR.1
 refine n67z ?_
 intro hld
 have hNr:Room W1 w.heap.size 0 (zs.length+1):=⟨by rw [hW1];simp,fun j hj=>⟨⟨ROW[j]'(by omega),by rw [hW1,Nat.zero_add,World.cell?_alloc_at (w:=w.drew) ROW _ w.heap.size j rfl,Array.getElem?_eq_getElem (by omega)]⟩,by rw [hW1,Nat.zero_add];exact World.frozen?_alloc_at (w:=w.drew) ROW _ w.heap.size j rfl⟩⟩
 have sA:=hNr.some (k * 5) 5 (by omega) (by omega)
 have hNr2:=hNr.setCells (k * 5) (zcells z) (fun j hj=>(sA j (by omega)).1)
 have sB:=hNr2.some ((k+1) * 5) (cellsZ (zs.drop k)).length (by omega) (by omega)
 have hE:Ext w W1:=by rw [hW1];exact ((Ext.refl w).drew).alloc _
 have hOb:NodesAt W1 g off zs:=hN.ext hbw hE
 have hOv:∀ j u,(zcells z)[j]?=some u→W1.cell? ⟨vb,0+j,none⟩=some u:=fun j u hu=>by
  rw [Nat.zero_add,(Ext.cell hE).1 _ _ hvw];simp [World.cell?,hv];simpa using hu
 have hcpA:∀ (W:World),(∀ x,W.cell? x=W1.cell? x)→(∀ x,W.frozen? x=W1.frozen? x)→∀ ty dc,(Builtin.copy_ #[33,33] ty #[.slice (some ⟨w.heap.size,k * 5,none⟩) (zs.length+1 - k) dc,.slice (some ⟨vb,0,none⟩) 1 1]).run Tryz.prog W = .ok (goInt (Nat.min 1 (zs.length+1 - k))) (W.setCells w.heap.size (k * 5) (zcells z)):=fun W hWc hWf ty dc =>
  copy_cells5 W ty w.heap.size (k * 5) _ dc ⟨vb,0,none⟩ 1 1 (zcells z) (by rw [hz5];simp only [Nat.min_def];split <;> omega)
   (fun j u hj=>by rw [Addr.add_lit,hWc];exact hOv j u hj) (fun j hj=>by rw [hWc,hWf];exact sA j (by omega)) (zcells_one z)
 have hbN:g≠w.heap.size:=by omega
 have hcpB:∀ (W:World),(∀ x,W.cell? x=(W1.setCells w.heap.size (k * 5) (zcells z)).cell? x)→(∀ x,W.frozen? x=(W1.setCells w.heap.size (k * 5) (zcells z)).frozen? x)→∀ ty dc sc,(Builtin.copy_ #[33,33] ty #[.slice (some ⟨w.heap.size,(k+1) * 5,none⟩) (zs.length - k) dc,.slice (some ⟨g,off+k * 5,none⟩) (zs.length - k) sc]).run Tryz.prog W = .ok (goInt (Nat.min (zs.length - k) (zs.length - k))) (W.setCells w.heap.size ((k+1) * 5) (cellsZ (zs.drop k))):=fun W hWc hWf ty dc sc =>
  copy_cells5 W ty w.heap.size ((k+1) * 5) _ dc ⟨g,off+k * 5,none⟩ _ sc (cellsZ (zs.drop k)) (by rw [hld];simp only [Nat.min_def];split <;> omega)
   (fun j u hj=>by
    rw [Addr.add_lit,hWc,World.cell?_setCells_out _ _ _ _ _ (fun h _=>absurd h hbN)]
    exact (hOb.drop k).news' j u hj)
   (fun j hj=>by rw [hWc,hWf];exact sB j hj) (cellsZ_one _)
 exact⟨hcpA,hcpB⟩
end Go.Proofs.YtpdejinkmnhioaaGreatDoor
namespace Go.Proofs.YtpdejinkmnhioaaGreatDoor
open Go.RowKit
theorem drew_alloc_cell (w:World) (o:Obj) (x:Addr):((w.alloc o).drew).cell? x=(w.drew.alloc o).cell? x:=rfl
theorem drew_alloc_frozen (w:World) (o:Obj) (x:Addr):((w.alloc o).drew).frozen? x=(w.drew.alloc o).frozen? x:=rfl
theorem drew_cell (w:World) (x:Addr):w.drew.cell? x=w.cell? x:=rfl
theorem drew_frozen (w:World) (x:Addr):w.drew.frozen? x=w.frozen? x:=rfl
theorem drew_alloc (w:World) (o:Obj):(w.alloc o).drew=w.drew.alloc o:=rfl
set_option maxHeartbeats 400000 in
set_option maxRecDepth 100000 in
theorem insert_grow (g off cap k vb:Nat) (zs:List Zn) (z:Zn) (w:World) (hW:Wide w g off cap zs) (hl:zs.length≤1000) (hk:k < zs.length) (hroom:cap < zs.length+1) (hvw:vb < w.heap.size)
  (hv:w.heap[vb]?=some (.cells (zcells z).toArray 144 (0,0))) :
  Calls Tryz.prog 257 #[.slice (some ⟨g,off,none⟩) zs.length cap,.int .i64 k,.slice (some ⟨vb,0,none⟩) 1 1] w fun e w' =>
   ∃ (G:Nat) (ROW:Array Value),e = .returned (.slice (some ⟨w.heap.size,0,none⟩) (zs.length+1) G)∧zs.length+1≤G∧G≤maxLen∧(zs.length+1) * 5≤ROW.size∧(∀ (j:Nat) (u:Value),(cellsZ (zs.take k))[j]?=some u→ROW[j]?=some u) ∧
   w'=(((w.alloc (.cells ROW 144)).drew.setCells w.heap.size (k * 5) (zcells z)).drew).setCells w.heap.size ((k+1) * 5) (cellsZ (zs.drop k)):=by
 obtain⟨G,ROW,hrz,hGn,hG63,hGm,hRl,hRt⟩:=grow_zeros g off cap k zs w hW hl hk hroom
 obtain⟨hcpA,hcpB⟩:=grow_copies g off cap k vb zs z w _ ROW hW hk hvw hv hRl rfl
 obtain⟨hnc,hcm,hp,-,-,tB,kB,hsb,hkB⟩:=hW
 unfold maxLen at hcm
 have hGi:¬ (G=k):=by omega
 have hGim:¬ (G=k+1):=by omega
 have hci:¬ (cap=k):=by omega
 have hkn:k≤zs.length:=by omega
 have hz2' : ¬ ((k:Int)=(zs.length:Int)):=by omega
 have hz3:(cap:Int) < (zs.length:Int)+1:=by omega
 have hw1:IntKind.i64.wrap ((k:Int)+1)=(k:Int)+1:=by rw [IntKind.wrap_i64];omega
 have hb1:(0:Int)≤(k:Int)+1:=by omega
 have htn:((k:Int)+1).toNat=k+1:=by omega
 have hb3:(k:Int)+1≤(zs.length:Int)+1:=by omega
 have hsub:zs.length+1 - (k+1)=zs.length - k:=by omega
 have HR:Hid (zs.length+1≤G∧G≤maxLen∧(zs.length+1) * 5≤ROW.size∧(∀ (j:Nat) (u:Value),(cellsZ (zs.take k))[j]?=some u→ROW[j]?=some u)):=⟨hGn,hGm,hRl,hRt⟩
 have HA:Hid (∀ (W:World),(∀ x,W.cell? x=(w.drew.alloc (.cells ROW 144)).cell? x)→(∀ x,W.frozen? x=(w.drew.alloc (.cells ROW 144)).frozen? x)→∀ ty dc,(Builtin.copy_ #[33,33] ty #[.slice (some ⟨w.heap.size,k * 5,none⟩) (zs.length+1 - k) dc,.slice (some ⟨vb,0,none⟩) 1 1]).run Tryz.prog W = .ok (goInt (Nat.min 1 (zs.length+1 - k))) (W.setCells w.heap.size (k * 5) (zcells z))):=hcpA
 have HB:Hid (∀ (W:World),(∀ x,W.cell? x=((w.drew.alloc (.cells ROW 144)).setCells w.heap.size (k * 5) (zcells z)).cell? x)→(∀ x,W.frozen? x=((w.drew.alloc (.cells ROW 144)).setCells w.heap.size (k * 5) (zcells z)).frozen? x)→∀ ty dc sc,(Builtin.copy_ #[33,33] ty #[.slice (some ⟨w.heap.size,(k+1) * 5,none⟩) (zs.length - k) dc,.slice (some ⟨g,off+k * 5,none⟩) (zs.length - k) sc]).run Tryz.prog W = .ok (goInt (Nat.min (zs.length - k) (zs.length - k))) (W.setCells w.heap.size ((k+1) * 5) (cellsZ (zs.drop k)))):=hcpB
 have HZ:Hid (∀ ty,(Builtin.append_ #[33,3] ty #[.slice (some ⟨g,off,none⟩) k cap,.int .i64 ((zs.length:Int)+1 - (k:Int))]).run Tryz.prog w = .ok (.slice (some ⟨w.heap.size,0,none⟩) (zs.length+1) G) (w.drew.alloc (.cells ROW 144))):=hrz
 clear hcpA hcpB hrz hGm hRl hRt
 go_enter Tryz.func257,Tryz.ntmps257
 go_wp2_with (at_builtin;refine Lib.wpList_append_run _ rfl _ _ _ _ rfl _ _ rfl rfl _ _ (HZ.out _) ?_)
 rw [HA.out _ (drew_alloc_cell w _) (drew_alloc_frozen w _) _ _]
 have hX:∀ ty dc sc,(Builtin.copy_ #[33,33] ty #[.slice (some ⟨w.heap.size,(k+1) * 5,none⟩) (zs.length - k) dc,.slice (some ⟨g,off+k * 5,none⟩) (zs.length - k) sc]).run Tryz.prog ((w.alloc (.cells ROW 144)).drew.setCells w.heap.size (k * 5) (zcells z)).drew = .ok (goInt (Nat.min (zs.length - k) (zs.length - k))) (((w.alloc (.cells ROW 144)).drew.setCells w.heap.size (k * 5) (zcells z)).drew.setCells w.heap.size ((k+1) * 5) (cellsZ (zs.drop k))):=fun ty dc sc=>HB.out _ (fun x=>by rw [drew_cell,drew_alloc]) (fun x=>by rw [drew_frozen,drew_alloc]) ty dc sc
 go_wp2
 go_region_law (refine step_copy_run5 rfl _ _ 33 33 rfl _ _ (by simp [Act.eval,Act.put]) (by simp [Act.eval,Act.put]) (hX _ _ _) ?_)
 go_wp2
 go_ret
 exact⟨G,ROW,rfl,HR.out.1,HR.out.2.1,HR.out.2.2.1,HR.out.2.2.2,rfl⟩
end Go.Proofs.YtpdejinkmnhioaaGreatDoor
namespace Go.Proofs.YtpdejinkmnhioaaGreatDoor
open Go.RowKit
theorem updSetCells {g:Nat} {w:World} : ∀ (vs:List Value) (o:Nat) (W:World),Upd g w W→Upd g w (W.setCells g o vs)
 | [],_,_,h=>h
 | _ :: vs,o,_,h=>updSetCells vs (o+1) _ (h.setAt o _)
theorem upd_drew {g:Nat} {w:World} (hg:g≤w.heap.size):Upd g w w.drew:=Upd.ext ((Ext.refl _).drew) hg
theorem room_drew {w:World} {g off n:Nat} (h:Room w g off n):Room w.drew g off n:=h
/-- What Insert leaves: the nodes with z among them in one block, nothing else turned but block g. -/
def InsRet (w:World) (g k:Nat) (zs:List Zn) (z:Zn) (e:Ending) (w' : World):Prop :=
 ∃ a cap g',e = .returned (.slice a (zs.length+1) cap)∧g≤g'∧Own w' (.slice a (zs.length+1) cap) g' (zs.take k ++ z :: zs.drop k)∧Upd g w w'
theorem ins_len (zs:List Zn) (z:Zn) {k:Nat} (hk:k≤zs.length):(zs.take k ++ z :: zs.drop k).length=zs.length+1:=by simp;omega
theorem own_ins {w' : World} {G OFF C:Nat} {zs:List Zn} {z:Zn} {k:Nat} (hk:k≤zs.length) (hC:zs.length+1≤C) (hm:C≤maxLen) (hR:Room w' G OFF (zs.length+1)) (hN:NodesAt w' G OFF (zs.take k ++ z :: zs.drop k)) :
  Own w' (.slice (some ⟨G,OFF,none⟩) (zs.length+1) C) G (zs.take k ++ z :: zs.drop k):=by
 have hl:=ins_len zs z hk
 refine⟨_,C,by rw [hl],by rw [hl];exact hC,hm,fun _=>⟨OFF,rfl,by rw [hl];exact hR,hN⟩⟩
theorem in_setCells {w:World} {b o:Nat} {vs:List Value} (hs:∀ j,j < vs.length→(w.cell? ⟨b,o+j,none⟩).isSome=true) {j:Nat} {u:Value} (hj:vs[j]?=some u):(w.setCells b o vs).cell? ⟨b,o+j,none⟩=some u:=by
 obtain⟨h1,rfl⟩:=List.getElem?_eq_some_iff.1 hj
 exact World.cell?_setCells_in b vs o w hs j h1
theorem out_setCells (w:World) {b o:Nat} (vs:List Value) {c k:Nat} (h:c≠b∨k < o∨o+vs.length≤k):(w.setCells b o vs).cell? ⟨c,k,none⟩=w.cell? ⟨c,k,none⟩ :=
 World.cell?_setCells_out b vs o w ⟨c,k,none⟩ (fun h1 _=>by rcases h with h | h;exact absurd h1 h;exact h)
set_option maxHeartbeats 400000 in
theorem ins_shift {g off cap k:Nat} {zs:List Zn} {z:Zn} {w:World} (hW:Wide w g off cap zs) (hk:k≤zs.length) (hroom:zs.length+1≤cap) {W2:World}
  (hW2:W2=(w.drew.setCells g (off+(k+1) * 5) (cellsZ (zs.drop k))).setCells g (off+k * 5) (zcells z)):InsRet w g k zs z (.returned (.slice (some ⟨g,off,none⟩) (zs.length+1) cap)) W2:=by
 obtain⟨hnc,hcm,hp,hR,hN,-⟩:=hW
 refine n67z ?_
 intro hld
 have hz5:(zcells z).length=5:=rfl
 have hRd:Room w.drew g off cap:=hR
 refine n72z ?_
 intro s1 hR1 s2
 have hR2:=hR1.setCells (off+k * 5) (zcells z) (fun j hj=>(s2 j (by omega)).1)
 rw [← hW2] at hR2
 refine⟨_,cap,g,rfl,Nat.le_refl _,own_ins hk hroom hcm (hR2.less hroom) ?_,?_⟩
 ·refine spread (W:=w.drew) z hk (fun j u hj=>(NodesAt.news' (w:=w.drew) (hN.take k)) j u hj) (fun j hj=>?_) (fun j u hj=>?_) (fun j u hj=>?_)
  ·rw [hW2,out_setCells _ _ (by omega),out_setCells _ _ (by omega)]
  ·rw [hW2]
   exact in_setCells (fun i hi=>(s2 i (by omega)).1) hj
  ·have hj5:=(List.getElem?_eq_some_iff.1 hj).1
   rw [hW2,out_setCells _ _ (by omega)]
   exact in_setCells (fun i hi=>(s1 i hi).1) hj
 ·rw [hW2]
  exact updSetCells _ _ _ (updSetCells _ _ _ (upd_drew (Nat.le_of_lt hR.1)))
set_option maxHeartbeats 400000 in
theorem ins_room {g off cap:Nat} {zs:List Zn} {z:Zn} {w:World} (hW:Wide w g off cap zs) (hroom:zs.length+1≤cap) {W2:World}
  (hW2:W2=w.setCells g (off+zs.length * 5) (zcells z)):InsRet w g zs.length zs z (.returned (.slice (some ⟨g,off,none⟩) (zs.length+1) cap)) W2:=by
 obtain⟨hnc,hcm,hp,hR,hN,-⟩:=hW
 have hz5:(zcells z).length=5:=rfl
 have s2:=hR.some (off+zs.length * 5) 5 (by omega) (by omega)
 have hR2:=hR.setCells (off+zs.length * 5) (zcells z) (fun j hj=>(s2 j (by omega)).1)
 rw [← hW2] at hR2
 refine⟨_,cap,g,rfl,Nat.le_refl _,own_ins (Nat.le_refl _) hroom hcm (hR2.less hroom) ?_,?_⟩
 ·refine spread (W:=w) z (Nat.le_refl _) (fun j u hj=>(hN.take zs.length).news' j u hj) (fun j hj=>?_) (fun j u hj=>?_) (fun j u hj=>?_)
  ·rw [hW2,out_setCells _ _ (by omega)]
  ·rw [hW2]
   exact in_setCells (fun i hi=>(s2 i (by omega)).1) hj
  ·rw [List.drop_length] at hj;simp [cellsZ] at hj
 ·rw [hW2]
  exact updSetCells _ _ _ (Upd.refl _ _)
set_option maxHeartbeats 400000 in
theorem ins_end {g off cap:Nat} {zs:List Zn} {z:Zn} {w:World} (hW:Wide w g off cap zs) {C:Nat} (hC:zs.length+1≤C) (hCm:C≤maxLen) (more:Array Value) {W2:World}
  (hW2:W2=w.drew.alloc (.cells ((cellsZ zs ++ zcells z).toArray ++ more) 144)):InsRet w g zs.length zs z (.returned (.slice (some ⟨w.heap.size,0,none⟩) (zs.length+1) C)) W2:=by
 obtain⟨hnc,hcm,hp,hR,hN,-⟩:=hW
 have hz5:(zcells z).length=5:=rfl
 have hcl:(cellsZ zs).length=zs.length * 5:=cellsZ_length zs
 have hat:∀ j u,(cellsZ zs ++ zcells z)[j]?=some u→W2.cell? ⟨w.heap.size,0+j,none⟩=some u:=fun j u hj=>by
  have h1:=(List.getElem?_eq_some_iff.1 hj).1
  rw [hW2,Nat.zero_add,World.cell?_alloc_at (w:=w.drew) _ _ w.heap.size j rfl,Array.getElem?_append_left (by simpa using h1)]
  simpa using hj
 have hsz:(zs.length+1) * 5≤((cellsZ zs ++ zcells z).toArray ++ more).size:=by
  rw [Array.size_append,List.size_toArray,List.length_append,hcl,hz5];omega
 have hR2:Room W2 w.heap.size 0 (zs.length+1):=by
  refine⟨by rw [hW2];simp,fun j hj=>⟨⟨((cellsZ zs ++ zcells z).toArray ++ more)[j]'(by omega),?_⟩,?_⟩⟩
  ·rw [hW2,Nat.zero_add,World.cell?_alloc_at (w:=w.drew) _ _ w.heap.size j rfl,Array.getElem?_eq_getElem (by omega)]
  ·rw [hW2,Nat.zero_add];exact World.frozen?_alloc_at (w:=w.drew) _ _ w.heap.size j rfl
 refine⟨_,C,w.heap.size,rfl,Nat.le_of_lt hR.1,own_ins (Nat.le_refl _) hC hCm hR2 ?_,?_⟩
 ·refine spread (W:=W2) z (Nat.le_refl _) (fun j u hj=>?_) (fun _ _=>rfl) (fun j u hj=>?_) (fun j u hj=>?_)
  ·rw [List.take_length] at hj
   have h1:=(List.getElem?_eq_some_iff.1 hj).1
   exact hat j u (by rw [List.getElem?_append_left h1];exact hj)
  ·have h1:=(List.getElem?_eq_some_iff.1 hj).1
   have:=hat (zs.length * 5+j) u (by rw [List.getElem?_append_right (by omega),hcl,Nat.add_sub_cancel_left];exact hj)
   rw [Nat.add_assoc];exact this
  ·rw [List.drop_length] at hj;simp [cellsZ] at hj
 ·rw [hW2]
  exact Upd.ext (((Ext.refl w).drew).alloc _) (Nat.le_of_lt hR.1)
set_option maxHeartbeats 400000 in
theorem ins_grow {g off cap k:Nat} {zs:List Zn} {z:Zn} {w:World} (hW:Wide w g off cap zs) (hk:k≤zs.length) {C:Nat} (hC:zs.length+1≤C) (hCm:C≤maxLen) (ROW:Array Value) (hRl:(zs.length+1) * 5≤ROW.size)
  (hRt:∀ (j:Nat) (u:Value),(cellsZ (zs.take k))[j]?=some u→ROW[j]?=some u) {W2:World}
  (hW2:W2=(((w.alloc (.cells ROW 144)).drew.setCells w.heap.size (k * 5) (zcells z)).drew).setCells w.heap.size ((k+1) * 5) (cellsZ (zs.drop k))):InsRet w g k zs z (.returned (.slice (some ⟨w.heap.size,0,none⟩) (zs.length+1) C)) W2:=by
 obtain⟨hnc,hcm,hp,hR,hN,-⟩:=hW
 have hz5:(zcells z).length=5:=rfl
 refine n67z ?_
 intro hld
 refine n70z ?_
 intro hlt
 obtain⟨W0,hW0⟩:∃ W0,W0=(w.alloc (.cells ROW 144)).drew:=⟨_,rfl⟩
 have hE0:Ext w W0:=by rw [hW0];exact ((Ext.refl w).alloc _).drew
 have hc0:∀ j,W0.cell? ⟨w.heap.size,j,none⟩=ROW[j]?:=fun j=>by
  rw [hW0,drew_cell];exact World.cell?_alloc_at (w:=w) ROW _ w.heap.size j rfl
 have hR0:Room W0 w.heap.size 0 (zs.length+1):=by
  refine⟨by rw [hW0];show w.heap.size < (w.alloc _).heap.size;simp,fun j hj=>⟨⟨ROW[j]'(by omega),?_⟩,?_⟩⟩
  ·rw [Nat.zero_add,hc0,Array.getElem?_eq_getElem (by omega)]
  ·rw [Nat.zero_add,hW0,drew_frozen];exact World.frozen?_alloc_at (w:=w) ROW _ w.heap.size j rfl
 have s1:=hR0.some (k * 5) 5 (by omega) (by omega)
 have hR1:=hR0.setCells (k * 5) (zcells z) (fun j hj=>(s1 j (by omega)).1)
 rw [← hW0] at hW2
 obtain⟨W1,hW1⟩:∃ W1,W1=(W0.setCells w.heap.size (k * 5) (zcells z)).drew:=⟨_,rfl⟩
 rw [← hW1] at hW2
 have hR1' : Room W1 w.heap.size 0 (zs.length+1):=by rw [hW1];exact room_drew hR1
 have s2:=hR1'.some ((k+1) * 5) (cellsZ (zs.drop k)).length (by omega) (by omega)
 have hR2:=hR1'.setCells ((k+1) * 5) (cellsZ (zs.drop k)) (fun j hj=>(s2 j hj).1)
 rw [← hW2] at hR2
 refine⟨_,C,w.heap.size,rfl,Nat.le_of_lt hR.1,own_ins hk hC hCm hR2 ?_,?_⟩
 ·refine spread (W:=W0) z hk (fun j u hj=>?_) (fun j hj=>?_) (fun j u hj=>?_) (fun j u hj=>?_)
  ·rw [Nat.zero_add,hc0];exact hRt j u hj
  ·rw [Nat.zero_add,hW2,out_setCells _ _ (by omega),hW1,drew_cell,out_setCells _ _ (by omega)]
  ·have hj5:=(List.getElem?_eq_some_iff.1 hj).1
   rw [Nat.zero_add,hW2,out_setCells _ _ (by omega),hW1,drew_cell]
   exact in_setCells (fun i hi=>(s1 i (by omega)).1) hj
  ·rw [Nat.zero_add,hW2]
   exact in_setCells (fun i hi=>(s2 i hi).1) hj
 ·have hU:Upd w.heap.size w W2:=by
   rw [hW2]
   refine updSetCells _ _ _ ?_
   have h1:Upd w.heap.size w (W0.setCells w.heap.size (k * 5) (zcells z)):=updSetCells _ _ _ (Upd.ext hE0 (Nat.le_refl _))
   rw [hW1]
   exact h1.trans (upd_drew h1.2.1)
  exact Upd.ext (hU.to_ext (Ext.refl _) (Nat.le_refl _)) (Nat.le_of_lt hR.1)
theorem insertZ_any (g off cap k vb:Nat) (zs:List Zn) (z:Zn) (w:World) (hW:Wide w g off cap zs) (hl:zs.length≤1000) (hk:k≤zs.length) (hvb:vb≠g) (hvw:vb < w.heap.size)
  (hv:w.heap[vb]?=some (.cells (zcells z).toArray 144 (0,0))) :
  Calls Tryz.prog 257 #[.slice (some ⟨g,off,none⟩) zs.length cap,.int .i64 k,.slice (some ⟨vb,0,none⟩) 1 1] w (InsRet w g k zs z):=by
 by_cases hroom:zs.length+1≤cap
 ·by_cases hke:k=zs.length
  ·subst hke
   exact (insert_end_room g off cap vb zs z w hW hroom hv).mono fun e w' ⟨he,hw⟩=>by rw [he];exact ins_room hW hroom hw
  ·exact (insert_shift g off cap k vb zs z w hW (by omega) hroom hvb hv).mono fun e w' ⟨he,hw⟩=>by rw [he];exact ins_shift hW hk hroom hw
 ·by_cases hke:k=zs.length
  ·subst hke
   exact (insert_end_grow g off cap vb zs z w hW hl (by omega) hv).mono fun e w' ⟨he,hw⟩=>by
    rw [he]
    exact ins_end hW (grownCap_ge w _ _ _) (grownCap_le_maxLen w _ _ _ (by have:=hW.2.1;unfold maxLen at *;omega)) _ hw
  ·exact (insert_grow g off cap k vb zs z w hW hl (by omega) (by omega) hvw hv).mono fun e w' ⟨G,ROW,he,h1,h2,h3,h4,hw⟩=>by
    rw [he]
    exact ins_grow hW hk h1 h2 ROW h3 h4 hw
end Go.Proofs.YtpdejinkmnhioaaGreatDoor
