/- O5, O6, YA10, YE1, YE2, in one text. -/
import Derived.Test.YtpdejinkmnhioaaGreatDoorAoJ33
import Derived.Deep.RegionHeld3
import Derived.Test.YtpdejinkmnhioaaGreatDoorAoO4a
import Derived.Test.YtpdejinkmnhioaaGreatDoorAoO4b
import Derived.Test.YtpdejinkmnhioaaGreatDoorAoJ22
import Derived.Test.YtpdejinkmnhioaaGreatDoorAoMk
namespace Go.Proofs.YtpdejinkmnhioaaGreatDoor
open Go.RowKit
namespace Opr
/-- What is left of an operation when all is taken away that its kind has. -/
def rest (o:Opn):Opn :=
 if o.kind=3 then ⟨o.kind,⟨#[]⟩,0,o.version,false,false⟩
 else if o.kind=5 then ⟨o.kind,⟨#[]⟩,0,0,o.seq,o.own⟩
 else if o.kind=4∨o.kind=8 then ⟨o.kind,⟨#[]⟩,o.data,0,o.seq,o.own⟩
 else if o.kind=6∨o.kind=7 then ⟨o.kind,⟨#[]⟩,o.data,o.version,o.seq,o.own⟩ else o
theorem kinds {k:Int} (h1:1≤k) (h8:k≤8):k=1∨k=2∨k=3∨k=4∨k=5∨k=6∨k=7∨k=8:=by omega
theorem rest_kind (o:Opn):(rest o).kind=o.kind:=by
 unfold rest
 split
 ·rfl
 ·split
  ·rfl
  ·split
   ·rfl
   ·split <;> rfl
theorem rest_bare {o:Opn} (h1:1≤o.kind) (h8:o.kind≤8) (h:extra o=false):(rest o).path=⟨#[]⟩∧(rest o).data=0∧(rest o).version=0∧(rest o).seq=false∧(rest o).own=false:=by
 obtain⟨k,p,d,v,s,q⟩:=o
 rcases kinds h1 h8 with e | e | e | e | e | e | e | e <;> simp only at e <;> subst e <;> (simp [extra,hasPath,hasData,hasVer] at h;simp [rest,h])
theorem rest_more {o:Opn} (h1:1≤o.kind) (h8:o.kind≤8) (h:extra o=true):¬ (rest o).path=⟨#[]⟩∨¬ (rest o).data=0∨¬ (rest o).version=0∨(rest o).seq=true∨(rest o).own=true:=by
 obtain⟨k,p,d,v,s,q⟩:=o
 rcases kinds h1 h8 with e | e | e | e | e | e | e | e <;> simp only at e <;> subst e <;> (simp [extra,hasPath,hasData,hasVer] at h;simpa [rest] using h)
end Opr
theorem neq_bare (p:ByteArray) (k d v:Int) (s q:Bool) (W:World) (h:¬ p=⟨#[]⟩∨¬ d=0∨¬ v=0∨s=true∨q=true):(binOp .neq 42 (.agg #[.int .i64 k,.string p,.int .i64 d,.int .i64 v,.bool s,.bool q]) (.agg #[.int .i64 k,.string ⟨#[]⟩,.int .i64 0,.int .i64 0,.bool false,.bool false])).run Tryz.prog W = .ok (.bool true) W:=by
 go_simp
 intro hp hd hv hs
 rcases h with h | h | h | h | h
 ·refine absurd (ba_eq ?_) h
  have:=beq_val p ⟨#[]⟩
  rw [hp] at this
  have e0:(⟨#[]⟩:ByteArray).toList = []:=by unfold ByteArray.toList;rw [ByteArray.toList.loop];simp;intro h;exact absurd h (by decide)
  rw [e0] at this
  exact of_decide_eq_true (this.symm.trans (by decide))
 ·exact absurd hd h
 ·exact absurd hv h
 ·rw [hs] at h;cases h
 ·exact h
theorem beyondKind_any (z:Opn) (w:World) (h1:1≤z.kind) (h8:z.kind≤8):Calls Tryz.prog 125 #[oagg z] w fun e w'=>e = .returned (oagg (Opr.rest z))∧Ext w w':=by
 obtain⟨k,p,d,v,s,q⟩:=z
 rcases Opr.kinds h1 h8 with e | e | e | e | e | e | e | e <;> simp only at e <;> subst e
 ·exact beyondKind_1 p d v s q w
 ·exact beyondKind_2 p d v s q w
 ·exact beyondKind_3 p d v s q w
 ·exact beyondKind_4 p d v s q w
 ·exact beyondKind_5 p d v s q w
 ·exact beyondKind_6 p d v s q w
 ·exact beyondKind_7 p d v s q w
 ·exact beyondKind_8 p d v s q w
set_option maxHeartbeats 4000000 in
set_option maxRecDepth 100000 in
theorem implOpFault_in (z:Opn) (h1:1≤z.kind) (h8:z.kind≤8) (w:World) (hg:Gd w) :
  Calls Tryz.prog 58 #[oagg z] w fun e w'=>e = .returned (.int .i64 (Opr.fault z))∧Ext w w':=by
 obtain⟨R,hR⟩:∃ R,R=Opr.fault z:=⟨_,rfl⟩
 have HR:Hid (R=Opr.fault z):=hR
 rw [← hR]
 clear hR
 have HPF0:Hid (∀ wx:World,Ext w wx→Calls Tryz.prog 127 #[.string z.path] wx fun e w'=>e = .returned (.int .i64 (Pth.faultI z.path.data.toList))∧Ext wx w'):=fun wx he=>pathFault_any z.path wx (hg.ext he)
 have HOS:Hid (∀ wx:World,Calls Tryz.prog 126 #[oagg z] wx fun e w'=>e = .returned (.bool (decide (z.kind=1) || decide (z.kind=2)))∧Ext wx w'):=isOfSession_any z
 have hcw:(decide (1≤z.kind) && decide (z.kind≤8))=true:=by simp [h1,h8]
 have CW:Hid (∀ wx:World,Calls Tryz.prog 57 #[.int .i64 z.kind,.int .i64 1,.int .i64 8] wx fun e w'=>e = .returned (.bool true)∧w'=wx):=by rw [← hcw];exact isWithin_any z.kind 1 8
 have CD:Hid (∀ wx:World,Calls Tryz.prog 90 #[.int .i64 z.data,.int .i64 9999] wx fun e w'=>e = .returned (.bool (decide (0≤z.data) && decide (z.data≤9999)))∧w'=wx):=isUpToO_any z.data 9999
 have CV:Hid (∀ wx:World,Calls Tryz.prog 57 #[.int .i64 z.version,.int .i64 (-1),.int .i64 999] wx fun e w'=>e = .returned (.bool (decide (-1≤z.version) && decide (z.version≤999)))∧w'=wx):=isWithin_any z.version (-1) 999
 have HBK:Hid (∀ wx:World,Calls Tryz.prog 125 #[oagg z] wx fun e w'=>e = .returned (oagg (Opr.rest z))∧Ext wx w'):=fun wx=>beyondKind_any z wx h1 h8
 have HX1:Hid (∀ t,OBoxAt (w.alloc (.cells #[.int .i64 z.kind,.string z.path,.int .i64 z.data,.int .i64 z.version,.bool z.seq,.bool z.own] t)) w.heap.size z):=fun t=>obox_new w z t
 have HK:Hid (1≤z.kind∧z.kind≤8):=⟨h1,h8⟩
 have hyk:=Opr.rest_kind z
 have hyb:=fun h=>Opr.rest_bare h1 h8 (o:=z) h
 have hym:=fun h=>Opr.rest_more h1 h8 (o:=z) h
 generalize Opr.rest z=y at *
 obtain⟨yk,yp,yd,yv,ys,yo⟩:=y
 simp only at hyk hyb hym
 subst hyk
 clear hcw hg h1 h8
 unfold oagg at *
 cases hx:Opr.extra z with
 | true =>
  have HF:Hid (R=1):=HR.out.trans (Opr.fault_extra hx)
  have hq:=hym hx
  clear hym hyb hx HPF0 HOS CD CV HR HK
  go_enter Tryz.func58,Tryz.ntmps58
  go_wp2
  obtain⟨x1,z0,z1,z2,z3,z4,z5⟩:=HX1.out 42
  have hE:Hid (Ext w (w.alloc (.cells #[.int .i64 z.kind,.string z.path,.int .i64 z.data,.int .i64 z.version,.bool z.seq,.bool z.own] 42))):=(Ext.refl _).alloc _
  generalize w.alloc (.cells #[.int .i64 z.kind,.string z.path,.int .i64 z.data,.int .i64 z.version,.bool z.seq,.bool z.own] 42)=w1 at *
  have HX:Hid (∀ W,Ext w1 W→OBoxAt W w.heap.size z):=fun W he=>OBoxAt.ext ⟨x1,z0,z1,z2,z3,z4,z5⟩ he
  clear HX1
  have hne:∀ W:World,(binOp .neq 42 (.agg #[.int .i64 z.kind,.string yp,.int .i64 yd,.int .i64 yv,.bool ys,.bool yo]) (.agg #[.int .i64 z.kind,.string ⟨#[]⟩,.int .i64 0,.int .i64 0,.bool false,.bool false])).run Tryz.prog W = .ok (.bool true) W:=fun W=>neq_bare _ _ _ _ _ _ W hq
  clear hq
  go_region_held3 (fun W=>W.cell? ⟨w.heap.size,0,none⟩=some (.int .i64 z.kind)∧W.cell? ⟨w.heap.size,1,none⟩=some (.string z.path)∧W.cell? ⟨w.heap.size,2,none⟩=some (.int .i64 z.data)∧W.cell? ⟨w.heap.size,3,none⟩=some (.int .i64 z.version)∧W.cell? ⟨w.heap.size,4,none⟩=some (.bool z.seq)∧W.cell? ⟨w.heap.size,5,none⟩=some (.bool z.own)) (first | exact⟨z0,z1,z2,z3,z4,z5⟩ | exact (HX.out _ X2.out).2 | go_keep) (first | (go_at_call 57;refine (CW.out _).mono ?_;rintro e w9 ⟨rfl,hw9⟩;rw [hw9];clear hw9 w9) | (go_at_call 125;refine (HBK.out _).mono ?_;rintro e w2 ⟨rfl,hb2⟩;have X2:Hid (Ext w1 w2):=(by first | exact ((Ext.refl _).drew).trans hb2 | exact hb2);clear hb2))
  all_goals
   go_wp2
   go_ret
   exact⟨ret_int HF.out.symm,hE.out.trans X2.out⟩
 | false =>
  obtain⟨rfl,rfl,rfl,rfl,rfl⟩:=hyb hx
  have HXF:Hid (Opr.extra z=false):=hx
  clear hym hyb hx
  go_enter Tryz.func58,Tryz.ntmps58
  go_wp2
  obtain⟨x1,z0,z1,z2,z3,z4,z5⟩:=HX1.out 42
  have hE:Hid (Ext w (w.alloc (.cells #[.int .i64 z.kind,.string z.path,.int .i64 z.data,.int .i64 z.version,.bool z.seq,.bool z.own] 42))):=(Ext.refl _).alloc _
  generalize w.alloc (.cells #[.int .i64 z.kind,.string z.path,.int .i64 z.data,.int .i64 z.version,.bool z.seq,.bool z.own] 42)=w1 at *
  have HX:Hid (∀ W,Ext w1 W→OBoxAt W w.heap.size z):=fun W he=>OBoxAt.ext ⟨x1,z0,z1,z2,z3,z4,z5⟩ he
  clear HX1
  go_region_held3 (fun W=>W.cell? ⟨w.heap.size,0,none⟩=some (.int .i64 z.kind)∧W.cell? ⟨w.heap.size,1,none⟩=some (.string z.path)∧W.cell? ⟨w.heap.size,2,none⟩=some (.int .i64 z.data)∧W.cell? ⟨w.heap.size,3,none⟩=some (.int .i64 z.version)∧W.cell? ⟨w.heap.size,4,none⟩=some (.bool z.seq)∧W.cell? ⟨w.heap.size,5,none⟩=some (.bool z.own)) (first | exact⟨z0,z1,z2,z3,z4,z5⟩ | exact (HX.out _ X2.out).2 | go_keep) (first | (go_at_call 57;refine (CW.out _).mono ?_;rintro e w9 ⟨rfl,hw9⟩;rw [hw9];clear hw9 w9) | (go_at_call 125;refine (HBK.out _).mono ?_;rintro e w2 ⟨rfl,hb2⟩;have X2:Hid (Ext w1 w2):=(by first | exact ((Ext.refl _).drew).trans hb2 | exact hb2);clear hb2))
  have hSe:Hid (∀ b,b=(decide (z.kind=1) || decide (z.kind=2))→b=true∧Opr.hasPath z.kind=false∨b=false∧Opr.hasPath z.kind=true):=fun b hb=>by
   subst hb
   unfold Opr.hasPath
   rcases Opr.kinds HK.out.1 HK.out.2 with e | e | e | e | e | e | e | e <;> rw [e] <;> decide
  generalize hbS:(decide (z.kind=1) || decide (z.kind=2))=bS at *
  have HSe:Hid (bS=true∧Opr.hasPath z.kind=false∨bS=false∧Opr.hasPath z.kind=true):=hSe.out bS rfl
  have HRg:Hid (∀ a b,a=(decide (0≤z.data) && decide (z.data≤9999))→b=(decide (-1≤z.version) && decide (z.version≤999))→(Opr.hasPath z.kind=false∨Pth.faultI z.path.data.toList=0)→R=if a=true∧b=true then 0 else 3):=fun a b ha hb hp=>by
   subst ha hb
   by_cases hr:Opr.inR z=true
   ·rw [HR.out,Opr.fault_ok HK.out.1 HK.out.2 HXF.out hp hr]
    unfold Opr.inR at hr
    simp at hr
    simp [hr]
   ·rw [HR.out,Opr.fault_range HK.out.1 HK.out.2 HXF.out hp (by simpa using hr)]
    unfold Opr.inR at hr
    rw [if_neg]
    simp at hr ⊢
    omega
  have HRp:Hid (Opr.hasPath z.kind=true→¬ Pth.faultI z.path.data.toList=0→R=Pth.faultI z.path.data.toList):=fun hp h0=>HR.out.trans (Opr.fault_path HK.out.1 HK.out.2 HXF.out hp rfl h0)
  generalize Pth.faultI z.path.data.toList=c at *
  generalize hbD:(decide (0≤z.data) && decide (z.data≤9999))=bD at *
  generalize hbV:(decide (-1≤z.version) && decide (z.version≤999))=bV at *
  have HR2:Hid ((Opr.hasPath z.kind=false∨c=0)→R=if bD=true∧bV=true then 0 else 3):=HRg.out bD bV rfl rfl
  have E2:Hid (Ext w w2):=hE.out.trans X2.out
  clear hSe hbS HRg hbD hbV HXF HR HK HBK CW z0 z1 z2 z3 z4 z5 x1
  obtain⟨x1,z0,z1,z2,z3,z4,z5⟩:=HX.out _ X2.out
  go_wp2_with fail
  refine (HOS.out _).mono ?_
  rintro e w3 ⟨rfl,hb⟩
  have E3:Hid (Ext w w3):=E2.out.trans hb
  have X3:Hid (Ext w1 w3):=X2.out.trans hb
  clear hb E2 X2 HOS z0 z1 z2 z3 z4 z5 x1
  obtain⟨x1,z0,z1,z2,z3,z4,z5⟩:=HX.out _ X3.out
  rcases HSe.out with ⟨rfl,hp⟩ | ⟨rfl,hp⟩
  ·have HF:Hid (R=if bD=true∧bV=true then 0 else 3):=HR2.out (Or.inl hp)
   clear hp HR2 HRp HSe HPF0
   cases bD <;> cases bV
   all_goals
    go_wp2_with (first | (go_at_call 57;refine (CV.out _).mono ?_;rintro e w9 ⟨rfl,hw9⟩;rw [hw9];clear hw9 w9) | (go_at_call 90;refine (CD.out _).mono ?_;rintro e w9 ⟨rfl,hw9⟩;rw [hw9];clear hw9 w9))
    go_ret
    exact⟨ret_int HF.out.symm,E3.out⟩
  ·have HP:Hid (Opr.hasPath z.kind=true):=hp
   clear hp HSe
   go_wp2_with fail
   refine (HPF0.out _ E3.out).mono ?_
   rintro e w4 ⟨rfl,hb⟩
   have E4:Hid (Ext w w4):=E3.out.trans hb
   have X4:Hid (Ext w1 w4):=X3.out.trans hb
   clear hb E3 X3 HPF0 z0 z1 z2 z3 z4 z5 x1
   obtain⟨x1,z0,z1,z2,z3,z4,z5⟩:=HX.out _ X4.out
   by_cases hc0:c=0
   ·have HF:Hid (R=if bD=true∧bV=true then 0 else 3):=HR2.out (Or.inr hc0)
    subst hc0
    clear HR2 HRp HP
    cases bD <;> cases bV
    all_goals
     go_wp2_with (first | (go_at_call 57;refine (CV.out _).mono ?_;rintro e w9 ⟨rfl,hw9⟩;rw [hw9];clear hw9 w9) | (go_at_call 90;refine (CD.out _).mono ?_;rintro e w9 ⟨rfl,hw9⟩;rw [hw9];clear hw9 w9))
     go_ret
     exact⟨ret_int HF.out.symm,E4.out⟩
   ·have HF:Hid (R=c):=HRp.out HP.out hc0
    have hcb:(c != 0)=true:=by simpa using hc0
    clear HR2 HRp HP
    go_wp2
    go_ret
    exact⟨ret_int HF.out.symm,E4.out⟩
end Go.Proofs.YtpdejinkmnhioaaGreatDoor
namespace Go.Proofs.YtpdejinkmnhioaaGreatDoor
open Go.RowKit
theorem kinds8 {k:Int} (h1:1≤k) (h8:k≤8):k=1∨k=2∨k=3∨k=4∨k=5∨k=6∨k=7∨k=8:=by omega
set_option maxHeartbeats 1000000 in
theorem l5Op_any (b off:Nat) (z:Opn) (w:World) (hb:b < w.heap.size) (hO:OAt w b off z) :
  Calls Tryz.prog 51 #[.pointer (some ⟨b,off,none⟩)] w fun e w'=>e = .returned (.int .i64 (Opr.fault z))∧Ext w w':=by
 by_cases hk:1≤z.kind∧z.kind≤8
 ·obtain⟨k,p,d,v,s,q⟩:=z
  rcases kinds8 hk.1 hk.2 with h | h | h | h | h | h | h | h <;> simp only at h <;> subst h
  ·exact l5Op_1 b off p d v s q w hb hO
  ·exact l5Op_2 b off p d v s q w hb hO
  ·exact l5Op_3 b off p d v s q w hb hO
  ·exact l5Op_4 b off p d v s q w hb hO
  ·exact l5Op_5 b off p d v s q w hb hO
  ·exact l5Op_6 b off p d v s q w hb hO
  ·exact l5Op_7 b off p d v s q w hb hO
  ·exact l5Op_8 b off p d v s q w hb hO
 ·have HF:Hid (Opr.fault z=1):=Opr.fault_kind (by omega)
  have hbv:(decide (1≤z.kind) && decide (z.kind≤8))=false:=by simp;omega
  have HC:Hid (∀ wx:World,Calls Tryz.prog 104 #[.int .i64 z.kind,.int .i64 1,.int .i64 8] wx fun e w'=>e = .returned (.bool false)∧w'=wx):=by intro wx;rw [← hbv];exact l1In_any z.kind 1 8 wx
  have c0:=hO.1
  generalize z.kind=k at *
  clear hbv hO hk
  go_enter Tryz.func51,Tryz.ntmps51
  go_wp2_with (go_at_call 104;refine (HC.out _).mono ?_;rintro e w9 ⟨rfl,hw9⟩;rw [hw9];clear hw9 w9)
  go_ret
  exact⟨ret_int HF.out.symm,Ext.refl _⟩
set_option maxHeartbeats 2000000 in
set_option maxRecDepth 100000 in
theorem implOpFault_any (z:Opn) (w:World) (hg:Gd w):Calls Tryz.prog 58 #[oagg z] w fun e w'=>e = .returned (.int .i64 (Opr.fault z))∧Ext w w':=by
 by_cases hk:1≤z.kind∧z.kind≤8
 ·exact implOpFault_in z hk.1 hk.2 w hg
 ·have HF:Hid (Opr.fault z=1):=Opr.fault_kind (by omega)
  have hbv:(decide (1≤z.kind) && decide (z.kind≤8))=false:=by simp;omega
  have HC:Hid (∀ wx:World,Calls Tryz.prog 57 #[.int .i64 z.kind,.int .i64 1,.int .i64 8] wx fun e w'=>e = .returned (.bool false)∧w'=wx):=by intro wx;rw [← hbv];exact isWithin_any z.kind 1 8 wx
  clear hbv hk hg
  unfold oagg
  go_enter Tryz.func58,Tryz.ntmps58
  go_wp2
  first | (go_region_with (go_at_call 57;refine (HC.out _).mono ?_;rintro e w9 ⟨rfl,hw9⟩;rw [hw9];clear hw9 w9)) | fail
  all_goals
   go_wp2
   go_ret
   exact⟨ret_int HF.out.symm,((Ext.refl _).alloc _).drew⟩
end Go.Proofs.YtpdejinkmnhioaaGreatDoor
namespace Go.Proofs.YtpdejinkmnhioaaGreatDoor
open Go.RowKit
namespace Sta
def none:Stt:=⟨[],[],0,[]⟩
/-- What an operation of a client makes of any state. -/
def applyV (s:Stt) (c:Int) (z:Opn):Int × Ry × Stt :=
 if fault s≠0 then (fault s,bad 0,none) else if (decide (1≤c) && decide (c≤9))=false then (3,bad 0,none) else if Opr.fault z≠0 then (Opr.fault z,bad 0,none) else (0,(doT s c z).1,(doT s c z).2)
theorem applyV_f {s:Stt} {c:Int} {z:Opn} (h:fault s≠0):applyV s c z=(fault s,bad 0,none):=by unfold applyV;rw [if_pos h]
theorem applyV_c {s:Stt} {c:Int} {z:Opn} (h:fault s=0) (hc:(decide (1≤c) && decide (c≤9))=false):applyV s c z=(3,bad 0,none):=by unfold applyV;rw [if_neg (by simp [h]),if_pos hc]
theorem applyV_z {s:Stt} {c:Int} {z:Opn} (h:fault s=0) (hc:(decide (1≤c) && decide (c≤9))=true) (hz:Opr.fault z≠0):applyV s c z=(Opr.fault z,bad 0,none):=by unfold applyV;rw [if_neg (by simp [h]),if_neg (by rw [hc];decide),if_pos hz]
theorem applyV_ok {s:Stt} {c:Int} {z:Opn} (h:fault s=0) (hc:(decide (1≤c) && decide (c≤9))=true) (hz:Opr.fault z=0):applyV s c z=(0,(doT s c z).1,(doT s c z).2):=by unfold applyV;rw [if_neg (by simp [h]),if_neg (by rw [hc];decide),if_neg (by simp [hz])]
theorem small_of {s:Stt} (h:fault s=0):s.small∧0 < s.nodes.length:=by
 obtain⟨h1,h2,-,h4,h5⟩:=fault_zero h
 have hn:=Tre.fault_nodes h1
 have hp:=Tre.fault_nums h1
 have ht:=(Tre.fault_hang h1).1
 have hl:=(Ses.fault_zero h2).1
 refine⟨⟨⟨by omega,fun z hz=>by have:=small_path (hp z hz).1;omega⟩,by omega,by omega,fun z hz=>by have:=okM_path (markFrom_ok _ _ h5 z hz);omega⟩,?_⟩
 obtain⟨z,hz,-⟩:=Tre.atI_mem.1 ht
 exact List.length_pos_of_mem hz
end Sta
theorem SHas.below {n:Nat} {K:Nat→Prop} {w:World} {vn vs vm:Value} {s:Stt} (h:SHas n K w vn vs vm s):SHas n (fun b=>K b∨b < n) w vn vs vm s:=by
 obtain⟨g1,g2,g3,⟨a1,a2,a3⟩,⟨b1,b2,b3⟩,c,h1,h2,h3⟩:=h
 exact⟨g1,g2,g3,⟨a1,a2,a3⟩,⟨fun h0 h=>h.elim (b1 h0) (by omega),fun h0 h=>h.elim (b2 h0) (by omega),fun h0 h=>h.elim (b3 h0) (by omega)⟩,c,h1,h2,h3⟩
theorem SHas.empty (n:Nat) (w:World):SHas n (fun _=>False) w (.slice none 0 0) (.slice none 0 0) (.slice none 0 0) Sta.none :=
 ⟨n,n,n,⟨Nat.le_refl _,Nat.le_refl _,Nat.le_refl _⟩,⟨fun _ h=>h,fun _ h=>h,fun _ h=>h⟩,⟨fun h=>by simp [Sta.none] at h,fun h=>by simp [Sta.none] at h,fun h=>by simp [Sta.none] at h⟩,
  ⟨none,0,rfl,Nat.le_refl _,by unfold maxLen;omega,fun h=>by simp [Sta.none] at h⟩,⟨none,0,rfl,Nat.le_refl _,by unfold maxLen;omega,fun h=>by simp [Sta.none] at h⟩,⟨none,0,rfl,Nat.le_refl _,by unfold maxLen;omega,fun h=>by simp [Sta.none] at h⟩⟩
/-- An answer of code x.1, reply x.2.1 and state x.2.2 came back, the state's lists in new memory of their own. -/
def ARet (w:World) (x:Int × Ry × Stt) (e:Ending) (w' : World):Prop :=
 ∃ un us um,e = .returned (rsagg x.1 x.2.1.code x.2.1.value x.2.1.path un us x.2.2.now um)∧SHas w.heap.size (fun _=>False) w' un us um x.2.2∧Ext w w'
theorem OBox6.new (w:World) (z:Opn) (t:TypeId):OBoxAt (w.alloc (.cells #[.int .i64 z.kind,.string z.path,.int .i64 z.data,.int .i64 z.version,.bool z.seq,.bool z.own] t)) w.heap.size z:=⟨by simp,by simp,by simp,by simp,by simp,by simp,by simp⟩
/-- The answer's box: zeros, to be written. -/
def RZ (w:World) (b:Nat):Prop:=RsBoxAt w b 0 0 0 ByteArray.empty (.slice none 0 0) (.slice none 0 0) 0 (.slice none 0 0)∧∀ o,o < 8→w.frozen? ⟨b,o,none⟩=false
theorem RZ.new (w:World) (t:TypeId):RZ (w.alloc (.cells #[.int .i64 0,.int .i64 0,.int .i64 0,.string ByteArray.empty,.slice none 0 0,.slice none 0 0,.int .i64 0,.slice none 0 0] t)) w.heap.size:=⟨rsbox_new _ _ _ _ _ _ _ _ _ _,fun _ _=>by simp⟩
theorem RZ.ext {w w' : World} {b:Nat} (h:RZ w b) (he:Ext w w'):RZ w' b:=⟨h.1.ext he,fun o ho=>((Ext.cell he).2 _ _ h.1.1).trans (h.2 o ho)⟩
theorem RZ.upd {w w' : World} {b B:Nat} (h:RZ w b) (he:Upd B w w') (hne:b≠B):RZ w' b:=by
 obtain⟨⟨hb,c0,c1,c2,c3,c4,c5,c6,c7⟩,f⟩:=h
 have hn:=fun o=>he.at_ne b o hne hb
 exact⟨⟨Nat.lt_of_lt_of_le hb he.2.1,(hn 0).1.trans c0,(hn 1).1.trans c1,(hn 2).1.trans c2,(hn 3).1.trans c3,(hn 4).1.trans c4,(hn 5).1.trans c5,(hn 6).1.trans c6,(hn 7).1.trans c7⟩,fun o ho=>(hn o).2.trans (f o ho)⟩
end Go.Proofs.YtpdejinkmnhioaaGreatDoor
namespace Go.Proofs.YtpdejinkmnhioaaGreatDoor
open Go.RowKit
/-- Blocks from lo on and below hi may have turned, nothing else that was there. -/
def UpdS (lo hi:Nat) (w w' : World):Prop :=
 (∀ w0,Ext w0 w→w0.heap.size≤lo→Ext w0 w')∧(∀ c o,c < w.heap.size→(c < lo∨hi≤c)→w'.cell? ⟨c,o,none⟩=w.cell? ⟨c,o,none⟩∧w'.frozen? ⟨c,o,none⟩=w.frozen? ⟨c,o,none⟩)∧w.heap.size≤w'.heap.size
theorem UpdS.ext {lo hi:Nat} {w w' : World} (h:Ext w w'):UpdS lo hi w w' :=
 ⟨fun _ he _=>he.trans h,fun _ _ hc _=>⟨(Ext.cell h).1 _ _ hc,(Ext.cell h).2 _ _ hc⟩,h.size⟩
theorem UpdS.trans {lo hi:Nat} {w w1 w2:World} (h:UpdS lo hi w w1) (h2:UpdS lo hi w1 w2):UpdS lo hi w w2 :=
 ⟨fun w0 he hl=>h2.1 w0 (h.1 w0 he hl) hl,fun c o hc hn=>⟨(h2.2.1 c o (Nat.lt_of_lt_of_le hc h.2.2) hn).1.trans (h.2.1 c o hc hn).1,(h2.2.1 c o (Nat.lt_of_lt_of_le hc h.2.2) hn).2.trans (h.2.1 c o hc hn).2⟩,Nat.le_trans h.2.2 h2.2.2⟩
theorem UpdS.of_stp {P:Prop} {g lo hi:Nat} {w w' : World} (h:Stp P g w w') (hg:P→lo≤g∧g < hi):UpdS lo hi w w' :=
 ⟨fun _ he hl=>h.1 _ he fun p=>Nat.le_trans hl (hg p).1,fun c o hc hn=>h.2.1 c o hc fun p e=>by have:=hg p;omega,h.2.2⟩
theorem UpdS.to_ext {lo hi:Nat} {w0 w w' : World} (h:UpdS lo hi w w') (he:Ext w0 w) (hl:w0.heap.size≤lo):Ext w0 w':=h.1 _ he hl
theorem UpdS.at_ne {lo hi:Nat} {w w' : World} (h:UpdS lo hi w w') (c o:Nat) (hn:c < lo∨hi≤c) (hc:c < w.heap.size):w'.cell? ⟨c,o,none⟩=w.cell? ⟨c,o,none⟩∧w'.frozen? ⟨c,o,none⟩=w.frozen? ⟨c,o,none⟩:=h.2.1 c o hc hn
theorem Own.sameS {g:Nat} {w w' : World} {v:Value} {zs:List Zn} (h:Own w v g zs) (hs:w.heap.size≤w'.heap.size) (hq:0 < zs.length→∀ o,w'.cell? ⟨g,o,none⟩=w.cell? ⟨g,o,none⟩∧w'.frozen? ⟨g,o,none⟩=w.frozen? ⟨g,o,none⟩):Own w' v g zs:=by
 exact m36z
theorem EOwn.sameS {g:Nat} {w w' : World} {v:Value} {zs:List Se} (h:EOwn w v g zs) (hs:w.heap.size≤w'.heap.size) (hq:0 < zs.length→∀ o,w'.cell? ⟨g,o,none⟩=w.cell? ⟨g,o,none⟩∧w'.frozen? ⟨g,o,none⟩=w.frozen? ⟨g,o,none⟩):EOwn w' v g zs:=by
 obtain⟨a,cap,h1,h2,h3,h4⟩:=h
 refine⟨a,cap,h1,h2,h3,fun h0=>?_⟩
 obtain⟨off,e,hr,hN⟩:=h4 h0
 have hq:=hq h0
 refine⟨off,e,⟨Nat.lt_of_lt_of_le hr.1 hs,fun j hj=>⟨by rw [(hq _).1];exact (hr.2 j hj).1,by rw [(hq _).2];exact (hr.2 j hj).2⟩⟩,fun i z hz=>?_⟩
 obtain⟨c0,c1⟩:=hN i z hz
 exact⟨(hq _).1.trans c0,(hq _).1.trans c1⟩
theorem MOwn.sameS {g:Nat} {w w' : World} {v:Value} {zs:List Mk} (h:MOwn w v g zs) (hs:w.heap.size≤w'.heap.size) (hq:0 < zs.length→∀ o,w'.cell? ⟨g,o,none⟩=w.cell? ⟨g,o,none⟩∧w'.frozen? ⟨g,o,none⟩=w.frozen? ⟨g,o,none⟩):MOwn w' v g zs:=by
 exact m36z
/-- The lists of s lie in blocks of their own, from lo on and below hi. -/
def SAt (lo hi:Nat) (w:World) (vn vs vm:Value) (s:Stt):Prop :=
 ∃ g1 g2 g3,((0 < s.nodes.length→lo≤g1∧g1 < hi)∧(0 < s.ses.length→lo≤g2∧g2 < hi)∧(0 < s.marks.length→lo≤g3∧g3 < hi)) ∧
  ((0 < s.nodes.length→0 < s.ses.length→g1≠g2)∧(0 < s.nodes.length→0 < s.marks.length→g1≠g3)∧(0 < s.ses.length→0 < s.marks.length→g2≠g3)) ∧
  Own w vn g1 s.nodes∧EOwn w vs g2 s.ses∧MOwn w vm g3 s.marks
theorem SAt.of {lo:Nat} {K:Nat→Prop} {w:World} {vn vs vm:Value} {s:Stt} (h:SHas lo K w vn vs vm s):SAt lo w.heap.size w vn vs vm s:=by
 obtain⟨g1,g2,g3,⟨a1,a2,a3⟩,-,c,h1,h2,h3⟩:=h
 exact⟨g1,g2,g3,⟨fun h=>⟨a1,h1.ltS h⟩,fun h=>⟨a2,h2.ltS h⟩,fun h=>⟨a3,h3.ltS h⟩⟩,c,h1,h2,h3⟩
theorem SAt.own {w w' : World} {vn vs vm:Value} {s:Stt} (h:SOwn w w' vn vs vm s):SAt w.heap.size w'.heap.size w' vn vs vm s:=by
 obtain⟨g1,g2,g3,a1,a2,a4,a3,h1,h2,h3⟩:=h
 exact⟨g1,g2,g3,⟨fun h=>⟨a1,h1.ltS h⟩,fun h=>⟨by omega,h2.ltS h⟩,fun h=>⟨by omega,h3.ltS h⟩⟩,⟨fun h _=>by have:=a2 h;omega,fun h _=>by have:=a2 h;omega,fun _ _=>by omega⟩,h1,h2,h3⟩
theorem SAt.slice {lo hi:Nat} {w:World} {vn vs vm:Value} {s:Stt} (h:SAt lo hi w vn vs vm s):SSlice w vn vs vm s:=by
 obtain⟨g1,g2,g3,-,-,h1,h2,h3⟩:=h
 exact⟨h1.slice,h2.slice,h3.slice⟩
theorem SAt.ext {lo hi:Nat} {w w' : World} {vn vs vm:Value} {s:Stt} (h:SAt lo hi w vn vs vm s) (he:Ext w w'):SAt lo hi w' vn vs vm s:=by
 obtain⟨g1,g2,g3,a,c,h1,h2,h3⟩:=h
 exact⟨g1,g2,g3,a,c,h1.ext he,h2.ext he,h3.ext he⟩
theorem SAt.upd {lo hi lo' hi' : Nat} {w w' : World} {vn vs vm:Value} {s:Stt} (h:SAt lo hi w vn vs vm s) (hu:UpdS lo' hi' w w') (hd:hi≤lo'∨hi'≤lo):SAt lo hi w' vn vs vm s:=by
 obtain⟨g1,g2,g3,⟨a1,a2,a3⟩,c,h1,h2,h3⟩:=h
 exact⟨g1,g2,g3,⟨a1,a2,a3⟩,c,h1.sameS hu.2.2 fun h0 o=>hu.at_ne _ o (by have:=a1 h0;omega) (h1.ltS h0),h2.sameS hu.2.2 fun h0 o=>hu.at_ne _ o (by have:=a2 h0;omega) (h2.ltS h0),h3.sameS hu.2.2 fun h0 o=>hu.at_ne _ o (by have:=a3 h0;omega) (h3.ltS h0)⟩
theorem SBoxAt.updS {lo hi b:Nat} {w w' : World} {v0 v1 v2 v3:Value} (h:SBoxAt w b v0 v1 v2 v3) (hu:UpdS lo hi w w') (hne:b < lo∨hi≤b):SBoxAt w' b v0 v1 v2 v3:=by
 obtain⟨hb,⟨c0,c1,c2,c3⟩,f0,f1,f2,f3⟩:=h
 have hq:=fun o=>hu.at_ne b o hne hb
 exact⟨Nat.lt_of_lt_of_le hb hu.2.2,⟨(hq _).1.trans c0,(hq _).1.trans c1,(hq _).1.trans c2,(hq _).1.trans c3⟩,(hq _).2.trans f0,(hq _).2.trans f1,(hq _).2.trans f2,(hq _).2.trans f3⟩
theorem RsBoxAt.updS {lo hi b:Nat} {w w' : World} {c d x:Int} {p:ByteArray} {vn vs:Value} {n:Int} {vm:Value} (h:RsBoxAt w b c d x p vn vs n vm) (hu:UpdS lo hi w w') (hne:b < lo∨hi≤b):RsBoxAt w' b c d x p vn vs n vm:=by
 obtain⟨hb,c0,c1,c2,c3,c4,c5,c6,c7⟩:=h
 have hq:=fun o=>(hu.at_ne b o hne hb).1
 exact⟨Nat.lt_of_lt_of_le hb hu.2.2,(hq _).trans c0,(hq _).trans c1,(hq _).trans c2,(hq _).trans c3,(hq _).trans c4,(hq _).trans c5,(hq _).trans c6,(hq _).trans c7⟩
theorem OBoxAt.updS {lo hi b:Nat} {w w' : World} {z:Opn} (h:OBoxAt w b z) (hu:UpdS lo hi w w') (hne:b < lo∨hi≤b):OBoxAt w' b z:=by
 obtain⟨hb,c0,c1,c2,c3,c4,c5⟩:=h
 have hq:=fun o=>(hu.at_ne b o hne hb).1
 exact⟨Nat.lt_of_lt_of_le hb hu.2.2,(hq _).trans c0,(hq _).trans c1,(hq _).trans c2,(hq _).trans c3,(hq _).trans c4,(hq _).trans c5⟩
/-- What the marks make of a state's lists. -/
def msT (k:Nat) (s:Stt):Stt:=⟨marks k s.nodes.length,emarks (k+5 * s.nodes.length) s.ses.length,s.now,mmarks (k+5 * s.nodes.length+2 * s.ses.length) s.marks.length⟩
def msE (k:Nat) (s:Stt):Nat:=k+5 * s.nodes.length+2 * s.ses.length+5 * s.marks.length
def Stt.few (s:Stt):Prop:=s.nodes.length≤1048576∧s.ses.length≤1048576∧s.marks.length≤1048576
theorem markState_at (lo hi:Nat) (s:Stt) (vn vs vm:Value) (k:Nat) (w:World) (h:SAt lo hi w vn vs vm s) (hk:k≤100) (hf:s.few) :
  Calls Tryz.prog 19 #[sagg vn vs s.now vm,.int .i64 k] w fun e w'=>e = .returned (.int .i64 (msE k s:Nat))∧SAt lo hi w' vn vs vm (msT k s)∧UpdS lo hi w w':=by
 obtain⟨g1,g2,g3,⟨a1,a2,a3⟩,⟨c1,c2,c3⟩,h1,h2,h3⟩:=h
 refine (markState_any s vn vs vm g1 g2 g3 k w h1 h2 h3 c1 c2 c3 hk hf.1 hf.2.1 hf.2.2).mono ?_
 rintro e w' ⟨rfl,m1,m2,m3,wa,wb,wc,u0,u1,u2,u3⟩
 refine⟨rfl,⟨g1,g2,g3,?_,?_,m1,m2,m3⟩,(UpdS.ext u0).trans ((UpdS.of_stp u1 a1).trans ((UpdS.of_stp u2 a2).trans (UpdS.of_stp u3 a3)))⟩
 ·unfold msT
  simp only [marks_length,emarks_length,mmarks_length]
  exact⟨a1,a2,a3⟩
 ·unfold msT
  simp only [marks_length,emarks_length,mmarks_length]
  exact⟨c1,c2,c3⟩
set_option maxHeartbeats 1000000 in
set_option maxRecDepth 100000 in
theorem markStateResult_at (lo hi:Nat) (c d x:Int) (p:ByteArray) (s:Stt) (vn vs vm:Value) (k:Nat) (w:World) (h:SAt lo hi w vn vs vm s) (hk:k≤100) (hf:s.few) :
  Calls Tryz.prog 20 #[rsagg c d x p vn vs s.now vm,.int .i64 k] w fun e w'=>e = .returned (.int .i64 (msE k s:Nat))∧SAt lo hi w' vn vs vm (msT k s)∧UpdS lo hi w w':=by
 have HM:Hid (∀ wx,Ext w wx→Calls Tryz.prog 19 #[.agg #[vn,vs,.int .i64 s.now,vm],.int .i64 k] wx fun e w'=>e = .returned (.int .i64 (msE k s:Nat))∧SAt lo hi w' vn vs vm (msT k s)∧UpdS lo hi wx w'):=fun wx he=>markState_at lo hi s vn vs vm k wx (h.ext he) hk hf
 obtain⟨⟨an,cn,rfl⟩,⟨ae,ce,rfl⟩,⟨am,cm,rfl⟩⟩:=And.intro h.slice.1.vis (And.intro h.slice.2.1.vis h.slice.2.2.vis)
 clear hk hf h
 generalize msE k s=K at *
 generalize msT k s=t at *
 unfold rsagg
 go_enter Tryz.func20,Tryz.ntmps20
 go_wp2_with fail
 refine (HM.out _ ((Ext.refl _).alloc _)).mono ?_
 rintro e w1 ⟨rfl,hA,hU⟩
 have HA:Hid (SAt lo hi w1 (.slice an s.nodes.length cn) (.slice ae s.ses.length ce) (.slice am s.marks.length cm) t):=hA
 have HU:Hid (UpdS lo hi w w1):=(UpdS.ext ((Ext.refl _).alloc _)).trans hU
 clear hA hU
 go_wp2
 go_ret
 exact⟨rfl,HA.out,HU.out⟩
set_option maxHeartbeats 1000000 in
set_option maxRecDepth 100000 in
theorem heldStateResult_at (c d x:Int) (p:ByteArray) (s:Stt) (vn vs vm:Value) (k:Nat) (w:World) (h:SSlice w vn vs vm (msT k s)) (hk:k≤100) (hf:s.few) :
  Calls Tryz.prog 21 #[rsagg c d x p vn vs s.now vm,.int .i64 k] w fun e w'=>e = .returned (.int .i64 (msE k s:Nat))∧Ext w w':=by
 have HM:Hid (∀ wx,Ext w wx→Calls Tryz.prog 69 #[.agg #[vn,vs,.int .i64 s.now,vm],.int .i64 k] wx fun e w'=>e = .returned (.int .i64 (msE k s:Nat))∧Ext wx w'):=fun wx he=>heldState_any s.nodes.length s.ses.length s.marks.length k s.now vn vs vm wx (h.1.ext he) (h.2.1.ext he) (h.2.2.ext he) hk hf.1 hf.2.1 hf.2.2
 obtain⟨⟨an,cn,rfl⟩,⟨ae,ce,rfl⟩,⟨am,cm,rfl⟩⟩:=And.intro h.1.vis (And.intro h.2.1.vis h.2.2.vis)
 clear hk hf h
 generalize msE k s=K at *
 unfold rsagg
 go_enter Tryz.func21,Tryz.ntmps21
 go_wp2_with fail
 refine (HM.out _ ((Ext.refl _).alloc _)).mono ?_
 rintro e w1 ⟨rfl,hb⟩
 have HE:Hid (Ext w w1):=((Ext.refl _).alloc _).trans hb
 clear hb
 go_wp2
 go_ret
 exact⟨rfl,HE.out⟩
end Go.Proofs.YtpdejinkmnhioaaGreatDoor
namespace Go.Proofs.YtpdejinkmnhioaaGreatDoor
open Go.RowKit
/-- Block b holds the values of l, and may be written. -/
def BX (w:World) (b:Nat) (l:List Value):Prop:=b < w.heap.size∧∀ j u,l[j]?=some u→w.cell? ⟨b,j,none⟩=some u∧w.frozen? ⟨b,j,none⟩=false
theorem BX.ext {w w' : World} {b:Nat} {l:List Value} (h:BX w b l) (he:Ext w w'):BX w' b l :=
 ⟨Nat.lt_of_lt_of_le h.1 he.size,fun j u hj=>⟨((Ext.cell he).1 _ _ h.1).trans (h.2 j u hj).1,((Ext.cell he).2 _ _ h.1).trans (h.2 j u hj).2⟩⟩
theorem BX.new (w:World) (l:List Value) (t:TypeId):BX (w.alloc (.cells l.toArray t)) w.heap.size l:=⟨by simp,fun j u hj=>⟨by simpa using hj,by simp⟩⟩
theorem BX.upd {lo hi b:Nat} {w w' : World} {l:List Value} (h:BX w b l) (hu:UpdS lo hi w w') (hne:b < lo∨hi≤b):BX w' b l :=
 ⟨Nat.lt_of_lt_of_le h.1 hu.2.2,fun j u hj=>⟨(hu.at_ne b j hne h.1).1.trans (h.2 j u hj).1,(hu.at_ne b j hne h.1).2.trans (h.2 j u hj).2⟩⟩
/-- The values of l are written into block b, from cell k on. -/
def sets (w:World) (b:Nat):Nat→List Value→World
 | _,[]=>w
 | k,v :: r=>sets (w.setCell ⟨b,k,none⟩ v) b (k+1) r
theorem UpdS.of_upd {b:Nat} {w w' : World} (h:Upd b w w'):UpdS b (b+1) w w' :=
 ⟨fun _ he hl=>h.to_ext he hl,fun c o hc hn=>h.at_ne c o (by omega) hc,h.2.1⟩
theorem UpdS.sets (w:World) (b:Nat):∀ (k:Nat) (l:List Value),UpdS b (b+1) w (sets w b k l):=by
 intro k l
 induction l generalizing w k with
 | nil=>exact UpdS.ext (Ext.refl _)
 | cons v r ih=>exact (UpdS.of_upd ((Upd.refl b w).setAt k v)).trans (ih (w.setCell ⟨b,k,none⟩ v) (k+1))
theorem Ext.sets {w0 n:World} {b:Nat} (h:Ext w0 n) (hb:w0.heap.size≤b) (k:Nat) (l:List Value):Ext w0 (sets n b k l):=by
 induction l generalizing n k with
 | nil=>exact h
 | cons v r ih=>exact ih (h.setCell (p:=⟨b,k,none⟩) hb v) (k+1)
theorem sets_cells (b:Nat):∀ (l:List Value) (k:Nat) (w:World),b < w.heap.size→(∀ j,j < l.length→∃ u,w.cell? ⟨b,k+j,none⟩=some u) →
  (∀ j u,l[j]?=some u→(sets w b k l).cell? ⟨b,k+j,none⟩=some u)∧(∀ j,j < k→(sets w b k l).cell? ⟨b,j,none⟩=w.cell? ⟨b,j,none⟩)∧(∀ j,(sets w b k l).frozen? ⟨b,j,none⟩=w.frozen? ⟨b,j,none⟩)∧b < (sets w b k l).heap.size
 | [],_,_,hb,_=>⟨fun j u h=>by simp at h,fun _ _=>rfl,fun _=>rfl,hb⟩
 | v :: r,k,w,hb,h=>by
  have hb' : b < (w.setCell ⟨b,k,none⟩ v).heap.size:=by simpa using hb
  obtain⟨h1,h2,h3,h4⟩:=sets_cells b r (k+1) (w.setCell ⟨b,k,none⟩ v) hb' fun j hj=>by
   rw [iset_ne _ _ _ _ _ _ (by omega)]
   obtain⟨u,hu⟩:=h (j+1) (by simpa using hj)
   exact⟨u,by rw [show k+1+j=k+(j+1) by omega];exact hu⟩
  refine⟨fun j u hj=>?_,fun j hj=>?_,fun j=>?_,h4⟩
  ·cases j with
   | zero =>
    injection hj with hj
    subst hj
    show (sets (w.setCell ⟨b,k,none⟩ v) b (k+1) r).cell? ⟨b,k,none⟩=some v
    rw [h2 k (by omega)]
    obtain⟨u,hu⟩:=h 0 (by simp)
    exact iset_eq _ _ _ _ ⟨u,hu⟩
   | succ j =>
    have:=h1 j u hj
    rw [show k+1+j=k+(j+1) by omega] at this
    exact this
  ·exact (h2 j (by omega)).trans (iset_ne _ _ _ _ _ _ (by omega))
  ·exact (h3 j).trans (World.frozen?_setCell _ _ _ _)
theorem BX.sets {w:World} {b:Nat} {l l' : List Value} (h:BX w b l) (hl:l.length=l'.length):BX (sets w b 0 l') b l':=by
 obtain⟨h1,-,h3,h4⟩:=sets_cells b l' 0 w h.1 fun j hj=>by
  rw [Nat.zero_add]
  exact⟨_,(h.2 j _ (List.getElem?_eq_getElem (by omega))).1⟩
 refine⟨h4,fun j u hj=>⟨?_,?_⟩⟩
 ·have:=h1 j u hj
  rw [Nat.zero_add] at this
  exact this
 ·rw [h3]
  exact (h.2 j _ (List.getElem?_eq_getElem (by rw [hl];exact (List.getElem?_eq_some_iff.1 hj).1))).2
theorem hxE {w w1 w2:World} (h:Hid (Ext w w1)) (he:Ext w1 w2):Hid (Ext w w2):=h.out.trans he
theorem hxbx {w w' : World} {b:Nat} {l:List Value} (h:Hid (BX w b l)) (he:Ext w w'):Hid (BX w' b l):=h.out.ext he
theorem hxat {lo hi:Nat} {w w' : World} {vn vs vm:Value} {s:Stt} (h:Hid (SAt lo hi w vn vs vm s)) (he:Ext w w'):Hid (SAt lo hi w' vn vs vm s):=h.out.ext he
theorem huE {lo hi:Nat} {w0 w w' : World} (h:Hid (Ext w0 w)) (hu:UpdS lo hi w w') (hl:w0.heap.size≤lo):Hid (Ext w0 w'):=hu.to_ext h.out hl
theorem hubx {lo hi b:Nat} {w w' : World} {l:List Value} (h:Hid (BX w b l)) (hu:UpdS lo hi w w') (hne:b < lo∨hi≤b):Hid (BX w' b l):=h.out.upd hu hne
theorem huat {lo hi lo' hi' : Nat} {w w' : World} {vn vs vm:Value} {s:Stt} (h:Hid (SAt lo hi w vn vs vm s)) (hu:UpdS lo' hi' w w') (hd:hi≤lo'∨hi'≤lo):Hid (SAt lo hi w' vn vs vm s):=h.out.upd hu hd
theorem got_mk {w0 n W:World} {b lo hi:Nat} {l:List Value} {A:Prop} (hE:Ext w0 W) (hU:UpdS b (b+1) n W) (h1:w0.heap.size≤b) (h2:b < lo∨hi≤b) (h3:w0.heap.size≤lo∧lo≤hi∧hi≤n.heap.size) (h4:b < n.heap.size) (hX:BX W b l) (hA:A) :
  Hid (Ext w0 W∧(w0.heap.size≤lo∧lo≤hi∧hi≤W.heap.size∧w0.heap.size≤b∧b < W.heap.size∧(b < lo∨hi≤b))∧BX W b l∧A):=⟨hE,⟨h3.1,h3.2.1,Nat.le_trans h3.2.2 hU.2.2,h1,Nat.lt_of_lt_of_le h4 hU.2.2,h2⟩,hX,hA⟩
def OnlyY (R:Act→World→Prop):Exit→Act→World→Prop
 | .normal,a,w=>R a w
 | _,_,_=>False
theorem OnlyY.out {R:Act→World→Prop} {e:Exit} {a:Act} {w:World} (h:OnlyY R e a w):e = .normal∧R a w:=by
 cases e <;> first | exact⟨rfl,h⟩ | exact (h:False).elim
end Go.Proofs.YtpdejinkmnhioaaGreatDoor
