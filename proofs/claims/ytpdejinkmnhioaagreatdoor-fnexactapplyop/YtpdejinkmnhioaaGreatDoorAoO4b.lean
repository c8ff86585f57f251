/- operations: l5Op of the specification, kind by kind (5, 6, 7, 8). -/
import Derived.Test.YtpdejinkmnhioaaGreatDoorAoJ33
import Derived.Test.YtpdejinkmnhioaaGreatDoorAoMk
namespace Go.Proofs.YtpdejinkmnhioaaGreatDoor
open Go.RowKit
set_option maxHeartbeats 4000000 in
set_option maxRecDepth 100000 in
theorem l5Op_5 (b off:Nat) (p:ByteArray) (d v:Int) (s q:Bool) (w:World) (hb:b < w.heap.size) (hO:OAt w b off ⟨5,p,d,v,s,q⟩) :
  Calls Tryz.prog 51 #[.pointer (some ⟨b,off,none⟩)] w fun e w'=>e = .returned (.int .i64 (Opr.fault ⟨5,p,d,v,s,q⟩))∧Ext w w':=by
 have HO:Hid (OAt w b off ⟨5,p,d,v,s,q⟩):=hO
 have c0:w.cell? ⟨b,off,none⟩=some (.int .i64 5):=hO.1
 refine n11z ?_
 intro c1 c2 c3 c4 c5
 clear hO
 have CP:Hid (∀ wx:World,Calls Tryz.prog 107 #[.int .i64 5] wx fun e w'=>e = .returned (.bool true)∧w'=wx):=l5Path_any 5
 have CD:Hid (∀ wx:World,Calls Tryz.prog 108 #[.int .i64 5] wx fun e w'=>e = .returned (.bool true)∧w'=wx):=l5Data_any 5
 have CV:Hid (∀ wx:World,Calls Tryz.prog 109 #[.int .i64 5] wx fun e w'=>e = .returned (.bool true)∧w'=wx):=l5Version_any 5
 obtain⟨R,hR⟩:∃ R,R=Opr.fault ⟨5,p,d,v,s,q⟩:=⟨_,rfl⟩
 have HR:Hid (R=Opr.fault ⟨5,p,d,v,s,q⟩):=hR
 rw [← hR]
 clear hR
 have HL0:=fun wx:World=>l1FaultI_any p wx
 cases hs:s with
 | false =>
  subst hs
  cases hq:q with
  | false =>
   subst hq
   obtain⟨c,hc⟩:∃ c,c=Pth.faultI p.data.toList:=⟨_,rfl⟩
   have HC:Hid (c=Pth.faultI p.data.toList):=hc
   have HL:Hid (∀ wx:World,Calls Tryz.prog 110 #[.string p] wx fun e w'=>e = .returned (.int .i64 c)∧Ext wx w'):=by rw [hc];exact HL0
   clear HL0
   clear hc
   by_cases hc0:c≠0
   ·have hcb:(c != 0)=true:=by simpa using hc0
    have HF:Hid (R=c):=HR.out.trans (Opr.fault_path (o:=⟨5,p,d,v,false,false⟩) (by show (1:Int)≤5;decide) (by show (5:Int)≤8;decide) (by simp [Opr.extra,Opr.hasPath,Opr.hasData,Opr.hasVer]) rfl HC.out hc0)
    exact m0z
   have hc1:c=0:=by omega
   subst hc1
   clear hc0
   by_cases ld:d < 0
   ·have HF:Hid (R=3):=HR.out.trans (Opr.fault_range (o:=⟨5,p,d,v,false,false⟩) (by show (1:Int)≤5;decide) (by show (5:Int)≤8;decide) (by simp [Opr.extra,Opr.hasPath,Opr.hasData,Opr.hasVer]) (Or.inr HC.out.symm) (by simp [Opr.inR];try omega))
    have HBd:Hid ((decide (0≤d) && decide (d≤9999))=false):=by unfold Hid;simp;omega
    exact m0z
   by_cases gd:9999 < d
   ·have HF:Hid (R=3):=HR.out.trans (Opr.fault_range (o:=⟨5,p,d,v,false,false⟩) (by show (1:Int)≤5;decide) (by show (5:Int)≤8;decide) (by simp [Opr.extra,Opr.hasPath,Opr.hasData,Opr.hasVer]) (Or.inr HC.out.symm) (by simp [Opr.inR];try omega))
    have HBd:Hid ((decide (0≤d) && decide (d≤9999))=false):=by unfold Hid;simp;omega
    exact m0z
   have ld' : 0≤d:=by omega
   have gd' : d≤9999:=by omega
   by_cases lv:v < -1
   ·have HF:Hid (R=3):=HR.out.trans (Opr.fault_range (o:=⟨5,p,d,v,false,false⟩) (by show (1:Int)≤5;decide) (by show (5:Int)≤8;decide) (by simp [Opr.extra,Opr.hasPath,Opr.hasData,Opr.hasVer]) (Or.inr HC.out.symm) (by simp [Opr.inR];try omega))
    have HBd:Hid ((decide (0≤d) && decide (d≤9999))=true):=by unfold Hid;simp;omega
    clear ld' gd'
    have HBv:Hid ((decide (-1≤v) && decide (v≤999))=false):=by unfold Hid;simp;omega
    exact m0z
   by_cases gv:999 < v
   ·have HF:Hid (R=3):=HR.out.trans (Opr.fault_range (o:=⟨5,p,d,v,false,false⟩) (by show (1:Int)≤5;decide) (by show (5:Int)≤8;decide) (by simp [Opr.extra,Opr.hasPath,Opr.hasData,Opr.hasVer]) (Or.inr HC.out.symm) (by simp [Opr.inR];try omega))
    have HBd:Hid ((decide (0≤d) && decide (d≤9999))=true):=by unfold Hid;simp;omega
    clear ld' gd'
    have HBv:Hid ((decide (-1≤v) && decide (v≤999))=false):=by unfold Hid;simp;omega
    exact m0z
   have lv' : -1≤v:=by omega
   have gv' : v≤999:=by omega
   have HF:Hid (R=0):=HR.out.trans (Opr.fault_ok (o:=⟨5,p,d,v,false,false⟩) (by show (1:Int)≤5;decide) (by show (5:Int)≤8;decide) (by simp [Opr.extra,Opr.hasPath,Opr.hasData,Opr.hasVer]) (Or.inr HC.out.symm) (by simp [Opr.inR];try omega))
   have HBd:Hid ((decide (0≤d) && decide (d≤9999))=true):=by unfold Hid;simp;omega
   clear ld' gd'
   have HBv:Hid ((decide (-1≤v) && decide (v≤999))=true):=by unfold Hid;simp;omega
   clear lv' gv'
   exact m0z
  | true =>
   subst hq
   have HF:Hid (R=1):=HR.out.trans (Opr.fault_extra (o:=⟨5,p,d,v,false,true⟩) (by simp [Opr.extra,Opr.hasPath,Opr.hasData,Opr.hasVer]))
   exact m1z
 | true =>
  subst hs
  have HF:Hid (R=1):=HR.out.trans (Opr.fault_extra (o:=⟨5,p,d,v,true,q⟩) (by simp [Opr.extra,Opr.hasPath,Opr.hasData,Opr.hasVer]))
  exact m1z
set_option maxHeartbeats 4000000 in
set_option maxRecDepth 100000 in
theorem l5Op_6 (b off:Nat) (p:ByteArray) (d v:Int) (s q:Bool) (w:World) (hb:b < w.heap.size) (hO:OAt w b off ⟨6,p,d,v,s,q⟩) :
  Calls Tryz.prog 51 #[.pointer (some ⟨b,off,none⟩)] w fun e w'=>e = .returned (.int .i64 (Opr.fault ⟨6,p,d,v,s,q⟩))∧Ext w w':=by
 have HO:Hid (OAt w b off ⟨6,p,d,v,s,q⟩):=hO
 have c0:w.cell? ⟨b,off,none⟩=some (.int .i64 6):=hO.1
 refine n11z ?_
 intro c1 c2 c3 c4 c5
 clear hO
 have CP:Hid (∀ wx:World,Calls Tryz.prog 107 #[.int .i64 6] wx fun e w'=>e = .returned (.bool true)∧w'=wx):=l5Path_any 6
 have CD:Hid (∀ wx:World,Calls Tryz.prog 108 #[.int .i64 6] wx fun e w'=>e = .returned (.bool false)∧w'=wx):=l5Data_any 6
 have CV:Hid (∀ wx:World,Calls Tryz.prog 109 #[.int .i64 6] wx fun e w'=>e = .returned (.bool false)∧w'=wx):=l5Version_any 6
 obtain⟨R,hR⟩:∃ R,R=Opr.fault ⟨6,p,d,v,s,q⟩:=⟨_,rfl⟩
 have HR:Hid (R=Opr.fault ⟨6,p,d,v,s,q⟩):=hR
 rw [← hR]
 clear hR
 have HL0:=fun wx:World=>l1FaultI_any p wx
 by_cases hd:d=0
 ·subst hd
  by_cases hv:v=0
  ·subst hv
   cases hs:s with
   | false =>
    subst hs
    cases hq:q with
    | false =>
     subst hq
     obtain⟨c,hc⟩:∃ c,c=Pth.faultI p.data.toList:=⟨_,rfl⟩
     have HC:Hid (c=Pth.faultI p.data.toList):=hc
     have HL:Hid (∀ wx:World,Calls Tryz.prog 110 #[.string p] wx fun e w'=>e = .returned (.int .i64 c)∧Ext wx w'):=by rw [hc];exact HL0
     clear HL0
     clear hc
     by_cases hc0:c≠0
     ·have hcb:(c != 0)=true:=by simpa using hc0
      have HF:Hid (R=c):=HR.out.trans (Opr.fault_path (o:=⟨6,p,0,0,false,false⟩) (by show (1:Int)≤6;decide) (by show (6:Int)≤8;decide) (by simp [Opr.extra,Opr.hasPath,Opr.hasData,Opr.hasVer]) rfl HC.out hc0)
      exact m0z
     have hc1:c=0:=by omega
     subst hc1
     clear hc0
     have HF:Hid (R=0):=HR.out.trans (Opr.fault_ok (o:=⟨6,p,0,0,false,false⟩) (by show (1:Int)≤6;decide) (by show (6:Int)≤8;decide) (by simp [Opr.extra,Opr.hasPath,Opr.hasData,Opr.hasVer]) (Or.inr HC.out.symm) (by simp [Opr.inR];try omega))
     exact m0z
    | true =>
     subst hq
     have HF:Hid (R=1):=HR.out.trans (Opr.fault_extra (o:=⟨6,p,0,0,false,true⟩) (by simp [Opr.extra,Opr.hasPath,Opr.hasData,Opr.hasVer]))
     exact m1z
   | true =>
    subst hs
    have HF:Hid (R=1):=HR.out.trans (Opr.fault_extra (o:=⟨6,p,0,0,true,q⟩) (by simp [Opr.extra,Opr.hasPath,Opr.hasData,Opr.hasVer]))
    exact m1z
  ·have hvb:(v == 0)=false:=by simpa using hv
   have HF:Hid (R=1):=HR.out.trans (Opr.fault_extra (o:=⟨6,p,0,v,s,q⟩) (by simp [Opr.extra,Opr.hasPath,Opr.hasData,Opr.hasVer,hv]))
   exact m1z
 ·have hdb:(d == 0)=false:=by simpa using hd
  have HF:Hid (R=1):=HR.out.trans (Opr.fault_extra (o:=⟨6,p,d,v,s,q⟩) (by simp [Opr.extra,Opr.hasPath,Opr.hasData,Opr.hasVer,hd]))
  exact m1z
set_option maxHeartbeats 4000000 in
set_option maxRecDepth 100000 in
theorem l5Op_7 (b off:Nat) (p:ByteArray) (d v:Int) (s q:Bool) (w:World) (hb:b < w.heap.size) (hO:OAt w b off ⟨7,p,d,v,s,q⟩) :
  Calls Tryz.prog 51 #[.pointer (some ⟨b,off,none⟩)] w fun e w'=>e = .returned (.int .i64 (Opr.fault ⟨7,p,d,v,s,q⟩))∧Ext w w':=by
 have HO:Hid (OAt w b off ⟨7,p,d,v,s,q⟩):=hO
 have c0:w.cell? ⟨b,off,none⟩=some (.int .i64 7):=hO.1
 refine n11z ?_
 intro c1 c2 c3 c4 c5
 clear hO
 have CP:Hid (∀ wx:World,Calls Tryz.prog 107 #[.int .i64 7] wx fun e w'=>e = .returned (.bool true)∧w'=wx):=l5Path_any 7
 have CD:Hid (∀ wx:World,Calls Tryz.prog 108 #[.int .i64 7] wx fun e w'=>e = .returned (.bool false)∧w'=wx):=l5Data_any 7
 have CV:Hid (∀ wx:World,Calls Tryz.prog 109 #[.int .i64 7] wx fun e w'=>e = .returned (.bool false)∧w'=wx):=l5Version_any 7
 obtain⟨R,hR⟩:∃ R,R=Opr.fault ⟨7,p,d,v,s,q⟩:=⟨_,rfl⟩
 have HR:Hid (R=Opr.fault ⟨7,p,d,v,s,q⟩):=hR
 rw [← hR]
 clear hR
 have HL0:=fun wx:World=>l1FaultI_any p wx
 by_cases hd:d=0
 ·subst hd
  by_cases hv:v=0
  ·subst hv
   cases hs:s with
   | false =>
    subst hs
    cases hq:q with
    | false =>
     subst hq
     obtain⟨c,hc⟩:∃ c,c=Pth.faultI p.data.toList:=⟨_,rfl⟩
     have HC:Hid (c=Pth.faultI p.data.toList):=hc
     have HL:Hid (∀ wx:World,Calls Tryz.prog 110 #[.string p] wx fun e w'=>e = .returned (.int .i64 c)∧Ext wx w'):=by rw [hc];exact HL0
     clear HL0
     clear hc
     by_cases hc0:c≠0
     ·have hcb:(c != 0)=true:=by simpa using hc0
      have HF:Hid (R=c):=HR.out.trans (Opr.fault_path (o:=⟨7,p,0,0,false,false⟩) (by show (1:Int)≤7;decide) (by show (7:Int)≤8;decide) (by simp [Opr.extra,Opr.hasPath,Opr.hasData,Opr.hasVer]) rfl HC.out hc0)
      exact m0z
     have hc1:c=0:=by omega
     subst hc1
     clear hc0
     have HF:Hid (R=0):=HR.out.trans (Opr.fault_ok (o:=⟨7,p,0,0,false,false⟩) (by show (1:Int)≤7;decide) (by show (7:Int)≤8;decide) (by simp [Opr.extra,Opr.hasPath,Opr.hasData,Opr.hasVer]) (Or.inr HC.out.symm) (by simp [Opr.inR];try omega))
     exact m0z
    | true =>
     subst hq
     have HF:Hid (R=1):=HR.out.trans (Opr.fault_extra (o:=⟨7,p,0,0,false,true⟩) (by simp [Opr.extra,Opr.hasPath,Opr.hasData,Opr.hasVer]))
     exact m1z
   | true =>
    subst hs
    have HF:Hid (R=1):=HR.out.trans (Opr.fault_extra (o:=⟨7,p,0,0,true,q⟩) (by simp [Opr.extra,Opr.hasPath,Opr.hasData,Opr.hasVer]))
    exact m1z
  ·have hvb:(v == 0)=false:=by simpa using hv
   have HF:Hid (R=1):=HR.out.trans (Opr.fault_extra (o:=⟨7,p,0,v,s,q⟩) (by simp [Opr.extra,Opr.hasPath,Opr.hasData,Opr.hasVer,hv]))
   exact m1z
 ·have hdb:(d == 0)=false:=by simpa using hd
  have HF:Hid (R=1):=HR.out.trans (Opr.fault_extra (o:=⟨7,p,d,v,s,q⟩) (by simp [Opr.extra,Opr.hasPath,Opr.hasData,Opr.hasVer,hd]))
  exact m1z
set_option maxHeartbeats 4000000 in
set_option maxRecDepth 100000 in
theorem l5Op_8 (b off:Nat) (p:ByteArray) (d v:Int) (s q:Bool) (w:World) (hb:b < w.heap.size) (hO:OAt w b off ⟨8,p,d,v,s,q⟩) :
  Calls Tryz.prog 51 #[.pointer (some ⟨b,off,none⟩)] w fun e w'=>e = .returned (.int .i64 (Opr.fault ⟨8,p,d,v,s,q⟩))∧Ext w w':=by
 have HO:Hid (OAt w b off ⟨8,p,d,v,s,q⟩):=hO
 have c0:w.cell? ⟨b,off,none⟩=some (.int .i64 8):=hO.1
 refine n11z ?_
 intro c1 c2 c3 c4 c5
 clear hO
 have CP:Hid (∀ wx:World,Calls Tryz.prog 107 #[.int .i64 8] wx fun e w'=>e = .returned (.bool true)∧w'=wx):=l5Path_any 8
 have CD:Hid (∀ wx:World,Calls Tryz.prog 108 #[.int .i64 8] wx fun e w'=>e = .returned (.bool false)∧w'=wx):=l5Data_any 8
 have CV:Hid (∀ wx:World,Calls Tryz.prog 109 #[.int .i64 8] wx fun e w'=>e = .returned (.bool true)∧w'=wx):=l5Version_any 8
 obtain⟨R,hR⟩:∃ R,R=Opr.fault ⟨8,p,d,v,s,q⟩:=⟨_,rfl⟩
 have HR:Hid (R=Opr.fault ⟨8,p,d,v,s,q⟩):=hR
 rw [← hR]
 clear hR
 have HL0:=fun wx:World=>l1FaultI_any p wx
 by_cases hd:d=0
 ·subst hd
  cases hs:s with
  | false =>
   subst hs
   cases hq:q with
   | false =>
    subst hq
    obtain⟨c,hc⟩:∃ c,c=Pth.faultI p.data.toList:=⟨_,rfl⟩
    have HC:Hid (c=Pth.faultI p.data.toList):=hc
    have HL:Hid (∀ wx:World,Calls Tryz.prog 110 #[.string p] wx fun e w'=>e = .returned (.int .i64 c)∧Ext wx w'):=by rw [hc];exact HL0
    clear HL0
    clear hc
    by_cases hc0:c≠0
    ·have hcb:(c != 0)=true:=by simpa using hc0
     have HF:Hid (R=c):=HR.out.trans (Opr.fault_path (o:=⟨8,p,0,v,false,false⟩) (by show (1:Int)≤8;decide) (by show (8:Int)≤8;decide) (by simp [Opr.extra,Opr.hasPath,Opr.hasData,Opr.hasVer]) rfl HC.out hc0)
     exact m0z
    have hc1:c=0:=by omega
    subst hc1
    clear hc0
    by_cases lv:v < -1
    ·have HF:Hid (R=3):=HR.out.trans (Opr.fault_range (o:=⟨8,p,0,v,false,false⟩) (by show (1:Int)≤8;decide) (by show (8:Int)≤8;decide) (by simp [Opr.extra,Opr.hasPath,Opr.hasData,Opr.hasVer]) (Or.inr HC.out.symm) (by simp [Opr.inR];try omega))
     have HBv:Hid ((decide (-1≤v) && decide (v≤999))=false):=by unfold Hid;simp;omega
     exact m0z
    by_cases gv:999 < v
    ·have HF:Hid (R=3):=HR.out.trans (Opr.fault_range (o:=⟨8,p,0,v,false,false⟩) (by show (1:Int)≤8;decide) (by show (8:Int)≤8;decide) (by simp [Opr.extra,Opr.hasPath,Opr.hasData,Opr.hasVer]) (Or.inr HC.out.symm) (by simp [Opr.inR];try omega))
     have HBv:Hid ((decide (-1≤v) && decide (v≤999))=false):=by unfold Hid;simp;omega
     exact m0z
    have lv' : -1≤v:=by omega
    have gv' : v≤999:=by omega
    have HF:Hid (R=0):=HR.out.trans (Opr.fault_ok (o:=⟨8,p,0,v,false,false⟩) (by show (1:Int)≤8;decide) (by show (8:Int)≤8;decide) (by simp [Opr.extra,Opr.hasPath,Opr.hasData,Opr.hasVer]) (Or.inr HC.out.symm) (by simp [Opr.inR];try omega))
    have HBv:Hid ((decide (-1≤v) && decide (v≤999))=true):=by unfold Hid;simp;omega
    clear lv' gv'
    exact m0z
   | true =>
    subst hq
    have HF:Hid (R=1):=HR.out.trans (Opr.fault_extra (o:=⟨8,p,0,v,false,true⟩) (by simp [Opr.extra,Opr.hasPath,Opr.hasData,Opr.hasVer]))
    exact m1z
  | true =>
   subst hs
   have HF:Hid (R=1):=HR.out.trans (Opr.fault_extra (o:=⟨8,p,0,v,true,q⟩) (by simp [Opr.extra,Opr.hasPath,Opr.hasData,Opr.hasVer]))
   exact m1z
 ·have hdb:(d == 0)=false:=by simpa using hd
  have HF:Hid (R=1):=HR.out.trans (Opr.fault_extra (o:=⟨8,p,d,v,s,q⟩) (by simp [Opr.extra,Opr.hasPath,Opr.hasData,Opr.hasVer,hd]))
  exact m1z
end Go.Proofs.YtpdejinkmnhioaaGreatDoor
