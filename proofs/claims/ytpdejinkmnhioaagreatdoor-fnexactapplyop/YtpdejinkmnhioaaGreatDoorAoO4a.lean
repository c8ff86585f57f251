/- operations: l5Op of the specification, kind by kind (1, 2, 3, 4). -/
import Derived.Test.YtpdejinkmnhioaaGreatDoorAoJ33
import Derived.Test.YtpdejinkmnhioaaGreatDoorAoMk
namespace Go.Proofs.YtpdejinkmnhioaaGreatDoor
open Go.RowKit
set_option maxHeartbeats 4000000 in
set_option maxRecDepth 100000 in
theorem l5Op_1 (b off:Nat) (p:ByteArray) (d v:Int) (s q:Bool) (w:World) (_hb:b < w.heap.size) (hO:OAt w b off ⟨1,p,d,v,s,q⟩) :
  Calls Tryz.prog 51 #[.pointer (some ⟨b,off,none⟩)] w fun e w'=>e = .returned (.int .i64 (Opr.fault ⟨1,p,d,v,s,q⟩))∧Ext w w':=by
 have HO:Hid (OAt w b off ⟨1,p,d,v,s,q⟩):=hO
 have c0:w.cell? ⟨b,off,none⟩=some (.int .i64 1):=hO.1
 refine n11z ?_
 intro c1 c2 c3 c4 c5
 clear hO
 have CP:Hid (∀ wx:World,Calls Tryz.prog 107 #[.int .i64 1] wx fun e w'=>e = .returned (.bool false)∧w'=wx):=l5Path_any 1
 have CD:Hid (∀ wx:World,Calls Tryz.prog 108 #[.int .i64 1] wx fun e w'=>e = .returned (.bool false)∧w'=wx):=l5Data_any 1
 have CV:Hid (∀ wx:World,Calls Tryz.prog 109 #[.int .i64 1] wx fun e w'=>e = .returned (.bool false)∧w'=wx):=l5Version_any 1
 obtain⟨R,hR⟩:∃ R,R=Opr.fault ⟨1,p,d,v,s,q⟩:=⟨_,rfl⟩
 have HR:Hid (R=Opr.fault ⟨1,p,d,v,s,q⟩):=hR
 rw [← hR]
 clear hR
 by_cases hp:p=⟨#[]⟩
 ·subst hp
  by_cases hd:d=0
  ·subst hd
   by_cases hv:v=0
   ·subst hv
    cases hs:s with
    | false =>
     subst hs
     cases hq:q with
     | false =>
      subst hq
      have HF:Hid (R=0):=HR.out.trans (Opr.fault_ok (o:=⟨1,⟨#[]⟩,0,0,false,false⟩) (by show (1:Int)≤1;decide) (by show (1:Int)≤8;decide) (by simp [Opr.extra,Opr.hasPath,Opr.hasData,Opr.hasVer]) (Or.inl rfl) (by simp [Opr.inR];try omega))
      exact m1z
     | true =>
      subst hq
      have HF:Hid (R=1):=HR.out.trans (Opr.fault_extra (o:=⟨1,⟨#[]⟩,0,0,false,true⟩) (by simp [Opr.extra,Opr.hasPath,Opr.hasData,Opr.hasVer]))
      exact m1z
    | true =>
     subst hs
     have HF:Hid (R=1):=HR.out.trans (Opr.fault_extra (o:=⟨1,⟨#[]⟩,0,0,true,q⟩) (by simp [Opr.extra,Opr.hasPath,Opr.hasData,Opr.hasVer]))
     exact m1z
   ·have hvb:(v == 0)=false:=by simpa using hv
    have HF:Hid (R=1):=HR.out.trans (Opr.fault_extra (o:=⟨1,⟨#[]⟩,0,v,s,q⟩) (by simp [Opr.extra,Opr.hasPath,Opr.hasData,Opr.hasVer,hv]))
    exact m1z
  ·have hdb:(d == 0)=false:=by simpa using hd
   have HF:Hid (R=1):=HR.out.trans (Opr.fault_extra (o:=⟨1,⟨#[]⟩,d,v,s,q⟩) (by simp [Opr.extra,Opr.hasPath,Opr.hasData,Opr.hasVer,hd]))
   exact m1z
 ·have hpl:(p.toList == ([]:List UInt8))=false:=bytes_ne hp
  have HF:Hid (R=1):=HR.out.trans (Opr.fault_extra (o:=⟨1,p,d,v,s,q⟩) (by simp [Opr.extra,Opr.hasPath,Opr.hasData,Opr.hasVer,hp]))
  exact m1z
set_option maxHeartbeats 4000000 in
set_option maxRecDepth 100000 in
theorem l5Op_2 (b off:Nat) (p:ByteArray) (d v:Int) (s q:Bool) (w:World) (_hb:b < w.heap.size) (hO:OAt w b off ⟨2,p,d,v,s,q⟩) :
  Calls Tryz.prog 51 #[.pointer (some ⟨b,off,none⟩)] w fun e w'=>e = .returned (.int .i64 (Opr.fault ⟨2,p,d,v,s,q⟩))∧Ext w w':=by
 have HO:Hid (OAt w b off ⟨2,p,d,v,s,q⟩):=hO
 have c0:w.cell? ⟨b,off,none⟩=some (.int .i64 2):=hO.1
 refine n11z ?_
 intro c1 c2 c3 c4 c5
 clear hO
 have CP:Hid (∀ wx:World,Calls Tryz.prog 107 #[.int .i64 2] wx fun e w'=>e = .returned (.bool false)∧w'=wx):=l5Path_any 2
 have CD:Hid (∀ wx:World,Calls Tryz.prog 108 #[.int .i64 2] wx fun e w'=>e = .returned (.bool false)∧w'=wx):=l5Data_any 2
 have CV:Hid (∀ wx:World,Calls Tryz.prog 109 #[.int .i64 2] wx fun e w'=>e = .returned (.bool false)∧w'=wx):=l5Version_any 2
 obtain⟨R,hR⟩:∃ R,R=Opr.fault ⟨2,p,d,v,s,q⟩:=⟨_,rfl⟩
 have HR:Hid (R=Opr.fault ⟨2,p,d,v,s,q⟩):=hR
 rw [← hR]
 clear hR
 by_cases hp:p=⟨#[]⟩
 ·subst hp
  by_cases hd:d=0
  ·subst hd
   by_cases hv:v=0
   ·subst hv
    cases hs:s with
    | false =>
     subst hs
     cases hq:q with
     | false =>
      subst hq
      have HF:Hid (R=0):=HR.out.trans (Opr.fault_ok (o:=⟨2,⟨#[]⟩,0,0,false,false⟩) (by show (1:Int)≤2;decide) (by show (2:Int)≤8;decide) (by simp [Opr.extra,Opr.hasPath,Opr.hasData,Opr.hasVer]) (Or.inl rfl) (by simp [Opr.inR];try omega))
      exact m1z
     | true =>
      subst hq
      have HF:Hid (R=1):=HR.out.trans (Opr.fault_extra (o:=⟨2,⟨#[]⟩,0,0,false,true⟩) (by simp [Opr.extra,Opr.hasPath,Opr.hasData,Opr.hasVer]))
      exact m1z
    | true =>
     subst hs
     have HF:Hid (R=1):=HR.out.trans (Opr.fault_extra (o:=⟨2,⟨#[]⟩,0,0,true,q⟩) (by simp [Opr.extra,Opr.hasPath,Opr.hasData,Opr.hasVer]))
     exact m1z
   ·have hvb:(v == 0)=false:=by simpa using hv
    have HF:Hid (R=1):=HR.out.trans (Opr.fault_extra (o:=⟨2,⟨#[]⟩,0,v,s,q⟩) (by simp [Opr.extra,Opr.hasPath,Opr.hasData,Opr.hasVer,hv]))
    exact m1z
  ·have hdb:(d == 0)=false:=by simpa using hd
   have HF:Hid (R=1):=HR.out.trans (Opr.fault_extra (o:=⟨2,⟨#[]⟩,d,v,s,q⟩) (by simp [Opr.extra,Opr.hasPath,Opr.hasData,Opr.hasVer,hd]))
   exact m1z
 ·have hpl:(p.toList == ([]:List UInt8))=false:=bytes_ne hp
  have HF:Hid (R=1):=HR.out.trans (Opr.fault_extra (o:=⟨2,p,d,v,s,q⟩) (by simp [Opr.extra,Opr.hasPath,Opr.hasData,Opr.hasVer,hp]))
  exact m1z
set_option maxHeartbeats 4000000 in
set_option maxRecDepth 100000 in
theorem l5Op_3 (b off:Nat) (p:ByteArray) (d v:Int) (s q:Bool) (w:World) (hb:b < w.heap.size) (hO:OAt w b off ⟨3,p,d,v,s,q⟩) :
  Calls Tryz.prog 51 #[.pointer (some ⟨b,off,none⟩)] w fun e w'=>e = .returned (.int .i64 (Opr.fault ⟨3,p,d,v,s,q⟩))∧Ext w w':=by
 have HO:Hid (OAt w b off ⟨3,p,d,v,s,q⟩):=hO
 have c0:w.cell? ⟨b,off,none⟩=some (.int .i64 3):=hO.1
 refine n11z ?_
 intro c1 c2 c3 c4 c5
 clear hO
 have CP:Hid (∀ wx:World,Calls Tryz.prog 107 #[.int .i64 3] wx fun e w'=>e = .returned (.bool true)∧w'=wx):=l5Path_any 3
 have CD:Hid (∀ wx:World,Calls Tryz.prog 108 #[.int .i64 3] wx fun e w'=>e = .returned (.bool true)∧w'=wx):=l5Data_any 3
 have CV:Hid (∀ wx:World,Calls Tryz.prog 109 #[.int .i64 3] wx fun e w'=>e = .returned (.bool false)∧w'=wx):=l5Version_any 3
 obtain⟨R,hR⟩:∃ R,R=Opr.fault ⟨3,p,d,v,s,q⟩:=⟨_,rfl⟩
 have HR:Hid (R=Opr.fault ⟨3,p,d,v,s,q⟩):=hR
 rw [← hR]
 clear hR
 have HL0:=fun wx:World=>l1FaultI_any p wx
 by_cases hv:v=0
 ·subst hv
  obtain⟨c,hc⟩:∃ c,c=Pth.faultI p.data.toList:=⟨_,rfl⟩
  have HC:Hid (c=Pth.faultI p.data.toList):=hc
  have HL:Hid (∀ wx:World,Calls Tryz.prog 110 #[.string p] wx fun e w'=>e = .returned (.int .i64 c)∧Ext wx w'):=by rw [hc];exact HL0
  clear HL0
  clear hc
  by_cases hc0:c≠0
  ·have hcb:(c != 0)=true:=by simpa using hc0
   have HF:Hid (R=c):=HR.out.trans (Opr.fault_path (o:=⟨3,p,d,0,s,q⟩) (by show (1:Int)≤3;decide) (by show (3:Int)≤8;decide) (by simp [Opr.extra,Opr.hasPath,Opr.hasData,Opr.hasVer]) rfl HC.out hc0)
   exact m0z
  have hc1:c=0:=by omega
  subst hc1
  clear hc0
  by_cases ld:d < 0
  ·have HF:Hid (R=3):=HR.out.trans (Opr.fault_range (o:=⟨3,p,d,0,s,q⟩) (by show (1:Int)≤3;decide) (by show (3:Int)≤8;decide) (by simp [Opr.extra,Opr.hasPath,Opr.hasData,Opr.hasVer]) (Or.inr HC.out.symm) (by simp [Opr.inR];try omega))
   have HBd:Hid ((decide (0≤d) && decide (d≤9999))=false):=by unfold Hid;simp;omega
   exact m0z
  by_cases gd:9999 < d
  ·have HF:Hid (R=3):=HR.out.trans (Opr.fault_range (o:=⟨3,p,d,0,s,q⟩) (by show (1:Int)≤3;decide) (by show (3:Int)≤8;decide) (by simp [Opr.extra,Opr.hasPath,Opr.hasData,Opr.hasVer]) (Or.inr HC.out.symm) (by simp [Opr.inR];try omega))
   have HBd:Hid ((decide (0≤d) && decide (d≤9999))=false):=by unfold Hid;simp;omega
   exact m0z
  have ld' : 0≤d:=by omega
  have gd' : d≤9999:=by omega
  have HF:Hid (R=0):=HR.out.trans (Opr.fault_ok (o:=⟨3,p,d,0,s,q⟩) (by show (1:Int)≤3;decide) (by show (3:Int)≤8;decide) (by simp [Opr.extra,Opr.hasPath,Opr.hasData,Opr.hasVer]) (Or.inr HC.out.symm) (by simp [Opr.inR];try omega))
  have HBd:Hid ((decide (0≤d) && decide (d≤9999))=true):=by unfold Hid;simp;omega
  clear ld' gd'
  exact m0z
 ·have hvb:(v == 0)=false:=by simpa using hv
  have HF:Hid (R=1):=HR.out.trans (Opr.fault_extra (o:=⟨3,p,d,v,s,q⟩) (by simp [Opr.extra,Opr.hasPath,Opr.hasData,Opr.hasVer,hv]))
  exact m1z
set_option maxHeartbeats 4000000 in
set_option maxRecDepth 100000 in
theorem l5Op_4 (b off:Nat) (p:ByteArray) (d v:Int) (s q:Bool) (w:World) (hb:b < w.heap.size) (hO:OAt w b off ⟨4,p,d,v,s,q⟩) :
  Calls Tryz.prog 51 #[.pointer (some ⟨b,off,none⟩)] w fun e w'=>e = .returned (.int .i64 (Opr.fault ⟨4,p,d,v,s,q⟩))∧Ext w w':=by
 have HO:Hid (OAt w b off ⟨4,p,d,v,s,q⟩):=hO
 have c0:w.cell? ⟨b,off,none⟩=some (.int .i64 4):=hO.1
 refine n11z ?_
 intro c1 c2 c3 c4 c5
 clear hO
 have CP:Hid (∀ wx:World,Calls Tryz.prog 107 #[.int .i64 4] wx fun e w'=>e = .returned (.bool true)∧w'=wx):=l5Path_any 4
 have CD:Hid (∀ wx:World,Calls Tryz.prog 108 #[.int .i64 4] wx fun e w'=>e = .returned (.bool false)∧w'=wx):=l5Data_any 4
 have CV:Hid (∀ wx:World,Calls Tryz.prog 109 #[.int .i64 4] wx fun e w'=>e = .returned (.bool true)∧w'=wx):=l5Version_any 4
 obtain⟨R,hR⟩:∃ R,R=Opr.fault ⟨4,p,d,v,s,q⟩:=⟨_,rfl⟩
 have HR:Hid (R=Opr.fault ⟨4,p,d,v,s,q⟩):=hR
 rw [← hR]
 clear hR
 have HL0:=fun wx:World=>l1FaultI_any p wx
 by_cases hd:d=0
 ·subst hd
  cases hs:s with
  | false =>
   subst hs
   cases hq:q with
   | false =>
    subst hq
    obtain⟨c,hc⟩:∃ c,c=Pth.faultI p.data.toList:=⟨_,rfl⟩
    have HC:Hid (c=Pth.faultI p.data.toList):=hc
    have HL:Hid (∀ wx:World,Calls Tryz.prog 110 #[.string p] wx fun e w'=>e = .returned (.int .i64 c)∧Ext wx w'):=by rw [hc];exact HL0
    clear HL0
    clear hc
    by_cases hc0:c≠0
    ·have hcb:(c != 0)=true:=by simpa using hc0
     have HF:Hid (R=c):=HR.out.trans (Opr.fault_path (o:=⟨4,p,0,v,false,false⟩) (by show (1:Int)≤4;decide) (by show (4:Int)≤8;decide) (by simp [Opr.extra,Opr.hasPath,Opr.hasData,Opr.hasVer]) rfl HC.out hc0)
     exact m0z
    have hc1:c=0:=by omega
    subst hc1
    clear hc0
    by_cases lv:v < -1
    ·have HF:Hid (R=3):=HR.out.trans (Opr.fault_range (o:=⟨4,p,0,v,false,false⟩) (by show (1:Int)≤4;decide) (by show (4:Int)≤8;decide) (by simp [Opr.extra,Opr.hasPath,Opr.hasData,Opr.hasVer]) (Or.inr HC.out.symm) (by simp [Opr.inR];try omega))
     have HBv:Hid ((decide (-1≤v) && decide (v≤999))=false):=by unfold Hid;simp;omega
     exact m0z
    by_cases gv:999 < v
    ·have HF:Hid (R=3):=HR.out.trans (Opr.fault_range (o:=⟨4,p,0,v,false,false⟩) (by show (1:Int)≤4;decide) (by show (4:Int)≤8;decide) (by simp [Opr.extra,Opr.hasPath,Opr.hasData,Opr.hasVer]) (Or.inr HC.out.symm) (by simp [Opr.inR];try omega))
     have HBv:Hid ((decide (-1≤v) && decide (v≤999))=false):=by unfold Hid;simp;omega
     exact m0z
    have lv' : -1≤v:=by omega
    have gv' : v≤999:=by omega
    have HF:Hid (R=0):=HR.out.trans (Opr.fault_ok (o:=⟨4,p,0,v,false,false⟩) (by show (1:Int)≤4;decide) (by show (4:Int)≤8;decide) (by simp [Opr.extra,Opr.hasPath,Opr.hasData,Opr.hasVer]) (Or.inr HC.out.symm) (by simp [Opr.inR];try omega))
    have HBv:Hid ((decide (-1≤v) && decide (v≤999))=true):=by unfold Hid;simp;omega
    clear lv' gv'
    exact m0z
   | true =>
    subst hq
    have HF:Hid (R=1):=HR.out.trans (Opr.fault_extra (o:=⟨4,p,0,v,false,true⟩) (by simp [Opr.extra,Opr.hasPath,Opr.hasData,Opr.hasVer]))
    exact m1z
  | true =>
   subst hs
   have HF:Hid (R=1):=HR.out.trans (Opr.fault_extra (o:=⟨4,p,0,v,true,q⟩) (by simp [Opr.extra,Opr.hasPath,Opr.hasData,Opr.hasVer]))
   exact m1z
 ·have hdb:(d == 0)=false:=by simpa using hd
  have HF:Hid (R=1):=HR.out.trans (Opr.fault_extra (o:=⟨4,p,d,v,s,q⟩) (by simp [Opr.extra,Opr.hasPath,Opr.hasData,Opr.hasVer,hd]))
  exact m1z
end Go.Proofs.YtpdejinkmnhioaaGreatDoor
