/- the specification's l6Do, all kinds as one. -/
import Derived.Test.YtpdejinkmnhioaaGreatDoorAoJ37
import Derived.Test.YtpdejinkmnhioaaGreatDoorAoJ38
import Derived.Test.YtpdejinkmnhioaaGreatDoorAoJ39
import Derived.Test.YtpdejinkmnhioaaGreatDoorAoJ40
import Derived.Test.YtpdejinkmnhioaaGreatDoorAoJ41
import Derived.Test.YtpdejinkmnhioaaGreatDoorAoJ42
import Derived.Test.YtpdejinkmnhioaaGreatDoorAoMk
namespace Go.Proofs.YtpdejinkmnhioaaGreatDoor
open Go.RowKit
/-- What the specification's l6Do leaves. -/
def DRet (n:Nat) (w:World) (um:Value) (q:Ry × Stt) (e:Ending) (w' : World):Prop :=
 ∃ un us,e = .returned (.tuple #[sagg un us q.2.now um,yagg q.1.code q.1.value q.1.path])∧SHas n (fun _=>False) w' un us um q.2∧Ext w w'
namespace Sta
theorem right_facts {s:Stt} (h:right s):(s.nodes.length≤20∧0 < s.nodes.length)∧(∀ z ∈ s.nodes,Pth.faultI z.path.data.toList=0)∧(∀ z ∈ s.nodes,0≤z.next)∧(∀ z ∈ s.nodes,0≤z.version∧z.version≤1000)∧s.ses.length≤6∧Rises s.ses∧(0≤s.now∧s.now≤9000):=by
 obtain⟨h1,h2,h3⟩:=h
 obtain⟨l1,l2,-⟩:=Tre.fault_len h1
 obtain⟨e1,e2,-⟩:=Ses.fault_zero h2
 refine⟨⟨l1,l2⟩,fun z hz=>(Tre.fault_nums h1 z hz).1,fun z hz=>?_,fun z hz=>?_,e1,e2,?_⟩
 ·have:=(Tre.fault_nums h1 z hz).2
  unfold Tre.okNums at this
  simp at this
  omega
 ·have:=(Tre.fault_nums h1 z hz).2
  unfold Tre.okNums at this
  simp at this
  omega
 ·unfold Ses.nowOk at h3;simpa using h3
theorem liveT_3 {s:Stt} {c:Int} {o:Opn} (h:o.kind=3):liveT s c o=treeT s (Tre.createT s.nodes o.path o.data (ownT c o) o.seq) 0:=by unfold liveT;rw [if_neg (by omega),if_pos h]
theorem liveT_4 {s:Stt} {c:Int} {o:Opn} (h:o.kind=4):liveT s c o=treeT s (Tre.delT s.nodes o.path o.version) 0:=by unfold liveT;rw [if_neg (by omega),if_neg (by omega),if_pos h]
theorem liveT_5 {s:Stt} {c:Int} {o:Opn} (h:o.kind=5):liveT s c o=treeT s (Tre.setT s.nodes o.path o.data o.version) (verT s o):=by unfold liveT;rw [if_neg (by omega),if_neg (by omega),if_neg (by omega),if_pos h]
theorem liveT_2 {s:Stt} {c:Int} {o:Opn} (h:o.kind=2):liveT s c o=closeT s c:=by unfold liveT;rw [if_pos h]
end Sta
theorem dret_same {n:Nat} {w w' : World} {s:Stt} {vn vs vm:Value} {r:Ry} {e:Ending} (hH:SHas n (fun _=>False) w vn vs vm s) (he:e = .returned (.tuple #[sagg vn vs s.now vm,yagg r.code r.value r.path])) (hE:Ext w w'):DRet n w vm (r,s) e w' :=
 ⟨vn,vs,he,hH.ext hE,hE⟩
theorem dret_nodes {n g:Nat} {w w' : World} {s:Stt} {vn vs vm v:Value} {r:Ry} {rs:List Zn} {e:Ending} (hH:SHas n (fun _=>False) w vn vs vm s) (hn:n≤w.heap.size) (he:e = .returned (.tuple #[sagg v vs s.now vm,yagg r.code r.value r.path])) (hg:w.heap.size≤g) (hO:Own w' v g rs) (hE:Ext w w'):DRet n w vm (r,{ s with nodes:=rs }) e w' :=
 ⟨v,vs,he,hH.nodes hE hO hg hn (fun h=>h),hE⟩
theorem dret_ses {n g:Nat} {w w' : World} {s:Stt} {vn vs vm v:Value} {r:Ry} {rs:List Se} {e:Ending} (hH:SHas n (fun _=>False) w vn vs vm s) (hn:n≤w.heap.size) (he:e = .returned (.tuple #[sagg vn v s.now vm,yagg r.code r.value r.path])) (hg:w.heap.size≤g) (hO:EOwn w' v g rs) (hE:Ext w w'):DRet n w vm (r,{ s with ses:=rs }) e w' :=
 ⟨vn,v,he,hH.ses hE hO hg hn (fun h=>h),hE⟩
theorem l6Do_any (n b:Nat) (s:Stt) (vn vs vm:Value) (c:Int) (z:Opn) (w:World) (hH:SHas n (fun _=>False) w vn vs vm s) (hv:SomeS vs) (hO:OBoxAt w b z) (hn:n≤w.heap.size) (hr:Sta.right s) (hz:Opr.fault z=0) :
  Calls Tryz.prog 52 #[sagg vn vs s.now vm,.int .i64 c,.pointer (some ⟨b,0,none⟩)] w (DRet n w vm (Sta.doT s c z)):=by
 have hS:=hH.slice
 obtain⟨⟨hl20,hpos⟩,hgo,hnx,hvn,hse,hri,hnw⟩:=Sta.right_facts hr
 obtain⟨bn,on,cn,rfl⟩:∃ bn on cn,vn = .slice (some ⟨bn,on,none⟩) s.nodes.length cn:=by
  obtain⟨a,cap,h1,-,-,h4⟩:=hS.1
  obtain⟨b,o,rfl,-⟩:=h4 hpos
  exact⟨b,o,cap,h1⟩
 obtain⟨bb,off,ce,rfl⟩:∃ bb off ce,vs = .slice (some ⟨bb,off,none⟩) s.ses.length ce:=by
  obtain⟨b,o,m,cap,rfl⟩:=hv
  obtain⟨a,cp,h1⟩:=hS.2.1.vis
  injection h1 with h1 h2 h3
  subst h2
  exact⟨b,o,cap,rfl⟩
 obtain⟨am,cm,rfl⟩:=MSlice.vis hS.2.2
 obtain⟨hk1,hk8⟩:=Sta.kind_of hz
 by_cases k1:z.kind=1
 ·rw [Sta.doT_open k1]
  rcases hT:Ses.opened s.ses c s.now with ⟨rc,rs⟩
  unfold Sta.openT
  rw [hT]
  by_cases h0:rc=0
  ·subst h0
   rw [if_neg (by simp)]
   refine (l6Do_open_ok b s bb off (some ⟨bn,on,none⟩) am cn ce cm c z w hS hO rs k1 hri (by omega) (by omega) hT).mono ?_
   rintro e w' ⟨a5,c5,g5,rfl,hg,hO5,hE⟩
   exact dret_ses hH hn rfl hg hO5 hE
  ·rw [if_pos h0]
   refine (l6Do_open_bad b s bb off (some ⟨bn,on,none⟩) am cn ce cm c z w hS hO rc rs k1 h0 hri (by omega) (by omega) hT).mono ?_
   rintro e w' ⟨rfl,hE⟩
   exact dret_same hH rfl hE
 cases hl:Ses.live s.ses c s.now with
 | false =>
  rw [Sta.doT_gone k1 hl]
  refine (l6Do_gone b s (some ⟨bn,on,none⟩) (some ⟨bb,off,none⟩) am cn ce cm c z w hS hO k1 hl).mono ?_
  rintro e w' ⟨rfl,hE⟩
  exact dret_same hH rfl hE
 | true =>
  rw [Sta.doT_live k1 hl]
  by_cases k2:z.kind=2
  ·rw [Sta.liveT_2 k2]
   refine (l6Do_close b s (some ⟨bn,on,none⟩) (some ⟨bb,off,none⟩) am cn ce cm c z w hS hO k2 hl (by omega) (by omega)).mono ?_
   rintro e w' ⟨a5,c5,a6,c6,g1,g2,rfl,⟨h1,h2⟩,h3,hO1,hO2,hE⟩
   obtain⟨m1,m2,m3,⟨e1,e2,e3⟩,-,-,-,-,hM⟩:=hH
   refine⟨_,_,rfl,⟨g1,g2,m3,⟨by omega,by omega,e3⟩,⟨fun _ h=>h,fun _ h=>h,fun _ h=>h⟩,⟨?_,?_,?_⟩,hO1,hO2,hM.ext hE⟩,hE⟩
   ·intro _ h;have:=h3 h;omega
   ·intro _ h;have:=hM.ltS h;omega
   ·intro _ h;have:=hM.ltS h;omega
  have hp3:=Sta.path_zero hz (by omega)
  by_cases k3:z.kind=3
  ·rw [Sta.liveT_3 k3]
   cases how:z.own with
   | true =>
    have ho:Sta.ownT c z=c:=by unfold Sta.ownT;rw [how,if_pos rfl]
    rw [ho]
    rcases hT:Tre.createT s.nodes z.path z.data c z.seq with ⟨rc,rp,rs⟩
    by_cases h0:rc=0
    ·subst h0
     rw [Sta.treeT_ok rfl]
     refine (l6Do_create_ok_own b s (some ⟨bn,on,none⟩) (some ⟨bb,off,none⟩) am cn ce cm c z w hS hO rp rs k3 hl hp3.2 hpos (by omega) hnx hT how).mono ?_
     exact m68z
    ·rw [Sta.treeT_bad h0]
     refine (l6Do_create_bad_own b s (some ⟨bn,on,none⟩) (some ⟨bb,off,none⟩) am cn ce cm c z w hS hO rc rp rs k3 hl h0 hp3.2 hpos (by omega) hnx hT how).mono ?_
     rintro e w' ⟨rfl,hE⟩
     exact dret_same hH rfl hE
   | false =>
    have ho:Sta.ownT c z=0:=by unfold Sta.ownT;rw [how,if_neg (by decide)]
    rw [ho]
    rcases hT:Tre.createT s.nodes z.path z.data 0 z.seq with ⟨rc,rp,rs⟩
    by_cases h0:rc=0
    ·subst h0
     rw [Sta.treeT_ok rfl]
     refine (l6Do_create_ok_not b s (some ⟨bn,on,none⟩) (some ⟨bb,off,none⟩) am cn ce cm c z w hS hO rp rs k3 hl hp3.2 hpos (by omega) hnx hT how).mono ?_
     exact m68z
    ·rw [Sta.treeT_bad h0]
     refine (l6Do_create_bad_not b s (some ⟨bn,on,none⟩) (some ⟨bb,off,none⟩) am cn ce cm c z w hS hO rc rp rs k3 hl h0 hp3.2 hpos (by omega) hnx hT how).mono ?_
     rintro e w' ⟨rfl,hE⟩
     exact dret_same hH rfl hE
  by_cases k4:z.kind=4
  ·rw [Sta.liveT_4 k4]
   rcases hT:Tre.delT s.nodes z.path z.version with ⟨rc,rp,rs⟩
   by_cases h0:rc=0
   ·subst h0
    rw [Sta.treeT_ok rfl]
    refine (l6Do_delete_ok b s (some ⟨bn,on,none⟩) (some ⟨bb,off,none⟩) am cn ce cm c z w hS hO rp rs k4 hl (by omega) hgo hT).mono ?_
    exact m68z
   ·rw [Sta.treeT_bad h0]
    refine (l6Do_delete_bad b s (some ⟨bn,on,none⟩) (some ⟨bb,off,none⟩) am cn ce cm c z w hS hO rc rp rs k4 hl h0 (by omega) hgo hT).mono ?_
    rintro e w' ⟨rfl,hE⟩
    exact dret_same hH rfl hE
  by_cases k5:z.kind=5
  ·rw [Sta.liveT_5 k5]
   rcases hT:Tre.setT s.nodes z.path z.data z.version with ⟨rc,rp,rs⟩
   rcases Tre.atI_range s.nodes z.path with ⟨ha,-⟩ | ⟨k,y,ha,-,hy,-⟩
   ·have h0:¬ rc=0:=by
     intro h
     subst h
     obtain⟨k,y,ha',-⟩:=Sta.setT_zero (show (Tre.setT s.nodes z.path z.data z.version).1=0 by rw [hT])
     omega
    rw [Sta.treeT_bad h0]
    refine (l6Do_set_none b s (some ⟨bn,on,none⟩) (some ⟨bb,off,none⟩) am cn ce cm c z w hS hO rc rp rs k5 hl h0 (by omega) (fun y hy=>(hvn y hy).1) hT ha).mono ?_
    rintro e w' ⟨rfl,hE⟩
    exact dret_same hH rfl hE
   ·have hyv:=hvn y (List.mem_of_getElem? hy)
    by_cases h0:rc=0
    ·subst h0
     rw [Sta.treeT_ok rfl,Sta.verT_some ha hy]
     refine (l6Do_set_ok b s bn on (some ⟨bb,off,none⟩) am cn ce cm c z w hS hO rp rs k5 hl (by omega) (fun y hy=>(hvn y hy).1) hT k y ha hy hyv).mono ?_
     exact m68z
    ·rw [Sta.treeT_bad h0]
     refine (l6Do_set_bad b s bn on (some ⟨bb,off,none⟩) am cn ce cm c z w hS hO rc rp rs k5 hl h0 (by omega) (fun y hy=>(hvn y hy).1) hT k y ha hy hyv).mono ?_
     rintro e w' ⟨rfl,hE⟩
     exact dret_same hH rfl hE
  ·rw [Sta.liveT_read (by omega)]
   rcases hR:Sta.readT s z with ⟨rc,rv,rp⟩
   refine (l6Do_read b s (some ⟨bn,on,none⟩) (some ⟨bb,off,none⟩) am cn ce cm c z w hS hO rc rv rp hl k1 k2 k3 k4 k5 ?_).mono ?_
   ·intro wx he hX
    rcases Tre.atI_range s.nodes z.path with ⟨ha,-⟩ | ⟨k,y,ha,-,hy,-⟩
    ·rw [Sta.readT_none (by omega)] at hR
     cases hR
     exact l6Read_none _ b s _ _ _ z wx hX (hS.1.ext he) (hO.ext he) ha
    ·rw [Sta.readT_some ha hy] at hR
     by_cases k6:z.kind=6
     ·rw [if_pos k6] at hR
      cases hR
      exact l6Read_get _ b s _ _ _ z k y wx hX (hS.1.ext he) (hO.ext he) k6 ha hy
     rw [if_neg k6] at hR
     by_cases k7:z.kind=7
     ·rw [if_pos k7] at hR
      cases hR
      exact l6Read_kids _ b s _ _ _ z k y wx hX (hS.1.ext he) (hO.ext he) k7 ha hy (by omega) hgo
     rw [if_neg k7] at hR
     have k8:z.kind=8:=by omega
     by_cases v1:z.version = -1
     ·rw [if_neg (by simp [v1])] at hR
      cases hR
      exact l6Read_any _ b s _ _ _ z k y wx hX (hS.1.ext he) (hO.ext he) k8 ha hy v1
     by_cases v2:z.version=y.version
     ·rw [if_neg (by simp [v2])] at hR
      cases hR
      exact l6Read_same _ b s _ _ _ z k y wx hX (hS.1.ext he) (hO.ext he) k8 ha hy v1 v2
     ·rw [if_pos ⟨v1,v2⟩] at hR
      cases hR
      exact l6Read_other _ b s _ _ _ z k y wx hX (hS.1.ext he) (hO.ext he) k8 ha hy v1 v2
   ·rintro e w' ⟨rfl,hE⟩
    exact dret_same (r:=⟨rc,rv,rp⟩) hH rfl hE
end Go.Proofs.YtpdejinkmnhioaaGreatDoor
