/- what a request makes of a state: mathematics; what is right stays right. -/
import Derived.Test.YtpdejinkmnhioaaGreatDoorAoJ36
import Derived.Test.YtpdejinkmnhioaaGreatDoorAoYB5
import Derived.Test.YtpdejinkmnhioaaGreatDoorAoJ21
import Derived.Test.YtpdejinkmnhioaaGreatDoorAoJ38
import Derived.Test.YtpdejinkmnhioaaGreatDoorAoJ45
namespace Go.Proofs.YtpdejinkmnhioaaGreatDoor
open Go.RowKit
theorem Ses.from_of:∀ (l:List Se) (a:Int),Rises l→(∀ s ∈ l,Ses.ok s=true)→(∀ s ∈ l,a < s.id)→Ses.from a l=0
 | [],_,_,_,_=>rfl
 | s :: r,a,h1,h2,h3=>by
  rw [Ses.from,if_neg (by rw [h2 s List.mem_cons_self];decide),if_neg (by have:=h3 s List.mem_cons_self;omega)]
  have hp:=List.pairwise_cons.1 h1
  exact Ses.from_of r s.id hp.2 (fun t ht=>h2 t (List.mem_cons_of_mem _ ht)) hp.1
theorem Ses.fault_of {l:List Se} (h1:l.length≤6) (h2:Rises l) (h3:∀ s ∈ l,Ses.ok s=true):Ses.fault l=0:=by
 unfold Ses.fault
 rw [if_neg (by omega)]
 exact Ses.from_of l 0 h2 h3 fun s hs=>by have:=(Ses.ok_iff.1 (h3 s hs)).1;omega
theorem Ses.fault_filter {l:List Se} (h:Ses.fault l=0) (f:Se→Bool):Ses.fault (l.filter f)=0:=by
 obtain⟨h1,h2,h3⟩:=Ses.fault_zero h
 exact Ses.fault_of (Nat.le_trans (List.length_filter_le _ _) h1) (h2.filter _) fun s hs=>h3 s (List.mem_filter.1 hs).1
theorem Ses.fault_put {l:List Se} (h:Ses.fault l=0) {s:Se} (hs:Ses.ok s=true) (hl:(putSe s l).length≤6):Ses.fault (putSe s l)=0:=by
 obtain⟨h1,h2,h3⟩:=Ses.fault_zero h
 refine Ses.fault_of hl (h2.put s) fun t ht=>?_
 rcases putSe_mem ht with rfl | ht
 ·exact hs
 ·exact h3 t ht
namespace Sta
theorem right_ses {s:Stt} (h:right s) {l:List Se} (hl:Ses.fault l=0):right { s with ses:=l }:=⟨h.1,hl,h.2.2⟩
theorem right_nodes {s:Stt} (h:right s) {l:List Zn} (hl:Tre.fault l=0):right { s with nodes:=l }:=⟨hl,h.2.1,h.2.2⟩
theorem drop_right {zs:List Zn} (h:Tre.fault zs=0) (ids:List Int):Tre.fault (dropL ids zs)=0:=by
 refine Tre.Good.fault (Tre.Good.part (Tre.good_of h) (fun z=>!goneB ids z) fun z _ ho=>?_)
 unfold goneB
 rw [ho]
 rfl
theorem treeT_right {s:Stt} (h:right s) {r:Int × ByteArray × List Zn} {v:Int} (hr:r.1=0→Tre.fault r.2.2=0):right (treeT s r v).2:=by
 by_cases h0:r.1=0
 ·rw [treeT_ok h0];exact right_nodes h (hr h0)
 ·rw [treeT_bad h0];exact h
theorem open_right {s:Stt} {c:Int} (h:right s) (hc:1≤c∧c≤9):right (openT s c).2:=by
 unfold openT
 have hn:0≤s.now∧s.now≤9000:=by have:=h.2.2;unfold Ses.nowOk at this;simpa using this
 split
 ·exact h
 ·rename_i h0
  refine right_ses h ?_
  unfold Ses.opened at h0 ⊢
  split
  ·rename_i h1;rw [if_pos h1] at h0;exact absurd (by decide) h0
  ·rename_i h1
   rw [if_neg h1] at h0
   split
   ·rename_i h2;rw [if_pos h2] at h0;exact absurd (by decide) h0
   ·rename_i h2
    refine Ses.fault_put h.2.1 (Ses.ok_iff.2 ⟨hc,?_⟩) ?_
    ·show 0≤s.now+10∧s.now+10≤9999;omega
    ·have:=putSe_len ⟨c,s.now+10⟩ s.ses;omega
theorem live_right {s:Stt} {c:Int} {o:Opn} (h:right s) (ho:Opr.fault o=0):right (liveT s c o).2:=by
 unfold liveT
 have hp:=fun (h3:3≤o.kind)=>path_zero ho h3
 split
 ·unfold closeT
  exact⟨drop_right h.1 _,Ses.fault_filter h.2.1 _,h.2.2⟩
 ·split
  ·rename_i h3
   refine treeT_right h fun h0=>?_
   rw [← createV_T h.1 (hp (by omega)).2] at h0 ⊢
   obtain⟨pa,bs,e,hM⟩:=Tre.create_zero h0
   rw [e]
   exact hM.tree.fault
  ·split
   ·rename_i h4
    refine treeT_right h fun h0=>?_
    rw [← delV_T h.1 (hp (by omega)).2] at h0 ⊢
    obtain⟨rs,cs,e,hf,-⟩:=Tre.del_all h0
    rw [e]
    exact hf
   ·split
    ·refine treeT_right h fun h0=>?_
     obtain⟨k,z,rs,e,hf,-⟩:=set_done h.1 h0
     rw [e]
     exact hf
    ·exact h
/-- What an operation without fault makes of a right state is right. -/
theorem doT_right {s:Stt} {c:Int} {o:Opn} (h:right s) (hc:1≤c∧c≤9) (ho:Opr.fault o=0):right (doT s c o).2:=by
 by_cases h1:o.kind=1
 ·rw [doT_open h1];exact open_right h hc
 ·cases hl:Ses.live s.ses c s.now with
  | false=>rw [doT_gone h1 hl];exact h
  | true=>rw [doT_live h1 hl];exact live_right h ho
/-- What operations make of a state, up to the first that has a code: the k-th one is the next. -/
def goT (c:Int) (k:Nat) (last:Ry) (s:Stt):List Opn→Ry × Stt
 | []=>(last,s)
 | o :: os=>if (doT s c o).1.code≠0 then (⟨(doT s c o).1.code,k,⟨#[]⟩⟩,s) else goT c (k+1) (doT s c o).1 (doT s c o).2 os
/-- All of them, or none. -/
def allT (c:Int) (s:Stt) (os:List Opn):Ry × Stt:=if (goT c 0 (bad 0) s os).1.code≠0 then ((goT c 0 (bad 0) s os).1,s) else goT c 0 (bad 0) s os
/-- What the time of a request alone brings about. -/
def timeT (s:Stt) (c t:Int):Stt :=
 let now:=max s.now t
 let live:=Ses.liveL s.ses now
 ⟨dropL (Ses.overL s.ses now) s.nodes,if Ses.live live c now=true then putSe ⟨c,now+10⟩ live else live,now,s.marks⟩
/-- What a request makes of any state. -/
def reqV (s:Stt) (r:Rq):Int × Ry × Stt :=
 if fault s≠0 then (fault s,bad 0,none) else if Opr.faultR r≠0 then (Opr.faultR r,bad 0,none) else
 match s.marks.find? (keyM r.client r.number) with
 | some m=>(0,⟨m.code,m.value,m.path⟩,s)
 | Option.none=>if 40≤s.marks.length then (2,bad 0,none) else
  (0,(allT r.client (timeT s r.client r.time) r.ops).1,{ (allT r.client (timeT s r.client r.time) r.ops).2 with marks:=(allT r.client (timeT s r.client r.time) r.ops).2.marks ++ [⟨r.client,r.number,(allT r.client (timeT s r.client r.time) r.ops).1.code,(allT r.client (timeT s r.client r.time) r.ops).1.value,(allT r.client (timeT s r.client r.time) r.ops).1.path⟩] })
end Sta
end Go.Proofs.YtpdejinkmnhioaaGreatDoor
