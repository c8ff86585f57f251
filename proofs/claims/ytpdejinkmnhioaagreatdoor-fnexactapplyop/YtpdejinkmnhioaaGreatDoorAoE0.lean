/- sessions: what the document tells of lists of them; lists of them as maps. -/
import Derived.Lib.SlKeysI
import Derived.Maps.Views
namespace Go.Proofs.YtpdejinkmnhioaaGreatDoor
open Go.Maps
structure Se where
 id:Int
 til:Int
instance:Inhabited Se:=⟨⟨0,0⟩⟩
def kvE (s:Se):Lit × DataW Unit:=(.int .i64 s.id,.lit (.int .i64 s.til))
def mapE (l:List Se):DataW Unit:=.map (l.map kvE)
def Rises (l:List Se):Prop:=l.Pairwise fun a b=>a.id < b.id
/-- s put among l. -/
def putSe (s:Se) (l:List Se):List Se:=l.filter (fun t=>decide (t.id < s.id)) ++ s :: l.filter (fun t=>decide (s.id < t.id))
def hasE (l:List Se) (i:Int):Bool:=l.any fun t=>t.id == i
def tilE (l:List Se) (i:Int):Int:=match l.find? (fun t=>t.id == i) with
 | some t=>t.til
 | none=>0
theorem insert_map (s:Se):∀ (l:List Se),(∀ t ∈ l,t.id≠s.id)→Rises l→DataW.insert (kvE s) (l.map kvE)=(putSe s l).map kvE
 | [],_,_=>rfl
 | t :: r,hn,hr=>by
  have h1:=hn t (by simp)
  have hr':=List.pairwise_cons.1 hr
  rw [List.map_cons,DataW.insert]
  by_cases h:s.id < t.id
  ·rw [if_pos (by simp [kvE,Lit.before,h])]
   have e1:(t :: r).filter (fun u=>decide (u.id < s.id)) = []:=by
    rw [List.filter_eq_nil_iff];intro u hu
    rcases List.mem_cons.1 hu with rfl | hu
    ·simp;omega
    ·have:=hr'.1 u hu;simp;omega
   have e2:(t :: r).filter (fun u=>decide (s.id < u.id))=t :: r:=by
    rw [List.filter_eq_self];intro u hu
    rcases List.mem_cons.1 hu with rfl | hu
    ·simp;omega
    ·have:=hr'.1 u hu;simp;omega
   rw [putSe,e1,e2];rfl
  ·rw [if_neg (by simp [kvE,Lit.before];omega),insert_map s r (fun u hu=>hn u (by simp [hu])) hr'.2]
   rw [putSe,putSe,List.filter_cons_of_pos (by simp;omega),List.filter_cons_of_neg (by simp;omega)]
   rfl
theorem kvE_same (t:Se) (i:Int):(kvE t).1.sameKey (.int .i64 i)=(t.id == i):=by
 simp only [kvE,Lit.sameKey,true_and]
 by_cases h:t.id=i <;> simp [h]
theorem filter_kvE (l:List Se) (i:Int):(l.map kvE).filter (fun p=>!p.1.sameKey (.int .i64 i))=(l.filter fun t=>t.id != i).map kvE:=by
 rw [List.filter_map]
 congr 1
 apply List.filter_congr
 intro t _
 simp only [Function.comp,kvE_same]
 rfl
theorem mapE_put (s:Se) (l:List Se) (h:Rises l):(mapE l).put (.int .i64 s.id) (.lit (.int .i64 s.til))=mapE (putSe s l):=by
 show DataW.map (DataW.insert (kvE s) _)=DataW.map _
 rw [filter_kvE,insert_map s _ (fun t ht=>by have:=(List.mem_filter.1 ht).2;simpa using this) (h.filter _)]
 congr 2
 unfold putSe
 rw [List.filter_filter,List.filter_filter]
 congr 1
 ·apply List.filter_congr;intro t _
  by_cases h:t.id < s.id <;> simp [h];omega
 ·congr 1
  apply List.filter_congr;intro t _
  by_cases h:s.id < t.id <;> simp [h];omega
theorem mapE_has (l:List Se) (i:Int):Maps.has (mapE l) (.int .i64 i)=hasE l i:=by
 show (l.map kvE).any (fun p=>p.1.sameKey (.int .i64 i))=_
 rw [List.any_map]
 unfold hasE
 congr 1
 funext t
 exact kvE_same t i
theorem mapE_at (l:List Se) (i:Int):(mapE l).atKey (.int .i64 i) (.lit (.int .i64 0)) = .lit (.int .i64 (tilE l i)):=by
 simp only [mapE,DataW.atKey,List.find?_map]
 unfold tilE
 rw [show ((fun p:Lit × DataW Unit=>p.1.sameKey (.int .i64 i)) ∘ kvE)=fun t:Se=>t.id == i from by funext t;exact kvE_same t i]
 cases l.find? (fun t=>t.id == i) <;> rfl
theorem mapE_size (l:List Se):Maps.size (mapE l)=l.length:=by
 show (l.map kvE).length=_
 simp
theorem mapE_keys (l:List Se):intKeys (mapE l)=l.map (·.id):=by
 show (l.map kvE).map (fun p=>intOf p.1)=_
 rw [List.map_map];rfl
theorem sorted_keys {l:List Se} {ss:List Int} (h:ss.Perm (intKeys (mapE l))) (hr:Rises l):ss.mergeSort (fun x y=>decide (x≤y))=l.map (·.id):=by
 rw [mapE_keys] at h
 rw [mergeSort_of_perm_i h]
 apply List.mergeSort_of_pairwise
 rw [List.pairwise_map]
 exact hr.imp fun {a b} hab=>by simp;omega
theorem Rises.put {l:List Se} (h:Rises l) (s:Se):Rises (putSe s l):=by
 unfold putSe
 refine List.pairwise_append.2 ⟨h.filter _,List.pairwise_cons.2 ⟨fun b hb=>by have:=(List.mem_filter.1 hb).2;simpa using this,h.filter _⟩,fun a ha b hb=>?_⟩
 have h1:a.id < s.id:=by have:=(List.mem_filter.1 ha).2;simpa using this
 rcases List.mem_cons.1 hb with rfl | hb
 ·exact h1
 ·have h2:s.id < b.id:=by have:=(List.mem_filter.1 hb).2;simpa using this
  omega
theorem Rises.at_find {l:List Se} (h:Rises l) {k:Nat} {s:Se} (hs:l[k]?=some s):l.find? (fun t=>t.id == s.id)=some s:=by
 induction l generalizing k with
 | nil=>simp at hs
 | cons t r ih =>
  have hr:=List.pairwise_cons.1 h
  cases k with
  | zero=>simp at hs;subst hs;simp
  | succ k =>
   simp only [List.getElem?_cons_succ] at hs
   have hm:=List.mem_of_getElem? hs
   have:=hr.1 s hm
   rw [List.find?_cons_of_neg (by simp;omega)]
   exact ih hr.2 hs
theorem Rises.til {l:List Se} (h:Rises l) {k:Nat} {s:Se} (hs:l[k]?=some s):tilE l s.id=s.til:=by
 unfold tilE;rw [h.at_find hs]
theorem put_last {l:List Se} {k:Nat} {s:Se} (h:Rises l) (hs:l[k]?=some s):putSe s (l.take k)=l.take (k+1):=by
 obtain⟨hk,rfl⟩:=List.getElem?_eq_some_iff.1 hs
 have hlt:∀ t ∈ l.take k,t.id < l[k].id:=by
  intro t ht
  obtain⟨j,hj,rfl⟩:=List.mem_iff_getElem.1 ht
  rw [List.length_take] at hj
  rw [List.getElem_take]
  exact List.pairwise_iff_getElem.1 h j k (by omega) hk (by omega)
 unfold putSe
 rw [List.filter_eq_self.2 (fun t ht=>by simp;exact hlt t ht),List.filter_eq_nil_iff.2 (fun t ht=>by have:=hlt t ht;simp;omega),List.take_succ_eq_append_getElem hk]
/-! ### what the functions answer -/
def Ses.ok (s:Se):Bool:=decide (1≤s.id) && decide (s.id≤9) && (decide (0≤s.til) && decide (s.til≤9999))
def Ses.from:Int→List Se→Int
 | _,[]=>0
 | a,s :: r=>if Ses.ok s=false then 3 else if s.id≤a then 1 else Ses.from s.id r
def Ses.fault (l:List Se):Int:=if 6 < l.length then 2 else Ses.from 0 l
theorem Ses.from_zero {a:Int} {l:List Se} (h:Ses.from a l=0):Rises l∧(∀ s ∈ l,Ses.ok s=true)∧∀ s ∈ l,a < s.id:=by
 induction l generalizing a with
 | nil=>exact⟨List.Pairwise.nil,fun s h=>by simp at h,fun s h=>by simp at h⟩
 | cons s r ih =>
  rw [Ses.from] at h
  split at h
  ·omega
  ·rename_i h1
   split at h
   ·omega
   ·rename_i h2
    obtain⟨q1,q2,q3⟩:=ih h
    refine⟨List.pairwise_cons.2 ⟨q3,q1⟩,fun t ht=>?_,fun t ht=>?_⟩
    ·rcases List.mem_cons.1 ht with rfl | ht
     ·simpa using h1
     ·exact q2 t ht
    ·rcases List.mem_cons.1 ht with rfl | ht
     ·omega
     ·have:=q3 t ht;omega
theorem Ses.fault_zero {l:List Se} (h:Ses.fault l=0):l.length≤6∧Rises l∧∀ s ∈ l,Ses.ok s=true:=by
 unfold Ses.fault at h
 split at h
 ·omega
 ·have:=Ses.from_zero h
  exact⟨by omega,this.1,this.2.1⟩
theorem Ses.from_at {l:List Se} {k:Nat} {s:Se} (a:Int) (h:l[k]?=some s):Ses.from a (l.drop k)=if Ses.ok s=false then 3 else if s.id≤a then 1 else Ses.from s.id (l.drop (k+1)):=by
 obtain⟨hk,rfl⟩:=List.getElem?_eq_some_iff.1 h
 rw [List.drop_eq_getElem_cons hk,Ses.from]
theorem Ses.ok_iff {s:Se} : Ses.ok s=true↔(1≤s.id∧s.id≤9)∧0≤s.til∧s.til≤9999:=by unfold Ses.ok;simp
def Ses.idOk (i:Int):Bool:=decide (1≤i) && decide (i≤9)
def Ses.nowOk (n:Int):Bool:=decide (0≤n) && decide (n≤9000)
def Ses.asked (l:List Se) (i n:Int):Int:=if Ses.fault l≠0 then Ses.fault l else if (Ses.idOk i && Ses.nowOk n)=true then 0 else 3
theorem Ses.asked_zero {l:List Se} {i n:Int} (h:Ses.asked l i n=0):Ses.fault l=0∧(1≤i∧i≤9)∧0≤n∧n≤9000:=by
 unfold Ses.asked at h
 split at h
 ·omega
 ·split at h
  ·rename_i h1 h2
   simp [Ses.idOk,Ses.nowOk] at h2
   exact⟨by omega,h2⟩
  ·omega
def Ses.live (l:List Se) (i n:Int):Bool:=hasE l i && decide (n≤tilE l i)
def Ses.openV (l:List Se) (i n:Int):Int × List Se :=
 if Ses.asked l i n≠0 then (Ses.asked l i n,[]) else if hasE l i=true then (6,[]) else if 6≤l.length then (2,[]) else (0,putSe ⟨i,n+10⟩ l)
def Ses.touchV (l:List Se) (i n:Int):Int × List Se :=
 if Ses.asked l i n≠0 then (Ses.asked l i n,[]) else if Ses.live l i n=true then (0,putSe ⟨i,n+10⟩ l) else (9,[])
def Ses.liveV (l:List Se) (i n:Int):Bool:=decide (Ses.asked l i n=0) && Ses.live l i n
theorem putSe_len (s:Se) (l:List Se):(putSe s l).length≤l.length+1:=by
 induction l with
 | nil=>simp [putSe]
 | cons t r ih =>
  unfold putSe at ih ⊢
  rw [List.length_append,List.length_cons] at ih ⊢
  by_cases h:t.id < s.id
  ·rw [List.filter_cons_of_pos (by simpa using h),List.filter_cons_of_neg (by simp;omega)]
   simp only [List.length_cons];omega
  ·rw [List.filter_cons_of_neg (by simpa using h)]
   have:((t :: r).filter fun u=>decide (s.id < u.id)).length≤(r.filter fun u=>decide (s.id < u.id)).length+1:=by
    rw [List.filter_cons];split <;> simp
   simp only [List.length_cons];omega
end Go.Proofs.YtpdejinkmnhioaaGreatDoor
