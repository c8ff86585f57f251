/- Pure, Base, S1, V1, V2, in one text. -/
import Derived.WalkKit
import Derived.WalkLawsBesides
import Derived.WalkSpells
import Derived.Lib.Bytealg
import Derived.Lib.Strings
import Derived.Test.YtpdejinkmnhioaaGreatDoorProg
import Derived.Deep.RegionWith
import Derived.Laws.MakeOwn
import Derived.Test.YtpdejinkmnhioaaGreatDoorAoMk
namespace Go.Proofs.YtpdejinkmnhioaaGreatDoor
namespace Pth
def nb (c:UInt8):Bool:=(decide (97≤c) && decide (c≤122)) || (decide (48≤c) && decide (c≤57))
/-- The machine inside a name: k bytes of it are read; at: the place; last: where the name begins; names: how many. -/
def scan:List UInt8→Nat→Nat→Nat→Nat→Option (Nat × Nat)
 | [],k,_,last,names=>if k=0 then none else some (names,last)
 | c :: r,k,at_,last,names =>
  if k < 8∧nb c=true then scan r (k+1) (at_+1) last names
  else if k=0 then none
  else if c=47 then scan r 0 (at_+1) (at_+1) (names+1) else none
def slashAt:List UInt8→Nat→Nat→Option (Nat × Nat)
 | [],_,_=>none
 | c :: r,at_,names=>if c=47 then scan r 0 (at_+1) (at_+1) (names+1) else none
def rd (l:List UInt8):Option (Nat × Nat):=if l = [47] then some (0,0) else slashAt l 0 0
def many (l:List UInt8):Bool:=decide (24 < l.length) || decide (4 < l.count 47)
def faultI (l:List UInt8):Int:=if many l then 2 else if (rd l).isNone then 5 else 0
def cut:List UInt8→List UInt8→List (List UInt8)
 | cur,[]=>[cur]
 | cur,c :: r=>if c=47 then cur :: cut [] r else cut (cur ++ [c]) r
def okName (n:List UInt8):Bool:=n.all nb && (decide (1≤n.length) && decide (n.length≤8))
def namesS (l:List UInt8):Option (List (List UInt8)) :=
 if l = [47] then some [] else
 if (cut [] l).length < 2∨(cut [] l).head?≠some [] then none
 else if (cut [] l).tail.all okName then some (cut [] l).tail else none
def manyS (l:List UInt8):Bool:=decide (24 < l.length) || (decide (l≠[47]) && decide (5 < (cut [] l).length))
def faultS (l:List UInt8):Int:=if manyS l then 2 else if (namesS l).isNone then 5 else 0
def lastSl:List UInt8→Nat→Nat→Nat
 | [],_,a=>a
 | c :: r,i,a=>if c=47 then lastSl r (i+1) i else lastSl r (i+1) a
theorem nb_ne (c:UInt8) (h:nb c=true):c≠47:=by
 intro e;subst e;revert h;decide
theorem cut_sl (cur r:List UInt8):cut cur ((47:UInt8) :: r)=cur :: cut [] r:=by rw [cut,if_pos rfl]
theorem cut_ne (cur:List UInt8) (c:UInt8) (r:List UInt8) (h:¬ c=47):cut cur (c :: r)=cut (cur ++ [c]) r:=by rw [cut,if_neg h]
theorem cut_length (l:List UInt8):∀ cur,(cut cur l).length=l.count 47+1:=by
 induction l with
 | nil=>intro cur;simp [cut]
 | cons c r ih =>
  intro cur
  unfold cut
  by_cases h:c=47
  ·subst h;simp [ih]
  ·have h2:¬ (c == 47)=true:=by simpa using h
   rw [if_neg h,ih,List.count_cons,if_neg h2]
theorem cut_head (l:List UInt8):∀ cur,∃ p t,cut [] l=p :: t∧cut cur l=(cur ++ p) :: t:=by
 induction l with
 | nil=>intro cur;exact⟨[],[],by simp [cut],by simp [cut]⟩
 | cons c r ih =>
  intro cur
  unfold cut
  by_cases h:c=47
  ·simp only [if_pos h];exact⟨[],cut [] r,rfl,by simp⟩
  ·simp only [if_neg h]
   obtain⟨p,t,h1,h2⟩:=ih [c]
   obtain⟨p',t',h1',h2'⟩:=ih (cur ++ [c])
   rw [h1] at h1'
   simp only [List.cons.injEq] at h1'
   obtain⟨rfl,rfl⟩:=h1'
   exact⟨[c] ++ p,t,by simpa using h2,by rw [h2'];simp⟩
theorem cut_mem_len (l:List UInt8):∀ cur x,x ∈ cut cur l→x.length≤cur.length+l.length:=by
 induction l with
 | nil=>intro cur x h;simp [cut] at h;subst h;simp
 | cons c r ih =>
  intro cur x h
  by_cases hc:c=47
  ·subst hc
   rw [cut_sl,List.mem_cons] at h
   rcases h with rfl | h
   ·simp
   ·have:=ih [] x h;simp at this ⊢;omega
  ·rw [cut_ne _ _ _ hc] at h
   have:=ih _ x h;simp at this ⊢;omega
/-- What the machine says inside a name is what the pieces say. -/
theorem scan_isSome (l:List UInt8):∀ (cur:List UInt8) (at_ last names:Nat),cur.all nb=true→cur.length≤8 →
  (scan l cur.length at_ last names).isSome=(cut cur l).all okName:=by
 induction l with
 | nil =>
  intro cur at_ last names ha hl
  by_cases h:cur.length=0
  ·simp [scan,cut,okName,h]
  ·have h1:decide (1≤cur.length)=true:=by simp;omega
   have h8:decide (cur.length≤8)=true:=by simpa using hl
   simp only [scan,if_neg h,cut,List.all_cons,List.all_nil,okName,ha,h1,h8]
   rfl
 | cons c r ih =>
  intro cur at_ last names ha hl
  unfold scan
  by_cases hc:c=47
  ·subst hc
   have hg:¬ (cur.length < 8∧nb 47=true):=by
    rintro⟨_,h⟩;revert h;decide
   rw [if_neg hg,cut_sl]
   by_cases h0:cur.length=0
   ·have hcur:cur = []:=List.eq_nil_of_length_eq_zero h0
    subst hcur
    simp [okName]
   ·rw [if_neg h0,if_pos rfl]
    have:=ih [] (at_+1) (at_+1) (names+1) rfl (by simp)
    simp only [List.length_nil] at this
    rw [this]
    have h1:decide (1≤cur.length)=true:=by simp;omega
    have h8:decide (cur.length≤8)=true:=by simpa using hl
    simp only [List.all_cons,okName,ha,h1,h8]
    simp
  ·rw [cut_ne _ _ _ hc]
   by_cases hg:cur.length < 8∧nb c=true
   ·rw [if_pos hg]
    have:=ih (cur ++ [c]) (at_+1) last names (by simp [ha,hg.2]) (by simp;omega)
    rw [← this]
    simp
   ·rw [if_neg hg]
    obtain⟨p,t,_,h2⟩:=cut_head r (cur ++ [c])
    have hbad:okName ((cur ++ [c]) ++ p)=false:=by
     unfold okName
     by_cases hn:nb c=true
     ·have h8:¬ cur.length < 8:=fun h=>hg ⟨h,hn⟩
      have:decide (((cur ++ [c]) ++ p).length≤8)=false:=by simp;omega
      rw [this];simp
     ·simp [hn]
    rw [h2,List.all_cons,hbad,Bool.false_and]
    by_cases h0:cur.length=0
    ·rw [if_pos h0];rfl
    ·rw [if_neg h0,if_neg hc];rfl
theorem scan_some (l:List UInt8):∀ (k at_ last names n la:Nat),1≤last→scan l k at_ last names=some (n,la) →
  n=names+l.count 47∧la=lastSl l at_ (last - 1)+1:=by
 induction l with
 | nil =>
  intro k at_ last names n la hl h
  unfold scan at h
  by_cases h0:k=0
  ·simp [h0] at h
  ·simp [h0] at h
   obtain⟨rfl,rfl⟩:=h
   simp [lastSl];omega
 | cons c r ih =>
  intro k at_ last names n la hl h
  unfold scan at h
  by_cases hg:k < 8∧nb c=true
  ·rw [if_pos hg] at h
   have hc:=nb_ne c hg.2
   obtain⟨h1,h2⟩:=ih _ _ _ _ _ _ hl h
   have h3:¬ (c == 47)=true:=by simpa using hc
   rw [List.count_cons,if_neg h3,lastSl,if_neg hc]
   exact⟨by omega,h2⟩
  ·rw [if_neg hg] at h
   by_cases h0:k=0
   ·simp [h0] at h
   ·rw [if_neg h0] at h
    by_cases hc:c=47
    ·rw [if_pos hc] at h
     obtain⟨h1,h2⟩:=ih _ _ _ _ _ _ (by omega) h
     subst hc
     refine⟨by simp;omega,?_⟩
     rw [lastSl,if_pos rfl,h2]
     simp
    ·rw [if_neg hc] at h;cases h
theorem rd_isSome (l:List UInt8):(rd l).isSome=(namesS l).isSome:=by
 unfold rd namesS
 by_cases h:l = [47]
 ·simp [h]
 ·rw [if_neg h,if_neg h]
  cases l with
  | nil=>simp [slashAt,cut]
  | cons c r =>
   by_cases hc:c=47
   ·subst hc
    have hs:=scan_isSome r [] 1 1 1 rfl (by simp)
    simp only [List.length_nil] at hs
    have hcut:cut [] ((47:UInt8) :: r) = [] :: cut [] r:=by simp [cut]
    have hlen:¬ ((cut [] ((47:UInt8) :: r)).length < 2∨(cut [] ((47:UInt8) :: r)).head?≠some []):=by
     rw [hcut];have:=cut_length r [];simp;omega
    rw [if_neg hlen,hcut]
    simp only [slashAt,if_true,Nat.zero_add,hs]
    split
    ·rename_i ha;rw [show (cut [] r).all okName=true from ha];rfl
    ·rename_i ha;rw [show (cut [] r).all okName=false from by simpa using ha];rfl
   ·obtain⟨p,t,_,h2⟩:=cut_head r [c]
    have hcut:cut [] (c :: r)=([c] ++ p) :: t:=by rw [cut,if_neg hc];simpa using h2
    have hh:(cut [] (c :: r)).length < 2∨(cut [] (c :: r)).head?≠some []:=by
     right;rw [hcut];simp
    rw [if_pos hh]
    simp [slashAt,hc]
theorem rd_some (l:List UInt8) (n la:Nat) (hne:l≠[47]) (h:rd l=some (n,la)) :
  n=l.count 47∧la=lastSl l 0 0+1∧∃ r,l=47 :: r∧r≠[]:=by
 unfold rd at h
 rw [if_neg hne] at h
 cases l with
 | nil=>simp [slashAt] at h
 | cons c r =>
  by_cases hc:c=47
  ·subst hc
   simp only [slashAt,if_true,Nat.zero_add] at h
   obtain⟨h1,h2⟩:=scan_some r 0 1 1 1 n la (by omega) h
   refine⟨by simp;omega,?_,r,rfl,?_⟩
   ·rw [h2];simp [lastSl]
   ·rintro rfl;exact hne rfl
  ·simp [slashAt,hc] at h
theorem many_eq (l:List UInt8):many l=manyS l:=by
 unfold many manyS
 rw [cut_length]
 by_cases h:l = [47]
 ·subst h;decide
 ·have e:decide (5 < l.count 47+1)=decide (4 < l.count 47):=by
   rw [decide_eq_decide];omega
  simp [h,e]
theorem fault_eq (l:List UInt8):faultI l=faultS l:=by
 unfold faultI faultS
 rw [many_eq]
 have:=rd_isSome l
 have e:(rd l).isNone=(namesS l).isNone:=by
  cases h1:rd l <;> cases h2:namesS l <;> simp_all
 rw [e]
theorem count_lastSl (l:List UInt8):∀ i a,l.count 47=0→lastSl l i a=a:=by
 induction l with
 | nil=>intro i a _;rfl
 | cons c r ih =>
  intro i a h
  by_cases hc:c=47
  ·subst hc;simp at h
  ·have h3:¬ (c == 47)=true:=by simpa using hc
   rw [List.count_cons,if_neg h3] at h
   rw [lastSl,if_neg hc]
   exact ih _ _ (by omega)
theorem lastSl_pos (l:List UInt8):∀ i a,0 < l.count 47→i≤lastSl l i a:=by
 induction l with
 | nil=>intro i a h;simp at h
 | cons c r ih =>
  intro i a h
  by_cases hc:c=47
  ·rw [lastSl,if_pos hc]
   by_cases h0:0 < r.count 47
   ·have:=ih (i+1) i h0;omega
   ·rw [count_lastSl r _ _ (by omega)];omega
  ·have h3:¬ (c == 47)=true:=by simpa using hc
   rw [List.count_cons,if_neg h3] at h
   rw [lastSl,if_neg hc]
   have:=ih (i+1) a (by omega);omega
theorem lastSl_lt (l:List UInt8):∀ i a,lastSl l i a=a∨lastSl l i a < i+l.length:=by
 induction l with
 | nil=>intro i a;left;rfl
 | cons c r ih =>
  intro i a
  by_cases hc:c=47
  ·rw [lastSl,if_pos hc]
   rcases ih (i+1) i with h | h
   ·right;rw [h];simp
   ·right;simp only [List.length_cons];omega
  ·rw [lastSl,if_neg hc]
   rcases ih (i+1) a with h | h
   ·left;exact h
   ·right;simp only [List.length_cons];omega
/-- One name: the last slash is the first byte; several: it is not. -/
theorem last_one (r:List UInt8):(((47:UInt8) :: r).count 47=1)↔lastSl ((47:UInt8) :: r) 0 0=0:=by
 rw [lastSl,if_pos rfl]
 simp only [List.count_cons_self]
 constructor
 ·intro h;exact count_lastSl r _ _ (by omega)
 ·intro h
  rcases Nat.eq_zero_or_pos (r.count 47) with h0 | h0
  ·omega
  ·have:=lastSl_pos r (0+1) 0 h0;omega
/-- A text behind a slash is a path of one name just if it is a name. -/
theorem isName_eq (t:List UInt8):(!many ((47:UInt8) :: t) && ((rd ((47:UInt8) :: t)).map (·.1) == some 1))=okName t:=by
 by_cases ht:t = []
 ·subst ht;decide
 have hne:((47:UInt8) :: t)≠[47]:=by simpa using ht
 have hs:=scan_isSome t [] 1 1 1 rfl (by simp)
 simp only [List.length_nil] at hs
 have hrd:rd ((47:UInt8) :: t)=scan t 0 1 1 1:=by
  unfold rd;rw [if_neg hne];simp [slashAt]
 by_cases h0:t.count 47=0
 ·-- no slash in it: one piece
  have hc:cut [] t = [t]:=by
   obtain⟨p,q,h1,_⟩:=cut_head t []
   have hl:=cut_length t []
   rw [h1] at hl
   have hq:q = []:=by
    cases q with
    | nil=>rfl
    | cons a b=>simp at hl;omega
   subst hq
   have key:∀ (l cur:List UInt8),l.count 47=0→cut cur l = [cur ++ l]:=by
    intro l
    induction l with
    | nil=>intro cur _;simp [cut]
    | cons c r ih =>
     intro cur hc
     by_cases h47:c=47
     ·subst h47;simp at hc
     ·have h3:¬ (c == 47)=true:=by simpa using h47
      rw [List.count_cons,if_neg h3] at hc
      rw [cut,if_neg h47,ih _ (by omega)];simp
   simpa using key t [] h0
  rw [hc] at hs
  simp only [List.all_cons,List.all_nil,Bool.and_true] at hs
  rw [hrd]
  cases hsc:scan t 0 1 1 1 with
  | none =>
   rw [hsc] at hs
   simp only [Option.isSome_none] at hs
   rw [← hs];simp
  | some x =>
   obtain⟨n,la⟩:=x
   rw [hsc] at hs
   simp only [Option.isSome_some] at hs
   obtain⟨h1,_⟩:=scan_some t 0 1 1 1 n la (by omega) hsc
   have hok:okName t=true:=hs.symm
   have hlen:t.length≤8:=by
    unfold okName at hok
    simp only [Bool.and_eq_true,decide_eq_true_eq] at hok
    exact hok.2.2
   have hm:many ((47:UInt8) :: t)=false:=by
    unfold many
    simp [h0];omega
   rw [hm,hok,h1,h0];rfl
 ·-- a slash in it: no name, and not one name
  have hok:okName t=false:=by
   unfold okName
   have:t.all nb=false:=by
    have hm:(47:UInt8) ∈ t:=List.count_pos_iff.1 (by omega)
    rw [List.all_eq_false]
    exact⟨47,hm,by decide⟩
   rw [this];rfl
  rw [hok,hrd]
  cases hsc:scan t 0 1 1 1 with
  | none=>simp
  | some x =>
   obtain⟨n,la⟩:=x
   obtain⟨h1,_⟩:=scan_some t 0 1 1 1 n la (by omega) hsc
   have:¬ n=1:=by omega
   simp [this]
/-! ### What the functions answer -/
def parentV (l:List UInt8):Int × List UInt8 :=
 if faultI l≠0 then (faultI l,[]) else if l = [47] then (4,[]) else (0,if lastSl l 0 0=0 then [47] else l.take (lastSl l 0 0))
def nameV (l:List UInt8):Int × List UInt8 :=
 if faultI l≠0 then (faultI l,[]) else if l = [47] then (4,[]) else (0,l.drop (lastSl l 0 0+1))
def deepV (l:List UInt8):Int × Int :=
 if faultI l≠0 then (faultI l,0) else (0,if l = [47] then 0 else (l.count 47:Nat))
def joined (l n:List UInt8):List UInt8:=if l = [47] then 47 :: n else l ++ 47 :: n
def joinV (l n:List UInt8):Int × List UInt8 :=
 if faultI l≠0 then (faultI l,[]) else if okName n=false then (5,[]) else if faultI (joined l n)≠0 then (faultI (joined l n),[]) else (0,joined l n)
def under (p t:List UInt8):Bool:=decide (p=t) || (decide (t = [47]) || (t ++ [47]).isPrefixOf p)
def underV (p t:List UInt8):Bool:=decide (faultI p=0) && (decide (faultI t=0) && under p t)
def seqd (n:List UInt8) (k:Nat):List UInt8:=n ++ [UInt8.ofNat (48+k / 10),UInt8.ofNat (48+k % 10)]
def seqV (n:List UInt8) (k:Int):Int × List UInt8 :=
 if okName n=false then (5,[]) else if k < 0∨99 < k then (3,[]) else if okName (seqd n k.toNat)=false then (5,[]) else (0,seqd n k.toNat)
theorem fault_cases (l:List UInt8):(many l=true∧faultI l=2)∨(many l=false∧rd l=none∧faultI l=5)∨(many l=false∧faultI l=0∧∃ n la,rd l=some (n,la)):=by
 unfold faultI
 cases hm:many l
 ·cases hr:rd l with
  | none=>right;left;exact⟨rfl,rfl,by simp⟩
  | some x=>right;right;exact⟨rfl,by simp,x.1,x.2,rfl⟩
 ·left;exact⟨rfl,by simp⟩
theorem rd_top (l:List UInt8) (n la:Nat) (h:rd l=some (n,la)):(l = [47]∧n=0∧la=0)∨(l≠[47]∧n=l.count 47∧1≤n∧la=lastSl l 0 0+1∧(n=1↔lastSl l 0 0=0)∧la≤l.length):=by
 by_cases hl:l = [47]
 ·left
  rw [hl] at h
  have:rd [47]=some (0,0):=rfl
  rw [this] at h
  simp only [Option.some.injEq,Prod.mk.injEq] at h
  exact⟨hl,h.1.symm,h.2.symm⟩
 ·right
  obtain⟨h1,h2,r,h3,h4⟩:=rd_some l n la hl h
  refine⟨hl,h1,?_,h2,?_,?_⟩
  ·rw [h1,h3];simp
  ·rw [h1,h3];exact last_one r
  ·have hp:0 < l.length:=by rw [h3];simp
   rcases lastSl_lt l 0 0 with h | h
   ·rw [h2,h];omega
   ·rw [h2];omega
end Pth
end Go.Proofs.YtpdejinkmnhioaaGreatDoor
namespace Go.Proofs.YtpdejinkmnhioaaGreatDoor
open Go.RowKit
def nbI (n:Int):Bool:=(decide (97≤n) && decide (n≤122)) || (decide (48≤n) && decide (n≤57))
theorem nbI_eq (c:UInt8):nbI (c.toNat:Int)=Pth.nb c:=by
 unfold nbI Pth.nb
 simp only [UInt8.le_iff_toNat_le]
 rw [Bool.eq_iff_iff]
 simp
 omega
theorem ret_bool {a b:Bool} (h:a=b):Ending.returned (.bool a) = .returned (.bool b):=by rw [h]
theorem ret_int {k:IntKind} {a b:Int} (h:a=b):Ending.returned (.int k a) = .returned (.int k b):=by rw [h]
theorem len_eq (s:ByteArray):s.data.toList.length=s.size:=rfl
theorem drop_at (s:ByteArray) (k:Nat) (h:k < s.size):s.data.toList.drop k=s[k] :: s.data.toList.drop (k+1):=by
 rw [List.drop_eq_getElem_cons (by simpa using h)];rfl
def intOf:Value→Int | .int _ q=>q | _=>0
/-- All that was there is as it was. -/
def Ext (w w' : World):Prop:=Below w.heap.size w w'
theorem Ext.refl (w:World):Ext w w:=Below.refl _ _
theorem Ext.trans {w w1 w2:World} (h1:Ext w w1) (h2:Ext w1 w2):Ext w w2:=Below.trans h1 (Below.mono h2 (Below.size h1))
theorem Ext.alloc {w w1:World} (h1:Ext w w1) (o:Obj):Ext w (w1.alloc o):=Below.alloc h1 (Below.size h1) o
theorem Ext.drew {w w1:World} (h1:Ext w w1):Ext w w1.drew:=Ext.trans h1 (by unfold Ext;exact (Below.refl _ _).drew)
theorem Ext.size {w w1:World} (h1:Ext w w1):w.heap.size≤w1.heap.size:=Below.size h1
theorem Ext.kept {w w1:World} (h:Ext w w1) (may:MemPlace→Prop):w.keptBut w1 may:=Below.frame h may
theorem ba_eq {a b:ByteArray} (h:a.data.toList=b.data.toList):a=b:=by
 cases a;cases b;congr 1;exact Array.toList_inj.1 h
def mkB (l:List UInt8):ByteArray:=⟨l.toArray⟩
theorem mkB_list (l:List UInt8):(mkB l).data.toList=l:=by simp [mkB]
theorem eq_mkB {a:ByteArray} {l:List UInt8} (h:a.data.toList=l):a=mkB l:=ba_eq (by rw [h,mkB_list])
theorem Ext.cell {w w1:World} (h:Ext w w1):(∀ b o,b < w.heap.size→w1.cell? ⟨b,o,none⟩=w.cell? ⟨b,o,none⟩)∧(∀ b o,b < w.heap.size→w1.frozen? ⟨b,o,none⟩=w.frozen? ⟨b,o,none⟩) :=
 ⟨fun b o hb=>Below.cell h (p:=⟨b,o,none⟩) hb,fun b o hb=>Below.frozen h (p:=⟨b,o,none⟩) hb⟩
theorem Ext.setCell {w w1:World} (h:Ext w w1) {p:Addr} (hp:w.heap.size≤p.block) (v:Value):Ext w (w1.setCell p v):=Below.setCell h hp v
def tr (x:Int × List UInt8):Value:=.agg #[.int .i64 x.1,.string (mkB x.2)]
def ir (x:Int × Int):Value:=.agg #[.int .i64 x.1,.int .i64 x.2]
theorem alloc_cell (W:World) (o:Obj) (b k:Nat) (h:b < W.heap.size):(W.alloc o).cell? ⟨b,k,none⟩=W.cell? ⟨b,k,none⟩:=World.cell?_alloc_lt _ _ _ h
theorem alloc_frozen (W:World) (o:Obj) (b k:Nat) (h:b < W.heap.size):(W.alloc o).frozen? ⟨b,k,none⟩=W.frozen? ⟨b,k,none⟩:=World.frozen?_alloc_old _ _ _ (Nat.ne_of_lt h)
theorem nameV_bad {l:List UInt8} {c:Int} (h:Pth.faultI l=c) (hc:c≠0):Pth.nameV l=(c,[]):=by
 unfold Pth.nameV;rw [h,if_pos hc]
theorem parentV_bad {l:List UInt8} {c:Int} (h:Pth.faultI l=c) (hc:c≠0):Pth.parentV l=(c,[]):=by
 unfold Pth.parentV;rw [h,if_pos hc]
theorem extract_list (s:ByteArray) (f k:Nat):(s.extract f k).data.toList=(s.data.toList.drop f).take (k - f):=by
 simp [ByteArray.data_extract]
theorem beq_val (a b:ByteArray):(a.toList == b.toList)=decide (a.data.toList=b.data.toList):=by
 rw [Lib.toList_data,Lib.toList_data,Bool.eq_iff_iff];simp
theorem beq_top (a:ByteArray):(a.toList == [47])=decide (a.data.toList = [47]):=by
 rw [Lib.toList_data,Bool.eq_iff_iff];simp
theorem joinV_bad {l n:List UInt8} {c:Int} (h:Pth.faultI l=c) (hc:c≠0):Pth.joinV l n=(c,[]):=by
 unfold Pth.joinV;rw [h,if_pos hc]
theorem joinV_name {l n:List UInt8} (h:Pth.faultI l=0) (hn:Pth.okName n=false):Pth.joinV l n=(5,[]):=by
 unfold Pth.joinV;rw [h,if_neg (by decide),if_pos hn]
theorem joinV_long {l n j:List UInt8} {c:Int} (h:Pth.faultI l=0) (hn:Pth.okName n=true) (hj:Pth.joined l n=j) (hc:Pth.faultI j=c) (h0:c≠0):Pth.joinV l n=(c,[]):=by
 unfold Pth.joinV;rw [h,if_neg (by decide),if_neg (by rw [hn];decide),hj,hc,if_pos h0]
theorem joinV_ok {l n j:List UInt8} (h:Pth.faultI l=0) (hn:Pth.okName n=true) (hj:Pth.joined l n=j) (hc:Pth.faultI j=0):Pth.joinV l n=(0,j):=by
 unfold Pth.joinV;rw [h,if_neg (by decide),if_neg (by rw [hn];decide),hj,hc,if_neg (by decide)]
theorem take_snoc (s:ByteArray) (k:Nat) (h:k < s.size):s.data.toList.take (k+1)=s.data.toList.take k ++ [s[k]]:=by
 rw [List.take_succ_eq_append_getElem (by simpa using h)];rfl
/-- Nothing older than the source has turned, nor any block behind it that was there. -/
def Upd (b:Nat) (w w' : World):Prop :=
 Below b w w'∧w.heap.size≤w'.heap.size∧∀ c o,b < c→c < w.heap.size→w'.cell? ⟨c,o,none⟩=w.cell? ⟨c,o,none⟩∧w'.frozen? ⟨c,o,none⟩=w.frozen? ⟨c,o,none⟩
theorem Upd.refl (b:Nat) (w:World):Upd b w w:=⟨Below.refl _ _,Nat.le_refl _,fun _ _ _ _=>⟨rfl,rfl⟩⟩
theorem Upd.trans {b:Nat} {w w1 w2:World} (h:Upd b w w1) (h2:Upd b w1 w2):Upd b w w2 :=
 ⟨h.1.trans h2.1,Nat.le_trans h.2.1 h2.2.1,fun c o hc hl=>⟨((h2.2.2 c o hc (Nat.lt_of_lt_of_le hl h.2.1)).1).trans (h.2.2 c o hc hl).1,((h2.2.2 c o hc (Nat.lt_of_lt_of_le hl h.2.1)).2).trans (h.2.2 c o hc hl).2⟩⟩
theorem Upd.alloc {b:Nat} (w:World) (o:Obj) (hb:b≤w.heap.size):Upd b w (w.alloc o) :=
 ⟨(Below.refl _ _).alloc hb _,by simp,fun c k _ hl=>⟨World.cell?_alloc_lt _ _ _ hl,World.frozen?_alloc_old _ _ _ (Nat.ne_of_lt hl)⟩⟩
theorem Upd.ext {b:Nat} {w w' : World} (h:Ext w w') (hb:b≤w.heap.size):Upd b w w' :=
 ⟨Below.mono h hb,h.size,fun c o _ hl=>⟨Below.cell h (p:=⟨c,o,none⟩) hl,Below.frozen h (p:=⟨c,o,none⟩) hl⟩⟩
theorem Upd.setAt {b:Nat} {w w' : World} (h:Upd b w w') (o:Nat) (v:Value):Upd b w (w'.setCell ⟨b,o,none⟩ v):=by
 refine⟨Below.setCell (p:=⟨b,o,none⟩) h.1 (Nat.le_refl _) v,by simpa using h.2.1,fun c k hc hl=>?_⟩
 refine⟨?_,by simpa using (h.2.2 c k hc hl).2⟩
 rw [World.cell?_setCell_other _ _ _ _ (by intro e;injection e with e1 _ _;exact (Nat.ne_of_gt hc) e1.symm)]
 exact (h.2.2 c k hc hl).1
theorem Upd.at_ne {b:Nat} {w w' : World} (h:Upd b w w') (c o:Nat) (hc:c≠b) (hl:c < w.heap.size):w'.cell? ⟨c,o,none⟩=w.cell? ⟨c,o,none⟩∧w'.frozen? ⟨c,o,none⟩=w.frozen? ⟨c,o,none⟩:=by
 rcases Nat.lt_or_ge c b with hlt | hge
 ·exact⟨h.1.cell (p:=⟨c,o,none⟩) hlt,h.1.frozen (p:=⟨c,o,none⟩) hlt⟩
 ·exact h.2.2 c o (by omega) hl
theorem Upd.to_ext {b:Nat} {w w1 w' : World} (h:Upd b w1 w') (he:Ext w w1) (hb:w.heap.size≤b):Ext w w':=Below.trans he (Below.mono h.1 hb)
end Go.Proofs.YtpdejinkmnhioaaGreatDoor
namespace Go.Proofs.YtpdejinkmnhioaaGreatDoor
open Go.RowKit
set_option maxHeartbeats 400000 in
theorem l1In_any (v lo hi:Int) (w:World) :
  Calls Tryz.prog 104 #[.int .i64 v,.int .i64 lo,.int .i64 hi] w fun e w'=>e = .returned (.bool (decide (lo≤v) && decide (v≤hi)))∧w'=w:=by
 by_cases h:lo≤v
 ·go_enter Tryz.func104,Tryz.ntmps104
  go_wp2
  go_ret
  exact⟨ret_bool (by simp [h]),rfl⟩
 ·have h2:decide (lo≤v)=false:=by simpa using h
  go_enter Tryz.func104,Tryz.ntmps104
  go_wp2
  go_ret
  exact⟨ret_bool (by simp),rfl⟩
theorem nbI_true {n:Int} (h:nbI n=true):(97≤n∧n≤122)∨(48≤n∧n≤57):=by
 unfold nbI at h;simpa using h
theorem nbI_false {n:Int} (h:nbI n=false):n < 48∨(57 < n∧n < 97)∨122 < n:=by
 unfold nbI at h;simp at h;omega
theorem all_snoc (s:ByteArray) (k:Nat) (h:k < s.size) (ha:(s.data.toList.take k).all Pth.nb=true) (hb:nbI (s[k].toNat:Int)=true):(s.data.toList.take (k+1)).all Pth.nb=true:=by
 rw [take_snoc s k h,List.all_append,ha]
 rw [nbI_eq] at hb
 simp [hb]
theorem not_name (s:ByteArray) (k:Nat) (h:k < s.size) (hb:nbI (s[k].toNat:Int)=false):Pth.okName s.data.toList=false:=by
 unfold Pth.okName
 have:s.data.toList.all Pth.nb=false:=by
  rw [List.all_eq_false]
  refine⟨s[k],?_,?_⟩
  ·have:=drop_at s k h
   exact List.mem_of_mem_drop (i:=k) (by rw [this];simp)
  ·rw [nbI_eq] at hb;simp [hb]
 rw [this];rfl
theorem okName_val (s:ByteArray) (ha:(s.data.toList.take s.size).all Pth.nb=true):(decide ((1:Int)≤(s.size:Int)) && decide ((s.size:Int)≤8))=Pth.okName s.data.toList:=by
 rw [List.take_of_length_le (by rw [len_eq];omega)] at ha
 unfold Pth.okName
 rw [ha,len_eq,Bool.true_and,Bool.eq_iff_iff]
 simp
 omega
set_option maxHeartbeats 1000000 in
theorem l1Name_any (s:ByteArray) (w:World) (hs:s.size≤maxLen) :
  Calls Tryz.prog 179 #[.string s] w fun e w'=>e = .returned (.bool (Pth.okName s.data.toList))∧w'=w:=by
 unfold maxLen at hs
 go_enter Tryz.func179,Tryz.ntmps179
 go_wp2
 go_loop [3] (fun i=>∃ k:Nat,k≤s.size∧i = .int .i64 k∧Hid ((s.data.toList.take k).all Pth.nb=true)) (fun i=>s.size - (intOf i).toNat)
 case atStart=>exact⟨0,Nat.zero_le _,rfl,rfl⟩
 case round =>
  obtain⟨k,hk,rfl,HA⟩:=hrel
  by_cases hlt:k < s.size
  ·cases hb:nbI (s[k].toNat:Int)
   ·have HB:Hid (Pth.okName s.data.toList=false):=not_name s k hlt hb
    rcases nbI_false hb with hx | ⟨hx,hy⟩ | hx
    all_goals
     clear hb
     go_wp2
     go_ret
     exact⟨ret_bool HB.out.symm,rfl⟩
   ·have HB:Hid ((s.data.toList.take (k+1)).all Pth.nb=true):=all_snoc s k hlt HA.out hb
    rcases nbI_true hb with ⟨hx,hy⟩ | ⟨hx,hy⟩
    all_goals
     clear hb
     go_wp2
     exact⟨⟨k+1,by omega,by go_num,HB⟩,by simp [intOf];omega⟩
  ·have hk' : k=s.size:=by omega
   have HB:Hid ((decide ((1:Int)≤(s.size:Int)) && decide ((s.size:Int)≤8))=Pth.okName s.data.toList):=okName_val s (by rw [← hk'];exact HA.out)
   clear hk'
   go_wp2_with (go_at_call 104;refine (l1In_any _ _ _ _).mono ?_;rintro e w' ⟨rfl,rfl⟩)
   go_ret
   exact⟨ret_bool HB.out,rfl⟩
/-! ### l1Cut -/
/-- Where the pieces stand behind a round. -/
def CutAt (l:List UInt8) (ps:List ByteArray) (f k:Nat):Prop :=
 f≤k∧ps.length≤k∧ps.map (·.data.toList) ++ (if k≤l.length then Pth.cut ((l.drop f).take (k - f)) (l.drop k) else [])=Pth.cut [] l
theorem cutAt_start (l:List UInt8):CutAt l [] 0 0:=⟨by omega,by simp,by simp⟩
theorem cutAt_on (s:ByteArray) (ps:List ByteArray) (f k:Nat) (h:k < s.size) (hne:¬ s[k]=47) (hc:CutAt s.data.toList ps f k):CutAt s.data.toList ps f (k+1):=by
 obtain⟨a,b,c⟩:=hc
 refine⟨by omega,by omega,?_⟩
 rw [← c,if_pos (by rw [len_eq];omega),if_pos (by rw [len_eq];omega),drop_at s k h,Pth.cut_ne _ _ _ hne]
 congr 2
 have e:k+1 - f=(k - f)+1:=by omega
 rw [e,List.take_succ_eq_append_getElem (by simp;omega)]
 congr 1
 simp only [List.getElem_drop]
 congr 1
 have:f+(k - f)=k:=by omega
 simp only [this]
 rfl
theorem cutAt_piece (s:ByteArray) (ps:List ByteArray) (f k:Nat) (h:k < s.size) (h47:s[k]=47) (hc:CutAt s.data.toList ps f k):CutAt s.data.toList (ps ++ [s.extract f k]) (k+1) (k+1):=by
 obtain⟨a,b,c⟩:=hc
 refine⟨by omega,by simp;omega,?_⟩
 rw [← c,if_pos (by rw [len_eq];omega),if_pos (by rw [len_eq];omega),drop_at s k h,h47,Pth.cut_sl,Nat.sub_self]
 simp
theorem cutAt_last (s:ByteArray) (ps:List ByteArray) (f:Nat) (hc:CutAt s.data.toList ps f s.size):CutAt s.data.toList (ps ++ [s.extract f s.size]) (s.size+1) (s.size+1):=by
 obtain⟨a,b,c⟩:=hc
 refine⟨by omega,by simp;omega,?_⟩
 rw [← c,if_neg (by rw [len_eq];omega),if_pos (by rw [len_eq];omega),List.drop_of_length_le (i:=s.size) (by rw [len_eq];omega),Pth.cut]
 simp
theorem cutAt_end (s:ByteArray) (ps:List ByteArray) (f:Nat) (hc:CutAt s.data.toList ps f (s.size+1)):ps.map (·.data.toList)=Pth.cut [] s.data.toList:=by
 obtain⟨a,b,c⟩:=hc
 rw [← c,if_neg (by rw [len_eq];omega)]
 simp
end Go.Proofs.YtpdejinkmnhioaaGreatDoor
namespace Go.Proofs.YtpdejinkmnhioaaGreatDoor
open Go.RowKit
/-- One more number in a sum. -/
def Sm.step (n x:Int):Int:=(n * 31+x+1) % 1000003
def Sm.sum (l:List Int):Int:=l.foldl Sm.step 7
def Sm.is (n:Int):Bool:=decide (0≤n) && decide (n≤1000002)
def Sm.ok (l:List Int):Bool:=l.all Sm.is
def Sm.sumV (l:List Int):Int × Int:=if 200 < l.length then (2,0) else if Sm.ok l=true then (0,Sm.sum l) else (3,0)
/-- The numbers l lie in block b, from off on. -/
def NumsAt (w:World) (b off:Nat) (l:List Int):Prop:=∀ (i:Nat) x,l[i]?=some x→w.cell? ⟨b,off+i,none⟩=some (.int .i64 x)
theorem NumsAt.ext {w w' : World} {b off:Nat} {l:List Int} (h:NumsAt w b off l) (hb:b < w.heap.size) (he:Ext w w'):NumsAt w' b off l:=by
 intro i x hx
 exact ((Ext.cell he).1 _ _ hb).trans (h i x hx)
/-- The slice value v reads as the numbers l. -/
def ISlice (w:World) (v:Value) (l:List Int):Prop :=
 ∃ a cap,v = .slice a l.length cap∧l.length≤cap∧cap≤maxLen∧(0 < l.length→∃ b off,a=some ⟨b,off,none⟩∧b < w.heap.size∧NumsAt w b off l)
theorem ISlice.ext {w w' : World} {v:Value} {l:List Int} (h:ISlice w v l) (he:Ext w w'):ISlice w' v l:=by
 exact m16z
/-- Block r holds an IntResult that nobody has written yet, and may be written. -/
def IBox (w:World) (r:Nat):Prop :=
 r < w.heap.size∧w.cell? ⟨r,0,none⟩=some (.int .i64 0)∧w.cell? ⟨r,1,none⟩=some (.int .i64 0)∧w.frozen? ⟨r,0,none⟩=false∧w.frozen? ⟨r,1,none⟩=false
theorem IBox.new (w:World) (t:TypeId):IBox (w.alloc (.cells #[.int .i64 0,.int .i64 0] t)) w.heap.size:=⟨by simp,by simp,by simp,by simp,by simp⟩
theorem IBox.ext {w w2:World} {r:Nat} (h:IBox w r) (he:Ext w w2):IBox w2 r:=by
 exact m74z
theorem Ext.two {w w2:World} (h:Ext w w2) (a b:Value):Ext w ((w2.setCell ⟨w.heap.size,0,none⟩ a).setCell ⟨w.heap.size,1,none⟩ b) :=
 (h.setCell (p:=⟨w.heap.size,0,none⟩) (Nat.le_refl _) a).setCell (p:=⟨w.heap.size,1,none⟩) (Nat.le_refl _) b
def Sm.pairV (x y:Int):Int × Int:=Sm.sumV [1,x,y]
end Go.Proofs.YtpdejinkmnhioaaGreatDoor
namespace Go.Proofs.YtpdejinkmnhioaaGreatDoor
open Go.RowKit
/-! ### the laws' functions over numbers -/
/-- Block g holds room for n cells from off on, and may be written there. -/
def IRoom (w:World) (g off n:Nat):Prop:=g < w.heap.size∧∀ j,j < n→(∃ u,w.cell? ⟨g,off+j,none⟩=some u)∧w.frozen? ⟨g,off+j,none⟩=false
theorem iset_ne (w:World) (g o b k:Nat) (v:Value) (h:g≠b∨o≠k):(w.setCell ⟨g,o,none⟩ v).cell? ⟨b,k,none⟩=w.cell? ⟨b,k,none⟩ :=
 World.cell?_setCell_other _ _ _ _ (by intro e;injection e with e1 e2 _;rcases h with h | h;exact h e1;exact h e2)
theorem iset_eq (w:World) (g o:Nat) (v:Value) (h:∃ u,w.cell? ⟨g,o,none⟩=some u):(w.setCell ⟨g,o,none⟩ v).cell? ⟨g,o,none⟩=some v:=by
 obtain⟨u,hu⟩:=h;exact World.cell?_setCell_same _ _ _ hu
theorem IRoom.set {w:World} {g off n k:Nat} (h:IRoom w g off n) (v:Value) (hk:k < n):IRoom (w.setCell ⟨g,off+k,none⟩ v) g off n:=by
 refine⟨by simpa using h.1,fun j hj=>⟨?_,by simpa using (h.2 j hj).2⟩⟩
 by_cases hjk:j=k
 ·subst hjk;exact⟨_,iset_eq _ _ _ _ (h.2 j hj).1⟩
 ·rw [iset_ne _ _ _ _ _ _ (by omega)];exact (h.2 j hj).1
theorem NumsAt.set {w:World} {g off n k:Nat} {l:List Int} {x:Int} (hr:IRoom w g off n) (hk:k < n) (hx:l[k]?=some x) (h:NumsAt w g off (l.take k)):NumsAt (w.setCell ⟨g,off+k,none⟩ (.int .i64 x)) g off (l.take (k+1)):=by
 intro i y hi
 rw [List.getElem?_take] at hi
 split at hi
 ·by_cases hik:i=k
  ·subst hik
   rw [hx] at hi
   cases hi
   exact iset_eq _ _ _ _ (hr.2 i hk).1
  ·rw [iset_ne _ _ _ _ _ _ (by omega)]
   exact h i y (by rw [List.getElem?_take,if_pos (by omega)];exact hi)
 ·cases hi
end Go.Proofs.YtpdejinkmnhioaaGreatDoor
