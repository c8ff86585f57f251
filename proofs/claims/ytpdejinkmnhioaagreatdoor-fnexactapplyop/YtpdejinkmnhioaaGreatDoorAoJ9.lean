/- As, AsHit, W4, Clone, W5, I2, in one text. -/
import Derived.Test.YtpdejinkmnhioaaGreatDoorProg
import Derived.WalkKit
import Derived.LaidEql
import Derived.RowKitTokens
import Derived.Test.YtpdejinkmnhioaaGreatDoorAoJ8
import Derived.Shelf.LaysM
import Derived.Shelf.Strconv.Clone
import Derived.Test.YtpdejinkmnhioaaGreatDoorAoJ7
import Derived.Test.YtpdejinkmnhioaaGreatDoorAoMk
namespace Go.Proofs.YtpdejinkmnhioaaGreatDoor
open Go.RowKit Go.Extern
/-- What errors.errorType holds: the handle of the type error. -/
def errH:Value:=.iface 332 (.agg #[.pointer (some ⟨5,238,none⟩)])
theorem as_nil (t:Value) (w:World) :
  Calls Tryz.prog 225 #[.nilIface,t] w fun e w'=>e = .returned (.bool false)∧w'=w:=by
 go_enter Tryz.func225,Tryz.ntmps225
 go_wp2
 go_ret
 exact⟨rfl,rfl⟩
theorem asF.valueOfP (t:Addr) (w:World):(ReflectliteValue.unpack (.iface 284 (.pointer (some t)))).run Tryz.prog w
  = .ok (.agg #[.pointer (some ⟨5,284,none⟩),.pointer (some ⟨w.heap.size,0,none⟩),.int .u64 150]) (w.alloc (.cells #[.pointer (some t)] 284)):=by kernel_rfl
theorem asF.typeP (a : Addr) (w : World) : (ReflectliteValue.methodAny (ReflectliteValue.valueError "reflectlite.Value.Type" 0) (fun t _ _ _ => ReflectliteType.toType t) #[.agg #[.pointer (some ⟨5, 284, none⟩), .pointer (some a), .int .u64 150]]).run Tryz.prog w
  = .ok (.iface 332 (.agg #[.pointer (some ⟨5,284,none⟩)])) w:=by kernel_rfl
theorem asF.methodKind (h : Value) (w : World) : (Go.method 514 332 (.agg #[h]) "Kind").run Tryz.prog w = .ok (339, h) w := by kernel_rfl
theorem asF.kindP (w:World):((ReflectliteType.abiMethod fun t=>(fun a:Nat=>Value.int IntKind.u8 (a:Int)) <$> Rtype.kind t) #[.pointer (some ⟨5,284,none⟩)]).run Tryz.prog w = .ok (.int .u8 22) w:=by kernel_rfl
theorem asF.kindE (w:World):((ReflectliteType.abiMethod fun t=>(fun a:Nat=>Value.int IntKind.u8 (a:Int)) <$> Rtype.kind t) #[.pointer (some ⟨5,281,none⟩)]).run Tryz.prog w = .ok (.int .u8 25) w:=by kernel_rfl
theorem rlm (z:Sem Value) (f:TypeId→Addr→Nat→Nat→Sem Value) (v:Value) :
  ReflectliteValue.method z f #[v]=(do match ← ReflectliteValue.parts v with | none=>z | some (t,a,fl)=>f t a fl (fl % 32)):=rfl
theorem asF.partsP (a:Addr) (w:World):(ReflectliteValue.parts (.agg #[.pointer (some ⟨5,284,none⟩),.pointer (some a),.int .u64 150])).run Tryz.prog w = .ok (some (284,a,150)) w:=by kernel_rfl
theorem asF.isNilP (a p:Addr) (W:World) (ha:W.cell? a=some (.pointer (some p))) :
  (ReflectliteValue.method (ReflectliteValue.valueError "reflectlite.Value.IsNil" 0) ReflectliteValue.isNil #[.agg #[.pointer (some ⟨5, 284, none⟩), .pointer (some a), .int .u64 150]]).run Tryz.prog W = .ok (.bool false) W := by
 rw [rlm]
 simp only [Sem.run_bind,asF.partsP,Result.andThen]
 simp [ReflectliteValue.isNil,loadVar,isAgg,underlying,Tryz.underlying284,ha,Result.andThen]
theorem asF.methodElem (h : Value) (w : World) : (Go.method 514 332 (.agg #[h]) "Elem").run Tryz.prog w = .ok (357, .agg #[h]) w := by kernel_rfl
theorem asF.methodImplements (h : Value) (w : World) : (Go.method 514 332 (.agg #[h]) "Implements").run Tryz.prog w = .ok (358, .agg #[h]) w := by kernel_rfl
theorem asF.methodAssignableTo (h : Value) (w : World) : (Go.method 514 332 (.agg #[h]) "AssignableTo").run Tryz.prog w = .ok (355, .agg #[h]) w := by kernel_rfl
theorem asF.elemP (w:World):(ReflectliteType.method ReflectliteType.elem #[.agg #[.pointer (some ⟨5,284,none⟩)]]).run Tryz.prog w = .ok (.iface 332 (.agg #[.pointer (some ⟨5,281,none⟩)])) w:=by kernel_rfl
theorem asF.implementsE (w : World) : (ReflectliteType.relation "Implements" ReflectliteType.implements_ #[.agg #[.pointer (some ⟨5, 281, none⟩)], .iface 332 (.agg #[.pointer (some ⟨5, 238, none⟩)])]).run Tryz.prog w = .ok (.bool true) w := by kernel_rfl
theorem asF.typeOfE (v:Value) (w:World):(ReflectliteType.typeOf #[.iface 281 v]).run Tryz.prog w = .ok (.iface 332 (.agg #[.pointer (some ⟨5,281,none⟩)])) w:=by kernel_rfl
theorem asF.assignableE (w : World) : (ReflectliteType.relation "AssignableTo" ReflectliteType.assignableTo #[.agg #[.pointer (some ⟨5, 281, none⟩)], .iface 332 (.agg #[.pointer (some ⟨5, 281, none⟩)])]).run Tryz.prog w = .ok (.bool true) w := by kernel_rfl
theorem asF.valueOfE (c:Value) (w:World):(ReflectliteValue.unpack (.iface 281 (.agg #[c]))).run Tryz.prog w
  = .ok (.agg #[.pointer (some ⟨5,281,none⟩),.pointer (some ⟨w.heap.size,0,none⟩),.int .u64 153]) (w.alloc (.cells #[c] 281)):=by kernel_rfl
theorem asF.elemOfP (w:World):(Rtype.elem? 284).run Tryz.prog w = .ok (some 281) w:=by kernel_rfl
theorem asF.mkE (p:Addr) (w:World):(ReflectliteValue.mk 281 p ReflectliteValue.flagAddr).run Tryz.prog w = .ok (.agg #[.pointer (some ⟨5,281,none⟩),.pointer (some p),.int .u64 409]) w:=by kernel_rfl
theorem asF.elemV (a p:Addr) (W:World) (ha:W.cell? a=some (.pointer (some p))) :
  (ReflectliteValue.method (ReflectliteValue.valueError "reflectlite.Value.Elem" 0) ReflectliteValue.elem #[.agg #[.pointer (some ⟨5, 284, none⟩), .pointer (some a), .int .u64 150]]).run Tryz.prog W
   = .ok (.agg #[.pointer (some ⟨5,281,none⟩),.pointer (some p),.int .u64 409]) W:=by
 rw [rlm]
 simp only [Sem.run_bind,asF.partsP,Result.andThen]
 simp [ReflectliteValue.elem,loadVar,isAgg,underlying,Tryz.underlying284,ha,Result.andThen,asF.elemOfP,asF.mkE]
theorem rls (v x:Value):ReflectliteValue.set #[v,x]=(do
  let (some (dst,a,fl),some (src,b,_)):=(← ReflectliteValue.parts v,← ReflectliteValue.parts x)
   | unsupported (.noEntry "extern/(internal/reflectlite.Value).Set.zeroValue")
  if fl / ReflectliteValue.flagAddr % 2 == 0 then unsupported (.noEntry "extern/(internal/reflectlite.Value).Set.unaddressable")
  let val ← loadVar src b
  if ← Rtype.directlyAssignable dst src then storeVar dst a val
  else if ← Rtype.implements dst src then
   if (← Rtype.kind src) == 20 then
    match val with
    | .nilIface => unsupported (.noEntry "extern/reflectlite: a nil value of one interface type handed on as a value of another")
    | _=>storeVar dst a val
   else storeVar dst a (.iface src val)
  else panicString ("reflectlite.Set: value of type " ++ (← Rtype.spelt src) ++ " is not assignable to type " ++ (← Rtype.spelt dst))
  pure (.tuple #[])):=rfl
theorem asF.partsEa (a:Addr) (w:World):(ReflectliteValue.parts (.agg #[.pointer (some ⟨5,281,none⟩),.pointer (some a),.int .u64 409])).run Tryz.prog w = .ok (some (281,a,409)) w:=by kernel_rfl
theorem asF.partsE (a:Addr) (w:World):(ReflectliteValue.parts (.agg #[.pointer (some ⟨5,281,none⟩),.pointer (some a),.int .u64 153])).run Tryz.prog w = .ok (some (281,a,153)) w:=by kernel_rfl
theorem asF.directE (w:World):(Rtype.directlyAssignable 281 281).run Tryz.prog w = .ok true w:=by kernel_rfl
theorem asF.set (ta b:Addr) (c:Int) (old:Value) (W:World) (hb:W.cell? b=some (.int .i64 c)) (ht:W.cell? ta=some old) (hf:W.frozen? ta=false) :
  (ReflectliteValue.set #[.agg #[.pointer (some ⟨5,281,none⟩),.pointer (some ta),.int .u64 409],.agg #[.pointer (some ⟨5,281,none⟩),.pointer (some b),.int .u64 153]]).run Tryz.prog W
   = .ok (.tuple #[]) (W.setCell ta (.int .i64 c)):=by
 rw [rls]
 simp only [Sem.run_bind,asF.partsEa,asF.partsE,Result.andThen]
 simp [ReflectliteValue.flagAddr,loadVar,isAgg,underlying,Tryz.underlying281,hb,Result.andThen,asF.directE,storeVar,Value.cells,storeCells,Addr.add,loadCells,loadCellsFrom]
 rw [run_store Tryz.prog W ta _ _ (by rfl)]
 simp [ht,hf]
end Go.Proofs.YtpdejinkmnhioaaGreatDoor
namespace Go.Proofs.YtpdejinkmnhioaaGreatDoor
open Go.RowKit Go.Extern
set_option maxHeartbeats 4000000 in
theorem as_hit (c:Int) (t:Addr) (old:Value) (w:World) (hg:w.cell? ⟨0,0,none⟩=some errH) (ht0:w.cell? t=some old) (hf0:w.frozen? t=false) :
  Calls Tryz.prog 225 #[.iface 281 (.agg #[.int .i64 c]),.iface 284 (.pointer (some t))] w fun ev w'=>ev = .returned (.bool true)∧w'=((((w.alloc (.cells #[.pointer (some t)] 284)).alloc (.cells #[.pointer (some ⟨5,284,none⟩),.pointer (some ⟨w.heap.size,0,none⟩),.int .u64 150] 311)).alloc (.cells #[.pointer (some ⟨5,284,none⟩),.pointer (some ⟨w.heap.size,0,none⟩),.int .u64 150] 311)).alloc (.cells #[.int .i64 c] 281)).setCell t (.int .i64 c):=by
 unfold errH at hg
 have hVO:=@run_callFunc_extern Tryz.prog 251 _ (fun args=>ReflectliteValue.unpack (args.getD 0 (.tuple #[]))) Tryz.func251 (by kernel_rfl) (by kernel_rfl) (by kernel_rfl) (by kernel_rfl)
 have hVT := @run_callFunc_extern Tryz.prog 252 _ (ReflectliteValue.methodAny (ReflectliteValue.valueError "reflectlite.Value.Type" 0) (fun t _ _ _ => ReflectliteType.toType t)) Tryz.func252 (by kernel_rfl) (by kernel_rfl) (by kernel_rfl) (by kernel_rfl)
 have hIN := @run_callFunc_extern Tryz.prog 253 _ (ReflectliteValue.method (ReflectliteValue.valueError "reflectlite.Value.IsNil" 0) ReflectliteValue.isNil) Tryz.func253 (by kernel_rfl) (by kernel_rfl) (by kernel_rfl) (by kernel_rfl)
 have hKi:=@run_callFunc_extern Tryz.prog 339 _ (ReflectliteType.abiMethod fun t=>do pure (.int .u8 (← Rtype.kind t))) Tryz.func339 (by kernel_rfl) (by kernel_rfl) (by kernel_rfl) (by kernel_rfl)
 have hEl:=@run_callFunc_extern Tryz.prog 357 _ (ReflectliteType.method ReflectliteType.elem) Tryz.func357 (by kernel_rfl) (by kernel_rfl) (by kernel_rfl) (by kernel_rfl)
 have hIm := @run_callFunc_extern Tryz.prog 358 _ (ReflectliteType.relation "Implements" ReflectliteType.implements_) Tryz.func358 (by kernel_rfl) (by kernel_rfl) (by kernel_rfl) (by kernel_rfl)
 have hTO:=@run_callFunc_extern Tryz.prog 272 _ ReflectliteType.typeOf Tryz.func272 (by kernel_rfl) (by kernel_rfl) (by kernel_rfl) (by kernel_rfl)
 have hAs := @run_callFunc_extern Tryz.prog 355 _ (ReflectliteType.relation "AssignableTo" ReflectliteType.assignableTo) Tryz.func355 (by kernel_rfl) (by kernel_rfl) (by kernel_rfl) (by kernel_rfl)
 have hVE := @run_callFunc_extern Tryz.prog 273 _ (ReflectliteValue.method (ReflectliteValue.valueError "reflectlite.Value.Elem" 0) ReflectliteValue.elem) Tryz.func273 (by kernel_rfl) (by kernel_rfl) (by kernel_rfl) (by kernel_rfl)
 have hVS:=@run_callFunc_extern Tryz.prog 274 _ ReflectliteValue.set Tryz.func274 (by kernel_rfl) (by kernel_rfl) (by kernel_rfl) (by kernel_rfl)
 have tO:=asF.typeOfE
 have mA:=asF.methodAssignableTo
 have aE:=asF.assignableE
 have vE:=asF.valueOfE
 have vP:=asF.valueOfP
 have tP:=asF.typeP
 have mK:=asF.methodKind
 have mE:=asF.methodElem
 have mI:=asF.methodImplements
 have kP:=asF.kindP
 have kE:=asF.kindE
 have eP:=asF.elemP
 have iE:=asF.implementsE
 have n8:=asF.isNilP ⟨w.heap.size,0,none⟩ t ((w.alloc (.cells #[.pointer (some t)] 284)).alloc (.cells #[.pointer (some ⟨5,284,none⟩),.pointer (some ⟨w.heap.size,0,none⟩),.int .u64 150] 311)) (by simp)
 have hlt : 0 < w.heap.size:=by
  rcases Nat.lt_or_ge 0 w.heap.size with h | h
  ·exact h
  ·simp [World.cell?,Array.getElem?_eq_none h] at hg
 have hg2:((w.alloc (.cells #[.pointer (some t)] 284)).alloc (.cells #[.pointer (some ⟨5,284,none⟩),.pointer (some ⟨w.heap.size,0,none⟩),.int .u64 150] 311)).cell? ⟨0,0,none⟩=some (.iface 332 (.agg #[.pointer (some ⟨5,238,none⟩)])):=by
  rw [World.cell?_alloc_lt _ _ ⟨0,0,none⟩ (by first | (simp;done) | (simp;omega)),World.cell?_alloc_lt _ _ ⟨0,0,none⟩ hlt];exact hg
 have htl:t.block < w.heap.size:=by
  rcases Nat.lt_or_ge t.block w.heap.size with h | h
  ·exact h
  ·simp [World.cell?,Array.getElem?_eq_none h] at ht0
 have el:=asF.elemV ⟨w.heap.size,0,none⟩ t (((w.alloc (.cells #[.pointer (some t)] 284)).alloc (.cells #[.pointer (some ⟨5,284,none⟩),.pointer (some ⟨w.heap.size,0,none⟩),.int .u64 150] 311)).alloc (.cells #[.pointer (some ⟨5,284,none⟩),.pointer (some ⟨w.heap.size,0,none⟩),.int .u64 150] 311)) (by rw [World.cell?_alloc_lt _ _ ⟨w.heap.size,0,none⟩ (by simp;omega)];simp)
 have st:=asF.set t ⟨w.heap.size+1+1+1,0,none⟩ c old ((((w.alloc (.cells #[.pointer (some t)] 284)).alloc (.cells #[.pointer (some ⟨5,284,none⟩),.pointer (some ⟨w.heap.size,0,none⟩),.int .u64 150] 311)).alloc (.cells #[.pointer (some ⟨5,284,none⟩),.pointer (some ⟨w.heap.size,0,none⟩),.int .u64 150] 311)).alloc (.cells #[.int .i64 c] 281))
  (by rw [World.cell?_alloc_at _ _ _ _ (by simp)];rfl)
  (by rw [World.cell?_alloc_lt _ _ t (by simp;omega),World.cell?_alloc_lt _ _ t (by simp;omega),World.cell?_alloc_lt _ _ t (by simp;omega),World.cell?_alloc_lt _ _ t htl];exact ht0)
  (by rw [World.frozen?_alloc_old _ _ t (by simp;omega),World.frozen?_alloc_old _ _ t (by simp;omega),World.frozen?_alloc_old _ _ t (by simp;omega),World.frozen?_alloc_old _ _ t (Nat.ne_of_lt htl)];exact hf0)
 go_enter Tryz.func225,Tryz.ntmps225
 go_wp2
 refine wp_loop_rounds 1 ?_
 rw [rounds_succ]
 go_wp2
 go_ret
 exact⟨rfl,rfl⟩
set_option maxHeartbeats 1000000 in
theorem code_nil (w:World):Calls Tryz.prog 186 #[.nilIface] w fun e w'=>e = .returned (.int .i64 0)∧Below w.heap.size w w':=by
 go_enter Tryz.func186,Tryz.ntmps186
 go_wp2_with (go_at_call 225;refine (as_nil _ _).mono ?_;rintro e w' ⟨rfl,rfl⟩)
 go_ret
 exact⟨rfl,(Below.refl _ _).alloc (Nat.le_refl _) _⟩
set_option maxHeartbeats 1000000 in
theorem code_err (c:Int) (w:World) (hg:w.cell? ⟨0,0,none⟩=some errH) :
  Calls Tryz.prog 186 #[.iface 281 (.agg #[.int .i64 c])] w fun e w'=>e = .returned (.int .i64 c)∧Below w.heap.size w w':=by
 have hlt : 0 < w.heap.size:=by
  rcases Nat.lt_or_ge 0 w.heap.size with h | h
  ·exact h
  ·simp [World.cell?,Array.getElem?_eq_none h] at hg
 have hgA:(w.alloc (.cells #[.int .i64 0] 281)).cell? ⟨0,0,none⟩=some errH:=by
  rw [World.cell?_alloc_lt _ _ ⟨0,0,none⟩ hlt];exact hg
 have htA:(w.alloc (.cells #[.int .i64 0] 281)).cell? ⟨w.heap.size,0,none⟩=some (.int .i64 0):=by simp
 have hfA:(w.alloc (.cells #[.int .i64 0] 281)).frozen? ⟨w.heap.size,0,none⟩=false:=by simp
 go_enter Tryz.func186,Tryz.ntmps186
 go_wp2_with (go_at_call 225;refine (as_hit c _ (.int .i64 0) _ hgA htA hfA).mono ?_;rintro e w' ⟨rfl,rfl⟩)
 go_ret
 refine⟨rfl,?_⟩
 exact (((((Below.refl _ _).alloc (Nat.le_refl _) _).alloc (by simp) _).alloc (by simp;omega) _).alloc (by simp;omega) _).alloc (by simp;omega) _
end Go.Proofs.YtpdejinkmnhioaaGreatDoor
namespace Go.Proofs.YtpdejinkmnhioaaGreatDoor
open Go.RowKit
/-- errors.errorType holds what it holds. -/
def Gd (w:World):Prop:=w.cell? ⟨0,0,none⟩=some errH
theorem Gd.lt {w:World} (h:Gd w) : 0 < w.heap.size:=by
 unfold Gd at h
 rcases Nat.lt_or_ge 0 w.heap.size with h' | h'
 ·exact h'
 ·simp [World.cell?,Array.getElem?_eq_none h'] at h
theorem Gd.ext {w w1:World} (h:Gd w) (hb:Ext w w1):Gd w1:=(Below.cell hb (p:=⟨0,0,none⟩) h.lt).trans h
theorem Gd.alloc {w:World} (h:Gd w) (o:Obj):Gd (w.alloc o):=h.ext ((Ext.refl w).alloc o)
theorem rp_many (s:ByteArray) (w:World) (hm:Pth.many s.data.toList=true) :
  Calls Tryz.prog 185 #[.string s] w fun e w'=>e = .returned rpMany∧Ext w w':=readPath_many s w hm
theorem rp_none (s:ByteArray) (w:World) (hm:Pth.many s.data.toList=false) (hr:Pth.rd s.data.toList=none) :
  Calls Tryz.prog 185 #[.string s] w fun e w'=>e = .returned rpText∧Ext w w':=by
 refine (readPath_few s w hm).mono ?_
 rintro e w' ⟨⟨_,h⟩ | ⟨n,la,h,_⟩,hb⟩
 ·exact⟨h,hb⟩
 ·rw [hr] at h;cases h
theorem rp_some (s:ByteArray) (w:World) (n la:Nat) (hm:Pth.many s.data.toList=false) (hr:Pth.rd s.data.toList=some (n,la)) :
  Calls Tryz.prog 185 #[.string s] w fun e w'=>e = .returned (rpShape n la)∧Ext w w':=by
 refine (readPath_few s w hm).mono ?_
 rintro e w' ⟨⟨h,_⟩ | ⟨n',la',h,h'⟩,hb⟩
 ·rw [hr] at h;cases h
 ·rw [hr] at h
  simp only [Option.some.injEq,Prod.mk.injEq] at h
  obtain⟨rfl,rfl⟩:=h
  exact⟨h',hb⟩
theorem fault_many {l:List UInt8} (h:Pth.many l=true):Pth.faultI l=2:=by unfold Pth.faultI;rw [h];rfl
theorem fault_none {l:List UInt8} (h:Pth.many l=false) (hr:Pth.rd l=none):Pth.faultI l=5:=by unfold Pth.faultI;rw [h,hr];rfl
theorem fault_some {l:List UInt8} {x:Nat × Nat} (h:Pth.many l=false) (hr:Pth.rd l=some x):Pth.faultI l=0:=by unfold Pth.faultI;rw [h,hr];rfl
set_option maxHeartbeats 1000000 in
theorem pathFault_any (s:ByteArray) (w:World) (hg:Gd w) :
  Calls Tryz.prog 127 #[.string s] w fun e w'=>e = .returned (.int .i64 (Pth.faultI s.data.toList))∧Ext w w':=by
 have HG:Hid (Gd w):=hg
 clear hg
 cases hm:Pth.many s.data.toList
 ·cases hr:Pth.rd s.data.toList with
  | none =>
   rw [fault_none hm hr]
   go_enter Tryz.func127,Tryz.ntmps127
   go_wp2_with fail
   refine (rp_none s _ hm hr).mono ?_
   rintro e w1 ⟨rfl,hb⟩
   have HB:Hid (Ext w w1):=hb
   clear hb
   unfold rpText
   go_wp2_with fail
   refine (code_err 5 _ (by exact (HG.out.ext HB.out).alloc _)).mono ?_
   exact m98z
  | some x =>
   obtain⟨n,la⟩:=x
   rw [fault_some hm hr]
   go_enter Tryz.func127,Tryz.ntmps127
   go_wp2_with fail
   refine (rp_some s _ n la hm hr).mono ?_
   rintro e w1 ⟨rfl,hb⟩
   have HB:Hid (Ext w w1):=hb
   clear hb
   unfold rpShape
   go_wp2_with fail
   refine (code_nil _).mono ?_
   exact m98z
 ·rw [fault_many hm]
  go_enter Tryz.func127,Tryz.ntmps127
  go_wp2_with fail
  refine (rp_many s _ hm).mono ?_
  rintro e w1 ⟨rfl,hb⟩
  have HB:Hid (Ext w w1):=hb
  clear hb
  unfold rpMany
  go_wp2_with fail
  refine (code_err 2 _ (by exact (HG.out.ext HB.out).alloc _)).mono ?_
  exact m98z
theorem slash_cat (s:ByteArray):((⟨#[47]⟩:ByteArray) ++ s).data.toList=(47:UInt8) :: s.data.toList:=by simp [ByteArray.data_append]
end Go.Proofs.YtpdejinkmnhioaaGreatDoor
namespace Go.Proofs.YtpdejinkmnhioaaGreatDoor
open Go.Shelf Go.RowKit
def cloneRen:Go.Shelf.Ren:=⟨fun | 316=>203 | n=>n,fun | 9=>9 | 3=>3 | 4=>4 | 37=>69 | 0=>0 | 127=>293 | 5=>5 | n=>n,fun | n=>n⟩
theorem cloneLays:Go.Proofs.LaysM.n316 Tryz.prog cloneRen:={
 mixed:=by kernel_rfl
 f316:=Tryz.func203.trans (congrArg some (by kernel_rfl))
 t0:=Tryz.underlying0
 a0:=Tryz.isAgg0
 z0:=Tryz.sizeOf0
 v0:=Tryz.zeroValue0
 t3:=Tryz.underlying3
 a3:=Tryz.isAgg3
 z3:=Tryz.sizeOf3
 v3:=Tryz.zeroValue3
 t4:=Tryz.underlying4
 a4:=Tryz.isAgg4
 z4:=Tryz.sizeOf4
 v4:=Tryz.zeroValue4
 t9:=Tryz.underlying9
 a9:=Tryz.isAgg9
 z9:=Tryz.sizeOf9
 v9:=Tryz.zeroValue9
 t37:=Tryz.underlying69
 a37:=Tryz.isAgg69
 z37:=Tryz.sizeOf69
 v37:=Tryz.zeroValue69
 t127:=Tryz.underlying293
 a127:=Tryz.isAgg293
 z127:=Tryz.sizeOf293
 v127:=Tryz.zeroValue293
 t5:=Tryz.underlying5
 a5:=Tryz.isAgg5
 z5:=Tryz.sizeOf5
 v5:=Tryz.zeroValue5
 i0:=by kernel_rfl
 i3:=by kernel_rfl
 i4:=by kernel_rfl
 i5:=by kernel_rfl
 i9:=by kernel_rfl
 i37:=by kernel_rfl
 i127:=by kernel_rfl }
theorem slClone_any (s:ByteArray) (w:World) (hs:s.size≤1048576) :
  Calls Tryz.prog 203 #[.string s] w fun e w'=>e = .returned (.string s)∧Ext w w':=Any.stringslite_Clone cloneLays s w (by omega)
theorem clone_any (s:ByteArray) (w:World) (hs:s.size≤1048576) :
  Calls Tryz.prog 148 #[.string s] w fun e w'=>e = .returned (.string s)∧Ext w w':=by
 go_enter Tryz.func148,Tryz.ntmps148
 go_wp2_with (go_at_call 203;refine (slClone_any s _ hs).mono ?_;rintro e w' ⟨rfl,hb⟩)
 go_ret
 exact⟨rfl,hb⟩
end Go.Proofs.YtpdejinkmnhioaaGreatDoor
namespace Go.Proofs.YtpdejinkmnhioaaGreatDoor
open Go.RowKit
set_option maxHeartbeats 2000000 in
theorem nameIn_any (s:ByteArray) (w:World) (hg:Gd w) :
  Calls Tryz.prog 276 #[.string s] w fun e w'=>e = .returned (tr (Pth.nameV s.data.toList))∧Ext w w':=by
 have HG:Hid (Gd w):=hg
 clear hg
 rcases Pth.fault_cases s.data.toList with ⟨hm,hf⟩ | ⟨hm,hr,hf⟩ | ⟨hm,hf,n,la,hr⟩
 ·rw [nameV_bad hf (by decide)]
  clear hf
  go_enter Tryz.func276,Tryz.ntmps276
  go_wp2_with fail
  refine (rp_many s _ hm).mono ?_
  refine n15z ?_
  intro w1 hb hz HB
  clear hb
  unfold rpMany
  go_wp2_with fail
  refine (code_err 2 _ (by exact ((HG.out.alloc _).ext HB.out).alloc _)).mono ?_
  refine n29z ?_
  intro w2 hb HB2
  clear hb
  obtain⟨hc,hf⟩:=Ext.cell HB2.out
  go_wp2
  exact bodyPost_ret (v:=tr (2,[])) (by simp [results,Tryz.results276,go_sem,tr,hc,mkB]) rfl ⟨rfl,((((Ext.refl w).alloc _).trans HB2.out).setCell (Nat.le_refl _) _).setCell (Nat.le_refl _) _⟩
 ·rw [nameV_bad hf (by decide)]
  clear hf
  go_enter Tryz.func276,Tryz.ntmps276
  go_wp2_with fail
  refine (rp_none s _ hm hr).mono ?_
  refine n15z ?_
  intro w1 hb hz HB
  clear hb
  unfold rpText
  go_wp2_with fail
  refine (code_err 5 _ (by exact ((HG.out.alloc _).ext HB.out).alloc _)).mono ?_
  refine n29z ?_
  intro w2 hb HB2
  clear hb
  obtain⟨hc,hf⟩:=Ext.cell HB2.out
  go_wp2
  exact bodyPost_ret (v:=tr (5,[])) (by simp [results,Tryz.results276,go_sem,tr,hc,mkB]) rfl ⟨rfl,((((Ext.refl w).alloc _).trans HB2.out).setCell (Nat.le_refl _) _).setCell (Nat.le_refl _) _⟩
 ·rcases Pth.rd_top _ _ _ hr with ⟨h1,h2,_⟩ | ⟨h1,h2,h3,h4,_,h5⟩
  ·have hv:Pth.nameV s.data.toList=(4,[]):=by
    unfold Pth.nameV
    rw [hf,if_neg (by decide),if_pos h1]
   rw [hv]
   subst h2
   clear hv hf h1
   go_enter Tryz.func276,Tryz.ntmps276
   go_wp2_with fail
   refine (rp_some s _ 0 la hm hr).mono ?_
   refine n15z ?_
   intro w1 hb hz HB
   clear hb hr hm
   unfold rpShape
   refine n55z ?_
   intro hc hf hlt hal hfl
   go_wp2
   exact bodyPost_ret (v:=tr (4,[])) (by simp [results,Tryz.results276,go_sem,tr,hc,mkB,hlt,hal]) rfl ⟨rfl,(((((Ext.refl w).alloc _).trans HB.out).setCell (Nat.le_refl _) _).setCell (Nat.le_refl _) _).alloc _⟩
  ·have hv:Pth.nameV s.data.toList=(0,s.data.toList.drop la):=by
    unfold Pth.nameV
    rw [hf,if_neg (by decide),if_neg h1,h4]
   have hx:s.extract la s.size=mkB (s.data.toList.drop la):=eq_mkB (by
    rw [extract_list,List.take_of_length_le];rw [List.length_drop,len_eq];omega)
   rw [hv]
   have HX:Hid (s.extract la s.size=mkB (s.data.toList.drop la)):=hx
   have hla:la≤s.size:=h5
   have hn:((n:Int) == 0)=false:=by simp;omega
   have h24:s.size≤24:=by
    exact m56z
   have hxs:(s.extract la s.size).size≤1048576:=by simp [ByteArray.size_extract];omega
   clear hv hf h1 h2 h4 h5 hx
   go_enter Tryz.func276,Tryz.ntmps276
   go_wp2_with fail
   refine (rp_some s _ n la hm hr).mono ?_
   refine n15z ?_
   intro w1 hb hz HB
   clear hb hr hm
   unfold rpShape
   refine n55z ?_
   intro hc hf hlt hal hfl
   go_wp2_with fail
   refine (clone_any (s.extract la s.size) _ hxs).mono ?_
   refine n29z ?_
   intro w2 hb HB2
   clear hb hc hf
   rw [HX.out]
   obtain⟨hc,hf⟩:=Ext.cell HB2.out
   go_wp2
   exact bodyPost_ret (v:=tr (0,s.data.toList.drop la)) (by simp [results,Tryz.results276,go_sem,tr,hc]) rfl ⟨rfl,((((Ext.refl w).alloc _).trans HB2.out).setCell (Nat.le_refl _) _).setCell (Nat.le_refl _) _⟩
set_option maxHeartbeats 2000000 in
theorem parentOf_any (s:ByteArray) (w:World) (hg:Gd w) :
  Calls Tryz.prog 247 #[.string s] w fun e w'=>e = .returned (tr (Pth.parentV s.data.toList))∧Ext w w':=by
 have HG:Hid (Gd w):=hg
 clear hg
 rcases Pth.fault_cases s.data.toList with ⟨hm,hf⟩ | ⟨hm,hr,hf⟩ | ⟨hm,hf,n,la,hr⟩
 ·rw [parentV_bad hf (by decide)]
  clear hf
  go_enter Tryz.func247,Tryz.ntmps247
  go_wp2_with fail
  refine (rp_many s _ hm).mono ?_
  refine n15z ?_
  intro w1 hb hz HB
  clear hb
  unfold rpMany
  go_wp2_with fail
  refine (code_err 2 _ (by exact ((HG.out.alloc _).ext HB.out).alloc _)).mono ?_
  refine n29z ?_
  intro w2 hb HB2
  clear hb
  obtain⟨hc,hf⟩:=Ext.cell HB2.out
  go_wp2
  exact bodyPost_ret (v:=tr (2,[])) (by simp [results,Tryz.results247,go_sem,tr,hc,mkB]) rfl ⟨rfl,((((Ext.refl w).alloc _).trans HB2.out).setCell (Nat.le_refl _) _).setCell (Nat.le_refl _) _⟩
 ·rw [parentV_bad hf (by decide)]
  clear hf
  go_enter Tryz.func247,Tryz.ntmps247
  go_wp2_with fail
  refine (rp_none s _ hm hr).mono ?_
  refine n15z ?_
  intro w1 hb hz HB
  clear hb
  unfold rpText
  go_wp2_with fail
  refine (code_err 5 _ (by exact ((HG.out.alloc _).ext HB.out).alloc _)).mono ?_
  refine n29z ?_
  intro w2 hb HB2
  clear hb
  obtain⟨hc,hf⟩:=Ext.cell HB2.out
  go_wp2
  exact bodyPost_ret (v:=tr (5,[])) (by simp [results,Tryz.results247,go_sem,tr,hc,mkB]) rfl ⟨rfl,((((Ext.refl w).alloc _).trans HB2.out).setCell (Nat.le_refl _) _).setCell (Nat.le_refl _) _⟩
 ·rcases Pth.rd_top _ _ _ hr with ⟨h1,h2,_⟩ | ⟨h1,h2,h3,h4,h6,h5⟩
  ·have hv:Pth.parentV s.data.toList=(4,[]):=by
    unfold Pth.parentV
    rw [hf,if_neg (by decide),if_pos h1]
   rw [hv]
   subst h2
   clear hv hf h1
   go_enter Tryz.func247,Tryz.ntmps247
   go_wp2_with fail
   refine (rp_some s _ 0 la hm hr).mono ?_
   refine n15z ?_
   intro w1 hb hz HB
   clear hb hr hm
   unfold rpShape
   refine n55z ?_
   intro hc hf hlt hal hfl
   go_wp2
   exact bodyPost_ret (v:=tr (4,[])) (by simp [results,Tryz.results247,go_sem,tr,hc,mkB,hlt,hal]) rfl ⟨rfl,(((((Ext.refl w).alloc _).trans HB.out).setCell (Nat.le_refl _) _).setCell (Nat.le_refl _) _).alloc _⟩
  ·by_cases h7:n=1
   ·have hv:Pth.parentV s.data.toList=(0,[47]):=by
     unfold Pth.parentV
     rw [hf,if_neg (by decide),if_neg h1,if_pos (h6.1 h7)]
    rw [hv]
    subst h7
    clear hv hf h1 h2 h4 h5 h6
    go_enter Tryz.func247,Tryz.ntmps247
    go_wp2_with fail
    refine (rp_some s _ 1 la hm hr).mono ?_
    refine n15z ?_
    intro w1 hb hz HB
    clear hb hr hm
    unfold rpShape
    refine n55z ?_
    intro hc hf hlt hal hfl
    go_wp2
    exact bodyPost_ret (v:=tr (0,[47])) (by simp [results,Tryz.results247,go_sem,tr,hc,mkB,hlt,hal]) rfl ⟨rfl,(((((Ext.refl w).alloc _).trans HB.out).setCell (Nat.le_refl _) _).setCell (Nat.le_refl _) _).alloc _⟩
   ·have h8:¬ Pth.lastSl s.data.toList 0 0=0:=fun x=>h7 (h6.2 x)
    have hv:Pth.parentV s.data.toList=(0,s.data.toList.take (la - 1)):=by
     unfold Pth.parentV
     rw [hf,if_neg (by decide),if_neg h1,if_neg h8,h4]
     simp
    have hx:s.extract 0 (la - 1)=mkB (s.data.toList.take (la - 1)):=eq_mkB (by
     rw [extract_list];simp)
    rw [hv]
    have HX:Hid (s.extract 0 (la - 1)=mkB (s.data.toList.take (la - 1))):=hx
    have hla:la≤s.size:=h5
    have hla1:1≤la:=by omega
    have hn:((n:Int) == 0)=false:=by simp;omega
    have hn1:((n:Int) == 1)=false:=by simp;omega
    have h24:s.size≤24:=by
     exact m56z
    have hxs:(s.extract 0 (la - 1)).size≤1048576:=by simp [ByteArray.size_extract];omega
    clear hv hf h1 h2 h4 h5 h6 h8 hx
    go_enter Tryz.func247,Tryz.ntmps247
    go_wp2_with fail
    refine (rp_some s _ n la hm hr).mono ?_
    refine n15z ?_
    intro w1 hb hz HB
    clear hb hr hm
    unfold rpShape
    refine n55z ?_
    intro hc hf hlt hal hfl
    go_wp2_with fail
    refine (clone_any (s.extract 0 (la - 1)) _ hxs).mono ?_
    refine n29z ?_
    intro w2 hb HB2
    clear hb hc hf
    rw [HX.out]
    obtain⟨hc,hf⟩:=Ext.cell HB2.out
    go_wp2
    exact bodyPost_ret (v:=tr (0,s.data.toList.take (la - 1))) (by simp [results,Tryz.results247,go_sem,tr,hc]) rfl ⟨rfl,((((Ext.refl w).alloc _).trans HB2.out).setCell (Nat.le_refl _) _).setCell (Nat.le_refl _) _⟩
end Go.Proofs.YtpdejinkmnhioaaGreatDoor
namespace Go.Proofs.YtpdejinkmnhioaaGreatDoor
open Go.RowKit
theorem fieldT_text (c:Int) (t:ByteArray) (w:World):(Instr.field 303 (.agg #[.int .i64 c,.string t]) 1).run Tryz.prog w = .ok (.string t) w:=by kernel_rfl
/-- The address of the node of path p, or nil. -/
def ptrV (b off:Nat) (zs:List Zn) (p:ByteArray):Value:=if Tre.has zs p=true then .pointer (some ⟨b,off+Tre.cut zs p.data.toList * 5,none⟩) else .pointer none
theorem ptrV_hit {b off:Nat} {zs:List Zn} {p:ByteArray} {k:Nat} (h:Tre.has zs p=true) (hk:Tre.cut zs p.data.toList=k):ptrV b off zs p = .pointer (some ⟨b,off+k * 5,none⟩):=by unfold ptrV;rw [if_pos h,hk]
theorem ptrV_miss {b off:Nat} {zs:List Zn} {p:ByteArray} (h:Tre.has zs p=false):ptrV b off zs p = .pointer none:=by unfold ptrV;rw [if_neg (by rw [h];simp)]
set_option maxHeartbeats 1000000 in
theorem findNode_any (b off cap:Nat) (zs:List Zn) (p:ByteArray) (w:World) (hS:NSlice w (.slice (some ⟨b,off,none⟩) zs.length cap) zs) (hU:Tre.Up zs) (hl:zs.length≤1048576) :
  Calls Tryz.prog 216 #[.slice (some ⟨b,off,none⟩) zs.length cap,.string p] w fun e w'=>e = .returned (ptrV b off zs p)∧Ext w w':=by
 have HL:Hid (∀ wx:World,Ext w wx→Calls Tryz.prog 246 #[.slice (some ⟨b,off,none⟩) zs.length cap,.string p] wx fun e w'=>e = .returned (.tuple #[.int .i64 (Tre.cut zs p.data.toList:Nat),.bool (Tre.has zs p)])∧Ext wx w'):=fun wx h=>placeOf_any _ zs p wx (hS.ext h) hU hl
 cases hh:Tre.has zs p with
 | true =>
  obtain⟨z,-,hz,-⟩:=Tre.has_at hU hh
  have hk:=(List.getElem?_eq_some_iff.1 hz).1
  rw [ptrV_hit hh rfl]
  rw [hh] at HL
  clear hz hU
  generalize Tre.cut zs p.data.toList=k at *
  go_enter Tryz.func216,Tryz.ntmps216
  go_wp2_with fail
  refine (HL.out _ (Ext.refl _)).mono ?_
  exact m22z
 | false =>
  rw [ptrV_miss hh]
  rw [hh] at HL
  clear hU
  generalize Tre.cut zs p.data.toList=k at *
  go_enter Tryz.func216,Tryz.ntmps216
  go_wp2_with fail
  refine (HL.out _ (Ext.refl _)).mono ?_
  exact m22z
namespace Tre
theorem parentV_ok {p:ByteArray} (h:Pth.faultI p.data.toList=0) (ht:¬ p.data.toList = [47]):Pth.parentV p.data.toList=(0,(par p).data.toList):=by
 unfold Pth.parentV par;rw [h,if_neg (by simp),if_neg ht,mkB_list]
theorem mkB_data (p:ByteArray):mkB p.data.toList=p:=by unfold mkB;simp
end Tre
set_option maxHeartbeats 1000000 in
set_option maxRecDepth 100000 in
theorem findParent_any (b off cap:Nat) (zs:List Zn) (p:ByteArray) (w:World) (hg:Gd w) (hp:Pth.faultI p.data.toList=0) (ht:¬ p.data.toList = [47]) (hS:NSlice w (.slice (some ⟨b,off,none⟩) zs.length cap) zs) (hU:Tre.Up zs) (hl:zs.length≤1048576) :
  Calls Tryz.prog 217 #[.slice (some ⟨b,off,none⟩) zs.length cap,.string p] w fun e w'=>e = .returned (ptrV b off zs (Tre.par p))∧Ext w w':=by
 have HL:Hid (∀ wx:World,Ext w wx→Calls Tryz.prog 216 #[.slice (some ⟨b,off,none⟩) zs.length cap,.string (Tre.par p)] wx fun e w'=>e = .returned (ptrV b off zs (Tre.par p))∧Ext wx w'):=fun wx h=>findNode_any b off cap zs (Tre.par p) wx (hS.ext h) hU hl
 have HP:Hid (Calls Tryz.prog 247 #[.string p] w fun e w'=>e = .returned (tr (0,(Tre.par p).data.toList))∧Ext w w'):=by
  have:=parentOf_any p w hg;rw [Tre.parentV_ok hp ht] at this;exact this
 unfold tr at HP
 simp only [Tre.mkB_data] at HP
 obtain⟨q,hq⟩:∃ q,ptrV b off zs (Tre.par p) = .pointer q:=by
  cases hh:Tre.has zs (Tre.par p) with
  | true=>exact⟨_,ptrV_hit hh rfl⟩
  | false=>exact⟨_,ptrV_miss hh⟩
 rw [hq] at HL ⊢
 clear hq
 generalize Tre.par p=pp at *
 have hft:=fieldT_text
 go_enter Tryz.func217,Tryz.ntmps217
 go_wp2_with fail
 refine HP.out.mono ?_
 rintro e w2 ⟨rfl,hb⟩
 have HB:Hid (Ext w w2):=hb
 clear hb
 go_wp2_with fail
 refine (HL.out _ ?_).mono ?_
 ·first | exact HB.out | exact HB.out.alloc _
 rintro e w3 ⟨rfl,hb⟩
 have HB3:Hid (Ext w w3):=by first | exact HB.out.trans hb | exact (HB.out.alloc _).trans hb
 clear hb
 go_wp2
 go_ret
 exact⟨rfl,HB3.out⟩
end Go.Proofs.YtpdejinkmnhioaaGreatDoor
