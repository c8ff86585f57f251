/- laws.FnExactApplyOp answers true at every argument, and leaves what was there as it was: the statement's row, and its tied card (the listed variables are as the program's text lays them). No other condition. -/
import Derived.Test.YtpdejinkmnhioaaGreatDoorAoLApplyOp
import Derived.Test.YtpdejinkmnhioaaGreatDoorAoJ48
namespace Go.Proofs.YtpdejinkmnhioaaGreatDoor
open Go.ChangeShapes Go.WideShapes Go.ChangeAt Go.RowKit
open Go.ChangeMaps (open_string shut_string)
set_option maxRecDepth 100000 in
theorem fnExactApplyOp_lifted (os:Os) (started:os.Started) (H:Type) (enc:TypeId × Value→H) :
  ReturnsInHanded {} Tryz.checked os 3 .any (fun w args=>(Rows.fnExactApplyOpSpec.pre enc Tryz.prog Tryz.f3 [] false w args∧laidMetH Tryz.prog Rows.fnExactApplyOpRow.laid w)∧sizedMet enc Tryz.prog Tryz.f3 (OpenSpec.ofChange Rows.fnExactApplyOpSpec) false w args)
   (Rows.fnExactApplyOpSpec.post enc Tryz.prog Tryz.f3 false true false false):=by
 refine returnsInHanded_of_change_and (C:=Tryz.checked) (X:=fun w _=>laidMetH Tryz.prog Rows.fnExactApplyOpRow.laid w) (fun _ _ _ hh h=>h.of_heap hh) own_knob started (by kernel_rfl) Tryz.func3
  (ChangeSpec.witness_at (enc:=enc) (C:=Tryz.checked) (os:=os) (X:=fun w _=>laidMetH Tryz.prog Rows.fnExactApplyOpRow.laid w) false ({ World.holding Tryz.prog os ⟨#[],#[],[]⟩ with heap:=((((World.holding Tryz.prog os ⟨#[],#[],[]⟩).heap.modify 3 (putAll #[.int .u8 0,.int .u8 1,.int .u8 28,.int .u8 2,.int .u8 29,.int .u8 14,.int .u8 24,.int .u8 3,.int .u8 30,.int .u8 22,.int .u8 20,.int .u8 15,.int .u8 25,.int .u8 17,.int .u8 4,.int .u8 8,.int .u8 31,.int .u8 27,.int .u8 13,.int .u8 23,.int .u8 21,.int .u8 19,.int .u8 16,.int .u8 7,.int .u8 26,.int .u8 12,.int .u8 18,.int .u8 6,.int .u8 11,.int .u8 5,.int .u8 10,.int .u8 9])).modify 4 (putAll #[.int .u8 0,.int .u8 1,.int .u8 56,.int .u8 2,.int .u8 57,.int .u8 49,.int .u8 28,.int .u8 3,.int .u8 61,.int .u8 58,.int .u8 42,.int .u8 50,.int .u8 38,.int .u8 29,.int .u8 17,.int .u8 4,.int .u8 62,.int .u8 47,.int .u8 59,.int .u8 36,.int .u8 45,.int .u8 43,.int .u8 51,.int .u8 22,.int .u8 53,.int .u8 39,.int .u8 33,.int .u8 30,.int .u8 24,.int .u8 18,.int .u8 12,.int .u8 5,.int .u8 63,.int .u8 55,.int .u8 48,.int .u8 27,.int .u8 60,.int .u8 41,.int .u8 37,.int .u8 16,.int .u8 46,.int .u8 35,.int .u8 44,.int .u8 21,.int .u8 52,.int .u8 32,.int .u8 23,.int .u8 11,.int .u8 54,.int .u8 26,.int .u8 40,.int .u8 15,.int .u8 34,.int .u8 20,.int .u8 31,.int .u8 10,.int .u8 25,.int .u8 14,.int .u8 19,.int .u8 9,.int .u8 13,.int .u8 8,.int .u8 7,.int .u8 6])).modify 2 (putAll #[.int .u64 1,.int .u64 10,.int .u64 100,.int .u64 1000,.int .u64 10000,.int .u64 100000,.int .u64 1000000,.int .u64 10000000,.int .u64 100000000,.int .u64 1000000000,.int .u64 10000000000,.int .u64 100000000000,.int .u64 1000000000000,.int .u64 10000000000000,.int .u64 100000000000000,.int .u64 1000000000000000,.int .u64 10000000000000000,.int .u64 100000000000000000,.int .u64 1000000000000000000,.int .u64 10000000000000000000])).modify 0 (putFirst errH) } : World) #[.agg #[.slice none 0 0,.slice none 0 0,.int .i64 0,.slice none 0 0],.int .i64 0,.agg #[.int .i64 0,.string ByteArray.empty,.int .i64 0,.int .i64 0,.bool false,.bool false]] 8 rfl (by kernel_rfl) (by kernel_rfl) (by kernel_rfl) (by kernel_rfl) (by kernel_rfl) (laidMetH_of_parts (laidMet_of_run' 8 (by kernel_rfl) (by kernel_rfl)) (by kernel_rfl))) ?_
 intro W base args ds gs before hval0 hW _ _ hL _
 have hval:∀ (j:Nat) t v,Tryz.f3.params[j]?=some t→args[j]?=some v→Value.okWide Tryz.prog W .any base t v:=hval0
 have hW':=hW
 obtain⟨p,q,hA0,hV0,rfl,hfz,hnd⟩:=hW
 have hA:DataW.TrodAll enc Tryz.prog W 0 (fun _=>true) true Tryz.f3.params.toList args.toList ds p:=hA0
 have hV:DataW.TrodVars enc Tryz.prog W (fun _=>true) [] gs q:=hV0
 rw [Tryz.params3] at hA hval
 obtain⟨v0,vs0,d0,ds0,p0,q0,ha0,rfl,rfl,h0,r0⟩:=trodAll_cons hA
 obtain⟨v1,vs1,d1,ds1,p1,q1,rfl,rfl,rfl,h1,r1⟩:=trodAll_cons r0
 obtain⟨v2,vs2,d2,ds2,p2,q2,rfl,rfl,rfl,h2,r2⟩:=trodAll_cons r1
 obtain⟨rfl,rfl,rfl⟩:=trodAll_nil r2
 obtain rfl:args = #[v0,v1,v2]:=by cases args;simp_all
 have k0:=h0
 have lt0:∀ x ∈ p0,x.block < W.heap.size:=by obtain⟨m,hm⟩:=k0;exact DataW.trod_lt m _ _ _ hm
 have k1:=h1
 have lt1:∀ x ∈ p1,x.block < W.heap.size:=by obtain⟨m,hm⟩:=k1;exact DataW.trod_lt m _ _ _ hm
 have k2:=h2
 have lt2:∀ x ∈ p2,x.block < W.heap.size:=by obtain⟨m,hm⟩:=k2;exact DataW.trod_lt m _ _ _ hm
 have e0:=okWide_struct Tryz.underlying26 (hval 0 26 v0 rfl rfl)
 obtain⟨z0,xn0,xs0,xm0,rfl,hn0,hz0⟩:=open_state h0 e0
 obtain⟨n1,rfl,rfl,rfl,hs1⟩:=open_int Tryz.underlying2 (hval 1 2 v1 rfl rfl) h1
 have e2:=okWide_struct Tryz.underlying28 (hval 2 28 v2 rfl rfl)
 obtain⟨z2,rfl,hz2⟩:=open_opV h2 e2
 have hg:=gd4 hL
 obtain⟨rfl,rfl⟩:gs = []∧q = []:=by
  cases gs with
  | nil=>exact⟨rfl,hV⟩
  | cons g r=>exact absurd hV (by intro h;cases h)
 refine (lawApplyOp z0 xn0 xs0 xm0 n1 z2 W hg hn0 hz0 hz2).mono fun e W' ⟨he,hb⟩=>?_
 subst he
 exact⟨_,rfl,_,_,_,[],_,[],hW',trodAll_mk1 (shut_bool Tryz.underlying4 _),(trodAll_cons_mk (Below.trod laid_outZ (by kernel_rfl) (of_decide_eq_true (by kernel_rfl)) k0 hb lt0) (trodAll_cons_mk (Below.trod laid_outZ (by kernel_rfl) (of_decide_eq_true (by kernel_rfl)) k1 hb lt1) (trodAll_cons_mk (Below.trod laid_outZ (by kernel_rfl) (of_decide_eq_true (by kernel_rfl)) k2 hb lt2) trodAll_mk0))),rfl,hb.kept _,fun h=>by cases h⟩
set_option maxRecDepth 100000 in
theorem fnExactApplyOp_k0 : Rows.fnExactApplyOpRow.wf (OpenSpec.ofChange Rows.fnExactApplyOpSpec) = true := by kernel_rfl
set_option maxRecDepth 100000 in
theorem fnExactApplyOp_k1 : laidOutB Tryz.pinned.checked.prog = true := by kernel_rfl
set_option maxRecDepth 100000 in
theorem fnExactApplyOp_k2 : mapsRowed Tryz.pinned.checked.prog = true := by kernel_rfl
set_option maxRecDepth 100000 in
theorem fnExactApplyOp_k3 : Tryz.f3.params.all (Tryz.pinned.checked.prog.readableRec ·) = true := by kernel_rfl
set_option maxRecDepth 100000 in
theorem fnExactApplyOp_k4 : namedTie Tryz.pinned.checked.prog Rows.fnExactApplyOpRow.named Rows.fnExactApplyOpSpec.vars = true := by kernel_rfl
set_option maxRecDepth 100000 in
theorem fnExactApplyOp_k5 : (Rows.fnExactApplyOpRow.stops == []) = true := by kernel_rfl
set_option maxRecDepth 100000 in
theorem fnExactApplyOp_k6 : (Tryz.pinned.checked.prog.stops == []) = true := by kernel_rfl
set_option maxRecDepth 100000 in
theorem fnExactApplyOp_k7 : (Rows.fnExactApplyOpRow.knobs == []) = true := by kernel_rfl
set_option maxRecDepth 100000 in
theorem fnExactApplyOp_k8 : (Tryz.pinned.checked.prog.stopKnobs == []) = true := by kernel_rfl
set_option maxRecDepth 100000 in
theorem fnExactApplyOp_k9 : (Rows.fnExactApplyOpRow.inPlace == Tryz.pinned.checked.prog.inPlace 3) = true := by kernel_rfl
set_option maxRecDepth 100000 in
theorem fnExactApplyOp_k10 : (Rows.fnExactApplyOpRow.unfollowed == Tryz.pinned.checked.prog.unfollowed 3) = true := by kernel_rfl
set_option maxRecDepth 100000 in
theorem fnExactApplyOp_k11 : (Rows.fnExactApplyOpRow.recurses == Tryz.pinned.checked.prog.recurses 3) = true := by kernel_rfl
set_option maxRecDepth 100000 in
theorem fnExactApplyOp_k12 : (Rows.fnExactApplyOpRow.named == Tryz.pinned.checked.prog.varsNamed 3) = true := by kernel_rfl
set_option maxRecDepth 100000 in
theorem fnExactApplyOp_k13 : (Rows.fnExactApplyOpRow.maps == (Tryz.f3.params.toList ++ Rows.fnExactApplyOpSpec.plain.varTypes Tryz.pinned.checked.prog).any (Tryz.pinned.checked.prog.mapsRec ·)) = true := by kernel_rfl
set_option maxRecDepth 100000 in
theorem fnExactApplyOp_k14 : (Rows.fnExactApplyOpRow.ifaces == (Tryz.f3.params.toList ++ Rows.fnExactApplyOpSpec.plain.varTypes Tryz.pinned.checked.prog).any (Tryz.pinned.checked.prog.ifacesRec ·)) = true := by kernel_rfl
set_option maxRecDepth 100000 in
theorem fnExactApplyOp_k15 : (Rows.fnExactApplyOpRow.mapsOut == Tryz.pinned.checked.prog.mapsAmong Tryz.f3.resultTypes.toList) = true := by kernel_rfl
set_option maxRecDepth 100000 in
theorem fnExactApplyOp_k16 : (Rows.fnExactApplyOpRow.loops == (Tryz.f3.params.toList ++ Rows.fnExactApplyOpSpec.plain.varTypes Tryz.pinned.checked.prog).any (Tryz.pinned.checked.prog.loopsFrom ·)) = true := by kernel_rfl
set_option maxRecDepth 100000 in
theorem fnExactApplyOp_k17 : (Rows.fnExactApplyOpRow.wideKeys == (Tryz.f3.params.toList ++ Rows.fnExactApplyOpSpec.plain.varTypes Tryz.pinned.checked.prog ++ Tryz.f3.resultTypes.toList).any (Tryz.pinned.checked.prog.wideKeysFrom ·)) = true := by kernel_rfl
set_option maxRecDepth 100000 in
theorem fnExactApplyOp_k18 : Rows.fnExactApplyOpSpec.vars.all (Tryz.pinned.checked.prog.varReadable ·) = true := by kernel_rfl
set_option maxRecDepth 100000 in
theorem fnExactApplyOp_k19 : Tryz.f3.resultTypes.all (fun t => Tryz.pinned.checked.prog.readableRec t && decide (t < Tryz.pinned.checked.prog.types.size)) = true := by kernel_rfl
set_option maxRecDepth 100000 in
theorem fnExactApplyOp_k20 : (Rows.fnExactApplyOpRow.ifacesOut == Tryz.f3.resultTypes.toList.any (Tryz.pinned.checked.prog.ifacesRec ·)) = true := by kernel_rfl
set_option maxRecDepth 100000 in
theorem fnExactApplyOp_k21 : (Rows.fnExactApplyOpRow.loopsOut == Tryz.f3.resultTypes.toList.any (Tryz.pinned.checked.prog.loopsFrom ·)) = true := by kernel_rfl
set_option maxRecDepth 100000 in
theorem fnExactApplyOp_k22 : (Rows.fnExactApplyOpRow.plainKeys == Tryz.pinned.checked.prog.plainKeys) = true := by kernel_rfl
set_option maxRecDepth 100000 in
theorem fnExactApplyOp_k23 : Rows.fnExactApplyOpRow.shortTexts.isNone = true := by kernel_rfl
set_option maxRecDepth 100000 in
theorem fnExactApplyOp_k24 : Tryz.pinned.checked.prog.stopsHeard = true := by kernel_rfl
set_option maxRecDepth 100000 in
theorem fnExactApplyOp_k25 : Tryz.pinned.checked.prog.mayEnter = true := by kernel_rfl
set_option maxRecDepth 100000 in
theorem fnExactApplyOp_k26 : (Rows.fnExactApplyOpRow.lifted == Tryz.pinned.checked.prog.liftsFinal) = true := by kernel_rfl
set_option maxRecDepth 100000 in
theorem fnExactApplyOp_k27 : (Tryz.pinned.checked.prog.make == some Rows.fnExactApplyOpRow.make) = true := by kernel_rfl
set_option maxRecDepth 100000 in
theorem fnExactApplyOp_k29 : (Rows.fnExactApplyOpRow.pinned == Rows.fnExactApplyOpRow.pinnedBy) = true := by kernel_rfl
set_option maxRecDepth 100000 in
theorem fnExactApplyOp_k30 : (Rows.fnExactApplyOpRow.veiled == (Tryz.f3.params.toList ++ Rows.fnExactApplyOpSpec.plain.varTypes Tryz.pinned.checked.prog ++ Tryz.f3.resultTypes.toList).any (Tryz.pinned.checked.prog.veiledRec ·)) = true := by kernel_rfl
set_option maxRecDepth 100000 in
theorem fnExactApplyOp_k31 : Rows.fnExactApplyOpRow.veiledFits Tryz.pinned.checked.prog Tryz.f3.params.toList (Tryz.f3.params.toList ++ Rows.fnExactApplyOpSpec.plain.varTypes Tryz.pinned.checked.prog ++ Tryz.f3.resultTypes.toList) = true := by kernel_rfl
theorem andT {a b : Bool} (ha : a = true) (hb : b = true) : (a && b) = true := by rw [ha, hb]; rfl
set_option maxHeartbeats 2000000 in
set_option maxRecDepth 100000 in
theorem fnExactApplyOp_facts : joinedFacts Tryz.pinned.checked.prog 3 Tryz.f3 Rows.fnExactApplyOpSpec Rows.fnExactApplyOpRow = true := by
  unfold joinedFacts
  exact (andT (andT (andT (andT (andT (andT (andT (andT (andT (andT (andT (andT (andT (andT (andT (andT (andT (andT (andT (andT (andT (andT (andT (andT (andT (andT (andT (andT (andT (andT (andT fnExactApplyOp_k0 fnExactApplyOp_k1) fnExactApplyOp_k2) fnExactApplyOp_k3) fnExactApplyOp_k4) fnExactApplyOp_k5) fnExactApplyOp_k6) fnExactApplyOp_k7) fnExactApplyOp_k8) fnExactApplyOp_k9) fnExactApplyOp_k10) fnExactApplyOp_k11) fnExactApplyOp_k12) fnExactApplyOp_k13) fnExactApplyOp_k14) fnExactApplyOp_k15) fnExactApplyOp_k16) fnExactApplyOp_k17) fnExactApplyOp_k18) fnExactApplyOp_k19) fnExactApplyOp_k20) fnExactApplyOp_k21) fnExactApplyOp_k22) fnExactApplyOp_k23) fnExactApplyOp_k24) fnExactApplyOp_k25) fnExactApplyOp_k26) fnExactApplyOp_k27) (by kernel_rfl)) fnExactApplyOp_k29) fnExactApplyOp_k30) fnExactApplyOp_k31)
theorem fnExactApplyOp_said:Rows.FnExactApplyOpSaid :=
 OpenClaim.holds_of_wide 3 Tryz.f3 rfl rfl rfl rfl rfl rfl rfl ⟨rfl,rfl,rfl,rfl,rfl⟩ rfl rfl rfl rfl rfl (by kernel_rfl) Tryz.func3 fnExactApplyOp_facts
  (of_decide_eq_true (by kernel_rfl)) (by unfold Func.isWrapper;rw [if_neg (of_decide_eq_false (by kernel_rfl))];exact⟨rfl,rfl⟩)
  (fun os started H enc _=>fnExactApplyOp_lifted os started H enc)
theorem fnExactApplyOp_plain (f : FuncId) (fn : Func) (hf : Tryz.pinned.checked.prog.funcNamed "loop.example/g00369/laws.FnExactApplyOp" = some f) (hfn : Tryz.pinned.checked.prog.funcs[f]? = some fn) :
  true = Tryz.pinned.checked.prog.looks []∧∀ (j:Nat) t,fn.params[j]?=some t→Tryz.pinned.checked.prog.wantsStandIn t=false:=by
 obtain rfl : f = 3 := Option.some.inj ((show Tryz.prog.funcNamed "loop.example/g00369/laws.FnExactApplyOp" = some 3 by kernel_rfl).symm.trans hf) |>.symm
 obtain rfl:fn = Tryz.f3:=(Option.some.inj (Tryz.func3.symm.trans hfn)).symm
 refine⟨by kernel_rfl,fun j t ht=>?_⟩
 rw [Tryz.params3] at ht
 have w0 : Tryz.prog.wantsStandIn 26=false:=by kernel_rfl
 have w1 : Tryz.prog.wantsStandIn 2=false:=by kernel_rfl
 have w2 : Tryz.prog.wantsStandIn 28=false:=by kernel_rfl
 match j,ht with
 | 0,ht=>(obtain rfl:_=t:=Option.some.inj ht);exact w0
 | 1,ht=>(obtain rfl:_=t:=Option.some.inj ht);exact w1
 | 2,ht=>(obtain rfl:_=t:=Option.some.inj ht);exact w2
 | j+3,ht=>simp at ht
theorem fnExactApplyOp_card:Rows.FnExactApplyOpCardSaid :=
 Claim7.holds_tied_plain_at .later [] _ _ _ _ fnExactApplyOp_said (fun _ h=>by cases h) (by kernel_rfl) (fun _ h=>by cases h) fnExactApplyOp_row_tie rfl ⟨rfl,rfl⟩ (by kernel_rfl) rfl fnExactApplyOp_plain (by kernel_rfl)
#print axioms fnExactApplyOp_card
end Go.Proofs.YtpdejinkmnhioaaGreatDoor
