/- W3, As, in one text. -/
import Derived.Test.YtilinjjimiiplaaGreatDoorKqJ10
import Derived.Test.YtilinjjimiiplaaGreatDoorProg
import Derived.WalkKit
import Derived.LaidEql
import Derived.RowKitTokens
namespace Go.Proofs.YtilinjjimiiplaaGreatDoor
open Go.RowKit
def rpMany : Value := .tuple #[.agg #[.int .i64 0, .int .i64 0], .iface 113 (.agg #[.int .i64 2])]
def rpText : Value := .tuple #[.agg #[.int .i64 0, .int .i64 0], .iface 113 (.agg #[.int .i64 5])]
def rpShape (n la : Nat) : Value := .tuple #[.agg #[.int .i64 n, .int .i64 la], .nilIface]
theorem below2 (w : World) (o o' : Obj) : Below w.heap.size w ((w.alloc o).alloc o') := ((Below.refl _ _).alloc (Nat.le_refl _) _).alloc (by simp) _

set_option maxHeartbeats 1000000 in
set_option maxRecDepth 100000 in
theorem readPath_many (s : ByteArray) (w : World) (hm : Pth.many s.data.toList = true) :
    Calls Tryz.prog 59 #[.string s] w fun e w' => e = .returned rpMany ∧ Below w.heap.size w w' := by
  go_enter Tryz.func59, Tryz.ntmps59
  go_wp2
  go_step3
  go_wp2_with (first | (go_at_call 82; refine (tooMany_any _ _).mono ?_; rintro e w' ⟨rfl, rfl⟩))
  rw [Exit.noGoto_ret]
  exact bodyPost_ret (v := rpMany) (by simp [results, Tryz.results59, go_sem, rpMany]) rfl ⟨rfl, below2 _ _ _⟩

set_option maxHeartbeats 4000000 in
set_option maxRecDepth 100000 in
theorem readPath_few (s : ByteArray) (w : World) (hm : Pth.many s.data.toList = false) :
    Calls Tryz.prog 59 #[.string s] w fun e w' => ((Pth.rd s.data.toList = none ∧ e = .returned rpText) ∨ (∃ n la, Pth.rd s.data.toList = some (n, la) ∧ e = .returned (rpShape n la))) ∧ Below w.heap.size w w' := by
  have h24 : s.size ≤ 24 := by
    unfold Pth.many at hm
    simp only [Bool.or_eq_false_iff, decide_eq_false_iff_not, len_eq] at hm
    omega
  go_enter Tryz.func59, Tryz.ntmps59
  go_wp2
  refine wp_scope4 (Frm s w (Rwrong s.data.toList)) (Frm s w (Rslash s.data.toList)) (Frm s w (Rdone s.data.toList)) (Frm s w (Rname s.data.toList))
    (fun l a _ => match l with | 3 => 4 * (s.size - (intOf (a.tmps.getD 5 undef)).toNat) + 2 | 1 => 4 * (s.size - (intOf (a.tmps.getD 5 undef)).toNat) + 1 | _ => 0) rfl rfl rfl rfl ?p0 ?p2 ?p3 ?p1 ?first
  case p0 =>
    rintro a w' ⟨at_, last, names, u1, u6, u7, u8, u9, u10, u11, u12, u13, u14, u15, u16, u17, u18, u19, u20, u21, u22, u23, u24, u25, u26, u27, u28, u29, u30, u31, u32, u33, u34, u35, u36, u37, u38, u39, u40, u41, u42, u43, u44, u45, u46, u47, u48, u49, u50, u51, u52, u53, u54, u55, u56, u57, u58, u59, u60, u61, u62, u63, rfl, rfl,  hr⟩
    go_wp2
    rw [jumped_ret]
    exact bodyPost_ret (v := rpText) (by simp [results, Tryz.results59, go_sem, rpText]) rfl ⟨.inl ⟨hr, rfl⟩, below2 _ _ _⟩
  case p2 =>
    rintro a w' ⟨at_, last, names, u1, u6, u7, u8, u9, u10, u11, u12, u13, u14, u15, u16, u17, u18, u19, u20, u21, u22, u23, u24, u25, u26, u27, u28, u29, u30, u31, u32, u33, u34, u35, u36, u37, u38, u39, u40, u41, u42, u43, u44, u45, u46, u47, u48, u49, u50, u51, u52, u53, u54, u55, u56, u57, u58, u59, u60, u61, u62, u63, rfl, rfl,  hr⟩
    go_wp2
    rw [jumped_ret]
    exact bodyPost_ret (v := rpShape names last) (by simp [results, Tryz.results59, go_sem, rpShape]) rfl ⟨.inr ⟨_, _, hr, rfl⟩, below2 _ _ _⟩
  case p3 =>
    rintro a w' ⟨at_, last, names, u1, u6, u7, u8, u9, u10, u11, u12, u13, u14, u15, u16, u17, u18, u19, u20, u21, u22, u23, u24, u25, u26, u27, u28, u29, u30, u31, u32, u33, u34, u35, u36, u37, u38, u39, u40, u41, u42, u43, u44, u45, u46, u47, u48, u49, u50, u51, u52, u53, u54, u55, u56, u57, u58, u59, u60, u61, u62, u63, rfl, rfl,  hr⟩
    have ra : at_ ≤ s.size := hr.1
    have rb : last ≤ at_ := hr.2.1
    by_cases h1 : at_ < s.size
    · by_cases h2 : at_ < last + 8
      · cases h3 : nbI (s[at_].toNat : Int)
        · by_cases h5 : at_ = last
          · subst h5
            go_wp2_with (first | (go_at_call 83; refine (isNameByte_any _ _).mono ?_; rintro e w' ⟨rfl, rfl⟩))
            go_step3
            exact And.intro (show Frm s w (Rwrong s.data.toList) _ _ from ⟨at_, at_, names, _, _, _, _, _, _, _, _, _, _, _, _, _, _, _, _, _, _, _, _, _, _, _, _, _, _, _, _, _, _, _, _, _, _, _, _, _, _, _, _, _, _, _, _, _, _, _, _, _, _, _, _, _, _, _, _, _, _, _, rfl, rfl, name_none s at_ names hr (by rintro ⟨_, _, _, x⟩; rw [h3] at x; cases x)⟩) (by simp [intOf])
          · have h6 : ((at_ : Int) == (last : Int)) = false := by simp; omega
            go_wp2_with (first | (go_at_call 83; refine (isNameByte_any _ _).mono ?_; rintro e w' ⟨rfl, rfl⟩))
            go_step3
            exact And.intro (show Frm s w (Rslash s.data.toList) _ _ from ⟨at_, last, names, _, _, _, _, _, _, _, _, _, _, _, _, _, _, _, _, _, _, _, _, _, _, _, _, _, _, _, _, _, _, _, _, _, _, _, _, _, _, _, _, _, _, _, _, _, _, _, _, _, _, _, _, _, _, _, _, _, _, _, rfl, rfl, name_slash s at_ last names h1 h5 hr (fun _ => h3)⟩) (by simp [intOf])
        · go_wp2_with (first | (go_at_call 83; refine (isNameByte_any _ _).mono ?_; rintro e w' ⟨rfl, rfl⟩))
          go_step3
          exact And.intro (show Frm s w (Rname s.data.toList) _ _ from ⟨at_ + 1, last, names, _, _, _, _, _, _, _, _, _, _, _, _, _, _, _, _, _, _, _, _, _, _, _, _, _, _, _, _, _, _, _, _, _, _, _, _, _, _, _, _, _, _, _, _, _, _, _, _, _, _, _, _, _, _, _, _, _, _, _, rfl, rfl, name_on s at_ last names h1 h2 h3 hr⟩) (by simp [intOf]; omega)
      · have h5 : ¬ at_ = last := by omega
        go_wp2_with (first | (go_at_call 83; refine (isNameByte_any _ _).mono ?_; rintro e w' ⟨rfl, rfl⟩))
        go_step3
        exact And.intro (show Frm s w (Rslash s.data.toList) _ _ from ⟨at_, last, names, _, _, _, _, _, _, _, _, _, _, _, _, _, _, _, _, _, _, _, _, _, _, _, _, _, _, _, _, _, _, _, _, _, _, _, _, _, _, _, _, _, _, _, _, _, _, _, _, _, _, _, _, _, _, _, _, _, _, _, rfl, rfl, name_slash s at_ last names h1 h5 hr (fun x => absurd x h2)⟩) (by simp [intOf])
    · by_cases h5 : at_ = last
      · subst h5
        go_wp2_with (first | (go_at_call 83; refine (isNameByte_any _ _).mono ?_; rintro e w' ⟨rfl, rfl⟩))
        go_step3
        exact And.intro (show Frm s w (Rwrong s.data.toList) _ _ from ⟨at_, at_, names, _, _, _, _, _, _, _, _, _, _, _, _, _, _, _, _, _, _, _, _, _, _, _, _, _, _, _, _, _, _, _, _, _, _, _, _, _, _, _, _, _, _, _, _, _, _, _, _, _, _, _, _, _, _, _, _, _, _, _, rfl, rfl, name_none s at_ names hr (fun x => h1 x.1)⟩) (by simp [intOf])
      · have h6 : ((at_ : Int) == (last : Int)) = false := by simp; omega
        go_wp2_with (first | (go_at_call 83; refine (isNameByte_any _ _).mono ?_; rintro e w' ⟨rfl, rfl⟩))
        go_step3
        go_wp2
        rw [jumped_ret]
        exact bodyPost_ret (v := rpShape names last) (by simp [results, Tryz.results59, go_sem, rpShape]) rfl ⟨.inr ⟨_, _, name_done s at_ last names h1 h5 hr, rfl⟩, below2 _ _ _⟩
  case p1 =>
    rintro a w' ⟨at_, last, names, u1, u6, u7, u8, u9, u10, u11, u12, u13, u14, u15, u16, u17, u18, u19, u20, u21, u22, u23, u24, u25, u26, u27, u28, u29, u30, u31, u32, u33, u34, u35, u36, u37, u38, u39, u40, u41, u42, u43, u44, u45, u46, u47, u48, u49, u50, u51, u52, u53, u54, u55, u56, u57, u58, u59, u60, u61, u62, u63, rfl, rfl,  hr⟩ hp3
    have ra : at_ ≤ s.size := hr.1
    have rn : names ≤ at_ := hr.2.1
    by_cases h1 : at_ < s.size
    · have e1 : ((at_ : Int) == (s.size : Int)) = false := by simp; omega
      by_cases h2 : s[at_] = 47
      · by_cases h3 : s.size = 1
        · have H3 : Hid (s.size = 1) := h3
          have e3 : ((s.size : Int) == 1) = true := by simp [h3]
          clear h3
          go_wp2
          go_step3
          exact And.intro (show Frm s w (Rdone s.data.toList) _ _ from ⟨at_ + 1, last, names, _, _, _, _, _, _, _, _, _, _, _, _, _, _, _, _, _, _, _, _, _, _, _, _, _, _, _, _, _, _, _, _, _, _, _, _, _, _, _, _, _, _, _, _, _, _, _, _, _, _, _, _, _, _, _, _, _, _, _, rfl, rfl, slash_top s at_ last names hr h1 h2 H3.out⟩) (by simp [intOf])
        · have e3 : ((s.size : Int) == 1) = false := by simp; omega
          have HP : Hid _ := hp3
          clear hp3
          go_wp2
          go_step3
          rename_i hK
          refine hK _ _ ?_
          refine HP.out _ _ ?_ ?_
          · exact ⟨at_ + 1, at_ + 1, names + 1, _, _, _, _, _, _, _, _, _, _, _, _, _, _, _, _, _, _, _, _, _, _, _, _, _, _, _, _, _, _, _, _, _, _, _, _, _, _, _, _, _, _, _, _, _, _, _, _, _, _, _, _, _, _, _, _, _, _, _, rfl, rfl, slash_name s at_ last names hr h1 h2 h3⟩
          · simp [intOf]; omega
      · have e2 : ((s[at_].toNat : Int) != 47) = true := by
          rw [bne_iff_ne]; intro x; apply h2; apply UInt8.toNat_inj.1; show s[at_].toNat = 47; omega
        go_wp2
        go_step3
        exact And.intro (show Frm s w (Rwrong s.data.toList) _ _ from ⟨at_, last, names, _, _, _, _, _, _, _, _, _, _, _, _, _, _, _, _, _, _, _, _, _, _, _, _, _, _, _, _, _, _, _, _, _, _, _, _, _, _, _, _, _, _, _, _, _, _, _, _, _, _, _, _, _, _, _, _, _, _, _, rfl, rfl, slash_wrong s at_ last names hr (fun _ => h2) (.inr h1)⟩) (by simp [intOf])
    · have h2 : at_ = s.size := by omega
      have e1 : ((at_ : Int) == (s.size : Int)) = true := by simp [h2]
      have H2 : Hid (at_ = s.size) := h2
      clear h2
      go_wp2
      go_step3
      exact And.intro (show Frm s w (Rwrong s.data.toList) _ _ from ⟨at_, last, names, _, _, _, _, _, _, _, _, _, _, _, _, _, _, _, _, _, _, _, _, _, _, _, _, _, _, _, _, _, _, _, _, _, _, _, _, _, _, _, _, _, _, _, _, _, _, _, _, _, _, _, _, _, _, _, _, _, _, _, rfl, rfl, slash_wrong s at_ last names hr (fun x => absurd x h1) (.inl H2.out)⟩) (by simp [intOf])
  case first =>
    intro h1
    have HP : Hid _ := h1
    clear h1
    go_wp2_with (first | (go_at_call 82; refine (tooMany_any _ _).mono ?_; rintro e w' ⟨rfl, rfl⟩))
    go_step3
    rename_i hK
    refine hK _ _ ?_
    refine HP.out _ _ ?_
    exact ⟨0, 0, 0, _, _, _, _, _, _, _, _, _, _, _, _, _, _, _, _, _, _, _, _, _, _, _, _, _, _, _, _, _, _, _, _, _, _, _, _, _, _, _, _, _, _, _, _, _, _, _, _, _, _, _, _, _, _, _, _, _, _, _, rfl, rfl, slash_start s.data.toList⟩
end Go.Proofs.YtilinjjimiiplaaGreatDoor
namespace Go.Proofs.YtilinjjimiiplaaGreatDoor
open Go.RowKit Go.Extern
/-- What errors.errorType holds: the handle of the type error. -/
def errH : Value := .iface 137 (.agg #[.pointer (some ⟨2, 93, none⟩)])

theorem as_nil (t : Value) (w : World) :
    Calls Tryz.prog 84 #[.nilIface, t] w fun e w' => e = .returned (.bool false) ∧ w' = w := by
  go_enter Tryz.func84, Tryz.ntmps84
  go_wp2
  go_ret
  exact ⟨rfl, rfl⟩

theorem asF.valueOfP (t : Addr) (w : World) : (ReflectliteValue.unpack (.iface 116 (.pointer (some t)))).run Tryz.prog w
    = .ok (.agg #[.pointer (some ⟨2, 116, none⟩), .pointer (some ⟨w.heap.size, 0, none⟩), .int .u64 150]) (w.alloc (.cells #[.pointer (some t)] 116)) := by kernel_rfl
theorem asF.typeP (a : Addr) (w : World) : (ReflectliteValue.methodAny (ReflectliteValue.valueError "reflectlite.Value.Type" 0) (fun t _ _ _ => ReflectliteType.toType t) #[.agg #[.pointer (some ⟨2, 116, none⟩), .pointer (some a), .int .u64 150]]).run Tryz.prog w
    = .ok (.iface 137 (.agg #[.pointer (some ⟨2, 116, none⟩)])) w := by kernel_rfl
theorem asF.methodKind (h : Value) (w : World) : (Go.method 282 137 (.agg #[h]) "Kind").run Tryz.prog w = .ok (120, h) w := by kernel_rfl
theorem asF.kindP (w : World) : ((ReflectliteType.abiMethod fun t => (fun a : Nat => Value.int IntKind.u8 (a : Int)) <$> Rtype.kind t) #[.pointer (some ⟨2, 116, none⟩)]).run Tryz.prog w = .ok (.int .u8 22) w := by kernel_rfl
theorem asF.kindE (w : World) : ((ReflectliteType.abiMethod fun t => (fun a : Nat => Value.int IntKind.u8 (a : Int)) <$> Rtype.kind t) #[.pointer (some ⟨2, 113, none⟩)]).run Tryz.prog w = .ok (.int .u8 25) w := by kernel_rfl

theorem rlm (z : Sem Value) (f : TypeId → Addr → Nat → Nat → Sem Value) (v : Value) :
    ReflectliteValue.method z f #[v] = (do match ← ReflectliteValue.parts v with | none => z | some (t, a, fl) => f t a fl (fl % 32)) := rfl
theorem asF.partsP (a : Addr) (w : World) : (ReflectliteValue.parts (.agg #[.pointer (some ⟨2, 116, none⟩), .pointer (some a), .int .u64 150])).run Tryz.prog w = .ok (some (116, a, 150)) w := by kernel_rfl
theorem asF.isNilP (a p : Addr) (W : World) (ha : W.cell? a = some (.pointer (some p))) :
    (ReflectliteValue.method (ReflectliteValue.valueError "reflectlite.Value.IsNil" 0) ReflectliteValue.isNil #[.agg #[.pointer (some ⟨2, 116, none⟩), .pointer (some a), .int .u64 150]]).run Tryz.prog W = .ok (.bool false) W := by
  rw [rlm]
  simp only [Sem.run_bind, asF.partsP, Result.andThen]
  simp [ReflectliteValue.isNil, loadVar, isAgg, underlying, Tryz.underlying116, ha, Result.andThen]

theorem asF.methodElem (h : Value) (w : World) : (Go.method 282 137 (.agg #[h]) "Elem").run Tryz.prog w = .ok (130, .agg #[h]) w := by kernel_rfl
theorem asF.methodImplements (h : Value) (w : World) : (Go.method 282 137 (.agg #[h]) "Implements").run Tryz.prog w = .ok (131, .agg #[h]) w := by kernel_rfl
theorem asF.methodAssignableTo (h : Value) (w : World) : (Go.method 282 137 (.agg #[h]) "AssignableTo").run Tryz.prog w = .ok (128, .agg #[h]) w := by kernel_rfl
theorem asF.elemP (w : World) : (ReflectliteType.method ReflectliteType.elem #[.agg #[.pointer (some ⟨2, 116, none⟩)]]).run Tryz.prog w = .ok (.iface 137 (.agg #[.pointer (some ⟨2, 113, none⟩)])) w := by kernel_rfl
theorem asF.implementsE (w : World) : (ReflectliteType.relation "Implements" ReflectliteType.implements_ #[.agg #[.pointer (some ⟨2, 113, none⟩)], .iface 137 (.agg #[.pointer (some ⟨2, 93, none⟩)])]).run Tryz.prog w = .ok (.bool true) w := by kernel_rfl
theorem asF.typeOfE (v : Value) (w : World) : (ReflectliteType.typeOf #[.iface 113 v]).run Tryz.prog w = .ok (.iface 137 (.agg #[.pointer (some ⟨2, 113, none⟩)])) w := by kernel_rfl
theorem asF.assignableE (w : World) : (ReflectliteType.relation "AssignableTo" ReflectliteType.assignableTo #[.agg #[.pointer (some ⟨2, 113, none⟩)], .iface 137 (.agg #[.pointer (some ⟨2, 113, none⟩)])]).run Tryz.prog w = .ok (.bool true) w := by kernel_rfl
theorem asF.valueOfE (c : Value) (w : World) : (ReflectliteValue.unpack (.iface 113 (.agg #[c]))).run Tryz.prog w
    = .ok (.agg #[.pointer (some ⟨2, 113, none⟩), .pointer (some ⟨w.heap.size, 0, none⟩), .int .u64 153]) (w.alloc (.cells #[c] 113)) := by kernel_rfl

theorem asF.elemOfP (w : World) : (Rtype.elem? 116).run Tryz.prog w = .ok (some 113) w := by kernel_rfl
theorem asF.mkE (p : Addr) (w : World) : (ReflectliteValue.mk 113 p ReflectliteValue.flagAddr).run Tryz.prog w = .ok (.agg #[.pointer (some ⟨2, 113, none⟩), .pointer (some p), .int .u64 409]) w := by kernel_rfl
theorem asF.elemV (a p : Addr) (W : World) (ha : W.cell? a = some (.pointer (some p))) :
    (ReflectliteValue.method (ReflectliteValue.valueError "reflectlite.Value.Elem" 0) ReflectliteValue.elem #[.agg #[.pointer (some ⟨2, 116, none⟩), .pointer (some a), .int .u64 150]]).run Tryz.prog W
      = .ok (.agg #[.pointer (some ⟨2, 113, none⟩), .pointer (some p), .int .u64 409]) W := by
  rw [rlm]
  simp only [Sem.run_bind, asF.partsP, Result.andThen]
  simp [ReflectliteValue.elem, loadVar, isAgg, underlying, Tryz.underlying116, ha, Result.andThen, asF.elemOfP, asF.mkE]
theorem rls (v x : Value) : ReflectliteValue.set #[v, x] = (do
    let (some (dst, a, fl), some (src, b, _)) := (← ReflectliteValue.parts v, ← ReflectliteValue.parts x)
      | unsupported (.noEntry "extern/(internal/reflectlite.Value).Set.zeroValue")
    if fl / ReflectliteValue.flagAddr % 2 == 0 then unsupported (.noEntry "extern/(internal/reflectlite.Value).Set.unaddressable")
    let val ← loadVar src b
    if ← Rtype.directlyAssignable dst src then storeVar dst a val
    else if ← Rtype.implements dst src then
      if (← Rtype.kind src) == 20 then
        match val with
        | .nilIface => unsupported (.noEntry "extern/reflectlite: a nil value of one interface type handed on as a value of another")
        | _ => storeVar dst a val
      else storeVar dst a (.iface src val)
    else panicString ("reflectlite.Set: value of type " ++ (← Rtype.spelt src) ++ " is not assignable to type " ++ (← Rtype.spelt dst))
    pure (.tuple #[])) := rfl
theorem asF.partsEa (a : Addr) (w : World) : (ReflectliteValue.parts (.agg #[.pointer (some ⟨2, 113, none⟩), .pointer (some a), .int .u64 409])).run Tryz.prog w = .ok (some (113, a, 409)) w := by kernel_rfl
theorem asF.partsE (a : Addr) (w : World) : (ReflectliteValue.parts (.agg #[.pointer (some ⟨2, 113, none⟩), .pointer (some a), .int .u64 153])).run Tryz.prog w = .ok (some (113, a, 153)) w := by kernel_rfl
theorem asF.directE (w : World) : (Rtype.directlyAssignable 113 113).run Tryz.prog w = .ok true w := by kernel_rfl
theorem asF.set (ta b : Addr) (c : Int) (old : Value) (W : World) (hb : W.cell? b = some (.int .i64 c)) (ht : W.cell? ta = some old) (hf : W.frozen? ta = false) :
    (ReflectliteValue.set #[.agg #[.pointer (some ⟨2, 113, none⟩), .pointer (some ta), .int .u64 409], .agg #[.pointer (some ⟨2, 113, none⟩), .pointer (some b), .int .u64 153]]).run Tryz.prog W
      = .ok (.tuple #[]) (W.setCell ta (.int .i64 c)) := by
  rw [rls]
  simp only [Sem.run_bind, asF.partsEa, asF.partsE, Result.andThen]
  simp [ReflectliteValue.flagAddr, loadVar, isAgg, underlying, Tryz.underlying113, hb, Result.andThen, asF.directE, storeVar, Value.cells, storeCells, Addr.add, loadCells, loadCellsFrom]
  rw [run_store Tryz.prog W ta _ _ (by rfl)]
  simp [ht, hf]
end Go.Proofs.YtilinjjimiiplaaGreatDoor
