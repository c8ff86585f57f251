/- laws.FnExactPutMsg answers true at every argument, and leaves what was there as it was: the statement's row. No other condition. -/
import Derived.Test.YtflojfkalnojbaaPwA1
import Derived.ChangeSame
import Derived.ChangeVars
import Derived.ChangeOld
import Derived.Below
import Derived.Carry
import Derived.RowKit
import Derived.ProofKit
import Derived.OpenShut
import Derived.Deep.Slices
import Derived.Test.YtflojfkalnojbaaPwH2
import Derived.Test.YtflojfkalnojbaaPwLG1
import Derived.Test.YtflojfkalnojbaaPwLPutMsg
import Derived.Test.YtflojfkalnojbaaRows
namespace Go.Proofs.Ytflojfkalnojbaa
open Go.ChangeShapes Go.WideShapes Go.ChangeAt Go.RowKit
theorem laid_outZ : laidOutB Try.prog = true := by kernel_rfl
instance : Inhabited Zn := ⟨⟨ByteArray.empty, 0, 0, 0, 0⟩⟩
theorem nodes_add (a : Addr) (i k : Nat) : (a.add i).add k = a.add (i + k) := Deep.add_add a i k
theorem spot_none {W : World} {a : Addr} {v : Value} (h : W.cell? a = some v) : a = ⟨a.block, a.off, none⟩ := by
  obtain ⟨b, o, s⟩ := a
  cases s with
  | none => rfl
  | some x => simp [World.cell?] at h; split at h <;> simp at h
end Go.Proofs.Ytflojfkalnojbaa
namespace Go.Proofs.Ytflojfkalnojbaa
open Go.RowKit
open Go.ChangeShapes Go.WideShapes Go.ChangeAt Go.RowKit
set_option maxRecDepth 100000 in
theorem open_ctL {H : Type} {enc : TypeId × Value → H} {W : World} {fuel : Nat} {cs : List Value} {x : DataW H × List MemPlace} (hl : cs.length = 3)
    (hf : DataW.trod enc Try.prog W 0 (fun _ => true) true fuel 68 cs = some x) : ∃ z : Ct, True ∧ cs = [.int .i64 z.slot, .int .i64 z.view, .int .i64 z.value] := by
  obtain ⟨xs, n', _, _, _, hlen, hfl⟩ := DataW.trod_struct Try.underlying68 hf
  match cs, hl with
  | [u0, u1, u2], _ =>
   match xs, hlen with
   | [y0, y1, y2], _ =>
    have f0 := hfl 0 _ rfl
    have f1 := hfl 1 _ rfl
    have f2 := hfl 2 _ rfl
    simp only [List.getElem?_cons_zero, List.getElem?_cons_succ] at f0 f1 f2
    obtain ⟨m0, e0, _, _⟩ := DataW.trod_int Try.underlying2 f0
    obtain ⟨m1, e1, _, _⟩ := DataW.trod_int Try.underlying2 f1
    obtain ⟨m2, e2, _, _⟩ := DataW.trod_int Try.underlying2 f2
    have g0 : u0 = .int .i64 m0 := by injection e0
    have g1 : u1 = .int .i64 m1 := by injection e1
    have g2 : u2 = .int .i64 m2 := by injection e2
    subst g0 g1 g2
    exact ⟨⟨m0, m1, m2⟩, trivial, rfl⟩
set_option maxRecDepth 100000 in
theorem open_ctsL {H : Type} {enc : TypeId × Value → H} {W : World} {fuel : Nat} {v : Value} {x : DataW H × List MemPlace}
    (hf : DataW.trod enc Try.prog W 0 (fun _ => true) true fuel 51 [v] = some x) : ∃ zs : List Ct, CtSlice W v zs ∧ ∀ z ∈ zs, True := by
  have c5 : Try.prog.cellsOf 68 = 3 := by kernel_rfl
  rcases Deep.open_slice Try.underlying51 hf with ⟨hcs, _⟩ | ⟨a, l0, cap, m, n, D, Pl, hcs, _, hl, hm, hmm, _, hx⟩
  · simp at hcs
    subst hcs
    exact ⟨[], ⟨none, 0, rfl, Nat.le_refl _, by unfold maxLen; omega, fun h => by simp at h⟩, fun z hz => by cases hz⟩
  · simp at hcs
    subst hcs
    have hmc : m = cap := by simpa using hmm
    subst hmc
    rw [c5] at hx
    obtain ⟨f, hfz⟩ := Deep.choose_lt (α := Ct) (p := fun i z => True ∧ W.cell? (a.add (i * 3 + 0)) = some (.int .i64 z.slot) ∧ W.cell? (a.add (i * 3 + 1)) = some (.int .i64 z.view) ∧ W.cell? (a.add (i * 3 + 2)) = some (.int .i64 z.value)) (n := m) (fun i hi => by
      obtain ⟨cs', h1, h2⟩ := hx i hi
      obtain ⟨_, hl6, hcell⟩ := World.cells?_some h1
      obtain ⟨z, hz, hcs⟩ := open_ctL hl6 h2
      subst hcs
      have q0 := hcell 0 (by omega)
      have q1 := hcell 1 (by omega)
      have q2 := hcell 2 (by omega)
      simp only [nodes_add] at q0 q1 q2
      exact ⟨z, hz, q0, q1, q2⟩)
    refine ⟨(List.range l0).map f, ⟨some a, m, by simp, by simpa using hl, hm, fun h0 => ?_⟩, fun z hz => ?_⟩
    · have h0' : 0 < l0 := by simpa using h0
      have hs : a = ⟨a.block, a.off, none⟩ := spot_none (by have := (hfz 0 (by omega)).2.1; simpa [Addr.add] using this)
      refine ⟨a.block, a.off, by rw [← hs], World.block_lt_of_cell? W _ (hfz 0 (by omega)).2.1, ?_⟩
      intro i z hz
      rw [List.getElem?_map] at hz
      obtain ⟨j, hj, rfl⟩ := Option.map_eq_some_iff.1 hz
      have hi := (List.getElem?_eq_some_iff.1 hj).1
      rw [List.length_range] at hi
      have hj2 : i = j := by rw [List.getElem?_range hi] at hj; exact Option.some.inj hj
      subst hj2
      obtain ⟨_, q0, q1, q2⟩ := hfz i (by omega)
      rw [hs, Addr.add_lit] at q0 q1 q2
      simp only [Nat.add_zero, ← Nat.add_assoc] at q0 q1 q2
      exact ⟨q0, q1, q2⟩
    · obtain ⟨i, hi, rfl⟩ := List.mem_map.1 hz
      rw [List.mem_range] at hi
      exact (hfz i (by omega)).1
set_option maxRecDepth 100000 in
theorem open_numsL {H : Type} {enc : TypeId × Value → H} {W : World} {fuel : Nat} {v : Value} {x : DataW H × List MemPlace}
    (hf : DataW.trod enc Try.prog W 0 (fun _ => true) true fuel 26 [v] = some x) : ∃ l : List Int, ISlice W v l := by
  have c5 : Try.prog.cellsOf 2 = 1 := by kernel_rfl
  rcases Deep.open_slice Try.underlying26 hf with ⟨hcs, _⟩ | ⟨a, l0, cap, m, n, D, Pl, hcs, _, hl, hm, hmm, _, hx⟩
  · simp at hcs
    subst hcs
    exact ⟨[], ⟨none, 0, rfl, Nat.le_refl _, by unfold maxLen; omega, fun h => by simp at h⟩⟩
  · simp at hcs
    subst hcs
    have hmc : m = cap := by simpa using hmm
    subst hmc
    rw [c5] at hx
    obtain ⟨f, hfz⟩ := Deep.choose_lt (α := Int) (p := fun i z => W.cell? (a.add (i * 1 + 0)) = some (.int .i64 z)) (n := m) (fun i hi => by
      obtain ⟨cs', h1, h2⟩ := hx i hi
      obtain ⟨_, hl6, hcell⟩ := World.cells?_some h1
      match cs', hl6 with
      | [u0], _ =>
        obtain ⟨m0, e0, _, _⟩ := DataW.trod_int Try.underlying2 h2
        have g0 : u0 = .int .i64 m0 := by injection e0
        subst g0
        have q0 := hcell 0 (by omega)
        simp only [nodes_add] at q0
        exact ⟨m0, q0⟩)
    refine ⟨(List.range l0).map f, ⟨some a, m, by simp, by simpa using hl, hm, fun h0 => ?_⟩⟩
    have h0' : 0 < l0 := by simpa using h0
    have hs : a = ⟨a.block, a.off, none⟩ := spot_none (by have := (hfz 0 (by omega)); simpa [Addr.add] using this)
    refine ⟨a.block, a.off, by rw [← hs], World.block_lt_of_cell? W _ (hfz 0 (by omega)), ?_⟩
    intro i z hz
    rw [List.getElem?_map] at hz
    obtain ⟨j, hj, rfl⟩ := Option.map_eq_some_iff.1 hz
    have hi := (List.getElem?_eq_some_iff.1 hj).1
    rw [List.length_range] at hi
    have hj2 : i = j := by rw [List.getElem?_range hi] at hj; exact Option.some.inj hj
    subst hj2
    have q0 := hfz i (by omega)
    rw [hs, Addr.add_lit] at q0
    simp only [Nat.add_zero, Nat.mul_one] at q0
    exact q0
set_option maxRecDepth 100000 in
theorem open_msgL {H : Type} {enc : TypeId × Value → H} {W : World} {fuel : Nat} {cs : List Value} {x : DataW H × List MemPlace} (hl : cs.length = 7)
    (hf : DataW.trod enc Try.prog W 0 (fun _ => true) true fuel 53 cs = some x) : ∃ (m : Ms) (v u : Value), MLs W v u m ∧ cs = [.int .i64 m.kind, .int .i64 m.view, .int .i64 m.from_, .int .i64 m.slot, .int .i64 m.value, v, u] := by
  obtain ⟨xs, n', _, _, _, hlen, hfl⟩ := DataW.trod_struct Try.underlying53 hf
  match cs, hl with
  | [u0, u1, u2, u3, u4, u5, u6], _ =>
   match xs, hlen with
   | [y0, y1, y2, y3, y4, y5, y6], _ =>
    have f0 := hfl 0 _ rfl
    have f1 := hfl 1 _ rfl
    have f2 := hfl 2 _ rfl
    have f3 := hfl 3 _ rfl
    have f4 := hfl 4 _ rfl
    have f5 := hfl 5 _ rfl
    have f6 := hfl 6 _ rfl
    simp only [List.getElem?_cons_zero, List.getElem?_cons_succ] at f0 f1 f2 f3 f4 f5 f6
    obtain ⟨m0, e0, _, _⟩ := DataW.trod_int Try.underlying2 f0
    obtain ⟨m1, e1, _, _⟩ := DataW.trod_int Try.underlying2 f1
    obtain ⟨m2, e2, _, _⟩ := DataW.trod_int Try.underlying2 f2
    obtain ⟨m3, e3, _, _⟩ := DataW.trod_int Try.underlying2 f3
    obtain ⟨m4, e4, _, _⟩ := DataW.trod_int Try.underlying2 f4
    have g0 : u0 = .int .i64 m0 := by injection e0
    have g1 : u1 = .int .i64 m1 := by injection e1
    have g2 : u2 = .int .i64 m2 := by injection e2
    have g3 : u3 = .int .i64 m3 := by injection e3
    have g4 : u4 = .int .i64 m4 := by injection e4
    subst g0 g1 g2 g3 g4
    obtain ⟨zs, hS, _⟩ := open_ctsL f5
    obtain ⟨l, hI⟩ := open_numsL f6
    exact ⟨⟨m0, m1, m2, m3, m4, zs, l⟩, u5, u6, ⟨hS, hI⟩, rfl⟩
set_option maxRecDepth 100000 in
theorem open_msgV {H : Type} {enc : TypeId × Value → H} {W : World} {v : Value} {d : DataW H} {ps : List MemPlace}
    (h : DataW.Trod enc Try.prog W 0 (fun _ => true) true 53 v d ps) (hv : ∃ cs, v = .agg cs ∧ cs.size = Try.prog.cellsOf 53) : ∃ (m : Ms) (x y : Value), v = magg m x y ∧ MLs W x y m := by
  obtain ⟨cs, rfl, hsz⟩ := hv
  have c5 : Try.prog.cellsOf 53 = 7 := by kernel_rfl
  rw [c5] at hsz
  obtain ⟨fuel, hf⟩ := h
  obtain ⟨m, x, y, hz, hcs⟩ := open_msgL (cs := cs.toList) (by simpa using hsz) hf
  refine ⟨m, x, y, ?_, hz⟩
  unfold magg
  congr 1
  exact Array.toList_inj.1 (by rw [hcs])
end Go.Proofs.Ytflojfkalnojbaa
namespace Go.Proofs.Ytflojfkalnojbaa
open Go.RowKit
open Go.ChangeShapes Go.WideShapes Go.ChangeAt Go.RowKit
set_option maxRecDepth 100000 in
theorem open_msgs {H : Type} {enc : TypeId × Value → H} {W : World} {v : Value} {d : DataW H} {ps : List MemPlace}
    (h : DataW.Trod enc Try.prog W 0 (fun _ => true) true 50 v d ps) (hv : ∃ a l c, v = .slice a l c) : ∃ zs : List Ms, MSlice W v zs := by
  obtain ⟨a0, l0, c0, rfl⟩ := hv
  obtain ⟨fuel, hf⟩ := h
  have c5 : Try.prog.cellsOf 53 = 7 := by kernel_rfl
  rcases Deep.open_slice Try.underlying50 hf with ⟨hcs, _⟩ | ⟨a, len, cap, m, n, D, Pl, hcs, _, hl, hm, hmm, _, hx⟩
  · simp [Value.cells] at hcs
    obtain ⟨rfl, rfl, rfl⟩ := hcs
    exact ⟨[], ⟨none, 0, rfl, Nat.le_refl _, by unfold maxLen; omega, fun h => by simp at h⟩⟩
  · simp [Value.cells] at hcs
    obtain ⟨rfl, rfl, rfl⟩ := hcs
    have hmc : m = c0 := by simpa using hmm
    subst hmc
    rw [c5] at hx
    obtain ⟨f, hfz⟩ := Deep.choose_lt (α := Ms × Value × Value) (p := fun i p => MLs W p.2.1 p.2.2 p.1 ∧ W.cell? (a.add (i * 7 + 0)) = some (.int .i64 p.1.kind) ∧ W.cell? (a.add (i * 7 + 1)) = some (.int .i64 p.1.view) ∧ W.cell? (a.add (i * 7 + 2)) = some (.int .i64 p.1.from_) ∧ W.cell? (a.add (i * 7 + 3)) = some (.int .i64 p.1.slot) ∧ W.cell? (a.add (i * 7 + 4)) = some (.int .i64 p.1.value) ∧ W.cell? (a.add (i * 7 + 5)) = some p.2.1 ∧ W.cell? (a.add (i * 7 + 6)) = some p.2.2) (n := m) (fun i hi => by
      obtain ⟨cs', h1, h2⟩ := hx i hi
      obtain ⟨_, hl6, hcell⟩ := World.cells?_some h1
      obtain ⟨z, x, y, hz, hcs⟩ := open_msgL hl6 h2
      subst hcs
      have q0 := hcell 0 (by omega)
      have q1 := hcell 1 (by omega)
      have q2 := hcell 2 (by omega)
      have q3 := hcell 3 (by omega)
      have q4 := hcell 4 (by omega)
      have q5 := hcell 5 (by omega)
      have q6 := hcell 6 (by omega)
      simp only [nodes_add] at q0 q1 q2 q3 q4 q5 q6
      exact ⟨(z, x, y), hz, q0, q1, q2, q3, q4, q5, q6⟩)
    refine ⟨(List.range l0).map (fun i => (f i).1), ⟨some a, m, by simp, by simpa using hl, hm, fun h0 => ?_⟩⟩
    have h0' : 0 < l0 := by simpa using h0
    have hs : a = ⟨a.block, a.off, none⟩ := spot_none (by have := (hfz 0 (by omega)).2.1; simpa [Addr.add] using this)
    refine ⟨a.block, a.off, by rw [← hs], World.block_lt_of_cell? W _ (hfz 0 (by omega)).2.1, ?_⟩
    intro i z hz
    rw [List.getElem?_map] at hz
    obtain ⟨j, hj, rfl⟩ := Option.map_eq_some_iff.1 hz
    have hi := (List.getElem?_eq_some_iff.1 hj).1
    rw [List.length_range] at hi
    have hj2 : i = j := by rw [List.getElem?_range hi] at hj; exact Option.some.inj hj
    subst hj2
    obtain ⟨hls, q0, q1, q2, q3, q4, q5, q6⟩ := hfz i (by omega)
    rw [hs, Addr.add_lit] at q0 q1 q2 q3 q4 q5 q6
    simp only [Nat.add_zero, ← Nat.add_assoc] at q0 q1 q2 q3 q4 q5 q6
    exact ⟨_, _, ⟨q0, q1, q2, q3, q4, q5, q6⟩, hls⟩
end Go.Proofs.Ytflojfkalnojbaa
namespace Go.Proofs.Ytflojfkalnojbaa
open Go.ChangeShapes Go.WideShapes Go.ChangeAt Go.RowKit
open Go.ChangeMaps (open_string shut_string)
theorem own_knobZPutMsg : ownKnob Try.prog.godebug = none := by kernel_rfl
set_option maxRecDepth 100000 in
theorem fnExactPutMsg_lifted (os : Os) (started : os.Started) (H : Type) (enc : TypeId × Value → H) :
    ReturnsInHanded {} Try.checked os 6 .any (Rows.fnExactPutMsgSpec.pre6 enc Try.prog Try.f6 Rows.fnExactPutMsgRow.domain false)
      (Rows.fnExactPutMsgSpec.post enc Try.prog Try.f6 false true false false) := by
  refine returnsInHanded_of_change (C := Try.checked) own_knobZPutMsg started (by kernel_rfl) Try.func6
    (ChangeSpec.witness6 (enc := enc) (C := Try.checked) false ⟨#[], #[.int .i64 0, .slice none 0 0, .agg #[.int .i64 0, .int .i64 0, .int .i64 0, .int .i64 0, .int .i64 0, .slice none 0 0, .slice none 0 0]], []⟩ 8 (by kernel_rfl) (by kernel_rfl) (by kernel_rfl) (by kernel_rfl)) ?_
  intro W base args ds gs before hval0 hW _ _
  have hval : ∀ (j : Nat) t v, Try.f6.params[j]? = some t → args[j]? = some v → Value.okWide Try.prog W .any base t v := hval0
  have hW' := hW
  obtain ⟨p, q, hA0, hV0, rfl, hfz, hnd⟩ := hW
  have hA : DataW.TrodAll enc Try.prog W 0 (fun _ => true) true Try.f6.params.toList args.toList ds p := hA0
  have hV : DataW.TrodVars enc Try.prog W (fun _ => true) [] gs q := hV0
  rw [Try.params6] at hA hval
  obtain ⟨v0, vs0, d0, ds0, p0, q0, ha0, rfl, rfl, h0, r0⟩ := trodAll_cons hA
  obtain ⟨v1, vs1, d1, ds1, p1, q1, rfl, rfl, rfl, h1, r1⟩ := trodAll_cons r0
  obtain ⟨v2, vs2, d2, ds2, p2, q2, rfl, rfl, rfl, h2, r2⟩ := trodAll_cons r1
  obtain ⟨rfl, rfl, rfl⟩ := trodAll_nil r2
  obtain rfl : args = #[v0, v1, v2] := by cases args; simp_all
  have k0 := h0
  have lt0 : ∀ x ∈ p0, x.block < W.heap.size := by obtain ⟨m, hm⟩ := k0; exact DataW.trod_lt m _ _ _ hm
  have k1 := h1
  have lt1 : ∀ x ∈ p1, x.block < W.heap.size := by obtain ⟨m, hm⟩ := k1; exact DataW.trod_lt m _ _ _ hm
  have k2 := h2
  have lt2 : ∀ x ∈ p2, x.block < W.heap.size := by obtain ⟨m, hm⟩ := k2; exact DataW.trod_lt m _ _ _ hm
  obtain ⟨n0, rfl, rfl, rfl, hs0⟩ := open_int Try.underlying2 (hval 0 2 v0 rfl rfl) h0
  have e1 := okWide_slice Try.underlying50 (hval 1 50 v1 rfl rfl)
  obtain ⟨z1, hn1⟩ := open_msgs h1 e1
  have e2 := okWide_struct Try.underlying53 (hval 2 53 v2 rfl rfl)
  obtain ⟨z2, x2, y2, rfl, hn2⟩ := open_msgV h2 e2
  obtain ⟨rfl, rfl⟩ : gs = [] ∧ q = [] := by
    cases gs with
    | nil => exact ⟨rfl, hV⟩
    | cons g r => exact absurd hV (by intro h; cases h)
  refine (lawPutMsg n0 v1 z1 z2 x2 y2 W hn1 hn2).mono fun e W' ⟨he, hb⟩ => ?_
  subst he
  exact ⟨_, rfl, _, _, _, [], _, [], hW', trodAll_mk1 (shut_bool Try.underlying4 _), (trodAll_cons_mk (Below.trod laid_outZ (by kernel_rfl) (of_decide_eq_true (by kernel_rfl)) k0 hb lt0) (trodAll_cons_mk (Below.trod laid_outZ (by kernel_rfl) (of_decide_eq_true (by kernel_rfl)) k1 hb lt1) (trodAll_cons_mk (Below.trod laid_outZ (by kernel_rfl) (of_decide_eq_true (by kernel_rfl)) k2 hb lt2) trodAll_mk0))), rfl, hb.kept _, fun h => by cases h⟩

theorem fnExactPutMsg_said : Rows.FnExactPutMsgSaid :=
  OpenClaim.holds_of_wide 6 Try.f6 rfl rfl rfl rfl rfl rfl rfl ⟨rfl, rfl, rfl, rfl, rfl⟩ rfl rfl rfl rfl rfl (by kernel_rfl) Try.func6 (by kernel_rfl)
    (of_decide_eq_true (by kernel_rfl)) (by unfold Func.isWrapper; rw [if_neg (of_decide_eq_false (by kernel_rfl))]; exact ⟨rfl, rfl⟩)
    (fun os started H enc _ => fnExactPutMsg_lifted os started H enc)
#print axioms fnExactPutMsg_said
end Go.Proofs.Ytflojfkalnojbaa
