/- RowZ, RowM, RowMs, RowR, in one text. -/
import Derived.Test.YtecgjdgfjgcmdaaGreatRcA1
import Derived.ChangeSame
import Derived.ChangeVars
import Derived.ChangeOld
import Derived.Below
import Derived.Carry
import Derived.RowKit
import Derived.ProofKit
import Derived.OpenShut
import Derived.Deep.Slices
import Derived.Test.YtecgjdgfjgcmdaaGreatRcH2
import Derived.Test.YtecgjdgfjgcmdaaGreatRcLG1
import Derived.Test.YtecgjdgfjgcmdaaGreatRcGP
namespace Go.Proofs.YtecgjdgfjgcmdaaGreat
open Go.ChangeShapes Go.WideShapes Go.ChangeAt Go.RowKit
theorem laid_outZ : laidOutB Tryz.prog = true := by kernel_rfl
instance : Inhabited Zn := ⟨⟨ByteArray.empty, 0, 0, 0, 0⟩⟩
theorem nodes_add (a : Addr) (i k : Nat) : (a.add i).add k = a.add (i + k) := Deep.add_add a i k
theorem spot_none {W : World} {a : Addr} {v : Value} (h : W.cell? a = some v) : a = ⟨a.block, a.off, none⟩ := by
  obtain ⟨b, o, s⟩ := a
  cases s with
  | none => rfl
  | some x => simp [World.cell?] at h; split at h <;> simp at h
end Go.Proofs.YtecgjdgfjgcmdaaGreat
namespace Go.Proofs.YtecgjdgfjgcmdaaGreat
open Go.RowKit
open Go.ChangeShapes Go.WideShapes Go.ChangeAt Go.RowKit
set_option maxRecDepth 100000 in
theorem open_ctL {H : Type} {enc : TypeId × Value → H} {W : World} {fuel : Nat} {cs : List Value} {x : DataW H × List MemPlace} (hl : cs.length = 3)
    (hf : DataW.trod enc Tryz.prog W 0 (fun _ => true) true fuel 154 cs = some x) : ∃ z : Ct, True ∧ cs = [.int .i64 z.slot, .int .i64 z.view, .int .i64 z.value] := by
  obtain ⟨xs, n', _, _, _, hlen, hfl⟩ := DataW.trod_struct Tryz.underlying154 hf
  match cs, hl with
  | [u0, u1, u2], _ =>
   match xs, hlen with
   | [y0, y1, y2], _ =>
    have f0 := hfl 0 _ rfl
    have f1 := hfl 1 _ rfl
    have f2 := hfl 2 _ rfl
    simp only [List.getElem?_cons_zero, List.getElem?_cons_succ] at f0 f1 f2
    obtain ⟨m0, e0, _, _⟩ := DataW.trod_int Tryz.underlying2 f0
    obtain ⟨m1, e1, _, _⟩ := DataW.trod_int Tryz.underlying2 f1
    obtain ⟨m2, e2, _, _⟩ := DataW.trod_int Tryz.underlying2 f2
    have g0 : u0 = .int .i64 m0 := by injection e0
    have g1 : u1 = .int .i64 m1 := by injection e1
    have g2 : u2 = .int .i64 m2 := by injection e2
    subst g0 g1 g2
    exact ⟨⟨m0, m1, m2⟩, trivial, rfl⟩
set_option maxRecDepth 100000 in
theorem open_ctsL {H : Type} {enc : TypeId × Value → H} {W : World} {fuel : Nat} {v : Value} {x : DataW H × List MemPlace}
    (hf : DataW.trod enc Tryz.prog W 0 (fun _ => true) true fuel 68 [v] = some x) : ∃ zs : List Ct, CtSlice W v zs ∧ ∀ z ∈ zs, True := by
  have c5 : Tryz.prog.cellsOf 154 = 3 := by kernel_rfl
  rcases Deep.open_slice Tryz.underlying68 hf with ⟨hcs, _⟩ | ⟨a, l0, cap, m, n, D, Pl, hcs, _, hl, hm, hmm, _, hx⟩
  · simp at hcs
    subst hcs
    exact ⟨[], ⟨none, 0, rfl, Nat.le_refl _, by unfold maxLen; omega, fun h => by simp at h⟩, fun z hz => by cases hz⟩
  · simp at hcs
    subst hcs
    have hmc : m = cap := by simpa using hmm
    subst hmc
    rw [c5] at hx
    obtain ⟨f, hfz⟩ := Deep.choose_lt (α := Ct) (p := fun i z => True ∧ W.cell? (a.add (i * 3 + 0)) = some (.int .i64 z.slot) ∧ W.cell? (a.add (i * 3 + 1)) = some (.int .i64 z.view) ∧ W.cell? (a.add (i * 3 + 2)) = some (.int .i64 z.value)) (n := m) (fun i hi => by
      obtain ⟨cs', h1, h2⟩ := hx i hi
      obtain ⟨_, hl6, hcell⟩ := World.cells?_some h1
      obtain ⟨z, hz, hcs⟩ := open_ctL hl6 h2
      subst hcs
      have q0 := hcell 0 (by omega)
      have q1 := hcell 1 (by omega)
      have q2 := hcell 2 (by omega)
      simp only [nodes_add] at q0 q1 q2
      exact ⟨z, hz, q0, q1, q2⟩)
    refine ⟨(List.range l0).map f, ⟨some a, m, by simp, by simpa using hl, hm, fun h0 => ?_⟩, fun z hz => ?_⟩
    · have h0' : 0 < l0 := by simpa using h0
      have hs : a = ⟨a.block, a.off, none⟩ := spot_none (by have := (hfz 0 (by omega)).2.1; simpa [Addr.add] using this)
      refine ⟨a.block, a.off, by rw [← hs], World.block_lt_of_cell? W _ (hfz 0 (by omega)).2.1, ?_⟩
      intro i z hz
      rw [List.getElem?_map] at hz
      obtain ⟨j, hj, rfl⟩ := Option.map_eq_some_iff.1 hz
      have hi := (List.getElem?_eq_some_iff.1 hj).1
      rw [List.length_range] at hi
      have hj2 : i = j := by rw [List.getElem?_range hi] at hj; exact Option.some.inj hj
      subst hj2
      obtain ⟨_, q0, q1, q2⟩ := hfz i (by omega)
      rw [hs, Addr.add_lit] at q0 q1 q2
      simp only [Nat.add_zero, ← Nat.add_assoc] at q0 q1 q2
      exact ⟨q0, q1, q2⟩
    · obtain ⟨i, hi, rfl⟩ := List.mem_map.1 hz
      rw [List.mem_range] at hi
      exact (hfz i (by omega)).1
set_option maxRecDepth 100000 in
theorem open_numsL {H : Type} {enc : TypeId × Value → H} {W : World} {fuel : Nat} {v : Value} {x : DataW H × List MemPlace}
    (hf : DataW.trod enc Tryz.prog W 0 (fun _ => true) true fuel 38 [v] = some x) : ∃ l : List Int, ISlice W v l := by
  have c5 : Tryz.prog.cellsOf 2 = 1 := by kernel_rfl
  rcases Deep.open_slice Tryz.underlying38 hf with ⟨hcs, _⟩ | ⟨a, l0, cap, m, n, D, Pl, hcs, _, hl, hm, hmm, _, hx⟩
  · simp at hcs
    subst hcs
    exact ⟨[], ⟨none, 0, rfl, Nat.le_refl _, by unfold maxLen; omega, fun h => by simp at h⟩⟩
  · simp at hcs
    subst hcs
    have hmc : m = cap := by simpa using hmm
    subst hmc
    rw [c5] at hx
    obtain ⟨f, hfz⟩ := Deep.choose_lt (α := Int) (p := fun i z => W.cell? (a.add (i * 1 + 0)) = some (.int .i64 z)) (n := m) (fun i hi => by
      obtain ⟨cs', h1, h2⟩ := hx i hi
      obtain ⟨_, hl6, hcell⟩ := World.cells?_some h1
      match cs', hl6 with
      | [u0], _ =>
        obtain ⟨m0, e0, _, _⟩ := DataW.trod_int Tryz.underlying2 h2
        have g0 : u0 = .int .i64 m0 := by injection e0
        subst g0
        have q0 := hcell 0 (by omega)
        simp only [nodes_add] at q0
        exact ⟨m0, q0⟩)
    refine ⟨(List.range l0).map f, ⟨some a, m, by simp, by simpa using hl, hm, fun h0 => ?_⟩⟩
    have h0' : 0 < l0 := by simpa using h0
    have hs : a = ⟨a.block, a.off, none⟩ := spot_none (by have := (hfz 0 (by omega)); simpa [Addr.add] using this)
    refine ⟨a.block, a.off, by rw [← hs], World.block_lt_of_cell? W _ (hfz 0 (by omega)), ?_⟩
    intro i z hz
    rw [List.getElem?_map] at hz
    obtain ⟨j, hj, rfl⟩ := Option.map_eq_some_iff.1 hz
    have hi := (List.getElem?_eq_some_iff.1 hj).1
    rw [List.length_range] at hi
    have hj2 : i = j := by rw [List.getElem?_range hi] at hj; exact Option.some.inj hj
    subst hj2
    have q0 := hfz i (by omega)
    rw [hs, Addr.add_lit] at q0
    simp only [Nat.add_zero, Nat.mul_one] at q0
    exact q0
set_option maxRecDepth 100000 in
theorem open_msgL {H : Type} {enc : TypeId × Value → H} {W : World} {fuel : Nat} {cs : List Value} {x : DataW H × List MemPlace} (hl : cs.length = 7)
    (hf : DataW.trod enc Tryz.prog W 0 (fun _ => true) true fuel 70 cs = some x) : ∃ (m : Ms) (v u : Value), MLs W v u m ∧ cs = [.int .i64 m.kind, .int .i64 m.view, .int .i64 m.from_, .int .i64 m.slot, .int .i64 m.value, v, u] := by
  obtain ⟨xs, n', _, _, _, hlen, hfl⟩ := DataW.trod_struct Tryz.underlying70 hf
  match cs, hl with
  | [u0, u1, u2, u3, u4, u5, u6], _ =>
   match xs, hlen with
   | [y0, y1, y2, y3, y4, y5, y6], _ =>
    have f0 := hfl 0 _ rfl
    have f1 := hfl 1 _ rfl
    have f2 := hfl 2 _ rfl
    have f3 := hfl 3 _ rfl
    have f4 := hfl 4 _ rfl
    have f5 := hfl 5 _ rfl
    have f6 := hfl 6 _ rfl
    simp only [List.getElem?_cons_zero, List.getElem?_cons_succ] at f0 f1 f2 f3 f4 f5 f6
    obtain ⟨m0, e0, _, _⟩ := DataW.trod_int Tryz.underlying2 f0
    obtain ⟨m1, e1, _, _⟩ := DataW.trod_int Tryz.underlying2 f1
    obtain ⟨m2, e2, _, _⟩ := DataW.trod_int Tryz.underlying2 f2
    obtain ⟨m3, e3, _, _⟩ := DataW.trod_int Tryz.underlying2 f3
    obtain ⟨m4, e4, _, _⟩ := DataW.trod_int Tryz.underlying2 f4
    have g0 : u0 = .int .i64 m0 := by injection e0
    have g1 : u1 = .int .i64 m1 := by injection e1
    have g2 : u2 = .int .i64 m2 := by injection e2
    have g3 : u3 = .int .i64 m3 := by injection e3
    have g4 : u4 = .int .i64 m4 := by injection e4
    subst g0 g1 g2 g3 g4
    obtain ⟨zs, hS, _⟩ := open_ctsL f5
    obtain ⟨l, hI⟩ := open_numsL f6
    exact ⟨⟨m0, m1, m2, m3, m4, zs, l⟩, u5, u6, ⟨hS, hI⟩, rfl⟩
end Go.Proofs.YtecgjdgfjgcmdaaGreat
namespace Go.Proofs.YtecgjdgfjgcmdaaGreat
open Go.RowKit
open Go.ChangeShapes Go.WideShapes Go.ChangeAt Go.RowKit
set_option maxRecDepth 100000 in
theorem open_msgs {H : Type} {enc : TypeId × Value → H} {W : World} {v : Value} {d : DataW H} {ps : List MemPlace}
    (h : DataW.Trod enc Tryz.prog W 0 (fun _ => true) true 22 v d ps) (hv : ∃ a l c, v = .slice a l c) : ∃ zs : List Ms, MSlice W v zs := by
  obtain ⟨a0, l0, c0, rfl⟩ := hv
  obtain ⟨fuel, hf⟩ := h
  have c5 : Tryz.prog.cellsOf 70 = 7 := by kernel_rfl
  rcases Deep.open_slice Tryz.underlying22 hf with ⟨hcs, _⟩ | ⟨a, len, cap, m, n, D, Pl, hcs, _, hl, hm, hmm, _, hx⟩
  · simp [Value.cells] at hcs
    obtain ⟨rfl, rfl, rfl⟩ := hcs
    exact ⟨[], ⟨none, 0, rfl, Nat.le_refl _, by unfold maxLen; omega, fun h => by simp at h⟩⟩
  · simp [Value.cells] at hcs
    obtain ⟨rfl, rfl, rfl⟩ := hcs
    have hmc : m = c0 := by simpa using hmm
    subst hmc
    rw [c5] at hx
    obtain ⟨f, hfz⟩ := Deep.choose_lt (α := Ms × Value × Value) (p := fun i p => MLs W p.2.1 p.2.2 p.1 ∧ W.cell? (a.add (i * 7 + 0)) = some (.int .i64 p.1.kind) ∧ W.cell? (a.add (i * 7 + 1)) = some (.int .i64 p.1.view) ∧ W.cell? (a.add (i * 7 + 2)) = some (.int .i64 p.1.from_) ∧ W.cell? (a.add (i * 7 + 3)) = some (.int .i64 p.1.slot) ∧ W.cell? (a.add (i * 7 + 4)) = some (.int .i64 p.1.value) ∧ W.cell? (a.add (i * 7 + 5)) = some p.2.1 ∧ W.cell? (a.add (i * 7 + 6)) = some p.2.2) (n := m) (fun i hi => by
      obtain ⟨cs', h1, h2⟩ := hx i hi
      obtain ⟨_, hl6, hcell⟩ := World.cells?_some h1
      obtain ⟨z, x, y, hz, hcs⟩ := open_msgL hl6 h2
      subst hcs
      have q0 := hcell 0 (by omega)
      have q1 := hcell 1 (by omega)
      have q2 := hcell 2 (by omega)
      have q3 := hcell 3 (by omega)
      have q4 := hcell 4 (by omega)
      have q5 := hcell 5 (by omega)
      have q6 := hcell 6 (by omega)
      simp only [nodes_add] at q0 q1 q2 q3 q4 q5 q6
      exact ⟨(z, x, y), hz, q0, q1, q2, q3, q4, q5, q6⟩)
    refine ⟨(List.range l0).map (fun i => (f i).1), ⟨some a, m, by simp, by simpa using hl, hm, fun h0 => ?_⟩⟩
    have h0' : 0 < l0 := by simpa using h0
    have hs : a = ⟨a.block, a.off, none⟩ := spot_none (by have := (hfz 0 (by omega)).2.1; simpa [Addr.add] using this)
    refine ⟨a.block, a.off, by rw [← hs], World.block_lt_of_cell? W _ (hfz 0 (by omega)).2.1, ?_⟩
    intro i z hz
    rw [List.getElem?_map] at hz
    obtain ⟨j, hj, rfl⟩ := Option.map_eq_some_iff.1 hz
    have hi := (List.getElem?_eq_some_iff.1 hj).1
    rw [List.length_range] at hi
    have hj2 : i = j := by rw [List.getElem?_range hi] at hj; exact Option.some.inj hj
    subst hj2
    obtain ⟨hls, q0, q1, q2, q3, q4, q5, q6⟩ := hfz i (by omega)
    rw [hs, Addr.add_lit] at q0 q1 q2 q3 q4 q5 q6
    simp only [Nat.add_zero, ← Nat.add_assoc] at q0 q1 q2 q3 q4 q5 q6
    exact ⟨_, _, ⟨q0, q1, q2, q3, q4, q5, q6⟩, hls⟩
end Go.Proofs.YtecgjdgfjgcmdaaGreat
namespace Go.Proofs.YtecgjdgfjgcmdaaGreat
open Go.RowKit
open Go.ChangeShapes Go.WideShapes Go.ChangeAt Go.RowKit
set_option maxRecDepth 100000 in
theorem open_rpL {H : Type} {enc : TypeId × Value → H} {W : World} {fuel : Nat} {cs : List Value} {x : DataW H × List MemPlace} (hl : cs.length = 4)
    (hf : DataW.trod enc Tryz.prog W 0 (fun _ => true) true fuel 24 cs = some x) : ∃ z : Rp, True ∧ cs = [.int .i64 z.id, .int .i64 z.view, .int .i64 z.start, .int .i64 z.done] := by
  obtain ⟨xs, n', _, _, _, hlen, hfl⟩ := DataW.trod_struct Tryz.underlying24 hf
  match cs, hl with
  | [u0, u1, u2, u3], _ =>
   match xs, hlen with
   | [y0, y1, y2, y3], _ =>
    have f0 := hfl 0 _ rfl
    have f1 := hfl 1 _ rfl
    have f2 := hfl 2 _ rfl
    have f3 := hfl 3 _ rfl
    simp only [List.getElem?_cons_zero, List.getElem?_cons_succ] at f0 f1 f2 f3
    obtain ⟨m0, e0, _, _⟩ := DataW.trod_int Tryz.underlying2 f0
    obtain ⟨m1, e1, _, _⟩ := DataW.trod_int Tryz.underlying2 f1
    obtain ⟨m2, e2, _, _⟩ := DataW.trod_int Tryz.underlying2 f2
    obtain ⟨m3, e3, _, _⟩ := DataW.trod_int Tryz.underlying2 f3
    have g0 : u0 = .int .i64 m0 := by injection e0
    have g1 : u1 = .int .i64 m1 := by injection e1
    have g2 : u2 = .int .i64 m2 := by injection e2
    have g3 : u3 = .int .i64 m3 := by injection e3
    subst g0 g1 g2 g3
    exact ⟨⟨m0, m1, m2, m3⟩, trivial, rfl⟩
set_option maxRecDepth 100000 in
theorem open_rpV {H : Type} {enc : TypeId × Value → H} {W : World} {v : Value} {d : DataW H} {ps : List MemPlace}
    (h : DataW.Trod enc Tryz.prog W 0 (fun _ => true) true 24 v d ps) (hv : ∃ cs, v = .agg cs ∧ cs.size = Tryz.prog.cellsOf 24) : ∃ z : Rp, v = ragg z ∧ True := by
  obtain ⟨cs, rfl, hsz⟩ := hv
  have c5 : Tryz.prog.cellsOf 24 = 4 := by kernel_rfl
  rw [c5] at hsz
  obtain ⟨fuel, hf⟩ := h
  obtain ⟨z, hz, hcs⟩ := open_rpL (cs := cs.toList) (by simpa using hsz) hf
  refine ⟨z, ?_, hz⟩
  unfold ragg
  congr 1
  exact Array.toList_inj.1 (by rw [hcs])
end Go.Proofs.YtecgjdgfjgcmdaaGreat
