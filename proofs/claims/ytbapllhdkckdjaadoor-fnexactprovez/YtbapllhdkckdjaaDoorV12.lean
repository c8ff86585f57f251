/- RootOf: of the specification and of the program. -/
import Derived.Test.YtbapllhdkckdjaaDoorV10
import Derived.Test.YtbapllhdkckdjaaDoorV11
import Derived.Test.YtbapllhdkckdjaaDoorI5
namespace Go.Proofs.YtbapllhdkckdjaaDoor
open Go.RowKit

namespace Tre
theorem fault_few {zs : List Zn} (h1 : fault zs = 0) : zs.length ≤ 20 ∧ 1 ≤ zs.length := by
  refine ⟨(fault_nodes h1).1, ?_⟩
  rcases atI_range zs top with ⟨hm, _⟩ | ⟨k, z, _, hk, _, _⟩
  · have := (fault_hang h1).1; omega
  · omega
end Tre
theorem fault_nodeC {zs : List Zn} (h1 : Tre.fault zs = 0) : ∀ z ∈ zs, Sm.nodeC z = 0 := fun z hz => by
  obtain ⟨h2, h3⟩ := Tre.fault_nums h1 z hz
  rw [Sm.nodeC_nums h2 h3]; rfl
def Sm.rootV (zs : List Zn) : Int × Int := if Tre.fault zs ≠ 0 then (Tre.fault zs, 0) else (0, Sm.root (zs.map Sm.leaf))
theorem Sm.rootV_bad {zs : List Zn} {c : Int} (h : Tre.fault zs = c) (hc : c ≠ 0) : Sm.rootV zs = (c, 0) := by unfold Sm.rootV; rw [h, if_pos hc]
theorem Sm.rootV_ok {zs : List Zn} (h : Tre.fault zs = 0) : Sm.rootV zs = (0, Sm.root (zs.map Sm.leaf)) := by unfold Sm.rootV; rw [h, if_neg (by decide)]

set_option maxHeartbeats 2000000 in
set_option maxRecDepth 100000 in
theorem specRootOf_any (v : Value) (zs : List Zn) (w : World) (hS : NSlice w v zs) :
    Calls Tryd.prog 20 #[v] w fun e w' => e = .returned (ir (Sm.rootV zs)) ∧ Ext w w' := by
  have HF : Hid (∀ wx : World, Ext w wx → Calls Tryd.prog 55 #[v] wx fun e w' => e = .returned (.int .i64 (Tre.fault zs)) ∧ Ext wx w') := fun wx h => l2Fault_any v zs wx (hS.ext h)
  have HS : Hid (NSlice w v zs) := hS
  obtain ⟨a, cap, rfl, -⟩ := hS
  by_cases hc0 : Tre.fault zs ≠ 0
  · rw [Sm.rootV_bad rfl hc0]
    generalize Tre.fault zs = c at *
    go_enter Tryd.func20, Tryd.ntmps20
    go_wp2_with fail
    refine (HF.out _ ((Ext.refl _).alloc _)).mono ?_
    rintro e w2 ⟨rfl, hb⟩
    have HB : Hid (Ext w w2) := ((Ext.refl _).alloc _).trans hb
    obtain ⟨q, q0, q1, f0, f1⟩ := (IBox.new w _).ext hb
    clear hb
    go_wp2
    exact bodyPost_ret (v := ir (c, 0)) (by simp [results, Tryd.results20, go_sem, ir, q0, q1]) rfl ⟨rfl, HB.out.two _ _⟩
  · have hc1 : Tre.fault zs = 0 := by omega
    rw [Sm.rootV_ok hc1]
    rw [hc1] at HF
    have HR : Hid (∀ wx : World, Ext w wx → Calls Tryd.prog 56 #[.slice a zs.length cap] wx fun e w' => e = .returned (.int .i64 (Sm.root (zs.map Sm.leaf))) ∧ Ext wx w') := fun wx h => l3Root_any _ zs wx (HS.out.ext h) (Tre.fault_few hc1).1 (Tre.fault_few hc1).2 (fault_nodeC hc1)
    clear hc0 hc1
    generalize Sm.root (zs.map Sm.leaf) = r at *
    go_enter Tryd.func20, Tryd.ntmps20
    go_wp2_with fail
    refine (HF.out _ ((Ext.refl _).alloc _)).mono ?_
    rintro e w2 ⟨rfl, hb⟩
    have HB : Hid (Ext w w2) := ((Ext.refl _).alloc _).trans hb
    have HQ2 : Hid (IBox w2 w.heap.size) := (IBox.new w _).ext hb
    clear hb
    go_wp2_with fail
    refine (HR.out _ HB.out).mono ?_
    rintro e w3 ⟨rfl, hb⟩
    have HB3 : Hid (Ext w w3) := HB.out.trans hb
    obtain ⟨q, q0, q1, f0, f1⟩ := HQ2.out.ext hb
    clear hb
    go_wp2
    exact bodyPost_ret (v := ir (0, r)) (by simp [results, Tryd.results20, go_sem, ir, q0, q1]) rfl ⟨rfl, HB3.out.two _ _⟩

/-- How the row lies in a round of the climb. -/
def Climb (w : World) (B : Nat) (R : Int) (l : List Int) (wr : World) : Prop :=
  ∃ Rw f, RowV Rw l ∧ RowAt wr B Rw ∧ Sm.ok l = true ∧ l.length ≤ f ∧ Sm.rootF f l = R ∧ IBox wr w.heap.size ∧ Ext w wr

theorem climb_start {w w3 W : World} {R0 : List Value} {l0 : List Int} {r : Int} (hV : RowV R0 l0) (ho : Sm.ok l0 = true) (hr : r = Sm.rootF l0.length l0) (hq : IBox w3 w.heap.size) (he : Ext w w3) (hW : (w3.alloc (.cells zeroRow.toArray 87)).setCells w3.heap.size 0 R0 = W) : Climb w w3.heap.size r l0 W := by
  have e3 : Ext w3 W := by rw [← hW]; exact ext_setCells _ (Nat.le_refl _) _ _ _ ((Ext.refl _).alloc _)
  refine ⟨R0, l0.length, hV, ?_, ho, Nat.le_refl _, hr.symm, hq.ext e3, he.trans e3⟩
  rw [← hW]
  exact (RowAt.new w3 zeroRow _).stored (by simp [zeroRow, hV.1])
def manyAt (w : World) (B : Nat) : Nat := match w.cell? ⟨B, 0, none⟩ with
  | some (.int _ n) => n.toNat
  | _ => 0

theorem manyAt_climb {w wr : World} {B : Nat} {r : Int} {l : List Int} (h : Climb w B r l wr) : manyAt wr B = l.length := by
  obtain ⟨Rw, f, hV, hA, _⟩ := h
  unfold manyAt
  rw [(hA.cell hV.many).1]
  simp
theorem IBox.storedOther {w : World} {r b : Nat} {vs : List Value} (h : IBox w r) (hb : r ≠ b) : IBox (w.setCells b 0 vs) r := by
  obtain ⟨h1, h2, h3, h5, h6⟩ := h
  refine ⟨by rw [setCells_size]; exact h1, ?_, ?_, by rw [World.frozen?_setCells]; exact h5, by rw [World.frozen?_setCells]; exact h6⟩
  · rw [World.cell?_setCells_out b vs 0 w ⟨r, 0, none⟩ (fun e _ => absurd e hb)]; exact h2
  · rw [World.cell?_setCells_out b vs 0 w ⟨r, 1, none⟩ (fun e _ => absurd e hb)]; exact h3

set_option maxHeartbeats 2000000 in
set_option maxRecDepth 100000 in
theorem implRootOf_any (v : Value) (zs : List Zn) (w : World) (hg : Gd w) (hS : NSlice w v zs) :
    Calls Tryd.prog 22 #[v] w fun e w' => e = .returned (ir (Sm.rootV zs)) ∧ Ext w w' := by
  have HF : Hid (∀ wx : World, Ext w wx → Calls Tryd.prog 13 #[v] wx fun e w' => e = .returned (.int .i64 (Tre.fault zs)) ∧ Ext wx w') := fun wx h => implTreeFault_any v zs wx (hg.ext h) (hS.ext h)
  have HS : Hid (NSlice w v zs) := hS
  have HG : Hid (Gd w) := hg
  clear hg
  obtain ⟨a, cap, rfl, -⟩ := hS
  by_cases hc0 : Tre.fault zs ≠ 0
  · rw [Sm.rootV_bad rfl hc0]
    generalize Tre.fault zs = c at *
    go_enter Tryd.func22, Tryd.ntmps22
    go_wp2_with fail
    refine (HF.out _ ((Ext.refl _).alloc _)).mono ?_
    rintro e w2 ⟨rfl, hb⟩
    have HB : Hid (Ext w w2) := ((Ext.refl _).alloc _).trans hb
    obtain ⟨q, q0, q1, f0, f1⟩ := (IBox.new w _).ext hb
    clear hb
    go_wp2
    exact bodyPost_ret (v := ir (c, 0)) (by simp [results, Tryd.results22, go_sem, ir, q0, q1]) rfl ⟨rfl, HB.out.two _ _⟩
  · have hc1 : Tre.fault zs = 0 := by omega
    rw [Sm.rootV_ok hc1]
    rw [hc1] at HF
    have HL : Hid (∀ wx : World, Ext w wx → Calls Tryd.prog 57 #[.slice a zs.length cap] wx fun e w' => ∃ R : List Value, e = .returned (.agg R.toArray) ∧ RowV R (zs.map Sm.leaf) ∧ Ext wx w') := fun wx h => leavesOf_any _ zs wx (HG.out.ext h) (HS.out.ext h) (Tre.fault_few hc1).1 (fault_nodeC hc1)
    obtain ⟨l0, hl0⟩ : ∃ l0, l0 = zs.map Sm.leaf := ⟨_, rfl⟩
    have hl1 : 1 ≤ l0.length := by rw [hl0]; simpa using (Tre.fault_few hc1).2
    have HO0 : Hid (Sm.ok l0 = true) := by rw [hl0]; exact Sm.leaves_ok zs
    rw [← hl0] at HL ⊢
    clear hc0 hc1 hl0
    obtain ⟨r, hr⟩ : ∃ r, r = Sm.root l0 := ⟨_, rfl⟩
    rw [← hr]
    have HR : Hid (r = Sm.rootF l0.length l0) := hr
    clear hr
    go_enter Tryd.func22, Tryd.ntmps22
    go_wp2_with fail
    refine (HF.out _ ((Ext.refl _).alloc _)).mono ?_
    rintro e w2 ⟨rfl, hb⟩
    have HB : Hid (Ext w w2) := ((Ext.refl _).alloc _).trans hb
    have HQ2 : Hid (IBox w2 w.heap.size) := (IBox.new w _).ext hb
    clear hb
    go_wp2_with fail
    refine (HL.out _ HB.out).mono ?_
    rintro e w3 ⟨R0, rfl, hV0, hb⟩
    have HB3 : Hid (Ext w w3) := HB.out.trans hb
    have HQ3 : Hid (IBox w3 w.heap.size) := HQ2.out.ext hb
    have HV0 : Hid (RowV R0 l0) := hV0
    have hi21 : (Tryd.prog.info? 87).map (·.size) = some R0.toArray.size := by rw [rowInfo]; simp [hV0.1]
    have h1c : R0.toArray.all (·.oneCell') = true := all_oneCell_toArray hV0.2.2.2.2
    have HT : Hid ((w3.alloc (.cells zeroRow.toArray 87)).there w3.heap.size 0 R0.toArray.size) := by
      have h := (RowAt.new w3 zeroRow 87).there
      rw [show R0.toArray.size = zeroRow.length from by simp [hV0.1, zeroRow]]
      exact h
    clear hb hV0
    go_wp2_with (refine wpList_store_mid rfl 87 _ _ rfl w3.heap.size 0 R0.toArray rfl rfl HT.out hi21 h1c ?_; generalize hW : World.setCells _ _ _ _ = W; have HC : Hid (Climb w w3.heap.size r l0 W) := climb_start HV0.out HO0.out HR.out HQ3.out HB3.out hW; clear hW)
    clear HT hi21 h1c
    simp only [Act.put]
    have hw3 : w.heap.size ≤ w3.heap.size := HB3.out.size
    have hlt3 : w.heap.size ≠ w3.heap.size := by have := HQ3.out.1; omega
    go_loopw [] (fun wr => ∃ l : List Int, 1 ≤ l.length ∧ l.length ≤ 20 ∧ Hid (Climb w w3.heap.size r l wr)) (fun wr => manyAt wr w3.heap.size)
    case atStart => exact ⟨l0, hl1, HV0.out.2.1, HC.out⟩
    case round =>
      obtain ⟨l, hp, hq, HCl⟩ := hrel
      have hmr : manyAt wr w3.heap.size = l.length := manyAt_climb HCl.out
      obtain ⟨Rw, f, hV, hA, ho, hf, hrt, hQ, hE⟩ := HCl.out
      have c0 := (hA.cell hV.many).1
      by_cases hlt : 1 < l.length
      · have HAb : Hid (Calls Tryd.prog 58 #[.agg Rw.toArray] wr fun e w' => ∃ R' : List Value, e = .returned (.agg R'.toArray) ∧ RowV R' (Sm.up l) ∧ Ext wr w') := above_any Rw l wr hV hp ho
        have HRA : Hid (RowAt wr w3.heap.size Rw) := hA
        have hi22 : (Tryd.prog.info? 87).map (·.size) = some Rw.length := by rw [hV.1]; exact rowInfo
        have hRw : Rw.length = 21 := hV.1
        obtain ⟨f', hf1, hf2⟩ := Sm.rootF_step hlt hf
        have HF' : Hid (Sm.ok (Sm.up l) = true ∧ (Sm.up l).length ≤ f' ∧ Sm.rootF f' (Sm.up l) = r) := ⟨Sm.up_ok l ho, hf1, by rw [hf2]; exact hrt⟩
        have hul : (Sm.up l).length = (l.length + 1) / 2 := Sm.up_len l
        have HQE : Hid (IBox wr w.heap.size ∧ Ext w wr) := ⟨hQ, hE⟩
        clear hV hA ho hf hrt hQ hE hf1 hf2
        go_wp2_with (refine wpList_load_mid rfl 87 (.tmp 4) rfl w3.heap.size 0 rfl Rw _ HRA.out.2.1 Tryd.underlying87 rfl hi22 ?_)
        refine HAb.out.mono ?_
        rintro e w5 ⟨R5, rfl, hV5, hb5⟩
        have hi25 : (Tryd.prog.info? 87).map (·.size) = some R5.toArray.size := by rw [rowInfo]; simp [hV5.1]
        have h5c : R5.toArray.all (·.oneCell') = true := all_oneCell_toArray hV5.2.2.2.2
        have HT5 : Hid (w5.there w3.heap.size 0 R5.toArray.size) := by
          have h := (HRA.out.ext hb5).there
          rw [show R5.toArray.size = Rw.length from by simp [hV5.1, hRw]]
          exact h
        have HK5 : Hid (∀ W, w5.setCells w3.heap.size 0 R5 = W → Climb w w3.heap.size r (Sm.up l) W) := fun W hW => by
          rw [← hW]
          refine ⟨R5, f', hV5, (HRA.out.ext hb5).stored (by rw [hV5.1, hRw]), HF'.out.1, HF'.out.2.1, HF'.out.2.2, ?_, ext_setCells _ hw3 _ _ _ (HQE.out.2.trans hb5)⟩
          exact (HQE.out.1.ext hb5).storedOther hlt3
        clear hV5 hb5
        go_wp2_with (refine wpList_store_mid rfl 87 _ _ rfl w3.heap.size 0 R5.toArray rfl rfl HT5.out hi25 h5c ?_; generalize hW : World.setCells _ _ _ _ = W5; have HC5 : Hid (Climb w w3.heap.size r (Sm.up l) W5) := HK5.out W5 hW; clear hW)
        exact ⟨⟨_, _, _, _, _, ⟨Sm.up l, by omega, by omega, HC5⟩, rfl⟩, by rw [hmr, manyAt_climb HC5.out, hul]; omega⟩
      · obtain ⟨x, rfl⟩ : ∃ x, l = [x] := by
          match l, hp, hlt with
          | [x], _, _ => exact ⟨x, rfl⟩
          | [], hp, _ => simp at hp
          | _ :: _ :: _, _, hlt => simp at hlt
        have hRx : r = x := by rw [← hrt, Sm.rootF_end (by simp)]; rfl
        have cx := (hA.cell (hV.at (j := 0) rfl)).1
        obtain ⟨hx0, hx1⟩ := Sm.ok_at (k := 0) rfl ho
        subst hRx
        have wx : IntKind.i64.wrap r = r := by rw [IntKind.wrap_i64]; omega
        have HE : Hid (Ext w wr) := hE
        obtain ⟨q, q0, q1, f0, f1⟩ := hQ
        clear hV hA ho hf hrt hE hmr
        simp only [List.length_cons, List.length_nil, Nat.zero_add] at c0
        go_wp2
        exact bodyPost_ret (v := ir (0, r)) (by simp [results, Tryd.results22, go_sem, ir, q0, q1]) rfl ⟨rfl, HE.out.two _ _⟩
end Go.Proofs.YtbapllhdkckdjaaDoor
