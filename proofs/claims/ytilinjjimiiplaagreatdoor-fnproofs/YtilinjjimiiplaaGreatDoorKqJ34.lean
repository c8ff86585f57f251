/- V12, V6, V14, in one text. -/
import Derived.Test.YtilinjjimiiplaaGreatDoorKqV10
import Derived.Test.YtilinjjimiiplaaGreatDoorKqV11
import Derived.Test.YtilinjjimiiplaaGreatDoorKqJ14
import Derived.Test.YtilinjjimiiplaaGreatDoorKqV4
import Derived.Test.YtilinjjimiiplaaGreatDoorKqJ6
namespace Go.Proofs.YtilinjjimiiplaaGreatDoor
open Go.RowKit
namespace Tre
theorem fault_few {zs : List Zn} (h1 : fault zs = 0) : zs.length ≤ 20 ∧ 1 ≤ zs.length := by
  refine ⟨(fault_nodes h1).1, ?_⟩
  rcases atI_range zs top with ⟨hm, _⟩ | ⟨k, z, _, hk, _, _⟩
  · have := (fault_hang h1).1; omega
  · omega
end Tre
theorem fault_nodeC {zs : List Zn} (h1 : Tre.fault zs = 0) : ∀ z ∈ zs, Sm.nodeC z = 0 := fun z hz => by
  obtain ⟨h2, h3⟩ := Tre.fault_nums h1 z hz
  rw [Sm.nodeC_nums h2 h3]; rfl
def Sm.rootV (zs : List Zn) : Int × Int := if Tre.fault zs ≠ 0 then (Tre.fault zs, 0) else (0, Sm.root (zs.map Sm.leaf))
theorem Sm.rootV_bad {zs : List Zn} {c : Int} (h : Tre.fault zs = c) (hc : c ≠ 0) : Sm.rootV zs = (c, 0) := by unfold Sm.rootV; rw [h, if_pos hc]
theorem Sm.rootV_ok {zs : List Zn} (h : Tre.fault zs = 0) : Sm.rootV zs = (0, Sm.root (zs.map Sm.leaf)) := by unfold Sm.rootV; rw [h, if_neg (by decide)]

set_option maxHeartbeats 2000000 in
set_option maxRecDepth 100000 in
theorem specRootOf_any (v : Value) (zs : List Zn) (w : World) (hS : NSlice w v zs) :
    Calls Tryz.prog 13 #[v] w fun e w' => e = .returned (ir (Sm.rootV zs)) ∧ Ext w w' := by
  have HF : Hid (∀ wx : World, Ext w wx → Calls Tryz.prog 37 #[v] wx fun e w' => e = .returned (.int .i64 (Tre.fault zs)) ∧ Ext wx w') := fun wx h => l2Fault_any v zs wx (hS.ext h)
  have HS : Hid (NSlice w v zs) := hS
  obtain ⟨a, cap, rfl, -⟩ := hS
  by_cases hc0 : Tre.fault zs ≠ 0
  · rw [Sm.rootV_bad rfl hc0]
    generalize Tre.fault zs = c at *
    go_enter Tryz.func13, Tryz.ntmps13
    go_wp2_with fail
    refine (HF.out _ ((Ext.refl _).alloc _)).mono ?_
    rintro e w2 ⟨rfl, hb⟩
    have HB : Hid (Ext w w2) := ((Ext.refl _).alloc _).trans hb
    obtain ⟨q, q0, q1, f0, f1⟩ := (IBox.new w _).ext hb
    clear hb
    go_wp2
    exact bodyPost_ret (v := ir (c, 0)) (by simp [results, Tryz.results13, go_sem, ir, q0, q1]) rfl ⟨rfl, HB.out.two _ _⟩
  · have hc1 : Tre.fault zs = 0 := by omega
    rw [Sm.rootV_ok hc1]
    rw [hc1] at HF
    have HR : Hid (∀ wx : World, Ext w wx → Calls Tryz.prog 31 #[.slice a zs.length cap] wx fun e w' => e = .returned (.int .i64 (Sm.root (zs.map Sm.leaf))) ∧ Ext wx w') := fun wx h => l3Root_any _ zs wx (HS.out.ext h) (Tre.fault_few hc1).1 (Tre.fault_few hc1).2 (fault_nodeC hc1)
    clear hc0 hc1
    generalize Sm.root (zs.map Sm.leaf) = r at *
    go_enter Tryz.func13, Tryz.ntmps13
    go_wp2_with fail
    refine (HF.out _ ((Ext.refl _).alloc _)).mono ?_
    rintro e w2 ⟨rfl, hb⟩
    have HB : Hid (Ext w w2) := ((Ext.refl _).alloc _).trans hb
    have HQ2 : Hid (IBox w2 w.heap.size) := (IBox.new w _).ext hb
    clear hb
    go_wp2_with fail
    refine (HR.out _ HB.out).mono ?_
    rintro e w3 ⟨rfl, hb⟩
    have HB3 : Hid (Ext w w3) := HB.out.trans hb
    obtain ⟨q, q0, q1, f0, f1⟩ := HQ2.out.ext hb
    clear hb
    go_wp2
    exact bodyPost_ret (v := ir (0, r)) (by simp [results, Tryz.results13, go_sem, ir, q0, q1]) rfl ⟨rfl, HB3.out.two _ _⟩

/-- How the row lies in a round of the climb. -/
def Climb (w : World) (B : Nat) (R : Int) (l : List Int) (wr : World) : Prop :=
  ∃ Rw f, RowV Rw l ∧ RowAt wr B Rw ∧ Sm.ok l = true ∧ l.length ≤ f ∧ Sm.rootF f l = R ∧ IBox wr w.heap.size ∧ Ext w wr

theorem climb_start {w w3 W : World} {R0 : List Value} {l0 : List Int} {r : Int} (hV : RowV R0 l0) (ho : Sm.ok l0 = true) (hr : r = Sm.rootF l0.length l0) (hq : IBox w3 w.heap.size) (he : Ext w w3) (hW : (w3.alloc (.cells zeroRow.toArray 50)).setCells w3.heap.size 0 R0 = W) : Climb w w3.heap.size r l0 W := by
  have e3 : Ext w3 W := by rw [← hW]; exact ext_setCells _ (Nat.le_refl _) _ _ _ ((Ext.refl _).alloc _)
  refine ⟨R0, l0.length, hV, ?_, ho, Nat.le_refl _, hr.symm, hq.ext e3, he.trans e3⟩
  rw [← hW]
  exact (RowAt.new w3 zeroRow _).stored (by simp [zeroRow, hV.1])
def manyAt (w : World) (B : Nat) : Nat := match w.cell? ⟨B, 0, none⟩ with
  | some (.int _ n) => n.toNat
  | _ => 0

theorem manyAt_climb {w wr : World} {B : Nat} {r : Int} {l : List Int} (h : Climb w B r l wr) : manyAt wr B = l.length := by
  obtain ⟨Rw, f, hV, hA, _⟩ := h
  unfold manyAt
  rw [(hA.cell hV.many).1]
  simp
theorem IBox.storedOther {w : World} {r b : Nat} {vs : List Value} (h : IBox w r) (hb : r ≠ b) : IBox (w.setCells b 0 vs) r := by
  obtain ⟨h1, h2, h3, h5, h6⟩ := h
  refine ⟨by rw [setCells_size]; exact h1, ?_, ?_, by rw [World.frozen?_setCells]; exact h5, by rw [World.frozen?_setCells]; exact h6⟩
  · rw [World.cell?_setCells_out b vs 0 w ⟨r, 0, none⟩ (fun e _ => absurd e hb)]; exact h2
  · rw [World.cell?_setCells_out b vs 0 w ⟨r, 1, none⟩ (fun e _ => absurd e hb)]; exact h3

set_option maxHeartbeats 2000000 in
set_option maxRecDepth 100000 in
theorem implRootOf_any (v : Value) (zs : List Zn) (w : World) (hg : Gd w) (hS : NSlice w v zs) :
    Calls Tryz.prog 9 #[v] w fun e w' => e = .returned (ir (Sm.rootV zs)) ∧ Ext w w' := by
  have HF : Hid (∀ wx : World, Ext w wx → Calls Tryz.prog 26 #[v] wx fun e w' => e = .returned (.int .i64 (Tre.fault zs)) ∧ Ext wx w') := fun wx h => implTreeFault_any v zs wx (hg.ext h) (hS.ext h)
  have HS : Hid (NSlice w v zs) := hS
  have HG : Hid (Gd w) := hg
  clear hg
  obtain ⟨a, cap, rfl, -⟩ := hS
  by_cases hc0 : Tre.fault zs ≠ 0
  · rw [Sm.rootV_bad rfl hc0]
    generalize Tre.fault zs = c at *
    go_enter Tryz.func9, Tryz.ntmps9
    go_wp2_with fail
    refine (HF.out _ ((Ext.refl _).alloc _)).mono ?_
    rintro e w2 ⟨rfl, hb⟩
    have HB : Hid (Ext w w2) := ((Ext.refl _).alloc _).trans hb
    obtain ⟨q, q0, q1, f0, f1⟩ := (IBox.new w _).ext hb
    clear hb
    go_wp2
    exact bodyPost_ret (v := ir (c, 0)) (by simp [results, Tryz.results9, go_sem, ir, q0, q1]) rfl ⟨rfl, HB.out.two _ _⟩
  · have hc1 : Tre.fault zs = 0 := by omega
    rw [Sm.rootV_ok hc1]
    rw [hc1] at HF
    have HL : Hid (∀ wx : World, Ext w wx → Calls Tryz.prog 18 #[.slice a zs.length cap] wx fun e w' => ∃ R : List Value, e = .returned (.agg R.toArray) ∧ RowV R (zs.map Sm.leaf) ∧ Ext wx w') := fun wx h => leavesOf_any _ zs wx (HG.out.ext h) (HS.out.ext h) (Tre.fault_few hc1).1 (fault_nodeC hc1)
    obtain ⟨l0, hl0⟩ : ∃ l0, l0 = zs.map Sm.leaf := ⟨_, rfl⟩
    have hl1 : 1 ≤ l0.length := by rw [hl0]; simpa using (Tre.fault_few hc1).2
    have HO0 : Hid (Sm.ok l0 = true) := by rw [hl0]; exact Sm.leaves_ok zs
    rw [← hl0] at HL ⊢
    clear hc0 hc1 hl0
    obtain ⟨r, hr⟩ : ∃ r, r = Sm.root l0 := ⟨_, rfl⟩
    rw [← hr]
    have HR : Hid (r = Sm.rootF l0.length l0) := hr
    clear hr
    go_enter Tryz.func9, Tryz.ntmps9
    go_wp2_with fail
    refine (HF.out _ ((Ext.refl _).alloc _)).mono ?_
    rintro e w2 ⟨rfl, hb⟩
    have HB : Hid (Ext w w2) := ((Ext.refl _).alloc _).trans hb
    have HQ2 : Hid (IBox w2 w.heap.size) := (IBox.new w _).ext hb
    clear hb
    go_wp2_with fail
    refine (HL.out _ HB.out).mono ?_
    rintro e w3 ⟨R0, rfl, hV0, hb⟩
    have HB3 : Hid (Ext w w3) := HB.out.trans hb
    have HQ3 : Hid (IBox w3 w.heap.size) := HQ2.out.ext hb
    have HV0 : Hid (RowV R0 l0) := hV0
    have hi21 : (Tryz.prog.info? 50).map (·.size) = some R0.toArray.size := by rw [rowInfo]; simp [hV0.1]
    have h1c : R0.toArray.all (·.oneCell') = true := all_oneCell_toArray hV0.2.2.2.2
    have HT : Hid ((w3.alloc (.cells zeroRow.toArray 50)).there w3.heap.size 0 R0.toArray.size) := by
      have h := (RowAt.new w3 zeroRow 50).there
      rw [show R0.toArray.size = zeroRow.length from by simp [hV0.1, zeroRow]]
      exact h
    clear hb hV0
    go_wp2_with (refine wpList_store_mid rfl 50 _ _ rfl w3.heap.size 0 R0.toArray rfl rfl HT.out hi21 h1c ?_; generalize hW : World.setCells _ _ _ _ = W; have HC : Hid (Climb w w3.heap.size r l0 W) := climb_start HV0.out HO0.out HR.out HQ3.out HB3.out hW; clear hW)
    clear HT hi21 h1c
    simp only [Act.put]
    have hw3 : w.heap.size ≤ w3.heap.size := HB3.out.size
    have hlt3 : w.heap.size ≠ w3.heap.size := by have := HQ3.out.1; omega
    go_loopw [] (fun wr => ∃ l : List Int, 1 ≤ l.length ∧ l.length ≤ 20 ∧ Hid (Climb w w3.heap.size r l wr)) (fun wr => manyAt wr w3.heap.size)
    case atStart => exact ⟨l0, hl1, HV0.out.2.1, HC.out⟩
    case round =>
      obtain ⟨l, hp, hq, HCl⟩ := hrel
      have hmr : manyAt wr w3.heap.size = l.length := manyAt_climb HCl.out
      obtain ⟨Rw, f, hV, hA, ho, hf, hrt, hQ, hE⟩ := HCl.out
      have c0 := (hA.cell hV.many).1
      by_cases hlt : 1 < l.length
      · have HAb : Hid (Calls Tryz.prog 27 #[.agg Rw.toArray] wr fun e w' => ∃ R' : List Value, e = .returned (.agg R'.toArray) ∧ RowV R' (Sm.up l) ∧ Ext wr w') := above_any Rw l wr hV hp ho
        have HRA : Hid (RowAt wr w3.heap.size Rw) := hA
        have hi22 : (Tryz.prog.info? 50).map (·.size) = some Rw.length := by rw [hV.1]; exact rowInfo
        have hRw : Rw.length = 21 := hV.1
        obtain ⟨f', hf1, hf2⟩ := Sm.rootF_step hlt hf
        have HF' : Hid (Sm.ok (Sm.up l) = true ∧ (Sm.up l).length ≤ f' ∧ Sm.rootF f' (Sm.up l) = r) := ⟨Sm.up_ok l ho, hf1, by rw [hf2]; exact hrt⟩
        have hul : (Sm.up l).length = (l.length + 1) / 2 := Sm.up_len l
        have HQE : Hid (IBox wr w.heap.size ∧ Ext w wr) := ⟨hQ, hE⟩
        clear hV hA ho hf hrt hQ hE hf1 hf2
        go_wp2_with (refine wpList_load_mid rfl 50 (.tmp 4) rfl w3.heap.size 0 rfl Rw _ HRA.out.2.1 Tryz.underlying50 rfl hi22 ?_)
        refine HAb.out.mono ?_
        rintro e w5 ⟨R5, rfl, hV5, hb5⟩
        have hi25 : (Tryz.prog.info? 50).map (·.size) = some R5.toArray.size := by rw [rowInfo]; simp [hV5.1]
        have h5c : R5.toArray.all (·.oneCell') = true := all_oneCell_toArray hV5.2.2.2.2
        have HT5 : Hid (w5.there w3.heap.size 0 R5.toArray.size) := by
          have h := (HRA.out.ext hb5).there
          rw [show R5.toArray.size = Rw.length from by simp [hV5.1, hRw]]
          exact h
        have HK5 : Hid (∀ W, w5.setCells w3.heap.size 0 R5 = W → Climb w w3.heap.size r (Sm.up l) W) := fun W hW => by
          rw [← hW]
          refine ⟨R5, f', hV5, (HRA.out.ext hb5).stored (by rw [hV5.1, hRw]), HF'.out.1, HF'.out.2.1, HF'.out.2.2, ?_, ext_setCells _ hw3 _ _ _ (HQE.out.2.trans hb5)⟩
          exact (HQE.out.1.ext hb5).storedOther hlt3
        clear hV5 hb5
        go_wp2_with (refine wpList_store_mid rfl 50 _ _ rfl w3.heap.size 0 R5.toArray rfl rfl HT5.out hi25 h5c ?_; generalize hW : World.setCells _ _ _ _ = W5; have HC5 : Hid (Climb w w3.heap.size r (Sm.up l) W5) := HK5.out W5 hW; clear hW)
        exact ⟨⟨_, _, _, _, _, ⟨Sm.up l, by omega, by omega, HC5⟩, rfl⟩, by rw [hmr, manyAt_climb HC5.out, hul]; omega⟩
      · obtain ⟨x, rfl⟩ : ∃ x, l = [x] := by
          match l, hp, hlt with
          | [x], _, _ => exact ⟨x, rfl⟩
          | [], hp, _ => simp at hp
          | _ :: _ :: _, _, hlt => simp at hlt
        have hRx : r = x := by rw [← hrt, Sm.rootF_end (by simp)]; rfl
        have cx := (hA.cell (hV.at (j := 0) rfl)).1
        obtain ⟨hx0, hx1⟩ := Sm.ok_at (k := 0) rfl ho
        subst hRx
        have wx : IntKind.i64.wrap r = r := by rw [IntKind.wrap_i64]; omega
        have HE : Hid (Ext w wr) := hE
        obtain ⟨q, q0, q1, f0, f1⟩ := hQ
        clear hV hA ho hf hrt hE hmr
        simp only [List.length_cons, List.length_nil, Nat.zero_add] at c0
        go_wp2
        exact bodyPost_ret (v := ir (0, r)) (by simp [results, Tryz.results9, go_sem, ir, q0, q1]) rfl ⟨rfl, HE.out.two _ _⟩
end Go.Proofs.YtilinjjimiiplaaGreatDoor
namespace Go.Proofs.YtilinjjimiiplaaGreatDoor
open Go.RowKit
structure Sd where
  left : Bool
  sum : Int
def sagg (s : Sd) : Value := .agg #[.bool s.left, .int .i64 s.sum]
/-- The sides l lie in block b, from off on. -/
def SidesAt (w : World) (b off : Nat) (l : List Sd) : Prop := ∀ (i : Nat) s, l[i]? = some s → w.cell? ⟨b, off + i * 2, none⟩ = some (.bool s.left) ∧ w.cell? ⟨b, off + i * 2 + 1, none⟩ = some (.int .i64 s.sum)
theorem SidesAt.ext {w w' : World} {b off : Nat} {l : List Sd} (h : SidesAt w b off l) (hb : b < w.heap.size) (he : Ext w w') : SidesAt w' b off l := by
  intro i s hs
  obtain ⟨h1, h2⟩ := h i s hs
  exact ⟨((Ext.cell he).1 _ _ hb).trans h1, ((Ext.cell he).1 _ _ hb).trans h2⟩
/-- The slice value v reads as the sides l. -/
def SSlice (w : World) (v : Value) (l : List Sd) : Prop :=
  ∃ a cap, v = .slice a l.length cap ∧ l.length ≤ cap ∧ cap ≤ maxLen ∧ (0 < l.length → ∃ b off, a = some ⟨b, off, none⟩ ∧ b < w.heap.size ∧ SidesAt w b off l)
theorem SSlice.ext {w w' : World} {v : Value} {l : List Sd} (h : SSlice w v l) (he : Ext w w') : SSlice w' v l := by
  obtain ⟨a, cap, h1, h2, h3, h4⟩ := h
  refine ⟨a, cap, h1, h2, h3, fun h0 => ?_⟩
  obtain ⟨b, off, e, hb, hN⟩ := h4 h0
  exact ⟨b, off, e, Nat.lt_of_lt_of_le hb he.size, hN.ext hb he⟩

/-- Block g holds room for n cells from off on, and may be written there. -/
def SRoom (w : World) (g off n : Nat) : Prop := g < w.heap.size ∧ ∀ j, j < n * 2 → (∃ u, w.cell? ⟨g, off + j, none⟩ = some u) ∧ w.frozen? ⟨g, off + j, none⟩ = false
def putS (w : World) (g o : Nat) (s : Sd) : World := (w.setCell ⟨g, o, none⟩ (.bool s.left)).setCell ⟨g, o + 1, none⟩ (.int .i64 s.sum)
theorem putS_ne (w : World) (g o b k : Nat) (s : Sd) (h : g ≠ b ∨ k < o ∨ o + 2 ≤ k) : (putS w g o s).cell? ⟨b, k, none⟩ = w.cell? ⟨b, k, none⟩ := by
  unfold putS
  rw [iset_ne _ _ _ _ _ _ (by omega), iset_ne _ _ _ _ _ _ (by omega)]
theorem putS_eq (w : World) (g o : Nat) (s : Sd) (h : ∀ j, j < 2 → ∃ u, w.cell? ⟨g, o + j, none⟩ = some u) :
    (putS w g o s).cell? ⟨g, o, none⟩ = some (.bool s.left) ∧ (putS w g o s).cell? ⟨g, o + 1, none⟩ = some (.int .i64 s.sum) := by
  unfold putS
  refine ⟨?_, ?_⟩
  · rw [iset_ne _ _ _ _ _ _ (by omega)]; exact iset_eq _ _ _ _ (h 0 (by omega))
  · apply iset_eq; rw [iset_ne _ _ _ _ _ _ (by omega)]; exact h 1 (by omega)
theorem SRoom.put {w : World} {g off n k : Nat} (h : SRoom w g off n) (s : Sd) (hk : k < n) : SRoom (putS w g (off + k * 2) s) g off n := by
  refine ⟨by simpa [putS] using h.1, fun j hj => ⟨?_, by simpa [putS] using (h.2 j hj).2⟩⟩
  obtain ⟨q0, q1⟩ := putS_eq w g (off + k * 2) s (fun i hi => by rw [Nat.add_assoc]; exact (h.2 (k * 2 + i) (by omega)).1)
  by_cases hh : off + j < off + k * 2 ∨ off + k * 2 + 2 ≤ off + j
  · rw [putS_ne _ _ _ _ _ _ (Or.inr hh)]; exact (h.2 j hj).1
  · have hj5 : j = k * 2 ∨ j = k * 2 + 1 := by omega
    rcases hj5 with e | e <;> subst e
    · exact ⟨_, q0⟩
    · exact ⟨_, q1⟩
theorem SRoom.ext {w w' : World} {g off n : Nat} (h : SRoom w g off n) (he : Ext w w') : SRoom w' g off n := by
  obtain ⟨hc, hf⟩ := Ext.cell he
  exact ⟨Nat.lt_of_lt_of_le h.1 he.size, fun j hj => ⟨by rw [hc _ _ h.1]; exact (h.2 j hj).1, by rw [hf _ _ h.1]; exact (h.2 j hj).2⟩⟩
theorem SidesAt.put {w : World} {g off n k : Nat} {l : List Sd} {s : Sd} (hr : SRoom w g off n) (hk : k < n) (hz : l[k]? = some s) (h : SidesAt w g off (l.take k)) : SidesAt (putS w g (off + k * 2) s) g off (l.take (k + 1)) := by
  intro i z' hi
  rw [List.getElem?_take] at hi
  split at hi
  · by_cases hik : i = k
    · subst hik
      rw [hz] at hi
      cases hi
      exact putS_eq w g (off + i * 2) s (fun j hj => by rw [Nat.add_assoc]; exact (hr.2 (i * 2 + j) (by omega)).1)
    · obtain ⟨c0, c1⟩ := h i z' (by rw [List.getElem?_take, if_pos (by omega)]; exact hi)
      exact ⟨by rw [putS_ne _ _ _ _ _ _ (by omega)]; exact c0, by rw [putS_ne _ _ _ _ _ _ (by omega)]; exact c1⟩
  · cases hi
end Go.Proofs.YtilinjjimiiplaaGreatDoor
namespace Go.Proofs.YtilinjjimiiplaaGreatDoor
open Go.RowKit
theorem SidesAt.upd {w w' : World} {g off b : Nat} {ts : List Sd} (h : SidesAt w g off ts) (he : Upd b w w') (hne : g ≠ b) (hg : g < w.heap.size) : SidesAt w' g off ts :=
  fun i t ht => ⟨(he.at_ne _ _ hne hg).1.trans (h i t ht).1, (he.at_ne _ _ hne hg).1.trans (h i t ht).2⟩
theorem SRoom.upd {w w' : World} {g off n b : Nat} (h : SRoom w g off n) (he : Upd b w w') (hne : g ≠ b) : SRoom w' g off n :=
  ⟨Nat.lt_of_lt_of_le h.1 he.2.1, fun j hj => ⟨by rw [(he.at_ne _ _ hne h.1).1]; exact (h.2 j hj).1, by rw [(he.at_ne _ _ hne h.1).2]; exact (h.2 j hj).2⟩⟩
def SOwn (w : World) (v : Value) (g : Nat) (ts : List Sd) : Prop :=
  ∃ a cap, v = .slice a ts.length cap ∧ ts.length ≤ cap ∧ cap ≤ maxLen ∧ (0 < ts.length → ∃ off, a = some ⟨g, off, none⟩ ∧ SRoom w g off ts.length ∧ SidesAt w g off ts)
theorem SOwn.slice {w : World} {v : Value} {g : Nat} {ts : List Sd} (h : SOwn w v g ts) : SSlice w v ts := by
  obtain ⟨a, cap, h1, h2, h3, h4⟩ := h
  refine ⟨a, cap, h1, h2, h3, fun h0 => ?_⟩
  obtain ⟨off, e, hr, hN⟩ := h4 h0
  exact ⟨g, off, e, hr.1, hN⟩
theorem SOwn.ext {w w' : World} {v : Value} {g : Nat} {ts : List Sd} (h : SOwn w v g ts) (he : Ext w w') : SOwn w' v g ts := by
  obtain ⟨a, cap, h1, h2, h3, h4⟩ := h
  refine ⟨a, cap, h1, h2, h3, fun h0 => ?_⟩
  obtain ⟨off, e, hr, hN⟩ := h4 h0
  exact ⟨off, e, hr.ext he, hN.ext hr.1 he⟩
theorem SOwn.lt {w : World} {v : Value} {g : Nat} {ts : List Sd} (h : SOwn w v g ts) (h0 : 0 < ts.length) : g < w.heap.size := by
  obtain ⟨a, cap, -, -, -, h4⟩ := h
  obtain ⟨off, -, hr, -⟩ := h4 h0
  exact hr.1
theorem SOwn.nil {w w' : World} {v : Value} {g g' : Nat} {ts : List Sd} (h : SOwn w v g ts) (h0 : ¬ 0 < ts.length) : SOwn w' v g' ts := by
  obtain ⟨a, cap, h1, h2, h3, -⟩ := h
  exact ⟨a, cap, h1, h2, h3, fun h => absurd h h0⟩
theorem SOwn.upd' {w w' : World} {v : Value} {g b : Nat} {ts : List Sd} (h : SOwn w v g ts) (he : Upd b w w') (hne : 0 < ts.length → g ≠ b) : SOwn w' v g ts := by
  by_cases h0 : 0 < ts.length
  · obtain ⟨a, cap, h1, h2, h3, h4⟩ := h
    refine ⟨a, cap, h1, h2, h3, fun _ => ?_⟩
    obtain ⟨off, e, hr, hN⟩ := h4 h0
    exact ⟨off, e, hr.upd he (hne h0), hN.upd he (hne h0) hr.1⟩
  · exact h.nil h0
def smark (k : Nat) : Sd := ⟨((k : Int) % 3 == 0), (k + 1 : Nat)⟩
def smarks (k n : Nat) : List Sd := (List.range n).map fun i => smark (k + 2 * i)
/-- A ProofResult as a value. -/
def pr (c n : Int) (v : Value) : Value := .agg #[.int .i64 c, .int .i64 n, v]

/-- A ProofResult of code c and texts rs came back, its texts in new memory. -/
def PRet (w : World) (c n : Int) (rs : List Sd) (e : Ending) (w' : World) : Prop :=
  ∃ v g, e = .returned (pr c n v) ∧ w.heap.size ≤ g ∧ SOwn w' v g rs ∧ Ext w w'
/-- Block b holds a ProofResult. -/
def PBoxAt (w : World) (b : Nat) (c n : Int) (v : Value) : Prop :=
  b < w.heap.size ∧ w.cell? ⟨b, 0, none⟩ = some (.int .i64 c) ∧ w.cell? ⟨b, 1, none⟩ = some (.int .i64 n) ∧ w.cell? ⟨b, 2, none⟩ = some v
theorem PBoxAt.ext {w w' : World} {b : Nat} {c n : Int} {v : Value} (h : PBoxAt w b c n v) (he : Ext w w') : PBoxAt w' b c n v := by
  obtain ⟨hc, _⟩ := Ext.cell he
  exact ⟨Nat.lt_of_lt_of_le h.1 he.size, (hc _ _ h.1).trans h.2.1, (hc _ _ h.1).trans h.2.2.1, (hc _ _ h.1).trans h.2.2.2⟩
theorem PBoxAt.upd {w w' : World} {b g : Nat} {c n : Int} {v : Value} (h : PBoxAt w b c n v) (he : Upd g w w') (hne : b ≠ g) : PBoxAt w' b c n v :=
  ⟨Nat.lt_of_lt_of_le h.1 he.2.1, (he.at_ne _ _ hne h.1).1.trans h.2.1, (he.at_ne _ _ hne h.1).1.trans h.2.2.1, (he.at_ne _ _ hne h.1).1.trans h.2.2.2⟩
theorem pbox_new (w : World) (c n : Int) (v : Value) (t : TypeId) : PBoxAt (w.alloc (.cells #[.int .i64 c, .int .i64 n, v] t)) w.heap.size c n v :=
  ⟨by simp, by simp, by simp, by simp⟩

end Go.Proofs.YtilinjjimiiplaaGreatDoor
