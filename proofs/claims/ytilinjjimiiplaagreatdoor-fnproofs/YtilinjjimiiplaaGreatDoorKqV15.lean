/- the sides of a proof: the program's sidesAt. -/
import Derived.Test.YtilinjjimiiplaaGreatDoorKqJ34
import Derived.Deep.Onto
namespace Go.Proofs.YtilinjjimiiplaaGreatDoor
open Go.RowKit
def Sm.sideAt (i : Nat) (l : List Int) : List Sd := if i % 2 = 1 then [⟨true, l.getD (i - 1) 0⟩] else if i + 1 < l.length then [⟨false, l.getD (i + 1) 0⟩] else []
def Sm.sidesF : Nat → Nat → List Int → List Sd
  | 0, _, _ => []
  | f + 1, i, l => if 1 < l.length then Sm.sideAt i l ++ Sm.sidesF f (i / 2) (Sm.up l) else []
theorem Sm.sidesF_end {f i : Nat} {l : List Int} (h : ¬ 1 < l.length) : Sm.sidesF f i l = [] := by
  cases f with
  | zero => rfl
  | succ f => rw [Sm.sidesF, if_neg h]
theorem Sm.sidesF_step {f i : Nat} {l : List Int} (h : 1 < l.length) (hf : l.length ≤ f) : ∃ f', (Sm.up l).length ≤ f' ∧ Sm.sidesF f i l = Sm.sideAt i l ++ Sm.sidesF f' (i / 2) (Sm.up l) ∧ f' < f := by
  obtain ⟨f', rfl⟩ : ∃ f', f = f' + 1 := ⟨f - 1, by omega⟩
  refine ⟨f', by rw [Sm.up_len]; omega, ?_, by omega⟩
  rw [Sm.sidesF, if_pos h]
theorem Sm.sideAt_len (i : Nat) (l : List Int) : (Sm.sideAt i l).length ≤ 1 := by unfold Sm.sideAt; split <;> (try split) <;> simp
theorem Sm.sidesF_len : ∀ (f i : Nat) (l : List Int), (Sm.sidesF f i l).length ≤ f
  | 0, _, _ => by simp [Sm.sidesF]
  | f + 1, i, l => by
    rw [Sm.sidesF]
    split
    · have := Sm.sidesF_len f (i / 2) (Sm.up l)
      have := Sm.sideAt_len i l
      rw [List.length_append]
      omega
    · simp
theorem Sm.half_lt {i : Nat} {l : List Int} (h : i < l.length) : i / 2 < (Sm.up l).length := by rw [Sm.up_len]; omega
def cellsS (l : List Sd) : List Value := l.flatMap fun s => [.bool s.left, .int .i64 s.sum]
theorem cellsS_app (l m : List Sd) : cellsS (l ++ m) = cellsS l ++ cellsS m := by simp [cellsS]
theorem cellsS_len (l : List Sd) : (cellsS l).length = l.length * 2 := by
  induction l with
  | nil => rfl
  | cons s r ih => simp only [cellsS, List.flatMap_cons, List.length_append, List.length_cons, List.length_nil] at ih ⊢; omega
theorem cellsS_at : ∀ (l : List Sd) (i : Nat) (s : Sd), l[i]? = some s → (cellsS l)[i * 2]? = some (.bool s.left) ∧ (cellsS l)[i * 2 + 1]? = some (.int .i64 s.sum)
  | s :: r, 0, t, h => by simp at h; subst h; exact ⟨rfl, rfl⟩
  | s :: r, i + 1, t, h => by
    simp only [List.getElem?_cons_succ] at h
    have := cellsS_at r i t h
    rw [show (i + 1) * 2 = i * 2 + 1 + 1 from by omega]
    exact this
  | [], i, t, h => by simp at h
/-- Sides in memory of their own. -/
theorem sown_of_owns {w : World} {base : Nat} {v : Value} {l : List Sd} (h : w.ownsRow base 59 2 v l.length (cellsS l)) : ∃ g, base ≤ g ∧ SOwn w v g l := by
  have hlt := h.lt
  rcases h.2 with ⟨hv, h0⟩ | ⟨g, cap, cur, hv, hb, hh, hn, hm, hcs, htk⟩
  · exact ⟨base, Nat.le_refl _, none, 0, by rw [hv, h0], by omega, by unfold maxLen; omega, fun h => by omega⟩
  · subst hv
    refine ⟨g, hb, some ⟨g, 0, none⟩, cap, rfl, hn, hm, fun h0 => ⟨0, rfl, ⟨(hlt g rfl).2, fun j hj => ⟨?_, h.frozenAt _⟩⟩, fun i s hs => ?_⟩⟩
    · have hj' : j < (cellsS l).length := by rw [cellsS_len]; exact hj
      rw [Nat.zero_add]
      exact ⟨(cellsS l)[j], by rw [h.cellAt j hj, List.getElem?_eq_getElem hj']⟩
    · obtain ⟨h1, h2⟩ := cellsS_at l i s hs
      have hi := (List.getElem?_eq_some_iff.1 hs).1
      rw [Nat.zero_add]
      exact ⟨by rw [h.cellAt _ (by omega)]; exact h1, by rw [h.cellAt _ (by omega)]; exact h2⟩

/-- How the rows lie in a round: what is led up so far. -/
def Lead (w : World) (B : Nat) (S : List Sd) (i : Nat) (l : List Int) (sv : Value) (wr : World) : Prop :=
  ∃ Rw f D, RowV Rw l ∧ RowAt wr B Rw ∧ Sm.ok l = true ∧ l.length ≤ f ∧ D ++ Sm.sidesF f i l = S ∧ i < l.length ∧ D.length ≤ 20 ∧ wr.ownsRow (B + 1) 59 2 sv D.length (cellsS D) ∧ Ext w wr ∧ B < wr.heap.size

theorem RowAt.below {w w' : World} {b B : Nat} {R : List Value} (h : RowAt w b R) (hb : b < B) (he : Below B w w') : RowAt w' b R :=
  ⟨Nat.lt_of_lt_of_le h.1 (Below.size he), fun j v hv => (Below.cell he (p := ⟨b, 0 + j, none⟩) hb).trans (h.2.1 j v hv), fun j hj => (Below.frozen he (p := ⟨b, j, none⟩) hb).trans (h.2.2 j hj)⟩
theorem owns_setCells {base : Nat} {e : TypeId} {size : Nat} {v : Value} {n : Nat} {xs : List Value} (b : Nat) (hb : b < base) : ∀ (vs : List Value) (o : Nat) (w : World), w.ownsRow base e size v n xs → (w.setCells b o vs).ownsRow base e size v n xs
  | [], _, _, h => h
  | u :: r, o, w, h => by rw [World.setCells]; exact owns_setCells b hb r _ _ (ownsRow_setCell_below h (a := ⟨b, o, none⟩) hb u)
def Sm.other (i : Nat) : Nat := if i % 2 = 1 then i - 1 else i + 1
theorem xor_other : ∀ i : Fin 20, bits BinOp.xor IntKind.i64 ((i.val : Nat) : Int) 1 = ((Sm.other i.val : Nat) : Int) := by decide
theorem Sm.sideAt_some {i : Nat} {l : List Int} {y : Int} (h : l[Sm.other i]? = some y) : Sm.sideAt i l = [⟨decide (Sm.other i < i), y⟩] := by
  have hl := (List.getElem?_eq_some_iff.1 h).1
  unfold Sm.sideAt
  unfold Sm.other at h hl ⊢
  split
  · rename_i h1
    rw [if_pos h1] at h
    rw [List.getD_eq_getElem?_getD, h]
    have : i - 1 < i := by omega
    simp [this]
  · rename_i h1
    rw [if_neg h1] at h hl
    rw [if_pos hl, List.getD_eq_getElem?_getD, h]
    have : ¬ i + 1 < i := by omega
    simp only [Option.getD_some, this, decide_false]
theorem Sm.sideAt_none {i : Nat} {l : List Int} (hi : i < l.length) (h : ¬ Sm.other i < l.length) : Sm.sideAt i l = [] := by
  unfold Sm.sideAt
  unfold Sm.other at h
  split
  · rename_i h1; rw [if_pos h1] at h; omega
  · rename_i h1; rw [if_neg h1] at h; rw [if_neg h]
theorem cells_side (w : World) (b : Bool) (y : Int) (t : TypeId) : ∀ j u, (cellsS [⟨b, y⟩])[j]? = some u → (w.alloc (.cells #[.bool b, .int .i64 y] t)).cell? ((⟨w.heap.size, 0, none⟩ : Addr).add j) = some u := by
  intro j u hj
  rw [Addr.add_lit]
  match j, hj with
  | 0, hj => simp [cellsS] at hj; subst hj; simp
  | 1, hj => simp [cellsS] at hj; subst hj; simp
  | j + 2, hj => simp [cellsS] at hj
theorem cellsS_one (l : List Sd) : ∀ u ∈ cellsS l, u.oneCell' = true := by
  intro u hu
  simp only [cellsS, List.mem_flatMap] at hu
  obtain ⟨s, _, hs⟩ := hu
  simp at hs
  rcases hs with rfl | rfl <;> rfl

theorem manyAt_lead {w wr : World} {B i : Nat} {S : List Sd} {l : List Int} {sv : Value} (h : Lead w B S i l sv wr) : manyAt wr B = l.length := by
  obtain ⟨Rw, f, D, hV, hA, _⟩ := h
  unfold manyAt
  rw [(hA.cell hV.many).1]
  simp

set_option maxHeartbeats 2000000 in
set_option maxRecDepth 100000 in
theorem sidesAt_any (R : List Value) (l0 : List Int) (i0 : Nat) (w : World) (hR : RowV R l0) (ho : Sm.ok l0 = true) (hi0 : i0 < l0.length) :
    Calls Tryz.prog 19 #[.agg R.toArray, .int .i64 (i0 : Nat)] w fun e w' => ∃ v, e = .returned v ∧ w'.ownsRow w.heap.size 59 2 v (Sm.sidesF l0.length i0 l0).length (cellsS (Sm.sidesF l0.length i0 l0)) ∧ Ext w w' := by
  have hi9 : (Tryz.prog.info? 59).map (fun i => (i.zero, i.size, i.bytes)) = some (some (.agg #[.bool false, .int .i64 0]), 2, 16) := by kernel_rfl
  obtain ⟨ti, hti, hxx⟩ := Option.map_eq_some_iff.1 hi9
  simp only [Prod.mk.injEq] at hxx
  obtain ⟨hz0, hz1, hz2⟩ := hxx
  clear hi9
  have hl20 : l0.length ≤ 20 := hR.2.1
  obtain ⟨S, hS⟩ : ∃ S, S = Sm.sidesF l0.length i0 l0 := ⟨_, rfl⟩
  rw [← hS]
  have HS : Hid (S = Sm.sidesF l0.length i0 l0) := hS
  have hS20 : S.length ≤ 20 := by rw [hS]; have := Sm.sidesF_len l0.length i0 l0; omega
  have HV0 : Hid (RowV R l0) := hR
  have HO0 : Hid (Sm.ok l0 = true) := ho
  clear hS hR ho
  go_enter Tryz.func19, Tryz.ntmps19
  go_wp2
  go_loopw [1, 5] (fun iv sv wr => ∃ (i : Nat) (l : List Int), iv = .int .i64 (i : Nat) ∧ i < l.length ∧ l.length ≤ 20 ∧ Hid (Lead w w.heap.size S i l sv wr)) (fun _ _ wr => manyAt wr w.heap.size)
  case atStart =>
    refine ⟨i0, l0, rfl, hi0, hl20, R, l0.length, [], HV0.out, (RowAt.new w R _), HO0.out, Nat.le_refl _, HS.out.symm, hi0, by simp, World.ownsRow_nil _ _ _ _, (Ext.refl _).alloc _, by simp⟩
  case round =>
    obtain ⟨i, l, rfl, hil, hl, HL⟩ := hrel
    obtain ⟨Rw, f, D, hV, hA, ho, hf, hD, -, hD20, hown, hE, hBs⟩ := HL.out
    have c0 := (hA.cell hV.many).1
    by_cases hlt : 1 < l.length
    · obtain ⟨f', hf1, hf2, -⟩ := Sm.sidesF_step (i := i) hlt hf
      have hRw : Rw.length = 21 := hV.1
      have hi22 : (Tryz.prog.info? 50).map (·.size) = some Rw.length := by rw [hRw]; exact rowInfo
      have hul : (Sm.up l).length = (l.length + 1) / 2 := Sm.up_len l
      have hmr : manyAt wr w.heap.size = l.length := by unfold manyAt; rw [c0]; simp
      have HAb : Hid (∀ wx, Calls Tryz.prog 27 #[.agg Rw.toArray] wx fun e w' => ∃ R' : List Value, e = .returned (.agg R'.toArray) ∧ RowV R' (Sm.up l) ∧ Ext wx w') := fun wx => above_any Rw l wx hV (by omega) ho
      have HFin : Hid (∀ (R5 : List Value) (D' : List Sd) (w7 W : World) (sv' : Value), RowV R5 (Sm.up l) → RowAt w7 w.heap.size Rw → D' ++ Sm.sidesF f' (i / 2) (Sm.up l) = S → D'.length ≤ 20 → w7.ownsRow (w.heap.size + 1) 59 2 sv' D'.length (cellsS D') → Ext w w7 → w7.setCells w.heap.size 0 R5 = W → Lead w w.heap.size S (i / 2) (Sm.up l) sv' W) := by
        intro R5 D' w7 W sv' h1 h2 h3 h4 h5 h6 hW
        rw [← hW]
        exact ⟨R5, f', D', h1, h2.stored (by rw [h1.1, hRw]), Sm.up_ok l ho, hf1, h3, Sm.half_lt hil, h4, owns_setCells _ (by omega) _ _ _ h5, ext_setCells _ (Nat.le_refl _) _ _ _ h6, by rw [setCells_size]; exact h2.1⟩
      have hxo : bits BinOp.xor IntKind.i64 (i : Int) 1 = ((Sm.other i : Nat) : Int) := xor_other ⟨i, by omega⟩
      have HA0 : Hid (RowAt wr w.heap.size Rw ∧ Ext w wr) := ⟨hA, hE⟩
      by_cases hoth : Sm.other i < l.length
      · obtain ⟨y, hy⟩ : ∃ y, l[Sm.other i]? = some y := ⟨_, List.getElem?_eq_getElem hoth⟩
        have hsd := Sm.sideAt_some hy
        have cy := (hA.cell (hV.at hy)).1
        rw [Nat.add_comm] at cy
        obtain ⟨hy0, hy1⟩ := Sm.ok_at hy ho
        have wy : IntKind.i64.wrap y = y := by rw [IntKind.wrap_i64]; omega
        generalize Sm.other i = o at *
        have i1 : (0 : Int) ≤ (o : Int) := by omega
        have i2 : (o : Int) < 20 := by omega
        have HD : Hid ((D ++ [⟨decide (o < i), y⟩]) ++ Sm.sidesF f' (i / 2) (Sm.up l) = S) := by show _ = _; rw [← hD, hf2, hsd, List.append_assoc]
        have HOw : Hid (wr.ownsRow (w.heap.size + 1) 59 2 u5 D.length (cellsS D)) := hown
        have hD5 : (D ++ [(⟨decide (o < i), y⟩ : Sd)]).length ≤ 20 := by
          have h1 := HD.out
          have h2 := congrArg List.length h1
          rw [List.length_append] at h2
          omega
        have hD6 : D.length + 1 ≤ 20 := by simpa using hD5
        clear hV hA ho hf hD hown hE hf1 hf2 hy hsd
        go_wp2_with (first | (at_builtin; go_must (refine wpList_append_own _ rfl _ _ 27 rfl (w.heap.size + 1) 59 ti (.agg #[.bool false, .int .i64 0]) 2 16 Tryz.underlying27 hti hz0 hz1 hz2 rfl (by decide) _ _ _ rfl (HOw.out.alloc _) ⟨wr.heap.size, 0, none⟩ 1 1 (cellsS [⟨decide (o < i), y⟩]) rfl rfl (cells_side _ _ _ _) (cellsS_one _) (by unfold maxLen; omega) (by omega) (by simp; omega) ?_; intro v6 w6 hown6 hgrow6 hnil6; have hBel6 : Below (w.heap.size + 1) wr w6 := ((Below.refl _ _).alloc hBs _).grown hgrow6 (by simp; omega) (fun q hq => (HOw.out.lt q hq).1); have HA6 : Hid (RowAt w6 w.heap.size Rw) := HA0.out.1.below (by omega) hBel6; have HE6 : Hid (Ext w w6) := Below.trans HA0.out.2 (Below.mono hBel6 (by omega)); have HO6 : Hid (w6.ownsRow (w.heap.size + 1) 59 2 v6 (D.length + 1) (cellsS D ++ cellsS [⟨decide (o < i), y⟩])) := hown6; clear hown6 hgrow6 hnil6 hBel6)) | (refine wpList_load_mid rfl 50 (.tmp 2) rfl w.heap.size 0 rfl Rw _ HA6.out.2.1 Tryz.underlying50 rfl hi22 ?_))
        refine (HAb.out _).mono ?_
        rintro e w7 ⟨R5, rfl, hV5, hb7⟩
        have hi25 : (Tryz.prog.info? 50).map (·.size) = some R5.toArray.size := by rw [rowInfo]; simp [hV5.1]
        have h5c : R5.toArray.all (·.oneCell') = true := all_oneCell_toArray hV5.2.2.2.2
        have HA7 : Hid (RowAt w7 w.heap.size Rw) := HA6.out.ext hb7
        have HT7 : Hid (w7.there w.heap.size 0 R5.toArray.size) := by
          have h := HA7.out.there
          rw [show R5.toArray.size = Rw.length from by simp [hV5.1, hRw]]
          exact h
        have HK7 : Hid (∀ W, w7.setCells w.heap.size 0 R5 = W → Lead w w.heap.size S (i / 2) (Sm.up l) v6 W) := fun W hW => HFin.out R5 (D ++ [⟨decide (o < i), y⟩]) w7 W v6 hV5 HA7.out HD.out hD5 (by rw [cellsS_app, List.length_append]; exact own_ext HO6.out hb7) (HE6.out.trans hb7) hW
        clear hV5 hb7
        go_wp2_with (refine wpList_store_mid rfl 50 _ _ rfl w.heap.size 0 R5.toArray rfl rfl HT7.out hi25 h5c ?_; generalize hW : World.setCells _ _ _ _ = W5; have HC5 : Hid (Lead w w.heap.size S (i / 2) (Sm.up l) v6 W5) := HK7.out W5 hW; clear hW)
        have hmeas : manyAt W5 w.heap.size < manyAt wr w.heap.size := by
          rw [hmr, manyAt_lead HC5.out, hul]; omega
        simp only [Act.put]
        first | exact ⟨⟨_, _, _, _, _, _, _, _, _, _, _, _, _, _, _, _, _, _, _, _, _, _, _, _, _, _, _, _, ⟨i / 2, Sm.up l, by go_num, Sm.half_lt hil, by omega, HC5⟩, rfl⟩, hmeas⟩ | exact ⟨⟨_, _, _, _, _, _, _, _, _, _, _, _, _, _, _, _, _, _, _, _, _, _, _, _, _, _, _, ⟨i / 2, Sm.up l, by go_num, Sm.half_lt hil, by omega, HC5⟩, rfl⟩, hmeas⟩ | exact ⟨⟨_, _, _, _, _, _, _, _, _, _, _, _, _, _, _, _, _, _, _, _, _, _, _, _, _, _, _, _, _, ⟨i / 2, Sm.up l, by go_num, Sm.half_lt hil, by omega, HC5⟩, rfl⟩, hmeas⟩ | exact ⟨⟨_, _, _, _, _, _, _, _, _, _, _, _, _, _, _, _, _, _, _, _, _, _, _, _, _, _, ⟨i / 2, Sm.up l, by go_num, Sm.half_lt hil, by omega, HC5⟩, rfl⟩, hmeas⟩ | exact ⟨⟨_, _, _, _, _, _, _, _, _, _, _, _, _, _, _, _, _, _, _, _, _, _, _, _, _, ⟨i / 2, Sm.up l, by go_num, Sm.half_lt hil, by omega, HC5⟩, rfl⟩, hmeas⟩ | exact ⟨⟨_, _, _, _, _, _, _, _, _, _, _, _, _, _, _, _, _, _, _, _, _, _, _, _, _, _, _, _, _, _, ⟨i / 2, Sm.up l, by go_num, Sm.half_lt hil, by omega, HC5⟩, rfl⟩, hmeas⟩
      · have hsd := Sm.sideAt_none hil hoth
        have HD : Hid (D ++ Sm.sidesF f' (i / 2) (Sm.up l) = S) := by show _ = _; rw [← hD, hf2, hsd, List.nil_append]
        have HOw : Hid (wr.ownsRow (w.heap.size + 1) 59 2 u5 D.length (cellsS D)) := hown
        have HA6 : Hid (RowAt wr w.heap.size Rw) := hA
        generalize Sm.other i = o at *
        have i3 : ¬ (o : Int) < (l.length : Int) := by omega
        clear hV hA ho hf hD hown hE hf1 hf2 hsd
        go_wp2_with (refine wpList_load_mid rfl 50 (.tmp 2) rfl w.heap.size 0 rfl Rw _ HA6.out.2.1 Tryz.underlying50 rfl hi22 ?_)
        refine (HAb.out _).mono ?_
        rintro e w7 ⟨R5, rfl, hV5, hb7⟩
        have hi25 : (Tryz.prog.info? 50).map (·.size) = some R5.toArray.size := by rw [rowInfo]; simp [hV5.1]
        have h5c : R5.toArray.all (·.oneCell') = true := all_oneCell_toArray hV5.2.2.2.2
        have HA7 : Hid (RowAt w7 w.heap.size Rw) := HA6.out.ext hb7
        have HT7 : Hid (w7.there w.heap.size 0 R5.toArray.size) := by
          have h := HA7.out.there
          rw [show R5.toArray.size = Rw.length from by simp [hV5.1, hRw]]
          exact h
        have HK7 : Hid (∀ W, w7.setCells w.heap.size 0 R5 = W → Lead w w.heap.size S (i / 2) (Sm.up l) u5 W) := fun W hW => HFin.out R5 D w7 W u5 hV5 HA7.out HD.out hD20 (own_ext HOw.out hb7) (HA0.out.2.trans hb7) hW
        clear hV5 hb7
        go_wp2_with (refine wpList_store_mid rfl 50 _ _ rfl w.heap.size 0 R5.toArray rfl rfl HT7.out hi25 h5c ?_; generalize hW : World.setCells _ _ _ _ = W5; have HC5 : Hid (Lead w w.heap.size S (i / 2) (Sm.up l) u5 W5) := HK7.out W5 hW; clear hW)
        have hmeas : manyAt W5 w.heap.size < manyAt wr w.heap.size := by
          rw [hmr, manyAt_lead HC5.out, hul]; omega
        simp only [Act.put]
        first | exact ⟨⟨_, _, _, _, _, _, _, _, _, _, _, _, _, _, _, _, _, _, _, _, _, _, _, _, _, _, _, _, ⟨i / 2, Sm.up l, by go_num, Sm.half_lt hil, by omega, HC5⟩, rfl⟩, hmeas⟩ | exact ⟨⟨_, _, _, _, _, _, _, _, _, _, _, _, _, _, _, _, _, _, _, _, _, _, _, _, _, _, _, ⟨i / 2, Sm.up l, by go_num, Sm.half_lt hil, by omega, HC5⟩, rfl⟩, hmeas⟩ | exact ⟨⟨_, _, _, _, _, _, _, _, _, _, _, _, _, _, _, _, _, _, _, _, _, _, _, _, _, _, _, _, _, ⟨i / 2, Sm.up l, by go_num, Sm.half_lt hil, by omega, HC5⟩, rfl⟩, hmeas⟩ | exact ⟨⟨_, _, _, _, _, _, _, _, _, _, _, _, _, _, _, _, _, _, _, _, _, _, _, _, _, _, ⟨i / 2, Sm.up l, by go_num, Sm.half_lt hil, by omega, HC5⟩, rfl⟩, hmeas⟩ | exact ⟨⟨_, _, _, _, _, _, _, _, _, _, _, _, _, _, _, _, _, _, _, _, _, _, _, _, _, ⟨i / 2, Sm.up l, by go_num, Sm.half_lt hil, by omega, HC5⟩, rfl⟩, hmeas⟩ | exact ⟨⟨_, _, _, _, _, _, _, _, _, _, _, _, _, _, _, _, _, _, _, _, _, _, _, _, _, _, _, _, _, _, ⟨i / 2, Sm.up l, by go_num, Sm.half_lt hil, by omega, HC5⟩, rfl⟩, hmeas⟩
    · have HF : Hid (wr.ownsRow (w.heap.size + 1) 59 2 u5 S.length (cellsS S) ∧ Ext w wr) := by
        rw [Sm.sidesF_end hlt, List.append_nil] at hD
        subst hD
        exact ⟨hown, hE⟩
      clear hV hA ho hf hD hown hE
      go_wp2
      go_ret
      exact ⟨_, rfl, HF.out.1.mono (by omega), HF.out.2⟩
end Go.Proofs.YtilinjjimiiplaaGreatDoor
