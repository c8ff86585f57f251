/- what may be proposed: the program's. -/
import Derived.Test.YtecgjdgfjgcmdaaGreatRbQV7b
import Derived.Test.YtecgjdgfjgcmdaaGreatRbQV6
import Derived.Deep.RegionHeld3
import Derived.Test.YtecgjdgfjgcmdaaGreatRbTk
namespace Go.Proofs.YtecgjdgfjgcmdaaGreat
open Go.RowKit
namespace Msg
/-- What a view takes over that begins at start. -/
def startL (ms : List Ms) (view start : Int) : List Int := if view = 0 then [] else picks ms (refsAt ms start)
theorem valueB_L {f : Int} {ms : List Ms} {view start slot value : Int} (h : startB f ms view start = true) (hs : 1 ≤ slot) (hv : 0 ≤ value) : valueB ms start slot value = if slot ≤ ((startL ms view start).length : Int) then decide (value = (startL ms view start).getD (slot - 1).toNat 0) else decide (¬ value = 0) := by
  unfold startB at h
  unfold valueB startL
  by_cases h0 : view = 0
  · rw [if_pos h0, decide_eq_true_eq] at h
    subst h
    rw [if_pos (by decide), if_pos h0]
    rw [if_neg (by simp; omega), Bool.eq_iff_iff]
    simp
    omega
  · rw [if_neg h0, Bool.and_eq_true] at h
    rw [if_neg h0]
    have hst : 0 ≤ start := by
      cases hn : nth ms start with
      | none => rw [newAt_none hn] at h; exact absurd h.1 (by decide)
      | some z => exact (nth_some hn).1
    rw [if_neg (by omega)]
    by_cases h1 : slot ≤ ((picks ms (refsAt ms start)).length : Int)
    · rw [if_pos h1, if_pos h1]
    · rw [if_neg h1, if_neg h1, Bool.eq_iff_iff]
      simp
      omega
def holdB (l : List Int) (slot value : Int) : Bool := if slot ≤ (l.length : Int) then decide (value = l.getD (slot - 1).toNat 0) else decide (¬ value = 0)
theorem holdB_is {f : Int} {ms : List Ms} {view start slot value : Int} (h : startB f ms view start = true) (hs : 1 ≤ slot) (hv : 0 ≤ value) : valueB ms start slot value = holdB (startL ms view start) slot value := valueB_L h hs hv
theorem startB_zero {f : Int} {ms : List Ms} {start : Int} : startB f ms 0 start = decide (start = -1) := by unfold startB; rw [if_pos rfl]
theorem startB_no {f : Int} {ms : List Ms} {view start : Int} (h0 : ¬ view = 0) (h : newAt f ms start = false ∨ ¬ viewAt ms start = view) : startB f ms view start = false := by
  unfold startB
  rw [if_neg h0, Bool.and_eq_false_iff]
  rcases h with h | h
  · exact Or.inl h
  · exact Or.inr (decide_eq_false h)
theorem startB_is {f : Int} {ms : List Ms} {view start : Int} (h0 : ¬ view = 0) (h : viewAt ms start = view) : startB f ms view start = newAt f ms start := by
  unfold startB
  rw [if_neg h0, decide_eq_true h, Bool.and_true]
theorem startL_is {ms : List Ms} {view start : Int} {z : Ms} (h0 : ¬ view = 0) (h : nth ms start = some z) : startL ms view start = picks ms z.refs := by
  unfold startL
  rw [if_neg h0, refsAt_some h]
theorem new_no {f : Int} {ms : List Ms} {x : Int} (h : kindAt ms x 5 = false) : newAt f ms x = false := by
  cases hn : nth ms x with
  | none => exact newAt_none hn
  | some z =>
    rw [kindAt_some hn, decide_eq_false_iff_not] at h
    rw [newAt_some hn]
    exact newB_no (fun h2 => h h2.1)
theorem propose_no {f : Int} {ms : List Ms} {x y : Int} (h : kindAt ms x 1 = false) : proposeAt f ms x y = false := by
  cases hn : nth ms x with
  | none => exact proposeAt_none hn
  | some z =>
    rw [kindAt_some hn, decide_eq_false_iff_not] at h
    rw [proposeAt_some hn]
    unfold proposeB
    rw [decide_eq_false h]; rfl
end Msg
theorem empty_own (w : World) (g : Nat) : Led.IOwn w (.slice none 0 0) g [] := ⟨none, 0, rfl, Nat.le_refl _, by unfold maxLen; omega, fun h => by simp at h⟩
set_option maxHeartbeats 8000000 in
set_option maxRecDepth 100000 in
theorem valuesAtStart_any (f : Int) (v : Value) (ms : List Ms) (view start : Int) (w : World) (hS : MSlice w v ms) (hled : Msg.ledger f ms = 0) :
    Calls Tryz.prog 129 #[.int .i64 f, v, .int .i64 view, .int .i64 start] w fun e w' => ∃ vo g, e = .returned (.tuple #[vo, .bool (Msg.startB f ms view start)]) ∧ w.heap.size ≤ g ∧ Led.IOwn w' vo g (if Msg.startB f ms view start = true then Msg.startL ms view start else []) ∧ Ext w w' := by
  have HNo : Hid (Msg.kindAt ms start 5 = false → Calls Tryz.prog 75 #[v, .int .i64 start, .int .i64 5] w fun e w' => e = .returned (.pointer none) ∧ w' = w) := fun h => findMsg_no v ms start 5 w hS h
  have HYe : Hid (∀ z, Msg.nth ms start = some z → z.kind = 5 → Calls Tryz.prog 75 #[v, .int .i64 start, .int .i64 5] w fun e w' => ∃ b o, e = .returned (.pointer (some ⟨b, o, none⟩)) ∧ b < w.heap.size ∧ MAt w b o z ∧ w' = w) := fun z h1 h2 => findMsg_yes v ms start 5 z w hS h1 h2
  have HNw : Hid (∀ z b o, Msg.nth ms start = some z → z.kind = 5 → b < w.heap.size → MAt w b o z → Calls Tryz.prog 163 #[.int .i64 f, v, .pointer (some ⟨b, o, none⟩)] w fun e w' => e = .returned (.bool (Msg.newB f ms z)) ∧ Ext w w') := fun z b o h1 h2 hb hm => isRightNew_any f v ms z b o start.toNat w hS hled (Msg.nth_some h1).2.2 h2 hb hm
  have HTk : Hid (∀ z u wx, Msg.nth ms start = some z → Ext w wx → ISlice wx u z.refs → Calls Tryz.prog 164 #[v, u] wx fun e w' => ∃ vo g, e = .returned vo ∧ wx.heap.size ≤ g ∧ Led.IOwn w' vo g (Msg.picks ms z.refs) ∧ Ext wx w') := fun z u wx h1 he hi => valuesTakenOver_any f v ms u z.refs wx (hS.ext he) hi hled (Msg.refs_zero hled (Msg.nth_some h1).2.2) (by have h2 := (Msg.lists_zero (Msg.ledger_all hled z (List.mem_of_getElem? (Msg.nth_some h1).2.2))).2.1; have h3 := Msg.ledger_zero hled; omega)
  obtain ⟨a, cap, rfl, -, -, -⟩ := hS
  clear hled
  by_cases h0 : view = 0
  · subst h0
    rw [Msg.startB_zero]
    have hL : Msg.startL ms 0 start = [] := by unfold Msg.startL; rw [if_pos rfl]
    rw [hL]
    have hq : (start == -1) = decide (start = -1) := by by_cases h : start = -1 <;> simp [h]
    have hE : (if decide (start = -1) = true then ([] : List Int) else []) = [] := by split <;> rfl
    rw [hE]
    generalize decide (start = -1) = bb at *
    clear HNo HYe HNw HTk hE hL
    go_enter Tryz.func129, Tryz.ntmps129
    go_wp2
    go_ret2
    exact ⟨_, _, rfl, Nat.le_refl _, empty_own _ _, Ext.refl _⟩
  · have g0 : (view == 0) = false := by simpa using h0
    cases hk : Msg.kindAt ms start 5 with
    | false =>
      rw [Msg.startB_no h0 (Or.inl (Msg.new_no hk)), if_neg (by decide)]
      have HN2 : Hid (Calls Tryz.prog 75 #[.slice a ms.length cap, .int .i64 start, .int .i64 5] w fun e w' => e = .returned (.pointer none) ∧ w' = w) := HNo.out hk
      clear HNo HYe HNw HTk h0 hk
      go_enter Tryz.func129, Tryz.ntmps129
      go_wp2_with fail
      refine HN2.out.mono ?_
      rintro e w9 ⟨rfl, hw⟩
      rw [hw]
      clear hw w9
      go_wp2
      go_ret2
      exact ⟨_, _, rfl, Nat.le_refl _, empty_own _ _, Ext.refl _⟩
    | true =>
      cases hn : Msg.nth ms start with
      | none => rw [Msg.kindAt_none hn] at hk; cases hk
      | some z =>
        rw [Msg.kindAt_some hn, decide_eq_true_eq] at hk
        have HY2 : Hid (Calls Tryz.prog 75 #[.slice a ms.length cap, .int .i64 start, .int .i64 5] w fun e w' => ∃ b o, e = .returned (.pointer (some ⟨b, o, none⟩)) ∧ b < w.heap.size ∧ MAt w b o z ∧ w' = w) := HYe.out z hn hk
        have HZ : Hid (Msg.nth ms start = some z ∧ z.kind = 5) := ⟨hn, hk⟩
        by_cases hv : z.view = view
        · have g1 : (z.view != view) = false := by simpa using hv
          rw [Msg.startB_is h0 (by rw [Msg.viewAt_some hn]; exact hv), Msg.newAt_some hn, Msg.startL_is h0 hn]
          have HNz : Hid (∀ b o, b < w.heap.size → MAt w b o z → Calls Tryz.prog 163 #[.int .i64 f, .slice a ms.length cap, .pointer (some ⟨b, o, none⟩)] w fun e w' => e = .returned (.bool (Msg.newB f ms z)) ∧ Ext w w') := fun b o => HNw.out z b o hn hk
          clear HNo HYe h0 hk hn hv HNw
          cases hB : Msg.newB f ms z with
          | true =>
            rw [hB] at HNz
            rw [if_pos rfl]
            clear hB
            go_enter Tryz.func129, Tryz.ntmps129
            go_wp2_with fail
            refine HY2.out.mono ?_
            rintro e w9 ⟨b, o, rfl, hb, hm, hw⟩
            rw [hw]
            clear hw w9
            have HM : Hid (MAt w b o z ∧ b < w.heap.size) := ⟨hm, hb⟩
            obtain ⟨vz, uz, ⟨-, d1, -, -, -, -, -⟩, -⟩ := hm
            go_wp2_with fail
            refine (HNz.out b o HM.out.2 HM.out.1).mono ?_
            rintro e w2 ⟨rfl, hb2⟩
            have HE2 : Hid (Ext w w2) := hb2
            obtain ⟨vy, uy, ⟨-, -, -, -, -, -, d6⟩, hL⟩ := HM.out.1.ext HM.out.2 hb2
            have HIr : Hid (ISlice w2 uy z.refs) := hL.2
            obtain ⟨-, ⟨ar, cr, rfl, -, -, -⟩⟩ := hL
            clear hb2 d1
            go_wp2_with fail
            refine (HTk.out z _ _ HZ.out.1 HE2.out HIr.out).mono ?_
            rintro e w5 ⟨v5, g5, rfl, hg5, hO5, hb5⟩
            have HE5 : Hid (Ext w w5) := HE2.out.trans hb5
            have HI5 : Hid (Led.IOwn w5 v5 g5 (Msg.picks ms z.refs) ∧ w.heap.size ≤ g5) := ⟨hO5, Nat.le_trans HE2.out.size hg5⟩
            obtain ⟨a5, c5, rfl, -⟩ := id hO5
            clear hb5 hO5 hg5
            go_wp2
            go_ret2
            exact ⟨_, g5, rfl, HI5.out.2, HI5.out.1, HE5.out⟩
          | false =>
            rw [hB] at HNz
            rw [if_neg (by decide)]
            clear hB HTk
            go_enter Tryz.func129, Tryz.ntmps129
            go_wp2_with fail
            refine HY2.out.mono ?_
            rintro e w9 ⟨b, o, rfl, hb, hm, hw⟩
            rw [hw]
            clear hw w9
            have HM : Hid (MAt w b o z ∧ b < w.heap.size) := ⟨hm, hb⟩
            obtain ⟨vz, uz, ⟨-, d1, -, -, -, -, -⟩, -⟩ := hm
            go_wp2_with fail
            refine (HNz.out b o HM.out.2 HM.out.1).mono ?_
            rintro e w2 ⟨rfl, hb2⟩
            have HE2 : Hid (Ext w w2) := hb2
            clear hb2 d1
            go_wp2
            go_ret2
            exact ⟨_, _, rfl, Nat.le_refl _, empty_own _ _, HE2.out⟩
        · have g1 : (z.view != view) = true := by simpa using hv
          rw [Msg.startB_no h0 (Or.inr (by rw [Msg.viewAt_some hn]; exact hv)), if_neg (by decide)]
          clear HNo HYe h0 hk hn hv HNw HTk
          go_enter Tryz.func129, Tryz.ntmps129
          go_wp2_with fail
          refine HY2.out.mono ?_
          rintro e w9 ⟨b, o, rfl, hb, hm, hw⟩
          rw [hw]
          clear hw w9
          obtain ⟨vz, uz, ⟨-, d1, -, -, -, -, -⟩, -⟩ := hm
          go_wp2
          go_ret2
          exact ⟨_, _, rfl, Nat.le_refl _, empty_own _ _, Ext.refl _⟩

set_option maxHeartbeats 2000000 in
theorem isTakenOver_any (u : Value) (l : List Int) (slot : Int) (bb : Bool) (w : World) (hI : ISlice w u l) (hbb : decide (slot ≤ (l.length : Int)) = bb) :
    Calls Tryz.prog 113 #[u, .int .i64 slot] w fun e w' => e = .returned (.bool bb) ∧ w' = w := by
  obtain ⟨a, c, rfl, -, -, -⟩ := hI
  subst hbb
  go_enter Tryz.func113, Tryz.ntmps113
  go_wp2
  go_ret
  exact ⟨rfl, rfl⟩

set_option maxHeartbeats 2000000 in
theorem mayHold_any (u : Value) (l : List Int) (slot value : Int) (w : World) (hI : ISlice w u l) (hs : 1 ≤ slot ∧ slot ≤ 30) :
    Calls Tryz.prog 112 #[u, .int .i64 slot, .int .i64 value] w fun e w' => e = .returned (.bool (Msg.holdB l slot value)) ∧ w' = w := by
  have HT : Hid (∀ bb, decide (slot ≤ (l.length : Int)) = bb → Calls Tryz.prog 113 #[u, .int .i64 slot] w fun e w' => e = .returned (.bool bb) ∧ w' = w) := fun bb h => isTakenOver_any u l slot bb w hI h
  by_cases h : slot ≤ (l.length : Int)
  · have HT1 : Hid _ := HT.out true (decide_eq_true h)
    have hk : (slot - 1).toNat < l.length := by omega
    obtain ⟨x, hx⟩ : ∃ x, l[(slot - 1).toNat]? = some x := ⟨_, List.getElem?_eq_getElem hk⟩
    have hE : Msg.holdB l slot value = decide (value = x) := by unfold Msg.holdB; rw [if_pos h, List.getD_eq_getElem?_getD, hx]; rfl
    rw [hE]
    obtain ⟨a, c, rfl, hlc, hcm, hat⟩ := hI
    obtain ⟨b, off, rfl, hb, hall⟩ := hat (by omega)
    have d0 := hall _ _ hx
    obtain ⟨j, hj⟩ : ∃ j : Nat, j = (slot - 1).toNat := ⟨_, rfl⟩
    rw [← hj] at d0 hk
    have hsj : slot = (j : Int) + 1 := by omega
    have hwp : IntKind.i64.wrap (slot - 1) = (j : Int) := by rw [IntKind.wrap_i64]; omega
    have hq : (value == x) = decide (value = x) := by by_cases h : value = x <;> simp [h]
    clear hx hE hall hj HT h
    clear hsj
    go_enter Tryz.func112, Tryz.ntmps112
    go_wp2_with fail
    refine Calls.mono HT1.out ?_
    rintro e w9 ⟨rfl, hw⟩
    rw [hw]
    clear hw w9
    go_wp2
    go_ret
    exact ⟨ret_bool (by first | rfl | exact hq | simp [hq]), rfl⟩
  · have HT1 : Hid _ := HT.out false (decide_eq_false h)
    have hE : Msg.holdB l slot value = decide (¬ value = 0) := by unfold Msg.holdB; rw [if_neg h]
    rw [hE]
    obtain ⟨a, c, rfl, -, -, -⟩ := hI
    have hq : (value != 0) = decide (¬ value = 0) := by by_cases h : value = 0 <;> simp [h]
    clear hE HT h
    go_enter Tryz.func112, Tryz.ntmps112
    go_wp2_with fail
    refine Calls.mono HT1.out ?_
    rintro e w9 ⟨rfl, hw⟩
    rw [hw]
    clear hw w9
    go_wp2
    go_ret
    exact ⟨ret_bool (by first | rfl | exact hq | simp [hq]), rfl⟩

set_option linter.unusedSimpArgs false in
set_option maxHeartbeats 8000000 in
set_option maxRecDepth 100000 in
theorem isRightPropose_any (f : Int) (v : Value) (ms : List Ms) (z : Ms) (b o k : Nat) (y : Int) (w : World) (hS : MSlice w v ms) (hled : Msg.ledger f ms = 0) (hk : ms[k]? = some z) (h1 : z.kind = 1) (hb : b < w.heap.size) (hm : MAt w b o z) :
    Calls Tryz.prog 76 #[.int .i64 f, v, .pointer (some ⟨b, o, none⟩), .int .i64 y] w fun e w' => e = .returned (.bool (Msg.proposeB f ms z y)) ∧ Ext w w' := by
  obtain ⟨hf0, hf1, hml⟩ := Msg.ledger_zero hled
  have hfa := Msg.ledger_all hled z (List.mem_of_getElem? hk)
  have hvw := Msg.view_in hfa
  have hsl : (1 ≤ z.slot ∧ z.slot ≤ 30) ∧ 0 ≤ z.value := by
    obtain ⟨-, h2⟩ := Msg.faultM_zero hfa
    unfold Msg.boundsN at h2
    rw [decide_eq_true_eq] at h2
    omega
  have HPB : Hid (Msg.proposeB f ms z y = (Msg.startB f ms z.view y && decide (Msg.primary f z.view = z.from_) && Msg.valueB ms y z.slot z.value)) := by
    show _ = _
    unfold Msg.proposeB
    rw [decide_eq_true h1, Bool.true_and]
    congr 1
    rw [Bool.and_comm]
    congr 1
    rw [Bool.eq_iff_iff, decide_eq_true_eq, decide_eq_true_eq]
    exact ⟨fun h => h.symm, fun h => h.symm⟩
  rw [HPB.out]
  have HPr0 : Hid (∀ bb, decide (Msg.primary f z.view = z.from_) = bb → ∀ (wx : World), Ext w wx → Calls Tryz.prog 130 #[.int .i64 f, .pointer (some ⟨b, o, none⟩)] wx fun e w' => e = .returned (.bool bb) ∧ Ext wx w') := fun bb h wx he => isPrimary_any f z b o bb wx hf0 hf1 hvw (Nat.lt_of_lt_of_le hb he.size) (hm.ext hb he) h
  have HSt : Hid (∀ wx, Ext w wx → Calls Tryz.prog 129 #[.int .i64 f, v, .int .i64 z.view, .int .i64 y] wx fun e w' => ∃ vo, e = .returned (.tuple #[vo, .bool (Msg.startB f ms z.view y)]) ∧ ISlice w' vo (if Msg.startB f ms z.view y = true then Msg.startL ms z.view y else []) ∧ Ext wx w') := fun wx he => (valuesAtStart_any f v ms z.view y wx (hS.ext he) hled).mono fun e w' ⟨vo, g, h1, _, h2, h3⟩ => ⟨vo, h1, h2.slice, h3⟩
  have HVB : Hid (Msg.startB f ms z.view y = true → Msg.valueB ms y z.slot z.value = Msg.holdB (Msg.startL ms z.view y) z.slot z.value) := fun h => Msg.holdB_is h hsl.1.1 hsl.2
  have HMy : Hid (∀ (u : Value) (l : List Int) (wv wx : World), ISlice wv u l → Ext wv wx → Calls Tryz.prog 112 #[u, .int .i64 z.slot, .int .i64 z.value] wx fun e w' => e = .returned (.bool (Msg.holdB l z.slot z.value)) ∧ w' = wx) := fun u l wv wx h he => mayHold_any u l z.slot z.value wx (h.ext he) hsl.1
  obtain ⟨vz, uz, ⟨-, d1, -, d3, d4, -, -⟩, -⟩ := hm
  have HS : Hid (∀ W', Ext w W' → W'.cell? ⟨b, o + 3, none⟩ = some (.int .i64 z.slot) ∧ W'.cell? ⟨b, o + 4, none⟩ = some (.int .i64 z.value)) := fun W' he => ⟨((Ext.cell he).1 _ _ hb).trans d3, ((Ext.cell he).1 _ _ hb).trans d4⟩
  obtain ⟨a, cap, rfl, -, -, -⟩ := hS
  clear hled hk hfa hvw h1 d3 d4 HPB hsl
  cases hst : Msg.startB f ms z.view y with
  | false =>
    rw [hst] at HSt
    clear hst
    go_enter Tryz.func76, Tryz.ntmps76
    go_wp2_with fail
    refine (HSt.out _ (Ext.refl _)).mono ?_
    rintro e wv ⟨vo, rfl, hI, hb⟩
    have XV : Hid (Ext w wv) := hb
    obtain ⟨av, cv, rfl, -, -, -⟩ := hI
    clear hb
    go_wp2
    clear d1
    refine wp_region_held_drew (S := (fun W' : World => W'.cell? ⟨b, o + 3, none⟩ = some (.int .i64 z.slot) ∧ W'.cell? ⟨b, o + 4, none⟩ = some (.int .i64 z.value))) (by kernel_rfl) (HS.out _ XV.out.drew) (fun hHeld => ?_)
    refine tk 0 { dst := some 22, op := Op.move (.tmp 10), type := 4, pos := "l10_view.go:193", after := #[], guard := none } ?_
    refine tk 1 { dst := some 23, op := Op.move (.tmp 22), type := 4, pos := "l10_view.go:193", after := #[⟨0, .data⟩], guard := none } ?_
    refine tn 2 { dst := some 24, op := Op.move (.tmp 0), type := 2, pos := "l10_view.go:193", after := #[⟨1, .guard⟩], guard := some (1, true) } ?_
    refine tn 3 { dst := some 25, op := Op.move (.tmp 2), type := 97, pos := "l10_view.go:193", after := #[⟨1, .guard⟩], guard := some (1, true) } ?_
    refine tn 4 { dst := some 26, op := Op.call { callee := Callee.value (Operand.func 130), args := #[.tmp 24, .tmp 25], argTypes := #[2, 97] }, type := 4, pos := "l10_view.go:193", after := #[⟨2, .data⟩, ⟨3, .data⟩, ⟨1, .chain⟩, ⟨1, .guard⟩], guard := some (1, true) } ?_
    refine tk 5 { dst := some 27, op := Op.pick (.tmp 23) (.tmp 26) (Operand.const (Value.bool false)), type := 4, pos := "l10_view.go:193", after := #[⟨1, .data⟩, ⟨4, .data⟩], guard := none } ?_
    refine tk 6 { dst := some 28, op := Op.move (.tmp 27), type := 4, pos := "l10_view.go:193", after := #[⟨5, .data⟩, ⟨4, .chain⟩], guard := none } ?_
    refine tn 7 { dst := some 29, op := Op.move (.tmp 9), type := 38, pos := "l10_view.go:193", after := #[⟨6, .guard⟩], guard := some (6, true) } ?_
    refine tn 8 { dst := some 30, op := Op.move (.tmp 2), type := 97, pos := "l10_view.go:193", after := #[⟨6, .guard⟩], guard := some (6, true) } ?_
    refine tn 9 { dst := some 31, op := Op.nilCheck (.tmp 30), type := 0, pos := "l10_view.go:193", after := #[⟨8, .data⟩, ⟨6, .guard⟩], guard := some (6, true) } ?_
    refine tn 10 { dst := some 32, op := Op.fieldAddr 40 (.tmp 31) 3, type := 0, pos := "l10_view.go:193", after := #[⟨9, .data⟩, ⟨6, .guard⟩], guard := some (6, true) } ?_
    refine tn 11 { dst := some 33, op := Op.load 2 (.tmp 32), type := 2, pos := "l10_view.go:193", after := #[⟨10, .data⟩, ⟨6, .guard⟩], guard := some (6, true) } ?_
    refine tn 12 { dst := some 34, op := Op.move (.tmp 2), type := 97, pos := "l10_view.go:193", after := #[⟨6, .guard⟩], guard := some (6, true) } ?_
    refine tn 13 { dst := some 35, op := Op.nilCheck (.tmp 34), type := 0, pos := "l10_view.go:193", after := #[⟨12, .data⟩, ⟨6, .guard⟩], guard := some (6, true) } ?_
    refine tn 14 { dst := some 36, op := Op.fieldAddr 40 (.tmp 35) 4, type := 0, pos := "l10_view.go:193", after := #[⟨13, .data⟩, ⟨6, .guard⟩], guard := some (6, true) } ?_
    refine tn 15 { dst := some 37, op := Op.load 2 (.tmp 36), type := 2, pos := "l10_view.go:193", after := #[⟨14, .data⟩, ⟨6, .guard⟩], guard := some (6, true) } ?_
    refine tn 16 { dst := some 38, op := Op.call { callee := Callee.value (Operand.func 112), args := #[.tmp 29, .tmp 33, .tmp 37], argTypes := #[38, 2, 2] }, type := 4, pos := "l10_view.go:193", after := #[⟨7, .data⟩, ⟨11, .data⟩, ⟨15, .data⟩, ⟨6, .chain⟩, ⟨6, .guard⟩], guard := some (6, true) } ?_
    refine tk 17 { dst := some 39, op := Op.pick (.tmp 28) (.tmp 38) (Operand.const (Value.bool false)), type := 4, pos := "l10_view.go:193", after := #[⟨6, .data⟩, ⟨16, .data⟩], guard := none } ?_
    refine tk 18 { dst := some 8, op := Op.assign (.tmp 39), type := 4, pos := "l10_view.go:193", after := #[⟨17, .data⟩, ⟨16, .chain⟩, ⟨0, .phase⟩, ⟨1, .phase⟩, ⟨2, .phase⟩, ⟨3, .phase⟩, ⟨4, .phase⟩, ⟨5, .phase⟩, ⟨6, .phase⟩, ⟨7, .phase⟩, ⟨8, .phase⟩, ⟨9, .phase⟩, ⟨10, .phase⟩, ⟨11, .phase⟩, ⟨12, .phase⟩, ⟨13, .phase⟩, ⟨14, .phase⟩, ⟨15, .phase⟩, ⟨16, .phase⟩, ⟨17, .phase⟩], guard := none } ?_
    refine wpAnyH_done (by kernel_rfl) ?_ _
    (try go_wp2)
    go_ret
    exact ⟨rfl, XV.out.drew⟩
  | true =>
    rw [hst] at HSt
    have HV2 : Hid _ := HVB.out hst
    rw [HV2.out]
    clear hst HVB HV2
    by_cases hp : Msg.primary f z.view = z.from_
    · have HPr : Hid _ := HPr0.out true (decide_eq_true hp)
      rw [decide_eq_true hp]
      clear hp HPr0
      go_enter Tryz.func76, Tryz.ntmps76
      go_wp2_with fail
      refine (HSt.out _ (Ext.refl _)).mono ?_
      rintro e wv ⟨vo, rfl, hI, hb⟩
      have XV : Hid (Ext w wv) := hb
      replace hI : ISlice wv vo (Msg.startL ms z.view y) := by simpa using hI
      have HMh : Hid (∀ wx, Ext wv wx → _) := fun wx he => HMy.out _ _ wv wx hI he
      obtain ⟨av, cv, rfl, -, -, -⟩ := hI
      clear hb HMy
      go_wp2
      clear d1
      refine wp_region_held_drew (S := (fun W' : World => W'.cell? ⟨b, o + 3, none⟩ = some (.int .i64 z.slot) ∧ W'.cell? ⟨b, o + 4, none⟩ = some (.int .i64 z.value))) (by kernel_rfl) (HS.out _ XV.out.drew) (fun hHeld => ?_)
      refine tk 0 { dst := some 22, op := Op.move (.tmp 10), type := 4, pos := "l10_view.go:193", after := #[], guard := none } ?_
      refine tk 1 { dst := some 23, op := Op.move (.tmp 22), type := 4, pos := "l10_view.go:193", after := #[⟨0, .data⟩], guard := none } ?_
      refine tk 2 { dst := some 24, op := Op.move (.tmp 0), type := 2, pos := "l10_view.go:193", after := #[⟨1, .guard⟩], guard := some (1, true) } ?_
      refine tk 3 { dst := some 25, op := Op.move (.tmp 2), type := 97, pos := "l10_view.go:193", after := #[⟨1, .guard⟩], guard := some (1, true) } ?_
      refine wpAnyH_ready (rs := [4]) (by kernel_rfl) (by simp) (AllReadyH.cons rfl (fun K hK => ?_) AllReadyH.nil)
      go_simp
      refine (HPr.out _ (XV.out.drew)).mono ?_
      rintro e y1 ⟨rfl, hb⟩
      have X1 : Hid (Ext w y1) := (XV.out.drew).trans hb
      have Y1 : Hid (Ext wv y1) := ((Ext.refl _).drew).trans hb
      clear hb
      refine hK.out _ _ (by exact HS.out _ X1.out) (fun hHeld1 => ?_)
      clear hK K
      refine tk 5 { dst := some 27, op := Op.pick (.tmp 23) (.tmp 26) (Operand.const (Value.bool false)), type := 4, pos := "l10_view.go:193", after := #[⟨1, .data⟩, ⟨4, .data⟩], guard := none } ?_
      refine tk 6 { dst := some 28, op := Op.move (.tmp 27), type := 4, pos := "l10_view.go:193", after := #[⟨5, .data⟩, ⟨4, .chain⟩], guard := none } ?_
      refine tk 7 { dst := some 29, op := Op.move (.tmp 9), type := 38, pos := "l10_view.go:193", after := #[⟨6, .guard⟩], guard := some (6, true) } ?_
      refine tk 8 { dst := some 30, op := Op.move (.tmp 2), type := 97, pos := "l10_view.go:193", after := #[⟨6, .guard⟩], guard := some (6, true) } ?_
      refine tk 9 { dst := some 31, op := Op.nilCheck (.tmp 30), type := 0, pos := "l10_view.go:193", after := #[⟨8, .data⟩, ⟨6, .guard⟩], guard := some (6, true) } ?_
      refine tk 10 { dst := some 32, op := Op.fieldAddr 40 (.tmp 31) 3, type := 0, pos := "l10_view.go:193", after := #[⟨9, .data⟩, ⟨6, .guard⟩], guard := some (6, true) } ?_
      refine tk 11 { dst := some 33, op := Op.load 2 (.tmp 32), type := 2, pos := "l10_view.go:193", after := #[⟨10, .data⟩, ⟨6, .guard⟩], guard := some (6, true) } ?_
      refine tk 12 { dst := some 34, op := Op.move (.tmp 2), type := 97, pos := "l10_view.go:193", after := #[⟨6, .guard⟩], guard := some (6, true) } ?_
      refine tk 13 { dst := some 35, op := Op.nilCheck (.tmp 34), type := 0, pos := "l10_view.go:193", after := #[⟨12, .data⟩, ⟨6, .guard⟩], guard := some (6, true) } ?_
      refine tk 14 { dst := some 36, op := Op.fieldAddr 40 (.tmp 35) 4, type := 0, pos := "l10_view.go:193", after := #[⟨13, .data⟩, ⟨6, .guard⟩], guard := some (6, true) } ?_
      refine tk 15 { dst := some 37, op := Op.load 2 (.tmp 36), type := 2, pos := "l10_view.go:193", after := #[⟨14, .data⟩, ⟨6, .guard⟩], guard := some (6, true) } ?_
      refine wpAnyH_ready (rs := [16]) (by kernel_rfl) (by simp) (AllReadyH.cons rfl (fun K hK => ?_) AllReadyH.nil)
      go_simp
      refine (HMh.out _ Y1.out).mono ?_
      rintro e y2 ⟨rfl, hw⟩
      have X2 : Hid (Ext w y2) := by rw [hw]; exact X1.out
      clear hw
      refine hK.out _ _ (by exact HS.out _ X2.out) (fun hHeld2 => ?_)
      clear hK K
      refine tk 17 { dst := some 39, op := Op.pick (.tmp 28) (.tmp 38) (Operand.const (Value.bool false)), type := 4, pos := "l10_view.go:193", after := #[⟨6, .data⟩, ⟨16, .data⟩], guard := none } ?_
      refine tk 18 { dst := some 8, op := Op.assign (.tmp 39), type := 4, pos := "l10_view.go:193", after := #[⟨17, .data⟩, ⟨16, .chain⟩, ⟨0, .phase⟩, ⟨1, .phase⟩, ⟨2, .phase⟩, ⟨3, .phase⟩, ⟨4, .phase⟩, ⟨5, .phase⟩, ⟨6, .phase⟩, ⟨7, .phase⟩, ⟨8, .phase⟩, ⟨9, .phase⟩, ⟨10, .phase⟩, ⟨11, .phase⟩, ⟨12, .phase⟩, ⟨13, .phase⟩, ⟨14, .phase⟩, ⟨15, .phase⟩, ⟨16, .phase⟩, ⟨17, .phase⟩], guard := none } ?_
      refine wpAnyH_done (by kernel_rfl) ?_ _
      (try go_wp2)
      go_ret
      exact ⟨rfl, X2.out⟩
    · have HPr : Hid _ := HPr0.out false (decide_eq_false hp)
      rw [decide_eq_false hp]
      clear hp HPr0
      go_enter Tryz.func76, Tryz.ntmps76
      go_wp2_with fail
      refine (HSt.out _ (Ext.refl _)).mono ?_
      rintro e wv ⟨vo, rfl, hI, hb⟩
      have XV : Hid (Ext w wv) := hb
      replace hI : ISlice wv vo (Msg.startL ms z.view y) := by simpa using hI
      obtain ⟨av, cv, rfl, -, -, -⟩ := hI
      clear hb HMy
      go_wp2
      clear d1
      refine wp_region_held_drew (S := (fun W' : World => W'.cell? ⟨b, o + 3, none⟩ = some (.int .i64 z.slot) ∧ W'.cell? ⟨b, o + 4, none⟩ = some (.int .i64 z.value))) (by kernel_rfl) (HS.out _ XV.out.drew) (fun hHeld => ?_)
      refine tk 0 { dst := some 22, op := Op.move (.tmp 10), type := 4, pos := "l10_view.go:193", after := #[], guard := none } ?_
      refine tk 1 { dst := some 23, op := Op.move (.tmp 22), type := 4, pos := "l10_view.go:193", after := #[⟨0, .data⟩], guard := none } ?_
      refine tk 2 { dst := some 24, op := Op.move (.tmp 0), type := 2, pos := "l10_view.go:193", after := #[⟨1, .guard⟩], guard := some (1, true) } ?_
      refine tk 3 { dst := some 25, op := Op.move (.tmp 2), type := 97, pos := "l10_view.go:193", after := #[⟨1, .guard⟩], guard := some (1, true) } ?_
      refine wpAnyH_ready (rs := [4]) (by kernel_rfl) (by simp) (AllReadyH.cons rfl (fun K hK => ?_) AllReadyH.nil)
      go_simp
      refine (HPr.out _ (XV.out.drew)).mono ?_
      rintro e y1 ⟨rfl, hb⟩
      have X1 : Hid (Ext w y1) := (XV.out.drew).trans hb
      have Y1 : Hid (Ext wv y1) := ((Ext.refl _).drew).trans hb
      clear hb
      refine hK.out _ _ (by exact HS.out _ X1.out) (fun hHeld1 => ?_)
      clear hK K
      refine tk 5 { dst := some 27, op := Op.pick (.tmp 23) (.tmp 26) (Operand.const (Value.bool false)), type := 4, pos := "l10_view.go:193", after := #[⟨1, .data⟩, ⟨4, .data⟩], guard := none } ?_
      refine tk 6 { dst := some 28, op := Op.move (.tmp 27), type := 4, pos := "l10_view.go:193", after := #[⟨5, .data⟩, ⟨4, .chain⟩], guard := none } ?_
      refine tn 7 { dst := some 29, op := Op.move (.tmp 9), type := 38, pos := "l10_view.go:193", after := #[⟨6, .guard⟩], guard := some (6, true) } ?_
      refine tn 8 { dst := some 30, op := Op.move (.tmp 2), type := 97, pos := "l10_view.go:193", after := #[⟨6, .guard⟩], guard := some (6, true) } ?_
      refine tn 9 { dst := some 31, op := Op.nilCheck (.tmp 30), type := 0, pos := "l10_view.go:193", after := #[⟨8, .data⟩, ⟨6, .guard⟩], guard := some (6, true) } ?_
      refine tn 10 { dst := some 32, op := Op.fieldAddr 40 (.tmp 31) 3, type := 0, pos := "l10_view.go:193", after := #[⟨9, .data⟩, ⟨6, .guard⟩], guard := some (6, true) } ?_
      refine tn 11 { dst := some 33, op := Op.load 2 (.tmp 32), type := 2, pos := "l10_view.go:193", after := #[⟨10, .data⟩, ⟨6, .guard⟩], guard := some (6, true) } ?_
      refine tn 12 { dst := some 34, op := Op.move (.tmp 2), type := 97, pos := "l10_view.go:193", after := #[⟨6, .guard⟩], guard := some (6, true) } ?_
      refine tn 13 { dst := some 35, op := Op.nilCheck (.tmp 34), type := 0, pos := "l10_view.go:193", after := #[⟨12, .data⟩, ⟨6, .guard⟩], guard := some (6, true) } ?_
      refine tn 14 { dst := some 36, op := Op.fieldAddr 40 (.tmp 35) 4, type := 0, pos := "l10_view.go:193", after := #[⟨13, .data⟩, ⟨6, .guard⟩], guard := some (6, true) } ?_
      refine tn 15 { dst := some 37, op := Op.load 2 (.tmp 36), type := 2, pos := "l10_view.go:193", after := #[⟨14, .data⟩, ⟨6, .guard⟩], guard := some (6, true) } ?_
      refine tn 16 { dst := some 38, op := Op.call { callee := Callee.value (Operand.func 112), args := #[.tmp 29, .tmp 33, .tmp 37], argTypes := #[38, 2, 2] }, type := 4, pos := "l10_view.go:193", after := #[⟨7, .data⟩, ⟨11, .data⟩, ⟨15, .data⟩, ⟨6, .chain⟩, ⟨6, .guard⟩], guard := some (6, true) } ?_
      refine tk 17 { dst := some 39, op := Op.pick (.tmp 28) (.tmp 38) (Operand.const (Value.bool false)), type := 4, pos := "l10_view.go:193", after := #[⟨6, .data⟩, ⟨16, .data⟩], guard := none } ?_
      refine tk 18 { dst := some 8, op := Op.assign (.tmp 39), type := 4, pos := "l10_view.go:193", after := #[⟨17, .data⟩, ⟨16, .chain⟩, ⟨0, .phase⟩, ⟨1, .phase⟩, ⟨2, .phase⟩, ⟨3, .phase⟩, ⟨4, .phase⟩, ⟨5, .phase⟩, ⟨6, .phase⟩, ⟨7, .phase⟩, ⟨8, .phase⟩, ⟨9, .phase⟩, ⟨10, .phase⟩, ⟨11, .phase⟩, ⟨12, .phase⟩, ⟨13, .phase⟩, ⟨14, .phase⟩, ⟨15, .phase⟩, ⟨16, .phase⟩, ⟨17, .phase⟩], guard := none } ?_
      refine wpAnyH_done (by kernel_rfl) ?_ _
      (try go_wp2)
      go_ret
      exact ⟨rfl, X1.out⟩


end Go.Proofs.YtecgjdgfjgcmdaaGreat
