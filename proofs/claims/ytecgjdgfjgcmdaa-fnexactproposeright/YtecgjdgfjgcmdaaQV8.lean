/- what may be proposed: the program's. -/
import Derived.Test.YtecgjdgfjgcmdaaQV7
import Derived.Test.YtecgjdgfjgcmdaaQV6
import Derived.Deep.RegionHeld3
namespace Go.Proofs.Ytecgjdgfjgcmdaa
open Go.RowKit
namespace Msg
/-- What a view takes over that begins at start. -/
def startL (ms : List Ms) (view start : Int) : List Int := if view = 0 then [] else picks ms (refsAt ms start)
theorem startL_len (ms : List Ms) (view start : Int) : (startL ms view start).length ≤ 30 := by
  unfold startL
  split
  · simp
  · exact picks_len _ _
theorem valueB_L {f : Int} {ms : List Ms} {view start slot value : Int} (h : startB f ms view start = true) (hs : 1 ≤ slot) (hv : 0 ≤ value) : valueB ms start slot value = if slot ≤ ((startL ms view start).length : Int) then decide (value = (startL ms view start).getD (slot - 1).toNat 0) else decide (¬ value = 0) := by
  unfold startB at h
  unfold valueB startL
  by_cases h0 : view = 0
  · rw [if_pos h0, decide_eq_true_eq] at h
    subst h
    rw [if_pos (by decide), if_pos h0]
    rw [if_neg (by simp; omega), Bool.eq_iff_iff]
    simp
    omega
  · rw [if_neg h0, Bool.and_eq_true] at h
    rw [if_neg h0]
    have hst : 0 ≤ start := by
      cases hn : nth ms start with
      | none => rw [newAt_none hn] at h; exact absurd h.1 (by decide)
      | some z => exact (nth_some hn).1
    rw [if_neg (by omega)]
    by_cases h1 : slot ≤ ((picks ms (refsAt ms start)).length : Int)
    · rw [if_pos h1, if_pos h1]
    · rw [if_neg h1, if_neg h1, Bool.eq_iff_iff]
      simp
      omega
def holdB (l : List Int) (slot value : Int) : Bool := if slot ≤ (l.length : Int) then decide (value = l.getD (slot - 1).toNat 0) else decide (¬ value = 0)
theorem holdB_is {f : Int} {ms : List Ms} {view start slot value : Int} (h : startB f ms view start = true) (hs : 1 ≤ slot) (hv : 0 ≤ value) : valueB ms start slot value = holdB (startL ms view start) slot value := valueB_L h hs hv
theorem startB_zero {f : Int} {ms : List Ms} {start : Int} : startB f ms 0 start = decide (start = -1) := by unfold startB; rw [if_pos rfl]
theorem startB_no {f : Int} {ms : List Ms} {view start : Int} (h0 : ¬ view = 0) (h : newAt f ms start = false ∨ ¬ viewAt ms start = view) : startB f ms view start = false := by
  unfold startB
  rw [if_neg h0, Bool.and_eq_false_iff]
  rcases h with h | h
  · exact Or.inl h
  · exact Or.inr (decide_eq_false h)
theorem startB_is {f : Int} {ms : List Ms} {view start : Int} (h0 : ¬ view = 0) (h : viewAt ms start = view) : startB f ms view start = newAt f ms start := by
  unfold startB
  rw [if_neg h0, decide_eq_true h, Bool.and_true]
theorem startL_is {ms : List Ms} {view start : Int} {z : Ms} (h0 : ¬ view = 0) (h : nth ms start = some z) : startL ms view start = picks ms z.refs := by
  unfold startL
  rw [if_neg h0, refsAt_some h]
theorem new_no {f : Int} {ms : List Ms} {x : Int} (h : kindAt ms x 5 = false) : newAt f ms x = false := by
  cases hn : nth ms x with
  | none => exact newAt_none hn
  | some z =>
    rw [kindAt_some hn, decide_eq_false_iff_not] at h
    rw [newAt_some hn]
    exact newB_no (fun h2 => h h2.1)
theorem propose_no {f : Int} {ms : List Ms} {x y : Int} (h : kindAt ms x 1 = false) : proposeAt f ms x y = false := by
  cases hn : nth ms x with
  | none => exact proposeAt_none hn
  | some z =>
    rw [kindAt_some hn, decide_eq_false_iff_not] at h
    rw [proposeAt_some hn]
    unfold proposeB
    rw [decide_eq_false h]; rfl
end Msg
theorem empty_own (w : World) (g : Nat) : Led.IOwn w (.slice none 0 0) g [] := ⟨none, 0, rfl, Nat.le_refl _, by unfold maxLen; omega, fun h => by simp at h⟩
theorem empty_nums (w : World) : ISlice w (.slice none 0 0) [] := ⟨none, 0, rfl, Nat.le_refl _, by unfold maxLen; omega, fun h => by simp at h⟩

set_option maxHeartbeats 8000000 in
set_option maxRecDepth 100000 in
theorem valuesAtStart_any (f : Int) (v : Value) (ms : List Ms) (view start : Int) (w : World) (hS : MSlice w v ms) (hled : Msg.ledger f ms = 0) :
    Calls Try.prog 72 #[.int .i64 f, v, .int .i64 view, .int .i64 start] w fun e w' => ∃ vo g, e = .returned (.tuple #[vo, .bool (Msg.startB f ms view start)]) ∧ w.heap.size ≤ g ∧ Led.IOwn w' vo g (if Msg.startB f ms view start = true then Msg.startL ms view start else []) ∧ Ext w w' := by
  have HNo : Hid (Msg.kindAt ms start 5 = false → Calls Try.prog 42 #[v, .int .i64 start, .int .i64 5] w fun e w' => e = .returned (.pointer none) ∧ w' = w) := fun h => findMsg_no v ms start 5 w hS h
  have HYe : Hid (∀ z, Msg.nth ms start = some z → z.kind = 5 → Calls Try.prog 42 #[v, .int .i64 start, .int .i64 5] w fun e w' => ∃ b o, e = .returned (.pointer (some ⟨b, o, none⟩)) ∧ b < w.heap.size ∧ MAt w b o z ∧ w' = w) := fun z h1 h2 => findMsg_yes v ms start 5 z w hS h1 h2
  have HNw : Hid (∀ z b o, Msg.nth ms start = some z → z.kind = 5 → b < w.heap.size → MAt w b o z → Calls Try.prog 97 #[.int .i64 f, v, .pointer (some ⟨b, o, none⟩)] w fun e w' => e = .returned (.bool (Msg.newB f ms z)) ∧ Ext w w') := fun z b o h1 h2 hb hm => isRightNew_any f v ms z b o start.toNat w hS hled (Msg.nth_some h1).2.2 h2 hb hm
  have HTk : Hid (∀ z u wx, Msg.nth ms start = some z → Ext w wx → ISlice wx u z.refs → Calls Try.prog 98 #[v, u] wx fun e w' => ∃ vo g, e = .returned vo ∧ wx.heap.size ≤ g ∧ Led.IOwn w' vo g (Msg.picks ms z.refs) ∧ Ext wx w') := fun z u wx h1 he hi => valuesTakenOver_any f v ms u z.refs wx (hS.ext he) hi hled (Msg.refs_zero hled (Msg.nth_some h1).2.2) (by have h2 := (Msg.lists_zero (Msg.ledger_all hled z (List.mem_of_getElem? (Msg.nth_some h1).2.2))).2.1; have h3 := Msg.ledger_zero hled; omega)
  obtain ⟨a, cap, rfl, -, -, -⟩ := hS
  clear hled
  by_cases h0 : view = 0
  · subst h0
    rw [Msg.startB_zero]
    have hL : Msg.startL ms 0 start = [] := by unfold Msg.startL; rw [if_pos rfl]
    rw [hL]
    have hq : (start == -1) = decide (start = -1) := by by_cases h : start = -1 <;> simp [h]
    have hE : (if decide (start = -1) = true then ([] : List Int) else []) = [] := by split <;> rfl
    rw [hE]
    generalize decide (start = -1) = bb at *
    clear HNo HYe HNw HTk hE hL
    go_enter Try.func72, Try.ntmps72
    go_wp2
    go_ret2
    exact ⟨_, _, rfl, Nat.le_refl _, empty_own _ _, Ext.refl _⟩
  · have g0 : (view == 0) = false := by simpa using h0
    cases hk : Msg.kindAt ms start 5 with
    | false =>
      rw [Msg.startB_no h0 (Or.inl (Msg.new_no hk)), if_neg (by decide)]
      have HN2 : Hid (Calls Try.prog 42 #[.slice a ms.length cap, .int .i64 start, .int .i64 5] w fun e w' => e = .returned (.pointer none) ∧ w' = w) := HNo.out hk
      clear HNo HYe HNw HTk h0 hk
      go_enter Try.func72, Try.ntmps72
      go_wp2_with fail
      refine HN2.out.mono ?_
      rintro e w9 ⟨rfl, hw⟩
      rw [hw]
      clear hw w9
      go_wp2
      go_ret2
      exact ⟨_, _, rfl, Nat.le_refl _, empty_own _ _, Ext.refl _⟩
    | true =>
      cases hn : Msg.nth ms start with
      | none => rw [Msg.kindAt_none hn] at hk; cases hk
      | some z =>
        rw [Msg.kindAt_some hn, decide_eq_true_eq] at hk
        have HY2 : Hid (Calls Try.prog 42 #[.slice a ms.length cap, .int .i64 start, .int .i64 5] w fun e w' => ∃ b o, e = .returned (.pointer (some ⟨b, o, none⟩)) ∧ b < w.heap.size ∧ MAt w b o z ∧ w' = w) := HYe.out z hn hk
        have HZ : Hid (Msg.nth ms start = some z ∧ z.kind = 5) := ⟨hn, hk⟩
        by_cases hv : z.view = view
        · have g1 : (z.view != view) = false := by simpa using hv
          rw [Msg.startB_is h0 (by rw [Msg.viewAt_some hn]; exact hv), Msg.newAt_some hn, Msg.startL_is h0 hn]
          have HNz : Hid (∀ b o, b < w.heap.size → MAt w b o z → Calls Try.prog 97 #[.int .i64 f, .slice a ms.length cap, .pointer (some ⟨b, o, none⟩)] w fun e w' => e = .returned (.bool (Msg.newB f ms z)) ∧ Ext w w') := fun b o => HNw.out z b o hn hk
          clear HNo HYe h0 hk hn hv HNw
          cases hB : Msg.newB f ms z with
          | true =>
            rw [hB] at HNz
            rw [if_pos rfl]
            clear hB
            go_enter Try.func72, Try.ntmps72
            go_wp2_with fail
            refine HY2.out.mono ?_
            rintro e w9 ⟨b, o, rfl, hb, hm, hw⟩
            rw [hw]
            clear hw w9
            have HM : Hid (MAt w b o z ∧ b < w.heap.size) := ⟨hm, hb⟩
            obtain ⟨vz, uz, ⟨-, d1, -, -, -, -, -⟩, -⟩ := hm
            go_wp2_with fail
            refine (HNz.out b o HM.out.2 HM.out.1).mono ?_
            rintro e w2 ⟨rfl, hb2⟩
            have HE2 : Hid (Ext w w2) := hb2
            obtain ⟨vy, uy, ⟨-, -, -, -, -, -, d6⟩, hL⟩ := HM.out.1.ext HM.out.2 hb2
            have HIr : Hid (ISlice w2 uy z.refs) := hL.2
            obtain ⟨-, ⟨ar, cr, rfl, -, -, -⟩⟩ := hL
            clear hb2 d1
            go_wp2_with fail
            refine (HTk.out z _ _ HZ.out.1 HE2.out HIr.out).mono ?_
            rintro e w5 ⟨v5, g5, rfl, hg5, hO5, hb5⟩
            have HE5 : Hid (Ext w w5) := HE2.out.trans hb5
            have HI5 : Hid (Led.IOwn w5 v5 g5 (Msg.picks ms z.refs) ∧ w.heap.size ≤ g5) := ⟨hO5, Nat.le_trans HE2.out.size hg5⟩
            obtain ⟨a5, c5, rfl, -⟩ := id hO5
            clear hb5 hO5 hg5
            go_wp2
            go_ret2
            exact ⟨_, g5, rfl, HI5.out.2, HI5.out.1, HE5.out⟩
          | false =>
            rw [hB] at HNz
            rw [if_neg (by decide)]
            clear hB HTk
            go_enter Try.func72, Try.ntmps72
            go_wp2_with fail
            refine HY2.out.mono ?_
            rintro e w9 ⟨b, o, rfl, hb, hm, hw⟩
            rw [hw]
            clear hw w9
            have HM : Hid (MAt w b o z ∧ b < w.heap.size) := ⟨hm, hb⟩
            obtain ⟨vz, uz, ⟨-, d1, -, -, -, -, -⟩, -⟩ := hm
            go_wp2_with fail
            refine (HNz.out b o HM.out.2 HM.out.1).mono ?_
            rintro e w2 ⟨rfl, hb2⟩
            have HE2 : Hid (Ext w w2) := hb2
            clear hb2 d1
            go_wp2
            go_ret2
            exact ⟨_, _, rfl, Nat.le_refl _, empty_own _ _, HE2.out⟩
        · have g1 : (z.view != view) = true := by simpa using hv
          rw [Msg.startB_no h0 (Or.inr (by rw [Msg.viewAt_some hn]; exact hv)), if_neg (by decide)]
          clear HNo HYe h0 hk hn hv HNw HTk
          go_enter Try.func72, Try.ntmps72
          go_wp2_with fail
          refine HY2.out.mono ?_
          rintro e w9 ⟨b, o, rfl, hb, hm, hw⟩
          rw [hw]
          clear hw w9
          obtain ⟨vz, uz, ⟨-, d1, -, -, -, -, -⟩, -⟩ := hm
          go_wp2
          go_ret2
          exact ⟨_, _, rfl, Nat.le_refl _, empty_own _ _, Ext.refl _⟩

set_option maxHeartbeats 2000000 in
theorem isTakenOver_any (u : Value) (l : List Int) (slot : Int) (bb : Bool) (w : World) (hI : ISlice w u l) (hbb : decide (slot ≤ (l.length : Int)) = bb) :
    Calls Try.prog 99 #[u, .int .i64 slot] w fun e w' => e = .returned (.bool bb) ∧ w' = w := by
  obtain ⟨a, c, rfl, -, -, -⟩ := hI
  subst hbb
  go_enter Try.func99, Try.ntmps99
  go_wp2
  go_ret
  exact ⟨rfl, rfl⟩

set_option maxHeartbeats 2000000 in
theorem mayHold_any (u : Value) (l : List Int) (slot value : Int) (w : World) (hI : ISlice w u l) (hs : 1 ≤ slot ∧ slot ≤ 30) :
    Calls Try.prog 74 #[u, .int .i64 slot, .int .i64 value] w fun e w' => e = .returned (.bool (Msg.holdB l slot value)) ∧ w' = w := by
  have HT : Hid (∀ bb, decide (slot ≤ (l.length : Int)) = bb → Calls Try.prog 99 #[u, .int .i64 slot] w fun e w' => e = .returned (.bool bb) ∧ w' = w) := fun bb h => isTakenOver_any u l slot bb w hI h
  by_cases h : slot ≤ (l.length : Int)
  · have HT1 : Hid _ := HT.out true (decide_eq_true h)
    have hk : (slot - 1).toNat < l.length := by omega
    obtain ⟨x, hx⟩ : ∃ x, l[(slot - 1).toNat]? = some x := ⟨_, List.getElem?_eq_getElem hk⟩
    have hE : Msg.holdB l slot value = decide (value = x) := by unfold Msg.holdB; rw [if_pos h, List.getD_eq_getElem?_getD, hx]; rfl
    rw [hE]
    obtain ⟨a, c, rfl, hlc, hcm, hat⟩ := hI
    obtain ⟨b, off, rfl, hb, hall⟩ := hat (by omega)
    have d0 := hall _ _ hx
    obtain ⟨j, hj⟩ : ∃ j : Nat, j = (slot - 1).toNat := ⟨_, rfl⟩
    rw [← hj] at d0 hk
    have hsj : slot = (j : Int) + 1 := by omega
    have hwp : IntKind.i64.wrap (slot - 1) = (j : Int) := by rw [IntKind.wrap_i64]; omega
    have hq : (value == x) = decide (value = x) := by by_cases h : value = x <;> simp [h]
    clear hx hE hall hj HT h
    clear hsj
    go_enter Try.func74, Try.ntmps74
    go_wp2_with fail
    refine Calls.mono HT1.out ?_
    rintro e w9 ⟨rfl, hw⟩
    rw [hw]
    clear hw w9
    go_wp2
    go_ret
    exact ⟨ret_bool (by first | rfl | exact hq | simp [hq]), rfl⟩
  · have HT1 : Hid _ := HT.out false (decide_eq_false h)
    have hE : Msg.holdB l slot value = decide (¬ value = 0) := by unfold Msg.holdB; rw [if_neg h]
    rw [hE]
    obtain ⟨a, c, rfl, -, -, -⟩ := hI
    have hq : (value != 0) = decide (¬ value = 0) := by by_cases h : value = 0 <;> simp [h]
    clear hE HT h
    go_enter Try.func74, Try.ntmps74
    go_wp2_with fail
    refine Calls.mono HT1.out ?_
    rintro e w9 ⟨rfl, hw⟩
    rw [hw]
    clear hw w9
    go_wp2
    go_ret
    exact ⟨ret_bool (by first | rfl | exact hq | simp [hq]), rfl⟩

set_option linter.unusedSimpArgs false in
set_option maxHeartbeats 8000000 in
set_option maxRecDepth 100000 in
theorem isRightPropose_any (f : Int) (v : Value) (ms : List Ms) (z : Ms) (b o k : Nat) (y : Int) (w : World) (hS : MSlice w v ms) (hled : Msg.ledger f ms = 0) (hk : ms[k]? = some z) (h1 : z.kind = 1) (hb : b < w.heap.size) (hm : MAt w b o z) :
    Calls Try.prog 43 #[.int .i64 f, v, .pointer (some ⟨b, o, none⟩), .int .i64 y] w fun e w' => e = .returned (.bool (Msg.proposeB f ms z y)) ∧ Ext w w' := by
  obtain ⟨hf0, hf1, hml⟩ := Msg.ledger_zero hled
  have hfa := Msg.ledger_all hled z (List.mem_of_getElem? hk)
  have hvw := Msg.view_in hfa
  have hsl : (1 ≤ z.slot ∧ z.slot ≤ 30) ∧ 0 ≤ z.value := by
    obtain ⟨-, h2⟩ := Msg.faultM_zero hfa
    unfold Msg.boundsN at h2
    rw [decide_eq_true_eq] at h2
    omega
  have HPB : Hid (Msg.proposeB f ms z y = (Msg.startB f ms z.view y && decide (Msg.primary f z.view = z.from_) && Msg.valueB ms y z.slot z.value)) := by
    show _ = _
    unfold Msg.proposeB
    rw [decide_eq_true h1, Bool.true_and]
    congr 1
    rw [Bool.and_comm]
    congr 1
    rw [Bool.eq_iff_iff, decide_eq_true_eq, decide_eq_true_eq]
    exact ⟨fun h => h.symm, fun h => h.symm⟩
  rw [HPB.out]
  have HPr0 : Hid (∀ bb, decide (Msg.primary f z.view = z.from_) = bb → ∀ (wx : World), Ext w wx → Calls Try.prog 73 #[.int .i64 f, .pointer (some ⟨b, o, none⟩)] wx fun e w' => e = .returned (.bool bb) ∧ Ext wx w') := fun bb h wx he => isPrimary_any f z b o bb wx hf0 hf1 hvw (Nat.lt_of_lt_of_le hb he.size) (hm.ext hb he) h
  have HSt : Hid (∀ wx, Ext w wx → Calls Try.prog 72 #[.int .i64 f, v, .int .i64 z.view, .int .i64 y] wx fun e w' => ∃ vo, e = .returned (.tuple #[vo, .bool (Msg.startB f ms z.view y)]) ∧ ISlice w' vo (if Msg.startB f ms z.view y = true then Msg.startL ms z.view y else []) ∧ Ext wx w') := fun wx he => (valuesAtStart_any f v ms z.view y wx (hS.ext he) hled).mono fun e w' ⟨vo, g, h1, _, h2, h3⟩ => ⟨vo, h1, h2.slice, h3⟩
  have HVB : Hid (Msg.startB f ms z.view y = true → Msg.valueB ms y z.slot z.value = Msg.holdB (Msg.startL ms z.view y) z.slot z.value) := fun h => Msg.holdB_is h hsl.1.1 hsl.2
  have HMy : Hid (∀ (u : Value) (l : List Int) (wv wx : World), ISlice wv u l → Ext wv wx → Calls Try.prog 74 #[u, .int .i64 z.slot, .int .i64 z.value] wx fun e w' => e = .returned (.bool (Msg.holdB l z.slot z.value)) ∧ w' = wx) := fun u l wv wx h he => mayHold_any u l z.slot z.value wx (h.ext he) hsl.1
  obtain ⟨vz, uz, ⟨-, d1, -, d3, d4, -, -⟩, -⟩ := hm
  have HS : Hid (∀ W', Ext w W' → W'.cell? ⟨b, o + 3, none⟩ = some (.int .i64 z.slot) ∧ W'.cell? ⟨b, o + 4, none⟩ = some (.int .i64 z.value)) := fun W' he => ⟨((Ext.cell he).1 _ _ hb).trans d3, ((Ext.cell he).1 _ _ hb).trans d4⟩
  obtain ⟨a, cap, rfl, -, -, -⟩ := hS
  clear hled hk hfa hvw h1 d3 d4 HPB hsl
  cases hst : Msg.startB f ms z.view y with
  | false =>
    rw [hst] at HSt
    clear hst
    go_enter Try.func43, Try.ntmps43
    go_wp2_with fail
    refine (HSt.out _ (Ext.refl _)).mono ?_
    rintro e wv ⟨vo, rfl, hI, hb⟩
    have XV : Hid (Ext w wv) := hb
    obtain ⟨av, cv, rfl, -, -, -⟩ := hI
    clear hb
    go_wp2
    clear d1
    refine wp_region_held_drew (S := (fun W' : World => W'.cell? ⟨b, o + 3, none⟩ = some (.int .i64 z.slot) ∧ W'.cell? ⟨b, o + 4, none⟩ = some (.int .i64 z.value))) (by kernel_rfl) (HS.out _ XV.out.drew) (fun hHeld => ?_)
    refine wpAnyH_take (i := 0) (oi := { dst := some 22, op := Op.move (Operand.tmp 10), type := 4, pos := "l10_view.go:193", after := #[], guard := none }) (v := ?_) rfl (by kernel_rfl) (by kernel_rfl) (by kernel_rfl) (fun _ _ _ h => h) (Or.inl ⟨by rfl, ?_⟩) (by assumption) ?_
    rotate_left
    · intro w' hSw; (try dsimp only at hSw); go_simp; try with_reducible rfl
    (try simp only [Act.put, List.setIfInBounds_toArray, List.set_cons_zero, List.set_cons_succ])
    refine wpAnyH_take (i := 1) (oi := { dst := some 23, op := Op.move (Operand.tmp 22), type := 4, pos := "l10_view.go:193", after := #[{ on := 0, ground := Ground.data }], guard := none }) (v := ?_) rfl (by kernel_rfl) (by kernel_rfl) (by kernel_rfl) (fun _ _ _ h => h) (Or.inl ⟨by rfl, ?_⟩) (by assumption) ?_
    rotate_left
    · intro w' hSw; (try dsimp only at hSw); go_simp; try with_reducible rfl
    (try simp only [Act.put, List.setIfInBounds_toArray, List.set_cons_zero, List.set_cons_succ])
    refine wpAnyH_take (i := 2) (oi := { dst := some 24, op := Op.move (Operand.tmp 0), type := 2, pos := "l10_view.go:193", after := #[{ on := 1, ground := Ground.guard }], guard := some (1, true) }) (v := undef) rfl (by kernel_rfl) (by kernel_rfl) (by kernel_rfl) (fun _ _ _ h => h) (Or.inr ⟨by rfl, rfl⟩) (by assumption) ?_
    (try simp only [Act.put, List.setIfInBounds_toArray, List.set_cons_zero, List.set_cons_succ])
    refine wpAnyH_take (i := 3) (oi := { dst := some 25, op := Op.move (Operand.tmp 2), type := 63, pos := "l10_view.go:193", after := #[{ on := 1, ground := Ground.guard }], guard := some (1, true) }) (v := undef) rfl (by kernel_rfl) (by kernel_rfl) (by kernel_rfl) (fun _ _ _ h => h) (Or.inr ⟨by rfl, rfl⟩) (by assumption) ?_
    (try simp only [Act.put, List.setIfInBounds_toArray, List.set_cons_zero, List.set_cons_succ])
    refine wpAnyH_take (i := 4) (oi := { dst := some 26, op := Op.call { callee := Callee.value (Operand.func 73), args := #[Operand.tmp 24, Operand.tmp 25], argTypes := #[2, 63] }, type := 4, pos := "l10_view.go:193", after := #[{ on := 2, ground := Ground.data }, { on := 3, ground := Ground.data }, { on := 1, ground := Ground.chain }, { on := 1, ground := Ground.guard }], guard := some (1, true) }) (v := undef) rfl (by kernel_rfl) (by kernel_rfl) (by kernel_rfl) (fun _ _ _ h => h) (Or.inr ⟨by rfl, rfl⟩) (by assumption) ?_
    (try simp only [Act.put, List.setIfInBounds_toArray, List.set_cons_zero, List.set_cons_succ])
    refine wpAnyH_take (i := 5) (oi := { dst := some 27, op := Op.pick (Operand.tmp 23) (Operand.tmp 26) (Operand.const (Value.bool false)), type := 4, pos := "l10_view.go:193", after := #[{ on := 1, ground := Ground.data }, { on := 4, ground := Ground.data }], guard := none }) (v := ?_) rfl (by kernel_rfl) (by kernel_rfl) (by kernel_rfl) (fun _ _ _ h => h) (Or.inl ⟨by rfl, ?_⟩) (by assumption) ?_
    rotate_left
    · intro w' hSw; (try dsimp only at hSw); go_simp; try with_reducible rfl
    (try simp only [Act.put, List.setIfInBounds_toArray, List.set_cons_zero, List.set_cons_succ])
    refine wpAnyH_take (i := 6) (oi := { dst := some 28, op := Op.move (Operand.tmp 27), type := 4, pos := "l10_view.go:193", after := #[{ on := 5, ground := Ground.data }, { on := 4, ground := Ground.chain }], guard := none }) (v := ?_) rfl (by kernel_rfl) (by kernel_rfl) (by kernel_rfl) (fun _ _ _ h => h) (Or.inl ⟨by rfl, ?_⟩) (by assumption) ?_
    rotate_left
    · intro w' hSw; (try dsimp only at hSw); go_simp; try with_reducible rfl
    (try simp only [Act.put, List.setIfInBounds_toArray, List.set_cons_zero, List.set_cons_succ])
    refine wpAnyH_take (i := 7) (oi := { dst := some 29, op := Op.move (Operand.tmp 9), type := 24, pos := "l10_view.go:193", after := #[{ on := 6, ground := Ground.guard }], guard := some (6, true) }) (v := undef) rfl (by kernel_rfl) (by kernel_rfl) (by kernel_rfl) (fun _ _ _ h => h) (Or.inr ⟨by rfl, rfl⟩) (by assumption) ?_
    (try simp only [Act.put, List.setIfInBounds_toArray, List.set_cons_zero, List.set_cons_succ])
    refine wpAnyH_take (i := 8) (oi := { dst := some 30, op := Op.move (Operand.tmp 2), type := 63, pos := "l10_view.go:193", after := #[{ on := 6, ground := Ground.guard }], guard := some (6, true) }) (v := undef) rfl (by kernel_rfl) (by kernel_rfl) (by kernel_rfl) (fun _ _ _ h => h) (Or.inr ⟨by rfl, rfl⟩) (by assumption) ?_
    (try simp only [Act.put, List.setIfInBounds_toArray, List.set_cons_zero, List.set_cons_succ])
    refine wpAnyH_take (i := 9) (oi := { dst := some 31, op := Op.nilCheck (Operand.tmp 30), type := 0, pos := "l10_view.go:193", after := #[{ on := 8, ground := Ground.data }, { on := 6, ground := Ground.guard }], guard := some (6, true) }) (v := undef) rfl (by kernel_rfl) (by kernel_rfl) (by kernel_rfl) (fun _ _ _ h => h) (Or.inr ⟨by rfl, rfl⟩) (by assumption) ?_
    (try simp only [Act.put, List.setIfInBounds_toArray, List.set_cons_zero, List.set_cons_succ])
    refine wpAnyH_take (i := 10) (oi := { dst := some 32, op := Op.fieldAddr 55 (Operand.tmp 31) 3, type := 0, pos := "l10_view.go:193", after := #[{ on := 9, ground := Ground.data }, { on := 6, ground := Ground.guard }], guard := some (6, true) }) (v := undef) rfl (by kernel_rfl) (by kernel_rfl) (by kernel_rfl) (fun _ _ _ h => h) (Or.inr ⟨by rfl, rfl⟩) (by assumption) ?_
    (try simp only [Act.put, List.setIfInBounds_toArray, List.set_cons_zero, List.set_cons_succ])
    refine wpAnyH_take (i := 11) (oi := { dst := some 33, op := Op.load 2 (Operand.tmp 32), type := 2, pos := "l10_view.go:193", after := #[{ on := 10, ground := Ground.data }, { on := 6, ground := Ground.guard }], guard := some (6, true) }) (v := undef) rfl (by kernel_rfl) (by kernel_rfl) (by kernel_rfl) (fun _ _ _ h => h) (Or.inr ⟨by rfl, rfl⟩) (by assumption) ?_
    (try simp only [Act.put, List.setIfInBounds_toArray, List.set_cons_zero, List.set_cons_succ])
    refine wpAnyH_take (i := 12) (oi := { dst := some 34, op := Op.move (Operand.tmp 2), type := 63, pos := "l10_view.go:193", after := #[{ on := 6, ground := Ground.guard }], guard := some (6, true) }) (v := undef) rfl (by kernel_rfl) (by kernel_rfl) (by kernel_rfl) (fun _ _ _ h => h) (Or.inr ⟨by rfl, rfl⟩) (by assumption) ?_
    (try simp only [Act.put, List.setIfInBounds_toArray, List.set_cons_zero, List.set_cons_succ])
    refine wpAnyH_take (i := 13) (oi := { dst := some 35, op := Op.nilCheck (Operand.tmp 34), type := 0, pos := "l10_view.go:193", after := #[{ on := 12, ground := Ground.data }, { on := 6, ground := Ground.guard }], guard := some (6, true) }) (v := undef) rfl (by kernel_rfl) (by kernel_rfl) (by kernel_rfl) (fun _ _ _ h => h) (Or.inr ⟨by rfl, rfl⟩) (by assumption) ?_
    (try simp only [Act.put, List.setIfInBounds_toArray, List.set_cons_zero, List.set_cons_succ])
    refine wpAnyH_take (i := 14) (oi := { dst := some 36, op := Op.fieldAddr 55 (Operand.tmp 35) 4, type := 0, pos := "l10_view.go:193", after := #[{ on := 13, ground := Ground.data }, { on := 6, ground := Ground.guard }], guard := some (6, true) }) (v := undef) rfl (by kernel_rfl) (by kernel_rfl) (by kernel_rfl) (fun _ _ _ h => h) (Or.inr ⟨by rfl, rfl⟩) (by assumption) ?_
    (try simp only [Act.put, List.setIfInBounds_toArray, List.set_cons_zero, List.set_cons_succ])
    refine wpAnyH_take (i := 15) (oi := { dst := some 37, op := Op.load 2 (Operand.tmp 36), type := 2, pos := "l10_view.go:193", after := #[{ on := 14, ground := Ground.data }, { on := 6, ground := Ground.guard }], guard := some (6, true) }) (v := undef) rfl (by kernel_rfl) (by kernel_rfl) (by kernel_rfl) (fun _ _ _ h => h) (Or.inr ⟨by rfl, rfl⟩) (by assumption) ?_
    (try simp only [Act.put, List.setIfInBounds_toArray, List.set_cons_zero, List.set_cons_succ])
    refine wpAnyH_take (i := 16) (oi := { dst := some 38, op := Op.call { callee := Callee.value (Operand.func 74), args := #[Operand.tmp 29, Operand.tmp 33, Operand.tmp 37], argTypes := #[24, 2, 2] }, type := 4, pos := "l10_view.go:193", after := #[{ on := 7, ground := Ground.data }, { on := 11, ground := Ground.data }, { on := 15, ground := Ground.data }, { on := 6, ground := Ground.chain }, { on := 6, ground := Ground.guard }], guard := some (6, true) }) (v := undef) rfl (by kernel_rfl) (by kernel_rfl) (by kernel_rfl) (fun _ _ _ h => h) (Or.inr ⟨by rfl, rfl⟩) (by assumption) ?_
    (try simp only [Act.put, List.setIfInBounds_toArray, List.set_cons_zero, List.set_cons_succ])
    refine wpAnyH_take (i := 17) (oi := { dst := some 39, op := Op.pick (Operand.tmp 28) (Operand.tmp 38) (Operand.const (Value.bool false)), type := 4, pos := "l10_view.go:193", after := #[{ on := 6, ground := Ground.data }, { on := 16, ground := Ground.data }], guard := none }) (v := ?_) rfl (by kernel_rfl) (by kernel_rfl) (by kernel_rfl) (fun _ _ _ h => h) (Or.inl ⟨by rfl, ?_⟩) (by assumption) ?_
    rotate_left
    · intro w' hSw; (try dsimp only at hSw); go_simp; try with_reducible rfl
    (try simp only [Act.put, List.setIfInBounds_toArray, List.set_cons_zero, List.set_cons_succ])
    refine wpAnyH_take (i := 18) (oi := { dst := some 8, op := Op.assign (Operand.tmp 39), type := 4, pos := "l10_view.go:193", after := #[{ on := 17, ground := Ground.data }, { on := 16, ground := Ground.chain }, { on := 0, ground := Ground.phase }, { on := 1, ground := Ground.phase }, { on := 2, ground := Ground.phase }, { on := 3, ground := Ground.phase }, { on := 4, ground := Ground.phase }, { on := 5, ground := Ground.phase }, { on := 6, ground := Ground.phase }, { on := 7, ground := Ground.phase }, { on := 8, ground := Ground.phase }, { on := 9, ground := Ground.phase }, { on := 10, ground := Ground.phase }, { on := 11, ground := Ground.phase }, { on := 12, ground := Ground.phase }, { on := 13, ground := Ground.phase }, { on := 14, ground := Ground.phase }, { on := 15, ground := Ground.phase }, { on := 16, ground := Ground.phase }, { on := 17, ground := Ground.phase }], guard := none }) (v := ?_) rfl (by kernel_rfl) (by kernel_rfl) (by kernel_rfl) (fun _ _ _ h => h) (Or.inl ⟨by rfl, ?_⟩) (by assumption) ?_
    rotate_left
    · intro w' hSw; (try dsimp only at hSw); go_simp; try with_reducible rfl
    (try simp only [Act.put, List.setIfInBounds_toArray, List.set_cons_zero, List.set_cons_succ])
    refine wpAnyH_done (by kernel_rfl) ?_ _
    (try go_wp2)
    go_ret
    exact ⟨rfl, XV.out.drew⟩
  | true =>
    rw [hst] at HSt
    have HV2 : Hid _ := HVB.out hst
    rw [HV2.out]
    clear hst HVB HV2
    by_cases hp : Msg.primary f z.view = z.from_
    · have HPr : Hid _ := HPr0.out true (decide_eq_true hp)
      rw [decide_eq_true hp]
      clear hp HPr0
      go_enter Try.func43, Try.ntmps43
      go_wp2_with fail
      refine (HSt.out _ (Ext.refl _)).mono ?_
      rintro e wv ⟨vo, rfl, hI, hb⟩
      have XV : Hid (Ext w wv) := hb
      replace hI : ISlice wv vo (Msg.startL ms z.view y) := by simpa using hI
      have HMh : Hid (∀ wx, Ext wv wx → _) := fun wx he => HMy.out _ _ wv wx hI he
      obtain ⟨av, cv, rfl, -, -, -⟩ := hI
      clear hb HMy
      go_wp2
      clear d1
      refine wp_region_held_drew (S := (fun W' : World => W'.cell? ⟨b, o + 3, none⟩ = some (.int .i64 z.slot) ∧ W'.cell? ⟨b, o + 4, none⟩ = some (.int .i64 z.value))) (by kernel_rfl) (HS.out _ XV.out.drew) (fun hHeld => ?_)
      refine wpAnyH_take (i := 0) (oi := { dst := some 22, op := Op.move (Operand.tmp 10), type := 4, pos := "l10_view.go:193", after := #[], guard := none }) (v := ?_) rfl (by kernel_rfl) (by kernel_rfl) (by kernel_rfl) (fun _ _ _ h => h) (Or.inl ⟨by rfl, ?_⟩) (by assumption) ?_
      rotate_left
      · intro w' hSw; (try dsimp only at hSw); go_simp; try with_reducible rfl
      (try simp only [Act.put, List.setIfInBounds_toArray, List.set_cons_zero, List.set_cons_succ])
      refine wpAnyH_take (i := 1) (oi := { dst := some 23, op := Op.move (Operand.tmp 22), type := 4, pos := "l10_view.go:193", after := #[{ on := 0, ground := Ground.data }], guard := none }) (v := ?_) rfl (by kernel_rfl) (by kernel_rfl) (by kernel_rfl) (fun _ _ _ h => h) (Or.inl ⟨by rfl, ?_⟩) (by assumption) ?_
      rotate_left
      · intro w' hSw; (try dsimp only at hSw); go_simp; try with_reducible rfl
      (try simp only [Act.put, List.setIfInBounds_toArray, List.set_cons_zero, List.set_cons_succ])
      refine wpAnyH_take (i := 2) (oi := { dst := some 24, op := Op.move (Operand.tmp 0), type := 2, pos := "l10_view.go:193", after := #[{ on := 1, ground := Ground.guard }], guard := some (1, true) }) (v := ?_) rfl (by kernel_rfl) (by kernel_rfl) (by kernel_rfl) (fun _ _ _ h => h) (Or.inl ⟨by rfl, ?_⟩) (by assumption) ?_
      rotate_left
      · intro w' hSw; (try dsimp only at hSw); go_simp; try with_reducible rfl
      (try simp only [Act.put, List.setIfInBounds_toArray, List.set_cons_zero, List.set_cons_succ])
      refine wpAnyH_take (i := 3) (oi := { dst := some 25, op := Op.move (Operand.tmp 2), type := 63, pos := "l10_view.go:193", after := #[{ on := 1, ground := Ground.guard }], guard := some (1, true) }) (v := ?_) rfl (by kernel_rfl) (by kernel_rfl) (by kernel_rfl) (fun _ _ _ h => h) (Or.inl ⟨by rfl, ?_⟩) (by assumption) ?_
      rotate_left
      · intro w' hSw; (try dsimp only at hSw); go_simp; try with_reducible rfl
      (try simp only [Act.put, List.setIfInBounds_toArray, List.set_cons_zero, List.set_cons_succ])
      refine wpAnyH_ready (rs := [4]) (by kernel_rfl) (by simp) (AllReadyH.cons rfl (fun K hK => ?_) AllReadyH.nil)
      go_simp
      refine (HPr.out _ (XV.out.drew)).mono ?_
      rintro e y1 ⟨rfl, hb⟩
      have X1 : Hid (Ext w y1) := (XV.out.drew).trans hb
      have Y1 : Hid (Ext wv y1) := ((Ext.refl _).drew).trans hb
      clear hb
      refine hK.out _ _ (by exact HS.out _ X1.out) (fun hHeld1 => ?_)
      clear hK K
      refine wpAnyH_take (i := 5) (oi := { dst := some 27, op := Op.pick (Operand.tmp 23) (Operand.tmp 26) (Operand.const (Value.bool false)), type := 4, pos := "l10_view.go:193", after := #[{ on := 1, ground := Ground.data }, { on := 4, ground := Ground.data }], guard := none }) (v := ?_) rfl (by kernel_rfl) (by kernel_rfl) (by kernel_rfl) (fun _ _ _ h => h) (Or.inl ⟨by rfl, ?_⟩) (by assumption) ?_
      rotate_left
      · intro w' hSw; (try dsimp only at hSw); go_simp; try with_reducible rfl
      (try simp only [Act.put, List.setIfInBounds_toArray, List.set_cons_zero, List.set_cons_succ])
      refine wpAnyH_take (i := 6) (oi := { dst := some 28, op := Op.move (Operand.tmp 27), type := 4, pos := "l10_view.go:193", after := #[{ on := 5, ground := Ground.data }, { on := 4, ground := Ground.chain }], guard := none }) (v := ?_) rfl (by kernel_rfl) (by kernel_rfl) (by kernel_rfl) (fun _ _ _ h => h) (Or.inl ⟨by rfl, ?_⟩) (by assumption) ?_
      rotate_left
      · intro w' hSw; (try dsimp only at hSw); go_simp; try with_reducible rfl
      (try simp only [Act.put, List.setIfInBounds_toArray, List.set_cons_zero, List.set_cons_succ])
      refine wpAnyH_take (i := 7) (oi := { dst := some 29, op := Op.move (Operand.tmp 9), type := 24, pos := "l10_view.go:193", after := #[{ on := 6, ground := Ground.guard }], guard := some (6, true) }) (v := ?_) rfl (by kernel_rfl) (by kernel_rfl) (by kernel_rfl) (fun _ _ _ h => h) (Or.inl ⟨by rfl, ?_⟩) (by assumption) ?_
      rotate_left
      · intro w' hSw; (try dsimp only at hSw); go_simp; try with_reducible rfl
      (try simp only [Act.put, List.setIfInBounds_toArray, List.set_cons_zero, List.set_cons_succ])
      refine wpAnyH_take (i := 8) (oi := { dst := some 30, op := Op.move (Operand.tmp 2), type := 63, pos := "l10_view.go:193", after := #[{ on := 6, ground := Ground.guard }], guard := some (6, true) }) (v := ?_) rfl (by kernel_rfl) (by kernel_rfl) (by kernel_rfl) (fun _ _ _ h => h) (Or.inl ⟨by rfl, ?_⟩) (by assumption) ?_
      rotate_left
      · intro w' hSw; (try dsimp only at hSw); go_simp; try with_reducible rfl
      (try simp only [Act.put, List.setIfInBounds_toArray, List.set_cons_zero, List.set_cons_succ])
      refine wpAnyH_take (i := 9) (oi := { dst := some 31, op := Op.nilCheck (Operand.tmp 30), type := 0, pos := "l10_view.go:193", after := #[{ on := 8, ground := Ground.data }, { on := 6, ground := Ground.guard }], guard := some (6, true) }) (v := ?_) rfl (by kernel_rfl) (by kernel_rfl) (by kernel_rfl) (fun _ _ _ h => h) (Or.inl ⟨by rfl, ?_⟩) (by assumption) ?_
      rotate_left
      · intro w' hSw; (try dsimp only at hSw); go_simp; try with_reducible rfl
      (try simp only [Act.put, List.setIfInBounds_toArray, List.set_cons_zero, List.set_cons_succ])
      refine wpAnyH_take (i := 10) (oi := { dst := some 32, op := Op.fieldAddr 55 (Operand.tmp 31) 3, type := 0, pos := "l10_view.go:193", after := #[{ on := 9, ground := Ground.data }, { on := 6, ground := Ground.guard }], guard := some (6, true) }) (v := ?_) rfl (by kernel_rfl) (by kernel_rfl) (by kernel_rfl) (fun _ _ _ h => h) (Or.inl ⟨by rfl, ?_⟩) (by assumption) ?_
      rotate_left
      · intro w' hSw; (try dsimp only at hSw); go_simp; try with_reducible rfl
      (try simp only [Act.put, List.setIfInBounds_toArray, List.set_cons_zero, List.set_cons_succ])
      refine wpAnyH_take (i := 11) (oi := { dst := some 33, op := Op.load 2 (Operand.tmp 32), type := 2, pos := "l10_view.go:193", after := #[{ on := 10, ground := Ground.data }, { on := 6, ground := Ground.guard }], guard := some (6, true) }) (v := ?_) rfl (by kernel_rfl) (by kernel_rfl) (by kernel_rfl) (fun _ _ _ h => h) (Or.inl ⟨by rfl, ?_⟩) (by assumption) ?_
      rotate_left
      · intro w' hSw; (try dsimp only at hSw); go_simp; try with_reducible rfl
      (try simp only [Act.put, List.setIfInBounds_toArray, List.set_cons_zero, List.set_cons_succ])
      refine wpAnyH_take (i := 12) (oi := { dst := some 34, op := Op.move (Operand.tmp 2), type := 63, pos := "l10_view.go:193", after := #[{ on := 6, ground := Ground.guard }], guard := some (6, true) }) (v := ?_) rfl (by kernel_rfl) (by kernel_rfl) (by kernel_rfl) (fun _ _ _ h => h) (Or.inl ⟨by rfl, ?_⟩) (by assumption) ?_
      rotate_left
      · intro w' hSw; (try dsimp only at hSw); go_simp; try with_reducible rfl
      (try simp only [Act.put, List.setIfInBounds_toArray, List.set_cons_zero, List.set_cons_succ])
      refine wpAnyH_take (i := 13) (oi := { dst := some 35, op := Op.nilCheck (Operand.tmp 34), type := 0, pos := "l10_view.go:193", after := #[{ on := 12, ground := Ground.data }, { on := 6, ground := Ground.guard }], guard := some (6, true) }) (v := ?_) rfl (by kernel_rfl) (by kernel_rfl) (by kernel_rfl) (fun _ _ _ h => h) (Or.inl ⟨by rfl, ?_⟩) (by assumption) ?_
      rotate_left
      · intro w' hSw; (try dsimp only at hSw); go_simp; try with_reducible rfl
      (try simp only [Act.put, List.setIfInBounds_toArray, List.set_cons_zero, List.set_cons_succ])
      refine wpAnyH_take (i := 14) (oi := { dst := some 36, op := Op.fieldAddr 55 (Operand.tmp 35) 4, type := 0, pos := "l10_view.go:193", after := #[{ on := 13, ground := Ground.data }, { on := 6, ground := Ground.guard }], guard := some (6, true) }) (v := ?_) rfl (by kernel_rfl) (by kernel_rfl) (by kernel_rfl) (fun _ _ _ h => h) (Or.inl ⟨by rfl, ?_⟩) (by assumption) ?_
      rotate_left
      · intro w' hSw; (try dsimp only at hSw); go_simp; try with_reducible rfl
      (try simp only [Act.put, List.setIfInBounds_toArray, List.set_cons_zero, List.set_cons_succ])
      refine wpAnyH_take (i := 15) (oi := { dst := some 37, op := Op.load 2 (Operand.tmp 36), type := 2, pos := "l10_view.go:193", after := #[{ on := 14, ground := Ground.data }, { on := 6, ground := Ground.guard }], guard := some (6, true) }) (v := ?_) rfl (by kernel_rfl) (by kernel_rfl) (by kernel_rfl) (fun _ _ _ h => h) (Or.inl ⟨by rfl, ?_⟩) (by assumption) ?_
      rotate_left
      · intro w' hSw; (try dsimp only at hSw); go_simp; try with_reducible rfl
      (try simp only [Act.put, List.setIfInBounds_toArray, List.set_cons_zero, List.set_cons_succ])
      refine wpAnyH_ready (rs := [16]) (by kernel_rfl) (by simp) (AllReadyH.cons rfl (fun K hK => ?_) AllReadyH.nil)
      go_simp
      refine (HMh.out _ Y1.out).mono ?_
      rintro e y2 ⟨rfl, hw⟩
      have X2 : Hid (Ext w y2) := by rw [hw]; exact X1.out
      clear hw
      refine hK.out _ _ (by exact HS.out _ X2.out) (fun hHeld2 => ?_)
      clear hK K
      refine wpAnyH_take (i := 17) (oi := { dst := some 39, op := Op.pick (Operand.tmp 28) (Operand.tmp 38) (Operand.const (Value.bool false)), type := 4, pos := "l10_view.go:193", after := #[{ on := 6, ground := Ground.data }, { on := 16, ground := Ground.data }], guard := none }) (v := ?_) rfl (by kernel_rfl) (by kernel_rfl) (by kernel_rfl) (fun _ _ _ h => h) (Or.inl ⟨by rfl, ?_⟩) (by assumption) ?_
      rotate_left
      · intro w' hSw; (try dsimp only at hSw); go_simp; try with_reducible rfl
      (try simp only [Act.put, List.setIfInBounds_toArray, List.set_cons_zero, List.set_cons_succ])
      refine wpAnyH_take (i := 18) (oi := { dst := some 8, op := Op.assign (Operand.tmp 39), type := 4, pos := "l10_view.go:193", after := #[{ on := 17, ground := Ground.data }, { on := 16, ground := Ground.chain }, { on := 0, ground := Ground.phase }, { on := 1, ground := Ground.phase }, { on := 2, ground := Ground.phase }, { on := 3, ground := Ground.phase }, { on := 4, ground := Ground.phase }, { on := 5, ground := Ground.phase }, { on := 6, ground := Ground.phase }, { on := 7, ground := Ground.phase }, { on := 8, ground := Ground.phase }, { on := 9, ground := Ground.phase }, { on := 10, ground := Ground.phase }, { on := 11, ground := Ground.phase }, { on := 12, ground := Ground.phase }, { on := 13, ground := Ground.phase }, { on := 14, ground := Ground.phase }, { on := 15, ground := Ground.phase }, { on := 16, ground := Ground.phase }, { on := 17, ground := Ground.phase }], guard := none }) (v := ?_) rfl (by kernel_rfl) (by kernel_rfl) (by kernel_rfl) (fun _ _ _ h => h) (Or.inl ⟨by rfl, ?_⟩) (by assumption) ?_
      rotate_left
      · intro w' hSw; (try dsimp only at hSw); go_simp; try with_reducible rfl
      (try simp only [Act.put, List.setIfInBounds_toArray, List.set_cons_zero, List.set_cons_succ])
      refine wpAnyH_done (by kernel_rfl) ?_ _
      (try go_wp2)
      go_ret
      exact ⟨rfl, X2.out⟩
    · have HPr : Hid _ := HPr0.out false (decide_eq_false hp)
      rw [decide_eq_false hp]
      clear hp HPr0
      go_enter Try.func43, Try.ntmps43
      go_wp2_with fail
      refine (HSt.out _ (Ext.refl _)).mono ?_
      rintro e wv ⟨vo, rfl, hI, hb⟩
      have XV : Hid (Ext w wv) := hb
      replace hI : ISlice wv vo (Msg.startL ms z.view y) := by simpa using hI
      obtain ⟨av, cv, rfl, -, -, -⟩ := hI
      clear hb HMy
      go_wp2
      clear d1
      refine wp_region_held_drew (S := (fun W' : World => W'.cell? ⟨b, o + 3, none⟩ = some (.int .i64 z.slot) ∧ W'.cell? ⟨b, o + 4, none⟩ = some (.int .i64 z.value))) (by kernel_rfl) (HS.out _ XV.out.drew) (fun hHeld => ?_)
      refine wpAnyH_take (i := 0) (oi := { dst := some 22, op := Op.move (Operand.tmp 10), type := 4, pos := "l10_view.go:193", after := #[], guard := none }) (v := ?_) rfl (by kernel_rfl) (by kernel_rfl) (by kernel_rfl) (fun _ _ _ h => h) (Or.inl ⟨by rfl, ?_⟩) (by assumption) ?_
      rotate_left
      · intro w' hSw; (try dsimp only at hSw); go_simp; try with_reducible rfl
      (try simp only [Act.put, List.setIfInBounds_toArray, List.set_cons_zero, List.set_cons_succ])
      refine wpAnyH_take (i := 1) (oi := { dst := some 23, op := Op.move (Operand.tmp 22), type := 4, pos := "l10_view.go:193", after := #[{ on := 0, ground := Ground.data }], guard := none }) (v := ?_) rfl (by kernel_rfl) (by kernel_rfl) (by kernel_rfl) (fun _ _ _ h => h) (Or.inl ⟨by rfl, ?_⟩) (by assumption) ?_
      rotate_left
      · intro w' hSw; (try dsimp only at hSw); go_simp; try with_reducible rfl
      (try simp only [Act.put, List.setIfInBounds_toArray, List.set_cons_zero, List.set_cons_succ])
      refine wpAnyH_take (i := 2) (oi := { dst := some 24, op := Op.move (Operand.tmp 0), type := 2, pos := "l10_view.go:193", after := #[{ on := 1, ground := Ground.guard }], guard := some (1, true) }) (v := ?_) rfl (by kernel_rfl) (by kernel_rfl) (by kernel_rfl) (fun _ _ _ h => h) (Or.inl ⟨by rfl, ?_⟩) (by assumption) ?_
      rotate_left
      · intro w' hSw; (try dsimp only at hSw); go_simp; try with_reducible rfl
      (try simp only [Act.put, List.setIfInBounds_toArray, List.set_cons_zero, List.set_cons_succ])
      refine wpAnyH_take (i := 3) (oi := { dst := some 25, op := Op.move (Operand.tmp 2), type := 63, pos := "l10_view.go:193", after := #[{ on := 1, ground := Ground.guard }], guard := some (1, true) }) (v := ?_) rfl (by kernel_rfl) (by kernel_rfl) (by kernel_rfl) (fun _ _ _ h => h) (Or.inl ⟨by rfl, ?_⟩) (by assumption) ?_
      rotate_left
      · intro w' hSw; (try dsimp only at hSw); go_simp; try with_reducible rfl
      (try simp only [Act.put, List.setIfInBounds_toArray, List.set_cons_zero, List.set_cons_succ])
      refine wpAnyH_ready (rs := [4]) (by kernel_rfl) (by simp) (AllReadyH.cons rfl (fun K hK => ?_) AllReadyH.nil)
      go_simp
      refine (HPr.out _ (XV.out.drew)).mono ?_
      rintro e y1 ⟨rfl, hb⟩
      have X1 : Hid (Ext w y1) := (XV.out.drew).trans hb
      have Y1 : Hid (Ext wv y1) := ((Ext.refl _).drew).trans hb
      clear hb
      refine hK.out _ _ (by exact HS.out _ X1.out) (fun hHeld1 => ?_)
      clear hK K
      refine wpAnyH_take (i := 5) (oi := { dst := some 27, op := Op.pick (Operand.tmp 23) (Operand.tmp 26) (Operand.const (Value.bool false)), type := 4, pos := "l10_view.go:193", after := #[{ on := 1, ground := Ground.data }, { on := 4, ground := Ground.data }], guard := none }) (v := ?_) rfl (by kernel_rfl) (by kernel_rfl) (by kernel_rfl) (fun _ _ _ h => h) (Or.inl ⟨by rfl, ?_⟩) (by assumption) ?_
      rotate_left
      · intro w' hSw; (try dsimp only at hSw); go_simp; try with_reducible rfl
      (try simp only [Act.put, List.setIfInBounds_toArray, List.set_cons_zero, List.set_cons_succ])
      refine wpAnyH_take (i := 6) (oi := { dst := some 28, op := Op.move (Operand.tmp 27), type := 4, pos := "l10_view.go:193", after := #[{ on := 5, ground := Ground.data }, { on := 4, ground := Ground.chain }], guard := none }) (v := ?_) rfl (by kernel_rfl) (by kernel_rfl) (by kernel_rfl) (fun _ _ _ h => h) (Or.inl ⟨by rfl, ?_⟩) (by assumption) ?_
      rotate_left
      · intro w' hSw; (try dsimp only at hSw); go_simp; try with_reducible rfl
      (try simp only [Act.put, List.setIfInBounds_toArray, List.set_cons_zero, List.set_cons_succ])
      refine wpAnyH_take (i := 7) (oi := { dst := some 29, op := Op.move (Operand.tmp 9), type := 24, pos := "l10_view.go:193", after := #[{ on := 6, ground := Ground.guard }], guard := some (6, true) }) (v := undef) rfl (by kernel_rfl) (by kernel_rfl) (by kernel_rfl) (fun _ _ _ h => h) (Or.inr ⟨by rfl, rfl⟩) (by assumption) ?_
      (try simp only [Act.put, List.setIfInBounds_toArray, List.set_cons_zero, List.set_cons_succ])
      refine wpAnyH_take (i := 8) (oi := { dst := some 30, op := Op.move (Operand.tmp 2), type := 63, pos := "l10_view.go:193", after := #[{ on := 6, ground := Ground.guard }], guard := some (6, true) }) (v := undef) rfl (by kernel_rfl) (by kernel_rfl) (by kernel_rfl) (fun _ _ _ h => h) (Or.inr ⟨by rfl, rfl⟩) (by assumption) ?_
      (try simp only [Act.put, List.setIfInBounds_toArray, List.set_cons_zero, List.set_cons_succ])
      refine wpAnyH_take (i := 9) (oi := { dst := some 31, op := Op.nilCheck (Operand.tmp 30), type := 0, pos := "l10_view.go:193", after := #[{ on := 8, ground := Ground.data }, { on := 6, ground := Ground.guard }], guard := some (6, true) }) (v := undef) rfl (by kernel_rfl) (by kernel_rfl) (by kernel_rfl) (fun _ _ _ h => h) (Or.inr ⟨by rfl, rfl⟩) (by assumption) ?_
      (try simp only [Act.put, List.setIfInBounds_toArray, List.set_cons_zero, List.set_cons_succ])
      refine wpAnyH_take (i := 10) (oi := { dst := some 32, op := Op.fieldAddr 55 (Operand.tmp 31) 3, type := 0, pos := "l10_view.go:193", after := #[{ on := 9, ground := Ground.data }, { on := 6, ground := Ground.guard }], guard := some (6, true) }) (v := undef) rfl (by kernel_rfl) (by kernel_rfl) (by kernel_rfl) (fun _ _ _ h => h) (Or.inr ⟨by rfl, rfl⟩) (by assumption) ?_
      (try simp only [Act.put, List.setIfInBounds_toArray, List.set_cons_zero, List.set_cons_succ])
      refine wpAnyH_take (i := 11) (oi := { dst := some 33, op := Op.load 2 (Operand.tmp 32), type := 2, pos := "l10_view.go:193", after := #[{ on := 10, ground := Ground.data }, { on := 6, ground := Ground.guard }], guard := some (6, true) }) (v := undef) rfl (by kernel_rfl) (by kernel_rfl) (by kernel_rfl) (fun _ _ _ h => h) (Or.inr ⟨by rfl, rfl⟩) (by assumption) ?_
      (try simp only [Act.put, List.setIfInBounds_toArray, List.set_cons_zero, List.set_cons_succ])
      refine wpAnyH_take (i := 12) (oi := { dst := some 34, op := Op.move (Operand.tmp 2), type := 63, pos := "l10_view.go:193", after := #[{ on := 6, ground := Ground.guard }], guard := some (6, true) }) (v := undef) rfl (by kernel_rfl) (by kernel_rfl) (by kernel_rfl) (fun _ _ _ h => h) (Or.inr ⟨by rfl, rfl⟩) (by assumption) ?_
      (try simp only [Act.put, List.setIfInBounds_toArray, List.set_cons_zero, List.set_cons_succ])
      refine wpAnyH_take (i := 13) (oi := { dst := some 35, op := Op.nilCheck (Operand.tmp 34), type := 0, pos := "l10_view.go:193", after := #[{ on := 12, ground := Ground.data }, { on := 6, ground := Ground.guard }], guard := some (6, true) }) (v := undef) rfl (by kernel_rfl) (by kernel_rfl) (by kernel_rfl) (fun _ _ _ h => h) (Or.inr ⟨by rfl, rfl⟩) (by assumption) ?_
      (try simp only [Act.put, List.setIfInBounds_toArray, List.set_cons_zero, List.set_cons_succ])
      refine wpAnyH_take (i := 14) (oi := { dst := some 36, op := Op.fieldAddr 55 (Operand.tmp 35) 4, type := 0, pos := "l10_view.go:193", after := #[{ on := 13, ground := Ground.data }, { on := 6, ground := Ground.guard }], guard := some (6, true) }) (v := undef) rfl (by kernel_rfl) (by kernel_rfl) (by kernel_rfl) (fun _ _ _ h => h) (Or.inr ⟨by rfl, rfl⟩) (by assumption) ?_
      (try simp only [Act.put, List.setIfInBounds_toArray, List.set_cons_zero, List.set_cons_succ])
      refine wpAnyH_take (i := 15) (oi := { dst := some 37, op := Op.load 2 (Operand.tmp 36), type := 2, pos := "l10_view.go:193", after := #[{ on := 14, ground := Ground.data }, { on := 6, ground := Ground.guard }], guard := some (6, true) }) (v := undef) rfl (by kernel_rfl) (by kernel_rfl) (by kernel_rfl) (fun _ _ _ h => h) (Or.inr ⟨by rfl, rfl⟩) (by assumption) ?_
      (try simp only [Act.put, List.setIfInBounds_toArray, List.set_cons_zero, List.set_cons_succ])
      refine wpAnyH_take (i := 16) (oi := { dst := some 38, op := Op.call { callee := Callee.value (Operand.func 74), args := #[Operand.tmp 29, Operand.tmp 33, Operand.tmp 37], argTypes := #[24, 2, 2] }, type := 4, pos := "l10_view.go:193", after := #[{ on := 7, ground := Ground.data }, { on := 11, ground := Ground.data }, { on := 15, ground := Ground.data }, { on := 6, ground := Ground.chain }, { on := 6, ground := Ground.guard }], guard := some (6, true) }) (v := undef) rfl (by kernel_rfl) (by kernel_rfl) (by kernel_rfl) (fun _ _ _ h => h) (Or.inr ⟨by rfl, rfl⟩) (by assumption) ?_
      (try simp only [Act.put, List.setIfInBounds_toArray, List.set_cons_zero, List.set_cons_succ])
      refine wpAnyH_take (i := 17) (oi := { dst := some 39, op := Op.pick (Operand.tmp 28) (Operand.tmp 38) (Operand.const (Value.bool false)), type := 4, pos := "l10_view.go:193", after := #[{ on := 6, ground := Ground.data }, { on := 16, ground := Ground.data }], guard := none }) (v := ?_) rfl (by kernel_rfl) (by kernel_rfl) (by kernel_rfl) (fun _ _ _ h => h) (Or.inl ⟨by rfl, ?_⟩) (by assumption) ?_
      rotate_left
      · intro w' hSw; (try dsimp only at hSw); go_simp; try with_reducible rfl
      (try simp only [Act.put, List.setIfInBounds_toArray, List.set_cons_zero, List.set_cons_succ])
      refine wpAnyH_take (i := 18) (oi := { dst := some 8, op := Op.assign (Operand.tmp 39), type := 4, pos := "l10_view.go:193", after := #[{ on := 17, ground := Ground.data }, { on := 16, ground := Ground.chain }, { on := 0, ground := Ground.phase }, { on := 1, ground := Ground.phase }, { on := 2, ground := Ground.phase }, { on := 3, ground := Ground.phase }, { on := 4, ground := Ground.phase }, { on := 5, ground := Ground.phase }, { on := 6, ground := Ground.phase }, { on := 7, ground := Ground.phase }, { on := 8, ground := Ground.phase }, { on := 9, ground := Ground.phase }, { on := 10, ground := Ground.phase }, { on := 11, ground := Ground.phase }, { on := 12, ground := Ground.phase }, { on := 13, ground := Ground.phase }, { on := 14, ground := Ground.phase }, { on := 15, ground := Ground.phase }, { on := 16, ground := Ground.phase }, { on := 17, ground := Ground.phase }], guard := none }) (v := ?_) rfl (by kernel_rfl) (by kernel_rfl) (by kernel_rfl) (fun _ _ _ h => h) (Or.inl ⟨by rfl, ?_⟩) (by assumption) ?_
      rotate_left
      · intro w' hSw; (try dsimp only at hSw); go_simp; try with_reducible rfl
      (try simp only [Act.put, List.setIfInBounds_toArray, List.set_cons_zero, List.set_cons_succ])
      refine wpAnyH_done (by kernel_rfl) ?_ _
      (try go_wp2)
      go_ret
      exact ⟨rfl, X1.out⟩


set_option maxHeartbeats 4000000 in
set_option maxRecDepth 100000 in
theorem implProposeRight_any (f x y : Int) (v : Value) (ms : List Ms) (w : World) (hS : MSlice w v ms) :
    Calls Try.prog 19 #[.int .i64 f, v, .int .i64 x, .int .i64 y] w fun e w' => e = .returned (.bool (Msg.proposeRight f ms x y)) ∧ Ext w w' := by
  have HF : Hid (∀ wx, Ext w wx → Calls Try.prog 30 #[.int .i64 f, v] wx fun e w' => e = .returned (.int .i64 (Msg.ledger f ms)) ∧ Ext wx w') := fun wx he => implLedgerFault_any f v ms wx (hS.ext he)
  have HN : Hid (Msg.kindAt ms x 1 = false → ∀ wx, Ext w wx → Calls Try.prog 42 #[v, .int .i64 x, .int .i64 1] wx fun e w' => e = .returned (.pointer none) ∧ w' = wx) := fun h wx he => findMsg_no v ms x 1 wx (hS.ext he) h
  have HY : Hid (∀ z, Msg.nth ms x = some z → z.kind = 1 → ∀ wx, Ext w wx → Calls Try.prog 42 #[v, .int .i64 x, .int .i64 1] wx fun e w' => ∃ b o, e = .returned (.pointer (some ⟨b, o, none⟩)) ∧ b < wx.heap.size ∧ MAt wx b o z ∧ w' = wx) := fun z h1 h2 wx he => findMsg_yes v ms x 1 z wx (hS.ext he) h1 h2
  have HR : Hid (∀ z b o, Msg.ledger f ms = 0 → Msg.nth ms x = some z → z.kind = 1 → ∀ wx, Ext w wx → b < wx.heap.size → MAt wx b o z → Calls Try.prog 43 #[.int .i64 f, v, .pointer (some ⟨b, o, none⟩), .int .i64 y] wx fun e w' => e = .returned (.bool (Msg.proposeB f ms z y)) ∧ Ext wx w') := fun z b o h hn h5 wx he hb hm => isRightPropose_any f v ms z b o x.toNat y wx (hS.ext he) h (Msg.nth_some hn).2.2 h5 hb hm
  obtain ⟨a, cap, rfl, -, -, -⟩ := hS
  by_cases hc : Msg.ledger f ms = 0
  · rw [Msg.proposeRight_ok hc]
    have HC : Hid (Msg.ledger f ms = 0) := hc
    rw [hc] at HF
    clear hc
    cases hk : Msg.kindAt ms x 1 with
    | false =>
      have HN2 : Hid _ := HN.out hk
      have HZ : Hid (Msg.proposeAt f ms x y = false) := Msg.propose_no hk
      rw [HZ.out]
      clear hk HN HY HR HC HZ
      go_enter Try.func19, Try.ntmps19
      go_wp2_with fail
      refine (HF.out _ (Ext.refl _)).mono ?_
      rintro e w2 ⟨rfl, hb⟩
      have HE2 : Hid (Ext w w2) := hb
      clear hb
      go_wp2_with fail
      refine (HN2.out _ HE2.out).mono ?_
      rintro e w9 ⟨rfl, hw⟩
      rw [hw]
      clear hw w9
      go_wp2
      go_ret
      exact ⟨rfl, HE2.out⟩
    | true =>
      cases hn : Msg.nth ms x with
      | none => rw [Msg.kindAt_none hn] at hk; cases hk
      | some z =>
        rw [Msg.kindAt_some hn, decide_eq_true_eq] at hk
        rw [Msg.proposeAt_some hn]
        have HY2 : Hid _ := HY.out z hn hk
        have HR2 : Hid _ := fun b o => HR.out z b o HC.out hn hk
        clear hk hn HN HY HR HC
        generalize Msg.proposeB f ms z y = B at *
        go_enter Try.func19, Try.ntmps19
        go_wp2_with fail
        refine (HF.out _ (Ext.refl _)).mono ?_
        rintro e w2 ⟨rfl, hb⟩
        have HE2 : Hid (Ext w w2) := hb
        clear hb
        go_wp2_with fail
        refine (HY2.out _ HE2.out).mono ?_
        rintro e w9 ⟨b, o, rfl, hb1, hm1, hw⟩
        rw [hw]
        clear hw w9
        have HM1 : Hid (b < w2.heap.size ∧ MAt w2 b o z) := ⟨hb1, hm1⟩
        clear hb1 hm1
        go_wp2_with fail
        refine (HR2.out _ _ _ HE2.out HM1.out.1 HM1.out.2).mono ?_
        rintro e w3 ⟨rfl, hb⟩
        have HE3 : Hid (Ext w w3) := HE2.out.trans hb
        clear hb
        go_wp2
        go_ret
        exact ⟨rfl, HE3.out⟩
  · rw [Msg.proposeRight_bad hc]
    have g : (Msg.ledger f ms != 0) = true := by simpa using hc
    clear hc HN HY HR
    generalize Msg.ledger f ms = k at *
    go_enter Try.func19, Try.ntmps19
    go_wp2_with fail
    refine (HF.out _ (Ext.refl _)).mono ?_
    rintro e w2 ⟨rfl, hb⟩
    have HE2 : Hid (Ext w w2) := hb
    clear hb
    go_wp2
    go_ret
    exact ⟨rfl, HE2.out⟩
end Go.Proofs.Ytecgjdgfjgcmdaa
