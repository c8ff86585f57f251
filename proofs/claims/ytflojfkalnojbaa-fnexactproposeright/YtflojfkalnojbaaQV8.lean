/- what may be proposed: the program's. -/
import Derived.Test.YtflojfkalnojbaaQV7
import Derived.Test.YtflojfkalnojbaaQV6
namespace Go.Proofs.Ytflojfkalnojbaa
open Go.RowKit
namespace Msg
/-- What a view takes over that begins at start. -/
def startL (ms : List Ms) (view start : Int) : List Int := if view = 0 then [] else picks ms (refsAt ms start)
theorem startL_len (ms : List Ms) (view start : Int) : (startL ms view start).length ≤ 30 := by
  unfold startL
  split
  · simp
  · exact picks_len _ _
theorem valueB_L {f : Int} {ms : List Ms} {view start slot value : Int} (h : startB f ms view start = true) (hs : 1 ≤ slot) (hv : 0 ≤ value) : valueB ms start slot value = if slot ≤ ((startL ms view start).length : Int) then decide (value = (startL ms view start).getD (slot - 1).toNat 0) else decide (¬ value = 0) := by
  unfold startB at h
  unfold valueB startL
  by_cases h0 : view = 0
  · rw [if_pos h0, decide_eq_true_eq] at h
    subst h
    rw [if_pos (by decide), if_pos h0]
    rw [if_neg (by simp; omega), Bool.eq_iff_iff]
    simp
    omega
  · rw [if_neg h0, Bool.and_eq_true] at h
    rw [if_neg h0]
    have hst : 0 ≤ start := by
      cases hn : nth ms start with
      | none => rw [newAt_none hn] at h; exact absurd h.1 (by decide)
      | some z => exact (nth_some hn).1
    rw [if_neg (by omega)]
    by_cases h1 : slot ≤ ((picks ms (refsAt ms start)).length : Int)
    · rw [if_pos h1, if_pos h1]
    · rw [if_neg h1, if_neg h1, Bool.eq_iff_iff]
      simp
      omega
theorem startB_zero {f : Int} {ms : List Ms} {start : Int} : startB f ms 0 start = decide (start = -1) := by unfold startB; rw [if_pos rfl]
theorem startB_no {f : Int} {ms : List Ms} {view start : Int} (h0 : ¬ view = 0) (h : newAt f ms start = false ∨ ¬ viewAt ms start = view) : startB f ms view start = false := by
  unfold startB
  rw [if_neg h0, Bool.and_eq_false_iff]
  rcases h with h | h
  · exact Or.inl h
  · exact Or.inr (decide_eq_false h)
theorem startB_is {f : Int} {ms : List Ms} {view start : Int} (h0 : ¬ view = 0) (h : viewAt ms start = view) : startB f ms view start = newAt f ms start := by
  unfold startB
  rw [if_neg h0, decide_eq_true h, Bool.and_true]
theorem startL_is {ms : List Ms} {view start : Int} {z : Ms} (h0 : ¬ view = 0) (h : nth ms start = some z) : startL ms view start = picks ms z.refs := by
  unfold startL
  rw [if_neg h0, refsAt_some h]
theorem new_no {f : Int} {ms : List Ms} {x : Int} (h : kindAt ms x 5 = false) : newAt f ms x = false := by
  cases hn : nth ms x with
  | none => exact newAt_none hn
  | some z =>
    rw [kindAt_some hn, decide_eq_false_iff_not] at h
    rw [newAt_some hn]
    exact newB_no (fun h2 => h h2.1)
theorem propose_no {f : Int} {ms : List Ms} {x y : Int} (h : kindAt ms x 1 = false) : proposeAt f ms x y = false := by
  cases hn : nth ms x with
  | none => exact proposeAt_none hn
  | some z =>
    rw [kindAt_some hn, decide_eq_false_iff_not] at h
    rw [proposeAt_some hn]
    unfold proposeB
    rw [decide_eq_false h]; rfl
end Msg
theorem empty_nums (w : World) : ISlice w (.slice none 0 0) [] := ⟨none, 0, rfl, Nat.le_refl _, by unfold maxLen; omega, fun h => by simp at h⟩

set_option maxHeartbeats 8000000 in
set_option maxRecDepth 100000 in
theorem valuesAtStart_any (f : Int) (v : Value) (ms : List Ms) (view start : Int) (w : World) (hS : MSlice w v ms) (hled : Msg.ledger f ms = 0) :
    Calls Try.prog 116 #[.int .i64 f, v, .int .i64 view, .int .i64 start] w fun e w' => ∃ vo, e = .returned (.tuple #[vo, .bool (Msg.startB f ms view start)]) ∧ ISlice w' vo (if Msg.startB f ms view start = true then Msg.startL ms view start else []) ∧ Ext w w' := by
  have HNo : Hid (Msg.kindAt ms start 5 = false → Calls Try.prog 88 #[v, .int .i64 start, .int .i64 5] w fun e w' => e = .returned (.pointer none) ∧ w' = w) := fun h => findMsg_no v ms start 5 w hS h
  have HYe : Hid (∀ z, Msg.nth ms start = some z → z.kind = 5 → Calls Try.prog 88 #[v, .int .i64 start, .int .i64 5] w fun e w' => ∃ b o, e = .returned (.pointer (some ⟨b, o, none⟩)) ∧ b < w.heap.size ∧ MAt w b o z ∧ w' = w) := fun z h1 h2 => findMsg_yes v ms start 5 z w hS h1 h2
  have HNw : Hid (∀ z b o, Msg.nth ms start = some z → z.kind = 5 → b < w.heap.size → MAt w b o z → Calls Try.prog 92 #[.int .i64 f, v, .pointer (some ⟨b, o, none⟩)] w fun e w' => e = .returned (.bool (Msg.newB f ms z)) ∧ Ext w w') := fun z b o h1 h2 hb hm => isRightNew_any f v ms z b o start.toNat w hS hled (Msg.nth_some h1).2.2 h2 hb hm
  have HTk : Hid (∀ z u wx, Msg.nth ms start = some z → Ext w wx → ISlice wx u z.refs → Calls Try.prog 89 #[v, u] wx fun e w' => ∃ vo g, e = .returned vo ∧ wx.heap.size ≤ g ∧ Led.IOwn w' vo g (Msg.picks ms z.refs) ∧ Ext wx w') := fun z u wx h1 he hi => valuesTakenOver_any f v ms u z.refs wx (hS.ext he) hi hled (Msg.refs_zero hled (Msg.nth_some h1).2.2) (by have h2 := (Msg.lists_zero (Msg.ledger_all hled z (List.mem_of_getElem? (Msg.nth_some h1).2.2))).2.1; have h3 := Msg.ledger_zero hled; omega)
  obtain ⟨a, cap, rfl, -, -, -⟩ := hS
  clear hled
  by_cases h0 : view = 0
  · subst h0
    rw [Msg.startB_zero]
    have hL : Msg.startL ms 0 start = [] := by unfold Msg.startL; rw [if_pos rfl]
    rw [hL]
    have hq : (start == -1) = decide (start = -1) := by by_cases h : start = -1 <;> simp [h]
    have hE : (if decide (start = -1) = true then ([] : List Int) else []) = [] := by split <;> rfl
    rw [hE]
    generalize decide (start = -1) = bb at *
    clear HNo HYe HNw HTk hE hL
    go_enter Try.func116, Try.ntmps116
    go_wp2
    go_ret2
    exact ⟨_, rfl, empty_nums _, Ext.refl _⟩
  · have g0 : (view == 0) = false := by simpa using h0
    cases hk : Msg.kindAt ms start 5 with
    | false =>
      rw [Msg.startB_no h0 (Or.inl (Msg.new_no hk)), if_neg (by decide)]
      have HN2 : Hid (Calls Try.prog 88 #[.slice a ms.length cap, .int .i64 start, .int .i64 5] w fun e w' => e = .returned (.pointer none) ∧ w' = w) := HNo.out hk
      clear HNo HYe HNw HTk h0 hk
      go_enter Try.func116, Try.ntmps116
      go_wp2_with fail
      refine HN2.out.mono ?_
      rintro e w9 ⟨rfl, hw⟩
      rw [hw]
      clear hw w9
      go_wp2
      go_ret2
      exact ⟨_, rfl, empty_nums _, Ext.refl _⟩
    | true =>
      cases hn : Msg.nth ms start with
      | none => rw [Msg.kindAt_none hn] at hk; cases hk
      | some z =>
        rw [Msg.kindAt_some hn, decide_eq_true_eq] at hk
        have HY2 : Hid (Calls Try.prog 88 #[.slice a ms.length cap, .int .i64 start, .int .i64 5] w fun e w' => ∃ b o, e = .returned (.pointer (some ⟨b, o, none⟩)) ∧ b < w.heap.size ∧ MAt w b o z ∧ w' = w) := HYe.out z hn hk
        have HZ : Hid (Msg.nth ms start = some z ∧ z.kind = 5) := ⟨hn, hk⟩
        by_cases hv : z.view = view
        · have g1 : (z.view != view) = false := by simpa using hv
          rw [Msg.startB_is h0 (by rw [Msg.viewAt_some hn]; exact hv), Msg.newAt_some hn, Msg.startL_is h0 hn]
          have HNz : Hid (∀ b o, b < w.heap.size → MAt w b o z → Calls Try.prog 92 #[.int .i64 f, .slice a ms.length cap, .pointer (some ⟨b, o, none⟩)] w fun e w' => e = .returned (.bool (Msg.newB f ms z)) ∧ Ext w w') := fun b o => HNw.out z b o hn hk
          clear HNo HYe h0 hk hn hv HNw
          cases hB : Msg.newB f ms z with
          | true =>
            rw [hB] at HNz
            rw [if_pos rfl]
            clear hB
            go_enter Try.func116, Try.ntmps116
            go_wp2_with fail
            refine HY2.out.mono ?_
            rintro e w9 ⟨b, o, rfl, hb, hm, hw⟩
            rw [hw]
            clear hw w9
            have HM : Hid (MAt w b o z ∧ b < w.heap.size) := ⟨hm, hb⟩
            obtain ⟨vz, uz, ⟨-, d1, -, -, -, -, -⟩, -⟩ := hm
            go_wp2_with fail
            refine (HNz.out b o HM.out.2 HM.out.1).mono ?_
            rintro e w2 ⟨rfl, hb2⟩
            have HE2 : Hid (Ext w w2) := hb2
            obtain ⟨vy, uy, ⟨-, -, -, -, -, -, d6⟩, hL⟩ := HM.out.1.ext HM.out.2 hb2
            have HIr : Hid (ISlice w2 uy z.refs) := hL.2
            obtain ⟨-, ⟨ar, cr, rfl, -, -, -⟩⟩ := hL
            clear hb2 d1
            go_wp2_with fail
            refine (HTk.out z _ _ HZ.out.1 HE2.out HIr.out).mono ?_
            rintro e w5 ⟨v5, g5, rfl, -, hO5, hb5⟩
            have HE5 : Hid (Ext w w5) := HE2.out.trans hb5
            have HI5 : Hid (ISlice w5 v5 (Msg.picks ms z.refs)) := hO5.slice
            obtain ⟨a5, c5, rfl, -⟩ := id hO5
            clear hb5 hO5
            go_wp2
            go_ret2
            exact ⟨_, rfl, HI5.out, HE5.out⟩
          | false =>
            rw [hB] at HNz
            rw [if_neg (by decide)]
            clear hB HTk
            go_enter Try.func116, Try.ntmps116
            go_wp2_with fail
            refine HY2.out.mono ?_
            rintro e w9 ⟨b, o, rfl, hb, hm, hw⟩
            rw [hw]
            clear hw w9
            have HM : Hid (MAt w b o z ∧ b < w.heap.size) := ⟨hm, hb⟩
            obtain ⟨vz, uz, ⟨-, d1, -, -, -, -, -⟩, -⟩ := hm
            go_wp2_with fail
            refine (HNz.out b o HM.out.2 HM.out.1).mono ?_
            rintro e w2 ⟨rfl, hb2⟩
            have HE2 : Hid (Ext w w2) := hb2
            clear hb2 d1
            go_wp2
            go_ret2
            exact ⟨_, rfl, empty_nums _, HE2.out⟩
        · have g1 : (z.view != view) = true := by simpa using hv
          rw [Msg.startB_no h0 (Or.inr (by rw [Msg.viewAt_some hn]; exact hv)), if_neg (by decide)]
          clear HNo HYe h0 hk hn hv HNw HTk
          go_enter Try.func116, Try.ntmps116
          go_wp2_with fail
          refine HY2.out.mono ?_
          rintro e w9 ⟨b, o, rfl, hb, hm, hw⟩
          rw [hw]
          clear hw w9
          obtain ⟨vz, uz, ⟨-, d1, -, -, -, -, -⟩, -⟩ := hm
          go_wp2
          go_ret2
          exact ⟨_, rfl, empty_nums _, Ext.refl _⟩

set_option linter.unusedSimpArgs false in
set_option maxHeartbeats 8000000 in
set_option maxRecDepth 100000 in
theorem implProposeRight_any (f x y : Int) (v : Value) (ms : List Ms) (w : World) (hS : MSlice w v ms) :
    Calls Try.prog 56 #[.int .i64 f, v, .int .i64 x, .int .i64 y] w fun e w' => e = .returned (.bool (Msg.proposeRight f ms x y)) ∧ Ext w w' := by
  have HF : Hid (∀ wx, Ext w wx → Calls Try.prog 69 #[.int .i64 f, v] wx fun e w' => e = .returned (.int .i64 (Msg.ledger f ms)) ∧ Ext wx w') := fun wx he => implLedgerFault_any f v ms wx (hS.ext he)
  have HNo : Hid (Msg.kindAt ms x 1 = false → ∀ wx, Ext w wx → Calls Try.prog 88 #[v, .int .i64 x, .int .i64 1] wx fun e w' => e = .returned (.pointer none) ∧ w' = wx) := fun h wx he => findMsg_no v ms x 1 wx (hS.ext he) h
  have HYe : Hid (∀ z, Msg.nth ms x = some z → z.kind = 1 → ∀ wx, Ext w wx → Calls Try.prog 88 #[v, .int .i64 x, .int .i64 1] wx fun e w' => ∃ b o, e = .returned (.pointer (some ⟨b, o, none⟩)) ∧ b < wx.heap.size ∧ MAt wx b o z ∧ w' = wx) := fun z h1 h2 wx he => findMsg_yes v ms x 1 z wx (hS.ext he) h1 h2
  have HSt0 : Hid (Msg.ledger f ms = 0 → ∀ (view : Int) (wx : World), Ext w wx → Calls Try.prog 116 #[.int .i64 f, v, .int .i64 view, .int .i64 y] wx fun e w' => ∃ vo, e = .returned (.tuple #[vo, .bool (Msg.startB f ms view y)]) ∧ ISlice w' vo (if Msg.startB f ms view y = true then Msg.startL ms view y else []) ∧ Ext wx w') := fun h view wx he => valuesAtStart_any f v ms view y wx (hS.ext he) h
  obtain ⟨a, cap, rfl, -, -, -⟩ := hS
  by_cases hc : Msg.ledger f ms = 0
  · rw [Msg.proposeRight_ok hc]
    obtain ⟨hf0, hf1, -⟩ := Msg.ledger_zero hc
    have HC : Hid (Msg.ledger f ms = 0) := hc
    rw [hc] at HF
    clear hc
    cases hk : Msg.kindAt ms x 1 with
    | false =>
      rw [Msg.propose_no hk]
      have HN2 : Hid (∀ wx, Ext w wx → Calls Try.prog 88 #[.slice a ms.length cap, .int .i64 x, .int .i64 1] wx fun e w' => e = .returned (.pointer none) ∧ w' = wx) := HNo.out hk
      clear hk HNo HYe HSt0
      go_enter Try.func56, Try.ntmps56
      go_wp2_with fail
      refine (HF.out _ (Ext.refl _)).mono ?_
      rintro e w2 ⟨rfl, hb⟩
      have HE2 : Hid (Ext w w2) := hb
      clear hb
      go_wp2_with fail
      refine (HN2.out _ HE2.out).mono ?_
      rintro e w9 ⟨rfl, hw⟩
      rw [hw]
      clear hw w9
      go_wp2
      go_ret
      exact ⟨rfl, HE2.out⟩
    | true =>
      cases hn : Msg.nth ms x with
      | none => rw [Msg.kindAt_none hn] at hk; cases hk
      | some z =>
        rw [Msg.kindAt_some hn, decide_eq_true_eq] at hk
        rw [Msg.proposeAt_some hn]
        have hfa := Msg.ledger_all HC.out z (List.mem_of_getElem? (Msg.nth_some hn).2.2)
        have hvw := Msg.view_in hfa
        have hsl : 1 ≤ z.slot ∧ z.slot ≤ 30 ∧ 0 ≤ z.value := by
          obtain ⟨-, h2⟩ := Msg.faultM_zero hfa
          unfold Msg.boundsN at h2
          rw [decide_eq_true_eq] at h2
          omega
        have HY2 : Hid (∀ wx, Ext w wx → Calls Try.prog 88 #[.slice a ms.length cap, .int .i64 x, .int .i64 1] wx fun e w' => ∃ b o, e = .returned (.pointer (some ⟨b, o, none⟩)) ∧ b < wx.heap.size ∧ MAt wx b o z ∧ w' = wx) := HYe.out z hn hk
        have HPr0 : Hid (∀ bb, decide (Msg.primary f z.view = z.from_) = bb → ∀ (b o : Nat) (wx : World), Ext w wx → b < wx.heap.size → MAt wx b o z → Calls Try.prog 115 #[.int .i64 f, .pointer (some ⟨b, o, none⟩)] wx fun e w' => e = .returned (.bool bb) ∧ Ext wx w') := fun bb h b o wx _ hb hm => isPrimary_any f z b o bb wx hf0 hf1 hvw hb hm h
        have HPB : Hid (Msg.proposeB f ms z y = (decide (Msg.primary f z.view = z.from_) && Msg.startB f ms z.view y && Msg.valueB ms y z.slot z.value)) := by
          show _ = _
          unfold Msg.proposeB
          rw [decide_eq_true hk, Bool.true_and]
          congr 2
          rw [Bool.eq_iff_iff, decide_eq_true_eq, decide_eq_true_eq]
          exact ⟨fun h => h.symm, fun h => h.symm⟩
        rw [HPB.out]
        have HSt : Hid (∀ (wx : World), Ext w wx → Calls Try.prog 116 #[.int .i64 f, .slice a ms.length cap, .int .i64 z.view, .int .i64 y] wx fun e w' => ∃ vo, e = .returned (.tuple #[vo, .bool (Msg.startB f ms z.view y)]) ∧ ISlice w' vo (if Msg.startB f ms z.view y = true then Msg.startL ms z.view y else []) ∧ Ext wx w') := HSt0.out HC.out z.view
        clear hk hn HNo HYe HSt0 HPB hfa hvw
        by_cases hp : Msg.primary f z.view = z.from_
        · have HPr : Hid (∀ (b o : Nat) (wx : World), Ext w wx → b < wx.heap.size → MAt wx b o z → Calls Try.prog 115 #[.int .i64 f, .pointer (some ⟨b, o, none⟩)] wx fun e w' => e = .returned (.bool true) ∧ Ext wx w') := HPr0.out true (decide_eq_true hp)
          rw [decide_eq_true hp, Bool.true_and]
          clear hp HPr0
          cases hst : Msg.startB f ms z.view y with
          | false =>
            rw [hst] at HSt
            rw [Bool.false_and]
            rw [if_neg (by decide)] at HSt
            clear hst
            go_enter Try.func56, Try.ntmps56
            go_wp2_with fail
            refine (HF.out _ (Ext.refl _)).mono ?_
            rintro e w2 ⟨rfl, hb⟩
            have HE2 : Hid (Ext w w2) := hb
            clear hb
            go_wp2_with fail
            refine (HY2.out _ HE2.out).mono ?_
            rintro e w9 ⟨b, o, rfl, hb, hm, hw⟩
            rw [hw]
            clear hw w9
            have HM2 : Hid (MAt w2 b o z ∧ b < w2.heap.size) := ⟨hm, hb⟩
            clear hm hb
            go_wp2_with fail
            refine (HPr.out b o _ HE2.out HM2.out.2 HM2.out.1).mono ?_
            rintro e w3 ⟨rfl, hb3⟩
            have HE3 : Hid (Ext w w3) := HE2.out.trans hb3
            have HM3 : Hid (MAt w3 b o z ∧ b < w3.heap.size) := ⟨HM2.out.1.ext HM2.out.2 hb3, Nat.lt_of_lt_of_le HM2.out.2 hb3.size⟩
            clear hb3 HM2
            obtain ⟨vz, uz, ⟨-, d1, -, -, -, -, -⟩, -⟩ := HM3.out.1
            go_wp2_with fail
            refine (HSt.out _ HE3.out).mono ?_
            rintro e w4 ⟨v4, rfl, hI4, hb4⟩
            have HE4 : Hid (Ext w w4) := HE3.out.trans hb4
            have HM4 : Hid (MAt w4 b o z ∧ b < w4.heap.size) := ⟨HM3.out.1.ext HM3.out.2 hb4, Nat.lt_of_lt_of_le HM3.out.2 hb4.size⟩
            have HI4 : Hid _ := hI4
            obtain ⟨a4, c4, rfl, hl4, hm4, hx4⟩ := hI4
            clear hb4 HM3 d1
            obtain ⟨vy, uy, ⟨-, -, -, q3, q4, -, -⟩, -⟩ := HM4.out.1
            go_wp2
            go_ret
            exact ⟨rfl, HE4.out⟩
          | true =>
            rw [Bool.true_and, Msg.valueB_L hst hsl.1 hsl.2.2]
            rw [hst, if_pos rfl] at HSt
            have hLl := Msg.startL_len ms z.view y
            obtain ⟨L, hL⟩ : ∃ L, L = Msg.startL ms z.view y := ⟨_, rfl⟩
            rw [← hL] at HSt hLl ⊢
            clear hst hL
            obtain ⟨s, hs⟩ : ∃ s : Nat, z.slot = (s : Int) + 1 := ⟨(z.slot - 1).toNat, by omega⟩
            rw [hs]
            by_cases hle : (s : Int) + 1 ≤ (L.length : Int)
            · rw [if_pos hle]
              obtain ⟨xv, hxv⟩ : ∃ xv, L[s]? = some xv := ⟨_, List.getElem?_eq_getElem (by omega)⟩
              have HX : Hid (L.getD ((s : Int) + 1 - 1).toNat 0 = xv) := by
                show _ = _
                rw [show ((s : Int) + 1 - 1).toNat = s from by omega, List.getD_eq_getElem?_getD, hxv]; rfl
              rw [HX.out]
              have e9 : IntKind.i64.wrap ((s : Int) + 1 - 1) = (s : Int) := by rw [IntKind.wrap_i64]; omega
              have e8 : IntKind.i64.wrap (s : Int) = (s : Int) := by rw [IntKind.wrap_i64]; omega
              go_enter Try.func56, Try.ntmps56
              go_wp2_with fail
              refine (HF.out _ (Ext.refl _)).mono ?_
              rintro e w2 ⟨rfl, hb⟩
              have HE2 : Hid (Ext w w2) := hb
              clear hb
              go_wp2_with fail
              refine (HY2.out _ HE2.out).mono ?_
              rintro e w9 ⟨b, o, rfl, hb, hm, hw⟩
              rw [hw]
              clear hw w9
              have HM2 : Hid (MAt w2 b o z ∧ b < w2.heap.size) := ⟨hm, hb⟩
              clear hm hb
              go_wp2_with fail
              refine (HPr.out b o _ HE2.out HM2.out.2 HM2.out.1).mono ?_
              rintro e w3 ⟨rfl, hb3⟩
              have HE3 : Hid (Ext w w3) := HE2.out.trans hb3
              have HM3 : Hid (MAt w3 b o z ∧ b < w3.heap.size) := ⟨HM2.out.1.ext HM2.out.2 hb3, Nat.lt_of_lt_of_le HM2.out.2 hb3.size⟩
              clear hb3 HM2
              obtain ⟨vz, uz, ⟨-, d1, -, -, -, -, -⟩, -⟩ := HM3.out.1
              go_wp2_with fail
              refine (HSt.out _ HE3.out).mono ?_
              rintro e w4 ⟨v4, rfl, hI4, hb4⟩
              have HE4 : Hid (Ext w w4) := HE3.out.trans hb4
              have HM4 : Hid (MAt w4 b o z ∧ b < w4.heap.size) := ⟨HM3.out.1.ext HM3.out.2 hb4, Nat.lt_of_lt_of_le HM3.out.2 hb4.size⟩
              have HI4 : Hid _ := hI4
              obtain ⟨a4, c4, rfl, hl4, hm4, hx4⟩ := hI4
              clear hb4 HM3 d1
              obtain ⟨vy, uy, ⟨-, -, -, q3, q4, -, -⟩, -⟩ := HM4.out.1
              obtain ⟨bl, ol, rfl, hbl, hNl⟩ := hx4 (by omega)
              have pl := hNl s xv hxv
              rw [hs] at q3
              have hsL : s < L.length := by omega
              unfold maxLen at hm4
              clear hNl hxv hs hsl
              go_wp2
              have HSS : Hid (w4.cell? ⟨b, o + 3, none⟩ = some (.int .i64 ((s : Int) + 1)) ∧ w4.cell? ⟨b, o + 4, none⟩ = some (.int .i64 z.value) ∧ w4.cell? ⟨bl, ol + s, none⟩ = some (.int .i64 xv)) := ⟨q3, q4, pl⟩
              clear q3 q4 pl
              refine wp_region_held_drew (S := (fun W' : World => W'.cell? ⟨b, o + 3, none⟩ = some (.int .i64 ((s : Int) + 1)) ∧ W'.cell? ⟨b, o + 4, none⟩ = some (.int .i64 z.value) ∧ W'.cell? ⟨bl, ol + s, none⟩ = some (.int .i64 xv))) (by kernel_rfl) HSS.out (fun hHeld => ?_)
              refine wpAnyH_take (i := 0) (oi := { dst := some 47, op := Op.move (Operand.tmp 9), type := 99, pos := "l10_view.go:186", after := #[], guard := none }) (v := ?_) rfl (by kernel_rfl) (by kernel_rfl) (by kernel_rfl) (fun _ _ _ h => h) (Or.inl ⟨by rfl, ?_⟩) (by assumption) ?_
              rotate_left
              · intro w' hSw; (try dsimp only at hSw); go_simp; try with_reducible rfl
              (try simp only [Act.put, List.setIfInBounds_toArray, List.set_cons_zero, List.set_cons_succ])
              refine wpAnyH_take (i := 1) (oi := { dst := some 48, op := Op.nilCheck (Operand.tmp 47), type := 0, pos := "l10_view.go:186", after := #[{ on := 0, ground := Ground.data }], guard := none }) (v := ?_) rfl (by kernel_rfl) (by kernel_rfl) (by kernel_rfl) (fun _ _ _ h => h) (Or.inl ⟨by rfl, ?_⟩) (by assumption) ?_
              rotate_left
              · intro w' hSw; (try dsimp only at hSw); go_simp; try with_reducible rfl
              (try simp only [Act.put, List.setIfInBounds_toArray, List.set_cons_zero, List.set_cons_succ])
              refine wpAnyH_take (i := 2) (oi := { dst := some 49, op := Op.fieldAddr 28 (Operand.tmp 48) 4, type := 0, pos := "l10_view.go:186", after := #[{ on := 1, ground := Ground.data }], guard := none }) (v := ?_) rfl (by kernel_rfl) (by kernel_rfl) (by kernel_rfl) (fun _ _ _ h => h) (Or.inl ⟨by rfl, ?_⟩) (by assumption) ?_
              rotate_left
              · intro w' hSw; (try dsimp only at hSw); go_simp; try with_reducible rfl
              (try simp only [Act.put, List.setIfInBounds_toArray, List.set_cons_zero, List.set_cons_succ])
              refine wpAnyH_take (i := 3) (oi := { dst := some 50, op := Op.load 2 (Operand.tmp 49), type := 2, pos := "l10_view.go:186", after := #[{ on := 2, ground := Ground.data }], guard := none }) (v := ?_) rfl (by kernel_rfl) (by kernel_rfl) (by kernel_rfl) (fun _ _ _ h => h) (Or.inl ⟨by rfl, ?_⟩) (by assumption) ?_
              rotate_left
              · intro w' hSw; (try dsimp only at hSw); go_simp; try with_reducible rfl
              (try simp only [Act.put, List.setIfInBounds_toArray, List.set_cons_zero, List.set_cons_succ])
              refine wpAnyH_take (i := 4) (oi := { dst := some 51, op := Op.move (Operand.tmp 10), type := 26, pos := "l10_view.go:186", after := #[], guard := none }) (v := ?_) rfl (by kernel_rfl) (by kernel_rfl) (by kernel_rfl) (fun _ _ _ h => h) (Or.inl ⟨by rfl, ?_⟩) (by assumption) ?_
              rotate_left
              · intro w' hSw; (try dsimp only at hSw); go_simp; try with_reducible rfl
              (try simp only [Act.put, List.setIfInBounds_toArray, List.set_cons_zero, List.set_cons_succ])
              refine wpAnyH_take (i := 5) (oi := { dst := some 52, op := Op.move (Operand.tmp 9), type := 99, pos := "l10_view.go:186", after := #[], guard := none }) (v := ?_) rfl (by kernel_rfl) (by kernel_rfl) (by kernel_rfl) (fun _ _ _ h => h) (Or.inl ⟨by rfl, ?_⟩) (by assumption) ?_
              rotate_left
              · intro w' hSw; (try dsimp only at hSw); go_simp; try with_reducible rfl
              (try simp only [Act.put, List.setIfInBounds_toArray, List.set_cons_zero, List.set_cons_succ])
              refine wpAnyH_take (i := 6) (oi := { dst := some 53, op := Op.nilCheck (Operand.tmp 52), type := 0, pos := "l10_view.go:186", after := #[{ on := 5, ground := Ground.data }], guard := none }) (v := ?_) rfl (by kernel_rfl) (by kernel_rfl) (by kernel_rfl) (fun _ _ _ h => h) (Or.inl ⟨by rfl, ?_⟩) (by assumption) ?_
              rotate_left
              · intro w' hSw; (try dsimp only at hSw); go_simp; try with_reducible rfl
              (try simp only [Act.put, List.setIfInBounds_toArray, List.set_cons_zero, List.set_cons_succ])
              refine wpAnyH_take (i := 7) (oi := { dst := some 54, op := Op.fieldAddr 28 (Operand.tmp 53) 3, type := 0, pos := "l10_view.go:186", after := #[{ on := 6, ground := Ground.data }], guard := none }) (v := ?_) rfl (by kernel_rfl) (by kernel_rfl) (by kernel_rfl) (fun _ _ _ h => h) (Or.inl ⟨by rfl, ?_⟩) (by assumption) ?_
              rotate_left
              · intro w' hSw; (try dsimp only at hSw); go_simp; try with_reducible rfl
              (try simp only [Act.put, List.setIfInBounds_toArray, List.set_cons_zero, List.set_cons_succ])
              refine wpAnyH_take (i := 8) (oi := { dst := some 55, op := Op.load 2 (Operand.tmp 54), type := 2, pos := "l10_view.go:186", after := #[{ on := 7, ground := Ground.data }], guard := none }) (v := ?_) rfl (by kernel_rfl) (by kernel_rfl) (by kernel_rfl) (fun _ _ _ h => h) (Or.inl ⟨by rfl, ?_⟩) (by assumption) ?_
              rotate_left
              · intro w' hSw; (try dsimp only at hSw); go_simp; try with_reducible rfl
              (try simp only [Act.put, List.setIfInBounds_toArray, List.set_cons_zero, List.set_cons_succ])
              refine wpAnyH_take (i := 9) (oi := { dst := some 56, op := Op.binOp BinOp.sub 2 (Operand.tmp 55) (Operand.const (Value.int IntKind.i64 1)) 2, type := 2, pos := "l10_view.go:186", after := #[{ on := 8, ground := Ground.data }], guard := none }) (v := ?_) rfl (by kernel_rfl) (by kernel_rfl) (by kernel_rfl) (fun _ _ _ h => h) (Or.inl ⟨by rfl, ?_⟩) (by assumption) ?_
              rotate_left
              · intro w' hSw; (try dsimp only at hSw); go_simp; try with_reducible rfl
              (try simp only [Act.put, List.setIfInBounds_toArray, List.set_cons_zero, List.set_cons_succ])
              refine wpAnyH_take (i := 10) (oi := { dst := some 57, op := Op.indexAddr 26 (Operand.tmp 51) (Operand.tmp 56), type := 0, pos := "l10_view.go:186", after := #[{ on := 4, ground := Ground.data }, { on := 9, ground := Ground.data }], guard := none }) (v := ?_) rfl (by kernel_rfl) (by kernel_rfl) (by kernel_rfl) (fun _ _ _ h => h) (Or.inl ⟨by rfl, ?_⟩) (by assumption) ?_
              rotate_left
              · intro w' hSw; (try dsimp only at hSw); go_simp; try with_reducible rfl
              (try simp only [Act.put, List.setIfInBounds_toArray, List.set_cons_zero, List.set_cons_succ])
              refine wpAnyH_take (i := 11) (oi := { dst := some 58, op := Op.load 2 (Operand.tmp 57), type := 2, pos := "l10_view.go:186", after := #[{ on := 10, ground := Ground.data }], guard := none }) (v := ?_) rfl (by kernel_rfl) (by kernel_rfl) (by kernel_rfl) (fun _ _ _ h => h) (Or.inl ⟨by rfl, ?_⟩) (by assumption) ?_
              rotate_left
              · intro w' hSw; (try dsimp only at hSw); go_simp; try with_reducible rfl
              (try simp only [Act.put, List.setIfInBounds_toArray, List.set_cons_zero, List.set_cons_succ])
              refine wpAnyH_take (i := 12) (oi := { dst := some 59, op := Op.binOp BinOp.eql 2 (Operand.tmp 50) (Operand.tmp 58) 2, type := 4, pos := "l10_view.go:186", after := #[{ on := 3, ground := Ground.data }, { on := 11, ground := Ground.data }], guard := none }) (v := ?_) rfl (by kernel_rfl) (by kernel_rfl) (by kernel_rfl) (fun _ _ _ h => h) (Or.inl ⟨by rfl, ?_⟩) (by assumption) ?_
              rotate_left
              · intro w' hSw; (try dsimp only at hSw); go_simp; try with_reducible rfl
              (try simp only [Act.put, List.setIfInBounds_toArray, List.set_cons_zero, List.set_cons_succ])
              refine wpAnyH_take (i := 13) (oi := { dst := some 8, op := Op.assign (Operand.tmp 59), type := 4, pos := "l10_view.go:186", after := #[{ on := 12, ground := Ground.data }, { on := 0, ground := Ground.phase }, { on := 1, ground := Ground.phase }, { on := 2, ground := Ground.phase }, { on := 3, ground := Ground.phase }, { on := 4, ground := Ground.phase }, { on := 5, ground := Ground.phase }, { on := 6, ground := Ground.phase }, { on := 7, ground := Ground.phase }, { on := 8, ground := Ground.phase }, { on := 9, ground := Ground.phase }, { on := 10, ground := Ground.phase }, { on := 11, ground := Ground.phase }, { on := 12, ground := Ground.phase }], guard := none }) (v := ?_) rfl (by kernel_rfl) (by kernel_rfl) (by kernel_rfl) (fun _ _ _ h => h) (Or.inl ⟨by rfl, ?_⟩) (by assumption) ?_
              rotate_left
              · intro w' hSw; (try dsimp only at hSw); go_simp; try with_reducible rfl
              (try simp only [Act.put, List.setIfInBounds_toArray, List.set_cons_zero, List.set_cons_succ])
              refine wpAnyH_done (by kernel_rfl) ?_ _
              (try go_wp2)
              go_ret
              exact ⟨ret_bool (by rw [Bool.eq_iff_iff]; simp), HE4.out.drew⟩
            · rw [if_neg hle]
              have hneg : ¬ (s : Int) + 1 ≤ (L.length : Int) := hle
              go_enter Try.func56, Try.ntmps56
              go_wp2_with fail
              refine (HF.out _ (Ext.refl _)).mono ?_
              rintro e w2 ⟨rfl, hb⟩
              have HE2 : Hid (Ext w w2) := hb
              clear hb
              go_wp2_with fail
              refine (HY2.out _ HE2.out).mono ?_
              rintro e w9 ⟨b, o, rfl, hb, hm, hw⟩
              rw [hw]
              clear hw w9
              have HM2 : Hid (MAt w2 b o z ∧ b < w2.heap.size) := ⟨hm, hb⟩
              clear hm hb
              go_wp2_with fail
              refine (HPr.out b o _ HE2.out HM2.out.2 HM2.out.1).mono ?_
              rintro e w3 ⟨rfl, hb3⟩
              have HE3 : Hid (Ext w w3) := HE2.out.trans hb3
              have HM3 : Hid (MAt w3 b o z ∧ b < w3.heap.size) := ⟨HM2.out.1.ext HM2.out.2 hb3, Nat.lt_of_lt_of_le HM2.out.2 hb3.size⟩
              clear hb3 HM2
              obtain ⟨vz, uz, ⟨-, d1, -, -, -, -, -⟩, -⟩ := HM3.out.1
              go_wp2_with fail
              refine (HSt.out _ HE3.out).mono ?_
              rintro e w4 ⟨v4, rfl, hI4, hb4⟩
              have HE4 : Hid (Ext w w4) := HE3.out.trans hb4
              have HM4 : Hid (MAt w4 b o z ∧ b < w4.heap.size) := ⟨HM3.out.1.ext HM3.out.2 hb4, Nat.lt_of_lt_of_le HM3.out.2 hb4.size⟩
              have HI4 : Hid _ := hI4
              obtain ⟨a4, c4, rfl, hl4, hm4, hx4⟩ := hI4
              clear hb4 HM3 d1
              obtain ⟨vy, uy, ⟨-, -, -, q3, q4, -, -⟩, -⟩ := HM4.out.1
              rw [hs] at q3
              unfold maxLen at hm4
              clear hs hsl hle
              go_wp2
              go_ret
              exact ⟨ret_bool (by rw [Bool.eq_iff_iff]; simp), HE4.out⟩
        · have HPr : Hid (∀ (b o : Nat) (wx : World), Ext w wx → b < wx.heap.size → MAt wx b o z → Calls Try.prog 115 #[.int .i64 f, .pointer (some ⟨b, o, none⟩)] wx fun e w' => e = .returned (.bool false) ∧ Ext wx w') := HPr0.out false (decide_eq_false hp)
          rw [decide_eq_false hp, Bool.false_and, Bool.false_and]
          clear hp HPr0 HSt
          go_enter Try.func56, Try.ntmps56
          go_wp2_with fail
          refine (HF.out _ (Ext.refl _)).mono ?_
          rintro e w2 ⟨rfl, hb⟩
          have HE2 : Hid (Ext w w2) := hb
          clear hb
          go_wp2_with fail
          refine (HY2.out _ HE2.out).mono ?_
          rintro e w9 ⟨b, o, rfl, hb, hm, hw⟩
          rw [hw]
          clear hw w9
          have HM2 : Hid (MAt w2 b o z ∧ b < w2.heap.size) := ⟨hm, hb⟩
          clear hm hb
          go_wp2_with fail
          refine (HPr.out b o _ HE2.out HM2.out.2 HM2.out.1).mono ?_
          rintro e w3 ⟨rfl, hb3⟩
          have HE3 : Hid (Ext w w3) := HE2.out.trans hb3
          have HM3 : Hid (MAt w3 b o z ∧ b < w3.heap.size) := ⟨HM2.out.1.ext HM2.out.2 hb3, Nat.lt_of_lt_of_le HM2.out.2 hb3.size⟩
          clear hb3 HM2
          go_wp2
          go_ret
          exact ⟨rfl, HE3.out⟩
  · rw [Msg.proposeRight_bad hc]
    have g : (Msg.ledger f ms != 0) = true := by simpa using hc
    clear hc HNo HYe HSt0
    generalize Msg.ledger f ms = k at *
    go_enter Try.func56, Try.ntmps56
    go_wp2_with fail
    refine (HF.out _ (Ext.refl _)).mono ?_
    rintro e w2 ⟨rfl, hb⟩
    have HE2 : Hid (Ext w w2) := hb
    clear hb
    go_wp2
    go_ret
    exact ⟨rfl, HE2.out⟩
end Go.Proofs.Ytflojfkalnojbaa
