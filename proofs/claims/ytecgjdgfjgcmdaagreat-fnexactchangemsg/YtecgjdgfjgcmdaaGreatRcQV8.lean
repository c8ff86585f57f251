/- what may be proposed: the program's. -/
import Derived.Test.YtecgjdgfjgcmdaaGreatRcQV7b
import Derived.Test.YtecgjdgfjgcmdaaGreatRcQV6
import Derived.Deep.RegionHeld3
namespace Go.Proofs.YtecgjdgfjgcmdaaGreat
open Go.RowKit
namespace Msg
/-- What a view takes over that begins at start. -/
def startL (ms : List Ms) (view start : Int) : List Int := if view = 0 then [] else picks ms (refsAt ms start)
def holdB (l : List Int) (slot value : Int) : Bool := if slot ≤ (l.length : Int) then decide (value = l.getD (slot - 1).toNat 0) else decide (¬ value = 0)
theorem startB_zero {f : Int} {ms : List Ms} {start : Int} : startB f ms 0 start = decide (start = -1) := by unfold startB; rw [if_pos rfl]
theorem startB_no {f : Int} {ms : List Ms} {view start : Int} (h0 : ¬ view = 0) (h : newAt f ms start = false ∨ ¬ viewAt ms start = view) : startB f ms view start = false := by
  unfold startB
  rw [if_neg h0, Bool.and_eq_false_iff]
  rcases h with h | h
  · exact Or.inl h
  · exact Or.inr (decide_eq_false h)
theorem startB_is {f : Int} {ms : List Ms} {view start : Int} (h0 : ¬ view = 0) (h : viewAt ms start = view) : startB f ms view start = newAt f ms start := by
  unfold startB
  rw [if_neg h0, decide_eq_true h, Bool.and_true]
theorem startL_is {ms : List Ms} {view start : Int} {z : Ms} (h0 : ¬ view = 0) (h : nth ms start = some z) : startL ms view start = picks ms z.refs := by
  unfold startL
  rw [if_neg h0, refsAt_some h]
theorem new_no {f : Int} {ms : List Ms} {x : Int} (h : kindAt ms x 5 = false) : newAt f ms x = false := by
  cases hn : nth ms x with
  | none => exact newAt_none hn
  | some z =>
    rw [kindAt_some hn, decide_eq_false_iff_not] at h
    rw [newAt_some hn]
    exact newB_no (fun h2 => h h2.1)
end Msg
theorem empty_own (w : World) (g : Nat) : Led.IOwn w (.slice none 0 0) g [] := ⟨none, 0, rfl, Nat.le_refl _, by unfold maxLen; omega, fun h => by simp at h⟩
set_option maxHeartbeats 8000000 in
set_option maxRecDepth 100000 in
theorem valuesAtStart_any (f : Int) (v : Value) (ms : List Ms) (view start : Int) (w : World) (hS : MSlice w v ms) (hled : Msg.ledger f ms = 0) :
    Calls Tryz.prog 129 #[.int .i64 f, v, .int .i64 view, .int .i64 start] w fun e w' => ∃ vo g, e = .returned (.tuple #[vo, .bool (Msg.startB f ms view start)]) ∧ w.heap.size ≤ g ∧ Led.IOwn w' vo g (if Msg.startB f ms view start = true then Msg.startL ms view start else []) ∧ Ext w w' := by
  have HNo : Hid (Msg.kindAt ms start 5 = false → Calls Tryz.prog 75 #[v, .int .i64 start, .int .i64 5] w fun e w' => e = .returned (.pointer none) ∧ w' = w) := fun h => findMsg_no v ms start 5 w hS h
  have HYe : Hid (∀ z, Msg.nth ms start = some z → z.kind = 5 → Calls Tryz.prog 75 #[v, .int .i64 start, .int .i64 5] w fun e w' => ∃ b o, e = .returned (.pointer (some ⟨b, o, none⟩)) ∧ b < w.heap.size ∧ MAt w b o z ∧ w' = w) := fun z h1 h2 => findMsg_yes v ms start 5 z w hS h1 h2
  have HNw : Hid (∀ z b o, Msg.nth ms start = some z → z.kind = 5 → b < w.heap.size → MAt w b o z → Calls Tryz.prog 163 #[.int .i64 f, v, .pointer (some ⟨b, o, none⟩)] w fun e w' => e = .returned (.bool (Msg.newB f ms z)) ∧ Ext w w') := fun z b o h1 h2 hb hm => isRightNew_any f v ms z b o start.toNat w hS hled (Msg.nth_some h1).2.2 h2 hb hm
  have HTk : Hid (∀ z u wx, Msg.nth ms start = some z → Ext w wx → ISlice wx u z.refs → Calls Tryz.prog 164 #[v, u] wx fun e w' => ∃ vo g, e = .returned vo ∧ wx.heap.size ≤ g ∧ Led.IOwn w' vo g (Msg.picks ms z.refs) ∧ Ext wx w') := fun z u wx h1 he hi => valuesTakenOver_any f v ms u z.refs wx (hS.ext he) hi hled (Msg.refs_zero hled (Msg.nth_some h1).2.2) (by have h2 := (Msg.lists_zero (Msg.ledger_all hled z (List.mem_of_getElem? (Msg.nth_some h1).2.2))).2.1; have h3 := Msg.ledger_zero hled; omega)
  obtain ⟨a, cap, rfl, -, -, -⟩ := hS
  clear hled
  by_cases h0 : view = 0
  · subst h0
    rw [Msg.startB_zero]
    have hL : Msg.startL ms 0 start = [] := by unfold Msg.startL; rw [if_pos rfl]
    rw [hL]
    have hq : (start == -1) = decide (start = -1) := by by_cases h : start = -1 <;> simp [h]
    have hE : (if decide (start = -1) = true then ([] : List Int) else []) = [] := by split <;> rfl
    rw [hE]
    generalize decide (start = -1) = bb at *
    clear HNo HYe HNw HTk hE hL
    go_enter Tryz.func129, Tryz.ntmps129
    go_wp2
    go_ret2
    exact ⟨_, _, rfl, Nat.le_refl _, empty_own _ _, Ext.refl _⟩
  · have g0 : (view == 0) = false := by simpa using h0
    cases hk : Msg.kindAt ms start 5 with
    | false =>
      rw [Msg.startB_no h0 (Or.inl (Msg.new_no hk)), if_neg (by decide)]
      have HN2 : Hid (Calls Tryz.prog 75 #[.slice a ms.length cap, .int .i64 start, .int .i64 5] w fun e w' => e = .returned (.pointer none) ∧ w' = w) := HNo.out hk
      clear HNo HYe HNw HTk h0 hk
      go_enter Tryz.func129, Tryz.ntmps129
      go_wp2_with fail
      refine HN2.out.mono ?_
      rintro e w9 ⟨rfl, hw⟩
      rw [hw]
      clear hw w9
      go_wp2
      go_ret2
      exact ⟨_, _, rfl, Nat.le_refl _, empty_own _ _, Ext.refl _⟩
    | true =>
      cases hn : Msg.nth ms start with
      | none => rw [Msg.kindAt_none hn] at hk; cases hk
      | some z =>
        rw [Msg.kindAt_some hn, decide_eq_true_eq] at hk
        have HY2 : Hid (Calls Tryz.prog 75 #[.slice a ms.length cap, .int .i64 start, .int .i64 5] w fun e w' => ∃ b o, e = .returned (.pointer (some ⟨b, o, none⟩)) ∧ b < w.heap.size ∧ MAt w b o z ∧ w' = w) := HYe.out z hn hk
        have HZ : Hid (Msg.nth ms start = some z ∧ z.kind = 5) := ⟨hn, hk⟩
        by_cases hv : z.view = view
        · have g1 : (z.view != view) = false := by simpa using hv
          rw [Msg.startB_is h0 (by rw [Msg.viewAt_some hn]; exact hv), Msg.newAt_some hn, Msg.startL_is h0 hn]
          have HNz : Hid (∀ b o, b < w.heap.size → MAt w b o z → Calls Tryz.prog 163 #[.int .i64 f, .slice a ms.length cap, .pointer (some ⟨b, o, none⟩)] w fun e w' => e = .returned (.bool (Msg.newB f ms z)) ∧ Ext w w') := fun b o => HNw.out z b o hn hk
          clear HNo HYe h0 hk hn hv HNw
          cases hB : Msg.newB f ms z with
          | true =>
            rw [hB] at HNz
            rw [if_pos rfl]
            clear hB
            go_enter Tryz.func129, Tryz.ntmps129
            go_wp2_with fail
            refine HY2.out.mono ?_
            rintro e w9 ⟨b, o, rfl, hb, hm, hw⟩
            rw [hw]
            clear hw w9
            have HM : Hid (MAt w b o z ∧ b < w.heap.size) := ⟨hm, hb⟩
            obtain ⟨vz, uz, ⟨-, d1, -, -, -, -, -⟩, -⟩ := hm
            go_wp2_with fail
            refine (HNz.out b o HM.out.2 HM.out.1).mono ?_
            rintro e w2 ⟨rfl, hb2⟩
            have HE2 : Hid (Ext w w2) := hb2
            obtain ⟨vy, uy, ⟨-, -, -, -, -, -, d6⟩, hL⟩ := HM.out.1.ext HM.out.2 hb2
            have HIr : Hid (ISlice w2 uy z.refs) := hL.2
            obtain ⟨-, ⟨ar, cr, rfl, -, -, -⟩⟩ := hL
            clear hb2 d1
            go_wp2_with fail
            refine (HTk.out z _ _ HZ.out.1 HE2.out HIr.out).mono ?_
            rintro e w5 ⟨v5, g5, rfl, hg5, hO5, hb5⟩
            have HE5 : Hid (Ext w w5) := HE2.out.trans hb5
            have HI5 : Hid (Led.IOwn w5 v5 g5 (Msg.picks ms z.refs) ∧ w.heap.size ≤ g5) := ⟨hO5, Nat.le_trans HE2.out.size hg5⟩
            obtain ⟨a5, c5, rfl, -⟩ := id hO5
            clear hb5 hO5 hg5
            go_wp2
            go_ret2
            exact ⟨_, g5, rfl, HI5.out.2, HI5.out.1, HE5.out⟩
          | false =>
            rw [hB] at HNz
            rw [if_neg (by decide)]
            clear hB HTk
            go_enter Tryz.func129, Tryz.ntmps129
            go_wp2_with fail
            refine HY2.out.mono ?_
            rintro e w9 ⟨b, o, rfl, hb, hm, hw⟩
            rw [hw]
            clear hw w9
            have HM : Hid (MAt w b o z ∧ b < w.heap.size) := ⟨hm, hb⟩
            obtain ⟨vz, uz, ⟨-, d1, -, -, -, -, -⟩, -⟩ := hm
            go_wp2_with fail
            refine (HNz.out b o HM.out.2 HM.out.1).mono ?_
            rintro e w2 ⟨rfl, hb2⟩
            have HE2 : Hid (Ext w w2) := hb2
            clear hb2 d1
            go_wp2
            go_ret2
            exact ⟨_, _, rfl, Nat.le_refl _, empty_own _ _, HE2.out⟩
        · have g1 : (z.view != view) = true := by simpa using hv
          rw [Msg.startB_no h0 (Or.inr (by rw [Msg.viewAt_some hn]; exact hv)), if_neg (by decide)]
          clear HNo HYe h0 hk hn hv HNw HTk
          go_enter Tryz.func129, Tryz.ntmps129
          go_wp2_with fail
          refine HY2.out.mono ?_
          rintro e w9 ⟨b, o, rfl, hb, hm, hw⟩
          rw [hw]
          clear hw w9
          obtain ⟨vz, uz, ⟨-, d1, -, -, -, -, -⟩, -⟩ := hm
          go_wp2
          go_ret2
          exact ⟨_, _, rfl, Nat.le_refl _, empty_own _ _, Ext.refl _⟩

end Go.Proofs.YtecgjdgfjgcmdaaGreat
