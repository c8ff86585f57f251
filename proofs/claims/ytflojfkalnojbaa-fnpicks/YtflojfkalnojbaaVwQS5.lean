/- the specification's votes, what is decided, the log. -/
import Derived.Test.YtflojfkalnojbaaVwQS1
namespace Go.Proofs.Ytflojfkalnojbaa
open Go.RowKit
theorem Led.own_ext {w w' : World} {base : Nat} {e : TypeId} {size : Nat} {v : Value} {n : Nat} {xs : List Value} (h : w.ownsRow base e size v n xs) (he : Ext w w') : w'.ownsRow base e size v n xs := by
  refine ⟨h.1, ?_⟩
  rcases h.2 with hn | ⟨g, cap, cur, rfl, hb, hgg, rest⟩
  · exact .inl hn
  · exact .inr ⟨g, cap, cur, rfl, hb, (he.block g (Array.getElem?_eq_some_iff.1 hgg).1).trans hgg, rest⟩
theorem Msg.no_lists (w : World) : MLs w (.slice none 0 0) (.slice none 0 0) ⟨0, 0, 0, 0, 0, [], []⟩ := ⟨⟨none, 0, rfl, Nat.le_refl _, by unfold maxLen; omega, fun h => by simp at h⟩, ⟨none, 0, rfl, Nat.le_refl _, by unfold maxLen; omega, fun h => by simp at h⟩⟩
theorem Msg.vm_at (w : World) (k id : Int) (c : Ct) (t : TypeId) : MAt (w.alloc (.cells #[.int .i64 k, .int .i64 c.view, .int .i64 id, .int .i64 c.slot, .int .i64 c.value, .slice none 0 0, .slice none 0 0] t)) w.heap.size 0 (Msg.vm k c id) :=
  ⟨_, _, (mbox_new w (Msg.vm k c id) (.slice none 0 0) (.slice none 0 0) t).cs, Msg.no_lists _⟩

set_option maxHeartbeats 4000000 in
set_option maxRecDepth 100000 in
theorem l9Votes_any (f : Int) (v : Value) (ms : List Ms) (kind : Int) (c : Ct) (w : World) (hS : MSlice w v ms) (hf0 : 1 ≤ f) (hf1 : f ≤ 2) :
    Calls Try.prog 75 #[.int .i64 f, v, .int .i64 kind, ctagg c] w fun e w' => ∃ vo g, e = .returned vo ∧ w.heap.size ≤ g ∧ Led.IOwn w' vo g (Msg.votes f ms kind c) ∧ Ext w w' := by
  have hi9 : (Try.prog.info? 2).map (fun i => (i.zero, i.size, i.bytes)) = some (some (.int .i64 0), 1, 8) := by kernel_rfl
  obtain ⟨ti, hti, hxx⟩ := Option.map_eq_some_iff.1 hi9
  simp only [Prod.mk.injEq] at hxx
  obtain ⟨hz0, hz1, hz2⟩ := hxx
  clear hi9
  have e1 : IntKind.i64.wrap (3 * f) = 3 * f := by rw [IntKind.wrap_i64]; omega
  have e2 : IntKind.i64.wrap (3 * f + 1) = 3 * f + 1 := by rw [IntKind.wrap_i64]; omega
  unfold Msg.votes
  obtain ⟨N, hN⟩ : ∃ N : Nat, N = (3 * f + 1).toNat := ⟨_, rfl⟩
  rw [← hN]
  have hNf : (N : Int) = 3 * f + 1 := by omega
  have hN7 : N ≤ 7 := by omega
  clear hN
  have HA : Hid (∀ (m : Ms) (b o : Nat) (wx : World), Ext w wx → b < wx.heap.size → MAt wx b o m → Calls Try.prog 124 #[v, .pointer (some ⟨b, o, none⟩)] wx fun e w' => e = .returned (.int .i64 (Msg.place ms m)) ∧ Ext wx w') := fun m b o wx he hb hm => l8At_any v ms m b o wx (hS.ext he) hb hm
  obtain ⟨a, cap, rfl, -, -, -⟩ := hS
  unfold ctagg
  go_enter Try.func75, Try.ntmps75
  go_wp2
  have HB0 : Hid (Ext (w.alloc (.cells #[.int .i64 c.slot, .int .i64 c.view, .int .i64 c.value] 38)) ((w.alloc (.cells #[.int .i64 c.slot, .int .i64 c.view, .int .i64 c.value] 38)).alloc (.cells #[] 2))) := (Ext.refl _).alloc _
  go_loopw [9, 10] (fun ov i wr => ∃ (k : Nat), k ≤ N ∧ i = .int .i64 (1 + (k : Int)) ∧ Hid (wr.ownsRow (w.heap.size + 1) 2 1 ov (Msg.votesK ms kind c k).length ((Msg.votesK ms kind c k).map (Value.int .i64))) ∧ Hid (Ext (w.alloc (.cells #[.int .i64 c.slot, .int .i64 c.view, .int .i64 c.value] 38)) wr)) (fun _ i _ => (N + 1) - (intOf i).toNat)
  case atStart =>
    have h0 := World.ownsRow_made (base := w.heap.size + 1) (e := 2) (size := 1) (w.alloc (.cells #[.int .i64 c.slot, .int .i64 c.view, .int .i64 c.value] 38)) #[] 0 (by simp) (by unfold maxLen; omega) rfl
    simp only [World.size_alloc] at h0
    exact ⟨0, Nat.zero_le _, rfl, h0, HB0⟩
  case round =>
    obtain ⟨k, hk, rfl, HO, HE⟩ := hrel
    by_cases hlt : k < N
    · have hcc := fun j => (Ext.cell HE.out).1 w.heap.size j (by simp)
      have c0 := (hcc 0).trans (show _ = some (.int .i64 c.slot) by simp)
      have c1 := (hcc 1).trans (show _ = some (.int .i64 c.view) by simp)
      have c2 := (hcc 2).trans (show _ = some (.int .i64 c.value) by simp)
      clear hcc
      have hws : w.heap.size + 1 ≤ wr.heap.size := by have := HE.out.size; simpa using this
      have hkl : (Msg.votesK ms kind c k).length ≤ 7 := by have := Msg.votesK_len ms kind c k; omega
      have HAt : Hid (MAt (wr.alloc (.cells #[.int .i64 kind, .int .i64 c.view, .int .i64 (1 + (k : Int)), .int .i64 c.slot, .int .i64 c.value, .slice none 0 0, .slice none 0 0] 28)) wr.heap.size 0 (Msg.vm kind c (1 + k))) := Msg.vm_at wr kind (1 + k) c _
      have HEw : Hid (Ext w wr) := ((Ext.refl _).alloc _).trans HE.out
      have hle : 1 + (k : Int) ≤ 3 * f + 1 := by omega
      go_wp2_with fail
      refine (HA.out _ _ _ _ (HEw.out.alloc _) (by simp) HAt.out).mono ?_
      rintro e w2 ⟨rfl, hb2⟩
      have HE2 : Hid (Ext (w.alloc (.cells #[.int .i64 c.slot, .int .i64 c.view, .int .i64 c.value] 38)) w2) := (HE.out.alloc _).trans hb2
      have HO2 : Hid (w2.ownsRow (w.heap.size + 1) 2 1 u9 (Msg.votesK ms kind c k).length ((Msg.votesK ms kind c k).map (Value.int .i64))) := Led.own_ext (HO.out.alloc _) hb2
      have hws2 : w.heap.size + 1 ≤ w2.heap.size := by have := HE2.out.size; simpa using this
      clear hb2 HE HO HAt HEw hws c0 c1 c2
      have hpm := @Msg.place_mem ms (Msg.vm kind c (1 + k))
      by_cases hq : Msg.vm kind c (1 + k) ∈ ms
      · have HK2 : Hid (Msg.votesK ms kind c (k + 1) = Msg.votesK ms kind c k ++ [1 + (k : Int)]) := Msg.votesK_yes hq
        have hp := hpm.2 hq
        clear hpm hq
        generalize Msg.place ms (Msg.vm kind c (1 + k)) = p at *
        go_wp2_with (at_builtin; go_must (refine wpList_append_own _ rfl _ _ 26 rfl (w.heap.size + 1) 2 ti (.int .i64 0) 1 8 Try.underlying26 hti hz0 hz1 hz2 rfl (by decide) _ _ _ rfl (HO2.out.alloc _) ⟨w2.heap.size, 0, none⟩ 1 1 [.int .i64 (1 + (k : Int))] rfl rfl (cellM_one _ _ _ _ rfl) (ints_oneCell .i64 [(1 + (k : Int))]) (by unfold maxLen; omega) (by omega) (by simp; omega) ?_; intro v6 w6 hown6 hgrow6 hnil6))
        refine ⟨⟨k + 1, by omega, by go_num, ?_, Below.grown (HE2.out.alloc _) hgrow6 (by simp; omega) (fun q hq => by have := (HO2.out.lt q hq).1; simpa using this)⟩, by simp [intOf]; omega⟩
        show w6.ownsRow _ _ _ _ _ _
        rw [HK2.out, List.map_append, List.length_append]
        exact hown6
      · have HK2 : Hid (Msg.votesK ms kind c (k + 1) = Msg.votesK ms kind c k) := Msg.votesK_no hq
        have hp : ¬ 0 ≤ Msg.place ms (Msg.vm kind c (1 + k)) := fun h => hq (hpm.1 h)
        clear hpm hq
        generalize Msg.place ms (Msg.vm kind c (1 + k)) = p at *
        go_wp2
        refine ⟨⟨k + 1, by omega, by go_num, ?_, HE2.out⟩, by simp [intOf]; omega⟩
        show w2.ownsRow _ _ _ _ _ _
        rw [HK2.out]
        exact HO2.out
    · have hke : k = N := by omega
      subst hke
      obtain ⟨g, hg1, hg2, hT⟩ := Led.iown_of_owns HO.out
      obtain ⟨a8, c8, rfl, -⟩ := id hT
      have HT : Hid (w.heap.size ≤ g ∧ Led.IOwn wr (.slice a8 (Msg.votesK ms kind c k).length c8) g (Msg.votesK ms kind c k)) := ⟨by omega, hT⟩
      have hgt : ¬ 1 + (k : Int) ≤ 3 * f + 1 := by omega
      clear hT hg1 hg2 hNf hN7
      go_wp2
      go_ret
      first | exact ⟨_, g, rfl, HT.out.1, HT.out.2, ((Ext.refl _).alloc _).trans HE.out⟩ | exact ⟨_, rfl, g, HT.out.1, HT.out.2, ((Ext.refl _).alloc _).trans HE.out⟩

set_option maxHeartbeats 1000000 in
theorem l9Need_any (f : Int) (w : World) (h0 : 1 ≤ f) (h1 : f ≤ 2) : Calls Try.prog 143 #[.int .i64 f] w fun e w' => e = .returned (.int .i64 (2 * f + 1)) ∧ w' = w := by
  have e1 : IntKind.i64.wrap (2 * f) = 2 * f := by rw [IntKind.wrap_i64]; omega
  have e2 : IntKind.i64.wrap (2 * f + 1) = 2 * f + 1 := by rw [IntKind.wrap_i64]; omega
  go_enter Try.func143, Try.ntmps143
  go_wp2
  go_ret
  exact ⟨rfl, rfl⟩

set_option maxHeartbeats 2000000 in
set_option maxRecDepth 100000 in
theorem l9Enough_any (f : Int) (v : Value) (ms : List Ms) (kind : Int) (c : Ct) (w : World) (hS : MSlice w v ms) (hf0 : 1 ≤ f) (hf1 : f ≤ 2) :
    Calls Try.prog 111 #[.int .i64 f, v, .int .i64 kind, ctagg c] w fun e w' => e = .returned (.bool (Msg.enough f ms kind c)) ∧ Ext w w' := by
  have HV : Hid (∀ wx, Ext w wx → Calls Try.prog 75 #[.int .i64 f, v, .int .i64 kind, ctagg c] wx fun e w' => ∃ vo g, e = .returned vo ∧ wx.heap.size ≤ g ∧ Led.IOwn w' vo g (Msg.votes f ms kind c) ∧ Ext wx w') := fun wx he => l9Votes_any f v ms kind c wx (hS.ext he) hf0 hf1
  have HQ : Hid (∀ wx, Calls Try.prog 143 #[.int .i64 f] wx fun e w' => e = .returned (.int .i64 (2 * f + 1)) ∧ w' = wx) := fun wx => l9Need_any f wx hf0 hf1
  obtain ⟨a, cap, rfl, -, -, -⟩ := hS
  unfold Msg.enough
  have hvl := @Msg.votes_len f ms kind c hf0 hf1
  generalize Msg.votes f ms kind c = l at *
  unfold ctagg at *
  by_cases hq : 2 * f + 1 ≤ (l.length : Int)
  all_goals
    go_enter Try.func111, Try.ntmps111
    go_wp2_with fail
    refine (HV.out _ ((Ext.refl _).alloc _)).mono ?_
    rintro e w2 ⟨vo, g, rfl, -, hO, hb⟩
    obtain ⟨a8, c8, rfl, -⟩ := id hO
    have HE : Hid (Ext w w2) := ((Ext.refl _).alloc _).trans hb
    clear hb hO
    go_wp2_with fail
    refine (HQ.out _).mono ?_
    rintro e w9 ⟨rfl, hw⟩
    rw [hw]
    clear hw w9
    go_wp2
    go_ret
    exact ⟨ret_bool (by simp [hq]), HE.out⟩

end Go.Proofs.Ytflojfkalnojbaa
