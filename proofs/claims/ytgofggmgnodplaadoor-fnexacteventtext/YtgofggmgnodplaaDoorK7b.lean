/- the text of an event: the specification's. -/
import Derived.Test.YtgofggmgnodplaaDoorK7a
namespace Go.Proofs.YtgofggmgnodplaaDoor
open Go.RowKit
set_option maxHeartbeats 2000000 in
set_option maxRecDepth 100000 in
theorem specEventText_any (z : Ev) (w : World) : Calls Tryd.prog 18 #[evagg z] w fun e w' => e = .returned (tr (Wch.evV z)) ∧ Ext w w' := by
  have HI : Hid (∀ wx : World, Calls Tryd.prog 38 #[.int .i64 z.client] wx fun e w' => e = .returned (.bool (Wch.idOk z.client)) ∧ w' = wx) := l4IdO_any z.client
  have HF : Hid (∀ wx : World, Calls Tryd.prog 39 #[.string z.path] wx fun e w' => e = .returned (.int .i64 (Pth.faultI z.path.data.toList)) ∧ Ext wx w') := l1FaultI_any z.path
  have HK : Hid (∀ wx : World, Calls Tryd.prog 40 #[.int .i64 z.kind, .int .i64 1, .int .i64 3] wx fun e w' => e = .returned (.bool (decide (1 ≤ z.kind) && decide (z.kind ≤ 3))) ∧ w' = wx) := l1In_any z.kind 1 3
  cases hi : Wch.idOk z.client with
  | false =>
    rw [Wch.evV_1 (Wch.code_id hi) (by decide)]
    rw [hi] at HI
    unfold tr evagg
    go_enter Tryd.func18, Tryd.ntmps18
    go_wp2_with fail
    refine (HI.out _).mono ?_
    rintro e w1 ⟨rfl, hw1⟩; rw [hw1]; clear hw1 w1
    go_wp2
    exact bodyPost_ret (v := tr (3, [])) (by simp [results, Tryd.results18, go_sem, tr, mkB]) rfl ⟨rfl, ((Ext.refl _).alloc _).alloc _⟩
  | true =>
    have hcode := Wch.code_path (z := ⟨z.client, z.path⟩) hi
    simp only at hcode
    rw [hi] at HI
    by_cases hc : Pth.faultI z.path.data.toList = 0
    · rw [hc] at HF hcode
      cases hk : (decide (1 ≤ z.kind) && decide (z.kind ≤ 3)) with
      | false =>
        rw [Wch.evV_2 hcode hk]
        rw [hk] at HK
        unfold tr evagg
        clear hcode hc hk
        go_enter Tryd.func18, Tryd.ntmps18
        go_wp2_with fail
        refine (HI.out _).mono ?_
        rintro e w1 ⟨rfl, hw1⟩; rw [hw1]; clear hw1 w1
        go_wp2_with fail
        refine (HF.out _).mono ?_
        rintro e w2 ⟨rfl, hb⟩
        have HB : Hid (Ext w w2) := (((Ext.refl _).alloc _).alloc _).trans hb
        obtain ⟨⟨t, c0, c1, c2⟩, t0, t1, t2, t3, t4⟩ := (twobox_new w z _ _).ext hb
        simp only [Nat.zero_add] at c0 c1 c2
        clear hb
        go_wp2_with fail
        refine (HK.out _).mono ?_
        rintro e w1 ⟨rfl, hw1⟩; rw [hw1]; clear hw1 w1
        go_wp2
        exact bodyPost_ret (v := tr (1, [])) (by simp [results, Tryd.results18, go_sem, tr, mkB, *]) rfl ⟨rfl, (HB.out.setCell (by simp) _).setCell (by simp) _⟩
      | true =>
        rw [Wch.evV_3 hcode hk]
        rw [hk] at HK
        simp only [Bool.and_eq_true, decide_eq_true_eq] at hk
        clear HI HF HK
        obtain ⟨c, p, k⟩ := z
        simp only at *
        have hk3 : k = 1 ∨ k = 2 ∨ k = 3 := by omega
        rcases hk3 with h | h | h
        · subst h; exact specEventText_1 c p w hi hc
        · subst h; exact specEventText_2 c p w hi hc
        · subst h; exact specEventText_3 c p w hi hc
    · rw [Wch.evV_1 hcode hc]
      generalize Pth.faultI z.path.data.toList = c at *
      have hcb : (c != 0) = true := by simpa using hc
      unfold tr evagg
      clear hcode
      go_enter Tryd.func18, Tryd.ntmps18
      go_wp2_with fail
      refine (HI.out _).mono ?_
      rintro e w1 ⟨rfl, hw1⟩; rw [hw1]; clear hw1 w1
      go_wp2_with fail
      refine (HF.out _).mono ?_
      rintro e w2 ⟨rfl, hb⟩
      have HB : Hid (Ext w w2) := (((Ext.refl _).alloc _).alloc _).trans hb
      obtain ⟨-, t0, t1, t2, t3, t4⟩ := (twobox_new w z _ _).ext hb
      clear hb
      go_wp2
      exact bodyPost_ret (v := tr (c, [])) (by simp [results, Tryd.results18, go_sem, tr, mkB, *]) rfl ⟨rfl, (HB.out.setCell (by simp) _).setCell (by simp) _⟩
end Go.Proofs.YtgofggmgnodplaaDoor
