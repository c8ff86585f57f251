/- the laws' marks in votes. -/
import Derived.Test.YtfgjodnjahhanaaVfVT1
import Derived.Test.YtfgjodnjahhanaaVfZ3
namespace Go.Proofs.Ytfgjodnjahhanaa
open Go.RowKit
theorem VtRoom.set {w : World} {g off n : Nat} (h : VtRoom w g off n) (o : Nat) (v : Value) : VtRoom (w.setCell ⟨g, o, none⟩ v) g off n := by
  refine ⟨by simpa using h.1, fun j hj => ⟨?_, by simpa using (h.2 j hj).2⟩⟩
  by_cases ho : o = off + j
  · subst ho; exact ⟨v, iset_eq _ _ _ _ (h.2 j hj).1⟩
  · rw [iset_ne _ _ _ _ _ _ (Or.inr ho)]; exact (h.2 j hj).1

set_option maxHeartbeats 4000000 in
set_option maxRecDepth 100000 in
theorem markVoteS_any (g n : Nat) (w : World) (hr : VtRoom w g 0 n) (hn : n ≤ 1048576) :
    Calls Try.prog 16 #[.slice (some ⟨g, 0, none⟩) n n, .int .i64 1] w fun e w' => ∃ k : Nat, e = .returned (.int .i64 (k : Int)) ∧ k ≤ 10000000 ∧ Upd g w w' := by
  have HR0 : Hid (VtRoom w g 0 n) := hr
  clear hr
  go_enter Try.func16, Try.ntmps16
  go_wp2
  go_loopw [1, 5] (fun kv i wr => ∃ (j : Nat), j ≤ n ∧ i = .int .i64 j ∧ kv = .int .i64 ((1 + 4 * j : Nat) : Int) ∧ Hid (VtRoom wr g 0 n) ∧ Hid (Upd g w wr)) (fun _ i _ => n - (intOf i).toNat)
  case atStart => exact ⟨0, Nat.zero_le _, rfl, rfl, HR0, Upd.refl _ _⟩
  case round =>
    obtain ⟨j, hj, rfl, rfl, HR, HU⟩ := hrel
    obtain ⟨kk, hkk⟩ : ∃ kk : Nat, kk = 1 + 4 * j := ⟨_, rfl⟩
    have hkb : kk ≤ 4200000 := by omega
    have HK : Hid (kk = 1 + 4 * j) := hkk
    rw [← hkk]
    clear hkk
    by_cases hlt : j < n
    · obtain ⟨⟨u0, r0⟩, f0⟩ := HR.out.2 (j * 4) (by omega)
      obtain ⟨⟨u1, r1⟩, f1⟩ := HR.out.2 (j * 4 + 1) (by omega)
      obtain ⟨⟨u2, r2⟩, f2⟩ := HR.out.2 (j * 4 + 2) (by omega)
      rw [Nat.zero_add] at r0 r1 r2 f0 f1 f2
      have HM : Hid (∀ wx : World, Calls Try.prog 33 #[.int .i64 ((kk : Int) + 1 + 1 + 1)] wx fun e w' => e = .returned (.string (mtext (kk + 3))) ∧ Ext wx w') := fun wx => by
        have h := markText_any (kk + 3) wx (by omega)
        rw [show ((kk + 3 : Nat) : Int) = (kk : Int) + 1 + 1 + 1 from by omega] at h
        exact h
      go_wp2_with fail
      refine (HM.out _).mono ?_
      rintro e w2 ⟨rfl, hb2⟩
      have HR2 : Hid (VtRoom w2 g 0 n) := (((HR.out.set _ _).set _ _).set _ _).ext hb2
      have HU2 : Hid (Upd g w w2) := (((HU.out.setAt _ _).setAt _ _).setAt _ _).trans (Upd.ext hb2 (by have := HR.out.1; simp; omega))
      obtain ⟨⟨u3, r3⟩, f3⟩ := HR2.out.2 (j * 4 + 3) (by omega)
      rw [Nat.zero_add] at r3 f3
      clear hb2 r0 r1 r2 f0 f1 f2 HM
      go_wp2
      exact ⟨⟨j + 1, by omega, by go_num, by rw [show 1 + 4 * (j + 1) = kk + 4 from by rw [HK.out]; omega]; go_num, HR2.out.set _ _, HU2.out.setAt _ _⟩, by simp [intOf]; omega⟩
    · go_wp2
      go_ret
      exact ⟨kk, rfl, by omega, HU.out⟩
end Go.Proofs.Ytfgjodnjahhanaa
