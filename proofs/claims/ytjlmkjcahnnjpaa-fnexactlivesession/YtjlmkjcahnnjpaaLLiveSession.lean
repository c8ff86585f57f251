/- the exact law of LiveSession, walked. -/
import Derived.Test.YtjlmkjcahnnjpaaE6
namespace Go.Proofs.Ytjlmkjcahnnjpaa
open Go.RowKit

set_option maxHeartbeats 2000000 in
set_option maxRecDepth 100000 in
theorem lawLiveSession (v : Value) (l : List Se) (i : Int) (n : Int) (w : World) (hS : ESlice w v l) :
    Calls Try.prog 7 #[v, .int .i64 i, .int .i64 n] w fun e w' => e = .returned (.bool true) ∧ Ext w w' := by
  have HA : Hid (ESlice w v l) := hS
  obtain ⟨a, cap, rfl, hlc, hcm, -⟩ := hS
  have HSz : Hid (Calls Try.prog 19 #[.slice a l.length cap, .int .i64 1048576] w fun e w' => e = .returned (.int .i64 (if (1048576 : Int) < l.length then -1 else 1048576 - l.length)) ∧ w' = w) := szSessionS_any _ l _ w (by omega) (by omega) HA.out
  have HTS : Hid (l.length ≤ 1048576 → ∀ wx : World, Ext w wx → Calls Try.prog 21 #[.slice a l.length cap] wx fun e w' => ∃ v', e = .returned v' ∧ ESlice w' v' l ∧ Ext wx w') := fun hl wx he => toSessionS_any _ l wx (HA.out.ext he) hl
  have HSp : Hid (∀ (wx : World) (vx : Value), ESlice wx vx l → Calls Try.prog 27 #[vx, .int .i64 i, .int .i64 n] wx fun e w' => e = .returned (.bool (Ses.liveV l i n)) ∧ Ext wx w') := fun wx vx h => specLiveSession_any vx l i n wx h
  have HIm : Hid (∀ (wx : World) (vx : Value), ESlice wx vx l → Calls Try.prog 15 #[vx, .int .i64 i, .int .i64 n] wx fun e w' => e = .returned (.bool (Ses.liveV l i n)) ∧ Ext wx w') := fun wx vx h => implLiveSession_any vx l i n wx h
  have HE : Hid (∀ (wx : World) (vx ux : Value), ESlice wx vx l → ESlice wx ux l → Calls Try.prog 22 #[vx, ux] wx fun e w' => e = .returned (.bool true) ∧ Ext wx w') := fun wx vx ux h1 h2 => eqSessionS_same vx ux l wx h1 h2
  generalize Ses.liveV l i n = R at *
  unfold maxLen at hcm
  by_cases h2 : (1048576 : Int) < l.length
  · rw [if_pos h2] at HSz
    go_enter Try.func7, Try.ntmps7
    go_wp2_with fail
    refine HSz.out.mono ?_
    rintro e w2 ⟨rfl, hw⟩
    subst hw
    go_wp2
    go_ret
    exact ⟨rfl, Ext.refl _⟩
  · rw [if_neg h2] at HSz
    have hl : l.length ≤ 1048576 := by omega
    have HTS' : Hid (∀ wx : World, Ext w wx → Calls Try.prog 21 #[.slice a l.length cap] wx fun e w' => ∃ v', e = .returned v' ∧ ESlice w' v' l ∧ Ext wx w') := HTS.out hl
    have uu : (R != R) = false := by simp
    clear HTS
    go_enter Try.func7, Try.ntmps7
    go_wp2_with fail
    refine HSz.out.mono ?_
    rintro e w2 ⟨rfl, hw⟩
    subst hw
    go_wp2_with fail
    refine (HTS'.out _ (Ext.refl _)).mono ?_
    rintro e w4 ⟨v4, rfl, h4, hb⟩
    have H4 : Hid (ESlice w4 v4 l) := h4
    have HB4 : Hid (Ext w2 w4) := hb
    clear hb h4
    go_wp2_with fail
    refine (HSp.out _ _ H4.out).mono ?_
    rintro e w5 ⟨rfl, hb⟩
    have HB5 : Hid (Ext w2 w5) := HB4.out.trans hb
    clear hb
    go_wp2_with fail
    refine (HTS'.out _ HB5.out).mono ?_
    rintro e w6 ⟨v6, rfl, h6, hb⟩
    have H6 : Hid (ESlice w6 v6 l) := h6
    have HB6 : Hid (Ext w2 w6) := HB5.out.trans hb
    clear hb h6
    go_wp2_with fail
    refine (HIm.out _ _ H6.out).mono ?_
    rintro e w8 ⟨rfl, hb⟩
    have HB8 : Hid (Ext w2 w8) := HB6.out.trans hb
    have H8 : Hid (ESlice w8 v6 l) := H6.out.ext hb
    clear hb
    go_wp2_with fail
    refine (HTS'.out _ HB8.out).mono ?_
    rintro e w9 ⟨v9, rfl, h9, hb⟩
    have H9 : Hid (ESlice w9 v9 l) := h9
    have H9' : Hid (ESlice w9 v6 l) := H8.out.ext hb
    have HB9 : Hid (Ext w2 w9) := HB8.out.trans hb
    clear hb h9
    go_wp2_with fail
    refine (HE.out _ _ _ H9'.out H9.out).mono ?_
    rintro e w10 ⟨rfl, hb⟩
    have HB10 : Hid (Ext w2 w10) := HB9.out.trans hb
    clear hb
    go_wp2
    go_ret
    exact ⟨rfl, HB10.out⟩
end Go.Proofs.Ytjlmkjcahnnjpaa
