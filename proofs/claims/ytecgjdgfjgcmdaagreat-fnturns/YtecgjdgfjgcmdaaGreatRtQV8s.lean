/- what may be proposed: the specification's. -/
import Derived.Test.YtecgjdgfjgcmdaaGreatRtG7
import Derived.Test.YtecgjdgfjgcmdaaGreatRtGV
import Derived.Test.YtecgjdgfjgcmdaaGreatRtQV4
import Derived.Test.YtecgjdgfjgcmdaaGreatRtQV5
import Derived.Test.YtecgjdgfjgcmdaaGreatRtQV6s
namespace Go.Proofs.YtecgjdgfjgcmdaaGreat
open Go.RowKit
set_option maxHeartbeats 4000000 in
set_option maxRecDepth 100000 in
theorem l10Start_any (f : Int) (v : Value) (ms : List Ms) (view start : Int) (w : World) (hS : MSlice w v ms) (hled : Msg.ledger f ms = 0) :
  Calls Tryz.prog 146 #[.int .i64 f, v, .int .i64 view, .int .i64 start] w fun e w' => e = .returned (.bool (Msg.startB f ms view start)) ∧ Ext w w' := by
 have HN : Hid (Calls Tryz.prog 171 #[.int .i64 f, v, .int .i64 start] w fun e w' => e = .returned (.bool (Msg.newAt f ms start)) ∧ Ext w w') := l10New_any f v ms start w hS hled
 have HSl : Hid (MSlice w v ms) := hS
 obtain ⟨a, cap, rfl, -, -, -⟩ := hS
 clear hled
 by_cases h0 : view = 0
 ·subst h0
  rw [Msg.startB_zero]
  have hq : (start == -1) = decide (start = -1) := by by_cases h : start = -1 <;> simp [h]
  generalize decide (start = -1) = bb at *
  clear HN
  go_enter Tryz.func146, Tryz.ntmps146
  go_wp2
  go_ret
  exact ⟨rfl, Ext.refl _⟩
 ·have g0 : (view == 0) = false := by simpa using h0
  cases hnw : Msg.newAt f ms start with
  | false =>
   rw [Msg.startB_no h0 (Or.inl hnw)]
   rw [hnw] at HN
   clear hnw h0
   go_enter Tryz.func146, Tryz.ntmps146
   go_wp2_with fail
   refine HN.out.mono ?_
   rintro e w2 ⟨rfl, hb⟩
   have HE2 : Hid (Ext w w2) := hb
   clear hb
   go_wp2
   go_ret
   exact ⟨rfl, HE2.out⟩
  | true =>
   cases hn : Msg.nth ms start with
   | none => rw [Msg.newAt_none hn] at hnw; cases hnw
   | some z =>
    have hsB : Msg.startB f ms view start = decide (z.view = view) := by
     unfold Msg.startB
     rw [if_neg h0, hnw, Bool.true_and, Msg.viewAt_some hn]
    rw [hsB]
    rw [hnw] at HN
    obtain ⟨h1, h3, h2⟩ := Msg.nth_some hn
    obtain ⟨q, rfl⟩ : ∃ q : Nat, start = q := ⟨start.toNat, by omega⟩
    have h2 : ms[q]? = some z := h2
    have hq : (z.view == view) = decide (z.view = view) := by by_cases h : z.view = view <;> simp [h]
    generalize decide (z.view = view) = bb at *
    clear hnw h0 hn hsB h1 h3
    go_enter Tryz.func146, Tryz.ntmps146
    go_wp2_with fail
    refine HN.out.mono ?_
    rintro e w2 ⟨rfl, hb⟩
    have HE2 : Hid (Ext w w2) := hb
    obtain ⟨b1, off1, cap1, e1, hlt1, hlm1, hcm1, hb1, hm⟩ := (HSl.out.ext hb).at2 h2
    injection e1 with e1 e4 e5
    subst e1 e5
    obtain ⟨vz, uz, ⟨-, d1, -, -, -, -, -⟩, -⟩ := hm
    clear hb h2 e4
    go_wp2
    go_ret
    exact ⟨rfl, HE2.out⟩

end Go.Proofs.YtecgjdgfjgcmdaaGreat
