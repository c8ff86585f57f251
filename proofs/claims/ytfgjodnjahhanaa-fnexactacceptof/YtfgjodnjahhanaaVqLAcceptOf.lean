/- laws.FnExactAcceptOf answers true at every f and every list of votes. -/
import Derived.Test.YtfgjodnjahhanaaVqVT5
namespace Go.Proofs.Ytfgjodnjahhanaa
open Go.RowKit
set_option maxHeartbeats 4000000 in
set_option maxRecDepth 100000 in
theorem lawAcceptOf (f : Int) (v : Value) (zs : List Vt) (w : World) (hS : VtSlice w v zs) (hz : ∀ z ∈ zs, z.path.size ≤ maxLen) :
    Calls Try.prog 5 #[.int .i64 f, v] w fun e w' => e = .returned (.bool true) ∧ Ext w w' := by
  have HSz : Hid (∀ wx, Ext w wx → Calls Try.prog 6 #[v, .int .i64 1048576] wx fun e w' => ∃ r : Int, e = .returned (.int .i64 r) ∧ -1 ≤ r ∧ r ≤ 1048576 ∧ (0 ≤ r → zs.length ≤ 1048576 ∧ ∀ z ∈ zs, z.path.size ≤ 1048576) ∧ Ext wx w') := fun wx he => szVoteS_le v zs 1048576 wx (by omega) (by omega) (hS.ext he) hz
  have HT0 : Hid (zs.length ≤ 1048576 → ∀ wx, Ext w wx → Calls Try.prog 8 #[v] wx fun e w' => ∃ g, e = .returned (.slice (some ⟨g, 0, none⟩) zs.length zs.length) ∧ VtSlice w' (.slice (some ⟨g, 0, none⟩) zs.length zs.length) zs ∧ Ext wx w') := fun hl wx he => (toVoteS_at v zs wx (hS.ext he) hl).mono fun e w' h => ⟨_, h.1, VtSlice.of h.2.1.1 h.2.2.1 (Nat.le_refl _) (by unfold maxLen; omega), h.2.2.2⟩
  have HSp : Hid (∀ (x : Value) wx, VtSlice wx x zs → Calls Try.prog 19 #[.int .i64 f, x] wx fun e w' => e = .returned (yrT (Vot.believe f zs)) ∧ Ext wx w') := fun x wx h => Vot.specAcceptOf_any f x zs wx h hz
  have HIm : Hid (∀ (x : Value) wx, VtSlice wx x zs → Calls Try.prog 20 #[.int .i64 f, x] wx fun e w' => e = .returned (yrT (Vot.believe f zs)) ∧ Ext wx w') := fun x wx h => Vot.implAcceptOf_any f x zs wx h hz
  have HEq : Hid (∀ (x y : Value) wx, VtSlice wx x zs → VtSlice wx y zs → Calls Try.prog 10 #[x, y] wx fun e w' => e = .returned (.bool true) ∧ Ext wx w') := fun x y wx h1 h2 => eqVoteS_same x y zs wx h1 h2
  obtain ⟨a, cap, rfl, -, -, -⟩ := hS
  clear hz
  generalize Vot.believe f zs = R at *
  obtain ⟨c, d, n, p⟩ := R
  have HQ : Hid (∀ wx : World, Calls Try.prog 21 #[yr c d n p, yr c d n p] wx fun e w' => e = .returned (.bool true) ∧ Ext wx w') := fun wx => eqReplyR_same c d n p wx
  unfold yrT yr at HSp HIm
  unfold yr at HQ
  go_enter Try.func5, Try.ntmps5
  go_wp2_with fail
  refine (HSz.out _ (Ext.refl _)).mono ?_
  rintro e w1 ⟨r, rfl, hr0, hr1, hr2, hb⟩
  have E1 : Hid (Ext w w1) := hb
  have HR : Hid (0 ≤ r → zs.length ≤ 1048576 ∧ ∀ z ∈ zs, z.path.size ≤ 1048576) := hr2
  clear hb hr2
  by_cases hn : r < 0
  · go_wp2
    go_ret
    exact ⟨rfl, E1.out⟩
  have HT : Hid _ := HT0.out (HR.out (by omega)).1
  clear HT0 HR
  go_wp2_with fail
  refine (HT.out _ E1.out).mono ?_
  rintro e w2 ⟨g2, rfl, hS2, hb⟩
  have E2 : Hid (Ext w w2) := E1.out.trans hb
  have S2 : Hid (VtSlice w2 (.slice (some ⟨g2, 0, none⟩) zs.length zs.length) zs) := hS2
  clear hb hS2 E1
  go_wp2_with fail
  refine (HSp.out _ _ S2.out).mono ?_
  rintro e w3 ⟨rfl, hb⟩
  have E3 : Hid (Ext w w3) := E2.out.trans hb
  clear hb E2 S2
  go_wp2_with fail
  refine (HT.out _ (E3.out.alloc _)).mono ?_
  rintro e w4 ⟨g4, rfl, hS4, hb⟩
  have E4 : Hid (Ext w w4) := (E3.out.alloc _).trans hb
  have S4 : Hid (VtSlice w4 (.slice (some ⟨g4, 0, none⟩) zs.length zs.length) zs) := hS4
  have B4 : Hid (Vot.Y4 w4 w3.heap.size (.int .i64 c) (.int .i64 d) (.int .i64 n) (.string p)) := (Vot.y4_new w3 _ _ _ _ _).ext hb
  clear hb hS4 E3
  go_wp2_with fail
  refine (HIm.out _ _ S4.out).mono ?_
  rintro e w5 ⟨rfl, hb⟩
  have E5 : Hid (Ext w w5) := E4.out.trans hb
  have S5 : Hid (VtSlice w5 (.slice (some ⟨g4, 0, none⟩) zs.length zs.length) zs) := S4.out.ext hb
  have B5 : Hid (Vot.Y4 w5 w3.heap.size (.int .i64 c) (.int .i64 d) (.int .i64 n) (.string p)) := B4.out.ext hb
  clear hb E4 S4 B4
  obtain ⟨x, ⟨x0, x1, x2, x3⟩, -⟩ := B5.out
  have hal := alloc_cell
  go_wp2_with fail
  refine (HQ.out _).mono ?_
  rintro e w6 ⟨rfl, hb⟩
  have E6 : Hid (Ext w w6) := (E5.out.alloc _).trans hb
  have S6 : Hid (VtSlice w6 (.slice (some ⟨g4, 0, none⟩) zs.length zs.length) zs) := (S5.out.ext ((Ext.refl _).alloc _)).ext hb
  clear hb E5 S5 B5 x x0 x1 x2 x3 hal
  go_wp2_with fail
  refine (HT.out _ E6.out).mono ?_
  rintro e w7 ⟨g6, rfl, hS7, hb⟩
  have E7 : Hid (Ext w w7) := E6.out.trans hb
  have S7 : Hid (VtSlice w7 (.slice (some ⟨g6, 0, none⟩) zs.length zs.length) zs) := hS7
  have S4 : Hid (VtSlice w7 (.slice (some ⟨g4, 0, none⟩) zs.length zs.length) zs) := S6.out.ext hb
  clear hb hS7 E6 S6
  go_wp2_with fail
  refine (HEq.out _ _ _ S4.out S7.out).mono ?_
  rintro e w8 ⟨rfl, hb⟩
  have E8 : Hid (Ext w w8) := E7.out.trans hb
  clear hb
  go_wp2
  go_ret
  exact ⟨rfl, E8.out⟩
end Go.Proofs.Ytfgjodnjahhanaa
