/- laws.FnExactProposeRight answers true at every argument. -/
import Derived.Test.YtecgjdgfjgcmdaaQV8
import Derived.Test.YtecgjdgfjgcmdaaQV8s
namespace Go.Proofs.Ytecgjdgfjgcmdaa
open Go.RowKit
set_option maxHeartbeats 4000000 in
set_option maxRecDepth 100000 in
theorem lawProposeRight (f : Int) (v : Value) (ms : List Ms) (x y : Int) (w : World) (hm : MSlice w v ms) :
    Calls Try.prog 5 #[.int .i64 f, v, .int .i64 x, .int .i64 y] w fun e w' => e = .returned (.bool true) ∧ Ext w w' := by
  have HM : Hid (MSlice w v ms) := hm
  have HSz : Hid (∀ wx : World, Ext w wx → Calls Try.prog 7 #[v, .int .i64 1048576] wx fun e w' => ∃ r : Int, e = .returned (.int .i64 r) ∧ -1 ≤ r ∧ r ≤ 1048576 ∧ (0 ≤ r → ms.length ≤ 1048576 ∧ ∀ m ∈ ms, SmallM m) ∧ Ext wx w') := fun wx he => szMsgS_le v ms 1048576 wx (by omega) (by omega) (HM.out.ext he)
  have HT : Hid (ms.length ≤ 1048576 ∧ (∀ m ∈ ms, SmallM m) → ∀ wx : World, Ext w wx → Calls Try.prog 9 #[v] wx fun e w' => ∃ g, e = .returned (.slice (some ⟨g, 0, none⟩) ms.length ms.length) ∧ MSlice w' (.slice (some ⟨g, 0, none⟩) ms.length ms.length) ms ∧ Ext wx w') := fun hs wx he => (toMsgS_at v ms wx (HM.out.ext he) hs.1 hs.2).mono fun e w' h => ⟨_, h.1, MSlice.of h.2.1.1 h.2.2.1.at (Nat.le_refl _) (by have := hs.1; unfold maxLen; omega), h.2.2.2⟩
  have HSp : Hid (∀ (yv : Value) (wx : World), MSlice wx yv ms → Calls Try.prog 18 #[.int .i64 f, yv, .int .i64 x, .int .i64 y] wx fun e w' => e = .returned (.bool (Msg.proposeRight f ms x y)) ∧ Ext wx w') := fun yv wx h => specProposeRight_any f x y yv ms wx h
  have HIm : Hid (∀ (yv : Value) (wx : World), MSlice wx yv ms → Calls Try.prog 19 #[.int .i64 f, yv, .int .i64 x, .int .i64 y] wx fun e w' => e = .returned (.bool (Msg.proposeRight f ms x y)) ∧ Ext wx w') := fun yv wx h => implProposeRight_any f x y yv ms wx h
  have HEq : Hid (∀ (x y : Value) (wx : World), MSlice wx x ms → MSlice wx y ms → Calls Try.prog 12 #[x, y] wx fun e w' => e = .returned (.bool true) ∧ Ext wx w') := fun x y wx h1 h2 => eqMsgS_same x y ms wx h1 h2
  obtain ⟨a, cap, rfl, -, -, -⟩ := hm
  generalize Msg.proposeRight f ms x y = R at *
  have hcc : (R != R) = false := by cases R <;> rfl
  go_enter Try.func5, Try.ntmps5
  go_wp2_with fail
  refine (HSz.out _ (Ext.refl _)).mono ?_
  rintro e w1 ⟨r, rfl, hr0, hr1, hr2, hb⟩
  have E1 : Hid (Ext w w1) := hb
  have HR : Hid (0 ≤ r → ms.length ≤ 1048576 ∧ ∀ m ∈ ms, SmallM m) := hr2
  clear hb hr2
  by_cases hn : r < 0
  · go_wp2
    go_ret
    exact ⟨rfl, E1.out⟩
  · have HT2 : Hid (∀ wx : World, Ext w wx → Calls Try.prog 9 #[.slice a ms.length cap] wx fun e w' => ∃ g, e = .returned (.slice (some ⟨g, 0, none⟩) ms.length ms.length) ∧ MSlice w' (.slice (some ⟨g, 0, none⟩) ms.length ms.length) ms ∧ Ext wx w') := HT.out (HR.out (by omega))
    clear HT HR
    go_wp2_with fail
    refine (HT2.out _ E1.out).mono ?_
    rintro e w2 ⟨g2, rfl, hM2, hb⟩
    have E2 : Hid (Ext w w2) := E1.out.trans hb
    have M2 : Hid (MSlice w2 (.slice (some ⟨g2, 0, none⟩) ms.length ms.length) ms) := hM2
    clear hb hM2 E1
    go_wp2_with fail
    refine (HSp.out _ _ M2.out).mono ?_
    rintro e w3 ⟨rfl, hb⟩
    have E3 : Hid (Ext w w3) := E2.out.trans hb
    clear hb M2 E2
    go_wp2_with fail
    refine (HT2.out _ E3.out).mono ?_
    rintro e w4 ⟨g4, rfl, hM4, hb⟩
    have E4 : Hid (Ext w w4) := E3.out.trans hb
    have M4 : Hid (MSlice w4 (.slice (some ⟨g4, 0, none⟩) ms.length ms.length) ms) := hM4
    clear hb hM4 E3
    go_wp2_with fail
    refine (HIm.out _ _ M4.out).mono ?_
    rintro e w5 ⟨rfl, hb⟩
    have E5 : Hid (Ext w w5) := E4.out.trans hb
    have M5 : Hid (MSlice w5 (.slice (some ⟨g4, 0, none⟩) ms.length ms.length) ms) := M4.out.ext hb
    clear hb M4 E4
    go_wp2_with fail
    refine (HT2.out _ E5.out).mono ?_
    rintro e w6 ⟨g6, rfl, hM6, hb⟩
    have E6 : Hid (Ext w w6) := E5.out.trans hb
    have M6 : Hid (MSlice w6 (.slice (some ⟨g4, 0, none⟩) ms.length ms.length) ms ∧ MSlice w6 (.slice (some ⟨g6, 0, none⟩) ms.length ms.length) ms) := ⟨M5.out.ext hb, hM6⟩
    clear hb M5 E5 hM6
    go_wp2_with fail
    refine (HEq.out _ _ _ M6.out.1 M6.out.2).mono ?_
    rintro e w7 ⟨rfl, hb⟩
    have E7 : Hid (Ext w w7) := E6.out.trans hb
    clear hb M6 E6
    go_wp2
    go_ret
    exact ⟨rfl, E7.out⟩
