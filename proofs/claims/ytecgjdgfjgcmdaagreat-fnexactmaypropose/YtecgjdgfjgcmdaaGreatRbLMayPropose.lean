/- laws.FnExactMayPropose answers true at every f, every ledger, every replica. -/
import Derived.Test.YtecgjdgfjgcmdaaGreatRbG8
import Derived.Test.YtecgjdgfjgcmdaaGreatRbLRp
import Derived.Deep.RegionHeld3
namespace Go.Proofs.YtecgjdgfjgcmdaaGreat
open Go.RowKit
set_option maxHeartbeats 4000000 in
set_option maxRecDepth 100000 in
theorem lawMayPropose (f : Int) (v : Value) (ms : List Ms) (c : Rp) (slot : Int) (value : Int) (w : World) (hm : MSlice w v ms) :
    Calls Tryz.prog 4 #[.int .i64 f, v, ragg c, .int .i64 slot, .int .i64 value] w fun e w' => e = .returned (.bool true) ∧ Ext w w' := by
  have HM : Hid (MSlice w v ms) := hm
  have HSz : Hid (∀ wx : World, Ext w wx → Calls Tryz.prog 11 #[v, .int .i64 1048576] wx fun e w' => ∃ r : Int, e = .returned (.int .i64 r) ∧ -1 ≤ r ∧ r ≤ 1048576 ∧ (0 ≤ r → ms.length ≤ 1048576 ∧ ∀ m ∈ ms, SmallM m) ∧ Ext wx w') := fun wx he => szMsgS_le v ms 1048576 wx (by omega) (by omega) (HM.out.ext he)
  have HT : Hid (ms.length ≤ 1048576 ∧ (∀ m ∈ ms, SmallM m) → ∀ wx : World, Ext w wx → Calls Tryz.prog 13 #[v] wx fun e w' => ∃ g, e = .returned (.slice (some ⟨g, 0, none⟩) ms.length ms.length) ∧ MSlice w' (.slice (some ⟨g, 0, none⟩) ms.length ms.length) ms ∧ Ext wx w') := fun hs wx he => (toMsgS_at v ms wx (HM.out.ext he) hs.1 hs.2).mono fun e w' h => ⟨_, h.1, MSlice.of h.2.1.1 h.2.2.1.at (Nat.le_refl _) (by have := hs.1; unfold maxLen; omega), h.2.2.2⟩
  have HTc : Hid (∀ wx : World, Calls Tryz.prog 14 #[ragg c] wx fun e w' => e = .returned (ragg c) ∧ Ext wx w') := fun wx => toReplica_any c wx
  have HSp : Hid (∀ (x : Value) (wx : World), MSlice wx x ms → Calls Tryz.prog 17 #[.int .i64 f, x, ragg c, .int .i64 slot, .int .i64 value] wx fun e w' => e = .returned (.int .i64 (Msg.askC f ms c (Msg.propC f ms c slot value))) ∧ Ext wx w') := fun x wx h => specMayPropose_any f x ms c slot value wx h
  have HIm : Hid (∀ (x : Value) (wx : World), MSlice wx x ms → Calls Tryz.prog 18 #[.int .i64 f, x, ragg c, .int .i64 slot, .int .i64 value] wx fun e w' => e = .returned (.int .i64 (Msg.askC f ms c (Msg.propC f ms c slot value))) ∧ Ext wx w') := fun x wx h => implMayPropose_any f x ms c slot value wx h
  have HEq : Hid (∀ (x y : Value) (wx : World), MSlice wx x ms → MSlice wx y ms → Calls Tryz.prog 16 #[x, y] wx fun e w' => e = .returned (.bool true) ∧ Ext wx w') := fun x y wx h1 h2 => eqMsgS_same x y ms wx h1 h2
  obtain ⟨a, cap, rfl, -, -, -⟩ := hm
  generalize Msg.askC f ms c (Msg.propC f ms c slot value) = R at *
  have hcc : (R != R) = false := by simp
  unfold ragg at *
  go_enter Tryz.func4, Tryz.ntmps4
  go_wp2_with fail
  refine (HSz.out _ ((Ext.refl _).alloc _)).mono ?_
  rintro e w1 ⟨r, rfl, hr0, hr1, hr2, hb⟩
  have E1 : Hid (Ext w w1) := ((Ext.refl _).alloc _).trans hb
  have AN0 := (qbox_new w c _).ext hb
  have AN : Hid (QBoxAt w1 w.heap.size c) := by (try simp only [World.size_alloc] at AN0); exact AN0
  clear AN0
  clear hb 
  have AB := AN; clear AN
  have HR : Hid _ := hr2
  clear hr2
  by_cases hn : r < 0
  · go_wp2
    go_ret
    exact ⟨rfl, E1.out⟩
  have T2 : Hid _ := HT.out (HR.out (by omega))
  clear HT HR
  obtain ⟨Altw1, Ac0w1, Ac1w1, Ac2w1, Ac3w1⟩ := AB.out
  go_wp2
  go_region_held3 (fun W => W.cell? ⟨w.heap.size, 0, none⟩ = some (.int .i64 c.id) ∧ W.cell? ⟨w.heap.size, 1, none⟩ = some (.int .i64 c.view) ∧ W.cell? ⟨w.heap.size, 2, none⟩ = some (.int .i64 c.start) ∧ W.cell? ⟨w.heap.size, 3, none⟩ = some (.int .i64 c.done)) (first | exact ⟨Ac0w1, Ac1w1, Ac2w1, Ac3w1⟩ | exact ⟨Ac0w2, Ac1w2, Ac2w2, Ac3w2⟩ | exact ⟨Ac0w3, Ac1w3, Ac2w3, Ac3w3⟩ | exact ⟨Ac0w4, Ac1w4, Ac2w4, Ac3w4⟩ | go_keep) (first | (have tk2 := E1; clear tk2; go_at_call 13; refine (T2.out _ (by first | exact E1.out.drew | exact E1.out)).mono ?_; rintro e w2 ⟨g2, rfl, hO, hb⟩; have X2 : Hid (Ext w1 w2) := (by first | exact ((Ext.refl _).drew).trans hb | exact hb); have E2 : Hid (Ext w w2) := E1.out.trans X2.out; have AN : Hid (QBoxAt w2 w.heap.size c) := AB.out.ext X2.out; have PN : Hid (MSlice w2 (.slice (some ⟨g2, 0, none⟩) ms.length ms.length) ms) := hO; clear hO; clear hb X2 E1 AB Altw1 Ac0w1 Ac1w1 Ac2w1 Ac3w1; have AB := AN; clear AN; have PH := PN; clear PN; obtain ⟨Altw2, Ac0w2, Ac1w2, Ac2w2, Ac3w2⟩ := AB.out) | (have tk3 := E2; clear tk3; go_at_call 14; refine (HTc.out _).mono ?_; rintro e w3 ⟨rfl, hb⟩; have X3 : Hid (Ext w2 w3) := (by first | exact ((Ext.refl _).drew).trans hb | exact hb); have E3 : Hid (Ext w w3) := E2.out.trans X3.out; have AN : Hid (QBoxAt w3 w.heap.size c) := AB.out.ext X3.out; have PN : Hid (MSlice w3 (.slice (some ⟨g2, 0, none⟩) ms.length ms.length) ms) := PH.out.ext X3.out; clear hb X3 E2 AB PH Altw2 Ac0w2 Ac1w2 Ac2w2 Ac3w2; have AB := AN; clear AN; have PH := PN; clear PN; obtain ⟨Altw3, Ac0w3, Ac1w3, Ac2w3, Ac3w3⟩ := AB.out) | (have tk4 := E3; clear tk4; go_at_call 17; refine (HSp.out _ _ (PH.out.ext (by first | exact (Ext.refl _).drew | exact Ext.refl _))).mono ?_; rintro e w4 ⟨rfl, hb⟩; have X4 : Hid (Ext w3 w4) := (by first | exact ((Ext.refl _).drew).trans hb | exact hb); have E4 : Hid (Ext w w4) := E3.out.trans X4.out; have AN : Hid (QBoxAt w4 w.heap.size c) := AB.out.ext X4.out; clear PH; clear hb X4 E3 AB Altw3 Ac0w3 Ac1w3 Ac2w3 Ac3w3; have AB := AN; clear AN; obtain ⟨Altw4, Ac0w4, Ac1w4, Ac2w4, Ac3w4⟩ := AB.out))
  go_wp2_with fail
  refine (T2.out _ E4.out).mono ?_
  rintro e w5 ⟨g5, rfl, hO, hb⟩
  have E5 : Hid (Ext w w5) := E4.out.trans hb
  have AN : Hid (QBoxAt w5 w.heap.size c) := AB.out.ext hb
  clear hb AB E4
  have AB := AN; clear AN
  have XH : Hid (MSlice w5 (.slice (some ⟨g5, 0, none⟩) ms.length ms.length) ms) := hO
  clear hO
  obtain ⟨Alt, Ac0, Ac1, Ac2, Ac3⟩ := AB.out
  go_wp2_with fail
  refine (HTc.out _).mono ?_
  rintro e w6 ⟨rfl, hb⟩
  have E6 : Hid (Ext w w6) := E5.out.trans hb
  have AN : Hid (QBoxAt w6 w.heap.size c) := AB.out.ext hb
  have XN : Hid (MSlice w6 (.slice (some ⟨g5, 0, none⟩) ms.length ms.length) ms) := XH.out.ext hb
  clear hb AB XH E5 Alt Ac0 Ac1 Ac2 Ac3
  have AB := AN; clear AN
  have XH := XN; clear XN
  go_wp2_with fail
  refine (HIm.out _ _ XH.out).mono ?_
  rintro e w7 ⟨rfl, hb⟩
  have E7 : Hid (Ext w w7) := E6.out.trans hb
  have AN : Hid (QBoxAt w7 w.heap.size c) := AB.out.ext hb
  have XN : Hid (MSlice w7 (.slice (some ⟨g5, 0, none⟩) ms.length ms.length) ms) := XH.out.ext hb
  clear hb AB XH E6
  have AB := AN; clear AN
  have XH := XN; clear XN
  go_wp2_with fail
  refine (T2.out _ E7.out).mono ?_
  rintro e w8 ⟨g8, rfl, hO, hb⟩
  have E8 : Hid (Ext w w8) := E7.out.trans hb
  have AN : Hid (QBoxAt w8 w.heap.size c) := AB.out.ext hb
  have XN : Hid (MSlice w8 (.slice (some ⟨g5, 0, none⟩) ms.length ms.length) ms) := XH.out.ext hb
  clear hb AB XH E7
  have AB := AN; clear AN
  have XH := XN; clear XN
  have YH : Hid (MSlice w8 (.slice (some ⟨g8, 0, none⟩) ms.length ms.length) ms) := hO
  clear hO
  go_wp2_with fail
  refine (HEq.out _ _ _ XH.out YH.out).mono ?_
  rintro e w9 ⟨rfl, hb⟩
  have E9 : Hid (Ext w w9) := E8.out.trans hb
  have AN : Hid (QBoxAt w9 w.heap.size c) := AB.out.ext hb
  have XN : Hid (MSlice w9 (.slice (some ⟨g5, 0, none⟩) ms.length ms.length) ms) := XH.out.ext hb
  have YN : Hid (MSlice w9 (.slice (some ⟨g8, 0, none⟩) ms.length ms.length) ms) := YH.out.ext hb
  clear hb AB XH YH E8
  have AB := AN; clear AN
  have XH := XN; clear XN
  have YH := YN; clear YN
  go_wp2
  go_ret
  exact ⟨rfl, E9.out⟩
end Go.Proofs.YtecgjdgfjgcmdaaGreat
