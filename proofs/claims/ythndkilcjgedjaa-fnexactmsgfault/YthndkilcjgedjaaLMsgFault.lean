/- laws.FnExactMsgFault answers true at every f and every message. -/
import Derived.Test.YthndkilcjgedjaaH11
import Derived.Deep.RegionHeld3
namespace Go.Proofs.Ythndkilcjgedjaa
open Go.RowKit
set_option maxHeartbeats 4000000 in
set_option maxRecDepth 100000 in
theorem lawMsgFault (f : Int) (m : Ms) (v u : Value) (w : World) (hm : MLs w v u m) :
    Calls Try.prog 11 #[.int .i64 f, magg m v u] w fun e w' => e = .returned (.bool true) ∧ Ext w w' := by
  have Hm : Hid (MLs w v u m) := hm
  have HSz : Hid (∀ (p : Int) (wx : World), 0 ≤ p → p ≤ 1048576 → Ext w wx → Calls Try.prog 32 #[magg m v u, .int .i64 p] wx fun e w' => ∃ q : Int, e = .returned (.int .i64 q) ∧ -1 ≤ q ∧ q ≤ 1048576 ∧ (0 ≤ q → m.certs.length ≤ 1048576 ∧ m.refs.length ≤ 1048576) ∧ Ext wx w') := fun p wx h0 h1 he => szMsg_le m v u p wx h0 h1 (hm.ext he)
  have HTA : Hid (m.certs.length ≤ 1048576 ∧ m.refs.length ≤ 1048576 → ∀ wx : World, Ext w wx → Calls Try.prog 34 #[magg m v u] wx fun e w' => ∃ a b, e = .returned (magg m (.slice a m.certs.length m.certs.length) (.slice b m.refs.length m.refs.length)) ∧ MLs w' (.slice a m.certs.length m.certs.length) (.slice b m.refs.length m.refs.length) m ∧ Ext wx w') := fun hl wx he => toMsg_any m v u wx (Hm.out.ext he) hl.1 hl.2
  have HSp : Hid (∀ (v1 u1 : Value) (wx : World), MLs wx v1 u1 m → Calls Try.prog 45 #[.int .i64 f, magg m v1 u1] wx fun e w' => e = .returned (.int .i64 (Msg.fault f m)) ∧ Ext wx w') := fun v1 u1 wx h1 => specMsgFault_any f m v1 u1 wx h1
  have HIm : Hid (∀ (v1 u1 : Value) (wx : World), MLs wx v1 u1 m → Calls Try.prog 46 #[.int .i64 f, magg m v1 u1] wx fun e w' => e = .returned (.int .i64 (Msg.fault f m)) ∧ Ext wx w') := fun v1 u1 wx h1 => implMsgFault_any f m v1 u1 wx h1
  have HEA : Hid (∀ (v1 u1 v2 u2 : Value) (wx : World), MLs wx v1 u1 m → MLs wx v2 u2 m → Calls Try.prog 37 #[magg m v1 u1, magg m v2 u2] wx fun e w' => e = .returned (.bool true) ∧ Ext wx w') := fun v1 u1 v2 u2 wx h1 h2 => eqMsg_same m v1 v2 u1 u2 wx h1 h2
  obtain ⟨a, c, a', c', rfl, rfl, -, -, -, -⟩ := hm.form
  clear hm
  generalize Msg.fault f m = R at *
  have hcc : (R != R) = false := by simp
  unfold magg at *
  go_enter Try.func11, Try.ntmps11
  go_wp2_with fail
  refine (HSz.out _ _ (by omega) (by omega) ((Ext.refl _).alloc _)).mono ?_
  rintro e w1 ⟨p, rfl, hp0, hp1, hp2, hb⟩
  have E1 : Hid (Ext w w1) := ((Ext.refl _).alloc _).trans hb
  have AN0 := (mbox_new w m (.slice a m.certs.length c) (.slice a' m.refs.length c') _).ext hb
  have AN : Hid (MBoxAt w1 w.heap.size m (.slice a m.certs.length c) (.slice a' m.refs.length c')) := by (try simp only [World.size_alloc] at AN0); exact AN0
  clear AN0
  clear hb 
  have AB := AN; clear AN
  have HP2 : Hid _ := hp2
  clear hp2
  by_cases hn : p < 0
  · go_wp2
    go_ret
    exact ⟨rfl, E1.out⟩
  have TA : Hid _ := HTA.out (HP2.out (by omega))
  clear HTA HP2
  obtain ⟨Alt, ⟨Ac0, Ac1, Ac2, Ac3, Ac4, Ac5, Ac6⟩, -, -, -, -, -, -, -⟩ := AB.out
  go_wp2_with fail
  refine (TA.out _ E1.out).mono ?_
  rintro e w2 ⟨a3, b3, rfl, hO, hb⟩
  have E2 : Hid (Ext w w2) := E1.out.trans hb
  have AN : Hid (MBoxAt w2 w.heap.size m (.slice a m.certs.length c) (.slice a' m.refs.length c')) := AB.out.ext hb
  clear hb AB E1 Alt Ac0 Ac1 Ac2 Ac3 Ac4 Ac5 Ac6
  have AB := AN; clear AN
  have PH : Hid (MLs w2 (.slice a3 m.certs.length m.certs.length) (.slice b3 m.refs.length m.refs.length) m) := hO
  clear hO
  go_wp2_with fail
  refine (HSp.out _ _ _ PH.out).mono ?_
  rintro e w3 ⟨rfl, hb⟩
  have E3 : Hid (Ext w w3) := E2.out.trans hb
  have AN : Hid (MBoxAt w3 w.heap.size m (.slice a m.certs.length c) (.slice a' m.refs.length c')) := AB.out.ext hb
  have PN : Hid (MLs w3 (.slice a3 m.certs.length m.certs.length) (.slice b3 m.refs.length m.refs.length) m) := PH.out.ext hb
  clear hb AB PH E2
  have AB := AN; clear AN
  have PH := PN; clear PN
  clear PH
  obtain ⟨Alt, ⟨Ac0, Ac1, Ac2, Ac3, Ac4, Ac5, Ac6⟩, -, -, -, -, -, -, -⟩ := AB.out
  go_wp2_with fail
  refine (TA.out _ E3.out).mono ?_
  rintro e w4 ⟨a6, b6, rfl, hO, hb⟩
  have E4 : Hid (Ext w w4) := E3.out.trans hb
  have AN : Hid (MBoxAt w4 w.heap.size m (.slice a m.certs.length c) (.slice a' m.refs.length c')) := AB.out.ext hb
  clear hb AB E3 Alt Ac0 Ac1 Ac2 Ac3 Ac4 Ac5 Ac6
  have AB := AN; clear AN
  have PH : Hid (MLs w4 (.slice a6 m.certs.length m.certs.length) (.slice b6 m.refs.length m.refs.length) m) := hO
  clear hO
  have hal := alloc_cell
  go_wp2_with fail
  refine (HIm.out _ _ _ (PH.out.ext ((Ext.refl _).alloc _))).mono ?_
  rintro e w5 ⟨rfl, hb⟩
  have E5 : Hid (Ext w w5) := (E4.out.alloc _).trans hb
  have AN : Hid (MBoxAt w5 w.heap.size m (.slice a m.certs.length c) (.slice a' m.refs.length c')) := AB.out.ext (((Ext.refl _).alloc _).trans hb)
  have PN : Hid (MLs w5 (.slice a6 m.certs.length m.certs.length) (.slice b6 m.refs.length m.refs.length) m) := PH.out.ext (((Ext.refl _).alloc _).trans hb)
  have XN0 := (mbox_new w4 m (.slice a6 m.certs.length m.certs.length) (.slice b6 m.refs.length m.refs.length) _).ext hb
  have XN : Hid (MBoxAt w5 w4.heap.size m (.slice a6 m.certs.length m.certs.length) (.slice b6 m.refs.length m.refs.length)) := by (try simp only [World.size_alloc] at XN0); exact XN0
  clear XN0
  clear hb AB PH E4 hal
  have AB := AN; clear AN
  have XB := XN; clear XN
  have PH := PN; clear PN
  obtain ⟨Altw5, ⟨Ac0w5, Ac1w5, Ac2w5, Ac3w5, Ac4w5, Ac5w5, Ac6w5⟩, -, -, -, -, -, -, -⟩ := AB.out
  obtain ⟨Xltw5, ⟨Xc0w5, Xc1w5, Xc2w5, Xc3w5, Xc4w5, Xc5w5, Xc6w5⟩, -, -, -, -, -, -, -⟩ := XB.out
  go_wp2
  go_region_held3 (fun W => W.cell? ⟨w.heap.size, 0, none⟩ = some (.int .i64 m.kind) ∧ W.cell? ⟨w.heap.size, 1, none⟩ = some (.int .i64 m.view) ∧ W.cell? ⟨w.heap.size, 2, none⟩ = some (.int .i64 m.from_) ∧ W.cell? ⟨w.heap.size, 3, none⟩ = some (.int .i64 m.slot) ∧ W.cell? ⟨w.heap.size, 4, none⟩ = some (.int .i64 m.value) ∧ W.cell? ⟨w.heap.size, 5, none⟩ = some ((.slice a m.certs.length c)) ∧ W.cell? ⟨w.heap.size, 6, none⟩ = some ((.slice a' m.refs.length c')) ∧ W.cell? ⟨w4.heap.size, 0, none⟩ = some (.int .i64 m.kind) ∧ W.cell? ⟨w4.heap.size, 1, none⟩ = some (.int .i64 m.view) ∧ W.cell? ⟨w4.heap.size, 2, none⟩ = some (.int .i64 m.from_) ∧ W.cell? ⟨w4.heap.size, 3, none⟩ = some (.int .i64 m.slot) ∧ W.cell? ⟨w4.heap.size, 4, none⟩ = some (.int .i64 m.value) ∧ W.cell? ⟨w4.heap.size, 5, none⟩ = some ((.slice a6 m.certs.length m.certs.length)) ∧ W.cell? ⟨w4.heap.size, 6, none⟩ = some ((.slice b6 m.refs.length m.refs.length))) (first | exact ⟨Ac0w5, Ac1w5, Ac2w5, Ac3w5, Ac4w5, Ac5w5, Ac6w5, Xc0w5, Xc1w5, Xc2w5, Xc3w5, Xc4w5, Xc5w5, Xc6w5⟩ | exact ⟨Ac0w6, Ac1w6, Ac2w6, Ac3w6, Ac4w6, Ac5w6, Ac6w6, Xc0w6, Xc1w6, Xc2w6, Xc3w6, Xc4w6, Xc5w6, Xc6w6⟩ | exact ⟨Ac0w7, Ac1w7, Ac2w7, Ac3w7, Ac4w7, Ac5w7, Ac6w7, Xc0w7, Xc1w7, Xc2w7, Xc3w7, Xc4w7, Xc5w7, Xc6w7⟩ | go_keep) (first | (have tk6 := E5; clear tk6; go_at_call 34; refine (TA.out _ (by first | exact E5.out.drew | exact E5.out)).mono ?_; rintro e w6 ⟨a9, b9, rfl, hO, hb⟩; have X6 : Hid (Ext w5 w6) := (by first | exact ((Ext.refl _).drew).trans hb | exact hb); have E6 : Hid (Ext w w6) := E5.out.trans X6.out; have AN : Hid (MBoxAt w6 w.heap.size m (.slice a m.certs.length c) (.slice a' m.refs.length c')) := AB.out.ext X6.out; have XN : Hid (MBoxAt w6 w4.heap.size m (.slice a6 m.certs.length m.certs.length) (.slice b6 m.refs.length m.refs.length)) := XB.out.ext X6.out; have PN : Hid (MLs w6 (.slice a6 m.certs.length m.certs.length) (.slice b6 m.refs.length m.refs.length) m) := PH.out.ext X6.out; have ZN : Hid (MLs w6 (.slice a9 m.certs.length m.certs.length) (.slice b9 m.refs.length m.refs.length) m) := hO; clear hO; clear hb X6 E5 AB XB PH Altw5 Xltw5 Ac0w5 Ac1w5 Ac2w5 Ac3w5 Ac4w5 Ac5w5 Ac6w5 Xc0w5 Xc1w5 Xc2w5 Xc3w5 Xc4w5 Xc5w5 Xc6w5; have AB := AN; clear AN; have XB := XN; clear XN; have PH := PN; clear PN; have ZH := ZN; clear ZN; obtain ⟨Altw6, ⟨Ac0w6, Ac1w6, Ac2w6, Ac3w6, Ac4w6, Ac5w6, Ac6w6⟩, -, -, -, -, -, -, -⟩ := AB.out; obtain ⟨Xltw6, ⟨Xc0w6, Xc1w6, Xc2w6, Xc3w6, Xc4w6, Xc5w6, Xc6w6⟩, -, -, -, -, -, -, -⟩ := XB.out) | (have tk7 := E6; clear tk7; go_at_call 37; refine (HEA.out _ _ _ _ _ (PH.out.ext (by first | exact (Ext.refl _).drew | exact Ext.refl _)) (ZH.out.ext (by first | exact (Ext.refl _).drew | exact Ext.refl _))).mono ?_; rintro e w7 ⟨rfl, hb⟩; have X7 : Hid (Ext w6 w7) := (by first | exact ((Ext.refl _).drew).trans hb | exact hb); have E7 : Hid (Ext w w7) := E6.out.trans X7.out; have AN : Hid (MBoxAt w7 w.heap.size m (.slice a m.certs.length c) (.slice a' m.refs.length c')) := AB.out.ext X7.out; have XN : Hid (MBoxAt w7 w4.heap.size m (.slice a6 m.certs.length m.certs.length) (.slice b6 m.refs.length m.refs.length)) := XB.out.ext X7.out; clear PH; clear ZH; clear hb X7 E6 AB XB Altw6 Xltw6 Ac0w6 Ac1w6 Ac2w6 Ac3w6 Ac4w6 Ac5w6 Ac6w6 Xc0w6 Xc1w6 Xc2w6 Xc3w6 Xc4w6 Xc5w6 Xc6w6; have AB := AN; clear AN; have XB := XN; clear XN; obtain ⟨Altw7, ⟨Ac0w7, Ac1w7, Ac2w7, Ac3w7, Ac4w7, Ac5w7, Ac6w7⟩, -, -, -, -, -, -, -⟩ := AB.out; obtain ⟨Xltw7, ⟨Xc0w7, Xc1w7, Xc2w7, Xc3w7, Xc4w7, Xc5w7, Xc6w7⟩, -, -, -, -, -, -, -⟩ := XB.out))
  go_wp2
  go_ret
  exact ⟨rfl, E7.out⟩
end Go.Proofs.Ythndkilcjgedjaa
