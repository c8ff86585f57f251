/- laws.FnExactMsgText answers true at every f and every message. -/
import Derived.Test.YtbjcfkelgnehaaaDoorTX5
import Derived.Test.YtbjcfkelgnehaaaDoorS4
import Derived.Deep.RegionHeld3
namespace Go.Proofs.YtbjcfkelgnehaaaDoor
open Go.RowKit
set_option maxHeartbeats 4000000 in
set_option maxRecDepth 100000 in
theorem lawMsgText (f : Int) (m : Ms) (v u : Value) (w : World) (ht : Tb w) (hm : MLs w v u m) :
    Calls Tryd.prog 3 #[.int .i64 f, magg m v u] w fun e w' => e = .returned (.bool true) ∧ Ext w w' := by
  have Hm : Hid (MLs w v u m) := hm
  have HSz : Hid (∀ (p : Int) (wx : World), 0 ≤ p → p ≤ 1048576 → Ext w wx → Calls Tryd.prog 5 #[magg m v u, .int .i64 p] wx fun e w' => ∃ q : Int, e = .returned (.int .i64 q) ∧ -1 ≤ q ∧ q ≤ 1048576 ∧ (0 ≤ q → m.certs.length ≤ 1048576 ∧ m.refs.length ≤ 1048576) ∧ Ext wx w') := fun p wx h0 h1 he => szMsg_le m v u p wx h0 h1 (hm.ext he)
  have HTA : Hid (m.certs.length ≤ 1048576 ∧ m.refs.length ≤ 1048576 → ∀ wx : World, Ext w wx → Calls Tryd.prog 7 #[magg m v u] wx fun e w' => ∃ a b, e = .returned (magg m (.slice a m.certs.length m.certs.length) (.slice b m.refs.length m.refs.length)) ∧ MLs w' (.slice a m.certs.length m.certs.length) (.slice b m.refs.length m.refs.length) m ∧ Ext wx w') := fun hl wx he => toMsg_any m v u wx (Hm.out.ext he) hl.1 hl.2
  have HSp : Hid (∀ (v1 u1 : Value) (wx : World), MLs wx v1 u1 m → Calls Tryd.prog 6 #[.int .i64 f, magg m v1 u1] wx fun e w' => e = .returned (tr (Msg.textV f m)) ∧ Ext wx w') := fun v1 u1 wx h1 => specMsgText_any f m v1 u1 wx h1
  have HIm : Hid (∀ (v1 u1 : Value) (wx : World), Ext w wx → MLs wx v1 u1 m → Calls Tryd.prog 8 #[.int .i64 f, magg m v1 u1] wx fun e w' => e = .returned (tr (Msg.textV f m)) ∧ Ext wx w') := fun v1 u1 wx he h1 => implMsgText_any f m v1 u1 wx h1 (ht.ext he)
  have HEA : Hid (∀ (v1 u1 v2 u2 : Value) (wx : World), MLs wx v1 u1 m → MLs wx v2 u2 m → Calls Tryd.prog 10 #[magg m v1 u1, magg m v2 u2] wx fun e w' => e = .returned (.bool true) ∧ Ext wx w') := fun v1 u1 v2 u2 wx h1 h2 => eqMsg_same m v1 v2 u1 u2 wx h1 h2
  have HQ : Hid (∀ wx : World, Calls Tryd.prog 9 #[tr (Msg.textV f m), tr (Msg.textV f m)] wx fun e w' => e = .returned (.bool true) ∧ Ext wx w') := eqText_any (Msg.textV f m)
  obtain ⟨a, c, a', c', rfl, rfl, -, -, -, -⟩ := hm.form
  clear hm ht
  generalize Msg.textV f m = x at *
  obtain ⟨cd, l⟩ := x
  unfold tr at *
  unfold magg at *
  simp only at *
  generalize mkB l = sx at *
  go_enter Tryd.func3, Tryd.ntmps3
  go_wp2_with fail
  refine (HSz.out _ _ (by omega) (by omega) ((Ext.refl _).alloc _)).mono ?_
  rintro e w1 ⟨p, rfl, hp0, hp1, hp2, hb⟩
  have E1 : Hid (Ext w w1) := ((Ext.refl _).alloc _).trans hb
  have AN0 := (mbox_new w m (.slice a m.certs.length c) (.slice a' m.refs.length c') _).ext hb
  have AN : Hid (MBoxAt w1 w.heap.size m (.slice a m.certs.length c) (.slice a' m.refs.length c')) := by (try simp only [World.size_alloc] at AN0); exact AN0
  clear AN0
  clear hb 
  have AB := AN; clear AN
  have HP2 : Hid _ := hp2
  clear hp2
  by_cases hn : p < 0
  · go_wp2
    go_ret
    exact ⟨rfl, E1.out⟩
  have TA : Hid _ := HTA.out (HP2.out (by omega))
  clear HTA HP2
  obtain ⟨Alt, ⟨Ac0, Ac1, Ac2, Ac3, Ac4, Ac5, Ac6⟩, -, -, -, -, -, -, -⟩ := AB.out
  go_wp2_with fail
  refine (TA.out _ E1.out).mono ?_
  rintro e w2 ⟨a3, b3, rfl, hO, hb⟩
  have E2 : Hid (Ext w w2) := E1.out.trans hb
  have AN : Hid (MBoxAt w2 w.heap.size m (.slice a m.certs.length c) (.slice a' m.refs.length c')) := AB.out.ext hb
  clear hb AB E1 Alt Ac0 Ac1 Ac2 Ac3 Ac4 Ac5 Ac6
  have AB := AN; clear AN
  have PH : Hid (MLs w2 (.slice a3 m.certs.length m.certs.length) (.slice b3 m.refs.length m.refs.length) m) := hO
  clear hO
  go_wp2_with fail
  refine (HSp.out _ _ _ PH.out).mono ?_
  rintro e w3 ⟨rfl, hb⟩
  have E3 : Hid (Ext w w3) := E2.out.trans hb
  have AN : Hid (MBoxAt w3 w.heap.size m (.slice a m.certs.length c) (.slice a' m.refs.length c')) := AB.out.ext hb
  have PN : Hid (MLs w3 (.slice a3 m.certs.length m.certs.length) (.slice b3 m.refs.length m.refs.length) m) := PH.out.ext hb
  clear hb AB PH E2
  have AB := AN; clear AN
  have PH := PN; clear PN
  clear PH
  obtain ⟨Alt, ⟨Ac0, Ac1, Ac2, Ac3, Ac4, Ac5, Ac6⟩, -, -, -, -, -, -, -⟩ := AB.out
  have hal := alloc_cell
  go_wp2_with fail
  refine (TA.out _ (E3.out.alloc _)).mono ?_
  rintro e w4 ⟨a6, b6, rfl, hO, hb⟩
  have E4 : Hid (Ext w w4) := (E3.out.alloc _).trans hb
  have AN : Hid (MBoxAt w4 w.heap.size m (.slice a m.certs.length c) (.slice a' m.refs.length c')) := AB.out.ext (((Ext.refl _).alloc _).trans hb)
  have VN0 := (tbox_new w3 cd sx _).ext hb
  have VN : Hid (TBoxAt w4 w3.heap.size cd sx) := by (try simp only [World.size_alloc] at VN0); exact VN0
  clear VN0
  clear hb AB E3 Alt Ac0 Ac1 Ac2 Ac3 Ac4 Ac5 Ac6 hal
  have AB := AN; clear AN
  have VB := VN; clear VN
  have PH : Hid (MLs w4 (.slice a6 m.certs.length m.certs.length) (.slice b6 m.refs.length m.refs.length) m) := hO
  clear hO
  have hal := alloc_cell
  go_wp2_with fail
  refine (HIm.out _ _ _ (E4.out.alloc _) (PH.out.ext ((Ext.refl _).alloc _))).mono ?_
  rintro e w5 ⟨rfl, hb⟩
  have E5 : Hid (Ext w w5) := (E4.out.alloc _).trans hb
  have AN : Hid (MBoxAt w5 w.heap.size m (.slice a m.certs.length c) (.slice a' m.refs.length c')) := AB.out.ext (((Ext.refl _).alloc _).trans hb)
  have VN : Hid (TBoxAt w5 w3.heap.size cd sx) := VB.out.ext (((Ext.refl _).alloc _).trans hb)
  have PN : Hid (MLs w5 (.slice a6 m.certs.length m.certs.length) (.slice b6 m.refs.length m.refs.length) m) := PH.out.ext (((Ext.refl _).alloc _).trans hb)
  have XN0 := (mbox_new w4 m (.slice a6 m.certs.length m.certs.length) (.slice b6 m.refs.length m.refs.length) _).ext hb
  have XN : Hid (MBoxAt w5 w4.heap.size m (.slice a6 m.certs.length m.certs.length) (.slice b6 m.refs.length m.refs.length)) := by (try simp only [World.size_alloc] at XN0); exact XN0
  clear XN0
  clear hb AB VB PH E4 hal
  have AB := AN; clear AN
  have VB := VN; clear VN
  have XB := XN; clear XN
  have PH := PN; clear PN
  obtain ⟨Vlt, Vc0, Vc1, -, -⟩ := VB.out
  have hal := alloc_cell
  go_wp2_with fail
  refine (HQ.out _).mono ?_
  rintro e w6 ⟨rfl, hb⟩
  have E6 : Hid (Ext w w6) := (E5.out.alloc _).trans hb
  have AN : Hid (MBoxAt w6 w.heap.size m (.slice a m.certs.length c) (.slice a' m.refs.length c')) := AB.out.ext (((Ext.refl _).alloc _).trans hb)
  have VN : Hid (TBoxAt w6 w3.heap.size cd sx) := VB.out.ext (((Ext.refl _).alloc _).trans hb)
  have XN : Hid (MBoxAt w6 w4.heap.size m (.slice a6 m.certs.length m.certs.length) (.slice b6 m.refs.length m.refs.length)) := XB.out.ext (((Ext.refl _).alloc _).trans hb)
  have PN : Hid (MLs w6 (.slice a6 m.certs.length m.certs.length) (.slice b6 m.refs.length m.refs.length) m) := PH.out.ext (((Ext.refl _).alloc _).trans hb)
  have YN0 := (tbox_new w5 cd sx _).ext hb
  have YN : Hid (TBoxAt w6 w5.heap.size cd sx) := by (try simp only [World.size_alloc] at YN0); exact YN0
  clear YN0
  clear hb AB VB XB PH E5 Vlt Vc0 Vc1 hal
  have AB := AN; clear AN
  have VB := VN; clear VN
  have XB := XN; clear XN
  have YB := YN; clear YN
  have PH := PN; clear PN
  obtain ⟨Altw6, ⟨Ac0w6, Ac1w6, Ac2w6, Ac3w6, Ac4w6, Ac5w6, Ac6w6⟩, -, -, -, -, -, -, -⟩ := AB.out
  obtain ⟨Xltw6, ⟨Xc0w6, Xc1w6, Xc2w6, Xc3w6, Xc4w6, Xc5w6, Xc6w6⟩, -, -, -, -, -, -, -⟩ := XB.out
  go_wp2
  go_region_held3 (fun W => W.cell? ⟨w.heap.size, 0, none⟩ = some (.int .i64 m.kind) ∧ W.cell? ⟨w.heap.size, 1, none⟩ = some (.int .i64 m.view) ∧ W.cell? ⟨w.heap.size, 2, none⟩ = some (.int .i64 m.from_) ∧ W.cell? ⟨w.heap.size, 3, none⟩ = some (.int .i64 m.slot) ∧ W.cell? ⟨w.heap.size, 4, none⟩ = some (.int .i64 m.value) ∧ W.cell? ⟨w.heap.size, 5, none⟩ = some ((.slice a m.certs.length c)) ∧ W.cell? ⟨w.heap.size, 6, none⟩ = some ((.slice a' m.refs.length c')) ∧ W.cell? ⟨w4.heap.size, 0, none⟩ = some (.int .i64 m.kind) ∧ W.cell? ⟨w4.heap.size, 1, none⟩ = some (.int .i64 m.view) ∧ W.cell? ⟨w4.heap.size, 2, none⟩ = some (.int .i64 m.from_) ∧ W.cell? ⟨w4.heap.size, 3, none⟩ = some (.int .i64 m.slot) ∧ W.cell? ⟨w4.heap.size, 4, none⟩ = some (.int .i64 m.value) ∧ W.cell? ⟨w4.heap.size, 5, none⟩ = some ((.slice a6 m.certs.length m.certs.length)) ∧ W.cell? ⟨w4.heap.size, 6, none⟩ = some ((.slice b6 m.refs.length m.refs.length))) (first | exact ⟨Ac0w6, Ac1w6, Ac2w6, Ac3w6, Ac4w6, Ac5w6, Ac6w6, Xc0w6, Xc1w6, Xc2w6, Xc3w6, Xc4w6, Xc5w6, Xc6w6⟩ | exact ⟨Ac0w7, Ac1w7, Ac2w7, Ac3w7, Ac4w7, Ac5w7, Ac6w7, Xc0w7, Xc1w7, Xc2w7, Xc3w7, Xc4w7, Xc5w7, Xc6w7⟩ | exact ⟨Ac0w8, Ac1w8, Ac2w8, Ac3w8, Ac4w8, Ac5w8, Ac6w8, Xc0w8, Xc1w8, Xc2w8, Xc3w8, Xc4w8, Xc5w8, Xc6w8⟩ | go_keep) (first | (have tk7 := E6; clear tk7; go_at_call 7; refine (TA.out _ (by first | exact E6.out.drew | exact E6.out)).mono ?_; rintro e w7 ⟨a9, b9, rfl, hO, hb⟩; have X7 : Hid (Ext w6 w7) := (by first | exact ((Ext.refl _).drew).trans hb | exact hb); have E7 : Hid (Ext w w7) := E6.out.trans X7.out; have AN : Hid (MBoxAt w7 w.heap.size m (.slice a m.certs.length c) (.slice a' m.refs.length c')) := AB.out.ext X7.out; have VN : Hid (TBoxAt w7 w3.heap.size cd sx) := VB.out.ext X7.out; have XN : Hid (MBoxAt w7 w4.heap.size m (.slice a6 m.certs.length m.certs.length) (.slice b6 m.refs.length m.refs.length)) := XB.out.ext X7.out; have YN : Hid (TBoxAt w7 w5.heap.size cd sx) := YB.out.ext X7.out; have PN : Hid (MLs w7 (.slice a6 m.certs.length m.certs.length) (.slice b6 m.refs.length m.refs.length) m) := PH.out.ext X7.out; have ZN : Hid (MLs w7 (.slice a9 m.certs.length m.certs.length) (.slice b9 m.refs.length m.refs.length) m) := hO; clear hO; clear hb X7 E6 AB VB XB YB PH Altw6 Xltw6 Ac0w6 Ac1w6 Ac2w6 Ac3w6 Ac4w6 Ac5w6 Ac6w6 Xc0w6 Xc1w6 Xc2w6 Xc3w6 Xc4w6 Xc5w6 Xc6w6; have AB := AN; clear AN; have VB := VN; clear VN; have XB := XN; clear XN; have YB := YN; clear YN; have PH := PN; clear PN; have ZH := ZN; clear ZN; obtain ⟨Altw7, ⟨Ac0w7, Ac1w7, Ac2w7, Ac3w7, Ac4w7, Ac5w7, Ac6w7⟩, -, -, -, -, -, -, -⟩ := AB.out; obtain ⟨Xltw7, ⟨Xc0w7, Xc1w7, Xc2w7, Xc3w7, Xc4w7, Xc5w7, Xc6w7⟩, -, -, -, -, -, -, -⟩ := XB.out) | (have tk8 := E7; clear tk8; go_at_call 10; refine (HEA.out _ _ _ _ _ (PH.out.ext (by first | exact (Ext.refl _).drew | exact Ext.refl _)) (ZH.out.ext (by first | exact (Ext.refl _).drew | exact Ext.refl _))).mono ?_; rintro e w8 ⟨rfl, hb⟩; have X8 : Hid (Ext w7 w8) := (by first | exact ((Ext.refl _).drew).trans hb | exact hb); have E8 : Hid (Ext w w8) := E7.out.trans X8.out; have AN : Hid (MBoxAt w8 w.heap.size m (.slice a m.certs.length c) (.slice a' m.refs.length c')) := AB.out.ext X8.out; have VN : Hid (TBoxAt w8 w3.heap.size cd sx) := VB.out.ext X8.out; have XN : Hid (MBoxAt w8 w4.heap.size m (.slice a6 m.certs.length m.certs.length) (.slice b6 m.refs.length m.refs.length)) := XB.out.ext X8.out; have YN : Hid (TBoxAt w8 w5.heap.size cd sx) := YB.out.ext X8.out; clear PH; clear ZH; clear hb X8 E7 AB VB XB YB Altw7 Xltw7 Ac0w7 Ac1w7 Ac2w7 Ac3w7 Ac4w7 Ac5w7 Ac6w7 Xc0w7 Xc1w7 Xc2w7 Xc3w7 Xc4w7 Xc5w7 Xc6w7; have AB := AN; clear AN; have VB := VN; clear VN; have XB := XN; clear XN; have YB := YN; clear YN; obtain ⟨Altw8, ⟨Ac0w8, Ac1w8, Ac2w8, Ac3w8, Ac4w8, Ac5w8, Ac6w8⟩, -, -, -, -, -, -, -⟩ := AB.out; obtain ⟨Xltw8, ⟨Xc0w8, Xc1w8, Xc2w8, Xc3w8, Xc4w8, Xc5w8, Xc6w8⟩, -, -, -, -, -, -, -⟩ := XB.out))
  go_wp2
  go_ret
  exact ⟨rfl, E8.out⟩
end Go.Proofs.YtbjcfkelgnehaaaDoor
