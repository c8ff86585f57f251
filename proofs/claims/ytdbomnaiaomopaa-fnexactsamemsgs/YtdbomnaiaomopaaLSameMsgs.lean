/- laws.FnExactSameMsgs answers true at every two messages. -/
import Derived.Test.YtdbomnaiaomopaaH4
import Derived.Deep.RegionHeld3
namespace Go.Proofs.Ytdbomnaiaomopaa
open Go.RowKit
set_option maxHeartbeats 4000000 in
set_option maxRecDepth 100000 in
theorem lawSameMsgs (m : Ms) (v u : Value) (n : Ms) (x y : Value) (w : World) (hm : MLs w v u m) (hn : MLs w x y n) :
    Calls Try.prog 3 #[magg m v u, magg n x y] w fun e w' => e = .returned (.bool true) ∧ Ext w w' := by
  have Hm : Hid (MLs w v u m) := hm
  have Hn : Hid (MLs w x y n) := hn
  have HSz : Hid (∀ (p : Int) (wx : World), 0 ≤ p → p ≤ 1048576 → Ext w wx → Calls Try.prog 8 #[magg m v u, .int .i64 p] wx fun e w' => ∃ q : Int, e = .returned (.int .i64 q) ∧ -1 ≤ q ∧ q ≤ 1048576 ∧ (0 ≤ q → m.certs.length ≤ 1048576 ∧ m.refs.length ≤ 1048576) ∧ Ext wx w') := fun p wx h0 h1 he => szMsg_le m v u p wx h0 h1 (hm.ext he)
  have HSy : Hid (∀ (p : Int) (wx : World), 0 ≤ p → p ≤ 1048576 → Ext w wx → Calls Try.prog 8 #[magg n x y, .int .i64 p] wx fun e w' => ∃ q : Int, e = .returned (.int .i64 q) ∧ -1 ≤ q ∧ q ≤ 1048576 ∧ (0 ≤ q → n.certs.length ≤ 1048576 ∧ n.refs.length ≤ 1048576) ∧ Ext wx w') := fun p wx h0 h1 he => szMsg_le n x y p wx h0 h1 (hn.ext he)
  have HTA : Hid (m.certs.length ≤ 1048576 ∧ m.refs.length ≤ 1048576 → ∀ wx : World, Ext w wx → Calls Try.prog 10 #[magg m v u] wx fun e w' => ∃ a b, e = .returned (magg m (.slice a m.certs.length m.certs.length) (.slice b m.refs.length m.refs.length)) ∧ MLs w' (.slice a m.certs.length m.certs.length) (.slice b m.refs.length m.refs.length) m ∧ Ext wx w') := fun hl wx he => toMsg_any m v u wx (Hm.out.ext he) hl.1 hl.2
  have HTB : Hid (n.certs.length ≤ 1048576 ∧ n.refs.length ≤ 1048576 → ∀ wx : World, Ext w wx → Calls Try.prog 10 #[magg n x y] wx fun e w' => ∃ a b, e = .returned (magg n (.slice a n.certs.length n.certs.length) (.slice b n.refs.length n.refs.length)) ∧ MLs w' (.slice a n.certs.length n.certs.length) (.slice b n.refs.length n.refs.length) n ∧ Ext wx w') := fun hl wx he => toMsg_any n x y wx (Hn.out.ext he) hl.1 hl.2
  have HSp : Hid (∀ (v1 u1 v2 u2 : Value) (wx : World), MLs wx v1 u1 m → MLs wx v2 u2 n → Calls Try.prog 9 #[magg m v1 u1, magg n v2 u2] wx fun e w' => e = .returned (.bool (Msg.sameM m n)) ∧ Ext wx w') := fun v1 u1 v2 u2 wx h1 h2 => specSameMsgs_any m n v1 u1 v2 u2 wx h1 h2
  have HIm : Hid (∀ (v1 u1 v2 u2 : Value) (wx : World), MLs wx v1 u1 m → MLs wx v2 u2 n → Calls Try.prog 11 #[magg m v1 u1, magg n v2 u2] wx fun e w' => e = .returned (.bool (Msg.sameM m n)) ∧ Ext wx w') := fun v1 u1 v2 u2 wx h1 h2 => implSameMsgs_any m n v1 u1 v2 u2 wx h1 h2
  have HEA : Hid (∀ (v1 u1 v2 u2 : Value) (wx : World), MLs wx v1 u1 m → MLs wx v2 u2 m → Calls Try.prog 12 #[magg m v1 u1, magg m v2 u2] wx fun e w' => e = .returned (.bool true) ∧ Ext wx w') := fun v1 u1 v2 u2 wx h1 h2 => eqMsg_same m v1 v2 u1 u2 wx h1 h2
  have HEB : Hid (∀ (v1 u1 v2 u2 : Value) (wx : World), MLs wx v1 u1 n → MLs wx v2 u2 n → Calls Try.prog 12 #[magg n v1 u1, magg n v2 u2] wx fun e w' => e = .returned (.bool true) ∧ Ext wx w') := fun v1 u1 v2 u2 wx h1 h2 => eqMsg_same n v1 v2 u1 u2 wx h1 h2
  obtain ⟨a, c, a', c', rfl, rfl, -, -, -, -⟩ := hm.form
  obtain ⟨b, d, b', d', rfl, rfl, -, -, -, -⟩ := hn.form
  clear hm hn
  generalize Msg.sameM m n = R at *
  unfold magg at *
  go_enter Try.func3, Try.ntmps3
  go_wp2_with fail
  refine (HSz.out _ _ (by omega) (by omega) (((Ext.refl _).alloc _).alloc _)).mono ?_
  rintro e w1 ⟨p, rfl, hp0, hp1, hp2, hb⟩
  have E1 : Hid (Ext w w1) := (((Ext.refl _).alloc _).alloc _).trans hb
  have AN0 := (mbox_new w m (.slice a m.certs.length c) (.slice a' m.refs.length c') _).ext (((Ext.refl _).alloc _).trans hb)
  have AN : Hid (MBoxAt w1 w.heap.size m (.slice a m.certs.length c) (.slice a' m.refs.length c')) := by (try simp only [World.size_alloc] at AN0); exact AN0
  clear AN0
  have BN0 := (mbox_new (w.alloc _) n (.slice b n.certs.length d) (.slice b' n.refs.length d') _).ext hb
  have BN : Hid (MBoxAt w1 (w.heap.size + 1) n (.slice b n.certs.length d) (.slice b' n.refs.length d')) := by (try simp only [World.size_alloc] at BN0); exact BN0
  clear BN0
  clear hb 
  have AB := AN; clear AN
  have BB := BN; clear BN
  have HP2 : Hid _ := hp2
  clear hp2
  by_cases hn : p < 0
  · go_wp2
    go_ret
    exact ⟨rfl, E1.out⟩
  have TA : Hid _ := HTA.out (HP2.out (by omega))
  clear HTA HP2
  obtain ⟨Blt, ⟨Bc0, Bc1, Bc2, Bc3, Bc4, Bc5, Bc6⟩, -, -, -, -, -, -, -⟩ := BB.out
  go_wp2_with fail
  refine (HSy.out _ _ (by omega) (by omega) E1.out).mono ?_
  rintro e w2 ⟨p2, rfl, hp20, hp21, hp22, hb⟩
  have E2 : Hid (Ext w w2) := E1.out.trans hb
  have AN : Hid (MBoxAt w2 w.heap.size m (.slice a m.certs.length c) (.slice a' m.refs.length c')) := AB.out.ext hb
  have BN : Hid (MBoxAt w2 (w.heap.size + 1) n (.slice b n.certs.length d) (.slice b' n.refs.length d')) := BB.out.ext hb
  clear hb AB BB E1 Blt Bc0 Bc1 Bc2 Bc3 Bc4 Bc5 Bc6
  have AB := AN; clear AN
  have BB := BN; clear BN
  have HP2 : Hid _ := hp22
  clear hp22
  by_cases hn2 : p2 < 0
  · go_wp2
    go_ret
    exact ⟨rfl, E2.out⟩
  have TB : Hid _ := HTB.out (HP2.out (by omega))
  clear HTB HP2
  obtain ⟨Altw2, ⟨Ac0w2, Ac1w2, Ac2w2, Ac3w2, Ac4w2, Ac5w2, Ac6w2⟩, -, -, -, -, -, -, -⟩ := AB.out
  obtain ⟨Bltw2, ⟨Bc0w2, Bc1w2, Bc2w2, Bc3w2, Bc4w2, Bc5w2, Bc6w2⟩, -, -, -, -, -, -, -⟩ := BB.out
  go_wp2
  go_region_held3 (fun W => W.cell? ⟨w.heap.size, 0, none⟩ = some (.int .i64 m.kind) ∧ W.cell? ⟨w.heap.size, 1, none⟩ = some (.int .i64 m.view) ∧ W.cell? ⟨w.heap.size, 2, none⟩ = some (.int .i64 m.from_) ∧ W.cell? ⟨w.heap.size, 3, none⟩ = some (.int .i64 m.slot) ∧ W.cell? ⟨w.heap.size, 4, none⟩ = some (.int .i64 m.value) ∧ W.cell? ⟨w.heap.size, 5, none⟩ = some ((.slice a m.certs.length c)) ∧ W.cell? ⟨w.heap.size, 6, none⟩ = some ((.slice a' m.refs.length c')) ∧ W.cell? ⟨(w.heap.size + 1), 0, none⟩ = some (.int .i64 n.kind) ∧ W.cell? ⟨(w.heap.size + 1), 1, none⟩ = some (.int .i64 n.view) ∧ W.cell? ⟨(w.heap.size + 1), 2, none⟩ = some (.int .i64 n.from_) ∧ W.cell? ⟨(w.heap.size + 1), 3, none⟩ = some (.int .i64 n.slot) ∧ W.cell? ⟨(w.heap.size + 1), 4, none⟩ = some (.int .i64 n.value) ∧ W.cell? ⟨(w.heap.size + 1), 5, none⟩ = some ((.slice b n.certs.length d)) ∧ W.cell? ⟨(w.heap.size + 1), 6, none⟩ = some ((.slice b' n.refs.length d'))) (first | exact ⟨Ac0w2, Ac1w2, Ac2w2, Ac3w2, Ac4w2, Ac5w2, Ac6w2, Bc0w2, Bc1w2, Bc2w2, Bc3w2, Bc4w2, Bc5w2, Bc6w2⟩ | exact ⟨Ac0w3, Ac1w3, Ac2w3, Ac3w3, Ac4w3, Ac5w3, Ac6w3, Bc0w3, Bc1w3, Bc2w3, Bc3w3, Bc4w3, Bc5w3, Bc6w3⟩ | exact ⟨Ac0w4, Ac1w4, Ac2w4, Ac3w4, Ac4w4, Ac5w4, Ac6w4, Bc0w4, Bc1w4, Bc2w4, Bc3w4, Bc4w4, Bc5w4, Bc6w4⟩ | exact ⟨Ac0w5, Ac1w5, Ac2w5, Ac3w5, Ac4w5, Ac5w5, Ac6w5, Bc0w5, Bc1w5, Bc2w5, Bc3w5, Bc4w5, Bc5w5, Bc6w5⟩ | go_keep) (first | (have tk3 := E2; clear tk3; go_at_call 10; refine (TA.out _ (by first | exact E2.out.drew | exact E2.out)).mono ?_; rintro e w3 ⟨a3, b3, rfl, hO, hb⟩; have X3 : Hid (Ext w2 w3) := (by first | exact ((Ext.refl _).drew).trans hb | exact hb); have E3 : Hid (Ext w w3) := E2.out.trans X3.out; have AN : Hid (MBoxAt w3 w.heap.size m (.slice a m.certs.length c) (.slice a' m.refs.length c')) := AB.out.ext X3.out; have BN : Hid (MBoxAt w3 (w.heap.size + 1) n (.slice b n.certs.length d) (.slice b' n.refs.length d')) := BB.out.ext X3.out; have PN : Hid (MLs w3 (.slice a3 m.certs.length m.certs.length) (.slice b3 m.refs.length m.refs.length) m) := hO; clear hO; clear hb X3 E2 AB BB Altw2 Bltw2 Ac0w2 Ac1w2 Ac2w2 Ac3w2 Ac4w2 Ac5w2 Ac6w2 Bc0w2 Bc1w2 Bc2w2 Bc3w2 Bc4w2 Bc5w2 Bc6w2; have AB := AN; clear AN; have BB := BN; clear BN; have PH := PN; clear PN; obtain ⟨Altw3, ⟨Ac0w3, Ac1w3, Ac2w3, Ac3w3, Ac4w3, Ac5w3, Ac6w3⟩, -, -, -, -, -, -, -⟩ := AB.out; obtain ⟨Bltw3, ⟨Bc0w3, Bc1w3, Bc2w3, Bc3w3, Bc4w3, Bc5w3, Bc6w3⟩, -, -, -, -, -, -, -⟩ := BB.out) | (have tk4 := E3; clear tk4; go_at_call 10; refine (TB.out _ (by first | exact E3.out.drew | exact E3.out)).mono ?_; rintro e w4 ⟨a4, b4, rfl, hO, hb⟩; have X4 : Hid (Ext w3 w4) := (by first | exact ((Ext.refl _).drew).trans hb | exact hb); have E4 : Hid (Ext w w4) := E3.out.trans X4.out; have AN : Hid (MBoxAt w4 w.heap.size m (.slice a m.certs.length c) (.slice a' m.refs.length c')) := AB.out.ext X4.out; have BN : Hid (MBoxAt w4 (w.heap.size + 1) n (.slice b n.certs.length d) (.slice b' n.refs.length d')) := BB.out.ext X4.out; have PN : Hid (MLs w4 (.slice a3 m.certs.length m.certs.length) (.slice b3 m.refs.length m.refs.length) m) := PH.out.ext X4.out; have QN : Hid (MLs w4 (.slice a4 n.certs.length n.certs.length) (.slice b4 n.refs.length n.refs.length) n) := hO; clear hO; clear hb X4 E3 AB BB PH Altw3 Bltw3 Ac0w3 Ac1w3 Ac2w3 Ac3w3 Ac4w3 Ac5w3 Ac6w3 Bc0w3 Bc1w3 Bc2w3 Bc3w3 Bc4w3 Bc5w3 Bc6w3; have AB := AN; clear AN; have BB := BN; clear BN; have PH := PN; clear PN; have QH := QN; clear QN; obtain ⟨Altw4, ⟨Ac0w4, Ac1w4, Ac2w4, Ac3w4, Ac4w4, Ac5w4, Ac6w4⟩, -, -, -, -, -, -, -⟩ := AB.out; obtain ⟨Bltw4, ⟨Bc0w4, Bc1w4, Bc2w4, Bc3w4, Bc4w4, Bc5w4, Bc6w4⟩, -, -, -, -, -, -, -⟩ := BB.out) | (have tk5 := E4; clear tk5; go_at_call 9; refine (HSp.out _ _ _ _ _ (PH.out.ext (by first | exact (Ext.refl _).drew | exact Ext.refl _)) (QH.out.ext (by first | exact (Ext.refl _).drew | exact Ext.refl _))).mono ?_; rintro e w5 ⟨rfl, hb⟩; have X5 : Hid (Ext w4 w5) := (by first | exact ((Ext.refl _).drew).trans hb | exact hb); have E5 : Hid (Ext w w5) := E4.out.trans X5.out; have AN : Hid (MBoxAt w5 w.heap.size m (.slice a m.certs.length c) (.slice a' m.refs.length c')) := AB.out.ext X5.out; have BN : Hid (MBoxAt w5 (w.heap.size + 1) n (.slice b n.certs.length d) (.slice b' n.refs.length d')) := BB.out.ext X5.out; clear PH; clear QH; clear hb X5 E4 AB BB Altw4 Bltw4 Ac0w4 Ac1w4 Ac2w4 Ac3w4 Ac4w4 Ac5w4 Ac6w4 Bc0w4 Bc1w4 Bc2w4 Bc3w4 Bc4w4 Bc5w4 Bc6w4; have AB := AN; clear AN; have BB := BN; clear BN; obtain ⟨Altw5, ⟨Ac0w5, Ac1w5, Ac2w5, Ac3w5, Ac4w5, Ac5w5, Ac6w5⟩, -, -, -, -, -, -, -⟩ := AB.out; obtain ⟨Bltw5, ⟨Bc0w5, Bc1w5, Bc2w5, Bc3w5, Bc4w5, Bc5w5, Bc6w5⟩, -, -, -, -, -, -, -⟩ := BB.out))
  obtain ⟨Alt, ⟨Ac0, Ac1, Ac2, Ac3, Ac4, Ac5, Ac6⟩, -, -, -, -, -, -, -⟩ := AB.out
  go_wp2_with fail
  refine (TA.out _ E5.out).mono ?_
  rintro e w6 ⟨a6, b6, rfl, hO, hb⟩
  have E6 : Hid (Ext w w6) := E5.out.trans hb
  have AN : Hid (MBoxAt w6 w.heap.size m (.slice a m.certs.length c) (.slice a' m.refs.length c')) := AB.out.ext hb
  have BN : Hid (MBoxAt w6 (w.heap.size + 1) n (.slice b n.certs.length d) (.slice b' n.refs.length d')) := BB.out.ext hb
  clear hb AB BB E5 Alt Ac0 Ac1 Ac2 Ac3 Ac4 Ac5 Ac6
  have AB := AN; clear AN
  have BB := BN; clear BN
  have PH : Hid (MLs w6 (.slice a6 m.certs.length m.certs.length) (.slice b6 m.refs.length m.refs.length) m) := hO
  clear hO
  obtain ⟨Blt, ⟨Bc0, Bc1, Bc2, Bc3, Bc4, Bc5, Bc6⟩, -, -, -, -, -, -, -⟩ := BB.out
  have hal := alloc_cell
  go_wp2_with fail
  refine (TB.out _ (E6.out.alloc _)).mono ?_
  rintro e w7 ⟨a7, b7, rfl, hO, hb⟩
  have E7 : Hid (Ext w w7) := (E6.out.alloc _).trans hb
  have AN : Hid (MBoxAt w7 w.heap.size m (.slice a m.certs.length c) (.slice a' m.refs.length c')) := AB.out.ext (((Ext.refl _).alloc _).trans hb)
  have BN : Hid (MBoxAt w7 (w.heap.size + 1) n (.slice b n.certs.length d) (.slice b' n.refs.length d')) := BB.out.ext (((Ext.refl _).alloc _).trans hb)
  have PN : Hid (MLs w7 (.slice a6 m.certs.length m.certs.length) (.slice b6 m.refs.length m.refs.length) m) := PH.out.ext (((Ext.refl _).alloc _).trans hb)
  have XN0 := (mbox_new w6 m (.slice a6 m.certs.length m.certs.length) (.slice b6 m.refs.length m.refs.length) _).ext hb
  have XN : Hid (MBoxAt w7 w6.heap.size m (.slice a6 m.certs.length m.certs.length) (.slice b6 m.refs.length m.refs.length)) := by (try simp only [World.size_alloc] at XN0); exact XN0
  clear XN0
  clear hb AB BB PH E6 Blt Bc0 Bc1 Bc2 Bc3 Bc4 Bc5 Bc6 hal
  have AB := AN; clear AN
  have BB := BN; clear BN
  have XB := XN; clear XN
  have PH := PN; clear PN
  have QH : Hid (MLs w7 (.slice a7 n.certs.length n.certs.length) (.slice b7 n.refs.length n.refs.length) n) := hO
  clear hO
  obtain ⟨Xlt, ⟨Xc0, Xc1, Xc2, Xc3, Xc4, Xc5, Xc6⟩, -, -, -, -, -, -, -⟩ := XB.out
  have hal := alloc_cell
  go_wp2_with fail
  refine (HIm.out _ _ _ _ _ (PH.out.ext ((Ext.refl _).alloc _)) (QH.out.ext ((Ext.refl _).alloc _))).mono ?_
  rintro e w8 ⟨rfl, hb⟩
  have E8 : Hid (Ext w w8) := (E7.out.alloc _).trans hb
  have AN : Hid (MBoxAt w8 w.heap.size m (.slice a m.certs.length c) (.slice a' m.refs.length c')) := AB.out.ext (((Ext.refl _).alloc _).trans hb)
  have BN : Hid (MBoxAt w8 (w.heap.size + 1) n (.slice b n.certs.length d) (.slice b' n.refs.length d')) := BB.out.ext (((Ext.refl _).alloc _).trans hb)
  have XN : Hid (MBoxAt w8 w6.heap.size m (.slice a6 m.certs.length m.certs.length) (.slice b6 m.refs.length m.refs.length)) := XB.out.ext (((Ext.refl _).alloc _).trans hb)
  have PN : Hid (MLs w8 (.slice a6 m.certs.length m.certs.length) (.slice b6 m.refs.length m.refs.length) m) := PH.out.ext (((Ext.refl _).alloc _).trans hb)
  have QN : Hid (MLs w8 (.slice a7 n.certs.length n.certs.length) (.slice b7 n.refs.length n.refs.length) n) := QH.out.ext (((Ext.refl _).alloc _).trans hb)
  have YN0 := (mbox_new w7 n (.slice a7 n.certs.length n.certs.length) (.slice b7 n.refs.length n.refs.length) _).ext hb
  have YN : Hid (MBoxAt w8 w7.heap.size n (.slice a7 n.certs.length n.certs.length) (.slice b7 n.refs.length n.refs.length)) := by (try simp only [World.size_alloc] at YN0); exact YN0
  clear YN0
  clear hb AB BB XB PH QH E7 Xlt Xc0 Xc1 Xc2 Xc3 Xc4 Xc5 Xc6 hal
  have AB := AN; clear AN
  have BB := BN; clear BN
  have XB := XN; clear XN
  have YB := YN; clear YN
  have PH := PN; clear PN
  have QH := QN; clear QN
  have hcc : (R != R) = false := by cases R <;> rfl
  obtain ⟨Altw8, ⟨Ac0w8, Ac1w8, Ac2w8, Ac3w8, Ac4w8, Ac5w8, Ac6w8⟩, -, -, -, -, -, -, -⟩ := AB.out
  obtain ⟨Xltw8, ⟨Xc0w8, Xc1w8, Xc2w8, Xc3w8, Xc4w8, Xc5w8, Xc6w8⟩, -, -, -, -, -, -, -⟩ := XB.out
  go_wp2
  go_region_held3 (fun W => W.cell? ⟨w.heap.size, 0, none⟩ = some (.int .i64 m.kind) ∧ W.cell? ⟨w.heap.size, 1, none⟩ = some (.int .i64 m.view) ∧ W.cell? ⟨w.heap.size, 2, none⟩ = some (.int .i64 m.from_) ∧ W.cell? ⟨w.heap.size, 3, none⟩ = some (.int .i64 m.slot) ∧ W.cell? ⟨w.heap.size, 4, none⟩ = some (.int .i64 m.value) ∧ W.cell? ⟨w.heap.size, 5, none⟩ = some ((.slice a m.certs.length c)) ∧ W.cell? ⟨w.heap.size, 6, none⟩ = some ((.slice a' m.refs.length c')) ∧ W.cell? ⟨w6.heap.size, 0, none⟩ = some (.int .i64 m.kind) ∧ W.cell? ⟨w6.heap.size, 1, none⟩ = some (.int .i64 m.view) ∧ W.cell? ⟨w6.heap.size, 2, none⟩ = some (.int .i64 m.from_) ∧ W.cell? ⟨w6.heap.size, 3, none⟩ = some (.int .i64 m.slot) ∧ W.cell? ⟨w6.heap.size, 4, none⟩ = some (.int .i64 m.value) ∧ W.cell? ⟨w6.heap.size, 5, none⟩ = some ((.slice a6 m.certs.length m.certs.length)) ∧ W.cell? ⟨w6.heap.size, 6, none⟩ = some ((.slice b6 m.refs.length m.refs.length))) (first | exact ⟨Ac0w8, Ac1w8, Ac2w8, Ac3w8, Ac4w8, Ac5w8, Ac6w8, Xc0w8, Xc1w8, Xc2w8, Xc3w8, Xc4w8, Xc5w8, Xc6w8⟩ | exact ⟨Ac0w9, Ac1w9, Ac2w9, Ac3w9, Ac4w9, Ac5w9, Ac6w9, Xc0w9, Xc1w9, Xc2w9, Xc3w9, Xc4w9, Xc5w9, Xc6w9⟩ | exact ⟨Ac0w10, Ac1w10, Ac2w10, Ac3w10, Ac4w10, Ac5w10, Ac6w10, Xc0w10, Xc1w10, Xc2w10, Xc3w10, Xc4w10, Xc5w10, Xc6w10⟩ | go_keep) (first | (have tk9 := E8; clear tk9; go_at_call 10; refine (TA.out _ (by first | exact E8.out.drew | exact E8.out)).mono ?_; rintro e w9 ⟨a9, b9, rfl, hO, hb⟩; have X9 : Hid (Ext w8 w9) := (by first | exact ((Ext.refl _).drew).trans hb | exact hb); have E9 : Hid (Ext w w9) := E8.out.trans X9.out; have AN : Hid (MBoxAt w9 w.heap.size m (.slice a m.certs.length c) (.slice a' m.refs.length c')) := AB.out.ext X9.out; have BN : Hid (MBoxAt w9 (w.heap.size + 1) n (.slice b n.certs.length d) (.slice b' n.refs.length d')) := BB.out.ext X9.out; have XN : Hid (MBoxAt w9 w6.heap.size m (.slice a6 m.certs.length m.certs.length) (.slice b6 m.refs.length m.refs.length)) := XB.out.ext X9.out; have YN : Hid (MBoxAt w9 w7.heap.size n (.slice a7 n.certs.length n.certs.length) (.slice b7 n.refs.length n.refs.length)) := YB.out.ext X9.out; have PN : Hid (MLs w9 (.slice a6 m.certs.length m.certs.length) (.slice b6 m.refs.length m.refs.length) m) := PH.out.ext X9.out; have QN : Hid (MLs w9 (.slice a7 n.certs.length n.certs.length) (.slice b7 n.refs.length n.refs.length) n) := QH.out.ext X9.out; have ZN : Hid (MLs w9 (.slice a9 m.certs.length m.certs.length) (.slice b9 m.refs.length m.refs.length) m) := hO; clear hO; clear hb X9 E8 AB BB XB YB PH QH Altw8 Xltw8 Ac0w8 Ac1w8 Ac2w8 Ac3w8 Ac4w8 Ac5w8 Ac6w8 Xc0w8 Xc1w8 Xc2w8 Xc3w8 Xc4w8 Xc5w8 Xc6w8; have AB := AN; clear AN; have BB := BN; clear BN; have XB := XN; clear XN; have YB := YN; clear YN; have PH := PN; clear PN; have QH := QN; clear QN; have ZH := ZN; clear ZN; obtain ⟨Altw9, ⟨Ac0w9, Ac1w9, Ac2w9, Ac3w9, Ac4w9, Ac5w9, Ac6w9⟩, -, -, -, -, -, -, -⟩ := AB.out; obtain ⟨Xltw9, ⟨Xc0w9, Xc1w9, Xc2w9, Xc3w9, Xc4w9, Xc5w9, Xc6w9⟩, -, -, -, -, -, -, -⟩ := XB.out) | (have tk10 := E9; clear tk10; go_at_call 12; refine (HEA.out _ _ _ _ _ (PH.out.ext (by first | exact (Ext.refl _).drew | exact Ext.refl _)) (ZH.out.ext (by first | exact (Ext.refl _).drew | exact Ext.refl _))).mono ?_; rintro e w10 ⟨rfl, hb⟩; have X10 : Hid (Ext w9 w10) := (by first | exact ((Ext.refl _).drew).trans hb | exact hb); have E10 : Hid (Ext w w10) := E9.out.trans X10.out; have AN : Hid (MBoxAt w10 w.heap.size m (.slice a m.certs.length c) (.slice a' m.refs.length c')) := AB.out.ext X10.out; have BN : Hid (MBoxAt w10 (w.heap.size + 1) n (.slice b n.certs.length d) (.slice b' n.refs.length d')) := BB.out.ext X10.out; have XN : Hid (MBoxAt w10 w6.heap.size m (.slice a6 m.certs.length m.certs.length) (.slice b6 m.refs.length m.refs.length)) := XB.out.ext X10.out; have YN : Hid (MBoxAt w10 w7.heap.size n (.slice a7 n.certs.length n.certs.length) (.slice b7 n.refs.length n.refs.length)) := YB.out.ext X10.out; clear PH; clear ZH; have QN : Hid (MLs w10 (.slice a7 n.certs.length n.certs.length) (.slice b7 n.refs.length n.refs.length) n) := QH.out.ext X10.out; clear hb X10 E9 AB BB XB YB QH Altw9 Xltw9 Ac0w9 Ac1w9 Ac2w9 Ac3w9 Ac4w9 Ac5w9 Ac6w9 Xc0w9 Xc1w9 Xc2w9 Xc3w9 Xc4w9 Xc5w9 Xc6w9; have AB := AN; clear AN; have BB := BN; clear BN; have XB := XN; clear XN; have YB := YN; clear YN; have QH := QN; clear QN; obtain ⟨Altw10, ⟨Ac0w10, Ac1w10, Ac2w10, Ac3w10, Ac4w10, Ac5w10, Ac6w10⟩, -, -, -, -, -, -, -⟩ := AB.out; obtain ⟨Xltw10, ⟨Xc0w10, Xc1w10, Xc2w10, Xc3w10, Xc4w10, Xc5w10, Xc6w10⟩, -, -, -, -, -, -, -⟩ := XB.out))
  clear Altw10 Xltw10 Ac0w10 Ac1w10 Ac2w10 Ac3w10 Ac4w10 Ac5w10 Ac6w10 Xc0w10 Xc1w10 Xc2w10 Xc3w10 Xc4w10 Xc5w10 Xc6w10
  obtain ⟨Bltw10, ⟨Bc0w10, Bc1w10, Bc2w10, Bc3w10, Bc4w10, Bc5w10, Bc6w10⟩, -, -, -, -, -, -, -⟩ := BB.out
  obtain ⟨Yltw10, ⟨Yc0w10, Yc1w10, Yc2w10, Yc3w10, Yc4w10, Yc5w10, Yc6w10⟩, -, -, -, -, -, -, -⟩ := YB.out
  go_wp2
  go_region_held3 (fun W => W.cell? ⟨(w.heap.size + 1), 0, none⟩ = some (.int .i64 n.kind) ∧ W.cell? ⟨(w.heap.size + 1), 1, none⟩ = some (.int .i64 n.view) ∧ W.cell? ⟨(w.heap.size + 1), 2, none⟩ = some (.int .i64 n.from_) ∧ W.cell? ⟨(w.heap.size + 1), 3, none⟩ = some (.int .i64 n.slot) ∧ W.cell? ⟨(w.heap.size + 1), 4, none⟩ = some (.int .i64 n.value) ∧ W.cell? ⟨(w.heap.size + 1), 5, none⟩ = some ((.slice b n.certs.length d)) ∧ W.cell? ⟨(w.heap.size + 1), 6, none⟩ = some ((.slice b' n.refs.length d')) ∧ W.cell? ⟨w7.heap.size, 0, none⟩ = some (.int .i64 n.kind) ∧ W.cell? ⟨w7.heap.size, 1, none⟩ = some (.int .i64 n.view) ∧ W.cell? ⟨w7.heap.size, 2, none⟩ = some (.int .i64 n.from_) ∧ W.cell? ⟨w7.heap.size, 3, none⟩ = some (.int .i64 n.slot) ∧ W.cell? ⟨w7.heap.size, 4, none⟩ = some (.int .i64 n.value) ∧ W.cell? ⟨w7.heap.size, 5, none⟩ = some ((.slice a7 n.certs.length n.certs.length)) ∧ W.cell? ⟨w7.heap.size, 6, none⟩ = some ((.slice b7 n.refs.length n.refs.length))) (first | exact ⟨Bc0w10, Bc1w10, Bc2w10, Bc3w10, Bc4w10, Bc5w10, Bc6w10, Yc0w10, Yc1w10, Yc2w10, Yc3w10, Yc4w10, Yc5w10, Yc6w10⟩ | exact ⟨Bc0w11, Bc1w11, Bc2w11, Bc3w11, Bc4w11, Bc5w11, Bc6w11, Yc0w11, Yc1w11, Yc2w11, Yc3w11, Yc4w11, Yc5w11, Yc6w11⟩ | exact ⟨Bc0w12, Bc1w12, Bc2w12, Bc3w12, Bc4w12, Bc5w12, Bc6w12, Yc0w12, Yc1w12, Yc2w12, Yc3w12, Yc4w12, Yc5w12, Yc6w12⟩ | go_keep) (first | (have tk11 := E10; clear tk11; go_at_call 10; refine (TB.out _ (by first | exact E10.out.drew | exact E10.out)).mono ?_; rintro e w11 ⟨a11, b11, rfl, hO, hb⟩; have X11 : Hid (Ext w10 w11) := (by first | exact ((Ext.refl _).drew).trans hb | exact hb); have E11 : Hid (Ext w w11) := E10.out.trans X11.out; have AN : Hid (MBoxAt w11 w.heap.size m (.slice a m.certs.length c) (.slice a' m.refs.length c')) := AB.out.ext X11.out; have BN : Hid (MBoxAt w11 (w.heap.size + 1) n (.slice b n.certs.length d) (.slice b' n.refs.length d')) := BB.out.ext X11.out; have XN : Hid (MBoxAt w11 w6.heap.size m (.slice a6 m.certs.length m.certs.length) (.slice b6 m.refs.length m.refs.length)) := XB.out.ext X11.out; have YN : Hid (MBoxAt w11 w7.heap.size n (.slice a7 n.certs.length n.certs.length) (.slice b7 n.refs.length n.refs.length)) := YB.out.ext X11.out; have QN : Hid (MLs w11 (.slice a7 n.certs.length n.certs.length) (.slice b7 n.refs.length n.refs.length) n) := QH.out.ext X11.out; have ZN : Hid (MLs w11 (.slice a11 n.certs.length n.certs.length) (.slice b11 n.refs.length n.refs.length) n) := hO; clear hO; clear hb X11 E10 AB BB XB YB QH Bltw10 Yltw10 Bc0w10 Bc1w10 Bc2w10 Bc3w10 Bc4w10 Bc5w10 Bc6w10 Yc0w10 Yc1w10 Yc2w10 Yc3w10 Yc4w10 Yc5w10 Yc6w10; have AB := AN; clear AN; have BB := BN; clear BN; have XB := XN; clear XN; have YB := YN; clear YN; have QH := QN; clear QN; have ZH := ZN; clear ZN; obtain ⟨Bltw11, ⟨Bc0w11, Bc1w11, Bc2w11, Bc3w11, Bc4w11, Bc5w11, Bc6w11⟩, -, -, -, -, -, -, -⟩ := BB.out; obtain ⟨Yltw11, ⟨Yc0w11, Yc1w11, Yc2w11, Yc3w11, Yc4w11, Yc5w11, Yc6w11⟩, -, -, -, -, -, -, -⟩ := YB.out) | (have tk12 := E11; clear tk12; go_at_call 12; refine (HEB.out _ _ _ _ _ (QH.out.ext (by first | exact (Ext.refl _).drew | exact Ext.refl _)) (ZH.out.ext (by first | exact (Ext.refl _).drew | exact Ext.refl _))).mono ?_; rintro e w12 ⟨rfl, hb⟩; have X12 : Hid (Ext w11 w12) := (by first | exact ((Ext.refl _).drew).trans hb | exact hb); have E12 : Hid (Ext w w12) := E11.out.trans X12.out; have AN : Hid (MBoxAt w12 w.heap.size m (.slice a m.certs.length c) (.slice a' m.refs.length c')) := AB.out.ext X12.out; have BN : Hid (MBoxAt w12 (w.heap.size + 1) n (.slice b n.certs.length d) (.slice b' n.refs.length d')) := BB.out.ext X12.out; have XN : Hid (MBoxAt w12 w6.heap.size m (.slice a6 m.certs.length m.certs.length) (.slice b6 m.refs.length m.refs.length)) := XB.out.ext X12.out; have YN : Hid (MBoxAt w12 w7.heap.size n (.slice a7 n.certs.length n.certs.length) (.slice b7 n.refs.length n.refs.length)) := YB.out.ext X12.out; clear QH; clear ZH; clear hb X12 E11 AB BB XB YB Bltw11 Yltw11 Bc0w11 Bc1w11 Bc2w11 Bc3w11 Bc4w11 Bc5w11 Bc6w11 Yc0w11 Yc1w11 Yc2w11 Yc3w11 Yc4w11 Yc5w11 Yc6w11; have AB := AN; clear AN; have BB := BN; clear BN; have XB := XN; clear XN; have YB := YN; clear YN; obtain ⟨Bltw12, ⟨Bc0w12, Bc1w12, Bc2w12, Bc3w12, Bc4w12, Bc5w12, Bc6w12⟩, -, -, -, -, -, -, -⟩ := BB.out; obtain ⟨Yltw12, ⟨Yc0w12, Yc1w12, Yc2w12, Yc3w12, Yc4w12, Yc5w12, Yc6w12⟩, -, -, -, -, -, -, -⟩ := YB.out))
  go_wp2
  go_ret
  exact ⟨rfl, E12.out⟩
end Go.Proofs.Ytdbomnaiaomopaa
