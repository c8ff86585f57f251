/- NewState: the specification's, the program's; the laws' functions over what it answers. -/
import Derived.Test.YtdjnkchaapcjpaaN1
import Derived.Test.YtdjnkchaapcjpaaI0
import Derived.Test.YtdjnkchaapcjpaaE4
import Derived.Test.YtdjnkchaapcjpaaE5
namespace Go.Proofs.Ytdjnkchaapcjpaa
open Go.RowKit
def nsr (c : Int) (v : Value) (n : Int) : Value := .agg #[.int .i64 c, .int .i64 0, .int .i64 0, .string ⟨#[]⟩, v, .slice none 0 0, .int .i64 n, .slice none 0 0]
def NRet (w : World) (c n : Int) (rs : List Zn) (e : Ending) (w' : World) : Prop :=
  ∃ v g, e = .returned (nsr c v n) ∧ w.heap.size ≤ g ∧ Own w' v g rs ∧ Ext w w'
/-- Block b holds what NewState answered. -/
def NBoxAt (w : World) (b : Nat) (c n : Int) (v : Value) : Prop := b < w.heap.size ∧ w.cell? ⟨b, 0, none⟩ = some (.int .i64 c) ∧ w.cell? ⟨b, 1, none⟩ = some (.int .i64 0) ∧ w.cell? ⟨b, 2, none⟩ = some (.int .i64 0) ∧ w.cell? ⟨b, 3, none⟩ = some (.string ⟨#[]⟩) ∧ w.cell? ⟨b, 4, none⟩ = some (v) ∧ w.cell? ⟨b, 5, none⟩ = some (.slice none 0 0) ∧ w.cell? ⟨b, 6, none⟩ = some (.int .i64 n) ∧ w.cell? ⟨b, 7, none⟩ = some (.slice none 0 0)
theorem NBoxAt.ext {w w' : World} {b : Nat} {c n : Int} {v : Value} (h : NBoxAt w b c n v) (he : Ext w w') : NBoxAt w' b c n v := by
  obtain ⟨hc, -⟩ := Ext.cell he
  obtain ⟨hb, c0, c1, c2, c3, c4, c5, c6, c7⟩ := h
  exact ⟨Nat.lt_of_lt_of_le hb he.size, (hc _ _ hb).trans c0, (hc _ _ hb).trans c1, (hc _ _ hb).trans c2, (hc _ _ hb).trans c3, (hc _ _ hb).trans c4, (hc _ _ hb).trans c5, (hc _ _ hb).trans c6, (hc _ _ hb).trans c7⟩
theorem NBoxAt.upd {w w' : World} {b g : Nat} {c n : Int} {v : Value} (h : NBoxAt w b c n v) (he : Upd g w w') (hne : b ≠ g) : NBoxAt w' b c n v := by
  obtain ⟨hb, c0, c1, c2, c3, c4, c5, c6, c7⟩ := h
  exact ⟨Nat.lt_of_lt_of_le hb he.2.1, (he.at_ne _ _ hne hb).1.trans c0, (he.at_ne _ _ hne hb).1.trans c1, (he.at_ne _ _ hne hb).1.trans c2, (he.at_ne _ _ hne hb).1.trans c3, (he.at_ne _ _ hne hb).1.trans c4, (he.at_ne _ _ hne hb).1.trans c5, (he.at_ne _ _ hne hb).1.trans c6, (he.at_ne _ _ hne hb).1.trans c7⟩
theorem nbox_new (w : World) (c n : Int) (v : Value) (t : TypeId) : NBoxAt (w.alloc (.cells #[.int .i64 c, .int .i64 0, .int .i64 0, .string ⟨#[]⟩, v, .slice none 0 0, .int .i64 n, .slice none 0 0] t)) w.heap.size c n v := ⟨by simp, by simp, by simp, by simp, by simp, by simp, by simp, by simp, by simp⟩

theorem SBoxAt.upd {w w' : World} {b g : Nat} {v0 v1 v2 v3 : Value} (h : SBoxAt w b v0 v1 v2 v3) (he : Upd g w w') (hne : b ≠ g) : SBoxAt w' b v0 v1 v2 v3 := by
  obtain ⟨hb, ⟨c0, c1, c2, c3⟩, f0, f1, f2, f3⟩ := h
  exact ⟨Nat.lt_of_lt_of_le hb he.2.1, ⟨(he.at_ne _ _ hne hb).1.trans c0, (he.at_ne _ _ hne hb).1.trans c1, (he.at_ne _ _ hne hb).1.trans c2, (he.at_ne _ _ hne hb).1.trans c3⟩, (he.at_ne _ _ hne hb).2.trans f0, (he.at_ne _ _ hne hb).2.trans f1, (he.at_ne _ _ hne hb).2.trans f2, (he.at_ne _ _ hne hb).2.trans f3⟩
set_option maxHeartbeats 1000000 in
theorem markMark0_any (k : Nat) (w : World) : Calls Try.prog 38 #[.slice none 0 0, .int .i64 k] w fun e w' => e = .returned (.int .i64 k) ∧ w' = w := by
  go_enter Try.func38, Try.ntmps38
  go_wp2
  go_loopw [1, 5] (fun lv i wr => lv = .int .i64 k ∧ i = .int .i64 0 ∧ wr = w) (fun _ _ _ => 0)
  case atStart => exact ⟨rfl, rfl, rfl⟩
  case round =>
    obtain ⟨rfl, rfl, rfl⟩ := hrel
    go_wp2
    go_ret
    exact ⟨rfl, rfl⟩
set_option maxHeartbeats 1000000 in
theorem markSes0_any (k : Nat) (w : World) : Calls Try.prog 37 #[.slice none 0 0, .int .i64 k] w fun e w' => e = .returned (.int .i64 k) ∧ w' = w := by
  go_enter Try.func37, Try.ntmps37
  go_wp2
  go_loopw [1, 5] (fun lv i wr => lv = .int .i64 k ∧ i = .int .i64 0 ∧ wr = w) (fun _ _ _ => 0)
  case atStart => exact ⟨rfl, rfl, rfl⟩
  case round =>
    obtain ⟨rfl, rfl, rfl⟩ := hrel
    go_wp2
    go_ret
    exact ⟨rfl, rfl⟩
set_option maxHeartbeats 1000000 in
theorem heldMark0_any (k : Nat) (w : World) : Calls Try.prog 41 #[.slice none 0 0, .int .i64 k] w fun e w' => e = .returned (.int .i64 k) ∧ w' = w := by
  go_enter Try.func41, Try.ntmps41
  go_wp2
  go_loopw [1, 5] (fun lv i wr => lv = .int .i64 k ∧ i = .int .i64 0 ∧ wr = w) (fun _ _ _ => 0)
  case atStart => exact ⟨rfl, rfl, rfl⟩
  case round =>
    obtain ⟨rfl, rfl, rfl⟩ := hrel
    go_wp2
    go_ret
    exact ⟨rfl, rfl⟩
set_option maxHeartbeats 1000000 in
theorem heldSes0_any (k : Nat) (w : World) : Calls Try.prog 40 #[.slice none 0 0, .int .i64 k] w fun e w' => e = .returned (.int .i64 k) ∧ w' = w := by
  go_enter Try.func40, Try.ntmps40
  go_wp2
  go_loopw [1, 5] (fun lv i wr => lv = .int .i64 k ∧ i = .int .i64 0 ∧ wr = w) (fun _ _ _ => 0)
  case atStart => exact ⟨rfl, rfl, rfl⟩
  case round =>
    obtain ⟨rfl, rfl, rfl⟩ := hrel
    go_wp2
    go_ret
    exact ⟨rfl, rfl⟩

set_option maxHeartbeats 1000000 in
set_option maxRecDepth 100000 in
theorem eqNew_same (c n : Int) (v v' : Value) (zs : List Zn) (w : World) (h : NSlice w v zs) (h' : NSlice w v' zs) :
    Calls Try.prog 7 #[nsr c v n, nsr c v' n] w fun e w' => e = .returned (.bool true) ∧ Ext w w' := by
  have HR : Hid (∀ wx : World, Calls Try.prog 19 #[.agg #[.int .i64 0, .int .i64 0, .string ⟨#[]⟩], .agg #[.int .i64 0, .int .i64 0, .string ⟨#[]⟩]] wx fun e w' => e = .returned (.bool true) ∧ Ext wx w') := fun wx => eqReply_same 0 0 ⟨#[]⟩ wx
  have h0 : ∀ wx : World, ESlice wx (.slice none 0 0) [] := fun wx => ⟨none, 0, rfl, Nat.le_refl _, by unfold maxLen; omega, fun h => by simp at h⟩
  have m0 : ∀ wx : World, MSlice wx (.slice none 0 0) [] := fun wx => ⟨none, 0, rfl, Nat.le_refl _, by unfold maxLen; omega, fun h => by simp at h⟩
  have HE : Hid (∀ wx : World, Ext w wx → Calls Try.prog 14 #[.agg #[v, .slice none 0 0, .int .i64 n, .slice none 0 0], .agg #[v', .slice none 0 0, .int .i64 n, .slice none 0 0]] wx fun e w' => e = .returned (.bool true) ∧ Ext wx w') := fun wx he => eqState_same ⟨zs, [], n, []⟩ v (.slice none 0 0) (.slice none 0 0) v' (.slice none 0 0) (.slice none 0 0) wx ⟨h.ext he, h0 wx, m0 wx⟩ ⟨h'.ext he, h0 wx, m0 wx⟩
  obtain ⟨a, cap, rfl, _⟩ := h
  obtain ⟨a', cap', rfl, _⟩ := h'
  clear h0 m0
  unfold nsr
  go_enter Try.func7, Try.ntmps7
  go_wp2_with fail
  refine (HR.out _).mono ?_
  rintro e w2 ⟨rfl, hb⟩
  have x0 := (nbox_new w c n (.slice a zs.length cap) _).ext (((Ext.refl _).alloc _).trans hb)
  have y0 := (nbox_new (w.alloc _) c n (.slice a' zs.length cap') _).ext hb
  simp only [World.size_alloc] at y0
  obtain ⟨xl, x0, x1, x2, x3, x4, x5, x6, x7⟩ := x0
  obtain ⟨yl, y0, y1, y2, y3, y4, y5, y6, y7⟩ := y0
  have HB : Hid (Ext w w2) := (((Ext.refl _).alloc _).alloc _).trans hb
  clear hb
  go_wp2_with fail
  refine (HE.out _ HB.out).mono ?_
  rintro e w3 ⟨rfl, hb⟩
  have HB3 : Hid (Ext w w3) := HB.out.trans hb
  clear hb xl yl x0 x1 x2 x3 x4 x5 x6 x7 y0 y1 y2 y3 y4 y5 y6 y7
  go_wp2
  go_ret
  exact ⟨rfl, HB3.out⟩

set_option maxHeartbeats 1000000 in
set_option maxRecDepth 100000 in
theorem markState0_any (n : Int) (v : Value) (g : Nat) (zs : List Zn) (k : Nat) (w : World) (hO : Own w v g zs) (hg : g ≤ w.heap.size) (hk : k ≤ 100) (hl : zs.length ≤ 1048576) :
    Calls Try.prog 20 #[.agg #[v, .slice none 0 0, .int .i64 n, .slice none 0 0], .int .i64 k] w fun e w' => e = .returned (.int .i64 (k + 5 * zs.length : Nat)) ∧ Own w' v g (marks k zs.length) ∧ Upd g w w' := by
  obtain ⟨g0, hO0, hne, hback⟩ : ∃ g0, (∀ wx, Ext w wx → Own wx v g0 zs) ∧ w.heap.size ≠ g0 ∧ ∀ w1 w2, Ext w w1 → Own w2 v g0 (marks k zs.length) → Upd g0 w1 w2 → Own w2 v g (marks k zs.length) ∧ Upd g w w2 := by
    by_cases h0 : 0 < zs.length
    · exact ⟨g, fun wx he => hO.ext he, by have := hO.lt h0; omega, fun w1 w2 he h1 h2 => ⟨h1, (Upd.ext he hg).trans h2⟩⟩
    · exact ⟨w.heap.size + 1, fun wx _ => hO.nil h0, by omega, fun w1 w2 he h1 h2 => ⟨h1.nil (by rw [marks_length]; exact h0), Upd.ext (h2.to_ext he (by omega)) hg⟩⟩
  have HM : Hid (∀ wx : World, Own wx v g0 zs → Calls Try.prog 36 #[v, .int .i64 k] wx fun e w' => e = .returned (.int .i64 (k + 5 * zs.length : Nat)) ∧ Own w' v g0 (marks k zs.length) ∧ Upd g0 wx w') := fun wx h => markZnodeS_any v g0 zs k wx h hk hl
  have HO : Hid (∀ wx, Ext w wx → Own wx v g0 zs) := hO0
  have HK : Hid (∀ w1 w2, Ext w w1 → Own w2 v g0 (marks k zs.length) → Upd g0 w1 w2 → Own w2 v g (marks k zs.length) ∧ Upd g w w2) := hback
  clear hO0 hback
  obtain ⟨a, cap, rfl, _⟩ := hO
  go_enter Try.func20, Try.ntmps20
  go_wp2_with fail
  refine (HM.out _ (HO.out _ ((Ext.refl _).alloc _))).mono ?_
  rintro e w2 ⟨rfl, hO2, hU⟩
  obtain ⟨x, ⟨x0, x1, x2, x3⟩, -⟩ := (sbox_new w (.slice a zs.length cap) (.slice none 0 0) (.int .i64 n) (.slice none 0 0) 28).upd hU hne
  obtain ⟨hO3, hU3⟩ := HK.out _ _ ((Ext.refl _).alloc _) hO2 hU
  have HO2 : Hid (Own w2 (.slice a zs.length cap) g (marks k zs.length)) := hO3
  have HU : Hid (Upd g w w2) := hU3
  obtain ⟨m, hm⟩ : ∃ m, m = k + 5 * zs.length := ⟨_, rfl⟩
  rw [← hm]
  have HMm : Hid (m = k + 5 * zs.length) := hm
  clear hm hO2 hU hO3 hU3 HK HO HM
  go_wp2_with fail
  refine (markSes0_any m _).mono ?_
  rintro e w3 ⟨rfl, hw⟩
  rw [hw]
  clear hw w3
  go_wp2_with fail
  refine (markMark0_any m _).mono ?_
  rintro e w3 ⟨rfl, hw⟩
  rw [hw]
  clear hw w3
  go_wp2
  go_ret
  exact ⟨ret_int (by rw [HMm.out]), HO2.out, HU.out⟩

set_option maxHeartbeats 1000000 in
theorem markNew_any (c n : Int) (v : Value) (g : Nat) (zs : List Zn) (k : Nat) (w : World) (hO : Own w v g zs) (hg : g ≤ w.heap.size) (hk : k ≤ 100) (hl : zs.length ≤ 1048576) :
    Calls Try.prog 8 #[nsr c v n, .int .i64 k] w fun e w' => e = .returned (.int .i64 (k + 5 * zs.length : Nat)) ∧ Own w' v g (marks k zs.length) ∧ Upd g w w' := by
  have HM : Hid (∀ wx : World, Own wx v g zs → g ≤ wx.heap.size → Calls Try.prog 20 #[.agg #[v, .slice none 0 0, .int .i64 n, .slice none 0 0], .int .i64 k] wx fun e w' => e = .returned (.int .i64 (k + 5 * zs.length : Nat)) ∧ Own w' v g (marks k zs.length) ∧ Upd g wx w') := fun wx h h2 => markState0_any n v g zs k wx h h2 hk hl
  have HO : Hid (Own w v g zs) := hO
  obtain ⟨a, cap, rfl, _⟩ := hO
  unfold nsr
  go_enter Try.func8, Try.ntmps8
  go_wp2_with fail
  refine (HM.out _ (HO.out.ext ((Ext.refl _).alloc _)) (by simp; omega)).mono ?_
  rintro e w2 ⟨rfl, hO2, hU⟩
  have HO2 : Hid (Own w2 (.slice a zs.length cap) g (marks k zs.length)) := hO2
  have HU : Hid (Upd g w w2) := (Upd.alloc _ _ hg).trans hU
  clear hO2 hU
  go_wp2
  go_ret
  exact ⟨rfl, HO2.out, HU.out⟩

set_option maxHeartbeats 1000000 in
set_option maxRecDepth 100000 in
theorem heldState0_any (n : Int) (v : Value) (j k : Nat) (w : World) (hO : NSlice w v (marks k j)) (hk : k ≤ 100) (hl : j ≤ 1048576) :
    Calls Try.prog 21 #[.agg #[v, .slice none 0 0, .int .i64 n, .slice none 0 0], .int .i64 k] w fun e w' => e = .returned (.int .i64 (k + 5 * j : Nat)) ∧ Ext w w' := by
  have HH : Hid (∀ wx : World, Ext w wx → Calls Try.prog 39 #[v, .int .i64 k] wx fun e w' => e = .returned (.int .i64 (k + 5 * j : Nat)) ∧ Ext wx w') := fun wx he => heldZnodeS_any v j k wx (hO.ext he) hk hl
  obtain ⟨a, cap, rfl, _⟩ := hO
  go_enter Try.func21, Try.ntmps21
  go_wp2_with fail
  refine (HH.out _ ((Ext.refl _).alloc _)).mono ?_
  rintro e w2 ⟨rfl, hb⟩
  obtain ⟨x, ⟨x0, x1, x2, x3⟩, -⟩ := (sbox_new w (.slice a (marks k j).length cap) (.slice none 0 0) (.int .i64 n) (.slice none 0 0) _).ext hb
  have HB : Hid (Ext w w2) := ((Ext.refl _).alloc _).trans hb
  obtain ⟨m, hm⟩ : ∃ m, m = k + 5 * j := ⟨_, rfl⟩
  rw [← hm]
  have HM : Hid (m = k + 5 * j) := hm
  clear hm hb
  go_wp2_with fail
  refine (heldSes0_any m _).mono ?_
  rintro e w3 ⟨rfl, hw⟩
  rw [hw]
  clear hw w3
  go_wp2_with fail
  refine (heldMark0_any m _).mono ?_
  rintro e w3 ⟨rfl, hw⟩
  rw [hw]
  clear hw w3
  go_wp2
  go_ret
  exact ⟨ret_int (by rw [HM.out]), HB.out⟩
set_option maxHeartbeats 1000000 in
theorem heldNew_any (c n : Int) (v : Value) (j k : Nat) (w : World) (hO : NSlice w v (marks k j)) (hk : k ≤ 100) (hl : j ≤ 1048576) :
    Calls Try.prog 9 #[nsr c v n, .int .i64 k] w fun e w' => e = .returned (.int .i64 (k + 5 * j : Nat)) ∧ Ext w w' := by
  have HH : Hid (∀ wx : World, Ext w wx → Calls Try.prog 21 #[.agg #[v, .slice none 0 0, .int .i64 n, .slice none 0 0], .int .i64 k] wx fun e w' => e = .returned (.int .i64 (k + 5 * j : Nat)) ∧ Ext wx w') := fun wx he => heldState0_any n v j k wx (hO.ext he) hk hl
  obtain ⟨a, cap, rfl, _⟩ := hO
  unfold nsr
  go_enter Try.func9, Try.ntmps9
  go_wp2_with fail
  refine (HH.out _ ((Ext.refl _).alloc _)).mono ?_
  rintro e w2 ⟨rfl, hb⟩
  have HB : Hid (Ext w w2) := ((Ext.refl _).alloc _).trans hb
  obtain ⟨m, hm⟩ : ∃ m, m = k + 5 * j := ⟨_, rfl⟩
  rw [← hm]
  have HM : Hid (m = k + 5 * j) := hm
  clear hm hb
  go_wp2
  go_ret
  exact ⟨ret_int (by rw [HM.out]), HB.out⟩

/-! ### NewState -/
def Sta.newV (n : Int) : Int × Int × List Zn := if Ses.nowOk n = true then (0, n, [⟨Tre.top, 0, 0, 0, 0⟩]) else (3, 0, [])
theorem nret_bad {w w' : World} (c n : Int) (he : Ext w w') : NRet w c n [] (.returned (nsr c (.slice none 0 0) n)) w' := ⟨_, w.heap.size, rfl, Nat.le_refl _, ⟨none, 0, rfl, Nat.le_refl _, by unfold maxLen; omega, fun h => by simp at h⟩, he⟩
/-- Block b holds the zero answer and may be written. -/
def NZero (w : World) (b : Nat) : Prop := b < w.heap.size ∧ w.cell? ⟨b, 0, none⟩ = some (.int .i64 0) ∧ w.cell? ⟨b, 1, none⟩ = some (.int .i64 0) ∧ w.cell? ⟨b, 2, none⟩ = some (.int .i64 0) ∧ w.cell? ⟨b, 3, none⟩ = some (.string ByteArray.empty) ∧ w.cell? ⟨b, 4, none⟩ = some (.slice none 0 0) ∧ w.cell? ⟨b, 5, none⟩ = some (.slice none 0 0) ∧ w.cell? ⟨b, 6, none⟩ = some (.int .i64 0) ∧ w.cell? ⟨b, 7, none⟩ = some (.slice none 0 0) ∧ w.frozen? ⟨b, 0, none⟩ = false ∧ w.frozen? ⟨b, 1, none⟩ = false ∧ w.frozen? ⟨b, 2, none⟩ = false ∧ w.frozen? ⟨b, 3, none⟩ = false ∧ w.frozen? ⟨b, 4, none⟩ = false ∧ w.frozen? ⟨b, 5, none⟩ = false ∧ w.frozen? ⟨b, 6, none⟩ = false ∧ w.frozen? ⟨b, 7, none⟩ = false
theorem NZero.ext {w w' : World} {b : Nat} (h : NZero w b) (he : Ext w w') : NZero w' b := by
  obtain ⟨hc, hf⟩ := Ext.cell he
  obtain ⟨hb, c0, c1, c2, c3, c4, c5, c6, c7, f0, f1, f2, f3, f4, f5, f6, f7⟩ := h
  exact ⟨Nat.lt_of_lt_of_le hb he.size, (hc _ _ hb).trans c0, (hc _ _ hb).trans c1, (hc _ _ hb).trans c2, (hc _ _ hb).trans c3, (hc _ _ hb).trans c4, (hc _ _ hb).trans c5, (hc _ _ hb).trans c6, (hc _ _ hb).trans c7, (hf _ _ hb).trans f0, (hf _ _ hb).trans f1, (hf _ _ hb).trans f2, (hf _ _ hb).trans f3, (hf _ _ hb).trans f4, (hf _ _ hb).trans f5, (hf _ _ hb).trans f6, (hf _ _ hb).trans f7⟩
theorem nzero_new (w : World) (t : TypeId) : NZero (w.alloc (.cells #[.int .i64 0, .int .i64 0, .int .i64 0, .string ByteArray.empty, .slice none 0 0, .slice none 0 0, .int .i64 0, .slice none 0 0] t)) w.heap.size := ⟨by simp, by simp, by simp, by simp, by simp, by simp, by simp, by simp, by simp, by simp, by simp, by simp, by simp, by simp, by simp, by simp, by simp⟩
theorem ext_eight {w w' : World} (h : Ext w w') (a0 : Value) (a1 : Value) (a2 : Value) (a3 : Value) (a4 : Value) (a5 : Value) (a6 : Value) (a7 : Value) : Ext w ((((((((w'.setCell ⟨w.heap.size, 0, none⟩ a0).setCell ⟨w.heap.size, 1, none⟩ a1).setCell ⟨w.heap.size, 2, none⟩ a2).setCell ⟨w.heap.size, 3, none⟩ a3).setCell ⟨w.heap.size, 4, none⟩ a4).setCell ⟨w.heap.size, 5, none⟩ a5).setCell ⟨w.heap.size, 6, none⟩ a6).setCell ⟨w.heap.size, 7, none⟩ a7) :=
  ((((((((h.setCell (p := ⟨w.heap.size, 0, none⟩) (Nat.le_refl _) _).setCell (p := ⟨w.heap.size, 1, none⟩) (Nat.le_refl _) _).setCell (p := ⟨w.heap.size, 2, none⟩) (Nat.le_refl _) _).setCell (p := ⟨w.heap.size, 3, none⟩) (Nat.le_refl _) _).setCell (p := ⟨w.heap.size, 4, none⟩) (Nat.le_refl _) _).setCell (p := ⟨w.heap.size, 5, none⟩) (Nat.le_refl _) _).setCell (p := ⟨w.heap.size, 6, none⟩) (Nat.le_refl _) _).setCell (p := ⟨w.heap.size, 7, none⟩) (Nat.le_refl _) _)
theorem own_eight {w w' : World} {g : Nat} {v : Value} {zs : List Zn} (h : Own w' v g zs) (hg : w.heap.size < g) (a0 : Value) (a1 : Value) (a2 : Value) (a3 : Value) (a4 : Value) (a5 : Value) (a6 : Value) (a7 : Value) : Own ((((((((w'.setCell ⟨w.heap.size, 0, none⟩ a0).setCell ⟨w.heap.size, 1, none⟩ a1).setCell ⟨w.heap.size, 2, none⟩ a2).setCell ⟨w.heap.size, 3, none⟩ a3).setCell ⟨w.heap.size, 4, none⟩ a4).setCell ⟨w.heap.size, 5, none⟩ a5).setCell ⟨w.heap.size, 6, none⟩ a6).setCell ⟨w.heap.size, 7, none⟩ a7) v g zs :=
  own_other (own_other (own_other (own_other (own_other (own_other (own_other (own_other (h) (by omega)) (by omega)) (by omega)) (by omega)) (by omega)) (by omega)) (by omega)) (by omega)

set_option maxHeartbeats 2000000 in
set_option maxRecDepth 100000 in
theorem implNewState_any (n : Int) (w : World) : Calls Try.prog 6 #[.int .i64 n] w (NRet w (Sta.newV n).1 (Sta.newV n).2.1 (Sta.newV n).2.2) := by
  have HU : Hid (∀ wx : World, Calls Try.prog 17 #[.int .i64 n, .int .i64 9000] wx fun e w' => e = .returned (.bool (Ses.nowOk n)) ∧ w' = wx) := fun wx => upTo_any _ _ _
  cases hb : Ses.nowOk n with
  | false =>
    rw [show Sta.newV n = (3, 0, []) from by unfold Sta.newV; rw [hb]; rfl]
    rw [hb] at HU
    go_enter Try.func6, Try.ntmps6
    go_wp2_with fail
    refine (HU.out _).mono ?_
    rintro e w2 ⟨rfl, rfl⟩
    go_wp2
    exact bodyPost_ret (v := nsr 3 (.slice none 0 0) 0) (by simp [results, Try.results6, go_sem, nsr]) rfl (nret_bad _ _ ((Ext.refl _).alloc _))
  | true =>
    rw [show Sta.newV n = (0, n, [⟨Tre.top, 0, 0, 0, 0⟩]) from by unfold Sta.newV; rw [hb]; rfl]
    rw [hb] at HU
    have HN : Hid (∀ wx : World, Calls Try.prog 18 #[.int .i64 0] wx (ZRet wx 0 ⟨#[]⟩ [⟨Tre.top, 0, 0, 0, 0⟩])) := fun wx => implNewTree_any 0 wx
    go_enter Try.func6, Try.ntmps6
    go_wp2_with fail
    refine (HU.out _).mono ?_
    rintro e w2 ⟨rfl, rfl⟩
    go_wp2_with fail
    refine (HN.out _).mono ?_
    rintro e w3 ⟨v, g, rfl, hg, hO, hb3⟩
    obtain ⟨q, q0, q1, q2, q3, q4, q5, q6, q7, f0, f1, f2, f3, f4, f5, f6, f7⟩ := (nzero_new w _).ext hb3
    have HB : Hid (Ext w w3) := ((Ext.refl _).alloc _).trans hb3
    have hg' : w.heap.size < g := by have := hg; simp only [World.size_alloc] at this; omega
    obtain ⟨a, cap, rfl, hO'⟩ := hO
    have HO : Hid (Own w3 (.slice a 1 cap) g [⟨Tre.top, 0, 0, 0, 0⟩]) := ⟨a, cap, rfl, hO'⟩
    clear hb3 hO' hg
    unfold zr
    have hfl : ∀ W : World, (Instr.field 47 (.agg #[.int .i64 0, .string ⟨#[]⟩, .slice a 1 cap]) 2).run Try.prog W = .ok (.slice a 1 cap) W := fun W => by kernel_rfl
    simp only [List.length_cons, List.length_nil, Nat.zero_add]
    go_wp2
    refine bodyPost_ret (v := nsr 0 (.slice a 1 cap) n) (by simp [results, Try.results6, go_sem, nsr, *]) rfl ⟨_, g, rfl, Nat.le_of_lt hg', ?_, ?_⟩
    · exact own_eight HO.out hg' _ _ _ _ _ _ _ _
    · exact ext_eight HB.out _ _ _ _ _ _ _ _
set_option maxHeartbeats 2000000 in
set_option maxRecDepth 100000 in
theorem l6New_any (w : World) : Calls Try.prog 16 #[] w fun e w' => ∃ a cap g, e = .returned (.agg #[.slice a 1 cap, .slice none 0 0, .int .i64 0, .slice none 0 0]) ∧ w.heap.size ≤ g ∧ Own w' (.slice a 1 cap) g [⟨Tre.top, 0, 0, 0, 0⟩] ∧ Ext w w' := by
  go_enter Try.func16, Try.ntmps16
  go_wp2
  obtain ⟨g, hg, hO⟩ := own_lit (w.alloc (.cells #[.slice (some ⟨w.heap.size + 1, 0, none⟩) 1 1, .slice none 0 0, .int .i64 0, .slice none 0 0] 28)) [⟨Tre.top, 0, 0, 0, 0⟩] #[.string ⟨#[47]⟩, .int .i64 0, .int .i64 0, .int .i64 0, .int .i64 0] 66 rfl (by unfold maxLen; simp)
  simp only [World.size_alloc, List.length_cons, List.length_nil, Nat.zero_add] at hO hg
  exact bodyPost_ret (v := .agg #[.slice (some ⟨w.heap.size + 1, 0, none⟩) 1 1, .slice none 0 0, .int .i64 0, .slice none 0 0]) (by simp [results, Try.results16, go_sem]) rfl ⟨_, _, g, rfl, by omega, hO, ((Ext.refl _).alloc _).alloc _⟩

set_option maxHeartbeats 2000000 in
set_option maxRecDepth 100000 in
theorem specNewState_any (n : Int) (w : World) : Calls Try.prog 5 #[.int .i64 n] w (NRet w (Sta.newV n).1 (Sta.newV n).2.1 (Sta.newV n).2.2) := by
  have HU : Hid (∀ wx : World, Calls Try.prog 15 #[.int .i64 n] wx fun e w' => e = .returned (.bool (Ses.nowOk n)) ∧ w' = wx) := fun wx => l4Now_any _ _
  cases hb : Ses.nowOk n with
  | false =>
    rw [show Sta.newV n = (3, 0, []) from by unfold Sta.newV; rw [hb]; rfl]
    rw [hb] at HU
    go_enter Try.func5, Try.ntmps5
    go_wp2_with fail
    refine (HU.out _).mono ?_
    rintro e w2 ⟨rfl, rfl⟩
    go_wp2
    exact bodyPost_ret (v := nsr 3 (.slice none 0 0) 0) (by simp [results, Try.results5, go_sem, nsr]) rfl (nret_bad _ _ ((Ext.refl _).alloc _))
  | true =>
    rw [show Sta.newV n = (0, n, [⟨Tre.top, 0, 0, 0, 0⟩]) from by unfold Sta.newV; rw [hb]; rfl]
    rw [hb] at HU
    have HN : Hid (∀ wx : World, Calls Try.prog 16 #[] wx fun e w' => ∃ a cap g, e = .returned (.agg #[.slice a 1 cap, .slice none 0 0, .int .i64 0, .slice none 0 0]) ∧ wx.heap.size ≤ g ∧ Own w' (.slice a 1 cap) g [⟨Tre.top, 0, 0, 0, 0⟩] ∧ Ext wx w') := fun wx => l6New_any wx
    go_enter Try.func5, Try.ntmps5
    go_wp2_with fail
    refine (HU.out _).mono ?_
    rintro e w2 ⟨rfl, rfl⟩
    go_wp2_with fail
    refine (HN.out _).mono ?_
    rintro e w3 ⟨a, cap, g, rfl, hg, hO, hb3⟩
    obtain ⟨q, q0, q1, q2, q3, q4, q5, q6, q7, f0, f1, f2, f3, f4, f5, f6, f7⟩ := (nzero_new w _).ext hb3
    have hal := alloc_cell
    have haf := alloc_frozen
    have HB : Hid (Ext w w3) := ((Ext.refl _).alloc _).trans hb3
    have hg' : w.heap.size < g := by have := hg; simp only [World.size_alloc] at this; omega
    have HO : Hid (Own w3 (.slice a 1 cap) g [⟨Tre.top, 0, 0, 0, 0⟩]) := hO
    clear hb3 hO hg
    go_wp2
    refine bodyPost_ret (v := nsr 0 (.slice a 1 cap) n) (by simp [results, Try.results5, go_sem, nsr, *]) rfl ⟨_, g, rfl, Nat.le_of_lt hg', ?_, ?_⟩
    · exact (own_eight HO.out hg' _ _ _ _ _ _ _ _).ext ((Ext.refl _).alloc _)
    · exact (ext_eight HB.out _ _ _ _ _ _ _ _).alloc _
end Go.Proofs.Ytdjnkchaapcjpaa
