/- both MayProposes. -/
import Derived.Test.YtecgjdgfjgcmdaaGreatRmRP5p
import Derived.Test.YtecgjdgfjgcmdaaGreatRmGF
import Derived.Test.YtecgjdgfjgcmdaaGreatRmRP7q
namespace Go.Proofs.YtecgjdgfjgcmdaaGreat
open Go.RowKit
set_option linter.unusedSimpArgs false in
set_option maxHeartbeats 8000000 in
set_option maxRecDepth 100000 in
theorem mayPropose1_any (f : Int) (v : Value) (ms : List Ms) (r : Rp) (u : Value) (L : List Int) (slot : Int) (value : Int) (b0 : Nat) (b1 : Nat) (w : World) (hS : MSlice w v ms) (hI : ISlice w u L) (hL : L = if Msg.inV r = true then Msg.startL ms r.view r.start else []) (hrep : Msg.repC f ms r = 0) (hc0 : w.cell? ⟨b0, 0, none⟩ = some (.int .i64 slot)) (hc1 : w.cell? ⟨b1, 0, none⟩ = some (.int .i64 value)) :
  Calls Tryz.prog 49 #[sagg r f v (Msg.inV r) u, .pointer (some ⟨b0, 0, none⟩), .pointer (some ⟨b1, 0, none⟩)] w (Said KT (Msg.propC f ms r slot value) ⟨1, r.view, r.id, slot, value, [], []⟩ w) := by
 have HC : Hid (∀ wx, Ext w wx → Calls Tryz.prog 50 #[sagg r f v (Msg.inV r) u, .int .i64 slot, .int .i64 value] wx (Said KT (Msg.propC f ms r slot value) ⟨1, r.view, r.id, slot, value, [], []⟩ wx)) := fun wx he => propose_any f v ms r u L slot value wx (hS.ext he) (hI.ext he) hL hrep
 clear hrep hL
 have lt0 := World.block_lt_of_cell? w ⟨b0, 0, none⟩ (by rw [hc0])
 have lt1 := World.block_lt_of_cell? w ⟨b1, 0, none⟩ (by rw [hc1])
 obtain ⟨a, cap, rfl, -, -, -⟩ := hS
 obtain ⟨au, cu, rfl, -, -, -⟩ := hI
 unfold sagg at *
 generalize Msg.propC f ms r slot value = cc at *
 generalize Msg.inV r = bg at *
 go_enter Tryz.func49, Tryz.ntmps49
 have hal := alloc_cell
 go_wp2_with fail
 refine (HC.out _ (((Ext.refl _).alloc _).alloc _)).mono ?_
 rintro e w1 ⟨hb, hh⟩
 have hZ0 := (zbox_new (w.alloc (.cells #[.int .i64 r.id, .int .i64 r.view, .int .i64 r.start, .int .i64 r.done, .int .i64 f, .slice a ms.length cap, .bool bg, .slice au L.length cu] 76)) [.int .i64 0, .int .i64 0, .int .i64 0, .int .i64 0, .int .i64 0, .slice none 0 0, .slice none 0 0] 40).ext hb
 have HZ : Hid (ZBox w1 (w.heap.size + 1) [.int .i64 0, .int .i64 0, .int .i64 0, .int .i64 0, .int .i64 0, .slice none 0 0, .slice none 0 0]) := by (try simp only [World.size_alloc] at hZ0); exact hZ0
 have HE : Hid (Ext w w1) := (((Ext.refl _).alloc _).alloc _).trans hb
 clear hb hZ0 hal
 rcases hh with ⟨hn, rfl⟩ | ⟨hn, az, nz, cz, ax, nx, cx, rfl, -⟩
 ·have HN : Hid (¬ cc = 0) := hn
  clear hn
  unfold refused
  go_wp2
  exact ⟨rfl, HE.out, Or.inl ⟨HN.out, rfl⟩⟩
 ·have HN : Hid (cc = 0) := hn
  clear hn
  unfold magg
  obtain ⟨z0, n0⟩ := HZ.out.2 0 _ rfl
  obtain ⟨z1, n1⟩ := HZ.out.2 1 _ rfl
  obtain ⟨z2, n2⟩ := HZ.out.2 2 _ rfl
  obtain ⟨z3, n3⟩ := HZ.out.2 3 _ rfl
  obtain ⟨z4, n4⟩ := HZ.out.2 4 _ rfl
  obtain ⟨z5, n5⟩ := HZ.out.2 5 _ rfl
  obtain ⟨z6, n6⟩ := HZ.out.2 6 _ rfl
  go_wp2
  refine bodyPost_ret (v := magg ⟨1, r.view, r.id, slot, value, [], []⟩ (.slice az nz cz) (.slice ax nx cx)) (by simp [results, Tryz.results49, go_sem, magg, z0, z1, z2, z3, z4, z5, z6]) rfl ?_
  exact ⟨HE.out.seven _ (by omega) _ _ _ _ _ _ _, Or.inr ⟨HN.out, _, _, _, _, _, _, rfl, trivial⟩⟩

set_option linter.unusedSimpArgs false in
set_option maxHeartbeats 8000000 in
set_option maxRecDepth 100000 in
theorem implMayPropose_any (f : Int) (v : Value) (ms : List Ms) (r : Rp) (slot : Int) (value : Int) (w : World) (hS : MSlice w v ms) :
  Calls Tryz.prog 18 #[.int .i64 f, v, ragg r, .int .i64 slot, .int .i64 value] w fun e w' => e = .returned (.int .i64 (Msg.askC f ms r (Msg.propC f ms r slot value))) ∧ Ext w w' := by
 have HH : Hid (∀ (b0 b1 : Nat) wx, Ext w wx → wx.cell? ⟨b0, 0, none⟩ = some (.int .i64 slot) → wx.cell? ⟨b1, 0, none⟩ = some (.int .i64 value) → Calls Tryz.prog 45 #[.int .i64 f, v, ragg r, .func (.func 49) #[] #[.pointer (some ⟨b0, 0, none⟩), .pointer (some ⟨b1, 0, none⟩)]] wx fun e w' => ∃ m x y, e = .returned (mres (Msg.askC f ms r (Msg.propC f ms r slot value)) m x y) ∧ Ext wx w') := fun b0 b1 wx he q0 q1 => by
  refine (hear_any f v ms r 49 #[.pointer (some ⟨b0, 0, none⟩), .pointer (some ⟨b1, 0, none⟩)] (Msg.propC f ms r slot value) ⟨1, r.view, r.id, slot, value, [], []⟩ KT wx (hS.ext he) KT_kept (fun _ _ => by kernel_rfl) (fun h u wy hy hI => mayPropose1_any f v ms r u _ slot value b0 b1 wy ((hS.ext he).ext hy) hI rfl h (by obtain ⟨hc, _⟩ := Ext.cell hy; exact (hc _ _ (World.block_lt_of_cell? wx ⟨b0, 0, none⟩ (by rw [q0]))).trans q0) (by obtain ⟨hc, _⟩ := Ext.cell hy; exact (hc _ _ (World.block_lt_of_cell? wx ⟨b1, 0, none⟩ (by rw [q1]))).trans q1))).mono ?_
  intro e w' h
  obtain ⟨d, m', x, y, h1, h2, h3⟩ := heardInt h
  exact ⟨m', x, y, by rw [h1, h2], h3⟩
 have hmf : ∀ (fn : Fn) (first cap : Array Value) (w : World), (Instr.makeFunc fn first cap).run Tryz.prog w = .ok (.func fn first cap) w := fun _ _ _ _ => rfl
 have hf0 : ∀ (c0 c1 c2 c3 c4 c5 c6 c7 : Value) (W : World), (Instr.field 42 (.agg #[c0, c1, c2, c3, c4, c5, c6, c7]) 0).run Tryz.prog W = .ok c0 W := fun _ _ _ _ _ _ _ _ _ => by kernel_rfl
 obtain ⟨a, cap, rfl, -, -, -⟩ := hS
 unfold ragg at *
 generalize Msg.askC f ms r (Msg.propC f ms r slot value) = cc at *
 go_enter Tryz.func18, Tryz.ntmps18
 go_wp2_with fail
 refine (HH.out (w.heap.size + 1) (w.heap.size + 2) _ ((((Ext.refl _).alloc _).alloc _).alloc _) ?_ ?_).mono ?_
 ·exact (alloc_cell _ _ _ _ (by simp)).trans (box1 _ _ _ _ (by simp))
 ·exact (box1 _ _ _ _ (by simp))
 rintro e w1 ⟨m, x, y, rfl, hb⟩
 have HE : Hid (Ext w w1) := ((((Ext.refl _).alloc _).alloc _).alloc _).trans hb
 clear hb
 unfold mres
 go_wp2
 go_ret
 exact ⟨rfl, HE.out⟩
end Go.Proofs.YtecgjdgfjgcmdaaGreat
