/- a reply's copy. -/
import Derived.Test.YtfgjodnjahhanaaDoorRY0
import Derived.Test.YtfgjodnjahhanaaDoorClone
namespace Go.Proofs.YtfgjodnjahhanaaDoor
open Go.RowKit
set_option maxHeartbeats 1000000 in
set_option maxRecDepth 100000 in
theorem copyReply_any (c v : Int) (p : ByteArray) (w : World) (hp : p.size ≤ 1048576) : Calls Tryd.prog 41 #[yagg c v p] w fun e w' => e = .returned (yagg c v p) ∧ Ext w w' := by
  have HC : Hid (∀ wx : World, Calls Tryd.prog 54 #[.string p] wx fun e w' => e = .returned (.string p) ∧ Ext wx w') := fun wx => clone_any p wx hp
  unfold yagg
  go_enter Tryd.func41, Tryd.ntmps41
  go_wp2_with fail
  refine (HC.out _).mono ?_
  rintro e w1 ⟨rfl, hb⟩
  have HB : Hid (Ext w w1) := (((Ext.refl _).alloc _).alloc _).trans hb
  have x0 := (ry_new w (.int .i64 c) (.int .i64 v) (.string p) _).ext (((Ext.refl _).alloc _).trans hb)
  have y0 := (ry_new (w.alloc _) (.int .i64 0) (.int .i64 0) (.string ByteArray.empty) _).ext hb
  simp only [World.size_alloc] at y0
  obtain ⟨xl, ⟨xc0, xc1, xc2⟩, xf0, xf1, xf2⟩ := x0
  obtain ⟨yl, ⟨yc0, yc1, yc2⟩, yf0, yf1, yf2⟩ := y0
  clear hb
  go_wp2
  refine bodyPost_ret (v := yagg c v p) (by simp [results, Tryd.results41, go_sem, yagg, *]) rfl ⟨rfl, ?_⟩
  exact (((HB.out.setCell (by simp) _).setCell (by simp) _).setCell (by simp) _).setCell (by simp) _

def yr (c d v : Int) (p : ByteArray) : Value := .agg #[.int .i64 c, .int .i64 d, .int .i64 v, .string p]
def YBoxAt (w : World) (b : Nat) (c d v : Int) (p : ByteArray) : Prop := b < w.heap.size ∧ w.cell? ⟨b, 0, none⟩ = some (.int .i64 c) ∧ w.cell? ⟨b, 1, none⟩ = some (.int .i64 d) ∧ w.cell? ⟨b, 2, none⟩ = some (.int .i64 v) ∧ w.cell? ⟨b, 3, none⟩ = some (.string p)
theorem YBoxAt.ext {w w' : World} {b : Nat} {c d v : Int} {p : ByteArray} (h : YBoxAt w b c d v p) (he : Ext w w') : YBoxAt w' b c d v p := by
  obtain ⟨hc, hf⟩ := Ext.cell he
  obtain ⟨hb, c0, c1, c2, c3⟩ := h
  exact ⟨Nat.lt_of_lt_of_le hb he.size, (hc _ _ hb).trans c0, (hc _ _ hb).trans c1, (hc _ _ hb).trans c2, (hc _ _ hb).trans c3⟩
theorem ybox_new (w : World) (c d v : Int) (p : ByteArray) (t : TypeId) : YBoxAt (w.alloc (.cells #[.int .i64 c, .int .i64 d, .int .i64 v, .string p] t)) w.heap.size c d v p := ⟨by simp, by simp, by simp, by simp, by simp⟩
def yrT (x : Int × Int × Int × ByteArray) : Value := yr x.1 x.2.1 x.2.2.1 x.2.2.2

theorem Ext.four1 {w w2 : World} (h : Ext w w2) (a b c d : Value) : Ext w ((((w2.setCell ⟨w.heap.size + 1, 0, none⟩ a).setCell ⟨w.heap.size + 1, 1, none⟩ b).setCell ⟨w.heap.size + 1, 2, none⟩ c).setCell ⟨w.heap.size + 1, 3, none⟩ d) :=
  (((h.setCell (p := ⟨w.heap.size + 1, 0, none⟩) (by simp) _).setCell (p := ⟨w.heap.size + 1, 1, none⟩) (by simp) _).setCell (p := ⟨w.heap.size + 1, 2, none⟩) (by simp) _).setCell (p := ⟨w.heap.size + 1, 3, none⟩) (by simp) _


end Go.Proofs.YtfgjodnjahhanaaDoor
