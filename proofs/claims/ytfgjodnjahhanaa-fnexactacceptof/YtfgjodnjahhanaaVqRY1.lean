/- a reply's copy. -/
import Derived.Test.YtfgjodnjahhanaaVqRY0
import Derived.Test.YtfgjodnjahhanaaVqClone
namespace Go.Proofs.Ytfgjodnjahhanaa
open Go.RowKit
set_option maxHeartbeats 1000000 in
set_option maxRecDepth 100000 in
theorem copyReply_any (c v : Int) (p : ByteArray) (w : World) (hp : p.size ≤ 1048576) : Calls Try.prog 47 #[yagg c v p] w fun e w' => e = .returned (yagg c v p) ∧ Ext w w' := by
  have HC : Hid (∀ wx : World, Calls Try.prog 52 #[.string p] wx fun e w' => e = .returned (.string p) ∧ Ext wx w') := fun wx => clone_any p wx hp
  unfold yagg
  go_enter Try.func47, Try.ntmps47
  go_wp2_with fail
  refine (HC.out _).mono ?_
  rintro e w1 ⟨rfl, hb⟩
  have HB : Hid (Ext w w1) := (((Ext.refl _).alloc _).alloc _).trans hb
  have x0 := (ry_new w (.int .i64 c) (.int .i64 v) (.string p) _).ext (((Ext.refl _).alloc _).trans hb)
  have y0 := (ry_new (w.alloc _) (.int .i64 0) (.int .i64 0) (.string ByteArray.empty) _).ext hb
  simp only [World.size_alloc] at y0
  obtain ⟨xl, ⟨xc0, xc1, xc2⟩, xf0, xf1, xf2⟩ := x0
  obtain ⟨yl, ⟨yc0, yc1, yc2⟩, yf0, yf1, yf2⟩ := y0
  clear hb
  go_wp2
  refine bodyPost_ret (v := yagg c v p) (by simp [results, Try.results47, go_sem, yagg, *]) rfl ⟨rfl, ?_⟩
  exact (((HB.out.setCell (by simp) _).setCell (by simp) _).setCell (by simp) _).setCell (by simp) _

def yr (c d v : Int) (p : ByteArray) : Value := .agg #[.int .i64 c, .int .i64 d, .int .i64 v, .string p]
def YBoxAt (w : World) (b : Nat) (c d v : Int) (p : ByteArray) : Prop := b < w.heap.size ∧ w.cell? ⟨b, 0, none⟩ = some (.int .i64 c) ∧ w.cell? ⟨b, 1, none⟩ = some (.int .i64 d) ∧ w.cell? ⟨b, 2, none⟩ = some (.int .i64 v) ∧ w.cell? ⟨b, 3, none⟩ = some (.string p)
theorem YBoxAt.ext {w w' : World} {b : Nat} {c d v : Int} {p : ByteArray} (h : YBoxAt w b c d v p) (he : Ext w w') : YBoxAt w' b c d v p := by
  obtain ⟨hc, hf⟩ := Ext.cell he
  obtain ⟨hb, c0, c1, c2, c3⟩ := h
  exact ⟨Nat.lt_of_lt_of_le hb he.size, (hc _ _ hb).trans c0, (hc _ _ hb).trans c1, (hc _ _ hb).trans c2, (hc _ _ hb).trans c3⟩
def yrT (x : Int × Int × Int × ByteArray) : Value := yr x.1 x.2.1 x.2.2.1 x.2.2.2

set_option maxHeartbeats 1000000 in
theorem eqReplyR_same (c d n : Int) (p : ByteArray) (w : World) : Calls Try.prog 21 #[yr c d n p, yr c d n p] w fun e w' => e = .returned (.bool true) ∧ Ext w w' := by
  have HC : Hid (∀ wx : World, Calls Try.prog 37 #[.agg #[.int .i64 d, .int .i64 n, .string p], .agg #[.int .i64 d, .int .i64 n, .string p]] wx fun e w' => e = .returned (.bool true) ∧ Ext wx w') := fun wx => eqReply_same d n p wx
  unfold yr
  go_enter Try.func21, Try.ntmps21
  go_wp2_with fail
  refine (HC.out _).mono ?_
  rintro e w1 ⟨rfl, hb⟩
  have HB : Hid (Ext w w1) := (((Ext.refl _).alloc _).alloc _).trans hb
  clear hb
  go_wp2
  go_ret
  exact ⟨rfl, HB.out⟩
end Go.Proofs.Ytfgjodnjahhanaa
