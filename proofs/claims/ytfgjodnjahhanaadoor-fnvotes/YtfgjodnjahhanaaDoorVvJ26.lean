/- Clone, RY1, in one text. -/
import Derived.Shelf.LaysM
import Derived.Shelf.Strconv.Clone
import Derived.Test.YtfgjodnjahhanaaDoorVvJ25
import Derived.Test.YtfgjodnjahhanaaDoorVvRY0
namespace Go.Proofs.YtfgjodnjahhanaaDoor
open Go.Shelf Go.RowKit
def cloneRen : Go.Shelf.Ren := ⟨fun | 316 => 64 | n => n, fun | 9 => 9 | 3 => 3 | 4 => 4 | 37 => 32 | 0 => 0 | 127 => 85 | 5 => 5 | n => n, fun | n => n⟩
theorem cloneLays : Go.Proofs.LaysM.n316 Tryd.prog cloneRen := {
  mixed := by kernel_rfl
  f316 := Tryd.func64.trans (congrArg some (by kernel_rfl))
  t0 := Tryd.underlying0
  a0 := Tryd.isAgg0
  z0 := Tryd.sizeOf0
  v0 := Tryd.zeroValue0
  t3 := Tryd.underlying3
  a3 := Tryd.isAgg3
  z3 := Tryd.sizeOf3
  v3 := Tryd.zeroValue3
  t4 := Tryd.underlying4
  a4 := Tryd.isAgg4
  z4 := Tryd.sizeOf4
  v4 := Tryd.zeroValue4
  t9 := Tryd.underlying9
  a9 := Tryd.isAgg9
  z9 := Tryd.sizeOf9
  v9 := Tryd.zeroValue9
  t37 := Tryd.underlying32
  a37 := Tryd.isAgg32
  z37 := Tryd.sizeOf32
  v37 := Tryd.zeroValue32
  t127 := Tryd.underlying85
  a127 := Tryd.isAgg85
  z127 := Tryd.sizeOf85
  v127 := Tryd.zeroValue85
  t5 := Tryd.underlying5
  a5 := Tryd.isAgg5
  z5 := Tryd.sizeOf5
  v5 := Tryd.zeroValue5
  i0 := by kernel_rfl
  i3 := by kernel_rfl
  i4 := by kernel_rfl
  i5 := by kernel_rfl
  i9 := by kernel_rfl
  i37 := by kernel_rfl
  i127 := by kernel_rfl }
theorem slClone_any (s : ByteArray) (w : World) (hs : s.size ≤ 1048576) :
    Calls Tryd.prog 64 #[.string s] w fun e w' => e = .returned (.string s) ∧ Ext w w' := Any.stringslite_Clone cloneLays s w (by omega)
theorem clone_any (s : ByteArray) (w : World) (hs : s.size ≤ 1048576) :
    Calls Tryd.prog 54 #[.string s] w fun e w' => e = .returned (.string s) ∧ Ext w w' := by
  go_enter Tryd.func54, Tryd.ntmps54
  go_wp2_with (go_at_call 64; refine (slClone_any s _ hs).mono ?_; rintro e w' ⟨rfl, hb⟩)
  go_ret
  exact ⟨rfl, hb⟩
end Go.Proofs.YtfgjodnjahhanaaDoor
namespace Go.Proofs.YtfgjodnjahhanaaDoor
open Go.RowKit
set_option maxHeartbeats 1000000 in
set_option maxRecDepth 100000 in
theorem copyReply_any (c v : Int) (p : ByteArray) (w : World) (hp : p.size ≤ 1048576) : Calls Tryd.prog 41 #[yagg c v p] w fun e w' => e = .returned (yagg c v p) ∧ Ext w w' := by
  have HC : Hid (∀ wx : World, Calls Tryd.prog 54 #[.string p] wx fun e w' => e = .returned (.string p) ∧ Ext wx w') := fun wx => clone_any p wx hp
  unfold yagg
  go_enter Tryd.func41, Tryd.ntmps41
  go_wp2_with fail
  refine (HC.out _).mono ?_
  rintro e w1 ⟨rfl, hb⟩
  have HB : Hid (Ext w w1) := (((Ext.refl _).alloc _).alloc _).trans hb
  have x0 := (ry_new w (.int .i64 c) (.int .i64 v) (.string p) _).ext (((Ext.refl _).alloc _).trans hb)
  have y0 := (ry_new (w.alloc _) (.int .i64 0) (.int .i64 0) (.string ByteArray.empty) _).ext hb
  simp only [World.size_alloc] at y0
  obtain ⟨xl, ⟨xc0, xc1, xc2⟩, xf0, xf1, xf2⟩ := x0
  obtain ⟨yl, ⟨yc0, yc1, yc2⟩, yf0, yf1, yf2⟩ := y0
  clear hb
  go_wp2
  refine bodyPost_ret (v := yagg c v p) (by simp [results, Tryd.results41, go_sem, yagg, *]) rfl ⟨rfl, ?_⟩
  exact (((HB.out.setCell (by simp) _).setCell (by simp) _).setCell (by simp) _).setCell (by simp) _

def yr (c d v : Int) (p : ByteArray) : Value := .agg #[.int .i64 c, .int .i64 d, .int .i64 v, .string p]
def YBoxAt (w : World) (b : Nat) (c d v : Int) (p : ByteArray) : Prop := b < w.heap.size ∧ w.cell? ⟨b, 0, none⟩ = some (.int .i64 c) ∧ w.cell? ⟨b, 1, none⟩ = some (.int .i64 d) ∧ w.cell? ⟨b, 2, none⟩ = some (.int .i64 v) ∧ w.cell? ⟨b, 3, none⟩ = some (.string p)
theorem YBoxAt.ext {w w' : World} {b : Nat} {c d v : Int} {p : ByteArray} (h : YBoxAt w b c d v p) (he : Ext w w') : YBoxAt w' b c d v p := by
  obtain ⟨hc, hf⟩ := Ext.cell he
  obtain ⟨hb, c0, c1, c2, c3⟩ := h
  exact ⟨Nat.lt_of_lt_of_le hb he.size, (hc _ _ hb).trans c0, (hc _ _ hb).trans c1, (hc _ _ hb).trans c2, (hc _ _ hb).trans c3⟩
def yrT (x : Int × Int × Int × ByteArray) : Value := yr x.1 x.2.1 x.2.2.1 x.2.2.2

end Go.Proofs.YtfgjodnjahhanaaDoor
