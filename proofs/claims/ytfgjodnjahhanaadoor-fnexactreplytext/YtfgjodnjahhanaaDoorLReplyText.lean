/- laws.FnExactReplyText answers true at every reply. -/
import Derived.Test.YtfgjodnjahhanaaDoorRT2
namespace Go.Proofs.YtfgjodnjahhanaaDoor
open Go.RowKit
set_option maxHeartbeats 4000000 in
set_option maxRecDepth 100000 in
theorem lawReplyText (c r : Int) (p : ByteArray) (w : World) (ht : Tb w) (hp : p.size ≤ maxLen) :
    Calls Tryd.prog 3 #[yagg c r p] w fun e w' => e = .returned (.bool true) ∧ Ext w w' := by
  have HSz : Hid (∀ wx : World, Calls Tryd.prog 5 #[yagg c r p, .int .i64 1048576] wx fun e w' => ∃ q : Int, e = .returned (.int .i64 q) ∧ Ext wx w') := fun wx => (szReply_any c r p 1048576 wx (by omega) (by omega) hp).mono fun e w' h => ⟨_, h.1, h.2⟩
  have HT : Hid (∀ wx : World, Calls Tryd.prog 7 #[yagg c r p] wx fun e w' => e = .returned (yagg c r p) ∧ Ext wx w') := fun wx => toReply_any c r p wx
  have HS : Hid (∀ wx : World, Calls Tryd.prog 6 #[yagg c r p] wx fun e w' => e = .returned (tr (Rpy.textV c r p)) ∧ Ext wx w') := fun wx => specReplyText_any c r p wx hp
  have HI : Hid (∀ wx : World, Ext w wx → Calls Tryd.prog 8 #[yagg c r p] wx fun e w' => e = .returned (tr (Rpy.textV c r p)) ∧ Ext wx w') := fun wx h => implReplyText_any c r p wx hp (ht.ext h)
  have HQ : Hid (∀ wx : World, Calls Tryd.prog 9 #[tr (Rpy.textV c r p), tr (Rpy.textV c r p)] wx fun e w' => e = .returned (.bool true) ∧ Ext wx w') := eqText_any (Rpy.textV c r p)
  clear hp ht
  generalize Rpy.textV c r p = x at *
  obtain ⟨q, l⟩ := x
  unfold tr at *
  unfold yagg at *
  simp only at *
  generalize mkB l = sx at *
  go_enter Tryd.func3, Tryd.ntmps3
  go_wp2_with fail
  refine (HSz.out _).mono ?_
  rintro e w1 ⟨z, rfl, hb⟩
  have E1 : Hid (Ext w w1) := ((Ext.refl _).alloc _).trans hb
  have A1 : Hid (RyAt w1 w.heap.size (.int .i64 c) (.int .i64 r) (.string p)) := (ry_new w _ _ _ _).ext hb
  clear hb HSz
  by_cases hn : z < 0
  · go_wp2
    go_ret
    exact ⟨rfl, E1.out⟩
  obtain ⟨al, ⟨a0, a1, a2⟩, -⟩ := A1.out
  go_wp2_with fail
  refine (HT.out _).mono ?_
  rintro e w2 ⟨rfl, hb⟩
  have E2 : Hid (Ext w w2) := E1.out.trans hb
  have A2 : Hid (RyAt w2 w.heap.size (.int .i64 c) (.int .i64 r) (.string p)) := A1.out.ext hb
  clear hb E1 A1 al a0 a1 a2
  go_wp2_with fail
  refine (HS.out _).mono ?_
  rintro e w3 ⟨rfl, hb⟩
  have E3 : Hid (Ext w w3) := E2.out.trans hb
  have A3 : Hid (RyAt w3 w.heap.size (.int .i64 c) (.int .i64 r) (.string p)) := A2.out.ext hb
  clear hb E2 A2
  obtain ⟨al, ⟨a0, a1, a2⟩, -⟩ := A3.out
  have hal := alloc_cell
  go_wp2_with fail
  refine (HT.out _).mono ?_
  rintro e w4 ⟨rfl, hb⟩
  have E4 : Hid (Ext w w4) := (E3.out.alloc _).trans hb
  have X4 : Hid (TBoxAt w4 w3.heap.size q sx) := (tbox_new w3 q sx _).ext hb
  clear hb E3 A3 al a0 a1 a2 hal
  go_wp2_with fail
  refine (HI.out _ E4.out).mono ?_
  rintro e w5 ⟨rfl, hb⟩
  have E5 : Hid (Ext w w5) := E4.out.trans hb
  have X5 : Hid (TBoxAt w5 w3.heap.size q sx) := X4.out.ext hb
  clear hb E4 X4
  obtain ⟨Xlt, Xc0, Xc1, -, -⟩ := X5.out
  have hal := alloc_cell
  go_wp2_with fail
  refine (HQ.out _).mono ?_
  rintro e w6 ⟨rfl, hb⟩
  have E6 : Hid (Ext w w6) := (E5.out.alloc _).trans hb
  clear hb E5 X5 Xlt Xc0 Xc1 hal
  go_wp2
  go_ret
  exact ⟨rfl, E6.out⟩
end Go.Proofs.YtfgjodnjahhanaaDoor
