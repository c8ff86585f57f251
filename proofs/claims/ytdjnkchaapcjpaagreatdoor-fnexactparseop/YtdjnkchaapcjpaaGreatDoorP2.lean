/- the words of an operation: deedOf and wordsBehind of the program, kind by kind. -/
import Derived.Test.YtdjnkchaapcjpaaGreatDoorP1
import Derived.Test.YtdjnkchaapcjpaaGreatDoorS2
import Derived.Deep.RegionHeld3
namespace Go.Proofs.YtdjnkchaapcjpaaGreatDoor
open Go.RowKit
set_option maxHeartbeats 1000000 in
theorem deedOf_1 (p : ByteArray) (d v : Int) (s q : Bool) (w : World) : Calls Tryz.prog 69 #[oagg ⟨1, p, d, v, s, q⟩] w fun e w' => e = .returned (.iface 184 (.agg #[])) ∧ Ext w w' := by
  unfold oagg
  go_enter Tryz.func69, Tryz.ntmps69
  go_wp2
  go_ret
  exact ⟨rfl, (Ext.refl _).alloc _⟩
set_option maxHeartbeats 1000000 in
theorem deedOf_2 (p : ByteArray) (d v : Int) (s q : Bool) (w : World) : Calls Tryz.prog 69 #[oagg ⟨2, p, d, v, s, q⟩] w fun e w' => e = .returned (.iface 185 (.agg #[])) ∧ Ext w w' := by
  unfold oagg
  go_enter Tryz.func69, Tryz.ntmps69
  go_wp2
  go_ret
  exact ⟨rfl, (Ext.refl _).alloc _⟩
set_option maxHeartbeats 1000000 in
theorem deedOf_3 (p : ByteArray) (d v : Int) (s q : Bool) (w : World) : Calls Tryz.prog 69 #[oagg ⟨3, p, d, v, s, q⟩] w fun e w' => e = .returned (.iface 187 (.agg #[.string p, .int .i64 d, .bool s, .bool q])) ∧ Ext w w' := by
  unfold oagg
  go_enter Tryz.func69, Tryz.ntmps69
  go_wp2
  go_ret
  exact ⟨rfl, (Ext.refl _).alloc _⟩
set_option maxHeartbeats 1000000 in
theorem deedOf_4 (p : ByteArray) (d v : Int) (s q : Bool) (w : World) : Calls Tryz.prog 69 #[oagg ⟨4, p, d, v, s, q⟩] w fun e w' => e = .returned (.iface 189 (.agg #[.string p, .int .i64 v])) ∧ Ext w w' := by
  unfold oagg
  go_enter Tryz.func69, Tryz.ntmps69
  go_wp2
  go_ret
  exact ⟨rfl, (Ext.refl _).alloc _⟩
set_option maxHeartbeats 1000000 in
theorem deedOf_5 (p : ByteArray) (d v : Int) (s q : Bool) (w : World) : Calls Tryz.prog 69 #[oagg ⟨5, p, d, v, s, q⟩] w fun e w' => e = .returned (.iface 191 (.agg #[.string p, .int .i64 d, .int .i64 v])) ∧ Ext w w' := by
  unfold oagg
  go_enter Tryz.func69, Tryz.ntmps69
  go_wp2
  go_ret
  exact ⟨rfl, (Ext.refl _).alloc _⟩
set_option maxHeartbeats 1000000 in
theorem deedOf_6 (p : ByteArray) (d v : Int) (s q : Bool) (w : World) : Calls Tryz.prog 69 #[oagg ⟨6, p, d, v, s, q⟩] w fun e w' => e = .returned (.iface 193 (.agg #[.string p])) ∧ Ext w w' := by
  unfold oagg
  go_enter Tryz.func69, Tryz.ntmps69
  go_wp2
  go_ret
  exact ⟨rfl, (Ext.refl _).alloc _⟩
set_option maxHeartbeats 1000000 in
theorem deedOf_7 (p : ByteArray) (d v : Int) (s q : Bool) (w : World) : Calls Tryz.prog 69 #[oagg ⟨7, p, d, v, s, q⟩] w fun e w' => e = .returned (.iface 194 (.agg #[.string p])) ∧ Ext w w' := by
  unfold oagg
  go_enter Tryz.func69, Tryz.ntmps69
  go_wp2
  go_ret
  exact ⟨rfl, (Ext.refl _).alloc _⟩
set_option maxHeartbeats 1000000 in
theorem deedOf_8 (p : ByteArray) (d v : Int) (s q : Bool) (w : World) : Calls Tryz.prog 69 #[oagg ⟨8, p, d, v, s, q⟩] w fun e w' => e = .returned (.iface 195 (.agg #[.string p, .int .i64 v])) ∧ Ext w w' := by
  unfold oagg
  go_enter Tryz.func69, Tryz.ntmps69
  go_wp2
  go_ret
  exact ⟨rfl, (Ext.refl _).alloc _⟩
theorem txts_lit (w : World) (ps : List ByteArray) (cs : Array Value) (hc : cs.toList = ps.map Value.string) (hl : ps.length ≤ 100) (n : Nat) (hn : n = ps.length) : Txts (w.alloc (.cells cs 9)) (.slice (some ⟨w.heap.size, 0, none⟩) n n) ps := by
  subst hn
  refine ⟨w.heap.size, 0, ps.length, rfl, Nat.le_refl _, by unfold maxLen; omega, fun j b hj => ?_⟩
  rw [Nat.zero_add, World.cell?_alloc_at _ _ _ _ rfl]
  have h2 : cs[j]? = some (.string b) := by rw [← Array.getElem?_toList, hc, List.getElem?_map, hj]; rfl
  simpa using h2
set_option maxHeartbeats 1000000 in
set_option maxRecDepth 100000 in
theorem wordsBehind_1 (w : World) : Calls Tryz.prog 70 #[.iface 184 (.agg #[])] w fun e w' => e = .returned (.slice none 0 0) ∧ Ext w w' := by
  have ta3 : ∀ W : World, (Instr.typeAssert (.iface 184 (.agg #[])) 113 187 true).run Tryz.prog W = .ok (.tuple #[.agg #[.string ByteArray.empty, .int .i64 0, .bool false, .bool false], .bool false]) W := fun W => by kernel_rfl
  have ta4 : ∀ W : World, (Instr.typeAssert (.iface 184 (.agg #[])) 113 189 true).run Tryz.prog W = .ok (.tuple #[.agg #[.string ByteArray.empty, .int .i64 0], .bool false]) W := fun W => by kernel_rfl
  have ta5 : ∀ W : World, (Instr.typeAssert (.iface 184 (.agg #[])) 113 191 true).run Tryz.prog W = .ok (.tuple #[.agg #[.string ByteArray.empty, .int .i64 0, .int .i64 0], .bool false]) W := fun W => by kernel_rfl
  have ta6 : ∀ W : World, (Instr.typeAssert (.iface 184 (.agg #[])) 113 193 true).run Tryz.prog W = .ok (.tuple #[.agg #[.string ByteArray.empty], .bool false]) W := fun W => by kernel_rfl
  have ta7 : ∀ W : World, (Instr.typeAssert (.iface 184 (.agg #[])) 113 194 true).run Tryz.prog W = .ok (.tuple #[.agg #[.string ByteArray.empty], .bool false]) W := fun W => by kernel_rfl
  have ta8 : ∀ W : World, (Instr.typeAssert (.iface 184 (.agg #[])) 113 195 true).run Tryz.prog W = .ok (.tuple #[.agg #[.string ByteArray.empty, .int .i64 0], .bool false]) W := fun W => by kernel_rfl
  go_enter Tryz.func70, Tryz.ntmps70
  go_wp2
  go_ret
  exact ⟨rfl, Ext.refl _⟩
set_option maxHeartbeats 1000000 in
set_option maxRecDepth 100000 in
theorem wordsBehind_2 (w : World) : Calls Tryz.prog 70 #[.iface 185 (.agg #[])] w fun e w' => e = .returned (.slice none 0 0) ∧ Ext w w' := by
  have ta3 : ∀ W : World, (Instr.typeAssert (.iface 185 (.agg #[])) 113 187 true).run Tryz.prog W = .ok (.tuple #[.agg #[.string ByteArray.empty, .int .i64 0, .bool false, .bool false], .bool false]) W := fun W => by kernel_rfl
  have ta4 : ∀ W : World, (Instr.typeAssert (.iface 185 (.agg #[])) 113 189 true).run Tryz.prog W = .ok (.tuple #[.agg #[.string ByteArray.empty, .int .i64 0], .bool false]) W := fun W => by kernel_rfl
  have ta5 : ∀ W : World, (Instr.typeAssert (.iface 185 (.agg #[])) 113 191 true).run Tryz.prog W = .ok (.tuple #[.agg #[.string ByteArray.empty, .int .i64 0, .int .i64 0], .bool false]) W := fun W => by kernel_rfl
  have ta6 : ∀ W : World, (Instr.typeAssert (.iface 185 (.agg #[])) 113 193 true).run Tryz.prog W = .ok (.tuple #[.agg #[.string ByteArray.empty], .bool false]) W := fun W => by kernel_rfl
  have ta7 : ∀ W : World, (Instr.typeAssert (.iface 185 (.agg #[])) 113 194 true).run Tryz.prog W = .ok (.tuple #[.agg #[.string ByteArray.empty], .bool false]) W := fun W => by kernel_rfl
  have ta8 : ∀ W : World, (Instr.typeAssert (.iface 185 (.agg #[])) 113 195 true).run Tryz.prog W = .ok (.tuple #[.agg #[.string ByteArray.empty, .int .i64 0], .bool false]) W := fun W => by kernel_rfl
  go_enter Tryz.func70, Tryz.ntmps70
  go_wp2
  go_ret
  exact ⟨rfl, Ext.refl _⟩
set_option maxHeartbeats 1000000 in
set_option maxRecDepth 100000 in
theorem wordsBehind_6 (p : ByteArray) (w : World) : Calls Tryz.prog 70 #[.iface 193 (.agg #[.string p])] w fun e w' => ∃ u, e = .returned u ∧ Txts w' u [p] ∧ Ext w w' := by
  have ta3 : ∀ W : World, (Instr.typeAssert (.iface 193 (.agg #[.string p])) 113 187 true).run Tryz.prog W = .ok (.tuple #[.agg #[.string ByteArray.empty, .int .i64 0, .bool false, .bool false], .bool false]) W := fun W => by kernel_rfl
  have ta4 : ∀ W : World, (Instr.typeAssert (.iface 193 (.agg #[.string p])) 113 189 true).run Tryz.prog W = .ok (.tuple #[.agg #[.string ByteArray.empty, .int .i64 0], .bool false]) W := fun W => by kernel_rfl
  have ta5 : ∀ W : World, (Instr.typeAssert (.iface 193 (.agg #[.string p])) 113 191 true).run Tryz.prog W = .ok (.tuple #[.agg #[.string ByteArray.empty, .int .i64 0, .int .i64 0], .bool false]) W := fun W => by kernel_rfl
  have ta6 : ∀ W : World, (Instr.typeAssert (.iface 193 (.agg #[.string p])) 113 193 true).run Tryz.prog W = .ok (.tuple #[.agg #[.string p], .bool true]) W := fun W => by kernel_rfl
  go_enter Tryz.func70, Tryz.ntmps70
  go_wp2
  go_ret
  have h := txts_lit (w.alloc (.cells #[.string p] 193)) [p] #[.string p] rfl (by simp) 1 rfl
  simp only [World.size_alloc] at h
  exact ⟨_, rfl, h, ((Ext.refl _).alloc _).alloc _⟩
set_option maxHeartbeats 1000000 in
set_option maxRecDepth 100000 in
theorem wordsBehind_7 (p : ByteArray) (w : World) : Calls Tryz.prog 70 #[.iface 194 (.agg #[.string p])] w fun e w' => ∃ u, e = .returned u ∧ Txts w' u [p] ∧ Ext w w' := by
  have ta3 : ∀ W : World, (Instr.typeAssert (.iface 194 (.agg #[.string p])) 113 187 true).run Tryz.prog W = .ok (.tuple #[.agg #[.string ByteArray.empty, .int .i64 0, .bool false, .bool false], .bool false]) W := fun W => by kernel_rfl
  have ta4 : ∀ W : World, (Instr.typeAssert (.iface 194 (.agg #[.string p])) 113 189 true).run Tryz.prog W = .ok (.tuple #[.agg #[.string ByteArray.empty, .int .i64 0], .bool false]) W := fun W => by kernel_rfl
  have ta5 : ∀ W : World, (Instr.typeAssert (.iface 194 (.agg #[.string p])) 113 191 true).run Tryz.prog W = .ok (.tuple #[.agg #[.string ByteArray.empty, .int .i64 0, .int .i64 0], .bool false]) W := fun W => by kernel_rfl
  have ta6 : ∀ W : World, (Instr.typeAssert (.iface 194 (.agg #[.string p])) 113 193 true).run Tryz.prog W = .ok (.tuple #[.agg #[.string ByteArray.empty], .bool false]) W := fun W => by kernel_rfl
  have ta7 : ∀ W : World, (Instr.typeAssert (.iface 194 (.agg #[.string p])) 113 194 true).run Tryz.prog W = .ok (.tuple #[.agg #[.string p], .bool true]) W := fun W => by kernel_rfl
  go_enter Tryz.func70, Tryz.ntmps70
  go_wp2
  go_ret
  have h := txts_lit (w.alloc (.cells #[.string p] 194)) [p] #[.string p] rfl (by simp) 1 rfl
  simp only [World.size_alloc] at h
  exact ⟨_, rfl, h, ((Ext.refl _).alloc _).alloc _⟩
set_option maxHeartbeats 2000000 in
set_option maxRecDepth 100000 in
theorem wordsBehind_4 (p : ByteArray) (v : Int) (w : World) (ht : Tb w) (hv0 : -1 ≤ v) (hv1 : v ≤ 999) : Calls Tryz.prog 70 #[.iface 189 (.agg #[.string p, .int .i64 v])] w fun e w' => ∃ u, e = .returned u ∧ Txts w' u [p, mkB (Opr.verT v)] ∧ Ext w w' := by
  have HV : Hid (∀ wx : World, Ext w wx → Calls Tryz.prog 133 #[.int .i64 v] wx fun e w' => e = .returned (.string (mkB (Opr.verT v))) ∧ Ext wx w') := fun wx he => versionText_any v wx hv0 hv1 (ht.ext he)
  clear ht hv0 hv1
  generalize mkB (Opr.verT v) = vt at *
  have ta3 : ∀ W : World, (Instr.typeAssert (.iface 189 (.agg #[.string p, .int .i64 v])) 113 187 true).run Tryz.prog W = .ok (.tuple #[.agg #[.string ByteArray.empty, .int .i64 0, .bool false, .bool false], .bool false]) W := fun W => by kernel_rfl
  have ta4 : ∀ W : World, (Instr.typeAssert (.iface 189 (.agg #[.string p, .int .i64 v])) 113 189 true).run Tryz.prog W = .ok (.tuple #[.agg #[.string p, .int .i64 v], .bool true]) W := fun W => by kernel_rfl
  have E1 : Hid (Ext w (w.alloc (.cells #[.string p, .int .i64 v] 189))) := (Ext.refl _).alloc _
  have Lw1 : w.heap.size < (w.alloc (.cells #[.string p, .int .i64 v] 189)).heap.size := by simp
  have x0 : (w.alloc (.cells #[.string p, .int .i64 v] 189)).cell? ⟨w.heap.size, 0, none⟩ = some (.string p) := by simp
  have x1 : (w.alloc (.cells #[.string p, .int .i64 v] 189)).cell? ⟨w.heap.size, 1, none⟩ = some (.int .i64 v) := by simp
  go_enter Tryz.func70, Tryz.ntmps70
  go_wp2
  generalize w.alloc (.cells #[.string p, .int .i64 v] 189) = w1 at *
  generalize w.heap.size = bx at *
  go_region_held3 (fun W => W.cell? ⟨bx, 0, none⟩ = some (.string p) ∧ W.cell? ⟨bx, 1, none⟩ = some (.int .i64 v)) (first | exact ⟨x0, x1⟩ | exact ⟨z0, z1⟩ | exact ⟨(alloc_cell _ _ _ _ Lw3).trans z0, (alloc_cell _ _ _ _ Lw3).trans z1⟩ | go_keep) (first | (go_at_call 133; refine (HV.out _ (by first | exact E1.out.drew | exact E1.out)).mono ?_; rintro e w3 ⟨rfl, hb⟩; have Xw3 : Hid (Ext w1 w3) := (by first | exact ((Ext.refl _).drew).trans hb | exact hb); have Ew3 : Hid (Ext w w3) := E1.out.trans Xw3.out; have Lw3 : bx < w3.heap.size := Nat.lt_of_lt_of_le Lw1 Xw3.out.size; have z0 : w3.cell? ⟨bx, 0, none⟩ = some (.string p) := ((Ext.cell Xw3.out).1 _ _ Lw1).trans x0; have z1 : w3.cell? ⟨bx, 1, none⟩ = some (.int .i64 v) := ((Ext.cell Xw3.out).1 _ _ Lw1).trans x1; clear hb Xw3 x0 x1 Lw1 E1))
  all_goals
    go_wp2
    go_ret
    exact ⟨_, rfl, txts_lit _ [p, vt] _ rfl (by simp) 2 rfl, Ew3.out.alloc _⟩
set_option maxHeartbeats 2000000 in
set_option maxRecDepth 100000 in
theorem wordsBehind_5 (p : ByteArray) (d v : Int) (w : World) (ht : Tb w) (hd0 : -1 ≤ d) (hd1 : d ≤ 9999) (hv0 : -1 ≤ v) (hv1 : v ≤ 999) : Calls Tryz.prog 70 #[.iface 191 (.agg #[.string p, .int .i64 d, .int .i64 v])] w fun e w' => ∃ u, e = .returned u ∧ Txts w' u [p, mkB (Lib.itoa d), mkB (Opr.verT v)] ∧ Ext w w' := by
  have HN : Hid (∀ wx : World, Ext w wx → Calls Tryz.prog 78 #[.int .i64 d] wx fun e w' => e = .returned (.string (mkB (Lib.itoa d))) ∧ Ext wx w') := fun wx he => numberText_any d wx hd0 (by omega) (ht.ext he)
  have HV : Hid (∀ wx : World, Ext w wx → Calls Tryz.prog 133 #[.int .i64 v] wx fun e w' => e = .returned (.string (mkB (Opr.verT v))) ∧ Ext wx w') := fun wx he => versionText_any v wx hv0 hv1 (ht.ext he)
  clear ht hv0 hv1 hd0 hd1
  generalize mkB (Opr.verT v) = vt at *
  generalize mkB (Lib.itoa d) = dt at *
  have ta3 : ∀ W : World, (Instr.typeAssert (.iface 191 (.agg #[.string p, .int .i64 d, .int .i64 v])) 113 187 true).run Tryz.prog W = .ok (.tuple #[.agg #[.string ByteArray.empty, .int .i64 0, .bool false, .bool false], .bool false]) W := fun W => by kernel_rfl
  have ta4 : ∀ W : World, (Instr.typeAssert (.iface 191 (.agg #[.string p, .int .i64 d, .int .i64 v])) 113 189 true).run Tryz.prog W = .ok (.tuple #[.agg #[.string ByteArray.empty, .int .i64 0], .bool false]) W := fun W => by kernel_rfl
  have ta5 : ∀ W : World, (Instr.typeAssert (.iface 191 (.agg #[.string p, .int .i64 d, .int .i64 v])) 113 191 true).run Tryz.prog W = .ok (.tuple #[.agg #[.string p, .int .i64 d, .int .i64 v], .bool true]) W := fun W => by kernel_rfl
  have E1 : Hid (Ext w (w.alloc (.cells #[.string p, .int .i64 d, .int .i64 v] 191))) := (Ext.refl _).alloc _
  have Lw1 : w.heap.size < (w.alloc (.cells #[.string p, .int .i64 d, .int .i64 v] 191)).heap.size := by simp
  have x0 : (w.alloc (.cells #[.string p, .int .i64 d, .int .i64 v] 191)).cell? ⟨w.heap.size, 0, none⟩ = some (.string p) := by simp
  have x1 : (w.alloc (.cells #[.string p, .int .i64 d, .int .i64 v] 191)).cell? ⟨w.heap.size, 1, none⟩ = some (.int .i64 d) := by simp
  have x2 : (w.alloc (.cells #[.string p, .int .i64 d, .int .i64 v] 191)).cell? ⟨w.heap.size, 2, none⟩ = some (.int .i64 v) := by simp
  go_enter Tryz.func70, Tryz.ntmps70
  go_wp2
  generalize w.alloc (.cells #[.string p, .int .i64 d, .int .i64 v] 191) = w1 at *
  generalize w.heap.size = bx at *
  go_region_held3 (fun W => W.cell? ⟨bx, 0, none⟩ = some (.string p) ∧ W.cell? ⟨bx, 1, none⟩ = some (.int .i64 d) ∧ W.cell? ⟨bx, 2, none⟩ = some (.int .i64 v)) (first | exact ⟨x0, x1, x2⟩ | exact ⟨y0, y1, y2⟩ | exact ⟨z0, z1, z2⟩ | exact ⟨(alloc_cell _ _ _ _ Lw3).trans z0, (alloc_cell _ _ _ _ Lw3).trans z1, (alloc_cell _ _ _ _ Lw3).trans z2⟩ | go_keep) (first | (go_at_call 78; refine (HN.out _ (by first | exact E1.out.drew | exact E1.out)).mono ?_; rintro e w2 ⟨rfl, hb⟩; have Xw2 : Hid (Ext w1 w2) := (by first | exact ((Ext.refl _).drew).trans hb | exact hb); have Ew2 : Hid (Ext w w2) := E1.out.trans Xw2.out; have Lw2 : bx < w2.heap.size := Nat.lt_of_lt_of_le Lw1 Xw2.out.size; have y0 : w2.cell? ⟨bx, 0, none⟩ = some (.string p) := ((Ext.cell Xw2.out).1 _ _ Lw1).trans x0; have y1 : w2.cell? ⟨bx, 1, none⟩ = some (.int .i64 d) := ((Ext.cell Xw2.out).1 _ _ Lw1).trans x1; have y2 : w2.cell? ⟨bx, 2, none⟩ = some (.int .i64 v) := ((Ext.cell Xw2.out).1 _ _ Lw1).trans x2; clear hb Xw2 x0 x1 x2 Lw1 E1) | (go_at_call 133; refine (HV.out _ (by first | exact Ew2.out.drew | exact Ew2.out)).mono ?_; rintro e w3 ⟨rfl, hb⟩; have Xw3 : Hid (Ext w2 w3) := (by first | exact ((Ext.refl _).drew).trans hb | exact hb); have Ew3 : Hid (Ext w w3) := Ew2.out.trans Xw3.out; have Lw3 : bx < w3.heap.size := Nat.lt_of_lt_of_le Lw2 Xw3.out.size; have z0 : w3.cell? ⟨bx, 0, none⟩ = some (.string p) := ((Ext.cell Xw3.out).1 _ _ Lw2).trans y0; have z1 : w3.cell? ⟨bx, 1, none⟩ = some (.int .i64 d) := ((Ext.cell Xw3.out).1 _ _ Lw2).trans y1; have z2 : w3.cell? ⟨bx, 2, none⟩ = some (.int .i64 v) := ((Ext.cell Xw3.out).1 _ _ Lw2).trans y2; clear hb Xw3 y0 y1 y2 Lw2 Ew2))
  all_goals
    go_wp2
    go_ret
    exact ⟨_, rfl, txts_lit _ [p, dt, vt] _ rfl (by simp) 3 rfl, Ew3.out.alloc _⟩
set_option maxHeartbeats 2000000 in
set_option maxRecDepth 100000 in
theorem wordsBehind_8 (p : ByteArray) (v : Int) (w : World) (ht : Tb w) (hv0 : -1 ≤ v) (hv1 : v ≤ 999) : Calls Tryz.prog 70 #[.iface 195 (.agg #[.string p, .int .i64 v])] w fun e w' => ∃ u, e = .returned u ∧ Txts w' u [p, mkB (Opr.verT v)] ∧ Ext w w' := by
  have HV : Hid (∀ wx : World, Ext w wx → Calls Tryz.prog 133 #[.int .i64 v] wx fun e w' => e = .returned (.string (mkB (Opr.verT v))) ∧ Ext wx w') := fun wx he => versionText_any v wx hv0 hv1 (ht.ext he)
  clear ht hv0 hv1
  generalize mkB (Opr.verT v) = vt at *
  have ta3 : ∀ W : World, (Instr.typeAssert (.iface 195 (.agg #[.string p, .int .i64 v])) 113 187 true).run Tryz.prog W = .ok (.tuple #[.agg #[.string ByteArray.empty, .int .i64 0, .bool false, .bool false], .bool false]) W := fun W => by kernel_rfl
  have ta4 : ∀ W : World, (Instr.typeAssert (.iface 195 (.agg #[.string p, .int .i64 v])) 113 189 true).run Tryz.prog W = .ok (.tuple #[.agg #[.string ByteArray.empty, .int .i64 0], .bool false]) W := fun W => by kernel_rfl
  have ta5 : ∀ W : World, (Instr.typeAssert (.iface 195 (.agg #[.string p, .int .i64 v])) 113 191 true).run Tryz.prog W = .ok (.tuple #[.agg #[.string ByteArray.empty, .int .i64 0, .int .i64 0], .bool false]) W := fun W => by kernel_rfl
  have ta6 : ∀ W : World, (Instr.typeAssert (.iface 195 (.agg #[.string p, .int .i64 v])) 113 193 true).run Tryz.prog W = .ok (.tuple #[.agg #[.string ByteArray.empty], .bool false]) W := fun W => by kernel_rfl
  have ta7 : ∀ W : World, (Instr.typeAssert (.iface 195 (.agg #[.string p, .int .i64 v])) 113 194 true).run Tryz.prog W = .ok (.tuple #[.agg #[.string ByteArray.empty], .bool false]) W := fun W => by kernel_rfl
  have ta8 : ∀ W : World, (Instr.typeAssert (.iface 195 (.agg #[.string p, .int .i64 v])) 113 195 true).run Tryz.prog W = .ok (.tuple #[.agg #[.string p, .int .i64 v], .bool true]) W := fun W => by kernel_rfl
  have E1 : Hid (Ext w (w.alloc (.cells #[.string p, .int .i64 v] 195))) := (Ext.refl _).alloc _
  have Lw1 : w.heap.size < (w.alloc (.cells #[.string p, .int .i64 v] 195)).heap.size := by simp
  have x0 : (w.alloc (.cells #[.string p, .int .i64 v] 195)).cell? ⟨w.heap.size, 0, none⟩ = some (.string p) := by simp
  have x1 : (w.alloc (.cells #[.string p, .int .i64 v] 195)).cell? ⟨w.heap.size, 1, none⟩ = some (.int .i64 v) := by simp
  go_enter Tryz.func70, Tryz.ntmps70
  go_wp2
  generalize w.alloc (.cells #[.string p, .int .i64 v] 195) = w1 at *
  generalize w.heap.size = bx at *
  go_region_held3 (fun W => W.cell? ⟨bx, 0, none⟩ = some (.string p) ∧ W.cell? ⟨bx, 1, none⟩ = some (.int .i64 v)) (first | exact ⟨x0, x1⟩ | exact ⟨z0, z1⟩ | exact ⟨(alloc_cell _ _ _ _ Lw3).trans z0, (alloc_cell _ _ _ _ Lw3).trans z1⟩ | go_keep) (first | (go_at_call 133; refine (HV.out _ (by first | exact E1.out.drew | exact E1.out)).mono ?_; rintro e w3 ⟨rfl, hb⟩; have Xw3 : Hid (Ext w1 w3) := (by first | exact ((Ext.refl _).drew).trans hb | exact hb); have Ew3 : Hid (Ext w w3) := E1.out.trans Xw3.out; have Lw3 : bx < w3.heap.size := Nat.lt_of_lt_of_le Lw1 Xw3.out.size; have z0 : w3.cell? ⟨bx, 0, none⟩ = some (.string p) := ((Ext.cell Xw3.out).1 _ _ Lw1).trans x0; have z1 : w3.cell? ⟨bx, 1, none⟩ = some (.int .i64 v) := ((Ext.cell Xw3.out).1 _ _ Lw1).trans x1; clear hb Xw3 x0 x1 Lw1 E1))
  all_goals
    go_wp2
    go_ret
    exact ⟨_, rfl, txts_lit _ [p, vt] _ rfl (by simp) 2 rfl, Ew3.out.alloc _⟩
set_option maxHeartbeats 2000000 in
set_option maxRecDepth 100000 in
theorem createWords_any (p : ByteArray) (d : Int) (s q : Bool) (w : World) (ht : Tb w) (hd0 : -1 ≤ d) (hd1 : d ≤ 9999) : Calls Tryz.prog 132 #[.agg #[.string p, .int .i64 d, .bool s, .bool q]] w fun e w' => ∃ u, e = .returned u ∧ Txts w' u ([p, mkB (Lib.itoa d)] ++ ((if s then [mkB Opr.seqW] else []) ++ (if q then [mkB Opr.ownW] else []))) ∧ Ext w w' := by
  have hi9 : (Tryz.prog.info? 9).map (fun i => (i.zero, i.size, i.bytes)) = some (some (.string ByteArray.empty), 1, 16) := by kernel_rfl
  obtain ⟨i0, hi, hxx⟩ := Option.map_eq_some_iff.1 hi9
  simp only [Prod.mk.injEq] at hxx
  obtain ⟨hz0, hz1, hz2⟩ := hxx
  clear hi9
  have HN : Hid (∀ wx : World, Ext w wx → Calls Tryz.prog 78 #[.int .i64 d] wx fun e w' => e = .returned (.string (mkB (Lib.itoa d))) ∧ Ext wx w') := fun wx he => numberText_any d wx hd0 (by omega) (ht.ext he)
  clear ht hd0 hd1
  generalize mkB (Lib.itoa d) = dt at *
  have E1 : Hid (Ext w (w.alloc (.cells #[.string p, .int .i64 d, .bool s, .bool q] 187))) := (Ext.refl _).alloc _
  have Lw1 : w.heap.size < (w.alloc (.cells #[.string p, .int .i64 d, .bool s, .bool q] 187)).heap.size := by simp
  have x0 : (w.alloc (.cells #[.string p, .int .i64 d, .bool s, .bool q] 187)).cell? ⟨w.heap.size, 0, none⟩ = some (.string p) := by simp
  have x1 : (w.alloc (.cells #[.string p, .int .i64 d, .bool s, .bool q] 187)).cell? ⟨w.heap.size, 1, none⟩ = some (.int .i64 d) := by simp
  have x2 : (w.alloc (.cells #[.string p, .int .i64 d, .bool s, .bool q] 187)).cell? ⟨w.heap.size, 2, none⟩ = some (.bool s) := by simp
  have x3 : (w.alloc (.cells #[.string p, .int .i64 d, .bool s, .bool q] 187)).cell? ⟨w.heap.size, 3, none⟩ = some (.bool q) := by simp
  go_enter Tryz.func132, Tryz.ntmps132
  go_wp2
  generalize w.alloc (.cells #[.string p, .int .i64 d, .bool s, .bool q] 187) = w1 at *
  obtain ⟨bx, hW0⟩ : ∃ bx, bx = w.heap.size := ⟨_, rfl⟩
  rw [← hW0] at Lw1 x0 x1 x2 x3 ⊢
  clear hW0
  go_region_held3 (fun W => W.cell? ⟨bx, 0, none⟩ = some (.string p) ∧ W.cell? ⟨bx, 1, none⟩ = some (.int .i64 d) ∧ W.cell? ⟨bx, 2, none⟩ = some (.bool s) ∧ W.cell? ⟨bx, 3, none⟩ = some (.bool q)) (first | exact ⟨x0, x1, x2, x3⟩ | exact ⟨z0, z1, z2, z3⟩ | exact ⟨(alloc_cell _ _ _ _ Lw3).trans z0, (alloc_cell _ _ _ _ Lw3).trans z1, (alloc_cell _ _ _ _ Lw3).trans z2, (alloc_cell _ _ _ _ Lw3).trans z3⟩ | go_keep) (first | (go_at_call 78; refine (HN.out _ (by first | exact E1.out.drew | exact E1.out)).mono ?_; rintro e w3 ⟨rfl, hb⟩; have Xw3 : Hid (Ext w1 w3) := (by first | exact ((Ext.refl _).drew).trans hb | exact hb); have Ew3 : Hid (Ext w w3) := E1.out.trans Xw3.out; have Lw3 : bx < w3.heap.size := Nat.lt_of_lt_of_le Lw1 Xw3.out.size; have z0 : w3.cell? ⟨bx, 0, none⟩ = some (.string p) := ((Ext.cell Xw3.out).1 _ _ Lw1).trans x0; have z1 : w3.cell? ⟨bx, 1, none⟩ = some (.int .i64 d) := ((Ext.cell Xw3.out).1 _ _ Lw1).trans x1; have z2 : w3.cell? ⟨bx, 2, none⟩ = some (.bool s) := ((Ext.cell Xw3.out).1 _ _ Lw1).trans x2; have z3 : w3.cell? ⟨bx, 3, none⟩ = some (.bool q) := ((Ext.cell Xw3.out).1 _ _ Lw1).trans x3; clear hb Xw3 x0 x1 x2 x3 Lw1 E1))
  have HO : Hid ((w3.alloc (.cells #[.string p, .string dt] 9)).ownsRow w3.heap.size 9 1 (.slice (some ⟨w3.heap.size, 0, none⟩) 2 2) 2 [.string p, .string dt]) := World.ownsRow_lit w3 #[.string p, .string dt] 2 (Nat.le_refl _) (by unfold maxLen; omega) rfl
  have HB : Hid (Below w3.heap.size w3 (w3.alloc (.cells #[.string p, .string dt] 9))) := (Below.refl _ _).alloc (Nat.le_refl _) _
  have c2 : (w3.alloc (.cells #[.string p, .string dt] 9)).cell? ⟨bx, 2, none⟩ = some (.bool s) := (alloc_cell _ _ _ _ Lw3).trans z2
  have c3 : (w3.alloc (.cells #[.string p, .string dt] 9)).cell? ⟨bx, 3, none⟩ = some (.bool q) := (alloc_cell _ _ _ _ Lw3).trans z3
  have hA : Hid (w3.heap.size ≤ (w3.alloc (.cells #[.string p, .string dt] 9)).heap.size) := HB.out.size
  generalize w3.alloc (.cells #[.string p, .string dt] 9) = wA at *
  clear z0 z1
  cases s with
  | false =>
    cases q with
    | false =>
      go_wp2
      go_ret
      exact ⟨_, rfl, txts_of_owns HO.out (by simp), Ew3.out.trans HB.out⟩
    | true =>
      go_wp2_with (at_builtin; go_must (refine wpList_append_own _ rfl _ _ 115 rfl w3.heap.size 9 i0 (.string ByteArray.empty) 1 16 Tryz.underlying115 hi hz0 hz1 hz2 rfl (by decide) _ 2 _ rfl (HO.out.alloc _) ⟨wA.heap.size, 0, none⟩ 1 1 [.string (mkB Opr.ownW)] rfl rfl (cell_one_new _ _ _) (fun x hx => by simp at hx; subst hx; rfl) (by unfold maxLen; omega) (by omega) (by have := hA.out; simp; omega) ?_; intro v4 wB hown4 hgrow4 hnil4))
      go_ret
      exact ⟨_, rfl, txts_of_owns (ps := [p, dt, mkB Opr.ownW]) hown4 (by simp), Ew3.out.trans ((HB.out.alloc HB.out.size _).grown hgrow4 (by have := hA.out; simp; omega) (fun k hk => (HO.out.lt k hk).1))⟩
  | true =>
    cases q with
    | false =>
      go_wp2_with (at_builtin; go_must (refine wpList_append_own _ rfl _ _ 115 rfl w3.heap.size 9 i0 (.string ByteArray.empty) 1 16 Tryz.underlying115 hi hz0 hz1 hz2 rfl (by decide) _ 2 _ rfl (HO.out.alloc _) ⟨wA.heap.size, 0, none⟩ 1 1 [.string (mkB Opr.seqW)] rfl rfl (cell_one_new _ _ _) (fun x hx => by simp at hx; subst hx; rfl) (by unfold maxLen; omega) (by omega) (by have := hA.out; simp; omega) ?_; intro v4 wB hown4 hgrow4 hnil4); have HB4 : Hid (Below w3.heap.size w3 wB) := ((HB.out.alloc HB.out.size _).grown hgrow4 (by have := hA.out; simp; omega) (fun k hk => (HO.out.lt k hk).1)); have d3 : wB.cell? ⟨bx, 3, none⟩ = some (.bool false) := (Below.cell HB4.out (p := ⟨bx, 3, none⟩) Lw3).trans z3; have HO4 : Hid (wB.ownsRow w3.heap.size 9 1 v4 3 ([.string p, .string dt] ++ [.string (mkB Opr.seqW)])) := hown4; clear c2 c3 hgrow4 hown4 hnil4)
      go_ret
      exact ⟨_, rfl, txts_of_owns (ps := [p, dt, mkB Opr.seqW]) HO4.out (by simp), Ew3.out.trans HB4.out⟩
    | true =>
      have TK : True := trivial
      go_wp2_with (first | (at_builtin; clear TK; go_must (refine wpList_append_own _ rfl _ _ 115 rfl w3.heap.size 9 i0 (.string ByteArray.empty) 1 16 Tryz.underlying115 hi hz0 hz1 hz2 rfl (by decide) _ 2 _ rfl (HO.out.alloc _) ⟨wA.heap.size, 0, none⟩ 1 1 [.string (mkB Opr.seqW)] rfl rfl (cell_one_new _ _ _) (fun x hx => by simp at hx; subst hx; rfl) (by unfold maxLen; omega) (by omega) (by have := hA.out; simp; omega) ?_; intro v4 wB hown4 hgrow4 hnil4); have HB4 : Hid (Below w3.heap.size w3 wB) := ((HB.out.alloc HB.out.size _).grown hgrow4 (by have := hA.out; simp; omega) (fun k hk => (HO.out.lt k hk).1)); have d3 : wB.cell? ⟨bx, 3, none⟩ = some (.bool true) := (Below.cell HB4.out (p := ⟨bx, 3, none⟩) Lw3).trans z3; have HO4 : Hid (wB.ownsRow w3.heap.size 9 1 v4 3 ([.string p, .string dt] ++ [.string (mkB Opr.seqW)])) := hown4; clear c2 c3 hgrow4 hown4 hnil4) | (at_builtin; go_must (refine wpList_append_own _ rfl _ _ 115 rfl w3.heap.size 9 i0 (.string ByteArray.empty) 1 16 Tryz.underlying115 hi hz0 hz1 hz2 rfl (by decide) _ 3 _ rfl (HO4.out.alloc _) ⟨wB.heap.size, 0, none⟩ 1 1 [.string (mkB Opr.ownW)] rfl rfl (cell_one_new _ _ _) (fun x hx => by simp at hx; subst hx; rfl) (by unfold maxLen; omega) (by omega) (by have := HB4.out.size; simp; omega) ?_; intro v4 wC hown4 hgrow4 hnil4)))
      go_ret
      exact ⟨_, rfl, txts_of_owns (ps := [p, dt, mkB Opr.seqW, mkB Opr.ownW]) hown4 (by simp), Ew3.out.trans ((HB4.out.alloc HB4.out.size _).grown hgrow4 (by have := HB4.out.size; simp; omega) (fun k hk => (HO4.out.lt k hk).1))⟩
set_option maxHeartbeats 2000000 in
set_option maxRecDepth 100000 in
theorem wordsBehind_3 (p : ByteArray) (d : Int) (s q : Bool) (w : World) (ht : Tb w) (hd0 : -1 ≤ d) (hd1 : d ≤ 9999) : Calls Tryz.prog 70 #[.iface 187 (.agg #[.string p, .int .i64 d, .bool s, .bool q])] w fun e w' => ∃ u, e = .returned u ∧ Txts w' u ([p, mkB (Lib.itoa d)] ++ ((if s then [mkB Opr.seqW] else []) ++ (if q then [mkB Opr.ownW] else []))) ∧ Ext w w' := by
  have HC : Hid (∀ wx : World, Ext w wx → Calls Tryz.prog 132 #[.agg #[.string p, .int .i64 d, .bool s, .bool q]] wx fun e w' => ∃ u, e = .returned u ∧ Txts w' u ([p, mkB (Lib.itoa d)] ++ ((if s then [mkB Opr.seqW] else []) ++ (if q then [mkB Opr.ownW] else []))) ∧ Ext wx w') := fun wx he => createWords_any p d s q wx (ht.ext he) hd0 hd1
  clear ht hd0 hd1
  generalize ([p, mkB (Lib.itoa d)] ++ ((if s then [mkB Opr.seqW] else []) ++ (if q then [mkB Opr.ownW] else []))) = ps at *
  have ta3 : ∀ W : World, (Instr.typeAssert (.iface 187 (.agg #[.string p, .int .i64 d, .bool s, .bool q])) 113 187 true).run Tryz.prog W = .ok (.tuple #[.agg #[.string p, .int .i64 d, .bool s, .bool q], .bool true]) W := fun W => by kernel_rfl
  go_enter Tryz.func70, Tryz.ntmps70
  go_wp2_with fail
  refine (HC.out _ ((Ext.refl _).alloc _)).mono ?_
  rintro e w2 ⟨u, rfl, ht2, hb⟩
  have HT2 : Hid (Txts w2 u ps) := ht2
  have HB2 : Hid (Ext w w2) := ((Ext.refl _).alloc _).trans hb
  obtain ⟨g, off, cap, rfl, -⟩ := ht2
  clear hb
  go_wp2
  go_ret
  exact ⟨_, rfl, HT2.out, HB2.out⟩
end Go.Proofs.YtdjnkchaapcjpaaGreatDoor
