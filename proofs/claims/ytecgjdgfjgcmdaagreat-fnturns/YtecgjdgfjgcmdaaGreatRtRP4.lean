/- the face of all that a replica says: hear and what it defers. -/
import Derived.Test.YtecgjdgfjgcmdaaGreatRtRP3
import Derived.Recover
import Derived.Defers
namespace Go.Proofs.YtecgjdgfjgcmdaaGreat
open Go.RowKit
set_option linter.unusedSimpArgs false in
set_option maxHeartbeats 400000 in
theorem hear1_panicking (b : Nat) (c : Int) (old : Value) (w : World) (hc : w.cell? ⟨b, 0, none⟩ = some old) (hz : w.frozen? ⟨b, 0, none⟩ = false) :
  CallsD Tryz.prog 97 #[.pointer (some ⟨b, 0, none⟩)] (.panicking [{ v := .iface 117 (.int .i64 c), recovered := false }]) w fun e u' w' =>
   e = .returned (.tuple #[]) ∧ u' = .panicking [{ v := .iface 117 (.int .i64 c), recovered := true }] ∧ w' = w.setCell ⟨b, 0, none⟩ (.int .i64 c) := by
 have hta : ∀ (x : Value) (W : World), (Instr.typeAssert (.iface 117 x) 20 117 true).run Tryz.prog W = .ok (.tuple #[x, .bool true]) W := fun _ _ => by kernel_rfl
 refine callsD_of_wpS Tryz.func97 rfl fun c₀ cs hu => ?_
 apply wpS_seq
 apply wpS_region
 simp [wpOpsS, go_sem, recoverD, hu, Tryz.ntmps97, Exit.thenS, hta]
 apply wpS_seq
 apply wpS_region
 simp [wpOpsS, go_sem, Exit.thenS]
 refine wpS_cond (t := true) (by simp [Act.eval, Array.replicate]) ?_
 simp only [if_true]
 apply wpS_region
 simp [wpOpsS, go_sem, hc, hz, Array.replicate]
 exact ⟨rfl, _, rfl, .tuple #[], by simp [results, Tryz.results97, go_sem], rfl, rfl, rfl⟩
set_option linter.unusedSimpArgs false in
set_option maxHeartbeats 400000 in
theorem hear1_idle (b : Nat) (w : World) :
  CallsD Tryz.prog 97 #[.pointer (some ⟨b, 0, none⟩)] .returning w fun e u' w' => e = .returned (.tuple #[]) ∧ u' = .returning ∧ w' = w := by
 have hta : ∀ (W : World), (Instr.typeAssert .nilIface 20 117 true).run Tryz.prog W = .ok (.tuple #[.int .i64 0, .bool false]) W := fun _ => by kernel_rfl
 refine callsD_of_wpS Tryz.func97 rfl fun c₀ cs hu => ?_
 apply wpS_seq
 apply wpS_region
 simp [wpOpsS, go_sem, recoverD, hu, Tryz.ntmps97, Exit.thenS, hta]
 refine wpS_of_wp ?_
 go_wp2
 cases c₀
 simp_all [bodyPostS, results, Tryz.results97, go_sem]

namespace Msg
theorem askC_bad {f : Int} {ms : List Ms} {r : Rp} {c : Int} (h : ¬ repC f ms r = 0) : askC f ms r c = repC f ms r := by unfold askC; rw [if_pos h]
theorem askC_ok {f : Int} {ms : List Ms} {r : Rp} {c : Int} (h : repC f ms r = 0) : askC f ms r c = c := by unfold askC; rw [if_neg (by simp [h])]
end Msg
def zeroM : Ms := ⟨0, 0, 0, 0, 0, [], []⟩
def mres (c : Int) (m : Ms) (x y : Value) : Value := .agg #[.int .i64 c, .int .i64 m.kind, .int .i64 m.view, .int .i64 m.from_, .int .i64 m.slot, .int .i64 m.value, x, y]
/-- What one says who is heard: a code, or a message whose lists keep K. -/
def Said (K : World → World → Value → Value → Prop) (c : Int) (m : Ms) (wx : World) (e : Ending) (w' : World) : Prop :=
 Ext wx w' ∧ ((¬ c = 0 ∧ e = refused c) ∨ (c = 0 ∧ ∃ az nz cz au nu cu, e = .returned (magg m (.slice az nz cz) (.slice au nu cu)) ∧ K wx w' (.slice az nz cz) (.slice au nu cu)))
/-- What hear answers. -/
def Heard (K : World → World → Value → Value → Prop) (c : Int) (m : Ms) (w : World) (e : Ending) (w' : World) : Prop :=
 Ext w w' ∧ ((¬ c = 0 ∧ e = .returned (mres c zeroM (.slice none 0 0) (.slice none 0 0))) ∨ (c = 0 ∧ ∃ x y wx, e = .returned (mres 0 m x y) ∧ Ext w wx ∧ K wx w' x y))
def Kept2 (K : World → World → Value → Value → Prop) : Prop := ∀ wx W W' b x y, b < wx.heap.size → Upd b W W' → K wx W x y → K wx W' x y
set_option linter.unusedSimpArgs false in
set_option maxHeartbeats 4000000 in
set_option maxRecDepth 100000 in
theorem hear_any (f : Int) (v : Value) (ms : List Ms) (r : Rp) (F : FuncId) (caps : Array Value) (c : Int) (m : Ms) (K : World → World → Value → Value → Prop) (w : World) (hS : MSlice w v ms) (hK : Kept2 K) (hF : ∀ (args : Array Value) (W : World), (callFunc F args).run Tryz.prog W = .ok (.enter F args) W)
  (hSay : Hid (Msg.repC f ms r = 0 → ∀ u wx, Ext w wx → ISlice wx u (if Msg.inV r = true then Msg.startL ms r.view r.start else []) → Calls Tryz.prog F (#[sagg r f v (Msg.inV r) u] ++ caps) wx (Said K c m wx))) :
  Calls Tryz.prog 45 #[.int .i64 f, v, ragg r, .func (.func F) #[] caps] w (Heard K (Msg.askC f ms r c) m w) := by
 have hmf : ∀ (fn : Fn) (first cap : Array Value) (w : World), (Instr.makeFunc fn first cap).run Tryz.prog w = .ok (.func fn first cap) w := fun _ _ _ _ => rfl
 have HSp : Hid (∀ wx, Ext w wx → Calls Tryz.prog 98 #[.int .i64 f, v, ragg r] wx (SpRet wx f v ms r)) := fun wx he => speakerOf_any f v ms r wx (hS.ext he)
 obtain ⟨a, cap, rfl, -, -, -⟩ := hS
 unfold ragg at *
 go_enter_defers Tryz.func45, Tryz.ntmps45
 go_wp2_with fail
 refine (HSp.out _ (((Ext.refl _).alloc _).alloc _)).mono ?_
 rintro e w1 ⟨hb, hh⟩
 have hZ0 := (zbox_new (w.alloc (.cells #[.int .i64 r.id, .int .i64 r.view, .int .i64 r.start, .int .i64 r.done] 29)) [.int .i64 8, .int .i64 0, .int .i64 0, .int .i64 0, .int .i64 0, .int .i64 0, .slice none 0 0, .slice none 0 0] 42).ext hb
 have HZ1 : Hid (ZBox w1 (w.heap.size + 1) [.int .i64 8, .int .i64 0, .int .i64 0, .int .i64 0, .int .i64 0, .int .i64 0, .slice none 0 0, .slice none 0 0]) := by (try simp only [World.size_alloc] at hZ0); exact hZ0
 have HE1 : Hid (Ext w w1) := (((Ext.refl _).alloc _).alloc _).trans hb
 clear hb hZ0
 rcases hh with ⟨hn, rfl⟩ | ⟨h0, u, rfl, hI⟩
 ·have HN : Hid (¬ Msg.repC f ms r = 0) := hn
  rw [Msg.askC_bad hn]
  clear hn hSay
  generalize Msg.repC f ms r = d at *
  unfold refused
  obtain ⟨z0, n0⟩ := HZ1.out.2 0 _ rfl
  go_wp2
  obtain ⟨z1, n1⟩ := HZ1.out.2 1 _ rfl
  obtain ⟨z2, n2⟩ := HZ1.out.2 2 _ rfl
  obtain ⟨z3, n3⟩ := HZ1.out.2 3 _ rfl
  obtain ⟨z4, n4⟩ := HZ1.out.2 4 _ rfl
  obtain ⟨z5, n5⟩ := HZ1.out.2 5 _ rfl
  obtain ⟨z6, n6⟩ := HZ1.out.2 6 _ rfl
  obtain ⟨z7, n7⟩ := HZ1.out.2 7 _ rfl
  refine leaves_cons (f := 97) (args := #[.pointer (some ⟨w.heap.size + 1, 0, none⟩)]) (by simp) (by simp [go_sem]) ?_
  refine (hear1_panicking _ _ _ _ z0 n0).mono ?_
  rintro e u' w9 ⟨rfl, rfl, hw⟩
  show Leaves _ _ _ _ [] .returning _
  refine ⟨mres d zeroM (.slice none 0 0) (.slice none 0 0), by rw [hw]; simp [results, Tryz.results45, go_sem, mres, zeroM, z0, z1, z2, z3, z4, z5, z6, z7, n0], ?_⟩
  refine ⟨by rw [hw]; exact HE1.out.setCell (p := ⟨w.heap.size + 1, 0, none⟩) (by show _ ≤ w.heap.size + 1; omega) _, Or.inl ⟨HN.out, rfl⟩⟩
 ·have HN : Hid (Msg.repC f ms r = 0) := h0
  rw [Msg.askC_ok h0]
  have HY : Hid (Calls Tryz.prog F (#[sagg r f (.slice a ms.length cap) (Msg.inV r) u] ++ caps) w1 (Said K c m w1)) := hSay.out h0 u w1 HE1.out hI
  clear hSay h0
  obtain ⟨au, cu, rfl, -, -, -⟩ := hI
  unfold sagg at *
  generalize (if Msg.inV r = true then Msg.startL ms r.view r.start else []).length = nu at *
  generalize Msg.inV r = bg at *
  go_wp2_with fail
  refine HY.out.mono ?_
  rintro e w2 ⟨hb, hh⟩
  have HZ2 : Hid (ZBox w2 (w.heap.size + 1) [.int .i64 8, .int .i64 0, .int .i64 0, .int .i64 0, .int .i64 0, .int .i64 0, .slice none 0 0, .slice none 0 0]) := HZ1.out.ext hb
  have HE2 : Hid (Ext w w2) := HE1.out.trans hb
  clear hb
  rcases hh with ⟨hc, rfl⟩ | ⟨rfl, az, nz, cz, ax, nx, cx, rfl, hk⟩
  ·unfold refused
   obtain ⟨z0, n0⟩ := HZ2.out.2 0 _ rfl
   go_wp2
   try rw [Msg.askC_ok HN.out]
   obtain ⟨z1, n1⟩ := HZ2.out.2 1 _ rfl
   obtain ⟨z2, n2⟩ := HZ2.out.2 2 _ rfl
   obtain ⟨z3, n3⟩ := HZ2.out.2 3 _ rfl
   obtain ⟨z4, n4⟩ := HZ2.out.2 4 _ rfl
   obtain ⟨z5, n5⟩ := HZ2.out.2 5 _ rfl
   obtain ⟨z6, n6⟩ := HZ2.out.2 6 _ rfl
   obtain ⟨z7, n7⟩ := HZ2.out.2 7 _ rfl
   refine leaves_cons (f := 97) (args := #[.pointer (some ⟨w.heap.size + 1, 0, none⟩)]) (by simp) (by simp [go_sem]) ?_
   refine (hear1_panicking _ _ _ _ z0 n0).mono ?_
   rintro e u' w9 ⟨rfl, rfl, hw⟩
   show Leaves _ _ _ _ [] .returning _
   refine ⟨mres c zeroM (.slice none 0 0) (.slice none 0 0), by rw [hw]; simp [results, Tryz.results45, go_sem, mres, zeroM, z0, z1, z2, z3, z4, z5, z6, z7, n0], ?_⟩
   refine ⟨by rw [hw]; exact HE2.out.setCell (p := ⟨w.heap.size + 1, 0, none⟩) (by show _ ≤ w.heap.size + 1; omega) _, Or.inl ⟨hc, rfl⟩⟩
  ·have HKk : Hid _ := hk
   clear hk
   unfold magg
   obtain ⟨z0, n0⟩ := HZ2.out.2 0 _ rfl
   obtain ⟨z1, n1⟩ := HZ2.out.2 1 _ rfl
   obtain ⟨z2, n2⟩ := HZ2.out.2 2 _ rfl
   obtain ⟨z3, n3⟩ := HZ2.out.2 3 _ rfl
   obtain ⟨z4, n4⟩ := HZ2.out.2 4 _ rfl
   obtain ⟨z5, n5⟩ := HZ2.out.2 5 _ rfl
   obtain ⟨z6, n6⟩ := HZ2.out.2 6 _ rfl
   obtain ⟨z7, n7⟩ := HZ2.out.2 7 _ rfl
   go_wp2
   try rw [Msg.askC_ok HN.out]
   refine leaves_cons (f := 97) (args := #[.pointer (some ⟨w.heap.size + 1, 0, none⟩)]) (by simp) (by simp [go_sem]) ?_
   refine (hear1_idle _ _).mono ?_
   rintro e u' w9 ⟨rfl, rfl, hw⟩
   show Leaves _ _ _ _ [] .returning _
   refine ⟨mres 0 m (.slice az nz cz) (.slice ax nx cx), by rw [hw]; simp [results, Tryz.results45, go_sem, mres, z0, z1, z2, z3, z4, z5, z6, z7, n0, n1, n2, n3, n4, n5, n6, n7], ?_⟩
   rw [hw]
   exact ⟨HE2.out.eight _ (by omega) _ _ _ _ _ _ _ _, Or.inr ⟨rfl, _, _, w1, rfl, HE1.out, hK _ _ _ _ _ _ HZ1.out.1 (Upd.eight _ _ _ _ _ _ _ _ _ _) HKk.out⟩⟩
end Go.Proofs.YtecgjdgfjgcmdaaGreat
