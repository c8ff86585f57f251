/- what a replica says who is heard: boxes of a message; nothing at all; the program's ReplicaFault. -/
import Derived.Test.YtecgjdgfjgcmdaaGreatRmRP4
namespace Go.Proofs.YtecgjdgfjgcmdaaGreat
open Go.RowKit
theorem Ext.seven {w W : World} (h : Ext w W) (b : Nat) (hb : w.heap.size ≤ b) (a0 a1 a2 a3 a4 a5 a6 : Value) : Ext w (((((((W.setCell ⟨b, 0, none⟩ a0).setCell ⟨b, 1, none⟩ a1).setCell ⟨b, 2, none⟩ a2).setCell ⟨b, 3, none⟩ a3).setCell ⟨b, 4, none⟩ a4).setCell ⟨b, 5, none⟩ a5).setCell ⟨b, 6, none⟩ a6) :=
 ((((((h.setCell (p := ⟨b, 0, none⟩) hb _).setCell (p := ⟨b, 1, none⟩) hb _).setCell (p := ⟨b, 2, none⟩) hb _).setCell (p := ⟨b, 3, none⟩) hb _).setCell (p := ⟨b, 4, none⟩) hb _).setCell (p := ⟨b, 5, none⟩) hb _).setCell (p := ⟨b, 6, none⟩) hb _
theorem Upd.seven (W : World) (b : Nat) (a0 a1 a2 a3 a4 a5 a6 : Value) : Upd b W (((((((W.setCell ⟨b, 0, none⟩ a0).setCell ⟨b, 1, none⟩ a1).setCell ⟨b, 2, none⟩ a2).setCell ⟨b, 3, none⟩ a3).setCell ⟨b, 4, none⟩ a4).setCell ⟨b, 5, none⟩ a5).setCell ⟨b, 6, none⟩ a6) :=
 ((((((((Upd.refl b W).setAt _ _).setAt _ _).setAt _ _).setAt _ _).setAt _ _).setAt _ _).setAt _ _)
def KT : World → World → Value → Value → Prop := fun _ _ _ _ => True
theorem KT_kept : Kept2 KT := fun _ _ _ _ _ _ _ _ _ => trivial
set_option linter.unusedSimpArgs false in
set_option maxHeartbeats 2000000 in
set_option maxRecDepth 100000 in
theorem sayNothing_any (r : Rp) (f : Int) (v : Value) (ms : List Ms) (bg : Bool) (u : Value) (L : List Int) (w : World) (hS : MSlice w v ms) (hI : ISlice w u L) :
  Calls Tryz.prog 46 #[sagg r f v bg u] w (Said KT 0 zeroM w) := by
 obtain ⟨a, cap, rfl, -, -, -⟩ := hS
 obtain ⟨au, cu, rfl, -, -, -⟩ := hI
 unfold sagg
 go_enter Tryz.func46, Tryz.ntmps46
 go_wp2
 refine bodyPost_ret (v := magg zeroM (.slice none 0 0) (.slice none 0 0)) (by simp [results, Tryz.results46, go_sem, magg, zeroM]) rfl ?_
 exact ⟨((Ext.refl _).alloc _).alloc _, Or.inr ⟨rfl, none, 0, 0, none, 0, 0, rfl, trivial⟩⟩
theorem heardInt {c : Int} {m : Ms} {w w' : World} {e : Ending} (h : Heard KT c m w e w') : ∃ d m' x y, e = .returned (mres d m' x y) ∧ d = c ∧ Ext w w' := by
 obtain ⟨he, ⟨h1, h2⟩ | ⟨h1, x, y, wx, h2, -, -⟩⟩ := h
 ·exact ⟨c, zeroM, _, _, h2, rfl, he⟩
 ·exact ⟨0, m, x, y, h2, h1.symm, he⟩
set_option linter.unusedSimpArgs false in
set_option maxHeartbeats 2000000 in
set_option maxRecDepth 100000 in
theorem implReplicaFault_any (f : Int) (v : Value) (ms : List Ms) (r : Rp) (w : World) (hS : MSlice w v ms) :
  Calls Tryz.prog 15 #[.int .i64 f, v, ragg r] w fun e w' => e = .returned (.int .i64 (Msg.repC f ms r)) ∧ Ext w w' := by
 have HH : Hid (∀ wx, Ext w wx → Calls Tryz.prog 45 #[.int .i64 f, v, ragg r, .func (.func 46) #[] #[]] wx fun e w' => ∃ m x y, e = .returned (mres (Msg.repC f ms r) m x y) ∧ Ext wx w') := fun wx he => by
  refine (hear_any f v ms r 46 #[] 0 zeroM KT wx (hS.ext he) KT_kept (fun _ _ => by kernel_rfl) (fun h u wy hy hI => sayNothing_any r f v ms _ u _ wy ((hS.ext he).ext hy) hI)).mono ?_
  intro e w' h
  obtain ⟨d, m', x, y, h1, h2, h3⟩ := heardInt h
  have e2 : Msg.askC f ms r 0 = Msg.repC f ms r := by
   unfold Msg.askC
   split
   ·rfl
   ·rename_i h9; exact (Decidable.not_not.1 h9).symm
  exact ⟨m', x, y, by rw [h1, h2, e2], h3⟩
 have hf0 : ∀ (c0 c1 c2 c3 c4 c5 c6 c7 : Value) (W : World), (Instr.field 42 (.agg #[c0, c1, c2, c3, c4, c5, c6, c7]) 0).run Tryz.prog W = .ok c0 W := fun _ _ _ _ _ _ _ _ _ => by kernel_rfl
 obtain ⟨a, cap, rfl, -, -, -⟩ := hS
 unfold ragg at *
 go_enter Tryz.func15, Tryz.ntmps15
 go_wp2_with fail
 refine (HH.out _ ((Ext.refl _).alloc _)).mono ?_
 rintro e w1 ⟨m, x, y, rfl, hb⟩
 have HE : Hid (Ext w w1) := ((Ext.refl _).alloc _).trans hb
 clear hb
 unfold mres
 go_wp2
 go_ret
 exact ⟨rfl, HE.out⟩
end Go.Proofs.YtecgjdgfjgcmdaaGreat
