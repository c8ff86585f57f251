/- the text of an event: of the specification and of the program. -/
import Derived.Test.YtgofggmgnodplaaDoorK4
import Derived.Test.YtgofggmgnodplaaDoorK8
import Derived.Test.YtgofggmgnodplaaDoorP4
import Derived.Deep.RegionHeld3
namespace Go.Proofs.YtgofggmgnodplaaDoor
open Go.RowKit
namespace Wch
def kindW (k : Int) : List UInt8 := if k = 1 then [109, 97, 100, 101] else if k = 2 then [103, 111, 110, 101] else [116, 117, 114, 110, 101, 100]
def evW (c : Int) (p : ByteArray) (k : Int) : List (List UInt8) := [[101, 118, 101, 110, 116], Lib.itoa c, p.data.toList, kindW k]
def evV (z : Ev) : Int × List UInt8 :=
  if code ⟨z.client, z.path⟩ ≠ 0 then (code ⟨z.client, z.path⟩, []) else if (decide (1 ≤ z.kind) && decide (z.kind ≤ 3)) = false then (1, []) else (0, Lib.join (evW z.client z.path z.kind) [32])
theorem evV_1 {z : Ev} {c : Int} (h : code ⟨z.client, z.path⟩ = c) (h0 : c ≠ 0) : evV z = (c, []) := by unfold evV; rw [h, if_pos h0]
theorem evV_2 {z : Ev} (h : code ⟨z.client, z.path⟩ = 0) (h1 : (decide (1 ≤ z.kind) && decide (z.kind ≤ 3)) = false) : evV z = (1, []) := by unfold evV; rw [h, if_neg (by decide), if_pos h1]
theorem evV_3 {z : Ev} (h : code ⟨z.client, z.path⟩ = 0) (h1 : (decide (1 ≤ z.kind) && decide (z.kind ≤ 3)) = true) : evV z = (0, Lib.join (evW z.client z.path z.kind) [32]) := by unfold evV; rw [h, if_neg (by decide), if_neg (by rw [h1]; decide)]
theorem evW_eq (c : Int) (p : ByteArray) (k : Int) : Lib.join (evW c p k) [32] = [101, 118, 101, 110, 116, 32] ++ Lib.itoa c ++ [32] ++ p.data.toList ++ [32] ++ kindW k := by
  unfold evW; rw [Lib.join_cons]; simp [Lib.joinTail]
end Wch
/-- Both boxes of EventText. -/
def TwoBox (w : World) (b : Nat) (z : Ev) : Prop := (b < w.heap.size ∧ EvAt w b 0 z) ∧ TBoxAt w (b + 1) 0 ⟨#[]⟩
theorem TwoBox.ext {w w' : World} {b : Nat} {z : Ev} (h : TwoBox w b z) (he : Ext w w') : TwoBox w' b z :=
  ⟨⟨Nat.lt_of_lt_of_le h.1.1 he.size, h.1.2.ext h.1.1 he⟩, h.2.ext he⟩
theorem twobox_new (w : World) (z : Ev) (t u : TypeId) : TwoBox ((w.alloc (.cells #[.int .i64 z.client, .string z.path, .int .i64 z.kind] t)).alloc (.cells #[.int .i64 0, .string ⟨#[]⟩] u)) w.heap.size z := by
  have h1 : EvAt (w.alloc (.cells #[.int .i64 z.client, .string z.path, .int .i64 z.kind] t)) w.heap.size 0 z := ⟨by simp, by simp, by simp⟩
  have h2 := tbox_new (w.alloc (.cells #[.int .i64 z.client, .string z.path, .int .i64 z.kind] t)) 0 ⟨#[]⟩ u
  rw [World.size_alloc] at h2
  exact ⟨⟨by simp; omega, h1.ext (by simp) ((Ext.refl _).alloc _)⟩, h2⟩
set_option maxHeartbeats 1000000 in
theorem eventWord_any (k : Int) (w : World) : Calls Tryd.prog 44 #[.int .i64 k] w fun e w' => e = .returned (.string (mkB (Wch.kindW k))) ∧ Ext w w' := by
  by_cases h1 : k = 1
  · subst h1
    go_enter Tryd.func44, Tryd.ntmps44
    go_wp2
    go_ret
    exact ⟨rfl, Ext.refl _⟩
  · have b1 : (k == 1) = false := by simpa using h1
    by_cases h2 : k = 2
    · subst h2
      go_enter Tryd.func44, Tryd.ntmps44
      go_wp2
      go_ret
      exact ⟨rfl, Ext.refl _⟩
    · have b2 : (k == 2) = false := by simpa using h2
      rw [show mkB (Wch.kindW k) = ⟨#[116, 117, 114, 110, 101, 100]⟩ from by unfold Wch.kindW; rw [if_neg h1, if_neg h2]; rfl]
      go_enter Tryd.func44, Tryd.ntmps44
      go_wp2
      go_ret
      exact ⟨rfl, Ext.refl _⟩

theorem after4 {w2 w3 : World} {a b c d : Value} {t : TypeId} (h : Ext (w2.alloc (.cells #[a, b, c, d] t)).drew w3) : w3.cell? ⟨w2.heap.size, 1, none⟩ = some b ∧ w3.cell? ⟨w2.heap.size, 2, none⟩ = some c ∧ w3.cell? ⟨w2.heap.size, 3, none⟩ = some d := by
  have h' : Ext (w2.alloc (.cells #[a, b, c, d] t)) w3 := ((Ext.refl _).drew).trans h
  refine ⟨?_, ?_, ?_⟩ <;> (rw [(Ext.cell h').1 _ _ (by simp)]; simp)
end Go.Proofs.YtgofggmgnodplaaDoor
