/- both SentBys. -/
import Derived.Test.YtfgjodnjahhanaaDoorVvJ16
import Derived.Deep.RegionHeld3
import Derived.Test.YtfgjodnjahhanaaDoorVvLG4
namespace Go.Proofs.YtfgjodnjahhanaaDoor
open Go.RowKit
namespace Msg
def sentK (ms : List Ms) (x : Int) : Nat → List Int
  | 0 => []
  | k + 1 => sentK ms x k ++ (match ms[k]? with
    | some m => if m.from_ = x then [(k : Int)] else []
    | none => [])
def sentV (f : Int) (ms : List Ms) (x : Int) : Int × List Int := if ¬ ledger f ms = 0 then (ledger f ms, []) else if ¬ (1 ≤ x ∧ x ≤ 3 * f + 1) then (3, []) else (0, sentK ms x ms.length)
end Msg
namespace Led
/-- Block r holds an IntsResult that nobody has written yet. -/
def JZ (w : World) (r : Nat) : Prop := r < w.heap.size ∧ w.cell? ⟨r, 0, none⟩ = some (.int .i64 0) ∧ w.cell? ⟨r, 1, none⟩ = some (.slice none 0 0) ∧ w.frozen? ⟨r, 0, none⟩ = false ∧ w.frozen? ⟨r, 1, none⟩ = false
theorem jz_new (w : World) (t : TypeId) : JZ (w.alloc (.cells #[.int .i64 0, .slice none 0 0] t)) w.heap.size := ⟨by simp, by simp, by simp, by simp, by simp⟩
theorem JZ.ext {w w' : World} {r : Nat} (h : JZ w r) (he : Ext w w') : JZ w' r := by
  obtain ⟨hc, hf⟩ := Ext.cell he
  exact ⟨Nat.lt_of_lt_of_le h.1 he.size, (hc _ _ h.1).trans h.2.1, (hc _ _ h.1).trans h.2.2.1, (hf _ _ h.1).trans h.2.2.2.1, (hf _ _ h.1).trans h.2.2.2.2⟩
theorem owns_set {w : World} {B : Nat} {e : TypeId} {s : Nat} {v : Value} {n : Nat} {xs : List Value} (h : w.ownsRow B e s v n xs) {b o : Nat} (hb : b < B) (u : Value) : (w.setCell ⟨b, o, none⟩ u).ownsRow B e s v n xs := ownsRow_setCell_below h (a := ⟨b, o, none⟩) hb u
/-- The result's box rb is empty, the box bo holds what has been found. -/
def SB (rb bo : Nat) (W : World) (ov : Value) : Prop := W.cell? ⟨rb, 0, none⟩ = some (.int .i64 0) ∧ W.cell? ⟨rb, 1, none⟩ = some (.slice none 0 0) ∧ W.frozen? ⟨rb, 0, none⟩ = false ∧ W.frozen? ⟨rb, 1, none⟩ = false ∧ W.cell? ⟨bo, 0, none⟩ = some (.int .i64 0) ∧ W.cell? ⟨bo, 1, none⟩ = some ov ∧ W.frozen? ⟨bo, 0, none⟩ = false ∧ W.frozen? ⟨bo, 1, none⟩ = false
theorem SB.start {w : World} {rb : Nat} {t : TypeId} (h : JZ w rb) : SB rb w.heap.size (w.alloc (.cells #[.int .i64 0, .slice none 0 0] t)) (.slice none 0 0) := by
  obtain ⟨-, x1, x2, x3, x4⟩ := h.ext ((Ext.refl w).alloc (.cells #[.int .i64 0, .slice none 0 0] t))
  exact ⟨x1, x2, x3, x4, by simp, by simp, by simp, by simp⟩
theorem SB.below {rb bo B : Nat} {W W' : World} {ov : Value} (h : SB rb bo W ov) (hb : Below B W W') (h1 : rb < B) (h2 : bo < B) : SB rb bo W' ov := by
  obtain ⟨x0, x1, x2, x3, x4, x5, x6, x7⟩ := h
  exact ⟨(hb.cell (p := ⟨rb, 0, none⟩) h1).trans x0, (hb.cell (p := ⟨rb, 1, none⟩) h1).trans x1, (hb.frozen (p := ⟨rb, 0, none⟩) h1).trans x2, (hb.frozen (p := ⟨rb, 1, none⟩) h1).trans x3, (hb.cell (p := ⟨bo, 0, none⟩) h2).trans x4, (hb.cell (p := ⟨bo, 1, none⟩) h2).trans x5, (hb.frozen (p := ⟨bo, 0, none⟩) h2).trans x6, (hb.frozen (p := ⟨bo, 1, none⟩) h2).trans x7⟩
theorem SB.set {rb bo : Nat} {W : World} {ov : Value} (h : SB rb bo W ov) (hne : bo ≠ rb) (x : Value) : SB rb bo (W.setCell ⟨bo, 1, none⟩ x) x := by
  obtain ⟨x0, x1, x2, x3, x4, x5, x6, x7⟩ := h
  exact ⟨by rw [iset_ne _ _ _ _ _ _ (Or.inl hne)]; exact x0, by rw [iset_ne _ _ _ _ _ _ (Or.inl hne)]; exact x1, by simpa using x2, by simpa using x3, by rw [iset_ne _ _ _ _ _ _ (by omega)]; exact x4, iset_eq _ _ _ _ ⟨_, x5⟩, by simpa using x6, by simpa using x7⟩
end Led
end Go.Proofs.YtfgjodnjahhanaaDoor
