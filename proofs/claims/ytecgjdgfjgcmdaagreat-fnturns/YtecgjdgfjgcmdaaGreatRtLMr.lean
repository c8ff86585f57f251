/- a MsgResult that a law boxes. -/
import Derived.Test.YtecgjdgfjgcmdaaGreatRtGK
import Derived.Test.YtecgjdgfjgcmdaaGreatRtLRp
namespace Go.Proofs.YtecgjdgfjgcmdaaGreat
open Go.RowKit
/-- The lists of m lie apart from block b. -/
def MgN (b : Nat) (W : World) (x y : Value) (m : Ms) : Prop := ∃ g1 g2, (0 < m.certs.length → g1 ≠ b) ∧ (0 < m.refs.length → g2 ≠ b) ∧ (0 < m.certs.length → 0 < m.refs.length → g1 ≠ g2) ∧ CtOwn W x g1 m.certs ∧ Led.IOwn W y g2 m.refs
theorem MgN.new {m : Ms} {w W : World} {x y : Value} {b : Nat} (h : KM m w W x y) (hb : b < w.heap.size) : MgN b W x y m := by
 obtain ⟨g1, g2, h1, h2, h3, h4, h5⟩ := h
 exact ⟨g1, g2, fun _ => by omega, fun _ => by omega, h3, h4, h5⟩
theorem MgN.old {m : Ms} {w W W' : World} {x y : Value} {b : Nat} (h : KM m w W x y) (hb : W.heap.size ≤ b) (he : Ext W W') : MgN b W' x y m := by
 obtain ⟨g1, g2, h1, h2, h3, h4, h5⟩ := h
 exact ⟨g1, g2, fun h => by have := h4.lt h; omega, fun h => by have := h5.lt h; omega, h3, h4.ext he, h5.ext he⟩
theorem MgN.ext {m : Ms} {W W' : World} {x y : Value} {b : Nat} (h : MgN b W x y m) (he : Ext W W') : MgN b W' x y m := by
 obtain ⟨g1, g2, h1, h2, h3, h4, h5⟩ := h
 exact ⟨g1, g2, h1, h2, h3, h4.ext he, h5.ext he⟩
theorem MgN.set {m : Ms} {W W' : World} {x y : Value} {b : Nat} (h : MgN b W x y m) (hu : Upd b W W') : MgAt 0 W'.heap.size W' x y m := by
 obtain ⟨g1, g2, h1, h2, h3, h4, h5⟩ := h
 have k4 := h4.upd' hu h1
 have k5 := h5.upd' hu h2
 exact ⟨g1, g2, fun h => ⟨Nat.zero_le _, k4.lt h⟩, fun h => ⟨Nat.zero_le _, k5.lt h⟩, h3, k4, k5⟩
/-- A MsgResult was made and boxed in bw; w0 is as it was. -/
def GotM (w0 : World) (cc : Int) (m : Ms) (W : World) (bw : Nat) (x y : Value) : Prop := Ext w0 W ∧ w0.heap.size ≤ bw ∧ MrBox W bw cc m x y ∧ MgAt 0 W.heap.size W x y m
theorem mr_put {n : World} {b : Nat} {cc : Int} {m : Ms} {x y : Value} (B : ZBox n b [.int .i64 0, .int .i64 0, .int .i64 0, .int .i64 0, .int .i64 0, .int .i64 0, .slice none 0 0, .slice none 0 0]) : MrBox (((((((((n.setCell ⟨b, 0, none⟩ (.int .i64 cc)).setCell ⟨b, 1, none⟩ (.int .i64 m.kind)).setCell ⟨b, 2, none⟩ (.int .i64 m.view)).setCell ⟨b, 3, none⟩ (.int .i64 m.from_)).setCell ⟨b, 4, none⟩ (.int .i64 m.slot)).setCell ⟨b, 5, none⟩ (.int .i64 m.value)).setCell ⟨b, 6, none⟩ x).setCell ⟨b, 7, none⟩ y)) b cc m x y := by
 obtain ⟨z0, -⟩ := B.2 0 _ rfl
 obtain ⟨z1, -⟩ := B.2 1 _ rfl
 obtain ⟨z2, -⟩ := B.2 2 _ rfl
 obtain ⟨z3, -⟩ := B.2 3 _ rfl
 obtain ⟨z4, -⟩ := B.2 4 _ rfl
 obtain ⟨z5, -⟩ := B.2 5 _ rfl
 obtain ⟨z6, -⟩ := B.2 6 _ rfl
 obtain ⟨z7, -⟩ := B.2 7 _ rfl
 have hb := B.1
 refine ⟨by simpa using hb, ?_, ?_, ?_, ?_, ?_, ?_, ?_, ?_⟩ <;> simp [go_sem, z0, z1, z2, z3, z4, z5, z6, z7]
theorem GotM.set {w0 n : World} {cc : Int} {m : Ms} {b : Nat} {x y : Value} (X : Ext w0 n) (hb : w0.heap.size ≤ b) (B : ZBox n b [.int .i64 0, .int .i64 0, .int .i64 0, .int .i64 0, .int .i64 0, .int .i64 0, .slice none 0 0, .slice none 0 0]) (hO : MgN b n x y m) : GotM w0 cc m (((((((((n.setCell ⟨b, 0, none⟩ (.int .i64 cc)).setCell ⟨b, 1, none⟩ (.int .i64 m.kind)).setCell ⟨b, 2, none⟩ (.int .i64 m.view)).setCell ⟨b, 3, none⟩ (.int .i64 m.from_)).setCell ⟨b, 4, none⟩ (.int .i64 m.slot)).setCell ⟨b, 5, none⟩ (.int .i64 m.value)).setCell ⟨b, 6, none⟩ x).setCell ⟨b, 7, none⟩ y)) b x y :=
 ⟨X.eight _ hb _ _ _ _ _ _ _ _, hb, mr_put B, hO.set (Upd.eight _ _ _ _ _ _ _ _ _ _)⟩
def OnlyY (R : Act → World → Prop) : Exit → Act → World → Prop
 | .normal, a, w => R a w
 | _, _, _ => False
theorem OnlyY.out {R : Act → World → Prop} {e : Exit} {a : Act} {w : World} (h : OnlyY R e a w) : e = .normal ∧ R a w := by
 cases e <;> first | exact ⟨rfl, h⟩ | exact (h : False).elim
end Go.Proofs.YtecgjdgfjgcmdaaGreat
