/- what laws over (f, ledger, message) lean on. -/
import Derived.Test.YtfgjodnjahhanaaVfLG5
namespace Go.Proofs.Ytfgjodnjahhanaa
open Go.RowKit
def OnlyZ (R : Act → World → Prop) : Exit → Act → World → Prop
  | .normal, a, w => R a w
  | _, _, _ => False
theorem OnlyZ.out {R : Act → World → Prop} {e : Exit} {a : Act} {w : World} (h : OnlyZ R e a w) : e = .normal ∧ R a w := by
  cases e <;> first | exact ⟨rfl, h⟩ | exact (h : False).elim
/-- An IntsResult was made and boxed in bw; w0 is as it was. -/
def Led.Got (w0 : World) (c : Int) (rs : List Int) (W : World) (bw g3 : Nat) (v : Value) : Prop :=
  Ext w0 W ∧ w0.heap.size ≤ bw ∧ Led.JBoxAt W bw c v ∧ Led.IOwn W v g3 rs ∧ w0.heap.size ≤ g3
theorem Led.Got.new {w0 n : World} {c : Int} {rs : List Int} {g3 : Nat} {v : Value} {t : TypeId} (X : Ext w0 n) (hO : Led.IOwn n v g3 rs) (hg : w0.heap.size ≤ g3) : Led.Got w0 c rs (n.alloc (.cells #[.int .i64 c, v] t)) n.heap.size g3 v :=
  ⟨X.alloc _, X.size, Led.jbox_new n c v t, hO.ext ((Ext.refl _).alloc _), hg⟩
theorem Led.jz_put {n : World} {b : Nat} {c : Int} {v : Value} (B : Led.JZ n b) : Led.JBoxAt ((n.setCell ⟨b, 0, none⟩ (.int .i64 c)).setCell ⟨b, 1, none⟩ v) b c v := by
  obtain ⟨h0, h1, h2, -, -⟩ := B
  refine ⟨by simpa using h0, ?_, ?_⟩
  · rw [iset_ne _ _ _ _ _ _ (by omega)]; exact iset_eq _ _ _ _ ⟨_, h1⟩
  · apply iset_eq; rw [iset_ne _ _ _ _ _ _ (by omega)]; exact ⟨_, h2⟩
theorem Led.Got.set {w0 n : World} {c : Int} {rs : List Int} {g3 b : Nat} {v : Value} (X : Ext w0 n) (hb : w0.heap.size ≤ b) (B : Led.JZ n b) (hO : Led.IOwn n v g3 rs) (hbg : 0 < rs.length → g3 ≠ b) (hg : w0.heap.size ≤ g3) : Led.Got w0 c rs ((n.setCell ⟨b, 0, none⟩ (.int .i64 c)).setCell ⟨b, 1, none⟩ v) b g3 v :=
  ⟨(X.setCell (p := ⟨b, 0, none⟩) hb _).setCell (p := ⟨b, 1, none⟩) hb _, hb, Led.jz_put B, hO.upd' (((Upd.refl b n).setAt _ _).setAt _ _) hbg, hg⟩
namespace Led
end Led
end Go.Proofs.Ytfgjodnjahhanaa
