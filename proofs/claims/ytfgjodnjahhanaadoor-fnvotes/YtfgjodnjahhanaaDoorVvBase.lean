/- What all texts lean on: what it is that nothing old has turned; bytes and their lists; plain facts on what the functions answer. -/
import Derived.Test.YtfgjodnjahhanaaDoorVvPure
import Derived.WalkKit
import Derived.WalkLawsBesides
import Derived.WalkSpells
import Derived.Lib.Bytealg
import Derived.Lib.Strings
namespace Go.Proofs.YtfgjodnjahhanaaDoor
open Go.RowKit
def nbI (n : Int) : Bool := (decide (97 ≤ n) && decide (n ≤ 122)) || (decide (48 ≤ n) && decide (n ≤ 57))

theorem ret_bool {a b : Bool} (h : a = b) : Ending.returned (.bool a) = .returned (.bool b) := by rw [h]

theorem ret_int {k : IntKind} {a b : Int} (h : a = b) : Ending.returned (.int k a) = .returned (.int k b) := by rw [h]

theorem len_eq (s : ByteArray) : s.data.toList.length = s.size := rfl

def intOf : Value → Int | .int _ q => q | _ => 0

/-- All that was there is as it was. -/
def Ext (w w' : World) : Prop := Below w.heap.size w w'

theorem Ext.refl (w : World) : Ext w w := Below.refl _ _

theorem Ext.trans {w w1 w2 : World} (h1 : Ext w w1) (h2 : Ext w1 w2) : Ext w w2 := Below.trans h1 (Below.mono h2 (Below.size h1))

theorem Ext.alloc {w w1 : World} (h1 : Ext w w1) (o : Obj) : Ext w (w1.alloc o) := Below.alloc h1 (Below.size h1) o

theorem Ext.drew {w w1 : World} (h1 : Ext w w1) : Ext w w1.drew := Ext.trans h1 (by unfold Ext; exact (Below.refl _ _).drew)

theorem Ext.size {w w1 : World} (h1 : Ext w w1) : w.heap.size ≤ w1.heap.size := Below.size h1

theorem Ext.kept {w w1 : World} (h : Ext w w1) (may : MemPlace → Prop) : w.keptBut w1 may := Below.frame h may

theorem ba_eq {a b : ByteArray} (h : a.data.toList = b.data.toList) : a = b := by
  cases a; cases b; congr 1; exact Array.toList_inj.1 h

def mkB (l : List UInt8) : ByteArray := ⟨l.toArray⟩

theorem mkB_list (l : List UInt8) : (mkB l).data.toList = l := by simp [mkB]

theorem eq_mkB {a : ByteArray} {l : List UInt8} (h : a.data.toList = l) : a = mkB l := ba_eq (by rw [h, mkB_list])

theorem Ext.cell {w w1 : World} (h : Ext w w1) : (∀ b o, b < w.heap.size → w1.cell? ⟨b, o, none⟩ = w.cell? ⟨b, o, none⟩) ∧ (∀ b o, b < w.heap.size → w1.frozen? ⟨b, o, none⟩ = w.frozen? ⟨b, o, none⟩) :=
  ⟨fun b o hb => Below.cell h (p := ⟨b, o, none⟩) hb, fun b o hb => Below.frozen h (p := ⟨b, o, none⟩) hb⟩

theorem Ext.setCell {w w1 : World} (h : Ext w w1) {p : Addr} (hp : w.heap.size ≤ p.block) (v : Value) : Ext w (w1.setCell p v) := Below.setCell h hp v

def tr (x : Int × List UInt8) : Value := .agg #[.int .i64 x.1, .string (mkB x.2)]

def ir (x : Int × Int) : Value := .agg #[.int .i64 x.1, .int .i64 x.2]

theorem alloc_cell (W : World) (o : Obj) (b k : Nat) (h : b < W.heap.size) : (W.alloc o).cell? ⟨b, k, none⟩ = W.cell? ⟨b, k, none⟩ := World.cell?_alloc_lt _ _ _ h

/-- Nothing older than the source has turned, nor any block behind it that was there. -/
def Upd (b : Nat) (w w' : World) : Prop :=
  Below b w w' ∧ w.heap.size ≤ w'.heap.size ∧ ∀ c o, b < c → c < w.heap.size → w'.cell? ⟨c, o, none⟩ = w.cell? ⟨c, o, none⟩ ∧ w'.frozen? ⟨c, o, none⟩ = w.frozen? ⟨c, o, none⟩

theorem Upd.refl (b : Nat) (w : World) : Upd b w w := ⟨Below.refl _ _, Nat.le_refl _, fun _ _ _ _ => ⟨rfl, rfl⟩⟩

theorem Upd.trans {b : Nat} {w w1 w2 : World} (h : Upd b w w1) (h2 : Upd b w1 w2) : Upd b w w2 :=
  ⟨h.1.trans h2.1, Nat.le_trans h.2.1 h2.2.1, fun c o hc hl => ⟨((h2.2.2 c o hc (Nat.lt_of_lt_of_le hl h.2.1)).1).trans (h.2.2 c o hc hl).1, ((h2.2.2 c o hc (Nat.lt_of_lt_of_le hl h.2.1)).2).trans (h.2.2 c o hc hl).2⟩⟩

theorem Upd.alloc {b : Nat} (w : World) (o : Obj) (hb : b ≤ w.heap.size) : Upd b w (w.alloc o) :=
  ⟨(Below.refl _ _).alloc hb _, by simp, fun c k _ hl => ⟨World.cell?_alloc_lt _ _ _ hl, World.frozen?_alloc_old _ _ _ (Nat.ne_of_lt hl)⟩⟩

theorem Upd.ext {b : Nat} {w w' : World} (h : Ext w w') (hb : b ≤ w.heap.size) : Upd b w w' :=
  ⟨Below.mono h hb, h.size, fun c o _ hl => ⟨Below.cell h (p := ⟨c, o, none⟩) hl, Below.frozen h (p := ⟨c, o, none⟩) hl⟩⟩
theorem Upd.setAt {b : Nat} {w w' : World} (h : Upd b w w') (o : Nat) (v : Value) : Upd b w (w'.setCell ⟨b, o, none⟩ v) := by
  refine ⟨Below.setCell (p := ⟨b, o, none⟩) h.1 (Nat.le_refl _) v, by simpa using h.2.1, fun c k hc hl => ?_⟩
  refine ⟨?_, by simpa using (h.2.2 c k hc hl).2⟩
  rw [World.cell?_setCell_other _ _ _ _ (by intro e; injection e with e1 _ _; exact (Nat.ne_of_gt hc) e1.symm)]
  exact (h.2.2 c k hc hl).1
theorem Upd.at_ne {b : Nat} {w w' : World} (h : Upd b w w') (c o : Nat) (hc : c ≠ b) (hl : c < w.heap.size) : w'.cell? ⟨c, o, none⟩ = w.cell? ⟨c, o, none⟩ ∧ w'.frozen? ⟨c, o, none⟩ = w.frozen? ⟨c, o, none⟩ := by
  rcases Nat.lt_or_ge c b with hlt | hge
  · exact ⟨h.1.cell (p := ⟨c, o, none⟩) hlt, h.1.frozen (p := ⟨c, o, none⟩) hlt⟩
  · exact h.2.2 c o (by omega) hl
theorem Upd.to_ext {b : Nat} {w w1 w' : World} (h : Upd b w1 w') (he : Ext w w1) (hb : w.heap.size ≤ b) : Ext w w' := Below.trans he (Below.mono h.1 hb)
end Go.Proofs.YtfgjodnjahhanaaDoor
