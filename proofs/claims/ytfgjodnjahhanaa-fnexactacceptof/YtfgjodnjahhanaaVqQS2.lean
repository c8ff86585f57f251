/- sets of numbers in memory: adding to one, telling it in order. -/
import Derived.Test.YtfgjodnjahhanaaVqQS1
import Derived.Test.YtfgjodnjahhanaaVqQS2a
import Derived.Maps.OwnSet
import Derived.Maps.OwnOps
import Derived.Deep.Onto
namespace Go.Proofs.Ytfgjodnjahhanaa
open Go.RowKit Go.Maps
namespace Nst
theorem law64 : Keyed Try.prog 2 := int_keyed Try.underlying2
/-- Block b holds a set of the numbers l. -/
def SMap (w : World) (b n : Nat) (l : List Int) : Prop := w.ownsMap Try.prog 2 (unitElem (H := Unit)) b n (map l)
theorem SMap.lt {w : World} {b n : Nat} {l : List Int} (h : SMap w b n l) : b < w.heap.size := World.ownsMap.lt h
theorem SMap.ext {w w' : World} {b n : Nat} {l : List Int} (h : SMap w b n l) (he : Ext w w') : SMap w' b n l := by
  have hlt := h.lt
  obtain ⟨es, clock, hb, F, hs, hD⟩ := h
  exact ⟨es, clock, (Below.block he b hlt).trans hb, F, hs, hD⟩
theorem SMap.made (w : World) : SMap (w.alloc (.map #[] 0)) w.heap.size 0 [] := World.ownsMap_made _ _ _ _
theorem SMap.set {w : World} {b n : Nat} {l : List Int} (h : SMap w b n l) (g o : Nat) (hg : b ≠ g) (v : Value) : SMap (w.setCell ⟨g, o, none⟩ v) b n l := World.ownsMap.setCell h hg v
theorem wf64 {n : Int} (h : -100000 ≤ n ∧ n ≤ 100000) : (Lit.int .i64 n).wf = true := WalkArith.wf_i64 (by omega)
theorem key64 {n : Int} (h : -100000 ≤ n ∧ n ≤ 100000) : keyOf Try.prog 2 (.int .i64 n) = some (.int .i64 n) := keyOf_int_mk Try.underlying2 (wf64 h)
theorem make_set (w : World) : (Instr.makeMap 58 none).run Try.prog w = .ok (.map (some w.heap.size)) (w.alloc (.map #[] 0)) := by
  simp [Instr.makeMap, go_sem]
theorem cell_block {w w' : World} {c : Nat} (h : w'.heap[c]? = w.heap[c]?) (o : Nat) : w'.cell? ⟨c, o, none⟩ = w.cell? ⟨c, o, none⟩ ∧ w'.frozen? ⟨c, o, none⟩ = w.frozen? ⟨c, o, none⟩ := by
  unfold World.cell? World.frozen?
  simp only [h, and_self]
theorem upd_grown {b : Nat} {w w1 w' : World} (h : Upd b w w1) (hg : w1.grownBy w' (some b)) (hb : b ≤ w1.heap.size) : Upd b w w' := by
  refine ⟨Below.grown h.1 hg hb (fun k hk => by cases hk; exact Nat.le_refl _), Nat.le_trans h.2.1 hg.size, fun c o hc hl => ?_⟩
  have h1 := cell_block (hg.block c (Nat.lt_of_lt_of_le hl h.2.1) (fun e => by cases e; omega)) o
  exact ⟨h1.1.trans (h.2.2 c o hc hl).1, h1.2.trans (h.2.2 c o hc hl).2⟩

set_option maxHeartbeats 1000000 in
set_option maxRecDepth 100000 in
theorem add_any (b n : Nat) (l : List Int) (x : Int) (w : World) (hM : SMap w b n l) (hr : Ris l) (hx : -100000 ≤ x ∧ x ≤ 100000) (hn : n ≤ 1000) :
    Calls Try.prog 44 #[.map (some b), .int .i64 x] w fun e w' => e = .returned (.tuple #[]) ∧ SMap w' b (n + 1) (put x l) ∧ Upd b w w' := by
  have hkey := key64 hx
  have hlt := hM.lt
  have hput : (map l).put (.int .i64 x) (.agg []) = map (put x l) := map_put x l hr
  have HM : Hid (SMap w b n l) := hM
  clear hM hr
  go_enter Try.func44, Try.ntmps44
  go_wp2_with (at_mapUpdate; refine wpList_mapUpdate_own _ rfl _ _ _ 58 rfl 2 75 law64 Try.underlying58 _ b n _ rfl HM.out (by unfold maxLen; omega) _ _ _ rfl rfl hkey _ [] unitElem_mk ?_; intro w1 hown1 hgrow1)
  go_end0
  rw [hput] at hown1
  exact ⟨rfl, hown1, upd_grown (Upd.refl _ _) hgrow1 (Nat.le_of_lt hlt)⟩

end Nst
end Go.Proofs.Ytfgjodnjahhanaa
