/- sets of numbers in memory: adding to one, telling it in order. -/
import Derived.Test.YtfgjodnjahhanaaDoorVvQS1
import Derived.Test.YtfgjodnjahhanaaDoorVvQS2a
import Derived.Maps.OwnSet
import Derived.Maps.OwnOps
import Derived.Deep.Onto
namespace Go.Proofs.YtfgjodnjahhanaaDoor
open Go.RowKit Go.Maps
namespace Nst
theorem law64 : Keyed Tryd.prog 2 := int_keyed Tryd.underlying2
/-- Block b holds a set of the numbers l. -/
def SMap (w : World) (b n : Nat) (l : List Int) : Prop := w.ownsMap Tryd.prog 2 (unitElem (H := Unit)) b n (map l)
theorem SMap.lt {w : World} {b n : Nat} {l : List Int} (h : SMap w b n l) : b < w.heap.size := World.ownsMap.lt h
theorem SMap.ext {w w' : World} {b n : Nat} {l : List Int} (h : SMap w b n l) (he : Ext w w') : SMap w' b n l := by
  have hlt := h.lt
  obtain ⟨es, clock, hb, F, hs, hD⟩ := h
  exact ⟨es, clock, (Below.block he b hlt).trans hb, F, hs, hD⟩
theorem SMap.made (w : World) : SMap (w.alloc (.map #[] 0)) w.heap.size 0 [] := World.ownsMap_made _ _ _ _
theorem SMap.set {w : World} {b n : Nat} {l : List Int} (h : SMap w b n l) (g o : Nat) (hg : b ≠ g) (v : Value) : SMap (w.setCell ⟨g, o, none⟩ v) b n l := World.ownsMap.setCell h hg v
theorem wf64 {n : Int} (h : -100000 ≤ n ∧ n ≤ 100000) : (Lit.int .i64 n).wf = true := WalkArith.wf_i64 (by omega)
theorem key64 {n : Int} (h : -100000 ≤ n ∧ n ≤ 100000) : keyOf Tryd.prog 2 (.int .i64 n) = some (.int .i64 n) := keyOf_int_mk Tryd.underlying2 (wf64 h)
theorem make_set (w : World) : (Instr.makeMap 59 none).run Tryd.prog w = .ok (.map (some w.heap.size)) (w.alloc (.map #[] 0)) := by
  simp [Instr.makeMap, go_sem]
theorem cell_block {w w' : World} {c : Nat} (h : w'.heap[c]? = w.heap[c]?) (o : Nat) : w'.cell? ⟨c, o, none⟩ = w.cell? ⟨c, o, none⟩ ∧ w'.frozen? ⟨c, o, none⟩ = w.frozen? ⟨c, o, none⟩ := by
  unfold World.cell? World.frozen?
  simp only [h, and_self]
theorem upd_grown {b : Nat} {w w1 w' : World} (h : Upd b w w1) (hg : w1.grownBy w' (some b)) (hb : b ≤ w1.heap.size) : Upd b w w' := by
  refine ⟨Below.grown h.1 hg hb (fun k hk => by cases hk; exact Nat.le_refl _), Nat.le_trans h.2.1 hg.size, fun c o hc hl => ?_⟩
  have h1 := cell_block (hg.block c (Nat.lt_of_lt_of_le hl h.2.1) (fun e => by cases e; omega)) o
  exact ⟨h1.1.trans (h.2.2 c o hc hl).1, h1.2.trans (h.2.2 c o hc hl).2⟩

set_option maxHeartbeats 1000000 in
set_option maxRecDepth 100000 in
theorem add_any (b n : Nat) (l : List Int) (x : Int) (w : World) (hM : SMap w b n l) (hr : Ris l) (hx : -100000 ≤ x ∧ x ≤ 100000) (hn : n ≤ 1000) :
    Calls Tryd.prog 45 #[.map (some b), .int .i64 x] w fun e w' => e = .returned (.tuple #[]) ∧ SMap w' b (n + 1) (put x l) ∧ Upd b w w' := by
  have hkey := key64 hx
  have hlt := hM.lt
  have hput : (map l).put (.int .i64 x) (.agg []) = map (put x l) := map_put x l hr
  have HM : Hid (SMap w b n l) := hM
  clear hM hr
  go_enter Tryd.func45, Tryd.ntmps45
  go_wp2_with (at_mapUpdate; refine wpList_mapUpdate_own _ rfl _ _ _ 59 rfl 2 84 law64 Tryd.underlying59 _ b n _ rfl HM.out (by unfold maxLen; omega) _ _ _ rfl rfl hkey _ [] unitElem_mk ?_; intro w1 hown1 hgrow1)
  go_end0
  rw [hput] at hown1
  exact ⟨rfl, hown1, upd_grown (Upd.refl _ _) hgrow1 (Nat.le_of_lt hlt)⟩

/-- maps.Keys of a set. -/
theorem keys_any (b : Nat) (w : World) : Calls Tryd.prog 47 #[.map (some b)] w fun e w' => e = .returned (.func (.func 57) #[] #[.pointer (some ⟨w.heap.size, 0, none⟩)]) ∧ w' = w.alloc (.cells #[.map (some b)] 59) :=
  (callsIn_wide (n := 5)).1 (AnyZI.keys_in keysS Fence.wide 5 trivial rfl (some b) w)

/-- slices.Sorted of what maps.Keys gives: the numbers, rising. -/
theorem sorted_any (b n Bm : Nat) (l : List Int) (w : World) (hM : SMap w b n l) (hr : Ris l) (hl : l.length ≤ 1000) (hm : w.cell? ⟨Bm, 0, none⟩ = some (.map (some b))) :
    Calls Tryd.prog 46 #[.func (.func 57) #[] #[.pointer (some ⟨Bm, 0, none⟩)]] w fun e w' => ∃ v, e = .returned v ∧ w'.ownsRow w.heap.size 2 1 v l.length (l.map (Value.int .i64)) ∧ Ext w w' := by
  have hBm : Bm < w.heap.size := World.block_lt_of_cell? w _ hm
  have hseq : SeqGives Fence.wide 2 Tryd.prog 57 #[.pointer (some ⟨Bm, 0, none⟩)] encZ (fun ss => ss.Perm (intKeys (map l))) (Maps.size (map l)) w :=
    AnyZI.keys_gives (ρ := keysS_ren) { keysS with } Fence.wide _ trivial rfl (by omega) Bm b n _ _ hBm hm hM
  have cS := AnyZI.sorted_in sortedS Fence.wide 5 trivial trivial trivial trivial rfl (by omega) (sortsS _) (enters_of Tryd.func56 (by kernel_rfl) rfl) 57 #[.pointer (some ⟨Bm, 0, none⟩)] trivial (enters_of Tryd.func57 (by kernel_rfl) rfl) _ _ (by rw [map_size]; unfold maxLen; omega) (by rw [map_size]; omega) _ hseq
  refine ((callsIn_wide (n := 5)).1 cS).mono ?_
  rintro e w' ⟨v, ss, rfl, hS, hrow, -, hb⟩
  have hlen : ss.length = l.length := by have := hS.length_eq; rw [map_keys] at this; exact this
  rw [sorted_keys hS hr, hlen] at hrow
  exact ⟨v, rfl, hrow, hb⟩

set_option maxHeartbeats 1000000 in
set_option maxRecDepth 100000 in
theorem rising_any (b n : Nat) (l : List Int) (w : World) (hM : SMap w b n l) (hr : Ris l) (hl : l.length ≤ 1000) :
    Calls Tryd.prog 29 #[.map (some b)] w fun e w' => ∃ v g, e = .returned v ∧ w.heap.size ≤ g ∧ Led.IOwn w' v g l ∧ Ext w w' := by
  have HM : Hid (SMap w b n l) := hM
  have HR : Hid (Ris l) := hr
  have HK : Hid (Calls Tryd.prog 47 #[.map (some b)] w fun e w' => e = .returned (.func (.func 57) #[] #[.pointer (some ⟨w.heap.size, 0, none⟩)]) ∧ w' = w.alloc (.cells #[.map (some b)] 59)) := keys_any b w
  clear hM hr
  go_enter Tryd.func29, Tryd.ntmps29
  go_wp2_with fail
  refine HK.out.mono ?_
  rintro e w1 ⟨rfl, rfl⟩
  go_wp2_with fail
  refine (sorted_any b n _ l _ (HM.out.ext ((Ext.refl _).alloc _)) HR.out hl (by simp)).mono ?_
  rintro e w2 ⟨v, rfl, hrow, hb⟩
  have HE2 : Hid (Ext w w2) := ((Ext.refl _).alloc _).trans hb
  obtain ⟨g, hg1, hg2, hT⟩ := Led.iown_of_owns hrow
  obtain ⟨a8, c8, rfl, -⟩ := id hT
  have HT : Hid (w.heap.size ≤ g ∧ Led.IOwn w2 (.slice a8 l.length c8) g l) := ⟨by simp at hg1; omega, hT⟩
  clear hrow hb HK HM hT hg1 hg2
  go_wp2
  go_ret
  exact ⟨_, g, rfl, HT.out.1, HT.out.2, HE2.out⟩
end Nst
end Go.Proofs.YtfgjodnjahhanaaDoor
