/- watches in a map: their keys, what is there, what is put. -/
import Derived.Test.YtgofggmgnodplaaDoorK1
import Derived.Test.YtgofggmgnodplaaDoorClone
import Derived.Maps.OwnSet
import Derived.Maps.OwnOps
import Derived.DeepKeys4
namespace Go.Proofs.YtgofggmgnodplaaDoor
open Go.RowKit Go.Maps

theorem laid_outK : laidOutB Tryd.prog = true := by kernel_rfl
theorem rowW : (52 : TypeId) < Tryd.prog.types.size := of_decide_eq_true (by kernel_rfl)
theorem cellsW : Tryd.prog.cellsOf 52 = 2 := by kernel_rfl
theorem ktypeW : Tryd.prog.keyType 52 = true := by kernel_rfl
theorem wideW : (match Tryd.prog.underlying 52 with | some (.array _ _) | some (.struct _) => true | _ => false) = true := by kernel_rfl
set_option maxRecDepth 100000 in
theorem lawW : Keyed Tryd.prog 52 := Keyed.of_law (deep_law_laid laid_outK (m := 2) (by omega) rowW (by kernel_rfl) wideW)
theorem ntypes : Tryd.prog.types.size = 197 := by kernel_rfl
theorem cells64 : Tryd.prog.cellsOf 2 = 1 := by kernel_rfl
theorem cellsStr : Tryd.prog.cellsOf 9 = 1 := by kernel_rfl
def keyB (z : Wt) : List UInt8 := keyBytes [.int .i64 z.client, .string z.path.data.toList]
/-- A watch whose key may be told. -/
def Okw (z : Wt) : Prop := -100000 ≤ z.client ∧ z.client ≤ 100000 ∧ z.path.size ≤ 1048576
theorem keyW {z : Wt} (h : Okw z) : keyOf Tryd.prog 52 (wtagg z) = some (.string (keyB z)) := by
  obtain ⟨h0, h1, h2⟩ := h
  have hw : (Lit.int .i64 z.client).wf = true := WalkArith.wf_i64 (by omega)
  have hp : z.path.size ≤ maxLen := by unfold maxLen; omega
  obtain ⟨d, hd⟩ : ∃ d, Tryd.prog.types.size + 1 = d + 2 := ⟨197 - 1, by rw [ntypes]⟩
  unfold keyOf wtagg
  rw [Tryd.underlying52, hd]
  simp [ktypeW, Value.formed, Tryd.underlying52, cellsW, Program.keyLits, Tryd.underlying2, Tryd.underlying9, cells64, cellsStr, Value.cells, hw, hp, keyB]
theorem keyB_inj {z y : Wt} (hz : Okw z) (hy : Okw y) (h : keyB z = keyB y) : z = y := by
  have h1 := keyW hz
  have h2 := keyW hy
  rw [← h] at h2
  have h3 := lawW.inj h1 h2
  unfold wtagg at h3
  simp only [Value.agg.injEq, Array.mk.injEq, List.cons.injEq, Value.int.injEq, Value.string.injEq, true_and, and_true] at h3
  cases z; cases y
  simp only at h3
  rw [h3.1, h3.2]
def kvW (p : Wt × Nat) : Lit × DataW Unit := (.string (keyB p.1), .lit (.int .i64 (p.2 : Int)))
/-- Block b holds a map of watches to their places: those of m, in some order. -/
def WMap (w : World) (b n : Nat) (m : List (Wt × Nat)) : Prop :=
  (∀ p ∈ m, Okw p.1) ∧ ∃ E, w.ownsMap Tryd.prog 52 (plainElem (H := Unit) Tryd.prog 3) b n (.map E) ∧ E.Perm (m.map kvW)
theorem WMap.lt {w : World} {b n : Nat} {m : List (Wt × Nat)} (h : WMap w b n m) : b < w.heap.size := by
  obtain ⟨-, E, hM, -⟩ := h
  exact World.ownsMap.lt hM
theorem WMap.ext {w w' : World} {b n : Nat} {m : List (Wt × Nat)} (h : WMap w b n m) (he : Ext w w') : WMap w' b n m := by
  have hlt := h.lt
  obtain ⟨ho, E, ⟨es, clock, hb, F, hs, hD⟩, hp⟩ := h
  exact ⟨ho, E, ⟨es, clock, (Below.block he b hlt).trans hb, F, hs, hD⟩, hp⟩
def hasK (m : List (Wt × Nat)) (z : Wt) : Bool := m.any fun p => decide (p.1 = z)
theorem any_perm {α : Type} {l l' : List α} (h : l.Perm l') (p : α → Bool) : l.any p = l'.any p := by
  rw [Bool.eq_iff_iff, List.any_eq_true, List.any_eq_true]
  exact ⟨fun ⟨x, hx, hp⟩ => ⟨x, h.mem_iff.1 hx, hp⟩, fun ⟨x, hx, hp⟩ => ⟨x, h.mem_iff.2 hx, hp⟩⟩
theorem same_kv {p : Wt × Nat} {z : Wt} (hp : Okw p.1) (hz : Okw z) : (kvW p).1.sameKey (.string (keyB z)) = decide (p.1 = z) := by
  show (keyB p.1 == keyB z) = _
  rw [Bool.eq_iff_iff]
  simp only [beq_iff_eq, decide_eq_true_eq]
  exact ⟨fun h => keyB_inj hp hz h, fun h => by rw [h]⟩
theorem has_kv {E : List (Lit × DataW Unit)} {m : List (Wt × Nat)} {z : Wt} (hp : E.Perm (m.map kvW)) (ho : ∀ p ∈ m, Okw p.1) (hz : Okw z) : Maps.has (DataW.map E) (.string (keyB z)) = hasK m z := by
  show E.any _ = _
  rw [any_perm hp, List.any_map]
  unfold hasK
  rw [Bool.eq_iff_iff, List.any_eq_true, List.any_eq_true]
  constructor
  · rintro ⟨p, hm, h⟩; exact ⟨p, hm, by rw [← same_kv (ho p hm) hz]; exact h⟩
  · rintro ⟨p, hm, h⟩; exact ⟨p, hm, (same_kv (ho p hm) hz).trans h⟩
theorem insert_perm (x : Lit × DataW Unit) : ∀ l : List (Lit × DataW Unit), (DataW.insert x l).Perm (x :: l)
  | [] => List.Perm.refl _
  | y :: r => by
    unfold DataW.insert
    split
    · exact List.Perm.refl _
    · exact ((insert_perm x r).cons y).trans (List.Perm.swap x y r)
theorem filter_kv {E : List (Lit × DataW Unit)} {m : List (Wt × Nat)} {z : Wt} (hp : E.Perm (m.map kvW)) (ho : ∀ p ∈ m, Okw p.1) (hz : Okw z) : (E.filter fun p => !p.1.sameKey (.string (keyB z))).Perm ((m.filter fun p => !decide (p.1 = z)).map kvW) := by
  refine (hp.filter _).trans ?_
  rw [List.filter_map]
  refine List.Perm.of_eq ?_
  congr 1
  apply List.filter_congr
  intro p hm
  show (!(kvW p).1.sameKey _) = _
  rw [same_kv (ho p hm) hz]
theorem put_kv {E : List (Lit × DataW Unit)} {m : List (Wt × Nat)} {z : Wt} {i : Nat} (hp : E.Perm (m.map kvW)) (ho : ∀ p ∈ m, Okw p.1) (hz : Okw z) (hn : hasK m z = false) :
    ∃ E', (DataW.map E).put (.string (keyB z)) (.lit (.int .i64 (i : Int))) = .map E' ∧ E'.Perm ((m ++ [(z, i)]).map kvW) := by
  refine ⟨_, rfl, ?_⟩
  refine (insert_perm _ _).trans ?_
  have h1 := filter_kv hp ho hz
  have h2 : (m.filter fun p => !decide (p.1 = z)) = m := by
    rw [List.filter_eq_self]
    intro p hm
    unfold hasK at hn
    rw [List.any_eq_false] at hn
    have := hn p hm
    simpa using this
  rw [h2] at h1
  rw [List.map_append]
  exact (h1.cons _).trans (List.perm_append_singleton (kvW (z, i)) (m.map kvW)).symm
theorem make_lookout (n : Int) (w : World) : (Instr.makeMap 55 (some (.int .i64 n))).run Tryd.prog w = .ok (.map (some w.heap.size)) (w.alloc (.map #[] 0)) := by
  simp [Instr.makeMap, run_underlying Tryd.underlying55, asInt, go_sem]
theorem zeroInt (w : World) : (zeroValue 3).run Tryd.prog w = .ok (.int .i64 0) w := by kernel_rfl
theorem WMap.made (w : World) : WMap (w.alloc (.map #[] 0)) w.heap.size 0 [] := ⟨(fun p h => by cases h), [], World.ownsMap_made _ _ _ _, List.Perm.refl _⟩

set_option maxHeartbeats 1000000 in
set_option maxRecDepth 100000 in
theorem lookHas_any (b n : Nat) (m : List (Wt × Nat)) (z : Wt) (w : World) (hM : WMap w b n m) (hz : Okw z) :
    Calls Tryd.prog 26 #[.map (some b), wtagg z] w fun e w' => e = .returned (.bool (hasK m z)) ∧ Ext w w' := by
  have hkey := keyW hz
  obtain ⟨ho, E, hO, hp⟩ := hM
  have hhas := has_kv hp ho hz
  generalize hasK m z = H at *
  unfold wtagg at *
  have hA := World.ownsMap.alloc hO
  clear hO hp ho
  go_enter Tryd.func26, Tryd.ntmps26
  go_wp2_with (at_lookup; (refine wpList_lookup_own_ok_int _ rfl _ _ 55 rfl 52 3 .i64 lawW Tryd.underlying55 Tryd.underlying3 (zeroInt _) b n _ rfl (hA _) _ _ rfl hkey ?_; intro c hat hwc; rw [hhas]))
  go_ret
  exact ⟨rfl, (Ext.refl _).alloc _⟩
theorem cell_block {w w' : World} {c : Nat} (h : w'.heap[c]? = w.heap[c]?) (o : Nat) : w'.cell? ⟨c, o, none⟩ = w.cell? ⟨c, o, none⟩ ∧ w'.frozen? ⟨c, o, none⟩ = w.frozen? ⟨c, o, none⟩ := by
  unfold World.cell? World.frozen?
  simp only [h, and_self]
theorem Upd.grown {b : Nat} {w w1 w' : World} (h : Upd b w w1) (hg : w1.grownBy w' (some b)) (hb : b ≤ w1.heap.size) : Upd b w w' := by
  refine ⟨Below.grown h.1 hg hb (fun k hk => by cases hk; exact Nat.le_refl _), Nat.le_trans h.2.1 hg.size, fun c o hc hl => ?_⟩
  have h1 := cell_block (hg.block c (Nat.lt_of_lt_of_le hl h.2.1) (fun e => by cases e; omega)) o
  exact ⟨h1.1.trans (h.2.2 c o hc hl).1, h1.2.trans (h.2.2 c o hc hl).2⟩
theorem Upd.setNew {b : Nat} {w w1 : World} (h : Upd b w w1) (hb : b ≤ w.heap.size) (g o : Nat) (hg : w.heap.size ≤ g) (v : Value) : Upd b w (w1.setCell ⟨g, o, none⟩ v) := by
  refine ⟨Below.setCell (p := ⟨g, o, none⟩) h.1 (Nat.le_trans hb hg) v, by simpa using h.2.1, fun c k hc hl => ?_⟩
  refine ⟨?_, by simpa using (h.2.2 c k hc hl).2⟩
  rw [World.cell?_setCell_other _ _ _ _ (by intro e; injection e with e1 _ _; omega)]
  exact (h.2.2 c k hc hl).1
theorem WMap.setNew {w : World} {b n : Nat} {m : List (Wt × Nat)} (h : WMap w b n m) (g o : Nat) (hg : b ≠ g) (v : Value) : WMap (w.setCell ⟨g, o, none⟩ v) b n m := by
  obtain ⟨ho, E, hM, hp⟩ := h
  exact ⟨ho, E, World.ownsMap.setCell hM hg v, hp⟩

set_option maxHeartbeats 2000000 in
set_option maxRecDepth 100000 in
theorem lookTake_any (b n : Nat) (m : List (Wt × Nat)) (z : Wt) (i : Nat) (w : World) (hM : WMap w b n m) (hz : Okw z) (hn : n < 1000) (hi : i < 1000) (hno : hasK m z = false) :
    Calls Tryd.prog 27 #[.map (some b), wtagg z, .int .i64 i] w fun e w' => e = .returned (.tuple #[]) ∧ WMap w' b (n + 1) (m ++ [(z, i)]) ∧ Upd b w w' := by
  have hkey := keyW hz
  have hlt := hM.lt
  have HM : Hid (WMap w b n m) := hM
  have HC : Hid (∀ wx : World, Calls Tryd.prog 48 #[.string z.path] wx fun e w' => e = .returned (.string z.path) ∧ Ext wx w') := fun wx => clone_any z.path wx hz.2.2
  have hval : plainElem (H := Unit) Tryd.prog 3 (.int .i64 (i : Int)) = some (.lit (.int .i64 (i : Int)), []) := plainElem_int Tryd.underlying3 (WalkArith.wf_i64 (by omega))
  have HZ : Hid (Okw z ∧ hasK m z = false) := ⟨hz, hno⟩
  clear hM hz hno
  unfold wtagg at *
  go_enter Tryd.func27, Tryd.ntmps27
  go_wp2_with fail
  refine (HC.out _).mono ?_
  rintro e w1 ⟨rfl, hb⟩
  have HB : Hid (Ext w w1) := ((Ext.refl _).alloc _).trans hb
  obtain ⟨hc, hf⟩ := Ext.cell hb
  have q0 : w1.cell? ⟨w.heap.size, 0, none⟩ = some (.int .i64 z.client) := by rw [hc _ _ (by simp)]; simp
  have q1 : w1.cell? ⟨w.heap.size, 1, none⟩ = some (.string z.path) := by rw [hc _ _ (by simp)]; simp
  have f1 : w1.frozen? ⟨w.heap.size, 1, none⟩ = false := by rw [hf _ _ (by simp)]; simp
  have hlt1 : w.heap.size < w1.heap.size := by have := hb.size; simp at this; omega
  clear hb hc hf
  have HM1 : Hid (WMap (w1.setCell ⟨w.heap.size, 1, none⟩ (.string z.path)) b n m) := (HM.out.ext HB.out).setNew _ _ (by omega) _
  have HU1 : Hid (Upd b w (w1.setCell ⟨w.heap.size, 1, none⟩ (.string z.path))) := (Upd.ext HB.out (by omega)).setNew (by omega) _ _ (Nat.le_refl _) _
  obtain ⟨ho, E, hO, hp⟩ := HM1.out
  obtain ⟨E', hput, hp'⟩ := put_kv (i := i) hp ho HZ.out.1 HZ.out.2
  have HP : Hid (E'.Perm ((m ++ [(z, i)]).map kvW) ∧ ∀ p ∈ m ++ [(z, i)], Okw p.1) := ⟨hp', fun p hp => by
    rcases List.mem_append.1 hp with h | h
    · exact ho p h
    · simp at h; subst h; exact HZ.out.1⟩
  clear ho hp hp'
  go_wp2_with (at_mapUpdate; (refine wpList_mapUpdate_own _ rfl _ _ _ 55 rfl 52 3 lawW Tryd.underlying55 _ b n _ rfl hO (by unfold maxLen; omega) _ _ _ rfl rfl hkey _ [] hval ?_; intro w2 hown2 hgrow2))
  go_end0
  rw [hput] at hown2
  refine ⟨rfl, ⟨HP.out.2, E', hown2, HP.out.1⟩, HU1.out.grown hgrow2 (by simp; omega)⟩
end Go.Proofs.YtgofggmgnodplaaDoor
