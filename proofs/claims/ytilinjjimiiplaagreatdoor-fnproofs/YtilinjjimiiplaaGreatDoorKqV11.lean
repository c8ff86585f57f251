/- the specification's rows: l3Leaves, l3Row, l3Root. -/
import Derived.Test.YtilinjjimiiplaaGreatDoorKqJ30
namespace Go.Proofs.YtilinjjimiiplaaGreatDoor
open Go.RowKit
def Sm.rootF : Nat → List Int → Int
  | 0, l => l.headD 0
  | f + 1, l => if 1 < l.length then Sm.rootF f (Sm.up l) else l.headD 0
def Sm.root (l : List Int) : Int := Sm.rootF l.length l
theorem Sm.rootF_end {f : Nat} {l : List Int} (h : ¬ 1 < l.length) : Sm.rootF f l = l.headD 0 := by
  cases f with
  | zero => rfl
  | succ f => rw [Sm.rootF, if_neg h]
theorem Sm.rootF_step {f : Nat} {l : List Int} (h : 1 < l.length) (hf : l.length ≤ f) : ∃ f', (Sm.up l).length ≤ f' ∧ Sm.rootF f' (Sm.up l) = Sm.rootF f l := by
  obtain ⟨f', rfl⟩ : ∃ f', f = f' + 1 := ⟨f - 1, by omega⟩
  refine ⟨f', by rw [Sm.up_len]; omega, ?_⟩
  rw [Sm.rootF, if_pos h]
theorem Sm.up_ok : ∀ l : List Int, Sm.ok l = true → Sm.ok (Sm.up l) = true
  | [], _ => rfl
  | [a], h => by simpa [Sm.up] using h
  | a :: b :: r, h => by
    have h2 : Sm.ok r = true := by
      unfold Sm.ok at h ⊢
      simp only [List.all_cons, Bool.and_eq_true] at h
      exact h.2.2
    have := Sm.up_ok r h2
    unfold Sm.ok at this ⊢
    simp only [Sm.up, List.all_cons, Bool.and_eq_true]
    exact ⟨Sm.is_iff.2 (Sm.sum_is _), this⟩
theorem Sm.leaves_ok (zs : List Zn) : Sm.ok (zs.map Sm.leaf) = true := by
  unfold Sm.ok
  rw [List.all_eq_true]
  intro x hx
  obtain ⟨z, _, rfl⟩ := List.mem_map.1 hx
  exact Sm.is_iff.2 (Sm.sum_is _)

theorem own_ext {w w' : World} {base : Nat} {e : TypeId} {size : Nat} {v : Value} {n : Nat} {xs : List Value} (h : w.ownsRow base e size v n xs) (he : Ext w w') : w'.ownsRow base e size v n xs := by
  refine ⟨h.1, ?_⟩
  rcases h.2 with hn | ⟨g, cap, cur, rfl, hb, hgg, rest⟩
  · exact .inl hn
  · exact .inr ⟨g, cap, cur, rfl, hb, (he.block g (Array.getElem?_eq_some_iff.1 hgg).1).trans hgg, rest⟩
theorem step_append_own1 {P : Program} (w : World) {ops : Array Oper} {o : Oper} {a : Act} {K : Act → World → Prop} {Q : Exit → Act → World → Prop} {E : Prop} (hgd : o.guard = none) (s x : Operand) (t : TypeId)
    (ho : o.op = .call { callee := .builtin .append, args := #[s, x], argTypes := #[t, t] })
    (base : Nat) (e : TypeId) (i : TypeInfo) (z : Value) (size bytes : Nat) (ht : P.underlying t = some (.slice e)) (hi : P.info? e = some i) (hz : i.zero = some z)
    (hsize : i.size = size) (hby : i.bytes = bytes) (hzs : z.cells.size = size) (hsz : 0 < size)
    (v : Value) (n : Nat) (xs : List Value) (hs : a.eval s = v) (hown : w.ownsRow base e size v n xs)
    (ad : Addr) (m c : Nat) (news : List Value) (hx : a.eval x = .slice (some ad) m c) (hl : news.length = m * size) (hnews : ∀ j u, news[j]? = some u → w.cell? (ad.add j) = some u) (h1 : ∀ u ∈ news, u.oneCell' = true)
    (h63 : n + m ≤ maxLen) (hbytes : (n + m) * bytes ≤ 140737488355328) (hbase : base ≤ w.heap.size)
    (h : ∀ v' w', w'.ownsRow base e size v' (n + m) (xs ++ news) → w.grownBy w' v.ownBlock → (v' = .slice none 0 0 ↔ v = .slice none 0 0 ∧ m = 0) → K (a.put o.dst v') w') :
    if Region.wanted o (yielded ops a.tmps) = true then Oper.wp P o a w K Q else E := by
  have hw : Region.wanted o (yielded ops a.tmps) = true := by simp [Region.wanted, hgd]
  rw [if_pos hw]
  exact wp_append_own w s x t ho base e i z size bytes ht hi hz hsize hby hzs hsz v n xs hs hown ad m c news hx hl hnews h1 h63 hbytes hbase h

set_option maxHeartbeats 2000000 in
set_option maxRecDepth 100000 in
theorem l3Leaves_own (v : Value) (zs : List Zn) (w : World) (hS : NSlice w v zs) (h20 : zs.length ≤ 20) (hz : ∀ z ∈ zs, Sm.nodeC z = 0) :
    Calls Tryz.prog 23 #[v] w fun e w' => ∃ v', e = .returned v' ∧ w'.ownsRow w.heap.size 2 1 v' (zs.map Sm.leaf).length ((zs.map Sm.leaf).map (Value.int .i64)) ∧ Ext w w' := by
  have hi9 : (Tryz.prog.info? 2).map (fun i => (i.zero, i.size, i.bytes)) = some (some (.int .i64 0), 1, 8) := by kernel_rfl
  obtain ⟨i0, hi, hx9⟩ := Option.map_eq_some_iff.1 hi9
  simp only [Prod.mk.injEq] at hx9
  obtain ⟨hz0, hz1, hz2⟩ := hx9
  clear hi9
  have HL : Hid (∀ (z : Zn) (b o : Nat) (wx : World), z ∈ zs → ZAt wx b o z → Calls Tryz.prog 22 #[.pointer (some ⟨b, o, none⟩)] wx fun e w' => e = .returned (.int .i64 (Sm.leaf z)) ∧ Ext wx w') := fun z b o wx h hZ => by
    obtain ⟨hf, hn⟩ := Sm.nodeC_zero (hz z h)
    exact l3Leaf_any b o z wx hZ (by have := fault_short hf; rw [len_eq] at this; exact this) hn
  obtain ⟨a, cap, rfl, hlc, hcm, hx⟩ := hS
  have HX : Hid (0 < zs.length → ∃ b off, a = some ⟨b, off, none⟩ ∧ b < w.heap.size ∧ NodesAt w b off zs) := hx
  clear hx hz
  unfold maxLen at hcm
  go_enter Tryz.func23, Tryz.ntmps23
  go_wp2
  go_loopw [3, 4] (fun lv i wr => ∃ (k : Nat), k ≤ zs.length ∧ i = .int .i64 k ∧ Hid (wr.ownsRow w.heap.size 2 1 lv k (((zs.take k).map Sm.leaf).map (Value.int .i64))) ∧ Hid (Ext w wr)) (fun _ i _ => zs.length - (intOf i).toNat)
  case atStart => exact ⟨0, Nat.zero_le _, rfl, World.ownsRow_made w #[] 0 (Nat.le_refl _) (by unfold maxLen; omega) rfl, (Ext.refl _).alloc _⟩
  case round =>
    obtain ⟨k, hk, rfl, HO, HE⟩ := hrel
    by_cases hlt : k < zs.length
    · obtain ⟨z, hzk⟩ : ∃ z, zs[k]? = some z := ⟨_, List.getElem?_eq_getElem hlt⟩
      obtain ⟨b, off, rfl, hb, hN⟩ := HX.out (by omega)
      have HZA : Hid (ZAt wr b (off + k * 5) z) := ⟨Nat.lt_of_lt_of_le hb HE.out.size, hN.ext hb HE.out k z hzk⟩
      have HLz : Hid (Calls Tryz.prog 22 #[.pointer (some ⟨b, off + k * 5, none⟩)] wr fun e w' => e = .returned (.int .i64 (Sm.leaf z)) ∧ Ext wr w') := HL.out z b _ wr (List.mem_of_getElem? hzk) HZA.out
      have HZ : Hid ((zs.take (k + 1)).map Sm.leaf = (zs.take k).map Sm.leaf ++ [Sm.leaf z]) := by
        show _ = _
        obtain ⟨hkl, rfl⟩ := List.getElem?_eq_some_iff.1 hzk
        rw [List.take_succ_eq_append_getElem hkl, List.map_append]; rfl
      generalize Sm.leaf z = t at *
      clear hN hzk hb
      go_wp2_with fail
      refine HLz.out.mono ?_
      rintro e w5 ⟨rfl, hb5⟩
      have HO5 : Hid (w5.ownsRow w.heap.size 2 1 u3 k (((zs.take k).map Sm.leaf).map (Value.int .i64))) := by
        refine ⟨HO.out.1, ?_⟩
        rcases HO.out.2 with hn | ⟨g, cp, cur, rfl, hb, hgg, rest⟩
        · exact .inl hn
        · exact .inr ⟨g, cp, cur, rfl, hb, (hb5.block g (Array.getElem?_eq_some_iff.1 hgg).1).trans hgg, rest⟩
      have HE5 : Hid (Ext w w5) := HE.out.trans hb5
      clear hb5
      go_wp2_with (at_builtin; go_must (refine wpList_append_own _ rfl _ _ 56 rfl w.heap.size 2 i0 (.int .i64 0) 1 8 Tryz.underlying56 hi hz0 hz1 hz2 rfl (by decide) _ _ _ rfl (HO5.out.alloc _) ⟨w5.heap.size, 0, none⟩ 1 1 [.int .i64 t] rfl rfl (cell_one_new _ _ _) (fun x hx => by simp at hx; subst hx; rfl) (by unfold maxLen; omega) (by omega) (by have := HE5.out.size; simp; omega) ?_; intro v' w6 hown' hgrow hnil))
      refine ⟨⟨k + 1, by omega, by go_num, ?_, (HE5.out.alloc _).grown hgrow (by have := HE5.out.size; simp; omega) (fun q hq => (HO5.out.lt q hq).1)⟩, by simp [intOf]; omega⟩
      show w6.ownsRow _ _ _ _ _ _
      rw [HZ.out, List.map_append]
      exact hown'
    · have hke : k = zs.length := by omega
      have HF : Hid (wr.ownsRow w.heap.size 2 1 u3 (zs.map Sm.leaf).length ((zs.map Sm.leaf).map (Value.int .i64))) := by
        have h := HO.out
        rw [hke, List.take_length] at h
        rw [List.length_map]
        exact h
      go_wp2
      go_ret
      exact ⟨_, rfl, HF.out, HE.out⟩

theorem l3Leaves_any (v : Value) (zs : List Zn) (w : World) (hS : NSlice w v zs) (h20 : zs.length ≤ 20) (hz : ∀ z ∈ zs, Sm.nodeC z = 0) :
    Calls Tryz.prog 23 #[v] w fun e w' => ∃ v', e = .returned v' ∧ ISlice w' v' (zs.map Sm.leaf) ∧ Ext w w' :=
  (l3Leaves_own v zs w hS h20 hz).mono fun _ _ ⟨v', h1, h2, h3⟩ => ⟨v', h1, nums_of_owns4 h2, h3⟩

set_option maxHeartbeats 2000000 in
set_option maxRecDepth 100000 in
theorem l3Row_own (v : Value) (l : List Int) (w : World) (hS : ISlice w v l) (h20 : l.length ≤ 20) (ho : Sm.ok l = true) :
    Calls Tryz.prog 24 #[v] w fun e w' => ∃ v', e = .returned v' ∧ w'.ownsRow w.heap.size 2 1 v' (Sm.up l).length ((Sm.up l).map (Value.int .i64)) ∧ Ext w w' := by
  have hi9 : (Tryz.prog.info? 2).map (fun i => (i.zero, i.size, i.bytes)) = some (some (.int .i64 0), 1, 8) := by kernel_rfl
  obtain ⟨i0, hi, hx9⟩ := Option.map_eq_some_iff.1 hi9
  simp only [Prod.mk.injEq] at hx9
  obtain ⟨hz0, hz1, hz2⟩ := hx9
  clear hi9
  have HO0 : Hid (Sm.ok l = true) := ho
  obtain ⟨a, cap, rfl, hlc, hcm, hx⟩ := hS
  have HX : Hid (0 < l.length → ∃ b off, a = some ⟨b, off, none⟩ ∧ b < w.heap.size ∧ NumsAt w b off l) := hx
  clear hx ho
  unfold maxLen at hcm
  go_enter Tryz.func24, Tryz.ntmps24
  go_wp2
  go_loopw [3, 4] (fun lv i wr => ∃ (j k : Nat), k ≤ l.length + 1 ∧ i = .int .i64 k ∧ Hid (k = 2 * j) ∧ Hid (wr.ownsRow w.heap.size 2 1 lv j ((Sm.up (l.take (2 * j))).map (Value.int .i64))) ∧ Hid (Ext w wr)) (fun _ i _ => l.length + 1 - (intOf i).toNat)
  case atStart => exact ⟨0, 0, Nat.zero_le _, rfl, rfl, World.ownsRow_made w #[] 0 (Nat.le_refl _) (by unfold maxLen; omega) rfl, (Ext.refl _).alloc _⟩
  case round =>
    obtain ⟨j, k, hk, rfl, HK, HO, HE⟩ := hrel
    by_cases hlt : k < l.length
    · obtain ⟨x, hx⟩ : ∃ x, l[k]? = some x := ⟨_, List.getElem?_eq_getElem hlt⟩
      obtain ⟨b, off, rfl, hb, hN⟩ := HX.out (by omega)
      have cx := hN.ext hb HE.out k x hx
      obtain ⟨hx0, hx1⟩ := Sm.ok_at hx HO0.out
      have HXk : Hid (l[k]? = some x) := hx
      have hj20 : j ≤ 20 := by have := HK.out; omega
      by_cases h2 : k + 1 < l.length
      · obtain ⟨y, hy⟩ : ∃ y, l[k + 1]? = some y := ⟨_, List.getElem?_eq_getElem h2⟩
        have cy := hN.ext hb HE.out (k + 1) y hy
        obtain ⟨hy0, hy1⟩ := Sm.ok_at hy HO0.out
        have HP : Hid (∀ wx : World, Calls Tryz.prog 40 #[.int .i64 x, .int .i64 y] wx fun e w' => e = .returned (.int .i64 (Sm.sum [1, x, y])) ∧ Ext wx w') := fun wx => l3Pair_any x y wx (Sm.is_iff.2 ⟨hx0, hx1⟩) (Sm.is_iff.2 ⟨hy0, hy1⟩)
        have HU3 : Hid (Sm.up (l.take (2 * (j + 1))) = Sm.up (l.take (2 * j)) ++ [Sm.sum [1, x, y]]) := by
          have e := HK.out
          exact Sm.up_pair j l x y (by rw [← e]; exact HXk.out) (by rw [← e]; exact hy)
        generalize Sm.sum [1, x, y] = t at *
        obtain ⟨k', hk'⟩ : ∃ k', k' = k + 1 := ⟨_, rfl⟩
        rw [← hk'] at cy
        have hk1 : (k : Int) + 1 = (k' : Int) := by omega
        have i5 : (0 : Int) ≤ (k' : Int) := by omega
        have i7 : (k' : Int) < (l.length : Int) := by omega
        have i8 : IntKind.i64.wrap (k' : Int) = (k' : Int) := by rw [IntKind.wrap_i64]; omega
        have j5 : (0 : Int) ≤ (k : Int) := by omega
        have j7 : (k : Int) < (l.length : Int) := by omega
        have hbr : b < wr.heap.size := Nat.lt_of_lt_of_le hb HE.out.size
        have HBb : Hid (b < w.heap.size) := hb
        clear hN hx hy hb hk'
        go_wp2
        go_region_held3 (fun W => W.cell? ⟨b, off + k, none⟩ = some (.int .i64 x) ∧ W.cell? ⟨b, off + k', none⟩ = some (.int .i64 y)) (first | exact ⟨cx, cy⟩ | exact ⟨cx5, cy5⟩ | exact ⟨cx6, cy6⟩ | exact ⟨(alloc_cell _ _ _ _ hbr5).trans cx5, (alloc_cell _ _ _ _ hbr5).trans cy5⟩ | go_keep)
          (first | (go_at_call 40; refine (HP.out _).mono ?_; rintro e w5 ⟨rfl, hb5⟩; have cx5 := ((Ext.cell hb5).1 b (off + k) (by simpa using hbr)).trans cx; have cy5 := ((Ext.cell hb5).1 b (off + k') (by simpa using hbr)).trans cy; have HE5 : Hid (Ext w w5) := HE.out.drew.trans hb5; have hbr5 : b < w5.heap.size := Nat.lt_of_lt_of_le HBb.out HE5.out.size; have HO5 : Hid (w5.ownsRow w.heap.size 2 1 u3 j ((Sm.up (l.take (2 * j))).map (Value.int .i64))) := own_ext HO.out.drew hb5; clear hb5) | (refine step_append_own1 _ rfl (.tmp 17) (.tmp 28) 56 rfl w.heap.size 2 i0 (.int .i64 0) 1 8 Tryz.underlying56 hi hz0 hz1 hz2 rfl (by decide) u3 j _ (by simp [Act.eval]) (HO5.out.alloc _) ⟨w5.heap.size, 0, none⟩ 1 1 [.int .i64 t] (by simp [Act.eval]) rfl (cell_one_new _ _ _) (fun x hx => by simp at hx; subst hx; rfl) (by unfold maxLen; omega) (by omega) (by have := HE5.out.size; simp; omega) ?_; intro v' w6 hown' hgrow hnil; have HF6 : Hid (w6.ownsRow w.heap.size 2 1 v' (j + 1) ((Sm.up (l.take (2 * j))).map (Value.int .i64) ++ [.int .i64 t]) ∧ Ext w w6) := ⟨hown', (HE5.out.alloc _).grown hgrow (by have := HE5.out.size; simp; omega) (fun q hq => (HO5.out.lt q hq).1)⟩; have cx6 := (Below.cell (HF6.out.2) (p := ⟨b, off + k, none⟩) HBb.out).trans ((Below.cell HE.out (p := ⟨b, off + k, none⟩) HBb.out).symm.trans cx); have cy6 := (Below.cell (HF6.out.2) (p := ⟨b, off + k', none⟩) HBb.out).trans ((Below.cell HE.out (p := ⟨b, off + k', none⟩) HBb.out).symm.trans cy); clear hown' hgrow hnil))
        all_goals
          clear hk1 i5 i7 i8
          go_wp2
          refine ⟨⟨j + 1, k + 2, by omega, by go_num, by show k + 2 = 2 * (j + 1); have := HK.out; omega, ?_, HF6.out.2⟩, by simp [intOf]; omega⟩
          show w6.ownsRow _ _ _ _ _ _
          rw [HU3.out, List.map_append]
          exact HF6.out.1
      · have HU3 : Hid (Sm.up (l.take (2 * (j + 1))) = Sm.up (l.take (2 * j)) ++ [x]) := by
          have e := HK.out
          have h := Sm.up_one j l x (by rw [← e]; exact HXk.out) (by omega)
          show _ = _
          rw [List.take_of_length_le (by omega), h]
        clear hN hx hb
        go_wp2_with (at_builtin; go_must (refine wpList_append_own _ rfl _ _ 56 rfl w.heap.size 2 i0 (.int .i64 0) 1 8 Tryz.underlying56 hi hz0 hz1 hz2 rfl (by decide) _ _ _ rfl (HO.out.alloc _) ⟨wr.heap.size, 0, none⟩ 1 1 [.int .i64 x] rfl rfl (cell_one_new _ _ _) (fun x hx => by simp at hx; subst hx; rfl) (by unfold maxLen; omega) (by omega) (by have := HE.out.size; simp; omega) ?_; intro v' w6 hown' hgrow hnil))
        refine ⟨⟨j + 1, k + 2, by omega, by go_num, by show k + 2 = 2 * (j + 1); have := HK.out; omega, ?_, (HE.out.alloc _).grown hgrow (by have := HE.out.size; simp; omega) (fun q hq => (HO.out.lt q hq).1)⟩, by simp [intOf]; omega⟩
        show w6.ownsRow _ _ _ _ _ _
        rw [HU3.out, List.map_append]
        exact hown'
    · have HF : Hid (wr.ownsRow w.heap.size 2 1 u3 (Sm.up l).length ((Sm.up l).map (Value.int .i64))) := by
        have h := HO.out
        have e := HK.out
        rw [List.take_of_length_le (by omega)] at h
        rw [Sm.up_len, show (l.length + 1) / 2 = j from by omega]
        exact h
      go_wp2
      go_ret
      exact ⟨_, rfl, HF.out, HE.out⟩

theorem l3Row_any (v : Value) (l : List Int) (w : World) (hS : ISlice w v l) (h20 : l.length ≤ 20) (ho : Sm.ok l = true) :
    Calls Tryz.prog 24 #[v] w fun e w' => ∃ v', e = .returned v' ∧ ISlice w' v' (Sm.up l) ∧ Ext w w' :=
  (l3Row_own v l w hS h20 ho).mono fun _ _ ⟨v', h1, h2, h3⟩ => ⟨v', h1, nums_of_owns4 h2, h3⟩

def lenOf : Value → Nat
  | .slice _ n _ => n
  | _ => 0
set_option maxHeartbeats 2000000 in
set_option maxRecDepth 100000 in
theorem l3Root_any (v : Value) (zs : List Zn) (w : World) (hS : NSlice w v zs) (h20 : zs.length ≤ 20) (h0 : 1 ≤ zs.length) (hz : ∀ z ∈ zs, Sm.nodeC z = 0) :
    Calls Tryz.prog 31 #[v] w fun e w' => e = .returned (.int .i64 (Sm.root (zs.map Sm.leaf))) ∧ Ext w w' := by
  have HL : Hid (Calls Tryz.prog 23 #[v] w fun e w' => ∃ v', e = .returned v' ∧ ISlice w' v' (zs.map Sm.leaf) ∧ Ext w w') := l3Leaves_any v zs w hS h20 hz
  obtain ⟨a, cap, rfl, -⟩ := hS
  obtain ⟨l0, hl0⟩ : ∃ l0, l0 = zs.map Sm.leaf := ⟨_, rfl⟩
  have hl1 : 1 ≤ l0.length := by rw [hl0]; simpa using h0
  have hl20 : l0.length ≤ 20 := by rw [hl0]; simpa using h20
  have HO0 : Hid (Sm.ok l0 = true) := by rw [hl0]; exact Sm.leaves_ok zs
  rw [← hl0] at HL ⊢
  clear hl0 hz h0 h20
  obtain ⟨R, hR⟩ : ∃ R, R = Sm.root l0 := ⟨_, rfl⟩
  rw [← hR]
  have HR : Hid (R = Sm.rootF l0.length l0) := hR
  clear hR
  go_enter Tryz.func31, Tryz.ntmps31
  go_wp2_with fail
  refine HL.out.mono ?_
  rintro e w1 ⟨v1, rfl, h1, hb1⟩
  have H1 : Hid (ISlice w1 v1 l0) := h1
  have HE1 : Hid (Ext w w1) := hb1
  clear h1 hb1
  go_wp2
  go_loopw [3] (fun rv wr => ∃ (l : List Int) (f : Nat), 1 ≤ l.length ∧ l.length ≤ 20 ∧ Hid (ISlice wr rv l) ∧ Hid (Sm.ok l = true ∧ l.length ≤ f ∧ Sm.rootF f l = R) ∧ Hid (Ext w wr)) (fun rv _ => lenOf rv)
  case atStart => exact ⟨l0, l0.length, hl1, hl20, H1.out, ⟨HO0.out, Nat.le_refl _, HR.out.symm⟩, HE1.out⟩
  case round =>
    obtain ⟨l, f, hp, hq, HS, HF, HE⟩ := hrel
    have hs := HS.out
    obtain ⟨a', cap', rfl, hlc, hcm, hx⟩ := hs
    unfold maxLen at hcm
    by_cases hlt : 1 < l.length
    · have HRw : Hid (Calls Tryz.prog 24 #[.slice a' l.length cap'] wr fun e w' => ∃ v', e = .returned v' ∧ ISlice w' v' (Sm.up l) ∧ Ext wr w') := l3Row_any _ l wr HS.out hq HF.out.1
      obtain ⟨f', hf1, hf2⟩ := Sm.rootF_step hlt HF.out.2.1
      have HF' : Hid (Sm.ok (Sm.up l) = true ∧ (Sm.up l).length ≤ f' ∧ Sm.rootF f' (Sm.up l) = R) := ⟨Sm.up_ok l HF.out.1, hf1, by rw [hf2]; exact HF.out.2.2⟩
      have hul : (Sm.up l).length = (l.length + 1) / 2 := Sm.up_len l
      clear hx hf1 hf2
      go_wp2_with fail
      refine HRw.out.mono ?_
      rintro e w5 ⟨v5, rfl, h5, hb5⟩
      have H5 : Hid (ISlice w5 v5 (Sm.up l)) := h5
      have HE5 : Hid (Ext w w5) := HE.out.trans hb5
      have hv5 : lenOf v5 = (Sm.up l).length := by obtain ⟨_, _, rfl, _⟩ := h5; rfl
      clear h5 hb5
      go_wp2
      exact ⟨⟨Sm.up l, f', by omega, by omega, H5, HF', HE5⟩, by rw [hv5, hul]; simp [lenOf]; omega⟩
    · obtain ⟨b, off, rfl, hb, hN⟩ := hx (by omega)
      obtain ⟨x, rfl⟩ : ∃ x, l = [x] := by
        match l, hp, hlt with
        | [x], _, _ => exact ⟨x, rfl⟩
        | [], hp, _ => simp at hp
        | _ :: _ :: _, _, hlt => simp at hlt
      have hRx : R = x := by rw [← HF.out.2.2, Sm.rootF_end (by simp)]; rfl
      have cx := hN 0 x rfl
      rw [Nat.add_zero] at cx
      subst hRx
      clear hN hb
      simp only [List.length_cons, List.length_nil, Nat.zero_add]
      go_wp2
      go_ret
      exact ⟨rfl, HE.out⟩
end Go.Proofs.YtilinjjimiiplaaGreatDoor
