/- V5, V8, LSumOf, in one text. -/
import Derived.Test.YtilinjjimiiplaaGreatDoorKqV4
import Derived.Test.YtilinjjimiiplaaGreatDoorKqJ12
import Derived.Test.YtilinjjimiiplaaGreatDoorKqJ13
import Derived.Lib.ConvBytes
import Derived.Maps.AppendAt
import Derived.Deep.MidRow
import Derived.Deep.RegionHeld3
import Derived.Test.YtilinjjimiiplaaGreatDoorKqJ22
namespace Go.Proofs.YtilinjjimiiplaaGreatDoor
open Go.RowKit
theorem ownsRow_ext {w w' : World} {base : Nat} {e : TypeId} {size : Nat} {v : Value} {n : Nat} {xs : List Value} (h : w.ownsRow base e size v n xs) (he : Ext w w') : w'.ownsRow base e size v n xs := by
  refine ⟨h.1, ?_⟩
  rcases h.2 with hn | ⟨g, cap, cur, rfl, hb, hgg, rest⟩
  · exact .inl hn
  · refine .inr ⟨g, cap, cur, rfl, hb, ?_, rest⟩
    have hk : g < w.heap.size := (Array.getElem?_eq_some_iff.1 hgg).1
    exact (he.block g hk).trans hgg
theorem IBox.below {w w2 : World} {r B : Nat} (h : IBox w r) (he : Below B w w2) (hr : r < B) : IBox w2 r := by
  obtain ⟨h1, h2, h3, h5, h6⟩ := h
  exact ⟨Nat.lt_of_lt_of_le h1 (Below.size he), (Below.cell he (p := ⟨r, 0, none⟩) hr).trans h2, (Below.cell he (p := ⟨r, 1, none⟩) hr).trans h3, (Below.frozen he (p := ⟨r, 0, none⟩) hr).trans h5, (Below.frozen he (p := ⟨r, 1, none⟩) hr).trans h6⟩
theorem conv_bytes (W : World) (s : ByteArray) (g : Nat) (hg : g = W.heap.size) : ∃ (cp : Nat) (W' : World), (convert 9 22 (.string s)).run Tryz.prog W = .ok (.slice (some ⟨g, 0, none⟩) s.size cp) W' ∧ Ext W W' ∧ W'.heap.size = g + 1 ∧ ∀ (j : Nat) (h : j < s.size), W'.cell? ⟨g, j, none⟩ = some (.int .u8 (s[j].toNat : Int)) := by
  subst hg
  refine ⟨_, _, Lib.run_convert_string_bytes W 9 22 5 s Tryz.underlying9 Tryz.underlying22 Tryz.underlying5, ⟨rfl, rfl, rfl, ?_, fun k hk => Lib.bytesWorld_at_old W _ s k hk⟩, Lib.bytesWorld_size W _ s, fun j h => ?_⟩
  · rw [Lib.bytesWorld_size]; omega
  · rw [Lib.bytesWorld_cell W _ s j h]
    rw [List.getD_eq_getElem?_getD, List.getElem?_eq_getElem (by simpa using h)]
    rfl

set_option maxHeartbeats 2000000 in
set_option maxRecDepth 100000 in
theorem implLeafSum_any (z : Zn) (w : World) (hg : Gd w) :
    Calls Tryz.prog 12 #[zagg z] w fun e w' => e = .returned (ir (Sm.leafV z)) ∧ Ext w w' := by
  have HP : Hid (∀ wx : World, Ext w wx → Calls Tryz.prog 34 #[.string z.path] wx fun e w' => e = .returned (.int .i64 (Pth.faultI z.path.data.toList)) ∧ Ext wx w') := fun wx h => pathFault_any z.path wx (hg.ext h)
  have HH : Hid (∀ (b : Nat) (wx : World), ZAt wx b 0 z → Calls Tryz.prog 35 #[.pointer (some ⟨b, 0, none⟩)] wx fun e w' => e = .returned (.bool (Tre.okNums z)) ∧ Ext wx w') := fun b wx h => hasBounds_any b 0 z wx h.2.2.1 h.2.2.2.1 h.2.2.2.2.1 h.2.2.2.2.2
  clear hg
  unfold zagg
  have hi9 : (Tryz.prog.info? 2).map (fun i => (i.zero, i.size, i.bytes)) = some (some (.int .i64 0), 1, 8) := by kernel_rfl
  obtain ⟨i0, hi, hx⟩ := Option.map_eq_some_iff.1 hi9
  simp only [Prod.mk.injEq] at hx
  obtain ⟨hz0, hz1, hz2⟩ := hx
  clear hi9
  by_cases hc0 : Pth.faultI z.path.data.toList ≠ 0
  · rw [leafV_bad (Sm.nodeC_path rfl hc0) hc0]
    generalize Pth.faultI z.path.data.toList = c at *
    clear hi hz0 hz1 hz2
    go_enter Tryz.func12, Tryz.ntmps12
    go_wp2_with fail
    refine (HP.out _ (((Ext.refl _).alloc _).alloc _)).mono ?_
    rintro e w2 ⟨rfl, hb⟩
    have HB : Hid (Ext w w2) := (((Ext.refl _).alloc _).alloc _).trans hb
    obtain ⟨q, q0, q1, f0, f1⟩ := (two_boxes w z _ _).2.ext hb
    clear hb
    go_wp2
    exact bodyPost_ret (v := ir (c, 0)) (by simp [results, Tryz.results12, go_sem, ir, q0, q1]) rfl ⟨rfl, HB.out.two1 _ _⟩
  · have hc1 : Pth.faultI z.path.data.toList = 0 := by omega
    rw [hc1] at HP
    cases hn : Tre.okNums z with
    | false =>
      rw [hn] at HH
      rw [leafV_bad (c := 3) (by rw [Sm.nodeC_nums hc1 hn]; rfl) (by decide)]
      clear hi hz0 hz1 hz2 hc0 hc1 hn
      go_enter Tryz.func12, Tryz.ntmps12
      go_wp2_with fail
      refine (HP.out _ (((Ext.refl _).alloc _).alloc _)).mono ?_
      rintro e w2 ⟨rfl, hb⟩
      have HB : Hid (Ext w w2) := (((Ext.refl _).alloc _).alloc _).trans hb
      have HZ2 : Hid (ZAt w2 w.heap.size 0 z) := (two_boxes w z _ _).1.ext hb
      have HQ2 : Hid (IBox w2 (w.heap.size + 1)) := (two_boxes w z _ _).2.ext hb
      clear hb
      go_wp2_with fail
      refine (HH.out _ _ HZ2.out).mono ?_
      rintro e w3 ⟨rfl, hb⟩
      have HB3 : Hid (Ext w w3) := HB.out.trans hb
      obtain ⟨q, q0, q1, f0, f1⟩ := HQ2.out.ext hb
      clear hb
      go_wp2
      exact bodyPost_ret (v := ir (3, 0)) (by simp [results, Tryz.results12, go_sem, ir, q0, q1]) rfl ⟨rfl, HB3.out.two1 _ _⟩
    | true =>
      rw [hn] at HH
      have hN0 : Sm.nodeC z = 0 := by rw [Sm.nodeC_nums hc1 hn]; rfl
      have hs : z.path.size ≤ 24 := by have := fault_short hc1; rw [len_eq] at this; exact this
      rw [leafV_ok hN0]
      have HI : Hid (∀ (v : Value) (wx : World), ISlice wx v (Sm.lf z z.path.size) → Calls Tryz.prog 36 #[v] wx fun e w' => e = .returned (ir (0, Sm.leaf z)) ∧ Ext wx w') := fun v wx h => by
        have h2 := implSumOf_any v _ wx h
        rw [Sm.sumV_ok (by rw [Sm.lf_len (Nat.le_refl _)]; omega) (Sm.lf_ok _ hn)] at h2
        exact h2
      clear hc0 hc1 hn hN0
      generalize Sm.leaf z = r at *
      go_enter Tryz.func12, Tryz.ntmps12
      go_wp2_with fail
      refine (HP.out _ (((Ext.refl _).alloc _).alloc _)).mono ?_
      rintro e w2 ⟨rfl, hb⟩
      have HB : Hid (Ext w w2) := (((Ext.refl _).alloc _).alloc _).trans hb
      have HZ2 : Hid (ZAt w2 w.heap.size 0 z) := (two_boxes w z _ _).1.ext hb
      have HQ2 : Hid (IBox w2 (w.heap.size + 1)) := (two_boxes w z _ _).2.ext hb
      clear hb
      go_wp2_with fail
      refine (HH.out _ _ HZ2.out).mono ?_
      rintro e w3 ⟨rfl, hb⟩
      have HB3 : Hid (Ext w w3) := HB.out.trans hb
      have HZ3 : Hid (ZAt w3 w.heap.size 0 z) := HZ2.out.ext hb
      have HQ3 : Hid (IBox w3 (w.heap.size + 1)) := HQ2.out.ext hb
      clear hb
      obtain ⟨hbr, d0, d1, d2, d3, d4⟩ := HZ3.out
      obtain ⟨cp, w4, hcv, hE4, hz4, hby⟩ := conv_bytes (w3.alloc (.cells #[.int .i64 0, .int .i64 z.data, .int .i64 z.version, .int .i64 z.owner, .int .i64 z.next] 2)) z.path (w3.heap.size + 1) (by simp)
      have HE4 : Hid (Ext w w4) := (HB3.out.alloc _).trans hE4
      have HQ4 : Hid (IBox w4 (w.heap.size + 1)) := (HQ3.out.ext ((Ext.refl _).alloc _)).ext hE4
      have HY4 : Hid (w4.heap.size = w3.heap.size + 2 ∧ ∀ (j : Nat) (h : j < z.path.size), w4.cell? ⟨w3.heap.size + 1, j, none⟩ = some (.int .u8 (z.path[j].toNat : Int))) := ⟨hz4, hby⟩
      have HO4 : Hid (w4.ownsRow w3.heap.size 2 1 (.slice (some ⟨w3.heap.size, 0, none⟩) 5 5) 5 ((Sm.lf z 0).map (Value.int .i64))) := by
        have h := World.ownsRow_lit (base := w3.heap.size) (e := 2) (size := 1) w3 #[.int .i64 0, .int .i64 z.data, .int .i64 z.version, .int .i64 z.owner, .int .i64 z.next] 5 (Nat.le_refl _) (by unfold maxLen; omega) rfl
        exact ownsRow_ext h hE4
      clear hE4 hz4 hby
      have hlt3 : w.heap.size + 1 < w3.heap.size := HQ3.out.1
      go_wp2
      go_loopw [4, 30] (fun lv i wr => ∃ (k : Nat), k ≤ z.path.size ∧ i = .int .i64 k ∧ Hid (wr.ownsRow w3.heap.size 2 1 lv (5 + k) ((Sm.lf z k).map (Value.int .i64)) ∧ lv.ownBlock ≠ some (w3.heap.size + 1)) ∧ Hid (w3.heap.size + 2 ≤ wr.heap.size ∧ ∀ (j : Nat) (h : j < z.path.size), wr.cell? ⟨w3.heap.size + 1, j, none⟩ = some (.int .u8 (z.path[j].toNat : Int))) ∧ Hid (Below w3.heap.size w4 wr)) (fun _ i _ => z.path.size - (intOf i).toNat)
      case atStart => exact ⟨0, Nat.zero_le _, rfl, ⟨HO4.out, by simp [Value.ownBlock]⟩, ⟨by rw [HY4.out.1]; exact Nat.le_refl _, HY4.out.2⟩, Below.refl _ _⟩
      case round =>
        obtain ⟨k, hk, rfl, HO, HY, HE⟩ := hrel
        by_cases hlt : k < z.path.size
        · have hyk := HY.out.2 k hlt
          go_wp2_with (at_builtin; go_must (refine wpList_append_own_at _ rfl _ _ 56 rfl w3.heap.size 2 i0 (.int .i64 0) 1 8 Tryz.underlying56 hi hz0 hz1 hz2 rfl (by decide) _ _ _ rfl (HO.out.1.alloc _) ⟨wr.heap.size, 0, none⟩ 1 1 [.int .i64 (wrap64 (z.path[k].toNat : Int))] rfl rfl (cell_one_new _ _ _) (fun x hx => by simp at hx; subst hx; rfl) (by unfold maxLen; omega) (by omega) (by have := HY.out.1; simp; omega) ?_; intro v' w5 hown' hgrow hnil hlies))
          have hB5 : Below w3.heap.size w4 w5 := (HE.out.alloc (by have := HY.out.1; omega) _).grown hgrow (by have := HY.out.1; simp; omega) (fun q hq => (HO.out.1.lt q hq).1)
          refine ⟨⟨k + 1, by omega, by go_num, ⟨?_, ?_⟩, ⟨?_, ?_⟩, hB5⟩, by simp [intOf]; omega⟩
          · rw [Sm.lf_succ hlt, List.map_append]
            rw [wrap_byte] at hown'
            exact hown'
          · rcases hlies with h | h
            · rw [h]; exact HO.out.2
            · rw [h]; have := HY.out.1; simp; omega
          · have := hgrow.size; have := HY.out.1; simp at *; omega
          · intro j hj
            refine hgrow.cell (a := ⟨w3.heap.size + 1, j, none⟩) ?_ (fun h => HO.out.2 h.symm)
            rw [alloc_cell _ _ _ _ (by have := HY.out.1; omega)]
            exact HY.out.2 j hj
        · have hke : k = z.path.size := by omega
          subst hke
          have hIS : ISlice wr u4 (Sm.lf z z.path.size) := by
            refine nums_of_owns4 (base := w3.heap.size) ?_
            rw [Sm.lf_len (Nat.le_refl _)]
            exact HO.out.1
          have HIS : Hid (ISlice wr u4 (Sm.lf z z.path.size)) := hIS
          clear hIS
          have HQr : Hid (IBox wr (w.heap.size + 1)) := HQ4.out.below HE.out hlt3
          have HEr : Hid (Ext w wr) := Below.trans HE4.out (Below.mono HE.out (by omega))
          unfold ir at HI
          go_wp2_with fail
          refine (HI.out _ _ HIS.out).mono ?_
          rintro e w6 ⟨rfl, hb⟩
          have HB6 : Hid (Ext w w6) := HEr.out.trans hb
          obtain ⟨q, q0, q1, f0, f1⟩ := HQr.out.ext hb
          clear hb
          go_wp2
          exact bodyPost_ret (v := ir (0, r)) (by simp [results, Tryz.results12, go_sem, ir, q0, q1]) rfl ⟨rfl, HB6.out.two1 _ _⟩
end Go.Proofs.YtilinjjimiiplaaGreatDoor
namespace Go.Proofs.YtilinjjimiiplaaGreatDoor
open Go.RowKit
/-- The cells of a row that holds the sums l. -/
def RowV (R : List Value) (l : List Int) : Prop :=
  R.length = 21 ∧ l.length ≤ 20 ∧ R[0]? = some (.int .i64 (l.length : Int)) ∧ (∀ j x, l[j]? = some x → R[j + 1]? = some (.int .u64 x)) ∧ ∀ v ∈ R, v.oneCell' = true
/-- The row R lies in block b, and may be written. -/
def RowAt (w : World) (b : Nat) (R : List Value) : Prop := b < w.heap.size ∧ w.rangeAt b 0 R ∧ ∀ j, j < R.length → w.frozen? ⟨b, j, none⟩ = false
theorem RowAt.ext {w w' : World} {b : Nat} {R : List Value} (h : RowAt w b R) (he : Ext w w') : RowAt w' b R := by
  obtain ⟨hc, hf⟩ := Ext.cell he
  exact ⟨Nat.lt_of_lt_of_le h.1 he.size, fun j v hv => (hc _ _ h.1).trans (h.2.1 j v hv), fun j hj => (hf _ _ h.1).trans (h.2.2 j hj)⟩
theorem RowAt.there {w : World} {b : Nat} {R : List Value} (h : RowAt w b R) : w.there b 0 R.length := fun j hj => by
  rw [Nat.zero_add]
  refine ⟨?_, h.2.2 j hj⟩
  have := h.2.1 j _ (List.getElem?_eq_getElem hj)
  rw [Nat.zero_add] at this
  rw [this]; rfl
theorem RowAt.cell {w : World} {b j : Nat} {R : List Value} {v : Value} (h : RowAt w b R) (hv : R[j]? = some v) : w.cell? ⟨b, j, none⟩ = some v ∧ w.frozen? ⟨b, j, none⟩ = false := by
  have := h.2.1 j v hv
  rw [Nat.zero_add] at this
  exact ⟨this, h.2.2 j (List.getElem?_eq_some_iff.1 hv).1⟩
theorem RowAt.other {w : World} {b : Nat} {R : List Value} (h : RowAt w b R) (b' o : Nat) (v : Value) (hb : b ≠ b') : RowAt (w.setCell ⟨b', o, none⟩ v) b R :=
  ⟨by simpa using h.1, fun j u hu => by rw [iset_ne _ _ _ _ _ _ (Or.inl (Ne.symm hb))]; exact h.2.1 j u hu, fun j hj => by simpa using h.2.2 j hj⟩
theorem RowAt.set {w : World} {b o : Nat} {R : List Value} (h : RowAt w b R) (v : Value) (ho : o < R.length) : RowAt (w.setCell ⟨b, o, none⟩ v) b (R.set o v) := by
  refine ⟨by simpa using h.1, fun j u hu => ?_, fun j hj => by rw [List.length_set] at hj; simpa using h.2.2 j hj⟩
  rw [Nat.zero_add]
  rw [List.getElem?_set] at hu
  have hat := h.cell (List.getElem?_eq_getElem ho)
  split at hu
  · rename_i he
    subst he
    cases hu
    exact iset_eq _ _ _ _ ⟨_, hat.1⟩
  · rename_i he
    rw [iset_ne _ _ _ _ _ _ (Or.inr he)]
    exact (h.cell hu).1
theorem RowAt.new (w : World) (R : List Value) (t : TypeId) : RowAt (w.alloc (.cells R.toArray t)) w.heap.size R := by
  refine ⟨by simp, fun j v hv => ?_, fun j hj => by simp⟩
  rw [Nat.zero_add, World.cell?_alloc_at _ _ _ _ rfl]
  simpa using hv
theorem setCells_size (b : Nat) : ∀ (vs : List Value) (o : Nat) (w : World), (w.setCells b o vs).heap.size = w.heap.size
  | [], _, _ => rfl
  | v :: r, o, w => by rw [World.setCells, setCells_size b r]; simp
theorem RowAt.stored {w : World} {b : Nat} {R R' : List Value} (h : RowAt w b R) (hl : R'.length = R.length) : RowAt (w.setCells b 0 R') b R' := by
  refine ⟨?_, World.rangeAt_setCells_same w b 0 R' (by rw [hl]; exact h.there), fun j hj => ?_⟩
  · rw [setCells_size]; exact h.1
  · rw [World.frozen?_setCells]; exact h.2.2 j (by omega)
theorem RowAt.storedOther {w : World} {b b' : Nat} {R R' : List Value} (h : RowAt w b R) (hb : b ≠ b') : RowAt (w.setCells b' 0 R') b R := by
  refine ⟨?_, World.rangeAt_setCells_apart h.2.1 b' 0 R' (Or.inl hb), fun j hj => ?_⟩
  · rw [setCells_size]; exact h.1
  · rw [World.frozen?_setCells]; exact h.2.2 j hj
def zeroRow : List Value := .int .i64 0 :: List.replicate 20 (.int .u64 0)
/-- One more sum. -/
theorem RowV.push {R : List Value} {l : List Int} (h : RowV R l) (hl : l.length < 20) (a : Value) (y : Int) (ha : a.oneCell' = true) : RowV (((R.set (l.length + 1) a).set (l.length + 1) (.int .u64 y)).set 0 (.int .i64 ((l.length : Int) + 1))) (l ++ [y]) := by
  obtain ⟨h1, h2, h3, h4, h5⟩ := h
  refine ⟨by simp [h1], by simp; omega, by simp [h1], fun j x hj => ?_, fun v hv => ?_⟩
  · rw [List.getElem?_set_ne (by omega), List.set_set]
    by_cases hjl : j = l.length
    · subst hjl
      rw [List.getElem?_append_right (Nat.le_refl _)] at hj
      simp at hj
      subst hj
      rw [List.getElem?_set_self (by omega)]
    · have hjx : j < l.length := by
        have := (List.getElem?_eq_some_iff.1 hj).1
        simp at this
        omega
      rw [List.getElem?_append_left hjx] at hj
      rw [List.getElem?_set_ne (by omega)]
      exact h4 j x hj
  · rcases List.mem_or_eq_of_mem_set hv with hv | rfl
    · rcases List.mem_or_eq_of_mem_set hv with hv | rfl
      · rcases List.mem_or_eq_of_mem_set hv with hv | rfl
        · exact h5 v hv
        · exact ha
      · rfl
    · rfl
theorem RowV.push1 {R : List Value} {l : List Int} (h : RowV R l) (hl : l.length < 20) (y : Int) : RowV ((R.set (l.length + 1) (.int .u64 y)).set 0 (.int .i64 ((l.length : Int) + 1))) (l ++ [y]) := by
  have := h.push hl (.int .u64 y) y rfl
  rw [List.set_set] at this
  exact this
theorem RowV.none {R : List Value} {l : List Int} (h : RowV R l) : RowV (R.set 0 (.int .i64 0)) [] := by
  obtain ⟨h1, h2, h3, h4, h5⟩ := h
  refine ⟨by simp [h1], by simp, by simp [h1], fun j x hj => by simp at hj, fun v hv => ?_⟩
  rcases List.mem_or_eq_of_mem_set hv with hv | rfl
  · exact h5 v hv
  · rfl
theorem RowV.many {R : List Value} {l : List Int} (h : RowV R l) : R[0]? = some (.int .i64 (l.length : Int)) := h.2.2.1
theorem RowV.at {R : List Value} {l : List Int} {j : Nat} {x : Int} (h : RowV R l) (hx : l[j]? = some x) : R[j + 1]? = some (.int .u64 x) := h.2.2.2.1 j x hx

/-! ### the row above -/
def Sm.up : List Int → List Int
  | [] => []
  | [a] => [a]
  | a :: b :: r => Sm.sum [1, a, b] :: Sm.up r
theorem Sm.up_len : ∀ l : List Int, (Sm.up l).length = (l.length + 1) / 2
  | [] => rfl
  | [_] => by simp [Sm.up]
  | a :: b :: r => by simp [Sm.up, Sm.up_len r]; omega
theorem Sm.up_pair : ∀ (j : Nat) (l : List Int) (x y : Int), l[2 * j]? = some x → l[2 * j + 1]? = some y → Sm.up (l.take (2 * j + 2)) = Sm.up (l.take (2 * j)) ++ [Sm.sum [1, x, y]]
  | 0, a :: b :: r, x, y, h1, h2 => by simp at h1 h2; subst h1 h2; rfl
  | 0, [a], x, y, h1, h2 => by simp at h2
  | 0, [], x, y, h1, h2 => by simp at h2
  | j + 1, a :: b :: r, x, y, h1, h2 => by
    have e1 : 2 * (j + 1) = 2 * j + 1 + 1 := by omega
    rw [e1] at h1 h2
    simp only [List.getElem?_cons_succ] at h1 h2
    have := Sm.up_pair j r x y h1 h2
    rw [show 2 * (j + 1) + 2 = (2 * j + 2) + 1 + 1 from by omega, e1]
    simp only [List.take_succ_cons, Sm.up, this, List.cons_append]
  | j + 1, [a], x, y, h1, h2 => by simp at h1
  | j + 1, [], x, y, h1, h2 => by simp at h1
theorem Sm.up_one : ∀ (j : Nat) (l : List Int) (x : Int), l[2 * j]? = some x → l.length = 2 * j + 1 → Sm.up l = Sm.up (l.take (2 * j)) ++ [x]
  | 0, [a], x, h1, _ => by simp at h1; subst h1; rfl
  | 0, a :: b :: r, x, h1, h2 => by simp at h2
  | 0, [], x, h1, h2 => by simp at h1
  | j + 1, a :: b :: r, x, h1, h2 => by
    have e1 : 2 * (j + 1) = 2 * j + 1 + 1 := by omega
    rw [e1] at h1
    simp only [List.getElem?_cons_succ] at h1
    have := Sm.up_one j r x h1 (by simp at h2; omega)
    rw [e1]
    simp only [List.take_succ_cons, Sm.up, this, List.cons_append]
  | j + 1, [a], x, h1, h2 => by simp at h1
  | j + 1, [], x, h1, h2 => by simp at h1
end Go.Proofs.YtilinjjimiiplaaGreatDoor
namespace Go.Proofs.YtilinjjimiiplaaGreatDoor
open Go.RowKit
/-- Block b holds an IntResult. -/
def IBoxAt (w : World) (b : Nat) (c n : Int) : Prop := b < w.heap.size ∧ w.cell? ⟨b, 0, none⟩ = some (.int .i64 c) ∧ w.cell? ⟨b, 1, none⟩ = some (.int .i64 n)
theorem IBoxAt.ext {w w' : World} {b : Nat} {c n : Int} (h : IBoxAt w b c n) (he : Ext w w') : IBoxAt w' b c n := by
  obtain ⟨hc, _⟩ := Ext.cell he
  exact ⟨Nat.lt_of_lt_of_le h.1 he.size, (hc _ _ h.1).trans h.2.1, (hc _ _ h.1).trans h.2.2⟩
theorem ibox_new (w : World) (c n : Int) (t : TypeId) : IBoxAt (w.alloc (.cells #[.int .i64 c, .int .i64 n] t)) w.heap.size c n := ⟨by simp, by simp, by simp⟩

end Go.Proofs.YtilinjjimiiplaaGreatDoor
