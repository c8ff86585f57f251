/- the draws of numbers: spec.l1Pick, DrawSumOf, DrawPairSum: what they leave. -/
import Derived.Test.YtmkmilkncmfigaaD3
import Derived.Test.YtmkmilkncmfigaaV2
import Derived.Below
import Derived.OwnWalk
import Derived.Laws.OwnMore
namespace Go.Proofs.Ytmkmilkncmfigaa
open Go.RowKit

theorem CodeOk.rise {w w' : World} {b b' : Nat} {cv : Value} (h : CodeOk w b cv) (hb : Below b w w') (hbb : b ≤ b') : CodeOk w' b' cv := by
  obtain ⟨ad, len, cap, h1, h2, h3⟩ := h.below hb
  refine ⟨ad, len, cap, h1, h2, fun hl => ?_⟩
  obtain ⟨cb, co, e, hc, hx⟩ := h3 hl
  exact ⟨cb, co, e, by omega, hx⟩
theorem nums_of_owns {w' : World} {base : Nat} {v : Value} {l : List Int} (h : w'.ownsRow base 2 1 v l.length (l.map (Value.int .i64))) : ISlice w' v l := by
  have hlt := h.lt
  rcases h.2 with ⟨hv, h0⟩ | ⟨g, cap, cur, hv, hb, hh, hn, hm, _⟩
  · exact ⟨none, 0, by rw [hv, h0], by omega, by unfold maxLen; omega, fun h => by omega⟩
  · refine ⟨some ⟨g, 0, none⟩, cap, hv, hn, hm, fun h0 => ⟨g, 0, rfl, (hlt g (by rw [hv]; rfl)).2, fun j x hj => ?_⟩⟩
    have := h.cells (g := g) (by rw [hv]; rfl) j (.int .i64 x) (by rw [List.getElem?_map, hj]; rfl)
    rw [Addr.add_lit] at this
    simpa using this
theorem owns_place {w : World} {base : Nat} {e : TypeId} {size : Nat} {v : Value} {n : Nat} {xs : List Value} (h : w.ownsRow base e size v n xs) {b : Nat} (hb : b < base) (u : Value) (q : Nat) : ((w.setCell ⟨b, 1, none⟩ u).drewN q).ownsRow base e size v n xs := by
  have h2 : (w.setCell ⟨b, 1, none⟩ u).ownsRow base e size v n xs := ownsRow_setCell_below h (a := ⟨b, 1, none⟩) hb u
  exact h2

set_option maxHeartbeats 2000000 in
set_option maxRecDepth 100000 in
theorem next_empty_big (b a : Nat) (ad : Option Addr) (cap : Nat) (n : Int) (w : World) (h1 : 1 ≤ n) (h2 : n ≤ 1000) (ha : a ≤ 1000)
    (h0 : w.cell? ⟨b, 0, none⟩ = some (.slice ad 0 cap)) (hA : w.cell? ⟨b, 1, none⟩ = some (.int .i64 a)) (hF : w.frozen? ⟨b, 1, none⟩ = false) :
    Calls Try.prog 36 #[.pointer (some ⟨b, 0, none⟩), .int .i64 n] w fun e w' => ∃ (r : Int) (q : Nat), e = .returned (.int .i64 r) ∧ 0 ≤ r ∧ r < n ∧ w' = (w.setCell ⟨b, 1, none⟩ (.int .i64 (a + 1 : Nat))).drewN q := by
  go_enter Try.func36, Try.ntmps36
  go_wp2
  go_ret
  exact ⟨_, 0, rfl, Int.emod_nonneg _ (by omega), Int.emod_lt_of_pos _ (by omega), rfl⟩

set_option maxHeartbeats 2000000 in
set_option maxRecDepth 100000 in
theorem next_some_big (b a cb co len cap : Nat) (x y : Int) (n : Int) (w : World) (h1 : 200 < n) (h2 : n ≤ 1000) (ha : a ≤ 1000) (hl : 0 < len) (hl2 : len ≤ 1048576) (hx0 : 0 ≤ x) (hx1 : x ≤ 255) (hy0 : 0 ≤ y) (hy1 : y ≤ 255) (hcb : cb ≠ b)
    (h0 : w.cell? ⟨b, 0, none⟩ = some (.slice (some ⟨cb, co, none⟩) len cap)) (hA : w.cell? ⟨b, 1, none⟩ = some (.int .i64 a)) (hF : w.frozen? ⟨b, 1, none⟩ = false)
    (hx : w.cell? ⟨cb, co + a % len, none⟩ = some (.int .u8 x)) (hy : w.cell? ⟨cb, co + (a + 1) % len, none⟩ = some (.int .u8 y)) :
    Calls Try.prog 36 #[.pointer (some ⟨b, 0, none⟩), .int .i64 n] w fun e w' => ∃ (r : Int) (q : Nat), e = .returned (.int .i64 r) ∧ 0 ≤ r ∧ r < n ∧ w' = (w.setCell ⟨b, 1, none⟩ (.int .i64 (a + 1 : Nat))).drewN q := by
  have e0 : ((len : Int) == 0) = false := by simp; omega
  have h1' : 1 ≤ n := by omega
  go_enter Try.func36, Try.ntmps36
  have hm : ((a : Int) % (len : Int)).toNat = a % len := by omega
  have hml : (a : Int) % (len : Int) < (len : Int) := Int.emod_lt_of_pos _ (by omega)
  have hm0 : 0 ≤ (a : Int) % (len : Int) := Int.emod_nonneg _ (by omega)
  have hn : (((a : Int) + 1) % (len : Int)).toNat = (a + 1) % len := by rw [show (a : Int) + 1 = ((a + 1 : Nat) : Int) from by omega]; rfl
  have hnl : ((a : Int) + 1) % (len : Int) < (len : Int) := Int.emod_lt_of_pos _ (by omega)
  have hn0 : 0 ≤ ((a : Int) + 1) % (len : Int) := Int.emod_nonneg _ (by omega)
  have hq0 : 0 ≤ (a : Int) / (len : Int) := Int.ediv_nonneg (by omega) (by omega)
  have hq1 : (a : Int) / (len : Int) ≤ 1000 := by have := Int.ediv_le_self (len : Int) (show (0 : Int) ≤ (a : Int) by omega); omega
  go_wp2
  go_quiet (fail)
  go_wp2
  go_quiet (fail)
  go_wp2
  go_ret
  exact ⟨_, _, rfl, Int.emod_nonneg _ (by omega), Int.emod_lt_of_pos _ (by omega), rfl⟩

theorem next_wide (b a : Nat) (cv : Value) (n : Int) (w : World) (h : SrcAt w b a cv) (h1 : 1 ≤ n) (h2 : n ≤ 1000) (ha : a ≤ 1000) :
    Calls Try.prog 36 #[.pointer (some ⟨b, 0, none⟩), .int .i64 n] w fun e w' => ∃ (r : Int) (q : Nat), e = .returned (.int .i64 r) ∧ 0 ≤ r ∧ r < n ∧ w' = (w.setCell ⟨b, 1, none⟩ (.int .i64 (a + 1 : Nat))).drewN q := by
  by_cases h3 : n ≤ 200
  · exact next_any b a cv n w h h1 h3 ha
  · obtain ⟨c0, c1, c2, c3, ad, len, cap, rfl, hl, hc⟩ := h
    rcases Nat.eq_zero_or_pos len with h0 | h0
    · subst h0
      exact next_empty_big b a ad cap n w h1 h2 ha c0 c1 c2
    · obtain ⟨cb, co, rfl, hcb, hx⟩ := hc h0
      obtain ⟨x, x0, x1, hcell⟩ := hx (a % len) (Nat.mod_lt _ h0)
      obtain ⟨y, y0, y1, hcell2⟩ := hx ((a + 1) % len) (Nat.mod_lt _ h0)
      exact next_some_big b a cb co len cap x y n w (by omega) h2 ha h0 hl x0 x1 y0 y1 (Nat.ne_of_lt hcb) c0 c1 c2 hcell hcell2

set_option maxHeartbeats 1000000 in
set_option maxRecDepth 100000 in
theorem pick_any (b a g off cap : Nat) (cv : Value) (l : List Int) (w : World) (h : SrcAt w b a cv) (hg : g ≠ b) (hN : NumsAt w g off l) (h1 : 1 ≤ l.length) (h2 : l.length ≤ 200) (ha : a ≤ 1000) :
    Calls Try.prog 37 #[.pointer (some ⟨b, 0, none⟩), .slice (some ⟨g, off, none⟩) l.length cap] w fun e w' => ∃ (x : Int) (q : Nat), e = .returned (.int .i64 x) ∧ w' = (w.setCell ⟨b, 1, none⟩ (.int .i64 (a + 1 : Nat))).drewN q := by
  have HS : Hid (SrcAt w b a cv) := h
  have HN : Hid (NumsAt w g off l) := hN
  clear h hN
  go_enter Try.func37, Try.ntmps37
  go_wp2_with fail
  refine (next_any b a cv l.length _ HS.out (by omega) (by omega) ha).mono ?_
  rintro e w1 ⟨r, q, rfl, hr0, hr1, hw⟩
  obtain ⟨k, rfl⟩ := Int.eq_ofNat_of_zero_le hr0
  have hk : k < l.length := by omega
  obtain ⟨x, hx⟩ : ∃ x, l[k]? = some x := ⟨_, List.getElem?_eq_getElem hk⟩
  have hc : w1.cell? ⟨g, off + k, none⟩ = some (.int .i64 x) := by
    rw [hw, World.cell?_drewN, iset_ne _ _ _ _ _ _ (Or.inl (Ne.symm hg))]
    exact HN.out k x hx
  have HW : Hid (w1 = (w.setCell ⟨b, 1, none⟩ (.int .i64 (a + 1 : Nat))).drewN q) := hw
  clear hw hx
  go_wp2
  go_ret
  exact ⟨x, q, rfl, HW.out⟩

/-- What a draw of numbers leaves. -/
def Drew (w : World) (e : Ending) (w' : World) : Prop := ∃ (g off cap : Nat) (l : List Int), e = .returned (.slice (some ⟨g, off, none⟩) l.length cap) ∧ ISlice w' (.slice (some ⟨g, off, none⟩) l.length cap) l ∧ (l.length ≤ 9 ∨ l.length = 201) ∧ Ext w w'
theorem SrcAt.kept {w w' : World} {b a : Nat} {cv : Value} (h : SrcAt w b a cv) (he : Below (b + 1) w w') : SrcAt w' b a cv :=
  ⟨(Below.cell he (p := ⟨b, 0, none⟩) (Nat.lt_succ_self _)).trans h.1, (Below.cell he (p := ⟨b, 1, none⟩) (Nat.lt_succ_self _)).trans h.2.1, (Below.frozen he (p := ⟨b, 1, none⟩) (Nat.lt_succ_self _)).trans h.2.2.1, Nat.lt_of_lt_of_le h.2.2.2.1 (Nat.le_trans (Nat.le_refl _) (by
    have := Below.size he
    have h2 := h.2.2.2.1
    omega)), h.2.2.2.2.below (Below.mono he (Nat.le_succ _))⟩
theorem drew_of {w w' : World} {base : Nat} {v : Value} {l : List Int} (h : w'.ownsRow base 2 1 v l.length (l.map (Value.int .i64))) (hv : v ≠ .slice none 0 0) (hl : l.length ≤ 9) (he : Ext w w') : Drew w (.returned v) w' := by
  have hI := nums_of_owns h
  rcases h.2 with ⟨hn, _⟩ | ⟨g, cap, cur, rfl, _⟩
  · exact absurd hn hv
  · exact ⟨g, 0, cap, l, rfl, hI, Or.inl hl, he⟩

theorem nums3 (w : World) (x y z : Int) (t : TypeId) : NumsAt (w.alloc (.cells #[.int .i64 x, .int .i64 y, .int .i64 z] t)) w.heap.size 0 [x, y, z] := by
  intro i u hu
  match i, hu with
  | 0, hu => cases hu; simp
  | 1, hu => cases hu; simp
  | 2, hu => cases hu; simp
theorem nums4 (w : World) (x y z v : Int) (t : TypeId) : NumsAt (w.alloc (.cells #[.int .i64 x, .int .i64 y, .int .i64 z, .int .i64 v] t)) w.heap.size 0 [x, y, z, v] := by
  intro i u hu
  match i, hu with
  | 0, hu => cases hu; simp
  | 1, hu => cases hu; simp
  | 2, hu => cases hu; simp
  | 3, hu => cases hu; simp

set_option maxHeartbeats 4000000 in
set_option maxRecDepth 100000 in
theorem drawSumOf_any (cv : Value) (w : World) (hc : CodeOk w w.heap.size cv) :
    Calls Try.prog 19 #[cv] w (Drew w) := by
  have hi9 : (Try.prog.info? 2).map (fun i => (i.zero, i.size, i.bytes)) = some (some (.int .i64 0), 1, 8) := by kernel_rfl
  obtain ⟨i0, hi, hx⟩ := Option.map_eq_some_iff.1 hi9
  simp only [Prod.mk.injEq] at hx
  obtain ⟨hz0, hz1, hz2⟩ := hx
  clear hi9
  have hc' := hc
  obtain ⟨ad, len, cap, rfl, hl, -⟩ := hc'
  have HC : Hid (CodeOk w w.heap.size (.slice ad len cap)) := hc
  clear hc
  go_enter Try.func19, Try.ntmps19
  go_wp2_with fail
  refine (source_any _ _ ad len cap rfl).mono ?_
  rintro e w1 ⟨rfl, hw⟩
  have HS1 : Hid (SrcAt w1 w.heap.size 0 (.slice ad len cap)) := by rw [hw]; exact src_new HC.out
  have HE1 : Hid (Ext w w1) := by rw [hw]; exact (Ext.refl _).alloc _
  have hz : w1.heap.size = w.heap.size + 1 := by rw [hw]; simp
  clear hw
  go_wp2_with fail
  refine (next_any w.heap.size 0 (.slice ad len cap) 9 _ (by exact HS1.out.alloc _) (by omega) (by omega) (by omega)).mono ?_
  rintro e w2 ⟨r, q, rfl, hr0, hr1, hw⟩
  obtain ⟨k0, rfl⟩ := Int.eq_ofNat_of_zero_le hr0
  have HS2 : Hid (SrcAt w2 w.heap.size 1 (.slice ad len cap)) := by rw [hw]; exact (HS1.out.alloc _).place 1 q
  have HO2 : Hid (w2.ownsRow (w.heap.size + 1) 2 1 (.slice (some ⟨w.heap.size + 1, 0, none⟩) 0 0) 0 []) := by
    rw [hw]
    refine owns_place ?_ (by omega) _ _
    have h := World.ownsRow_made (base := w.heap.size + 1) (e := 2) (size := 1) w1 #[] 0 (by omega) (by unfold maxLen; omega) rfl
    rw [hz] at h
    exact h
  have HE2 : Hid (Ext w w2) := by rw [hw]; exact (Below.trans (HE1.out.alloc _) (Upd.place _ _ _).1)
  clear hw hz
  go_wp2
  go_loopw [4, 5] (fun ov kv wr => ∃ (k a' : Nat) (l : List Int), kv = .int .i64 k ∧ k ≤ 8 ∧ l.length + k ≤ 8 ∧ a' + k ≤ 9 ∧ Hid (wr.ownsRow (w.heap.size + 1) 2 1 ov l.length (l.map (Value.int .i64)) ∧ ov ≠ .slice none 0 0) ∧ Hid (SrcAt wr w.heap.size a' (.slice ad len cap)) ∧ Hid (Ext w wr ∧ w.heap.size + 1 ≤ wr.heap.size)) (fun _ kv _ => (intOf kv).toNat)
  case atStart => exact ⟨k0, 1, [], rfl, by omega, by simp; omega, by omega, ⟨HO2.out, by simp⟩, HS2.out, ⟨HE2.out, HS2.out.lt⟩⟩
  case round =>
    obtain ⟨k, a', l, rfl, hk8, hlk, hak, HO, HS, HE⟩ := hrel
    by_cases hk : 0 < k
    · go_wp2_with fail
      refine (next_wide w.heap.size a' (.slice ad len cap) 300 _ (by exact HS.out) (by omega) (by omega) (by omega)).mono ?_
      rintro e w3 ⟨x, q, rfl, hx0, hx1, hw⟩
      have HS3 : Hid (SrcAt w3 w.heap.size (a' + 1) (.slice ad len cap)) := by rw [hw]; exact HS.out.place _ q
      have HO3 : Hid (w3.ownsRow (w.heap.size + 1) 2 1 u4 l.length (l.map (Value.int .i64)) ∧ u4 ≠ .slice none 0 0) := by rw [hw]; exact ⟨owns_place HO.out.1 (by omega) _ _, HO.out.2⟩
      have HE3 : Hid (Ext w w3 ∧ w.heap.size + 1 ≤ w3.heap.size) := ⟨by rw [hw]; exact Below.trans HE.out.1 (Upd.place _ _ _).1, HS3.out.lt⟩
      clear hw hx0 hx1
      go_wp2_with (at_builtin; go_must (refine wpList_append_own _ rfl _ _ 36 rfl (w.heap.size + 1) 2 i0 (.int .i64 0) 1 8 Try.underlying36 hi hz0 hz1 hz2 rfl (by decide) _ _ _ rfl (HO3.out.1.alloc _) ⟨w3.heap.size, 0, none⟩ 1 1 [.int .i64 x] rfl rfl (cell_one_new _ _ _) (fun x hx => by simp at hx; subst hx; rfl) (by unfold maxLen; omega) (by omega) (by have := HE3.out.2; simp; omega) ?_; intro v' w4 hown' hgrow hnil))
      have hBel : Below (w.heap.size + 1) w3 w4 := (((Below.refl _ _).alloc HE3.out.2 _).grown hgrow (by simp; have := HE3.out.2; omega) (fun q hq => (HO3.out.1.lt q hq).1))
      refine ⟨⟨k - 1, a' + 1, l ++ [x], by rw [show ((k - 1 : Nat) : Int) = (k : Int) - 1 from by omega], by omega, by simp; omega, by omega, ⟨?_, ?_⟩, HS3.out.kept hBel, ⟨Below.trans HE3.out.1 (Below.mono hBel (by omega)), by have := Below.size hBel; have := HE3.out.2; omega⟩⟩, by simp [intOf]; omega⟩
      · rw [List.map_append, List.length_append]
        exact hown'
      · intro h
        exact HO3.out.2 (hnil.1 h).1
    · have hk0 : k = 0 := by omega
      subst hk0
      go_wp2_with fail
      refine (next_any w.heap.size a' (.slice ad len cap) 12 _ (by exact HS.out) (by omega) (by omega) (by omega)).mono ?_
      rintro e w3 ⟨r, q, rfl, hr0, hr1, hw⟩
      have HS3 : Hid (SrcAt w3 w.heap.size (a' + 1) (.slice ad len cap)) := by rw [hw]; exact HS.out.place _ q
      have HO3 : Hid (w3.ownsRow (w.heap.size + 1) 2 1 u4 l.length (l.map (Value.int .i64)) ∧ u4 ≠ .slice none 0 0) := by rw [hw]; exact ⟨owns_place HO.out.1 (by omega) _ _, HO.out.2⟩
      have HE3 : Hid (Ext w w3 ∧ w.heap.size + 1 ≤ w3.heap.size) := ⟨by rw [hw]; exact Below.trans HE.out.1 (Upd.place _ _ _).1, HS3.out.lt⟩
      clear hw
      by_cases hr : r = 0
      · subst hr
        go_wp2_with fail
        refine (pick_any w.heap.size (a' + 1) w3.heap.size 0 3 (.slice ad len cap) [-1, 1000002, 1000003] _ (by exact HS3.out.alloc _) (by have := HE3.out.2; omega) (nums3 _ _ _ _ _) (by simp) (by simp) (by omega)).mono ?_
        rintro e w4 ⟨x, q4, rfl, hw⟩
        have HO4 : Hid (w4.ownsRow (w.heap.size + 1) 2 1 u4 l.length (l.map (Value.int .i64)) ∧ u4 ≠ .slice none 0 0) := by rw [hw]; exact ⟨owns_place (HO3.out.1.alloc _) (by omega) _ _, HO3.out.2⟩
        have HE4 : Hid (Ext w w4 ∧ w.heap.size + 1 ≤ w4.heap.size) := ⟨by rw [hw]; exact Below.trans (HE3.out.1.alloc _) (Upd.place _ _ _).1, by rw [hw]; have := HE3.out.2; simp; omega⟩
        clear hw
        go_wp2_with (at_builtin; go_must (refine wpList_append_own _ rfl _ _ 36 rfl (w.heap.size + 1) 2 i0 (.int .i64 0) 1 8 Try.underlying36 hi hz0 hz1 hz2 rfl (by decide) _ _ _ rfl (HO4.out.1.alloc _) ⟨w4.heap.size, 0, none⟩ 1 1 [.int .i64 x] rfl rfl (cell_one_new _ _ _) (fun x hx => by simp at hx; subst hx; rfl) (by unfold maxLen; omega) (by omega) (by have := HE4.out.2; simp; omega) ?_; intro v' w5 hown' hgrow hnil))
        have hBel : Below (w.heap.size + 1) w4 w5 := (((Below.refl _ _).alloc HE4.out.2 _).grown hgrow (by simp; have := HE4.out.2; omega) (fun q hq => (HO4.out.1.lt q hq).1))
        go_ret
        refine drew_of (l := l ++ [x]) (base := w.heap.size + 1) ?_ ?_ (by simp; omega) (Below.trans HE4.out.1 (Below.mono hBel (by omega)))
        · rw [List.map_append, List.length_append]
          exact hown'
        · intro h
          exact HO4.out.2 (hnil.1 h).1
      · have e0 : (r == 0) = false := by simp [hr]
        by_cases hr1 : r = 1
        · subst hr1
          have hmk : ∀ W : World, (Instr.makeSlice 36 (.int .i64 201) (.int .i64 201)).run Try.prog W = .ok (.slice (some ⟨W.heap.size, 0, none⟩) 201 201) (W.alloc (.cells (madeCells #[.int .i64 0] 201) 2)) := fun W => by
            have h := run_make (P := Try.prog) W 36 2 i0 _ Try.underlying36 hi hz0 .i64 .i64 201 201 (by omega) (by omega) (by rw [hz2]; omega) (by omega)
            rw [hz1] at h
            exact h
          generalize hM : madeCells #[.int .i64 0] 201 = M at hmk
          go_wp2
          go_ret
          refine ⟨w3.heap.size, 0, 201, List.replicate 201 0, by simp, ?_, Or.inr (by simp), HE3.out.1.alloc _⟩
          refine ⟨_, 201, rfl, by simp, by unfold maxLen; omega, fun _ => ⟨w3.heap.size, 0, rfl, by simp, fun j x hj => ?_⟩⟩
          rw [List.getElem?_replicate] at hj
          split at hj
          · rename_i hj2
            cases hj
            have hMj : M[j]? = some (.int .i64 0) := by
              rw [← hM, ← Array.getElem?_toList, toList_madeCells_one, List.getElem?_replicate, if_pos hj2]
            rw [Nat.zero_add, World.cell?_alloc_at _ _ _ _ rfl]
            exact hMj
          · cases hj
        · have e1 : (r == 1) = false := by simp [hr1]
          go_wp2
          go_ret
          exact drew_of HO3.out.1 HO3.out.2 (by omega) HE3.out.1

set_option maxHeartbeats 4000000 in
set_option maxRecDepth 100000 in
theorem drawPairSum_any (cv : Value) (w : World) (hc : CodeOk w w.heap.size cv) :
    Calls Try.prog 22 #[cv] w fun e w' => ∃ x y : Int, e = .returned (.tuple #[.int .i64 x, .int .i64 y]) ∧ Ext w w' := by
  have hc' := hc
  obtain ⟨ad, len, cap, rfl, hl, -⟩ := hc'
  have HC : Hid (CodeOk w w.heap.size (.slice ad len cap)) := hc
  clear hc
  go_enter Try.func22, Try.ntmps22
  go_wp2_with fail
  refine (source_any _ _ ad len cap rfl).mono ?_
  rintro e w1 ⟨rfl, hw⟩
  have HS1 : Hid (SrcAt w1 w.heap.size 0 (.slice ad len cap)) := by rw [hw]; exact src_new HC.out
  have HE1 : Hid (Ext w w1) := by rw [hw]; exact (Ext.refl _).alloc _
  clear hw
  go_wp2_with fail
  refine (next_wide w.heap.size 0 (.slice ad len cap) 999 _ (by exact HS1.out) (by omega) (by omega) (by omega)).mono ?_
  rintro e w2 ⟨x, q, rfl, hx0, hx1, hw⟩
  have HS2 : Hid (SrcAt w2 w.heap.size 1 (.slice ad len cap)) := by rw [hw]; exact HS1.out.place 1 q
  have HE2 : Hid (Ext w w2) := by rw [hw]; exact Below.trans HE1.out (Upd.place _ _ _).1
  have hne : w2.heap.size ≠ w.heap.size := by have := HS2.out.lt; omega
  clear hw hx0 hx1
  go_wp2_with fail
  refine (pick_any w.heap.size 1 w2.heap.size 0 4 (.slice ad len cap) [x, 1000002, 1000003, -1] _ (by exact HS2.out.alloc _) hne (nums4 _ _ _ _ _ _) (by simp) (by simp) (by omega)).mono ?_
  rintro e w3 ⟨x2, q2, rfl, hw⟩
  have HS3 : Hid (SrcAt w3 w.heap.size 2 (.slice ad len cap)) := by rw [hw]; exact (HS2.out.alloc _).place 2 q2
  have HE3 : Hid (Ext w w3) := by rw [hw]; exact Below.trans (HE2.out.alloc _) (Upd.place _ _ _).1
  clear hw
  go_wp2_with fail
  refine (next_wide w.heap.size 2 (.slice ad len cap) 999 _ (by exact HS3.out) (by omega) (by omega) (by omega)).mono ?_
  rintro e w4 ⟨y, q4, rfl, hy0, hy1, hw⟩
  have HE4 : Hid (Ext w w4) := by rw [hw]; exact Below.trans HE3.out (Upd.place _ _ _).1
  clear hw hy0 hy1
  go_wp2
  exact bodyPost_ret (v := .tuple #[.int .i64 x2, .int .i64 y]) (by simp [results, Try.results22, go_sem]) rfl ⟨_, _, rfl, HE4.out⟩
end Go.Proofs.Ytmkmilkncmfigaa
