/- V2, V3, D5, in one text. -/
import Derived.Test.YtilinjjimiiplaaGreatDoorKqJ21
import Derived.Below
import Derived.OwnWalk
import Derived.Laws.OwnMore
import Derived.Test.YtilinjjimiiplaaGreatDoorKqJ20
namespace Go.Proofs.YtilinjjimiiplaaGreatDoor
open Go.RowKit
set_option maxHeartbeats 1000000 in
theorem implPairSum_any (x y : Int) (w : World) : Calls Tryz.prog 53 #[.int .i64 x, .int .i64 y] w fun e w' => e = .returned (ir (Sm.pairV x y)) ∧ Ext w w' := by
  have HI : Hid (∀ (v : Value) (w : World), ISlice w v [1, x, y] → Calls Tryz.prog 36 #[v] w fun e w' => e = .returned (ir (Sm.pairV x y)) ∧ Ext w w') := by
    intro v w h
    unfold Sm.pairV
    exact implSumOf_any v _ w h
  have HL : Hid (∀ (w : World) (t : TypeId) (g : Nat), g = w.heap.size → ISlice (w.alloc (.cells #[.int .i64 1, .int .i64 x, .int .i64 y] t)) (.slice (some ⟨g, 0, none⟩) 3 3) [1, x, y]) := fun w t g hg => three_lie w x y t g hg
  generalize Sm.pairV x y = r at *
  obtain ⟨c, n⟩ := r
  go_enter Tryz.func53, Tryz.ntmps53
  go_wp2_with fail
  refine (HI.out _ _ (HL.out _ _ _ (by simp))).mono ?_
  rintro e w2 ⟨rfl, hb⟩
  have HB : Hid (Ext w w2) := (((Ext.refl _).alloc _).alloc _).trans hb
  obtain ⟨q, q0, q1, f0, f1⟩ := ((IBox.new w _).ext ((Ext.refl _).alloc _)).ext hb
  clear hb
  unfold ir
  go_wp2
  exact bodyPost_ret (v := ir (c, n)) (by simp [results, Tryz.results53, go_sem, ir, q0, q1]) rfl ⟨rfl, HB.out.two _ _⟩

/-! ### the laws' functions over numbers -/
/-- Block g holds room for n cells from off on, and may be written there. -/
def IRoom (w : World) (g off n : Nat) : Prop := g < w.heap.size ∧ ∀ j, j < n → (∃ u, w.cell? ⟨g, off + j, none⟩ = some u) ∧ w.frozen? ⟨g, off + j, none⟩ = false
theorem iset_ne (w : World) (g o b k : Nat) (v : Value) (h : g ≠ b ∨ o ≠ k) : (w.setCell ⟨g, o, none⟩ v).cell? ⟨b, k, none⟩ = w.cell? ⟨b, k, none⟩ :=
  World.cell?_setCell_other _ _ _ _ (by intro e; injection e with e1 e2 _; rcases h with h | h; exact h e1; exact h e2)
theorem iset_eq (w : World) (g o : Nat) (v : Value) (h : ∃ u, w.cell? ⟨g, o, none⟩ = some u) : (w.setCell ⟨g, o, none⟩ v).cell? ⟨g, o, none⟩ = some v := by
  obtain ⟨u, hu⟩ := h; exact World.cell?_setCell_same _ _ _ hu
theorem IRoom.set {w : World} {g off n k : Nat} (h : IRoom w g off n) (v : Value) (hk : k < n) : IRoom (w.setCell ⟨g, off + k, none⟩ v) g off n := by
  refine ⟨by simpa using h.1, fun j hj => ⟨?_, by simpa using (h.2 j hj).2⟩⟩
  by_cases hjk : j = k
  · subst hjk; exact ⟨_, iset_eq _ _ _ _ (h.2 j hj).1⟩
  · rw [iset_ne _ _ _ _ _ _ (by omega)]; exact (h.2 j hj).1
theorem NumsAt.set {w : World} {g off n k : Nat} {l : List Int} {x : Int} (hr : IRoom w g off n) (hk : k < n) (hx : l[k]? = some x) (h : NumsAt w g off (l.take k)) : NumsAt (w.setCell ⟨g, off + k, none⟩ (.int .i64 x)) g off (l.take (k + 1)) := by
  intro i y hi
  rw [List.getElem?_take] at hi
  split at hi
  · by_cases hik : i = k
    · subst hik
      rw [hx] at hi
      cases hi
      exact iset_eq _ _ _ _ (hr.2 i hk).1
    · rw [iset_ne _ _ _ _ _ _ (by omega)]
      exact h i y (by rw [List.getElem?_take, if_pos (by omega)]; exact hi)
  · cases hi

end Go.Proofs.YtilinjjimiiplaaGreatDoor
namespace Go.Proofs.YtilinjjimiiplaaGreatDoor
open Go.RowKit
theorem CodeOk.rise {w w' : World} {b b' : Nat} {cv : Value} (h : CodeOk w b cv) (hb : Below b w w') (hbb : b ≤ b') : CodeOk w' b' cv := by
  obtain ⟨ad, len, cap, h1, h2, h3⟩ := h.below hb
  refine ⟨ad, len, cap, h1, h2, fun hl => ?_⟩
  obtain ⟨cb, co, e, hc, hx⟩ := h3 hl
  exact ⟨cb, co, e, by omega, hx⟩
theorem owns_place {w : World} {base : Nat} {e : TypeId} {size : Nat} {v : Value} {n : Nat} {xs : List Value} (h : w.ownsRow base e size v n xs) {b : Nat} (hb : b < base) (u : Value) (q : Nat) : ((w.setCell ⟨b, 1, none⟩ u).drewN q).ownsRow base e size v n xs := by
  have h2 : (w.setCell ⟨b, 1, none⟩ u).ownsRow base e size v n xs := ownsRow_setCell_below h (a := ⟨b, 1, none⟩) hb u
  exact h2

set_option maxHeartbeats 1000000 in
set_option maxRecDepth 100000 in
theorem pick_any (b a g off cap : Nat) (cv : Value) (l : List Int) (w : World) (h : SrcAt w b a cv) (hg : g ≠ b) (hN : NumsAt w g off l) (h1 : 1 ≤ l.length) (h2 : l.length ≤ 200) (ha : a ≤ 1000) :
    Calls Tryz.prog 32 #[.pointer (some ⟨b, 0, none⟩), .slice (some ⟨g, off, none⟩) l.length cap] w fun e w' => ∃ (x : Int) (q : Nat), e = .returned (.int .i64 x) ∧ w' = (w.setCell ⟨b, 1, none⟩ (.int .i64 (a + 1 : Nat))).drewN q := by
  have HS : Hid (SrcAt w b a cv) := h
  have HN : Hid (NumsAt w g off l) := hN
  clear h hN
  go_enter Tryz.func32, Tryz.ntmps32
  go_wp2_with fail
  refine (next_any b a cv l.length _ HS.out (by omega) (by omega) ha).mono ?_
  rintro e w1 ⟨r, q, rfl, hr0, hr1, hw⟩
  obtain ⟨k, rfl⟩ := Int.eq_ofNat_of_zero_le hr0
  have hk : k < l.length := by omega
  obtain ⟨x, hx⟩ : ∃ x, l[k]? = some x := ⟨_, List.getElem?_eq_getElem hk⟩
  have hc : w1.cell? ⟨g, off + k, none⟩ = some (.int .i64 x) := by
    rw [hw, World.cell?_drewN, iset_ne _ _ _ _ _ _ (Or.inl (Ne.symm hg))]
    exact HN.out k x hx
  have HW : Hid (w1 = (w.setCell ⟨b, 1, none⟩ (.int .i64 (a + 1 : Nat))).drewN q) := hw
  clear hw hx
  go_wp2
  go_ret
  exact ⟨x, q, rfl, HW.out⟩

/-- What a draw of numbers leaves. -/
def Drew (w : World) (e : Ending) (w' : World) : Prop := ∃ (g off cap : Nat) (l : List Int), e = .returned (.slice (some ⟨g, off, none⟩) l.length cap) ∧ ISlice w' (.slice (some ⟨g, off, none⟩) l.length cap) l ∧ (l.length ≤ 9 ∨ l.length = 201) ∧ Ext w w'
theorem SrcAt.kept {w w' : World} {b a : Nat} {cv : Value} (h : SrcAt w b a cv) (he : Below (b + 1) w w') : SrcAt w' b a cv :=
  ⟨(Below.cell he (p := ⟨b, 0, none⟩) (Nat.lt_succ_self _)).trans h.1, (Below.cell he (p := ⟨b, 1, none⟩) (Nat.lt_succ_self _)).trans h.2.1, (Below.frozen he (p := ⟨b, 1, none⟩) (Nat.lt_succ_self _)).trans h.2.2.1, Nat.lt_of_lt_of_le h.2.2.2.1 (Nat.le_trans (Nat.le_refl _) (by
    have := Below.size he
    have h2 := h.2.2.2.1
    omega)), h.2.2.2.2.below (Below.mono he (Nat.le_succ _))⟩
theorem nums3 (w : World) (x y z : Int) (t : TypeId) : NumsAt (w.alloc (.cells #[.int .i64 x, .int .i64 y, .int .i64 z] t)) w.heap.size 0 [x, y, z] := by
  intro i u hu
  match i, hu with
  | 0, hu => cases hu; simp
  | 1, hu => cases hu; simp
  | 2, hu => cases hu; simp
theorem nums4 (w : World) (x y z v : Int) (t : TypeId) : NumsAt (w.alloc (.cells #[.int .i64 x, .int .i64 y, .int .i64 z, .int .i64 v] t)) w.heap.size 0 [x, y, z, v] := by
  intro i u hu
  match i, hu with
  | 0, hu => cases hu; simp
  | 1, hu => cases hu; simp
  | 2, hu => cases hu; simp
  | 3, hu => cases hu; simp

end Go.Proofs.YtilinjjimiiplaaGreatDoor
namespace Go.Proofs.YtilinjjimiiplaaGreatDoor
open Go.RowKit
/-- What a draw of a right path leaves. -/
def DrawnP (b a k : Nat) (cv : Value) (w : World) (e : Ending) (w' : World) : Prop :=
  ∃ (t : ByteArray) (a' : Nat), e = .returned (.string t) ∧ Pth.faultI t.data.toList = 0 ∧ a' ≤ a + k ∧ SrcAt w' b a' cv ∧ Upd b w w'
theorem abc_next {t : ByteArray} {j : Nat} (h : t.data.toList ∈ abc j) (c : UInt8) (hc : c = 97 ∨ c = 98 ∨ c = 99) : (mkB (Pth.joined t.data.toList [c])).data.toList ∈ abc (j + 1) := by
  rw [mkB_list]
  refine List.mem_flatMap.2 ⟨_, h, ?_⟩
  rcases hc with rfl | rfl | rfl <;> simp
theorem abc_size : ∀ j, j ≤ 3 → ∀ p ∈ abc j, p.length ≤ 7 := by decide

set_option maxHeartbeats 1000000 in
set_option maxRecDepth 100000 in
theorem draw_right (b a : Nat) (cv : Value) (w : World) (h : SrcAt w b a cv) (ha : a ≤ 900) :
    Calls Tryz.prog 55 #[.pointer (some ⟨b, 0, none⟩)] w (DrawnP b a 4 cv w) := by
  have hbl : b < w.heap.size := h.2.2.2.1
  have HS : Hid (SrcAt w b a cv) := h
  clear h
  go_enter Tryz.func55, Tryz.ntmps55
  go_wp2_with fail
  refine (next_any b a cv 4 _ (by exact HS.out) (by omega) (by omega) (by omega)).mono ?_
  rintro e w1 ⟨r, q, rfl, hr0, hr1, rfl⟩
  obtain ⟨k0, rfl⟩ := Int.eq_ofNat_of_zero_le hr0
  go_wp2
  go_loopw [3, 4] (fun pv kv wr => ∃ (t : ByteArray) (k a' j : Nat), pv = .string t ∧ kv = .int .i64 k ∧ j + k ≤ 3 ∧ Hid (t.data.toList ∈ abc j) ∧ a' + k ≤ a + 4 ∧ Hid (SrcAt wr b a' cv) ∧ Hid (Upd b w wr)) (fun _ kv _ => (intOf kv).toNat)
  case atStart => exact ⟨_, k0, a + 1, 0, rfl, rfl, by omega, (by decide : ([47] : List UInt8) ∈ abc 0), by omega, (HS.out.set (a + 1)).drewN _, (Upd.set w _).drewN _⟩
  case round =>
    obtain ⟨t, k, a', j, rfl, rfl, hk3, HT, hak, HS2, HU⟩ := hrel
    have ht7 := abc_size j (by omega) _ HT.out
    rw [len_eq] at ht7
    by_cases hk : 0 < k
    · have hlr : b < wr.heap.size := HS2.out.lt
      have hne : ¬ b = wr.heap.size := by omega
      have ht : t.size ≤ 1048576 := by omega
      go_wp2_with fail
      refine (next_any b a' cv 3 _ (by exact HS2.out.alloc _) (by omega) (by omega) (by omega)).mono ?_
      rintro e w1 ⟨r, q2, rfl, hr0, hr1, rfl⟩
      have hd : r = 0 ∨ r = 1 ∨ r = 2 := by omega
      clear hr0 hr1
      rcases hd with rfl | rfl | rfl
      · go_wp2_with fail
        refine (l1Join_any t ⟨#[97]⟩ _ ht (by decide)).mono ?_
        rintro e w4 ⟨rfl, hw⟩
        subst hw
        have HT2 : Hid ((mkB (Pth.joined t.data.toList (⟨#[97]⟩ : ByteArray).data.toList)).data.toList ∈ abc (j + 1)) := abc_next HT.out 97 (by simp)
        generalize mkB (Pth.joined t.data.toList (⟨#[97]⟩ : ByteArray).data.toList) = t' at *
        go_wp2
        exact ⟨⟨t', k - 1, a' + 1, j + 1, rfl, by rw [show ((k - 1 : Nat) : Int) = (k : Int) - 1 from by omega], by omega, HT2, by omega, ((HS2.out.set (a' + 1)).alloc _).drewN _, HU.out.trans (((Upd.set wr _).trans (Upd.alloc _ _ (by simp; omega))).drewN _)⟩, by simp [intOf]; omega⟩
      · go_wp2_with fail
        refine (l1Join_any t ⟨#[98]⟩ _ ht (by decide)).mono ?_
        rintro e w4 ⟨rfl, hw⟩
        subst hw
        have HT2 : Hid ((mkB (Pth.joined t.data.toList (⟨#[98]⟩ : ByteArray).data.toList)).data.toList ∈ abc (j + 1)) := abc_next HT.out 98 (by simp)
        generalize mkB (Pth.joined t.data.toList (⟨#[98]⟩ : ByteArray).data.toList) = t' at *
        go_wp2
        exact ⟨⟨t', k - 1, a' + 1, j + 1, rfl, by rw [show ((k - 1 : Nat) : Int) = (k : Int) - 1 from by omega], by omega, HT2, by omega, ((HS2.out.set (a' + 1)).alloc _).drewN _, HU.out.trans (((Upd.set wr _).trans (Upd.alloc _ _ (by simp; omega))).drewN _)⟩, by simp [intOf]; omega⟩
      · go_wp2_with fail
        refine (l1Join_any t ⟨#[99]⟩ _ ht (by decide)).mono ?_
        rintro e w4 ⟨rfl, hw⟩
        subst hw
        have HT2 : Hid ((mkB (Pth.joined t.data.toList (⟨#[99]⟩ : ByteArray).data.toList)).data.toList ∈ abc (j + 1)) := abc_next HT.out 99 (by simp)
        generalize mkB (Pth.joined t.data.toList (⟨#[99]⟩ : ByteArray).data.toList) = t' at *
        go_wp2
        exact ⟨⟨t', k - 1, a' + 1, j + 1, rfl, by rw [show ((k - 1 : Nat) : Int) = (k : Int) - 1 from by omega], by omega, HT2, by omega, ((HS2.out.set (a' + 1)).alloc _).drewN _, HU.out.trans (((Upd.set wr _).trans (Upd.alloc _ _ (by simp; omega))).drewN _)⟩, by simp [intOf]; omega⟩
    · go_wp2
      go_ret
      exact ⟨t, a', rfl, abc_right j (by omega) _ HT.out, by omega, HS2.out, HU.out⟩
end Go.Proofs.YtilinjjimiiplaaGreatDoor
