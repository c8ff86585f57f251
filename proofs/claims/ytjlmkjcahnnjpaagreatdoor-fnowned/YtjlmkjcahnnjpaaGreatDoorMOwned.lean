/- D2, D3, V1, V2, V3, D4, D5, D6, D7, G5, G1, G3, G4, Q3, G6, LOwned, in one text. -/
import Derived.Test.YtjlmkjcahnnjpaaGreatDoorD1
import Derived.Test.YtjlmkjcahnnjpaaGreatDoorS5
import Derived.Deep.RegionWith
import Derived.Test.YtjlmkjcahnnjpaaGreatDoorProg
import Derived.Test.YtjlmkjcahnnjpaaGreatDoorBase
import Derived.Test.YtjlmkjcahnnjpaaGreatDoorS1
import Derived.Laws.MakeOwn
import Derived.Below
import Derived.OwnWalk
import Derived.Laws.OwnMore
import Derived.Test.YtjlmkjcahnnjpaaGreatDoorT9
import Derived.Test.YtjlmkjcahnnjpaaGreatDoorI11
import Derived.Test.YtjlmkjcahnnjpaaGreatDoorT4
import Derived.Test.YtjlmkjcahnnjpaaGreatDoorT7
import Derived.Deep.RegionHeld3
import Derived.Test.YtjlmkjcahnnjpaaGreatDoorQ1
import Derived.Test.YtjlmkjcahnnjpaaGreatDoorI7
/- the draws of paths and names: spec.l1DrawName, l1Draw, l1Bent, DrawJoinPath, DrawIsUnder: texts of at most 30 bytes; nothing that was there turns. -/
namespace Go.Proofs.YtjlmkjcahnnjpaaGreatDoor
open Go.RowKit

/-- What a draw of a text leaves. -/
def Drawn (b a k : Nat) (cv : Value) (m : Nat) (w : World) (e : Ending) (w' : World) : Prop :=
  ∃ (t : ByteArray) (a' : Nat), e = .returned (.string t) ∧ t.size ≤ m ∧ a' ≤ a + k ∧ SrcAt w' b a' cv ∧ Upd b w w'

theorem join_short (t c : ByteArray) (hc : c.size = 1) : ∃ t', t' = mkB (Pth.joined t.data.toList c.data.toList) ∧ t'.size ≤ t.size + 2 := by
  refine ⟨_, rfl, ?_⟩
  rw [← len_eq, mkB_list]
  unfold Pth.joined
  split
  · rename_i h
    have h1 := len_eq t
    rw [h] at h1
    simp only [List.length_cons, len_eq, hc]
    simp at h1
    omega
  · simp only [List.length_append, List.length_cons, len_eq, hc]
    omega

set_option maxHeartbeats 1000000 in
set_option maxRecDepth 100000 in
theorem draw_any (b a : Nat) (cv : Value) (w : World) (h : SrcAt w b a cv) (ha : a ≤ 900) :
    Calls Tryz.prog 47 #[.pointer (some ⟨b, 0, none⟩)] w (Drawn b a 4 cv 7 w) := by
  have hbl : b < w.heap.size := h.2.2.2.1
  have HS : Hid (SrcAt w b a cv) := h
  clear h
  go_enter Tryz.func47, Tryz.ntmps47
  go_wp2_with fail
  refine (next_any b a cv 4 _ (by exact HS.out) (by omega) (by omega) (by omega)).mono ?_
  rintro e w1 ⟨r, q, rfl, hr0, hr1, rfl⟩
  obtain ⟨k0, rfl⟩ := Int.eq_ofNat_of_zero_le hr0
  go_wp2
  go_loopw [3, 4] (fun pv kv wr => ∃ (t : ByteArray) (k a' : Nat), pv = .string t ∧ kv = .int .i64 k ∧ k ≤ 3 ∧ t.size + 2 * k ≤ 7 ∧ a' + k ≤ a + 4 ∧ Hid (SrcAt wr b a' cv) ∧ Hid (Upd b w wr)) (fun _ kv _ => (intOf kv).toNat)
  case atStart => exact ⟨_, k0, a + 1, rfl, rfl, by omega, by show 1 + 2 * k0 ≤ 7; omega, by omega, (HS.out.set (a + 1)).drewN _, (Upd.set w _).drewN _⟩
  case round =>
    obtain ⟨t, k, a', rfl, rfl, hk3, htk, hak, HS2, HU⟩ := hrel
    by_cases hk : 0 < k
    · have hlr : b < wr.heap.size := HS2.out.lt
      have hne : ¬ b = wr.heap.size := by omega
      have ht : t.size ≤ 1048576 := by omega
      go_wp2_with fail
      refine (next_any b a' cv 3 _ (by exact HS2.out.alloc _) (by omega) (by omega) (by omega)).mono ?_
      rintro e w1 ⟨r, q2, rfl, hr0, hr1, rfl⟩
      have hd : r = 0 ∨ r = 1 ∨ r = 2 := by omega
      clear hr0 hr1
      rcases hd with rfl | rfl | rfl
      · go_wp2_with fail
        refine (l1Join_any t ⟨#[97]⟩ _ ht (by decide)).mono ?_
        rintro e w4 ⟨rfl, hw⟩
        subst hw
        obtain ⟨t', ht', hts⟩ := join_short t ⟨#[97]⟩ rfl
        rw [← ht']
        clear ht'
        go_wp2
        exact ⟨⟨t', k - 1, a' + 1, rfl, by rw [show ((k - 1 : Nat) : Int) = (k : Int) - 1 from by omega], by omega, by omega, by omega, ((HS2.out.set (a' + 1)).alloc _).drewN _, HU.out.trans (((Upd.set wr _).trans (Upd.alloc _ _ (by simp; omega))).drewN _)⟩, by simp [intOf]; omega⟩
      · go_wp2_with fail
        refine (l1Join_any t ⟨#[98]⟩ _ ht (by decide)).mono ?_
        rintro e w4 ⟨rfl, hw⟩
        subst hw
        obtain ⟨t', ht', hts⟩ := join_short t ⟨#[98]⟩ rfl
        rw [← ht']
        clear ht'
        go_wp2
        exact ⟨⟨t', k - 1, a' + 1, rfl, by rw [show ((k - 1 : Nat) : Int) = (k : Int) - 1 from by omega], by omega, by omega, by omega, ((HS2.out.set (a' + 1)).alloc _).drewN _, HU.out.trans (((Upd.set wr _).trans (Upd.alloc _ _ (by simp; omega))).drewN _)⟩, by simp [intOf]; omega⟩
      · go_wp2_with fail
        refine (l1Join_any t ⟨#[99]⟩ _ ht (by decide)).mono ?_
        rintro e w4 ⟨rfl, hw⟩
        subst hw
        obtain ⟨t', ht', hts⟩ := join_short t ⟨#[99]⟩ rfl
        rw [← ht']
        clear ht'
        go_wp2
        exact ⟨⟨t', k - 1, a' + 1, rfl, by rw [show ((k - 1 : Nat) : Int) = (k : Int) - 1 from by omega], by omega, by omega, by omega, ((HS2.out.set (a' + 1)).alloc _).drewN _, HU.out.trans (((Upd.set wr _).trans (Upd.alloc _ _ (by simp; omega))).drewN _)⟩, by simp [intOf]; omega⟩
    · go_wp2
      go_ret
      exact ⟨t, a', rfl, by omega, by omega, HS2.out, HU.out⟩

theorem Drawn.of_upd {b a k k2 a1 m m2 : Nat} {cv : Value} {w w1 : World} {e : Ending} {w' : World} (hu : Upd b w w1) (ha : a1 + k2 ≤ a + k) (hm : m2 ≤ m) (h : Drawn b a1 k2 cv m2 w1 e w') : Drawn b a k cv m w e w' := by
  obtain ⟨t, a', h1, h2, h3, h4, h5⟩ := h
  exact ⟨t, a', h1, by omega, by omega, h4, hu.trans h5⟩

set_option maxHeartbeats 2000000 in
set_option maxRecDepth 100000 in
theorem bent_any (b a : Nat) (cv : Value) (w : World) (h : SrcAt w b a cv) (ha : a ≤ 800) :
    Calls Tryz.prog 27 #[.pointer (some ⟨b, 0, none⟩)] w (Drawn b a 6 cv 30 w) := by
  have HS : Hid (SrcAt w b a cv) := h
  clear h
  go_enter Tryz.func27, Tryz.ntmps27
  go_wp2_with fail
  refine (draw_any b a cv _ (by exact HS.out) (by omega)).mono ?_
  rintro e w1 ⟨t, a1, rfl, ht, ha1, hS1, hU1⟩
  have HS1 : Hid (SrcAt w1 b a1 cv) := hS1
  have HU1 : Hid (Upd b w w1) := hU1
  have hl1 : b < w1.heap.size := hS1.lt
  clear hS1 hU1
  go_wp2_with fail
  refine (next_any b a1 cv 10 _ (by exact HS1.out) (by omega) (by omega) (by omega)).mono ?_
  rintro e w2 ⟨r, q, rfl, hr0, hr1, hw⟩
  have HS2 : Hid (SrcAt w2 b (a1 + 1) cv) := by rw [hw]; exact (HS1.out.set (a1 + 1)).drewN _
  have HU2 : Hid (Upd b w w2) := by rw [hw]; exact HU1.out.trans ((Upd.set w1 _).drewN _)
  have hl2 : b < w2.heap.size := HS2.out.lt
  have hne : ¬ b = w2.heap.size := by omega
  clear hw
  by_cases h0 : r = 0
  · subst h0
    go_wp2
    go_ret
    exact ⟨_, a1 + 1, rfl, by rw [ByteArray.size_append]; show t.size + 1 ≤ 30; omega, by omega, HS2.out, HU2.out⟩
  · have e0 : (r == 0) = false := by simp [h0]
    by_cases h1 : r = 1
    · subst h1
      go_wp2_with fail
      refine (next_any b (a1 + 1) cv 7 _ (by exact HS2.out.alloc _) (by omega) (by omega) (by omega)).mono ?_
      rintro e w3 ⟨r3, q3, rfl, hr30, hr31, rfl⟩
      have hd : r3 = 0 ∨ r3 = 1 ∨ r3 = 2 ∨ r3 = 3 ∨ r3 = 4 ∨ r3 = 5 ∨ r3 = 6 := by omega
      clear hr30 hr31
      rcases hd with rfl | rfl | rfl | rfl | rfl | rfl | rfl
      all_goals
        go_wp2
        go_ret
        exact ⟨_, a1 + 1 + 1, rfl, by decide, by omega, ((HS2.out.set (a1 + 1 + 1)).alloc _).drewN _, HU2.out.trans (((Upd.set w2 _).trans (Upd.alloc _ _ (by simp; omega))).drewN _)⟩
    · have e1 : (r == 1) = false := by simp [h1]
      go_wp2
      go_ret
      exact ⟨_, a1 + 1, rfl, by omega, by omega, HS2.out, HU2.out⟩
end Go.Proofs.YtjlmkjcahnnjpaaGreatDoor

/- spec.DrawJoinPath and DrawIsUnder: two texts of at most 30 bytes; nothing that was there turns. -/
namespace Go.Proofs.YtjlmkjcahnnjpaaGreatDoor
open Go.RowKit

set_option maxHeartbeats 400000 in
theorem source_any (cv : Value) (w : World) (ad : Option Addr) (len cap : Nat) (hcv : cv = .slice ad len cap) :
    Calls Tryz.prog 11 #[cv] w fun e w' => e = .returned (.pointer (some ⟨w.heap.size, 0, none⟩)) ∧ w' = w.alloc (.cells #[cv, .int .i64 0] 52) := by
  subst hcv
  go_enter Tryz.func11, Tryz.ntmps11
  go_wp2
  go_ret
  exact ⟨rfl, rfl⟩

theorem src_new {w : World} {cv : Value} (h : CodeOk w w.heap.size cv) : SrcAt (w.alloc (.cells #[cv, .int .i64 0] 52)) w.heap.size 0 cv :=
  ⟨by simp, by simp, by simp, by simp, h.below ((Below.refl _ _).alloc (Nat.le_refl _) _)⟩
theorem ext_of_upd {w w' : World} {o : Obj} (h : Upd w.heap.size (w.alloc o) w') : Ext w w' := Below.trans ((Below.refl _ _).alloc (Nat.le_refl _) _) h.1

/-- What a draw of two texts leaves. -/
def Two (w : World) (e : Ending) (w' : World) : Prop :=
  ∃ p n : ByteArray, e = .returned (.tuple #[.string p, .string n]) ∧ p.size ≤ 30 ∧ n.size ≤ 30 ∧ Ext w w'

end Go.Proofs.YtjlmkjcahnnjpaaGreatDoor

/- sums of numbers: what the specification and the program answer at a slice of numbers. -/
namespace Go.Proofs.YtjlmkjcahnnjpaaGreatDoor
open Go.RowKit

/-- One more number in a sum. -/
def Sm.step (n x : Int) : Int := (n * 31 + x + 1) % 1000003
def Sm.sum (l : List Int) : Int := l.foldl Sm.step 7
def Sm.is (n : Int) : Bool := decide (0 ≤ n) && decide (n ≤ 1000002)
def Sm.ok (l : List Int) : Bool := l.all Sm.is
def Sm.sumV (l : List Int) : Int × Int := if 200 < l.length then (2, 0) else if Sm.ok l = true then (0, Sm.sum l) else (3, 0)
theorem Sm.is_iff {n : Int} : Sm.is n = true ↔ 0 ≤ n ∧ n ≤ 1000002 := by unfold Sm.is; simp
theorem Sm.step_is (n x : Int) : 0 ≤ Sm.step n x ∧ Sm.step n x ≤ 1000002 := by unfold Sm.step; omega
theorem Sm.sum_take {l : List Int} {k : Nat} {x : Int} (h : l[k]? = some x) : Sm.sum (l.take (k + 1)) = Sm.step (Sm.sum (l.take k)) x := by
  obtain ⟨hk, rfl⟩ := List.getElem?_eq_some_iff.1 h
  unfold Sm.sum
  rw [List.take_succ_eq_append_getElem hk, List.foldl_append]; rfl
theorem Sm.sum_is (l : List Int) : 0 ≤ Sm.sum l ∧ Sm.sum l ≤ 1000002 := by
  rcases List.eq_nil_or_concat l with rfl | ⟨m, x, rfl⟩
  · decide
  · unfold Sm.sum; rw [List.concat_eq_append, List.foldl_append]; exact Sm.step_is _ _
theorem Sm.ok_at {l : List Int} {k : Nat} {x : Int} (h : l[k]? = some x) (ho : Sm.ok l = true) : 0 ≤ x ∧ x ≤ 1000002 := by
  unfold Sm.ok at ho
  rw [List.all_eq_true] at ho
  exact Sm.is_iff.1 (ho x (List.mem_of_getElem? h))
theorem Sm.ok_bad {l : List Int} {k : Nat} {x : Int} (h : l[k]? = some x) (hx : Sm.is x = false) : Sm.ok l = false := by
  unfold Sm.ok
  rw [List.all_eq_false]
  exact ⟨x, List.mem_of_getElem? h, by simp [hx]⟩
theorem Sm.ok_all {l : List Int} (h : ∀ j x, j < l.length → l[j]? = some x → Sm.is x = true) : Sm.ok l = true := by
  unfold Sm.ok
  rw [List.all_eq_true]
  intro x hx
  obtain ⟨j, hj⟩ := List.getElem?_of_mem hx
  exact h j x (List.getElem?_eq_some_iff.1 hj).1 hj
theorem Sm.sumV_many {l : List Int} (h : 200 < l.length) : Sm.sumV l = (2, 0) := by unfold Sm.sumV; rw [if_pos h]
theorem Sm.sumV_bad {l : List Int} (h : ¬ 200 < l.length) (ho : Sm.ok l = false) : Sm.sumV l = (3, 0) := by unfold Sm.sumV; rw [if_neg h, if_neg (by simp [ho])]
theorem Sm.sumV_ok {l : List Int} (h : ¬ 200 < l.length) (ho : Sm.ok l = true) : Sm.sumV l = (0, Sm.sum l) := by unfold Sm.sumV; rw [if_neg h, if_pos ho]

/-- The numbers l lie in block b, from off on. -/
def NumsAt (w : World) (b off : Nat) (l : List Int) : Prop := ∀ (i : Nat) x, l[i]? = some x → w.cell? ⟨b, off + i, none⟩ = some (.int .i64 x)
theorem NumsAt.ext {w w' : World} {b off : Nat} {l : List Int} (h : NumsAt w b off l) (hb : b < w.heap.size) (he : Ext w w') : NumsAt w' b off l := by
  intro i x hx
  exact ((Ext.cell he).1 _ _ hb).trans (h i x hx)
/-- The slice value v reads as the numbers l. -/
def ISlice (w : World) (v : Value) (l : List Int) : Prop :=
  ∃ a cap, v = .slice a l.length cap ∧ l.length ≤ cap ∧ cap ≤ maxLen ∧ (0 < l.length → ∃ b off, a = some ⟨b, off, none⟩ ∧ b < w.heap.size ∧ NumsAt w b off l)
theorem ISlice.ext {w w' : World} {v : Value} {l : List Int} (h : ISlice w v l) (he : Ext w w') : ISlice w' v l := by
  obtain ⟨a, cap, h1, h2, h3, h4⟩ := h
  refine ⟨a, cap, h1, h2, h3, fun h0 => ?_⟩
  obtain ⟨b, off, e, hb, hN⟩ := h4 h0
  exact ⟨b, off, e, Nat.lt_of_lt_of_le hb he.size, hN.ext hb he⟩

/-- Block r holds an IntResult that nobody has written yet, and may be written. -/
def IBox (w : World) (r : Nat) : Prop :=
  r < w.heap.size ∧ w.cell? ⟨r, 0, none⟩ = some (.int .i64 0) ∧ w.cell? ⟨r, 1, none⟩ = some (.int .i64 0) ∧ w.frozen? ⟨r, 0, none⟩ = false ∧ w.frozen? ⟨r, 1, none⟩ = false
theorem IBox.new (w : World) (t : TypeId) : IBox (w.alloc (.cells #[.int .i64 0, .int .i64 0] t)) w.heap.size := ⟨by simp, by simp, by simp, by simp, by simp⟩
theorem IBox.ext {w w2 : World} {r : Nat} (h : IBox w r) (he : Ext w w2) : IBox w2 r := by
  obtain ⟨hc, hf⟩ := Ext.cell he
  obtain ⟨h1, h2, h3, h5, h6⟩ := h
  exact ⟨Nat.lt_of_lt_of_le h1 he.size, (hc _ _ h1).trans h2, (hc _ _ h1).trans h3, (hf _ _ h1).trans h5, (hf _ _ h1).trans h6⟩
theorem Ext.two {w w2 : World} (h : Ext w w2) (a b : Value) : Ext w ((w2.setCell ⟨w.heap.size, 0, none⟩ a).setCell ⟨w.heap.size, 1, none⟩ b) :=
  (h.setCell (p := ⟨w.heap.size, 0, none⟩) (Nat.le_refl _) a).setCell (p := ⟨w.heap.size, 1, none⟩) (Nat.le_refl _) b

def Sm.pairV (x y : Int) : Int × Int := Sm.sumV [1, x, y]
theorem three_lie (w : World) (x y : Int) (t : TypeId) (g : Nat) (hg : g = w.heap.size) : ISlice (w.alloc (.cells #[.int .i64 1, .int .i64 x, .int .i64 y] t)) (.slice (some ⟨g, 0, none⟩) 3 3) [1, x, y] := by
  subst hg
  refine ⟨_, 3, rfl, by simp, by unfold maxLen; omega, fun _ => ⟨w.heap.size, 0, rfl, by simp, ?_⟩⟩
  intro i z hz
  match i, hz with
  | 0, hz => cases hz; simp
  | 1, hz => cases hz; simp
  | 2, hz => cases hz; simp
end Go.Proofs.YtjlmkjcahnnjpaaGreatDoor

/- the pair's sum. -/
namespace Go.Proofs.YtjlmkjcahnnjpaaGreatDoor
open Go.RowKit
/-- Block g holds room for n cells from off on, and may be written there. -/
def IRoom (w : World) (g off n : Nat) : Prop := g < w.heap.size ∧ ∀ j, j < n → (∃ u, w.cell? ⟨g, off + j, none⟩ = some u) ∧ w.frozen? ⟨g, off + j, none⟩ = false
theorem iset_ne (w : World) (g o b k : Nat) (v : Value) (h : g ≠ b ∨ o ≠ k) : (w.setCell ⟨g, o, none⟩ v).cell? ⟨b, k, none⟩ = w.cell? ⟨b, k, none⟩ :=
  World.cell?_setCell_other _ _ _ _ (by intro e; injection e with e1 e2 _; rcases h with h | h; exact h e1; exact h e2)
theorem iset_eq (w : World) (g o : Nat) (v : Value) (h : ∃ u, w.cell? ⟨g, o, none⟩ = some u) : (w.setCell ⟨g, o, none⟩ v).cell? ⟨g, o, none⟩ = some v := by
  obtain ⟨u, hu⟩ := h; exact World.cell?_setCell_same _ _ _ hu
theorem IRoom.set {w : World} {g off n k : Nat} (h : IRoom w g off n) (v : Value) (hk : k < n) : IRoom (w.setCell ⟨g, off + k, none⟩ v) g off n := by
  refine ⟨by simpa using h.1, fun j hj => ⟨?_, by simpa using (h.2 j hj).2⟩⟩
  by_cases hjk : j = k
  · subst hjk; exact ⟨_, iset_eq _ _ _ _ (h.2 j hj).1⟩
  · rw [iset_ne _ _ _ _ _ _ (by omega)]; exact (h.2 j hj).1
theorem NumsAt.set {w : World} {g off n k : Nat} {l : List Int} {x : Int} (hr : IRoom w g off n) (hk : k < n) (hx : l[k]? = some x) (h : NumsAt w g off (l.take k)) : NumsAt (w.setCell ⟨g, off + k, none⟩ (.int .i64 x)) g off (l.take (k + 1)) := by
  intro i y hi
  rw [List.getElem?_take] at hi
  split at hi
  · by_cases hik : i = k
    · subst hik
      rw [hx] at hi
      cases hi
      exact iset_eq _ _ _ _ (hr.2 i hk).1
    · rw [iset_ne _ _ _ _ _ _ (by omega)]
      exact h i y (by rw [List.getElem?_take, if_pos (by omega)]; exact hi)
  · cases hi

end Go.Proofs.YtjlmkjcahnnjpaaGreatDoor

/- the draws of numbers: spec.l1Pick, DrawSumOf, DrawPairSum: what they leave. -/
namespace Go.Proofs.YtjlmkjcahnnjpaaGreatDoor
open Go.RowKit

theorem CodeOk.rise {w w' : World} {b b' : Nat} {cv : Value} (h : CodeOk w b cv) (hb : Below b w w') (hbb : b ≤ b') : CodeOk w' b' cv := by
  obtain ⟨ad, len, cap, h1, h2, h3⟩ := h.below hb
  refine ⟨ad, len, cap, h1, h2, fun hl => ?_⟩
  obtain ⟨cb, co, e, hc, hx⟩ := h3 hl
  exact ⟨cb, co, e, by omega, hx⟩
theorem nums_of_owns {w' : World} {base : Nat} {v : Value} {l : List Int} (h : w'.ownsRow base 2 1 v l.length (l.map (Value.int .i64))) : ISlice w' v l := by
  have hlt := h.lt
  rcases h.2 with ⟨hv, h0⟩ | ⟨g, cap, cur, hv, hb, hh, hn, hm, _⟩
  · exact ⟨none, 0, by rw [hv, h0], by omega, by unfold maxLen; omega, fun h => by omega⟩
  · refine ⟨some ⟨g, 0, none⟩, cap, hv, hn, hm, fun h0 => ⟨g, 0, rfl, (hlt g (by rw [hv]; rfl)).2, fun j x hj => ?_⟩⟩
    have := h.cells (g := g) (by rw [hv]; rfl) j (.int .i64 x) (by rw [List.getElem?_map, hj]; rfl)
    rw [Addr.add_lit] at this
    simpa using this
theorem owns_place {w : World} {base : Nat} {e : TypeId} {size : Nat} {v : Value} {n : Nat} {xs : List Value} (h : w.ownsRow base e size v n xs) {b : Nat} (hb : b < base) (u : Value) (q : Nat) : ((w.setCell ⟨b, 1, none⟩ u).drewN q).ownsRow base e size v n xs := by
  have h2 : (w.setCell ⟨b, 1, none⟩ u).ownsRow base e size v n xs := ownsRow_setCell_below h (a := ⟨b, 1, none⟩) hb u
  exact h2

set_option maxHeartbeats 2000000 in
set_option maxRecDepth 100000 in
theorem next_empty_big (b a : Nat) (ad : Option Addr) (cap : Nat) (n : Int) (w : World) (h1 : 1 ≤ n) (h2 : n ≤ 1000) (ha : a ≤ 1000)
    (h0 : w.cell? ⟨b, 0, none⟩ = some (.slice ad 0 cap)) (hA : w.cell? ⟨b, 1, none⟩ = some (.int .i64 a)) (hF : w.frozen? ⟨b, 1, none⟩ = false) :
    Calls Tryz.prog 13 #[.pointer (some ⟨b, 0, none⟩), .int .i64 n] w fun e w' => ∃ (r : Int) (q : Nat), e = .returned (.int .i64 r) ∧ 0 ≤ r ∧ r < n ∧ w' = (w.setCell ⟨b, 1, none⟩ (.int .i64 (a + 1 : Nat))).drewN q := by
  go_enter Tryz.func13, Tryz.ntmps13
  go_wp2
  go_ret
  exact ⟨_, 0, rfl, Int.emod_nonneg _ (by omega), Int.emod_lt_of_pos _ (by omega), rfl⟩

set_option maxHeartbeats 2000000 in
set_option maxRecDepth 100000 in
theorem next_some_big (b a cb co len cap : Nat) (x y : Int) (n : Int) (w : World) (h1 : 200 < n) (h2 : n ≤ 1000) (ha : a ≤ 1000) (hl : 0 < len) (hl2 : len ≤ 1048576) (hx0 : 0 ≤ x) (hx1 : x ≤ 255) (hy0 : 0 ≤ y) (hy1 : y ≤ 255) (hcb : cb ≠ b)
    (h0 : w.cell? ⟨b, 0, none⟩ = some (.slice (some ⟨cb, co, none⟩) len cap)) (hA : w.cell? ⟨b, 1, none⟩ = some (.int .i64 a)) (hF : w.frozen? ⟨b, 1, none⟩ = false)
    (hx : w.cell? ⟨cb, co + a % len, none⟩ = some (.int .u8 x)) (hy : w.cell? ⟨cb, co + (a + 1) % len, none⟩ = some (.int .u8 y)) :
    Calls Tryz.prog 13 #[.pointer (some ⟨b, 0, none⟩), .int .i64 n] w fun e w' => ∃ (r : Int) (q : Nat), e = .returned (.int .i64 r) ∧ 0 ≤ r ∧ r < n ∧ w' = (w.setCell ⟨b, 1, none⟩ (.int .i64 (a + 1 : Nat))).drewN q := by
  have e0 : ((len : Int) == 0) = false := by simp; omega
  have h1' : 1 ≤ n := by omega
  go_enter Tryz.func13, Tryz.ntmps13
  have hm : ((a : Int) % (len : Int)).toNat = a % len := by omega
  have hml : (a : Int) % (len : Int) < (len : Int) := Int.emod_lt_of_pos _ (by omega)
  have hm0 : 0 ≤ (a : Int) % (len : Int) := Int.emod_nonneg _ (by omega)
  have hn : (((a : Int) + 1) % (len : Int)).toNat = (a + 1) % len := by rw [show (a : Int) + 1 = ((a + 1 : Nat) : Int) from by omega]; rfl
  have hnl : ((a : Int) + 1) % (len : Int) < (len : Int) := Int.emod_lt_of_pos _ (by omega)
  have hn0 : 0 ≤ ((a : Int) + 1) % (len : Int) := Int.emod_nonneg _ (by omega)
  have hq0 : 0 ≤ (a : Int) / (len : Int) := Int.ediv_nonneg (by omega) (by omega)
  have hq1 : (a : Int) / (len : Int) ≤ 1000 := by have := Int.ediv_le_self (len : Int) (show (0 : Int) ≤ (a : Int) by omega); omega
  go_wp2
  go_quiet (fail)
  go_wp2
  go_quiet (fail)
  go_wp2
  go_ret
  exact ⟨_, _, rfl, Int.emod_nonneg _ (by omega), Int.emod_lt_of_pos _ (by omega), rfl⟩

theorem next_wide (b a : Nat) (cv : Value) (n : Int) (w : World) (h : SrcAt w b a cv) (h1 : 1 ≤ n) (h2 : n ≤ 1000) (ha : a ≤ 1000) :
    Calls Tryz.prog 13 #[.pointer (some ⟨b, 0, none⟩), .int .i64 n] w fun e w' => ∃ (r : Int) (q : Nat), e = .returned (.int .i64 r) ∧ 0 ≤ r ∧ r < n ∧ w' = (w.setCell ⟨b, 1, none⟩ (.int .i64 (a + 1 : Nat))).drewN q := by
  by_cases h3 : n ≤ 200
  · exact next_any b a cv n w h h1 h3 ha
  · obtain ⟨c0, c1, c2, c3, ad, len, cap, rfl, hl, hc⟩ := h
    rcases Nat.eq_zero_or_pos len with h0 | h0
    · subst h0
      exact next_empty_big b a ad cap n w h1 h2 ha c0 c1 c2
    · obtain ⟨cb, co, rfl, hcb, hx⟩ := hc h0
      obtain ⟨x, x0, x1, hcell⟩ := hx (a % len) (Nat.mod_lt _ h0)
      obtain ⟨y, y0, y1, hcell2⟩ := hx ((a + 1) % len) (Nat.mod_lt _ h0)
      exact next_some_big b a cb co len cap x y n w (by omega) h2 ha h0 hl x0 x1 y0 y1 (Nat.ne_of_lt hcb) c0 c1 c2 hcell hcell2

set_option maxHeartbeats 1000000 in
set_option maxRecDepth 100000 in
theorem pick_any (b a g off cap : Nat) (cv : Value) (l : List Int) (w : World) (h : SrcAt w b a cv) (hg : g ≠ b) (hN : NumsAt w g off l) (h1 : 1 ≤ l.length) (h2 : l.length ≤ 200) (ha : a ≤ 1000) :
    Calls Tryz.prog 28 #[.pointer (some ⟨b, 0, none⟩), .slice (some ⟨g, off, none⟩) l.length cap] w fun e w' => ∃ (x : Int) (q : Nat), e = .returned (.int .i64 x) ∧ w' = (w.setCell ⟨b, 1, none⟩ (.int .i64 (a + 1 : Nat))).drewN q := by
  have HS : Hid (SrcAt w b a cv) := h
  have HN : Hid (NumsAt w g off l) := hN
  clear h hN
  go_enter Tryz.func28, Tryz.ntmps28
  go_wp2_with fail
  refine (next_any b a cv l.length _ HS.out (by omega) (by omega) ha).mono ?_
  rintro e w1 ⟨r, q, rfl, hr0, hr1, hw⟩
  obtain ⟨k, rfl⟩ := Int.eq_ofNat_of_zero_le hr0
  have hk : k < l.length := by omega
  obtain ⟨x, hx⟩ : ∃ x, l[k]? = some x := ⟨_, List.getElem?_eq_getElem hk⟩
  have hc : w1.cell? ⟨g, off + k, none⟩ = some (.int .i64 x) := by
    rw [hw, World.cell?_drewN, iset_ne _ _ _ _ _ _ (Or.inl (Ne.symm hg))]
    exact HN.out k x hx
  have HW : Hid (w1 = (w.setCell ⟨b, 1, none⟩ (.int .i64 (a + 1 : Nat))).drewN q) := hw
  clear hw hx
  go_wp2
  go_ret
  exact ⟨x, q, rfl, HW.out⟩

/-- What a draw of numbers leaves. -/
def Drew (w : World) (e : Ending) (w' : World) : Prop := ∃ (g off cap : Nat) (l : List Int), e = .returned (.slice (some ⟨g, off, none⟩) l.length cap) ∧ ISlice w' (.slice (some ⟨g, off, none⟩) l.length cap) l ∧ (l.length ≤ 9 ∨ l.length = 201) ∧ Ext w w'
theorem SrcAt.kept {w w' : World} {b a : Nat} {cv : Value} (h : SrcAt w b a cv) (he : Below (b + 1) w w') : SrcAt w' b a cv :=
  ⟨(Below.cell he (p := ⟨b, 0, none⟩) (Nat.lt_succ_self _)).trans h.1, (Below.cell he (p := ⟨b, 1, none⟩) (Nat.lt_succ_self _)).trans h.2.1, (Below.frozen he (p := ⟨b, 1, none⟩) (Nat.lt_succ_self _)).trans h.2.2.1, Nat.lt_of_lt_of_le h.2.2.2.1 (Nat.le_trans (Nat.le_refl _) (by
    have := Below.size he
    have h2 := h.2.2.2.1
    omega)), h.2.2.2.2.below (Below.mono he (Nat.le_succ _))⟩
theorem drew_of {w w' : World} {base : Nat} {v : Value} {l : List Int} (h : w'.ownsRow base 2 1 v l.length (l.map (Value.int .i64))) (hv : v ≠ .slice none 0 0) (hl : l.length ≤ 9) (he : Ext w w') : Drew w (.returned v) w' := by
  have hI := nums_of_owns h
  rcases h.2 with ⟨hn, _⟩ | ⟨g, cap, cur, rfl, _⟩
  · exact absurd hn hv
  · exact ⟨g, 0, cap, l, rfl, hI, Or.inl hl, he⟩

theorem nums3 (w : World) (x y z : Int) (t : TypeId) : NumsAt (w.alloc (.cells #[.int .i64 x, .int .i64 y, .int .i64 z] t)) w.heap.size 0 [x, y, z] := by
  intro i u hu
  match i, hu with
  | 0, hu => cases hu; simp
  | 1, hu => cases hu; simp
  | 2, hu => cases hu; simp
theorem nums4 (w : World) (x y z v : Int) (t : TypeId) : NumsAt (w.alloc (.cells #[.int .i64 x, .int .i64 y, .int .i64 z, .int .i64 v] t)) w.heap.size 0 [x, y, z, v] := by
  intro i u hu
  match i, hu with
  | 0, hu => cases hu; simp
  | 1, hu => cases hu; simp
  | 2, hu => cases hu; simp
  | 3, hu => cases hu; simp

end Go.Proofs.YtjlmkjcahnnjpaaGreatDoor

/- draws of trees, what they keep: at most 20 nodes, each path right, numbers not below 0, the top among them. -/
namespace Go.Proofs.YtjlmkjcahnnjpaaGreatDoor
open Go.RowKit
namespace Tre
/-- What every tree keeps that is drawn. -/
def Kept (zs : List Zn) : Prop := zs.length ≤ 20 ∧ (∃ z, z ∈ zs ∧ key z = [47]) ∧ ∀ z ∈ zs, Pth.faultI (key z) = 0 ∧ 0 ≤ z.version ∧ 0 ≤ z.next
theorem Kept.pos {zs : List Zn} (h : Kept zs) : 0 < zs.length := by
  obtain ⟨-, ⟨z, hz, -⟩, -⟩ := h
  exact List.length_pos_of_mem hz
theorem kept_new {d : Int} (h : (newT d).1 = 0) : Kept (newT d).2.2 := by
  unfold newT at h ⊢
  split at h
  · rename_i h1
    rw [if_pos h1]
    exact ⟨by simp, ⟨_, List.mem_singleton.2 rfl, (by decide : top.data.toList = [47])⟩, fun z hz => by rw [List.mem_singleton.1 hz]; exact ⟨(by decide : Pth.faultI top.data.toList = 0), by simp, by simp⟩⟩
  · simp at h
theorem at_range {zs : List Zn} {p : ByteArray} (h : ¬ atI zs p < 0) : ∃ (k : Nat) (z : Zn), atI zs p = k ∧ k < zs.length ∧ zs[k]? = some z ∧ isAt p z = true := by
  rcases atI_range zs p with ⟨h1, -⟩ | h1
  · omega
  · exact h1
theorem mem_set {zs : List Zn} {k : Nat} {y z : Zn} (h : z ∈ zs.set k y) : z ∈ zs ∨ z = y := List.mem_or_eq_of_mem_set h
theorem kept_put {zs : List Zn} (h : Kept zs) {k : Nat} {y y' : Zn} (hy : zs[k]? = some y) (hk : key y' = key y) (hv : 0 ≤ y'.version) (hn : 0 ≤ y'.next) : Kept (zs.set k y') := by
  obtain ⟨h1, ⟨z, hz, ht⟩, h3⟩ := h
  have hkl : k < zs.length := (List.getElem?_eq_some_iff.1 hy).1
  have hm : y ∈ zs := List.mem_of_getElem? hy
  refine ⟨by simpa using h1, ?_, fun x hx => ?_⟩
  · obtain ⟨i, hi⟩ := List.mem_iff_getElem?.1 hz
    by_cases hik : i = k
    · subst hik
      rw [hy] at hi
      cases hi
      exact ⟨y', List.mem_iff_getElem?.2 ⟨i, by rw [List.getElem?_set_self hkl]⟩, by rw [hk]; exact ht⟩
    · exact ⟨z, List.mem_iff_getElem?.2 ⟨i, by rw [List.getElem?_set_ne (Ne.symm hik)]; exact hi⟩, ht⟩
  · rcases mem_set hx with hx | rfl
    · exact h3 x hx
    · exact ⟨by rw [hk]; exact (h3 y hm).1, hv, hn⟩
theorem kept_set {zs : List Zn} {p : ByteArray} {d n : Int} (h : Kept zs) (h0 : (setT zs p d n).1 = 0) : Kept (setT zs p d n).2.2 := by
  cases hd : okData d with
  | false => rw [setT_data hd] at h0; simp at h0
  | true =>
  by_cases ha : atI zs p < 0
  · rw [setT_none hd ha] at h0; simp at h0
  obtain ⟨k, z, hk, hkl, hz, -⟩ := at_range ha
  rw [setT_some hd hk hz] at h0 ⊢
  have hm := h.2.2 z (List.mem_of_getElem? hz)
  split
  · rename_i h1; rw [if_pos h1] at h0; simp at h0
  rename_i h1
  rw [if_neg h1] at h0
  split
  · rename_i h2; rw [if_pos h2] at h0; simp at h0
  exact kept_put h hz rfl (by show 0 ≤ z.version + 1; omega) hm.2.2
theorem kept_del {zs : List Zn} {p : ByteArray} {n : Int} (h : Kept zs) (h0 : (delT zs p n).1 = 0) : Kept (delT zs p n).2.2 := by
  cases ht : (p.toList == [47]) with
  | true => rw [delT_top ht] at h0; simp at h0
  | false =>
  by_cases ha : atI zs p < 0
  · rw [delT_none ht ha] at h0; simp at h0
  obtain ⟨k, z, hk, hkl, hz, hp⟩ := at_range ha
  unfold delT at h0 ⊢
  rw [if_neg (by rw [ht]; simp), if_neg ha, hk, Int.toNat_natCast, hz] at h0 ⊢
  dsimp only at h0 ⊢
  split
  · rename_i h1; rw [if_pos h1] at h0; simp at h0
  rename_i h1
  rw [if_neg h1] at h0
  split
  · rename_i h2; rw [if_pos h2] at h0; simp at h0
  obtain ⟨k1, ⟨y, hy, hyt⟩, k3⟩ := h
  refine ⟨by simp; omega, ⟨y, ?_, hyt⟩, fun x hx => k3 x ?_⟩
  · obtain ⟨i, hi⟩ := List.mem_iff_getElem?.1 hy
    have hik : i ≠ k := by
      rintro rfl
      rw [hz] at hi
      cases hi
      rw [isAt_iff.1 hp] at hyt
      rw [Lib.toList_data, hyt] at ht
      simp at ht
    rw [List.mem_append]
    by_cases hlt : i < k
    · exact Or.inl (List.mem_iff_getElem?.2 ⟨i, by rw [List.getElem?_take_of_lt hlt]; exact hi⟩)
    · exact Or.inr (List.mem_iff_getElem?.2 ⟨i - (k + 1), by rw [List.getElem?_drop, show k + 1 + (i - (k + 1)) = i by omega]; exact hi⟩)
  · rcases List.mem_append.1 hx with hx | hx
    · exact List.mem_of_mem_take hx
    · exact List.mem_of_mem_drop hx
theorem mem_putT {zs : List Zn} {z x : Zn} : x ∈ putT zs z ↔ x ∈ zs ∨ x = z := by
  unfold putT
  conv => rhs; rw [← List.take_append_drop (cut zs (key z)) zs]
  simp only [List.mem_append, List.mem_cons]
  constructor
  · rintro (h | rfl | h)
    · exact Or.inl (Or.inl h)
    · exact Or.inr rfl
    · exact Or.inl (Or.inr h)
  · rintro ((h | h) | rfl)
    · exact Or.inl h
    · exact Or.inr (Or.inr h)
    · exact Or.inr (Or.inl rfl)
theorem putT_length (zs : List Zn) (z : Zn) : (putT zs z).length = zs.length + 1 := by
  unfold putT
  have := cut_le zs (key z)
  simp
  omega
theorem kept_fin {zs bs : List Zn} {p : ByteArray} {d o : Int} (h : Kept bs) (hl : bs.length = zs.length) (hf : Pth.faultI p.data.toList = 0) (h0 : (finT zs p bs d o).1 = 0) : Kept (finT zs p bs d o).2.2 := by
  unfold finT at h0 ⊢
  split
  · rename_i h1; rw [if_pos h1] at h0; simp at h0
  rename_i h1
  rw [if_neg h1] at h0
  split
  · rename_i h2; rw [if_pos h2] at h0; simp at h0
  rename_i h2
  obtain ⟨k1, ⟨y, hy, hyt⟩, k3⟩ := h
  refine ⟨by rw [putT_length]; omega, ⟨y, mem_putT.2 (Or.inl hy), hyt⟩, fun x hx => ?_⟩
  rcases mem_putT.1 hx with hx | rfl
  · exact k3 x hx
  · exact ⟨hf, by simp, by simp⟩
theorem kept_create {zs : List Zn} {p : ByteArray} {d o : Int} {q : Bool} (h : Kept zs) (hf : Pth.faultI p.data.toList = 0) (h0 : (createT zs p d o q).1 = 0) : Kept (createT zs p d o q).2.2 := by
  unfold createT at h0 ⊢
  split
  · rename_i h1; rw [if_pos h1] at h0; simp at h0
  rename_i h1
  rw [if_neg h1] at h0
  split
  · rename_i h2; rw [if_pos h2] at h0; simp at h0
  rename_i h2
  rw [if_neg h2] at h0
  split
  · rename_i h3; rw [if_pos h3] at h0; simp at h0
  rename_i h3
  rw [if_neg h3] at h0
  obtain ⟨k, y, hk, hkl, hy, -⟩ := at_range h3
  rw [hk, Int.toNat_natCast, hy] at h0 ⊢
  dsimp only at h0 ⊢
  split
  · rename_i h4; rw [if_pos h4] at h0; simp at h0
  rename_i h4
  rw [if_neg h4] at h0
  cases q with
  | false =>
    rw [if_neg (by simp)] at h0 ⊢
    exact kept_fin h rfl hf h0
  | true =>
    rw [if_pos rfl] at h0 ⊢
    split
    · rename_i h5; rw [if_pos h5] at h0; exact absurd h0 h5
    rename_i h5
    rw [if_neg h5] at h0
    have hm := h.2.2 y (List.mem_of_getElem? hy)
    have hs : (seqT zs p k y) = (0, seqP p y.next, zs.set k { y with next := y.next + 1 }) ∧ Pth.faultI (seqP p y.next).data.toList = 0 := by
      have h6 := h5
      unfold seqT at h6 ⊢
      by_cases c1 : 100 ≤ y.next
      · rw [if_pos c1] at h6; simp at h6
      rw [if_neg c1] at h6 ⊢
      by_cases c2 : Pth.okName (seqN p y.next).data.toList = false
      · rw [if_pos c2] at h6; simp at h6
      rw [if_neg c2] at h6 ⊢
      by_cases c3 : Pth.faultI (seqP p y.next).data.toList ≠ 0
      · rw [if_pos c3] at h6; exact absurd c3 h6
      rw [if_neg c3]
      exact ⟨rfl, by simpa using c3⟩
    rw [hs.1] at h0 ⊢
    exact kept_fin (kept_put h hy rfl hm.2.1 (by show 0 ≤ y.next + 1; omega)) (by simp) hs.2 h0
end Tre
/-- The paths that are drawn, by their depth. -/
def abc : Nat → List (List UInt8)
  | 0 => [[47]]
  | k + 1 => (abc k).flatMap fun p => [Pth.joined p [97], Pth.joined p [98], Pth.joined p [99]]
theorem abc_right : ∀ j, j ≤ 3 → ∀ p ∈ abc j, Pth.faultI p = 0 := by decide
end Go.Proofs.YtjlmkjcahnnjpaaGreatDoor

/- draws of trees: l1Draw's texts are paths without fault; l2Right. -/
namespace Go.Proofs.YtjlmkjcahnnjpaaGreatDoor
open Go.RowKit
/-- What a draw of a right path leaves. -/
def DrawnP (b a k : Nat) (cv : Value) (w : World) (e : Ending) (w' : World) : Prop :=
  ∃ (t : ByteArray) (a' : Nat), e = .returned (.string t) ∧ Pth.faultI t.data.toList = 0 ∧ a' ≤ a + k ∧ SrcAt w' b a' cv ∧ Upd b w w'
theorem abc_next {t : ByteArray} {j : Nat} (h : t.data.toList ∈ abc j) (c : UInt8) (hc : c = 97 ∨ c = 98 ∨ c = 99) : (mkB (Pth.joined t.data.toList [c])).data.toList ∈ abc (j + 1) := by
  rw [mkB_list]
  refine List.mem_flatMap.2 ⟨_, h, ?_⟩
  rcases hc with rfl | rfl | rfl <;> simp
theorem abc_size : ∀ j, j ≤ 3 → ∀ p ∈ abc j, p.length ≤ 7 := by decide

set_option maxHeartbeats 1000000 in
set_option maxRecDepth 100000 in
theorem draw_right (b a : Nat) (cv : Value) (w : World) (h : SrcAt w b a cv) (ha : a ≤ 900) :
    Calls Tryz.prog 47 #[.pointer (some ⟨b, 0, none⟩)] w (DrawnP b a 4 cv w) := by
  have hbl : b < w.heap.size := h.2.2.2.1
  have HS : Hid (SrcAt w b a cv) := h
  clear h
  go_enter Tryz.func47, Tryz.ntmps47
  go_wp2_with fail
  refine (next_any b a cv 4 _ (by exact HS.out) (by omega) (by omega) (by omega)).mono ?_
  rintro e w1 ⟨r, q, rfl, hr0, hr1, rfl⟩
  obtain ⟨k0, rfl⟩ := Int.eq_ofNat_of_zero_le hr0
  go_wp2
  go_loopw [3, 4] (fun pv kv wr => ∃ (t : ByteArray) (k a' j : Nat), pv = .string t ∧ kv = .int .i64 k ∧ j + k ≤ 3 ∧ Hid (t.data.toList ∈ abc j) ∧ a' + k ≤ a + 4 ∧ Hid (SrcAt wr b a' cv) ∧ Hid (Upd b w wr)) (fun _ kv _ => (intOf kv).toNat)
  case atStart => exact ⟨_, k0, a + 1, 0, rfl, rfl, by omega, (by decide : ([47] : List UInt8) ∈ abc 0), by omega, (HS.out.set (a + 1)).drewN _, (Upd.set w _).drewN _⟩
  case round =>
    obtain ⟨t, k, a', j, rfl, rfl, hk3, HT, hak, HS2, HU⟩ := hrel
    have ht7 := abc_size j (by omega) _ HT.out
    rw [len_eq] at ht7
    by_cases hk : 0 < k
    · have hlr : b < wr.heap.size := HS2.out.lt
      have hne : ¬ b = wr.heap.size := by omega
      have ht : t.size ≤ 1048576 := by omega
      go_wp2_with fail
      refine (next_any b a' cv 3 _ (by exact HS2.out.alloc _) (by omega) (by omega) (by omega)).mono ?_
      rintro e w1 ⟨r, q2, rfl, hr0, hr1, rfl⟩
      have hd : r = 0 ∨ r = 1 ∨ r = 2 := by omega
      clear hr0 hr1
      rcases hd with rfl | rfl | rfl
      · go_wp2_with fail
        refine (l1Join_any t ⟨#[97]⟩ _ ht (by decide)).mono ?_
        rintro e w4 ⟨rfl, hw⟩
        subst hw
        have HT2 : Hid ((mkB (Pth.joined t.data.toList (⟨#[97]⟩ : ByteArray).data.toList)).data.toList ∈ abc (j + 1)) := abc_next HT.out 97 (by simp)
        generalize mkB (Pth.joined t.data.toList (⟨#[97]⟩ : ByteArray).data.toList) = t' at *
        go_wp2
        exact ⟨⟨t', k - 1, a' + 1, j + 1, rfl, by rw [show ((k - 1 : Nat) : Int) = (k : Int) - 1 from by omega], by omega, HT2, by omega, ((HS2.out.set (a' + 1)).alloc _).drewN _, HU.out.trans (((Upd.set wr _).trans (Upd.alloc _ _ (by simp; omega))).drewN _)⟩, by simp [intOf]; omega⟩
      · go_wp2_with fail
        refine (l1Join_any t ⟨#[98]⟩ _ ht (by decide)).mono ?_
        rintro e w4 ⟨rfl, hw⟩
        subst hw
        have HT2 : Hid ((mkB (Pth.joined t.data.toList (⟨#[98]⟩ : ByteArray).data.toList)).data.toList ∈ abc (j + 1)) := abc_next HT.out 98 (by simp)
        generalize mkB (Pth.joined t.data.toList (⟨#[98]⟩ : ByteArray).data.toList) = t' at *
        go_wp2
        exact ⟨⟨t', k - 1, a' + 1, j + 1, rfl, by rw [show ((k - 1 : Nat) : Int) = (k : Int) - 1 from by omega], by omega, HT2, by omega, ((HS2.out.set (a' + 1)).alloc _).drewN _, HU.out.trans (((Upd.set wr _).trans (Upd.alloc _ _ (by simp; omega))).drewN _)⟩, by simp [intOf]; omega⟩
      · go_wp2_with fail
        refine (l1Join_any t ⟨#[99]⟩ _ ht (by decide)).mono ?_
        rintro e w4 ⟨rfl, hw⟩
        subst hw
        have HT2 : Hid ((mkB (Pth.joined t.data.toList (⟨#[99]⟩ : ByteArray).data.toList)).data.toList ∈ abc (j + 1)) := abc_next HT.out 99 (by simp)
        generalize mkB (Pth.joined t.data.toList (⟨#[99]⟩ : ByteArray).data.toList) = t' at *
        go_wp2
        exact ⟨⟨t', k - 1, a' + 1, j + 1, rfl, by rw [show ((k - 1 : Nat) : Int) = (k : Int) - 1 from by omega], by omega, HT2, by omega, ((HS2.out.set (a' + 1)).alloc _).drewN _, HU.out.trans (((Upd.set wr _).trans (Upd.alloc _ _ (by simp; omega))).drewN _)⟩, by simp [intOf]; omega⟩
    · go_wp2
      go_ret
      exact ⟨t, a', rfl, abc_right j (by omega) _ HT.out, by omega, HS2.out, HU.out⟩
end Go.Proofs.YtjlmkjcahnnjpaaGreatDoor

/- draws of trees: l2Right. -/
namespace Go.Proofs.YtjlmkjcahnnjpaaGreatDoor
open Go.RowKit
/-- What a draw of a tree leaves. -/
def DrawnT (K : List Zn → Prop) (b a k : Nat) (cv : Value) (w : World) (e : Ending) (w' : World) : Prop :=
  ∃ (g off cap a' : Nat) (zs : List Zn), e = .returned (.slice (some ⟨g, off, none⟩) zs.length cap) ∧ K zs ∧ w.heap.size ≤ g ∧ Own w' (.slice (some ⟨g, off, none⟩) zs.length cap) g zs ∧ a' ≤ a + k ∧ SrcAt w' b a' cv ∧ Upd b w w'
theorem Own.at {w : World} {v : Value} {g : Nat} {zs : List Zn} (h : Own w v g zs) (hp : 0 < zs.length) : ∃ off cap, v = .slice (some ⟨g, off, none⟩) zs.length cap := by
  obtain ⟨a, cap, rfl, -, -, hx⟩ := h
  obtain ⟨off, rfl, -⟩ := hx hp
  exact ⟨off, cap, rfl⟩

/-- Under way: the source at a, nothing of w turned, the nodes zs in block g. -/
def St (w : World) (b a : Nat) (cv v : Value) (g : Nat) (zs : List Zn) (wr : World) : Prop := SrcAt wr b a cv ∧ Upd b w wr ∧ Own wr v g zs ∧ g ≠ b
theorem St.ext {w : World} {b a g : Nat} {cv v : Value} {zs : List Zn} {wr w' : World} (h : St w b a cv v g zs wr) (he : Ext wr w') : St w b a cv v g zs w' :=
  ⟨h.1.ext he, h.2.1.trans (Upd.ext he (Nat.le_of_lt h.1.lt)), h.2.2.1.ext he, h.2.2.2⟩
theorem St.alloc {w : World} {b a g : Nat} {cv v : Value} {zs : List Zn} {wr : World} (h : St w b a cv v g zs wr) (o : Obj) : St w b a cv v g zs (wr.alloc o) := h.ext ((Ext.refl _).alloc _)
theorem St.place {w : World} {b a g : Nat} {cv v : Value} {zs : List Zn} {wr : World} (h : St w b a cv v g zs wr) (a' q : Nat) : St w b a' cv v g zs ((wr.setCell ⟨b, 1, none⟩ (.int .i64 (a' : Int))).drewN q) :=
  ⟨h.1.place a' q, h.2.1.trans (Upd.place _ _ _), h.2.2.1.upd (Upd.place _ _ _) h.2.2.2, h.2.2.2⟩
theorem St.upd {w : World} {b a a' g : Nat} {cv v : Value} {zs : List Zn} {wr w' : World} (h : St w b a cv v g zs wr) (hs : SrcAt w' b a' cv) (hu : Upd b wr w') : St w b a' cv v g zs w' :=
  ⟨hs, h.2.1.trans hu, h.2.2.1.upd hu h.2.2.2, h.2.2.2⟩
theorem St.box {w : World} {b a g : Nat} {cv v : Value} {zs : List Zn} {wr : World} (h : St w b a cv v g zs wr) (hb : b < w.heap.size) {rb : Nat} (h1 : w.heap.size ≤ rb) (h2 : rb ≠ g) (o : Nat) (u : Value) : St w b a cv v g zs (wr.setCell ⟨rb, o, none⟩ u) := by
  have hu : Upd rb wr (wr.setCell ⟨rb, o, none⟩ u) := (Upd.refl _ _).setAt o u
  refine ⟨h.1.kept (Below.mono hu.1 (by omega)), ⟨Below.trans h.2.1.1 (Below.mono hu.1 (by omega)), Nat.le_trans h.2.1.2.1 hu.2.1, fun c o' hc hl => ?_⟩, h.2.2.1.upd hu (Ne.symm h2), h.2.2.2⟩
  have e1 := hu.at_ne c o' (by omega) (Nat.lt_of_lt_of_le hl h.2.1.2.1)
  have e2 := h.2.1.2.2 c o' hc hl
  exact ⟨e1.1.trans e2.1, e1.2.trans e2.2⟩
theorem fieldZ_code (c : Int) (t : ByteArray) (v : Value) (w : World) : (Instr.field 29 (.agg #[.int .i64 c, .string t, v]) 0).run Tryz.prog w = .ok (.int .i64 c) w := by kernel_rfl
theorem fieldZ_nodes (c : Int) (t : ByteArray) (v : Value) (w : World) : (Instr.field 29 (.agg #[.int .i64 c, .string t, v]) 2).run Tryz.prog w = .ok v w := by kernel_rfl

set_option maxHeartbeats 4000000 in
set_option maxRecDepth 100000 in
theorem l2Right_any (b a : Nat) (cv : Value) (w : World) (h : SrcAt w b a cv) (ha : a ≤ 600) :
    Calls Tryz.prog 26 #[.pointer (some ⟨b, 0, none⟩)] w (DrawnT Tre.Kept b a 101 cv w) := by
  have hbl : b < w.heap.size := h.2.2.2.1
  have HS : Hid (SrcAt w b a cv) := h
  clear h
  have hfz := fieldZ_nodes
  go_enter Tryz.func26, Tryz.ntmps26
  go_wp2_with fail
  refine (next_any b a cv 9 _ (by exact HS.out) (by omega) (by omega) (by omega)).mono ?_
  rintro e w1 ⟨r, q, rfl, hr0, hr1, hw⟩
  have HS1 : Hid (SrcAt w1 b (a + 1) cv) := by rw [hw]; exact HS.out.place _ _
  have HU1 : Hid (Upd b w w1) := by rw [hw]; exact Upd.place _ _ _
  clear hw
  have hN := specNewTree_any r w1
  have hN0 : Tre.newT r = (0, ⟨#[]⟩, [⟨Tre.top, r, 0, 0, 0⟩]) := by unfold Tre.newT Tre.okData; rw [if_pos (by simp; omega)]
  have HK1 : Hid (Tre.Kept (Tre.newT r).2.2) := Tre.kept_new (by rw [hN0])
  rw [hN0] at hN HK1
  clear hN0
  dsimp only at hN HK1
  have HN : Hid (Calls Tryz.prog 46 #[.int .i64 r] w1 (ZRet w1 0 ⟨#[]⟩ [⟨Tre.top, r, 0, 0, 0⟩])) := hN
  clear hN
  go_wp2_with fail
  refine HN.out.mono ?_
  rintro e w2 ⟨v, g, rfl, hg, hO, hE⟩
  obtain ⟨off, cap, rfl⟩ := hO.at (by simp)
  generalize hzs : ([⟨Tre.top, r, 0, 0, 0⟩] : List Zn) = zs0 at *
  have HS2 : Hid (SrcAt w2 b (a + 1) cv) := HS1.out.ext hE
  have HU2 : Hid (Upd b w w2) := HU1.out.trans (Upd.ext hE (Nat.le_of_lt HS1.out.lt))
  have HO2 : Hid (Own w2 (.slice (some ⟨g, off, none⟩) zs0.length cap) g zs0) := hO
  have hg2 : w.heap.size ≤ g := Nat.le_trans HU1.out.2.1 hg
  clear hO hE hg
  unfold zr
  go_wp2_with fail
  refine (next_any b (a + 1) cv 12 _ (by exact HS2.out) (by omega) (by omega) (by omega)).mono ?_
  rintro e w3 ⟨r3, q3, rfl, hr30, hr31, hw⟩
  obtain ⟨k0, rfl⟩ := Int.eq_ofNat_of_zero_le hr30
  have HS3 : Hid (SrcAt w3 b (a + 2) cv) := by rw [hw]; exact HS2.out.place _ _
  have HU3 : Hid (Upd b w w3) := by rw [hw]; exact HU2.out.trans (Upd.place _ _ _)
  have HO3 : Hid (Own w3 (.slice (some ⟨g, off, none⟩) zs0.length cap) g zs0) := by rw [hw]; exact HO2.out.upd (Upd.place _ _ _) (by omega)
  clear hw
  go_wp2
  go_loopw [3, 4] (fun ov kv wr => ∃ (g off cap k a' : Nat) (zs : List Zn), ov = .slice (some ⟨g, off, none⟩) zs.length cap ∧ kv = .int .i64 k ∧ k ≤ 11 ∧ Hid (Tre.Kept zs) ∧ w.heap.size ≤ g ∧ Hid (Own wr (.slice (some ⟨g, off, none⟩) zs.length cap) g zs) ∧ a' + 9 * k ≤ a + 101 ∧ Hid (SrcAt wr b a' cv) ∧ Hid (Upd b w wr)) (fun _ kv _ => (intOf kv).toNat)
  case atStart => exact ⟨g, off, cap, k0, a + 2, zs0, rfl, rfl, by omega, HK1, hg2, HO3, by omega, HS3, HU3⟩
  case round =>
    clear HO3 HK1 HS3 HU3 HS2 HU2 HS1 HU1 HN HO2
    obtain ⟨g, off, cap, k, a', zs, rfl, rfl, hk11, HK, hgw, HO, hak, HS4, HU4⟩ := hrel
    by_cases hk : 0 < k
    · go_wp2_with fail
      refine (draw_right b a' cv _ (by exact HS4.out) (by omega)).mono ?_
      rintro e w5 ⟨p, a5, rfl, hpf, ha5, hS5, hU5⟩
      have HT5 : Hid (St w b a5 cv (.slice (some ⟨g, off, none⟩) zs.length cap) g zs w5) := (show St w b a' cv (.slice (some ⟨g, off, none⟩) zs.length cap) g zs wr from ⟨HS4.out, HU4.out, HO.out, by omega⟩).upd hS5 hU5
      clear hS5 hU5 HS4 HU4 HO
      go_wp2_with fail
      refine (next_any b a5 cv 99 _ (by first | exact HT5.out.1 | exact (HT5.out.alloc _).1) (by omega) (by omega) (by omega)).mono ?_
      rintro e w6 ⟨d, q6, rfl, hd0, hd1, hw⟩
      have HT6 : Hid (St w b (a5 + 1) cv (.slice (some ⟨g, off, none⟩) zs.length cap) g zs w6) := by rw [hw]; first | exact HT5.out.place _ _ | exact (HT5.out.alloc _).place _ _
      clear hw HT5
      have hlt6 : b < w6.heap.size := HT6.out.1.lt
      go_wp2_with fail
      refine (pick_any b (a5 + 1) w6.heap.size 0 4 cv [0, 0, 1, 2] _ (by exact (HT6.out.alloc _).1) (by omega) (nums4 _ _ _ _ _ _) (by simp) (by simp) (by omega)).mono ?_
      rintro e w7 ⟨o, q7, rfl, hw⟩
      have HT7 : Hid (St w b (a5 + 2) cv (.slice (some ⟨g, off, none⟩) zs.length cap) g zs w7) := by rw [hw]; exact (HT6.out.alloc _).place _ _
      clear hw HT6
      go_wp2_with fail
      refine (chance_any b (a5 + 2) cv 5 _ (by exact HT7.out.1) (by omega) (by omega) (by omega)).mono ?_
      rintro e w8 ⟨qb, q8, rfl, hw⟩
      have HT8 : Hid (St w b (a5 + 3) cv (.slice (some ⟨g, off, none⟩) zs.length cap) g zs w8) := by rw [hw]; exact HT7.out.place _ _
      clear hw HT7
      go_wp2_with fail
      have hcr := l2Create_any g off cap zs p d o qb w8 HT8.out.2.2.1.slice (Nat.le_trans HK.out.1 (by omega)) HK.out.pos hpf (fun z hz => (HK.out.2.2 z hz).2.2)
      have HK9 : Hid ((Tre.createT zs p d o qb).1 = 0 → Tre.Kept (Tre.createT zs p d o qb).2.2) := fun h => Tre.kept_create HK.out hpf h
      generalize (Tre.createT zs p d o qb).1 = c at *
      generalize (Tre.createT zs p d o qb).2.1 = t at *
      generalize (Tre.createT zs p d o qb).2.2 = rs at *
      refine hcr.mono ?_
      rintro e w9 ⟨v', g', rfl, hg', hO', hE'⟩
      obtain ⟨ad', cap', rfl⟩ : ∃ ad' cap', v' = .slice ad' rs.length cap' := by obtain ⟨a0, c0, h0, -⟩ := hO'; exact ⟨a0, c0, h0⟩
      have hg8 : b < g' := Nat.lt_of_lt_of_le HT8.out.1.lt hg'
      have hg9 : w.heap.size ≤ g' := Nat.le_trans HT8.out.2.1.2.1 hg'
      have HT9 : Hid (St w b (a5 + 3) cv (.slice (some ⟨g, off, none⟩) zs.length cap) g zs w9) := HT8.out.ext hE'
      have HO9 : Hid (Own w9 (.slice ad' rs.length cap') g' rs) := hO'
      clear hO' hE' HT8 hcr hg'
      unfold zr
      go_wp2_with fail
      refine (next_any b (a5 + 3) cv 6 _ (by exact (HT9.out.alloc _).1) (by omega) (by omega) (by omega)).mono ?_
      rintro e w10 ⟨r6, q10, rfl, h60, h61, hw⟩
      have hgl := HT9.out.2.2.1.lt HK.out.pos
      have hb9 := HT9.out.1.lt
      have hw9 := HT9.out.2.1.2.1
      have hr9 : 0 < rs.length → g' < w9.heap.size := fun h => HO9.out.lt h
      have HT10 : Hid (St w b (a5 + 4) cv (.slice (some ⟨g, off, none⟩) zs.length cap) g zs w10) := by rw [hw]; exact (HT9.out.alloc _).place _ _
      have HO10 : Hid (Own w10 (.slice ad' rs.length cap') g' rs) := by rw [hw]; exact (HO9.out.ext ((Ext.refl _).alloc _)).upd (Upd.place _ _ _) (by omega)
      have hat := fun i => (Upd.place (b := b) (w9.alloc (.cells #[.int .i64 c,   .string t, .slice ad' rs.length cap'] 29)) (.int .i64 (a5 + 3 + 1 : Nat)) q10).at_ne w9.heap.size i (by omega) (by simp)
      rw [← hw] at hat
      have c0 : w10.cell? ⟨w9.heap.size, 0, none⟩ = some (.int .i64 c) := (hat 0).1.trans (by simp)
      have c1 : w10.cell? ⟨w9.heap.size, 1, none⟩ = some (.string t) := (hat 1).1.trans (by simp)
      have c2 : w10.cell? ⟨w9.heap.size, 2, none⟩ = some (.slice ad' rs.length cap') := (hat 2).1.trans (by simp)
      have f0 : w10.frozen? ⟨w9.heap.size, 0, none⟩ = false := (hat 0).2.trans (by simp)
      have f1 : w10.frozen? ⟨w9.heap.size, 1, none⟩ = false := (hat 1).2.trans (by simp)
      have f2 : w10.frozen? ⟨w9.heap.size, 2, none⟩ = false := (hat 2).2.trans (by simp)
      have hlt10 : w9.heap.size < w10.heap.size := by rw [hw]; simp
      clear hw hat HT9 HO9
      generalize w9.heap.size = rb at *
      by_cases h6 : r6 = 0
      · subst h6
        go_wp2_with fail
        refine (next_any b (a5 + 4) cv 99 _ (by exact HT10.out.1) (by omega) (by omega) (by omega)).mono ?_
        rintro e w11 ⟨d2, q11, rfl, hd20, hd21, hw⟩
        have HT11 : Hid (St w b (a5 + 5) cv (.slice (some ⟨g, off, none⟩) zs.length cap) g zs w11) := by rw [hw]; exact HT10.out.place _ _
        have hat := fun i => (Upd.place (b := b) w10 (.int .i64 (a5 + 4 + 1 : Nat)) q11).at_ne rb i (by omega) hlt10
        rw [← hw] at hat
        have c0' := (hat 0).1.trans c0
        have c1' := (hat 1).1.trans c1
        have c2' := (hat 2).1.trans c2
        have f0' := (hat 0).2.trans f0
        have f1' := (hat 1).2.trans f1
        have f2' := (hat 2).2.trans f2
        have hlt11 : rb < w11.heap.size := by rw [hw]; simpa using hlt10
        clear hw hat HT10 HO10 c0 c1 c2 f0 f1 f2 HK9
        go_wp2_with fail
        have hcr := l2Set_any (.slice (some ⟨g, off, none⟩) zs.length cap) zs p d2 (-1) w11 HT11.out.2.2.1.slice (Nat.le_trans HK.out.1 (by omega)) (fun z hz => (HK.out.2.2 z hz).2.1)
        have HK12 : Hid ((Tre.setT zs p d2 (-1)).1 = 0 → Tre.Kept (Tre.setT zs p d2 (-1)).2.2) := fun h => Tre.kept_set HK.out h
        generalize (Tre.setT zs p d2 (-1)).1 = c3 at *
        generalize (Tre.setT zs p d2 (-1)).2.1 = t3 at *
        generalize (Tre.setT zs p d2 (-1)).2.2 = rs3 at *
        refine hcr.mono ?_
        rintro e w12 ⟨v3, g3, rfl, hg3, hO3, hE3⟩
        obtain ⟨ad3, cap3, rfl⟩ : ∃ ad' cap', v3 = .slice ad' rs3.length cap' := by obtain ⟨a0, c0, h0, -⟩ := hO3; exact ⟨a0, c0, h0⟩
        have hgb : rb < g3 := Nat.lt_of_lt_of_le hlt11 hg3
        have hg9 : w.heap.size ≤ g3 := Nat.le_trans HT11.out.2.1.2.1 hg3
        have HT12 : Hid (St w b (a5 + 5) cv (.slice (some ⟨g, off, none⟩) zs.length cap) g zs w12) := HT11.out.ext hE3
        have HO12 : Hid (Own w12 (.slice ad3 rs3.length cap3) g3 rs3) := hO3
        have x0 := (Below.cell hE3 (p := ⟨rb, 0, none⟩) hlt11).trans c0'
        have x1 := (Below.cell hE3 (p := ⟨rb, 1, none⟩) hlt11).trans c1'
        have x2 := (Below.cell hE3 (p := ⟨rb, 2, none⟩) hlt11).trans c2'
        have y0 := (Below.frozen hE3 (p := ⟨rb, 0, none⟩) hlt11).trans f0'
        have y1 := (Below.frozen hE3 (p := ⟨rb, 1, none⟩) hlt11).trans f1'
        have y2 := (Below.frozen hE3 (p := ⟨rb, 2, none⟩) hlt11).trans f2'
        clear hO3 hE3 hcr hg3 c0' c1' c2' f0' f1' f2' HT11
        unfold zr
        by_cases hc : c3 = 0
        · subst hc
          have HKz : Hid (Tre.Kept rs3) := HK12.out rfl
          clear HK12
          go_wp2
          obtain ⟨off', cap2, hv'⟩ := HO12.out.at HKz.out.pos
          exact ⟨⟨g3, off', cap2, k - 1, (a5 + 5), rs3, hv', by rw [show ((k - 1 : Nat) : Int) = (k : Int) - 1 from by omega], by omega, HKz, hg9, hv' ▸ ((HO12.out.upd ((Upd.refl rb _).setAt 0 _) (by omega)).upd ((Upd.refl rb _).setAt 1 _) (by omega)).upd ((Upd.refl rb _).setAt 2 _) (by omega), by omega, (((HT12.out.box hbl (by omega) (by omega) 0 _).box hbl (by omega) (by omega) 1 _).box hbl (by omega) (by omega) 2 _).1, (((HT12.out.box hbl (by omega) (by omega) 0 _).box hbl (by omega) (by omega) 1 _).box hbl (by omega) (by omega) 2 _).2.1⟩, by simp [intOf]; omega⟩
        · have ec : (c3 == 0) = false := by simp [hc]
          go_wp2
          have hX := ((HT12.out.box hbl (rb := rb) (by omega) (by omega) 0 (.int .i64 c3)).box hbl (rb := rb) (by omega) (by omega) 1 (.string t3)).box hbl (rb := rb) (by omega) (by omega) 2 (.slice ad3 rs3.length cap3)
          exact ⟨⟨g, off, cap, k - 1, (a5 + 5), zs, rfl, by rw [show ((k - 1 : Nat) : Int) = (k : Int) - 1 from by omega], by omega, HK, hgw, hX.2.2.1, by omega, hX.1, hX.2.1⟩, by simp [intOf]; omega⟩
      · have e0 : (r6 == 0) = false := by simp [h6]
        by_cases h7 : r6 = 1
        · subst h7
          go_wp2_with fail
          have hcr := l2Delete_any (.slice (some ⟨g, off, none⟩) zs.length cap) zs p (-1) w10 HT10.out.2.2.1.slice (Nat.le_trans HK.out.1 (by omega)) (fun z hz => (HK.out.2.2 z hz).1)
          have HK12 : Hid ((Tre.delT zs p (-1)).1 = 0 → Tre.Kept (Tre.delT zs p (-1)).2.2) := fun h => Tre.kept_del HK.out h
          generalize (Tre.delT zs p (-1)).1 = c3 at *
          generalize (Tre.delT zs p (-1)).2.1 = t3 at *
          generalize (Tre.delT zs p (-1)).2.2 = rs3 at *
          refine hcr.mono ?_
          rintro e w12 ⟨v3, g3, rfl, hg3, hO3, hE3⟩
          obtain ⟨ad3, cap3, rfl⟩ : ∃ ad' cap', v3 = .slice ad' rs3.length cap' := by obtain ⟨a0, c0, h0, -⟩ := hO3; exact ⟨a0, c0, h0⟩
          have hgb : rb < g3 := Nat.lt_of_lt_of_le hlt10 hg3
          have hg9 : w.heap.size ≤ g3 := Nat.le_trans HT10.out.2.1.2.1 hg3
          have HT12 : Hid (St w b (a5 + 4) cv (.slice (some ⟨g, off, none⟩) zs.length cap) g zs w12) := HT10.out.ext hE3
          have HO12 : Hid (Own w12 (.slice ad3 rs3.length cap3) g3 rs3) := hO3
          have x0 := (Below.cell hE3 (p := ⟨rb, 0, none⟩) hlt10).trans c0
          have x1 := (Below.cell hE3 (p := ⟨rb, 1, none⟩) hlt10).trans c1
          have x2 := (Below.cell hE3 (p := ⟨rb, 2, none⟩) hlt10).trans c2
          have y0 := (Below.frozen hE3 (p := ⟨rb, 0, none⟩) hlt10).trans f0
          have y1 := (Below.frozen hE3 (p := ⟨rb, 1, none⟩) hlt10).trans f1
          have y2 := (Below.frozen hE3 (p := ⟨rb, 2, none⟩) hlt10).trans f2
          clear hO3 hE3 hcr hg3 c0 c1 c2 f0 f1 f2 HT10 HO10 HK9
          unfold zr
          by_cases hc : c3 = 0
          · subst hc
            have HKz : Hid (Tre.Kept rs3) := HK12.out rfl
            clear HK12
            go_wp2
            obtain ⟨off', cap2, hv'⟩ := HO12.out.at HKz.out.pos
            exact ⟨⟨g3, off', cap2, k - 1, (a5 + 4), rs3, hv', by rw [show ((k - 1 : Nat) : Int) = (k : Int) - 1 from by omega], by omega, HKz, hg9, hv' ▸ ((HO12.out.upd ((Upd.refl rb _).setAt 0 _) (by omega)).upd ((Upd.refl rb _).setAt 1 _) (by omega)).upd ((Upd.refl rb _).setAt 2 _) (by omega), by omega, (((HT12.out.box hbl (by omega) (by omega) 0 _).box hbl (by omega) (by omega) 1 _).box hbl (by omega) (by omega) 2 _).1, (((HT12.out.box hbl (by omega) (by omega) 0 _).box hbl (by omega) (by omega) 1 _).box hbl (by omega) (by omega) 2 _).2.1⟩, by simp [intOf]; omega⟩
          · have ec : (c3 == 0) = false := by simp [hc]
            go_wp2
            have hX := ((HT12.out.box hbl (rb := rb) (by omega) (by omega) 0 (.int .i64 c3)).box hbl (rb := rb) (by omega) (by omega) 1 (.string t3)).box hbl (rb := rb) (by omega) (by omega) 2 (.slice ad3 rs3.length cap3)
            exact ⟨⟨g, off, cap, k - 1, (a5 + 4), zs, rfl, by rw [show ((k - 1 : Nat) : Int) = (k : Int) - 1 from by omega], by omega, HK, hgw, hX.2.2.1, by omega, hX.1, hX.2.1⟩, by simp [intOf]; omega⟩
        · have e1 : (r6 == 1) = false := by simp [h7]
          by_cases hc : c = 0
          · subst hc
            have HKz : Hid (Tre.Kept rs) := HK9.out rfl
            clear HK9
            go_wp2
            obtain ⟨off', cap2, hv'⟩ := HO10.out.at HKz.out.pos
            exact ⟨⟨g', off', cap2, k - 1, a5 + 4, rs, hv', by rw [show ((k - 1 : Nat) : Int) = (k : Int) - 1 from by omega], by omega, HKz, hg9, hv' ▸ HO10, by omega, HT10.out.1, HT10.out.2.1⟩, by simp [intOf]; omega⟩
          · have ec : (c == 0) = false := by simp [hc]
            go_wp2
            exact ⟨⟨g, off, cap, k - 1, a5 + 4, zs, rfl, by rw [show ((k - 1 : Nat) : Int) = (k : Int) - 1 from by omega], by omega, HK, hgw, HT10.out.2.2.1, by omega, HT10.out.1, HT10.out.2.1⟩, by simp [intOf]; omega⟩
    · go_wp2
      go_ret
      exact ⟨g, off, cap, a', zs, rfl, HK.out, hgw, HO.out, by omega, HS4.out, HU4.out⟩
end Go.Proofs.YtjlmkjcahnnjpaaGreatDoor

/- draws of trees: l2Bent. -/
namespace Go.Proofs.YtjlmkjcahnnjpaaGreatDoor
open Go.RowKit
/-- A tree that is not empty, nor too great. -/
def Few (zs : List Zn) : Prop := 0 < zs.length ∧ zs.length ≤ 21
theorem Upd.above {w wr : World} {b rb : Nat} (h : Upd b w wr) (hb : b < w.heap.size) (h1 : w.heap.size ≤ rb) (o : Nat) (u : Value) : Upd b w (wr.setCell ⟨rb, o, none⟩ u) := by
  have hu : Upd rb wr (wr.setCell ⟨rb, o, none⟩ u) := (Upd.refl _ _).setAt o u
  refine ⟨Below.trans h.1 (Below.mono hu.1 (by omega)), Nat.le_trans h.2.1 hu.2.1, fun c o' hc hl => ?_⟩
  have e1 := hu.at_ne c o' (by omega) (Nat.lt_of_lt_of_le hl h.2.1)
  have e2 := h.2.2 c o' hc hl
  exact ⟨e1.1.trans e2.1, e1.2.trans e2.2⟩
theorem bent_store {w wr : World} {b a a0 k g off cap i : Nat} {cv : Value} {zs : List Zn} {z : Zn} (h : St w b a cv (.slice (some ⟨g, off, none⟩) zs.length cap) g zs wr) (hb : b < w.heap.size) (hg : w.heap.size ≤ g) (hz : zs[i]? = some z) (hl : zs.length ≤ 20) (ha : a ≤ a0 + k) (r : Nat) (hr : r < 5) (u : Value) (z' : Zn) (hz' : zcells z' = (zcells z).set r u) :
    DrawnT Few b a0 k cv w (.returned (.slice (some ⟨g, off, none⟩) zs.length cap)) (wr.setCell ⟨g, off + i * 5 + r, none⟩ u) := by
  have hu : Upd g wr (wr.setCell ⟨g, off + i * 5 + r, none⟩ u) := (Upd.refl _ _).setAt _ u
  have hi := (List.getElem?_eq_some_iff.1 hz).1
  refine ⟨g, off, cap, a, zs.set i z', by rw [List.length_set], ⟨by rw [List.length_set]; omega, by rw [List.length_set]; omega⟩, hg, ?_, ha, h.1.kept (Below.mono hu.1 (by omega)), h.2.1.above hb hg _ _⟩
  rw [List.length_set]
  exact h.2.2.1.field hz r hr u z' hz'
theorem nums2 (w : World) (x y : Int) (t : TypeId) : NumsAt (w.alloc (.cells #[.int .i64 x, .int .i64 y] t)) w.heap.size 0 [x, y] := by
  intro i u hu
  match i, hu with
  | 0, hu => cases hu; simp
  | 1, hu => cases hu; simp
theorem Own.room {w : World} {g off cap : Nat} {zs : List Zn} (h : Own w (.slice (some ⟨g, off, none⟩) zs.length cap) g zs) (hp : 0 < zs.length) : Room w g off zs.length ∧ zs.length ≤ cap ∧ cap ≤ maxLen := by
  obtain ⟨a, cap', he, h2, h3, h4⟩ := h
  obtain ⟨off', ha, hR, -⟩ := h4 hp
  injection he with e1 _ e3
  subst e3
  rw [← e1] at ha
  injection ha with ha
  injection ha with _ ha _
  subst ha
  exact ⟨hR, h2, h3⟩
def z0 : Zn := ⟨⟨#[]⟩, 0, 0, 0, 0⟩
theorem made21 : (madeCells #[.string ⟨#[]⟩, .int .i64 0, .int .i64 0, .int .i64 0, .int .i64 0] 105).toList = cellsZ (List.replicate 21 z0) := by kernel_rfl

set_option maxHeartbeats 4000000 in
set_option maxRecDepth 100000 in
theorem l2Bent_any (b a : Nat) (cv : Value) (w : World) (h : SrcAt w b a cv) (ha : a ≤ 600) :
    Calls Tryz.prog 12 #[.pointer (some ⟨b, 0, none⟩)] w (DrawnT Few b a 109 cv w) := by
  have hi9 : (Tryz.prog.info? 33).map (fun i => (i.zero, i.size, i.bytes)) = some (some (.agg #[.string ⟨#[]⟩, .int .i64 0, .int .i64 0, .int .i64 0, .int .i64 0]), 5, 48) := by kernel_rfl
  obtain ⟨i0, hi, hx⟩ := Option.map_eq_some_iff.1 hi9
  simp only [Prod.mk.injEq] at hx
  obtain ⟨hz0, hz1, hz2⟩ := hx
  clear hi9
  have hbl : b < w.heap.size := h.2.2.2.1
  have HS : Hid (SrcAt w b a cv) := h
  clear h
  go_enter Tryz.func12, Tryz.ntmps12
  go_wp2_with fail
  refine (l2Right_any b a cv _ (by exact HS.out) (by omega)).mono ?_
  rintro e w1 ⟨g, off, cap, a1, zs, rfl, hK, hgw, hO, ha1, hS1, hU1⟩
  have hpos := hK.pos
  have hl20 := hK.1
  have HT1 : Hid (St w b a1 cv (.slice (some ⟨g, off, none⟩) zs.length cap) g zs w1) := ⟨hS1, hU1, hO, by omega⟩
  clear hK hO hS1 hU1
  go_wp2_with fail
  refine (next_any b a1 cv zs.length _ (by exact HT1.out.1) (by omega) (by omega) (by omega)).mono ?_
  rintro e w2 ⟨ri, q2, rfl, hi0, hi1, hw⟩
  obtain ⟨i, rfl⟩ := Int.eq_ofNat_of_zero_le hi0
  have hil : i < zs.length := by omega
  have HT2 : Hid (St w b (a1 + 1) cv (.slice (some ⟨g, off, none⟩) zs.length cap) g zs w2) := by rw [hw]; exact HT1.out.place _ _
  clear hw HT1
  go_wp2_with fail
  refine (next_any b (a1 + 1) cv 14 _ (by exact HT2.out.1) (by omega) (by omega) (by omega)).mono ?_
  rintro e w3 ⟨r, q3, rfl, hr0, hr1, hw⟩
  have HT3 : Hid (St w b (a1 + 2) cv (.slice (some ⟨g, off, none⟩) zs.length cap) g zs w3) := by rw [hw]; exact HT2.out.place _ _
  clear hw HT2
  obtain ⟨z, hzi⟩ : ∃ z, zs[i]? = some z := ⟨_, List.getElem?_eq_getElem hil⟩
  have HZ : Hid (zs[i]? = some z) := hzi
  clear hzi
  by_cases h0 : r = 0
  · subst h0
    go_wp2_with fail
    refine (bent_any b (a1 + 2) cv _ (by exact HT3.out.1) (by omega)).mono ?_
    rintro e w4 ⟨t, a4, rfl, -, ha4, hS4, hU4⟩
    have HT4 : Hid (St w b a4 cv (.slice (some ⟨g, off, none⟩) zs.length cap) g zs w4) := HT3.out.upd hS4 hU4
    clear hS4 hU4 HT3
    obtain ⟨hR9, hlc9, hcm9⟩ := HT4.out.2.2.1.room hpos
    obtain ⟨⟨y1, r1⟩, s1⟩ := hR9.2 (i * 5 + 0) (by omega)
    rw [← Nat.add_assoc] at r1 s1
    unfold maxLen at hcm9
    clear hR9
    simp only [Nat.add_zero] at r1 s1
    go_wp2
    go_ret
    exact bent_store HT4.out hbl hgw HZ.out hl20 (by omega) 0 (by omega) (.string t) { z with path := t } rfl
  have e0 : (r == 0) = false := by simp [h0]
  by_cases h1 : r = 1
  · subst h1
    go_wp2_with fail
    have hl3 : b < w3.heap.size := HT3.out.1.lt
    refine (pick_any b (a1 + 2) w3.heap.size 0 2 cv [-1, 10000] _ (by exact (HT3.out.alloc _).1) (by omega) (nums2 _ _ _ _) (by simp) (by simp) (by omega)).mono ?_
    rintro e w4 ⟨x, q4, rfl, hw⟩
    have HT4 : Hid (St w b (a1 + 3) cv (.slice (some ⟨g, off, none⟩) zs.length cap) g zs w4) := by rw [hw]; exact (HT3.out.alloc _).place _ _
    clear hw HT3
    obtain ⟨hR9, hlc9, hcm9⟩ := HT4.out.2.2.1.room hpos
    obtain ⟨⟨y1, r1⟩, s1⟩ := hR9.2 (i * 5 + 1) (by omega)
    rw [← Nat.add_assoc] at r1 s1
    unfold maxLen at hcm9
    clear hR9
    go_wp2
    go_ret
    exact bent_store HT4.out hbl hgw HZ.out hl20 (by omega) 1 (by omega) (.int .i64 x) { z with data := x } rfl
  have e1 : (r == 1) = false := by simp [h1]
  by_cases h2 : r = 2
  · subst h2
    go_wp2_with fail
    have hl3 : b < w3.heap.size := HT3.out.1.lt
    refine (pick_any b (a1 + 2) w3.heap.size 0 3 cv [-1, 999, 1000] _ (by exact (HT3.out.alloc _).1) (by omega) (nums3 _ _ _ _ _) (by simp) (by simp) (by omega)).mono ?_
    rintro e w4 ⟨x, q4, rfl, hw⟩
    have HT4 : Hid (St w b (a1 + 3) cv (.slice (some ⟨g, off, none⟩) zs.length cap) g zs w4) := by rw [hw]; exact (HT3.out.alloc _).place _ _
    clear hw HT3
    obtain ⟨hR9, hlc9, hcm9⟩ := HT4.out.2.2.1.room hpos
    obtain ⟨⟨y1, r1⟩, s1⟩ := hR9.2 (i * 5 + 2) (by omega)
    rw [← Nat.add_assoc] at r1 s1
    unfold maxLen at hcm9
    clear hR9
    go_wp2
    go_ret
    exact bent_store HT4.out hbl hgw HZ.out hl20 (by omega) 2 (by omega) (.int .i64 x) { z with version := x } rfl
  have e2 : (r == 2) = false := by simp [h2]
  by_cases h3 : r = 3
  · subst h3
    go_wp2_with fail
    have hl3 : b < w3.heap.size := HT3.out.1.lt
    refine (pick_any b (a1 + 2) w3.heap.size 0 2 cv [3, 10] _ (by exact (HT3.out.alloc _).1) (by omega) (nums2 _ _ _ _) (by simp) (by simp) (by omega)).mono ?_
    rintro e w4 ⟨x, q4, rfl, hw⟩
    have HT4 : Hid (St w b (a1 + 3) cv (.slice (some ⟨g, off, none⟩) zs.length cap) g zs w4) := by rw [hw]; exact (HT3.out.alloc _).place _ _
    clear hw HT3
    obtain ⟨hR9, hlc9, hcm9⟩ := HT4.out.2.2.1.room hpos
    obtain ⟨⟨y1, r1⟩, s1⟩ := hR9.2 (i * 5 + 3) (by omega)
    rw [← Nat.add_assoc] at r1 s1
    unfold maxLen at hcm9
    clear hR9
    go_wp2
    go_ret
    exact bent_store HT4.out hbl hgw HZ.out hl20 (by omega) 3 (by omega) (.int .i64 x) { z with owner := x } rfl
  have e3 : (r == 3) = false := by simp [h3]
  by_cases h4 : r = 4
  · subst h4
    go_wp2_with fail
    have hl3 : b < w3.heap.size := HT3.out.1.lt
    refine (pick_any b (a1 + 2) w3.heap.size 0 2 cv [100, 101] _ (by exact (HT3.out.alloc _).1) (by omega) (nums2 _ _ _ _) (by simp) (by simp) (by omega)).mono ?_
    rintro e w4 ⟨x, q4, rfl, hw⟩
    have HT4 : Hid (St w b (a1 + 3) cv (.slice (some ⟨g, off, none⟩) zs.length cap) g zs w4) := by rw [hw]; exact (HT3.out.alloc _).place _ _
    clear hw HT3
    obtain ⟨hR9, hlc9, hcm9⟩ := HT4.out.2.2.1.room hpos
    obtain ⟨⟨y1, r1⟩, s1⟩ := hR9.2 (i * 5 + 4) (by omega)
    rw [← Nat.add_assoc] at r1 s1
    unfold maxLen at hcm9
    clear hR9
    go_wp2
    go_ret
    exact bent_store HT4.out hbl hgw HZ.out hl20 (by omega) 4 (by omega) (.int .i64 x) { z with next := x } rfl
  have e4 : (r == 4) = false := by simp [h4]
  by_cases h5 : r = 5
  · subst h5
    have hmk : ∀ W : World, (Instr.makeSlice 24 (.int .i64 21) (.int .i64 21)).run Tryz.prog W = .ok (.slice (some ⟨W.heap.size, 0, none⟩) 21 21) (W.alloc (.cells (madeCells #[.string ⟨#[]⟩, .int .i64 0, .int .i64 0, .int .i64 0, .int .i64 0] 105) 33)) := fun W => by
      have h := run_make (P := Tryz.prog) W 24 33 i0 _ Tryz.underlying24 hi hz0 .i64 .i64 21 21 (by omega) (by omega) (by rw [hz2]; omega) (by omega)
      rw [hz1] at h
      exact h
    have HM : Hid ((madeCells #[.string ⟨#[]⟩, .int .i64 0, .int .i64 0, .int .i64 0, .int .i64 0] 105).toList = cellsZ (List.replicate 21 z0)) := made21
    generalize madeCells #[.string ⟨#[]⟩, .int .i64 0, .int .i64 0, .int .i64 0, .int .i64 0] 105 = M at hmk HM
    go_wp2
    go_ret
    obtain ⟨g9, hg9, hO9⟩ := own_lit w3 (List.replicate 21 z0) M 33 HM.out (by unfold maxLen; simp)
    obtain ⟨off9, cap9, he9⟩ := hO9.at (by simp)
    injection he9 with e91 _ _
    injection e91 with e91
    injection e91 with e91 _ _
    subst e91
    exact ⟨w3.heap.size, 0, 21, a1 + 2, List.replicate 21 z0, by simp, ⟨by simp, by simp⟩, HT3.out.2.1.2.1, hO9, by omega, (HT3.out.alloc _).1, (HT3.out.alloc _).2.1⟩
  have e5 : (r == 5) = false := by simp [h5]
  go_wp2
  go_ret
  exact ⟨g, off, cap, a1 + 2, zs, rfl, ⟨hpos, by omega⟩, hgw, HT3.out.2.2.1, by omega, HT3.out.1, HT3.out.2.1⟩
end Go.Proofs.YtjlmkjcahnnjpaaGreatDoor

/- draws of what is dropped: DrawDropOwned. -/
namespace Go.Proofs.YtjlmkjcahnnjpaaGreatDoor
open Go.RowKit

/-- A tree with numbers. -/
def DrawnO (w : World) (e : Ending) (w' : World) : Prop :=
  ∃ (g off cap : Nat) (zs : List Zn) (gi oi ci : Nat) (ids : List Int), e = .returned (.tuple #[.slice (some ⟨g, off, none⟩) zs.length cap, .slice (some ⟨gi, oi, none⟩) ids.length ci]) ∧ Few zs ∧ ids.length ≤ 10 ∧ Own w' (.slice (some ⟨g, off, none⟩) zs.length cap) g zs ∧ ISlice w' (.slice (some ⟨gi, oi, none⟩) ids.length ci) ids ∧ Ext w w'
theorem Own.kept {w w' : World} {v : Value} {g B : Nat} {zs : List Zn} (h : Own w v g zs) (he : Below B w w') (hg : g < B) : Own w' v g zs := by
  obtain ⟨a, cap, h1, h2, h3, h4⟩ := h
  refine ⟨a, cap, h1, h2, h3, fun h0 => ?_⟩
  obtain ⟨off, e, hr, hN⟩ := h4 h0
  refine ⟨off, e, ⟨Nat.lt_of_lt_of_le hr.1 (Below.size he), fun j hj => ⟨?_, ?_⟩⟩, fun i z hz => ?_⟩
  · rw [Below.cell he (p := ⟨g, off + j, none⟩) hg]; exact (hr.2 j hj).1
  · rw [Below.frozen he (p := ⟨g, off + j, none⟩) hg]; exact (hr.2 j hj).2
  · obtain ⟨c0, c1, c2, c3, c4⟩ := hN i z hz
    exact ⟨(Below.cell he (p := ⟨g, off + i * 5, none⟩) hg).trans c0, (Below.cell he (p := ⟨g, off + i * 5 + 1, none⟩) hg).trans c1, (Below.cell he (p := ⟨g, off + i * 5 + 2, none⟩) hg).trans c2, (Below.cell he (p := ⟨g, off + i * 5 + 3, none⟩) hg).trans c3, (Below.cell he (p := ⟨g, off + i * 5 + 4, none⟩) hg).trans c4⟩
/-- Under way: the source, the nodes, nothing of w turned. -/
def OSt (w : World) (b a B : Nat) (cv v : Value) (g : Nat) (zs : List Zn) (wr : World) : Prop := SrcAt wr b a cv ∧ Ext w wr ∧ Own wr v g zs ∧ B ≤ wr.heap.size
theorem OSt.place {w : World} {b a B g : Nat} {cv v : Value} {zs : List Zn} {wr : World} (h : OSt w b a B cv v g zs wr) (hb : w.heap.size ≤ b) (hg : g ≠ b) (a' q : Nat) : OSt w b a' B cv v g zs ((wr.setCell ⟨b, 1, none⟩ (.int .i64 (a' : Int))).drewN q) :=
  ⟨h.1.place _ _, (Upd.place _ _ _).to_ext h.2.1 hb, h.2.2.1.upd (Upd.place _ _ _) hg, by simpa using h.2.2.2⟩
theorem OSt.below {w : World} {b a B g : Nat} {cv v : Value} {zs : List Zn} {wr w' : World} (h : OSt w b a B cv v g zs wr) (he : Below B wr w') (hb : b < B) (hw : w.heap.size ≤ B) (hg : g < B) : OSt w b a B cv v g zs w' :=
  ⟨h.1.kept (Below.mono he hb), Below.trans h.2.1 (Below.mono he hw), h.2.2.1.kept he hg, Nat.le_trans h.2.2.2 (Below.size he)⟩

theorem owns_form {w' : World} {base : Nat} {v : Value} {l : List Int} (h : w'.ownsRow base 2 1 v l.length (l.map (Value.int .i64))) (hv : v ≠ .slice none 0 0) : ∃ gi oi ci, v = .slice (some ⟨gi, oi, none⟩) l.length ci := by
  rcases h.2 with ⟨hn, _⟩ | ⟨g, cap, cur, rfl, _⟩
  · exact absurd hn hv
  · exact ⟨g, 0, cap, rfl⟩
set_option maxHeartbeats 4000000 in
set_option maxRecDepth 100000 in
theorem drawDropOwned_any (cv : Value) (w : World) (hc : CodeOk w w.heap.size cv) :
    Calls Tryz.prog 5 #[cv] w (DrawnO w) := by
  have hi9 : (Tryz.prog.info? 2).map (fun i => (i.zero, i.size, i.bytes)) = some (some (.int .i64 0), 1, 8) := by kernel_rfl
  obtain ⟨i0, hi, hx⟩ := Option.map_eq_some_iff.1 hi9
  simp only [Prod.mk.injEq] at hx
  obtain ⟨hz0, hz1, hz2⟩ := hx
  clear hi9
  have hc' := hc
  obtain ⟨ad, len, cap0, rfl, hl, -⟩ := hc'
  have HC : Hid (CodeOk w w.heap.size (.slice ad len cap0)) := hc
  clear hc
  go_enter Tryz.func5, Tryz.ntmps5
  go_wp2_with fail
  refine (source_any _ _ ad len cap0 rfl).mono ?_
  rintro e w1 ⟨rfl, hw⟩
  have HS1 : Hid (SrcAt w1 w.heap.size 0 (.slice ad len cap0)) := by rw [hw]; exact src_new HC.out
  have HE1 : Hid (Ext w w1) := by rw [hw]; exact (Ext.refl _).alloc _
  have hz : w1.heap.size = w.heap.size + 1 := by rw [hw]; simp
  clear hw
  go_wp2_with fail
  refine (l2Bent_any w.heap.size 0 (.slice ad len cap0) _ (by exact HS1.out) (by omega)).mono ?_
  rintro e w2 ⟨g, off, cap, a2, zs, rfl, hF, hg, hO, ha2, hS2, hU2⟩
  have hgl := hO.lt hF.1
  have HF : Hid (Few zs) := hF
  have hgw : w.heap.size < g := by omega
  have hbw : w.heap.size < w2.heap.size := hS2.lt
  have HT2 : Hid (OSt w w.heap.size a2 w2.heap.size (.slice ad len cap0) (.slice (some ⟨g, off, none⟩) zs.length cap) g zs w2) := ⟨hS2, hU2.to_ext HE1.out (Nat.le_refl _), hO, Nat.le_refl _⟩
  clear hF hg hO hS2 hU2 HS1 HE1 hz
  have HT3 : Hid (OSt w w.heap.size a2 w2.heap.size (.slice ad len cap0) (.slice (some ⟨g, off, none⟩) zs.length cap) g zs (w2.alloc (.cells #[] 2))) := HT2.out.below ((Below.refl _ _).alloc (Nat.le_refl _) _) hbw (by omega) hgl
  have HO3 : Hid ((w2.alloc (.cells #[] 2)).ownsRow w2.heap.size 2 1 (.slice (some ⟨w2.heap.size, 0, none⟩) 0 0) 0 []) := World.ownsRow_made (base := w2.heap.size) (e := 2) (size := 1) w2 #[] 0 (by omega) (by unfold maxLen; omega) rfl
  generalize hB : w2.heap.size = B at *
  go_wp2_with fail
  refine (next_any w.heap.size a2 (.slice ad len cap0) 3 _ (by exact HT3.out.1) (by omega) (by omega) (by omega)).mono ?_
  rintro e w3 ⟨r, q, rfl, hr0, hr1, hw⟩
  obtain ⟨k0, rfl⟩ := Int.eq_ofNat_of_zero_le hr0
  have HT4 : Hid (OSt w w.heap.size (a2 + 1) B (.slice ad len cap0) (.slice (some ⟨g, off, none⟩) zs.length cap) g zs w3) := by rw [hw]; exact HT3.out.place (Nat.le_refl _) (by omega) _ _
  have HO4 : Hid (w3.ownsRow B 2 1 (.slice (some ⟨B, 0, none⟩) 0 0) 0 []) := by rw [hw]; exact owns_place HO3.out (by omega) _ _
  clear hw HT3 HO3 HT2
  go_wp2
  go_loopw [6, 7] (fun ov kv wr => ∃ (k a' : Nat) (l : List Int), kv = .int .i64 k ∧ k ≤ 2 ∧ l.length + k ≤ 2 ∧ a' + k ≤ a2 + 3 ∧ Hid (wr.ownsRow B 2 1 ov l.length (l.map (Value.int .i64)) ∧ ov ≠ .slice none 0 0) ∧ Hid (OSt w w.heap.size a' B (.slice ad len cap0) (.slice (some ⟨g, off, none⟩) zs.length cap) g zs wr)) (fun _ kv _ => (intOf kv).toNat)
  case atStart => exact ⟨k0, a2 + 1, [], rfl, by omega, by simp; omega, by omega, ⟨HO4.out, by simp⟩, HT4.out⟩
  case round =>
    obtain ⟨k, a', l, rfl, hk8, hlk, hak, HO, HT⟩ := hrel
    by_cases hk : 0 < k
    · go_wp2_with fail
      refine (next_any w.heap.size a' (.slice ad len cap0) 4 _ (by exact HT.out.1) (by omega) (by omega) (by omega)).mono ?_
      rintro e w4 ⟨x, q, rfl, hx0, hx1, hw⟩
      have HT5 : Hid (OSt w w.heap.size (a' + 1) B (.slice ad len cap0) (.slice (some ⟨g, off, none⟩) zs.length cap) g zs w4) := by rw [hw]; exact HT.out.place (Nat.le_refl _) (by omega) _ _
      have HO5 : Hid (w4.ownsRow B 2 1 u6 l.length (l.map (Value.int .i64)) ∧ u6 ≠ .slice none 0 0) := by rw [hw]; exact ⟨owns_place HO.out.1 (by omega) _ _, HO.out.2⟩
      clear hw hx0 hx1
      go_wp2_with (at_builtin; go_must (refine wpList_append_own _ rfl _ _ 25 rfl B 2 i0 (.int .i64 0) 1 8 Tryz.underlying25 hi hz0 hz1 hz2 rfl (by decide) _ _ _ rfl (HO5.out.1.alloc _) ⟨w4.heap.size, 0, none⟩ 1 1 [.int .i64 x] rfl rfl (cell_one_new _ _ _) (fun x hx => by simp at hx; subst hx; rfl) (by unfold maxLen; omega) (by omega) (by have := HT5.out.2.2.2; simp; omega) ?_; intro v' w5 hown' hgrow hnil))
      have hBel : Below B w4 w5 := (((Below.refl _ _).alloc HT5.out.2.2.2 _).grown hgrow (by simp; have := HT5.out.2.2.2; omega) (fun q hq => (HO5.out.1.lt q hq).1))
      refine ⟨⟨k - 1, a' + 1, l ++ [x], by rw [show ((k - 1 : Nat) : Int) = (k : Int) - 1 from by omega], by omega, by simp; omega, by omega, ⟨?_, ?_⟩, HT5.out.below hBel hbw (by omega) hgl⟩, by simp [intOf]; omega⟩
      · rw [List.map_append, List.length_append]
        exact hown'
      · intro h
        exact HO5.out.2 (hnil.1 h).1
    · have hk0 : k = 0 := by omega
      subst hk0
      go_wp2_with fail
      refine (chance_any w.heap.size a' (.slice ad len cap0) 14 _ (by exact HT.out.1) (by omega) (by omega) (by omega)).mono ?_
      rintro e w4 ⟨c, q, rfl, hw⟩
      have HT5 : Hid (OSt w w.heap.size (a' + 1) B (.slice ad len cap0) (.slice (some ⟨g, off, none⟩) zs.length cap) g zs w4) := by rw [hw]; exact HT.out.place (Nat.le_refl _) (by omega) _ _
      have HO5 : Hid (w4.ownsRow B 2 1 u6 l.length (l.map (Value.int .i64)) ∧ u6 ≠ .slice none 0 0) := by rw [hw]; exact ⟨owns_place HO.out.1 (by omega) _ _, HO.out.2⟩
      clear hw
      cases c
      · obtain ⟨gi, oi, ci, rfl⟩ : ∃ gi oi ci, u6 = .slice (some ⟨gi, oi, none⟩) l.length ci := owns_form HO5.out.1 HO5.out.2
        have HI : Hid (ISlice w4 (.slice (some ⟨gi, oi, none⟩) l.length ci) l) := nums_of_owns HO5.out.1
        go_wp2
        exact bodyPost_ret (v := .tuple #[.slice (some ⟨g, off, none⟩) zs.length cap, .slice (some ⟨gi, oi, none⟩) l.length ci]) (by simp [results, Tryz.results5, go_sem]) rfl ⟨g, off, cap, zs, gi, oi, ci, l, rfl, HF.out, by omega, HT5.out.2.2.1, HI.out, HT5.out.2.1⟩
      · have hmk : ∀ W : World, (Instr.makeSlice 25 (.int .i64 10) (.int .i64 10)).run Tryz.prog W = .ok (.slice (some ⟨W.heap.size, 0, none⟩) 10 10) (W.alloc (.cells (madeCells #[.int .i64 0] 10) 2)) := fun W => by
          have h := run_make (P := Tryz.prog) W 25 2 i0 _ Tryz.underlying25 hi hz0 .i64 .i64 10 10 (by omega) (by omega) (by rw [hz2]; omega) (by omega)
          rw [hz1] at h
          exact h
        generalize hM : madeCells #[.int .i64 0] 10 = M at hmk
        go_wp2
        refine bodyPost_ret (v := .tuple #[.slice (some ⟨g, off, none⟩) zs.length cap, .slice (some ⟨w4.heap.size, 0, none⟩) 10 10]) (by simp [results, Tryz.results5, go_sem]) rfl ⟨g, off, cap, zs, w4.heap.size, 0, 10, List.replicate 10 0, by simp, HF.out, by simp, HT5.out.2.2.1.ext ((Ext.refl _).alloc _), ?_, HT5.out.2.1.alloc _⟩
        refine ⟨_, 10, by simp, by simp, by unfold maxLen; omega, fun _ => ⟨w4.heap.size, 0, rfl, by simp, fun j x hj => ?_⟩⟩
        rw [List.getElem?_replicate] at hj
        split at hj
        · rename_i hj2
          cases hj
          have hMj : M[j]? = some (.int .i64 0) := by
            rw [← hM, ← Array.getElem?_toList, toList_madeCells_one, List.getElem?_replicate, if_pos hj2]
          rw [Nat.zero_add, World.cell?_alloc_at _ _ _ _ rfl]
          exact hMj
        · cases hj
end Go.Proofs.YtjlmkjcahnnjpaaGreatDoor

/- who owns: slices.Contains over numbers, the closure of DropOwned, slices.IndexFunc. -/
namespace Go.Proofs.YtjlmkjcahnnjpaaGreatDoor
open Go.RowKit

def hasI (l : List Int) (x : Int) : Bool := l.any fun y => x == y
def goneB (ids : List Int) (z : Zn) : Bool := (z.owner != 0) && hasI ids z.owner
def dropL (ids : List Int) (zs : List Zn) : List Zn := zs.filter fun z => !goneB ids z
/-- The first place of x behind k, or -1. -/
def idxI (x : Int) : Nat → List Int → Int
  | _, [] => -1
  | k, y :: r => if x = y then (k : Int) else idxI x (k + 1) r
theorem idxI_at {l : List Int} {k : Nat} {y : Int} (x : Int) (h : l[k]? = some y) : idxI x k (l.drop k) = if x = y then (k : Int) else idxI x (k + 1) (l.drop (k + 1)) := by
  obtain ⟨hk, rfl⟩ := List.getElem?_eq_some_iff.1 h
  rw [List.drop_eq_getElem_cons hk, idxI]
theorem idxI_has (x : Int) : ∀ (l : List Int) (k : Nat), decide (0 ≤ idxI x k l) = hasI l x
  | [], k => rfl
  | y :: r, k => by
    rw [idxI]
    unfold hasI
    rw [List.any_cons]
    by_cases h : x = y
    · rw [if_pos h, show (x == y) = true from by simp [h], Bool.true_or]
      simp
    · rw [if_neg h, show (x == y) = false from by simp [h], Bool.false_or]
      exact idxI_has x r (k + 1)
set_option maxHeartbeats 1000000 in
set_option maxRecDepth 100000 in
theorem indexI_any (v : Value) (l : List Int) (x : Int) (w : World) (hS : ISlice w v l) :
    Calls Tryz.prog 32 #[v, .int .i64 x] w fun e w' => e = .returned (.int .i64 (idxI x 0 l)) ∧ Ext w w' := by
  obtain ⟨a, cap, rfl, hlc, hcm, hx⟩ := hS
  have HX : Hid (0 < l.length → ∃ b off, a = some ⟨b, off, none⟩ ∧ b < w.heap.size ∧ NumsAt w b off l) := hx
  clear hx
  unfold maxLen at hcm
  go_enter Tryz.func32, Tryz.ntmps32
  go_wp2
  go_loopw [8] (fun i wr => ∃ (k : Nat), k ≤ l.length ∧ i = .int .i64 k ∧ Hid (idxI x k (l.drop k) = idxI x 0 l) ∧ Hid (Ext w wr)) (fun i _ => l.length - (intOf i).toNat)
  case atStart => exact ⟨0, Nat.zero_le _, rfl, rfl, Ext.refl _⟩
  case round =>
    obtain ⟨k, hk, rfl, HA, HE⟩ := hrel
    by_cases hlt : k < l.length
    · obtain ⟨y, hyk⟩ : ∃ y, l[k]? = some y := ⟨_, List.getElem?_eq_getElem hlt⟩
      obtain ⟨b, off, rfl, hb, hN⟩ := HX.out (by omega)
      have d0 := hN.ext hb HE.out k y hyk
      have hat := idxI_at x hyk
      by_cases he : x = y
      · have HR : Hid (idxI x 0 l = k) := by show _ = _; rw [← HA.out, hat, if_pos he]
        clear hat hN hyk
        go_wp2
        go_ret
        exact ⟨ret_int HR.out.symm, HE.out⟩
      · have HA2 : Hid (idxI x (k + 1) (l.drop (k + 1)) = idxI x 0 l) := by show _ = _; rw [← HA.out, hat, if_neg he]
        clear hat hN hyk
        go_wp2
        exact ⟨⟨k + 1, by omega, by go_num, HA2, HE⟩, by simp [intOf]; omega⟩
    · have HR : Hid (idxI x 0 l = -1) := by show _ = _; rw [← HA.out, List.drop_of_length_le (by omega), idxI]
      go_wp2
      go_ret
      exact ⟨ret_int HR.out.symm, HE.out⟩
set_option maxHeartbeats 1000000 in
theorem containsI_any (v : Value) (l : List Int) (x : Int) (w : World) (hS : ISlice w v l) :
    Calls Tryz.prog 18 #[v, .int .i64 x] w fun e w' => e = .returned (.bool (hasI l x)) ∧ Ext w w' := by
  have H : Hid (Calls Tryz.prog 32 #[v, .int .i64 x] w fun e w' => e = .returned (.int .i64 (idxI x 0 l)) ∧ Ext w w') := indexI_any v l x w hS
  obtain ⟨a, cap, rfl, -⟩ := hS
  rw [← idxI_has x l 0]
  generalize idxI x 0 l = r at *
  go_enter Tryz.func18, Tryz.ntmps18
  go_wp2_with fail
  refine H.out.mono ?_
  rintro e w2 ⟨rfl, hb⟩
  have HB : Hid (Ext w w2) := hb
  clear hb
  go_wp2
  go_ret
  exact ⟨rfl, HB.out⟩

/-- The ids as the closure holds them: block B holds their slice. -/
def IdsAt (w : World) (B : Nat) (iv : Value) (ids : List Int) : Prop := w.cell? ⟨B, 0, none⟩ = some iv ∧ ISlice w iv ids
theorem IdsAt.ext {w w' : World} {B : Nat} {iv : Value} {ids : List Int} (h : IdsAt w B iv ids) (he : Ext w w') : IdsAt w' B iv ids :=
  ⟨((Ext.cell he).1 _ _ (World.block_lt_of_cell? w _ h.1)).trans h.1, h.2.ext he⟩
set_option maxHeartbeats 1000000 in
set_option maxRecDepth 100000 in
theorem drop1_any (B : Nat) (iv : Value) (ids : List Int) (z : Zn) (w : World) (h : IdsAt w B iv ids) :
    Calls Tryz.prog 17 #[zagg z, .pointer (some ⟨B, 0, none⟩)] w fun e w' => e = .returned (.bool (goneB ids z)) ∧ Ext w w' := by
  have HI : Hid (IdsAt w B iv ids) := h
  obtain ⟨hc, hS⟩ := h
  have HC : Hid (∀ wx, Ext w wx → Calls Tryz.prog 18 #[iv, .int .i64 z.owner] wx fun e w' => e = .returned (.bool (hasI ids z.owner)) ∧ Ext wx w') := fun wx he => containsI_any iv ids z.owner wx (hS.ext he)
  obtain ⟨a, cap, rfl, -⟩ := hS
  have hBl := World.block_lt_of_cell? w _ hc
  unfold goneB
  unfold zagg
  by_cases h0 : z.owner = 0
  · rw [show (z.owner != 0) = false from by simp [h0], Bool.false_and]
    go_enter Tryz.func17, Tryz.ntmps17
    go_wp2
    go_ret
    exact ⟨rfl, (Ext.refl _).alloc _⟩
  · rw [show (z.owner != 0) = true from by simp [h0], Bool.true_and]
    have hc' : (w.alloc (.cells #[.string z.path, .int .i64 z.data, .int .i64 z.version, .int .i64 z.owner, .int .i64 z.next] 33)).cell? ⟨B, 0, none⟩ = some (.slice a ids.length cap) := ((Ext.cell ((Ext.refl w).alloc _)).1 B 0 hBl).trans hc
    generalize hasI ids z.owner = R at *
    go_enter Tryz.func17, Tryz.ntmps17
    go_wp2_with fail
    refine (HC.out _ ((Ext.refl _).alloc _)).mono ?_
    rintro e w2 ⟨rfl, hb⟩
    have HB : Hid (Ext w w2) := ((Ext.refl _).alloc _).trans hb
    clear hb
    go_wp2
    go_ret
    exact ⟨ret_bool (by simp [h0]), HB.out⟩

/-- The first one that is gone behind k, or -1. -/
def idxZ (ids : List Int) : Nat → List Zn → Int
  | _, [] => -1
  | k, z :: r => if goneB ids z = true then (k : Int) else idxZ ids (k + 1) r
theorem idxZ_at {ids : List Int} {zs : List Zn} {k : Nat} {z : Zn} (h : zs[k]? = some z) : idxZ ids k (zs.drop k) = if goneB ids z = true then (k : Int) else idxZ ids (k + 1) (zs.drop (k + 1)) := by
  obtain ⟨hk, rfl⟩ := List.getElem?_eq_some_iff.1 h
  rw [List.drop_eq_getElem_cons hk, idxZ]
theorem idxZ_is (ids : List Int) : ∀ (zs : List Zn) (k : Nat), (idxZ ids k zs = -1 ∧ dropL ids zs = zs) ∨ ∃ j, j < zs.length ∧ idxZ ids k zs = ((k + j : Nat) : Int) ∧ dropL ids (zs.take j) = zs.take j ∧ ∃ z, zs[j]? = some z ∧ goneB ids z = true
  | [], k => Or.inl ⟨rfl, rfl⟩
  | z :: r, k => by
    rw [idxZ]
    by_cases h : goneB ids z = true
    · exact Or.inr ⟨0, by simp, by rw [if_pos h]; rfl, rfl, z, rfl, h⟩
    · rw [if_neg h]
      rcases idxZ_is ids r (k + 1) with ⟨q1, q2⟩ | ⟨j, q1, q2, q3, z', q4, q5⟩
      · refine Or.inl ⟨q1, ?_⟩
        unfold dropL at q2 ⊢
        rw [List.filter_cons_of_pos (by simpa using h), q2]
      · refine Or.inr ⟨j + 1, by simp; omega, by rw [q2]; omega, ?_, z', by simpa using q4, q5⟩
        unfold dropL at q3 ⊢
        rw [List.take_succ_cons, List.filter_cons_of_pos (by simpa using h), q3]
set_option maxHeartbeats 1000000 in
set_option maxRecDepth 100000 in
theorem indexFunc_any (v : Value) (zs : List Zn) (B : Nat) (iv : Value) (ids : List Int) (w : World) (hS : NSlice w v zs) (h : IdsAt w B iv ids) :
    Calls Tryz.prog 29 #[v, .func (.func 17) #[] #[.pointer (some ⟨B, 0, none⟩)]] w fun e w' => e = .returned (.int .i64 (idxZ ids 0 zs)) ∧ Ext w w' := by
  have HI : Hid (IdsAt w B iv ids) := h
  clear h
  obtain ⟨a, cap, rfl, hlc, hcm, hx⟩ := hS
  have HX : Hid (0 < zs.length → ∃ b off, a = some ⟨b, off, none⟩ ∧ b < w.heap.size ∧ NodesAt w b off zs) := hx
  clear hx
  unfold maxLen at hcm
  go_enter Tryz.func29, Tryz.ntmps29
  go_wp2
  go_loopw [8] (fun i wr => ∃ (k : Nat), k ≤ zs.length ∧ i = .int .i64 k ∧ Hid (idxZ ids k (zs.drop k) = idxZ ids 0 zs) ∧ Hid (Ext w wr)) (fun i _ => zs.length - (intOf i).toNat)
  case atStart => exact ⟨0, Nat.zero_le _, rfl, rfl, Ext.refl _⟩
  case round =>
    obtain ⟨k, hk, rfl, HA, HE⟩ := hrel
    by_cases hlt : k < zs.length
    · obtain ⟨z, hzk⟩ : ∃ z, zs[k]? = some z := ⟨_, List.getElem?_eq_getElem hlt⟩
      obtain ⟨b, off, rfl, hb, hN⟩ := HX.out (by omega)
      obtain ⟨d0, d1, d2, d3, d4⟩ := hN.ext hb HE.out k z hzk
      have hat := idxZ_at (ids := ids) hzk
      have HC : Hid (∀ wx, Ext w wx → Calls Tryz.prog 17 #[zagg z, .pointer (some ⟨B, 0, none⟩)] wx fun e w' => e = .returned (.bool (goneB ids z)) ∧ Ext wx w') := fun wx he => drop1_any B iv ids z wx (HI.out.ext he)
      unfold zagg at HC
      cases hg : goneB ids z with
      | true =>
        rw [hg] at HC
        have HR : Hid (idxZ ids 0 zs = k) := by show _ = _; rw [← HA.out, hat, if_pos hg]
        clear hat hN hzk hg
        go_wp2_with fail
        refine (HC.out _ HE.out).mono ?_
        rintro e w2 ⟨rfl, hb2⟩
        have HB : Hid (Ext w w2) := HE.out.trans hb2
        clear hb2
        go_wp2
        go_ret
        exact ⟨ret_int HR.out.symm, HB.out⟩
      | false =>
        rw [hg] at HC
        have HA2 : Hid (idxZ ids (k + 1) (zs.drop (k + 1)) = idxZ ids 0 zs) := by show _ = _; rw [← HA.out, hat, if_neg (by simp [hg])]
        clear hat hN hzk hg
        go_wp2_with fail
        refine (HC.out _ HE.out).mono ?_
        rintro e w2 ⟨rfl, hb2⟩
        have HB : Hid (Ext w w2) := HE.out.trans hb2
        clear hb2
        go_wp2
        exact ⟨⟨k + 1, by omega, by go_num, HA2, HB⟩, by simp [intOf]; omega⟩
    · have HR : Hid (idxZ ids 0 zs = -1) := by show _ = _; rw [← HA.out, List.drop_of_length_le (by omega), idxZ]
      go_wp2
      go_ret
      exact ⟨ret_int HR.out.symm, HE.out⟩

theorem IRoom.ext {w w' : World} {g off n : Nat} (h : IRoom w g off n) (he : Ext w w') : IRoom w' g off n := by
  obtain ⟨hc, hf⟩ := Ext.cell he
  exact ⟨Nat.lt_of_lt_of_le h.1 he.size, fun j hj => ⟨by rw [hc _ _ h.1]; exact (h.2 j hj).1, by rw [hf _ _ h.1]; exact (h.2 j hj).2⟩⟩
theorem IRoom.upd {w w' : World} {g off n b : Nat} (h : IRoom w g off n) (he : Upd b w w') (hne : g ≠ b) : IRoom w' g off n :=
  ⟨Nat.lt_of_lt_of_le h.1 he.2.1, fun j hj => ⟨by rw [(he.at_ne _ _ hne h.1).1]; exact (h.2 j hj).1, by rw [(he.at_ne _ _ hne h.1).2]; exact (h.2 j hj).2⟩⟩
theorem NumsAt.upd {w w' : World} {g off b : Nat} {ts : List Int} (h : NumsAt w g off ts) (he : Upd b w w') (hne : g ≠ b) (hg : g < w.heap.size) : NumsAt w' g off ts :=
  fun i t ht => (he.at_ne _ _ hne hg).1.trans (h i t ht)
def IOwn (w : World) (v : Value) (g : Nat) (ts : List Int) : Prop :=
  ∃ a cap, v = .slice a ts.length cap ∧ ts.length ≤ cap ∧ cap ≤ maxLen ∧ (0 < ts.length → ∃ off, a = some ⟨g, off, none⟩ ∧ IRoom w g off ts.length ∧ NumsAt w g off ts)
theorem IOwn.slice {w : World} {v : Value} {g : Nat} {ts : List Int} (h : IOwn w v g ts) : ISlice w v ts := by
  obtain ⟨a, cap, h1, h2, h3, h4⟩ := h
  refine ⟨a, cap, h1, h2, h3, fun h0 => ?_⟩
  obtain ⟨off, e, hr, hN⟩ := h4 h0
  exact ⟨g, off, e, hr.1, hN⟩
theorem IOwn.ext {w w' : World} {v : Value} {g : Nat} {ts : List Int} (h : IOwn w v g ts) (he : Ext w w') : IOwn w' v g ts := by
  obtain ⟨a, cap, h1, h2, h3, h4⟩ := h
  refine ⟨a, cap, h1, h2, h3, fun h0 => ?_⟩
  obtain ⟨off, e, hr, hN⟩ := h4 h0
  exact ⟨off, e, hr.ext he, hN.ext hr.1 he⟩
theorem IOwn.lt {w : World} {v : Value} {g : Nat} {ts : List Int} (h : IOwn w v g ts) (h0 : 0 < ts.length) : g < w.heap.size := by
  obtain ⟨a, cap, -, -, -, h4⟩ := h
  obtain ⟨off, -, hr, -⟩ := h4 h0
  exact hr.1
theorem IOwn.nil {w w' : World} {v : Value} {g g' : Nat} {ts : List Int} (h : IOwn w v g ts) (h0 : ¬ 0 < ts.length) : IOwn w' v g' ts := by
  obtain ⟨a, cap, h1, h2, h3, -⟩ := h
  exact ⟨a, cap, h1, h2, h3, fun h => absurd h h0⟩
theorem IOwn.upd' {w w' : World} {v : Value} {g b : Nat} {ts : List Int} (h : IOwn w v g ts) (he : Upd b w w') (hne : 0 < ts.length → g ≠ b) : IOwn w' v g ts := by
  by_cases h0 : 0 < ts.length
  · obtain ⟨a, cap, h1, h2, h3, h4⟩ := h
    refine ⟨a, cap, h1, h2, h3, fun _ => ?_⟩
    obtain ⟨off, e, hr, hN⟩ := h4 h0
    exact ⟨off, e, hr.upd he (hne h0), hN.upd he (hne h0) hr.1⟩
  · exact h.nil h0
theorem IOwn.pick {w : World} {v : Value} {g : Nat} {ts : List Int} (h : IOwn w v g ts) : ∃ g', g' ≤ w.heap.size ∧ IOwn w v g' ts ∧ (g' = w.heap.size ∧ ¬ 0 < ts.length ∨ (g' = g ∧ g < w.heap.size ∧ 0 < ts.length)) := by
  by_cases h0 : 0 < ts.length
  · exact ⟨g, Nat.le_of_lt (h.lt h0), h, Or.inr ⟨rfl, h.lt h0, h0⟩⟩
  · exact ⟨_, Nat.le_refl _, h.nil h0, Or.inl ⟨rfl, h0⟩⟩
def imarks (k n : Nat) : List Int := (List.range n).map fun i => ((k + i : Nat) : Int)
theorem imarks_length (k n : Nat) : (imarks k n).length = n := by simp [imarks]
theorem imarks_get (k n i : Nat) (h : i < n) : (imarks k n)[i]? = some ((k + i : Nat) : Int) := by
  unfold imarks
  rw [List.getElem?_map, List.getElem?_range h]; rfl
theorem zeroCells_one (n : Nat) : ∀ u ∈ (Builtin.zeroCells (Value.agg #[.string ByteArray.empty, .int .i64 0, .int .i64 0, .int .i64 0, .int .i64 0]).cells n).toList, u.oneCell' = true := by
  intro u hu
  rw [Array.mem_toList_iff] at hu
  unfold Builtin.zeroCells at hu
  rw [Array.mem_map] at hu
  obtain ⟨i, -, rfl⟩ := hu
  have h5 : i % 5 = 0 ∨ i % 5 = 1 ∨ i % 5 = 2 ∨ i % 5 = 3 ∨ i % 5 = 4 := by omega
  have hc : (Value.agg #[.string ByteArray.empty, .int .i64 0, .int .i64 0, .int .i64 0, .int .i64 0]).cells = #[.string ByteArray.empty, .int .i64 0, .int .i64 0, .int .i64 0, .int .i64 0] := rfl
  rw [hc]
  show (#[Value.string ByteArray.empty, .int .i64 0, .int .i64 0, .int .i64 0, .int .i64 0][i % 5]!).oneCell' = true
  rcases h5 with h | h | h | h | h <;> rw [h] <;> rfl
def zcs (n : Nat) : List Value := (Builtin.zeroCells (Value.agg #[.string ByteArray.empty, .int .i64 0, .int .i64 0, .int .i64 0, .int .i64 0]).cells n).toList
theorem zcs_len (n : Nat) : (zcs n).length = n * 5 := by
  unfold zcs
  rw [Array.length_toList, size_zeroCells]; rfl
theorem clear_many (w : World) (ty : TypeId) (g o n c : Nat) (hn : 0 < n) (hs : ∀ j, j < n * 5 → (w.cell? ⟨g, o + j, none⟩).isSome = true ∧ w.frozen? ⟨g, o + j, none⟩ = false) :
    (Builtin.clear_ #[24] ty #[.slice (some ⟨g, o, none⟩) n c]).run Tryz.prog w = .ok (.tuple #[]) (w.setCells g o (zcs n)) := by
  have hz : ∀ w, (zeroValue 33).run Tryz.prog w = .ok (.agg #[.string ByteArray.empty, .int .i64 0, .int .i64 0, .int .i64 0, .int .i64 0]) w := Tryz.zeroValue33
  have hst := run_storeCells_cells (P := Tryz.prog) g o (zcs n) 0 w (by rw [zcs_len]; simpa using fun j hj => (hs j hj).1) (by rw [zcs_len]; simpa using fun j hj => (hs j hj).2) (zeroCells_one n)
  simp only [Nat.add_zero] at hst
  unfold zcs at hst ⊢
  obtain ⟨m, rfl⟩ : ∃ m, n = m + 1 := ⟨n - 1, by omega⟩
  simp [Builtin.clear_, run_underlying Tryz.underlying24, hz, hst]
theorem dropL_take {ids : List Int} {zs : List Zn} {k : Nat} {z : Zn} (h : zs[k]? = some z) : dropL ids (zs.take (k + 1)) = dropL ids (zs.take k) ++ (if goneB ids z = true then [] else [z]) := by
  obtain ⟨hk, rfl⟩ := List.getElem?_eq_some_iff.1 h
  unfold dropL
  rw [List.take_succ_eq_append_getElem hk, List.filter_append]
  congr 1
  by_cases q : goneB ids zs[k] = true
  · simp [q]
  · simp [q]
theorem dropL_len (ids : List Int) (zs : List Zn) : (dropL ids zs).length ≤ zs.length := List.length_filter_le _ _
theorem zbox_ext (w w' : World) (z : Zn) (t : TypeId) (he : Ext (w.alloc (.cells #[.string z.path, .int .i64 z.data, .int .i64 z.version, .int .i64 z.owner, .int .i64 z.next] t)) w') :
    w'.cell? ⟨w.heap.size, 0, none⟩ = some (.string z.path) ∧ w'.cell? ⟨w.heap.size, 1, none⟩ = some (.int .i64 z.data) ∧ w'.cell? ⟨w.heap.size, 2, none⟩ = some (.int .i64 z.version) ∧ w'.cell? ⟨w.heap.size, 3, none⟩ = some (.int .i64 z.owner) ∧ w'.cell? ⟨w.heap.size, 4, none⟩ = some (.int .i64 z.next) := by
  have hc := fun r => (Ext.cell he).1 w.heap.size r (by simp)
  exact ⟨(hc 0).trans (by simp), (hc 1).trans (by simp), (hc 2).trans (by simp), (hc 3).trans (by simp), (hc 4).trans (by simp)⟩
/-- How the nodes lie when j were looked at. -/
def DelAt (w wr : World) (g off n j : Nat) (ids : List Int) (zs : List Zn) : Prop :=
  Room wr g off n ∧ NodesAt wr g off (dropL ids (zs.take j)) ∧ NodesAt wr g (off + j * 5) (zs.drop j) ∧ Upd g w wr
theorem DelAt.ext {w wr wx : World} {g off n j : Nat} {ids : List Int} {zs : List Zn} (h : DelAt w wr g off n j ids zs) (he : Ext wr wx) : DelAt w wx g off n j ids zs :=
  ⟨h.1.ext he, h.2.1.ext h.1.1 he, h.2.2.1.ext h.1.1 he, h.2.2.2.trans (Upd.ext he (Nat.le_of_lt h.1.1))⟩
theorem nodes_next {w : World} {g o : Nat} {zs : List Zn} {j : Nat} (h : NodesAt w g (o + j * 5) (zs.drop j)) : NodesAt w g (o + (j + 1) * 5) (zs.drop (j + 1)) := by
  have := h.drop 1
  rw [List.drop_drop] at this
  rw [show o + (j + 1) * 5 = o + j * 5 + 1 * 5 from by omega]
  exact this
theorem DelAt.gone {w wr : World} {g off n j : Nat} {ids : List Int} {zs : List Zn} {z : Zn} (h : DelAt w wr g off n j ids zs) (hz : zs[j]? = some z) (hg : goneB ids z = true) : DelAt w wr g off n (j + 1) ids zs :=
  ⟨h.1, by rw [dropL_take hz, if_pos hg, List.append_nil]; exact h.2.1, nodes_next h.2.2.1, h.2.2.2⟩
theorem DelAt.kept {w wr : World} {g off j : Nat} {ids : List Int} {zs : List Zn} {z : Zn} (h : DelAt w wr g off zs.length j ids zs) (hz : zs[j]? = some z) (hg : goneB ids z = false) (hm : (dropL ids (zs.take j)).length < j) :
    DelAt w (putZ wr g (off + (dropL ids (zs.take j)).length * 5) z) g off zs.length (j + 1) ids zs := by
  have hj := (List.getElem?_eq_some_iff.1 hz).1
  have he : dropL ids (zs.take (j + 1)) = dropL ids (zs.take j) ++ [z] := by rw [dropL_take hz, if_neg (by simp [hg])]
  refine ⟨h.1.put z (by omega), ?_, ?_, upd_putZ h.2.2.2 _ _⟩
  · have hp := NodesAt.put (zs := dropL ids (zs.take (j + 1))) (k := (dropL ids (zs.take j)).length) (z := z) h.1 (by omega) (by rw [he]; simp) (by rw [he, List.take_left]; exact h.2.1)
    have hle : (dropL ids (zs.take (j + 1))).length ≤ (dropL ids (zs.take j)).length + 1 := by rw [he]; simp
    rw [List.take_of_length_le hle] at hp
    exact hp
  · have hn := nodes_next h.2.2.1
    intro i y hy
    obtain ⟨c0, c1, c2, c3, c4⟩ := hn i y hy
    exact ⟨by rw [putZ_ne _ _ _ _ _ _ (by omega)]; exact c0, by rw [putZ_ne _ _ _ _ _ _ (by omega)]; exact c1, by rw [putZ_ne _ _ _ _ _ _ (by omega)]; exact c2, by rw [putZ_ne _ _ _ _ _ _ (by omega)]; exact c3, by rw [putZ_ne _ _ _ _ _ _ (by omega)]; exact c4⟩

set_option maxHeartbeats 4000000 in
set_option maxRecDepth 100000 in
theorem deleteFunc_any (g off cap B : Nat) (zs : List Zn) (iv : Value) (ids : List Int) (w : World) (hO : Own w (.slice (some ⟨g, off, none⟩) zs.length cap) g zs) (hp : 0 < zs.length) (h : IdsAt w B iv ids)
    (hI : ∀ wx, Upd g w wx → IdsAt wx B iv ids) :
    Calls Tryz.prog 15 #[.slice (some ⟨g, off, none⟩) zs.length cap, .func (.func 17) #[] #[.pointer (some ⟨B, 0, none⟩)]] w fun e w' =>
      e = .returned (.slice (some ⟨g, off, none⟩) (dropL ids zs).length cap) ∧ Own w' (.slice (some ⟨g, off, none⟩) (dropL ids zs).length cap) g (dropL ids zs) ∧ Upd g w w' := by
  have HOw : Hid (Own w (.slice (some ⟨g, off, none⟩) zs.length cap) g zs) := hO
  have HIdx : Hid (Calls Tryz.prog 29 #[.slice (some ⟨g, off, none⟩) zs.length cap, .func (.func 17) #[] #[.pointer (some ⟨B, 0, none⟩)]] w fun e w' => e = .returned (.int .i64 (idxZ ids 0 zs)) ∧ Ext w w') := indexFunc_any _ zs B iv ids w hO.slice h
  have HC : Hid (∀ (z : Zn) wx, Upd g w wx → Calls Tryz.prog 17 #[zagg z, .pointer (some ⟨B, 0, none⟩)] wx fun e w' => e = .returned (.bool (goneB ids z)) ∧ Ext wx w') := fun z wx he => drop1_any B iv ids z wx (hI wx he)
  unfold zagg at HC
  clear h hI
  obtain ⟨a6, cap6, he6, hlc, hcm, hx6⟩ := id hO
  injection he6 with e1 e2 e3
  subst e1 e3
  obtain ⟨off6, ho6, hR, hN⟩ := hx6 hp
  injection ho6 with ho6
  injection ho6 with _ ho6 _
  subst ho6
  have HRN : Hid (Room w g off zs.length ∧ NodesAt w g off zs) := ⟨hR, hN⟩
  clear hx6 hR hN hO
  have HCM : Hid (cap ≤ maxLen) := hcm
  unfold maxLen at hcm
  rcases idxZ_is ids zs 0 with ⟨q1, q2⟩ | ⟨k, q1, q2, q3, z0, q4, q5⟩
  · rw [q1] at HIdx
    rw [q2]
    clear q1 q2
    go_enter Tryz.func15, Tryz.ntmps15
    go_wp2_with fail
    refine HIdx.out.mono ?_
    rintro e w2 ⟨rfl, hb⟩
    have HB : Hid (Own w2 (.slice (some ⟨g, off, none⟩) zs.length cap) g zs ∧ Upd g w w2) := ⟨HOw.out.ext hb, Upd.ext hb (Nat.le_of_lt HRN.out.1.1)⟩
    clear hb
    go_wp2
    go_ret
    exact ⟨rfl, HB.out.1, HB.out.2⟩
  · rw [q2, Nat.zero_add] at HIdx
    have HD0 : Hid (∀ w2, Ext w w2 → DelAt w w2 g off zs.length (k + 1) ids zs) := by
      intro w2 he
      have hN := HRN.out.2.ext HRN.out.1.1 he
      refine DelAt.gone ⟨HRN.out.1.ext he, ?_, hN.drop k, Upd.ext he (Nat.le_of_lt HRN.out.1.1)⟩ q4 q5
      rw [q3]; exact hN.take k
    have HK : Hid ((dropL ids (zs.take (k + 1))).length = k) := by
      show _ = _
      rw [dropL_take q4, if_pos q5, List.append_nil, q3, List.length_take]; omega
    clear q2 q3 q4 q5
    have hkm : (((k : Nat) : Int) == -1) = false := by simp
    go_enter Tryz.func15, Tryz.ntmps15
    go_wp2_with fail
    refine HIdx.out.mono ?_
    rintro e w2 ⟨rfl, hb⟩
    have HD2 : Hid (DelAt w w2 g off zs.length (k + 1) ids zs) := HD0.out w2 hb
    clear hb HD0 HIdx
    go_wp2
    go_loopw [5, 6] (fun iv jv wr => ∃ (j m : Nat), j ≤ zs.length ∧ jv = .int .i64 j ∧ iv = .int .i64 m ∧ m < j ∧ Hid (m = (dropL ids (zs.take j)).length) ∧ Hid (DelAt w wr g off zs.length j ids zs)) (fun _ jv _ => zs.length - (intOf jv).toNat)
    case atStart => exact ⟨k + 1, k, by omega, by go_num, rfl, by omega, HK.out.symm, HD2⟩
    case round =>
      obtain ⟨j, m, hj, rfl, rfl, hmj, HM, HD⟩ := hrel
      by_cases hlt : j < zs.length
      · obtain ⟨z, hzj⟩ : ∃ z, zs[j]? = some z := ⟨_, List.getElem?_eq_getElem hlt⟩
        obtain ⟨d0, d1, d2, d3, d4⟩ := HD.out.2.2.1 0 z (by rw [List.getElem?_drop]; exact hzj)
        rw [Nat.zero_mul, Nat.add_zero] at d0 d1 d2 d3 d4
        cases hg : goneB ids z with
        | true =>
          have HD1 : Hid (DelAt w wr g off zs.length (j + 1) ids zs) := HD.out.gone hzj hg
          have HM1 : Hid (m = (dropL ids (zs.take (j + 1))).length) := by show _ = _; rw [dropL_take hzj, if_pos hg, List.append_nil]; exact HM.out
          have HCz : Hid (∀ wx, Upd g w wx → Calls Tryz.prog 17 #[.agg #[.string z.path, .int .i64 z.data, .int .i64 z.version, .int .i64 z.owner, .int .i64 z.next], .pointer (some ⟨B, 0, none⟩)] wx fun e w' => e = .returned (.bool true) ∧ Ext wx w') := fun wx he => by have := HC.out z wx he; rw [hg] at this; exact this
          clear hzj hg
          go_wp2_with fail
          refine (HCz.out _ (by exact (HD1.out.ext ((Ext.refl _).alloc _)).2.2.2)).mono ?_
          rintro e w3 ⟨rfl, hb⟩
          have HD3 : Hid (DelAt w w3 g off zs.length (j + 1) ids zs) := (HD1.out.ext ((Ext.refl _).alloc _)).ext hb
          clear hb
          go_wp2
          exact ⟨⟨j + 1, m, by omega, by go_num, rfl, by omega, HM1, HD3⟩, by simp [intOf]; omega⟩
        | false =>
          have HM1 : Hid (m + 1 = (dropL ids (zs.take (j + 1))).length) := by show _ = _; rw [dropL_take hzj, if_neg (by simp [hg]), List.length_append, ← HM.out]; rfl
          have HCz : Hid (∀ wx, Upd g w wx → Calls Tryz.prog 17 #[.agg #[.string z.path, .int .i64 z.data, .int .i64 z.version, .int .i64 z.owner, .int .i64 z.next], .pointer (some ⟨B, 0, none⟩)] wx fun e w' => e = .returned (.bool false) ∧ Ext wx w') := fun wx he => by have := HC.out z wx he; rw [hg] at this; exact this
          have HD1 : Hid (∀ wx, DelAt w wx g off zs.length j ids zs → DelAt w (putZ wx g (off + m * 5) z) g off zs.length (j + 1) ids zs) := fun wx hd => by rw [HM.out]; exact DelAt.kept hd hzj hg (by rw [← HM.out]; exact hmj)
          clear hzj hg
          go_wp2_with fail
          refine (HCz.out _ (by exact (HD.out.ext ((Ext.refl _).alloc _)).2.2.2)).mono ?_
          rintro e w3 ⟨rfl, hb⟩
          have HD3 : Hid (DelAt w w3 g off zs.length j ids zs) := (HD.out.ext ((Ext.refl _).alloc _)).ext hb
          have hgl := HD3.out.1.1
          clear d0 d1 d2 d3 d4
          obtain ⟨d0, d1, d2, d3, d4⟩ := zbox_ext wr w3 z 33 hb
          clear hb
          obtain ⟨⟨u0, r0⟩, f0⟩ := HD3.out.1.2 (m * 5) (by omega)
          obtain ⟨⟨u1, r1⟩, f1⟩ := HD3.out.1.2 (m * 5 + 1) (by omega)
          obtain ⟨⟨u2, r2⟩, f2⟩ := HD3.out.1.2 (m * 5 + 2) (by omega)
          obtain ⟨⟨u3, r3⟩, f3⟩ := HD3.out.1.2 (m * 5 + 3) (by omega)
          obtain ⟨⟨u4, r4⟩, f4⟩ := HD3.out.1.2 (m * 5 + 4) (by omega)
          rw [← Nat.add_assoc] at r1 r2 r3 r4 f1 f2 f3 f4
          have HP : Hid (DelAt w (putZ w3 g (off + m * 5) z) g off zs.length (j + 1) ids zs) := HD1.out _ HD3.out
          unfold putZ at HP
          go_wp2
          exact ⟨⟨j + 1, m + 1, by omega, by go_num, by go_num, by omega, HM1, HP⟩, by simp [intOf]; omega⟩
      · have hje : j = zs.length := by omega
        subst hje
        have HM1 : Hid (m = (dropL ids zs).length) := by show _ = _; rw [HM.out, List.take_length]
        have HD1 : Hid (Room wr g off zs.length ∧ NodesAt wr g off (dropL ids zs) ∧ Upd g w wr) := by
          have := HD.out.2.1
          rw [List.take_length] at this
          exact ⟨HD.out.1, this, HD.out.2.2.2⟩
        have hcl : ∀ ty c, (Builtin.clear_ #[24] ty #[.slice (some ⟨g, off + m * 5, none⟩) (zs.length - m) c]).run Tryz.prog wr = .ok (.tuple #[]) (wr.setCells g (off + m * 5) (zcs (zs.length - m))) := fun ty c => clear_many wr ty g _ _ c (by omega) (HD1.out.1.some _ _ (by omega) (by omega))
        have HF : Hid (∀ W, W = wr.setCells g (off + m * 5) (zcs (zs.length - m)) → Own W (.slice (some ⟨g, off, none⟩) (dropL ids zs).length cap) g (dropL ids zs) ∧ Upd g w W) := by
          rintro W rfl
          have hs := HD1.out.1.some (off + m * 5) ((zs.length - m) * 5) (by omega) (by omega)
          have hR2 := HD1.out.1.setCells (off + m * 5) (zcs (zs.length - m)) (fun j hj => (hs j (by rw [zcs_len] at hj; exact hj)).1)
          refine ⟨⟨_, cap, rfl, by rw [← HM1.out]; omega, HCM.out, fun _ => ⟨off, rfl, hR2.less (dropL_len _ _), NodesAt.of_news fun i u hu => ?_⟩⟩, upd_setCells _ _ _ HD1.out.2.2⟩
          have hi := (List.getElem?_eq_some_iff.1 hu).1
          rw [cellsZ_length, ← HM1.out] at hi
          rw [World.cell?_setCells_out g _ _ _ _ (fun _ _ => .inl (by show off + i < _; omega))]
          exact HD1.out.2.1.news' i u hu
        have hq1 : ¬ cap = m := by omega
        have hq2 : m ≤ zs.length := by omega
        have hq3 : m ≤ cap := by omega
        go_wp2
        go_ret
        exact ⟨by rw [← HM1.out]; rfl, by exact (HF.out _ rfl).1, (HF.out _ rfl).2⟩
end Go.Proofs.YtjlmkjcahnnjpaaGreatDoor

/- DropOwned: the program's. -/
namespace Go.Proofs.YtjlmkjcahnnjpaaGreatDoor
open Go.RowKit

def dropV (zs : List Zn) (ids : List Int) : Int × ByteArray × List Zn := if Tre.fault zs ≠ 0 then (Tre.fault zs, ⟨#[]⟩, []) else if 9 < ids.length then (2, ⟨#[]⟩, []) else (0, ⟨#[]⟩, dropL ids zs)
theorem Tre.fault_len {zs : List Zn} (h1 : Tre.fault zs = 0) : zs.length ≤ 20 ∧ 0 < zs.length ∧ ∀ z ∈ zs, z.path.size ≤ 24 := by
  refine ⟨(Tre.fault_nodes h1).1, ?_, fun z hz => few_of_ok (Tre.fault_nums h1 z hz).1⟩
  rcases Tre.atI_range zs Tre.top with ⟨hm, _⟩ | ⟨k, z, _, hk, _, _⟩
  · have := (Tre.fault_hang h1).1; omega
  · omega
theorem RBox.upd2 {w w2 : World} {r b : Nat} (h : RBox w r) (he : Upd b w w2) (hne : r ≠ b) : RBox w2 r := by
  obtain ⟨h1, h2, h3, h4, h5, h6, h7⟩ := h
  exact ⟨Nat.lt_of_lt_of_le h1 he.2.1, (he.at_ne _ _ hne h1).1.trans h2, (he.at_ne _ _ hne h1).1.trans h3, (he.at_ne _ _ hne h1).1.trans h4, (he.at_ne _ _ hne h1).2.trans h5, (he.at_ne _ _ hne h1).2.trans h6, (he.at_ne _ _ hne h1).2.trans h7⟩
theorem ZRet.to {w w1 w' : World} {c : Int} {p : ByteArray} {rs : List Zn} {e : Ending} (h : ZRet w1 c p rs e w') (he : Ext w w1) : ZRet w c p rs e w' := by
  obtain ⟨v, g, h1, h2, h3, h4⟩ := h
  exact ⟨v, g, h1, Nat.le_trans he.size h2, h3, he.trans h4⟩
theorem zret_own1 {w w4 : World} {iv v : Value} {g : Nat} {rs : List Zn} (c : Int) (p : ByteArray) (hO : Own w4 v g rs) (hg : w.heap.size + 2 ≤ g) (h : Ext (w.alloc (.cells #[iv] 25)) w4) (x y u : Value) :
    ZRet w c p rs (.returned (zr c p v)) (((w4.setCell ⟨w.heap.size + 1, 0, none⟩ x).setCell ⟨w.heap.size + 1, 1, none⟩ y).setCell ⟨w.heap.size + 1, 2, none⟩ u) := by
  have h1 := zret_own (w := w.alloc (.cells #[iv] 25)) c p hO (by simp; omega) h x y u
  simp only [World.size_alloc] at h1
  exact h1.to ((Ext.refl _).alloc _)
theorem zret_bad1 {w w4 : World} {iv : Value} (c : Int) (p : ByteArray) (h : Ext (w.alloc (.cells #[iv] 25)) w4) (x y u : Value) :
    ZRet w c p [] (.returned (zr c p (.slice none 0 0))) (((w4.setCell ⟨w.heap.size + 1, 0, none⟩ x).setCell ⟨w.heap.size + 1, 1, none⟩ y).setCell ⟨w.heap.size + 1, 2, none⟩ u) :=
  zret_own1 (g := w.heap.size + 2) c p (own_none _ _) (Nat.le_refl _) h x y u
/-- How DropOwned stands: the ids' block, the result's block. -/
def DBx (w : World) (iv : Value) (ids : List Int) (wx : World) : Prop := IdsAt wx w.heap.size iv ids ∧ RBox wx (w.heap.size + 1) ∧ Ext (w.alloc (.cells #[iv] 25)) wx
theorem DBx.new (w : World) (iv : Value) (ids : List Int) (hI : ISlice w iv ids) : DBx w iv ids ((w.alloc (.cells #[iv] 25)).alloc (.cells #[.int .i64 0, .string ⟨#[]⟩, .slice none 0 0] 29)) := by
  have h := RBox.new (w.alloc (.cells #[iv] 25)) 29
  simp only [World.size_alloc] at h
  refine ⟨⟨?_, hI.ext (((Ext.refl _).alloc _).alloc _)⟩, h, (Ext.refl _).alloc _⟩
  exact ((Ext.cell ((Ext.refl (w.alloc (.cells #[iv] 25))).alloc _)).1 w.heap.size 0 (by simp)).trans (by simp)
theorem DBx.ext {w wx wy : World} {iv : Value} {ids : List Int} (h : DBx w iv ids wx) (he : Ext wx wy) : DBx w iv ids wy := ⟨h.1.ext he, h.2.1.ext he, h.2.2.trans he⟩
theorem DBx.to {w wx : World} {iv : Value} {ids : List Int} (h : DBx w iv ids wx) : Ext w wx := ((Ext.refl _).alloc _).trans h.2.2
set_option maxHeartbeats 4000000 in
set_option maxRecDepth 100000 in
theorem implDropOwned_any (v u : Value) (zs : List Zn) (ids : List Int) (w : World) (hg : Gd w) (hS : NSlice w v zs) (hI : ISlice w u ids) :
    Calls Tryz.prog 6 #[v, u] w (ZRet w (dropV zs ids).1 (dropV zs ids).2.1 (dropV zs ids).2.2) := by
  have HT : Hid (∀ wx, Ext w wx → Calls Tryz.prog 10 #[v] wx fun e w' => e = .returned (.int .i64 (Tre.fault zs)) ∧ Ext wx w') := fun wx he => implTreeFault_any v zs wx (hg.ext he) (hS.ext he)
  have HS : Hid (NSlice w v zs ∧ ISlice w u ids) := ⟨hS, hI⟩
  have HN : Hid (DBx w u ids ((w.alloc (.cells #[u] 25)).alloc (.cells #[.int .i64 0, .string ⟨#[]⟩, .slice none 0 0] 29))) := DBx.new w u ids hI
  obtain ⟨a, cap, rfl, -⟩ := hS
  obtain ⟨b, cbp, rfl, hlc, hcm, -⟩ := hI
  unfold maxLen at hcm
  unfold dropV
  by_cases hc : Tre.fault zs ≠ 0
  · rw [if_pos hc]
    generalize Tre.fault zs = c at *
    go_enter Tryz.func6, Tryz.ntmps6
    go_wp2_with fail
    refine (HT.out _ HN.out.to).mono ?_
    rintro e w2 ⟨rfl, hb⟩
    have HD : Hid (DBx w (.slice b ids.length cbp) ids w2) := HN.out.ext hb
    clear hb HN
    obtain ⟨q, q0, q1, q2, f0, f1, f2⟩ := HD.out.2.1
    go_wp2
    exact bodyPost_ret (v := zr c ⟨#[]⟩ (.slice none 0 0)) (by simp [results, Tryz.results6, go_sem, zr, q0, q1, q2]) rfl (zret_bad1 _ _ HD.out.2.2 _ _ _)
  · rw [if_neg hc]
    have hc0 : Tre.fault zs = 0 := by omega
    rw [hc0] at HT
    obtain ⟨h20, hpos, hps⟩ := Tre.fault_len hc0
    have HP : Hid (∀ z ∈ zs, z.path.size ≤ 1048576) := fun z hz => by have := hps z hz; omega
    clear hc hc0 hps
    by_cases h9 : 9 < ids.length
    · rw [if_pos h9]
      go_enter Tryz.func6, Tryz.ntmps6
      go_wp2_with fail
      refine (HT.out _ HN.out.to).mono ?_
      rintro e w2 ⟨rfl, hb⟩
      have HD : Hid (DBx w (.slice b ids.length cbp) ids w2) := HN.out.ext hb
      clear hb HN
      obtain ⟨q, q0, q1, q2, f0, f1, f2⟩ := HD.out.2.1
      have i0 := HD.out.1.1
      go_wp2
      exact bodyPost_ret (v := zr 2 ⟨#[]⟩ (.slice none 0 0)) (by simp [results, Tryz.results6, go_sem, zr, q0, q1, q2]) rfl (zret_bad1 _ _ HD.out.2.2 _ _ _)
    · rw [if_neg h9]
      go_enter Tryz.func6, Tryz.ntmps6
      go_wp2_with fail
      refine (HT.out _ HN.out.to).mono ?_
      rintro e w2 ⟨rfl, hb⟩
      have HD : Hid (DBx w (.slice b ids.length cbp) ids w2) := HN.out.ext hb
      clear hb HN
      obtain ⟨q, q0, q1, q2, f0, f1, f2⟩ := HD.out.2.1
      have i0 := HD.out.1.1
      go_wp2_with fail
      refine (copyNodes_any _ zs _ (HS.out.1.ext HD.out.to) (by omega) hpos HP.out).mono ?_
      rintro e w3 ⟨v3, g, rfl, hg3, hO, hb⟩
      obtain ⟨a3, cap3, rfl, hlc3, hcm3, hx3⟩ := id hO
      obtain ⟨off3, rfl, -, -⟩ := hx3 hpos
      have HO : Hid (Own w3 (.slice (some ⟨g, off3, none⟩) zs.length cap3) g zs) := hO
      have HD3 : Hid (DBx w (.slice b ids.length cbp) ids w3) := HD.out.ext hb
      have HG : Hid (w.heap.size + 2 ≤ g) := by have := HD.out.2.1.1; show _ ≤ _; omega
      clear hb hO hx3 q q0 q1 q2 f0 f1 f2 i0 hg3
      have HDf : Hid (Calls Tryz.prog 15 #[.slice (some ⟨g, off3, none⟩) zs.length cap3, .func (.func 17) #[] #[.pointer (some ⟨w.heap.size, 0, none⟩)]] w3 fun e w' => e = .returned (.slice (some ⟨g, off3, none⟩) (dropL ids zs).length cap3) ∧ Own w' (.slice (some ⟨g, off3, none⟩) (dropL ids zs).length cap3) g (dropL ids zs) ∧ Upd g w3 w') := by
        refine deleteFunc_any g off3 cap3 w.heap.size zs _ ids w3 HO.out hpos HD3.out.1 (fun wx hu => ?_)
        obtain ⟨j0, j1⟩ := HD3.out.1
        have hlt3 := HD3.out.2.1.1
        have hg2 := HG.out
        have he : Below w.heap.size w wx := (Below.trans HD3.out.to (hu.1.mono (by omega)))
        exact ⟨((hu.at_ne w.heap.size 0 (by omega) (by omega)).1).trans j0, HS.out.2.ext he⟩
      go_wp2_with fail
      refine HDf.out.mono ?_
      rintro e w7 ⟨rfl, hO7, hU7⟩
      have HO7 : Hid (Own w7 (.slice (some ⟨g, off3, none⟩) (dropL ids zs).length cap3) g (dropL ids zs)) := hO7
      have HB7 : Hid (Ext (w.alloc (.cells #[.slice b ids.length cbp] 25)) w7) := hU7.to_ext HD3.out.2.2 (by have := HG.out; simp; omega)
      obtain ⟨q, q0, q1, q2, f0, f1, f2⟩ := HD3.out.2.1.upd2 hU7 (by have := HG.out; omega)
      clear hU7 hO7
      generalize dropL ids zs = rs at *
      go_wp2
      exact bodyPost_ret (v := zr 0 ⟨#[]⟩ (.slice (some ⟨g, off3, none⟩) rs.length cap3)) (by simp [results, Tryz.results6, go_sem, zr, q0, q1, q2]) rfl (zret_own1 0 ⟨#[]⟩ HO7.out HG.out HB7.out _ _ _)
end Go.Proofs.YtjlmkjcahnnjpaaGreatDoor

/- DropOwned: the specification's. -/
namespace Go.Proofs.YtjlmkjcahnnjpaaGreatDoor
open Go.RowKit

theorem hasI_take {l : List Int} {k : Nat} {y : Int} (x : Int) (h : l[k]? = some y) : hasI (l.take (k + 1)) x = (hasI (l.take k) x || (x == y)) := by
  obtain ⟨hk, rfl⟩ := List.getElem?_eq_some_iff.1 h
  unfold hasI
  rw [List.take_succ_eq_append_getElem hk, List.any_append]
  simp
set_option maxHeartbeats 1000000 in
set_option maxRecDepth 100000 in
theorem l4Drop_any (v u : Value) (zs : List Zn) (ids : List Int) (w : World) (hS : NSlice w v zs) (hI : ISlice w u ids) (hl : zs.length ≤ 1000) :
    Calls Tryz.prog 21 #[v, u] w fun e w' => ∃ v' g, e = .returned v' ∧ w.heap.size ≤ g ∧ Own w' v' g (dropL ids zs) ∧ Ext w w' := by
  have hi9 : (Tryz.prog.info? 33).map (fun i => (i.zero, i.size, i.bytes)) = some (some (.agg #[.string ByteArray.empty, .int .i64 0, .int .i64 0, .int .i64 0, .int .i64 0]), 5, 48) := by kernel_rfl
  obtain ⟨i0, hi, hx9⟩ := Option.map_eq_some_iff.1 hi9
  simp only [Prod.mk.injEq] at hx9
  obtain ⟨hz0, hz1, hz2⟩ := hx9
  clear hi9
  obtain ⟨a, cap, rfl, hlc, hcm, hx⟩ := hS
  obtain ⟨b, cbp, rfl, hlb, hcb, hy⟩ := hI
  have HX : Hid (0 < zs.length → ∃ b off, a = some ⟨b, off, none⟩ ∧ b < w.heap.size ∧ NodesAt w b off zs) := hx
  have HY : Hid (0 < ids.length → ∃ b' off, b = some ⟨b', off, none⟩ ∧ b' < w.heap.size ∧ NumsAt w b' off ids) := hy
  clear hx hy
  unfold maxLen at hcm hcb
  go_enter Tryz.func21, Tryz.ntmps21
  go_wp2
  go_loopw [5, 6] (fun ov iv wr => ∃ (k : Nat), k ≤ zs.length ∧ iv = .int .i64 k ∧ Hid (wr.ownsRow w.heap.size 33 5 ov (dropL ids (zs.take k)).length (cellsZ (dropL ids (zs.take k)))) ∧ Hid (Ext w wr)) (fun _ iv _ => zs.length - (intOf iv).toNat)
  case atStart => exact ⟨0, Nat.zero_le _, rfl, World.ownsRow_made w #[] 0 (Nat.le_refl _) (by unfold maxLen; omega) rfl, (Ext.refl _).alloc _⟩
  case round =>
    obtain ⟨k, hk, rfl, HO, HE⟩ := hrel
    by_cases hlt : k < zs.length
    · obtain ⟨z, hzk⟩ : ∃ z, zs[k]? = some z := ⟨_, List.getElem?_eq_getElem hlt⟩
      obtain ⟨bb, off, rfl, hb, hN⟩ := HX.out (by omega)
      have HNk : Hid (∀ wx, Ext w wx → wx.cell? ⟨bb, off + k * 5, none⟩ = some (.string z.path) ∧ wx.cell? ⟨bb, off + k * 5 + 1, none⟩ = some (.int .i64 z.data) ∧ wx.cell? ⟨bb, off + k * 5 + 2, none⟩ = some (.int .i64 z.version) ∧ wx.cell? ⟨bb, off + k * 5 + 3, none⟩ = some (.int .i64 z.owner) ∧ wx.cell? ⟨bb, off + k * 5 + 4, none⟩ = some (.int .i64 z.next)) := fun wx he => hN.ext hb he k z hzk
      have HZk : Hid (zs[k]? = some z) := hzk
      clear hN hzk hb
      go_wp2
      go_loopw [7, 8] (fun gv jv wy => ∃ (j : Nat), j ≤ ids.length ∧ jv = .int .i64 j ∧ gv = .bool ((z.owner != 0) && hasI (ids.take j) z.owner) ∧ Hid (wy.ownsRow w.heap.size 33 5 u5 (dropL ids (zs.take k)).length (cellsZ (dropL ids (zs.take k)))) ∧ Hid (Ext w wy)) (fun _ jv _ => ids.length - (intOf jv).toNat)
      case atStart => exact ⟨0, Nat.zero_le _, rfl, by simp [hasI], HO, HE⟩
      case round =>
        obtain ⟨j, hj, rfl, rfl, HOy, HEy⟩ := hrel
        by_cases hjl : j < ids.length
        · obtain ⟨y, hyj⟩ : ∃ y, ids[j]? = some y := ⟨_, List.getElem?_eq_getElem hjl⟩
          obtain ⟨b', off', rfl, hb', hNy⟩ := HY.out (by omega)
          have e0 := hNy.ext hb' HEy.out j y hyj
          have ht := hasI_take z.owner hyj
          obtain ⟨-, -, -, d3, -⟩ := HNk.out _ HEy.out
          have HOd : Hid (wr.drew.ownsRow w.heap.size 33 5 u5 (dropL ids (zs.take k)).length (cellsZ (dropL ids (zs.take k)))) := HOy.out.drew
          clear hNy hyj
          by_cases h0 : z.owner = 0
          · have hg : ((z.owner != 0) && hasI (ids.take j) z.owner) = false := by simp [h0]
            have HG : Hid (((z.owner != 0) && hasI (ids.take (j + 1)) z.owner) = false) := by show _ = _; simp [h0]
            rw [hg]
            clear ht hg
            go_wp2
            go_region
            all_goals go_wp2
            all_goals exact ⟨⟨j + 1, by omega, by go_num, by rw [HG.out], HOd, HEy.out.drew⟩, by simp [intOf]; omega⟩
          · have hn0 : (z.owner != 0) = true := by simp [h0]
            rw [hn0, Bool.true_and]
            cases hg : hasI (ids.take j) z.owner with
            | true =>
              have HG : Hid (hasI (ids.take (j + 1)) z.owner = true) := by show _ = _; rw [ht, hg]; rfl
              clear ht hg
              go_wp2
              go_region
              all_goals go_wp2
              all_goals exact ⟨⟨j + 1, by omega, by go_num, by rw [HG.out]; rfl, HOd, HEy.out.drew⟩, by simp [intOf]; omega⟩
            | false =>
              by_cases hy : z.owner = y
              · subst hy
                have HG : Hid (hasI (ids.take (j + 1)) z.owner = true) := by show _ = _; rw [ht, hg]; simp
                clear ht hg
                go_wp2
                go_region_held3 (fun W => W.cell? ⟨bb, off + k * 5 + 3, none⟩ = some (.int .i64 z.owner) ∧ W.cell? ⟨b', off' + j, none⟩ = some (.int .i64 z.owner)) (first | exact ⟨d3, e0⟩ | go_keep) (fail)
                all_goals go_wp2
                all_goals exact ⟨⟨j + 1, by omega, by go_num, by rw [HG.out]; rfl, HOd, HEy.out.drew⟩, by simp [intOf]; omega⟩
              · have HG : Hid (hasI (ids.take (j + 1)) z.owner = false) := by show _ = _; rw [ht, hg]; simp [hy]
                clear ht hg
                go_wp2
                go_region_held3 (fun W => W.cell? ⟨bb, off + k * 5 + 3, none⟩ = some (.int .i64 z.owner) ∧ W.cell? ⟨b', off' + j, none⟩ = some (.int .i64 y)) (first | exact ⟨d3, e0⟩ | go_keep) (fail)
                all_goals go_wp2
                all_goals exact ⟨⟨j + 1, by omega, by go_num, by rw [HG.out]; simp [hy], HOd, HEy.out.drew⟩, by simp [intOf]; omega⟩
        · have hje : j = ids.length := by omega
          subst hje
          rw [List.take_length]
          obtain ⟨d0, d1, d2, d3, d4⟩ := HNk.out _ HEy.out
          have hl4 : (dropL ids (zs.take k)).length ≤ 1000 := by have := dropL_len ids (zs.take k); rw [List.length_take] at this; omega
          cases hg : ((z.owner != 0) && hasI ids z.owner) with
          | true =>
            have HD : Hid (dropL ids (zs.take (k + 1)) = dropL ids (zs.take k)) := by show _ = _; rw [dropL_take HZk.out, if_pos (by unfold goneB; exact hg), List.append_nil]
            clear hg
            go_wp2
            exact ⟨⟨k + 1, by omega, by go_num, by rw [HD.out]; exact HOy.out, HEy⟩, by simp [intOf]; omega⟩
          | false =>
            have HD : Hid (dropL ids (zs.take (k + 1)) = dropL ids (zs.take k) ++ [z]) := by show _ = _; rw [dropL_take HZk.out, if_neg (by unfold goneB; rw [hg]; simp)]
            clear hg
            have hws := HEy.out.size
            generalize dropL ids (zs.take k) = ds at *
            go_wp2_with (at_builtin; go_must (refine wpList_append_own _ rfl _ _ 24 rfl w.heap.size 33 i0 (.agg #[.string ByteArray.empty, .int .i64 0, .int .i64 0, .int .i64 0, .int .i64 0]) 5 48 Tryz.underlying24 hi hz0 hz1 hz2 rfl (by decide) u5 _ _ rfl (HOy.out.alloc _) ⟨wr.heap.size, 0, none⟩ 1 1 (cellsZ [z]) rfl rfl (cells_new wr z _) (cellsZ_one _) (by unfold maxLen; omega) (by omega) (by simp; omega) ?_; intro v6 w6 hown6 hgrow6 hnil6; have HO6 : Hid (w6.ownsRow w.heap.size 33 5 v6 (ds.length + 1) (cellsZ ds ++ cellsZ [z])) := hown6; have HE6 : Hid (Ext w w6) := Below.trans HEy.out (((Below.refl _ _).alloc HEy.out.size _).grown hgrow6 (by have := HEy.out.size; simp; omega) (fun q hq => (HOy.out.lt q hq).1)); clear hown6 hgrow6 hnil6))
            exact ⟨⟨k + 1, by omega, by go_num, by rw [HD.out, List.length_append, cellsZ_append]; exact HO6.out, HE6⟩, by simp [intOf]; omega⟩
    · have hke : k = zs.length := by omega
      subst hke
      rw [List.take_length] at HO
      obtain ⟨g, a5, cap5, hg5, hv5, hO5⟩ := zret_own3 HO.out rfl rfl
      subst hv5
      have HF : Hid (Own wr (.slice a5 (dropL ids zs).length cap5) g (dropL ids zs)) := hO5
      clear hO5
      go_wp2
      go_ret
      exact ⟨_, g, rfl, hg5, by exact HF.out, HE.out⟩

set_option maxHeartbeats 1000000 in
theorem specDropOwned_any (v u : Value) (zs : List Zn) (ids : List Int) (w : World) (hS : NSlice w v zs) (hI : ISlice w u ids) :
    Calls Tryz.prog 7 #[v, u] w (ZRet w (dropV zs ids).1 (dropV zs ids).2.1 (dropV zs ids).2.2) := by
  have HT : Hid (∀ wx, Ext w wx → Calls Tryz.prog 19 #[v] wx fun e w' => e = .returned (.int .i64 (Tre.fault zs)) ∧ Ext wx w') := fun wx he => l2Fault_any v zs wx (hS.ext he)
  have HD : Hid (zs.length ≤ 1000 → ∀ wx, Ext w wx → Calls Tryz.prog 21 #[v, u] wx fun e w' => ∃ v' g, e = .returned v' ∧ wx.heap.size ≤ g ∧ Own w' v' g (dropL ids zs) ∧ Ext wx w') := fun hl wx he => l4Drop_any v u zs ids wx (hS.ext he) (hI.ext he) hl
  obtain ⟨a, cap, rfl, -⟩ := hS
  obtain ⟨b, cbp, rfl, hlc, hcm, -⟩ := hI
  unfold maxLen at hcm
  unfold dropV
  by_cases hc : Tre.fault zs ≠ 0
  · rw [if_pos hc]
    generalize Tre.fault zs = c at *
    go_enter Tryz.func7, Tryz.ntmps7
    go_wp2_with fail
    refine (HT.out _ ((Ext.refl _).alloc _)).mono ?_
    rintro e w2 ⟨rfl, hb⟩
    have HB : Hid (Ext w w2) := ((Ext.refl _).alloc _).trans hb
    have HQ : Hid (RBox w2 w.heap.size) := (RBox.new w _).ext hb
    clear hb
    go_wp2_with fail
    refine (l2Bad_any c _).mono ?_
    rintro e w3 ⟨rfl, hb⟩
    have HB3 : Hid (Ext w w3) := HB.out.trans hb
    obtain ⟨q, q0, q1, q2, f0, f1, f2⟩ := HQ.out.ext hb
    clear hb
    unfold zr
    go_wp2
    exact bodyPost_ret (v := zr c ⟨#[]⟩ (.slice none 0 0)) (by simp [results, Tryz.results7, go_sem, zr, q0, q1, q2]) rfl (zret_bad _ _ (HB3.out.box3 _ _ _))
  · rw [if_neg hc]
    have hc0 : Tre.fault zs = 0 := by omega
    rw [hc0] at HT
    obtain ⟨h20, -, -⟩ := Tre.fault_len hc0
    clear hc hc0
    by_cases h9 : 9 < ids.length
    · rw [if_pos h9]
      go_enter Tryz.func7, Tryz.ntmps7
      go_wp2_with fail
      refine (HT.out _ ((Ext.refl _).alloc _)).mono ?_
      rintro e w2 ⟨rfl, hb⟩
      have HB : Hid (Ext w w2) := ((Ext.refl _).alloc _).trans hb
      have HQ : Hid (RBox w2 w.heap.size) := (RBox.new w _).ext hb
      clear hb
      go_wp2_with fail
      refine (l2Bad_any 2 _).mono ?_
      rintro e w3 ⟨rfl, hb⟩
      have HB3 : Hid (Ext w w3) := HB.out.trans hb
      obtain ⟨q, q0, q1, q2, f0, f1, f2⟩ := HQ.out.ext hb
      clear hb
      unfold zr
      go_wp2
      exact bodyPost_ret (v := zr 2 ⟨#[]⟩ (.slice none 0 0)) (by simp [results, Tryz.results7, go_sem, zr, q0, q1, q2]) rfl (zret_bad _ _ (HB3.out.box3 _ _ _))
    · rw [if_neg h9]
      have HD' : Hid (∀ wx, Ext w wx → Calls Tryz.prog 21 #[.slice a zs.length cap, .slice b ids.length cbp] wx fun e w' => ∃ v' g, e = .returned v' ∧ wx.heap.size ≤ g ∧ Own w' v' g (dropL ids zs) ∧ Ext wx w') := HD.out (by omega)
      clear HD
      generalize dropL ids zs = rs at *
      go_enter Tryz.func7, Tryz.ntmps7
      go_wp2_with fail
      refine (HT.out _ ((Ext.refl _).alloc _)).mono ?_
      rintro e w2 ⟨rfl, hb⟩
      have HB : Hid (Ext w w2) := ((Ext.refl _).alloc _).trans hb
      have HQ : Hid (RBox w2 w.heap.size) := (RBox.new w _).ext hb
      clear hb
      go_wp2_with fail
      refine (HD'.out _ HB.out).mono ?_
      rintro e w3 ⟨v3, g, rfl, hg3, hO, hb⟩
      obtain ⟨a3, cap3, rfl, -⟩ := id hO
      have HO : Hid (Own w3 (.slice a3 rs.length cap3) g rs) := hO
      have HG : Hid (w.heap.size + 1 ≤ g) := by have := HQ.out.1; show _ ≤ _; omega
      have HB3 : Hid (Ext w w3) := HB.out.trans hb
      obtain ⟨q, q0, q1, q2, f0, f1, f2⟩ := HQ.out.ext hb
      clear hb hO
      go_wp2
      exact bodyPost_ret (v := zr 0 ⟨#[]⟩ (.slice a3 rs.length cap3)) (by simp [results, Tryz.results7, go_sem, zr, q0, q1, q2]) rfl (zret_own 0 ⟨#[]⟩ HO.out HG.out HB3.out _ _ _)
end Go.Proofs.YtjlmkjcahnnjpaaGreatDoor

/- What a tree without fault is, over its members alone: so a part of one that keeps each parent is one too. -/
namespace Go.Proofs.YtjlmkjcahnnjpaaGreatDoor
open Go.RowKit
namespace Tre
/-- A tree without fault. -/
structure Good (zs : List Zn) : Prop where
  few : zs.length ≤ 20
  each : ∀ z ∈ zs, Pth.faultI z.path.data.toList = 0 ∧ okNums z = true
  up : zs.Pairwise fun y z => key y < key z
  top : ∃ z ∈ zs, isAt top z = true
  hung : ∀ z ∈ zs, ∃ y ∈ zs, isAt (par z.path) y = true ∧ y.owner = 0
theorem atI_mem {zs : List Zn} {p : ByteArray} : 0 ≤ atI zs p ↔ ∃ z ∈ zs, isAt p z = true := by
  constructor
  · intro h
    rcases atI_range zs p with ⟨h1, -⟩ | ⟨k, z, -, -, hz, ha⟩
    · omega
    · exact ⟨z, List.mem_of_getElem? hz, ha⟩
  · rintro ⟨z, hz, ha⟩
    rcases atI_range zs p with ⟨-, h2⟩ | ⟨k, _, hk, -, -, -⟩
    · rw [h2 z hz] at ha; cases ha
    · omega
theorem up_pair {zs : List Zn} : Up zs ↔ zs.Pairwise fun y z => key y < key z := by
  rw [List.pairwise_iff_getElem]
  constructor
  · intro h i j hi hj hij
    exact up_lt' h hij (List.getElem?_eq_getElem hi) (List.getElem?_eq_getElem hj)
  · intro h i y z hy hz
    obtain ⟨hi, rfl⟩ := List.getElem?_eq_some_iff.1 hy
    obtain ⟨hj, rfl⟩ := List.getElem?_eq_some_iff.1 hz
    exact h i (i + 1) hi hj (by omega)
/-- Of those that rise only one is at a path. -/
theorem up_one {zs : List Zn} (h : zs.Pairwise fun y z => key y < key z) {p : ByteArray} {y z : Zn} (hy : y ∈ zs) (hz : z ∈ zs) (ay : isAt p y = true) (az : isAt p z = true) : y = z := by
  obtain ⟨i, hi⟩ := List.getElem?_of_mem hy
  obtain ⟨j, hj⟩ := List.getElem?_of_mem hz
  have e : key y = key z := (isAt_iff.1 ay).trans (isAt_iff.1 az).symm
  have hu := up_pair.2 h
  rcases Nat.lt_trichotomy i j with hlt | heq | hgt
  · exact absurd e (lt_ne (up_lt' hu hlt hi hj))
  · subst heq; exact Option.some.inj (hi.symm.trans hj)
  · exact absurd e.symm (lt_ne (up_lt' hu hgt hj hi))
theorem good_of {zs : List Zn} (h : fault zs = 0) : Good zs := by
  obtain ⟨hl, hN⟩ := fault_nodes h
  obtain ⟨ht, hP, hO⟩ := fault_hang h
  refine ⟨hl, ?_, up_pair.1 (up_of_nodes hN), atI_mem.1 ht, ?_⟩
  · intro z hz
    obtain ⟨j, hj⟩ := List.getElem?_of_mem hz
    exact nodeC_ok hj (hN j (List.getElem?_eq_some_iff.1 hj).1)
  · intro z hz
    obtain ⟨j, hj⟩ := List.getElem?_of_mem hz
    have hjl := (List.getElem?_eq_some_iff.1 hj).1
    have h1 := hP j hjl
    rw [parC_eq hj] at h1
    rcases atI_range zs (par z.path) with ⟨h2, -⟩ | ⟨k, y, hk, -, hy, ha⟩
    · rw [if_pos (by omega)] at h1; cases h1
    · have h3 := hO j hjl
      rw [ownC_eq hj hk hy] at h3
      refine ⟨y, List.mem_of_getElem? hy, ha, ?_⟩
      by_cases h0 : y.owner = 0
      · exact h0
      · rw [if_pos h0] at h3; cases h3
theorem Good.fault {zs : List Zn} (h : Good zs) : fault zs = 0 := by
  have hu := up_pair.2 h.up
  refine fault_own (by have := h.few; omega) (first_none fun j hj => ?_) (by have := atI_mem.2 h.top; omega) (first_none fun j hj => ?_) (first_none fun j hj => ?_)
  · obtain ⟨z, hz⟩ : ∃ z, zs[j]? = some z := ⟨_, List.getElem?_eq_getElem hj⟩
    obtain ⟨f0, n0⟩ := h.each z (List.mem_of_getElem? hz)
    match j, hj, hz with
    | 0, hj, hz => exact nodeC_zero hz f0.symm n0
    | m + 1, hj, hz =>
      obtain ⟨y, hy⟩ : ∃ y, zs[m]? = some y := ⟨_, List.getElem?_eq_getElem (by omega)⟩
      rw [nodeC_succ hz hy f0.symm n0, notUp_iff.2 (hu m y z hy hz), if_neg (by simp)]
  · obtain ⟨z, hz⟩ : ∃ z, zs[j]? = some z := ⟨_, List.getElem?_eq_getElem hj⟩
    obtain ⟨y, hy, ha, -⟩ := h.hung z (List.mem_of_getElem? hz)
    rw [parC_eq hz, if_neg (by have := atI_mem.2 ⟨y, hy, ha⟩; omega)]
  · obtain ⟨z, hz⟩ : ∃ z, zs[j]? = some z := ⟨_, List.getElem?_eq_getElem hj⟩
    obtain ⟨y, hy, ha, ho⟩ := h.hung z (List.mem_of_getElem? hz)
    rcases atI_range zs (par z.path) with ⟨-, h2⟩ | ⟨k, y', hk, -, hy', ha'⟩
    · rw [h2 y hy] at ha; cases ha
    · have he : y' = y := up_one h.up (List.mem_of_getElem? hy') hy ha' ha
      rw [ownC_eq hz hk hy', he, if_neg (by simpa using ho)]
theorem fault_good {zs : List Zn} : Tre.fault zs = 0 ↔ Good zs := ⟨good_of, Good.fault⟩
/-- The parent of the top is the top. -/
theorem par_of_top {z : Zn} (h : isAt top z = true) : par z.path = top := by
  have h1 := isAt_iff.1 h
  unfold key at h1
  unfold par
  rw [h1]
  rfl
/-- What is left of a tree where each that nobody owns is left: a tree. -/
theorem Good.part {zs : List Zn} (h : Good zs) (f : Zn → Bool) (hf : ∀ z ∈ zs, z.owner = 0 → f z = true) : Good (zs.filter f) := by
  refine ⟨Nat.le_trans (List.length_filter_le _ _) h.few, fun z hz => h.each z ((List.mem_filter.1 hz).1), h.up.filter _, ?_, fun z hz => ?_⟩
  · obtain ⟨z, hz, ha⟩ := h.top
    obtain ⟨y, hy, hb, ho⟩ := h.hung z hz
    rw [par_of_top ha] at hb
    exact ⟨y, List.mem_filter.2 ⟨hy, hf y hy ho⟩, hb⟩
  · obtain ⟨y, hy, hb, ho⟩ := h.hung z ((List.mem_filter.1 hz).1)
    exact ⟨y, List.mem_filter.2 ⟨hy, hf y hy ho⟩, hb, ho⟩
/-- A node of a tree is got of a part of it just if it is in that part. -/
theorem Good.got {zs : List Zn} (h : Good zs) {f : Zn → Bool} (hg : Good (zs.filter f)) {z : Zn} (hz : z ∈ zs) : ((getT (zs.filter f) z.path).1 == 0) = f z := by
  have hA : asked (zs.filter f) z.path = 0 := by unfold asked; rw [hg.fault, if_neg (by simp)]; exact (h.each z hz).1
  have hzz : isAt z.path z = true := isAt_iff.2 rfl
  cases hfz : f z with
  | true =>
    rcases atI_range (zs.filter f) z.path with ⟨-, h2⟩ | ⟨k, y, hk, -, hy, -⟩
    · rw [h2 z (List.mem_filter.2 ⟨hz, hfz⟩)] at hzz; cases hzz
    · rw [getT_ok hA hk hy]; rfl
  | false =>
    have hm : atI (zs.filter f) z.path < 0 := by
      rcases atI_range (zs.filter f) z.path with ⟨h1, -⟩ | ⟨k, y, -, -, hy, ha⟩
      · omega
      · have hy2 := List.mem_filter.1 (List.mem_of_getElem? hy)
        have := up_one h.up hy2.1 hz ha hzz
        rw [this, hfz] at hy2
        exact absurd hy2.2 (by simp)
    rw [getT_none hA hm]; rfl
end Tre
end Go.Proofs.YtjlmkjcahnnjpaaGreatDoor

/- all that FnOwned asks of what was dropped; the laws' lwHas, lwBig. -/
namespace Go.Proofs.YtjlmkjcahnnjpaaGreatDoor
open Go.RowKit
theorem drop_all {zs : List Zn} {ids : List Int} (h0 : (dropV zs ids).1 = 0) :
    zs.length ≤ 20 ∧ dropV zs ids = (0, ⟨#[]⟩, dropL ids zs) ∧ Tre.fault (dropL ids zs) = 0 ∧ ∀ z ∈ zs, ((Tre.getT (dropL ids zs) z.path).1 == 0) = !goneB ids z := by
  unfold dropV at h0 ⊢
  split at h0
  · rename_i h; exact absurd h0 h
  rename_i hf
  have hf : Tre.fault zs = 0 := by simpa using hf
  split at h0
  · cases h0
  rename_i h9
  have hG := Tre.good_of hf
  have hP : Tre.Good (dropL ids zs) := hG.part _ (fun z _ ho => by unfold goneB; simp [ho])
  refine ⟨hG.few, by rw [if_neg (by simpa using hf), if_neg h9], hP.fault, fun z hz => ?_⟩
  exact hG.got hP hz
theorem dropL_count {ids : List Int} {zs : List Zn} {k : Nat} {z : Zn} (h : zs[k]? = some z) : (dropL ids (zs.take (k + 1))).length = (dropL ids (zs.take k)).length + (if goneB ids z = true then 0 else 1) := by
  rw [dropL_take h, List.length_append]
  split <;> simp
theorem dropL_some (ids : List Int) (zs : List Zn) (k : Nat) : (dropL ids (zs.take k)).length ≤ k :=
  Nat.le_trans (dropL_len _ _) (by rw [List.length_take]; omega)

set_option maxHeartbeats 400000 in
theorem lwBigO_any (ad : Option Addr) (len cap : Nat) (w : World) :
    Calls Tryz.prog 4 #[.slice ad len cap] w fun e w' => e = .returned (.bool (decide (1048576 < len))) ∧ w' = w := by
  go_enter Tryz.func4, Tryz.ntmps4
  go_wp2
  go_ret
  exact ⟨ret_bool (by rw [Bool.eq_iff_iff]; simp; omega), rfl⟩
set_option maxHeartbeats 1000000 in
theorem lwHas_all (v : Value) (l : List Int) (x : Int) (w : World) (hS : ISlice w v l) :
    Calls Tryz.prog 9 #[v, .int .i64 x] w fun e w' => e = .returned (.bool (hasI l x)) ∧ w' = w := by
  obtain ⟨a, cap, rfl, hlc, hcm, hy⟩ := hS
  have HX : Hid (0 < l.length → ∃ b off, a = some ⟨b, off, none⟩ ∧ b < w.heap.size ∧ NumsAt w b off l) := hy
  clear hy
  unfold maxLen at hcm
  go_enter Tryz.func9, Tryz.ntmps9
  go_wp2
  go_loop [5] (fun iv => ∃ (k : Nat), k ≤ l.length ∧ iv = .int .i64 k ∧ Hid (∀ (j : Nat) y, j < k → l[j]? = some y → ¬ x = y)) (fun iv => l.length - (intOf iv).toNat)
  case atStart => exact ⟨0, Nat.zero_le _, rfl, fun j y hj _ => absurd hj (by omega)⟩
  case round =>
    obtain ⟨k, hk, rfl, HA⟩ := hrel
    by_cases hlt : k < l.length
    · obtain ⟨s, hsk⟩ : ∃ s, l[k]? = some s := ⟨_, List.getElem?_eq_getElem hlt⟩
      obtain ⟨b, off, rfl, hb, hN⟩ := HX.out (by omega)
      have d0 := hN k s hsk
      have HK : Hid (l[k]? = some s) := hsk
      clear hN hsk
      by_cases hne : s = x
      · have HH : Hid (true = hasI l x) := by
          show true = hasI l x
          unfold hasI
          exact (List.any_eq_true.2 ⟨s, List.mem_of_getElem? HK.out, by simp [hne]⟩).symm
        go_wp2
        go_ret
        exact ⟨ret_bool HH.out, rfl⟩
      · go_wp2
        refine ⟨⟨k + 1, by omega, by go_num, fun j y hj hy => ?_⟩, by simp [intOf]; omega⟩
        by_cases hjk : j = k
        · subst hjk
          rw [HK.out] at hy
          cases hy
          exact fun e => hne e.symm
        · exact HA.out j y (by omega) hy
    · have HH : Hid (false = hasI l x) := by
        show false = hasI l x
        unfold hasI
        symm
        rw [List.any_eq_false]
        intro y hy
        obtain ⟨j, hj⟩ := List.getElem?_of_mem hy
        have := HA.out j y (by have := (List.getElem?_eq_some_iff.1 hj).1; omega) hj
        simpa using this
      go_wp2
      go_ret
      exact ⟨ret_bool HH.out, rfl⟩
end Go.Proofs.YtjlmkjcahnnjpaaGreatDoor

/- laws.FnOwned, walked: it answers true at every code. -/
namespace Go.Proofs.YtjlmkjcahnnjpaaGreatDoor
open Go.RowKit
set_option maxHeartbeats 400000 in
theorem lawOwned_big (ad : Option Addr) (len cap : Nat) (w : World) (hl : 1048576 < len) :
    Calls Tryz.prog 3 #[.slice ad len cap] w fun e w' => e = .returned (.bool true) ∧ Ext w w' := by
  have hbig : decide (1048576 < len) = true := by simpa using hl
  have hB := lwBigO_any ad len cap w
  rw [hbig] at hB
  clear hbig
  go_enter Tryz.func3, Tryz.ntmps3
  go_wp2_with fail
  refine hB.mono ?_
  rintro e w0 ⟨rfl, hw⟩
  subst hw
  clear hB
  go_wp2
  go_ret
  exact ⟨rfl, Ext.refl _⟩
/-- What the law holds while it goes on. -/
def OwSt (w0 : World) (v u rv : Value) (zs rs : List Zn) (ids : List Int) (br : Nat) (W : World) : Prop :=
  NSlice W v zs ∧ NSlice W rv rs ∧ ISlice W u ids ∧ BoxAt W br 0 ⟨#[]⟩ rv ∧ Ext w0 W ∧ Gd W
theorem OwSt.ext {w0 W W' : World} {v u rv : Value} {zs rs : List Zn} {ids : List Int} {br : Nat} (h : OwSt w0 v u rv zs rs ids br W) (he : Ext W W') : OwSt w0 v u rv zs rs ids br W' :=
  ⟨h.1.ext he, h.2.1.ext he, h.2.2.1.ext he, h.2.2.2.1.ext he, h.2.2.2.2.1.trans he, h.2.2.2.2.2.ext he⟩
theorem NSlice.oneO {W : World} {g off cap n : Nat} {zs : List Zn} (h : NSlice W (.slice (some ⟨g, off, none⟩) n cap) zs) (hp : 0 < zs.length) : NodesAt W g off zs ∧ n ≤ cap ∧ cap ≤ maxLen := by
  obtain ⟨a, cap', he, h2, h3, h4⟩ := h
  obtain ⟨b', off', ha, -, hN⟩ := h4 hp
  injection he with e1 e2 e3
  subst e3
  rw [← e1] at ha
  injection ha with ha
  injection ha with ha1 ha2 _
  subst ha1 ha2
  exact ⟨hN, by omega, h3⟩

set_option maxHeartbeats 8000000 in
set_option maxRecDepth 100000 in
theorem lawOwned (cv : Value) (w : World) (hg : Gd w) (hc : CodeOk w w.heap.size cv) :
    Calls Tryz.prog 3 #[cv] w fun e w' => e = .returned (.bool true) ∧ Ext w w' := by
  have hc' := hc
  obtain ⟨ad, len, cap0, rfl, hl, -⟩ := hc'
  have HC : Hid (CodeOk w w.heap.size (.slice ad len cap0)) := hc
  have HG : Hid (Gd w) := hg
  have hbig : decide (1048576 < len) = false := by simpa using hl
  have hB := lwBigO_any ad len cap0 w
  rw [hbig] at hB
  clear hc hbig hg
  go_enter Tryz.func3, Tryz.ntmps3
  go_wp2_with fail
  refine hB.mono ?_
  rintro e w0 ⟨rfl, hw⟩
  subst hw
  clear hB
  go_wp2_with fail
  refine (drawDropOwned_any _ _ HC.out).mono ?_
  rintro e w1 ⟨g, off, cap, zs, gi, oi, ci, ids, rfl, hF, hi10, hO, hI, hE⟩
  have hpos := hF.1
  have h21 := hF.2
  have HS1 : Hid (NSlice w1 (.slice (some ⟨g, off, none⟩) zs.length cap) zs ∧ ISlice w1 (.slice (some ⟨gi, oi, none⟩) ids.length ci) ids ∧ Ext w0 w1 ∧ Gd w1) := ⟨hO.slice, hI, hE, HG.out.ext hE⟩
  clear hF hO hI hE HC HG
  have HIm : Hid (∀ W : World, Gd W → NSlice W (.slice (some ⟨g, off, none⟩) zs.length cap) zs → ISlice W (.slice (some ⟨gi, oi, none⟩) ids.length ci) ids → Calls Tryz.prog 6 #[.slice (some ⟨g, off, none⟩) zs.length cap, .slice (some ⟨gi, oi, none⟩) ids.length ci] W (ZRet W (dropV zs ids).1 (dropV zs ids).2.1 (dropV zs ids).2.2)) := fun W hg hS hI => implDropOwned_any _ _ zs ids W hg hS hI
  have HSp : Hid (∀ W : World, NSlice W (.slice (some ⟨g, off, none⟩) zs.length cap) zs → ISlice W (.slice (some ⟨gi, oi, none⟩) ids.length ci) ids → Calls Tryz.prog 7 #[.slice (some ⟨g, off, none⟩) zs.length cap, .slice (some ⟨gi, oi, none⟩) ids.length ci] W (ZRet W (dropV zs ids).1 (dropV zs ids).2.1 (dropV zs ids).2.2)) := fun W hS hI => specDropOwned_any _ _ zs ids W hS hI
  go_wp2_with fail
  refine (HIm.out _ HS1.out.2.2.2 HS1.out.1 HS1.out.2.1).mono ?_
  rintro e w2 ⟨v2, g2, rfl, hg2, hO2, hE2⟩
  have HS2 : Hid (NSlice w2 (.slice (some ⟨g, off, none⟩) zs.length cap) zs ∧ ISlice w2 (.slice (some ⟨gi, oi, none⟩) ids.length ci) ids ∧ Ext w0 w2 ∧ Gd w2) := ⟨HS1.out.1.ext hE2, HS1.out.2.1.ext hE2, HS1.out.2.2.1.trans hE2, HS1.out.2.2.2.ext hE2⟩
  clear HS1
  by_cases hc0 : (dropV zs ids).1 = 0
  · obtain ⟨h20, hset, hflt, hgot⟩ := drop_all hc0
    rw [hset] at hO2
    rw [hset]
    clear hset hc0 HIm HSp
    dsimp only at hO2
    have HGo : Hid (∀ z ∈ zs, ((Tre.getT (dropL ids zs) z.path).1 == 0) = !goneB ids z) := hgot
    obtain ⟨rs, hrs⟩ : ∃ rs, rs = dropL ids zs := ⟨_, rfl⟩
    have HRs : Hid (rs = dropL ids zs) := hrs
    rw [← hrs] at hO2 hflt
    rw [← hrs]
    have hrp : 0 < rs.length := (Tre.fault_len hflt).2.1
    obtain ⟨off2, cap2, rfl⟩ := hO2.at hrp
    have HFt : Hid (∀ W : World, Gd W → NSlice W (.slice (some ⟨g2, off2, none⟩) rs.length cap2) rs → Calls Tryz.prog 10 #[.slice (some ⟨g2, off2, none⟩) rs.length cap2] W fun e w' => e = .returned (.int .i64 0) ∧ Ext W w') := fun W hg hS => by have h := implTreeFault_any _ rs W hg hS; rw [hflt] at h; exact h
    have HGz : Hid (∀ (p : ByteArray) (W : World), Gd W → NSlice W (.slice (some ⟨g2, off2, none⟩) rs.length cap2) rs → Calls Tryz.prog 8 #[.slice (some ⟨g2, off2, none⟩) rs.length cap2, .string p] W (ZRet W (Tre.getT rs p).1 (Tre.getT rs p).2.1 (Tre.getT rs p).2.2)) := fun p W hg hS => implGetZ_any _ rs p W hg hS
    have HT3 : Hid (OwSt w0 (.slice (some ⟨g, off, none⟩) zs.length cap) (.slice (some ⟨gi, oi, none⟩) ids.length ci) (.slice (some ⟨g2, off2, none⟩) rs.length cap2) zs rs ids w2.heap.size (w2.alloc (.cells #[.int .i64 0, .string ⟨#[]⟩, .slice (some ⟨g2, off2, none⟩) rs.length cap2] 29))) :=
      ⟨HS2.out.1.ext ((Ext.refl _).alloc _), hO2.slice.ext ((Ext.refl _).alloc _), HS2.out.2.1.ext ((Ext.refl _).alloc _), box_new w2 _ _ _ _, HS2.out.2.2.1.alloc _, HS2.out.2.2.2.ext ((Ext.refl _).alloc _)⟩
    clear hO2 hE2 hg2 hgot hflt HS2 hrs
    unfold zr
    go_wp2
    have hz2 := HT3.out
    generalize (w2.alloc (.cells #[.int .i64 0, .string ⟨#[]⟩, .slice (some ⟨g2, off2, none⟩) rs.length cap2] 29)) = w3 at *
    generalize w2.heap.size = br at *
    clear hz2
    go_loopw [6, 7] (fun gv iv wr => ∃ (i n : Nat), i ≤ zs.length ∧ iv = .int .i64 i ∧ gv = .int .i64 n ∧ n ≤ i ∧ Hid (n + (dropL ids (zs.take i)).length = i) ∧ Hid (OwSt w0 (.slice (some ⟨g, off, none⟩) zs.length cap) (.slice (some ⟨gi, oi, none⟩) ids.length ci) (.slice (some ⟨g2, off2, none⟩) rs.length cap2) zs rs ids br wr)) (fun _ iv _ => zs.length - (intOf iv).toNat)
    case atStart => exact ⟨0, 0, by omega, rfl, rfl, by omega, by show _ = _; simp [dropL], HT3⟩
    case round =>
      obtain ⟨i, n, hi, rfl, rfl, hni, HN, HTr⟩ := hrel
      by_cases hlt : i < zs.length
      · obtain ⟨z, hz⟩ : ∃ z, zs[i]? = some z := ⟨_, List.getElem?_eq_getElem hlt⟩
        have HZ : Hid (zs[i]? = some z) := hz
        have hgo := HGo.out z (List.mem_of_getElem? hz)
        rw [← HRs.out] at hgo
        have HGc := HGz.out z.path
        obtain ⟨c, hcc⟩ : ∃ c, c = (Tre.getT rs z.path).1 := ⟨_, rfl⟩
        obtain ⟨t, htt⟩ : ∃ c, c = (Tre.getT rs z.path).2.1 := ⟨_, rfl⟩
        obtain ⟨ns, hns⟩ : ∃ c, c = (Tre.getT rs z.path).2.2 := ⟨_, rfl⟩
        rw [← hcc, ← htt, ← hns] at HGc
        rw [← hcc] at hgo
        have HGc : Hid (∀ (W : World), Gd W → NSlice W (.slice (some ⟨g2, off2, none⟩) rs.length cap2) rs → Calls Tryz.prog 8 #[.slice (some ⟨g2, off2, none⟩) rs.length cap2, .string z.path] W (ZRet W c t ns)) := HGc
        clear hcc htt hns
        have HCn := dropL_count (ids := ids) hz
        obtain ⟨hv, -, -, ⟨-, -, -, a6⟩, -⟩ := HTr.out
        obtain ⟨hNv, hcv1, hcv2⟩ := hv.oneO hpos
        obtain ⟨d0, -, -, d3, -⟩ := hNv i z hz
        unfold maxLen at hcv2
        have hfz : ∀ (c : Int) (t : ByteArray) (v : Value) (w : World), (Instr.field 29 (.agg #[.int .i64 c, .string t, v]) 0).run Tryz.prog w = .ok (.int .i64 c) w := fun _ _ _ _ => by kernel_rfl
        clear hv hNv hz
        by_cases ho : z.owner = 0
        · have hgb : goneB ids z = false := by unfold goneB; simp [ho]
          rw [hgb] at hgo HCn
          have HNn : Hid (n + (dropL ids (zs.take (i + 1))).length = i + 1) := by show _ = _; have := HN.out; rw [HCn, if_neg (by simp)]; omega
          have hgo : (c == 0) = true := hgo
          clear HCn hgb
          rw [ho] at d3
          go_wp2
          go_region_held3 (fun W => W.cell? ⟨br, 2, none⟩ = some (.slice (some ⟨g2, off2, none⟩) rs.length cap2) ∧ W.cell? ⟨g, off + i * 5, none⟩ = some (.string z.path)) (first | exact ⟨a6, d0⟩ | exact ⟨A6, D0⟩ | go_keep) (first | (go_at_call 8; refine (HGc.out _ (HTr.out.ext (by first | exact (Ext.refl _).drew | exact Ext.refl _)).2.2.2.2.2 (HTr.out.ext (by first | exact (Ext.refl _).drew | exact Ext.refl _)).2.1).mono ?_; rintro e w5 ⟨v5, g5, rfl, -, hO5, hb5⟩; obtain ⟨ad5, cap5, rfl⟩ : ∃ ad' cap', v5 = .slice ad' ns.length cap' := (by obtain ⟨a0, c0, h0, -⟩ := hO5; exact ⟨a0, c0, h0⟩); have HT5 : Hid (OwSt w0 (.slice (some ⟨g, off, none⟩) zs.length cap) (.slice (some ⟨gi, oi, none⟩) ids.length ci) (.slice (some ⟨g2, off2, none⟩) rs.length cap2) zs rs ids br w5) := HTr.out.ext (by first | exact ((Ext.refl _).drew).trans hb5 | exact hb5); have HX5 : Hid (w5.cell? ⟨br, 2, none⟩ = some (.slice (some ⟨g2, off2, none⟩) rs.length cap2) ∧ w5.cell? ⟨g, off + i * 5, none⟩ = some (.string z.path) ∧ w5.cell? ⟨g, off + i * 5 + 3, none⟩ = some (.int .i64 z.owner)) := (by obtain ⟨hv5, -, -, ⟨-, -, -, t1⟩, -⟩ := HT5.out; obtain ⟨t2, -, -, t3, -⟩ := (hv5.oneO hpos).1 i z HZ.out; exact ⟨t1, t2, t3⟩); obtain ⟨A6, D0, D3⟩ := HX5.out; clear hb5 hO5; unfold zr))
          all_goals
            rw [ho] at D3
            clear A6 D0
            go_wp2
            exact ⟨⟨i + 1, n, by omega, by go_num, rfl, by omega, HNn, HT5⟩, by simp [intOf]; omega⟩
        · have e1 : (z.owner != 0) = true := by simp [ho]
          have HLw : Hid (∀ W : World, ISlice W (.slice (some ⟨gi, oi, none⟩) ids.length ci) ids → Calls Tryz.prog 9 #[.slice (some ⟨gi, oi, none⟩) ids.length ci, .int .i64 z.owner] W fun e w' => e = .returned (.bool (goneB ids z)) ∧ w' = W) := fun W hI => by
            have h := lwHas_all _ ids z.owner W hI
            have he : goneB ids z = hasI ids z.owner := by unfold goneB; rw [e1, Bool.true_and]
            rw [he]; exact h
          cases hgb : goneB ids z with
          | false =>
            rw [hgb] at hgo HCn HLw
            have HNn : Hid (n + (dropL ids (zs.take (i + 1))).length = i + 1) := by show _ = _; have := HN.out; rw [HCn, if_neg (by simp)]; omega
            have hgo : (c == 0) = true := hgo
            clear HCn hgb
            go_wp2
            go_region_held3 (fun W => W.cell? ⟨br, 2, none⟩ = some (.slice (some ⟨g2, off2, none⟩) rs.length cap2) ∧ W.cell? ⟨g, off + i * 5, none⟩ = some (.string z.path)) (first | exact ⟨a6, d0⟩ | exact ⟨A6, D0⟩ | go_keep) (first | (go_at_call 8; refine (HGc.out _ (HTr.out.ext (by first | exact (Ext.refl _).drew | exact Ext.refl _)).2.2.2.2.2 (HTr.out.ext (by first | exact (Ext.refl _).drew | exact Ext.refl _)).2.1).mono ?_; rintro e w5 ⟨v5, g5, rfl, -, hO5, hb5⟩; obtain ⟨ad5, cap5, rfl⟩ : ∃ ad' cap', v5 = .slice ad' ns.length cap' := (by obtain ⟨a0, c0, h0, -⟩ := hO5; exact ⟨a0, c0, h0⟩); have HT5 : Hid (OwSt w0 (.slice (some ⟨g, off, none⟩) zs.length cap) (.slice (some ⟨gi, oi, none⟩) ids.length ci) (.slice (some ⟨g2, off2, none⟩) rs.length cap2) zs rs ids br w5) := HTr.out.ext (by first | exact ((Ext.refl _).drew).trans hb5 | exact hb5); have HX5 : Hid (w5.cell? ⟨br, 2, none⟩ = some (.slice (some ⟨g2, off2, none⟩) rs.length cap2) ∧ w5.cell? ⟨g, off + i * 5, none⟩ = some (.string z.path) ∧ w5.cell? ⟨g, off + i * 5 + 3, none⟩ = some (.int .i64 z.owner)) := (by obtain ⟨hv5, -, -, ⟨-, -, -, t1⟩, -⟩ := HT5.out; obtain ⟨t2, -, -, t3, -⟩ := (hv5.oneO hpos).1 i z HZ.out; exact ⟨t1, t2, t3⟩); obtain ⟨A6, D0, D3⟩ := HX5.out; clear hb5 hO5; unfold zr))
            all_goals
              clear A6 D0
              go_wp2_with fail
              refine (HLw.out _ HT5.out.2.2.1).mono ?_
              rintro e w6 ⟨rfl, hw⟩
              subst hw
              go_wp2
              exact ⟨⟨i + 1, n, by omega, by go_num, rfl, by omega, HNn, HT5⟩, by simp [intOf]; omega⟩
          | true =>
            rw [hgb] at hgo HCn HLw
            have HNn : Hid (n + 1 + (dropL ids (zs.take (i + 1))).length = i + 1) := by show _ = _; have := HN.out; rw [HCn, if_pos rfl]; omega
            have hgo : (c == 0) = false := hgo
            clear HCn hgb
            go_wp2
            go_region_held3 (fun W => W.cell? ⟨br, 2, none⟩ = some (.slice (some ⟨g2, off2, none⟩) rs.length cap2) ∧ W.cell? ⟨g, off + i * 5, none⟩ = some (.string z.path)) (first | exact ⟨a6, d0⟩ | exact ⟨A6, D0⟩ | go_keep) (first | (go_at_call 8; refine (HGc.out _ (HTr.out.ext (by first | exact (Ext.refl _).drew | exact Ext.refl _)).2.2.2.2.2 (HTr.out.ext (by first | exact (Ext.refl _).drew | exact Ext.refl _)).2.1).mono ?_; rintro e w5 ⟨v5, g5, rfl, -, hO5, hb5⟩; obtain ⟨ad5, cap5, rfl⟩ : ∃ ad' cap', v5 = .slice ad' ns.length cap' := (by obtain ⟨a0, c0, h0, -⟩ := hO5; exact ⟨a0, c0, h0⟩); have HT5 : Hid (OwSt w0 (.slice (some ⟨g, off, none⟩) zs.length cap) (.slice (some ⟨gi, oi, none⟩) ids.length ci) (.slice (some ⟨g2, off2, none⟩) rs.length cap2) zs rs ids br w5) := HTr.out.ext (by first | exact ((Ext.refl _).drew).trans hb5 | exact hb5); have HX5 : Hid (w5.cell? ⟨br, 2, none⟩ = some (.slice (some ⟨g2, off2, none⟩) rs.length cap2) ∧ w5.cell? ⟨g, off + i * 5, none⟩ = some (.string z.path) ∧ w5.cell? ⟨g, off + i * 5 + 3, none⟩ = some (.int .i64 z.owner)) := (by obtain ⟨hv5, -, -, ⟨-, -, -, t1⟩, -⟩ := HT5.out; obtain ⟨t2, -, -, t3, -⟩ := (hv5.oneO hpos).1 i z HZ.out; exact ⟨t1, t2, t3⟩); obtain ⟨A6, D0, D3⟩ := HX5.out; clear hb5 hO5; unfold zr))
            all_goals
              clear A6 D0
              go_wp2_with fail
              refine (HLw.out _ HT5.out.2.2.1).mono ?_
              rintro e w6 ⟨rfl, hw⟩
              subst hw
              go_wp2
              exact ⟨⟨i + 1, n + 1, by omega, by go_num, by go_num, by omega, HNn, HT5⟩, by simp [intOf]; omega⟩
      · have hil : i = zs.length := by omega
        subst hil
        have hnn : n + rs.length = zs.length := by have h := HN.out; rw [List.take_length] at h; rw [HRs.out]; exact h
        obtain ⟨-, -, -, ⟨-, -, -, a6⟩, -⟩ := HTr.out
        have hwr : IntKind.i64.wrap ((zs.length : Int) - (n : Int)) = (rs.length : Int) := by rw [IntKind.wrap_i64]; omega
        have hsb : (zs.length : Int) - (n : Int) = (rs.length : Int) := by omega
        have hll : ((rs.length : Int) == (rs.length : Int)) = true := by simp
        clear hnn
        go_wp2_with fail
        refine (HFt.out _ HTr.out.2.2.2.2.2 HTr.out.2.1).mono ?_
        rintro e w9 ⟨rfl, hb9⟩
        have HT9 : Hid (OwSt w0 (.slice (some ⟨g, off, none⟩) zs.length cap) (.slice (some ⟨gi, oi, none⟩) ids.length ci) (.slice (some ⟨g2, off2, none⟩) rs.length cap2) zs rs ids br w9) := HTr.out.ext hb9
        have A6 : w9.cell? ⟨br, 2, none⟩ = some (.slice (some ⟨g2, off2, none⟩) rs.length cap2) := HT9.out.2.2.2.1.2.2.2
        clear hb9 a6
        go_wp2
        go_ret
        exact ⟨rfl, HT9.out.2.2.2.2.1⟩
  · obtain ⟨ad2, cap2, rfl⟩ : ∃ ad' cap', v2 = .slice ad' (dropV zs ids).2.2.length cap' := by obtain ⟨a0, c0, h0, -⟩ := hO2; exact ⟨a0, c0, h0⟩
    clear hO2 hE2 hg2 HIm
    unfold zr
    generalize (dropV zs ids).1 = c at *
    generalize (dropV zs ids).2.1 = t at *
    generalize (dropV zs ids).2.2 = rs at *
    have e0 : (c != 0) = true := by simp [hc0]
    have ecc : (c == c) = true := by simp
    have hfz : ∀ (c : Int) (t : ByteArray) (v : Value) (w : World), (Instr.field 29 (.agg #[.int .i64 c, .string t, v]) 0).run Tryz.prog w = .ok (.int .i64 c) w := fun _ _ _ _ => by kernel_rfl
    go_wp2
    go_region_with (go_at_call 7; refine (HSp.out _ (HS2.out.1.ext (((Ext.refl _).alloc _).drew)) (HS2.out.2.1.ext (((Ext.refl _).alloc _).drew))).mono ?_; rintro e w3 ⟨v3, g3, rfl, hg3, hO3, hb3⟩; obtain ⟨q, q0, q1, q2⟩ := (box_new w2 c t (.slice ad2 rs.length cap2) 29).ext (((Ext.refl _).drew).trans hb3); unfold zr)
    all_goals
      go_wp2
      go_ret
      exact ⟨ret_bool (by simp), HS2.out.2.2.1.trans ((((Ext.refl _).alloc _).drew).trans hb3)⟩
theorem lawOwned_all (v : Value) (w : World) (hg : Gd w) (h : ∃ ad len cap, v = .slice ad len cap ∧ (len ≤ 1048576 → CodeOk w w.heap.size v)) :
    Calls Tryz.prog 3 #[v] w fun e w' => e = .returned (.bool true) ∧ Ext w w' := by
  obtain ⟨ad, len, cap, rfl, hc⟩ := h
  by_cases hl : 1048576 < len
  · exact lawOwned_big ad len cap w hl
  · exact lawOwned _ w hg (hc (by omega))
end Go.Proofs.YtjlmkjcahnnjpaaGreatDoor
