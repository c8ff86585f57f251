/- D2, D3, V1, V2, V3, D4, D5, D6, D7, D8, D9, Q2, I8, in one text. -/
import Derived.Test.YtlnkheopmagacaaDoorD1
import Derived.Test.YtlnkheopmagacaaDoorS5
import Derived.Deep.RegionWith
import Derived.Test.YtlnkheopmagacaaDoorProg
import Derived.Test.YtlnkheopmagacaaDoorBase
import Derived.Test.YtlnkheopmagacaaDoorS1
import Derived.Laws.MakeOwn
import Derived.Below
import Derived.OwnWalk
import Derived.Laws.OwnMore
import Derived.Test.YtlnkheopmagacaaDoorT9
import Derived.Test.YtlnkheopmagacaaDoorQ1
import Derived.Test.YtlnkheopmagacaaDoorT4
import Derived.Test.YtlnkheopmagacaaDoorI7
/- the draws of paths and names: spec.l1DrawName, l1Draw, l1Bent, DrawJoinPath, DrawIsUnder: texts of at most 30 bytes; nothing that was there turns. -/
namespace Go.Proofs.YtlnkheopmagacaaDoor
open Go.RowKit

/-- What a draw of a text leaves. -/
def Drawn (b a k : Nat) (cv : Value) (m : Nat) (w : World) (e : Ending) (w' : World) : Prop :=
  ∃ (t : ByteArray) (a' : Nat), e = .returned (.string t) ∧ t.size ≤ m ∧ a' ≤ a + k ∧ SrcAt w' b a' cv ∧ Upd b w w'

theorem join_short (t c : ByteArray) (hc : c.size = 1) : ∃ t', t' = mkB (Pth.joined t.data.toList c.data.toList) ∧ t'.size ≤ t.size + 2 := by
  refine ⟨_, rfl, ?_⟩
  rw [← len_eq, mkB_list]
  unfold Pth.joined
  split
  · rename_i h
    have h1 := len_eq t
    rw [h] at h1
    simp only [List.length_cons, len_eq, hc]
    simp at h1
    omega
  · simp only [List.length_append, List.length_cons, len_eq, hc]
    omega

set_option maxHeartbeats 1000000 in
set_option maxRecDepth 100000 in
theorem draw_any (b a : Nat) (cv : Value) (w : World) (h : SrcAt w b a cv) (ha : a ≤ 900) :
    Calls Tryd.prog 54 #[.pointer (some ⟨b, 0, none⟩)] w (Drawn b a 4 cv 7 w) := by
  have hbl : b < w.heap.size := h.2.2.2.1
  have HS : Hid (SrcAt w b a cv) := h
  clear h
  go_enter Tryd.func54, Tryd.ntmps54
  go_wp2_with fail
  refine (next_any b a cv 4 _ (by exact HS.out) (by omega) (by omega) (by omega)).mono ?_
  rintro e w1 ⟨r, q, rfl, hr0, hr1, rfl⟩
  obtain ⟨k0, rfl⟩ := Int.eq_ofNat_of_zero_le hr0
  go_wp2
  go_loopw [3, 4] (fun pv kv wr => ∃ (t : ByteArray) (k a' : Nat), pv = .string t ∧ kv = .int .i64 k ∧ k ≤ 3 ∧ t.size + 2 * k ≤ 7 ∧ a' + k ≤ a + 4 ∧ Hid (SrcAt wr b a' cv) ∧ Hid (Upd b w wr)) (fun _ kv _ => (intOf kv).toNat)
  case atStart => exact ⟨_, k0, a + 1, rfl, rfl, by omega, by show 1 + 2 * k0 ≤ 7; omega, by omega, (HS.out.set (a + 1)).drewN _, (Upd.set w _).drewN _⟩
  case round =>
    obtain ⟨t, k, a', rfl, rfl, hk3, htk, hak, HS2, HU⟩ := hrel
    by_cases hk : 0 < k
    · have hlr : b < wr.heap.size := HS2.out.lt
      have hne : ¬ b = wr.heap.size := by omega
      have ht : t.size ≤ 1048576 := by omega
      go_wp2_with fail
      refine (next_any b a' cv 3 _ (by exact HS2.out.alloc _) (by omega) (by omega) (by omega)).mono ?_
      rintro e w1 ⟨r, q2, rfl, hr0, hr1, rfl⟩
      have hd : r = 0 ∨ r = 1 ∨ r = 2 := by omega
      clear hr0 hr1
      rcases hd with rfl | rfl | rfl
      · go_wp2_with fail
        refine (l1Join_any t ⟨#[97]⟩ _ ht (by decide)).mono ?_
        rintro e w4 ⟨rfl, hw⟩
        subst hw
        obtain ⟨t', ht', hts⟩ := join_short t ⟨#[97]⟩ rfl
        rw [← ht']
        clear ht'
        go_wp2
        exact ⟨⟨t', k - 1, a' + 1, rfl, by rw [show ((k - 1 : Nat) : Int) = (k : Int) - 1 from by omega], by omega, by omega, by omega, ((HS2.out.set (a' + 1)).alloc _).drewN _, HU.out.trans (((Upd.set wr _).trans (Upd.alloc _ _ (by simp; omega))).drewN _)⟩, by simp [intOf]; omega⟩
      · go_wp2_with fail
        refine (l1Join_any t ⟨#[98]⟩ _ ht (by decide)).mono ?_
        rintro e w4 ⟨rfl, hw⟩
        subst hw
        obtain ⟨t', ht', hts⟩ := join_short t ⟨#[98]⟩ rfl
        rw [← ht']
        clear ht'
        go_wp2
        exact ⟨⟨t', k - 1, a' + 1, rfl, by rw [show ((k - 1 : Nat) : Int) = (k : Int) - 1 from by omega], by omega, by omega, by omega, ((HS2.out.set (a' + 1)).alloc _).drewN _, HU.out.trans (((Upd.set wr _).trans (Upd.alloc _ _ (by simp; omega))).drewN _)⟩, by simp [intOf]; omega⟩
      · go_wp2_with fail
        refine (l1Join_any t ⟨#[99]⟩ _ ht (by decide)).mono ?_
        rintro e w4 ⟨rfl, hw⟩
        subst hw
        obtain ⟨t', ht', hts⟩ := join_short t ⟨#[99]⟩ rfl
        rw [← ht']
        clear ht'
        go_wp2
        exact ⟨⟨t', k - 1, a' + 1, rfl, by rw [show ((k - 1 : Nat) : Int) = (k : Int) - 1 from by omega], by omega, by omega, by omega, ((HS2.out.set (a' + 1)).alloc _).drewN _, HU.out.trans (((Upd.set wr _).trans (Upd.alloc _ _ (by simp; omega))).drewN _)⟩, by simp [intOf]; omega⟩
    · go_wp2
      go_ret
      exact ⟨t, a', rfl, by omega, by omega, HS2.out, HU.out⟩

theorem Drawn.of_upd {b a k k2 a1 m m2 : Nat} {cv : Value} {w w1 : World} {e : Ending} {w' : World} (hu : Upd b w w1) (ha : a1 + k2 ≤ a + k) (hm : m2 ≤ m) (h : Drawn b a1 k2 cv m2 w1 e w') : Drawn b a k cv m w e w' := by
  obtain ⟨t, a', h1, h2, h3, h4, h5⟩ := h
  exact ⟨t, a', h1, by omega, by omega, h4, hu.trans h5⟩

set_option maxHeartbeats 2000000 in
set_option maxRecDepth 100000 in
theorem bent_any (b a : Nat) (cv : Value) (w : World) (h : SrcAt w b a cv) (ha : a ≤ 800) :
    Calls Tryd.prog 42 #[.pointer (some ⟨b, 0, none⟩)] w (Drawn b a 6 cv 30 w) := by
  have HS : Hid (SrcAt w b a cv) := h
  clear h
  go_enter Tryd.func42, Tryd.ntmps42
  go_wp2_with fail
  refine (draw_any b a cv _ (by exact HS.out) (by omega)).mono ?_
  rintro e w1 ⟨t, a1, rfl, ht, ha1, hS1, hU1⟩
  have HS1 : Hid (SrcAt w1 b a1 cv) := hS1
  have HU1 : Hid (Upd b w w1) := hU1
  have hl1 : b < w1.heap.size := hS1.lt
  clear hS1 hU1
  go_wp2_with fail
  refine (next_any b a1 cv 10 _ (by exact HS1.out) (by omega) (by omega) (by omega)).mono ?_
  rintro e w2 ⟨r, q, rfl, hr0, hr1, hw⟩
  have HS2 : Hid (SrcAt w2 b (a1 + 1) cv) := by rw [hw]; exact (HS1.out.set (a1 + 1)).drewN _
  have HU2 : Hid (Upd b w w2) := by rw [hw]; exact HU1.out.trans ((Upd.set w1 _).drewN _)
  have hl2 : b < w2.heap.size := HS2.out.lt
  have hne : ¬ b = w2.heap.size := by omega
  clear hw
  by_cases h0 : r = 0
  · subst h0
    go_wp2
    go_ret
    exact ⟨_, a1 + 1, rfl, by rw [ByteArray.size_append]; show t.size + 1 ≤ 30; omega, by omega, HS2.out, HU2.out⟩
  · have e0 : (r == 0) = false := by simp [h0]
    by_cases h1 : r = 1
    · subst h1
      go_wp2_with fail
      refine (next_any b (a1 + 1) cv 7 _ (by exact HS2.out.alloc _) (by omega) (by omega) (by omega)).mono ?_
      rintro e w3 ⟨r3, q3, rfl, hr30, hr31, rfl⟩
      have hd : r3 = 0 ∨ r3 = 1 ∨ r3 = 2 ∨ r3 = 3 ∨ r3 = 4 ∨ r3 = 5 ∨ r3 = 6 := by omega
      clear hr30 hr31
      rcases hd with rfl | rfl | rfl | rfl | rfl | rfl | rfl
      all_goals
        go_wp2
        go_ret
        exact ⟨_, a1 + 1 + 1, rfl, by decide, by omega, ((HS2.out.set (a1 + 1 + 1)).alloc _).drewN _, HU2.out.trans (((Upd.set w2 _).trans (Upd.alloc _ _ (by simp; omega))).drewN _)⟩
    · have e1 : (r == 1) = false := by simp [h1]
      go_wp2
      go_ret
      exact ⟨_, a1 + 1, rfl, by omega, by omega, HS2.out, HU2.out⟩
end Go.Proofs.YtlnkheopmagacaaDoor

/- spec.DrawJoinPath and DrawIsUnder: two texts of at most 30 bytes; nothing that was there turns. -/
namespace Go.Proofs.YtlnkheopmagacaaDoor
open Go.RowKit

set_option maxHeartbeats 400000 in
theorem source_any (cv : Value) (w : World) (ad : Option Addr) (len cap : Nat) (hcv : cv = .slice ad len cap) :
    Calls Tryd.prog 39 #[cv] w fun e w' => e = .returned (.pointer (some ⟨w.heap.size, 0, none⟩)) ∧ w' = w.alloc (.cells #[cv, .int .i64 0] 53) := by
  subst hcv
  go_enter Tryd.func39, Tryd.ntmps39
  go_wp2
  go_ret
  exact ⟨rfl, rfl⟩

theorem src_new {w : World} {cv : Value} (h : CodeOk w w.heap.size cv) : SrcAt (w.alloc (.cells #[cv, .int .i64 0] 53)) w.heap.size 0 cv :=
  ⟨by simp, by simp, by simp, by simp, h.below ((Below.refl _ _).alloc (Nat.le_refl _) _)⟩
theorem ext_of_upd {w w' : World} {o : Obj} (h : Upd w.heap.size (w.alloc o) w') : Ext w w' := Below.trans ((Below.refl _ _).alloc (Nat.le_refl _) _) h.1

/-- What a draw of two texts leaves. -/
def Two (w : World) (e : Ending) (w' : World) : Prop :=
  ∃ p n : ByteArray, e = .returned (.tuple #[.string p, .string n]) ∧ p.size ≤ 30 ∧ n.size ≤ 30 ∧ Ext w w'

end Go.Proofs.YtlnkheopmagacaaDoor

/- sums of numbers: what the specification and the program answer at a slice of numbers. -/
namespace Go.Proofs.YtlnkheopmagacaaDoor
open Go.RowKit

/-- One more number in a sum. -/
def Sm.step (n x : Int) : Int := (n * 31 + x + 1) % 1000003
def Sm.sum (l : List Int) : Int := l.foldl Sm.step 7
def Sm.is (n : Int) : Bool := decide (0 ≤ n) && decide (n ≤ 1000002)
def Sm.ok (l : List Int) : Bool := l.all Sm.is
def Sm.sumV (l : List Int) : Int × Int := if 200 < l.length then (2, 0) else if Sm.ok l = true then (0, Sm.sum l) else (3, 0)
theorem Sm.is_iff {n : Int} : Sm.is n = true ↔ 0 ≤ n ∧ n ≤ 1000002 := by unfold Sm.is; simp
theorem Sm.step_is (n x : Int) : 0 ≤ Sm.step n x ∧ Sm.step n x ≤ 1000002 := by unfold Sm.step; omega
theorem Sm.sum_take {l : List Int} {k : Nat} {x : Int} (h : l[k]? = some x) : Sm.sum (l.take (k + 1)) = Sm.step (Sm.sum (l.take k)) x := by
  obtain ⟨hk, rfl⟩ := List.getElem?_eq_some_iff.1 h
  unfold Sm.sum
  rw [List.take_succ_eq_append_getElem hk, List.foldl_append]; rfl
theorem Sm.sum_is (l : List Int) : 0 ≤ Sm.sum l ∧ Sm.sum l ≤ 1000002 := by
  rcases List.eq_nil_or_concat l with rfl | ⟨m, x, rfl⟩
  · decide
  · unfold Sm.sum; rw [List.concat_eq_append, List.foldl_append]; exact Sm.step_is _ _
theorem Sm.ok_at {l : List Int} {k : Nat} {x : Int} (h : l[k]? = some x) (ho : Sm.ok l = true) : 0 ≤ x ∧ x ≤ 1000002 := by
  unfold Sm.ok at ho
  rw [List.all_eq_true] at ho
  exact Sm.is_iff.1 (ho x (List.mem_of_getElem? h))
theorem Sm.ok_bad {l : List Int} {k : Nat} {x : Int} (h : l[k]? = some x) (hx : Sm.is x = false) : Sm.ok l = false := by
  unfold Sm.ok
  rw [List.all_eq_false]
  exact ⟨x, List.mem_of_getElem? h, by simp [hx]⟩
theorem Sm.ok_all {l : List Int} (h : ∀ j x, j < l.length → l[j]? = some x → Sm.is x = true) : Sm.ok l = true := by
  unfold Sm.ok
  rw [List.all_eq_true]
  intro x hx
  obtain ⟨j, hj⟩ := List.getElem?_of_mem hx
  exact h j x (List.getElem?_eq_some_iff.1 hj).1 hj
theorem Sm.sumV_many {l : List Int} (h : 200 < l.length) : Sm.sumV l = (2, 0) := by unfold Sm.sumV; rw [if_pos h]
theorem Sm.sumV_bad {l : List Int} (h : ¬ 200 < l.length) (ho : Sm.ok l = false) : Sm.sumV l = (3, 0) := by unfold Sm.sumV; rw [if_neg h, if_neg (by simp [ho])]
theorem Sm.sumV_ok {l : List Int} (h : ¬ 200 < l.length) (ho : Sm.ok l = true) : Sm.sumV l = (0, Sm.sum l) := by unfold Sm.sumV; rw [if_neg h, if_pos ho]

/-- The numbers l lie in block b, from off on. -/
def NumsAt (w : World) (b off : Nat) (l : List Int) : Prop := ∀ (i : Nat) x, l[i]? = some x → w.cell? ⟨b, off + i, none⟩ = some (.int .i64 x)
theorem NumsAt.ext {w w' : World} {b off : Nat} {l : List Int} (h : NumsAt w b off l) (hb : b < w.heap.size) (he : Ext w w') : NumsAt w' b off l := by
  intro i x hx
  exact ((Ext.cell he).1 _ _ hb).trans (h i x hx)
/-- The slice value v reads as the numbers l. -/
def ISlice (w : World) (v : Value) (l : List Int) : Prop :=
  ∃ a cap, v = .slice a l.length cap ∧ l.length ≤ cap ∧ cap ≤ maxLen ∧ (0 < l.length → ∃ b off, a = some ⟨b, off, none⟩ ∧ b < w.heap.size ∧ NumsAt w b off l)
theorem ISlice.ext {w w' : World} {v : Value} {l : List Int} (h : ISlice w v l) (he : Ext w w') : ISlice w' v l := by
  obtain ⟨a, cap, h1, h2, h3, h4⟩ := h
  refine ⟨a, cap, h1, h2, h3, fun h0 => ?_⟩
  obtain ⟨b, off, e, hb, hN⟩ := h4 h0
  exact ⟨b, off, e, Nat.lt_of_lt_of_le hb he.size, hN.ext hb he⟩

/-- Block r holds an IntResult that nobody has written yet, and may be written. -/
def IBox (w : World) (r : Nat) : Prop :=
  r < w.heap.size ∧ w.cell? ⟨r, 0, none⟩ = some (.int .i64 0) ∧ w.cell? ⟨r, 1, none⟩ = some (.int .i64 0) ∧ w.frozen? ⟨r, 0, none⟩ = false ∧ w.frozen? ⟨r, 1, none⟩ = false
theorem IBox.new (w : World) (t : TypeId) : IBox (w.alloc (.cells #[.int .i64 0, .int .i64 0] t)) w.heap.size := ⟨by simp, by simp, by simp, by simp, by simp⟩
theorem IBox.ext {w w2 : World} {r : Nat} (h : IBox w r) (he : Ext w w2) : IBox w2 r := by
  obtain ⟨hc, hf⟩ := Ext.cell he
  obtain ⟨h1, h2, h3, h5, h6⟩ := h
  exact ⟨Nat.lt_of_lt_of_le h1 he.size, (hc _ _ h1).trans h2, (hc _ _ h1).trans h3, (hf _ _ h1).trans h5, (hf _ _ h1).trans h6⟩
theorem Ext.two {w w2 : World} (h : Ext w w2) (a b : Value) : Ext w ((w2.setCell ⟨w.heap.size, 0, none⟩ a).setCell ⟨w.heap.size, 1, none⟩ b) :=
  (h.setCell (p := ⟨w.heap.size, 0, none⟩) (Nat.le_refl _) a).setCell (p := ⟨w.heap.size, 1, none⟩) (Nat.le_refl _) b

def Sm.pairV (x y : Int) : Int × Int := Sm.sumV [1, x, y]
theorem three_lie (w : World) (x y : Int) (t : TypeId) (g : Nat) (hg : g = w.heap.size) : ISlice (w.alloc (.cells #[.int .i64 1, .int .i64 x, .int .i64 y] t)) (.slice (some ⟨g, 0, none⟩) 3 3) [1, x, y] := by
  subst hg
  refine ⟨_, 3, rfl, by simp, by unfold maxLen; omega, fun _ => ⟨w.heap.size, 0, rfl, by simp, ?_⟩⟩
  intro i z hz
  match i, hz with
  | 0, hz => cases hz; simp
  | 1, hz => cases hz; simp
  | 2, hz => cases hz; simp
end Go.Proofs.YtlnkheopmagacaaDoor

/- the pair's sum. -/
namespace Go.Proofs.YtlnkheopmagacaaDoor
open Go.RowKit
/-- Block g holds room for n cells from off on, and may be written there. -/
def IRoom (w : World) (g off n : Nat) : Prop := g < w.heap.size ∧ ∀ j, j < n → (∃ u, w.cell? ⟨g, off + j, none⟩ = some u) ∧ w.frozen? ⟨g, off + j, none⟩ = false
theorem iset_ne (w : World) (g o b k : Nat) (v : Value) (h : g ≠ b ∨ o ≠ k) : (w.setCell ⟨g, o, none⟩ v).cell? ⟨b, k, none⟩ = w.cell? ⟨b, k, none⟩ :=
  World.cell?_setCell_other _ _ _ _ (by intro e; injection e with e1 e2 _; rcases h with h | h; exact h e1; exact h e2)
theorem iset_eq (w : World) (g o : Nat) (v : Value) (h : ∃ u, w.cell? ⟨g, o, none⟩ = some u) : (w.setCell ⟨g, o, none⟩ v).cell? ⟨g, o, none⟩ = some v := by
  obtain ⟨u, hu⟩ := h; exact World.cell?_setCell_same _ _ _ hu
theorem IRoom.set {w : World} {g off n k : Nat} (h : IRoom w g off n) (v : Value) (hk : k < n) : IRoom (w.setCell ⟨g, off + k, none⟩ v) g off n := by
  refine ⟨by simpa using h.1, fun j hj => ⟨?_, by simpa using (h.2 j hj).2⟩⟩
  by_cases hjk : j = k
  · subst hjk; exact ⟨_, iset_eq _ _ _ _ (h.2 j hj).1⟩
  · rw [iset_ne _ _ _ _ _ _ (by omega)]; exact (h.2 j hj).1
theorem NumsAt.set {w : World} {g off n k : Nat} {l : List Int} {x : Int} (hr : IRoom w g off n) (hk : k < n) (hx : l[k]? = some x) (h : NumsAt w g off (l.take k)) : NumsAt (w.setCell ⟨g, off + k, none⟩ (.int .i64 x)) g off (l.take (k + 1)) := by
  intro i y hi
  rw [List.getElem?_take] at hi
  split at hi
  · by_cases hik : i = k
    · subst hik
      rw [hx] at hi
      cases hi
      exact iset_eq _ _ _ _ (hr.2 i hk).1
    · rw [iset_ne _ _ _ _ _ _ (by omega)]
      exact h i y (by rw [List.getElem?_take, if_pos (by omega)]; exact hi)
  · cases hi

end Go.Proofs.YtlnkheopmagacaaDoor

/- the draws of numbers: spec.l1Pick, DrawSumOf, DrawPairSum: what they leave. -/
namespace Go.Proofs.YtlnkheopmagacaaDoor
open Go.RowKit

theorem CodeOk.rise {w w' : World} {b b' : Nat} {cv : Value} (h : CodeOk w b cv) (hb : Below b w w') (hbb : b ≤ b') : CodeOk w' b' cv := by
  obtain ⟨ad, len, cap, h1, h2, h3⟩ := h.below hb
  refine ⟨ad, len, cap, h1, h2, fun hl => ?_⟩
  obtain ⟨cb, co, e, hc, hx⟩ := h3 hl
  exact ⟨cb, co, e, by omega, hx⟩
theorem nums_of_owns {w' : World} {base : Nat} {v : Value} {l : List Int} (h : w'.ownsRow base 2 1 v l.length (l.map (Value.int .i64))) : ISlice w' v l := by
  have hlt := h.lt
  rcases h.2 with ⟨hv, h0⟩ | ⟨g, cap, cur, hv, hb, hh, hn, hm, _⟩
  · exact ⟨none, 0, by rw [hv, h0], by omega, by unfold maxLen; omega, fun h => by omega⟩
  · refine ⟨some ⟨g, 0, none⟩, cap, hv, hn, hm, fun h0 => ⟨g, 0, rfl, (hlt g (by rw [hv]; rfl)).2, fun j x hj => ?_⟩⟩
    have := h.cells (g := g) (by rw [hv]; rfl) j (.int .i64 x) (by rw [List.getElem?_map, hj]; rfl)
    rw [Addr.add_lit] at this
    simpa using this
theorem owns_place {w : World} {base : Nat} {e : TypeId} {size : Nat} {v : Value} {n : Nat} {xs : List Value} (h : w.ownsRow base e size v n xs) {b : Nat} (hb : b < base) (u : Value) (q : Nat) : ((w.setCell ⟨b, 1, none⟩ u).drewN q).ownsRow base e size v n xs := by
  have h2 : (w.setCell ⟨b, 1, none⟩ u).ownsRow base e size v n xs := ownsRow_setCell_below h (a := ⟨b, 1, none⟩) hb u
  exact h2

set_option maxHeartbeats 2000000 in
set_option maxRecDepth 100000 in
theorem next_empty_big (b a : Nat) (ad : Option Addr) (cap : Nat) (n : Int) (w : World) (h1 : 1 ≤ n) (h2 : n ≤ 1000) (ha : a ≤ 1000)
    (h0 : w.cell? ⟨b, 0, none⟩ = some (.slice ad 0 cap)) (hA : w.cell? ⟨b, 1, none⟩ = some (.int .i64 a)) (hF : w.frozen? ⟨b, 1, none⟩ = false) :
    Calls Tryd.prog 13 #[.pointer (some ⟨b, 0, none⟩), .int .i64 n] w fun e w' => ∃ (r : Int) (q : Nat), e = .returned (.int .i64 r) ∧ 0 ≤ r ∧ r < n ∧ w' = (w.setCell ⟨b, 1, none⟩ (.int .i64 (a + 1 : Nat))).drewN q := by
  go_enter Tryd.func13, Tryd.ntmps13
  go_wp2
  go_ret
  exact ⟨_, 0, rfl, Int.emod_nonneg _ (by omega), Int.emod_lt_of_pos _ (by omega), rfl⟩

set_option maxHeartbeats 2000000 in
set_option maxRecDepth 100000 in
theorem next_some_big (b a cb co len cap : Nat) (x y : Int) (n : Int) (w : World) (h1 : 200 < n) (h2 : n ≤ 1000) (ha : a ≤ 1000) (hl : 0 < len) (hl2 : len ≤ 1048576) (hx0 : 0 ≤ x) (hx1 : x ≤ 255) (hy0 : 0 ≤ y) (hy1 : y ≤ 255) (hcb : cb ≠ b)
    (h0 : w.cell? ⟨b, 0, none⟩ = some (.slice (some ⟨cb, co, none⟩) len cap)) (hA : w.cell? ⟨b, 1, none⟩ = some (.int .i64 a)) (hF : w.frozen? ⟨b, 1, none⟩ = false)
    (hx : w.cell? ⟨cb, co + a % len, none⟩ = some (.int .u8 x)) (hy : w.cell? ⟨cb, co + (a + 1) % len, none⟩ = some (.int .u8 y)) :
    Calls Tryd.prog 13 #[.pointer (some ⟨b, 0, none⟩), .int .i64 n] w fun e w' => ∃ (r : Int) (q : Nat), e = .returned (.int .i64 r) ∧ 0 ≤ r ∧ r < n ∧ w' = (w.setCell ⟨b, 1, none⟩ (.int .i64 (a + 1 : Nat))).drewN q := by
  have e0 : ((len : Int) == 0) = false := by simp; omega
  have h1' : 1 ≤ n := by omega
  go_enter Tryd.func13, Tryd.ntmps13
  have hm : ((a : Int) % (len : Int)).toNat = a % len := by omega
  have hml : (a : Int) % (len : Int) < (len : Int) := Int.emod_lt_of_pos _ (by omega)
  have hm0 : 0 ≤ (a : Int) % (len : Int) := Int.emod_nonneg _ (by omega)
  have hn : (((a : Int) + 1) % (len : Int)).toNat = (a + 1) % len := by rw [show (a : Int) + 1 = ((a + 1 : Nat) : Int) from by omega]; rfl
  have hnl : ((a : Int) + 1) % (len : Int) < (len : Int) := Int.emod_lt_of_pos _ (by omega)
  have hn0 : 0 ≤ ((a : Int) + 1) % (len : Int) := Int.emod_nonneg _ (by omega)
  have hq0 : 0 ≤ (a : Int) / (len : Int) := Int.ediv_nonneg (by omega) (by omega)
  have hq1 : (a : Int) / (len : Int) ≤ 1000 := by have := Int.ediv_le_self (len : Int) (show (0 : Int) ≤ (a : Int) by omega); omega
  go_wp2
  go_quiet (fail)
  go_wp2
  go_quiet (fail)
  go_wp2
  go_ret
  exact ⟨_, _, rfl, Int.emod_nonneg _ (by omega), Int.emod_lt_of_pos _ (by omega), rfl⟩

theorem next_wide (b a : Nat) (cv : Value) (n : Int) (w : World) (h : SrcAt w b a cv) (h1 : 1 ≤ n) (h2 : n ≤ 1000) (ha : a ≤ 1000) :
    Calls Tryd.prog 13 #[.pointer (some ⟨b, 0, none⟩), .int .i64 n] w fun e w' => ∃ (r : Int) (q : Nat), e = .returned (.int .i64 r) ∧ 0 ≤ r ∧ r < n ∧ w' = (w.setCell ⟨b, 1, none⟩ (.int .i64 (a + 1 : Nat))).drewN q := by
  by_cases h3 : n ≤ 200
  · exact next_any b a cv n w h h1 h3 ha
  · obtain ⟨c0, c1, c2, c3, ad, len, cap, rfl, hl, hc⟩ := h
    rcases Nat.eq_zero_or_pos len with h0 | h0
    · subst h0
      exact next_empty_big b a ad cap n w h1 h2 ha c0 c1 c2
    · obtain ⟨cb, co, rfl, hcb, hx⟩ := hc h0
      obtain ⟨x, x0, x1, hcell⟩ := hx (a % len) (Nat.mod_lt _ h0)
      obtain ⟨y, y0, y1, hcell2⟩ := hx ((a + 1) % len) (Nat.mod_lt _ h0)
      exact next_some_big b a cb co len cap x y n w (by omega) h2 ha h0 hl x0 x1 y0 y1 (Nat.ne_of_lt hcb) c0 c1 c2 hcell hcell2

set_option maxHeartbeats 1000000 in
set_option maxRecDepth 100000 in
theorem pick_any (b a g off cap : Nat) (cv : Value) (l : List Int) (w : World) (h : SrcAt w b a cv) (hg : g ≠ b) (hN : NumsAt w g off l) (h1 : 1 ≤ l.length) (h2 : l.length ≤ 200) (ha : a ≤ 1000) :
    Calls Tryd.prog 12 #[.pointer (some ⟨b, 0, none⟩), .slice (some ⟨g, off, none⟩) l.length cap] w fun e w' => ∃ (x : Int) (q : Nat), e = .returned (.int .i64 x) ∧ w' = (w.setCell ⟨b, 1, none⟩ (.int .i64 (a + 1 : Nat))).drewN q := by
  have HS : Hid (SrcAt w b a cv) := h
  have HN : Hid (NumsAt w g off l) := hN
  clear h hN
  go_enter Tryd.func12, Tryd.ntmps12
  go_wp2_with fail
  refine (next_any b a cv l.length _ HS.out (by omega) (by omega) ha).mono ?_
  rintro e w1 ⟨r, q, rfl, hr0, hr1, hw⟩
  obtain ⟨k, rfl⟩ := Int.eq_ofNat_of_zero_le hr0
  have hk : k < l.length := by omega
  obtain ⟨x, hx⟩ : ∃ x, l[k]? = some x := ⟨_, List.getElem?_eq_getElem hk⟩
  have hc : w1.cell? ⟨g, off + k, none⟩ = some (.int .i64 x) := by
    rw [hw, World.cell?_drewN, iset_ne _ _ _ _ _ _ (Or.inl (Ne.symm hg))]
    exact HN.out k x hx
  have HW : Hid (w1 = (w.setCell ⟨b, 1, none⟩ (.int .i64 (a + 1 : Nat))).drewN q) := hw
  clear hw hx
  go_wp2
  go_ret
  exact ⟨x, q, rfl, HW.out⟩

/-- What a draw of numbers leaves. -/
def Drew (w : World) (e : Ending) (w' : World) : Prop := ∃ (g off cap : Nat) (l : List Int), e = .returned (.slice (some ⟨g, off, none⟩) l.length cap) ∧ ISlice w' (.slice (some ⟨g, off, none⟩) l.length cap) l ∧ (l.length ≤ 9 ∨ l.length = 201) ∧ Ext w w'
theorem SrcAt.kept {w w' : World} {b a : Nat} {cv : Value} (h : SrcAt w b a cv) (he : Below (b + 1) w w') : SrcAt w' b a cv :=
  ⟨(Below.cell he (p := ⟨b, 0, none⟩) (Nat.lt_succ_self _)).trans h.1, (Below.cell he (p := ⟨b, 1, none⟩) (Nat.lt_succ_self _)).trans h.2.1, (Below.frozen he (p := ⟨b, 1, none⟩) (Nat.lt_succ_self _)).trans h.2.2.1, Nat.lt_of_lt_of_le h.2.2.2.1 (Nat.le_trans (Nat.le_refl _) (by
    have := Below.size he
    have h2 := h.2.2.2.1
    omega)), h.2.2.2.2.below (Below.mono he (Nat.le_succ _))⟩
theorem drew_of {w w' : World} {base : Nat} {v : Value} {l : List Int} (h : w'.ownsRow base 2 1 v l.length (l.map (Value.int .i64))) (hv : v ≠ .slice none 0 0) (hl : l.length ≤ 9) (he : Ext w w') : Drew w (.returned v) w' := by
  have hI := nums_of_owns h
  rcases h.2 with ⟨hn, _⟩ | ⟨g, cap, cur, rfl, _⟩
  · exact absurd hn hv
  · exact ⟨g, 0, cap, l, rfl, hI, Or.inl hl, he⟩

theorem nums3 (w : World) (x y z : Int) (t : TypeId) : NumsAt (w.alloc (.cells #[.int .i64 x, .int .i64 y, .int .i64 z] t)) w.heap.size 0 [x, y, z] := by
  intro i u hu
  match i, hu with
  | 0, hu => cases hu; simp
  | 1, hu => cases hu; simp
  | 2, hu => cases hu; simp
theorem nums4 (w : World) (x y z v : Int) (t : TypeId) : NumsAt (w.alloc (.cells #[.int .i64 x, .int .i64 y, .int .i64 z, .int .i64 v] t)) w.heap.size 0 [x, y, z, v] := by
  intro i u hu
  match i, hu with
  | 0, hu => cases hu; simp
  | 1, hu => cases hu; simp
  | 2, hu => cases hu; simp
  | 3, hu => cases hu; simp

end Go.Proofs.YtlnkheopmagacaaDoor

/- draws of trees, what they keep: at most 20 nodes, each path right, numbers not below 0, the top among them. -/
namespace Go.Proofs.YtlnkheopmagacaaDoor
open Go.RowKit
namespace Tre
/-- What every tree keeps that is drawn. -/
def Kept (zs : List Zn) : Prop := zs.length ≤ 20 ∧ (∃ z, z ∈ zs ∧ key z = [47]) ∧ ∀ z ∈ zs, Pth.faultI (key z) = 0 ∧ 0 ≤ z.version ∧ 0 ≤ z.next
theorem Kept.pos {zs : List Zn} (h : Kept zs) : 0 < zs.length := by
  obtain ⟨-, ⟨z, hz, -⟩, -⟩ := h
  exact List.length_pos_of_mem hz
theorem kept_new {d : Int} (h : (newT d).1 = 0) : Kept (newT d).2.2 := by
  unfold newT at h ⊢
  split at h
  · rename_i h1
    rw [if_pos h1]
    exact ⟨by simp, ⟨_, List.mem_singleton.2 rfl, (by decide : top.data.toList = [47])⟩, fun z hz => by rw [List.mem_singleton.1 hz]; exact ⟨(by decide : Pth.faultI top.data.toList = 0), by simp, by simp⟩⟩
  · simp at h
theorem at_range {zs : List Zn} {p : ByteArray} (h : ¬ atI zs p < 0) : ∃ (k : Nat) (z : Zn), atI zs p = k ∧ k < zs.length ∧ zs[k]? = some z ∧ isAt p z = true := by
  rcases atI_range zs p with ⟨h1, -⟩ | h1
  · omega
  · exact h1
theorem mem_set {zs : List Zn} {k : Nat} {y z : Zn} (h : z ∈ zs.set k y) : z ∈ zs ∨ z = y := List.mem_or_eq_of_mem_set h
theorem kept_put {zs : List Zn} (h : Kept zs) {k : Nat} {y y' : Zn} (hy : zs[k]? = some y) (hk : key y' = key y) (hv : 0 ≤ y'.version) (hn : 0 ≤ y'.next) : Kept (zs.set k y') := by
  obtain ⟨h1, ⟨z, hz, ht⟩, h3⟩ := h
  have hkl : k < zs.length := (List.getElem?_eq_some_iff.1 hy).1
  have hm : y ∈ zs := List.mem_of_getElem? hy
  refine ⟨by simpa using h1, ?_, fun x hx => ?_⟩
  · obtain ⟨i, hi⟩ := List.mem_iff_getElem?.1 hz
    by_cases hik : i = k
    · subst hik
      rw [hy] at hi
      cases hi
      exact ⟨y', List.mem_iff_getElem?.2 ⟨i, by rw [List.getElem?_set_self hkl]⟩, by rw [hk]; exact ht⟩
    · exact ⟨z, List.mem_iff_getElem?.2 ⟨i, by rw [List.getElem?_set_ne (Ne.symm hik)]; exact hi⟩, ht⟩
  · rcases mem_set hx with hx | rfl
    · exact h3 x hx
    · exact ⟨by rw [hk]; exact (h3 y hm).1, hv, hn⟩
theorem kept_set {zs : List Zn} {p : ByteArray} {d n : Int} (h : Kept zs) (h0 : (setT zs p d n).1 = 0) : Kept (setT zs p d n).2.2 := by
  cases hd : okData d with
  | false => rw [setT_data hd] at h0; simp at h0
  | true =>
  by_cases ha : atI zs p < 0
  · rw [setT_none hd ha] at h0; simp at h0
  obtain ⟨k, z, hk, hkl, hz, -⟩ := at_range ha
  rw [setT_some hd hk hz] at h0 ⊢
  have hm := h.2.2 z (List.mem_of_getElem? hz)
  split
  · rename_i h1; rw [if_pos h1] at h0; simp at h0
  rename_i h1
  rw [if_neg h1] at h0
  split
  · rename_i h2; rw [if_pos h2] at h0; simp at h0
  exact kept_put h hz rfl (by show 0 ≤ z.version + 1; omega) hm.2.2
theorem kept_del {zs : List Zn} {p : ByteArray} {n : Int} (h : Kept zs) (h0 : (delT zs p n).1 = 0) : Kept (delT zs p n).2.2 := by
  cases ht : (p.toList == [47]) with
  | true => rw [delT_top ht] at h0; simp at h0
  | false =>
  by_cases ha : atI zs p < 0
  · rw [delT_none ht ha] at h0; simp at h0
  obtain ⟨k, z, hk, hkl, hz, hp⟩ := at_range ha
  unfold delT at h0 ⊢
  rw [if_neg (by rw [ht]; simp), if_neg ha, hk, Int.toNat_natCast, hz] at h0 ⊢
  dsimp only at h0 ⊢
  split
  · rename_i h1; rw [if_pos h1] at h0; simp at h0
  rename_i h1
  rw [if_neg h1] at h0
  split
  · rename_i h2; rw [if_pos h2] at h0; simp at h0
  obtain ⟨k1, ⟨y, hy, hyt⟩, k3⟩ := h
  refine ⟨by simp; omega, ⟨y, ?_, hyt⟩, fun x hx => k3 x ?_⟩
  · obtain ⟨i, hi⟩ := List.mem_iff_getElem?.1 hy
    have hik : i ≠ k := by
      rintro rfl
      rw [hz] at hi
      cases hi
      rw [isAt_iff.1 hp] at hyt
      rw [Lib.toList_data, hyt] at ht
      simp at ht
    rw [List.mem_append]
    by_cases hlt : i < k
    · exact Or.inl (List.mem_iff_getElem?.2 ⟨i, by rw [List.getElem?_take_of_lt hlt]; exact hi⟩)
    · exact Or.inr (List.mem_iff_getElem?.2 ⟨i - (k + 1), by rw [List.getElem?_drop, show k + 1 + (i - (k + 1)) = i by omega]; exact hi⟩)
  · rcases List.mem_append.1 hx with hx | hx
    · exact List.mem_of_mem_take hx
    · exact List.mem_of_mem_drop hx
theorem mem_putT {zs : List Zn} {z x : Zn} : x ∈ putT zs z ↔ x ∈ zs ∨ x = z := by
  unfold putT
  conv => rhs; rw [← List.take_append_drop (cut zs (key z)) zs]
  simp only [List.mem_append, List.mem_cons]
  constructor
  · rintro (h | rfl | h)
    · exact Or.inl (Or.inl h)
    · exact Or.inr rfl
    · exact Or.inl (Or.inr h)
  · rintro ((h | h) | rfl)
    · exact Or.inl h
    · exact Or.inr (Or.inr h)
    · exact Or.inr (Or.inl rfl)
theorem putT_length (zs : List Zn) (z : Zn) : (putT zs z).length = zs.length + 1 := by
  unfold putT
  have := cut_le zs (key z)
  simp
  omega
theorem kept_fin {zs bs : List Zn} {p : ByteArray} {d o : Int} (h : Kept bs) (hl : bs.length = zs.length) (hf : Pth.faultI p.data.toList = 0) (h0 : (finT zs p bs d o).1 = 0) : Kept (finT zs p bs d o).2.2 := by
  unfold finT at h0 ⊢
  split
  · rename_i h1; rw [if_pos h1] at h0; simp at h0
  rename_i h1
  rw [if_neg h1] at h0
  split
  · rename_i h2; rw [if_pos h2] at h0; simp at h0
  rename_i h2
  obtain ⟨k1, ⟨y, hy, hyt⟩, k3⟩ := h
  refine ⟨by rw [putT_length]; omega, ⟨y, mem_putT.2 (Or.inl hy), hyt⟩, fun x hx => ?_⟩
  rcases mem_putT.1 hx with hx | rfl
  · exact k3 x hx
  · exact ⟨hf, by simp, by simp⟩
theorem kept_create {zs : List Zn} {p : ByteArray} {d o : Int} {q : Bool} (h : Kept zs) (hf : Pth.faultI p.data.toList = 0) (h0 : (createT zs p d o q).1 = 0) : Kept (createT zs p d o q).2.2 := by
  unfold createT at h0 ⊢
  split
  · rename_i h1; rw [if_pos h1] at h0; simp at h0
  rename_i h1
  rw [if_neg h1] at h0
  split
  · rename_i h2; rw [if_pos h2] at h0; simp at h0
  rename_i h2
  rw [if_neg h2] at h0
  split
  · rename_i h3; rw [if_pos h3] at h0; simp at h0
  rename_i h3
  rw [if_neg h3] at h0
  obtain ⟨k, y, hk, hkl, hy, -⟩ := at_range h3
  rw [hk, Int.toNat_natCast, hy] at h0 ⊢
  dsimp only at h0 ⊢
  split
  · rename_i h4; rw [if_pos h4] at h0; simp at h0
  rename_i h4
  rw [if_neg h4] at h0
  cases q with
  | false =>
    rw [if_neg (by simp)] at h0 ⊢
    exact kept_fin h rfl hf h0
  | true =>
    rw [if_pos rfl] at h0 ⊢
    split
    · rename_i h5; rw [if_pos h5] at h0; exact absurd h0 h5
    rename_i h5
    rw [if_neg h5] at h0
    have hm := h.2.2 y (List.mem_of_getElem? hy)
    have hs : (seqT zs p k y) = (0, seqP p y.next, zs.set k { y with next := y.next + 1 }) ∧ Pth.faultI (seqP p y.next).data.toList = 0 := by
      have h6 := h5
      unfold seqT at h6 ⊢
      by_cases c1 : 100 ≤ y.next
      · rw [if_pos c1] at h6; simp at h6
      rw [if_neg c1] at h6 ⊢
      by_cases c2 : Pth.okName (seqN p y.next).data.toList = false
      · rw [if_pos c2] at h6; simp at h6
      rw [if_neg c2] at h6 ⊢
      by_cases c3 : Pth.faultI (seqP p y.next).data.toList ≠ 0
      · rw [if_pos c3] at h6; exact absurd c3 h6
      rw [if_neg c3]
      exact ⟨rfl, by simpa using c3⟩
    rw [hs.1] at h0 ⊢
    exact kept_fin (kept_put h hy rfl hm.2.1 (by show 0 ≤ y.next + 1; omega)) (by simp) hs.2 h0
end Tre
/-- The paths that are drawn, by their depth. -/
def abc : Nat → List (List UInt8)
  | 0 => [[47]]
  | k + 1 => (abc k).flatMap fun p => [Pth.joined p [97], Pth.joined p [98], Pth.joined p [99]]
theorem abc_right : ∀ j, j ≤ 3 → ∀ p ∈ abc j, Pth.faultI p = 0 := by decide
end Go.Proofs.YtlnkheopmagacaaDoor

/- draws of trees: l1Draw's texts are paths without fault; l2Right. -/
namespace Go.Proofs.YtlnkheopmagacaaDoor
open Go.RowKit
/-- What a draw of a right path leaves. -/
def DrawnP (b a k : Nat) (cv : Value) (w : World) (e : Ending) (w' : World) : Prop :=
  ∃ (t : ByteArray) (a' : Nat), e = .returned (.string t) ∧ Pth.faultI t.data.toList = 0 ∧ a' ≤ a + k ∧ SrcAt w' b a' cv ∧ Upd b w w'
theorem abc_next {t : ByteArray} {j : Nat} (h : t.data.toList ∈ abc j) (c : UInt8) (hc : c = 97 ∨ c = 98 ∨ c = 99) : (mkB (Pth.joined t.data.toList [c])).data.toList ∈ abc (j + 1) := by
  rw [mkB_list]
  refine List.mem_flatMap.2 ⟨_, h, ?_⟩
  rcases hc with rfl | rfl | rfl <;> simp
theorem abc_size : ∀ j, j ≤ 3 → ∀ p ∈ abc j, p.length ≤ 7 := by decide

set_option maxHeartbeats 1000000 in
set_option maxRecDepth 100000 in
theorem draw_right (b a : Nat) (cv : Value) (w : World) (h : SrcAt w b a cv) (ha : a ≤ 900) :
    Calls Tryd.prog 54 #[.pointer (some ⟨b, 0, none⟩)] w (DrawnP b a 4 cv w) := by
  have hbl : b < w.heap.size := h.2.2.2.1
  have HS : Hid (SrcAt w b a cv) := h
  clear h
  go_enter Tryd.func54, Tryd.ntmps54
  go_wp2_with fail
  refine (next_any b a cv 4 _ (by exact HS.out) (by omega) (by omega) (by omega)).mono ?_
  rintro e w1 ⟨r, q, rfl, hr0, hr1, rfl⟩
  obtain ⟨k0, rfl⟩ := Int.eq_ofNat_of_zero_le hr0
  go_wp2
  go_loopw [3, 4] (fun pv kv wr => ∃ (t : ByteArray) (k a' j : Nat), pv = .string t ∧ kv = .int .i64 k ∧ j + k ≤ 3 ∧ Hid (t.data.toList ∈ abc j) ∧ a' + k ≤ a + 4 ∧ Hid (SrcAt wr b a' cv) ∧ Hid (Upd b w wr)) (fun _ kv _ => (intOf kv).toNat)
  case atStart => exact ⟨_, k0, a + 1, 0, rfl, rfl, by omega, (by decide : ([47] : List UInt8) ∈ abc 0), by omega, (HS.out.set (a + 1)).drewN _, (Upd.set w _).drewN _⟩
  case round =>
    obtain ⟨t, k, a', j, rfl, rfl, hk3, HT, hak, HS2, HU⟩ := hrel
    have ht7 := abc_size j (by omega) _ HT.out
    rw [len_eq] at ht7
    by_cases hk : 0 < k
    · have hlr : b < wr.heap.size := HS2.out.lt
      have hne : ¬ b = wr.heap.size := by omega
      have ht : t.size ≤ 1048576 := by omega
      go_wp2_with fail
      refine (next_any b a' cv 3 _ (by exact HS2.out.alloc _) (by omega) (by omega) (by omega)).mono ?_
      rintro e w1 ⟨r, q2, rfl, hr0, hr1, rfl⟩
      have hd : r = 0 ∨ r = 1 ∨ r = 2 := by omega
      clear hr0 hr1
      rcases hd with rfl | rfl | rfl
      · go_wp2_with fail
        refine (l1Join_any t ⟨#[97]⟩ _ ht (by decide)).mono ?_
        rintro e w4 ⟨rfl, hw⟩
        subst hw
        have HT2 : Hid ((mkB (Pth.joined t.data.toList (⟨#[97]⟩ : ByteArray).data.toList)).data.toList ∈ abc (j + 1)) := abc_next HT.out 97 (by simp)
        generalize mkB (Pth.joined t.data.toList (⟨#[97]⟩ : ByteArray).data.toList) = t' at *
        go_wp2
        exact ⟨⟨t', k - 1, a' + 1, j + 1, rfl, by rw [show ((k - 1 : Nat) : Int) = (k : Int) - 1 from by omega], by omega, HT2, by omega, ((HS2.out.set (a' + 1)).alloc _).drewN _, HU.out.trans (((Upd.set wr _).trans (Upd.alloc _ _ (by simp; omega))).drewN _)⟩, by simp [intOf]; omega⟩
      · go_wp2_with fail
        refine (l1Join_any t ⟨#[98]⟩ _ ht (by decide)).mono ?_
        rintro e w4 ⟨rfl, hw⟩
        subst hw
        have HT2 : Hid ((mkB (Pth.joined t.data.toList (⟨#[98]⟩ : ByteArray).data.toList)).data.toList ∈ abc (j + 1)) := abc_next HT.out 98 (by simp)
        generalize mkB (Pth.joined t.data.toList (⟨#[98]⟩ : ByteArray).data.toList) = t' at *
        go_wp2
        exact ⟨⟨t', k - 1, a' + 1, j + 1, rfl, by rw [show ((k - 1 : Nat) : Int) = (k : Int) - 1 from by omega], by omega, HT2, by omega, ((HS2.out.set (a' + 1)).alloc _).drewN _, HU.out.trans (((Upd.set wr _).trans (Upd.alloc _ _ (by simp; omega))).drewN _)⟩, by simp [intOf]; omega⟩
      · go_wp2_with fail
        refine (l1Join_any t ⟨#[99]⟩ _ ht (by decide)).mono ?_
        rintro e w4 ⟨rfl, hw⟩
        subst hw
        have HT2 : Hid ((mkB (Pth.joined t.data.toList (⟨#[99]⟩ : ByteArray).data.toList)).data.toList ∈ abc (j + 1)) := abc_next HT.out 99 (by simp)
        generalize mkB (Pth.joined t.data.toList (⟨#[99]⟩ : ByteArray).data.toList) = t' at *
        go_wp2
        exact ⟨⟨t', k - 1, a' + 1, j + 1, rfl, by rw [show ((k - 1 : Nat) : Int) = (k : Int) - 1 from by omega], by omega, HT2, by omega, ((HS2.out.set (a' + 1)).alloc _).drewN _, HU.out.trans (((Upd.set wr _).trans (Upd.alloc _ _ (by simp; omega))).drewN _)⟩, by simp [intOf]; omega⟩
    · go_wp2
      go_ret
      exact ⟨t, a', rfl, abc_right j (by omega) _ HT.out, by omega, HS2.out, HU.out⟩
end Go.Proofs.YtlnkheopmagacaaDoor

/- draws of trees: l2Right. -/
namespace Go.Proofs.YtlnkheopmagacaaDoor
open Go.RowKit
/-- What a draw of a tree leaves. -/
def DrawnT (K : List Zn → Prop) (b a k : Nat) (cv : Value) (w : World) (e : Ending) (w' : World) : Prop :=
  ∃ (g off cap a' : Nat) (zs : List Zn), e = .returned (.slice (some ⟨g, off, none⟩) zs.length cap) ∧ K zs ∧ w.heap.size ≤ g ∧ Own w' (.slice (some ⟨g, off, none⟩) zs.length cap) g zs ∧ a' ≤ a + k ∧ SrcAt w' b a' cv ∧ Upd b w w'
theorem Own.at {w : World} {v : Value} {g : Nat} {zs : List Zn} (h : Own w v g zs) (hp : 0 < zs.length) : ∃ off cap, v = .slice (some ⟨g, off, none⟩) zs.length cap := by
  obtain ⟨a, cap, rfl, -, -, hx⟩ := h
  obtain ⟨off, rfl, -⟩ := hx hp
  exact ⟨off, cap, rfl⟩

/-- Under way: the source at a, nothing of w turned, the nodes zs in block g. -/
def St (w : World) (b a : Nat) (cv v : Value) (g : Nat) (zs : List Zn) (wr : World) : Prop := SrcAt wr b a cv ∧ Upd b w wr ∧ Own wr v g zs ∧ g ≠ b
theorem St.ext {w : World} {b a g : Nat} {cv v : Value} {zs : List Zn} {wr w' : World} (h : St w b a cv v g zs wr) (he : Ext wr w') : St w b a cv v g zs w' :=
  ⟨h.1.ext he, h.2.1.trans (Upd.ext he (Nat.le_of_lt h.1.lt)), h.2.2.1.ext he, h.2.2.2⟩
theorem St.alloc {w : World} {b a g : Nat} {cv v : Value} {zs : List Zn} {wr : World} (h : St w b a cv v g zs wr) (o : Obj) : St w b a cv v g zs (wr.alloc o) := h.ext ((Ext.refl _).alloc _)
theorem St.place {w : World} {b a g : Nat} {cv v : Value} {zs : List Zn} {wr : World} (h : St w b a cv v g zs wr) (a' q : Nat) : St w b a' cv v g zs ((wr.setCell ⟨b, 1, none⟩ (.int .i64 (a' : Int))).drewN q) :=
  ⟨h.1.place a' q, h.2.1.trans (Upd.place _ _ _), h.2.2.1.upd (Upd.place _ _ _) h.2.2.2, h.2.2.2⟩
theorem St.upd {w : World} {b a a' g : Nat} {cv v : Value} {zs : List Zn} {wr w' : World} (h : St w b a cv v g zs wr) (hs : SrcAt w' b a' cv) (hu : Upd b wr w') : St w b a' cv v g zs w' :=
  ⟨hs, h.2.1.trans hu, h.2.2.1.upd hu h.2.2.2, h.2.2.2⟩
theorem St.box {w : World} {b a g : Nat} {cv v : Value} {zs : List Zn} {wr : World} (h : St w b a cv v g zs wr) (hb : b < w.heap.size) {rb : Nat} (h1 : w.heap.size ≤ rb) (h2 : rb ≠ g) (o : Nat) (u : Value) : St w b a cv v g zs (wr.setCell ⟨rb, o, none⟩ u) := by
  have hu : Upd rb wr (wr.setCell ⟨rb, o, none⟩ u) := (Upd.refl _ _).setAt o u
  refine ⟨h.1.kept (Below.mono hu.1 (by omega)), ⟨Below.trans h.2.1.1 (Below.mono hu.1 (by omega)), Nat.le_trans h.2.1.2.1 hu.2.1, fun c o' hc hl => ?_⟩, h.2.2.1.upd hu (Ne.symm h2), h.2.2.2⟩
  have e1 := hu.at_ne c o' (by omega) (Nat.lt_of_lt_of_le hl h.2.1.2.1)
  have e2 := h.2.1.2.2 c o' hc hl
  exact ⟨e1.1.trans e2.1, e1.2.trans e2.2⟩
theorem fieldZ_code (c : Int) (t : ByteArray) (v : Value) (w : World) : (Instr.field 28 (.agg #[.int .i64 c, .string t, v]) 0).run Tryd.prog w = .ok (.int .i64 c) w := by kernel_rfl
theorem fieldZ_nodes (c : Int) (t : ByteArray) (v : Value) (w : World) : (Instr.field 28 (.agg #[.int .i64 c, .string t, v]) 2).run Tryd.prog w = .ok v w := by kernel_rfl

set_option maxHeartbeats 4000000 in
set_option maxRecDepth 100000 in
theorem l2Right_any (b a : Nat) (cv : Value) (w : World) (h : SrcAt w b a cv) (ha : a ≤ 600) :
    Calls Tryd.prog 53 #[.pointer (some ⟨b, 0, none⟩)] w (DrawnT Tre.Kept b a 101 cv w) := by
  have hbl : b < w.heap.size := h.2.2.2.1
  have HS : Hid (SrcAt w b a cv) := h
  clear h
  have hfz := fieldZ_nodes
  go_enter Tryd.func53, Tryd.ntmps53
  go_wp2_with fail
  refine (next_any b a cv 9 _ (by exact HS.out) (by omega) (by omega) (by omega)).mono ?_
  rintro e w1 ⟨r, q, rfl, hr0, hr1, hw⟩
  have HS1 : Hid (SrcAt w1 b (a + 1) cv) := by rw [hw]; exact HS.out.place _ _
  have HU1 : Hid (Upd b w w1) := by rw [hw]; exact Upd.place _ _ _
  clear hw
  have hN := specNewTree_any r w1
  have hN0 : Tre.newT r = (0, ⟨#[]⟩, [⟨Tre.top, r, 0, 0, 0⟩]) := by unfold Tre.newT Tre.okData; rw [if_pos (by simp; omega)]
  have HK1 : Hid (Tre.Kept (Tre.newT r).2.2) := Tre.kept_new (by rw [hN0])
  rw [hN0] at hN HK1
  clear hN0
  dsimp only at hN HK1
  have HN : Hid (Calls Tryd.prog 61 #[.int .i64 r] w1 (ZRet w1 0 ⟨#[]⟩ [⟨Tre.top, r, 0, 0, 0⟩])) := hN
  clear hN
  go_wp2_with fail
  refine HN.out.mono ?_
  rintro e w2 ⟨v, g, rfl, hg, hO, hE⟩
  obtain ⟨off, cap, rfl⟩ := hO.at (by simp)
  generalize hzs : ([⟨Tre.top, r, 0, 0, 0⟩] : List Zn) = zs0 at *
  have HS2 : Hid (SrcAt w2 b (a + 1) cv) := HS1.out.ext hE
  have HU2 : Hid (Upd b w w2) := HU1.out.trans (Upd.ext hE (Nat.le_of_lt HS1.out.lt))
  have HO2 : Hid (Own w2 (.slice (some ⟨g, off, none⟩) zs0.length cap) g zs0) := hO
  have hg2 : w.heap.size ≤ g := Nat.le_trans HU1.out.2.1 hg
  clear hO hE hg
  unfold zr
  go_wp2_with fail
  refine (next_any b (a + 1) cv 12 _ (by exact HS2.out) (by omega) (by omega) (by omega)).mono ?_
  rintro e w3 ⟨r3, q3, rfl, hr30, hr31, hw⟩
  obtain ⟨k0, rfl⟩ := Int.eq_ofNat_of_zero_le hr30
  have HS3 : Hid (SrcAt w3 b (a + 2) cv) := by rw [hw]; exact HS2.out.place _ _
  have HU3 : Hid (Upd b w w3) := by rw [hw]; exact HU2.out.trans (Upd.place _ _ _)
  have HO3 : Hid (Own w3 (.slice (some ⟨g, off, none⟩) zs0.length cap) g zs0) := by rw [hw]; exact HO2.out.upd (Upd.place _ _ _) (by omega)
  clear hw
  go_wp2
  go_loopw [3, 4] (fun ov kv wr => ∃ (g off cap k a' : Nat) (zs : List Zn), ov = .slice (some ⟨g, off, none⟩) zs.length cap ∧ kv = .int .i64 k ∧ k ≤ 11 ∧ Hid (Tre.Kept zs) ∧ w.heap.size ≤ g ∧ Hid (Own wr (.slice (some ⟨g, off, none⟩) zs.length cap) g zs) ∧ a' + 9 * k ≤ a + 101 ∧ Hid (SrcAt wr b a' cv) ∧ Hid (Upd b w wr)) (fun _ kv _ => (intOf kv).toNat)
  case atStart => exact ⟨g, off, cap, k0, a + 2, zs0, rfl, rfl, by omega, HK1, hg2, HO3, by omega, HS3, HU3⟩
  case round =>
    clear HO3 HK1 HS3 HU3 HS2 HU2 HS1 HU1 HN HO2
    obtain ⟨g, off, cap, k, a', zs, rfl, rfl, hk11, HK, hgw, HO, hak, HS4, HU4⟩ := hrel
    by_cases hk : 0 < k
    · go_wp2_with fail
      refine (draw_right b a' cv _ (by exact HS4.out) (by omega)).mono ?_
      rintro e w5 ⟨p, a5, rfl, hpf, ha5, hS5, hU5⟩
      have HT5 : Hid (St w b a5 cv (.slice (some ⟨g, off, none⟩) zs.length cap) g zs w5) := (show St w b a' cv (.slice (some ⟨g, off, none⟩) zs.length cap) g zs wr from ⟨HS4.out, HU4.out, HO.out, by omega⟩).upd hS5 hU5
      clear hS5 hU5 HS4 HU4 HO
      go_wp2_with fail
      refine (next_any b a5 cv 99 _ (by first | exact HT5.out.1 | exact (HT5.out.alloc _).1) (by omega) (by omega) (by omega)).mono ?_
      rintro e w6 ⟨d, q6, rfl, hd0, hd1, hw⟩
      have HT6 : Hid (St w b (a5 + 1) cv (.slice (some ⟨g, off, none⟩) zs.length cap) g zs w6) := by rw [hw]; first | exact HT5.out.place _ _ | exact (HT5.out.alloc _).place _ _
      clear hw HT5
      have hlt6 : b < w6.heap.size := HT6.out.1.lt
      go_wp2_with fail
      refine (pick_any b (a5 + 1) w6.heap.size 0 4 cv [0, 0, 1, 2] _ (by exact (HT6.out.alloc _).1) (by omega) (nums4 _ _ _ _ _ _) (by simp) (by simp) (by omega)).mono ?_
      rintro e w7 ⟨o, q7, rfl, hw⟩
      have HT7 : Hid (St w b (a5 + 2) cv (.slice (some ⟨g, off, none⟩) zs.length cap) g zs w7) := by rw [hw]; exact (HT6.out.alloc _).place _ _
      clear hw HT6
      go_wp2_with fail
      refine (chance_any b (a5 + 2) cv 5 _ (by exact HT7.out.1) (by omega) (by omega) (by omega)).mono ?_
      rintro e w8 ⟨qb, q8, rfl, hw⟩
      have HT8 : Hid (St w b (a5 + 3) cv (.slice (some ⟨g, off, none⟩) zs.length cap) g zs w8) := by rw [hw]; exact HT7.out.place _ _
      clear hw HT7
      go_wp2_with fail
      have hcr := l2Create_any g off cap zs p d o qb w8 HT8.out.2.2.1.slice (Nat.le_trans HK.out.1 (by omega)) HK.out.pos hpf (fun z hz => (HK.out.2.2 z hz).2.2)
      have HK9 : Hid ((Tre.createT zs p d o qb).1 = 0 → Tre.Kept (Tre.createT zs p d o qb).2.2) := fun h => Tre.kept_create HK.out hpf h
      generalize (Tre.createT zs p d o qb).1 = c at *
      generalize (Tre.createT zs p d o qb).2.1 = t at *
      generalize (Tre.createT zs p d o qb).2.2 = rs at *
      refine hcr.mono ?_
      rintro e w9 ⟨v', g', rfl, hg', hO', hE'⟩
      obtain ⟨ad', cap', rfl⟩ : ∃ ad' cap', v' = .slice ad' rs.length cap' := by obtain ⟨a0, c0, h0, -⟩ := hO'; exact ⟨a0, c0, h0⟩
      have hg8 : b < g' := Nat.lt_of_lt_of_le HT8.out.1.lt hg'
      have hg9 : w.heap.size ≤ g' := Nat.le_trans HT8.out.2.1.2.1 hg'
      have HT9 : Hid (St w b (a5 + 3) cv (.slice (some ⟨g, off, none⟩) zs.length cap) g zs w9) := HT8.out.ext hE'
      have HO9 : Hid (Own w9 (.slice ad' rs.length cap') g' rs) := hO'
      clear hO' hE' HT8 hcr hg'
      unfold zr
      go_wp2_with fail
      refine (next_any b (a5 + 3) cv 6 _ (by exact (HT9.out.alloc _).1) (by omega) (by omega) (by omega)).mono ?_
      rintro e w10 ⟨r6, q10, rfl, h60, h61, hw⟩
      have hgl := HT9.out.2.2.1.lt HK.out.pos
      have hb9 := HT9.out.1.lt
      have hw9 := HT9.out.2.1.2.1
      have hr9 : 0 < rs.length → g' < w9.heap.size := fun h => HO9.out.lt h
      have HT10 : Hid (St w b (a5 + 4) cv (.slice (some ⟨g, off, none⟩) zs.length cap) g zs w10) := by rw [hw]; exact (HT9.out.alloc _).place _ _
      have HO10 : Hid (Own w10 (.slice ad' rs.length cap') g' rs) := by rw [hw]; exact (HO9.out.ext ((Ext.refl _).alloc _)).upd (Upd.place _ _ _) (by omega)
      have hat := fun i => (Upd.place (b := b) (w9.alloc (.cells #[.int .i64 c,   .string t, .slice ad' rs.length cap'] 28)) (.int .i64 (a5 + 3 + 1 : Nat)) q10).at_ne w9.heap.size i (by omega) (by simp)
      rw [← hw] at hat
      have c0 : w10.cell? ⟨w9.heap.size, 0, none⟩ = some (.int .i64 c) := (hat 0).1.trans (by simp)
      have c1 : w10.cell? ⟨w9.heap.size, 1, none⟩ = some (.string t) := (hat 1).1.trans (by simp)
      have c2 : w10.cell? ⟨w9.heap.size, 2, none⟩ = some (.slice ad' rs.length cap') := (hat 2).1.trans (by simp)
      have f0 : w10.frozen? ⟨w9.heap.size, 0, none⟩ = false := (hat 0).2.trans (by simp)
      have f1 : w10.frozen? ⟨w9.heap.size, 1, none⟩ = false := (hat 1).2.trans (by simp)
      have f2 : w10.frozen? ⟨w9.heap.size, 2, none⟩ = false := (hat 2).2.trans (by simp)
      have hlt10 : w9.heap.size < w10.heap.size := by rw [hw]; simp
      clear hw hat HT9 HO9
      generalize w9.heap.size = rb at *
      by_cases h6 : r6 = 0
      · subst h6
        go_wp2_with fail
        refine (next_any b (a5 + 4) cv 99 _ (by exact HT10.out.1) (by omega) (by omega) (by omega)).mono ?_
        rintro e w11 ⟨d2, q11, rfl, hd20, hd21, hw⟩
        have HT11 : Hid (St w b (a5 + 5) cv (.slice (some ⟨g, off, none⟩) zs.length cap) g zs w11) := by rw [hw]; exact HT10.out.place _ _
        have hat := fun i => (Upd.place (b := b) w10 (.int .i64 (a5 + 4 + 1 : Nat)) q11).at_ne rb i (by omega) hlt10
        rw [← hw] at hat
        have c0' := (hat 0).1.trans c0
        have c1' := (hat 1).1.trans c1
        have c2' := (hat 2).1.trans c2
        have f0' := (hat 0).2.trans f0
        have f1' := (hat 1).2.trans f1
        have f2' := (hat 2).2.trans f2
        have hlt11 : rb < w11.heap.size := by rw [hw]; simpa using hlt10
        clear hw hat HT10 HO10 c0 c1 c2 f0 f1 f2 HK9
        go_wp2_with fail
        have hcr := l2Set_any (.slice (some ⟨g, off, none⟩) zs.length cap) zs p d2 (-1) w11 HT11.out.2.2.1.slice (Nat.le_trans HK.out.1 (by omega)) (fun z hz => (HK.out.2.2 z hz).2.1)
        have HK12 : Hid ((Tre.setT zs p d2 (-1)).1 = 0 → Tre.Kept (Tre.setT zs p d2 (-1)).2.2) := fun h => Tre.kept_set HK.out h
        generalize (Tre.setT zs p d2 (-1)).1 = c3 at *
        generalize (Tre.setT zs p d2 (-1)).2.1 = t3 at *
        generalize (Tre.setT zs p d2 (-1)).2.2 = rs3 at *
        refine hcr.mono ?_
        rintro e w12 ⟨v3, g3, rfl, hg3, hO3, hE3⟩
        obtain ⟨ad3, cap3, rfl⟩ : ∃ ad' cap', v3 = .slice ad' rs3.length cap' := by obtain ⟨a0, c0, h0, -⟩ := hO3; exact ⟨a0, c0, h0⟩
        have hgb : rb < g3 := Nat.lt_of_lt_of_le hlt11 hg3
        have hg9 : w.heap.size ≤ g3 := Nat.le_trans HT11.out.2.1.2.1 hg3
        have HT12 : Hid (St w b (a5 + 5) cv (.slice (some ⟨g, off, none⟩) zs.length cap) g zs w12) := HT11.out.ext hE3
        have HO12 : Hid (Own w12 (.slice ad3 rs3.length cap3) g3 rs3) := hO3
        have x0 := (Below.cell hE3 (p := ⟨rb, 0, none⟩) hlt11).trans c0'
        have x1 := (Below.cell hE3 (p := ⟨rb, 1, none⟩) hlt11).trans c1'
        have x2 := (Below.cell hE3 (p := ⟨rb, 2, none⟩) hlt11).trans c2'
        have y0 := (Below.frozen hE3 (p := ⟨rb, 0, none⟩) hlt11).trans f0'
        have y1 := (Below.frozen hE3 (p := ⟨rb, 1, none⟩) hlt11).trans f1'
        have y2 := (Below.frozen hE3 (p := ⟨rb, 2, none⟩) hlt11).trans f2'
        clear hO3 hE3 hcr hg3 c0' c1' c2' f0' f1' f2' HT11
        unfold zr
        by_cases hc : c3 = 0
        · subst hc
          have HKz : Hid (Tre.Kept rs3) := HK12.out rfl
          clear HK12
          go_wp2
          obtain ⟨off', cap2, hv'⟩ := HO12.out.at HKz.out.pos
          exact ⟨⟨g3, off', cap2, k - 1, (a5 + 5), rs3, hv', by rw [show ((k - 1 : Nat) : Int) = (k : Int) - 1 from by omega], by omega, HKz, hg9, hv' ▸ ((HO12.out.upd ((Upd.refl rb _).setAt 0 _) (by omega)).upd ((Upd.refl rb _).setAt 1 _) (by omega)).upd ((Upd.refl rb _).setAt 2 _) (by omega), by omega, (((HT12.out.box hbl (by omega) (by omega) 0 _).box hbl (by omega) (by omega) 1 _).box hbl (by omega) (by omega) 2 _).1, (((HT12.out.box hbl (by omega) (by omega) 0 _).box hbl (by omega) (by omega) 1 _).box hbl (by omega) (by omega) 2 _).2.1⟩, by simp [intOf]; omega⟩
        · have ec : (c3 == 0) = false := by simp [hc]
          go_wp2
          have hX := ((HT12.out.box hbl (rb := rb) (by omega) (by omega) 0 (.int .i64 c3)).box hbl (rb := rb) (by omega) (by omega) 1 (.string t3)).box hbl (rb := rb) (by omega) (by omega) 2 (.slice ad3 rs3.length cap3)
          exact ⟨⟨g, off, cap, k - 1, (a5 + 5), zs, rfl, by rw [show ((k - 1 : Nat) : Int) = (k : Int) - 1 from by omega], by omega, HK, hgw, hX.2.2.1, by omega, hX.1, hX.2.1⟩, by simp [intOf]; omega⟩
      · have e0 : (r6 == 0) = false := by simp [h6]
        by_cases h7 : r6 = 1
        · subst h7
          go_wp2_with fail
          have hcr := l2Delete_any (.slice (some ⟨g, off, none⟩) zs.length cap) zs p (-1) w10 HT10.out.2.2.1.slice (Nat.le_trans HK.out.1 (by omega)) (fun z hz => (HK.out.2.2 z hz).1)
          have HK12 : Hid ((Tre.delT zs p (-1)).1 = 0 → Tre.Kept (Tre.delT zs p (-1)).2.2) := fun h => Tre.kept_del HK.out h
          generalize (Tre.delT zs p (-1)).1 = c3 at *
          generalize (Tre.delT zs p (-1)).2.1 = t3 at *
          generalize (Tre.delT zs p (-1)).2.2 = rs3 at *
          refine hcr.mono ?_
          rintro e w12 ⟨v3, g3, rfl, hg3, hO3, hE3⟩
          obtain ⟨ad3, cap3, rfl⟩ : ∃ ad' cap', v3 = .slice ad' rs3.length cap' := by obtain ⟨a0, c0, h0, -⟩ := hO3; exact ⟨a0, c0, h0⟩
          have hgb : rb < g3 := Nat.lt_of_lt_of_le hlt10 hg3
          have hg9 : w.heap.size ≤ g3 := Nat.le_trans HT10.out.2.1.2.1 hg3
          have HT12 : Hid (St w b (a5 + 4) cv (.slice (some ⟨g, off, none⟩) zs.length cap) g zs w12) := HT10.out.ext hE3
          have HO12 : Hid (Own w12 (.slice ad3 rs3.length cap3) g3 rs3) := hO3
          have x0 := (Below.cell hE3 (p := ⟨rb, 0, none⟩) hlt10).trans c0
          have x1 := (Below.cell hE3 (p := ⟨rb, 1, none⟩) hlt10).trans c1
          have x2 := (Below.cell hE3 (p := ⟨rb, 2, none⟩) hlt10).trans c2
          have y0 := (Below.frozen hE3 (p := ⟨rb, 0, none⟩) hlt10).trans f0
          have y1 := (Below.frozen hE3 (p := ⟨rb, 1, none⟩) hlt10).trans f1
          have y2 := (Below.frozen hE3 (p := ⟨rb, 2, none⟩) hlt10).trans f2
          clear hO3 hE3 hcr hg3 c0 c1 c2 f0 f1 f2 HT10 HO10 HK9
          unfold zr
          by_cases hc : c3 = 0
          · subst hc
            have HKz : Hid (Tre.Kept rs3) := HK12.out rfl
            clear HK12
            go_wp2
            obtain ⟨off', cap2, hv'⟩ := HO12.out.at HKz.out.pos
            exact ⟨⟨g3, off', cap2, k - 1, (a5 + 4), rs3, hv', by rw [show ((k - 1 : Nat) : Int) = (k : Int) - 1 from by omega], by omega, HKz, hg9, hv' ▸ ((HO12.out.upd ((Upd.refl rb _).setAt 0 _) (by omega)).upd ((Upd.refl rb _).setAt 1 _) (by omega)).upd ((Upd.refl rb _).setAt 2 _) (by omega), by omega, (((HT12.out.box hbl (by omega) (by omega) 0 _).box hbl (by omega) (by omega) 1 _).box hbl (by omega) (by omega) 2 _).1, (((HT12.out.box hbl (by omega) (by omega) 0 _).box hbl (by omega) (by omega) 1 _).box hbl (by omega) (by omega) 2 _).2.1⟩, by simp [intOf]; omega⟩
          · have ec : (c3 == 0) = false := by simp [hc]
            go_wp2
            have hX := ((HT12.out.box hbl (rb := rb) (by omega) (by omega) 0 (.int .i64 c3)).box hbl (rb := rb) (by omega) (by omega) 1 (.string t3)).box hbl (rb := rb) (by omega) (by omega) 2 (.slice ad3 rs3.length cap3)
            exact ⟨⟨g, off, cap, k - 1, (a5 + 4), zs, rfl, by rw [show ((k - 1 : Nat) : Int) = (k : Int) - 1 from by omega], by omega, HK, hgw, hX.2.2.1, by omega, hX.1, hX.2.1⟩, by simp [intOf]; omega⟩
        · have e1 : (r6 == 1) = false := by simp [h7]
          by_cases hc : c = 0
          · subst hc
            have HKz : Hid (Tre.Kept rs) := HK9.out rfl
            clear HK9
            go_wp2
            obtain ⟨off', cap2, hv'⟩ := HO10.out.at HKz.out.pos
            exact ⟨⟨g', off', cap2, k - 1, a5 + 4, rs, hv', by rw [show ((k - 1 : Nat) : Int) = (k : Int) - 1 from by omega], by omega, HKz, hg9, hv' ▸ HO10, by omega, HT10.out.1, HT10.out.2.1⟩, by simp [intOf]; omega⟩
          · have ec : (c == 0) = false := by simp [hc]
            go_wp2
            exact ⟨⟨g, off, cap, k - 1, a5 + 4, zs, rfl, by rw [show ((k - 1 : Nat) : Int) = (k : Int) - 1 from by omega], by omega, HK, hgw, HT10.out.2.2.1, by omega, HT10.out.1, HT10.out.2.1⟩, by simp [intOf]; omega⟩
    · go_wp2
      go_ret
      exact ⟨g, off, cap, a', zs, rfl, HK.out, hgw, HO.out, by omega, HS4.out, HU4.out⟩
end Go.Proofs.YtlnkheopmagacaaDoor

/- draws of trees: l2Bent. -/
namespace Go.Proofs.YtlnkheopmagacaaDoor
open Go.RowKit
/-- A tree that is not empty, nor too great. -/
def Few (zs : List Zn) : Prop := 0 < zs.length ∧ zs.length ≤ 21
theorem Upd.above {w wr : World} {b rb : Nat} (h : Upd b w wr) (hb : b < w.heap.size) (h1 : w.heap.size ≤ rb) (o : Nat) (u : Value) : Upd b w (wr.setCell ⟨rb, o, none⟩ u) := by
  have hu : Upd rb wr (wr.setCell ⟨rb, o, none⟩ u) := (Upd.refl _ _).setAt o u
  refine ⟨Below.trans h.1 (Below.mono hu.1 (by omega)), Nat.le_trans h.2.1 hu.2.1, fun c o' hc hl => ?_⟩
  have e1 := hu.at_ne c o' (by omega) (Nat.lt_of_lt_of_le hl h.2.1)
  have e2 := h.2.2 c o' hc hl
  exact ⟨e1.1.trans e2.1, e1.2.trans e2.2⟩
theorem bent_store {w wr : World} {b a a0 k g off cap i : Nat} {cv : Value} {zs : List Zn} {z : Zn} (h : St w b a cv (.slice (some ⟨g, off, none⟩) zs.length cap) g zs wr) (hb : b < w.heap.size) (hg : w.heap.size ≤ g) (hz : zs[i]? = some z) (hl : zs.length ≤ 20) (ha : a ≤ a0 + k) (r : Nat) (hr : r < 5) (u : Value) (z' : Zn) (hz' : zcells z' = (zcells z).set r u) :
    DrawnT Few b a0 k cv w (.returned (.slice (some ⟨g, off, none⟩) zs.length cap)) (wr.setCell ⟨g, off + i * 5 + r, none⟩ u) := by
  have hu : Upd g wr (wr.setCell ⟨g, off + i * 5 + r, none⟩ u) := (Upd.refl _ _).setAt _ u
  have hi := (List.getElem?_eq_some_iff.1 hz).1
  refine ⟨g, off, cap, a, zs.set i z', by rw [List.length_set], ⟨by rw [List.length_set]; omega, by rw [List.length_set]; omega⟩, hg, ?_, ha, h.1.kept (Below.mono hu.1 (by omega)), h.2.1.above hb hg _ _⟩
  rw [List.length_set]
  exact h.2.2.1.field hz r hr u z' hz'
theorem nums2 (w : World) (x y : Int) (t : TypeId) : NumsAt (w.alloc (.cells #[.int .i64 x, .int .i64 y] t)) w.heap.size 0 [x, y] := by
  intro i u hu
  match i, hu with
  | 0, hu => cases hu; simp
  | 1, hu => cases hu; simp
theorem Own.room {w : World} {g off cap : Nat} {zs : List Zn} (h : Own w (.slice (some ⟨g, off, none⟩) zs.length cap) g zs) (hp : 0 < zs.length) : Room w g off zs.length ∧ zs.length ≤ cap ∧ cap ≤ maxLen := by
  obtain ⟨a, cap', he, h2, h3, h4⟩ := h
  obtain ⟨off', ha, hR, -⟩ := h4 hp
  injection he with e1 _ e3
  subst e3
  rw [← e1] at ha
  injection ha with ha
  injection ha with _ ha _
  subst ha
  exact ⟨hR, h2, h3⟩
def z0 : Zn := ⟨⟨#[]⟩, 0, 0, 0, 0⟩
theorem made21 : (madeCells #[.string ⟨#[]⟩, .int .i64 0, .int .i64 0, .int .i64 0, .int .i64 0] 105).toList = cellsZ (List.replicate 21 z0) := by kernel_rfl

set_option maxHeartbeats 4000000 in
set_option maxRecDepth 100000 in
theorem l2Bent_any (b a : Nat) (cv : Value) (w : World) (h : SrcAt w b a cv) (ha : a ≤ 600) :
    Calls Tryd.prog 40 #[.pointer (some ⟨b, 0, none⟩)] w (DrawnT Few b a 109 cv w) := by
  have hi9 : (Tryd.prog.info? 32).map (fun i => (i.zero, i.size, i.bytes)) = some (some (.agg #[.string ⟨#[]⟩, .int .i64 0, .int .i64 0, .int .i64 0, .int .i64 0]), 5, 48) := by kernel_rfl
  obtain ⟨i0, hi, hx⟩ := Option.map_eq_some_iff.1 hi9
  simp only [Prod.mk.injEq] at hx
  obtain ⟨hz0, hz1, hz2⟩ := hx
  clear hi9
  have hbl : b < w.heap.size := h.2.2.2.1
  have HS : Hid (SrcAt w b a cv) := h
  clear h
  go_enter Tryd.func40, Tryd.ntmps40
  go_wp2_with fail
  refine (l2Right_any b a cv _ (by exact HS.out) (by omega)).mono ?_
  rintro e w1 ⟨g, off, cap, a1, zs, rfl, hK, hgw, hO, ha1, hS1, hU1⟩
  have hpos := hK.pos
  have hl20 := hK.1
  have HT1 : Hid (St w b a1 cv (.slice (some ⟨g, off, none⟩) zs.length cap) g zs w1) := ⟨hS1, hU1, hO, by omega⟩
  clear hK hO hS1 hU1
  go_wp2_with fail
  refine (next_any b a1 cv zs.length _ (by exact HT1.out.1) (by omega) (by omega) (by omega)).mono ?_
  rintro e w2 ⟨ri, q2, rfl, hi0, hi1, hw⟩
  obtain ⟨i, rfl⟩ := Int.eq_ofNat_of_zero_le hi0
  have hil : i < zs.length := by omega
  have HT2 : Hid (St w b (a1 + 1) cv (.slice (some ⟨g, off, none⟩) zs.length cap) g zs w2) := by rw [hw]; exact HT1.out.place _ _
  clear hw HT1
  go_wp2_with fail
  refine (next_any b (a1 + 1) cv 14 _ (by exact HT2.out.1) (by omega) (by omega) (by omega)).mono ?_
  rintro e w3 ⟨r, q3, rfl, hr0, hr1, hw⟩
  have HT3 : Hid (St w b (a1 + 2) cv (.slice (some ⟨g, off, none⟩) zs.length cap) g zs w3) := by rw [hw]; exact HT2.out.place _ _
  clear hw HT2
  obtain ⟨z, hzi⟩ : ∃ z, zs[i]? = some z := ⟨_, List.getElem?_eq_getElem hil⟩
  have HZ : Hid (zs[i]? = some z) := hzi
  clear hzi
  by_cases h0 : r = 0
  · subst h0
    go_wp2_with fail
    refine (bent_any b (a1 + 2) cv _ (by exact HT3.out.1) (by omega)).mono ?_
    rintro e w4 ⟨t, a4, rfl, -, ha4, hS4, hU4⟩
    have HT4 : Hid (St w b a4 cv (.slice (some ⟨g, off, none⟩) zs.length cap) g zs w4) := HT3.out.upd hS4 hU4
    clear hS4 hU4 HT3
    obtain ⟨hR9, hlc9, hcm9⟩ := HT4.out.2.2.1.room hpos
    obtain ⟨⟨y1, r1⟩, s1⟩ := hR9.2 (i * 5 + 0) (by omega)
    rw [← Nat.add_assoc] at r1 s1
    unfold maxLen at hcm9
    clear hR9
    simp only [Nat.add_zero] at r1 s1
    go_wp2
    go_ret
    exact bent_store HT4.out hbl hgw HZ.out hl20 (by omega) 0 (by omega) (.string t) { z with path := t } rfl
  have e0 : (r == 0) = false := by simp [h0]
  by_cases h1 : r = 1
  · subst h1
    go_wp2_with fail
    have hl3 : b < w3.heap.size := HT3.out.1.lt
    refine (pick_any b (a1 + 2) w3.heap.size 0 2 cv [-1, 10000] _ (by exact (HT3.out.alloc _).1) (by omega) (nums2 _ _ _ _) (by simp) (by simp) (by omega)).mono ?_
    rintro e w4 ⟨x, q4, rfl, hw⟩
    have HT4 : Hid (St w b (a1 + 3) cv (.slice (some ⟨g, off, none⟩) zs.length cap) g zs w4) := by rw [hw]; exact (HT3.out.alloc _).place _ _
    clear hw HT3
    obtain ⟨hR9, hlc9, hcm9⟩ := HT4.out.2.2.1.room hpos
    obtain ⟨⟨y1, r1⟩, s1⟩ := hR9.2 (i * 5 + 1) (by omega)
    rw [← Nat.add_assoc] at r1 s1
    unfold maxLen at hcm9
    clear hR9
    go_wp2
    go_ret
    exact bent_store HT4.out hbl hgw HZ.out hl20 (by omega) 1 (by omega) (.int .i64 x) { z with data := x } rfl
  have e1 : (r == 1) = false := by simp [h1]
  by_cases h2 : r = 2
  · subst h2
    go_wp2_with fail
    have hl3 : b < w3.heap.size := HT3.out.1.lt
    refine (pick_any b (a1 + 2) w3.heap.size 0 3 cv [-1, 999, 1000] _ (by exact (HT3.out.alloc _).1) (by omega) (nums3 _ _ _ _ _) (by simp) (by simp) (by omega)).mono ?_
    rintro e w4 ⟨x, q4, rfl, hw⟩
    have HT4 : Hid (St w b (a1 + 3) cv (.slice (some ⟨g, off, none⟩) zs.length cap) g zs w4) := by rw [hw]; exact (HT3.out.alloc _).place _ _
    clear hw HT3
    obtain ⟨hR9, hlc9, hcm9⟩ := HT4.out.2.2.1.room hpos
    obtain ⟨⟨y1, r1⟩, s1⟩ := hR9.2 (i * 5 + 2) (by omega)
    rw [← Nat.add_assoc] at r1 s1
    unfold maxLen at hcm9
    clear hR9
    go_wp2
    go_ret
    exact bent_store HT4.out hbl hgw HZ.out hl20 (by omega) 2 (by omega) (.int .i64 x) { z with version := x } rfl
  have e2 : (r == 2) = false := by simp [h2]
  by_cases h3 : r = 3
  · subst h3
    go_wp2_with fail
    have hl3 : b < w3.heap.size := HT3.out.1.lt
    refine (pick_any b (a1 + 2) w3.heap.size 0 2 cv [3, 10] _ (by exact (HT3.out.alloc _).1) (by omega) (nums2 _ _ _ _) (by simp) (by simp) (by omega)).mono ?_
    rintro e w4 ⟨x, q4, rfl, hw⟩
    have HT4 : Hid (St w b (a1 + 3) cv (.slice (some ⟨g, off, none⟩) zs.length cap) g zs w4) := by rw [hw]; exact (HT3.out.alloc _).place _ _
    clear hw HT3
    obtain ⟨hR9, hlc9, hcm9⟩ := HT4.out.2.2.1.room hpos
    obtain ⟨⟨y1, r1⟩, s1⟩ := hR9.2 (i * 5 + 3) (by omega)
    rw [← Nat.add_assoc] at r1 s1
    unfold maxLen at hcm9
    clear hR9
    go_wp2
    go_ret
    exact bent_store HT4.out hbl hgw HZ.out hl20 (by omega) 3 (by omega) (.int .i64 x) { z with owner := x } rfl
  have e3 : (r == 3) = false := by simp [h3]
  by_cases h4 : r = 4
  · subst h4
    go_wp2_with fail
    have hl3 : b < w3.heap.size := HT3.out.1.lt
    refine (pick_any b (a1 + 2) w3.heap.size 0 2 cv [100, 101] _ (by exact (HT3.out.alloc _).1) (by omega) (nums2 _ _ _ _) (by simp) (by simp) (by omega)).mono ?_
    rintro e w4 ⟨x, q4, rfl, hw⟩
    have HT4 : Hid (St w b (a1 + 3) cv (.slice (some ⟨g, off, none⟩) zs.length cap) g zs w4) := by rw [hw]; exact (HT3.out.alloc _).place _ _
    clear hw HT3
    obtain ⟨hR9, hlc9, hcm9⟩ := HT4.out.2.2.1.room hpos
    obtain ⟨⟨y1, r1⟩, s1⟩ := hR9.2 (i * 5 + 4) (by omega)
    rw [← Nat.add_assoc] at r1 s1
    unfold maxLen at hcm9
    clear hR9
    go_wp2
    go_ret
    exact bent_store HT4.out hbl hgw HZ.out hl20 (by omega) 4 (by omega) (.int .i64 x) { z with next := x } rfl
  have e4 : (r == 4) = false := by simp [h4]
  by_cases h5 : r = 5
  · subst h5
    have hmk : ∀ W : World, (Instr.makeSlice 24 (.int .i64 21) (.int .i64 21)).run Tryd.prog W = .ok (.slice (some ⟨W.heap.size, 0, none⟩) 21 21) (W.alloc (.cells (madeCells #[.string ⟨#[]⟩, .int .i64 0, .int .i64 0, .int .i64 0, .int .i64 0] 105) 32)) := fun W => by
      have h := run_make (P := Tryd.prog) W 24 32 i0 _ Tryd.underlying24 hi hz0 .i64 .i64 21 21 (by omega) (by omega) (by rw [hz2]; omega) (by omega)
      rw [hz1] at h
      exact h
    have HM : Hid ((madeCells #[.string ⟨#[]⟩, .int .i64 0, .int .i64 0, .int .i64 0, .int .i64 0] 105).toList = cellsZ (List.replicate 21 z0)) := made21
    generalize madeCells #[.string ⟨#[]⟩, .int .i64 0, .int .i64 0, .int .i64 0, .int .i64 0] 105 = M at hmk HM
    go_wp2
    go_ret
    obtain ⟨g9, hg9, hO9⟩ := own_lit w3 (List.replicate 21 z0) M 32 HM.out (by unfold maxLen; simp)
    obtain ⟨off9, cap9, he9⟩ := hO9.at (by simp)
    injection he9 with e91 _ _
    injection e91 with e91
    injection e91 with e91 _ _
    subst e91
    exact ⟨w3.heap.size, 0, 21, a1 + 2, List.replicate 21 z0, by simp, ⟨by simp, by simp⟩, HT3.out.2.1.2.1, hO9, by omega, (HT3.out.alloc _).1, (HT3.out.alloc _).2.1⟩
  have e5 : (r == 5) = false := by simp [h5]
  go_wp2
  go_ret
  exact ⟨g, off, cap, a1 + 2, zs, rfl, ⟨hpos, by omega⟩, hgw, HT3.out.2.2.1, by omega, HT3.out.1, HT3.out.2.1⟩
end Go.Proofs.YtlnkheopmagacaaDoor

/- draws of trees with what is asked of them: l1Later, l2With, DrawDeleteZ, DrawSetZ. -/
namespace Go.Proofs.YtlnkheopmagacaaDoor
open Go.RowKit
/-- What a draw of a tree and more leaves. -/
def DrawnW (us : List Value → Prop) (w : World) (e : Ending) (w' : World) : Prop :=
  ∃ (g off cap : Nat) (zs : List Zn) (p : ByteArray) (l : List Value), e = .returned (.tuple (.slice (some ⟨g, off, none⟩) zs.length cap :: .string p :: l).toArray) ∧ us l ∧ Few zs ∧ Own w' (.slice (some ⟨g, off, none⟩) zs.length cap) g zs ∧ Ext w w'
theorem Own.node {w : World} {g off cap i : Nat} {zs : List Zn} {z : Zn} (h : Own w (.slice (some ⟨g, off, none⟩) zs.length cap) g zs) (hz : zs[i]? = some z) : w.cell? ⟨g, off + i * 5, none⟩ = some (.string z.path) := by
  have hi := (List.getElem?_eq_some_iff.1 hz).1
  obtain ⟨a, cap', he, h2, h3, h4⟩ := h
  obtain ⟨off', ha, -, hN⟩ := h4 (by omega)
  injection he with e1 _ e3
  subst e3
  rw [← e1] at ha
  injection ha with ha
  injection ha with _ ha _
  subst ha
  exact (hN i z hz).1

set_option maxHeartbeats 400000 in
theorem later_any (cv : Value) (n : Nat) (w : World) (ad : Option Addr) (len cap : Nat) (hcv : cv = .slice ad len cap) (hn : n ≤ 20) :
    Calls Tryd.prog 11 #[cv, .int .i64 n] w fun e w' => e = .returned (.pointer (some ⟨w.heap.size, 0, none⟩)) ∧ w' = w.alloc (.cells #[cv, .int .i64 (5 + 7 * n : Nat)] 53) := by
  subst hcv
  have k1 : IntKind.i64.wrap (7 * (n : Int)) = 7 * n := by rw [IntKind.wrap_i64]; omega
  have k2 : IntKind.i64.wrap (5 + 7 * (n : Int)) = 5 + 7 * n := by rw [IntKind.wrap_i64]; omega
  go_enter Tryd.func11, Tryd.ntmps11
  go_wp2
  go_ret
  exact ⟨rfl, by simp⟩
theorem src_new2 {w : World} {cv : Value} (n : Nat) (h : CodeOk w w.heap.size cv) : SrcAt (w.alloc (.cells #[cv, .int .i64 (n : Nat)] 53)) w.heap.size n cv :=
  ⟨by simp, by simp, by simp, by simp, h.below ((Below.refl _ _).alloc (Nat.le_refl _) _)⟩

set_option maxHeartbeats 2000000 in
set_option maxRecDepth 100000 in
theorem l2With_any (cv : Value) (w : World) (hc : CodeOk w w.heap.size cv) :
    Calls Tryd.prog 25 #[cv] w (DrawnW (fun l => l = []) w) := by
  have HS : Hid (SrcAt (w.alloc (.cells #[cv, .int .i64 0] 53)) w.heap.size 0 cv) := src_new hc
  obtain ⟨ad, len, cap0, hcv, -⟩ := hc
  have HC := source_any cv w ad len cap0 hcv
  clear hcv
  go_enter Tryd.func25, Tryd.ntmps25
  go_wp2_with fail
  refine HC.mono ?_
  rintro e w1 ⟨rfl, rfl⟩
  clear HC
  go_wp2_with fail
  refine (l2Bent_any w.heap.size 0 cv _ (by exact HS.out) (by omega)).mono ?_
  rintro e w2 ⟨g, off, cap, a2, zs, rfl, hF, hg, hO, ha2, hS2, hU2⟩
  have hg2 : w.heap.size < g := by have h2 := hg; simp at h2; omega
  have hpos := hF.1
  have h21 := hF.2
  have HT2 : Hid (St (w.alloc (.cells #[cv, .int .i64 0] 53)) w.heap.size a2 cv (.slice (some ⟨g, off, none⟩) zs.length cap) g zs w2) := ⟨hS2, hU2, hO, by omega⟩
  clear hF hg hO hS2 hU2
  go_wp2_with fail
  refine (chance_any w.heap.size a2 cv 2 _ (by exact HT2.out.1) (by omega) (by omega) (by omega)).mono ?_
  rintro e w3 ⟨c, q, rfl, hw⟩
  have HT3 : Hid (St (w.alloc (.cells #[cv, .int .i64 0] 53)) w.heap.size (a2 + 1) cv (.slice (some ⟨g, off, none⟩) zs.length cap) g zs w3) := by rw [hw]; exact HT2.out.place _ _
  clear hw HT2
  cases c
  · go_wp2_with fail
    refine (bent_any w.heap.size (a2 + 1) cv _ (by exact HT3.out.1) (by omega)).mono ?_
    rintro e w4 ⟨t, a4, rfl, -, ha4, hS4, hU4⟩
    have HT4 : Hid (St (w.alloc (.cells #[cv, .int .i64 0] 53)) w.heap.size a4 cv (.slice (some ⟨g, off, none⟩) zs.length cap) g zs w4) := HT3.out.upd hS4 hU4
    clear hS4 hU4 HT3
    go_wp2
    go_ret2
    exact ⟨g, off, cap, zs, t, [], rfl, rfl, ⟨hpos, h21⟩, HT4.out.2.2.1, ext_of_upd HT4.out.2.1⟩
  · have HX : Hid (∀ (W : World) (i q4 : Nat), (W = w3 ∨ ∃ n, W = w3.drewN n) → i < zs.length → ∀ w4, w4 = (W.setCell ⟨w.heap.size, 1, none⟩ (.int .i64 (a2 + 1 + 1 : Nat))).drewN q4 → ∃ z : Zn, w4.cell? ⟨g, off + i * 5, none⟩ = some (.string z.path) ∧ Hid (St (w.alloc (.cells #[cv, .int .i64 0] 53)) w.heap.size (a2 + 2) cv (.slice (some ⟨g, off, none⟩) zs.length cap) g zs w4)) := by
      intro W i q4 hW hi w4 hw
      have HW : St (w.alloc (.cells #[cv, .int .i64 0] 53)) w.heap.size (a2 + 1) cv (.slice (some ⟨g, off, none⟩) zs.length cap) g zs W := by
        rcases hW with rfl | ⟨n, rfl⟩
        · exact HT3.out
        · exact HT3.out.upd (HT3.out.1.drewN n) ((Upd.refl _ _).drewN n)
      have HT4 : St (w.alloc (.cells #[cv, .int .i64 0] 53)) w.heap.size (a2 + 2) cv (.slice (some ⟨g, off, none⟩) zs.length cap) g zs w4 := by rw [hw]; exact HW.place _ _
      obtain ⟨z, hzi⟩ : ∃ z, zs[i]? = some z := ⟨_, List.getElem?_eq_getElem hi⟩
      exact ⟨z, HT4.2.2.1.node hzi, HT4⟩
    have HN : Hid (∀ W : World, (W = w3 ∨ W = w3.drewN 1) → Calls Tryd.prog 13 #[.pointer (some ⟨w.heap.size, 0, none⟩), .int .i64 zs.length] W fun e w4 => ∃ (i : Nat) (z : Zn), e = .returned (.int .i64 i) ∧ i < zs.length ∧ w4.cell? ⟨g, off + i * 5, none⟩ = some (.string z.path) ∧ Hid (St (w.alloc (.cells #[cv, .int .i64 0] 53)) w.heap.size (a2 + 2) cv (.slice (some ⟨g, off, none⟩) zs.length cap) g zs w4)) := by
      intro W hW
      refine (next_any w.heap.size (a2 + 1) cv zs.length W (by rcases hW with rfl | rfl <;> first | exact HT3.out.1 | exact HT3.out.1.drewN 1) (by omega) (by omega) (by omega)).mono ?_
      rintro e w4 ⟨ri, q4, rfl, hi0, hi1, hw⟩
      obtain ⟨i, rfl⟩ := Int.eq_ofNat_of_zero_le hi0
      have hil : i < zs.length := by omega
      obtain ⟨z, hcz, HT4⟩ := HX.out W i q4 (by rcases hW with rfl | rfl <;> first | exact Or.inl rfl | exact Or.inr ⟨1, rfl⟩) hil w4 hw
      exact ⟨i, z, rfl, hil, hcz, HT4⟩
    have hcm := (HT3.out.2.2.1.room hpos).2
    unfold maxLen at hcm
    clear HX
    go_wp2
    go_region_with (go_at_call 13; refine (HN.out _ (by first | exact Or.inl rfl | exact Or.inr rfl)).mono ?_; rintro e w4 ⟨i, z, rfl, hil, hcz, HT4⟩)
    all_goals
      go_wp2
      go_ret2
      exact ⟨g, off, cap, zs, z.path, [], rfl, rfl, ⟨hpos, h21⟩, HT4.out.2.2.1, ext_of_upd HT4.out.2.1⟩
end Go.Proofs.YtlnkheopmagacaaDoor

/- draws of trees with what is asked of them: DrawDeleteZ, DrawSetZ. -/
namespace Go.Proofs.YtlnkheopmagacaaDoor
open Go.RowKit

set_option maxHeartbeats 2000000 in
set_option maxRecDepth 100000 in
theorem drawDeleteZ_any (cv : Value) (w : World) (hc : CodeOk w w.heap.size cv) :
    Calls Tryd.prog 10 #[cv] w (DrawnW (fun l => ∃ n : Int, l = [.int .i64 n]) w) := by
  have hc' := hc
  obtain ⟨ad, len, cap0, rfl, hl, -⟩ := hc'
  have HC : Hid (CodeOk w w.heap.size (.slice ad len cap0)) := hc
  clear hc
  go_enter Tryd.func10, Tryd.ntmps10
  go_wp2_with fail
  refine (l2With_any _ _ HC.out).mono ?_
  rintro e w1 ⟨g, off, cap, zs, p, l, rfl, rfl, hF, hO, hE⟩
  have HO1 : Hid (Own w1 (.slice (some ⟨g, off, none⟩) zs.length cap) g zs) := hO
  have HF : Hid (Few zs) := hF
  have HE1 : Hid (Ext w w1) := hE
  have hg1 := hO.lt hF.1
  clear hO hF hE
  go_wp2_with fail
  refine (later_any (.slice ad len cap0) 4 _ ad len cap0 rfl (by omega)).mono ?_
  rintro e w2 ⟨rfl, hw⟩
  have HS2 : Hid (SrcAt w2 w1.heap.size 33 (.slice ad len cap0)) := by rw [hw]; exact src_new2 33 (HC.out.rise HE1.out HE1.out.size)
  have HO2 : Hid (Own w2 (.slice (some ⟨g, off, none⟩) zs.length cap) g zs) := by rw [hw]; exact HO1.out.ext ((Ext.refl _).alloc _)
  have HE2 : Hid (Ext w w2) := by rw [hw]; exact HE1.out.alloc _
  have hl2 : w1.heap.size < w2.heap.size := by rw [hw]; simp
  have hs := HE1.out.size
  clear hw HO1
  go_wp2_with fail
  refine (pick_any w1.heap.size 33 w2.heap.size 0 4 (.slice ad len cap0) [-1, 0, 1, -2] _ (by exact HS2.out.alloc _) (by omega) (nums4 _ _ _ _ _ _) (by simp) (by simp) (by omega)).mono ?_
  rintro e w3 ⟨n, q3, rfl, hw⟩
  have HO3 : Hid (Own w3 (.slice (some ⟨g, off, none⟩) zs.length cap) g zs) := by rw [hw]; exact (HO2.out.ext ((Ext.refl _).alloc _)).upd (Upd.place _ _ _) (by omega)
  have HE3 : Hid (Ext w w3) := by rw [hw]; exact (Upd.place _ _ _).to_ext (HE2.out.alloc _) hs
  clear hw HO2
  go_wp2
  exact bodyPost_ret (v := .tuple #[.slice (some ⟨g, off, none⟩) zs.length cap, .string p, .int .i64 n]) (by simp [results, Tryd.results10, go_sem]) rfl ⟨g, off, cap, zs, p, _, rfl, ⟨n, rfl⟩, HF.out, HO3.out, HE3.out⟩

set_option maxHeartbeats 2000000 in
set_option maxRecDepth 100000 in
theorem drawSetZ_any (cv : Value) (w : World) (hc : CodeOk w w.heap.size cv) :
    Calls Tryd.prog 5 #[cv] w (DrawnW (fun l => ∃ d n : Int, l = [.int .i64 d, .int .i64 n]) w) := by
  have hc' := hc
  obtain ⟨ad, len, cap0, rfl, hl, -⟩ := hc'
  have HC : Hid (CodeOk w w.heap.size (.slice ad len cap0)) := hc
  clear hc
  go_enter Tryd.func5, Tryd.ntmps5
  go_wp2_with fail
  refine (drawDeleteZ_any _ _ HC.out).mono ?_
  rintro e w1 ⟨g, off, cap, zs, p, l, rfl, ⟨n, rfl⟩, hF, hO, hE⟩
  have HO1 : Hid (Own w1 (.slice (some ⟨g, off, none⟩) zs.length cap) g zs) := hO
  have HF : Hid (Few zs) := hF
  have HE1 : Hid (Ext w w1) := hE
  have hg1 := hO.lt hF.1
  clear hO hF hE
  go_wp2_with fail
  refine (later_any (.slice ad len cap0) 5 _ ad len cap0 rfl (by omega)).mono ?_
  rintro e w2 ⟨rfl, hw⟩
  have HS2 : Hid (SrcAt w2 w1.heap.size 40 (.slice ad len cap0)) := by rw [hw]; exact src_new2 40 (HC.out.rise HE1.out HE1.out.size)
  have HO2 : Hid (Own w2 (.slice (some ⟨g, off, none⟩) zs.length cap) g zs) := by rw [hw]; exact HO1.out.ext ((Ext.refl _).alloc _)
  have HE2 : Hid (Ext w w2) := by rw [hw]; exact HE1.out.alloc _
  have hl2 : w1.heap.size < w2.heap.size := by rw [hw]; simp
  have hs := HE1.out.size
  clear hw HO1
  go_wp2_with fail
  refine (next_any w1.heap.size 40 (.slice ad len cap0) 99 _ (by exact HS2.out) (by omega) (by omega) (by omega)).mono ?_
  rintro e w3 ⟨d0, q3, rfl, -, -, hw⟩
  have HS3 : Hid (SrcAt w3 w1.heap.size 41 (.slice ad len cap0)) := by rw [hw]; exact HS2.out.place _ _
  have HO3 : Hid (Own w3 (.slice (some ⟨g, off, none⟩) zs.length cap) g zs) := by rw [hw]; exact HO2.out.upd (Upd.place _ _ _) (by omega)
  have HE3 : Hid (Ext w w3) := by rw [hw]; exact (Upd.place _ _ _).to_ext HE2.out hs
  have hl3 : w1.heap.size < w3.heap.size := HS3.out.lt
  clear hw HO2
  go_wp2_with fail
  refine (pick_any w1.heap.size 41 w3.heap.size 0 3 (.slice ad len cap0) [d0, 9999, 10000] _ (by exact HS3.out.alloc _) (by omega) (nums3 _ _ _ _ _) (by simp) (by simp) (by omega)).mono ?_
  rintro e w4 ⟨d, q4, rfl, hw⟩
  have HO4 : Hid (Own w4 (.slice (some ⟨g, off, none⟩) zs.length cap) g zs) := by rw [hw]; exact (HO3.out.ext ((Ext.refl _).alloc _)).upd (Upd.place _ _ _) (by omega)
  have HE4 : Hid (Ext w w4) := by rw [hw]; exact (Upd.place _ _ _).to_ext (HE3.out.alloc _) hs
  clear hw HO3
  go_wp2
  exact bodyPost_ret (v := .tuple #[.slice (some ⟨g, off, none⟩) zs.length cap, .string p, .int .i64 d, .int .i64 n]) (by simp [results, Tryd.results5, go_sem]) rfl ⟨g, off, cap, zs, p, _, rfl, ⟨d, n, rfl⟩, HF.out, HO4.out, HE4.out⟩
end Go.Proofs.YtlnkheopmagacaaDoor

/- a node whose numbers turn within their bounds: the tree keeps its faults; what is set is got. -/
namespace Go.Proofs.YtlnkheopmagacaaDoor
open Go.RowKit
namespace Tre
theorem find_set (q : ByteArray) : ∀ (zs : List Zn) (k : Nat) (z z' : Zn), zs[k]? = some z → isAt q z' = isAt q z → (zs.set k z').findIdx? (isAt q) = zs.findIdx? (isAt q)
  | [], k, z, z', h, _ => by simp at h
  | y :: ys, 0, z, z', h, he => by
    simp at h
    subst h
    simp [List.findIdx?_cons, he]
  | y :: ys, k + 1, z, z', h, he => by
    simp at h
    simp [List.findIdx?_cons, find_set q ys k z z' h he]
theorem at_set {q : ByteArray} {zs : List Zn} {k : Nat} {z z' : Zn} (h : zs[k]? = some z) (he : z'.path = z.path) : atI (zs.set k z') q = atI zs q := by
  unfold atI
  rw [find_set q zs k z z' h (by unfold isAt; rw [he])]
theorem get_set {zs : List Zn} {k : Nat} {z z' : Zn} (h : zs[k]? = some z) (hp : z'.path = z.path) (ho : z'.owner = z.owner) (hn : okNums z = true → okNums z' = true) {j : Nat} {x' : Zn} (hx : (zs.set k z')[j]? = some x') : ∃ x, zs[j]? = some x ∧ x'.path = x.path ∧ x'.owner = x.owner ∧ (okNums x = true → okNums x' = true) := by
  have hk := (List.getElem?_eq_some_iff.1 h).1
  by_cases hj : k = j
  · subst hj
    rw [List.getElem?_set_self hk] at hx
    cases hx
    exact ⟨z, h, hp, ho, hn⟩
  · rw [List.getElem?_set_ne hj] at hx
    exact ⟨x', hx, rfl, rfl, fun h => h⟩
theorem fault_set {zs : List Zn} {k : Nat} {z z' : Zn} (h : zs[k]? = some z) (hp : z'.path = z.path) (ho : z'.owner = z.owner) (hn : okNums z = true → okNums z' = true) (hf : fault zs = 0) : fault (zs.set k z') = 0 := by
  obtain ⟨hl, hN⟩ := fault_nodes hf
  obtain ⟨ht, hP, hO⟩ := fault_hang hf
  have hlen : (zs.set k z').length = zs.length := by simp
  refine fault_own (by rw [hlen]; omega) ?_ (by rw [at_set h hp]; omega) ?_ ?_
  · refine first_none fun j hj => ?_
    rw [hlen] at hj
    obtain ⟨x', hx'⟩ : ∃ x', (zs.set k z')[j]? = some x' := ⟨_, List.getElem?_eq_getElem (by rw [hlen]; exact hj)⟩
    obtain ⟨x, hx, xp, -, xn⟩ := get_set h hp ho hn hx'
    obtain ⟨f0, n0⟩ := nodeC_ok hx (hN j hj)
    match j, hj, hx', hx with
    | 0, hj, hx', hx => exact nodeC_zero hx' (by rw [xp, f0]) (xn n0)
    | m + 1, hj, hx', hx =>
      obtain ⟨y', hy'⟩ : ∃ y', (zs.set k z')[m]? = some y' := ⟨_, List.getElem?_eq_getElem (by rw [hlen]; omega)⟩
      obtain ⟨y, hy, yp, -, -⟩ := get_set h hp ho hn hy'
      have h1 := hN (m + 1) hj
      rw [nodeC_succ hx hy f0.symm n0] at h1
      rw [nodeC_succ hx' hy' (by rw [xp, f0]) (xn n0), show notUp x' y' = notUp x y from by unfold notUp; rw [xp, yp]]
      exact h1
  · refine first_none fun j hj => ?_
    rw [hlen] at hj
    obtain ⟨x', hx'⟩ : ∃ x', (zs.set k z')[j]? = some x' := ⟨_, List.getElem?_eq_getElem (by rw [hlen]; exact hj)⟩
    obtain ⟨x, hx, xp, -, -⟩ := get_set h hp ho hn hx'
    have h1 := hP j hj
    rw [parC_eq hx] at h1
    rw [parC_eq hx', at_set h hp, xp]
    exact h1
  · refine first_none fun j hj => ?_
    rw [hlen] at hj
    obtain ⟨x', hx'⟩ : ∃ x', (zs.set k z')[j]? = some x' := ⟨_, List.getElem?_eq_getElem (by rw [hlen]; exact hj)⟩
    obtain ⟨x, hx, xp, -, -⟩ := get_set h hp ho hn hx'
    have h1 := hO j hj
    unfold ownC at h1 ⊢
    rw [hx] at h1
    rw [hx']
    dsimp only at h1 ⊢
    rw [at_set h hp, xp]
    cases hy' : (zs.set k z')[(atI zs (par x.path)).toNat]? with
    | none => rfl
    | some y' =>
      obtain ⟨y, hy, -, yo, -⟩ := get_set h hp ho hn hy'
      rw [hy] at h1
      dsimp only at h1 ⊢
      rw [yo]
      exact h1
/-- All that holds of what is set. -/
theorem set_all {zs : List Zn} {p : ByteArray} {d n : Int} (h0 : (setV zs p d n).1 = 0) : ∃ (k : Nat) (z : Zn), zs[k]? = some z ∧ okData d = true ∧ 0 ≤ z.version ∧ z.version < 999 ∧ (n = -1 ∨ n = z.version) ∧ setV zs p d n = (0, ⟨#[]⟩, zs.set k { z with data := d, version := z.version + 1 })
    ∧ fault (zs.set k { z with data := d, version := z.version + 1 }) = 0 ∧ getT (zs.set k { z with data := d, version := z.version + 1 }) p = (0, ⟨#[]⟩, [{ z with data := d, version := z.version + 1 }]) ∧ getT zs p = (0, ⟨#[]⟩, [z]) ∧ setV (zs.set k { z with data := d, version := z.version + 1 }) p d z.version = (7, ⟨#[]⟩, []) := by
  have hA : asked zs p = 0 := by
    refine Classical.byContradiction fun h => ?_
    unfold setV at h0
    rw [if_pos h] at h0
    exact h h0
  have hV : setV zs p d n = setT zs p d n := by unfold setV; rw [if_neg (by simpa using hA)]
  rw [hV] at h0 ⊢
  have hf : fault zs = 0 ∧ Pth.faultI p.data.toList = 0 := by
    unfold asked at hA
    split at hA
    · rename_i h; exact absurd hA h
    · rename_i h; exact ⟨by simpa using h, hA⟩
  cases hd : okData d with
  | false => rw [setT_data hd] at h0; simp at h0
  | true =>
  by_cases ha : atI zs p < 0
  · rw [setT_none hd ha] at h0; simp at h0
  obtain ⟨k, z, hk, hkl, hz⟩ : ∃ (k : Nat) (z : Zn), atI zs p = k ∧ k < zs.length ∧ zs[k]? = some z := by
    rcases atI_range zs p with ⟨h1, -⟩ | ⟨k, z, h1, h2, h3, -⟩
    · omega
    · exact ⟨k, z, h1, h2, h3⟩
  rw [setT_some hd hk hz] at h0
  have hnm := (nodeC_ok hz ((fault_nodes hf.1).2 k hkl)).2
  have hnm2 := hnm
  unfold okNums at hnm2
  simp only [Bool.and_eq_true, decide_eq_true_eq] at hnm2
  split at h0
  · simp at h0
  rename_i hv
  split at h0
  · simp at h0
  rename_i hv9
  have hn : n = -1 ∨ n = z.version := by omega
  have hd2 := hd
  unfold okData at hd2
  simp only [Bool.and_eq_true, decide_eq_true_eq] at hd2
  have hF : fault (zs.set k { z with data := d, version := z.version + 1 }) = 0 := fault_set hz rfl rfl (fun _ => by unfold okNums; simp only [Bool.and_eq_true, decide_eq_true_eq]; omega) hf.1
  have hA2 : asked (zs.set k { z with data := d, version := z.version + 1 }) p = 0 := by unfold asked; rw [hF, if_neg (by simp)]; exact hf.2
  have hk2 : atI (zs.set k { z with data := d, version := z.version + 1 }) p = k := (at_set (z' := { z with data := d, version := z.version + 1 }) hz rfl).trans hk
  have hz2 : (zs.set k { z with data := d, version := z.version + 1 })[k]? = some { z with data := d, version := z.version + 1 } := List.getElem?_set_self hkl
  refine ⟨k, z, hz, rfl, by omega, by omega, hn, ?_, hF, getT_ok hA2 hk2 hz2, getT_ok hA hk hz, ?_⟩
  · rw [setT_some hd hk hz, if_neg hv, if_neg hv9]
  · unfold setV
    rw [if_neg (by simpa using hA2), setT_some hd hk2 hz2, if_pos (by constructor; · omega
                                                                      · show z.version ≠ z.version + 1; omega)]
end Tre
end Go.Proofs.YtlnkheopmagacaaDoor

/- The program's SetZ. -/
namespace Go.Proofs.YtlnkheopmagacaaDoor
open Go.RowKit

set_option maxHeartbeats 2000000 in
set_option maxRecDepth 100000 in
theorem implSetZ_any (v : Value) (zs : List Zn) (p : ByteArray) (d n : Int) (w : World) (hg : Gd w) (hS : NSlice w v zs) :
    Calls Tryd.prog 6 #[v, .string p, .int .i64 d, .int .i64 n] w (ZRet w (Tre.setV zs p d n).1 (Tre.setV zs p d n).2.1 (Tre.setV zs p d n).2.2) := by
  have HL : Hid (∀ wx : World, Ext w wx → Calls Tryd.prog 14 #[v, .string p] wx fun e w' => e = .returned (.int .i64 (Tre.asked zs p)) ∧ Ext wx w') := fun wx h => treeOrPath_any v zs p wx (hg.ext h) (hS.ext h)
  have HD : Hid (∀ wx : World, Calls Tryd.prog 15 #[.int .i64 d, .int .i64 9999] wx fun e w' => e = .returned (.bool (Tre.okData d)) ∧ w' = wx) := isUpTo_any d 9999
  have HS : Hid (NSlice w v zs) := hS
  obtain ⟨a, cap, rfl, -⟩ := hS
  by_cases h0 : Tre.asked zs p ≠ 0
  · rw [Tre.setV_bad rfl h0]
    generalize Tre.asked zs p = F at *
    go_enter Tryd.func6, Tryd.ntmps6
    go_wp2_with fail
    refine (HL.out _ ((Ext.refl _).alloc _)).mono ?_
    rintro e w2 ⟨rfl, hb⟩
    have HB : Hid (Ext w w2) := ((Ext.refl _).alloc _).trans hb
    have HQ : Hid (RBox w2 w.heap.size) := (RBox.new w _).ext hb
    clear hb
    obtain ⟨q, q0, q1, q2, f0, f1, f2⟩ := HQ.out
    go_wp2
    exact bodyPost_ret (v := zr F ⟨#[]⟩ (.slice none 0 0)) (by simp [results, Tryd.results6, go_sem, zr, q0, q1, q2]) rfl (zret_bad _ _ (HB.out.box3 _ _ _))
  have h00 : Tre.asked zs p = 0 := by omega
  rw [h00] at HL
  rw [Tre.setV_ok h00]
  cases hd : Tre.okData d with
  | false =>
    rw [Tre.setT_data hd]
    rw [hd] at HD
    clear hd
    go_enter Tryd.func6, Tryd.ntmps6
    go_wp2_with fail
    refine (HL.out _ ((Ext.refl _).alloc _)).mono ?_
    rintro e w2 ⟨rfl, hb⟩
    have HB : Hid (Ext w w2) := ((Ext.refl _).alloc _).trans hb
    have HQ : Hid (RBox w2 w.heap.size) := (RBox.new w _).ext hb
    clear hb
    go_wp2_with fail
    refine (HD.out _).mono ?_
    rintro e w3 ⟨rfl, rfl⟩
    obtain ⟨q, q0, q1, q2, f0, f1, f2⟩ := HQ.out
    go_wp2
    exact bodyPost_ret (v := zr 3 ⟨#[]⟩ (.slice none 0 0)) (by simp [results, Tryd.results6, go_sem, zr, q0, q1, q2]) rfl (zret_bad _ _ (HB.out.box3 _ _ _))
  | true =>
  rw [hd] at HD
  obtain ⟨h20, hU, hpos, h24⟩ := Tre.asked_len h00
  have HC : Hid (∀ wx : World, Ext w wx → Calls Tryd.prog 16 #[.slice a zs.length cap] wx fun e w' => ∃ v' g, e = .returned v' ∧ wx.heap.size ≤ g ∧ Own w' v' g zs ∧ Ext wx w') := fun wx h => copyNodes_any _ zs wx (HS.out.ext h) (by omega) hpos (fun z hz => by have := h24 z hz; omega)
  have HF : Hid (∀ (wx : World) (g off4 cap4 : Nat), Ext w wx → NSlice wx (.slice (some ⟨g, off4, none⟩) zs.length cap4) zs → Calls Tryd.prog 17 #[.slice (some ⟨g, off4, none⟩) zs.length cap4, .string p] wx fun e w' => e = .returned (ptrV g off4 zs p) ∧ Ext wx w') := fun wx g off4 cap4 _ h => findNode_any g off4 cap4 zs p wx h hU (by omega)
  cases hh : Tre.has zs p with
  | false =>
    rw [Tre.setT_none hd (Tre.has_not hh)]
    simp only [ptrV_miss hh] at HF
    clear hd hh hU h24
    go_enter Tryd.func6, Tryd.ntmps6
    go_wp2_with fail
    refine (HL.out _ ((Ext.refl _).alloc _)).mono ?_
    rintro e w2 ⟨rfl, hb⟩
    have HB : Hid (Ext w w2) := ((Ext.refl _).alloc _).trans hb
    have HQ : Hid (RBox w2 w.heap.size) := (RBox.new w _).ext hb
    clear hb
    go_wp2_with fail
    refine (HD.out _).mono ?_
    rintro e w3 ⟨rfl, rfl⟩
    go_wp2_with fail
    refine (HC.out _ HB.out).mono ?_
    rintro e w4 ⟨v4, g, rfl, hg4, hO, hb⟩
    obtain ⟨a4, cap4, rfl, hlc4, hcm4, hx4⟩ := id hO
    obtain ⟨off4, rfl, hR4, hN4⟩ := hx4 hpos
    have HO : Hid (Own w4 (.slice (some ⟨g, off4, none⟩) zs.length cap4) g zs) := hO
    have HG : Hid (w.heap.size + 1 ≤ g) := by have := HQ.out.1; show _ ≤ _; omega
    have HQ4 : Hid (RBox w4 w.heap.size) := HQ.out.ext hb
    have HB4 : Hid (Ext w w4) := HB.out.trans hb
    clear hb hO hg4 hx4 hR4 hN4
    unfold maxLen at hcm4
    go_wp2_with fail
    refine (HF.out _ _ _ _ HB4.out HO.out.slice).mono ?_
    rintro e w5 ⟨rfl, hb⟩
    have HO5 : Hid (Own w5 (.slice (some ⟨g, off4, none⟩) zs.length cap4) g zs) := HO.out.ext hb
    have HQ5 : Hid (RBox w5 w.heap.size) := HQ4.out.ext hb
    have HB5 : Hid (Ext w w5) := HB4.out.trans hb
    clear hb
    obtain ⟨q, q0, q1, q2, f0, f1, f2⟩ := HQ5.out
    go_wp2
    exact bodyPost_ret (v := zr 4 ⟨#[]⟩ (.slice none 0 0)) (by simp [results, Tryd.results6, go_sem, zr, q0, q1, q2]) rfl (zret_bad _ _ (HB5.out.box3 _ _ _))
  | true =>
    obtain ⟨z, hat, hz, -⟩ := Tre.has_at hU hh
    rw [Tre.setT_some hd hat hz]
    simp only [ptrV_hit hh rfl] at HF
    generalize Tre.cut zs p.data.toList = k at *
    have HZ : Hid (zs[k]? = some z) := hz
    have hkl := (List.getElem?_eq_some_iff.1 hz).1
    have hv0 : 0 ≤ z.version ∧ z.version ≤ 999 := by
      have := (Tre.fault_nums (Tre.asked_fault h00).1 z (List.mem_of_getElem? hz)).2
      unfold Tre.okNums at this
      simp at this
      exact ⟨this.2.1.1, this.2.1.2⟩
    clear hd hh hU h24 hz hat
    by_cases hnv : n = -1 ∨ n = z.version
    · have HNV : Hid (decide (n = -1 ∨ n = z.version) = true) := by show _ = _; simpa using hnv
      rw [if_neg (by omega)]
      clear hnv
      by_cases h9 : 999 ≤ z.version
      · rw [if_pos h9]
        have h9e : (z.version == 999) = true := by simp; omega
        go_enter Tryd.func6, Tryd.ntmps6
        go_wp2_with fail
        refine (HL.out _ ((Ext.refl _).alloc _)).mono ?_
        rintro e w2 ⟨rfl, hb⟩
        have HB : Hid (Ext w w2) := ((Ext.refl _).alloc _).trans hb
        have HQ : Hid (RBox w2 w.heap.size) := (RBox.new w _).ext hb
        clear hb
        go_wp2_with fail
        refine (HD.out _).mono ?_
        rintro e w3 ⟨rfl, rfl⟩
        go_wp2_with fail
        refine (HC.out _ HB.out).mono ?_
        rintro e w4 ⟨v4, g, rfl, hg4, hO, hb⟩
        obtain ⟨a4, cap4, rfl, hlc4, hcm4, hx4⟩ := id hO
        obtain ⟨off4, rfl, hR4, hN4⟩ := hx4 hpos
        have HO : Hid (Own w4 (.slice (some ⟨g, off4, none⟩) zs.length cap4) g zs) := hO
        have HG : Hid (w.heap.size + 1 ≤ g) := by have := HQ.out.1; show _ ≤ _; omega
        have HQ4 : Hid (RBox w4 w.heap.size) := HQ.out.ext hb
        have HB4 : Hid (Ext w w4) := HB.out.trans hb
        clear hb hO hg4 hx4 hR4 hN4
        unfold maxLen at hcm4
        go_wp2_with fail
        refine (HF.out _ _ _ _ HB4.out HO.out.slice).mono ?_
        rintro e w5 ⟨rfl, hb⟩
        have HO5 : Hid (Own w5 (.slice (some ⟨g, off4, none⟩) zs.length cap4) g zs) := HO.out.ext hb
        have HQ5 : Hid (RBox w5 w.heap.size) := HQ4.out.ext hb
        have HB5 : Hid (Ext w w5) := HB4.out.trans hb
        clear hb
        obtain ⟨a6, cap6, he6, -, -, hx6⟩ := id HO5.out
        injection he6 with e1 e2 e3
        subst e1 e3
        obtain ⟨off6, ho6, hR, hN⟩ := hx6 hpos
        injection ho6 with ho6
        injection ho6 with _ ho6 _
        subst ho6
        obtain ⟨-, -, d2, -, -⟩ := hN k z HZ.out
        obtain ⟨⟨y1, r1⟩, s1⟩ := hR.2 (k * 5 + 1) (by omega)
        obtain ⟨-, s2⟩ := hR.2 (k * 5 + 2) (by omega)
        rw [← Nat.add_assoc] at r1 s1 s2
        have HV : Hid (Calls Tryd.prog 18 #[.pointer (some ⟨g, off4 + k * 5, none⟩), .int .i64 n] w5 fun e w' => e = .returned (.bool true) ∧ Ext w5 w') := by
          have := hasVersion_any g (off4 + k * 5) z.version n w5 d2
          rw [HNV.out] at this
          exact this
        have HD5 : Hid (w5.cell? ⟨g, off4 + k * 5 + 2, none⟩ = some (.int .i64 z.version) ∧ w5.cell? ⟨g, off4 + k * 5 + 1, none⟩ = some y1 ∧ w5.frozen? ⟨g, off4 + k * 5 + 1, none⟩ = false ∧ w5.frozen? ⟨g, off4 + k * 5 + 2, none⟩ = false ∧ g < w5.heap.size) := ⟨d2, r1, s1, s2, hR.1⟩
        clear d2 r1 s1 s2 hR hN hx6
        go_wp2_with fail
        refine HV.out.mono ?_
        rintro e w6 ⟨rfl, hb⟩
        have HO6 : Hid (Own w6 (.slice (some ⟨g, off4, none⟩) zs.length cap4) g zs) := HO5.out.ext hb
        have HQ6 : Hid (RBox w6 w.heap.size) := HQ5.out.ext hb
        have HB6 : Hid (Ext w w6) := HB5.out.trans hb
        have d2 := (Below.cell hb (p := ⟨g, off4 + k * 5 + 2, none⟩) HD5.out.2.2.2.2).trans HD5.out.1
        have r1 := (Below.cell hb (p := ⟨g, off4 + k * 5 + 1, none⟩) HD5.out.2.2.2.2).trans HD5.out.2.1
        have s1 := (Below.frozen hb (p := ⟨g, off4 + k * 5 + 1, none⟩) HD5.out.2.2.2.2).trans HD5.out.2.2.1
        have s2 := (Below.frozen hb (p := ⟨g, off4 + k * 5 + 2, none⟩) HD5.out.2.2.2.2).trans HD5.out.2.2.2.1
        clear hb
        obtain ⟨q, q0, q1, q2, f0, f1, f2⟩ := HQ6.out
        go_wp2
        exact bodyPost_ret (v := zr 2 ⟨#[]⟩ (.slice none 0 0)) (by simp [results, Tryd.results6, go_sem, zr, q0, q1, q2]) rfl (zret_bad _ _ (HB6.out.box3 _ _ _))
      · rw [if_neg h9]
        have h9e : (z.version == 999) = false := by simp; omega
        go_enter Tryd.func6, Tryd.ntmps6
        go_wp2_with fail
        refine (HL.out _ ((Ext.refl _).alloc _)).mono ?_
        rintro e w2 ⟨rfl, hb⟩
        have HB : Hid (Ext w w2) := ((Ext.refl _).alloc _).trans hb
        have HQ : Hid (RBox w2 w.heap.size) := (RBox.new w _).ext hb
        clear hb
        go_wp2_with fail
        refine (HD.out _).mono ?_
        rintro e w3 ⟨rfl, rfl⟩
        go_wp2_with fail
        refine (HC.out _ HB.out).mono ?_
        rintro e w4 ⟨v4, g, rfl, hg4, hO, hb⟩
        obtain ⟨a4, cap4, rfl, hlc4, hcm4, hx4⟩ := id hO
        obtain ⟨off4, rfl, hR4, hN4⟩ := hx4 hpos
        have HO : Hid (Own w4 (.slice (some ⟨g, off4, none⟩) zs.length cap4) g zs) := hO
        have HG : Hid (w.heap.size + 1 ≤ g) := by have := HQ.out.1; show _ ≤ _; omega
        have HQ4 : Hid (RBox w4 w.heap.size) := HQ.out.ext hb
        have HB4 : Hid (Ext w w4) := HB.out.trans hb
        clear hb hO hg4 hx4 hR4 hN4
        unfold maxLen at hcm4
        go_wp2_with fail
        refine (HF.out _ _ _ _ HB4.out HO.out.slice).mono ?_
        rintro e w5 ⟨rfl, hb⟩
        have HO5 : Hid (Own w5 (.slice (some ⟨g, off4, none⟩) zs.length cap4) g zs) := HO.out.ext hb
        have HQ5 : Hid (RBox w5 w.heap.size) := HQ4.out.ext hb
        have HB5 : Hid (Ext w w5) := HB4.out.trans hb
        clear hb
        obtain ⟨a6, cap6, he6, -, -, hx6⟩ := id HO5.out
        injection he6 with e1 e2 e3
        subst e1 e3
        obtain ⟨off6, ho6, hR, hN⟩ := hx6 hpos
        injection ho6 with ho6
        injection ho6 with _ ho6 _
        subst ho6
        obtain ⟨-, -, d2, -, -⟩ := hN k z HZ.out
        obtain ⟨⟨y1, r1⟩, s1⟩ := hR.2 (k * 5 + 1) (by omega)
        obtain ⟨-, s2⟩ := hR.2 (k * 5 + 2) (by omega)
        rw [← Nat.add_assoc] at r1 s1 s2
        have HV : Hid (Calls Tryd.prog 18 #[.pointer (some ⟨g, off4 + k * 5, none⟩), .int .i64 n] w5 fun e w' => e = .returned (.bool true) ∧ Ext w5 w') := by
          have := hasVersion_any g (off4 + k * 5) z.version n w5 d2
          rw [HNV.out] at this
          exact this
        have HD5 : Hid (w5.cell? ⟨g, off4 + k * 5 + 2, none⟩ = some (.int .i64 z.version) ∧ w5.cell? ⟨g, off4 + k * 5 + 1, none⟩ = some y1 ∧ w5.frozen? ⟨g, off4 + k * 5 + 1, none⟩ = false ∧ w5.frozen? ⟨g, off4 + k * 5 + 2, none⟩ = false ∧ g < w5.heap.size) := ⟨d2, r1, s1, s2, hR.1⟩
        clear d2 r1 s1 s2 hR hN hx6
        go_wp2_with fail
        refine HV.out.mono ?_
        rintro e w6 ⟨rfl, hb⟩
        have HO6 : Hid (Own w6 (.slice (some ⟨g, off4, none⟩) zs.length cap4) g zs) := HO5.out.ext hb
        have HQ6 : Hid (RBox w6 w.heap.size) := HQ5.out.ext hb
        have HB6 : Hid (Ext w w6) := HB5.out.trans hb
        have d2 := (Below.cell hb (p := ⟨g, off4 + k * 5 + 2, none⟩) HD5.out.2.2.2.2).trans HD5.out.1
        have r1 := (Below.cell hb (p := ⟨g, off4 + k * 5 + 1, none⟩) HD5.out.2.2.2.2).trans HD5.out.2.1
        have s1 := (Below.frozen hb (p := ⟨g, off4 + k * 5 + 1, none⟩) HD5.out.2.2.2.2).trans HD5.out.2.2.1
        have s2 := (Below.frozen hb (p := ⟨g, off4 + k * 5 + 2, none⟩) HD5.out.2.2.2.2).trans HD5.out.2.2.2.1
        clear hb
        have hgn : ¬ w.heap.size = g := by have := HG.out; omega
        have hgn2 : ¬ g = w.heap.size := by have := HG.out; omega
        obtain ⟨q, q0, q1, q2, f0, f1, f2⟩ := HQ6.out
        go_wp2
        refine bodyPost_ret (v := zr 0 ⟨#[]⟩ (.slice (some ⟨g, off4, none⟩) zs.length cap4)) (by simp [results, Tryd.results6, go_sem, zr, q0, q1, q2]) rfl ?_
        exact zret_own 0 ⟨#[]⟩ (own_setDV HO6.out HZ.out d (z.version + 1)) HG.out ((HB6.out.setCell (p := ⟨g, off4 + k * 5 + 1, none⟩) (by have := HG.out; show _ ≤ g; omega) _).setCell (p := ⟨g, off4 + k * 5 + 2, none⟩) (by have := HG.out; show _ ≤ g; omega) _) _ _ _
    · have HNV : Hid (decide (n = -1 ∨ n = z.version) = false) := by show _ = _; simpa using hnv
      rw [if_pos (by omega)]
      clear hnv
      go_enter Tryd.func6, Tryd.ntmps6
      go_wp2_with fail
      refine (HL.out _ ((Ext.refl _).alloc _)).mono ?_
      rintro e w2 ⟨rfl, hb⟩
      have HB : Hid (Ext w w2) := ((Ext.refl _).alloc _).trans hb
      have HQ : Hid (RBox w2 w.heap.size) := (RBox.new w _).ext hb
      clear hb
      go_wp2_with fail
      refine (HD.out _).mono ?_
      rintro e w3 ⟨rfl, rfl⟩
      go_wp2_with fail
      refine (HC.out _ HB.out).mono ?_
      rintro e w4 ⟨v4, g, rfl, hg4, hO, hb⟩
      obtain ⟨a4, cap4, rfl, hlc4, hcm4, hx4⟩ := id hO
      obtain ⟨off4, rfl, hR4, hN4⟩ := hx4 hpos
      have HO : Hid (Own w4 (.slice (some ⟨g, off4, none⟩) zs.length cap4) g zs) := hO
      have HG : Hid (w.heap.size + 1 ≤ g) := by have := HQ.out.1; show _ ≤ _; omega
      have HQ4 : Hid (RBox w4 w.heap.size) := HQ.out.ext hb
      have HB4 : Hid (Ext w w4) := HB.out.trans hb
      clear hb hO hg4 hx4 hR4 hN4
      unfold maxLen at hcm4
      go_wp2_with fail
      refine (HF.out _ _ _ _ HB4.out HO.out.slice).mono ?_
      rintro e w5 ⟨rfl, hb⟩
      have HO5 : Hid (Own w5 (.slice (some ⟨g, off4, none⟩) zs.length cap4) g zs) := HO.out.ext hb
      have HQ5 : Hid (RBox w5 w.heap.size) := HQ4.out.ext hb
      have HB5 : Hid (Ext w w5) := HB4.out.trans hb
      clear hb
      obtain ⟨a6, cap6, he6, -, -, hx6⟩ := id HO5.out
      injection he6 with e1 e2 e3
      subst e1 e3
      obtain ⟨off6, ho6, hR, hN⟩ := hx6 hpos
      injection ho6 with ho6
      injection ho6 with _ ho6 _
      subst ho6
      obtain ⟨-, -, d2, -, -⟩ := hN k z HZ.out
      obtain ⟨⟨y1, r1⟩, s1⟩ := hR.2 (k * 5 + 1) (by omega)
      obtain ⟨-, s2⟩ := hR.2 (k * 5 + 2) (by omega)
      rw [← Nat.add_assoc] at r1 s1 s2
      have HV : Hid (Calls Tryd.prog 18 #[.pointer (some ⟨g, off4 + k * 5, none⟩), .int .i64 n] w5 fun e w' => e = .returned (.bool false) ∧ Ext w5 w') := by
        have := hasVersion_any g (off4 + k * 5) z.version n w5 d2
        rw [HNV.out] at this
        exact this
      have HD5 : Hid (w5.cell? ⟨g, off4 + k * 5 + 2, none⟩ = some (.int .i64 z.version) ∧ w5.cell? ⟨g, off4 + k * 5 + 1, none⟩ = some y1 ∧ w5.frozen? ⟨g, off4 + k * 5 + 1, none⟩ = false ∧ w5.frozen? ⟨g, off4 + k * 5 + 2, none⟩ = false ∧ g < w5.heap.size) := ⟨d2, r1, s1, s2, hR.1⟩
      clear d2 r1 s1 s2 hR hN hx6
      go_wp2_with fail
      refine HV.out.mono ?_
      rintro e w6 ⟨rfl, hb⟩
      have HO6 : Hid (Own w6 (.slice (some ⟨g, off4, none⟩) zs.length cap4) g zs) := HO5.out.ext hb
      have HQ6 : Hid (RBox w6 w.heap.size) := HQ5.out.ext hb
      have HB6 : Hid (Ext w w6) := HB5.out.trans hb
      have d2 := (Below.cell hb (p := ⟨g, off4 + k * 5 + 2, none⟩) HD5.out.2.2.2.2).trans HD5.out.1
      have r1 := (Below.cell hb (p := ⟨g, off4 + k * 5 + 1, none⟩) HD5.out.2.2.2.2).trans HD5.out.2.1
      have s1 := (Below.frozen hb (p := ⟨g, off4 + k * 5 + 1, none⟩) HD5.out.2.2.2.2).trans HD5.out.2.2.1
      have s2 := (Below.frozen hb (p := ⟨g, off4 + k * 5 + 2, none⟩) HD5.out.2.2.2.2).trans HD5.out.2.2.2.1
      clear hb
      obtain ⟨q, q0, q1, q2, f0, f1, f2⟩ := HQ6.out
      go_wp2
      exact bodyPost_ret (v := zr 7 ⟨#[]⟩ (.slice none 0 0)) (by simp [results, Tryd.results6, go_sem, zr, q0, q1, q2]) rfl (zret_bad _ _ (HB6.out.box3 _ _ _))
end Go.Proofs.YtlnkheopmagacaaDoor
