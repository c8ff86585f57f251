/- sums of numbers: what the specification and the program answer at a slice of numbers. -/
import Derived.Test.YtdjnkchaapcjpaaGreatDoorProg
import Derived.Test.YtdjnkchaapcjpaaGreatDoorBase
import Derived.Test.YtdjnkchaapcjpaaGreatDoorS1
import Derived.Deep.RegionWith
import Derived.Laws.MakeOwn
namespace Go.Proofs.YtdjnkchaapcjpaaGreatDoor
open Go.RowKit

/-- One more number in a sum. -/
def Sm.step (n x : Int) : Int := (n * 31 + x + 1) % 1000003
def Sm.sum (l : List Int) : Int := l.foldl Sm.step 7
def Sm.is (n : Int) : Bool := decide (0 ≤ n) && decide (n ≤ 1000002)
def Sm.ok (l : List Int) : Bool := l.all Sm.is
def Sm.sumV (l : List Int) : Int × Int := if 200 < l.length then (2, 0) else if Sm.ok l = true then (0, Sm.sum l) else (3, 0)
theorem Sm.is_iff {n : Int} : Sm.is n = true ↔ 0 ≤ n ∧ n ≤ 1000002 := by unfold Sm.is; simp
theorem Sm.step_is (n x : Int) : 0 ≤ Sm.step n x ∧ Sm.step n x ≤ 1000002 := by unfold Sm.step; omega
theorem Sm.sum_take {l : List Int} {k : Nat} {x : Int} (h : l[k]? = some x) : Sm.sum (l.take (k + 1)) = Sm.step (Sm.sum (l.take k)) x := by
  obtain ⟨hk, rfl⟩ := List.getElem?_eq_some_iff.1 h
  unfold Sm.sum
  rw [List.take_succ_eq_append_getElem hk, List.foldl_append]; rfl
theorem Sm.sum_is (l : List Int) : 0 ≤ Sm.sum l ∧ Sm.sum l ≤ 1000002 := by
  rcases List.eq_nil_or_concat l with rfl | ⟨m, x, rfl⟩
  · decide
  · unfold Sm.sum; rw [List.concat_eq_append, List.foldl_append]; exact Sm.step_is _ _
theorem Sm.ok_at {l : List Int} {k : Nat} {x : Int} (h : l[k]? = some x) (ho : Sm.ok l = true) : 0 ≤ x ∧ x ≤ 1000002 := by
  unfold Sm.ok at ho
  rw [List.all_eq_true] at ho
  exact Sm.is_iff.1 (ho x (List.mem_of_getElem? h))
theorem Sm.ok_bad {l : List Int} {k : Nat} {x : Int} (h : l[k]? = some x) (hx : Sm.is x = false) : Sm.ok l = false := by
  unfold Sm.ok
  rw [List.all_eq_false]
  exact ⟨x, List.mem_of_getElem? h, by simp [hx]⟩
theorem Sm.ok_all {l : List Int} (h : ∀ j x, j < l.length → l[j]? = some x → Sm.is x = true) : Sm.ok l = true := by
  unfold Sm.ok
  rw [List.all_eq_true]
  intro x hx
  obtain ⟨j, hj⟩ := List.getElem?_of_mem hx
  exact h j x (List.getElem?_eq_some_iff.1 hj).1 hj
theorem Sm.sumV_many {l : List Int} (h : 200 < l.length) : Sm.sumV l = (2, 0) := by unfold Sm.sumV; rw [if_pos h]
theorem Sm.sumV_bad {l : List Int} (h : ¬ 200 < l.length) (ho : Sm.ok l = false) : Sm.sumV l = (3, 0) := by unfold Sm.sumV; rw [if_neg h, if_neg (by simp [ho])]
theorem Sm.sumV_ok {l : List Int} (h : ¬ 200 < l.length) (ho : Sm.ok l = true) : Sm.sumV l = (0, Sm.sum l) := by unfold Sm.sumV; rw [if_neg h, if_pos ho]

/-- The numbers l lie in block b, from off on. -/
def NumsAt (w : World) (b off : Nat) (l : List Int) : Prop := ∀ (i : Nat) x, l[i]? = some x → w.cell? ⟨b, off + i, none⟩ = some (.int .i64 x)
theorem NumsAt.ext {w w' : World} {b off : Nat} {l : List Int} (h : NumsAt w b off l) (hb : b < w.heap.size) (he : Ext w w') : NumsAt w' b off l := by
  intro i x hx
  exact ((Ext.cell he).1 _ _ hb).trans (h i x hx)
/-- The slice value v reads as the numbers l. -/
def ISlice (w : World) (v : Value) (l : List Int) : Prop :=
  ∃ a cap, v = .slice a l.length cap ∧ l.length ≤ cap ∧ cap ≤ maxLen ∧ (0 < l.length → ∃ b off, a = some ⟨b, off, none⟩ ∧ b < w.heap.size ∧ NumsAt w b off l)
theorem ISlice.ext {w w' : World} {v : Value} {l : List Int} (h : ISlice w v l) (he : Ext w w') : ISlice w' v l := by
  obtain ⟨a, cap, h1, h2, h3, h4⟩ := h
  refine ⟨a, cap, h1, h2, h3, fun h0 => ?_⟩
  obtain ⟨b, off, e, hb, hN⟩ := h4 h0
  exact ⟨b, off, e, Nat.lt_of_lt_of_le hb he.size, hN.ext hb he⟩

/-- Block r holds an IntResult that nobody has written yet, and may be written. -/
def IBox (w : World) (r : Nat) : Prop :=
  r < w.heap.size ∧ w.cell? ⟨r, 0, none⟩ = some (.int .i64 0) ∧ w.cell? ⟨r, 1, none⟩ = some (.int .i64 0) ∧ w.frozen? ⟨r, 0, none⟩ = false ∧ w.frozen? ⟨r, 1, none⟩ = false
theorem IBox.new (w : World) (t : TypeId) : IBox (w.alloc (.cells #[.int .i64 0, .int .i64 0] t)) w.heap.size := ⟨by simp, by simp, by simp, by simp, by simp⟩
theorem IBox.ext {w w2 : World} {r : Nat} (h : IBox w r) (he : Ext w w2) : IBox w2 r := by
  obtain ⟨hc, hf⟩ := Ext.cell he
  obtain ⟨h1, h2, h3, h5, h6⟩ := h
  exact ⟨Nat.lt_of_lt_of_le h1 he.size, (hc _ _ h1).trans h2, (hc _ _ h1).trans h3, (hf _ _ h1).trans h5, (hf _ _ h1).trans h6⟩
theorem Ext.two {w w2 : World} (h : Ext w w2) (a b : Value) : Ext w ((w2.setCell ⟨w.heap.size, 0, none⟩ a).setCell ⟨w.heap.size, 1, none⟩ b) :=
  (h.setCell (p := ⟨w.heap.size, 0, none⟩) (Nat.le_refl _) a).setCell (p := ⟨w.heap.size, 1, none⟩) (Nat.le_refl _) b

set_option maxHeartbeats 1000000 in
theorem l3Sum_any (v : Value) (l : List Int) (w : World) (hS : ISlice w v l) (hl : l.length ≤ 1000) (ho : Sm.ok l = true) :
    Calls Tryz.prog 184 #[v] w fun e w' => e = .returned (.int .i64 (Sm.sum l)) ∧ w' = w := by
  obtain ⟨a, cap, rfl, hlc, hcm, hx⟩ := hS
  have HX : Hid (0 < l.length → ∃ b off, a = some ⟨b, off, none⟩ ∧ b < w.heap.size ∧ NumsAt w b off l) := hx
  have HO : Hid (Sm.ok l = true) := ho
  clear hx ho
  unfold maxLen at hcm
  go_enter Tryz.func184, Tryz.ntmps184
  go_wp2
  go_loop [3, 4] (fun nv i => ∃ (k : Nat) (n : Int), k ≤ l.length ∧ i = .int .i64 k ∧ nv = .int .i64 n ∧ 0 ≤ n ∧ n ≤ 1000002 ∧ Hid (n = Sm.sum (l.take k))) (fun _ i => l.length - (intOf i).toNat)
  case atStart => exact ⟨0, 7, Nat.zero_le _, rfl, rfl, by omega, by omega, rfl⟩
  case round =>
    obtain ⟨k, n, hk, rfl, rfl, hn0, hn1, HA⟩ := hrel
    by_cases hlt : k < l.length
    · obtain ⟨x, hxk⟩ : ∃ x, l[k]? = some x := ⟨_, List.getElem?_eq_getElem hlt⟩
      obtain ⟨b, off, rfl, hb, hN⟩ := HX.out (by omega)
      have hc := hN k x hxk
      obtain ⟨hx0, hx1⟩ := Sm.ok_at hxk HO.out
      have HA2 : Hid (Sm.step n x = Sm.sum (l.take (k + 1))) := by show _ = _; rw [Sm.sum_take hxk, HA.out]
      clear hN hxk
      have h1 : 0 ≤ (n * 31 + x + 1) % 1000003 ∧ (n * 31 + x + 1) % 1000003 ≤ 1000002 := Sm.step_is n x
      go_wp2
      exact ⟨⟨k + 1, _, by omega, by go_num, rfl, h1.1, h1.2, HA2⟩, by simp [intOf]; omega⟩
    · have hke : k = l.length := by omega
      have HF : Hid (n = Sm.sum l) := by show _ = _; rw [HA.out, hke, List.take_length]
      clear hke
      go_wp2
      go_ret
      exact ⟨ret_int HF.out, rfl⟩

set_option maxHeartbeats 1000000 in
theorem isSum_any (n : Int) (w : World) : Calls Tryz.prog 203 #[.int .i64 n] w fun e w' => e = .returned (.bool (Sm.is n)) ∧ w' = w := by
  have hb : ∀ w : World, Calls Tryz.prog 49 #[.int .i64 n, .int .i64 1000002] w fun e w' => e = .returned (.bool (Sm.is n)) ∧ w' = w := by
    intro w
    by_cases h0 : 0 ≤ n
    · by_cases h1 : n ≤ 1000002
      · go_enter Tryz.func49, Tryz.ntmps49
        go_wp2
        go_ret
        exact ⟨by simp [h0, h1, Sm.is], rfl⟩
      · go_enter Tryz.func49, Tryz.ntmps49
        go_wp2
        go_ret
        exact ⟨by simp [h1, Sm.is], rfl⟩
    · go_enter Tryz.func49, Tryz.ntmps49
      go_wp2
      go_ret
      exact ⟨by simp [Sm.is]; omega, rfl⟩
  go_enter Tryz.func203, Tryz.ntmps203
  go_wp2_with fail
  refine (hb _).mono ?_
  rintro e w' ⟨rfl, rfl⟩
  go_wp2
  go_ret
  exact ⟨rfl, rfl⟩

set_option maxHeartbeats 1000000 in
theorem with_any (n x : Int) (w : World) (h0 : 0 ≤ n) (h1 : n ≤ 1000002) (h2 : 0 ≤ x) (h3 : x ≤ 1000002) :
    Calls Tryz.prog 204 #[.int .u64 n, .int .u64 x] w fun e w' => e = .returned (.int .u64 (Sm.step n x)) ∧ w' = w := by
  go_enter Tryz.func204, Tryz.ntmps204
  go_wp2
  go_ret
  exact ⟨rfl, rfl⟩

set_option maxHeartbeats 1000000 in
theorem implSumOf_any (v : Value) (l : List Int) (w : World) (hS : ISlice w v l) :
    Calls Tryz.prog 185 #[v] w fun e w' => e = .returned (ir (Sm.sumV l)) ∧ Ext w w' := by
  obtain ⟨a, cap, rfl, hlc, hcm, hx⟩ := hS
  have HX : Hid (0 < l.length → ∃ b off, a = some ⟨b, off, none⟩ ∧ b < w.heap.size ∧ NumsAt w b off l) := hx
  clear hx
  unfold maxLen at hcm
  by_cases h2 : 200 < l.length
  · rw [Sm.sumV_many h2]
    go_enter Tryz.func185, Tryz.ntmps185
    go_wp2
    exact bodyPost_ret (v := ir (2, 0)) (by simp [results, Tryz.results185, go_sem, ir]) rfl ⟨rfl, (Ext.refl _).alloc _⟩
  · go_enter Tryz.func185, Tryz.ntmps185
    go_wp2
    go_loop [3, 12] (fun nv i => ∃ (k : Nat) (n : Int), k ≤ l.length ∧ i = .int .i64 k ∧ nv = .int .u64 n ∧ 0 ≤ n ∧ n ≤ 1000002 ∧ Hid (n = Sm.sum (l.take k)) ∧ Hid (∀ j x, j < k → l[j]? = some x → Sm.is x = true)) (fun _ i => l.length - (intOf i).toNat)
    case atStart => exact ⟨0, 7, Nat.zero_le _, rfl, rfl, by omega, by omega, rfl, fun j x h => by omega⟩
    case round =>
      obtain ⟨k, n, hk, rfl, rfl, hn0, hn1, HB, HA⟩ := hrel
      by_cases hlt : k < l.length
      · obtain ⟨x, hxk⟩ : ∃ x, l[k]? = some x := ⟨_, List.getElem?_eq_getElem hlt⟩
        obtain ⟨b, off, rfl, hb, hN⟩ := HX.out (by omega)
        have hc := hN k x hxk
        have HK : Hid (l[k]? = some x) := hxk
        have HI : Hid (∀ w : World, Calls Tryz.prog 203 #[.int .i64 x] w fun e w' => e = .returned (.bool (Sm.is x)) ∧ w' = w) := isSum_any x
        clear hN hxk
        cases hix : Sm.is x with
        | false =>
          rw [hix] at HI
          have HF : Hid (Sm.sumV l = (3, 0)) := Sm.sumV_bad h2 (Sm.ok_bad HK.out hix)
          clear hix
          go_wp2_with (go_at_call 203; refine (HI.out _).mono ?_; rintro e w' ⟨rfl, rfl⟩)
          exact bodyPost_ret (v := ir (3, 0)) (by simp [results, Tryz.results185, go_sem, ir]) rfl ⟨by rw [HF.out], (Ext.refl _).alloc _⟩
        | true =>
          rw [hix] at HI
          obtain ⟨hx0, hx1⟩ := Sm.is_iff.1 hix
          have HA2 : Hid (∀ j x, j < k + 1 → l[j]? = some x → Sm.is x = true) := by
            intro j y hj hy
            by_cases hjk : j = k
            · subst hjk; rw [HK.out] at hy; cases hy; exact hix
            · exact HA.out j y (by omega) hy
          have HW : Hid (∀ w : World, Calls Tryz.prog 204 #[.int .u64 n, .int .u64 x] w fun e w' => e = .returned (.int .u64 (Sm.step n x)) ∧ w' = w) := fun w => with_any n x w hn0 hn1 hx0 hx1
          have HB2 : Hid (Sm.step n x = Sm.sum (l.take (k + 1))) := by show _ = _; rw [Sm.sum_take HK.out, HB.out]
          obtain ⟨hs0, hs1⟩ := Sm.step_is n x
          generalize Sm.step n x = m at *
          clear hix
          go_wp2_with fail
          refine (HI.out _).mono ?_
          rintro e w' ⟨rfl, rfl⟩
          go_wp2_with fail
          refine (HW.out _).mono ?_
          rintro e w' ⟨rfl, rfl⟩
          go_wp2
          exact ⟨⟨k + 1, m, by omega, by go_num, rfl, hs0, hs1, HB2, HA2⟩, by simp [intOf]; omega⟩
      · have hok : Sm.ok l = true := Sm.ok_all fun j x hj hx => HA.out j x (by omega) hx
        have HF : Hid (Sm.sumV l = (0, n)) := by
          have hke : k = l.length := by omega
          show _ = _
          rw [Sm.sumV_ok h2 hok, HB.out, hke, List.take_length]
        clear hok
        go_wp2
        exact bodyPost_ret (v := ir (0, n)) (by simp [results, Tryz.results185, go_sem, ir]) rfl ⟨by rw [HF.out], (Ext.refl _).alloc _⟩

def Sm.pairV (x y : Int) : Int × Int := Sm.sumV [1, x, y]
theorem three_lie (w : World) (x y : Int) (t : TypeId) (g : Nat) (hg : g = w.heap.size) : ISlice (w.alloc (.cells #[.int .i64 1, .int .i64 x, .int .i64 y] t)) (.slice (some ⟨g, 0, none⟩) 3 3) [1, x, y] := by
  subst hg
  refine ⟨_, 3, rfl, by simp, by unfold maxLen; omega, fun _ => ⟨w.heap.size, 0, rfl, by simp, ?_⟩⟩
  intro i z hz
  match i, hz with
  | 0, hz => cases hz; simp
  | 1, hz => cases hz; simp
  | 2, hz => cases hz; simp
end Go.Proofs.YtdjnkchaapcjpaaGreatDoor
