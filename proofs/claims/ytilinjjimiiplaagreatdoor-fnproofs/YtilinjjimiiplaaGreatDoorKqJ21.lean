/- D2, D3, V1, in one text. -/
import Derived.Test.YtilinjjimiiplaaGreatDoorKqJ20
import Derived.Test.YtilinjjimiiplaaGreatDoorKqJ8
import Derived.Deep.RegionWith
import Derived.Test.YtilinjjimiiplaaGreatDoorProg
import Derived.Test.YtilinjjimiiplaaGreatDoorKqJ1
import Derived.Test.YtilinjjimiiplaaGreatDoorKqS1
import Derived.Laws.MakeOwn
namespace Go.Proofs.YtilinjjimiiplaaGreatDoor
open Go.RowKit
/-- What a draw of a text leaves. -/
def Drawn (b a k : Nat) (cv : Value) (m : Nat) (w : World) (e : Ending) (w' : World) : Prop :=
  ∃ (t : ByteArray) (a' : Nat), e = .returned (.string t) ∧ t.size ≤ m ∧ a' ≤ a + k ∧ SrcAt w' b a' cv ∧ Upd b w w'

theorem join_short (t c : ByteArray) (hc : c.size = 1) : ∃ t', t' = mkB (Pth.joined t.data.toList c.data.toList) ∧ t'.size ≤ t.size + 2 := by
  refine ⟨_, rfl, ?_⟩
  rw [← len_eq, mkB_list]
  unfold Pth.joined
  split
  · rename_i h
    have h1 := len_eq t
    rw [h] at h1
    simp only [List.length_cons, len_eq, hc]
    simp at h1
    omega
  · simp only [List.length_append, List.length_cons, len_eq, hc]
    omega

set_option maxHeartbeats 1000000 in
set_option maxRecDepth 100000 in
theorem draw_any (b a : Nat) (cv : Value) (w : World) (h : SrcAt w b a cv) (ha : a ≤ 900) :
    Calls Tryz.prog 55 #[.pointer (some ⟨b, 0, none⟩)] w (Drawn b a 4 cv 7 w) := by
  have hbl : b < w.heap.size := h.2.2.2.1
  have HS : Hid (SrcAt w b a cv) := h
  clear h
  go_enter Tryz.func55, Tryz.ntmps55
  go_wp2_with fail
  refine (next_any b a cv 4 _ (by exact HS.out) (by omega) (by omega) (by omega)).mono ?_
  rintro e w1 ⟨r, q, rfl, hr0, hr1, rfl⟩
  obtain ⟨k0, rfl⟩ := Int.eq_ofNat_of_zero_le hr0
  go_wp2
  go_loopw [3, 4] (fun pv kv wr => ∃ (t : ByteArray) (k a' : Nat), pv = .string t ∧ kv = .int .i64 k ∧ k ≤ 3 ∧ t.size + 2 * k ≤ 7 ∧ a' + k ≤ a + 4 ∧ Hid (SrcAt wr b a' cv) ∧ Hid (Upd b w wr)) (fun _ kv _ => (intOf kv).toNat)
  case atStart => exact ⟨_, k0, a + 1, rfl, rfl, by omega, by show 1 + 2 * k0 ≤ 7; omega, by omega, (HS.out.set (a + 1)).drewN _, (Upd.set w _).drewN _⟩
  case round =>
    obtain ⟨t, k, a', rfl, rfl, hk3, htk, hak, HS2, HU⟩ := hrel
    by_cases hk : 0 < k
    · have hlr : b < wr.heap.size := HS2.out.lt
      have hne : ¬ b = wr.heap.size := by omega
      have ht : t.size ≤ 1048576 := by omega
      go_wp2_with fail
      refine (next_any b a' cv 3 _ (by exact HS2.out.alloc _) (by omega) (by omega) (by omega)).mono ?_
      rintro e w1 ⟨r, q2, rfl, hr0, hr1, rfl⟩
      have hd : r = 0 ∨ r = 1 ∨ r = 2 := by omega
      clear hr0 hr1
      rcases hd with rfl | rfl | rfl
      · go_wp2_with fail
        refine (l1Join_any t ⟨#[97]⟩ _ ht (by decide)).mono ?_
        rintro e w4 ⟨rfl, hw⟩
        subst hw
        obtain ⟨t', ht', hts⟩ := join_short t ⟨#[97]⟩ rfl
        rw [← ht']
        clear ht'
        go_wp2
        exact ⟨⟨t', k - 1, a' + 1, rfl, by rw [show ((k - 1 : Nat) : Int) = (k : Int) - 1 from by omega], by omega, by omega, by omega, ((HS2.out.set (a' + 1)).alloc _).drewN _, HU.out.trans (((Upd.set wr _).trans (Upd.alloc _ _ (by simp; omega))).drewN _)⟩, by simp [intOf]; omega⟩
      · go_wp2_with fail
        refine (l1Join_any t ⟨#[98]⟩ _ ht (by decide)).mono ?_
        rintro e w4 ⟨rfl, hw⟩
        subst hw
        obtain ⟨t', ht', hts⟩ := join_short t ⟨#[98]⟩ rfl
        rw [← ht']
        clear ht'
        go_wp2
        exact ⟨⟨t', k - 1, a' + 1, rfl, by rw [show ((k - 1 : Nat) : Int) = (k : Int) - 1 from by omega], by omega, by omega, by omega, ((HS2.out.set (a' + 1)).alloc _).drewN _, HU.out.trans (((Upd.set wr _).trans (Upd.alloc _ _ (by simp; omega))).drewN _)⟩, by simp [intOf]; omega⟩
      · go_wp2_with fail
        refine (l1Join_any t ⟨#[99]⟩ _ ht (by decide)).mono ?_
        rintro e w4 ⟨rfl, hw⟩
        subst hw
        obtain ⟨t', ht', hts⟩ := join_short t ⟨#[99]⟩ rfl
        rw [← ht']
        clear ht'
        go_wp2
        exact ⟨⟨t', k - 1, a' + 1, rfl, by rw [show ((k - 1 : Nat) : Int) = (k : Int) - 1 from by omega], by omega, by omega, by omega, ((HS2.out.set (a' + 1)).alloc _).drewN _, HU.out.trans (((Upd.set wr _).trans (Upd.alloc _ _ (by simp; omega))).drewN _)⟩, by simp [intOf]; omega⟩
    · go_wp2
      go_ret
      exact ⟨t, a', rfl, by omega, by omega, HS2.out, HU.out⟩

set_option maxHeartbeats 2000000 in
set_option maxRecDepth 100000 in
theorem bent_any (b a : Nat) (cv : Value) (w : World) (h : SrcAt w b a cv) (ha : a ≤ 800) :
    Calls Tryz.prog 43 #[.pointer (some ⟨b, 0, none⟩)] w (Drawn b a 6 cv 30 w) := by
  have HS : Hid (SrcAt w b a cv) := h
  clear h
  go_enter Tryz.func43, Tryz.ntmps43
  go_wp2_with fail
  refine (draw_any b a cv _ (by exact HS.out) (by omega)).mono ?_
  rintro e w1 ⟨t, a1, rfl, ht, ha1, hS1, hU1⟩
  have HS1 : Hid (SrcAt w1 b a1 cv) := hS1
  have HU1 : Hid (Upd b w w1) := hU1
  have hl1 : b < w1.heap.size := hS1.lt
  clear hS1 hU1
  go_wp2_with fail
  refine (next_any b a1 cv 10 _ (by exact HS1.out) (by omega) (by omega) (by omega)).mono ?_
  rintro e w2 ⟨r, q, rfl, hr0, hr1, hw⟩
  have HS2 : Hid (SrcAt w2 b (a1 + 1) cv) := by rw [hw]; exact (HS1.out.set (a1 + 1)).drewN _
  have HU2 : Hid (Upd b w w2) := by rw [hw]; exact HU1.out.trans ((Upd.set w1 _).drewN _)
  have hl2 : b < w2.heap.size := HS2.out.lt
  have hne : ¬ b = w2.heap.size := by omega
  clear hw
  by_cases h0 : r = 0
  · subst h0
    go_wp2
    go_ret
    exact ⟨_, a1 + 1, rfl, by rw [ByteArray.size_append]; show t.size + 1 ≤ 30; omega, by omega, HS2.out, HU2.out⟩
  · have e0 : (r == 0) = false := by simp [h0]
    by_cases h1 : r = 1
    · subst h1
      go_wp2_with fail
      refine (next_any b (a1 + 1) cv 7 _ (by exact HS2.out.alloc _) (by omega) (by omega) (by omega)).mono ?_
      rintro e w3 ⟨r3, q3, rfl, hr30, hr31, rfl⟩
      have hd : r3 = 0 ∨ r3 = 1 ∨ r3 = 2 ∨ r3 = 3 ∨ r3 = 4 ∨ r3 = 5 ∨ r3 = 6 := by omega
      clear hr30 hr31
      rcases hd with rfl | rfl | rfl | rfl | rfl | rfl | rfl
      all_goals
        go_wp2
        go_ret
        exact ⟨_, a1 + 1 + 1, rfl, by decide, by omega, ((HS2.out.set (a1 + 1 + 1)).alloc _).drewN _, HU2.out.trans (((Upd.set w2 _).trans (Upd.alloc _ _ (by simp; omega))).drewN _)⟩
    · have e1 : (r == 1) = false := by simp [h1]
      go_wp2
      go_ret
      exact ⟨_, a1 + 1, rfl, by omega, by omega, HS2.out, HU2.out⟩
end Go.Proofs.YtilinjjimiiplaaGreatDoor
namespace Go.Proofs.YtilinjjimiiplaaGreatDoor
open Go.RowKit
set_option maxHeartbeats 400000 in
theorem source_any (cv : Value) (w : World) (ad : Option Addr) (len cap : Nat) (hcv : cv = .slice ad len cap) :
    Calls Tryz.prog 28 #[cv] w fun e w' => e = .returned (.pointer (some ⟨w.heap.size, 0, none⟩)) ∧ w' = w.alloc (.cells #[cv, .int .i64 0] 85) := by
  subst hcv
  go_enter Tryz.func28, Tryz.ntmps28
  go_wp2
  go_ret
  exact ⟨rfl, rfl⟩

theorem src_new {w : World} {cv : Value} (h : CodeOk w w.heap.size cv) : SrcAt (w.alloc (.cells #[cv, .int .i64 0] 85)) w.heap.size 0 cv :=
  ⟨by simp, by simp, by simp, by simp, h.below ((Below.refl _ _).alloc (Nat.le_refl _) _)⟩
theorem ext_of_upd {w w' : World} {o : Obj} (h : Upd w.heap.size (w.alloc o) w') : Ext w w' := Below.trans ((Below.refl _ _).alloc (Nat.le_refl _) _) h.1

/-- What a draw of two texts leaves. -/
def Two (w : World) (e : Ending) (w' : World) : Prop :=
  ∃ p n : ByteArray, e = .returned (.tuple #[.string p, .string n]) ∧ p.size ≤ 30 ∧ n.size ≤ 30 ∧ Ext w w'

end Go.Proofs.YtilinjjimiiplaaGreatDoor
namespace Go.Proofs.YtilinjjimiiplaaGreatDoor
open Go.RowKit
/-- One more number in a sum. -/
def Sm.step (n x : Int) : Int := (n * 31 + x + 1) % 1000003
def Sm.sum (l : List Int) : Int := l.foldl Sm.step 7
def Sm.is (n : Int) : Bool := decide (0 ≤ n) && decide (n ≤ 1000002)
def Sm.ok (l : List Int) : Bool := l.all Sm.is
def Sm.sumV (l : List Int) : Int × Int := if 200 < l.length then (2, 0) else if Sm.ok l = true then (0, Sm.sum l) else (3, 0)
theorem Sm.is_iff {n : Int} : Sm.is n = true ↔ 0 ≤ n ∧ n ≤ 1000002 := by unfold Sm.is; simp
theorem Sm.step_is (n x : Int) : 0 ≤ Sm.step n x ∧ Sm.step n x ≤ 1000002 := by unfold Sm.step; omega
theorem Sm.sum_take {l : List Int} {k : Nat} {x : Int} (h : l[k]? = some x) : Sm.sum (l.take (k + 1)) = Sm.step (Sm.sum (l.take k)) x := by
  obtain ⟨hk, rfl⟩ := List.getElem?_eq_some_iff.1 h
  unfold Sm.sum
  rw [List.take_succ_eq_append_getElem hk, List.foldl_append]; rfl
theorem Sm.sum_is (l : List Int) : 0 ≤ Sm.sum l ∧ Sm.sum l ≤ 1000002 := by
  rcases List.eq_nil_or_concat l with rfl | ⟨m, x, rfl⟩
  · decide
  · unfold Sm.sum; rw [List.concat_eq_append, List.foldl_append]; exact Sm.step_is _ _
theorem Sm.ok_at {l : List Int} {k : Nat} {x : Int} (h : l[k]? = some x) (ho : Sm.ok l = true) : 0 ≤ x ∧ x ≤ 1000002 := by
  unfold Sm.ok at ho
  rw [List.all_eq_true] at ho
  exact Sm.is_iff.1 (ho x (List.mem_of_getElem? h))
theorem Sm.ok_bad {l : List Int} {k : Nat} {x : Int} (h : l[k]? = some x) (hx : Sm.is x = false) : Sm.ok l = false := by
  unfold Sm.ok
  rw [List.all_eq_false]
  exact ⟨x, List.mem_of_getElem? h, by simp [hx]⟩
theorem Sm.ok_all {l : List Int} (h : ∀ j x, j < l.length → l[j]? = some x → Sm.is x = true) : Sm.ok l = true := by
  unfold Sm.ok
  rw [List.all_eq_true]
  intro x hx
  obtain ⟨j, hj⟩ := List.getElem?_of_mem hx
  exact h j x (List.getElem?_eq_some_iff.1 hj).1 hj
theorem Sm.sumV_many {l : List Int} (h : 200 < l.length) : Sm.sumV l = (2, 0) := by unfold Sm.sumV; rw [if_pos h]
theorem Sm.sumV_bad {l : List Int} (h : ¬ 200 < l.length) (ho : Sm.ok l = false) : Sm.sumV l = (3, 0) := by unfold Sm.sumV; rw [if_neg h, if_neg (by simp [ho])]
theorem Sm.sumV_ok {l : List Int} (h : ¬ 200 < l.length) (ho : Sm.ok l = true) : Sm.sumV l = (0, Sm.sum l) := by unfold Sm.sumV; rw [if_neg h, if_pos ho]

/-- The numbers l lie in block b, from off on. -/
def NumsAt (w : World) (b off : Nat) (l : List Int) : Prop := ∀ (i : Nat) x, l[i]? = some x → w.cell? ⟨b, off + i, none⟩ = some (.int .i64 x)
theorem NumsAt.ext {w w' : World} {b off : Nat} {l : List Int} (h : NumsAt w b off l) (hb : b < w.heap.size) (he : Ext w w') : NumsAt w' b off l := by
  intro i x hx
  exact ((Ext.cell he).1 _ _ hb).trans (h i x hx)
/-- The slice value v reads as the numbers l. -/
def ISlice (w : World) (v : Value) (l : List Int) : Prop :=
  ∃ a cap, v = .slice a l.length cap ∧ l.length ≤ cap ∧ cap ≤ maxLen ∧ (0 < l.length → ∃ b off, a = some ⟨b, off, none⟩ ∧ b < w.heap.size ∧ NumsAt w b off l)
theorem ISlice.ext {w w' : World} {v : Value} {l : List Int} (h : ISlice w v l) (he : Ext w w') : ISlice w' v l := by
  obtain ⟨a, cap, h1, h2, h3, h4⟩ := h
  refine ⟨a, cap, h1, h2, h3, fun h0 => ?_⟩
  obtain ⟨b, off, e, hb, hN⟩ := h4 h0
  exact ⟨b, off, e, Nat.lt_of_lt_of_le hb he.size, hN.ext hb he⟩

/-- Block r holds an IntResult that nobody has written yet, and may be written. -/
def IBox (w : World) (r : Nat) : Prop :=
  r < w.heap.size ∧ w.cell? ⟨r, 0, none⟩ = some (.int .i64 0) ∧ w.cell? ⟨r, 1, none⟩ = some (.int .i64 0) ∧ w.frozen? ⟨r, 0, none⟩ = false ∧ w.frozen? ⟨r, 1, none⟩ = false
theorem IBox.new (w : World) (t : TypeId) : IBox (w.alloc (.cells #[.int .i64 0, .int .i64 0] t)) w.heap.size := ⟨by simp, by simp, by simp, by simp, by simp⟩
theorem IBox.ext {w w2 : World} {r : Nat} (h : IBox w r) (he : Ext w w2) : IBox w2 r := by
  obtain ⟨hc, hf⟩ := Ext.cell he
  obtain ⟨h1, h2, h3, h5, h6⟩ := h
  exact ⟨Nat.lt_of_lt_of_le h1 he.size, (hc _ _ h1).trans h2, (hc _ _ h1).trans h3, (hf _ _ h1).trans h5, (hf _ _ h1).trans h6⟩
theorem Ext.two {w w2 : World} (h : Ext w w2) (a b : Value) : Ext w ((w2.setCell ⟨w.heap.size, 0, none⟩ a).setCell ⟨w.heap.size, 1, none⟩ b) :=
  (h.setCell (p := ⟨w.heap.size, 0, none⟩) (Nat.le_refl _) a).setCell (p := ⟨w.heap.size, 1, none⟩) (Nat.le_refl _) b

set_option maxHeartbeats 1000000 in
theorem l3Is_any (n : Int) (w : World) : Calls Tryz.prog 39 #[.int .i64 n] w fun e w' => e = .returned (.bool (Sm.is n)) ∧ w' = w := by
  go_enter Tryz.func39, Tryz.ntmps39
  go_wp2_with fail
  refine (l1In_any _ _ _ _).mono ?_
  rintro e w' ⟨rfl, rfl⟩
  go_wp2
  go_ret
  exact ⟨rfl, rfl⟩

set_option maxHeartbeats 1000000 in
theorem l3Sum_any (v : Value) (l : List Int) (w : World) (hS : ISlice w v l) (hl : l.length ≤ 1000) (ho : Sm.ok l = true) :
    Calls Tryz.prog 48 #[v] w fun e w' => e = .returned (.int .i64 (Sm.sum l)) ∧ w' = w := by
  obtain ⟨a, cap, rfl, hlc, hcm, hx⟩ := hS
  have HX : Hid (0 < l.length → ∃ b off, a = some ⟨b, off, none⟩ ∧ b < w.heap.size ∧ NumsAt w b off l) := hx
  have HO : Hid (Sm.ok l = true) := ho
  clear hx ho
  unfold maxLen at hcm
  go_enter Tryz.func48, Tryz.ntmps48
  go_wp2
  go_loop [3, 4] (fun nv i => ∃ (k : Nat) (n : Int), k ≤ l.length ∧ i = .int .i64 k ∧ nv = .int .i64 n ∧ 0 ≤ n ∧ n ≤ 1000002 ∧ Hid (n = Sm.sum (l.take k))) (fun _ i => l.length - (intOf i).toNat)
  case atStart => exact ⟨0, 7, Nat.zero_le _, rfl, rfl, by omega, by omega, rfl⟩
  case round =>
    obtain ⟨k, n, hk, rfl, rfl, hn0, hn1, HA⟩ := hrel
    by_cases hlt : k < l.length
    · obtain ⟨x, hxk⟩ : ∃ x, l[k]? = some x := ⟨_, List.getElem?_eq_getElem hlt⟩
      obtain ⟨b, off, rfl, hb, hN⟩ := HX.out (by omega)
      have hc := hN k x hxk
      obtain ⟨hx0, hx1⟩ := Sm.ok_at hxk HO.out
      have HA2 : Hid (Sm.step n x = Sm.sum (l.take (k + 1))) := by show _ = _; rw [Sm.sum_take hxk, HA.out]
      clear hN hxk
      have h1 : 0 ≤ (n * 31 + x + 1) % 1000003 ∧ (n * 31 + x + 1) % 1000003 ≤ 1000002 := Sm.step_is n x
      go_wp2
      exact ⟨⟨k + 1, _, by omega, by go_num, rfl, h1.1, h1.2, HA2⟩, by simp [intOf]; omega⟩
    · have hke : k = l.length := by omega
      have HF : Hid (n = Sm.sum l) := by show _ = _; rw [HA.out, hke, List.take_length]
      clear hke
      go_wp2
      go_ret
      exact ⟨ret_int HF.out, rfl⟩

set_option maxHeartbeats 1000000 in
theorem isSum_any (n : Int) (w : World) : Calls Tryz.prog 62 #[.int .i64 n] w fun e w' => e = .returned (.bool (Sm.is n)) ∧ w' = w := by
  have hb : ∀ w : World, Calls Tryz.prog 61 #[.int .i64 n, .int .i64 1000002] w fun e w' => e = .returned (.bool (Sm.is n)) ∧ w' = w := by
    intro w
    by_cases h0 : 0 ≤ n
    · by_cases h1 : n ≤ 1000002
      · go_enter Tryz.func61, Tryz.ntmps61
        go_wp2
        go_ret
        exact ⟨by simp [h0, h1, Sm.is], rfl⟩
      · go_enter Tryz.func61, Tryz.ntmps61
        go_wp2
        go_ret
        exact ⟨by simp [h1, Sm.is], rfl⟩
    · go_enter Tryz.func61, Tryz.ntmps61
      go_wp2
      go_ret
      exact ⟨by simp [Sm.is]; omega, rfl⟩
  go_enter Tryz.func62, Tryz.ntmps62
  go_wp2_with fail
  refine (hb _).mono ?_
  rintro e w' ⟨rfl, rfl⟩
  go_wp2
  go_ret
  exact ⟨rfl, rfl⟩

set_option maxHeartbeats 1000000 in
theorem with_any (n x : Int) (w : World) (h0 : 0 ≤ n) (h1 : n ≤ 1000002) (h2 : 0 ≤ x) (h3 : x ≤ 1000002) :
    Calls Tryz.prog 63 #[.int .u64 n, .int .u64 x] w fun e w' => e = .returned (.int .u64 (Sm.step n x)) ∧ w' = w := by
  go_enter Tryz.func63, Tryz.ntmps63
  go_wp2
  go_ret
  exact ⟨rfl, rfl⟩

set_option maxHeartbeats 1000000 in
theorem implSumOf_any (v : Value) (l : List Int) (w : World) (hS : ISlice w v l) :
    Calls Tryz.prog 36 #[v] w fun e w' => e = .returned (ir (Sm.sumV l)) ∧ Ext w w' := by
  obtain ⟨a, cap, rfl, hlc, hcm, hx⟩ := hS
  have HX : Hid (0 < l.length → ∃ b off, a = some ⟨b, off, none⟩ ∧ b < w.heap.size ∧ NumsAt w b off l) := hx
  clear hx
  unfold maxLen at hcm
  by_cases h2 : 200 < l.length
  · rw [Sm.sumV_many h2]
    go_enter Tryz.func36, Tryz.ntmps36
    go_wp2
    exact bodyPost_ret (v := ir (2, 0)) (by simp [results, Tryz.results36, go_sem, ir]) rfl ⟨rfl, (Ext.refl _).alloc _⟩
  · go_enter Tryz.func36, Tryz.ntmps36
    go_wp2
    go_loop [3, 12] (fun nv i => ∃ (k : Nat) (n : Int), k ≤ l.length ∧ i = .int .i64 k ∧ nv = .int .u64 n ∧ 0 ≤ n ∧ n ≤ 1000002 ∧ Hid (n = Sm.sum (l.take k)) ∧ Hid (∀ j x, j < k → l[j]? = some x → Sm.is x = true)) (fun _ i => l.length - (intOf i).toNat)
    case atStart => exact ⟨0, 7, Nat.zero_le _, rfl, rfl, by omega, by omega, rfl, fun j x h => by omega⟩
    case round =>
      obtain ⟨k, n, hk, rfl, rfl, hn0, hn1, HB, HA⟩ := hrel
      by_cases hlt : k < l.length
      · obtain ⟨x, hxk⟩ : ∃ x, l[k]? = some x := ⟨_, List.getElem?_eq_getElem hlt⟩
        obtain ⟨b, off, rfl, hb, hN⟩ := HX.out (by omega)
        have hc := hN k x hxk
        have HK : Hid (l[k]? = some x) := hxk
        have HI : Hid (∀ w : World, Calls Tryz.prog 62 #[.int .i64 x] w fun e w' => e = .returned (.bool (Sm.is x)) ∧ w' = w) := isSum_any x
        clear hN hxk
        cases hix : Sm.is x with
        | false =>
          rw [hix] at HI
          have HF : Hid (Sm.sumV l = (3, 0)) := Sm.sumV_bad h2 (Sm.ok_bad HK.out hix)
          clear hix
          go_wp2_with (go_at_call 62; refine (HI.out _).mono ?_; rintro e w' ⟨rfl, rfl⟩)
          exact bodyPost_ret (v := ir (3, 0)) (by simp [results, Tryz.results36, go_sem, ir]) rfl ⟨by rw [HF.out], (Ext.refl _).alloc _⟩
        | true =>
          rw [hix] at HI
          obtain ⟨hx0, hx1⟩ := Sm.is_iff.1 hix
          have HA2 : Hid (∀ j x, j < k + 1 → l[j]? = some x → Sm.is x = true) := by
            intro j y hj hy
            by_cases hjk : j = k
            · subst hjk; rw [HK.out] at hy; cases hy; exact hix
            · exact HA.out j y (by omega) hy
          have HW : Hid (∀ w : World, Calls Tryz.prog 63 #[.int .u64 n, .int .u64 x] w fun e w' => e = .returned (.int .u64 (Sm.step n x)) ∧ w' = w) := fun w => with_any n x w hn0 hn1 hx0 hx1
          have HB2 : Hid (Sm.step n x = Sm.sum (l.take (k + 1))) := by show _ = _; rw [Sm.sum_take HK.out, HB.out]
          obtain ⟨hs0, hs1⟩ := Sm.step_is n x
          generalize Sm.step n x = m at *
          clear hix
          go_wp2_with fail
          refine (HI.out _).mono ?_
          rintro e w' ⟨rfl, rfl⟩
          go_wp2_with fail
          refine (HW.out _).mono ?_
          rintro e w' ⟨rfl, rfl⟩
          go_wp2
          exact ⟨⟨k + 1, m, by omega, by go_num, rfl, hs0, hs1, HB2, HA2⟩, by simp [intOf]; omega⟩
      · have hok : Sm.ok l = true := Sm.ok_all fun j x hj hx => HA.out j x (by omega) hx
        have HF : Hid (Sm.sumV l = (0, n)) := by
          have hke : k = l.length := by omega
          show _ = _
          rw [Sm.sumV_ok h2 hok, HB.out, hke, List.take_length]
        clear hok
        go_wp2
        exact bodyPost_ret (v := ir (0, n)) (by simp [results, Tryz.results36, go_sem, ir]) rfl ⟨by rw [HF.out], (Ext.refl _).alloc _⟩

def Sm.pairV (x y : Int) : Int × Int := Sm.sumV [1, x, y]
theorem three_lie (w : World) (x y : Int) (t : TypeId) (g : Nat) (hg : g = w.heap.size) : ISlice (w.alloc (.cells #[.int .i64 1, .int .i64 x, .int .i64 y] t)) (.slice (some ⟨g, 0, none⟩) 3 3) [1, x, y] := by
  subst hg
  refine ⟨_, 3, rfl, by simp, by unfold maxLen; omega, fun _ => ⟨w.heap.size, 0, rfl, by simp, ?_⟩⟩
  intro i z hz
  match i, hz with
  | 0, hz => cases hz; simp
  | 1, hz => cases hz; simp
  | 2, hz => cases hz; simp
end Go.Proofs.YtilinjjimiiplaaGreatDoor
