/- the draws of paths and names: spec.l1DrawName, l1Draw, l1Bent, DrawJoinPath, DrawIsUnder: texts of at most 30 bytes; nothing that was there turns. -/
import Derived.Test.YtihfgaanaffinaaDoorD1
import Derived.Test.YtihfgaanaffinaaDoorS5
import Derived.Deep.RegionWith
namespace Go.Proofs.YtihfgaanaffinaaDoor
open Go.RowKit

/-- What a draw of a text leaves. -/
def Drawn (b a k : Nat) (cv : Value) (m : Nat) (w : World) (e : Ending) (w' : World) : Prop :=
  ∃ (t : ByteArray) (a' : Nat), e = .returned (.string t) ∧ t.size ≤ m ∧ a' ≤ a + k ∧ SrcAt w' b a' cv ∧ Upd b w w'

set_option maxHeartbeats 1000000 in
set_option maxRecDepth 100000 in
theorem drawName_any (b a : Nat) (cv : Value) (w : World) (h : SrcAt w b a cv) (ha : a ≤ 900) :
    Calls Tryd.prog 61 #[.pointer (some ⟨b, 0, none⟩)] w (Drawn b a 1 cv 4 w) := by
  have hbl : b < w.heap.size := h.2.2.2.1
  have hne : ¬ b = w.heap.size := by omega
  have HS : Hid (SrcAt w b a cv) := h
  clear h
  go_enter Tryd.func61, Tryd.ntmps61
  go_wp2_with fail
  refine (next_any b a cv 5 _ (by exact HS.out.alloc _) (by omega) (by omega) (by omega)).mono ?_
  rintro e w1 ⟨r, q, rfl, hr0, hr1, rfl⟩
  have hd : r = 0 ∨ r = 1 ∨ r = 2 ∨ r = 3 ∨ r = 4 := by omega
  clear hr0 hr1
  rcases hd with rfl | rfl | rfl | rfl | rfl
  all_goals
    go_wp2
    go_ret
    exact ⟨_, a + 1, rfl, by decide, by omega, ((HS.out.set (a + 1)).alloc _).drewN _, ((Upd.set w _).trans (Upd.alloc _ _ (by simp; omega))).drewN _⟩

theorem join_short (t c : ByteArray) (hc : c.size = 1) : ∃ t', t' = mkB (Pth.joined t.data.toList c.data.toList) ∧ t'.size ≤ t.size + 2 := by
  refine ⟨_, rfl, ?_⟩
  rw [← len_eq, mkB_list]
  unfold Pth.joined
  split
  · rename_i h
    have h1 := len_eq t
    rw [h] at h1
    simp only [List.length_cons, len_eq, hc]
    simp at h1
    omega
  · simp only [List.length_append, List.length_cons, len_eq, hc]
    omega

set_option maxHeartbeats 1000000 in
set_option maxRecDepth 100000 in
theorem draw_any (b a : Nat) (cv : Value) (w : World) (h : SrcAt w b a cv) (ha : a ≤ 900) :
    Calls Tryd.prog 105 #[.pointer (some ⟨b, 0, none⟩)] w (Drawn b a 4 cv 7 w) := by
  have hbl : b < w.heap.size := h.2.2.2.1
  have HS : Hid (SrcAt w b a cv) := h
  clear h
  go_enter Tryd.func105, Tryd.ntmps105
  go_wp2_with fail
  refine (next_any b a cv 4 _ (by exact HS.out) (by omega) (by omega) (by omega)).mono ?_
  rintro e w1 ⟨r, q, rfl, hr0, hr1, rfl⟩
  obtain ⟨k0, rfl⟩ := Int.eq_ofNat_of_zero_le hr0
  go_wp2
  go_loopw [3, 4] (fun pv kv wr => ∃ (t : ByteArray) (k a' : Nat), pv = .string t ∧ kv = .int .i64 k ∧ k ≤ 3 ∧ t.size + 2 * k ≤ 7 ∧ a' + k ≤ a + 4 ∧ Hid (SrcAt wr b a' cv) ∧ Hid (Upd b w wr)) (fun _ kv _ => (intOf kv).toNat)
  case atStart => exact ⟨_, k0, a + 1, rfl, rfl, by omega, by show 1 + 2 * k0 ≤ 7; omega, by omega, (HS.out.set (a + 1)).drewN _, (Upd.set w _).drewN _⟩
  case round =>
    obtain ⟨t, k, a', rfl, rfl, hk3, htk, hak, HS2, HU⟩ := hrel
    by_cases hk : 0 < k
    · have hlr : b < wr.heap.size := HS2.out.lt
      have hne : ¬ b = wr.heap.size := by omega
      have ht : t.size ≤ 1048576 := by omega
      go_wp2_with fail
      refine (next_any b a' cv 3 _ (by exact HS2.out.alloc _) (by omega) (by omega) (by omega)).mono ?_
      rintro e w1 ⟨r, q2, rfl, hr0, hr1, rfl⟩
      have hd : r = 0 ∨ r = 1 ∨ r = 2 := by omega
      clear hr0 hr1
      rcases hd with rfl | rfl | rfl
      · go_wp2_with fail
        refine (l1Join_any t ⟨#[97]⟩ _ ht (by decide)).mono ?_
        rintro e w4 ⟨rfl, hw⟩
        subst hw
        obtain ⟨t', ht', hts⟩ := join_short t ⟨#[97]⟩ rfl
        rw [← ht']
        clear ht'
        go_wp2
        exact ⟨⟨t', k - 1, a' + 1, rfl, by rw [show ((k - 1 : Nat) : Int) = (k : Int) - 1 from by omega], by omega, by omega, by omega, ((HS2.out.set (a' + 1)).alloc _).drewN _, HU.out.trans (((Upd.set wr _).trans (Upd.alloc _ _ (by simp; omega))).drewN _)⟩, by simp [intOf]; omega⟩
      · go_wp2_with fail
        refine (l1Join_any t ⟨#[98]⟩ _ ht (by decide)).mono ?_
        rintro e w4 ⟨rfl, hw⟩
        subst hw
        obtain ⟨t', ht', hts⟩ := join_short t ⟨#[98]⟩ rfl
        rw [← ht']
        clear ht'
        go_wp2
        exact ⟨⟨t', k - 1, a' + 1, rfl, by rw [show ((k - 1 : Nat) : Int) = (k : Int) - 1 from by omega], by omega, by omega, by omega, ((HS2.out.set (a' + 1)).alloc _).drewN _, HU.out.trans (((Upd.set wr _).trans (Upd.alloc _ _ (by simp; omega))).drewN _)⟩, by simp [intOf]; omega⟩
      · go_wp2_with fail
        refine (l1Join_any t ⟨#[99]⟩ _ ht (by decide)).mono ?_
        rintro e w4 ⟨rfl, hw⟩
        subst hw
        obtain ⟨t', ht', hts⟩ := join_short t ⟨#[99]⟩ rfl
        rw [← ht']
        clear ht'
        go_wp2
        exact ⟨⟨t', k - 1, a' + 1, rfl, by rw [show ((k - 1 : Nat) : Int) = (k : Int) - 1 from by omega], by omega, by omega, by omega, ((HS2.out.set (a' + 1)).alloc _).drewN _, HU.out.trans (((Upd.set wr _).trans (Upd.alloc _ _ (by simp; omega))).drewN _)⟩, by simp [intOf]; omega⟩
    · go_wp2
      go_ret
      exact ⟨t, a', rfl, by omega, by omega, HS2.out, HU.out⟩

theorem Drawn.of_upd {b a k k2 a1 m m2 : Nat} {cv : Value} {w w1 : World} {e : Ending} {w' : World} (hu : Upd b w w1) (ha : a1 + k2 ≤ a + k) (hm : m2 ≤ m) (h : Drawn b a1 k2 cv m2 w1 e w') : Drawn b a k cv m w e w' := by
  obtain ⟨t, a', h1, h2, h3, h4, h5⟩ := h
  exact ⟨t, a', h1, by omega, by omega, h4, hu.trans h5⟩

set_option maxHeartbeats 2000000 in
set_option maxRecDepth 100000 in
theorem bent_any (b a : Nat) (cv : Value) (w : World) (h : SrcAt w b a cv) (ha : a ≤ 800) :
    Calls Tryd.prog 58 #[.pointer (some ⟨b, 0, none⟩)] w (Drawn b a 6 cv 30 w) := by
  have HS : Hid (SrcAt w b a cv) := h
  clear h
  go_enter Tryd.func58, Tryd.ntmps58
  go_wp2_with fail
  refine (draw_any b a cv _ (by exact HS.out) (by omega)).mono ?_
  rintro e w1 ⟨t, a1, rfl, ht, ha1, hS1, hU1⟩
  have HS1 : Hid (SrcAt w1 b a1 cv) := hS1
  have HU1 : Hid (Upd b w w1) := hU1
  have hl1 : b < w1.heap.size := hS1.lt
  clear hS1 hU1
  go_wp2_with fail
  refine (next_any b a1 cv 10 _ (by exact HS1.out) (by omega) (by omega) (by omega)).mono ?_
  rintro e w2 ⟨r, q, rfl, hr0, hr1, hw⟩
  have HS2 : Hid (SrcAt w2 b (a1 + 1) cv) := by rw [hw]; exact (HS1.out.set (a1 + 1)).drewN _
  have HU2 : Hid (Upd b w w2) := by rw [hw]; exact HU1.out.trans ((Upd.set w1 _).drewN _)
  have hl2 : b < w2.heap.size := HS2.out.lt
  have hne : ¬ b = w2.heap.size := by omega
  clear hw
  by_cases h0 : r = 0
  · subst h0
    go_wp2
    go_ret
    exact ⟨_, a1 + 1, rfl, by rw [ByteArray.size_append]; show t.size + 1 ≤ 30; omega, by omega, HS2.out, HU2.out⟩
  · have e0 : (r == 0) = false := by simp [h0]
    by_cases h1 : r = 1
    · subst h1
      go_wp2_with fail
      refine (next_any b (a1 + 1) cv 7 _ (by exact HS2.out.alloc _) (by omega) (by omega) (by omega)).mono ?_
      rintro e w3 ⟨r3, q3, rfl, hr30, hr31, rfl⟩
      have hd : r3 = 0 ∨ r3 = 1 ∨ r3 = 2 ∨ r3 = 3 ∨ r3 = 4 ∨ r3 = 5 ∨ r3 = 6 := by omega
      clear hr30 hr31
      rcases hd with rfl | rfl | rfl | rfl | rfl | rfl | rfl
      all_goals
        go_wp2
        go_ret
        exact ⟨_, a1 + 1 + 1, rfl, by decide, by omega, ((HS2.out.set (a1 + 1 + 1)).alloc _).drewN _, HU2.out.trans (((Upd.set w2 _).trans (Upd.alloc _ _ (by simp; omega))).drewN _)⟩
    · have e1 : (r == 1) = false := by simp [h1]
      go_wp2
      go_ret
      exact ⟨_, a1 + 1, rfl, by omega, by omega, HS2.out, HU2.out⟩
end Go.Proofs.YtihfgaanaffinaaDoor
