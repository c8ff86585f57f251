/- the program's functions over a message in its own form. -/
import Derived.Test.YtecgjdgfjgcmdaaGreatRtGB
namespace Go.Proofs.YtecgjdgfjgcmdaaGreat
open Go.RowKit
/-- A message in the program's own form, in a box. -/
def PBoxAt (w : World) (b : Nat) (m : Ms) (v u : Value) : Prop := b < w.heap.size ∧ w.cell? ⟨b, 0, none⟩ = some (.int .i64 m.view) ∧ w.cell? ⟨b, 1, none⟩ = some (.int .i64 m.kind) ∧ w.cell? ⟨b, 2, none⟩ = some (.int .i64 m.from_) ∧ w.cell? ⟨b, 3, none⟩ = some (.int .i64 m.slot) ∧ w.cell? ⟨b, 4, none⟩ = some (.int .i64 m.value) ∧ w.cell? ⟨b, 5, none⟩ = some v ∧ w.cell? ⟨b, 6, none⟩ = some u
theorem PBoxAt.ext {w w' : World} {b : Nat} {m : Ms} {v u : Value} (h : PBoxAt w b m v u) (he : Ext w w') : PBoxAt w' b m v u := by
 obtain ⟨hc, hf⟩ := Ext.cell he
 obtain ⟨hb, c0, c1, c2, c3, c4, c5, c6⟩ := h
 exact ⟨Nat.lt_of_lt_of_le hb he.size, (hc _ _ hb).trans c0, (hc _ _ hb).trans c1, (hc _ _ hb).trans c2, (hc _ _ hb).trans c3, (hc _ _ hb).trans c4, (hc _ _ hb).trans c5, (hc _ _ hb).trans c6⟩
theorem pbox_new (w : World) (m : Ms) (v u : Value) (t : TypeId) : PBoxAt (w.alloc (.cells #[.int .i64 m.view, .int .i64 m.kind, .int .i64 m.from_, .int .i64 m.slot, .int .i64 m.value, v, u] t)) w.heap.size m v u := ⟨by simp, by simp, by simp, by simp, by simp, by simp, by simp, by simp⟩
namespace Msg
def beyondN (kind slot value : Int) (nc nr : Nat) : Bool := decide (¬ (1 ≤ kind ∧ kind ≤ 3) ∧ (slot ≠ 0 ∨ value ≠ 0) ∨ kind ≠ 4 ∧ 0 < nc ∨ kind ≠ 5 ∧ 0 < nr)
end Msg
set_option maxHeartbeats 20000000 in
set_option maxRecDepth 100000 in
theorem hasBeyond_any (m : Ms) (a a' : Option Addr) (nc nr c c' : Nat) (w : World) : Calls Tryz.prog 138 #[pagg m (.slice a nc c) (.slice a' nr c')] w fun e w' => e = .returned (.bool (Msg.beyondN m.kind m.slot m.value nc nr)) ∧ Ext w w' := by
 have HO : Hid (∀ wx : World, Calls Tryz.prog 166 #[pagg m (.slice a nc c) (.slice a' nr c')] wx fun e w' => e = .returned (.bool (decide (1 ≤ m.kind) && decide (m.kind ≤ 3))) ∧ Ext wx w') := fun wx => isOfSlot_any m a a' nc nr c c' wx
 unfold pagg at *
 have HP : Hid (∀ wx : World, Ext (w.alloc (.cells #[.int .i64 m.view, .int .i64 m.kind, .int .i64 m.from_, .int .i64 m.slot, .int .i64 m.value, .slice a nc c, .slice a' nr c'] 112)) wx → PBoxAt wx w.heap.size m (.slice a nc c) (.slice a' nr c') ∧ Ext w wx) := fun wx he => ⟨(pbox_new w m _ _ _).ext he, ((Ext.refl _).alloc _).trans he⟩
 by_cases h3 : 1 ≤ m.kind ∧ m.kind ≤ 3
 ·have q13 : (decide (1 ≤ m.kind) && decide (m.kind ≤ 3)) = true := by simp; omega
  rw [q13] at HO
  clear q13
  have k4 : (m.kind != 4) = true := by simp; omega
  have k5 : (m.kind != 5) = true := by simp; omega
  by_cases hc : 0 < nc
  ·have cd : decide (0 < nc) = true := decide_eq_true hc
   have HR : Msg.beyondN m.kind m.slot m.value nc nr = true := decide_eq_true (by omega)
   rw [HR]
   (try clear HR)
   (try clear hs)
   (try clear hv)
   (try clear hc)
   (try clear hr)
   (try clear h4)
   (try clear h3)
   (try clear h5)
   go_enter Tryz.func138, Tryz.ntmps138
   go_wp2_with fail
   refine (HO.out _).mono ?_
   rintro e w1 ⟨rfl, hb⟩
   obtain ⟨⟨hlt1, c0, c1, c2, c3, c4, c5, c6⟩, hE1⟩ := HP.out _ hb
   have E1 : Hid (Ext _ w1) := hb
   have F1 : Hid (Ext w w1) := hE1
   clear hb hE1
   go_wp2
   go_ret
   exact ⟨rfl, F1.out⟩
  ·have cd : decide (0 < nc) = false := decide_eq_false hc
   by_cases hr : 0 < nr
   ·have rd : decide (0 < nr) = true := decide_eq_true hr
    have HR : Msg.beyondN m.kind m.slot m.value nc nr = true := decide_eq_true (by omega)
    rw [HR]
    (try clear HR)
    (try clear hs)
    (try clear hv)
    (try clear hc)
    (try clear hr)
    (try clear h4)
    (try clear h3)
    (try clear h5)
    go_enter Tryz.func138, Tryz.ntmps138
    go_wp2_with fail
    refine (HO.out _).mono ?_
    rintro e w1 ⟨rfl, hb⟩
    obtain ⟨⟨hlt1, c0, c1, c2, c3, c4, c5, c6⟩, hE1⟩ := HP.out _ hb
    have E1 : Hid (Ext _ w1) := hb
    have F1 : Hid (Ext w w1) := hE1
    clear hb hE1
    go_wp2
    go_ret
    exact ⟨rfl, F1.out⟩
   ·have rd : decide (0 < nr) = false := decide_eq_false hr
    have HR : Msg.beyondN m.kind m.slot m.value nc nr = false := decide_eq_false (by omega)
    rw [HR]
    (try clear HR)
    (try clear hs)
    (try clear hv)
    (try clear hc)
    (try clear hr)
    (try clear h4)
    (try clear h3)
    (try clear h5)
    go_enter Tryz.func138, Tryz.ntmps138
    go_wp2_with fail
    refine (HO.out _).mono ?_
    rintro e w1 ⟨rfl, hb⟩
    obtain ⟨⟨hlt1, c0, c1, c2, c3, c4, c5, c6⟩, hE1⟩ := HP.out _ hb
    have E1 : Hid (Ext _ w1) := hb
    have F1 : Hid (Ext w w1) := hE1
    clear hb hE1
    go_wp2
    go_ret
    exact ⟨rfl, F1.out⟩
 ·have q13 : (decide (1 ≤ m.kind) && decide (m.kind ≤ 3)) = false := by rw [Bool.and_eq_false_iff]; simp; omega
  rw [q13] at HO
  clear q13
  by_cases h4 : m.kind = 4
  ·have k4 : (m.kind != 4) = false := by simp; omega
   have k5 : (m.kind != 5) = true := by simp; omega
   by_cases hs : m.slot = 0
   ·have s0 : (m.slot != 0) = false := by simp; omega
    by_cases hv : m.value = 0
    ·have v0 : (m.value != 0) = false := by simp; omega
     by_cases hr : 0 < nr
     ·have rd : decide (0 < nr) = true := decide_eq_true hr
      have HR : Msg.beyondN m.kind m.slot m.value nc nr = true := decide_eq_true (by omega)
      rw [HR]
      (try clear HR)
      (try clear hs)
      (try clear hv)
      (try clear hc)
      (try clear hr)
      (try clear h4)
      (try clear h3)
      (try clear h5)
      go_enter Tryz.func138, Tryz.ntmps138
      go_wp2_with fail
      refine (HO.out _).mono ?_
      rintro e w1 ⟨rfl, hb⟩
      obtain ⟨⟨hlt1, c0, c1, c2, c3, c4, c5, c6⟩, hE1⟩ := HP.out _ hb
      have E1 : Hid (Ext _ w1) := hb
      have F1 : Hid (Ext w w1) := hE1
      clear hb hE1
      go_wp2
      go_ret
      exact ⟨rfl, F1.out⟩
     ·have rd : decide (0 < nr) = false := decide_eq_false hr
      have HR : Msg.beyondN m.kind m.slot m.value nc nr = false := decide_eq_false (by omega)
      rw [HR]
      (try clear HR)
      (try clear hs)
      (try clear hv)
      (try clear hc)
      (try clear hr)
      (try clear h4)
      (try clear h3)
      (try clear h5)
      go_enter Tryz.func138, Tryz.ntmps138
      go_wp2_with fail
      refine (HO.out _).mono ?_
      rintro e w1 ⟨rfl, hb⟩
      obtain ⟨⟨hlt1, c0, c1, c2, c3, c4, c5, c6⟩, hE1⟩ := HP.out _ hb
      have E1 : Hid (Ext _ w1) := hb
      have F1 : Hid (Ext w w1) := hE1
      clear hb hE1
      go_wp2
      go_ret
      exact ⟨rfl, F1.out⟩
    ·have v0 : (m.value != 0) = true := by simp; omega
     have HR : Msg.beyondN m.kind m.slot m.value nc nr = true := decide_eq_true (by omega)
     rw [HR]
     (try clear HR)
     (try clear hs)
     (try clear hv)
     (try clear hc)
     (try clear hr)
     (try clear h4)
     (try clear h3)
     (try clear h5)
     go_enter Tryz.func138, Tryz.ntmps138
     go_wp2_with fail
     refine (HO.out _).mono ?_
     rintro e w1 ⟨rfl, hb⟩
     obtain ⟨⟨hlt1, c0, c1, c2, c3, c4, c5, c6⟩, hE1⟩ := HP.out _ hb
     have E1 : Hid (Ext _ w1) := hb
     have F1 : Hid (Ext w w1) := hE1
     clear hb hE1
     go_wp2
     go_ret
     exact ⟨rfl, F1.out⟩
   ·have s0 : (m.slot != 0) = true := by simp; omega
    have HR : Msg.beyondN m.kind m.slot m.value nc nr = true := decide_eq_true (by omega)
    rw [HR]
    (try clear HR)
    (try clear hs)
    (try clear hv)
    (try clear hc)
    (try clear hr)
    (try clear h4)
    (try clear h3)
    (try clear h5)
    go_enter Tryz.func138, Tryz.ntmps138
    go_wp2_with fail
    refine (HO.out _).mono ?_
    rintro e w1 ⟨rfl, hb⟩
    obtain ⟨⟨hlt1, c0, c1, c2, c3, c4, c5, c6⟩, hE1⟩ := HP.out _ hb
    have E1 : Hid (Ext _ w1) := hb
    have F1 : Hid (Ext w w1) := hE1
    clear hb hE1
    go_wp2
    go_ret
    exact ⟨rfl, F1.out⟩
  ·by_cases h5 : m.kind = 5
   ·have k4 : (m.kind != 4) = true := by simp; omega
    have k5 : (m.kind != 5) = false := by simp; omega
    by_cases hs : m.slot = 0
    ·have s0 : (m.slot != 0) = false := by simp; omega
     by_cases hv : m.value = 0
     ·have v0 : (m.value != 0) = false := by simp; omega
      by_cases hc : 0 < nc
      ·have cd : decide (0 < nc) = true := decide_eq_true hc
       have HR : Msg.beyondN m.kind m.slot m.value nc nr = true := decide_eq_true (by omega)
       rw [HR]
       (try clear HR)
       (try clear hs)
       (try clear hv)
       (try clear hc)
       (try clear hr)
       (try clear h4)
       (try clear h3)
       (try clear h5)
       go_enter Tryz.func138, Tryz.ntmps138
       go_wp2_with fail
       refine (HO.out _).mono ?_
       rintro e w1 ⟨rfl, hb⟩
       obtain ⟨⟨hlt1, c0, c1, c2, c3, c4, c5, c6⟩, hE1⟩ := HP.out _ hb
       have E1 : Hid (Ext _ w1) := hb
       have F1 : Hid (Ext w w1) := hE1
       clear hb hE1
       go_wp2
       go_ret
       exact ⟨rfl, F1.out⟩
      ·have cd : decide (0 < nc) = false := decide_eq_false hc
       have HR : Msg.beyondN m.kind m.slot m.value nc nr = false := decide_eq_false (by omega)
       rw [HR]
       (try clear HR)
       (try clear hs)
       (try clear hv)
       (try clear hc)
       (try clear hr)
       (try clear h4)
       (try clear h3)
       (try clear h5)
       go_enter Tryz.func138, Tryz.ntmps138
       go_wp2_with fail
       refine (HO.out _).mono ?_
       rintro e w1 ⟨rfl, hb⟩
       obtain ⟨⟨hlt1, c0, c1, c2, c3, c4, c5, c6⟩, hE1⟩ := HP.out _ hb
       have E1 : Hid (Ext _ w1) := hb
       have F1 : Hid (Ext w w1) := hE1
       clear hb hE1
       go_wp2
       go_ret
       exact ⟨rfl, F1.out⟩
     ·have v0 : (m.value != 0) = true := by simp; omega
      have HR : Msg.beyondN m.kind m.slot m.value nc nr = true := decide_eq_true (by omega)
      rw [HR]
      (try clear HR)
      (try clear hs)
      (try clear hv)
      (try clear hc)
      (try clear hr)
      (try clear h4)
      (try clear h3)
      (try clear h5)
      go_enter Tryz.func138, Tryz.ntmps138
      go_wp2_with fail
      refine (HO.out _).mono ?_
      rintro e w1 ⟨rfl, hb⟩
      obtain ⟨⟨hlt1, c0, c1, c2, c3, c4, c5, c6⟩, hE1⟩ := HP.out _ hb
      have E1 : Hid (Ext _ w1) := hb
      have F1 : Hid (Ext w w1) := hE1
      clear hb hE1
      go_wp2
      go_ret
      exact ⟨rfl, F1.out⟩
    ·have s0 : (m.slot != 0) = true := by simp; omega
     have HR : Msg.beyondN m.kind m.slot m.value nc nr = true := decide_eq_true (by omega)
     rw [HR]
     (try clear HR)
     (try clear hs)
     (try clear hv)
     (try clear hc)
     (try clear hr)
     (try clear h4)
     (try clear h3)
     (try clear h5)
     go_enter Tryz.func138, Tryz.ntmps138
     go_wp2_with fail
     refine (HO.out _).mono ?_
     rintro e w1 ⟨rfl, hb⟩
     obtain ⟨⟨hlt1, c0, c1, c2, c3, c4, c5, c6⟩, hE1⟩ := HP.out _ hb
     have E1 : Hid (Ext _ w1) := hb
     have F1 : Hid (Ext w w1) := hE1
     clear hb hE1
     go_wp2
     go_ret
     exact ⟨rfl, F1.out⟩
   ·have k4 : (m.kind != 4) = true := by simp; omega
    have k5 : (m.kind != 5) = true := by simp; omega
    by_cases hs : m.slot = 0
    ·have s0 : (m.slot != 0) = false := by simp; omega
     by_cases hv : m.value = 0
     ·have v0 : (m.value != 0) = false := by simp; omega
      by_cases hc : 0 < nc
      ·have cd : decide (0 < nc) = true := decide_eq_true hc
       have HR : Msg.beyondN m.kind m.slot m.value nc nr = true := decide_eq_true (by omega)
       rw [HR]
       (try clear HR)
       (try clear hs)
       (try clear hv)
       (try clear hc)
       (try clear hr)
       (try clear h4)
       (try clear h3)
       (try clear h5)
       go_enter Tryz.func138, Tryz.ntmps138
       go_wp2_with fail
       refine (HO.out _).mono ?_
       rintro e w1 ⟨rfl, hb⟩
       obtain ⟨⟨hlt1, c0, c1, c2, c3, c4, c5, c6⟩, hE1⟩ := HP.out _ hb
       have E1 : Hid (Ext _ w1) := hb
       have F1 : Hid (Ext w w1) := hE1
       clear hb hE1
       go_wp2
       go_ret
       exact ⟨rfl, F1.out⟩
      ·have cd : decide (0 < nc) = false := decide_eq_false hc
       by_cases hr : 0 < nr
       ·have rd : decide (0 < nr) = true := decide_eq_true hr
        have HR : Msg.beyondN m.kind m.slot m.value nc nr = true := decide_eq_true (by omega)
        rw [HR]
        (try clear HR)
        (try clear hs)
        (try clear hv)
        (try clear hc)
        (try clear hr)
        (try clear h4)
        (try clear h3)
        (try clear h5)
        go_enter Tryz.func138, Tryz.ntmps138
        go_wp2_with fail
        refine (HO.out _).mono ?_
        rintro e w1 ⟨rfl, hb⟩
        obtain ⟨⟨hlt1, c0, c1, c2, c3, c4, c5, c6⟩, hE1⟩ := HP.out _ hb
        have E1 : Hid (Ext _ w1) := hb
        have F1 : Hid (Ext w w1) := hE1
        clear hb hE1
        go_wp2
        go_ret
        exact ⟨rfl, F1.out⟩
       ·have rd : decide (0 < nr) = false := decide_eq_false hr
        have HR : Msg.beyondN m.kind m.slot m.value nc nr = false := decide_eq_false (by omega)
        rw [HR]
        (try clear HR)
        (try clear hs)
        (try clear hv)
        (try clear hc)
        (try clear hr)
        (try clear h4)
        (try clear h3)
        (try clear h5)
        go_enter Tryz.func138, Tryz.ntmps138
        go_wp2_with fail
        refine (HO.out _).mono ?_
        rintro e w1 ⟨rfl, hb⟩
        obtain ⟨⟨hlt1, c0, c1, c2, c3, c4, c5, c6⟩, hE1⟩ := HP.out _ hb
        have E1 : Hid (Ext _ w1) := hb
        have F1 : Hid (Ext w w1) := hE1
        clear hb hE1
        go_wp2
        go_ret
        exact ⟨rfl, F1.out⟩
     ·have v0 : (m.value != 0) = true := by simp; omega
      have HR : Msg.beyondN m.kind m.slot m.value nc nr = true := decide_eq_true (by omega)
      rw [HR]
      (try clear HR)
      (try clear hs)
      (try clear hv)
      (try clear hc)
      (try clear hr)
      (try clear h4)
      (try clear h3)
      (try clear h5)
      go_enter Tryz.func138, Tryz.ntmps138
      go_wp2_with fail
      refine (HO.out _).mono ?_
      rintro e w1 ⟨rfl, hb⟩
      obtain ⟨⟨hlt1, c0, c1, c2, c3, c4, c5, c6⟩, hE1⟩ := HP.out _ hb
      have E1 : Hid (Ext _ w1) := hb
      have F1 : Hid (Ext w w1) := hE1
      clear hb hE1
      go_wp2
      go_ret
      exact ⟨rfl, F1.out⟩
    ·have s0 : (m.slot != 0) = true := by simp; omega
     have HR : Msg.beyondN m.kind m.slot m.value nc nr = true := decide_eq_true (by omega)
     rw [HR]
     (try clear HR)
     (try clear hs)
     (try clear hv)
     (try clear hc)
     (try clear hr)
     (try clear h4)
     (try clear h3)
     (try clear h5)
     go_enter Tryz.func138, Tryz.ntmps138
     go_wp2_with fail
     refine (HO.out _).mono ?_
     rintro e w1 ⟨rfl, hb⟩
     obtain ⟨⟨hlt1, c0, c1, c2, c3, c4, c5, c6⟩, hE1⟩ := HP.out _ hb
     have E1 : Hid (Ext _ w1) := hb
     have F1 : Hid (Ext w w1) := hE1
     clear hb hE1
     go_wp2
     go_ret
     exact ⟨rfl, F1.out⟩

set_option maxHeartbeats 20000000 in
set_option maxRecDepth 100000 in
theorem isInBounds_any (f : Int) (m : Ms) (a a' : Option Addr) (nc nr c c' : Nat) (w : World) (hf0 : 1 ≤ f) (hf1 : f ≤ 2) (hk1 : 1 ≤ m.kind) : Calls Tryz.prog 139 #[pagg m (.slice a nc c) (.slice a' nr c'), .int .i64 f] w fun e w' => e = .returned (.bool (Msg.boundsN f m.kind m.view m.from_ m.slot m.value)) ∧ Ext w w' := by
 have HO : Hid (∀ wx : World, Calls Tryz.prog 166 #[pagg m (.slice a nc c) (.slice a' nr c')] wx fun e w' => e = .returned (.bool (decide (1 ≤ m.kind) && decide (m.kind ≤ 3))) ∧ Ext wx w') := fun wx => isOfSlot_any m a a' nc nr c c' wx
 have HV : Hid (∀ wx : World, Calls Tryz.prog 131 #[.agg #[.int .i64 m.view]] wx fun e w' => e = .returned (.bool (decide (0 ≤ m.view) && decide (m.view ≤ 20))) ∧ Ext wx w') := fun wx => hasView_any m.view wx
 have HSl : Hid (∀ wx : World, Calls Tryz.prog 107 #[.int .i64 m.slot] wx fun e w' => e = .returned (.bool (decide (1 ≤ m.slot) && decide (m.slot ≤ 30))) ∧ w' = wx) := fun wx => isSlot_any m.slot wx
 have HVa : Hid (∀ wx : World, Calls Tryz.prog 108 #[.int .i64 m.value] wx fun e w' => e = .returned (.bool (decide (0 ≤ m.value) && decide (m.value ≤ 12))) ∧ w' = wx) := fun wx => isValue_any m.value wx
 have HRe : Hid (∀ wx : World, Calls Tryz.prog 83 #[.int .i64 f, .int .i64 m.from_] wx fun e w' => e = .returned (.bool (decide (1 ≤ m.from_) && decide (m.from_ ≤ 3 * f + 1))) ∧ w' = wx) := fun wx => isReplica_any f m.from_ wx hf0 hf1
 unfold pagg at *
 have HP : Hid (∀ wx : World, Ext (w.alloc (.cells #[.int .i64 m.view, .int .i64 m.kind, .int .i64 m.from_, .int .i64 m.slot, .int .i64 m.value, .slice a nc c, .slice a' nr c'] 112)) wx → PBoxAt wx w.heap.size m (.slice a nc c) (.slice a' nr c') ∧ Ext w wx) := fun wx he => ⟨(pbox_new w m _ _ _).ext he, ((Ext.refl _).alloc _).trans he⟩
 by_cases hk : m.kind ≤ 3
 ·have q : (decide (1 ≤ m.kind) && decide (m.kind ≤ 3)) = true := by simp; omega
  rw [q] at HO
  clear q
  by_cases hs : 1 ≤ m.slot ∧ m.slot ≤ 30
  ·have q : (decide (1 ≤ m.slot) && decide (m.slot ≤ 30)) = true := by simp; omega
   rw [q] at HSl
   clear q
   by_cases hu : 0 ≤ m.value ∧ m.value ≤ 12
   ·have q : (decide (0 ≤ m.value) && decide (m.value ≤ 12)) = true := by simp; omega
    rw [q] at HVa
    clear q
    by_cases hv : 0 ≤ m.view ∧ m.view ≤ 20
    ·have q : (decide (0 ≤ m.view) && decide (m.view ≤ 20)) = true := by simp; omega
     rw [q] at HV
     clear q
     by_cases hfr : 1 ≤ m.from_ ∧ m.from_ ≤ 3 * f + 1
     ·have q : (decide (1 ≤ m.from_) && decide (m.from_ ≤ 3 * f + 1)) = true := by simp; omega
      rw [q] at HRe
      clear q
      have HR : Msg.boundsN f m.kind m.view m.from_ m.slot m.value = true := decide_eq_true (by omega)
      rw [HR]
      (try clear HR)
      (try clear hs)
      (try clear hu)
      (try clear hv)
      (try clear hfr)
      (try clear hk)
      go_enter Tryz.func139, Tryz.ntmps139
      go_wp2_with fail
      refine (HO.out _).mono ?_
      rintro e w1 ⟨rfl, hb⟩
      obtain ⟨⟨hlt1, c0, c1, c2, c3, c4, c5, c6⟩, hE1⟩ := HP.out _ hb
      have E1 : Hid (Ext _ w1) := hb
      have F1 : Hid (Ext w w1) := hE1
      clear hb hE1
      go_wp2_with fail
      refine (HSl.out _).mono ?_
      rintro e w9 ⟨rfl, hw⟩
      rw [hw]
      clear hw w9
      go_wp2_with fail
      refine (HVa.out _).mono ?_
      rintro e w9 ⟨rfl, hw⟩
      rw [hw]
      clear hw w9
      go_wp2_with fail
      refine (HV.out _).mono ?_
      rintro e w2 ⟨rfl, hb⟩
      obtain ⟨⟨hlt2, c0, c1, c2, c3, c4, c5, c6⟩, hE2⟩ := HP.out _ (E1.out.trans hb)
      have E2 : Hid (Ext _ w2) := E1.out.trans hb
      have F2 : Hid (Ext w w2) := hE2
      clear hb hE2
      go_wp2_with fail
      refine (HRe.out _).mono ?_
      rintro e w9 ⟨rfl, hw⟩
      rw [hw]
      clear hw w9
      go_wp2
      go_ret
      exact ⟨rfl, F2.out⟩
     ·have q : (decide (1 ≤ m.from_) && decide (m.from_ ≤ 3 * f + 1)) = false := by rw [Bool.and_eq_false_iff]; simp; omega
      rw [q] at HRe
      clear q
      have HR : Msg.boundsN f m.kind m.view m.from_ m.slot m.value = false := decide_eq_false (by omega)
      rw [HR]
      (try clear HR)
      (try clear hs)
      (try clear hu)
      (try clear hv)
      (try clear hfr)
      (try clear hk)
      go_enter Tryz.func139, Tryz.ntmps139
      go_wp2_with fail
      refine (HO.out _).mono ?_
      rintro e w1 ⟨rfl, hb⟩
      obtain ⟨⟨hlt1, c0, c1, c2, c3, c4, c5, c6⟩, hE1⟩ := HP.out _ hb
      have E1 : Hid (Ext _ w1) := hb
      have F1 : Hid (Ext w w1) := hE1
      clear hb hE1
      go_wp2_with fail
      refine (HSl.out _).mono ?_
      rintro e w9 ⟨rfl, hw⟩
      rw [hw]
      clear hw w9
      go_wp2_with fail
      refine (HVa.out _).mono ?_
      rintro e w9 ⟨rfl, hw⟩
      rw [hw]
      clear hw w9
      go_wp2_with fail
      refine (HV.out _).mono ?_
      rintro e w2 ⟨rfl, hb⟩
      obtain ⟨⟨hlt2, c0, c1, c2, c3, c4, c5, c6⟩, hE2⟩ := HP.out _ (E1.out.trans hb)
      have E2 : Hid (Ext _ w2) := E1.out.trans hb
      have F2 : Hid (Ext w w2) := hE2
      clear hb hE2
      go_wp2_with fail
      refine (HRe.out _).mono ?_
      rintro e w9 ⟨rfl, hw⟩
      rw [hw]
      clear hw w9
      go_wp2
      go_ret
      exact ⟨rfl, F2.out⟩
    ·have q : (decide (0 ≤ m.view) && decide (m.view ≤ 20)) = false := by rw [Bool.and_eq_false_iff]; simp; omega
     rw [q] at HV
     clear q
     have HR : Msg.boundsN f m.kind m.view m.from_ m.slot m.value = false := decide_eq_false (by omega)
     rw [HR]
     (try clear HR)
     (try clear hs)
     (try clear hu)
     (try clear hv)
     (try clear hfr)
     (try clear hk)
     go_enter Tryz.func139, Tryz.ntmps139
     go_wp2_with fail
     refine (HO.out _).mono ?_
     rintro e w1 ⟨rfl, hb⟩
     obtain ⟨⟨hlt1, c0, c1, c2, c3, c4, c5, c6⟩, hE1⟩ := HP.out _ hb
     have E1 : Hid (Ext _ w1) := hb
     have F1 : Hid (Ext w w1) := hE1
     clear hb hE1
     go_wp2_with fail
     refine (HSl.out _).mono ?_
     rintro e w9 ⟨rfl, hw⟩
     rw [hw]
     clear hw w9
     go_wp2_with fail
     refine (HVa.out _).mono ?_
     rintro e w9 ⟨rfl, hw⟩
     rw [hw]
     clear hw w9
     go_wp2_with fail
     refine (HV.out _).mono ?_
     rintro e w2 ⟨rfl, hb⟩
     obtain ⟨⟨hlt2, c0, c1, c2, c3, c4, c5, c6⟩, hE2⟩ := HP.out _ (E1.out.trans hb)
     have E2 : Hid (Ext _ w2) := E1.out.trans hb
     have F2 : Hid (Ext w w2) := hE2
     clear hb hE2
     go_wp2
     go_ret
     exact ⟨rfl, F2.out⟩
   ·have q : (decide (0 ≤ m.value) && decide (m.value ≤ 12)) = false := by rw [Bool.and_eq_false_iff]; simp; omega
    rw [q] at HVa
    clear q
    have HR : Msg.boundsN f m.kind m.view m.from_ m.slot m.value = false := decide_eq_false (by omega)
    rw [HR]
    (try clear HR)
    (try clear hs)
    (try clear hu)
    (try clear hv)
    (try clear hfr)
    (try clear hk)
    go_enter Tryz.func139, Tryz.ntmps139
    go_wp2_with fail
    refine (HO.out _).mono ?_
    rintro e w1 ⟨rfl, hb⟩
    obtain ⟨⟨hlt1, c0, c1, c2, c3, c4, c5, c6⟩, hE1⟩ := HP.out _ hb
    have E1 : Hid (Ext _ w1) := hb
    have F1 : Hid (Ext w w1) := hE1
    clear hb hE1
    go_wp2_with fail
    refine (HSl.out _).mono ?_
    rintro e w9 ⟨rfl, hw⟩
    rw [hw]
    clear hw w9
    go_wp2_with fail
    refine (HVa.out _).mono ?_
    rintro e w9 ⟨rfl, hw⟩
    rw [hw]
    clear hw w9
    go_wp2
    go_ret
    exact ⟨rfl, F1.out⟩
  ·have q : (decide (1 ≤ m.slot) && decide (m.slot ≤ 30)) = false := by rw [Bool.and_eq_false_iff]; simp; omega
   rw [q] at HSl
   clear q
   have HR : Msg.boundsN f m.kind m.view m.from_ m.slot m.value = false := decide_eq_false (by omega)
   rw [HR]
   (try clear HR)
   (try clear hs)
   (try clear hu)
   (try clear hv)
   (try clear hfr)
   (try clear hk)
   go_enter Tryz.func139, Tryz.ntmps139
   go_wp2_with fail
   refine (HO.out _).mono ?_
   rintro e w1 ⟨rfl, hb⟩
   obtain ⟨⟨hlt1, c0, c1, c2, c3, c4, c5, c6⟩, hE1⟩ := HP.out _ hb
   have E1 : Hid (Ext _ w1) := hb
   have F1 : Hid (Ext w w1) := hE1
   clear hb hE1
   go_wp2_with fail
   refine (HSl.out _).mono ?_
   rintro e w9 ⟨rfl, hw⟩
   rw [hw]
   clear hw w9
   go_wp2
   go_ret
   exact ⟨rfl, F1.out⟩
 ·have q : (decide (1 ≤ m.kind) && decide (m.kind ≤ 3)) = false := by rw [Bool.and_eq_false_iff]; simp; omega
  rw [q] at HO
  clear q
  by_cases hv : 0 ≤ m.view ∧ m.view ≤ 20
  ·have q : (decide (0 ≤ m.view) && decide (m.view ≤ 20)) = true := by simp; omega
   rw [q] at HV
   clear q
   by_cases hfr : 1 ≤ m.from_ ∧ m.from_ ≤ 3 * f + 1
   ·have q : (decide (1 ≤ m.from_) && decide (m.from_ ≤ 3 * f + 1)) = true := by simp; omega
    rw [q] at HRe
    clear q
    have HR : Msg.boundsN f m.kind m.view m.from_ m.slot m.value = true := decide_eq_true (by omega)
    rw [HR]
    (try clear HR)
    (try clear hs)
    (try clear hu)
    (try clear hv)
    (try clear hfr)
    (try clear hk)
    go_enter Tryz.func139, Tryz.ntmps139
    go_wp2_with fail
    refine (HO.out _).mono ?_
    rintro e w1 ⟨rfl, hb⟩
    obtain ⟨⟨hlt1, c0, c1, c2, c3, c4, c5, c6⟩, hE1⟩ := HP.out _ hb
    have E1 : Hid (Ext _ w1) := hb
    have F1 : Hid (Ext w w1) := hE1
    clear hb hE1
    go_wp2_with fail
    refine (HV.out _).mono ?_
    rintro e w2 ⟨rfl, hb⟩
    obtain ⟨⟨hlt2, c0, c1, c2, c3, c4, c5, c6⟩, hE2⟩ := HP.out _ (E1.out.trans hb)
    have E2 : Hid (Ext _ w2) := E1.out.trans hb
    have F2 : Hid (Ext w w2) := hE2
    clear hb hE2
    go_wp2_with fail
    refine (HRe.out _).mono ?_
    rintro e w9 ⟨rfl, hw⟩
    rw [hw]
    clear hw w9
    go_wp2
    go_ret
    exact ⟨rfl, F2.out⟩
   ·have q : (decide (1 ≤ m.from_) && decide (m.from_ ≤ 3 * f + 1)) = false := by rw [Bool.and_eq_false_iff]; simp; omega
    rw [q] at HRe
    clear q
    have HR : Msg.boundsN f m.kind m.view m.from_ m.slot m.value = false := decide_eq_false (by omega)
    rw [HR]
    (try clear HR)
    (try clear hs)
    (try clear hu)
    (try clear hv)
    (try clear hfr)
    (try clear hk)
    go_enter Tryz.func139, Tryz.ntmps139
    go_wp2_with fail
    refine (HO.out _).mono ?_
    rintro e w1 ⟨rfl, hb⟩
    obtain ⟨⟨hlt1, c0, c1, c2, c3, c4, c5, c6⟩, hE1⟩ := HP.out _ hb
    have E1 : Hid (Ext _ w1) := hb
    have F1 : Hid (Ext w w1) := hE1
    clear hb hE1
    go_wp2_with fail
    refine (HV.out _).mono ?_
    rintro e w2 ⟨rfl, hb⟩
    obtain ⟨⟨hlt2, c0, c1, c2, c3, c4, c5, c6⟩, hE2⟩ := HP.out _ (E1.out.trans hb)
    have E2 : Hid (Ext _ w2) := E1.out.trans hb
    have F2 : Hid (Ext w w2) := hE2
    clear hb hE2
    go_wp2_with fail
    refine (HRe.out _).mono ?_
    rintro e w9 ⟨rfl, hw⟩
    rw [hw]
    clear hw w9
    go_wp2
    go_ret
    exact ⟨rfl, F2.out⟩
  ·have q : (decide (0 ≤ m.view) && decide (m.view ≤ 20)) = false := by rw [Bool.and_eq_false_iff]; simp; omega
   rw [q] at HV
   clear q
   have HR : Msg.boundsN f m.kind m.view m.from_ m.slot m.value = false := decide_eq_false (by omega)
   rw [HR]
   (try clear HR)
   (try clear hs)
   (try clear hu)
   (try clear hv)
   (try clear hfr)
   (try clear hk)
   go_enter Tryz.func139, Tryz.ntmps139
   go_wp2_with fail
   refine (HO.out _).mono ?_
   rintro e w1 ⟨rfl, hb⟩
   obtain ⟨⟨hlt1, c0, c1, c2, c3, c4, c5, c6⟩, hE1⟩ := HP.out _ hb
   have E1 : Hid (Ext _ w1) := hb
   have F1 : Hid (Ext w w1) := hE1
   clear hb hE1
   go_wp2_with fail
   refine (HV.out _).mono ?_
   rintro e w2 ⟨rfl, hb⟩
   obtain ⟨⟨hlt2, c0, c1, c2, c3, c4, c5, c6⟩, hE2⟩ := HP.out _ (E1.out.trans hb)
   have E2 : Hid (Ext _ w2) := E1.out.trans hb
   have F2 : Hid (Ext w w2) := hE2
   clear hb hE2
   go_wp2
   go_ret
   exact ⟨rfl, F2.out⟩

def Msg.certIn (c : Ct) : Bool := decide (1 ≤ c.slot ∧ c.slot ≤ 30 ∧ 0 ≤ c.view ∧ c.view ≤ 20 ∧ 0 ≤ c.value ∧ c.value ≤ 12)
theorem cbox_new (w : World) (z : Ct) (t : TypeId) (w' : World) (he : Ext (w.alloc (.cells #[.int .i64 z.view, .int .i64 z.slot, .int .i64 z.value] t)) w') : w'.cell? ⟨w.heap.size, 0, none⟩ = some (.int .i64 z.view) ∧ w'.cell? ⟨w.heap.size, 1, none⟩ = some (.int .i64 z.slot) ∧ w'.cell? ⟨w.heap.size, 2, none⟩ = some (.int .i64 z.value) := by
 have hc := fun k => (Ext.cell he).1 w.heap.size k (by simp)
 exact ⟨(hc 0).trans (by simp), (hc 1).trans (by simp), (hc 2).trans (by simp)⟩
set_option maxHeartbeats 4000000 in
set_option maxRecDepth 100000 in
theorem certIn_any (z : Ct) (w : World) : Calls Tryz.prog 78 #[.agg #[.int .i64 z.view, .int .i64 z.slot, .int .i64 z.value]] w fun e w' => e = .returned (.bool (Msg.certIn z)) ∧ Ext w w' := by
 have HSl : Hid (∀ wx : World, Calls Tryz.prog 107 #[.int .i64 z.slot] wx fun e w' => e = .returned (.bool (decide (1 ≤ z.slot) && decide (z.slot ≤ 30))) ∧ w' = wx) := fun wx => isSlot_any z.slot wx
 have HVa : Hid (∀ wx : World, Calls Tryz.prog 108 #[.int .i64 z.value] wx fun e w' => e = .returned (.bool (decide (0 ≤ z.value) && decide (z.value ≤ 12))) ∧ w' = wx) := fun wx => isValue_any z.value wx
 have HVz : Hid (∀ wx : World, Calls Tryz.prog 131 #[.agg #[.int .i64 z.view]] wx fun e w' => e = .returned (.bool (decide (0 ≤ z.view) && decide (z.view ≤ 20))) ∧ Ext wx w') := fun wx => hasView_any z.view wx
 by_cases h1 : 1 ≤ z.slot ∧ z.slot ≤ 30
 ·have q : (decide (1 ≤ z.slot) && decide (z.slot ≤ 30)) = true := by simp; omega
  rw [q] at HSl
  clear q
  by_cases h2 : 0 ≤ z.view ∧ z.view ≤ 20
  ·have q : (decide (0 ≤ z.view) && decide (z.view ≤ 20)) = true := by simp; omega
   rw [q] at HVz
   clear q
   by_cases h3 : 0 ≤ z.value ∧ z.value ≤ 12
   ·have q : (decide (0 ≤ z.value) && decide (z.value ≤ 12)) = true := by simp; omega
    rw [q] at HVa
    clear q
    have HR : Msg.certIn z = true := decide_eq_true (by omega)
    rw [HR]
    (try clear HR)
    (try clear h1)
    (try clear h2)
    (try clear h3)
    go_enter Tryz.func78, Tryz.ntmps78
    go_wp2_with fail
    refine (HSl.out _).mono ?_
    rintro e w9 ⟨rfl, hw⟩
    rw [hw]
    clear hw w9
    go_wp2_with fail
    refine (HVz.out _).mono ?_
    rintro e w2 ⟨rfl, hb⟩
    have F2 : Hid (Ext w w2) := ((Ext.refl _).alloc _).trans hb
    obtain ⟨b0, b1, b2⟩ := (cbox_new w z 103) _ hb
    clear hb
    go_wp2_with fail
    refine (HVa.out _).mono ?_
    rintro e w9 ⟨rfl, hw⟩
    rw [hw]
    clear hw w9
    go_wp2
    go_ret
    exact ⟨rfl, F2.out⟩
   ·have q : (decide (0 ≤ z.value) && decide (z.value ≤ 12)) = false := by rw [Bool.and_eq_false_iff]; simp; omega
    rw [q] at HVa
    clear q
    have HR : Msg.certIn z = false := decide_eq_false (by omega)
    rw [HR]
    (try clear HR)
    (try clear h1)
    (try clear h2)
    (try clear h3)
    go_enter Tryz.func78, Tryz.ntmps78
    go_wp2_with fail
    refine (HSl.out _).mono ?_
    rintro e w9 ⟨rfl, hw⟩
    rw [hw]
    clear hw w9
    go_wp2_with fail
    refine (HVz.out _).mono ?_
    rintro e w2 ⟨rfl, hb⟩
    have F2 : Hid (Ext w w2) := ((Ext.refl _).alloc _).trans hb
    obtain ⟨b0, b1, b2⟩ := (cbox_new w z 103) _ hb
    clear hb
    go_wp2_with fail
    refine (HVa.out _).mono ?_
    rintro e w9 ⟨rfl, hw⟩
    rw [hw]
    clear hw w9
    go_wp2
    go_ret
    exact ⟨rfl, F2.out⟩
  ·have q : (decide (0 ≤ z.view) && decide (z.view ≤ 20)) = false := by rw [Bool.and_eq_false_iff]; simp; omega
   rw [q] at HVz
   clear q
   have HR : Msg.certIn z = false := decide_eq_false (by omega)
   rw [HR]
   (try clear HR)
   (try clear h1)
   (try clear h2)
   (try clear h3)
   go_enter Tryz.func78, Tryz.ntmps78
   go_wp2_with fail
   refine (HSl.out _).mono ?_
   rintro e w9 ⟨rfl, hw⟩
   rw [hw]
   clear hw w9
   go_wp2_with fail
   refine (HVz.out _).mono ?_
   rintro e w2 ⟨rfl, hb⟩
   have F2 : Hid (Ext w w2) := ((Ext.refl _).alloc _).trans hb
   obtain ⟨b0, b1, b2⟩ := (cbox_new w z 103) _ hb
   clear hb
   go_wp2
   go_ret
   exact ⟨rfl, F2.out⟩
 ·have q : (decide (1 ≤ z.slot) && decide (z.slot ≤ 30)) = false := by rw [Bool.and_eq_false_iff]; simp; omega
  rw [q] at HSl
  clear q
  have HR : Msg.certIn z = false := decide_eq_false (by omega)
  rw [HR]
  (try clear HR)
  (try clear h1)
  (try clear h2)
  (try clear h3)
  go_enter Tryz.func78, Tryz.ntmps78
  go_wp2_with fail
  refine (HSl.out _).mono ?_
  rintro e w9 ⟨rfl, hw⟩
  rw [hw]
  clear hw w9
  go_wp2
  go_ret
  exact ⟨rfl, (Ext.refl _).alloc _⟩
set_option maxHeartbeats 20000000 in
set_option maxRecDepth 100000 in
theorem takesCert_any (m : Ms) (a a' : Option Addr) (nc nr c c' : Nat) (z : Ct) (w : World) (hv : m.view ≤ 20) : Calls Tryz.prog 167 #[pagg m (.slice a nc c) (.slice a' nr c'), ctagg z] w fun e w' => e = .returned (.bool (Msg.certOk m.view z)) ∧ Ext w w' := by
 have HCo : Hid (∀ wx : World, Calls Tryz.prog 77 #[ctagg z] wx fun e w' => e = .returned (.agg #[.int .i64 z.view, .int .i64 z.slot, .int .i64 z.value]) ∧ Ext wx w') := fun wx => certificateOf_any z wx
 have HIn : Hid (∀ wx : World, Calls Tryz.prog 78 #[.agg #[.int .i64 z.view, .int .i64 z.slot, .int .i64 z.value]] wx fun e w' => e = .returned (.bool (Msg.certIn z)) ∧ Ext wx w') := fun wx => certIn_any z wx
 have HBe : Hid (∀ wx : World, Calls Tryz.prog 182 #[.agg #[.int .i64 z.view], .agg #[.int .i64 m.view]] wx fun e w' => e = .returned (.bool (decide (z.view < m.view))) ∧ Ext wx w') := fun wx => isBelow_any z.view m.view wx
 unfold pagg ctagg at *
 have HP : Hid (∀ wx : World, Ext (w.alloc (.cells #[.int .i64 m.view, .int .i64 m.kind, .int .i64 m.from_, .int .i64 m.slot, .int .i64 m.value, .slice a nc c, .slice a' nr c'] 112)) wx → PBoxAt wx w.heap.size m (.slice a nc c) (.slice a' nr c') ∧ Ext w wx) := fun wx he => ⟨(pbox_new w m _ _ _).ext he, ((Ext.refl _).alloc _).trans he⟩
 by_cases h1 : Msg.certIn z = true
 ·rw [h1] at HIn
  by_cases hb1 : z.view < m.view
  ·have HR : Msg.certOk m.view z = true := by unfold Msg.certIn at h1; rw [decide_eq_true_eq] at h1; exact decide_eq_true (by omega)
   clear h1
   have q : decide (z.view < m.view) = true := decide_eq_true (by omega)
   rw [q] at HBe
   clear q
   rw [HR]
   clear HR
   (try clear hb1)
   go_enter Tryz.func167, Tryz.ntmps167
   go_wp2_with fail
   refine (HCo.out _).mono ?_
   rintro e w1 ⟨rfl, hb⟩
   obtain ⟨⟨hlt1, c0, c1, c2, c3, c4, c5, c6⟩, hE1⟩ := HP.out _ (((Ext.refl _).alloc _).trans hb)
   have F1 : Hid (Ext w w1) := hE1
   clear hb hE1
   go_wp2_with fail
   refine (HIn.out _).mono ?_
   rintro e w2 ⟨rfl, hb⟩
   have F2 : Hid (Ext w w2) := (F1.out.alloc _).trans hb
   obtain ⟨b0, b1, b2⟩ := (cbox_new w1 z 103) _ hb
   have D0 := (Ext.cell (((Ext.refl _).alloc _).trans hb)).1 _ 0 hlt1
   rw [c0] at D0
   clear hb
   go_wp2_with fail
   refine (HBe.out _).mono ?_
   rintro e w3 ⟨rfl, hb⟩
   have F3 : Hid (Ext w w3) := F2.out.trans hb
   clear hb
   go_wp2
   go_ret
   exact ⟨rfl, F3.out⟩
  ·have HR : Msg.certOk m.view z = false := decide_eq_false (by omega)
   clear h1
   have q : decide (z.view < m.view) = false := decide_eq_false (by omega)
   rw [q] at HBe
   clear q
   rw [HR]
   clear HR
   (try clear hb1)
   go_enter Tryz.func167, Tryz.ntmps167
   go_wp2_with fail
   refine (HCo.out _).mono ?_
   rintro e w1 ⟨rfl, hb⟩
   obtain ⟨⟨hlt1, c0, c1, c2, c3, c4, c5, c6⟩, hE1⟩ := HP.out _ (((Ext.refl _).alloc _).trans hb)
   have F1 : Hid (Ext w w1) := hE1
   clear hb hE1
   go_wp2_with fail
   refine (HIn.out _).mono ?_
   rintro e w2 ⟨rfl, hb⟩
   have F2 : Hid (Ext w w2) := (F1.out.alloc _).trans hb
   obtain ⟨b0, b1, b2⟩ := (cbox_new w1 z 103) _ hb
   have D0 := (Ext.cell (((Ext.refl _).alloc _).trans hb)).1 _ 0 hlt1
   rw [c0] at D0
   clear hb
   go_wp2_with fail
   refine (HBe.out _).mono ?_
   rintro e w3 ⟨rfl, hb⟩
   have F3 : Hid (Ext w w3) := F2.out.trans hb
   clear hb
   go_wp2
   go_ret
   exact ⟨rfl, F3.out⟩
 ·have HR : Msg.certOk m.view z = false := by
   refine decide_eq_false fun hh => h1 ?_
   unfold Msg.certIn
   exact decide_eq_true (by omega)
  have h9 : Msg.certIn z = false := by simpa using h1
  rw [h9] at HIn
  clear h1 h9
  rw [HR]
  clear HR
  (try clear hb1)
  go_enter Tryz.func167, Tryz.ntmps167
  go_wp2_with fail
  refine (HCo.out _).mono ?_
  rintro e w1 ⟨rfl, hb⟩
  obtain ⟨⟨hlt1, c0, c1, c2, c3, c4, c5, c6⟩, hE1⟩ := HP.out _ (((Ext.refl _).alloc _).trans hb)
  have F1 : Hid (Ext w w1) := hE1
  clear hb hE1
  go_wp2_with fail
  refine (HIn.out _).mono ?_
  rintro e w2 ⟨rfl, hb⟩
  have F2 : Hid (Ext w w2) := (F1.out.alloc _).trans hb
  obtain ⟨b0, b1, b2⟩ := (cbox_new w1 z 103) _ hb
  have D0 := (Ext.cell (((Ext.refl _).alloc _).trans hb)).1 _ 0 hlt1
  rw [c0] at D0
  clear hb
  go_wp2
  go_ret
  exact ⟨rfl, F2.out⟩
end Go.Proofs.YtecgjdgfjgcmdaaGreat
