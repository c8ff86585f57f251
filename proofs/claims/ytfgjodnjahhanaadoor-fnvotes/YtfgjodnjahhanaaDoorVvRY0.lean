/- replies: what they are, the laws' functions over them, whether one is right, on both sides. -/
import Derived.Test.YtfgjodnjahhanaaDoorVvB1
namespace Go.Proofs.YtfgjodnjahhanaaDoor
open Go.RowKit
/-- What was replied: code, value, path. -/
def yagg (c n : Int) (p : ByteArray) : Value := .agg #[.int .i64 c, .int .i64 n, .string p]

def okY (c v : Int) (p : ByteArray) : Bool := (decide (0 ≤ c) && decide (c ≤ 10)) && ((decide (-1 ≤ v) && decide (v ≤ 9999)) && decide (p.size ≤ 24))
set_option maxHeartbeats 1000000 in
theorem upToY_any (n m : Int) (w : World) : Calls Tryd.prog 32 #[.int .i64 n, .int .i64 m] w fun e w' => e = .returned (.bool (decide (0 ≤ n) && decide (n ≤ m))) ∧ w' = w := by
  by_cases h0 : 0 ≤ n
  · by_cases h1 : n ≤ m
    · go_enter Tryd.func32, Tryd.ntmps32
      go_wp2
      go_ret
      exact ⟨by simp [h0, h1], rfl⟩
    · go_enter Tryd.func32, Tryd.ntmps32
      go_wp2
      go_ret
      exact ⟨by simp [h1], rfl⟩
  · go_enter Tryd.func32, Tryd.ntmps32
    go_wp2
    go_ret
    exact ⟨by simp; omega, rfl⟩
set_option maxHeartbeats 1000000 in
set_option maxRecDepth 100000 in
theorem isReply_any (c v : Int) (p : ByteArray) (w : World) (hp : p.size ≤ maxLen) : Calls Tryd.prog 19 #[yagg c v p] w fun e w' => e = .returned (.bool (okY c v p)) ∧ Ext w w' := by
  unfold maxLen at hp
  have HU : Hid (∀ wx : World, Calls Tryd.prog 32 #[.int .i64 c, .int .i64 10] wx fun e w' => e = .returned (.bool (decide (0 ≤ c) && decide (c ≤ 10))) ∧ w' = wx) := fun wx => upToY_any _ _ _
  have HW : Hid (∀ wx : World, Calls Tryd.prog 33 #[.int .i64 v, .int .i64 (-1), .int .i64 9999] wx fun e w' => e = .returned (.bool (decide (-1 ≤ v) && decide (v ≤ 9999))) ∧ w' = wx) := fun wx => isWithin_any _ _ _ _
  have HD : Hid (okY c v p = ((decide (0 ≤ c) && decide (c ≤ 10)) && ((decide (-1 ≤ v) && decide (v ≤ 9999)) && decide (p.size ≤ 24)))) := rfl
  generalize okY c v p = R at *
  generalize (decide (0 ≤ c) && decide (c ≤ 10)) = b1 at *
  generalize (decide (-1 ≤ v) && decide (v ≤ 9999)) = b2 at *
  unfold yagg
  cases b1 with
  | false =>
    have HF : Hid (R = false) := HD.out
    go_enter Tryd.func19, Tryd.ntmps19
    go_wp2_with fail
    refine (HU.out _).mono ?_
    rintro e w1 ⟨rfl, hw⟩
    rw [hw]
    clear hw w1
    go_wp2
    go_ret
    exact ⟨ret_bool HF.out.symm, (Ext.refl _).alloc _⟩
  | true =>
  cases b2 with
  | false =>
    have HF : Hid (R = false) := HD.out
    go_enter Tryd.func19, Tryd.ntmps19
    go_wp2_with fail
    refine (HU.out _).mono ?_
    rintro e w1 ⟨rfl, hw⟩
    rw [hw]
    clear hw w1
    go_wp2_with fail
    refine (HW.out _).mono ?_
    rintro e w1 ⟨rfl, hw⟩
    rw [hw]
    clear hw w1
    go_wp2
    go_ret
    exact ⟨ret_bool HF.out.symm, (Ext.refl _).alloc _⟩
  | true =>
    have HF : Hid (R = decide (p.size ≤ 24)) := by show _ = _; rw [HD.out]; simp
    go_enter Tryd.func19, Tryd.ntmps19
    go_wp2_with fail
    refine (HU.out _).mono ?_
    rintro e w1 ⟨rfl, hw⟩
    rw [hw]
    clear hw w1
    go_wp2_with fail
    refine (HW.out _).mono ?_
    rintro e w1 ⟨rfl, hw⟩
    rw [hw]
    clear hw w1
    go_wp2
    go_ret
    exact ⟨ret_bool (by rw [HF.out]; congr 1; simp; omega), (Ext.refl _).alloc _⟩

set_option maxHeartbeats 1000000 in
set_option maxRecDepth 100000 in
theorem l6Reply_any (b o : Nat) (c v : Int) (p : ByteArray) (w : World) (h0 : w.cell? ⟨b, o, none⟩ = some (.int .i64 c)) (h1 : w.cell? ⟨b, o + 1, none⟩ = some (.int .i64 v)) (h2 : w.cell? ⟨b, o + 2, none⟩ = some (.string p)) (hp : p.size ≤ maxLen) :
    Calls Tryd.prog 17 #[.pointer (some ⟨b, o, none⟩)] w fun e w' => e = .returned (.bool (okY c v p)) ∧ w' = w := by
  unfold maxLen at hp
  have HU : Hid (∀ wx : World, Calls Tryd.prog 30 #[.int .i64 c, .int .i64 0, .int .i64 10] wx fun e w' => e = .returned (.bool (decide (0 ≤ c) && decide (c ≤ 10))) ∧ w' = wx) := fun wx => l1In_any _ _ _ _
  have HW : Hid (∀ wx : World, Calls Tryd.prog 30 #[.int .i64 v, .int .i64 (-1), .int .i64 9999] wx fun e w' => e = .returned (.bool (decide (-1 ≤ v) && decide (v ≤ 9999))) ∧ w' = wx) := fun wx => l1In_any _ _ _ _
  have HD : Hid (okY c v p = ((decide (0 ≤ c) && decide (c ≤ 10)) && ((decide (-1 ≤ v) && decide (v ≤ 9999)) && decide (p.size ≤ 24)))) := rfl
  generalize okY c v p = R at *
  generalize (decide (0 ≤ c) && decide (c ≤ 10)) = b1 at *
  generalize (decide (-1 ≤ v) && decide (v ≤ 9999)) = b2 at *
  cases b1 with
  | false =>
    have HF : Hid (R = false) := HD.out
    go_enter Tryd.func17, Tryd.ntmps17
    go_wp2_with fail
    refine (HU.out _).mono ?_
    rintro e w1 ⟨rfl, hw⟩
    rw [hw]
    clear hw w1
    go_wp2
    go_ret
    exact ⟨ret_bool HF.out.symm, rfl⟩
  | true =>
  cases b2 with
  | false =>
    have HF : Hid (R = false) := HD.out
    go_enter Tryd.func17, Tryd.ntmps17
    go_wp2_with fail
    refine (HU.out _).mono ?_
    rintro e w1 ⟨rfl, hw⟩
    rw [hw]
    clear hw w1
    go_wp2_with fail
    refine (HW.out _).mono ?_
    rintro e w1 ⟨rfl, hw⟩
    rw [hw]
    clear hw w1
    go_wp2
    go_ret
    exact ⟨ret_bool HF.out.symm, rfl⟩
  | true =>
    have HF : Hid (R = decide (p.size ≤ 24)) := by show _ = _; rw [HD.out]; simp
    go_enter Tryd.func17, Tryd.ntmps17
    go_wp2_with fail
    refine (HU.out _).mono ?_
    rintro e w1 ⟨rfl, hw⟩
    rw [hw]
    clear hw w1
    go_wp2_with fail
    refine (HW.out _).mono ?_
    rintro e w1 ⟨rfl, hw⟩
    rw [hw]
    clear hw w1
    go_wp2
    go_ret
    exact ⟨ret_bool (by rw [HF.out]; congr 1; simp; omega), rfl⟩

/-- Three values of a reply in a box of their own. -/
def RyAt (w : World) (b : Nat) (v0 v1 v2 : Value) : Prop := b < w.heap.size ∧ (w.cell? ⟨b, 0, none⟩ = some v0 ∧ w.cell? ⟨b, 1, none⟩ = some v1 ∧ w.cell? ⟨b, 2, none⟩ = some v2) ∧ w.frozen? ⟨b, 0, none⟩ = false ∧ w.frozen? ⟨b, 1, none⟩ = false ∧ w.frozen? ⟨b, 2, none⟩ = false
theorem RyAt.ext {w w' : World} {b : Nat} {v0 v1 v2 : Value} (h : RyAt w b v0 v1 v2) (he : Ext w w') : RyAt w' b v0 v1 v2 := by
  obtain ⟨hc, hf⟩ := Ext.cell he
  obtain ⟨hb, ⟨c0, c1, c2⟩, f0, f1, f2⟩ := h
  exact ⟨Nat.lt_of_lt_of_le hb he.size, ⟨(hc _ _ hb).trans c0, (hc _ _ hb).trans c1, (hc _ _ hb).trans c2⟩, (hf _ _ hb).trans f0, (hf _ _ hb).trans f1, (hf _ _ hb).trans f2⟩
theorem ry_new (w : World) (v0 v1 v2 : Value) (t : TypeId) : RyAt (w.alloc (.cells #[v0, v1, v2] t)) w.heap.size v0 v1 v2 := ⟨by simp, ⟨by simp, by simp, by simp⟩, by simp, by simp, by simp⟩
end Go.Proofs.YtfgjodnjahhanaaDoor
