/- the program's findMark, markFault, StateFault. -/
import Derived.Test.YtdjnkchaapcjpaaGreatDoorN0
import Derived.Test.YtdjnkchaapcjpaaGreatDoorE5
import Derived.Test.YtdjnkchaapcjpaaGreatDoorI5
namespace Go.Proofs.YtdjnkchaapcjpaaGreatDoor
open Go.RowKit
set_option maxHeartbeats 1000000 in
theorem within_any (n l m : Int) (w : World) : Calls Tryz.prog 74 #[.int .i64 n, .int .i64 l, .int .i64 m] w fun e w' => e = .returned (.bool (decide (l ≤ n) && decide (n ≤ m))) ∧ w' = w := by
  by_cases h0 : l ≤ n
  · by_cases h1 : n ≤ m
    · go_enter Tryz.func74, Tryz.ntmps74
      go_wp2
      go_ret
      exact ⟨by simp [h0, h1], rfl⟩
    · go_enter Tryz.func74, Tryz.ntmps74
      go_wp2
      go_ret
      exact ⟨by simp [h1], rfl⟩
  · go_enter Tryz.func74, Tryz.ntmps74
    go_wp2
    go_ret
    exact ⟨by simp; omega, rfl⟩
set_option maxHeartbeats 1000000 in
set_option maxRecDepth 100000 in
theorem isReply_any (c v : Int) (p : ByteArray) (w : World) (hp : p.size ≤ maxLen) : Calls Tryz.prog 109 #[yagg c v p] w fun e w' => e = .returned (.bool (okY c v p)) ∧ Ext w w' := by
  unfold maxLen at hp
  have HU : Hid (∀ wx : World, Calls Tryz.prog 49 #[.int .i64 c, .int .i64 10] wx fun e w' => e = .returned (.bool (decide (0 ≤ c) && decide (c ≤ 10))) ∧ w' = wx) := fun wx => upTo_any _ _ _
  have HW : Hid (∀ wx : World, Calls Tryz.prog 74 #[.int .i64 v, .int .i64 (-1), .int .i64 9999] wx fun e w' => e = .returned (.bool (decide (-1 ≤ v) && decide (v ≤ 9999))) ∧ w' = wx) := fun wx => within_any _ _ _ _
  have HD : Hid (okY c v p = ((decide (0 ≤ c) && decide (c ≤ 10)) && ((decide (-1 ≤ v) && decide (v ≤ 9999)) && decide (p.size ≤ 24)))) := rfl
  generalize okY c v p = R at *
  generalize (decide (0 ≤ c) && decide (c ≤ 10)) = b1 at *
  generalize (decide (-1 ≤ v) && decide (v ≤ 9999)) = b2 at *
  unfold yagg
  cases b1 with
  | false =>
    have HF : Hid (R = false) := HD.out
    go_enter Tryz.func109, Tryz.ntmps109
    go_wp2_with fail
    refine (HU.out _).mono ?_
    rintro e w1 ⟨rfl, hw⟩
    rw [hw]
    clear hw w1
    go_wp2
    go_ret
    exact ⟨ret_bool HF.out.symm, (Ext.refl _).alloc _⟩
  | true =>
  cases b2 with
  | false =>
    have HF : Hid (R = false) := HD.out
    go_enter Tryz.func109, Tryz.ntmps109
    go_wp2_with fail
    refine (HU.out _).mono ?_
    rintro e w1 ⟨rfl, hw⟩
    rw [hw]
    clear hw w1
    go_wp2_with fail
    refine (HW.out _).mono ?_
    rintro e w1 ⟨rfl, hw⟩
    rw [hw]
    clear hw w1
    go_wp2
    go_ret
    exact ⟨ret_bool HF.out.symm, (Ext.refl _).alloc _⟩
  | true =>
    have HF : Hid (R = decide (p.size ≤ 24)) := by show _ = _; rw [HD.out]; simp
    go_enter Tryz.func109, Tryz.ntmps109
    go_wp2_with fail
    refine (HU.out _).mono ?_
    rintro e w1 ⟨rfl, hw⟩
    rw [hw]
    clear hw w1
    go_wp2_with fail
    refine (HW.out _).mono ?_
    rintro e w1 ⟨rfl, hw⟩
    rw [hw]
    clear hw w1
    go_wp2
    go_ret
    exact ⟨ret_bool (by rw [HF.out]; congr 1; simp; omega), (Ext.refl _).alloc _⟩

set_option maxHeartbeats 1000000 in
set_option maxRecDepth 100000 in
theorem mark1_any (B D : Nat) (c n : Int) (z : Mk) (w : World) (h1 : w.cell? ⟨B, 0, none⟩ = some (.int .i64 c)) (h2 : w.cell? ⟨D, 0, none⟩ = some (.int .i64 n)) :
    Calls Tryz.prog 113 #[magg z, .pointer (some ⟨B, 0, none⟩), .pointer (some ⟨D, 0, none⟩)] w fun e w' => e = .returned (.bool (keyM c n z)) ∧ Ext w w' := by
  have hB := World.block_lt_of_cell? w _ h1
  have hD := World.block_lt_of_cell? w _ h2
  have hal := alloc_cell
  unfold magg keyM
  by_cases g : z.client = c
  · go_enter Tryz.func113, Tryz.ntmps113
    go_wp2
    go_ret
    exact ⟨ret_bool (by first | rfl | (simp; done) | (simp_all; done)), (Ext.refl _).alloc _⟩
  · go_enter Tryz.func113, Tryz.ntmps113
    go_wp2
    go_ret
    exact ⟨ret_bool (by first | rfl | (simp; done) | (simp_all; done)), (Ext.refl _).alloc _⟩

set_option maxHeartbeats 2000000 in
set_option maxRecDepth 100000 in
theorem indexMark_any (v : Value) (l : List Mk) (B D : Nat) (c n : Int) (w : World) (hS : MSlice w v l) (h1 : w.cell? ⟨B, 0, none⟩ = some (.int .i64 c)) (h2 : w.cell? ⟨D, 0, none⟩ = some (.int .i64 n)) :
    Calls Tryz.prog 112 #[v, .func (.func 113) #[] #[.pointer (some ⟨B, 0, none⟩), .pointer (some ⟨D, 0, none⟩)]] w fun e w' => e = .returned (.int .i64 (idxM c n 0 l)) ∧ Ext w w' := by
  obtain ⟨a, cap, rfl, hlc, hcm, hx⟩ := hS
  have HX : Hid (0 < l.length → ∃ b off, a = some ⟨b, off, none⟩ ∧ b < w.heap.size ∧ MksAt w b off l) := hx
  have HQ : Hid (∀ (wx : World) (z : Mk), Ext w wx → Calls Tryz.prog 113 #[magg z, .pointer (some ⟨B, 0, none⟩), .pointer (some ⟨D, 0, none⟩)] wx fun e w' => e = .returned (.bool (keyM c n z)) ∧ Ext wx w') := fun wx z he => mark1_any B D c n z wx (((Ext.cell he).1 _ _ (World.block_lt_of_cell? w _ h1)).trans h1) (((Ext.cell he).1 _ _ (World.block_lt_of_cell? w _ h2)).trans h2)
  clear hx h1 h2
  unfold maxLen at hcm
  go_enter Tryz.func112, Tryz.ntmps112
  go_wp2
  go_loopw [8] (fun i wr => ∃ (k : Nat), k ≤ l.length ∧ i = .int .i64 k ∧ Hid (idxM c n k (l.drop k) = idxM c n 0 l) ∧ Hid (Ext w wr)) (fun i _ => l.length - (intOf i).toNat)
  case atStart => exact ⟨0, Nat.zero_le _, rfl, rfl, Ext.refl _⟩
  case round =>
    obtain ⟨k, hk, rfl, HA, HE⟩ := hrel
    by_cases hlt : k < l.length
    · obtain ⟨z, hzk⟩ : ∃ z, l[k]? = some z := ⟨_, List.getElem?_eq_getElem hlt⟩
      obtain ⟨b, off, rfl, hb, hN⟩ := HX.out (by omega)
      obtain ⟨d0, d1, d2, d3, d4⟩ := hN.ext hb HE.out k z hzk
      have hat := idxM_at (c := c) (n := n) hzk
      have HS : Hid (∀ wx : World, Ext w wx → Calls Tryz.prog 113 #[magg z, .pointer (some ⟨B, 0, none⟩), .pointer (some ⟨D, 0, none⟩)] wx fun e w' => e = .returned (.bool (keyM c n z)) ∧ Ext wx w') := fun wx he => HQ.out wx z he
      unfold magg at HS
      clear hzk hN
      cases hs : keyM c n z with
      | true =>
        have HF : Hid (idxM c n 0 l = k) := by show _ = _; rw [← HA.out, hat, if_pos hs]
        rw [hs] at HS
        clear hs hat
        go_wp2_with fail
        refine (HS.out _ HE.out).mono ?_
        rintro e w2 ⟨rfl, hb2⟩
        have HE2 : Hid (Ext w w2) := HE.out.trans hb2
        clear hb2 d0 d1 d2 d3 d4
        go_wp2
        go_ret
        exact ⟨ret_int HF.out.symm, HE2.out⟩
      | false =>
        have HA2 : Hid (idxM c n (k + 1) (l.drop (k + 1)) = idxM c n 0 l) := by show _ = _; rw [← HA.out, hat, if_neg (by rw [hs]; decide)]
        rw [hs] at HS
        clear hs hat
        go_wp2_with fail
        refine (HS.out _ HE.out).mono ?_
        rintro e w2 ⟨rfl, hb2⟩
        have HE2 : Hid (Ext w w2) := HE.out.trans hb2
        clear hb2 d0 d1 d2 d3 d4
        go_wp2
        exact ⟨⟨k + 1, by omega, by go_num, HA2, HE2⟩, by simp [intOf]; omega⟩
    · have HF : Hid (idxM c n 0 l = -1) := by show _ = _; rw [← HA.out, List.drop_of_length_le (by omega), idxM]
      go_wp2
      go_ret
      exact ⟨ret_int HF.out.symm, HE.out⟩

/-- The pointer that findMark answers. -/
def FoundM (w : World) (l : List Mk) (c n : Int) (p : Option Addr) : Prop :=
  (p = none ∧ idxM c n 0 l = -1 ∧ l.any (keyM c n) = false) ∨ ∃ b o k z, p = some ⟨b, o, none⟩ ∧ b < w.heap.size ∧ MAt w b o z ∧ l[k]? = some z ∧ idxM c n 0 l = ((k : Nat) : Int) ∧ l.any (keyM c n) = true

set_option maxHeartbeats 2000000 in
set_option maxRecDepth 100000 in
theorem findMark_any (v : Value) (l : List Mk) (c n : Int) (w : World) (hS : MSlice w v l) :
    Calls Tryz.prog 54 #[v, .int .i64 c, .int .i64 n] w fun e w' => ∃ p, e = .returned (.pointer p) ∧ FoundM w l c n p ∧ Ext w w' := by
  have HI : Hid (∀ (B D : Nat) (wx : World), Ext w wx → wx.cell? ⟨B, 0, none⟩ = some (.int .i64 c) → wx.cell? ⟨D, 0, none⟩ = some (.int .i64 n) → Calls Tryz.prog 112 #[v, .func (.func 113) #[] #[.pointer (some ⟨B, 0, none⟩), .pointer (some ⟨D, 0, none⟩)]] wx fun e w' => e = .returned (.int .i64 (idxM c n 0 l)) ∧ Ext wx w') := fun B D wx he h1 h2 => indexMark_any v l B D c n wx (hS.ext he) h1 h2
  obtain ⟨a, cap, rfl, hlc, hcm, hx⟩ := hS
  unfold maxLen at hcm
  rcases idxM_is c n l 0 with ⟨q1, q2⟩ | ⟨k, q1, q2, q3, z, q4, q5⟩
  · have HP : Hid (FoundM w l c n none) := Or.inl ⟨rfl, q1, q2⟩
    rw [q1] at HI
    clear hx q1 q2
    go_enter Tryz.func54, Tryz.ntmps54
    go_wp2_with fail
    refine (HI.out _ _ _ (((Ext.refl _).alloc _).alloc _) (by simp) (by simp)).mono ?_
    rintro e w1 ⟨rfl, hb⟩
    have HB : Hid (Ext w w1) := (((Ext.refl _).alloc _).alloc _).trans hb
    clear hb
    go_wp2
    go_ret
    exact ⟨_, rfl, HP.out, HB.out⟩
  · rw [Nat.zero_add] at q2
    obtain ⟨b, off, rfl, hb, hN⟩ := hx (by omega)
    have HP : Hid (FoundM w l c n (some ⟨b, off + k * 5, none⟩)) := Or.inr ⟨b, _, k, z, rfl, hb, hN k z q4, q4, q2, by rw [List.any_eq_true]; exact ⟨z, List.mem_of_getElem? q4, q5⟩⟩
    rw [q2] at HI
    clear hb hN q2 q3 q4 q5
    go_enter Tryz.func54, Tryz.ntmps54
    go_wp2_with fail
    refine (HI.out _ _ _ (((Ext.refl _).alloc _).alloc _) (by simp) (by simp)).mono ?_
    rintro e w1 ⟨rfl, hb⟩
    have HB : Hid (Ext w w1) := (((Ext.refl _).alloc _).alloc _).trans hb
    clear hb
    go_wp2
    go_ret
    exact ⟨_, rfl, HP.out, HB.out⟩
end Go.Proofs.YtdjnkchaapcjpaaGreatDoor
