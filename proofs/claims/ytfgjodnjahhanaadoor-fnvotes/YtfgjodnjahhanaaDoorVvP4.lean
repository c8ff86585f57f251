/- the specification's digits, at every number; l5Text, OpText. -/
import Derived.Test.YtfgjodnjahhanaaDoorVvJ34
import Derived.Test.YtfgjodnjahhanaaDoorVvJ35
import Derived.Lib.ItoaLen
namespace Go.Proofs.YtfgjodnjahhanaaDoor
open Go.RowKit
theorem dec_len (n : Nat) (h : n ≤ 99999) : (Lib.decDigits n).length ≤ 21 := by
  have := Lib.itoa_length_le (n : Int) (by omega) (by omega)
  rwa [Lib.itoa_nonneg] at this
theorem dec_step (m r : Nat) (hr : r < 10) (h10 : 10 ≤ 10 * m + r) : Lib.decDigits (10 * m + r) = Lib.decDigits m ++ [UInt8.ofNat (48 + r)] := by
  rw [Lib.decDigits, dif_neg (by omega), show (10 * m + r) / 10 = m from by omega, show (10 * m + r) % 10 = r from by omega]
theorem conv_at (W : World) (b : Nat) (n : Int) (h : W.cell? ⟨b, 0, none⟩ = some (.int .u8 n)) :
    (convert 32 9 (.slice (some ⟨b, 0, none⟩) 1 1)).run Tryd.prog W = .ok (.string (mkB [UInt8.ofNat n.toNat])) W := by
  rw [run_convert_bytes_string _ _ _ 5 _ _ _ Tryd.underlying32 Tryd.underlying5 Tryd.underlying9]
  rw [run_bytesToString _ _ 1 1 [n] (by simp [loadCells, loadCellsFrom, Addr.add, h, go_sem])]
  rfl
theorem cell_after {w w2 : World} {c : Int} {t : TypeId} (hb : Ext (w.alloc (.cells #[.int .u8 c] t)) w2) : w2.cell? ⟨w.heap.size, 0, none⟩ = some (.int .u8 c) :=
  ((Ext.cell hb).1 _ _ (by simp)).trans (by simp)
theorem cell_after2 {w w2 : World} {c : Int} {t : TypeId} (hb : Ext (w.drew.alloc (.cells #[.int .u8 c] t)) w2) : w2.cell? ⟨w.heap.size, 0, none⟩ = some (.int .u8 c) := cell_after (w := w.drew) hb
set_option maxHeartbeats 2000000 in
set_option maxRecDepth 100000 in
theorem l1Digits_step (m r : Nat) (hr : r < 10) (h10 : 10 ≤ 10 * m + r) (hm : m ≤ 99999) (w : World)
    (ih : ∀ wx : World, Calls Tryd.prog 31 #[.int .i64 m] wx fun e w' => e = .returned (.string (mkB (Lib.decDigits m))) ∧ Ext wx w') :
    Calls Tryd.prog 31 #[.int .i64 ((10 * m + r : Nat) : Int)] w fun e w' => e = .returned (.string (mkB (Lib.decDigits (10 * m + r)))) ∧ Ext w w' := by
  rw [dec_step m r hr h10]
  have HI : Hid _ := ih
  clear ih
  have hs : (mkB (Lib.decDigits m)).size ≤ 21 := by rw [← len_eq, mkB_list]; exact dec_len m hm
  have hz : (mkB [UInt8.ofNat (48 + r)]).size = 1 := by rw [← len_eq, mkB_list]; rfl
  have HE : Hid (mkB (Lib.decDigits m ++ [UInt8.ofNat (48 + r)]) = mkB (Lib.decDigits m) ++ mkB [UInt8.ofNat (48 + r)]) := (ba_eq (by simp [ByteArray.data_append, mkB_list]) : mkB (Lib.decDigits m ++ [UInt8.ofNat (48 + r)]) = mkB (Lib.decDigits m) ++ mkB [UInt8.ofNat (48 + r)])
  rw [HE.out]
  clear HE
  obtain ⟨n, hn⟩ : ∃ n : Int, n = ((10 * m + r : Nat) : Int) := ⟨_, rfl⟩
  rw [← hn]
  have n0 : ¬ n < 0 := by omega
  have n1 : ¬ n < 10 := by omega
  have hdiv : n.tdiv 10 = (m : Int) := by rw [hn, Int.tdiv_eq_ediv_of_nonneg (by omega)]; omega
  have hmod : n.tmod 10 = (r : Int) := by rw [hn, Int.tmod_eq_emod_of_nonneg (by omega)]; omega
  have hwr : IntKind.i64.wrap (m : Int) = m := by rw [IntKind.wrap_i64]; omega
  clear hn h10
  generalize mkB (Lib.decDigits m) = sm at *
  have hr' : r = 0 ∨ r = 1 ∨ r = 2 ∨ r = 3 ∨ r = 4 ∨ r = 5 ∨ r = 6 ∨ r = 7 ∨ r = 8 ∨ r = 9 := by omega
  clear hr
  rcases hr' with rfl | rfl | rfl | rfl | rfl | rfl | rfl | rfl | rfl | rfl
  · have hw1 : IntKind.i64.wrap 48 = 48 := rfl
    have hw2 : IntKind.u8.wrap 48 = 48 := rfl
    have hcv : ∀ (W : World) (b : Nat), W.cell? ⟨b, 0, none⟩ = some (.int .u8 48) → (convert 32 9 (.slice (some ⟨b, 0, none⟩) 1 1)).run Tryd.prog W = .ok (.string (mkB [UInt8.ofNat (48 + 0)])) W := fun W b h => conv_at W b 48 h
    generalize mkB [UInt8.ofNat (48 + 0)] = dg at *
    go_enter Tryd.func31, Tryd.ntmps31
    go_wp2
    go_region_with (go_at_call 31; refine (HI.out _).mono ?_; rintro e w2 ⟨rfl, hb⟩; (first | (have hcell := cell_after2 hb) | (have hcell := cell_after hb) | (have hcell := trivial)); have HB2 : Hid (Ext w w2) := (by first | exact ((Ext.refl _).drew).trans hb | exact (((Ext.refl _).drew).alloc _).trans hb | exact hb | exact ((Ext.refl _).alloc _).trans hb); clear hb)
    all_goals
      go_wp2
      go_ret
      first | exact ⟨rfl, HB2.out⟩ | exact ⟨rfl, HB2.out.alloc _⟩ | exact ⟨rfl, HB2.out.drew⟩ | exact ⟨rfl, (HB2.out.drew).alloc _⟩
  · have hw1 : IntKind.i64.wrap 49 = 49 := rfl
    have hw2 : IntKind.u8.wrap 49 = 49 := rfl
    have hcv : ∀ (W : World) (b : Nat), W.cell? ⟨b, 0, none⟩ = some (.int .u8 49) → (convert 32 9 (.slice (some ⟨b, 0, none⟩) 1 1)).run Tryd.prog W = .ok (.string (mkB [UInt8.ofNat (48 + 1)])) W := fun W b h => conv_at W b 49 h
    generalize mkB [UInt8.ofNat (48 + 1)] = dg at *
    go_enter Tryd.func31, Tryd.ntmps31
    go_wp2
    go_region_with (go_at_call 31; refine (HI.out _).mono ?_; rintro e w2 ⟨rfl, hb⟩; (first | (have hcell := cell_after2 hb) | (have hcell := cell_after hb) | (have hcell := trivial)); have HB2 : Hid (Ext w w2) := (by first | exact ((Ext.refl _).drew).trans hb | exact (((Ext.refl _).drew).alloc _).trans hb | exact hb | exact ((Ext.refl _).alloc _).trans hb); clear hb)
    all_goals
      go_wp2
      go_ret
      first | exact ⟨rfl, HB2.out⟩ | exact ⟨rfl, HB2.out.alloc _⟩ | exact ⟨rfl, HB2.out.drew⟩ | exact ⟨rfl, (HB2.out.drew).alloc _⟩
  · have hw1 : IntKind.i64.wrap 50 = 50 := rfl
    have hw2 : IntKind.u8.wrap 50 = 50 := rfl
    have hcv : ∀ (W : World) (b : Nat), W.cell? ⟨b, 0, none⟩ = some (.int .u8 50) → (convert 32 9 (.slice (some ⟨b, 0, none⟩) 1 1)).run Tryd.prog W = .ok (.string (mkB [UInt8.ofNat (48 + 2)])) W := fun W b h => conv_at W b 50 h
    generalize mkB [UInt8.ofNat (48 + 2)] = dg at *
    go_enter Tryd.func31, Tryd.ntmps31
    go_wp2
    go_region_with (go_at_call 31; refine (HI.out _).mono ?_; rintro e w2 ⟨rfl, hb⟩; (first | (have hcell := cell_after2 hb) | (have hcell := cell_after hb) | (have hcell := trivial)); have HB2 : Hid (Ext w w2) := (by first | exact ((Ext.refl _).drew).trans hb | exact (((Ext.refl _).drew).alloc _).trans hb | exact hb | exact ((Ext.refl _).alloc _).trans hb); clear hb)
    all_goals
      go_wp2
      go_ret
      first | exact ⟨rfl, HB2.out⟩ | exact ⟨rfl, HB2.out.alloc _⟩ | exact ⟨rfl, HB2.out.drew⟩ | exact ⟨rfl, (HB2.out.drew).alloc _⟩
  · have hw1 : IntKind.i64.wrap 51 = 51 := rfl
    have hw2 : IntKind.u8.wrap 51 = 51 := rfl
    have hcv : ∀ (W : World) (b : Nat), W.cell? ⟨b, 0, none⟩ = some (.int .u8 51) → (convert 32 9 (.slice (some ⟨b, 0, none⟩) 1 1)).run Tryd.prog W = .ok (.string (mkB [UInt8.ofNat (48 + 3)])) W := fun W b h => conv_at W b 51 h
    generalize mkB [UInt8.ofNat (48 + 3)] = dg at *
    go_enter Tryd.func31, Tryd.ntmps31
    go_wp2
    go_region_with (go_at_call 31; refine (HI.out _).mono ?_; rintro e w2 ⟨rfl, hb⟩; (first | (have hcell := cell_after2 hb) | (have hcell := cell_after hb) | (have hcell := trivial)); have HB2 : Hid (Ext w w2) := (by first | exact ((Ext.refl _).drew).trans hb | exact (((Ext.refl _).drew).alloc _).trans hb | exact hb | exact ((Ext.refl _).alloc _).trans hb); clear hb)
    all_goals
      go_wp2
      go_ret
      first | exact ⟨rfl, HB2.out⟩ | exact ⟨rfl, HB2.out.alloc _⟩ | exact ⟨rfl, HB2.out.drew⟩ | exact ⟨rfl, (HB2.out.drew).alloc _⟩
  · have hw1 : IntKind.i64.wrap 52 = 52 := rfl
    have hw2 : IntKind.u8.wrap 52 = 52 := rfl
    have hcv : ∀ (W : World) (b : Nat), W.cell? ⟨b, 0, none⟩ = some (.int .u8 52) → (convert 32 9 (.slice (some ⟨b, 0, none⟩) 1 1)).run Tryd.prog W = .ok (.string (mkB [UInt8.ofNat (48 + 4)])) W := fun W b h => conv_at W b 52 h
    generalize mkB [UInt8.ofNat (48 + 4)] = dg at *
    go_enter Tryd.func31, Tryd.ntmps31
    go_wp2
    go_region_with (go_at_call 31; refine (HI.out _).mono ?_; rintro e w2 ⟨rfl, hb⟩; (first | (have hcell := cell_after2 hb) | (have hcell := cell_after hb) | (have hcell := trivial)); have HB2 : Hid (Ext w w2) := (by first | exact ((Ext.refl _).drew).trans hb | exact (((Ext.refl _).drew).alloc _).trans hb | exact hb | exact ((Ext.refl _).alloc _).trans hb); clear hb)
    all_goals
      go_wp2
      go_ret
      first | exact ⟨rfl, HB2.out⟩ | exact ⟨rfl, HB2.out.alloc _⟩ | exact ⟨rfl, HB2.out.drew⟩ | exact ⟨rfl, (HB2.out.drew).alloc _⟩
  · have hw1 : IntKind.i64.wrap 53 = 53 := rfl
    have hw2 : IntKind.u8.wrap 53 = 53 := rfl
    have hcv : ∀ (W : World) (b : Nat), W.cell? ⟨b, 0, none⟩ = some (.int .u8 53) → (convert 32 9 (.slice (some ⟨b, 0, none⟩) 1 1)).run Tryd.prog W = .ok (.string (mkB [UInt8.ofNat (48 + 5)])) W := fun W b h => conv_at W b 53 h
    generalize mkB [UInt8.ofNat (48 + 5)] = dg at *
    go_enter Tryd.func31, Tryd.ntmps31
    go_wp2
    go_region_with (go_at_call 31; refine (HI.out _).mono ?_; rintro e w2 ⟨rfl, hb⟩; (first | (have hcell := cell_after2 hb) | (have hcell := cell_after hb) | (have hcell := trivial)); have HB2 : Hid (Ext w w2) := (by first | exact ((Ext.refl _).drew).trans hb | exact (((Ext.refl _).drew).alloc _).trans hb | exact hb | exact ((Ext.refl _).alloc _).trans hb); clear hb)
    all_goals
      go_wp2
      go_ret
      first | exact ⟨rfl, HB2.out⟩ | exact ⟨rfl, HB2.out.alloc _⟩ | exact ⟨rfl, HB2.out.drew⟩ | exact ⟨rfl, (HB2.out.drew).alloc _⟩
  · have hw1 : IntKind.i64.wrap 54 = 54 := rfl
    have hw2 : IntKind.u8.wrap 54 = 54 := rfl
    have hcv : ∀ (W : World) (b : Nat), W.cell? ⟨b, 0, none⟩ = some (.int .u8 54) → (convert 32 9 (.slice (some ⟨b, 0, none⟩) 1 1)).run Tryd.prog W = .ok (.string (mkB [UInt8.ofNat (48 + 6)])) W := fun W b h => conv_at W b 54 h
    generalize mkB [UInt8.ofNat (48 + 6)] = dg at *
    go_enter Tryd.func31, Tryd.ntmps31
    go_wp2
    go_region_with (go_at_call 31; refine (HI.out _).mono ?_; rintro e w2 ⟨rfl, hb⟩; (first | (have hcell := cell_after2 hb) | (have hcell := cell_after hb) | (have hcell := trivial)); have HB2 : Hid (Ext w w2) := (by first | exact ((Ext.refl _).drew).trans hb | exact (((Ext.refl _).drew).alloc _).trans hb | exact hb | exact ((Ext.refl _).alloc _).trans hb); clear hb)
    all_goals
      go_wp2
      go_ret
      first | exact ⟨rfl, HB2.out⟩ | exact ⟨rfl, HB2.out.alloc _⟩ | exact ⟨rfl, HB2.out.drew⟩ | exact ⟨rfl, (HB2.out.drew).alloc _⟩
  · have hw1 : IntKind.i64.wrap 55 = 55 := rfl
    have hw2 : IntKind.u8.wrap 55 = 55 := rfl
    have hcv : ∀ (W : World) (b : Nat), W.cell? ⟨b, 0, none⟩ = some (.int .u8 55) → (convert 32 9 (.slice (some ⟨b, 0, none⟩) 1 1)).run Tryd.prog W = .ok (.string (mkB [UInt8.ofNat (48 + 7)])) W := fun W b h => conv_at W b 55 h
    generalize mkB [UInt8.ofNat (48 + 7)] = dg at *
    go_enter Tryd.func31, Tryd.ntmps31
    go_wp2
    go_region_with (go_at_call 31; refine (HI.out _).mono ?_; rintro e w2 ⟨rfl, hb⟩; (first | (have hcell := cell_after2 hb) | (have hcell := cell_after hb) | (have hcell := trivial)); have HB2 : Hid (Ext w w2) := (by first | exact ((Ext.refl _).drew).trans hb | exact (((Ext.refl _).drew).alloc _).trans hb | exact hb | exact ((Ext.refl _).alloc _).trans hb); clear hb)
    all_goals
      go_wp2
      go_ret
      first | exact ⟨rfl, HB2.out⟩ | exact ⟨rfl, HB2.out.alloc _⟩ | exact ⟨rfl, HB2.out.drew⟩ | exact ⟨rfl, (HB2.out.drew).alloc _⟩
  · have hw1 : IntKind.i64.wrap 56 = 56 := rfl
    have hw2 : IntKind.u8.wrap 56 = 56 := rfl
    have hcv : ∀ (W : World) (b : Nat), W.cell? ⟨b, 0, none⟩ = some (.int .u8 56) → (convert 32 9 (.slice (some ⟨b, 0, none⟩) 1 1)).run Tryd.prog W = .ok (.string (mkB [UInt8.ofNat (48 + 8)])) W := fun W b h => conv_at W b 56 h
    generalize mkB [UInt8.ofNat (48 + 8)] = dg at *
    go_enter Tryd.func31, Tryd.ntmps31
    go_wp2
    go_region_with (go_at_call 31; refine (HI.out _).mono ?_; rintro e w2 ⟨rfl, hb⟩; (first | (have hcell := cell_after2 hb) | (have hcell := cell_after hb) | (have hcell := trivial)); have HB2 : Hid (Ext w w2) := (by first | exact ((Ext.refl _).drew).trans hb | exact (((Ext.refl _).drew).alloc _).trans hb | exact hb | exact ((Ext.refl _).alloc _).trans hb); clear hb)
    all_goals
      go_wp2
      go_ret
      first | exact ⟨rfl, HB2.out⟩ | exact ⟨rfl, HB2.out.alloc _⟩ | exact ⟨rfl, HB2.out.drew⟩ | exact ⟨rfl, (HB2.out.drew).alloc _⟩
  · have hw1 : IntKind.i64.wrap 57 = 57 := rfl
    have hw2 : IntKind.u8.wrap 57 = 57 := rfl
    have hcv : ∀ (W : World) (b : Nat), W.cell? ⟨b, 0, none⟩ = some (.int .u8 57) → (convert 32 9 (.slice (some ⟨b, 0, none⟩) 1 1)).run Tryd.prog W = .ok (.string (mkB [UInt8.ofNat (48 + 9)])) W := fun W b h => conv_at W b 57 h
    generalize mkB [UInt8.ofNat (48 + 9)] = dg at *
    go_enter Tryd.func31, Tryd.ntmps31
    go_wp2
    go_region_with (go_at_call 31; refine (HI.out _).mono ?_; rintro e w2 ⟨rfl, hb⟩; (first | (have hcell := cell_after2 hb) | (have hcell := cell_after hb) | (have hcell := trivial)); have HB2 : Hid (Ext w w2) := (by first | exact ((Ext.refl _).drew).trans hb | exact (((Ext.refl _).drew).alloc _).trans hb | exact hb | exact ((Ext.refl _).alloc _).trans hb); clear hb)
    all_goals
      go_wp2
      go_ret
      first | exact ⟨rfl, HB2.out⟩ | exact ⟨rfl, HB2.out.alloc _⟩ | exact ⟨rfl, HB2.out.drew⟩ | exact ⟨rfl, (HB2.out.drew).alloc _⟩
theorem l1Digits_any : ∀ (n : Nat), n ≤ 99999 → ∀ w : World, Calls Tryd.prog 31 #[.int .i64 n] w fun e w' => e = .returned (.string (mkB (Lib.decDigits n))) ∧ Ext w w' := by
  intro n
  induction n using Nat.strongRecOn with
  | _ n ih =>
    intro hn w
    by_cases h : n < 10
    · have h1 := l1Digits_digit (n : Int) w (by omega) (by omega)
      rw [Lib.decDigits_one h]
      exact h1
    · have h2 := l1Digits_step (n / 10) (n % 10) (by omega) (by omega) (by omega) w (fun wx => ih (n / 10) (by omega) (by omega) wx)
      rw [show 10 * (n / 10) + n % 10 = n from by omega] at h2
      exact h2
theorem digits_any (n : Int) (h0 : 0 ≤ n) (h1 : n ≤ 99999) (w : World) : Calls Tryd.prog 31 #[.int .i64 n] w fun e w' => e = .returned (.string (mkB (Lib.itoa n))) ∧ Ext w w' := by
  obtain ⟨m, rfl⟩ : ∃ m : Nat, n = (m : Int) := ⟨n.toNat, by omega⟩
  rw [Lib.itoa_nonneg]
  exact l1Digits_any m (by omega) w
end Go.Proofs.YtfgjodnjahhanaaDoor
