/- D11, in one text. -/
import Derived.Test.YtgfoliafpjhjcaaGreatDoorMX3
import Derived.Deep.RegionHeld3
/- draws: DrawSeqName. -/
namespace Go.Proofs.YtgfoliafpjhjcaaGreatDoor
open Go.RowKit
def nm5 (i : Nat) : ByteArray := match i with
  | 0 => ⟨#[97]⟩
  | 1 => ⟨#[108, 111, 99, 107]⟩
  | 2 => ⟨#[97, 98, 99, 100, 101, 102, 103]⟩
  | 3 => ⟨#[97, 98, 99, 100, 101, 102]⟩
  | _ => ⟨#[]⟩
theorem nm5_le (i : Nat) : (nm5 i).size ≤ 7 := by
  unfold nm5
  split <;> decide
/-- Block g holds the five names. -/
def FiveAt (W : World) (g : Nat) : Prop := g < W.heap.size ∧ ∀ i, i < 5 → W.cell? ⟨g, i, none⟩ = some (.string (nm5 i))
theorem five_new (W : World) (t : TypeId) : FiveAt (W.alloc (.cells #[.string ⟨#[97]⟩, .string ⟨#[108, 111, 99, 107]⟩, .string ⟨#[97, 98, 99, 100, 101, 102, 103]⟩, .string ⟨#[97, 98, 99, 100, 101, 102]⟩, .string ⟨#[]⟩] t)) W.heap.size := by
  refine ⟨by simp, fun i hi => ?_⟩
  match i, hi with
  | 0, _ => simp [nm5]
  | 1, _ => simp [nm5]
  | 2, _ => simp [nm5]
  | 3, _ => simp [nm5]
  | 4, _ => simp [nm5]
theorem FiveAt.upd {W W' : World} {g b : Nat} (h : FiveAt W g) (hu : Upd b W W') (hne : g ≠ b) : FiveAt W' g :=
  ⟨Nat.lt_of_lt_of_le h.1 hu.2.1, fun i hi => ((hu.at_ne g i hne h.1).1).trans (h.2 i hi)⟩
theorem FiveAt.alloc {W : World} {g : Nat} (h : FiveAt W g) (o : Obj) : FiveAt (W.alloc o) g :=
  ⟨by simp; have := h.1; omega, fun i hi => (World.cell?_alloc_lt _ _ _ h.1).trans (h.2 i hi)⟩
theorem nums5 (w : World) (x : Int) (t : TypeId) : NumsAt (w.alloc (.cells #[.int .i64 x, .int .i64 0, .int .i64 99, .int .i64 100, .int .i64 (-1)] t)) w.heap.size 0 [x, 0, 99, 100, -1] := by
  intro i u hu
  match i, hu with
  | 0, hu => cases hu; simp
  | 1, hu => cases hu; simp
  | 2, hu => cases hu; simp
  | 3, hu => cases hu; simp
  | 4, hu => cases hu; simp

set_option maxHeartbeats 8000000 in
set_option maxRecDepth 100000 in
theorem drawSeqName_any (cv : Value) (w : World) (hc : CodeOk w w.heap.size cv) :
    Calls Tryz.prog 16 #[cv] w fun e w' => ∃ (t : ByteArray) (n : Int), e = .returned (.tuple #[.string t, .int .i64 n]) ∧ t.size ≤ 7 ∧ Ext w w' := by
  have hc' := hc
  obtain ⟨ad, len, cap, rfl, hl, -⟩ := hc'
  have HC : Hid (CodeOk w w.heap.size (.slice ad len cap)) := hc
  clear hc
  go_enter Tryz.func16, Tryz.ntmps16
  go_wp2_with fail
  refine (source_any _ _ ad len cap rfl).mono ?_
  rintro e w1 ⟨rfl, hw⟩
  have HS1 : Hid (SrcAt w1 w.heap.size 0 (.slice ad len cap)) := by rw [hw]; exact src_new HC.out
  have HE1 : Hid (Ext w w1) := by rw [hw]; exact (Ext.refl _).alloc _
  clear hw
  go_wp2
  obtain ⟨u0, hu0⟩ : ∃ x, x = w1.drew := ⟨_, rfl⟩
  have HS0 : Hid (SrcAt u0 w.heap.size 0 (.slice ad len cap)) := by rw [hu0]; exact HS1.out.ext ((Ext.refl _).drew)
  have HE0 : Hid (Ext w u0) := by rw [hu0]; exact HE1.out.drew
  refine wp_region_held_drew (S := fun _ => True) (by kernel_rfl) trivial (fun hHeld => ?_)
  rw [← hu0]
  clear hu0 HS1 HE1
  refine wpAnyH_take (i := 1) (v := ?v1) rfl (by kernel_rfl) (by kernel_rfl) (by kernel_rfl) (fun _ _ _ h => h) (Or.inl ⟨by rfl, ?y1⟩) (by assumption) ?r1
  case y1 => (intro w' hSw; (try dsimp only at hSw); go_simp; try with_reducible rfl)
  (try simp only [Act.put])
  refine wpAnyH_take (i := 5) (v := ?v2) rfl (by kernel_rfl) (by kernel_rfl) (by kernel_rfl) (fun _ _ _ h => h) (Or.inl ⟨by rfl, ?y2⟩) (by assumption) ?r2
  case y2 => (intro w' hSw; (try dsimp only at hSw); go_simp; try with_reducible rfl)
  (try simp only [Act.put])
  refine wpAnyH_take (i := 6) (v := ?v3) rfl (by kernel_rfl) (by kernel_rfl) (by kernel_rfl) (fun _ _ _ h => h) (Or.inl ⟨by rfl, ?y3⟩) (by assumption) ?r3
  case y3 => (intro w' hSw; (try dsimp only at hSw); go_simp; try with_reducible rfl)
  (try simp only [Act.put])
  refine wpAnyH_ready (rs := [0, 2]) (by kernel_rfl) (by simp) (AllReadyH.cons rfl (fun K hK => ?_) (AllReadyH.cons rfl (fun K hK => ?_) AllReadyH.nil))
  · go_simp
    obtain ⟨u1, hu1⟩ : ∃ x, x = u0.alloc (.cells #[.string ⟨#[97]⟩, .string ⟨#[108, 111, 99, 107]⟩, .string ⟨#[97, 98, 99, 100, 101, 102, 103]⟩, .string ⟨#[97, 98, 99, 100, 101, 102]⟩, .string ⟨#[]⟩] 9) := ⟨_, rfl⟩
    obtain ⟨g1, hg1⟩ : ∃ x, x = u0.heap.size := ⟨_, rfl⟩
    have HS1 : Hid (SrcAt u1 w.heap.size 0 (.slice ad len cap)) := by rw [hu1]; exact HS0.out.alloc _
    have HE1 : Hid (Ext w u1) := by rw [hu1]; exact HE0.out.alloc _
    have HF1 : Hid (FiveAt u1 g1) := by rw [hu1, hg1]; exact five_new _ _
    have hb1 : g1 ≠ w.heap.size := by have := HS0.out.lt; omega
    rw [← hu1, ← hg1]
    clear hu1 hg1
    refine hK.out _ _ trivial (fun _ => ?_)
    clear hK K
    refine wpAnyH_ready (rs := [2]) (by kernel_rfl) (by simp) (AllReadyH.cons rfl (fun K hK => ?_) AllReadyH.nil)
    · go_simp
      refine (next_any w.heap.size 0 (.slice ad len cap) 5 _ HS1.out (by omega) (by omega) (by omega)).mono ?_
      rintro e u2 ⟨r, q2, rfl, hr0, hr1, hw⟩
      obtain ⟨i, rfl⟩ := Int.eq_ofNat_of_zero_le hr0
      have hi5 : i < 5 := by omega
      have HU2 : Hid (Upd w.heap.size u1 u2) := by rw [hw]; exact Upd.place _ _ _
      have HS2 : Hid (SrcAt u2 w.heap.size (0 + 1) (.slice ad len cap)) := by rw [hw]; exact HS1.out.place _ _
      have HE2 : Hid (Ext w u2) := HU2.out.to_ext HE1.out (Nat.le_refl _)
      clear hw
      have HF2 : Hid (FiveAt u2 g1) := HF1.out.upd HU2.out hb1
      refine hK.out _ _ trivial (fun _ => ?_)
      clear hK K
      refine wpAnyH_take (i := 3) (v := ?v4) rfl (by kernel_rfl) (by kernel_rfl) (by kernel_rfl) (fun _ _ _ h => h) (Or.inl ⟨by rfl, ?y4⟩) (by assumption) ?r4
      case y4 => (intro w' hSw; (try dsimp only at hSw); go_simp; try with_reducible rfl)
      (try simp only [Act.put])
      refine wpAnyH_ready (rs := [4, 7]) (by kernel_rfl) (by simp) (AllReadyH.cons rfl (fun K hK => ?_) (AllReadyH.cons rfl (fun K hK => ?_) AllReadyH.nil))
      · have hl3 := HF2.out.2 i hi5
        go_simp
        refine hK.out _ _ trivial (fun _ => ?_)
        clear hK K
        refine wpAnyH_ready (rs := [7]) (by kernel_rfl) (by simp) (AllReadyH.cons rfl (fun K hK => ?_) AllReadyH.nil)
        · go_simp
          refine (next_any w.heap.size 1 (.slice ad len cap) 100 _ HS2.out (by omega) (by omega) (by omega)).mono ?_
          rintro e u4 ⟨x, q4, rfl, hr0', hr1', hw⟩
          clear hr0' hr1'
          have HU4 : Hid (Upd w.heap.size u2 u4) := by rw [hw]; exact Upd.place _ _ _
          have HS4 : Hid (SrcAt u4 w.heap.size (1 + 1) (.slice ad len cap)) := by rw [hw]; exact HS2.out.place _ _
          have HE4 : Hid (Ext w u4) := HU4.out.to_ext HE2.out (Nat.le_refl _)
          clear hw
          have HF4 : Hid (FiveAt u4 g1) := HF2.out.upd HU4.out hb1
          refine hK.out _ _ trivial (fun _ => ?_)
          clear hK K
          refine wpAnyH_ready (rs := [8]) (by kernel_rfl) (by simp) (AllReadyH.cons rfl (fun K hK => ?_) AllReadyH.nil)
          · go_simp
            obtain ⟨u5, hu5⟩ : ∃ z, z = u4.alloc (.cells #[.int .i64 x, .int .i64 0, .int .i64 99, .int .i64 100, .int .i64 (-1)] 2) := ⟨_, rfl⟩
            obtain ⟨g5, hg5⟩ : ∃ z, z = u4.heap.size := ⟨_, rfl⟩
            have HS5 : Hid (SrcAt u5 w.heap.size 2 (.slice ad len cap)) := by rw [hu5]; exact HS4.out.alloc _
            have HE5 : Hid (Ext w u5) := by rw [hu5]; exact HE4.out.alloc _
            have HM5 : Hid (NumsAt u5 g5 0 [x, 0, 99, 100, -1] ∧ g5 < u5.heap.size) := by rw [hu5, hg5]; exact ⟨nums5 _ _ _, by simp⟩
            have hb5 : g5 ≠ w.heap.size := by have := HS4.out.lt; omega
            have HF5 : Hid (FiveAt u5 g1) := by rw [hu5]; exact HF4.out.alloc _
            rw [← hu5, ← hg5]
            clear hu5 hg5
            refine hK.out _ _ trivial (fun _ => ?_)
            clear hK K
            refine wpAnyH_ready (rs := [9]) (by kernel_rfl) (by simp) (AllReadyH.cons rfl (fun K hK => ?_) AllReadyH.nil)
            · go_simp
              refine (pick_any w.heap.size 2 g5 0 5 (.slice ad len cap) [x, 0, 99, 100, -1] _ HS5.out hb5 HM5.out.1 (by simp) (by simp) (by omega)).mono ?_
              rintro e u6 ⟨y, q6, rfl, hw⟩
              have HU6 : Hid (Upd w.heap.size u5 u6) := by rw [hw]; exact Upd.place _ _ _
              have HS6 : Hid (SrcAt u6 w.heap.size (2 + 1) (.slice ad len cap)) := by rw [hw]; exact HS5.out.place _ _
              have HE6 : Hid (Ext w u6) := HU6.out.to_ext HE5.out (Nat.le_refl _)
              clear hw
              have HF6 : Hid (FiveAt u6 g1) := HF5.out.upd HU6.out hb1
              refine hK.out _ _ trivial (fun _ => ?_)
              clear hK K
              refine wpAnyH_take (i := 10) (v := ?v5) rfl (by kernel_rfl) (by kernel_rfl) (by kernel_rfl) (fun _ _ _ h => h) (Or.inl ⟨by rfl, ?y5⟩) (by assumption) ?r5
              case y5 => (intro w' hSw; (try dsimp only at hSw); go_simp; try with_reducible rfl)
              (try simp only [Act.put])
              refine wpAnyH_take (i := 11) (v := ?v6) rfl (by kernel_rfl) (by kernel_rfl) (by kernel_rfl) (fun _ _ _ h => h) (Or.inl ⟨by rfl, ?y6⟩) (by assumption) ?r6
              case y6 => (intro w' hSw; (try dsimp only at hSw); go_simp; try with_reducible rfl)
              (try simp only [Act.put])
              refine wpAnyH_done (by kernel_rfl) ?_ _
              go_simp
              go_wp2
              exact bodyPost_ret (v := .tuple #[.string (nm5 i), .int .i64 y]) (by simp [results, Tryz.results16, go_sem]) rfl ⟨_, _, rfl, nm5_le i, HE6.out⟩
      · go_simp
        refine (next_any w.heap.size 1 (.slice ad len cap) 100 _ HS2.out (by omega) (by omega) (by omega)).mono ?_
        rintro e u7 ⟨x, q7, rfl, hr0', hr1', hw⟩
        clear hr0' hr1'
        have HU7 : Hid (Upd w.heap.size u2 u7) := by rw [hw]; exact Upd.place _ _ _
        have HS7 : Hid (SrcAt u7 w.heap.size (1 + 1) (.slice ad len cap)) := by rw [hw]; exact HS2.out.place _ _
        have HE7 : Hid (Ext w u7) := HU7.out.to_ext HE2.out (Nat.le_refl _)
        clear hw
        have HF7 : Hid (FiveAt u7 g1) := HF2.out.upd HU7.out hb1
        refine hK.out _ _ trivial (fun _ => ?_)
        clear hK K
        refine wpAnyH_ready (rs := [4, 8]) (by kernel_rfl) (by simp) (AllReadyH.cons rfl (fun K hK => ?_) (AllReadyH.cons rfl (fun K hK => ?_) AllReadyH.nil))
        · have hl8 := HF7.out.2 i hi5
          go_simp
          refine hK.out _ _ trivial (fun _ => ?_)
          clear hK K
          refine wpAnyH_ready (rs := [8]) (by kernel_rfl) (by simp) (AllReadyH.cons rfl (fun K hK => ?_) AllReadyH.nil)
          · go_simp
            obtain ⟨u9, hu9⟩ : ∃ z, z = u7.alloc (.cells #[.int .i64 x, .int .i64 0, .int .i64 99, .int .i64 100, .int .i64 (-1)] 2) := ⟨_, rfl⟩
            obtain ⟨g9, hg9⟩ : ∃ z, z = u7.heap.size := ⟨_, rfl⟩
            have HS9 : Hid (SrcAt u9 w.heap.size 2 (.slice ad len cap)) := by rw [hu9]; exact HS7.out.alloc _
            have HE9 : Hid (Ext w u9) := by rw [hu9]; exact HE7.out.alloc _
            have HM9 : Hid (NumsAt u9 g9 0 [x, 0, 99, 100, -1] ∧ g9 < u9.heap.size) := by rw [hu9, hg9]; exact ⟨nums5 _ _ _, by simp⟩
            have hb9 : g9 ≠ w.heap.size := by have := HS7.out.lt; omega
            have HF9 : Hid (FiveAt u9 g1) := by rw [hu9]; exact HF7.out.alloc _
            rw [← hu9, ← hg9]
            clear hu9 hg9
            refine hK.out _ _ trivial (fun _ => ?_)
            clear hK K
            refine wpAnyH_ready (rs := [9]) (by kernel_rfl) (by simp) (AllReadyH.cons rfl (fun K hK => ?_) AllReadyH.nil)
            · go_simp
              refine (pick_any w.heap.size 2 g9 0 5 (.slice ad len cap) [x, 0, 99, 100, -1] _ HS9.out hb9 HM9.out.1 (by simp) (by simp) (by omega)).mono ?_
              rintro e u10 ⟨y, q10, rfl, hw⟩
              have HU10 : Hid (Upd w.heap.size u9 u10) := by rw [hw]; exact Upd.place _ _ _
              have HS10 : Hid (SrcAt u10 w.heap.size (2 + 1) (.slice ad len cap)) := by rw [hw]; exact HS9.out.place _ _
              have HE10 : Hid (Ext w u10) := HU10.out.to_ext HE9.out (Nat.le_refl _)
              clear hw
              have HF10 : Hid (FiveAt u10 g1) := HF9.out.upd HU10.out hb1
              refine hK.out _ _ trivial (fun _ => ?_)
              clear hK K
              refine wpAnyH_take (i := 10) (v := ?v7) rfl (by kernel_rfl) (by kernel_rfl) (by kernel_rfl) (fun _ _ _ h => h) (Or.inl ⟨by rfl, ?y7⟩) (by assumption) ?r7
              case y7 => (intro w' hSw; (try dsimp only at hSw); go_simp; try with_reducible rfl)
              (try simp only [Act.put])
              refine wpAnyH_take (i := 11) (v := ?v8) rfl (by kernel_rfl) (by kernel_rfl) (by kernel_rfl) (fun _ _ _ h => h) (Or.inl ⟨by rfl, ?y8⟩) (by assumption) ?r8
              case y8 => (intro w' hSw; (try dsimp only at hSw); go_simp; try with_reducible rfl)
              (try simp only [Act.put])
              refine wpAnyH_done (by kernel_rfl) ?_ _
              go_simp
              go_wp2
              exact bodyPost_ret (v := .tuple #[.string (nm5 i), .int .i64 y]) (by simp [results, Tryz.results16, go_sem]) rfl ⟨_, _, rfl, nm5_le i, HE10.out⟩
        · go_simp
          obtain ⟨u11, hu11⟩ : ∃ z, z = u7.alloc (.cells #[.int .i64 x, .int .i64 0, .int .i64 99, .int .i64 100, .int .i64 (-1)] 2) := ⟨_, rfl⟩
          obtain ⟨g11, hg11⟩ : ∃ z, z = u7.heap.size := ⟨_, rfl⟩
          have HS11 : Hid (SrcAt u11 w.heap.size 2 (.slice ad len cap)) := by rw [hu11]; exact HS7.out.alloc _
          have HE11 : Hid (Ext w u11) := by rw [hu11]; exact HE7.out.alloc _
          have HM11 : Hid (NumsAt u11 g11 0 [x, 0, 99, 100, -1] ∧ g11 < u11.heap.size) := by rw [hu11, hg11]; exact ⟨nums5 _ _ _, by simp⟩
          have hb11 : g11 ≠ w.heap.size := by have := HS7.out.lt; omega
          have HF11 : Hid (FiveAt u11 g1) := by rw [hu11]; exact HF7.out.alloc _
          rw [← hu11, ← hg11]
          clear hu11 hg11
          refine hK.out _ _ trivial (fun _ => ?_)
          clear hK K
          refine wpAnyH_ready (rs := [4, 9]) (by kernel_rfl) (by simp) (AllReadyH.cons rfl (fun K hK => ?_) (AllReadyH.cons rfl (fun K hK => ?_) AllReadyH.nil))
          · have hl12 := HF11.out.2 i hi5
            go_simp
            refine hK.out _ _ trivial (fun _ => ?_)
            clear hK K
            refine wpAnyH_ready (rs := [9]) (by kernel_rfl) (by simp) (AllReadyH.cons rfl (fun K hK => ?_) AllReadyH.nil)
            · go_simp
              refine (pick_any w.heap.size 2 g11 0 5 (.slice ad len cap) [x, 0, 99, 100, -1] _ HS11.out hb11 HM11.out.1 (by simp) (by simp) (by omega)).mono ?_
              rintro e u13 ⟨y, q13, rfl, hw⟩
              have HU13 : Hid (Upd w.heap.size u11 u13) := by rw [hw]; exact Upd.place _ _ _
              have HS13 : Hid (SrcAt u13 w.heap.size (2 + 1) (.slice ad len cap)) := by rw [hw]; exact HS11.out.place _ _
              have HE13 : Hid (Ext w u13) := HU13.out.to_ext HE11.out (Nat.le_refl _)
              clear hw
              have HF13 : Hid (FiveAt u13 g1) := HF11.out.upd HU13.out hb1
              refine hK.out _ _ trivial (fun _ => ?_)
              clear hK K
              refine wpAnyH_take (i := 10) (v := ?v9) rfl (by kernel_rfl) (by kernel_rfl) (by kernel_rfl) (fun _ _ _ h => h) (Or.inl ⟨by rfl, ?y9⟩) (by assumption) ?r9
              case y9 => (intro w' hSw; (try dsimp only at hSw); go_simp; try with_reducible rfl)
              (try simp only [Act.put])
              refine wpAnyH_take (i := 11) (v := ?v10) rfl (by kernel_rfl) (by kernel_rfl) (by kernel_rfl) (fun _ _ _ h => h) (Or.inl ⟨by rfl, ?y10⟩) (by assumption) ?r10
              case y10 => (intro w' hSw; (try dsimp only at hSw); go_simp; try with_reducible rfl)
              (try simp only [Act.put])
              refine wpAnyH_done (by kernel_rfl) ?_ _
              go_simp
              go_wp2
              exact bodyPost_ret (v := .tuple #[.string (nm5 i), .int .i64 y]) (by simp [results, Tryz.results16, go_sem]) rfl ⟨_, _, rfl, nm5_le i, HE13.out⟩
          · go_simp
            refine (pick_any w.heap.size 2 g11 0 5 (.slice ad len cap) [x, 0, 99, 100, -1] _ HS11.out hb11 HM11.out.1 (by simp) (by simp) (by omega)).mono ?_
            rintro e u14 ⟨y, q14, rfl, hw⟩
            have HU14 : Hid (Upd w.heap.size u11 u14) := by rw [hw]; exact Upd.place _ _ _
            have HS14 : Hid (SrcAt u14 w.heap.size (2 + 1) (.slice ad len cap)) := by rw [hw]; exact HS11.out.place _ _
            have HE14 : Hid (Ext w u14) := HU14.out.to_ext HE11.out (Nat.le_refl _)
            clear hw
            have HF14 : Hid (FiveAt u14 g1) := HF11.out.upd HU14.out hb1
            refine hK.out _ _ trivial (fun _ => ?_)
            clear hK K
            refine wpAnyH_ready (rs := [4]) (by kernel_rfl) (by simp) (AllReadyH.cons rfl (fun K hK => ?_) AllReadyH.nil)
            · have hl15 := HF14.out.2 i hi5
              go_simp
              refine hK.out _ _ trivial (fun _ => ?_)
              clear hK K
              refine wpAnyH_take (i := 10) (v := ?v11) rfl (by kernel_rfl) (by kernel_rfl) (by kernel_rfl) (fun _ _ _ h => h) (Or.inl ⟨by rfl, ?y11⟩) (by assumption) ?r11
              case y11 => (intro w' hSw; (try dsimp only at hSw); go_simp; try with_reducible rfl)
              (try simp only [Act.put])
              refine wpAnyH_take (i := 11) (v := ?v12) rfl (by kernel_rfl) (by kernel_rfl) (by kernel_rfl) (fun _ _ _ h => h) (Or.inl ⟨by rfl, ?y12⟩) (by assumption) ?r12
              case y12 => (intro w' hSw; (try dsimp only at hSw); go_simp; try with_reducible rfl)
              (try simp only [Act.put])
              refine wpAnyH_done (by kernel_rfl) ?_ _
              go_simp
              go_wp2
              exact bodyPost_ret (v := .tuple #[.string (nm5 i), .int .i64 y]) (by simp [results, Tryz.results16, go_sem]) rfl ⟨_, _, rfl, nm5_le i, HE14.out⟩
  · go_simp
    refine (next_any w.heap.size 0 (.slice ad len cap) 5 _ HS0.out (by omega) (by omega) (by omega)).mono ?_
    rintro e u16 ⟨r, q16, rfl, hr0, hr1, hw⟩
    obtain ⟨i, rfl⟩ := Int.eq_ofNat_of_zero_le hr0
    have hi5 : i < 5 := by omega
    have HU16 : Hid (Upd w.heap.size u0 u16) := by rw [hw]; exact Upd.place _ _ _
    have HS16 : Hid (SrcAt u16 w.heap.size (0 + 1) (.slice ad len cap)) := by rw [hw]; exact HS0.out.place _ _
    have HE16 : Hid (Ext w u16) := HU16.out.to_ext HE0.out (Nat.le_refl _)
    clear hw
    refine hK.out _ _ trivial (fun _ => ?_)
    clear hK K
    refine wpAnyH_ready (rs := [0, 7]) (by kernel_rfl) (by simp) (AllReadyH.cons rfl (fun K hK => ?_) (AllReadyH.cons rfl (fun K hK => ?_) AllReadyH.nil))
    · go_simp
      obtain ⟨u17, hu17⟩ : ∃ x, x = u16.alloc (.cells #[.string ⟨#[97]⟩, .string ⟨#[108, 111, 99, 107]⟩, .string ⟨#[97, 98, 99, 100, 101, 102, 103]⟩, .string ⟨#[97, 98, 99, 100, 101, 102]⟩, .string ⟨#[]⟩] 9) := ⟨_, rfl⟩
      obtain ⟨g17, hg17⟩ : ∃ x, x = u16.heap.size := ⟨_, rfl⟩
      have HS17 : Hid (SrcAt u17 w.heap.size 1 (.slice ad len cap)) := by rw [hu17]; exact HS16.out.alloc _
      have HE17 : Hid (Ext w u17) := by rw [hu17]; exact HE16.out.alloc _
      have HF17 : Hid (FiveAt u17 g17) := by rw [hu17, hg17]; exact five_new _ _
      have hb17 : g17 ≠ w.heap.size := by have := HS16.out.lt; omega
      rw [← hu17, ← hg17]
      clear hu17 hg17
      refine hK.out _ _ trivial (fun _ => ?_)
      clear hK K
      refine wpAnyH_take (i := 3) (v := ?v13) rfl (by kernel_rfl) (by kernel_rfl) (by kernel_rfl) (fun _ _ _ h => h) (Or.inl ⟨by rfl, ?y13⟩) (by assumption) ?r13
      case y13 => (intro w' hSw; (try dsimp only at hSw); go_simp; try with_reducible rfl)
      (try simp only [Act.put])
      refine wpAnyH_ready (rs := [4, 7]) (by kernel_rfl) (by simp) (AllReadyH.cons rfl (fun K hK => ?_) (AllReadyH.cons rfl (fun K hK => ?_) AllReadyH.nil))
      · have hl18 := HF17.out.2 i hi5
        go_simp
        refine hK.out _ _ trivial (fun _ => ?_)
        clear hK K
        refine wpAnyH_ready (rs := [7]) (by kernel_rfl) (by simp) (AllReadyH.cons rfl (fun K hK => ?_) AllReadyH.nil)
        · go_simp
          refine (next_any w.heap.size 1 (.slice ad len cap) 100 _ HS17.out (by omega) (by omega) (by omega)).mono ?_
          rintro e u19 ⟨x, q19, rfl, hr0', hr1', hw⟩
          clear hr0' hr1'
          have HU19 : Hid (Upd w.heap.size u17 u19) := by rw [hw]; exact Upd.place _ _ _
          have HS19 : Hid (SrcAt u19 w.heap.size (1 + 1) (.slice ad len cap)) := by rw [hw]; exact HS17.out.place _ _
          have HE19 : Hid (Ext w u19) := HU19.out.to_ext HE17.out (Nat.le_refl _)
          clear hw
          have HF19 : Hid (FiveAt u19 g17) := HF17.out.upd HU19.out hb17
          refine hK.out _ _ trivial (fun _ => ?_)
          clear hK K
          refine wpAnyH_ready (rs := [8]) (by kernel_rfl) (by simp) (AllReadyH.cons rfl (fun K hK => ?_) AllReadyH.nil)
          · go_simp
            obtain ⟨u20, hu20⟩ : ∃ z, z = u19.alloc (.cells #[.int .i64 x, .int .i64 0, .int .i64 99, .int .i64 100, .int .i64 (-1)] 2) := ⟨_, rfl⟩
            obtain ⟨g20, hg20⟩ : ∃ z, z = u19.heap.size := ⟨_, rfl⟩
            have HS20 : Hid (SrcAt u20 w.heap.size 2 (.slice ad len cap)) := by rw [hu20]; exact HS19.out.alloc _
            have HE20 : Hid (Ext w u20) := by rw [hu20]; exact HE19.out.alloc _
            have HM20 : Hid (NumsAt u20 g20 0 [x, 0, 99, 100, -1] ∧ g20 < u20.heap.size) := by rw [hu20, hg20]; exact ⟨nums5 _ _ _, by simp⟩
            have hb20 : g20 ≠ w.heap.size := by have := HS19.out.lt; omega
            have HF20 : Hid (FiveAt u20 g17) := by rw [hu20]; exact HF19.out.alloc _
            rw [← hu20, ← hg20]
            clear hu20 hg20
            refine hK.out _ _ trivial (fun _ => ?_)
            clear hK K
            refine wpAnyH_ready (rs := [9]) (by kernel_rfl) (by simp) (AllReadyH.cons rfl (fun K hK => ?_) AllReadyH.nil)
            · go_simp
              refine (pick_any w.heap.size 2 g20 0 5 (.slice ad len cap) [x, 0, 99, 100, -1] _ HS20.out hb20 HM20.out.1 (by simp) (by simp) (by omega)).mono ?_
              rintro e u21 ⟨y, q21, rfl, hw⟩
              have HU21 : Hid (Upd w.heap.size u20 u21) := by rw [hw]; exact Upd.place _ _ _
              have HS21 : Hid (SrcAt u21 w.heap.size (2 + 1) (.slice ad len cap)) := by rw [hw]; exact HS20.out.place _ _
              have HE21 : Hid (Ext w u21) := HU21.out.to_ext HE20.out (Nat.le_refl _)
              clear hw
              have HF21 : Hid (FiveAt u21 g17) := HF20.out.upd HU21.out hb17
              refine hK.out _ _ trivial (fun _ => ?_)
              clear hK K
              refine wpAnyH_take (i := 10) (v := ?v14) rfl (by kernel_rfl) (by kernel_rfl) (by kernel_rfl) (fun _ _ _ h => h) (Or.inl ⟨by rfl, ?y14⟩) (by assumption) ?r14
              case y14 => (intro w' hSw; (try dsimp only at hSw); go_simp; try with_reducible rfl)
              (try simp only [Act.put])
              refine wpAnyH_take (i := 11) (v := ?v15) rfl (by kernel_rfl) (by kernel_rfl) (by kernel_rfl) (fun _ _ _ h => h) (Or.inl ⟨by rfl, ?y15⟩) (by assumption) ?r15
              case y15 => (intro w' hSw; (try dsimp only at hSw); go_simp; try with_reducible rfl)
              (try simp only [Act.put])
              refine wpAnyH_done (by kernel_rfl) ?_ _
              go_simp
              go_wp2
              exact bodyPost_ret (v := .tuple #[.string (nm5 i), .int .i64 y]) (by simp [results, Tryz.results16, go_sem]) rfl ⟨_, _, rfl, nm5_le i, HE21.out⟩
      · go_simp
        refine (next_any w.heap.size 1 (.slice ad len cap) 100 _ HS17.out (by omega) (by omega) (by omega)).mono ?_
        rintro e u22 ⟨x, q22, rfl, hr0', hr1', hw⟩
        clear hr0' hr1'
        have HU22 : Hid (Upd w.heap.size u17 u22) := by rw [hw]; exact Upd.place _ _ _
        have HS22 : Hid (SrcAt u22 w.heap.size (1 + 1) (.slice ad len cap)) := by rw [hw]; exact HS17.out.place _ _
        have HE22 : Hid (Ext w u22) := HU22.out.to_ext HE17.out (Nat.le_refl _)
        clear hw
        have HF22 : Hid (FiveAt u22 g17) := HF17.out.upd HU22.out hb17
        refine hK.out _ _ trivial (fun _ => ?_)
        clear hK K
        refine wpAnyH_ready (rs := [4, 8]) (by kernel_rfl) (by simp) (AllReadyH.cons rfl (fun K hK => ?_) (AllReadyH.cons rfl (fun K hK => ?_) AllReadyH.nil))
        · have hl23 := HF22.out.2 i hi5
          go_simp
          refine hK.out _ _ trivial (fun _ => ?_)
          clear hK K
          refine wpAnyH_ready (rs := [8]) (by kernel_rfl) (by simp) (AllReadyH.cons rfl (fun K hK => ?_) AllReadyH.nil)
          · go_simp
            obtain ⟨u24, hu24⟩ : ∃ z, z = u22.alloc (.cells #[.int .i64 x, .int .i64 0, .int .i64 99, .int .i64 100, .int .i64 (-1)] 2) := ⟨_, rfl⟩
            obtain ⟨g24, hg24⟩ : ∃ z, z = u22.heap.size := ⟨_, rfl⟩
            have HS24 : Hid (SrcAt u24 w.heap.size 2 (.slice ad len cap)) := by rw [hu24]; exact HS22.out.alloc _
            have HE24 : Hid (Ext w u24) := by rw [hu24]; exact HE22.out.alloc _
            have HM24 : Hid (NumsAt u24 g24 0 [x, 0, 99, 100, -1] ∧ g24 < u24.heap.size) := by rw [hu24, hg24]; exact ⟨nums5 _ _ _, by simp⟩
            have hb24 : g24 ≠ w.heap.size := by have := HS22.out.lt; omega
            have HF24 : Hid (FiveAt u24 g17) := by rw [hu24]; exact HF22.out.alloc _
            rw [← hu24, ← hg24]
            clear hu24 hg24
            refine hK.out _ _ trivial (fun _ => ?_)
            clear hK K
            refine wpAnyH_ready (rs := [9]) (by kernel_rfl) (by simp) (AllReadyH.cons rfl (fun K hK => ?_) AllReadyH.nil)
            · go_simp
              refine (pick_any w.heap.size 2 g24 0 5 (.slice ad len cap) [x, 0, 99, 100, -1] _ HS24.out hb24 HM24.out.1 (by simp) (by simp) (by omega)).mono ?_
              rintro e u25 ⟨y, q25, rfl, hw⟩
              have HU25 : Hid (Upd w.heap.size u24 u25) := by rw [hw]; exact Upd.place _ _ _
              have HS25 : Hid (SrcAt u25 w.heap.size (2 + 1) (.slice ad len cap)) := by rw [hw]; exact HS24.out.place _ _
              have HE25 : Hid (Ext w u25) := HU25.out.to_ext HE24.out (Nat.le_refl _)
              clear hw
              have HF25 : Hid (FiveAt u25 g17) := HF24.out.upd HU25.out hb17
              refine hK.out _ _ trivial (fun _ => ?_)
              clear hK K
              refine wpAnyH_take (i := 10) (v := ?v16) rfl (by kernel_rfl) (by kernel_rfl) (by kernel_rfl) (fun _ _ _ h => h) (Or.inl ⟨by rfl, ?y16⟩) (by assumption) ?r16
              case y16 => (intro w' hSw; (try dsimp only at hSw); go_simp; try with_reducible rfl)
              (try simp only [Act.put])
              refine wpAnyH_take (i := 11) (v := ?v17) rfl (by kernel_rfl) (by kernel_rfl) (by kernel_rfl) (fun _ _ _ h => h) (Or.inl ⟨by rfl, ?y17⟩) (by assumption) ?r17
              case y17 => (intro w' hSw; (try dsimp only at hSw); go_simp; try with_reducible rfl)
              (try simp only [Act.put])
              refine wpAnyH_done (by kernel_rfl) ?_ _
              go_simp
              go_wp2
              exact bodyPost_ret (v := .tuple #[.string (nm5 i), .int .i64 y]) (by simp [results, Tryz.results16, go_sem]) rfl ⟨_, _, rfl, nm5_le i, HE25.out⟩
        · go_simp
          obtain ⟨u26, hu26⟩ : ∃ z, z = u22.alloc (.cells #[.int .i64 x, .int .i64 0, .int .i64 99, .int .i64 100, .int .i64 (-1)] 2) := ⟨_, rfl⟩
          obtain ⟨g26, hg26⟩ : ∃ z, z = u22.heap.size := ⟨_, rfl⟩
          have HS26 : Hid (SrcAt u26 w.heap.size 2 (.slice ad len cap)) := by rw [hu26]; exact HS22.out.alloc _
          have HE26 : Hid (Ext w u26) := by rw [hu26]; exact HE22.out.alloc _
          have HM26 : Hid (NumsAt u26 g26 0 [x, 0, 99, 100, -1] ∧ g26 < u26.heap.size) := by rw [hu26, hg26]; exact ⟨nums5 _ _ _, by simp⟩
          have hb26 : g26 ≠ w.heap.size := by have := HS22.out.lt; omega
          have HF26 : Hid (FiveAt u26 g17) := by rw [hu26]; exact HF22.out.alloc _
          rw [← hu26, ← hg26]
          clear hu26 hg26
          refine hK.out _ _ trivial (fun _ => ?_)
          clear hK K
          refine wpAnyH_ready (rs := [4, 9]) (by kernel_rfl) (by simp) (AllReadyH.cons rfl (fun K hK => ?_) (AllReadyH.cons rfl (fun K hK => ?_) AllReadyH.nil))
          · have hl27 := HF26.out.2 i hi5
            go_simp
            refine hK.out _ _ trivial (fun _ => ?_)
            clear hK K
            refine wpAnyH_ready (rs := [9]) (by kernel_rfl) (by simp) (AllReadyH.cons rfl (fun K hK => ?_) AllReadyH.nil)
            · go_simp
              refine (pick_any w.heap.size 2 g26 0 5 (.slice ad len cap) [x, 0, 99, 100, -1] _ HS26.out hb26 HM26.out.1 (by simp) (by simp) (by omega)).mono ?_
              rintro e u28 ⟨y, q28, rfl, hw⟩
              have HU28 : Hid (Upd w.heap.size u26 u28) := by rw [hw]; exact Upd.place _ _ _
              have HS28 : Hid (SrcAt u28 w.heap.size (2 + 1) (.slice ad len cap)) := by rw [hw]; exact HS26.out.place _ _
              have HE28 : Hid (Ext w u28) := HU28.out.to_ext HE26.out (Nat.le_refl _)
              clear hw
              have HF28 : Hid (FiveAt u28 g17) := HF26.out.upd HU28.out hb17
              refine hK.out _ _ trivial (fun _ => ?_)
              clear hK K
              refine wpAnyH_take (i := 10) (v := ?v18) rfl (by kernel_rfl) (by kernel_rfl) (by kernel_rfl) (fun _ _ _ h => h) (Or.inl ⟨by rfl, ?y18⟩) (by assumption) ?r18
              case y18 => (intro w' hSw; (try dsimp only at hSw); go_simp; try with_reducible rfl)
              (try simp only [Act.put])
              refine wpAnyH_take (i := 11) (v := ?v19) rfl (by kernel_rfl) (by kernel_rfl) (by kernel_rfl) (fun _ _ _ h => h) (Or.inl ⟨by rfl, ?y19⟩) (by assumption) ?r19
              case y19 => (intro w' hSw; (try dsimp only at hSw); go_simp; try with_reducible rfl)
              (try simp only [Act.put])
              refine wpAnyH_done (by kernel_rfl) ?_ _
              go_simp
              go_wp2
              exact bodyPost_ret (v := .tuple #[.string (nm5 i), .int .i64 y]) (by simp [results, Tryz.results16, go_sem]) rfl ⟨_, _, rfl, nm5_le i, HE28.out⟩
          · go_simp
            refine (pick_any w.heap.size 2 g26 0 5 (.slice ad len cap) [x, 0, 99, 100, -1] _ HS26.out hb26 HM26.out.1 (by simp) (by simp) (by omega)).mono ?_
            rintro e u29 ⟨y, q29, rfl, hw⟩
            have HU29 : Hid (Upd w.heap.size u26 u29) := by rw [hw]; exact Upd.place _ _ _
            have HS29 : Hid (SrcAt u29 w.heap.size (2 + 1) (.slice ad len cap)) := by rw [hw]; exact HS26.out.place _ _
            have HE29 : Hid (Ext w u29) := HU29.out.to_ext HE26.out (Nat.le_refl _)
            clear hw
            have HF29 : Hid (FiveAt u29 g17) := HF26.out.upd HU29.out hb17
            refine hK.out _ _ trivial (fun _ => ?_)
            clear hK K
            refine wpAnyH_ready (rs := [4]) (by kernel_rfl) (by simp) (AllReadyH.cons rfl (fun K hK => ?_) AllReadyH.nil)
            · have hl30 := HF29.out.2 i hi5
              go_simp
              refine hK.out _ _ trivial (fun _ => ?_)
              clear hK K
              refine wpAnyH_take (i := 10) (v := ?v20) rfl (by kernel_rfl) (by kernel_rfl) (by kernel_rfl) (fun _ _ _ h => h) (Or.inl ⟨by rfl, ?y20⟩) (by assumption) ?r20
              case y20 => (intro w' hSw; (try dsimp only at hSw); go_simp; try with_reducible rfl)
              (try simp only [Act.put])
              refine wpAnyH_take (i := 11) (v := ?v21) rfl (by kernel_rfl) (by kernel_rfl) (by kernel_rfl) (fun _ _ _ h => h) (Or.inl ⟨by rfl, ?y21⟩) (by assumption) ?r21
              case y21 => (intro w' hSw; (try dsimp only at hSw); go_simp; try with_reducible rfl)
              (try simp only [Act.put])
              refine wpAnyH_done (by kernel_rfl) ?_ _
              go_simp
              go_wp2
              exact bodyPost_ret (v := .tuple #[.string (nm5 i), .int .i64 y]) (by simp [results, Tryz.results16, go_sem]) rfl ⟨_, _, rfl, nm5_le i, HE29.out⟩
    · go_simp
      refine (next_any w.heap.size 1 (.slice ad len cap) 100 _ HS16.out (by omega) (by omega) (by omega)).mono ?_
      rintro e u31 ⟨x, q31, rfl, hr0', hr1', hw⟩
      clear hr0' hr1'
      have HU31 : Hid (Upd w.heap.size u16 u31) := by rw [hw]; exact Upd.place _ _ _
      have HS31 : Hid (SrcAt u31 w.heap.size (1 + 1) (.slice ad len cap)) := by rw [hw]; exact HS16.out.place _ _
      have HE31 : Hid (Ext w u31) := HU31.out.to_ext HE16.out (Nat.le_refl _)
      clear hw
      refine hK.out _ _ trivial (fun _ => ?_)
      clear hK K
      refine wpAnyH_ready (rs := [0, 8]) (by kernel_rfl) (by simp) (AllReadyH.cons rfl (fun K hK => ?_) (AllReadyH.cons rfl (fun K hK => ?_) AllReadyH.nil))
      · go_simp
        obtain ⟨u32, hu32⟩ : ∃ x, x = u31.alloc (.cells #[.string ⟨#[97]⟩, .string ⟨#[108, 111, 99, 107]⟩, .string ⟨#[97, 98, 99, 100, 101, 102, 103]⟩, .string ⟨#[97, 98, 99, 100, 101, 102]⟩, .string ⟨#[]⟩] 9) := ⟨_, rfl⟩
        obtain ⟨g32, hg32⟩ : ∃ x, x = u31.heap.size := ⟨_, rfl⟩
        have HS32 : Hid (SrcAt u32 w.heap.size 2 (.slice ad len cap)) := by rw [hu32]; exact HS31.out.alloc _
        have HE32 : Hid (Ext w u32) := by rw [hu32]; exact HE31.out.alloc _
        have HF32 : Hid (FiveAt u32 g32) := by rw [hu32, hg32]; exact five_new _ _
        have hb32 : g32 ≠ w.heap.size := by have := HS31.out.lt; omega
        rw [← hu32, ← hg32]
        clear hu32 hg32
        refine hK.out _ _ trivial (fun _ => ?_)
        clear hK K
        refine wpAnyH_take (i := 3) (v := ?v22) rfl (by kernel_rfl) (by kernel_rfl) (by kernel_rfl) (fun _ _ _ h => h) (Or.inl ⟨by rfl, ?y22⟩) (by assumption) ?r22
        case y22 => (intro w' hSw; (try dsimp only at hSw); go_simp; try with_reducible rfl)
        (try simp only [Act.put])
        refine wpAnyH_ready (rs := [4, 8]) (by kernel_rfl) (by simp) (AllReadyH.cons rfl (fun K hK => ?_) (AllReadyH.cons rfl (fun K hK => ?_) AllReadyH.nil))
        · have hl33 := HF32.out.2 i hi5
          go_simp
          refine hK.out _ _ trivial (fun _ => ?_)
          clear hK K
          refine wpAnyH_ready (rs := [8]) (by kernel_rfl) (by simp) (AllReadyH.cons rfl (fun K hK => ?_) AllReadyH.nil)
          · go_simp
            obtain ⟨u34, hu34⟩ : ∃ z, z = u32.alloc (.cells #[.int .i64 x, .int .i64 0, .int .i64 99, .int .i64 100, .int .i64 (-1)] 2) := ⟨_, rfl⟩
            obtain ⟨g34, hg34⟩ : ∃ z, z = u32.heap.size := ⟨_, rfl⟩
            have HS34 : Hid (SrcAt u34 w.heap.size 2 (.slice ad len cap)) := by rw [hu34]; exact HS32.out.alloc _
            have HE34 : Hid (Ext w u34) := by rw [hu34]; exact HE32.out.alloc _
            have HM34 : Hid (NumsAt u34 g34 0 [x, 0, 99, 100, -1] ∧ g34 < u34.heap.size) := by rw [hu34, hg34]; exact ⟨nums5 _ _ _, by simp⟩
            have hb34 : g34 ≠ w.heap.size := by have := HS32.out.lt; omega
            have HF34 : Hid (FiveAt u34 g32) := by rw [hu34]; exact HF32.out.alloc _
            rw [← hu34, ← hg34]
            clear hu34 hg34
            refine hK.out _ _ trivial (fun _ => ?_)
            clear hK K
            refine wpAnyH_ready (rs := [9]) (by kernel_rfl) (by simp) (AllReadyH.cons rfl (fun K hK => ?_) AllReadyH.nil)
            · go_simp
              refine (pick_any w.heap.size 2 g34 0 5 (.slice ad len cap) [x, 0, 99, 100, -1] _ HS34.out hb34 HM34.out.1 (by simp) (by simp) (by omega)).mono ?_
              rintro e u35 ⟨y, q35, rfl, hw⟩
              have HU35 : Hid (Upd w.heap.size u34 u35) := by rw [hw]; exact Upd.place _ _ _
              have HS35 : Hid (SrcAt u35 w.heap.size (2 + 1) (.slice ad len cap)) := by rw [hw]; exact HS34.out.place _ _
              have HE35 : Hid (Ext w u35) := HU35.out.to_ext HE34.out (Nat.le_refl _)
              clear hw
              have HF35 : Hid (FiveAt u35 g32) := HF34.out.upd HU35.out hb32
              refine hK.out _ _ trivial (fun _ => ?_)
              clear hK K
              refine wpAnyH_take (i := 10) (v := ?v23) rfl (by kernel_rfl) (by kernel_rfl) (by kernel_rfl) (fun _ _ _ h => h) (Or.inl ⟨by rfl, ?y23⟩) (by assumption) ?r23
              case y23 => (intro w' hSw; (try dsimp only at hSw); go_simp; try with_reducible rfl)
              (try simp only [Act.put])
              refine wpAnyH_take (i := 11) (v := ?v24) rfl (by kernel_rfl) (by kernel_rfl) (by kernel_rfl) (fun _ _ _ h => h) (Or.inl ⟨by rfl, ?y24⟩) (by assumption) ?r24
              case y24 => (intro w' hSw; (try dsimp only at hSw); go_simp; try with_reducible rfl)
              (try simp only [Act.put])
              refine wpAnyH_done (by kernel_rfl) ?_ _
              go_simp
              go_wp2
              exact bodyPost_ret (v := .tuple #[.string (nm5 i), .int .i64 y]) (by simp [results, Tryz.results16, go_sem]) rfl ⟨_, _, rfl, nm5_le i, HE35.out⟩
        · go_simp
          obtain ⟨u36, hu36⟩ : ∃ z, z = u32.alloc (.cells #[.int .i64 x, .int .i64 0, .int .i64 99, .int .i64 100, .int .i64 (-1)] 2) := ⟨_, rfl⟩
          obtain ⟨g36, hg36⟩ : ∃ z, z = u32.heap.size := ⟨_, rfl⟩
          have HS36 : Hid (SrcAt u36 w.heap.size 2 (.slice ad len cap)) := by rw [hu36]; exact HS32.out.alloc _
          have HE36 : Hid (Ext w u36) := by rw [hu36]; exact HE32.out.alloc _
          have HM36 : Hid (NumsAt u36 g36 0 [x, 0, 99, 100, -1] ∧ g36 < u36.heap.size) := by rw [hu36, hg36]; exact ⟨nums5 _ _ _, by simp⟩
          have hb36 : g36 ≠ w.heap.size := by have := HS32.out.lt; omega
          have HF36 : Hid (FiveAt u36 g32) := by rw [hu36]; exact HF32.out.alloc _
          rw [← hu36, ← hg36]
          clear hu36 hg36
          refine hK.out _ _ trivial (fun _ => ?_)
          clear hK K
          refine wpAnyH_ready (rs := [4, 9]) (by kernel_rfl) (by simp) (AllReadyH.cons rfl (fun K hK => ?_) (AllReadyH.cons rfl (fun K hK => ?_) AllReadyH.nil))
          · have hl37 := HF36.out.2 i hi5
            go_simp
            refine hK.out _ _ trivial (fun _ => ?_)
            clear hK K
            refine wpAnyH_ready (rs := [9]) (by kernel_rfl) (by simp) (AllReadyH.cons rfl (fun K hK => ?_) AllReadyH.nil)
            · go_simp
              refine (pick_any w.heap.size 2 g36 0 5 (.slice ad len cap) [x, 0, 99, 100, -1] _ HS36.out hb36 HM36.out.1 (by simp) (by simp) (by omega)).mono ?_
              rintro e u38 ⟨y, q38, rfl, hw⟩
              have HU38 : Hid (Upd w.heap.size u36 u38) := by rw [hw]; exact Upd.place _ _ _
              have HS38 : Hid (SrcAt u38 w.heap.size (2 + 1) (.slice ad len cap)) := by rw [hw]; exact HS36.out.place _ _
              have HE38 : Hid (Ext w u38) := HU38.out.to_ext HE36.out (Nat.le_refl _)
              clear hw
              have HF38 : Hid (FiveAt u38 g32) := HF36.out.upd HU38.out hb32
              refine hK.out _ _ trivial (fun _ => ?_)
              clear hK K
              refine wpAnyH_take (i := 10) (v := ?v25) rfl (by kernel_rfl) (by kernel_rfl) (by kernel_rfl) (fun _ _ _ h => h) (Or.inl ⟨by rfl, ?y25⟩) (by assumption) ?r25
              case y25 => (intro w' hSw; (try dsimp only at hSw); go_simp; try with_reducible rfl)
              (try simp only [Act.put])
              refine wpAnyH_take (i := 11) (v := ?v26) rfl (by kernel_rfl) (by kernel_rfl) (by kernel_rfl) (fun _ _ _ h => h) (Or.inl ⟨by rfl, ?y26⟩) (by assumption) ?r26
              case y26 => (intro w' hSw; (try dsimp only at hSw); go_simp; try with_reducible rfl)
              (try simp only [Act.put])
              refine wpAnyH_done (by kernel_rfl) ?_ _
              go_simp
              go_wp2
              exact bodyPost_ret (v := .tuple #[.string (nm5 i), .int .i64 y]) (by simp [results, Tryz.results16, go_sem]) rfl ⟨_, _, rfl, nm5_le i, HE38.out⟩
          · go_simp
            refine (pick_any w.heap.size 2 g36 0 5 (.slice ad len cap) [x, 0, 99, 100, -1] _ HS36.out hb36 HM36.out.1 (by simp) (by simp) (by omega)).mono ?_
            rintro e u39 ⟨y, q39, rfl, hw⟩
            have HU39 : Hid (Upd w.heap.size u36 u39) := by rw [hw]; exact Upd.place _ _ _
            have HS39 : Hid (SrcAt u39 w.heap.size (2 + 1) (.slice ad len cap)) := by rw [hw]; exact HS36.out.place _ _
            have HE39 : Hid (Ext w u39) := HU39.out.to_ext HE36.out (Nat.le_refl _)
            clear hw
            have HF39 : Hid (FiveAt u39 g32) := HF36.out.upd HU39.out hb32
            refine hK.out _ _ trivial (fun _ => ?_)
            clear hK K
            refine wpAnyH_ready (rs := [4]) (by kernel_rfl) (by simp) (AllReadyH.cons rfl (fun K hK => ?_) AllReadyH.nil)
            · have hl40 := HF39.out.2 i hi5
              go_simp
              refine hK.out _ _ trivial (fun _ => ?_)
              clear hK K
              refine wpAnyH_take (i := 10) (v := ?v27) rfl (by kernel_rfl) (by kernel_rfl) (by kernel_rfl) (fun _ _ _ h => h) (Or.inl ⟨by rfl, ?y27⟩) (by assumption) ?r27
              case y27 => (intro w' hSw; (try dsimp only at hSw); go_simp; try with_reducible rfl)
              (try simp only [Act.put])
              refine wpAnyH_take (i := 11) (v := ?v28) rfl (by kernel_rfl) (by kernel_rfl) (by kernel_rfl) (fun _ _ _ h => h) (Or.inl ⟨by rfl, ?y28⟩) (by assumption) ?r28
              case y28 => (intro w' hSw; (try dsimp only at hSw); go_simp; try with_reducible rfl)
              (try simp only [Act.put])
              refine wpAnyH_done (by kernel_rfl) ?_ _
              go_simp
              go_wp2
              exact bodyPost_ret (v := .tuple #[.string (nm5 i), .int .i64 y]) (by simp [results, Tryz.results16, go_sem]) rfl ⟨_, _, rfl, nm5_le i, HE39.out⟩
      · go_simp
        obtain ⟨u41, hu41⟩ : ∃ z, z = u31.alloc (.cells #[.int .i64 x, .int .i64 0, .int .i64 99, .int .i64 100, .int .i64 (-1)] 2) := ⟨_, rfl⟩
        obtain ⟨g41, hg41⟩ : ∃ z, z = u31.heap.size := ⟨_, rfl⟩
        have HS41 : Hid (SrcAt u41 w.heap.size 2 (.slice ad len cap)) := by rw [hu41]; exact HS31.out.alloc _
        have HE41 : Hid (Ext w u41) := by rw [hu41]; exact HE31.out.alloc _
        have HM41 : Hid (NumsAt u41 g41 0 [x, 0, 99, 100, -1] ∧ g41 < u41.heap.size) := by rw [hu41, hg41]; exact ⟨nums5 _ _ _, by simp⟩
        have hb41 : g41 ≠ w.heap.size := by have := HS31.out.lt; omega
        rw [← hu41, ← hg41]
        clear hu41 hg41
        refine hK.out _ _ trivial (fun _ => ?_)
        clear hK K
        refine wpAnyH_ready (rs := [0, 9]) (by kernel_rfl) (by simp) (AllReadyH.cons rfl (fun K hK => ?_) (AllReadyH.cons rfl (fun K hK => ?_) AllReadyH.nil))
        · go_simp
          obtain ⟨u42, hu42⟩ : ∃ x, x = u41.alloc (.cells #[.string ⟨#[97]⟩, .string ⟨#[108, 111, 99, 107]⟩, .string ⟨#[97, 98, 99, 100, 101, 102, 103]⟩, .string ⟨#[97, 98, 99, 100, 101, 102]⟩, .string ⟨#[]⟩] 9) := ⟨_, rfl⟩
          obtain ⟨g42, hg42⟩ : ∃ x, x = u41.heap.size := ⟨_, rfl⟩
          have HS42 : Hid (SrcAt u42 w.heap.size 2 (.slice ad len cap)) := by rw [hu42]; exact HS41.out.alloc _
          have HE42 : Hid (Ext w u42) := by rw [hu42]; exact HE41.out.alloc _
          have HF42 : Hid (FiveAt u42 g42) := by rw [hu42, hg42]; exact five_new _ _
          have hb42 : g42 ≠ w.heap.size := by have := HS41.out.lt; omega
          have HM42 : Hid (NumsAt u42 g41 0 [x, 0, 99, 100, -1] ∧ g41 < u42.heap.size) := by rw [hu42]; exact ⟨fun i u hu => (World.cell?_alloc_lt _ _ _ HM41.out.2).trans (HM41.out.1 i u hu), by simp; have := HM41.out.2; omega⟩
          rw [← hu42, ← hg42]
          clear hu42 hg42
          refine hK.out _ _ trivial (fun _ => ?_)
          clear hK K
          refine wpAnyH_take (i := 3) (v := ?v29) rfl (by kernel_rfl) (by kernel_rfl) (by kernel_rfl) (fun _ _ _ h => h) (Or.inl ⟨by rfl, ?y29⟩) (by assumption) ?r29
          case y29 => (intro w' hSw; (try dsimp only at hSw); go_simp; try with_reducible rfl)
          (try simp only [Act.put])
          refine wpAnyH_ready (rs := [4, 9]) (by kernel_rfl) (by simp) (AllReadyH.cons rfl (fun K hK => ?_) (AllReadyH.cons rfl (fun K hK => ?_) AllReadyH.nil))
          · have hl43 := HF42.out.2 i hi5
            go_simp
            refine hK.out _ _ trivial (fun _ => ?_)
            clear hK K
            refine wpAnyH_ready (rs := [9]) (by kernel_rfl) (by simp) (AllReadyH.cons rfl (fun K hK => ?_) AllReadyH.nil)
            · go_simp
              refine (pick_any w.heap.size 2 g41 0 5 (.slice ad len cap) [x, 0, 99, 100, -1] _ HS42.out hb41 HM42.out.1 (by simp) (by simp) (by omega)).mono ?_
              rintro e u44 ⟨y, q44, rfl, hw⟩
              have HU44 : Hid (Upd w.heap.size u42 u44) := by rw [hw]; exact Upd.place _ _ _
              have HS44 : Hid (SrcAt u44 w.heap.size (2 + 1) (.slice ad len cap)) := by rw [hw]; exact HS42.out.place _ _
              have HE44 : Hid (Ext w u44) := HU44.out.to_ext HE42.out (Nat.le_refl _)
              clear hw
              have HF44 : Hid (FiveAt u44 g42) := HF42.out.upd HU44.out hb42
              refine hK.out _ _ trivial (fun _ => ?_)
              clear hK K
              refine wpAnyH_take (i := 10) (v := ?v30) rfl (by kernel_rfl) (by kernel_rfl) (by kernel_rfl) (fun _ _ _ h => h) (Or.inl ⟨by rfl, ?y30⟩) (by assumption) ?r30
              case y30 => (intro w' hSw; (try dsimp only at hSw); go_simp; try with_reducible rfl)
              (try simp only [Act.put])
              refine wpAnyH_take (i := 11) (v := ?v31) rfl (by kernel_rfl) (by kernel_rfl) (by kernel_rfl) (fun _ _ _ h => h) (Or.inl ⟨by rfl, ?y31⟩) (by assumption) ?r31
              case y31 => (intro w' hSw; (try dsimp only at hSw); go_simp; try with_reducible rfl)
              (try simp only [Act.put])
              refine wpAnyH_done (by kernel_rfl) ?_ _
              go_simp
              go_wp2
              exact bodyPost_ret (v := .tuple #[.string (nm5 i), .int .i64 y]) (by simp [results, Tryz.results16, go_sem]) rfl ⟨_, _, rfl, nm5_le i, HE44.out⟩
          · go_simp
            refine (pick_any w.heap.size 2 g41 0 5 (.slice ad len cap) [x, 0, 99, 100, -1] _ HS42.out hb41 HM42.out.1 (by simp) (by simp) (by omega)).mono ?_
            rintro e u45 ⟨y, q45, rfl, hw⟩
            have HU45 : Hid (Upd w.heap.size u42 u45) := by rw [hw]; exact Upd.place _ _ _
            have HS45 : Hid (SrcAt u45 w.heap.size (2 + 1) (.slice ad len cap)) := by rw [hw]; exact HS42.out.place _ _
            have HE45 : Hid (Ext w u45) := HU45.out.to_ext HE42.out (Nat.le_refl _)
            clear hw
            have HF45 : Hid (FiveAt u45 g42) := HF42.out.upd HU45.out hb42
            refine hK.out _ _ trivial (fun _ => ?_)
            clear hK K
            refine wpAnyH_ready (rs := [4]) (by kernel_rfl) (by simp) (AllReadyH.cons rfl (fun K hK => ?_) AllReadyH.nil)
            · have hl46 := HF45.out.2 i hi5
              go_simp
              refine hK.out _ _ trivial (fun _ => ?_)
              clear hK K
              refine wpAnyH_take (i := 10) (v := ?v32) rfl (by kernel_rfl) (by kernel_rfl) (by kernel_rfl) (fun _ _ _ h => h) (Or.inl ⟨by rfl, ?y32⟩) (by assumption) ?r32
              case y32 => (intro w' hSw; (try dsimp only at hSw); go_simp; try with_reducible rfl)
              (try simp only [Act.put])
              refine wpAnyH_take (i := 11) (v := ?v33) rfl (by kernel_rfl) (by kernel_rfl) (by kernel_rfl) (fun _ _ _ h => h) (Or.inl ⟨by rfl, ?y33⟩) (by assumption) ?r33
              case y33 => (intro w' hSw; (try dsimp only at hSw); go_simp; try with_reducible rfl)
              (try simp only [Act.put])
              refine wpAnyH_done (by kernel_rfl) ?_ _
              go_simp
              go_wp2
              exact bodyPost_ret (v := .tuple #[.string (nm5 i), .int .i64 y]) (by simp [results, Tryz.results16, go_sem]) rfl ⟨_, _, rfl, nm5_le i, HE45.out⟩
        · go_simp
          refine (pick_any w.heap.size 2 g41 0 5 (.slice ad len cap) [x, 0, 99, 100, -1] _ HS41.out hb41 HM41.out.1 (by simp) (by simp) (by omega)).mono ?_
          rintro e u47 ⟨y, q47, rfl, hw⟩
          have HU47 : Hid (Upd w.heap.size u41 u47) := by rw [hw]; exact Upd.place _ _ _
          have HS47 : Hid (SrcAt u47 w.heap.size (2 + 1) (.slice ad len cap)) := by rw [hw]; exact HS41.out.place _ _
          have HE47 : Hid (Ext w u47) := HU47.out.to_ext HE41.out (Nat.le_refl _)
          clear hw
          refine hK.out _ _ trivial (fun _ => ?_)
          clear hK K
          refine wpAnyH_ready (rs := [0]) (by kernel_rfl) (by simp) (AllReadyH.cons rfl (fun K hK => ?_) AllReadyH.nil)
          · go_simp
            obtain ⟨u48, hu48⟩ : ∃ x, x = u47.alloc (.cells #[.string ⟨#[97]⟩, .string ⟨#[108, 111, 99, 107]⟩, .string ⟨#[97, 98, 99, 100, 101, 102, 103]⟩, .string ⟨#[97, 98, 99, 100, 101, 102]⟩, .string ⟨#[]⟩] 9) := ⟨_, rfl⟩
            obtain ⟨g48, hg48⟩ : ∃ x, x = u47.heap.size := ⟨_, rfl⟩
            have HS48 : Hid (SrcAt u48 w.heap.size 3 (.slice ad len cap)) := by rw [hu48]; exact HS47.out.alloc _
            have HE48 : Hid (Ext w u48) := by rw [hu48]; exact HE47.out.alloc _
            have HF48 : Hid (FiveAt u48 g48) := by rw [hu48, hg48]; exact five_new _ _
            have hb48 : g48 ≠ w.heap.size := by have := HS47.out.lt; omega
            rw [← hu48, ← hg48]
            clear hu48 hg48
            refine hK.out _ _ trivial (fun _ => ?_)
            clear hK K
            refine wpAnyH_take (i := 3) (v := ?v34) rfl (by kernel_rfl) (by kernel_rfl) (by kernel_rfl) (fun _ _ _ h => h) (Or.inl ⟨by rfl, ?y34⟩) (by assumption) ?r34
            case y34 => (intro w' hSw; (try dsimp only at hSw); go_simp; try with_reducible rfl)
            (try simp only [Act.put])
            refine wpAnyH_ready (rs := [4]) (by kernel_rfl) (by simp) (AllReadyH.cons rfl (fun K hK => ?_) AllReadyH.nil)
            · have hl49 := HF48.out.2 i hi5
              go_simp
              refine hK.out _ _ trivial (fun _ => ?_)
              clear hK K
              refine wpAnyH_take (i := 10) (v := ?v35) rfl (by kernel_rfl) (by kernel_rfl) (by kernel_rfl) (fun _ _ _ h => h) (Or.inl ⟨by rfl, ?y35⟩) (by assumption) ?r35
              case y35 => (intro w' hSw; (try dsimp only at hSw); go_simp; try with_reducible rfl)
              (try simp only [Act.put])
              refine wpAnyH_take (i := 11) (v := ?v36) rfl (by kernel_rfl) (by kernel_rfl) (by kernel_rfl) (fun _ _ _ h => h) (Or.inl ⟨by rfl, ?y36⟩) (by assumption) ?r36
              case y36 => (intro w' hSw; (try dsimp only at hSw); go_simp; try with_reducible rfl)
              (try simp only [Act.put])
              refine wpAnyH_done (by kernel_rfl) ?_ _
              go_simp
              go_wp2
              exact bodyPost_ret (v := .tuple #[.string (nm5 i), .int .i64 y]) (by simp [results, Tryz.results16, go_sem]) rfl ⟨_, _, rfl, nm5_le i, HE48.out⟩
end Go.Proofs.YtgfoliafpjhjcaaGreatDoor
