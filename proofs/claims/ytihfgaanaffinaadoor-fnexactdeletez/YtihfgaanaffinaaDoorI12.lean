/- slices.Delete of one node: what it answers. -/
import Derived.Test.YtihfgaanaffinaaDoorI11
namespace Go.Proofs.YtihfgaanaffinaaDoor
open Go.RowKit

set_option maxHeartbeats 4000000 in
set_option maxRecDepth 1000000 in
theorem deleteS_any (g off cap k j : Nat) (zs : List Zn) (w : World) (hO : Own w (.slice (some ⟨g, off, none⟩) zs.length cap) g zs) (hk : k < zs.length) (hj : j = k + 1) :
    Calls Tryd.prog 97 #[.slice (some ⟨g, off, none⟩) zs.length cap, .int .i64 k, .int .i64 (j : Int)] w fun e w' =>
      e = .returned (.slice (some ⟨g, off, none⟩) (zs.take k ++ zs.drop j).length cap) ∧ Own w' (.slice (some ⟨g, off, none⟩) (zs.take k ++ zs.drop j).length cap) g (zs.take k ++ zs.drop j) ∧ Upd g w w' := by
  have hi9 : (Tryd.prog.info? 43).map (fun i => (i.zero, i.size, i.bytes)) = some (some (.agg #[.string ByteArray.empty, .int .i64 0, .int .i64 0, .int .i64 0, .int .i64 0]), 5, 48) := by kernel_rfl
  obtain ⟨i0, hi, hx⟩ := Option.map_eq_some_iff.1 hi9
  simp only [Prod.mk.injEq] at hx
  obtain ⟨-, hz1, -⟩ := hx
  clear hi9
  obtain ⟨a6, cap6, he6, hlc, hcm, hx6⟩ := id hO
  injection he6 with e1 e2 e3
  subst e1 e3
  obtain ⟨off6, ho6, hR, hN⟩ := hx6 (by omega)
  injection ho6 with ho6
  injection ho6 with _ ho6 _
  subst ho6
  obtain ⟨news, hnews⟩ : ∃ news, news = cellsZ (zs.drop j) := ⟨_, rfl⟩
  have hlen : news.length = (zs.length - j) * 5 := by rw [hnews, cellsZ_length, List.length_drop]
  have hRd : Room w.drew g off zs.length := hR
  have hNd : NodesAt w.drew g off zs := hN
  obtain ⟨A, hA, hsrc⟩ : ∃ A : Addr, (if cap = j then some (⟨g, off, none⟩ : Addr) else some ⟨g, off + j * 5, none⟩) = some A ∧ Hid (∀ t u, news[t]? = some u → w.drew.cell? (A.add t) = some u) := by
    by_cases h : cap = j
    · refine ⟨⟨g, off, none⟩, by simp [h], fun t u hu => ?_⟩
      have h0 : news.length = 0 := by rw [hlen]; omega
      rw [List.length_eq_zero_iff.1 h0] at hu
      simp at hu
    · refine ⟨⟨g, off + j * 5, none⟩, by simp [h], ?_⟩
      rw [hnews]; exact (hNd.drop j).news
  have s1 : Hid (news.length = (zs.length - j) * 5) := hlen
  have s2 : Hid (∀ u ∈ news, u.oneCell' = true) := by rw [hnews]; exact cellsZ_one _
  have s3 : Hid (∀ t, t < news.length → (w.drew.cell? ⟨g, off + k * 5 + t, none⟩).isSome = true ∧ w.drew.frozen? ⟨g, off + k * 5 + t, none⟩ = false) := hRd.some (off + k * 5) news.length (by omega) (by omega)
  obtain ⟨W1, hW1⟩ : ∃ W1, W1 = w.drew.setCells g (off + k * 5) news := ⟨_, rfl⟩
  have hR1 : Room W1 g off zs.length := by rw [hW1]; exact hRd.setCells _ _ (fun j hj => (s3.out j hj).1)
  have hcl : ∀ ty c, (Builtin.clear_ #[35] ty #[.slice (some ⟨g, off + (k + (zs.length - j)) * 5, none⟩) (zs.length - (k + (zs.length - j))) c]).run Tryd.prog W1 = .ok (.tuple #[]) (W1.setCells g (off + (zs.length - 1) * 5) [.string ByteArray.empty, .int .i64 0, .int .i64 0, .int .i64 0, .int .i64 0]) :=
    fun ty c => by
      rw [show zs.length - (k + (zs.length - j)) = 1 from by omega, show k + (zs.length - j) = zs.length - 1 from by omega]
      exact clear_one W1 ty g _ c (hR1.some _ 5 (by omega) (by omega))
  have hend : Hid (∀ w', w' = W1.setCells g (off + (zs.length - 1) * 5) [.string ByteArray.empty, .int .i64 0, .int .i64 0, .int .i64 0, .int .i64 0] → Own w' (.slice (some ⟨g, off, none⟩) (zs.take k ++ zs.drop j).length cap) g (zs.take k ++ zs.drop j) ∧ Upd g w w') := by
    rintro w' rfl
    rw [hW1, hnews]
    subst hj
    obtain ⟨h1, h2⟩ := own_cutout hRd hNd hk [.string ByteArray.empty, .int .i64 0, .int .i64 0, .int .i64 0, .int .i64 0] rfl
    refine ⟨⟨_, cap, rfl, by simp; omega, hcm, fun _ => ⟨off, rfl, h1, h2⟩⟩, upd_setCells _ _ _ (upd_setCells _ _ _ ?_)⟩
    exact Upd.ext ((Ext.refl _).drew) (Nat.le_of_lt hR.1)
  have hL : Hid ((zs.take k ++ zs.drop j).length = k + (zs.length - j)) := by show _ = _; simp; omega
  have hW : Hid (W1 = w.drew.setCells g (off + k * 5) news) := hW1
  unfold maxLen at hcm
  have hkj : k < j := by omega
  have hkj2 : ¬ k = j := by omega
  have hjn : j ≤ zs.length := by omega
  have hj1 : Hid (j = k + 1) := hj
  have hq1 : ¬ cap = k + (zs.length - j) := by omega
  have hq2 : k + (zs.length - j) ≤ zs.length := by omega
  have hq3 : k + (zs.length - j) ≤ cap := by omega
  have hkc : k ≤ cap := by omega
  have hjc : j ≤ cap := by omega
  generalize hrs : zs.take k ++ zs.drop j = rs at *
  clear hW1 hR1 hR hN hRd hNd hx6 hnews hlen hO hrs hj
  go_enter Tryd.func97, Tryd.ntmps97
  go_wp2_with fail
  go_region_law (refine step_append_room rfl (.tmp 22) (.tmp 25) 35 rfl 43 i0 5 Tryd.underlying35 hi hz1 g off k cap (by simp [Act.eval, Act.put]) A (zs.length - j) (cap - j) news (by simp [Act.eval, Act.put]) s1.out hsrc.out s2.out (by omega) s3.out ?_; rw [← hW.out])
  go_wp2
  go_ret
  exact ⟨by rw [hL.out]; rfl, hend.out _ rfl⟩
end Go.Proofs.YtihfgaanaffinaaDoor
