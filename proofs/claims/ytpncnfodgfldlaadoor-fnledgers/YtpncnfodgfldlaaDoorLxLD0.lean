/- what FnLedgers draws. -/
import Derived.Test.YtpncnfodgfldlaaDoorLxG3
import Derived.Test.YtpncnfodgfldlaaDoorLxPM3
namespace Go.Proofs.YtpncnfodgfldlaaDoor
open Go.RowKit
theorem Dr.gone (w : World) (R : Nat) (hl : R < w.heap.size) (o : Nat) : ({ w with heap := w.heap.setIfInBounds R (.cells #[] 0) } : World).cell? ⟨R, o, none⟩ = none := by
  unfold World.cell?
  simp [hl]
theorem Dr.gone_ne (w : World) (R c : Nat) (h : c ≠ R) : ({ w with heap := w.heap.setIfInBounds R (.cells #[] 0) } : World).heap[c]? = w.heap[c]? := by
  simp [Array.getElem?_setIfInBounds_ne (Ne.symm h)]
theorem Dr.mls_first {base R : Nat} {w : World} {v : Value} {ms : List Ms} {z : Ms} (hM : ∀ W', Dr.Kb base w W' → MSlice W' v ms) (hz : ms[0]? = some z) (hR : R < base) (hl : R < w.heap.size) : ∃ b off cap x y, v = .slice (some ⟨b, off, none⟩) ms.length cap ∧ 0 < ms.length ∧ ms.length ≤ cap ∧ cap ≤ 9223372036854775807 ∧ b < w.heap.size ∧ b ≠ R ∧ MCs w b off z x y ∧ MLs w x y z ∧ ∀ W', w.heap.size ≤ W'.heap.size → (∀ c, c < w.heap.size → c ≠ R → W'.heap[c]? = w.heap[c]?) → MLs W' x y z := by
  obtain ⟨b, off, cap, e, h1, h2, h3, hb, vz, uz, hcs, hls⟩ := (hM w (Dr.Kb.refl _ _)).at2 hz
  obtain ⟨W0, hW0⟩ : ∃ W0 : World, W0 = { w with heap := w.heap.setIfInBounds R (.cells #[] 0) } := ⟨_, rfl⟩
  have hno : ∀ o, W0.cell? ⟨R, o, none⟩ = none := fun o => by rw [hW0]; exact Dr.gone w R hl o
  have hbl : ∀ c, c ≠ R → W0.heap[c]? = w.heap[c]? := fun c h => by rw [hW0]; exact Dr.gone_ne w R c h
  have hsz : W0.heap.size = w.heap.size := by rw [hW0]; simp
  have hk : Dr.Kb base w W0 := ⟨by omega, fun g h1 _ => hbl g (by omega)⟩
  obtain ⟨b', off', cap', e', -, -, -, hb', vz', uz', hcs', hls'⟩ := (hM W0 hk).at2 hz
  rw [e] at e'
  injection e' with e1 _ _
  injection e1 with e1
  injection e1 with e2 e3
  subst e2 e3
  rw [Nat.zero_mul, Nat.add_zero] at hcs hcs'
  have hbR : b ≠ R := fun h => by
    have := hcs'.1
    rw [h, hno] at this
    cases this
  have hc := fun q => World.cell?_of_block (w := w) (w' := W0) (a := ⟨b, q, none⟩) (hbl b hbR)
  have ev : vz' = vz := by
    have h4 := hcs'.2.2.2.2.2.1
    rw [hc, hcs.2.2.2.2.2.1] at h4
    injection h4 with h4
    exact h4.symm
  have eu : uz' = uz := by
    have h4 := hcs'.2.2.2.2.2.2
    rw [hc, hcs.2.2.2.2.2.2] at h4
    injection h4 with h4
    exact h4.symm
  subst ev eu
  refine ⟨b, off, cap, vz', uz', e, h1, h2, h3, hb, hbR, hcs, hls, fun W' hs hW => ?_⟩
  obtain ⟨⟨a5, c5, f1, f2, f3, f4⟩, ⟨a6, c6, g1, g2, g3, g4⟩⟩ := hls'
  refine ⟨⟨a5, c5, f1, f2, f3, fun h0 => ?_⟩, ⟨a6, c6, g1, g2, g3, fun h0 => ?_⟩⟩
  · obtain ⟨bb, oo, q1, q2, q3⟩ := f4 h0
    have hne : bb ≠ R := fun h => by
      have := (q3 0 _ (List.getElem?_eq_getElem h0)).1
      rw [h, hno] at this
      cases this
    have hblk : W'.heap[bb]? = W0.heap[bb]? := (hW bb (by omega) hne).trans (hbl bb hne).symm
    refine ⟨bb, oo, q1, by omega, fun i c hi => ?_⟩
    obtain ⟨d0, d1, d2⟩ := q3 i c hi
    exact ⟨(World.cell?_of_block (w := W0) hblk).trans d0, (World.cell?_of_block (w := W0) hblk).trans d1, (World.cell?_of_block (w := W0) hblk).trans d2⟩
  · obtain ⟨bb, oo, q1, q2, q3⟩ := g4 h0
    have hne : bb ≠ R := fun h => by
      have := q3 0 _ (List.getElem?_eq_getElem h0)
      rw [h, hno] at this
      cases this
    have hblk : W'.heap[bb]? = W0.heap[bb]? := (hW bb (by omega) hne).trans (hbl bb hne).symm
    exact ⟨bb, oo, q1, by omega, fun i c hi => (World.cell?_of_block (w := W0) hblk).trans (q3 i c hi)⟩
end Go.Proofs.YtpncnfodgfldlaaDoor
