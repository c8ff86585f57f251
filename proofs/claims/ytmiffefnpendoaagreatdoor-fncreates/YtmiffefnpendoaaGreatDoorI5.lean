/- The program's TreeFault, treeOrPathFault. -/
import Derived.Test.YtmiffefnpendoaaGreatDoorI4
namespace Go.Proofs.YtmiffefnpendoaaGreatDoor
open Go.RowKit

set_option maxHeartbeats 2000000 in
set_option maxRecDepth 100000 in
theorem implTreeFault_any (v : Value) (zs : List Zn) (w : World) (hg : Gd w) (hS : NSlice w v zs) :
    Calls Tryz.prog 13 #[v] w fun e w' => e = .returned (.int .i64 (Tre.fault zs)) ∧ Ext w w' := by
  have HS : Hid (NSlice w v zs) := hS
  have HG : Hid (Gd w) := hg
  obtain ⟨a, cap, rfl, hlc, hcm, hx⟩ := hS
  have HX : Hid (0 < zs.length → ∃ b off, a = some ⟨b, off, none⟩ ∧ b < w.heap.size ∧ NodesAt w b off zs) := hx
  clear hx hg
  unfold maxLen at hcm
  by_cases h20 : 20 < zs.length
  · rw [Tre.fault_many h20]
    go_enter Tryz.func13, Tryz.ntmps13
    go_wp2
    go_ret
    exact ⟨rfl, Ext.refl _⟩
  obtain ⟨F, hF⟩ : ∃ F, F = Tre.fault zs := ⟨_, rfl⟩
  have HF : Hid (F = Tre.fault zs) := hF
  rw [← hF]
  clear hF
  have H20 : Hid (¬ 20 < zs.length) := h20
  have HH : Hid (∀ wx : World, Ext w wx → (∀ j, j < zs.length → Tre.nodeC zs j = 0) → Calls Tryz.prog 58 #[.slice a zs.length cap] wx fun e w' => e = .returned (.int .i64 F) ∧ Ext wx w') := fun wx h hn => by
    have := hangFault_any _ zs wx (HG.out.ext h) (HS.out.ext h) (by have := H20.out; omega) hn
    rw [← Tre.fault_eq (by have := H20.out; omega) hn, ← HF.out] at this
    exact this
  go_enter Tryz.func13, Tryz.ntmps13
  go_wp2
  go_loopw [11, 3] (fun i ah wr => ∃ (k : Nat) (q : Option Addr), k ≤ zs.length ∧ i = .int .i64 k ∧ ah = .pointer q ∧ Hid ((k = 0 ∧ q = none) ∨ ∃ m b off, k = m + 1 ∧ a = some ⟨b, off, none⟩ ∧ q = some ⟨b, off + m * 5, none⟩) ∧ Hid (∀ j, j < k → Tre.nodeC zs j = 0) ∧ Hid (Ext w wr)) (fun i _ _ => zs.length - (intOf i).toNat)
  case atStart => exact ⟨0, none, Nat.zero_le _, rfl, rfl, .inl ⟨rfl, rfl⟩, fun j h => by omega, Ext.refl _⟩
  case round =>
    obtain ⟨k, q, hk, rfl, rfl, HQ, HA, HE⟩ := hrel
    by_cases hlt : k < zs.length
    · obtain ⟨z, hzk⟩ : ∃ z, zs[k]? = some z := ⟨_, List.getElem?_eq_getElem hlt⟩
      obtain ⟨b, off, rfl, hb, hN⟩ := HX.out (by omega)
      have HC := nodeFault_any b off k zs z q wr (HG.out.ext HE.out) (Nat.lt_of_lt_of_le hb HE.out.size) (hN.ext hb HE.out) hzk (by
        rcases HQ.out with h | ⟨m, b', off', h1, h2, h3⟩
        · exact .inl h
        · injection h2 with h2; injection h2 with h4 h5; subst h4; subst h5; exact .inr ⟨m, h1, h3⟩)
      obtain ⟨c, hc⟩ : ∃ c, c = Tre.nodeC zs k := ⟨_, rfl⟩
      rw [← hc] at HC
      have HC1 : Hid (Calls Tryz.prog 57 #[.pointer (some ⟨b, off + k * 5, none⟩), .pointer q] wr fun e w' => e = .returned (.int .i64 c) ∧ Ext wr w') := HC
      have HCC : Hid (c = Tre.nodeC zs k) := hc
      clear HC hc hN hzk
      by_cases hc0 : c ≠ 0
      · have HR : Hid (F = c) := by
          show _ = _
          rw [HF.out]
          exact Tre.fault_node H20.out (by rw [HCC.out]; exact Tre.first_hit hlt HA.out (by rw [← HCC.out]; exact hc0)) hc0
        go_wp2_with fail
        refine HC1.out.mono ?_
        rintro e w2 ⟨rfl, hb2⟩
        have HE2 : Hid (Ext w w2) := HE.out.trans hb2
        clear hb2
        go_wp2
        go_ret
        exact ⟨ret_int HR.out.symm, HE2.out⟩
      · have hc1 : c = 0 := by omega
        subst hc1
        clear hc0
        have HA2 : Hid (∀ j, j < k + 1 → Tre.nodeC zs j = 0) := by
          intro j hj
          by_cases hjk : j = k
          · subst hjk; exact HCC.out.symm
          · exact HA.out j (by omega)
        go_wp2_with fail
        refine HC1.out.mono ?_
        rintro e w2 ⟨rfl, hb2⟩
        have HE2 : Hid (Ext w w2) := HE.out.trans hb2
        clear hb2
        go_wp2
        exact ⟨⟨k + 1, _, by omega, by go_num, rfl, .inr ⟨k, b, off, rfl, rfl, rfl⟩, HA2, HE2⟩, by simp [intOf]; omega⟩
    · have HC1 : Hid (Calls Tryz.prog 58 #[.slice a zs.length cap] wr fun e w' => e = .returned (.int .i64 F) ∧ Ext wr w') := HH.out wr HE.out (fun j hj => HA.out j (by omega))
      go_wp2_with fail
      refine HC1.out.mono ?_
      rintro e w2 ⟨rfl, hb2⟩
      have HE2 : Hid (Ext w w2) := HE.out.trans hb2
      clear hb2
      go_wp2
      go_ret
      exact ⟨rfl, HE2.out⟩

set_option maxHeartbeats 1000000 in
theorem treeOrPath_any (v : Value) (zs : List Zn) (p : ByteArray) (w : World) (hg : Gd w) (hS : NSlice w v zs) :
    Calls Tryz.prog 42 #[v, .string p] w fun e w' => e = .returned (.int .i64 (Tre.asked zs p)) ∧ Ext w w' := by
  have HL : Hid (Calls Tryz.prog 13 #[v] w fun e w' => e = .returned (.int .i64 (Tre.fault zs)) ∧ Ext w w') := implTreeFault_any v zs w hg hS
  obtain ⟨a, cap, rfl, -⟩ := hS
  have HP : Hid (∀ wx : World, Ext w wx → Calls Tryz.prog 70 #[.string p] wx fun e w' => e = .returned (.int .i64 (Pth.faultI p.data.toList)) ∧ Ext wx w') := fun wx h => pathFault_any p wx (hg.ext h)
  by_cases h0 : Tre.fault zs ≠ 0
  · rw [show Tre.asked zs p = Tre.fault zs from by unfold Tre.asked; rw [if_pos h0]]
    generalize Tre.fault zs = F at *
    go_enter Tryz.func42, Tryz.ntmps42
    go_wp2_with fail
    refine HL.out.mono ?_
    rintro e w2 ⟨rfl, hb⟩
    have HB : Hid (Ext w w2) := hb
    clear hb
    go_wp2
    go_ret
    exact ⟨rfl, HB.out⟩
  · rw [show Tre.asked zs p = Pth.faultI p.data.toList from by unfold Tre.asked; rw [if_neg h0]]
    rw [show Tre.fault zs = 0 from by omega] at HL
    go_enter Tryz.func42, Tryz.ntmps42
    go_wp2_with fail
    refine HL.out.mono ?_
    rintro e w2 ⟨rfl, hb⟩
    have HB : Hid (Ext w w2) := hb
    clear hb
    go_wp2_with fail
    refine (HP.out _ HB.out).mono ?_
    rintro e w3 ⟨rfl, hb⟩
    have HB3 : Hid (Ext w w3) := HB.out.trans hb
    clear hb
    go_wp2
    go_ret
    exact ⟨rfl, HB3.out⟩
end Go.Proofs.YtmiffefnpendoaaGreatDoor
