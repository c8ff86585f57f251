/- laws.FnVotes answers true at every code. -/
import Derived.Test.YtfgjodnjahhanaaDoorVvVT5
import Derived.Test.YtfgjodnjahhanaaDoorVvVD2
import Derived.Test.YtfgjodnjahhanaaDoorVvRT2
import Derived.Deep.RegionHeld3
import Derived.Test.YtfgjodnjahhanaaDoorVvTk
namespace Go.Proofs.YtfgjodnjahhanaaDoor
open Go.RowKit
namespace Vot
theorem believe_zero {f c r : Int} {p : ByteArray} {zs : List Vt} (h : believe f zs = (0, c, r, p)) : fault f zs = 0 ∧ okY c r p = true ∧ f < ((voters f zs c r p).length : Int) := by
  unfold believe at h
  split at h
  · rename_i h0
    injection h with h1
    exact absurd h1 h0
  · rename_i h0
    have hf : fault f zs = 0 := by simpa using h0
    unfold believeK at h
    split at h
    · rename_i z hz
      simp only [Prod.mk.injEq, true_and] at h
      obtain ⟨rfl, rfl, rfl⟩ := h
      have hm := List.find?_some hz
      unfold many at hm
      exact ⟨hf, ((fault_zero hf).2.2.2 z (List.mem_of_find?_eq_some hz)).2, by simpa using hm⟩
    · injection h with h1
      exact absurd h1 (by decide)
theorem voters_has {f c r x : Int} {p : ByteArray} {zs : List Vt} {k : Nat} (hf : 0 ≤ f) (h : (voters f zs c r p)[k]? = some x) : hasV zs c r p x zs.length = true :=
  hasV_iff.2 ((mem_voters hf).1 (List.mem_of_getElem? h)).2
end Vot
set_option maxHeartbeats 400000 in
theorem lwBigV_any (ad : Option Addr) (len cap : Nat) (w : World) :
    Calls Tryd.prog 10 #[.slice ad len cap] w fun e w' => e = .returned (.bool (decide (1048576 < len))) ∧ w' = w := by
  go_enter Tryd.func10, Tryd.ntmps10
  go_wp2
  go_ret
  exact ⟨ret_bool (by rw [Bool.eq_iff_iff]; simp; omega), rfl⟩
set_option maxHeartbeats 1000000 in
theorem lawVotes_big (ad : Option Addr) (len cap : Nat) (w : World) (hl : 1048576 < len) :
    Calls Tryd.prog 4 #[.slice ad len cap] w fun e w' => e = .returned (.bool true) ∧ Ext w w' := by
  have HB := lwBigV_any ad len cap w
  rw [decide_eq_true hl] at HB
  go_enter Tryd.func4, Tryd.ntmps4
  go_wp2_with fail
  refine HB.mono ?_
  rintro e w1 ⟨rfl, hw⟩
  rw [hw]
  clear hw w1
  go_wp2
  go_ret
  exact ⟨rfl, Ext.refl _⟩

set_option maxHeartbeats 16000000 in
set_option maxRecDepth 100000 in
theorem lawVotes (cv : Value) (w : World) (hc : CodeOk w w.heap.size cv) (ht : Tb w) :
    Calls Tryd.prog 4 #[cv] w fun e w' => e = .returned (.bool true) ∧ Ext w w' := by
  have HDr : Hid (Calls Tryd.prog 11 #[cv] w fun e w' => ∃ (f : Int) (vo : Value) (zs : List Vt), e = .returned (.tuple #[.int .i64 f, vo]) ∧ VtSlice w' vo zs ∧ (∀ z ∈ zs, z.path.size ≤ 2) ∧ Ext w w') := Vot.drawAcceptOf_any cv w hc
  obtain ⟨ad, len, cap, rfl, hlen, -⟩ := hc
  have HBig := lwBigV_any ad len cap w
  rw [decide_eq_false (show ¬ 1048576 < len from by omega)] at HBig
  have HTb : Hid (Tb w) := ht
  have hfy0 : ∀ (k c r : Int) (p : ByteArray) (W : World), (Instr.field 38 (.agg #[.int .i64 k, .int .i64 c, .int .i64 r, .string p]) 0).run Tryd.prog W = .ok (.int .i64 k) W := fun _ _ _ _ _ => by kernel_rfl
  have hfy1 : ∀ (k c r : Int) (p : ByteArray) (W : World), (Instr.field 38 (.agg #[.int .i64 k, .int .i64 c, .int .i64 r, .string p]) 1).run Tryd.prog W = .ok (.agg #[.int .i64 c, .int .i64 r, .string p]) W := fun _ _ _ _ _ => by kernel_rfl
  have hft1 : ∀ (c : Int) (t : ByteArray) (W : World), (Instr.field 26 (.agg #[.int .i64 c, .string t]) 1).run Tryd.prog W = .ok (.string t) W := fun _ _ _ => by kernel_rfl
  clear ht hlen
  go_enter Tryd.func4, Tryd.ntmps4
  go_wp2_with fail
  refine HBig.mono ?_
  rintro e w9 ⟨rfl, hw⟩
  rw [hw]
  clear hw w9 HBig
  go_wp2_with fail
  refine HDr.out.mono ?_
  rintro e w1 ⟨f, vo, zs, rfl, hS, hp, hb⟩
  have HE1 : Hid (Ext w w1) := hb
  have HPm : Hid (∀ z ∈ zs, z.path.size ≤ maxLen) := fun z hz => by have := hp z hz; unfold maxLen; omega
  have HIa : Hid (∀ wx, Ext w1 wx → Calls Tryd.prog 12 #[.int .i64 f, vo] wx fun e w' => e = .returned (yrT (Vot.believe f zs)) ∧ Ext wx w') := fun wx he => Vot.implAcceptOf_any f vo zs wx (hS.ext he) HPm.out
  have HSa0 : Hid (∀ wx, Ext w1 wx → Calls Tryd.prog 13 #[.int .i64 f, vo] wx fun e w' => e = .returned (yrT (Vot.believe f zs)) ∧ Ext wx w') := fun wx he => Vot.specAcceptOf_any f vo zs wx (hS.ext he) HPm.out
  have HIf0 : Hid (∀ wx, Ext w1 wx → Calls Tryd.prog 14 #[.int .i64 f, vo] wx fun e w' => e = .returned (.int .i64 (Vot.fault f zs)) ∧ Ext wx w') := fun wx he => Vot.implVotesFault_any f vo zs wx (hS.ext he) HPm.out
  have HSf0 : Hid (∀ wx, Ext w1 wx → Calls Tryd.prog 15 #[.int .i64 f, vo] wx fun e w' => e = .returned (.int .i64 (Vot.fault f zs)) ∧ Ext wx w') := fun wx he => Vot.specVotesFault_any f vo zs wx (hS.ext he) HPm.out
  have HVf0 : Hid (∀ (c r : Int) (p : ByteArray) wx, Ext w1 wx → Calls Tryd.prog 16 #[.int .i64 f, vo, yagg c r p] wx (Led.JRet wx (Vot.votersV f zs c r p).1 (Vot.votersV f zs c r p).2)) := fun c r p wx he => Vot.implVotersFor_any f c r p vo zs wx (hS.ext he) HPm.out
  have HS1 : Hid (VtSlice w1 vo zs) := hS
  obtain ⟨av, cv2, rfl, hlc, hcm, hx⟩ := hS
  have HX1 : Hid (0 < zs.length → ∃ b off, av = some ⟨b, off, none⟩ ∧ b < w1.heap.size ∧ VtsAt w1 b off zs) := hx
  unfold maxLen at hcm
  clear hp hb hx HDr
  have HBz : Hid (∀ c r p, Vot.believe f zs = (0, c, r, p) → Vot.fault f zs = 0 ∧ okY c r p = true ∧ f < ((Vot.voters f zs c r p).length : Int)) := fun c r p h => Vot.believe_zero h
  obtain ⟨⟨k, c, r, p⟩, hbe⟩ : ∃ x, x = Vot.believe f zs := ⟨_, rfl⟩
  rw [← hbe] at HIa HSa0
  have HBe : Hid (Vot.believe f zs = (k, c, r, p)) := hbe.symm
  clear hbe
  unfold yrT yr at HIa HSa0
  simp only at HIa HSa0
  go_wp2_with fail
  refine (HIa.out _ (Ext.refl _)).mono ?_
  rintro e w2 ⟨rfl, hb⟩
  have HE2 : Hid (Ext w1 w2) := hb
  clear hb HIa
  obtain ⟨w3, hw3⟩ : ∃ w3, w3 = w2.alloc (.cells #[.int .i64 k, .int .i64 c, .int .i64 r, .string p] 38) := ⟨_, rfl⟩
  obtain ⟨B5, hB5⟩ : ∃ B5, B5 = w2.heap.size := ⟨_, rfl⟩
  have HB3 : Hid (Vot.Y4 w3 B5 (.int .i64 k) (.int .i64 c) (.int .i64 r) (.string p)) := by rw [hw3, hB5]; exact Vot.y4_new w2 _ _ _ _ _
  have HE3 : Hid (Ext w1 w3) := by rw [hw3]; exact HE2.out.alloc _
  have HW3 : Hid (w3 = w2.alloc (.cells #[.int .i64 k, .int .i64 c, .int .i64 r, .string p] 38)) := hw3
  have HQ5 : Hid (B5 = w2.heap.size) := hB5
  clear hw3 hB5
  by_cases hk : k = 0
  · subst hk
    obtain ⟨hfz, hok, hq⟩ := HBz.out c r p HBe.out
    have hf := Vot.fault_zero hfz
    have hok' := Rpy.ok_in hok
    have HVf : Hid (∀ wx, Ext w1 wx → Calls Tryd.prog 16 #[.int .i64 f, .slice av zs.length cv2, .agg #[.int .i64 c, .int .i64 r, .string p]] wx (Led.JRet wx 0 (Vot.voters f zs c r p))) := fun wx he => by have h := HVf0.out c r p wx he; rw [Vot.votersV_ok hfz] at h; exact h
    have HIt : Hid (∀ wx, Ext w1 wx → Calls Tryd.prog 8 #[.agg #[.int .i64 c, .int .i64 r, .string p]] wx fun e w' => e = .returned (.agg #[.int .i64 0, .string (mkB (Lib.join (Rpy.words c r p) [32]))]) ∧ Ext wx w') := fun wx he => by have h := implReplyText_any c r p wx (by unfold maxLen; omega) (HTb.out.ext (HE1.out.trans he)); rw [Rpy.textV_ok hok] at h; exact h
    have HSt : Hid (∀ wx, Ext w1 wx → Calls Tryd.prog 6 #[.agg #[.int .i64 c, .int .i64 r, .string p]] wx fun e w' => e = .returned (.agg #[.int .i64 0, .string (mkB (Lib.join (Rpy.words c r p) [32]))]) ∧ Ext wx w') := fun wx he => by have h := specReplyText_any c r p wx (by unfold maxLen; omega); rw [Rpy.textV_ok hok] at h; exact h
    have HHas : Hid (∀ (j : Nat) x, (Vot.voters f zs c r p)[j]? = some x → Vot.hasV zs c r p x zs.length = true) := fun j x h => Vot.voters_has (by omega) h
    have hl7 := @Vot.voters_len f zs c r p (by omega)
    have HSa := HSa0
    generalize mkB (Lib.join (Rpy.words c r p) [32]) = X at HIt HSt
    generalize Vot.voters f zs c r p = rs at HVf HHas hl7 hq
    clear HVf0 HIf0 HSf0 HBz HBe hfz hok hok' hf HTb HPm HSa0
    go_wp2_with fail
    rw [← HW3.out, ← HQ5.out]
    refine (HVf.out _ HE3.out).mono ?_
    rintro e w4 ⟨v3, g3, rfl, hg3, hO, hb⟩
    obtain ⟨a3, cap3, rfl, -⟩ := id hO
    have HE4 : Hid (Ext w1 w4) := HE3.out.trans hb
    have HB4 : Hid (Vot.Y4 w4 B5 (.int .i64 0) (.int .i64 c) (.int .i64 r) (.string p)) := HB3.out.ext hb
    have HI4 : Hid (ISlice w4 (.slice a3 rs.length cap3) rs) := hO.slice
    clear hb hO hg3 HW3 HQ5 HE3
    unfold Led.jr
    obtain ⟨x, ⟨x0, x1, x2, x3⟩, -⟩ := HB4.out
    have hal := alloc_cell
    go_wp2_with fail
    refine (HIt.out _ (HE4.out.alloc _)).mono ?_
    rintro e w5 ⟨rfl, hb⟩
    have HE5 : Hid (Ext w1 w5) := (HE4.out.alloc _).trans hb
    have HB5 : Hid (Vot.Y4 w5 B5 (.int .i64 0) (.int .i64 c) (.int .i64 r) (.string p)) := (HB4.out.ext ((Ext.refl _).alloc _)).ext hb
    have HI5 : Hid (ISlice w5 (.slice a3 rs.length cap3) rs) := (HI4.out.ext ((Ext.refl _).alloc _)).ext hb
    obtain ⟨B6, hB6⟩ : ∃ B6, B6 = w4.heap.size := ⟨_, rfl⟩
    have HJ5 : Hid (Led.JBoxAt w5 B6 0 (.slice a3 rs.length cap3)) := by rw [hB6]; exact (Led.jbox_new w4 0 _ _).ext hb
    rw [← hB6]
    clear hb x x0 x1 x2 x3 hal hB6
    obtain ⟨W, hW⟩ : ∃ W, W = w5.alloc (.cells #[.int .i64 0, .string X] 26) := ⟨_, rfl⟩
    obtain ⟨B7, hB7⟩ : ∃ B7, B7 = w5.heap.size := ⟨_, rfl⟩
    have HA : Hid (Vot.Y4 W B5 (.int .i64 0) (.int .i64 c) (.int .i64 r) (.string p)) := by rw [hW]; exact HB5.out.ext ((Ext.refl _).alloc _)
    have HJ : Hid (Led.JBoxAt W B6 0 (.slice a3 rs.length cap3)) := by rw [hW]; exact HJ5.out.ext ((Ext.refl _).alloc _)
    have HT : Hid (TBoxAt W B7 0 X) := by rw [hW, hB7]; exact tbox_new w5 0 X _
    have HI : Hid (ISlice W (.slice a3 rs.length cap3) rs) := by rw [hW]; exact HI5.out.ext ((Ext.refl _).alloc _)
    have HE3 : Hid (Ext w1 W) := by rw [hW]; exact HE5.out.alloc _
    clear HB3 HB4 HB5 HI4 HI5 HJ5 HE4 HE5
    have HW : Hid (W = w5.alloc (.cells #[.int .i64 0, .string X] 26)) := hW
    have HQ7 : Hid (B7 = w5.heap.size) := hB7
    clear hW hB7
    go_wp2
    rw [← HW.out, ← HQ7.out]
    clear HW HQ7
    go_loopw [8] (fun i wr => ∃ (j : Nat), j ≤ rs.length ∧ i = .int .i64 j ∧ Hid (Ext W wr)) (fun i _ => rs.length - (intOf i).toNat)
    case atStart => exact ⟨0, Nat.zero_le _, rfl, Ext.refl _⟩
    case round =>
      obtain ⟨j, hj, rfl, HE⟩ := hrel
      by_cases hlt : j < rs.length
      · obtain ⟨x, hx⟩ : ∃ x, rs[j]? = some x := ⟨_, List.getElem?_eq_getElem hlt⟩
        have HHx : Hid (Vot.hasV zs c r p x zs.length = true) := HHas.out j x hx
        obtain ⟨a3', cap3', he3, hl3, hm3, hx3⟩ := HI.out
        simp only [Value.slice.injEq] at he3
        obtain ⟨rfl, -, rfl⟩ := he3
        obtain ⟨gb, go, rfl, hgb, hN⟩ := hx3 (by omega)
        have HNj : Hid (∀ wx, Ext W wx → wx.cell? ⟨gb, go + j, none⟩ = some (.int .i64 x)) := fun wx he => ((Ext.cell he).1 _ _ hgb).trans (hN j x hx)
        have HJc := HJ.out.ext HE.out
        obtain ⟨jl, j0, j1⟩ := HJc
        clear hx3 hN hx
        unfold maxLen at hm3
        go_wp2
        clear jl j0 j1
        obtain ⟨w0, hw0⟩ : ∃ w0, w0 = wr := ⟨_, rfl⟩
        subst hw0
        go_loopw [9, 10] (fun fv i wr => ∃ (q : Nat), q ≤ zs.length ∧ i = .int .i64 q ∧ fv = .bool (Vot.hasV zs c r p x q) ∧ Hid (Ext w0 wr)) (fun _ i _ => zs.length - (intOf i).toNat)
        case atStart => exact ⟨0, Nat.zero_le _, rfl, rfl, Ext.refl _⟩
        case round =>
          obtain ⟨q, hqz, rfl, rfl, HF⟩ := hrel
          by_cases hlq : q < zs.length
          · obtain ⟨z, hzk⟩ : ∃ z, zs[q]? = some z := ⟨_, List.getElem?_eq_getElem hlq⟩
            obtain ⟨b, off, rfl, hb, hNN⟩ := HX1.out (by omega)
            have HEW : Hid (Ext W wr) := HE.out.trans HF.out
            obtain ⟨d0, d1, d2, d3⟩ := hNN.ext hb (HE3.out.trans HEW.out) q z hzk
            have n0 := HNj.out _ HEW.out
            obtain ⟨jl, j0, j1⟩ := HJ.out.ext HEW.out
            obtain ⟨al, ⟨a0, a1, a2, a3'⟩, -⟩ := HA.out.ext HEW.out
            have HZ : Hid (zs[q]? = some z) := hzk
            clear hzk hNN
            by_cases hv : Vot.hasV zs c r p x q = true
            · have HV : Hid (Vot.hasV zs c r p x (q + 1) = true) := Vot.hasV_was HZ.out hv
              rw [hv]
              clear hv
              go_wp2
              go_region
              all_goals
                go_wp2
                exact ⟨⟨q + 1, by omega, by go_num, by rw [HV.out], HF.out.drew⟩, by simp [intOf]; omega⟩
            have hv' : Vot.hasV zs c r p x q = false := by simpa using hv
            have HVf : Hid (Vot.hasV zs c r p x q = false) := hv'
            rw [hv']
            clear hv hv'
            by_cases g3 : z.frm = x
            · by_cases g0 : z.code = c
              · by_cases g1 : z.value = r
                · by_cases g2 : z.path.toList = p.toList
                  · have HV : Hid (Vot.hasV zs c r p x (q + 1) = true) := Vot.hasV_yes HZ.out g3 (Vot.isR_of g0 g1 g2)
                    go_wp2
                    go_region
                    all_goals
                      go_wp2
                      exact ⟨⟨q + 1, by omega, by go_num, by rw [HV.out], HF.out.drew⟩, by simp [intOf]; omega⟩
                  · have HV : Hid (Vot.hasV zs c r p x (q + 1) = false) := Vot.hasV_no HZ.out HVf.out (fun h => g2 (by rw [h.2.2]))
                    go_wp2
                    go_region
                    all_goals
                      go_wp2
                      exact ⟨⟨q + 1, by omega, by go_num, by rw [HV.out], HF.out.drew⟩, by simp [intOf]; omega⟩
                · have HV : Hid (Vot.hasV zs c r p x (q + 1) = false) := Vot.hasV_no HZ.out HVf.out (fun h => g1 h.2.1)
                  go_wp2
                  go_region
                  all_goals
                    go_wp2
                    exact ⟨⟨q + 1, by omega, by go_num, by rw [HV.out], HF.out.drew⟩, by simp [intOf]; omega⟩
              · have HV : Hid (Vot.hasV zs c r p x (q + 1) = false) := Vot.hasV_no HZ.out HVf.out (fun h => g0 h.1)
                go_wp2
                go_region
                all_goals
                  go_wp2
                  exact ⟨⟨q + 1, by omega, by go_num, by rw [HV.out], HF.out.drew⟩, by simp [intOf]; omega⟩
            · have HV : Hid (Vot.hasV zs c r p x (q + 1) = false) := Vot.hasV_id HZ.out HVf.out g3
              have g4 : (z.frm == x) = false := by simpa using g3
              go_wp2
              go_region
              all_goals
                go_wp2
                exact ⟨⟨q + 1, by omega, by go_num, by rw [HV.out], HF.out.drew⟩, by simp [intOf]; omega⟩
          · have hqe : q = zs.length := by omega
            have HHv : Hid (Vot.hasV zs c r p x q = true) := by rw [hqe]; exact HHx.out
            rw [HHv.out]
            go_wp2
            exact ⟨⟨j + 1, by omega, by go_num, HE.out.trans HF.out⟩, by simp [intOf]; omega⟩
      · obtain ⟨jl, j0, j1⟩ := HJ.out.ext HE.out
        have hje : j = rs.length := by omega
        subst hje
        have HS : Hid (∀ W', Ext W W' → (fun W' : World => W'.cell? ⟨B5, 1, none⟩ = some (.int .i64 c) ∧ W'.cell? ⟨B5, 2, none⟩ = some (.int .i64 r) ∧ W'.cell? ⟨B5, 3, none⟩ = some (.string p) ∧ W'.cell? ⟨B6, 0, none⟩ = some (.int .i64 0) ∧ W'.cell? ⟨B6, 1, none⟩ = some (.slice a3 rs.length cap3) ∧ W'.cell? ⟨B7, 0, none⟩ = some (.int .i64 0) ∧ W'.cell? ⟨B7, 1, none⟩ = some (.string X)) W') := fun W' he => ⟨(HA.out.ext he).2.1.2.1, (HA.out.ext he).2.1.2.2.1, (HA.out.ext he).2.1.2.2.2, (HJ.out.ext he).2.1, (HJ.out.ext he).2.2, (HT.out.ext he).2.1, (HT.out.ext he).2.2.1⟩
        go_wp2
        refine wp_region_held_drew (S := (fun W' : World => W'.cell? ⟨B5, 1, none⟩ = some (.int .i64 c) ∧ W'.cell? ⟨B5, 2, none⟩ = some (.int .i64 r) ∧ W'.cell? ⟨B5, 3, none⟩ = some (.string p) ∧ W'.cell? ⟨B6, 0, none⟩ = some (.int .i64 0) ∧ W'.cell? ⟨B6, 1, none⟩ = some (.slice a3 rs.length cap3) ∧ W'.cell? ⟨B7, 0, none⟩ = some (.int .i64 0) ∧ W'.cell? ⟨B7, 1, none⟩ = some (.string X))) (by kernel_rfl) (HS.out _ (HE.out.drew)) (fun hHeld => ?_)
        have F0 : Hid (Ext W wr.drew) := HE.out.drew
        refine tk 0 { dst := some 87, op := Op.fieldAddr 43 (.tmp 6) 0, type := 0, pos := "laws.go:777", after := #[], guard := none } ?_
        refine tk 1 { dst := some 88, op := Op.load 2 (.tmp 87), type := 2, pos := "laws.go:777", after := #[⟨0, .data⟩], guard := none } ?_
        refine tk 2 { dst := some 89, op := Op.binOp BinOp.eql 2 (.tmp 88) (Operand.const (Value.int IntKind.i64 0)) 2, type := 4, pos := "laws.go:777", after := #[⟨1, .data⟩], guard := none } ?_
        refine tk 3 { dst := some 90, op := Op.move (.tmp 89), type := 4, pos := "laws.go:777", after := #[⟨2, .data⟩], guard := none } ?_
        refine tk 4 { dst := some 91, op := Op.fieldAddr 43 (.tmp 6) 1, type := 0, pos := "laws.go:777", after := #[⟨3, .guard⟩], guard := some (3, true) } ?_
        refine tk 5 { dst := some 92, op := Op.load 41 (.tmp 91), type := 41, pos := "laws.go:777", after := #[⟨4, .data⟩, ⟨3, .guard⟩], guard := some (3, true) } ?_
        refine tk 6 { dst := some 93, op := Op.call { callee := Callee.builtin Builtin.len, args := #[.tmp 92], argTypes := #[41] }, type := 3, pos := "laws.go:777", after := #[⟨5, .data⟩, ⟨3, .guard⟩], guard := some (3, true) } ?_
        refine tk 7 { dst := some 94, op := Op.move (.tmp 3), type := 2, pos := "laws.go:777", after := #[⟨3, .guard⟩], guard := some (3, true) } ?_
        refine tk 8 { dst := some 95, op := Op.binOp BinOp.gtr 2 (.tmp 93) (.tmp 94) 2, type := 4, pos := "laws.go:777", after := #[⟨6, .data⟩, ⟨7, .data⟩, ⟨3, .guard⟩], guard := some (3, true) } ?_
        refine tk 9 { dst := some 96, op := Op.pick (.tmp 90) (.tmp 95) (Operand.const (Value.bool false)), type := 4, pos := "laws.go:777", after := #[⟨3, .data⟩, ⟨8, .data⟩], guard := none } ?_
        refine tk 10 { dst := some 97, op := Op.move (.tmp 96), type := 4, pos := "laws.go:777", after := #[⟨9, .data⟩, ⟨3, .chain⟩], guard := none } ?_
        refine tk 11 { dst := some 98, op := Op.fieldAddr 38 (.tmp 5) 1, type := 0, pos := "laws.go:777", after := #[⟨10, .guard⟩], guard := some (10, true) } ?_
        refine tk 12 { dst := some 99, op := Op.load 28 (.tmp 98), type := 28, pos := "laws.go:777", after := #[⟨11, .data⟩, ⟨10, .guard⟩], guard := some (10, true) } ?_
        refine tk 13 { dst := some 100, op := Op.move (.tmp 3), type := 2, pos := "laws.go:777", after := #[⟨10, .guard⟩], guard := some (10, true) } ?_
        refine tk 14 { dst := some 101, op := Op.move (.tmp 4), type := 34, pos := "laws.go:777", after := #[⟨10, .guard⟩], guard := some (10, true) } ?_
        refine wpAnyH_ready (rs := [15]) (by kernel_rfl) (by simp) (AllReadyH.cons rfl (fun K hK => ?_) AllReadyH.nil)
        go_simp
        refine (HSa.out _ (HE3.out.trans F0.out)).mono ?_
        rintro e y1 ⟨rfl, hb⟩
        have F1 : Hid (Ext W y1) := F0.out.trans hb
        clear hb
        refine hK.out _ _ (HS.out _ F1.out) (fun hHeld1 => ?_)
        clear hK K
        refine tk 16 { dst := some 103, op := Op.field 38 (.tmp 102) 1, type := 28, pos := "laws.go:777", after := #[⟨15, .data⟩, ⟨10, .guard⟩], guard := some (10, true) } ?_
        refine tk 17 { dst := some 104, op := Op.binOp BinOp.eql 28 (.tmp 99) (.tmp 103) 28, type := 4, pos := "laws.go:777", after := #[⟨12, .data⟩, ⟨16, .data⟩, ⟨10, .guard⟩], guard := some (10, true) } ?_
        refine tk 18 { dst := some 105, op := Op.pick (.tmp 97) (.tmp 104) (Operand.const (Value.bool false)), type := 4, pos := "laws.go:777", after := #[⟨10, .data⟩, ⟨17, .data⟩], guard := none } ?_
        refine tk 19 { dst := some 106, op := Op.move (.tmp 105), type := 4, pos := "laws.go:777", after := #[⟨18, .data⟩, ⟨15, .chain⟩], guard := none } ?_
        refine tk 20 { dst := some 107, op := Op.fieldAddr 26 (.tmp 7) 0, type := 0, pos := "laws.go:777", after := #[⟨19, .guard⟩], guard := some (19, true) } ?_
        refine tk 21 { dst := some 108, op := Op.load 2 (.tmp 107), type := 2, pos := "laws.go:777", after := #[⟨20, .data⟩, ⟨19, .guard⟩], guard := some (19, true) } ?_
        refine tk 22 { dst := some 109, op := Op.binOp BinOp.eql 2 (.tmp 108) (Operand.const (Value.int IntKind.i64 0)) 2, type := 4, pos := "laws.go:777", after := #[⟨21, .data⟩, ⟨19, .guard⟩], guard := some (19, true) } ?_
        refine tk 23 { dst := some 110, op := Op.pick (.tmp 106) (.tmp 109) (Operand.const (Value.bool false)), type := 4, pos := "laws.go:777", after := #[⟨19, .data⟩, ⟨22, .data⟩], guard := none } ?_
        refine tk 24 { dst := some 111, op := Op.move (.tmp 110), type := 4, pos := "laws.go:777", after := #[⟨23, .data⟩, ⟨19, .chain⟩], guard := none } ?_
        refine tk 25 { dst := some 112, op := Op.fieldAddr 26 (.tmp 7) 1, type := 0, pos := "laws.go:777", after := #[⟨24, .guard⟩], guard := some (24, true) } ?_
        refine tk 26 { dst := some 113, op := Op.load 9 (.tmp 112), type := 9, pos := "laws.go:777", after := #[⟨25, .data⟩, ⟨24, .guard⟩], guard := some (24, true) } ?_
        refine tk 27 { dst := some 114, op := Op.fieldAddr 38 (.tmp 5) 1, type := 0, pos := "laws.go:777", after := #[⟨24, .guard⟩], guard := some (24, true) } ?_
        refine tk 28 { dst := some 115, op := Op.load 28 (.tmp 114), type := 28, pos := "laws.go:777", after := #[⟨27, .data⟩, ⟨24, .guard⟩], guard := some (24, true) } ?_
        refine wpAnyH_ready (rs := [29]) (by kernel_rfl) (by simp) (AllReadyH.cons rfl (fun K hK => ?_) AllReadyH.nil)
        go_simp
        refine (HSt.out _ (HE3.out.trans F1.out)).mono ?_
        rintro e y2 ⟨rfl, hb⟩
        have F2 : Hid (Ext W y2) := F1.out.trans hb
        clear hb
        refine hK.out _ _ (HS.out _ F2.out) (fun hHeld2 => ?_)
        clear hK K
        refine tk 30 { dst := some 117, op := Op.field 26 (.tmp 116) 1, type := 9, pos := "laws.go:777", after := #[⟨29, .data⟩, ⟨24, .guard⟩], guard := some (24, true) } ?_
        refine tk 31 { dst := some 118, op := Op.binOp BinOp.eql 9 (.tmp 113) (.tmp 117) 9, type := 4, pos := "laws.go:777", after := #[⟨26, .data⟩, ⟨30, .data⟩, ⟨24, .guard⟩], guard := some (24, true) } ?_
        refine tk 32 { dst := some 119, op := Op.pick (.tmp 111) (.tmp 118) (Operand.const (Value.bool false)), type := 4, pos := "laws.go:777", after := #[⟨24, .data⟩, ⟨31, .data⟩], guard := none } ?_
        refine tk 33 { dst := some 2, op := Op.assign (.tmp 119), type := 4, pos := "laws.go:777", after := #[⟨32, .data⟩, ⟨29, .chain⟩, ⟨0, .phase⟩, ⟨1, .phase⟩, ⟨2, .phase⟩, ⟨3, .phase⟩, ⟨4, .phase⟩, ⟨5, .phase⟩, ⟨6, .phase⟩, ⟨7, .phase⟩, ⟨8, .phase⟩, ⟨9, .phase⟩, ⟨10, .phase⟩, ⟨11, .phase⟩, ⟨12, .phase⟩, ⟨13, .phase⟩, ⟨14, .phase⟩, ⟨15, .phase⟩, ⟨16, .phase⟩, ⟨17, .phase⟩, ⟨18, .phase⟩, ⟨19, .phase⟩, ⟨20, .phase⟩, ⟨21, .phase⟩, ⟨22, .phase⟩, ⟨23, .phase⟩, ⟨24, .phase⟩, ⟨25, .phase⟩, ⟨26, .phase⟩, ⟨27, .phase⟩, ⟨28, .phase⟩, ⟨29, .phase⟩, ⟨30, .phase⟩, ⟨31, .phase⟩, ⟨32, .phase⟩], guard := none } ?_
        refine wpAnyH_done (by kernel_rfl) ?_ _
        go_wp2
        go_ret
        exact ⟨rfl, HE1.out.trans (HE3.out.trans F2.out)⟩
  · have g2 : (k != 0) = true := by simpa using hk
    have HSa : Hid (∀ wx, Ext w3 wx → _) := fun wx he => HSa0.out wx (HE3.out.trans he)
    have HIf : Hid (∀ wx, Ext w3 wx → _) := fun wx he => HIf0.out wx (HE3.out.trans he)
    have HSf : Hid (∀ wx, Ext w3 wx → _) := fun wx he => HSf0.out wx (HE3.out.trans he)
    clear HSa0 HIf0 HSf0 HVf0 HBz HBe hk HTb HPm
    generalize Vot.fault f zs = ft at *
    go_wp2_with (fail)
    rw [← HW3.out, ← HQ5.out]
    clear HW3 HQ5
    have HS : Hid (∀ W', Ext w3 W' → (fun W' : World => W'.cell? ⟨B5, 0, none⟩ = some (.int .i64 k)) W') := fun W' he => (HB3.out.ext he).2.1.1
    go_wp2
    refine wp_region_held_drew (S := (fun W' : World => W'.cell? ⟨B5, 0, none⟩ = some (.int .i64 k))) (by kernel_rfl) (HS.out _ ((Ext.refl _).drew)) (fun hHeld => ?_)
    have F0 : Hid (Ext w3 w3.drew) := (Ext.refl _).drew
    refine tk 0 { dst := some 24, op := Op.move (.tmp 3), type := 2, pos := "laws.go:764", after := #[], guard := none } ?_
    refine tk 1 { dst := some 25, op := Op.move (.tmp 4), type := 34, pos := "laws.go:764", after := #[], guard := none } ?_
    refine tk 4 { dst := some 28, op := Op.fieldAddr 38 (.tmp 5) 0, type := 0, pos := "laws.go:764", after := #[], guard := none } ?_
    refine tk 5 { dst := some 29, op := Op.load 2 (.tmp 28), type := 2, pos := "laws.go:764", after := #[⟨4, .data⟩], guard := none } ?_
    refine wpAnyH_ready (rs := [2]) (by kernel_rfl) (by simp) (AllReadyH.cons rfl (fun K hK => ?_) AllReadyH.nil)
    go_simp
    refine (HSa.out _ F0.out).mono ?_
    rintro e y1 ⟨rfl, hb⟩
    have F1 : Hid (Ext w3 y1) := F0.out.trans hb
    clear hb
    refine hK.out _ _ (HS.out _ F1.out) (fun hHeld1 => ?_)
    clear hK K
    refine tk 3 { dst := some 27, op := Op.field 38 (.tmp 26) 0, type := 2, pos := "laws.go:764", after := #[⟨2, .data⟩], guard := none } ?_
    refine tk 6 { dst := some 30, op := Op.binOp BinOp.eql 2 (.tmp 27) (.tmp 29) 2, type := 4, pos := "laws.go:764", after := #[⟨3, .data⟩, ⟨5, .data⟩], guard := none } ?_
    refine tk 7 { dst := some 31, op := Op.move (.tmp 30), type := 4, pos := "laws.go:764", after := #[⟨6, .data⟩, ⟨2, .chain⟩], guard := none } ?_
    refine tk 8 { dst := some 32, op := Op.move (.tmp 3), type := 2, pos := "laws.go:764", after := #[⟨7, .guard⟩], guard := some (7, true) } ?_
    refine tk 9 { dst := some 33, op := Op.move (.tmp 4), type := 34, pos := "laws.go:764", after := #[⟨7, .guard⟩], guard := some (7, true) } ?_
    refine tk 11 { dst := some 35, op := Op.move (.tmp 3), type := 2, pos := "laws.go:764", after := #[⟨7, .guard⟩], guard := some (7, true) } ?_
    refine tk 12 { dst := some 36, op := Op.move (.tmp 4), type := 34, pos := "laws.go:764", after := #[⟨7, .guard⟩], guard := some (7, true) } ?_
    refine wpAnyH_ready (rs := [10]) (by kernel_rfl) (by simp) (AllReadyH.cons rfl (fun K hK => ?_) AllReadyH.nil)
    go_simp
    refine (HIf.out _ F1.out).mono ?_
    rintro e y2 ⟨rfl, hb⟩
    have F2 : Hid (Ext w3 y2) := F1.out.trans hb
    clear hb
    refine hK.out _ _ (HS.out _ F2.out) (fun hHeld2 => ?_)
    clear hK K
    refine wpAnyH_ready (rs := [13]) (by kernel_rfl) (by simp) (AllReadyH.cons rfl (fun K hK => ?_) AllReadyH.nil)
    go_simp
    refine (HSf.out _ F2.out).mono ?_
    rintro e y3 ⟨rfl, hb⟩
    have F3 : Hid (Ext w3 y3) := F2.out.trans hb
    clear hb
    refine hK.out _ _ (HS.out _ F3.out) (fun hHeld3 => ?_)
    clear hK K
    refine tk 14 { dst := some 38, op := Op.binOp BinOp.eql 2 (.tmp 34) (.tmp 37) 2, type := 4, pos := "laws.go:764", after := #[⟨10, .data⟩, ⟨13, .data⟩, ⟨7, .guard⟩], guard := some (7, true) } ?_
    refine tk 15 { dst := some 39, op := Op.pick (.tmp 31) (.tmp 38) (Operand.const (Value.bool false)), type := 4, pos := "laws.go:764", after := #[⟨7, .data⟩, ⟨14, .data⟩], guard := none } ?_
    refine tk 16 { dst := some 2, op := Op.assign (.tmp 39), type := 4, pos := "laws.go:764", after := #[⟨15, .data⟩, ⟨13, .chain⟩, ⟨0, .phase⟩, ⟨1, .phase⟩, ⟨2, .phase⟩, ⟨3, .phase⟩, ⟨4, .phase⟩, ⟨5, .phase⟩, ⟨6, .phase⟩, ⟨7, .phase⟩, ⟨8, .phase⟩, ⟨9, .phase⟩, ⟨10, .phase⟩, ⟨11, .phase⟩, ⟨12, .phase⟩, ⟨13, .phase⟩, ⟨14, .phase⟩, ⟨15, .phase⟩], guard := none } ?_
    refine wpAnyH_done (by kernel_rfl) ?_ _
    go_wp2
    go_ret
    exact ⟨rfl, HE1.out.trans (HE3.out.trans F3.out)⟩
theorem lawVotes_all (v : Value) (w : World) (ht : Tb w) (h : ∃ ad len cap, v = .slice ad len cap ∧ (len ≤ 1048576 → CodeOk w w.heap.size v)) :
    Calls Tryd.prog 4 #[v] w fun e w' => e = .returned (.bool true) ∧ Ext w w' := by
  obtain ⟨ad, len, cap, rfl, hc⟩ := h
  by_cases hl : 1048576 < len
  · exact lawVotes_big ad len cap w hl
  · exact lawVotes _ w (hc (by omega)) ht
end Go.Proofs.YtfgjodnjahhanaaDoor
