/- draws of votes: l14Votes, DrawVotesFault, DrawAcceptOf. -/
import Derived.Test.YtfgjodnjahhanaaDoorVvVD1
namespace Go.Proofs.YtfgjodnjahhanaaDoor
open Go.RowKit
namespace Vot
theorem made_at4 (z : Array Value) (hz : z.size = 4) (n i j : Nat) (hi : i < n) (hj : j < 4) : (madeCells z (n * 4))[i * 4 + j]? = z[j]? := by
  have h1 : i * 4 + j < n * 4 := by omega
  rw [Array.getElem?_eq_getElem (by rw [size_madeCells]; exact h1), Array.getElem?_eq_getElem (by omega)]
  congr 1
  simp only [madeCells, Array.getElem_map, Array.getElem_range, hz]
  rw [show (i * 4 + j) % 4 = j from by omega]
  exact getElem!_pos z j (by omega)
/-- Votes were drawn: few of them, with short paths. -/
def DrawnV (w : World) (b : Nat) (cv : Value) (e : Ending) (w' : World) : Prop :=
  ∃ vo zs, e = .returned vo ∧ VtSlice w' vo zs ∧ zs.length ≤ 41 ∧ (∀ z ∈ zs, z.path.size ≤ 2) ∧ ∃ a', Dr.Tick b a' cv w w'

set_option maxHeartbeats 8000000 in
set_option maxRecDepth 100000 in
theorem l14Votes_any (b a : Nat) (cv : Value) (w : World) (h : SrcAt w b a cv) (ha : a ≤ 800) :
    Calls Tryd.prog 40 #[.pointer (some ⟨b, 0, none⟩)] w (DrawnV w b cv) := by
  have hi9 : (Tryd.prog.info? 46).map (fun i => (i.zero, i.size, i.bytes)) = some (some (.agg #[.int .i64 0, .int .i64 0, .int .i64 0, .string ByteArray.empty]), 4, 40) := by kernel_rfl
  obtain ⟨ti, hti, hxx⟩ := Option.map_eq_some_iff.1 hi9
  simp only [Prod.mk.injEq] at hxx
  obtain ⟨hz0, hz1, hz2⟩ := hxx
  clear hi9
  have HS0 : Hid (SrcAt w b a cv) := h
  have hbw := h.lt
  have NX : Hid (∀ (n : Int) (k : Nat) (wx : World), 1 ≤ n → n ≤ 200 → k ≤ 100 → SrcAt wx b (a + k) cv → Calls Tryd.prog 52 #[.pointer (some ⟨b, 0, none⟩), .int .i64 n] wx fun e w' => ∃ r : Int, e = .returned (.int .i64 r) ∧ 0 ≤ r ∧ r < n ∧ Dr.Tick b (a + k + 1) cv wx w') := fun n k wx h0 h1 hk hs => Dr.next b (a + k) cv n wx hs h0 h1 (by omega)
  have RP : Hid (∀ (k : Nat) (wx : World), k ≤ 100 → SrcAt wx b (a + k) cv → Calls Tryd.prog 53 #[.pointer (some ⟨b, 0, none⟩)] wx fun e w' => ∃ (c r : Int) (p : ByteArray), e = .returned (.agg #[.int .i64 c, .int .i64 r, .string p]) ∧ p.size ≤ 2 ∧ Dr.Tick b (a + k + 3) cv wx w') := fun k wx hk hs => l14Reply_any b (a + k) cv wx hs (by omega)
  have P3 : Hid (∀ (k g : Nat) (wx : World), k ≤ 100 → g = wx.heap.size → SrcAt wx b (a + k) cv → Calls Tryd.prog 51 #[.pointer (some ⟨b, 0, none⟩), .slice (some ⟨g, 0, none⟩) 3 3] (wx.alloc (.cells #[.int .i64 0, .int .i64 8, .int .i64 1] 2)) fun e w' => ∃ x : Int, e = .returned (.int .i64 x) ∧ Dr.Tick b (a + k + 1) cv wx w') := fun k g wx hk hg h1 => by subst hg; exact Dr.pick b (a + k) cv [0, 8, 1] wx 2 h1 (by decide) (by decide) (by omega)
  have P2 : Hid (∀ (k g : Nat) (wx : World), k ≤ 100 → g = wx.heap.size → SrcAt wx b (a + k) cv → Calls Tryd.prog 51 #[.pointer (some ⟨b, 0, none⟩), .slice (some ⟨g, 0, none⟩) 2 2] (wx.alloc (.cells #[.int .i64 10, .int .i64 11] 2)) fun e w' => ∃ x : Int, e = .returned (.int .i64 x) ∧ Dr.Tick b (a + k + 1) cv wx w') := fun k g wx hk hg h1 => by subst hg; exact Dr.pick b (a + k) cv [10, 11] wx 2 h1 (by decide) (by decide) (by omega)
  clear h
  have HW : Hid (b < w.heap.size) := hbw
  go_enter Tryd.func40, Tryd.ntmps40
  go_wp2_with fail
  refine (NX.out 8 0 (w.alloc _) (by omega) (by omega) (by omega) (HS0.out.alloc _)).mono ?_
  rintro e w1 ⟨n8, rfl, hn0, hn1, ht⟩
  have HT1 : Hid (Dr.Tick b (a + 1) cv w w1) := tick_alloc HS0.out ht
  have HO1 : Hid (w1.ownsRow w.heap.size 46 4 (.slice (some ⟨w.heap.size, 0, none⟩) 0 0) ([] : List Vt).length (cellsV [])) := ht.2.2.own (World.ownsRow_made (base := w.heap.size) (e := 46) (size := 4) w #[] 0 (Nat.le_refl _) (by unfold maxLen; omega) rfl) hbw
  clear ht
  go_wp2
  go_loopw [3, 4] (fun ov i wr => ∃ (k : Nat) (zs : List Vt), k ≤ 7 ∧ i = .int .i64 k ∧ zs.length + k ≤ 7 ∧ (∀ z ∈ zs, z.path.size ≤ 2) ∧ Hid (wr.ownsRow w.heap.size 46 4 ov zs.length (cellsV zs)) ∧ Hid (∃ q, q + 5 * k ≤ 40 ∧ Dr.Tick b (a + q) cv w wr)) (fun _ i _ => (intOf i).toNat)
  case atStart => exact ⟨n8.toNat, [], by omega, by rw [show ((n8.toNat : Nat) : Int) = n8 from by omega], by simp; omega, fun z hz => (by cases hz), HO1, 1, by omega, HT1.out⟩
  case round =>
    obtain ⟨k, zs, hk, rfl, hzl, hzp, HO, HQ⟩ := hrel
    have HZp : Hid (∀ z ∈ zs, z.path.size ≤ 2) := hzp
    clear hzp
    by_cases hk0 : 0 < k
    · obtain ⟨q, hq, ht0⟩ := HQ.out
      have HT : Hid (Dr.Tick b (a + q) cv w wr) := ht0
      clear ht0 HQ
      go_wp2_with fail
      refine (NX.out 4 q _ (by omega) (by omega) (by omega) HT.out.1).mono ?_
      rintro e w2 ⟨fr, rfl, hf0, hf1, ht⟩
      have HT2 : Hid (Dr.Tick b (a + q + 1) cv w w2) := HT.out.trans ht
      have HO2 : Hid (w2.ownsRow w.heap.size 46 4 u3 zs.length (cellsV zs)) := ht.2.2.own HO.out HW.out
      clear ht HT HO
      go_wp2_with fail
      refine (RP.out (q + 1) _ (by omega) HT2.out.1).mono ?_
      rintro e w3 ⟨c, r, p, rfl, hp, ht⟩
      have HT3 : Hid (Dr.Tick b (a + (q + 4)) cv w w3) := HT2.out.trans ht
      have HO3 : Hid (w3.ownsRow w.heap.size 46 4 u3 zs.length (cellsV zs)) := ht.2.2.own HO2.out HW.out
      have hsz : w.heap.size ≤ w3.heap.size := HT3.out.2.2.1
      have HPp : Hid (∀ z ∈ zs ++ [⟨1 + fr, c, r, p⟩], z.path.size ≤ 2) := fun z hz => by
        rcases List.mem_append.1 hz with hz | hz
        · exact HZp.out z hz
        · rw [List.mem_singleton] at hz; subst hz; exact hp
      clear ht HT2 HO2
      go_wp2_with (at_builtin; go_must (refine wpList_append_own _ rfl _ _ 34 rfl w.heap.size 46 ti (.agg #[.int .i64 0, .int .i64 0, .int .i64 0, .string ByteArray.empty]) 4 40 Tryd.underlying34 hti hz0 hz1 hz2 rfl (by decide) _ _ _ rfl (HO3.out.alloc _) ⟨w3.heap.size, 0, none⟩ 1 1 (cellsV [⟨1 + fr, c, r, p⟩]) rfl rfl (cells_new _ ⟨1 + fr, c, r, p⟩ _ _ rfl) (cellsV_one _) (by unfold maxLen; omega) (by omega) (by simp; omega) ?_; intro v6 w6 hown6 hgrow6 hnil6))
      refine ⟨⟨k - 1, zs ++ [⟨1 + fr, c, r, p⟩], by omega, by go_num, by simp; omega, HPp.out, ?_, q + 4, by omega, Dr.Tick.grown (HT3.out.ext ((Ext.refl _).alloc _)) HW.out hgrow6 (fun k hk => (HO3.out.lt k hk).1)⟩, by simp [intOf]; omega⟩
      show w6.ownsRow _ _ _ _ _ _
      rw [cellsV_app, List.length_append]
      exact hown6
    · obtain ⟨q, hq, ht0⟩ := HQ.out
      have HT : Hid (Dr.Tick b (a + q) cv w wr) := ht0
      clear ht0 HQ
      go_wp2_with fail
      refine (NX.out 14 q _ (by omega) (by omega) (by omega) HT.out.1).mono ?_
      rintro e w2 ⟨r14, rfl, hr0, hr1, ht⟩
      have HT2 : Hid (Dr.Tick b (a + (q + 1)) cv w w2) := HT.out.trans ht
      have HO2 : Hid (w2.ownsRow w.heap.size 46 4 u3 zs.length (cellsV zs)) := ht.2.2.own HO.out HW.out
      clear ht HT HO
      by_cases h0 : r14 = 0
      · subst h0
        go_wp2_with fail
        refine (P3.out (q + 1) _ _ (by omega) rfl HT2.out.1).mono ?_
        rintro e w3 ⟨fr, rfl, ht⟩
        have HT3 : Hid (Dr.Tick b (a + (q + 2)) cv w w3) := HT2.out.trans ht
        have HO3 : Hid (w3.ownsRow w.heap.size 46 4 u3 zs.length (cellsV zs)) := ht.2.2.own HO2.out HW.out
        clear ht HT2 HO2
        go_wp2_with fail
        refine (P2.out (q + 2) _ _ (by omega) rfl HT3.out.1).mono ?_
        rintro e w4 ⟨cd, rfl, ht⟩
        have HT4 : Hid (Dr.Tick b (a + (q + 3)) cv w w4) := HT3.out.trans ht
        have HO4 : Hid (w4.ownsRow w.heap.size 46 4 u3 zs.length (cellsV zs)) := ht.2.2.own HO3.out HW.out
        have hsz : w.heap.size ≤ w4.heap.size := HT4.out.2.2.1
        have HPp : Hid (∀ z ∈ zs ++ [⟨fr, cd, 0, ⟨#[]⟩⟩], z.path.size ≤ 2) := fun z hz => by
          rcases List.mem_append.1 hz with hz | hz
          · exact HZp.out z hz
          · rw [List.mem_singleton] at hz; subst hz; exact Nat.zero_le _
        clear ht HT3 HO3
        go_wp2_with (at_builtin; go_must (refine wpList_append_own _ rfl _ _ 34 rfl w.heap.size 46 ti (.agg #[.int .i64 0, .int .i64 0, .int .i64 0, .string ByteArray.empty]) 4 40 Tryd.underlying34 hti hz0 hz1 hz2 rfl (by decide) _ _ _ rfl (HO4.out.alloc _) ⟨w4.heap.size, 0, none⟩ 1 1 (cellsV [⟨fr, cd, 0, ⟨#[]⟩⟩]) rfl rfl (cells_new _ ⟨fr, cd, 0, ⟨#[]⟩⟩ _ _ rfl) (cellsV_one _) (by unfold maxLen; omega) (by omega) (by simp; omega) ?_; intro v6 w6 hown6 hgrow6 hnil6))
        have HT6 : Hid (Dr.Tick b (a + (q + 3)) cv w w6) := Dr.Tick.grown (HT4.out.ext ((Ext.refl _).alloc _)) HW.out hgrow6 (fun k hk => (HO4.out.lt k hk).1)
        have HO6 : Hid (w6.ownsRow w.heap.size 46 4 v6 (zs ++ [(⟨fr, cd, 0, ⟨#[]⟩⟩ : Vt)]).length (cellsV (zs ++ [(⟨fr, cd, 0, ⟨#[]⟩⟩ : Vt)]))) := by
          show w6.ownsRow _ _ _ _ _ _
          rw [cellsV_app, List.length_append]
          exact hown6
        clear hown6 hgrow6 hnil6
        go_wp2
        go_ret
        exact ⟨_, _, rfl, slice_of_owns HO6.out, by simp; omega, HPp.out, _, HT6.out⟩
      · by_cases h1 : r14 = 1
        · subst h1
          obtain ⟨M, hM⟩ : ∃ M, M = madeCells (Value.agg #[.int .i64 0, .int .i64 0, .int .i64 0, .string ByteArray.empty]).cells (41 * 4) := ⟨_, rfl⟩
          have HMk : ∀ W : World, (Instr.makeSlice 34 (.int .i64 41) (.int .i64 41)).run Tryd.prog W = .ok (.slice (some ⟨W.heap.size, 0, none⟩) 41 41) (W.alloc (.cells M 46)) := fun W => by
            have h := run_make (P := Tryd.prog) W 34 46 ti _ Tryd.underlying34 hti hz0 .i64 .i64 41 41 (by omega) (by omega) (by rw [hz2]; omega) (by omega)
            rw [hz1] at h
            rw [hM]
            simpa using h
          have HZ : Hid (∀ W : World, VtSlice (W.alloc (.cells M 46)) (.slice (some ⟨W.heap.size, 0, none⟩) 41 41) (List.replicate 41 ⟨0, 0, 0, ⟨#[]⟩⟩)) := fun W => by
            show VtSlice _ (.slice (some ⟨W.heap.size, 0, none⟩) (List.replicate 41 (⟨0, 0, 0, ⟨#[]⟩⟩ : Vt)).length 41) _
            refine VtSlice.of (by simp) (fun i z hz => ?_) (by simp) (by unfold maxLen; omega)
            obtain ⟨hi, rfl⟩ := List.getElem?_eq_some_iff.1 hz
            rw [List.length_replicate] at hi
            rw [List.getElem_replicate]
            have hc : ∀ j, j < 4 → (W.alloc (.cells M 46)).cell? ⟨W.heap.size, 0 + i * 4 + j, none⟩ = (#[Value.int .i64 0, .int .i64 0, .int .i64 0, .string ByteArray.empty] : Array Value)[j]? := fun j hj => by
              rw [Nat.zero_add, World.cell?_alloc_at _ _ _ _ rfl, hM]
              exact made_at4 #[Value.int .i64 0, .int .i64 0, .int .i64 0, .string ByteArray.empty] rfl 41 i j hi hj
            exact ⟨hc 0 (by omega), hc 1 (by omega), hc 2 (by omega), hc 3 (by omega)⟩
          clear hM
          go_wp2
          go_ret
          exact ⟨_, List.replicate 41 ⟨0, 0, 0, ⟨#[]⟩⟩, rfl, HZ.out _, by simp, fun z hz => (by rw [(List.mem_replicate.1 hz).2]; exact Nat.zero_le _), a + (q + 1), HT2.out.ext ((Ext.refl _).alloc _)⟩
        · have g0 : (r14 == 0) = false := by simpa using h0
          have g1 : (r14 == 1) = false := by simpa using h1
          clear h0 h1
          go_wp2
          go_ret
          exact ⟨_, _, rfl, slice_of_owns HO2.out, by omega, HZp.out, _, HT2.out⟩

set_option maxHeartbeats 4000000 in
set_option maxRecDepth 100000 in
theorem drawVotesFault_any (cv : Value) (w : World) (hc : CodeOk w w.heap.size cv) : Calls Tryd.prog 22 #[cv] w fun e w' => ∃ (f : Int) (vo : Value) (zs : List Vt), e = .returned (.tuple #[.int .i64 f, vo]) ∧ VtSlice w' vo zs ∧ (∀ z ∈ zs, z.path.size ≤ 2) ∧ Ext w w' := by
  obtain ⟨ad, len, cap, hcv⟩ : ∃ ad len cap, cv = .slice ad len cap := by obtain ⟨ad, len, cap, h, -⟩ := hc; exact ⟨ad, len, cap, h⟩
  have HSrc : Hid (Calls Tryd.prog 38 #[cv] w fun e w' => e = .returned (.pointer (some ⟨w.heap.size, 0, none⟩)) ∧ w' = w.alloc (.cells #[cv, .int .i64 0] 87)) := source_any cv w ad len cap hcv
  have HS0 : Hid (SrcAt (w.alloc (.cells #[cv, .int .i64 0] 87)) w.heap.size 0 cv) := src_new hc
  have HF : Hid (∀ wx, SrcAt wx w.heap.size 0 cv → Calls Tryd.prog 39 #[.pointer (some ⟨w.heap.size, 0, none⟩)] wx fun e w' => ∃ x : Int, e = .returned (.int .i64 x) ∧ Dr.Tick w.heap.size 1 cv wx w') := fun wx h => l8DrawF_any _ 0 cv wx h (by omega)
  have HV : Hid (∀ wx, SrcAt wx w.heap.size 1 cv → Calls Tryd.prog 40 #[.pointer (some ⟨w.heap.size, 0, none⟩)] wx (DrawnV wx w.heap.size cv)) := fun wx h => l14Votes_any _ 1 cv wx h (by omega)
  subst hcv
  clear hc
  go_enter Tryd.func22, Tryd.ntmps22
  go_wp2_with fail
  refine HSrc.out.mono ?_
  rintro e w1 ⟨rfl, hw⟩
  have HS1 : Hid (SrcAt w1 w.heap.size 0 (.slice ad len cap)) := by rw [hw]; exact HS0.out
  have HE1 : Hid (w1 = w.alloc (.cells #[.slice ad len cap, .int .i64 0] 87)) := hw
  clear hw
  go_wp2_with fail
  refine (HF.out _ HS1.out).mono ?_
  rintro e w2 ⟨f, rfl, ht⟩
  have HT2 : Hid (Dr.Tick w.heap.size 1 (.slice ad len cap) w1 w2) := ht
  clear ht
  go_wp2_with fail
  refine (HV.out _ HT2.out.1).mono ?_
  rintro e w3 ⟨vo, zs, rfl, hS, -, hp, a', ht⟩
  have HE : Hid (Ext w w3) := by
    have hu := (HT2.out.trans ht).upd
    rw [HE1.out] at hu
    exact ext_of_upd hu
  have HS : Hid (VtSlice w3 vo zs) := hS
  have HP : Hid (∀ z ∈ zs, z.path.size ≤ 2) := hp
  obtain ⟨a9, c9, rfl, -, -, -⟩ := hS
  clear ht hp
  go_wp2
  go_ret2
  exact ⟨f, _, zs, rfl, HS.out, HP.out, HE.out⟩

set_option maxHeartbeats 1000000 in
theorem drawAcceptOf_any (cv : Value) (w : World) (hc : CodeOk w w.heap.size cv) : Calls Tryd.prog 11 #[cv] w fun e w' => ∃ (f : Int) (vo : Value) (zs : List Vt), e = .returned (.tuple #[.int .i64 f, vo]) ∧ VtSlice w' vo zs ∧ (∀ z ∈ zs, z.path.size ≤ 2) ∧ Ext w w' := by
  have HD : Hid (Calls Tryd.prog 22 #[cv] w fun e w' => ∃ (f : Int) (vo : Value) (zs : List Vt), e = .returned (.tuple #[.int .i64 f, vo]) ∧ VtSlice w' vo zs ∧ (∀ z ∈ zs, z.path.size ≤ 2) ∧ Ext w w') := drawVotesFault_any cv w hc
  obtain ⟨ad, len, cap, rfl, -⟩ := hc
  go_enter Tryd.func11, Tryd.ntmps11
  go_wp2_with fail
  refine HD.out.mono ?_
  rintro e w1 ⟨f, vo, zs, rfl, hS, hp, hb⟩
  have HS : Hid (VtSlice w1 vo zs) := hS
  have HP : Hid (∀ z ∈ zs, z.path.size ≤ 2) := hp
  have HE : Hid (Ext w w1) := hb
  obtain ⟨a9, c9, rfl, -, -, -⟩ := hS
  clear hp hb
  go_wp2
  go_ret2
  exact ⟨f, _, zs, rfl, HS.out, HP.out, HE.out⟩
end Vot
end Go.Proofs.YtfgjodnjahhanaaDoor
