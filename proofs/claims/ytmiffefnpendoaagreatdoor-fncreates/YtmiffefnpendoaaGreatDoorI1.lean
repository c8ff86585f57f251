/- Where a path stands: the program's placeOf and what it calls. -/
import Derived.Test.YtmiffefnpendoaaGreatDoorQ1
namespace Go.Proofs.YtmiffefnpendoaaGreatDoor
open Go.RowKit

set_option maxHeartbeats 1000000 in
set_option maxRecDepth 100000 in
theorem cmpString_any (a b : ByteArray) (w : World) :
    Calls Tryz.prog 147 #[.string a, .string b] w fun e w' => e = .returned (.int .i64 (Lib.compareBytes a.data.toList b.data.toList)) ∧ w' = w := by
  go_enter Tryz.func147, Tryz.ntmps147
  go_wp2
  rw [run_callFunc_extern Tryz.func162 (by kernel_rfl) (by kernel_rfl) (by kernel_rfl) (e := Extern.BytealgCompare.compare) (by kernel_rfl), Lib.run_compareString]
  simp only [Result.andThen]
  rw [Oper.upon_value]
  go_wp2
  go_ret
  exact ⟨rfl, rfl⟩

set_option maxHeartbeats 1000000 in
theorem compare_any (a b : ByteArray) (w : World) :
    Calls Tryz.prog 102 #[.string a, .string b] w fun e w' => e = .returned (.int .i64 (Lib.compareBytes a.data.toList b.data.toList)) ∧ w' = w := by
  go_enter Tryz.func102, Tryz.ntmps102
  go_wp2_with (go_at_call 147; refine (cmpString_any _ _ _).mono ?_; rintro e w' ⟨rfl, rfl⟩)
  go_ret
  exact ⟨rfl, rfl⟩

set_option maxHeartbeats 1000000 in
theorem cmpZ_any (z : Zn) (p : ByteArray) (w : World) :
    Calls Tryz.prog 101 #[zagg z, .string p] w fun e w' => e = .returned (.int .i64 (Lib.compareBytes z.path.data.toList p.data.toList)) ∧ Ext w w' := by
  unfold zagg
  go_enter Tryz.func101, Tryz.ntmps101
  go_wp2_with fail
  refine (compare_any _ _ _).mono ?_
  rintro e w2 ⟨rfl, rfl⟩
  go_wp2
  go_ret
  exact ⟨rfl, (Ext.refl _).alloc _⟩

set_option maxHeartbeats 2000000 in
set_option maxRecDepth 100000 in
theorem search_any (v : Value) (zs : List Zn) (p : ByteArray) (w : World) (hS : NSlice w v zs) (hU : Tre.Up zs) (hl : zs.length ≤ 1048576) :
    Calls Tryz.prog 100 #[v, .string p, .func (.func 101) #[] #[]] w fun e w' => e = .returned (.tuple #[.int .i64 (Tre.cut zs p.data.toList : Nat), .bool (Tre.has zs p)]) ∧ Ext w w' := by
  have HU : Hid (Tre.Up zs) := hU
  have HC : Hid (∀ (z : Zn) (wx : World), Calls Tryz.prog 101 #[zagg z, .string p] wx fun e w' => e = .returned (.int .i64 (Lib.compareBytes z.path.data.toList p.data.toList)) ∧ Ext wx w') := fun z wx => cmpZ_any z p wx
  unfold zagg at HC
  clear hU
  obtain ⟨a, cap, rfl, hlc, hcm, hx⟩ := hS
  have HX : Hid (0 < zs.length → ∃ b off, a = some ⟨b, off, none⟩ ∧ b < w.heap.size ∧ NodesAt w b off zs) := hx
  clear hx
  unfold maxLen at hcm
  generalize hK : Tre.cut zs p.data.toList = K
  generalize hB : Tre.has zs p = B
  have HK : Hid (Tre.cut zs p.data.toList = K) := hK
  have HB : Hid (Tre.has zs p = B) := hB
  clear hK hB
  go_enter Tryz.func100, Tryz.ntmps100
  go_wp2
  go_loopw [9, 10] (fun l h wr => ∃ (lo hi : Nat), l = .int .i64 lo ∧ h = .int .i64 hi ∧ lo ≤ hi ∧ hi ≤ zs.length ∧ Hid ((∀ (t : Nat) y, t < lo → zs[t]? = some y → Tre.key y < p.data.toList) ∧ (∀ (t : Nat) y, hi ≤ t → zs[t]? = some y → ¬ Tre.key y < p.data.toList)) ∧ Hid (Ext w wr)) (fun l h _ => (intOf h).toNat - (intOf l).toNat)
  case atStart => exact ⟨0, zs.length, rfl, rfl, Nat.zero_le _, Nat.le_refl _, ⟨fun t y h => by omega, fun t y h hy => by have := (List.getElem?_eq_some_iff.1 hy).1; omega⟩, Ext.refl _⟩
  case round =>
    obtain ⟨lo, hi, rfl, rfl, hlh, hin, HI, HE⟩ := hrel
    by_cases hlt : lo < hi
    · obtain ⟨z, hzk⟩ : ∃ z, zs[(lo + hi) / 2]? = some z := ⟨_, List.getElem?_eq_getElem (by omega)⟩
      obtain ⟨b, off, rfl, hb, hN⟩ := HX.out (by omega)
      obtain ⟨d0, d1, d2, d3, d4⟩ := hN.ext hb HE.out _ z hzk
      have HZ : Hid (zs[(lo + hi) / 2]? = some z) := hzk
      have hm1 : lo ≤ (lo + hi) / 2 := by omega
      have hm2 : (lo + hi) / 2 < hi := by omega
      have HM : Hid ((((lo : Int) + (hi : Int)) / 2) = (((lo + hi) / 2 : Nat) : Int)) := by show _ = _; omega
      clear hzk hN hb
      have hc := HC.out z
      generalize hcc : Lib.compareBytes z.path.data.toList p.data.toList = c at hc
      have HCC : Hid (Lib.compareBytes z.path.data.toList p.data.toList = c) := hcc
      have HC1 : Hid (∀ (wx : World), Calls Tryz.prog 101 #[zagg z, .string p] wx fun e w' => e = .returned (.int .i64 c) ∧ Ext wx w') := hc
      unfold zagg at HC1
      clear hcc hc
      by_cases hneg : c < 0
      · have HI2 : Hid ((∀ (t : Nat) y, t < (lo + hi) / 2 + 1 → zs[t]? = some y → Tre.key y < p.data.toList) ∧ (∀ (t : Nat) y, hi ≤ t → zs[t]? = some y → ¬ Tre.key y < p.data.toList)) := by
          have hz : Tre.key z < p.data.toList := (Tre.cmp_neg _ _).1 (by show Lib.compareBytes z.path.data.toList _ < 0; rw [HCC.out]; exact hneg)
          refine ⟨fun t y ht hy => ?_, HI.out.2⟩
          by_cases hte : t = (lo + hi) / 2
          · subst hte; rw [HZ.out] at hy; cases hy; exact hz
          · exact Tre.lt_tr (Tre.up_lt' HU.out (by omega) hy HZ.out) hz
        go_wp2_with fail
        refine (HC1.out _).mono ?_
        rintro e w2 ⟨rfl, hb2⟩
        have HE2 : Hid (Ext w w2) := HE.out.trans hb2
        clear hb2
        go_wp2
        exact ⟨⟨(lo + hi) / 2 + 1, hi, by have := HM.out; first | rfl | (congr 1; omega), rfl, by omega, hin, HI2, HE2⟩, by simp [intOf]; omega⟩
      · have HI2 : Hid ((∀ (t : Nat) y, t < lo → zs[t]? = some y → Tre.key y < p.data.toList) ∧ (∀ (t : Nat) y, (lo + hi) / 2 ≤ t → zs[t]? = some y → ¬ Tre.key y < p.data.toList)) := by
          have hz : ¬ Tre.key z < p.data.toList := fun h => hneg (by rw [← HCC.out]; exact (Tre.cmp_neg _ _).2 h)
          refine ⟨HI.out.1, fun t y ht hy => ?_⟩
          by_cases hte : t = (lo + hi) / 2
          · subst hte; rw [HZ.out] at hy; cases hy; exact hz
          · exact fun h => hz (Tre.lt_tr (Tre.up_lt' HU.out (by omega) HZ.out hy) h)
        go_wp2_with fail
        refine (HC1.out _).mono ?_
        rintro e w2 ⟨rfl, hb2⟩
        have HE2 : Hid (Ext w w2) := HE.out.trans hb2
        clear hb2
        go_wp2
        exact ⟨⟨lo, (lo + hi) / 2, rfl, by have := HM.out; first | rfl | (congr 1; omega), by omega, by omega, HI2, HE2⟩, by simp [intOf]; omega⟩
    · obtain rfl : hi = lo := by omega
      have hcut : Tre.cut zs p.data.toList = hi := Tre.cut_eq hin HI.out.1 (fun y hy => HI.out.2 hi y (Nat.le_refl _) hy)
      have HKE : Hid (K = hi) := HK.out.symm.trans hcut
      have HCT : Hid (Tre.cut zs p.data.toList = hi) := hcut
      clear hcut
      by_cases hn : hi < zs.length
      · obtain ⟨z, hzk⟩ : ∃ z, zs[hi]? = some z := ⟨_, List.getElem?_eq_getElem hn⟩
        obtain ⟨b, off, rfl, hb, hN⟩ := HX.out (by omega)
        obtain ⟨d0, d1, d2, d3, d4⟩ := hN.ext hb HE.out _ z hzk
        have HZ : Hid (zs[hi]? = some z) := hzk
        clear hzk hN hb
        have hc := HC.out z
        generalize hcc : Lib.compareBytes z.path.data.toList p.data.toList = c at hc
        have HH : Hid (Tre.has zs p = decide (c = 0)) := by
          show _ = _
          rw [Bool.eq_iff_iff, Tre.has_iff HU.out HCT.out, HZ.out, ← hcc, decide_eq_true_iff, Tre.cmp_zero]
          constructor
          · rintro ⟨y, hy, hk⟩; cases hy; exact hk
          · intro h; exact ⟨z, rfl, h⟩
        have HC1 : Hid (∀ (wx : World), Calls Tryz.prog 101 #[zagg z, .string p] wx fun e w' => e = .returned (.int .i64 c) ∧ Ext wx w') := hc
        unfold zagg at HC1
        clear hcc hc
        by_cases hc0 : c = 0
        · subst hc0
          have HBE : Hid (B = true) := HB.out.symm.trans HH.out
          go_wp2_with fail
          refine (HC1.out _).mono ?_
          rintro e w2 ⟨rfl, hb2⟩
          have HE2 : Hid (Ext w w2) := HE.out.trans hb2
          clear hb2
          go_wp2
          go_ret2
          exact ⟨by rw [HKE.out, HBE.out]; rfl, HE2.out⟩
        · have hc1 : (c == 0) = false := by simpa using hc0
          have HBE : Hid (B = false) := HB.out.symm.trans (HH.out.trans (by simpa using hc0))
          go_wp2_with fail
          refine (HC1.out _).mono ?_
          rintro e w2 ⟨rfl, hb2⟩
          have HE2 : Hid (Ext w w2) := HE.out.trans hb2
          clear hb2
          go_wp2
          go_ret2
          exact ⟨by rw [HKE.out, HBE.out]; rfl, HE2.out⟩
      · have HH : Hid (Tre.has zs p = false) := by
          show _ = _
          rw [Bool.eq_false_iff, ne_eq, Tre.has_iff HU.out HCT.out]
          rintro ⟨y, hy, _⟩
          have := (List.getElem?_eq_some_iff.1 hy).1
          omega
        have HBE : Hid (B = false) := HB.out.symm.trans HH.out
        go_wp2
        go_ret2
        exact ⟨by rw [HKE.out, HBE.out]; rfl, HE.out⟩

set_option maxHeartbeats 1000000 in
theorem placeOf_any (v : Value) (zs : List Zn) (p : ByteArray) (w : World) (hS : NSlice w v zs) (hU : Tre.Up zs) (hl : zs.length ≤ 1048576) :
    Calls Tryz.prog 48 #[v, .string p] w fun e w' => e = .returned (.tuple #[.int .i64 (Tre.cut zs p.data.toList : Nat), .bool (Tre.has zs p)]) ∧ Ext w w' := by
  have HL : Hid (∀ wx : World, Ext w wx → Calls Tryz.prog 100 #[v, .string p, .func (.func 101) #[] #[]] wx fun e w' => e = .returned (.tuple #[.int .i64 (Tre.cut zs p.data.toList : Nat), .bool (Tre.has zs p)]) ∧ Ext wx w') := fun wx h => search_any v zs p wx (hS.ext h) hU hl
  obtain ⟨a, cap, rfl, -⟩ := hS
  generalize Tre.cut zs p.data.toList = k at *
  generalize Tre.has zs p = b at *
  go_enter Tryz.func48, Tryz.ntmps48
  go_wp2_with fail
  refine (HL.out _ (Ext.refl _)).mono ?_
  rintro e w2 ⟨rfl, hb⟩
  have HB : Hid (Ext w w2) := hb
  clear hb
  go_wp2
  go_ret2
  exact ⟨rfl, HB.out⟩
end Go.Proofs.YtmiffefnpendoaaGreatDoor
