/- Q1, I1, W1, in one text. -/
import Derived.Test.YtilinjjimiiplaaGreatDoorKqJ8
import Derived.Test.YtilinjjimiiplaaGreatDoorKqT4
import Derived.Test.YtilinjjimiiplaaGreatDoorProg
import Derived.Test.YtilinjjimiiplaaGreatDoorKqJ1
namespace Go.Proofs.YtilinjjimiiplaaGreatDoor
open Go.RowKit
namespace Tre
def key (z : Zn) : List UInt8 := z.path.data.toList
theorem isAt_iff {p : ByteArray} {z : Zn} : isAt p z = true ↔ key z = p.data.toList := by
  unfold isAt key; rw [beq_val]; simp
theorem notUp_iff {z y : Zn} : notUp z y = false ↔ key y < key z := by
  unfold notUp key
  rw [beq_val, less_eq, Lib.toList_data, Lib.toList_data]
  simp only [Bool.or_eq_false_iff, decide_eq_false_iff_not]
  constructor
  · rintro ⟨h1, h2⟩; exact lt_tot h1 h2
  · intro h; exact ⟨lt_asym h, fun e => lt_ne h e.symm⟩
/-- Each path is greater than the one ahead of it. -/
def Up (zs : List Zn) : Prop := ∀ (i : Nat) y z, zs[i]? = some y → zs[i + 1]? = some z → key y < key z
theorem up_lt {zs : List Zn} (h : Up zs) : ∀ (d i : Nat) y z, zs[i]? = some y → zs[i + d + 1]? = some z → key y < key z := by
  intro d
  induction d with
  | zero => intro i y z hy hz; exact h i y z hy hz
  | succ d ih =>
    intro i y z hy hz
    have hl := (List.getElem?_eq_some_iff.1 hz).1
    obtain ⟨x, hx⟩ : ∃ x, zs[i + d + 1]? = some x := ⟨_, List.getElem?_eq_getElem (by omega)⟩
    exact lt_tr (ih i y x hy hx) (h (i + d + 1) x z hx hz)
theorem up_lt' {zs : List Zn} (h : Up zs) {i j : Nat} {y z : Zn} (hij : i < j) (hy : zs[i]? = some y) (hz : zs[j]? = some z) : key y < key z :=
  up_lt h (j - i - 1) i y z hy (by rw [show i + (j - i - 1) + 1 = j from by omega]; exact hz)
theorem up_of_nodes {zs : List Zn} (h : ∀ j, j < zs.length → nodeC zs j = 0) : Up zs := by
  intro i y z hy hz
  have h1 := h (i + 1) (List.getElem?_eq_some_iff.1 hz).1
  obtain ⟨hc, hn⟩ := nodeC_ok hz h1
  rw [nodeC_succ hz hy hc.symm hn] at h1
  split at h1
  · cases h1
  · rename_i h2; exact notUp_iff.1 (by simpa using h2)
/-- How many paths there are ahead of p. -/
def cut (zs : List Zn) (p : List UInt8) : Nat := zs.findIdx (fun z => !decide (key z < p))
theorem cut_le (zs : List Zn) (p : List UInt8) : cut zs p ≤ zs.length := List.findIdx_le_length
theorem cut_eq {zs : List Zn} {p : List UInt8} {i : Nat} (hi : i ≤ zs.length) (h1 : ∀ (t : Nat) y, t < i → zs[t]? = some y → key y < p) (h2 : ∀ y, zs[i]? = some y → ¬ key y < p) : cut zs p = i := by
  unfold cut
  by_cases hl : i < zs.length
  · rw [List.findIdx_eq hl]
    refine ⟨by simpa using h2 _ (List.getElem?_eq_getElem hl), fun j hj => by simpa using h1 j _ hj (List.getElem?_eq_getElem _)⟩
  · have : i = zs.length := by omega
    subst this
    rw [List.findIdx_eq_length]
    intro x hx
    obtain ⟨j, hj⟩ := List.getElem?_of_mem hx
    simpa using h1 j x (List.getElem?_eq_some_iff.1 hj).1 hj
theorem cut_lt {zs : List Zn} {p : List UInt8} {t : Nat} {y : Zn} (ht : t < cut zs p) (hy : zs[t]? = some y) : key y < p := by
  have h := List.not_of_lt_findIdx ht
  obtain ⟨hl, he⟩ := List.getElem?_eq_some_iff.1 hy
  rw [he] at h
  simpa using h
theorem cut_ge {zs : List Zn} {p : List UInt8} (hu : Up zs) {t : Nat} {y : Zn} (ht : cut zs p ≤ t) (hy : zs[t]? = some y) : ¬ key y < p := by
  have hl := (List.getElem?_eq_some_iff.1 hy).1
  have hc : cut zs p < zs.length := by omega
  have h0 : ¬ key zs[cut zs p] < p := by
    have := List.findIdx_getElem (p := fun z => !decide (key z < p)) (xs := zs) (w := hc)
    unfold cut
    simpa using this
  rcases Nat.lt_or_ge (cut zs p) t with h | h
  · exact fun hlt => h0 (lt_tr (up_lt' hu h (List.getElem?_eq_getElem hc) hy) hlt)
  · have : cut zs p = t := by omega
    subst this
    rw [List.getElem?_eq_getElem hc] at hy; cases hy; exact h0
def has (zs : List Zn) (p : ByteArray) : Bool := decide (0 ≤ atI zs p)
theorem has_iff {zs : List Zn} {p : ByteArray} (hu : Up zs) {i : Nat} (hi : cut zs p.data.toList = i) : has zs p = true ↔ ∃ z, zs[i]? = some z ∧ key z = p.data.toList := by
  subst hi
  constructor
  · intro h
    have h0 : 0 ≤ atI zs p := by simpa [has] using h
    rcases atI_range zs p with ⟨hm, -⟩ | ⟨k, z, hk, hkl, hz, ha⟩
    · omega
    · have hz2 := isAt_iff.1 ha
      have hkc : k = cut zs p.data.toList := by
        rcases Nat.lt_or_ge k (cut zs p.data.toList) with hlt | hge
        · exact absurd hz2 (lt_ne (cut_lt hlt hz))
        · rcases Nat.lt_or_ge (cut zs p.data.toList) k with hgt | hge2
          · obtain ⟨x, hx⟩ : ∃ x, zs[cut zs p.data.toList]? = some x := ⟨_, List.getElem?_eq_getElem (by omega)⟩
            have h1 := up_lt' hu hgt hx hz
            rw [hz2] at h1
            exact absurd h1 (cut_ge hu (Nat.le_refl _) hx)
          · omega
      subst hkc
      exact ⟨z, hz, hz2⟩
  · rintro ⟨z, hz, hk⟩
    have : atI zs p = (cut zs p.data.toList : Nat) := atI_hit hz (isAt_iff.2 hk) (fun j y hj hy => by
      have h1 := lt_ne (cut_lt hj hy)
      rw [← isAt_iff] at h1
      simpa using h1)
    simp [has, this]
theorem has_at {zs : List Zn} {p : ByteArray} (hu : Up zs) (h : has zs p = true) : ∃ z, atI zs p = (cut zs p.data.toList : Nat) ∧ zs[cut zs p.data.toList]? = some z ∧ key z = p.data.toList := by
  obtain ⟨z, hz, hk⟩ := (has_iff hu rfl).1 h
  refine ⟨z, atI_hit hz (isAt_iff.2 hk) (fun j y hj hy => ?_), hz, hk⟩
  have h1 := lt_ne (cut_lt hj hy)
  rw [← isAt_iff] at h1
  simpa using h1
theorem has_not {zs : List Zn} {p : ByteArray} (h : has zs p = false) : atI zs p < 0 := by
  have : ¬ 0 ≤ atI zs p := by simpa [has] using h
  omega
theorem fault_up {zs : List Zn} (h : fault zs = 0) : Up zs := up_of_nodes (fault_nodes h).2
theorem fault_hang {zs : List Zn} (h : fault zs = 0) : 0 ≤ atI zs top ∧ (∀ j, j < zs.length → parC zs j = 0) ∧ ∀ j, j < zs.length → ownC zs j = 0 := by
  have h20 : ¬ 20 < zs.length := by have := (fault_nodes h).1; omega
  have h1 := first_none (fault_nodes h).2
  by_cases h2 : atI zs top < 0
  · rw [fault_top h20 h1 h2] at h; cases h
  by_cases h3 : first (parC zs) zs.length = 0
  · by_cases h4 : first (ownC zs) zs.length = 0
    · exact ⟨by omega, first_zero h3, first_zero h4⟩
    · rw [fault_own h20 h1 h2 h3 rfl] at h; exact absurd h h4
  · rw [fault_par h20 h1 h2 rfl h3] at h; exact absurd h h3
end Tre
end Go.Proofs.YtilinjjimiiplaaGreatDoor
namespace Go.Proofs.YtilinjjimiiplaaGreatDoor
open Go.RowKit
set_option maxHeartbeats 1000000 in
set_option maxRecDepth 100000 in
theorem cmpString_any (a b : ByteArray) (w : World) :
    Calls Tryz.prog 68 #[.string a, .string b] w fun e w' => e = .returned (.int .i64 (Lib.compareBytes a.data.toList b.data.toList)) ∧ w' = w := by
  go_enter Tryz.func68, Tryz.ntmps68
  go_wp2
  rw [run_callFunc_extern Tryz.func85 (by kernel_rfl) (by kernel_rfl) (by kernel_rfl) (e := Extern.BytealgCompare.compare) (by kernel_rfl), Lib.run_compareString]
  simp only [Result.andThen]
  rw [Oper.upon_value]
  go_wp2
  go_ret
  exact ⟨rfl, rfl⟩

set_option maxHeartbeats 1000000 in
theorem compare_any (a b : ByteArray) (w : World) :
    Calls Tryz.prog 46 #[.string a, .string b] w fun e w' => e = .returned (.int .i64 (Lib.compareBytes a.data.toList b.data.toList)) ∧ w' = w := by
  go_enter Tryz.func46, Tryz.ntmps46
  go_wp2_with (go_at_call 68; refine (cmpString_any _ _ _).mono ?_; rintro e w' ⟨rfl, rfl⟩)
  go_ret
  exact ⟨rfl, rfl⟩

set_option maxHeartbeats 1000000 in
theorem cmpZ_any (z : Zn) (p : ByteArray) (w : World) :
    Calls Tryz.prog 45 #[zagg z, .string p] w fun e w' => e = .returned (.int .i64 (Lib.compareBytes z.path.data.toList p.data.toList)) ∧ Ext w w' := by
  unfold zagg
  go_enter Tryz.func45, Tryz.ntmps45
  go_wp2_with fail
  refine (compare_any _ _ _).mono ?_
  rintro e w2 ⟨rfl, rfl⟩
  go_wp2
  go_ret
  exact ⟨rfl, (Ext.refl _).alloc _⟩

set_option maxHeartbeats 2000000 in
set_option maxRecDepth 100000 in
theorem search_any (v : Value) (zs : List Zn) (p : ByteArray) (w : World) (hS : NSlice w v zs) (hU : Tre.Up zs) (hl : zs.length ≤ 1048576) :
    Calls Tryz.prog 44 #[v, .string p, .func (.func 45) #[] #[]] w fun e w' => e = .returned (.tuple #[.int .i64 (Tre.cut zs p.data.toList : Nat), .bool (Tre.has zs p)]) ∧ Ext w w' := by
  have HU : Hid (Tre.Up zs) := hU
  have HC : Hid (∀ (z : Zn) (wx : World), Calls Tryz.prog 45 #[zagg z, .string p] wx fun e w' => e = .returned (.int .i64 (Lib.compareBytes z.path.data.toList p.data.toList)) ∧ Ext wx w') := fun z wx => cmpZ_any z p wx
  unfold zagg at HC
  clear hU
  obtain ⟨a, cap, rfl, hlc, hcm, hx⟩ := hS
  have HX : Hid (0 < zs.length → ∃ b off, a = some ⟨b, off, none⟩ ∧ b < w.heap.size ∧ NodesAt w b off zs) := hx
  clear hx
  unfold maxLen at hcm
  generalize hK : Tre.cut zs p.data.toList = K
  generalize hB : Tre.has zs p = B
  have HK : Hid (Tre.cut zs p.data.toList = K) := hK
  have HB : Hid (Tre.has zs p = B) := hB
  clear hK hB
  go_enter Tryz.func44, Tryz.ntmps44
  go_wp2
  go_loopw [9, 10] (fun l h wr => ∃ (lo hi : Nat), l = .int .i64 lo ∧ h = .int .i64 hi ∧ lo ≤ hi ∧ hi ≤ zs.length ∧ Hid ((∀ (t : Nat) y, t < lo → zs[t]? = some y → Tre.key y < p.data.toList) ∧ (∀ (t : Nat) y, hi ≤ t → zs[t]? = some y → ¬ Tre.key y < p.data.toList)) ∧ Hid (Ext w wr)) (fun l h _ => (intOf h).toNat - (intOf l).toNat)
  case atStart => exact ⟨0, zs.length, rfl, rfl, Nat.zero_le _, Nat.le_refl _, ⟨fun t y h => by omega, fun t y h hy => by have := (List.getElem?_eq_some_iff.1 hy).1; omega⟩, Ext.refl _⟩
  case round =>
    obtain ⟨lo, hi, rfl, rfl, hlh, hin, HI, HE⟩ := hrel
    by_cases hlt : lo < hi
    · obtain ⟨z, hzk⟩ : ∃ z, zs[(lo + hi) / 2]? = some z := ⟨_, List.getElem?_eq_getElem (by omega)⟩
      obtain ⟨b, off, rfl, hb, hN⟩ := HX.out (by omega)
      obtain ⟨d0, d1, d2, d3, d4⟩ := hN.ext hb HE.out _ z hzk
      have HZ : Hid (zs[(lo + hi) / 2]? = some z) := hzk
      have hm1 : lo ≤ (lo + hi) / 2 := by omega
      have hm2 : (lo + hi) / 2 < hi := by omega
      have HM : Hid ((((lo : Int) + (hi : Int)) / 2) = (((lo + hi) / 2 : Nat) : Int)) := by show _ = _; omega
      clear hzk hN hb
      have hc := HC.out z
      generalize hcc : Lib.compareBytes z.path.data.toList p.data.toList = c at hc
      have HCC : Hid (Lib.compareBytes z.path.data.toList p.data.toList = c) := hcc
      have HC1 : Hid (∀ (wx : World), Calls Tryz.prog 45 #[zagg z, .string p] wx fun e w' => e = .returned (.int .i64 c) ∧ Ext wx w') := hc
      unfold zagg at HC1
      clear hcc hc
      by_cases hneg : c < 0
      · have HI2 : Hid ((∀ (t : Nat) y, t < (lo + hi) / 2 + 1 → zs[t]? = some y → Tre.key y < p.data.toList) ∧ (∀ (t : Nat) y, hi ≤ t → zs[t]? = some y → ¬ Tre.key y < p.data.toList)) := by
          have hz : Tre.key z < p.data.toList := (Tre.cmp_neg _ _).1 (by show Lib.compareBytes z.path.data.toList _ < 0; rw [HCC.out]; exact hneg)
          refine ⟨fun t y ht hy => ?_, HI.out.2⟩
          by_cases hte : t = (lo + hi) / 2
          · subst hte; rw [HZ.out] at hy; cases hy; exact hz
          · exact Tre.lt_tr (Tre.up_lt' HU.out (by omega) hy HZ.out) hz
        go_wp2_with fail
        refine (HC1.out _).mono ?_
        rintro e w2 ⟨rfl, hb2⟩
        have HE2 : Hid (Ext w w2) := HE.out.trans hb2
        clear hb2
        go_wp2
        exact ⟨⟨(lo + hi) / 2 + 1, hi, by have := HM.out; first | rfl | (congr 1; omega), rfl, by omega, hin, HI2, HE2⟩, by simp [intOf]; omega⟩
      · have HI2 : Hid ((∀ (t : Nat) y, t < lo → zs[t]? = some y → Tre.key y < p.data.toList) ∧ (∀ (t : Nat) y, (lo + hi) / 2 ≤ t → zs[t]? = some y → ¬ Tre.key y < p.data.toList)) := by
          have hz : ¬ Tre.key z < p.data.toList := fun h => hneg (by rw [← HCC.out]; exact (Tre.cmp_neg _ _).2 h)
          refine ⟨HI.out.1, fun t y ht hy => ?_⟩
          by_cases hte : t = (lo + hi) / 2
          · subst hte; rw [HZ.out] at hy; cases hy; exact hz
          · exact fun h => hz (Tre.lt_tr (Tre.up_lt' HU.out (by omega) HZ.out hy) h)
        go_wp2_with fail
        refine (HC1.out _).mono ?_
        rintro e w2 ⟨rfl, hb2⟩
        have HE2 : Hid (Ext w w2) := HE.out.trans hb2
        clear hb2
        go_wp2
        exact ⟨⟨lo, (lo + hi) / 2, rfl, by have := HM.out; first | rfl | (congr 1; omega), by omega, by omega, HI2, HE2⟩, by simp [intOf]; omega⟩
    · obtain rfl : hi = lo := by omega
      have hcut : Tre.cut zs p.data.toList = hi := Tre.cut_eq hin HI.out.1 (fun y hy => HI.out.2 hi y (Nat.le_refl _) hy)
      have HKE : Hid (K = hi) := HK.out.symm.trans hcut
      have HCT : Hid (Tre.cut zs p.data.toList = hi) := hcut
      clear hcut
      by_cases hn : hi < zs.length
      · obtain ⟨z, hzk⟩ : ∃ z, zs[hi]? = some z := ⟨_, List.getElem?_eq_getElem hn⟩
        obtain ⟨b, off, rfl, hb, hN⟩ := HX.out (by omega)
        obtain ⟨d0, d1, d2, d3, d4⟩ := hN.ext hb HE.out _ z hzk
        have HZ : Hid (zs[hi]? = some z) := hzk
        clear hzk hN hb
        have hc := HC.out z
        generalize hcc : Lib.compareBytes z.path.data.toList p.data.toList = c at hc
        have HH : Hid (Tre.has zs p = decide (c = 0)) := by
          show _ = _
          rw [Bool.eq_iff_iff, Tre.has_iff HU.out HCT.out, HZ.out, ← hcc, decide_eq_true_iff, Tre.cmp_zero]
          constructor
          · rintro ⟨y, hy, hk⟩; cases hy; exact hk
          · intro h; exact ⟨z, rfl, h⟩
        have HC1 : Hid (∀ (wx : World), Calls Tryz.prog 45 #[zagg z, .string p] wx fun e w' => e = .returned (.int .i64 c) ∧ Ext wx w') := hc
        unfold zagg at HC1
        clear hcc hc
        by_cases hc0 : c = 0
        · subst hc0
          have HBE : Hid (B = true) := HB.out.symm.trans HH.out
          go_wp2_with fail
          refine (HC1.out _).mono ?_
          rintro e w2 ⟨rfl, hb2⟩
          have HE2 : Hid (Ext w w2) := HE.out.trans hb2
          clear hb2
          go_wp2
          go_ret2
          exact ⟨by rw [HKE.out, HBE.out]; rfl, HE2.out⟩
        · have hc1 : (c == 0) = false := by simpa using hc0
          have HBE : Hid (B = false) := HB.out.symm.trans (HH.out.trans (by simpa using hc0))
          go_wp2_with fail
          refine (HC1.out _).mono ?_
          rintro e w2 ⟨rfl, hb2⟩
          have HE2 : Hid (Ext w w2) := HE.out.trans hb2
          clear hb2
          go_wp2
          go_ret2
          exact ⟨by rw [HKE.out, HBE.out]; rfl, HE2.out⟩
      · have HH : Hid (Tre.has zs p = false) := by
          show _ = _
          rw [Bool.eq_false_iff, ne_eq, Tre.has_iff HU.out HCT.out]
          rintro ⟨y, hy, _⟩
          have := (List.getElem?_eq_some_iff.1 hy).1
          omega
        have HBE : Hid (B = false) := HB.out.symm.trans HH.out
        go_wp2
        go_ret2
        exact ⟨by rw [HKE.out, HBE.out]; rfl, HE.out⟩

set_option maxHeartbeats 1000000 in
theorem placeOf_any (v : Value) (zs : List Zn) (p : ByteArray) (w : World) (hS : NSlice w v zs) (hU : Tre.Up zs) (hl : zs.length ≤ 1048576) :
    Calls Tryz.prog 17 #[v, .string p] w fun e w' => e = .returned (.tuple #[.int .i64 (Tre.cut zs p.data.toList : Nat), .bool (Tre.has zs p)]) ∧ Ext w w' := by
  have HL : Hid (∀ wx : World, Ext w wx → Calls Tryz.prog 44 #[v, .string p, .func (.func 45) #[] #[]] wx fun e w' => e = .returned (.tuple #[.int .i64 (Tre.cut zs p.data.toList : Nat), .bool (Tre.has zs p)]) ∧ Ext wx w') := fun wx h => search_any v zs p wx (hS.ext h) hU hl
  obtain ⟨a, cap, rfl, -⟩ := hS
  generalize Tre.cut zs p.data.toList = k at *
  generalize Tre.has zs p = b at *
  go_enter Tryz.func17, Tryz.ntmps17
  go_wp2_with fail
  refine (HL.out _ (Ext.refl _)).mono ?_
  rintro e w2 ⟨rfl, hb⟩
  have HB : Hid (Ext w w2) := hb
  clear hb
  go_wp2
  go_ret2
  exact ⟨rfl, HB.out⟩
end Go.Proofs.YtilinjjimiiplaaGreatDoor
namespace Go.Proofs.YtilinjjimiiplaaGreatDoor
open Go.RowKit
set_option maxHeartbeats 400000 in
theorem isNameByte_any (n : Int) (w : World) :
    Calls Tryz.prog 83 #[.int .u8 n] w fun e w' => e = .returned (.bool (nbI n)) ∧ w' = w := by
  go_enter Tryz.func83, Tryz.ntmps83
  go_wp2
  all_goals (go_ret; refine ⟨ret_bool ?_, rfl⟩; unfold nbI; rw [Bool.eq_iff_iff]; simp; omega)

set_option maxHeartbeats 400000 in
theorem count_any (s : ByteArray) (w : World) :
    Calls Tryz.prog 88 #[.string s, .string ⟨#[47]⟩] w fun e w' => e = .returned (.int .i64 (s.data.toList.count 47 : Nat)) ∧ w' = w := by
  have h44 := @run_callFunc_extern Tryz.prog 94 _ Extern.BytealgCount.count Tryz.func94 (by kernel_rfl) (by kernel_rfl) (by kernel_rfl) (by kernel_rfl)
  have hr := fun (c : Int) wx => Lib.run_countString (P := Tryz.prog) s c wx
  go_enter Tryz.func88, Tryz.ntmps88
  go_wp2
  go_ret
  exact ⟨ret_int rfl, rfl⟩

theorem many_val (s : ByteArray) : (decide (24 < (s.size : Int)) || decide (4 < ((Array.count 47 s.data : Nat) : Int))) = Pth.many s.data.toList := by
  unfold Pth.many
  rw [len_eq, Bool.eq_iff_iff]
  simp
  omega

set_option maxHeartbeats 400000 in
theorem tooMany_any (s : ByteArray) (w : World) :
    Calls Tryz.prog 82 #[.string s] w fun e w' => e = .returned (.bool (Pth.many s.data.toList)) ∧ w' = w := by
  by_cases h : 24 < s.size
  · go_enter Tryz.func82, Tryz.ntmps82
    go_wp2
    go_ret
    refine ⟨ret_bool ?_, rfl⟩
    unfold Pth.many
    simp [h]
  · go_enter Tryz.func82, Tryz.ntmps82
    go_wp2_with (first | (go_at_call 88; refine (count_any _ _).mono ?_; rintro e w' ⟨rfl, rfl⟩))
    go_ret
    exact ⟨ret_bool (many_val s), rfl⟩
end Go.Proofs.YtilinjjimiiplaaGreatDoor
