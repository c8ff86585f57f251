/- watches: what is a fault; the specification's WatchesFault. -/
import Derived.Test.YtgofggmgnodplaaDoorK1
import Derived.Test.YtgofggmgnodplaaDoorB1
import Derived.Test.YtgofggmgnodplaaDoorT1
namespace Go.Proofs.YtgofggmgnodplaaDoor
open Go.RowKit
namespace Wch
def idOk (n : Int) : Bool := decide (1 ≤ n) && decide (n ≤ 9)
def code (z : Wt) : Int := if idOk z.client = false then 3 else Pth.faultI z.path.data.toList
theorem code_id {z : Wt} (h : idOk z.client = false) : code z = 3 := by unfold code; rw [if_pos h]
theorem code_path {z : Wt} (h : idOk z.client = true) : code z = Pth.faultI z.path.data.toList := by unfold code; rw [if_neg (by rw [h]; simp)]
theorem code_zero {z : Wt} (h : code z = 0) : idOk z.client = true ∧ Pth.faultI z.path.data.toList = 0 := by
  cases hi : idOk z.client with
  | false => rw [code_id hi] at h; cases h
  | true => rw [code_path hi] at h; exact ⟨rfl, h⟩
/-- The place of the first watch that is z, or -1. -/
def atI (l : List Wt) (z : Wt) : Int := match l.findIdx? (fun y => decide (y = z)) with | some i => i | none => -1
theorem atI_hit {l : List Wt} {k : Nat} {z : Wt} (hz : l[k]? = some z) (ha : ∀ (j : Nat) y, j < k → l[j]? = some y → ¬ y = z) : atI l z = k := by
  have : l.findIdx? (fun y => decide (y = z)) = some k := by
    rw [List.findIdx?_eq_some_iff_getElem]
    obtain ⟨hk, he⟩ := List.getElem?_eq_some_iff.1 hz
    refine ⟨hk, by rw [he]; simp, fun j hj => ?_⟩
    have := ha j _ hj (List.getElem?_eq_getElem (by omega))
    simpa using this
  unfold atI; rw [this]
theorem atI_miss {l : List Wt} {z : Wt} (ha : ∀ (j : Nat) y, l[j]? = some y → ¬ y = z) : atI l z = -1 := by
  have : l.findIdx? (fun y => decide (y = z)) = none := by
    rw [List.findIdx?_eq_none_iff]
    intro x hx
    obtain ⟨j, hj⟩ := List.getElem?_of_mem hx
    simpa using ha j x hj
  unfold atI; rw [this]
/-- What is wrong with watch i, beside those ahead of it. -/
def wC (l : List Wt) (i : Nat) : Int := match l[i]? with
  | none => 0
  | some z => if code z ≠ 0 then code z else if atI l z ≠ i then 6 else 0
def fault (l : List Wt) : Int := if 20 < l.length then 2 else Tre.first (wC l) l.length
theorem fault_many {l : List Wt} (h : 20 < l.length) : fault l = 2 := by unfold fault; rw [if_pos h]
theorem fault_few {l : List Wt} (h : ¬ 20 < l.length) : fault l = Tre.first (wC l) l.length := by unfold fault; rw [if_neg h]
theorem wC_code {l : List Wt} {k : Nat} {z : Wt} {c : Int} (hz : l[k]? = some z) (hc : c = code z) (h0 : c ≠ 0) : wC l k = c := by
  unfold wC; rw [hz]; show (if _ then _ else _) = _; rw [← hc, if_pos h0]
theorem wC_at {l : List Wt} {k : Nat} {z : Wt} (hz : l[k]? = some z) (hc : 0 = code z) : wC l k = if atI l z ≠ k then 6 else 0 := by
  unfold wC; rw [hz]; show (if _ then _ else _) = _; rw [← hc, if_neg (by simp)]
theorem atI_le {l : List Wt} {k : Nat} {z : Wt} (hz : l[k]? = some z) : ∃ j : Nat, atI l z = j ∧ j ≤ k ∧ l[j]? = some z := by
  unfold atI
  cases h : l.findIdx? (fun y => decide (y = z)) with
  | none =>
    rw [List.findIdx?_eq_none_iff] at h
    have := h z (List.mem_of_getElem? hz)
    simp at this
  | some j =>
    rw [List.findIdx?_eq_some_iff_getElem] at h
    obtain ⟨hj, h1, h2⟩ := h
    refine ⟨j, rfl, ?_, ?_⟩
    · refine Classical.byContradiction fun hn => ?_
      have h3 := h2 k (by omega)
      obtain ⟨hk, he⟩ := List.getElem?_eq_some_iff.1 hz
      rw [he] at h3
      simp at h3
    · rw [List.getElem?_eq_getElem hj]; simpa using h1
/-- Watch k stands ahead of itself just where one of the first k is it. -/
theorem atI_new {l : List Wt} {k : Nat} {z : Wt} (hz : l[k]? = some z) : atI l z = k ↔ z ∉ l.take k := by
  obtain ⟨j, h1, h2, h3⟩ := atI_le hz
  constructor
  · intro h hm
    obtain ⟨i, hi⟩ := List.getElem?_of_mem hm
    rw [List.getElem?_take] at hi
    split at hi
    · rename_i hik
      obtain ⟨j', h1', h2', _⟩ := atI_le hi
      omega
    · cases hi
  · intro hn
    refine Classical.byContradiction fun hne => hn ?_
    have hjk : j < k := by omega
    have : (l.take k)[j]? = some z := by rw [List.getElem?_take, if_pos hjk]; exact h3
    exact List.mem_of_getElem? this
theorem fault_zero {l : List Wt} (h : fault l = 0) : l.length ≤ 20 ∧ (∀ z ∈ l, code z = 0) ∧ l.Nodup := by
  by_cases h20 : 20 < l.length
  · rw [fault_many h20] at h; cases h
  rw [fault_few h20] at h
  have h1 := Tre.first_zero h
  have h2 : ∀ (k : Nat) z, l[k]? = some z → code z = 0 ∧ atI l z = k := by
    intro k z hz
    have h3 := h1 k (List.getElem?_eq_some_iff.1 hz).1
    by_cases hc : code z = 0
    · rw [wC_at hz hc.symm] at h3
      refine ⟨hc, ?_⟩
      split at h3
      · cases h3
      · rename_i h4; simpa using h4
    · rw [wC_code hz rfl hc] at h3; exact absurd h3 hc
  refine ⟨by omega, fun z hz => ?_, ?_⟩
  · obtain ⟨k, hk⟩ := List.getElem?_of_mem hz
    exact (h2 k z hk).1
  · unfold List.Nodup
    rw [List.pairwise_iff_getElem]
    intro i j hi hj hij he
    have h3 := (h2 j _ (List.getElem?_eq_getElem hj)).2
    have h4 := (h2 i _ (List.getElem?_eq_getElem hi)).2
    rw [he] at h4
    omega
end Wch
theorem wt_eq {z y : Wt} (h0 : z.client = y.client) (h1 : z.path.toList = y.path.toList) : z = y := by
  cases z; cases y
  simp only at h0 h1
  rw [Lib.toList_data, Lib.toList_data] at h1
  rw [ba_eq h1, h0]

set_option maxHeartbeats 1000000 in
theorem l7Watch_any (b o : Nat) (z : Wt) (w : World) (hA : WtAt w b o z) :
    Calls Tryd.prog 46 #[.pointer (some ⟨b, o, none⟩)] w fun e w' => e = .returned (.int .i64 (Wch.code z)) ∧ Ext w w' := by
  have HI : Hid (Calls Tryd.prog 38 #[.int .i64 z.client] w fun e w' => e = .returned (.bool (Wch.idOk z.client)) ∧ w' = w) := l4IdO_any z.client w
  have HF : Hid (Calls Tryd.prog 39 #[.string z.path] w fun e w' => e = .returned (.int .i64 (Pth.faultI z.path.data.toList)) ∧ Ext w w') := l1FaultI_any z.path w
  obtain ⟨c0, c1⟩ := hA
  cases hi : Wch.idOk z.client with
  | false =>
    rw [Wch.code_id hi]
    rw [hi] at HI
    go_enter Tryd.func46, Tryd.ntmps46
    go_wp2_with fail
    refine HI.out.mono ?_
    rintro e w1 ⟨rfl, hw1⟩; rw [hw1]; clear hw1 w1
    go_wp2
    go_ret
    exact ⟨rfl, Ext.refl _⟩
  | true =>
    rw [Wch.code_path hi]
    rw [hi] at HI
    generalize Pth.faultI z.path.data.toList = c at *
    go_enter Tryd.func46, Tryd.ntmps46
    go_wp2_with fail
    refine HI.out.mono ?_
    rintro e w1 ⟨rfl, hw1⟩; rw [hw1]; clear hw1 w1
    go_wp2_with fail
    refine HF.out.mono ?_
    rintro e w2 ⟨rfl, hb⟩
    have HB : Hid (Ext w w2) := hb
    clear hb
    go_wp2
    go_ret
    exact ⟨rfl, HB.out⟩

set_option maxHeartbeats 1000000 in
set_option maxRecDepth 100000 in
theorem l7At_any (v : Value) (zs : List Wt) (y : Wt) (w : World) (hS : WtSlice w v zs) :
    Calls Tryd.prog 47 #[v, wtagg y] w fun e w' => e = .returned (.int .i64 (Wch.atI zs y)) ∧ Ext w w' := by
  obtain ⟨a, cap, rfl, hlc, hcm, hx⟩ := hS
  have HX : Hid (0 < zs.length → ∃ b off, a = some ⟨b, off, none⟩ ∧ b < w.heap.size ∧ WtsAt w b off zs) := hx
  clear hx
  unfold maxLen at hcm
  unfold wtagg
  go_enter Tryd.func47, Tryd.ntmps47
  go_wp2
  go_loopw [5] (fun i wr => ∃ (k : Nat), k ≤ zs.length ∧ i = .int .i64 k ∧ Hid (∀ (j : Nat) x, j < k → zs[j]? = some x → ¬ x = y) ∧ Hid (WtAt wr w.heap.size 0 y) ∧ Hid (Ext w wr)) (fun i _ => zs.length - (intOf i).toNat)
  case atStart => exact ⟨0, Nat.zero_le _, rfl, fun j y h => by omega, ⟨by simp, by simp⟩, (Ext.refl _).alloc _⟩
  case round =>
    obtain ⟨k, hk, rfl, HA, HY, HE⟩ := hrel
    obtain ⟨y0, y1⟩ := HY.out
    simp only [Nat.zero_add] at y1
    by_cases hlt : k < zs.length
    · obtain ⟨z, hzk⟩ : ∃ z, zs[k]? = some z := ⟨_, List.getElem?_eq_getElem hlt⟩
      obtain ⟨b, off, rfl, hb, hN⟩ := HX.out (by omega)
      obtain ⟨d0, d1⟩ := hN.ext hb HE.out k z hzk
      have HZ : Hid (zs[k]? = some z) := hzk
      clear hzk hN
      by_cases g0 : z.client = y.client
      · by_cases g1 : (z.path.toList == y.path.toList) = true
        · have HM : Hid (Wch.atI zs y = k) := Wch.atI_hit (by rw [HZ.out, wt_eq g0 (by simpa using g1)]) HA.out
          go_wp2
          go_region
          all_goals
            go_wp2
            go_ret
            exact ⟨ret_int HM.out.symm, HE.out.drew⟩
        · have g1' : (z.path.toList == y.path.toList) = false := by simpa using g1
          have HA2 : Hid (∀ (j : Nat) x, j < k + 1 → zs[j]? = some x → ¬ x = y) := by
            intro j x hj hx
            by_cases hjk : j = k
            · subst hjk; rw [HZ.out] at hx; cases hx; rintro rfl; simp at g1
            · exact HA.out j x (by omega) hx
          clear g1
          go_wp2
          go_region
          all_goals
            go_wp2
            exact ⟨⟨k + 1, by omega, by go_num, HA2, HY, HE.out.drew⟩, by simp [intOf]; omega⟩
      · have HA2 : Hid (∀ (j : Nat) x, j < k + 1 → zs[j]? = some x → ¬ x = y) := by
          intro j x hj hx
          by_cases hjk : j = k
          · subst hjk; rw [HZ.out] at hx; cases hx; rintro rfl; exact g0 rfl
          · exact HA.out j x (by omega) hx
        go_wp2
        go_region
        all_goals
          go_wp2
          exact ⟨⟨k + 1, by omega, by go_num, HA2, HY, HE.out.drew⟩, by simp [intOf]; omega⟩
    · have HM : Hid (Wch.atI zs y = -1) := Wch.atI_miss (fun j x hx => HA.out j x (by have := (List.getElem?_eq_some_iff.1 hx).1; omega) hx)
      go_wp2
      go_ret
      exact ⟨ret_int HM.out.symm, HE.out⟩

set_option maxHeartbeats 2000000 in
set_option maxRecDepth 100000 in
theorem l7Fault_any (v : Value) (zs : List Wt) (w : World) (hS : WtSlice w v zs) :
    Calls Tryd.prog 23 #[v] w fun e w' => e = .returned (.int .i64 (Wch.fault zs)) ∧ Ext w w' := by
  have HS : Hid (WtSlice w v zs) := hS
  obtain ⟨a, cap, rfl, hlc, hcm, hx⟩ := hS
  have HX : Hid (0 < zs.length → ∃ b off, a = some ⟨b, off, none⟩ ∧ b < w.heap.size ∧ WtsAt w b off zs) := hx
  clear hx
  unfold maxLen at hcm
  by_cases h20 : 20 < zs.length
  · rw [Wch.fault_many h20]
    go_enter Tryd.func23, Tryd.ntmps23
    go_wp2
    go_ret
    exact ⟨rfl, Ext.refl _⟩
  obtain ⟨F, hF⟩ : ∃ F, F = Wch.fault zs := ⟨_, rfl⟩
  have HF : Hid (F = Tre.first (Wch.wC zs) zs.length) := by rw [hF, Wch.fault_few h20]; rfl
  rw [← hF]
  clear hF
  go_enter Tryd.func23, Tryd.ntmps23
  go_wp2
  go_loopw [3] (fun i wr => ∃ (k : Nat), k ≤ zs.length ∧ i = .int .i64 k ∧ Hid (∀ j, j < k → Wch.wC zs j = 0) ∧ Hid (Ext w wr)) (fun i _ => zs.length - (intOf i).toNat)
  case atStart => exact ⟨0, Nat.zero_le _, rfl, fun j h => by omega, Ext.refl _⟩
  case round =>
    obtain ⟨k, hk, rfl, HA, HE⟩ := hrel
    by_cases hlt : k < zs.length
    · obtain ⟨z, hzk⟩ : ∃ z, zs[k]? = some z := ⟨_, List.getElem?_eq_getElem hlt⟩
      obtain ⟨b, off, rfl, hb, hN⟩ := HX.out (by omega)
      have HZ : Hid (zs[k]? = some z) := hzk
      have HN : Hid (b < w.heap.size ∧ WtsAt w b off zs) := ⟨hb, hN⟩
      have HW : Hid (Calls Tryd.prog 46 #[.pointer (some ⟨b, off + k * 2, none⟩)] wr fun e w' => e = .returned (.int .i64 (Wch.code z)) ∧ Ext wr w') := l7Watch_any b _ z wr (hN.ext hb HE.out k z hzk)
      have HT : Hid (∀ wx : World, Ext w wx → Calls Tryd.prog 47 #[.slice (some ⟨b, off, none⟩) zs.length cap, wtagg z] wx fun e w' => e = .returned (.int .i64 (Wch.atI zs z)) ∧ Ext wx w') := fun wx h => l7At_any _ zs z wx (HS.out.ext h)
      have HV : Hid (∀ c : Int, c ≠ 0 → Wch.wC zs k = c → c = F) := fun c h0 hc => by
        rw [HF.out, ← hc]; exact (Tre.first_hit hlt HA.out (by rw [hc]; exact h0)).symm
      clear hzk hN hb
      obtain ⟨c, hc⟩ : ∃ c, c = Wch.code z := ⟨_, rfl⟩
      have HC : Hid (c = Wch.code z) := hc
      rw [← hc] at HW
      clear hc
      unfold wtagg at HT
      by_cases hc0 : c ≠ 0
      · go_wp2_with fail
        refine HW.out.mono ?_
        rintro e w2 ⟨rfl, hb2⟩
        have HE2 : Hid (Ext w w2) := HE.out.trans hb2
        clear hb2
        go_wp2
        go_ret
        exact ⟨ret_int (HV.out c hc0 (Wch.wC_code HZ.out HC.out hc0)), HE2.out⟩
      · have hc1 : c = 0 := by omega
        subst hc1
        obtain ⟨t, ht, htk, -⟩ := Wch.atI_le HZ.out
        rw [ht] at HT
        have HTT : Hid (Wch.atI zs z = (t : Int)) := ht
        clear ht hc0
        by_cases htk2 : t = k
        · have HA2 : Hid (∀ j, j < k + 1 → Wch.wC zs j = 0) := by
            intro j hj
            by_cases hjk : j = k
            · subst hjk; rw [Wch.wC_at HZ.out HC.out, HTT.out, if_neg (by omega)]
            · exact HA.out j (by omega)
          have hb1 : ((t : Int) != (k : Int)) = false := by simp; omega
          clear htk2 HTT
          go_wp2_with fail
          refine HW.out.mono ?_
          rintro e w2 ⟨rfl, hb2⟩
          have HE2 : Hid (Ext w w2) := HE.out.trans hb2
          obtain ⟨d0, d1⟩ := HN.out.2.ext HN.out.1 HE2.out k z HZ.out
          clear hb2
          go_wp2_with fail
          refine (HT.out _ HE2.out).mono ?_
          rintro e w3 ⟨rfl, hb3⟩
          have HE3 : Hid (Ext w w3) := HE2.out.trans hb3
          clear hb3
          go_wp2
          exact ⟨⟨k + 1, by omega, by go_num, HA2, HE3⟩, by simp [intOf]; omega⟩
        · have HR : Hid (6 = F) := HV.out 6 (by decide) (by rw [Wch.wC_at HZ.out HC.out, HTT.out, if_pos (by omega)])
          have hb1 : ((t : Int) != (k : Int)) = true := by simp; omega
          clear htk2 HTT
          go_wp2_with fail
          refine HW.out.mono ?_
          rintro e w2 ⟨rfl, hb2⟩
          have HE2 : Hid (Ext w w2) := HE.out.trans hb2
          obtain ⟨d0, d1⟩ := HN.out.2.ext HN.out.1 HE2.out k z HZ.out
          clear hb2
          go_wp2_with fail
          refine (HT.out _ HE2.out).mono ?_
          rintro e w3 ⟨rfl, hb3⟩
          have HE3 : Hid (Ext w w3) := HE2.out.trans hb3
          clear hb3
          go_wp2
          go_ret
          exact ⟨ret_int HR.out, HE3.out⟩
    · have HR : Hid (0 = F) := by rw [HF.out]; exact (Tre.first_none (fun j hj => HA.out j (by omega))).symm
      go_wp2
      go_ret
      exact ⟨ret_int HR.out, HE.out⟩
set_option maxHeartbeats 1000000 in
theorem specWatchesFault_any (v : Value) (zs : List Wt) (w : World) (hS : WtSlice w v zs) :
    Calls Tryd.prog 7 #[v] w fun e w' => e = .returned (.int .i64 (Wch.fault zs)) ∧ Ext w w' := by
  have HF : Hid (Calls Tryd.prog 23 #[v] w fun e w' => e = .returned (.int .i64 (Wch.fault zs)) ∧ Ext w w') := l7Fault_any v zs w hS
  obtain ⟨a, cap, rfl, -⟩ := hS
  generalize Wch.fault zs = F at *
  go_enter Tryd.func7, Tryd.ntmps7
  go_wp2_with fail
  refine HF.out.mono ?_
  rintro e w2 ⟨rfl, hb2⟩
  have HB : Hid (Ext w w2) := hb2
  clear hb2
  go_wp2
  go_ret
  exact ⟨rfl, HB.out⟩
end Go.Proofs.YtgofggmgnodplaaDoor
