/- spec.l2Fault, TreeFault. -/
import Derived.Test.YtilinjjimiiplaaGreatDoorKqJ4
import Derived.Test.YtilinjjimiiplaaGreatDoorKqJ3
namespace Go.Proofs.YtilinjjimiiplaaGreatDoor
open Go.RowKit
namespace Tre
def okNums (z : Zn) : Bool := (decide (0 ≤ z.data) && decide (z.data ≤ 9999)) && ((decide (0 ≤ z.version) && decide (z.version ≤ 999)) && ((decide (0 ≤ z.owner) && decide (z.owner ≤ 9)) && (decide (0 ≤ z.next) && decide (z.next ≤ 100))))
def notUp (z y : Zn) : Bool := Op.bytesLess z.path.toList y.path.toList || (z.path.toList == y.path.toList)
def par (p : ByteArray) : ByteArray := mkB (if Pth.lastSl p.data.toList 0 0 = 0 then [47] else p.data.toList.take (Pth.lastSl p.data.toList 0 0))
/-- What is wrong with node i alone, and beside the one ahead of it. -/
def nodeC (zs : List Zn) (i : Nat) : Int := match zs[i]? with
  | none => 0
  | some z => if Pth.faultI z.path.data.toList ≠ 0 then Pth.faultI z.path.data.toList else if okNums z = false then 3 else match i with
    | 0 => 0
    | m + 1 => match zs[m]? with
      | none => 0
      | some y => if notUp z y = true then 1 else 0
def parC (zs : List Zn) (i : Nat) : Int := match zs[i]? with
  | none => 0
  | some z => if atI zs (par z.path) < 0 then 4 else 0
def ownC (zs : List Zn) (i : Nat) : Int := match zs[i]? with
  | none => 0
  | some z => match zs[(atI zs (par z.path)).toNat]? with
    | none => 0
    | some y => if y.owner ≠ 0 then 1 else 0
def top : ByteArray := ⟨#[47]⟩
def fault (zs : List Zn) : Int :=
  if 20 < zs.length then 2
  else if first (nodeC zs) zs.length ≠ 0 then first (nodeC zs) zs.length
  else if atI zs top < 0 then 4
  else if first (parC zs) zs.length ≠ 0 then first (parC zs) zs.length
  else first (ownC zs) zs.length
theorem nodeC_path {zs : List Zn} {k : Nat} {z : Zn} {c : Int} (hz : zs[k]? = some z) (hc : c = Pth.faultI z.path.data.toList) (h0 : c ≠ 0) : nodeC zs k = c := by
  unfold nodeC; rw [hz]; show (if _ then _ else _) = _; rw [← hc, if_pos h0]
theorem nodeC_nums {zs : List Zn} {k : Nat} {z : Zn} (hz : zs[k]? = some z) (hc : 0 = Pth.faultI z.path.data.toList) (hn : okNums z = false) : nodeC zs k = 3 := by
  unfold nodeC; rw [hz]; show (if _ then _ else _) = _; rw [← hc, if_neg (by simp), if_pos hn]
theorem nodeC_zero {zs : List Zn} {z : Zn} (hz : zs[0]? = some z) (hc : 0 = Pth.faultI z.path.data.toList) (hn : okNums z = true) : nodeC zs 0 = 0 := by
  unfold nodeC; rw [hz]; show (if _ then _ else _) = _; rw [← hc, if_neg (by simp), if_neg (by rw [hn]; simp)]
theorem nodeC_succ {zs : List Zn} {m : Nat} {z y : Zn} (hz : zs[m + 1]? = some z) (hy : zs[m]? = some y) (hc : 0 = Pth.faultI z.path.data.toList) (hn : okNums z = true) : nodeC zs (m + 1) = if notUp z y = true then 1 else 0 := by
  unfold nodeC; rw [hz]; show (if _ then _ else _) = _; rw [← hc, if_neg (by simp), if_neg (by rw [hn]; simp)]
  simp only [hy]
theorem nodeC_ok {zs : List Zn} {k : Nat} {z : Zn} (hz : zs[k]? = some z) (h : nodeC zs k = 0) : Pth.faultI z.path.data.toList = 0 ∧ okNums z = true := by
  by_cases hc : Pth.faultI z.path.data.toList = 0
  · by_cases hn : okNums z = true
    · exact ⟨hc, hn⟩
    · rw [nodeC_nums hz hc.symm (by simpa using hn)] at h; cases h
  · rw [nodeC_path hz rfl hc] at h; exact absurd h hc
theorem parC_eq {zs : List Zn} {k : Nat} {z : Zn} (hz : zs[k]? = some z) : parC zs k = if atI zs (par z.path) < 0 then 4 else 0 := by
  unfold parC; rw [hz]
theorem ownC_eq {zs : List Zn} {k j : Nat} {z y : Zn} (hz : zs[k]? = some z) (hj : atI zs (par z.path) = j) (hy : zs[j]? = some y) : ownC zs k = if y.owner ≠ 0 then 1 else 0 := by
  unfold ownC; simp only [hz, hj, Int.toNat_natCast, hy]
theorem fault_many {zs : List Zn} (h : 20 < zs.length) : fault zs = 2 := by unfold fault; rw [if_pos h]
theorem fault_node {zs : List Zn} {c : Int} (h : ¬ 20 < zs.length) (h1 : first (nodeC zs) zs.length = c) (h0 : c ≠ 0) : fault zs = c := by unfold fault; rw [if_neg h, h1, if_pos h0]
theorem fault_top {zs : List Zn} (h : ¬ 20 < zs.length) (h1 : first (nodeC zs) zs.length = 0) (h2 : atI zs top < 0) : fault zs = 4 := by unfold fault; rw [if_neg h, h1, if_neg (by simp), if_pos h2]
theorem fault_par {zs : List Zn} {c : Int} (h : ¬ 20 < zs.length) (h1 : first (nodeC zs) zs.length = 0) (h2 : ¬ atI zs top < 0) (h3 : first (parC zs) zs.length = c) (h0 : c ≠ 0) : fault zs = c := by unfold fault; rw [if_neg h, h1, if_neg (by simp), if_neg h2, h3, if_pos h0]
theorem fault_own {zs : List Zn} {c : Int} (h : ¬ 20 < zs.length) (h1 : first (nodeC zs) zs.length = 0) (h2 : ¬ atI zs top < 0) (h3 : first (parC zs) zs.length = 0) (h4 : first (ownC zs) zs.length = c) : fault zs = c := by unfold fault; rw [if_neg h, h1, if_neg (by simp), if_neg h2, h3, if_neg (by simp), h4]
end Tre
set_option maxHeartbeats 2000000 in
set_option maxRecDepth 100000 in
theorem l2Fault_any (v : Value) (zs : List Zn) (w : World) (hS : NSlice w v zs) :
    Calls Tryz.prog 37 #[v] w fun e w' => e = .returned (.int .i64 (Tre.fault zs)) ∧ Ext w w' := by
  have HS : Hid (NSlice w v zs) := hS
  obtain ⟨a, cap, rfl, hlc, hcm, hx⟩ := hS
  have HX : Hid (0 < zs.length → ∃ b off, a = some ⟨b, off, none⟩ ∧ b < w.heap.size ∧ NodesAt w b off zs) := hx
  clear hx
  unfold maxLen at hcm
  by_cases h20 : 20 < zs.length
  · rw [Tre.fault_many h20]
    go_enter Tryz.func37, Tryz.ntmps37
    go_wp2
    go_ret
    exact ⟨rfl, Ext.refl _⟩
  obtain ⟨F, hF⟩ : ∃ F, F = Tre.fault zs := ⟨_, rfl⟩
  have HF : Hid (F = Tre.fault zs) := hF
  rw [← hF]
  clear hF
  have H20 : Hid (¬ 20 < zs.length) := h20
  go_enter Tryz.func37, Tryz.ntmps37
  go_wp2
  go_loopw [3] (fun i wr => ∃ (k : Nat), k ≤ zs.length ∧ i = .int .i64 k ∧ Hid (∀ j, j < k → Tre.nodeC zs j = 0) ∧ Hid (Ext w wr)) (fun i _ => zs.length - (intOf i).toNat)
  case atStart => exact ⟨0, Nat.zero_le _, rfl, fun j h => by omega, Ext.refl _⟩
  case round =>
    obtain ⟨k, hk, rfl, HA, HE⟩ := hrel
    by_cases hlt : k < zs.length
    · obtain ⟨z, hzk⟩ : ∃ z, zs[k]? = some z := ⟨_, List.getElem?_eq_getElem hlt⟩
      obtain ⟨b, off, rfl, hb, hN⟩ := HX.out (by omega)
      have hzk1 := hN.ext hb HE.out k z hzk
      obtain ⟨d0, d1, d2, d3, d4⟩ := hzk1
      have HZ : Hid (zs[k]? = some z) := hzk
      have HN : Hid (b < w.heap.size ∧ NodesAt w b off zs) := ⟨hb, hN⟩
      have HV : Hid (∀ c : Int, c ≠ 0 → Tre.nodeC zs k = c → c = F) := fun c h0 hc => by
        rw [HF.out, Tre.fault_node H20.out (c := c) (by rw [← hc]; exact Tre.first_hit hlt HA.out (by rw [hc]; exact h0)) h0]
      clear hzk hN hb
      obtain ⟨c, hc⟩ : ∃ c, c = Pth.faultI z.path.data.toList := ⟨_, rfl⟩
      have HC : Hid (c = Pth.faultI z.path.data.toList) := hc
      have hf := l1FaultI_any z.path wr
      rw [← hc] at hf
      clear hc
      go_wp2_with fail
      refine hf.mono ?_
      rintro e w2 ⟨rfl, hb2⟩
      have HE2 : Hid (Ext w w2) := HE.out.trans hb2
      clear hf hb2 d0 d1 d2 d3 d4
      by_cases hc0 : c ≠ 0
      · go_wp2
        go_ret
        exact ⟨ret_int (HV.out c hc0 (Tre.nodeC_path HZ.out HC.out hc0)), HE2.out⟩
      · have hc1 : c = 0 := by omega
        subst hc1
        clear hc0
        obtain ⟨d0, d1, d2, d3, d4⟩ := HN.out.2.ext HN.out.1 HE2.out k z HZ.out
        have C1 : Hid (∀ wx, Calls Tryz.prog 64 #[.int .i64 z.data] wx fun e w' => e = .returned (.bool (decide (0 ≤ z.data) && decide (z.data ≤ 9999))) ∧ w' = wx) := l2Data_any z.data
        have C2 : Hid (∀ wx, Calls Tryz.prog 65 #[.int .i64 z.version, .int .i64 0, .int .i64 999] wx fun e w' => e = .returned (.bool (decide (0 ≤ z.version) && decide (z.version ≤ 999))) ∧ w' = wx) := l1In_any z.version 0 999
        have C3 : Hid (∀ wx, Calls Tryz.prog 66 #[.int .i64 z.owner] wx fun e w' => e = .returned (.bool (decide (0 ≤ z.owner) && decide (z.owner ≤ 9))) ∧ w' = wx) := l2Owner_any z.owner
        have C4 : Hid (∀ wx, Calls Tryz.prog 65 #[.int .i64 z.next, .int .i64 0, .int .i64 100] wx fun e w' => e = .returned (.bool (decide (0 ≤ z.next) && decide (z.next ≤ 100))) ∧ w' = wx) := l1In_any z.next 0 100
        have HO : Hid (∀ b1 b2 b3 b4 : Bool, (decide (0 ≤ z.data) && decide (z.data ≤ 9999)) = b1 → (decide (0 ≤ z.version) && decide (z.version ≤ 999)) = b2 → (decide (0 ≤ z.owner) && decide (z.owner ≤ 9)) = b3 → (decide (0 ≤ z.next) && decide (z.next ≤ 100)) = b4 → Tre.okNums z = (b1 && (b2 && (b3 && b4)))) := by
          rintro b1 b2 b3 b4 rfl rfl rfl rfl; rfl
        cases hb1 : (decide (0 ≤ z.data) && decide (z.data ≤ 9999)) with
        | false =>
          rw [hb1] at C1
          have HW : Hid (Tre.okNums z = false) := by show _ = _; have h := HO.out _ _ _ _ hb1 rfl rfl rfl; simpa using h
          clear HO hb1
          go_wp2_with fail
          refine (C1.out _).mono ?_
          rintro e w3 ⟨rfl, rfl⟩
          go_wp2
          go_ret
          exact ⟨ret_int (HV.out 3 (by decide) (Tre.nodeC_nums HZ.out HC.out HW.out)), HE2.out⟩
        | true =>
        rw [hb1] at C1
        cases hb2 : (decide (0 ≤ z.version) && decide (z.version ≤ 999)) with
        | false =>
          rw [hb2] at C2
          have HW : Hid (Tre.okNums z = false) := by show _ = _; have h := HO.out _ _ _ _ hb1 hb2 rfl rfl; simpa using h
          clear HO hb1 hb2
          go_wp2_with fail
          refine (C1.out _).mono ?_
          rintro e w3 ⟨rfl, rfl⟩
          go_wp2_with fail
          refine (C2.out _).mono ?_
          rintro e w3 ⟨rfl, rfl⟩
          go_wp2
          go_ret
          exact ⟨ret_int (HV.out 3 (by decide) (Tre.nodeC_nums HZ.out HC.out HW.out)), HE2.out⟩
        | true =>
        rw [hb2] at C2
        cases hb3 : (decide (0 ≤ z.owner) && decide (z.owner ≤ 9)) with
        | false =>
          rw [hb3] at C3
          have HW : Hid (Tre.okNums z = false) := by show _ = _; have h := HO.out _ _ _ _ hb1 hb2 hb3 rfl; simpa using h
          clear HO hb1 hb2 hb3
          go_wp2_with fail
          refine (C1.out _).mono ?_
          rintro e w3 ⟨rfl, rfl⟩
          go_wp2_with fail
          refine (C2.out _).mono ?_
          rintro e w3 ⟨rfl, rfl⟩
          go_wp2_with fail
          refine (C3.out _).mono ?_
          rintro e w3 ⟨rfl, rfl⟩
          go_wp2
          go_ret
          exact ⟨ret_int (HV.out 3 (by decide) (Tre.nodeC_nums HZ.out HC.out HW.out)), HE2.out⟩
        | true =>
        rw [hb3] at C3
        cases hb4 : (decide (0 ≤ z.next) && decide (z.next ≤ 100)) with
        | false =>
          rw [hb4] at C4
          have HW : Hid (Tre.okNums z = false) := by show _ = _; have h := HO.out _ _ _ _ hb1 hb2 hb3 hb4 ; simpa using h
          clear HO hb1 hb2 hb3 hb4
          go_wp2_with fail
          refine (C1.out _).mono ?_
          rintro e w3 ⟨rfl, rfl⟩
          go_wp2_with fail
          refine (C2.out _).mono ?_
          rintro e w3 ⟨rfl, rfl⟩
          go_wp2_with fail
          refine (C3.out _).mono ?_
          rintro e w3 ⟨rfl, rfl⟩
          go_wp2_with fail
          refine (C4.out _).mono ?_
          rintro e w3 ⟨rfl, rfl⟩
          go_wp2
          go_ret
          exact ⟨ret_int (HV.out 3 (by decide) (Tre.nodeC_nums HZ.out HC.out HW.out)), HE2.out⟩
        | true =>
        rw [hb4] at C4
        have HW : Hid (Tre.okNums z = true) := HO.out _ _ _ _ hb1 hb2 hb3 hb4
        clear HO hb1 hb2 hb3 hb4
        by_cases hk0 : k = 0
        · subst hk0
          go_wp2_with fail
          refine (C1.out _).mono ?_
          rintro e w3 ⟨rfl, rfl⟩
          go_wp2_with fail
          refine (C2.out _).mono ?_
          rintro e w3 ⟨rfl, rfl⟩
          go_wp2_with fail
          refine (C3.out _).mono ?_
          rintro e w3 ⟨rfl, rfl⟩
          go_wp2_with fail
          refine (C4.out _).mono ?_
          rintro e w3 ⟨rfl, rfl⟩
          go_wp2
          go_region
          all_goals go_wp2
          exact ⟨⟨1, by omega, rfl, fun j hj => by rw [show j = 0 from by omega]; exact Tre.nodeC_zero HZ.out HC.out HW.out, HE2.out.drew⟩, by simp [intOf]; omega⟩
        · obtain ⟨m, rfl⟩ : ∃ m, k = m + 1 := ⟨k - 1, by omega⟩
          obtain ⟨y, hy⟩ : ∃ y, zs[m]? = some y := ⟨_, List.getElem?_eq_getElem (by omega)⟩
          obtain ⟨e0, e1, e2, e3, e4⟩ := HN.out.2.ext HN.out.1 HE2.out m y hy
          have HN2 := Tre.nodeC_succ HZ.out hy HC.out HW.out
          have HU : Hid (∀ c : Bool, Op.bytesLess z.path.toList y.path.toList = true ∨ (z.path.toList == y.path.toList) = true → Tre.nodeC zs (m + 1) = 1) := by
            intro _ h; rw [HN2, if_pos]; unfold Tre.notUp; rcases h with h | h <;> rw [h] <;> simp
          have HV0 : Hid (Op.bytesLess z.path.toList y.path.toList = false ∧ (z.path.toList == y.path.toList) = false → Tre.nodeC zs (m + 1) = 0) := by
            intro h; rw [HN2, if_neg]; unfold Tre.notUp; rw [h.1, h.2]; simp
          clear e1 e2 e3 e4 hy HN2
          go_wp2_with fail
          refine (C1.out _).mono ?_
          rintro e w3 ⟨rfl, rfl⟩
          go_wp2_with fail
          refine (C2.out _).mono ?_
          rintro e w3 ⟨rfl, rfl⟩
          go_wp2_with fail
          refine (C3.out _).mono ?_
          rintro e w3 ⟨rfl, rfl⟩
          go_wp2_with fail
          refine (C4.out _).mono ?_
          rintro e w3 ⟨rfl, rfl⟩
          go_wp2
          go_region
          all_goals go_wp2
          · go_ret
            exact ⟨ret_int (HV.out 1 (by decide) (HU.out true (by assumption))), HE2.out.drew⟩
          · refine ⟨⟨m + 2, by omega, by go_num, fun j hj => ?_, HE2.out.drew⟩, by simp [intOf]; omega⟩
            by_cases hjm : j = m + 1
            · subst hjm; exact HV0.out (by assumption)
            · exact HA.out j (by omega)
    · have HA1 : Hid (∀ j, j < zs.length → Tre.nodeC zs j = 0) := fun j hj => HA.out j (by omega)
      have HB1 : Hid (Tre.first (Tre.nodeC zs) zs.length = 0) := Tre.first_none HA1.out
      clear HA
      have H24 : Hid (∀ (j : Nat) z, zs[j]? = some z → z.path.size ≤ 24) := fun j z hz => few_of_ok (Tre.nodeC_ok hz (HA1.out j (List.getElem?_eq_some_iff.1 hz).1)).1
      clear HA1
      have HT : Hid (∀ (wx : World) (p : ByteArray), Ext w wx → Calls Tryz.prog 21 #[.slice a zs.length cap, .string p] wx fun e w' => e = .returned (.int .i64 (Tre.atI zs p)) ∧ w' = wx) := fun wx p hw => l2At_any _ zs p wx (HS.out.ext hw)
      go_wp2_with fail
      refine (HT.out _ _ HE.out).mono ?_
      rintro e w2 ⟨rfl, rfl⟩
      have HT0 : Hid (Tre.atI zs Tre.top = Tre.atI zs (⟨#[47]⟩ : ByteArray)) := rfl
      generalize Tre.atI zs (⟨#[47]⟩ : ByteArray) = t0 at *
      by_cases ht0 : t0 < 0
      · go_wp2
        go_ret
        exact ⟨ret_int (by rw [HF.out, Tre.fault_top H20.out HB1.out (by rw [HT0.out]; exact ht0)]), HE.out⟩
      have HT1 : Hid (¬ Tre.atI zs Tre.top < 0) := by show ¬ _; rw [HT0.out]; exact ht0
      go_wp2
      go_loopw [6] (fun i wr => ∃ (k : Nat), k ≤ zs.length ∧ i = .int .i64 k ∧ Hid (∀ j, j < k → Tre.parC zs j = 0) ∧ Hid (Ext w wr)) (fun i _ => zs.length - (intOf i).toNat)
      case atStart => exact ⟨0, Nat.zero_le _, rfl, fun j h => by omega, HE.out⟩
      case round =>
        clear hk hlt HE
        obtain ⟨k, hk, rfl, HA, HE⟩ := hrel
        by_cases hlt : k < zs.length
        · obtain ⟨z, hzk⟩ : ∃ z, zs[k]? = some z := ⟨_, List.getElem?_eq_getElem hlt⟩
          obtain ⟨b, off, rfl, hb, hN⟩ := HX.out (by omega)
          obtain ⟨d0, d1, d2, d3, d4⟩ := hN.ext hb HE.out k z hzk
          have HZ : Hid (zs[k]? = some z) := hzk
          have h24 := H24.out k z hzk
          have HP : Hid (∀ wx : World, Calls Tryz.prog 67 #[.string z.path] wx fun e w' => e = .returned (.string (Tre.par z.path)) ∧ w' = wx) := fun wx => l1Parent_any z.path wx h24
          have HQ : Hid (Tre.parC zs k = if Tre.atI zs (Tre.par z.path) < 0 then 4 else 0) := Tre.parC_eq hzk
          clear hzk hN hb d1 d2 d3 d4
          go_wp2_with fail
          refine (HP.out _).mono ?_
          rintro e w3 ⟨rfl, rfl⟩
          go_wp2_with fail
          refine (HT.out _ _ HE.out).mono ?_
          rintro e w3 ⟨rfl, rfl⟩
          have HQ2 : Hid (∀ t : Int, t = Tre.atI zs (Tre.par z.path) → Tre.parC zs k = if t < 0 then 4 else 0) := by rintro t rfl; exact HQ.out
          obtain ⟨t1, ht1⟩ : ∃ t1, t1 = Tre.atI zs (Tre.par z.path) := ⟨_, rfl⟩
          have HQ3 := HQ2.out t1 ht1
          rw [← ht1]
          by_cases hneg : t1 < 0
          · rw [if_pos hneg] at HQ3
            have HR : Hid (F = 4) := by
              show F = 4
              rw [HF.out]; exact Tre.fault_par H20.out HB1.out (by have := HT1.out; omega) (by rw [← HQ3]; exact Tre.first_hit hlt HA.out (by rw [HQ3]; decide)) (by decide)
            clear HQ3 ht1
            go_wp2
            go_ret
            exact ⟨ret_int HR.out.symm, HE.out⟩
          · rw [if_neg hneg] at HQ3
            have HA2 : Hid (∀ j, j < k + 1 → Tre.parC zs j = 0) := by
              intro j hj
              by_cases hjk : j = k
              · subst hjk; exact HQ3
              · exact HA.out j (by omega)
            clear HQ3 ht1
            go_wp2
            exact ⟨⟨k + 1, by omega, by go_num, HA2, HE.out⟩, by simp [intOf]; omega⟩
        · have HA1 : Hid (∀ j, j < zs.length → Tre.parC zs j = 0) := fun j hj => HA.out j (by omega)
          have HB2 : Hid (Tre.first (Tre.parC zs) zs.length = 0) := Tre.first_none HA1.out
          clear HA
          go_wp2
          go_loopw [7] (fun i wr => ∃ (k : Nat), k ≤ zs.length ∧ i = .int .i64 k ∧ Hid (∀ j, j < k → Tre.ownC zs j = 0) ∧ Hid (Ext w wr)) (fun i _ => zs.length - (intOf i).toNat)
          case atStart => exact ⟨0, Nat.zero_le _, rfl, fun j h => by omega, HE.out⟩
          case round =>
            clear hk hlt HE
            obtain ⟨k, hk, rfl, HA, HE⟩ := hrel
            by_cases hlt : k < zs.length
            · obtain ⟨z, hzk⟩ : ∃ z, zs[k]? = some z := ⟨_, List.getElem?_eq_getElem hlt⟩
              obtain ⟨b, off, rfl, hb, hN⟩ := HX.out (by omega)
              obtain ⟨d0, d1, d2, d3, d4⟩ := hN.ext hb HE.out k z hzk
              have h24 := H24.out k z hzk
              have HP : Hid (∀ wx : World, Calls Tryz.prog 67 #[.string z.path] wx fun e w' => e = .returned (.string (Tre.par z.path)) ∧ w' = wx) := fun wx => l1Parent_any z.path wx h24
              have hpz := HA1.out k hlt
              rw [Tre.parC_eq hzk] at hpz
              rcases Tre.atI_range zs (Tre.par z.path) with ⟨hm, _⟩ | ⟨j, y, hj, hjl, hy, _⟩
              · rw [if_pos (by omega)] at hpz; cases hpz
              have HQ : Hid (Tre.ownC zs k = if y.owner ≠ 0 then 1 else 0) := Tre.ownC_eq hzk hj hy
              have HJ : Hid (Tre.atI zs (Tre.par z.path) = j) := hj
              obtain ⟨e0, e1, e2, e3, e4⟩ := hN.ext hb HE.out j y hy
              clear hzk hN hb d1 d2 d3 d4 e0 e1 e2 e4 hy hj hpz
              go_wp2_with fail
              refine (HP.out _).mono ?_
              rintro e w3 ⟨rfl, rfl⟩
              go_wp2_with fail
              refine (HT.out _ _ HE.out).mono ?_
              rintro e w3 ⟨rfl, rfl⟩
              rw [HJ.out]
              by_cases ho : y.owner ≠ 0
              · have HR : Hid (F = 1) := by
                  have hq := HQ.out
                  rw [if_pos ho] at hq
                  show F = 1
                  rw [HF.out]; exact Tre.fault_own H20.out HB1.out (by have := HT1.out; omega) HB2.out (by rw [← hq]; exact Tre.first_hit hlt HA.out (by rw [hq]; decide))
                go_wp2
                go_ret
                exact ⟨ret_int HR.out.symm, HE.out⟩
              · have HA2 : Hid (∀ j, j < k + 1 → Tre.ownC zs j = 0) := by
                  intro j hj
                  by_cases hjk : j = k
                  · subst hjk; have hq := HQ.out; rw [if_neg ho] at hq; exact hq
                  · exact HA.out j (by omega)
                go_wp2
                exact ⟨⟨k + 1, by omega, by go_num, HA2, HE.out⟩, by simp [intOf]; omega⟩
            · have HR : Hid (F = 0) := by
                show F = 0
                rw [HF.out]; exact Tre.fault_own H20.out HB1.out (by have := HT1.out; omega) HB2.out (Tre.first_none (fun j hj => HA.out j (by omega)))
              go_wp2
              go_ret
              exact ⟨ret_int HR.out.symm, HE.out⟩

end Go.Proofs.YtilinjjimiiplaaGreatDoor
