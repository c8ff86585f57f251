/- the program's clientOrPathFault, WatchesFault. -/
import Derived.Test.YtgofggmgnodplaaDoorK2
import Derived.Test.YtgofggmgnodplaaDoorK3
import Derived.Test.YtgofggmgnodplaaDoorW5
namespace Go.Proofs.YtgofggmgnodplaaDoor
open Go.RowKit Go.Maps

set_option maxHeartbeats 1000000 in
theorem clientOrPath_any (n : Int) (p : ByteArray) (w : World) (hg : Gd w) :
    Calls Tryd.prog 25 #[.int .i64 n, .string p] w fun e w' => e = .returned (.int .i64 (Wch.code ⟨n, p⟩)) ∧ Ext w w' := by
  have HI : Hid (Calls Tryd.prog 42 #[.int .i64 n, .int .i64 1, .int .i64 9] w fun e w' => e = .returned (.bool (Wch.idOk n)) ∧ w' = w) := isWithin_any n 1 9 w
  have HF : Hid (Calls Tryd.prog 35 #[.string p] w fun e w' => e = .returned (.int .i64 (Pth.faultI p.data.toList)) ∧ Ext w w') := pathFault_any p w hg
  clear hg
  cases hi : Wch.idOk n with
  | false =>
    rw [Wch.code_id (z := ⟨n, p⟩) hi]
    rw [hi] at HI
    go_enter Tryd.func25, Tryd.ntmps25
    go_wp2_with fail
    refine HI.out.mono ?_
    rintro e w1 ⟨rfl, hw1⟩; rw [hw1]; clear hw1 w1
    go_wp2
    go_ret
    exact ⟨rfl, Ext.refl _⟩
  | true =>
    rw [Wch.code_path (z := ⟨n, p⟩) hi]
    rw [hi] at HI
    show Calls _ _ _ _ fun e w' => e = .returned (.int .i64 (Pth.faultI p.data.toList)) ∧ Ext w w'
    generalize Pth.faultI p.data.toList = c at *
    go_enter Tryd.func25, Tryd.ntmps25
    go_wp2_with fail
    refine HI.out.mono ?_
    rintro e w1 ⟨rfl, hw1⟩; rw [hw1]; clear hw1 w1
    go_wp2_with fail
    refine HF.out.mono ?_
    rintro e w2 ⟨rfl, hb⟩
    have HB : Hid (Ext w w2) := hb
    clear hb
    go_wp2
    go_ret
    exact ⟨rfl, HB.out⟩
theorem okw_of {z : Wt} (h : Wch.code z = 0) : Okw z := by
  obtain ⟨h1, h2⟩ := Wch.code_zero h
  have h3 := few_of_ok h2
  unfold Wch.idOk at h1
  simp only [Bool.and_eq_true, decide_eq_true_eq] at h1
  exact ⟨by omega, by omega, by omega⟩
/-- The first k watches with their places. -/
def placed (l : List Wt) (k : Nat) : List (Wt × Nat) := (l.take k).zipIdx
theorem placed_succ {l : List Wt} {k : Nat} {z : Wt} (hz : l[k]? = some z) : placed l (k + 1) = placed l k ++ [(z, k)] := by
  obtain ⟨hk, he⟩ := List.getElem?_eq_some_iff.1 hz
  unfold placed
  rw [List.take_succ_eq_append_getElem hk, List.zipIdx_append, he]
  simp [List.length_take, Nat.min_eq_left (Nat.le_of_lt hk)]
theorem placed_has (l : List Wt) (k : Nat) (z : Wt) : hasK (placed l k) z = decide (z ∈ l.take k) := by
  unfold hasK placed
  rw [Bool.eq_iff_iff, List.any_eq_true, decide_eq_true_eq]
  constructor
  · rintro ⟨p, hp, h⟩
    have h1 : p.1 = z := by simpa using h
    obtain ⟨h2, h3, h4⟩ := List.mem_zipIdx hp
    rw [← h1, h4]
    exact List.getElem_mem _
  · intro h
    obtain ⟨i, hi⟩ := List.getElem?_of_mem h
    refine ⟨(z, i), ?_, by simp⟩
    rw [List.mk_mem_zipIdx_iff_getElem?]
    exact hi

set_option maxHeartbeats 2000000 in
set_option maxRecDepth 100000 in
theorem implWatchesFault_any (v : Value) (l : List Wt) (w : World) (hg : Gd w) (hS : WtSlice w v l) :
    Calls Tryd.prog 9 #[v] w fun e w' => e = .returned (.int .i64 (Wch.fault l)) ∧ Ext w w' := by
  have HG : Hid (Gd w) := hg
  obtain ⟨a, cap, rfl, hlc, hcm, hx⟩ := hS
  have HX : Hid (0 < l.length → ∃ b off, a = some ⟨b, off, none⟩ ∧ b < w.heap.size ∧ WtsAt w b off l) := hx
  clear hx hg
  unfold maxLen at hcm
  by_cases h20 : 20 < l.length
  · rw [Wch.fault_many h20]
    go_enter Tryd.func9, Tryd.ntmps9
    go_wp2
    go_ret
    exact ⟨rfl, Ext.refl _⟩
  obtain ⟨F, hF⟩ : ∃ F, F = Wch.fault l := ⟨_, rfl⟩
  have HF : Hid (F = Tre.first (Wch.wC l) l.length) := by rw [hF, Wch.fault_few h20]; rfl
  rw [← hF]
  clear hF
  have hmk := make_lookout
  go_enter Tryd.func9, Tryd.ntmps9
  go_wp2
  go_loopw [15] (fun i wr => ∃ (k : Nat), k ≤ l.length ∧ i = .int .i64 k ∧ Hid (∀ j, j < k → Wch.wC l j = 0) ∧ Hid (WMap wr w.heap.size k (placed l k)) ∧ Hid (Ext w wr)) (fun i _ => l.length - (intOf i).toNat)
  case atStart => exact ⟨0, Nat.zero_le _, rfl, fun j h => by omega, WMap.made _, (Ext.refl _).alloc _⟩
  case round =>
    obtain ⟨k, hk, rfl, HA, HM, HE⟩ := hrel
    by_cases hlt : k < l.length
    · obtain ⟨z, hzk⟩ : ∃ z, l[k]? = some z := ⟨_, List.getElem?_eq_getElem hlt⟩
      obtain ⟨b, off, rfl, hb, hN⟩ := HX.out (by omega)
      obtain ⟨d0, d1⟩ := hN.ext hb HE.out k z hzk
      have HZ : Hid (l[k]? = some z) := hzk
      have HV : Hid (∀ c : Int, c ≠ 0 → Wch.wC l k = c → c = F) := fun c h0 hc => by
        rw [HF.out, ← hc]; exact (Tre.first_hit hlt HA.out (by rw [hc]; exact h0)).symm
      have HC : Hid (∀ wx : World, Ext w wx → Calls Tryd.prog 25 #[.int .i64 z.client, .string z.path] wx fun e w' => e = .returned (.int .i64 (Wch.code z)) ∧ Ext wx w') := fun wx h => clientOrPath_any z.client z.path wx (HG.out.ext h)
      clear hzk hN hb
      obtain ⟨c, hc⟩ : ∃ c, c = Wch.code z := ⟨_, rfl⟩
      have HCC : Hid (c = Wch.code z) := hc
      rw [← hc] at HC
      clear hc
      have hwr : w.heap.size < wr.heap.size := HM.out.lt
      by_cases hc0 : c ≠ 0
      · go_wp2_with fail
        refine (HC.out _ (HE.out.alloc _)).mono ?_
        rintro e w2 ⟨rfl, hb2⟩
        have HE2 : Hid (Ext w w2) := (HE.out.alloc _).trans hb2
        clear hb2
        go_wp2
        go_ret
        exact ⟨ret_int (HV.out c hc0 (Wch.wC_code HZ.out HCC.out hc0)), HE2.out⟩
      · have hc1 : c = 0 := by omega
        subst hc1
        have hok : Okw z := okw_of HCC.out.symm
        have HH : Hid (∀ wx : World, WMap wx w.heap.size k (placed l k) → Calls Tryd.prog 26 #[.map (some w.heap.size), wtagg z] wx fun e w' => e = .returned (.bool (decide (z ∈ l.take k))) ∧ Ext wx w') := fun wx h => by
          have := lookHas_any w.heap.size k (placed l k) z wx h hok
          rw [placed_has] at this
          exact this
        have HT : Hid (z ∉ l.take k → ∀ wx : World, WMap wx w.heap.size k (placed l k) → Calls Tryd.prog 27 #[.map (some w.heap.size), wtagg z, .int .i64 k] wx fun e w' => e = .returned (.tuple #[]) ∧ WMap w' w.heap.size (k + 1) (placed l (k + 1)) ∧ Upd w.heap.size wx w') := fun hn wx h => by
          have := lookTake_any w.heap.size k (placed l k) z k wx h hok (by omega) (by omega) (by rw [placed_has]; simpa using hn)
          rw [← placed_succ HZ.out] at this
          exact this
        unfold wtagg at HH HT
        clear hc0 hok
        by_cases hin : z ∈ l.take k
        · rw [decide_eq_true hin] at HH
          have HR : Hid (6 = F) := HV.out 6 (by decide) (by rw [Wch.wC_at HZ.out HCC.out, if_pos (fun h => (Wch.atI_new HZ.out).1 h hin)])
          clear hin HT
          go_wp2_with fail
          refine (HC.out _ (HE.out.alloc _)).mono ?_
          rintro e w2 ⟨rfl, hb2⟩
          have HE2 : Hid (Ext w w2) := (HE.out.alloc _).trans hb2
          have HM2 : Hid (WMap w2 w.heap.size k (placed l k)) := (HM.out.ext ((Ext.refl _).alloc _)).ext hb2
          obtain ⟨hcl, -⟩ := Ext.cell hb2
          have q0 : w2.cell? ⟨wr.heap.size, 0, none⟩ = some (.int .i64 z.client) := by rw [hcl _ _ (by simp)]; simp
          have q1 : w2.cell? ⟨wr.heap.size, 1, none⟩ = some (.string z.path) := by rw [hcl _ _ (by simp)]; simp
          clear hb2 hcl d0 d1
          go_wp2_with fail
          refine (HH.out _ HM2.out).mono ?_
          rintro e w3 ⟨rfl, hb3⟩
          have HE3 : Hid (Ext w w3) := HE2.out.trans hb3
          clear hb3
          go_wp2
          go_ret
          exact ⟨ret_int HR.out, HE3.out⟩
        · rw [decide_eq_false hin] at HH
          have HA2 : Hid (∀ j, j < k + 1 → Wch.wC l j = 0) := by
            intro j hj
            by_cases hjk : j = k
            · subst hjk; rw [Wch.wC_at HZ.out HCC.out, if_neg (by simpa using (Wch.atI_new HZ.out).2 hin)]
            · exact HA.out j (by omega)
          have HT2 : Hid (∀ wx : World, WMap wx w.heap.size k (placed l k) → Calls Tryd.prog 27 #[.map (some w.heap.size), .agg #[.int .i64 z.client, .string z.path], .int .i64 k] wx fun e w' => e = .returned (.tuple #[]) ∧ WMap w' w.heap.size (k + 1) (placed l (k + 1)) ∧ Upd w.heap.size wx w') := HT.out hin
          clear hin HT
          go_wp2_with fail
          refine (HC.out _ (HE.out.alloc _)).mono ?_
          rintro e w2 ⟨rfl, hb2⟩
          have HE2 : Hid (Ext w w2) := (HE.out.alloc _).trans hb2
          have HM2 : Hid (WMap w2 w.heap.size k (placed l k)) := (HM.out.ext ((Ext.refl _).alloc _)).ext hb2
          obtain ⟨hcl, -⟩ := Ext.cell hb2
          have q0 : w2.cell? ⟨wr.heap.size, 0, none⟩ = some (.int .i64 z.client) := by rw [hcl _ _ (by simp)]; simp
          have q1 : w2.cell? ⟨wr.heap.size, 1, none⟩ = some (.string z.path) := by rw [hcl _ _ (by simp)]; simp
          have hl2 : wr.heap.size < w2.heap.size := by have := hb2.size; simp at this; omega
          clear hb2 hcl d0 d1
          go_wp2_with fail
          refine (HH.out _ HM2.out).mono ?_
          rintro e w3 ⟨rfl, hb3⟩
          have HE3 : Hid (Ext w w3) := HE2.out.trans hb3
          have HM3 : Hid (WMap w3 w.heap.size k (placed l k)) := HM2.out.ext hb3
          obtain ⟨hcl, -⟩ := Ext.cell hb3
          have p0 : w3.cell? ⟨wr.heap.size, 0, none⟩ = some (.int .i64 z.client) := by rw [hcl _ _ hl2]; exact q0
          have p1 : w3.cell? ⟨wr.heap.size, 1, none⟩ = some (.string z.path) := by rw [hcl _ _ hl2]; exact q1
          clear hb3 hcl q0 q1
          go_wp2_with fail
          refine (HT2.out _ HM3.out).mono ?_
          rintro e w4 ⟨rfl, hM4, hu4⟩
          have HE4 : Hid (Ext w w4) := hu4.to_ext HE3.out (Nat.le_refl _)
          have HM4 : Hid (WMap w4 w.heap.size (k + 1) (placed l (k + 1))) := hM4
          clear hM4 hu4 p0 p1
          go_wp2
          exact ⟨⟨k + 1, by omega, by go_num, HA2, HM4, HE4⟩, by simp [intOf]; omega⟩
    · have HR : Hid (0 = F) := by rw [HF.out]; exact (Tre.first_none (fun j hj => HA.out j (by omega))).symm
      go_wp2
      go_ret
      exact ⟨ret_int HR.out, HE.out⟩
end Go.Proofs.YtgofggmgnodplaaDoor
