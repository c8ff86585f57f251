/- votes: what is a fault of a list of them; both VotesFaults. -/
import Derived.Test.YtfgjodnjahhanaaDoorVvVT1
import Derived.Test.YtfgjodnjahhanaaDoorVvH8
namespace Go.Proofs.YtfgjodnjahhanaaDoor
open Go.RowKit
namespace Vot
def ok (f : Int) (z : Vt) : Bool := (decide (1 ≤ z.frm) && decide (z.frm ≤ 3 * f + 1)) && okY z.code z.value z.path
def fault (f : Int) (zs : List Vt) : Int := if Msg.fOk f = false then 3 else if 40 < zs.length then 2 else if zs.all (ok f) then 0 else 3
theorem f_in {f : Int} (h : Msg.fOk f = true) : 1 ≤ f ∧ f ≤ 2 := by unfold Msg.fOk at h; simpa using h
theorem fault_f {f : Int} {zs : List Vt} (h : Msg.fOk f = false) : fault f zs = 3 := by unfold fault; rw [if_pos h]
theorem fault_many {f : Int} {zs : List Vt} (h : Msg.fOk f = true) (hl : 40 < zs.length) : fault f zs = 2 := by unfold fault; rw [if_neg (by simp [h]), if_pos hl]
theorem fault_bad {f : Int} {zs : List Vt} {z : Vt} (h : Msg.fOk f = true) (hl : ¬ 40 < zs.length) (hm : z ∈ zs) (hz : ok f z = false) : fault f zs = 3 := by
  unfold fault
  rw [if_neg (by simp [h]), if_neg hl, if_neg]
  intro ha
  rw [List.all_eq_true] at ha
  rw [ha z hm] at hz
  cases hz
theorem fault_none {f : Int} {zs : List Vt} (h : Msg.fOk f = true) (hl : ¬ 40 < zs.length) (ha : zs.all (ok f) = true) : fault f zs = 0 := by
  unfold fault
  rw [if_neg (by simp [h]), if_neg hl, if_pos ha]
theorem fault_zero {f : Int} {zs : List Vt} (h : fault f zs = 0) : 1 ≤ f ∧ f ≤ 2 ∧ zs.length ≤ 40 ∧ ∀ z ∈ zs, (1 ≤ z.frm ∧ z.frm ≤ 3 * f + 1) ∧ okY z.code z.value z.path = true := by
  unfold fault at h
  split at h
  · cases h
  · rename_i h0
    split at h
    · cases h
    · rename_i h1
      split at h
      · rename_i h2
        have hf := f_in (f := f) (by simpa using h0)
        refine ⟨hf.1, hf.2, by omega, fun z hz => ?_⟩
        rw [List.all_eq_true] at h2
        have h3 := h2 z hz
        unfold ok at h3
        simpa [Bool.and_eq_true] using h3
      · cases h
theorem all_take {f : Int} {zs : List Vt} {k : Nat} {z : Vt} (h : (zs.take k).all (ok f) = true) (hz : zs[k]? = some z) (ho : ok f z = true) : (zs.take (k + 1)).all (ok f) = true := by
  rw [List.take_add_one, hz, List.all_append, h]
  simp [ho]
theorem okY_path {c v : Int} {p : ByteArray} (h : okY c v p = true) : p.size ≤ 24 := by
  unfold okY at h
  simp only [Bool.and_eq_true, decide_eq_true_eq] at h
  exact h.2.2

set_option maxHeartbeats 4000000 in
set_option maxRecDepth 100000 in
theorem implVotesFault_any (f : Int) (v : Value) (zs : List Vt) (w : World) (hS : VtSlice w v zs) (hz : ∀ z ∈ zs, z.path.size ≤ maxLen) :
    Calls Tryd.prog 14 #[.int .i64 f, v] w fun e w' => e = .returned (.int .i64 (fault f zs)) ∧ Ext w w' := by
  obtain ⟨a, cap, rfl, hlc, hcm, hx⟩ := hS
  have HX : Hid (0 < zs.length → ∃ b off, a = some ⟨b, off, none⟩ ∧ b < w.heap.size ∧ VtsAt w b off zs) := hx
  have HM : Hid (∀ z ∈ zs, z.path.size ≤ maxLen) := hz
  clear hx hz
  unfold maxLen at hcm
  have HB : Hid (∀ wx : World, Calls Tryd.prog 26 #[.int .i64 f] wx fun e w' => e = .returned (.bool (Msg.fOk f)) ∧ w' = wx) := fun wx => isBadCount_any f wx
  cases hf : Msg.fOk f with
  | false =>
    rw [hf] at HB
    rw [fault_f hf]
    clear hf
    go_enter Tryd.func14, Tryd.ntmps14
    go_wp2_with fail
    refine (HB.out _).mono ?_
    rintro e w9 ⟨rfl, hw⟩
    rw [hw]
    clear hw w9
    go_wp2
    go_ret
    exact ⟨rfl, Ext.refl _⟩
  | true =>
    rw [hf] at HB
    obtain ⟨hf0, hf1⟩ := f_in hf
    by_cases hl : 40 < zs.length
    · rw [fault_many hf hl]
      clear hf
      go_enter Tryd.func14, Tryd.ntmps14
      go_wp2_with fail
      refine (HB.out _).mono ?_
      rintro e w9 ⟨rfl, hw⟩
      rw [hw]
      clear hw w9
      go_wp2
      go_ret
      exact ⟨rfl, Ext.refl _⟩
    have HFb : Hid (∀ z ∈ zs, ok f z = false → fault f zs = 3) := fun z hm ho => fault_bad hf hl hm ho
    have HFn : Hid (zs.all (ok f) = true → fault f zs = 0) := fun h => fault_none hf hl h
    clear hf
    go_enter Tryd.func14, Tryd.ntmps14
    go_wp2_with fail
    refine (HB.out _).mono ?_
    rintro e w9 ⟨rfl, hw⟩
    rw [hw]
    clear hw w9
    go_wp2
    go_loopw [15] (fun i wr => ∃ (k : Nat), k ≤ zs.length ∧ i = .int .i64 k ∧ Hid ((zs.take k).all (ok f) = true) ∧ Hid (Ext w wr)) (fun i _ => zs.length - (intOf i).toNat)
    case atStart => exact ⟨0, Nat.zero_le _, rfl, rfl, Ext.refl _⟩
    case round =>
      obtain ⟨k, hk, rfl, HA, HE⟩ := hrel
      by_cases hlt : k < zs.length
      · obtain ⟨z, hzk⟩ : ∃ z, zs[k]? = some z := ⟨_, List.getElem?_eq_getElem hlt⟩
        obtain ⟨b, off, rfl, hb, hN⟩ := HX.out (by omega)
        obtain ⟨d0, d1, d2, d3⟩ := hN.ext hb HE.out k z hzk
        have HZ : Hid (zs[k]? = some z) := hzk
        have hmem := List.mem_of_getElem? hzk
        have HI : Hid (∀ wx : World, Calls Tryd.prog 27 #[.int .i64 f, .int .i64 z.frm] wx fun e w' => e = .returned (.bool (decide (1 ≤ z.frm) && decide (z.frm ≤ 3 * f + 1))) ∧ w' = wx) := fun wx => isReplica_any f z.frm wx hf0 hf1
        have HY : Hid (∀ wx : World, Calls Tryd.prog 19 #[.agg #[.int .i64 z.code, .int .i64 z.value, .string z.path]] wx fun e w' => e = .returned (.bool (okY z.code z.value z.path)) ∧ Ext wx w') := fun wx => isReply_any z.code z.value z.path wx (HM.out z hmem)
        have HO : Hid (ok f z = ((decide (1 ≤ z.frm) && decide (z.frm ≤ 3 * f + 1)) && okY z.code z.value z.path)) := rfl
        have HR : Hid (ok f z = false → fault f zs = 3) := HFb.out z hmem
        generalize (decide (1 ≤ z.frm) && decide (z.frm ≤ 3 * f + 1)) = r1 at *
        generalize okY z.code z.value z.path = r2 at *
        clear hzk hN hmem
        cases r1 with
        | false =>
          have H3 : Hid (fault f zs = 3) := HR.out HO.out
          go_wp2_with fail
          refine (HI.out _).mono ?_
          rintro e w9 ⟨rfl, hw⟩
          rw [hw]
          clear hw w9
          go_wp2
          go_ret
          exact ⟨ret_int H3.out.symm, HE.out.alloc _⟩
        | true =>
        cases r2 with
        | false =>
          have H3 : Hid (fault f zs = 3) := HR.out HO.out
          go_wp2_with fail
          refine (HI.out _).mono ?_
          rintro e w9 ⟨rfl, hw⟩
          rw [hw]
          clear hw w9
          go_wp2_with fail
          refine (HY.out _).mono ?_
          rintro e w9 ⟨rfl, hb9⟩
          have HE9 : Hid (Ext w w9) := (HE.out.alloc _).trans hb9
          clear hb9
          go_wp2
          go_ret
          exact ⟨ret_int H3.out.symm, HE9.out⟩
        | true =>
          have HA2 : Hid ((zs.take (k + 1)).all (ok f) = true) := all_take HA.out HZ.out HO.out
          go_wp2_with fail
          refine (HI.out _).mono ?_
          rintro e w9 ⟨rfl, hw⟩
          rw [hw]
          clear hw w9
          go_wp2_with fail
          refine (HY.out _).mono ?_
          rintro e w9 ⟨rfl, hb9⟩
          have HE9 : Hid (Ext w w9) := (HE.out.alloc _).trans hb9
          clear hb9
          go_wp2
          exact ⟨⟨k + 1, by omega, by go_num, HA2, HE9⟩, by simp [intOf]; omega⟩
      · have hke : k = zs.length := by omega
        have H0 : Hid (fault f zs = 0) := HFn.out (by have := HA.out; rw [hke, List.take_length] at this; exact this)
        go_wp2
        go_ret
        exact ⟨ret_int H0.out.symm, HE.out⟩

set_option maxHeartbeats 4000000 in
set_option maxRecDepth 100000 in
theorem l14Fault_any (f : Int) (v : Value) (zs : List Vt) (w : World) (hS : VtSlice w v zs) (hz : ∀ z ∈ zs, z.path.size ≤ maxLen) :
    Calls Tryd.prog 24 #[.int .i64 f, v] w fun e w' => e = .returned (.int .i64 (fault f zs)) ∧ Ext w w' := by
  obtain ⟨a, cap, rfl, hlc, hcm, hx⟩ := hS
  have HX : Hid (0 < zs.length → ∃ b off, a = some ⟨b, off, none⟩ ∧ b < w.heap.size ∧ VtsAt w b off zs) := hx
  have HM : Hid (∀ z ∈ zs, z.path.size ≤ maxLen) := hz
  clear hx hz
  unfold maxLen at hcm
  have HB : Hid (∀ wx : World, Calls Tryd.prog 42 #[.int .i64 f] wx fun e w' => e = .returned (.bool (Msg.fOk f)) ∧ w' = wx) := fun wx => l8F_any f wx
  cases hf : Msg.fOk f with
  | false =>
    rw [hf] at HB
    rw [fault_f hf]
    clear hf
    go_enter Tryd.func24, Tryd.ntmps24
    go_wp2_with fail
    refine (HB.out _).mono ?_
    rintro e w9 ⟨rfl, hw⟩
    rw [hw]
    clear hw w9
    go_wp2
    go_ret
    exact ⟨rfl, Ext.refl _⟩
  | true =>
    rw [hf] at HB
    obtain ⟨hf0, hf1⟩ := f_in hf
    by_cases hl : 40 < zs.length
    · rw [fault_many hf hl]
      clear hf
      go_enter Tryd.func24, Tryd.ntmps24
      go_wp2_with fail
      refine (HB.out _).mono ?_
      rintro e w9 ⟨rfl, hw⟩
      rw [hw]
      clear hw w9
      go_wp2
      go_ret
      exact ⟨rfl, Ext.refl _⟩
    have HFb : Hid (∀ z ∈ zs, ok f z = false → fault f zs = 3) := fun z hm ho => fault_bad hf hl hm ho
    have HFn : Hid (zs.all (ok f) = true → fault f zs = 0) := fun h => fault_none hf hl h
    clear hf
    go_enter Tryd.func24, Tryd.ntmps24
    go_wp2_with fail
    refine (HB.out _).mono ?_
    rintro e w9 ⟨rfl, hw⟩
    rw [hw]
    clear hw w9
    go_wp2
    go_loopw [5] (fun i wr => ∃ (k : Nat), k ≤ zs.length ∧ i = .int .i64 k ∧ Hid ((zs.take k).all (ok f) = true) ∧ Hid (Ext w wr)) (fun i _ => zs.length - (intOf i).toNat)
    case atStart => exact ⟨0, Nat.zero_le _, rfl, rfl, Ext.refl _⟩
    case round =>
      obtain ⟨k, hk, rfl, HA, HE⟩ := hrel
      by_cases hlt : k < zs.length
      · obtain ⟨z, hzk⟩ : ∃ z, zs[k]? = some z := ⟨_, List.getElem?_eq_getElem hlt⟩
        obtain ⟨b, off, rfl, hb, hN⟩ := HX.out (by omega)
        obtain ⟨d0, d1, d2, d3⟩ := hN.ext hb HE.out k z hzk
        have HZ : Hid (zs[k]? = some z) := hzk
        have hmem := List.mem_of_getElem? hzk
        have HI0 : Hid (∀ bb, (decide (1 ≤ z.frm) && decide (z.frm ≤ 3 * f + 1)) = bb → ∀ wx : World, Calls Tryd.prog 43 #[.int .i64 f, .int .i64 z.frm] wx fun e w' => e = .returned (.bool bb) ∧ w' = wx) := fun bb h wx => l8Id_any f z.frm bb wx hf0 hf1 h
        have HI : Hid (∀ wx : World, Calls Tryd.prog 43 #[.int .i64 f, .int .i64 z.frm] wx fun e w' => e = .returned (.bool (decide (1 ≤ z.frm) && decide (z.frm ≤ 3 * f + 1))) ∧ w' = wx) := HI0.out _ rfl
        have HY : Hid (Calls Tryd.prog 17 #[.pointer (some ⟨b, off + k * 4 + 1, none⟩)] wr fun e w' => e = .returned (.bool (okY z.code z.value z.path)) ∧ w' = wr) := l6Reply_any b (off + k * 4 + 1) z.code z.value z.path wr d1 (by rw [Nat.add_assoc]; exact d2) (by rw [Nat.add_assoc]; exact d3) (HM.out z hmem)
        have HO : Hid (ok f z = ((decide (1 ≤ z.frm) && decide (z.frm ≤ 3 * f + 1)) && okY z.code z.value z.path)) := rfl
        have HR : Hid (ok f z = false → fault f zs = 3) := HFb.out z hmem
        clear HI0
        generalize (decide (1 ≤ z.frm) && decide (z.frm ≤ 3 * f + 1)) = r1 at *
        generalize okY z.code z.value z.path = r2 at *
        clear hzk hN hmem d1 d2 d3
        cases r1 with
        | false =>
          have H3 : Hid (fault f zs = 3) := HR.out HO.out
          go_wp2_with fail
          refine (HI.out _).mono ?_
          rintro e w9 ⟨rfl, hw⟩
          rw [hw]
          clear hw w9
          go_wp2
          go_ret
          exact ⟨ret_int H3.out.symm, HE.out⟩
        | true =>
        cases r2 with
        | false =>
          have H3 : Hid (fault f zs = 3) := HR.out HO.out
          go_wp2_with fail
          refine (HI.out _).mono ?_
          rintro e w9 ⟨rfl, hw⟩
          rw [hw]
          clear hw w9
          go_wp2_with fail
          refine HY.out.mono ?_
          rintro e w9 ⟨rfl, hw⟩
          rw [hw]
          clear hw w9
          go_wp2
          go_ret
          exact ⟨ret_int H3.out.symm, HE.out⟩
        | true =>
          have HA2 : Hid ((zs.take (k + 1)).all (ok f) = true) := all_take HA.out HZ.out HO.out
          go_wp2_with fail
          refine (HI.out _).mono ?_
          rintro e w9 ⟨rfl, hw⟩
          rw [hw]
          clear hw w9
          go_wp2_with fail
          refine HY.out.mono ?_
          rintro e w9 ⟨rfl, hw⟩
          rw [hw]
          clear hw w9
          go_wp2
          exact ⟨⟨k + 1, by omega, by go_num, HA2, HE⟩, by simp [intOf]; omega⟩
      · have hke : k = zs.length := by omega
        have H0 : Hid (fault f zs = 0) := HFn.out (by have := HA.out; rw [hke, List.take_length] at this; exact this)
        go_wp2
        go_ret
        exact ⟨ret_int H0.out.symm, HE.out⟩

set_option maxHeartbeats 1000000 in
theorem specVotesFault_any (f : Int) (v : Value) (zs : List Vt) (w : World) (hS : VtSlice w v zs) (hz : ∀ z ∈ zs, z.path.size ≤ maxLen) :
    Calls Tryd.prog 15 #[.int .i64 f, v] w fun e w' => e = .returned (.int .i64 (fault f zs)) ∧ Ext w w' := by
  have HF : Hid (Calls Tryd.prog 24 #[.int .i64 f, v] w fun e w' => e = .returned (.int .i64 (fault f zs)) ∧ Ext w w') := l14Fault_any f v zs w hS hz
  obtain ⟨a, cap, rfl, -, -, -⟩ := hS
  generalize fault f zs = c at *
  go_enter Tryd.func15, Tryd.ntmps15
  go_wp2_with fail
  refine HF.out.mono ?_
  rintro e w2 ⟨rfl, hb⟩
  have HE : Hid (Ext w w2) := hb
  clear hb
  go_wp2
  go_ret
  exact ⟨rfl, HE.out⟩
end Vot
end Go.Proofs.YtfgjodnjahhanaaDoor
