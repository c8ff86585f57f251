/- the specification's MsgFault. -/
import Derived.Test.YtecgjdgfjgcmdaaGreatRcH6
namespace Go.Proofs.YtecgjdgfjgcmdaaGreat
open Go.RowKit
theorem Msg.faultM_1 {f : Int} {m : Ms} (h : Msg.bareN m.kind m.slot m.value m.certs.length m.refs.length = false) : Msg.faultM f m = 1 := by unfold Msg.faultM; rw [if_pos h]
theorem Msg.faultM_2 {f : Int} {m : Ms} (h : Msg.bareN m.kind m.slot m.value m.certs.length m.refs.length = true) (h2 : Msg.boundsN f m.kind m.view m.from_ m.slot m.value = false) : Msg.faultM f m = 3 := by unfold Msg.faultM; rw [if_neg (by simp [h]), if_pos h2]
theorem Msg.faultM_3 {f : Int} {m : Ms} (h : Msg.bareN m.kind m.slot m.value m.certs.length m.refs.length = true) (h2 : Msg.boundsN f m.kind m.view m.from_ m.slot m.value = true) (h3 : Msg.manyN f m.certs.length m.refs.length = true) : Msg.faultM f m = 2 := by unfold Msg.faultM; rw [if_neg (by simp [h]), if_neg (by simp [h2]), if_pos h3]
theorem Msg.faultM_4 {f : Int} {m : Ms} (h : Msg.bareN m.kind m.slot m.value m.certs.length m.refs.length = true) (h2 : Msg.boundsN f m.kind m.view m.from_ m.slot m.value = true) (h3 : Msg.manyN f m.certs.length m.refs.length = false) : Msg.faultM f m = Msg.lists m := by unfold Msg.faultM; rw [if_neg (by simp [h]), if_neg (by simp [h2]), if_neg (by simp [h3])]
theorem Msg.fault_1 {f : Int} {m : Ms} (h : Msg.fOk f = false) : Msg.fault f m = 3 := by unfold Msg.fault; rw [if_pos h]
theorem Msg.fault_2 {f : Int} {m : Ms} (h : Msg.fOk f = true) : Msg.fault f m = Msg.faultM f m := by unfold Msg.fault; rw [if_neg (by simp [h])]
set_option maxHeartbeats 20000000 in
set_option maxRecDepth 100000 in
theorem l8Msg_any (f : Int) (m : Ms) (v u : Value) (b o : Nat) (w : World) (hf0 : 1 ≤ f) (hf1 : f ≤ 2) (hb1 : b < w.heap.size) (hm : MCs w b o m v u) (hS : MLs w v u m) :
    Calls Tryz.prog 168 #[.int .i64 f, .pointer (some ⟨b, o, none⟩)] w fun e w' => e = .returned (.int .i64 (Msg.faultM f m)) ∧ Ext w w' := by
  have HLi : Hid (0 ≤ m.view → m.view ≤ 20 → Calls Tryz.prog 184 #[.pointer (some ⟨b, o, none⟩)] w fun e w' => e = .returned (.int .i64 (Msg.lists m)) ∧ Ext w w') := fun h0 h1 => l8Lists_any m v u b o w hb1 hm hS h0 h1
  obtain ⟨a, c, a', c', rfl, rfl, hc1, hc2, hc3, hc4⟩ := hS.form
  unfold maxLen at hc2 hc4
  clear hS
  obtain ⟨p0, p1, p2, p3, p4, p5, p6⟩ := hm
  have HBa : Hid (Calls Tryz.prog 183 #[.pointer (some ⟨b, o, none⟩)] w fun e w' => e = .returned (.bool (Msg.bareN m.kind m.slot m.value m.certs.length m.refs.length)) ∧ w' = w) := l8Bare_any m.kind m.slot m.value m.certs.length m.refs.length _ _ _ _ b o w ⟨p0, p3, p4, p5, p6⟩
  have e1 : IntKind.i64.wrap (3 * f) = 3 * f := by rw [IntKind.wrap_i64]; omega
  have e2 : IntKind.i64.wrap (3 * f + 1) = 3 * f + 1 := by rw [IntKind.wrap_i64]; omega
  have e3 : IntKind.i64.wrap (m.refs.length : Int) = (m.refs.length : Int) := by rw [IntKind.wrap_i64]; omega
  cases hb0 : Msg.bareN m.kind m.slot m.value m.certs.length m.refs.length with
  | false =>
    rw [hb0] at HBa
    have HF : Hid (Msg.faultM f m = 1) := Msg.faultM_1 hb0
    clear hb0 HLi
    go_enter Tryz.func168, Tryz.ntmps168
    go_wp2_with fail
    refine (HBa.out).mono ?_
    rintro e w9 ⟨rfl, hw⟩
    rw [hw]
    clear hw w9
    go_wp2
    go_ret
    exact ⟨ret_int HF.out.symm, Ext.refl _⟩
  | true =>
    rw [hb0] at HBa
    by_cases hv : 0 ≤ m.view ∧ m.view ≤ 20
    · have qv : (decide (0 ≤ m.view) && decide (m.view ≤ 20)) = true := by simp; omega
      by_cases hfr : 1 ≤ m.from_ ∧ m.from_ ≤ 3 * f + 1
      · have qf : (decide (1 ≤ m.from_) && decide (m.from_ ≤ 3 * f + 1)) = true := by simp; omega
        by_cases hk : m.kind ≤ 3
        · by_cases hs : 1 ≤ m.slot ∧ m.slot ≤ 30
          · have qs : (decide (1 ≤ m.slot) && decide (m.slot ≤ 30)) = true := by simp; omega
            by_cases hu : 0 ≤ m.value ∧ m.value ≤ 12
            · have qu : (decide (0 ≤ m.value) && decide (m.value ≤ 12)) = true := by simp; omega
              have hB : Msg.boundsN f m.kind m.view m.from_ m.slot m.value = true := decide_eq_true (by omega)
              by_cases hc : 30 < m.certs.length
              · have hM : Msg.manyN f m.certs.length m.refs.length = true := decide_eq_true (by omega)
                have HF : Hid (Msg.faultM f m = 2) := Msg.faultM_3 hb0 hB hM
                go_enter Tryz.func168, Tryz.ntmps168
                go_wp2_with fail
                refine (HBa.out).mono ?_
                rintro e w9 ⟨rfl, hw⟩
                rw [hw]
                clear hw w9
                go_wp2_with fail
                refine (l1In_isM _ _ _ _ _ qv).mono ?_
                rintro e w9 ⟨rfl, hw⟩
                rw [hw]
                clear hw w9
                go_wp2_with fail
                refine (l8Id_any _ _ _ _ hf0 hf1 qf).mono ?_
                rintro e w9 ⟨rfl, hw⟩
                rw [hw]
                clear hw w9
                go_wp2_with fail
                refine (l1In_isM _ _ _ _ _ qs).mono ?_
                rintro e w9 ⟨rfl, hw⟩
                rw [hw]
                clear hw w9
                go_wp2_with fail
                refine (l1In_isM _ _ _ _ _ qu).mono ?_
                rintro e w9 ⟨rfl, hw⟩
                rw [hw]
                clear hw w9
                go_wp2
                go_ret
                exact ⟨ret_int HF.out.symm, Ext.refl _⟩
              · by_cases hr : 3 * f + 1 < m.refs.length
                · have hM : Msg.manyN f m.certs.length m.refs.length = true := decide_eq_true (by omega)
                  have HF : Hid (Msg.faultM f m = 2) := Msg.faultM_3 hb0 hB hM
                  go_enter Tryz.func168, Tryz.ntmps168
                  go_wp2_with fail
                  refine (HBa.out).mono ?_
                  rintro e w9 ⟨rfl, hw⟩
                  rw [hw]
                  clear hw w9
                  go_wp2_with fail
                  refine (l1In_isM _ _ _ _ _ qv).mono ?_
                  rintro e w9 ⟨rfl, hw⟩
                  rw [hw]
                  clear hw w9
                  go_wp2_with fail
                  refine (l8Id_any _ _ _ _ hf0 hf1 qf).mono ?_
                  rintro e w9 ⟨rfl, hw⟩
                  rw [hw]
                  clear hw w9
                  go_wp2_with fail
                  refine (l1In_isM _ _ _ _ _ qs).mono ?_
                  rintro e w9 ⟨rfl, hw⟩
                  rw [hw]
                  clear hw w9
                  go_wp2_with fail
                  refine (l1In_isM _ _ _ _ _ qu).mono ?_
                  rintro e w9 ⟨rfl, hw⟩
                  rw [hw]
                  clear hw w9
                  go_wp2
                  go_ret
                  exact ⟨ret_int HF.out.symm, Ext.refl _⟩
                · have hM : Msg.manyN f m.certs.length m.refs.length = false := decide_eq_false (by omega)
                  have HL := HLi.out (by omega) (by omega)
                  have HF : Hid (Msg.faultM f m = Msg.lists m) := Msg.faultM_4 hb0 hB hM
                  generalize Msg.lists m = R at *
                  go_enter Tryz.func168, Tryz.ntmps168
                  go_wp2_with fail
                  refine (HBa.out).mono ?_
                  rintro e w9 ⟨rfl, hw⟩
                  rw [hw]
                  clear hw w9
                  go_wp2_with fail
                  refine (l1In_isM _ _ _ _ _ qv).mono ?_
                  rintro e w9 ⟨rfl, hw⟩
                  rw [hw]
                  clear hw w9
                  go_wp2_with fail
                  refine (l8Id_any _ _ _ _ hf0 hf1 qf).mono ?_
                  rintro e w9 ⟨rfl, hw⟩
                  rw [hw]
                  clear hw w9
                  go_wp2_with fail
                  refine (l1In_isM _ _ _ _ _ qs).mono ?_
                  rintro e w9 ⟨rfl, hw⟩
                  rw [hw]
                  clear hw w9
                  go_wp2_with fail
                  refine (l1In_isM _ _ _ _ _ qu).mono ?_
                  rintro e w9 ⟨rfl, hw⟩
                  rw [hw]
                  clear hw w9
                  go_wp2_with fail
                  refine HL.mono ?_
                  rintro e w9 ⟨rfl, hb⟩
                  have HB9 : Hid (Ext w w9) := hb
                  clear hb
                  go_wp2
                  go_ret
                  exact ⟨ret_int HF.out.symm, HB9.out⟩
            · have qu : (decide (0 ≤ m.value) && decide (m.value ≤ 12)) = false := by rw [Bool.and_eq_false_iff]; simp; omega
              have hB : Msg.boundsN f m.kind m.view m.from_ m.slot m.value = false := decide_eq_false (by omega)
              have HF : Hid (Msg.faultM f m = 3) := Msg.faultM_2 hb0 hB
              go_enter Tryz.func168, Tryz.ntmps168
              go_wp2_with fail
              refine (HBa.out).mono ?_
              rintro e w9 ⟨rfl, hw⟩
              rw [hw]
              clear hw w9
              go_wp2_with fail
              refine (l1In_isM _ _ _ _ _ qv).mono ?_
              rintro e w9 ⟨rfl, hw⟩
              rw [hw]
              clear hw w9
              go_wp2_with fail
              refine (l8Id_any _ _ _ _ hf0 hf1 qf).mono ?_
              rintro e w9 ⟨rfl, hw⟩
              rw [hw]
              clear hw w9
              go_wp2_with fail
              refine (l1In_isM _ _ _ _ _ qs).mono ?_
              rintro e w9 ⟨rfl, hw⟩
              rw [hw]
              clear hw w9
              go_wp2_with fail
              refine (l1In_isM _ _ _ _ _ qu).mono ?_
              rintro e w9 ⟨rfl, hw⟩
              rw [hw]
              clear hw w9
              go_wp2
              go_ret
              exact ⟨ret_int HF.out.symm, Ext.refl _⟩
          · have qs : (decide (1 ≤ m.slot) && decide (m.slot ≤ 30)) = false := by rw [Bool.and_eq_false_iff]; simp; omega
            have hB : Msg.boundsN f m.kind m.view m.from_ m.slot m.value = false := decide_eq_false (by omega)
            have HF : Hid (Msg.faultM f m = 3) := Msg.faultM_2 hb0 hB
            go_enter Tryz.func168, Tryz.ntmps168
            go_wp2_with fail
            refine (HBa.out).mono ?_
            rintro e w9 ⟨rfl, hw⟩
            rw [hw]
            clear hw w9
            go_wp2_with fail
            refine (l1In_isM _ _ _ _ _ qv).mono ?_
            rintro e w9 ⟨rfl, hw⟩
            rw [hw]
            clear hw w9
            go_wp2_with fail
            refine (l8Id_any _ _ _ _ hf0 hf1 qf).mono ?_
            rintro e w9 ⟨rfl, hw⟩
            rw [hw]
            clear hw w9
            go_wp2_with fail
            refine (l1In_isM _ _ _ _ _ qs).mono ?_
            rintro e w9 ⟨rfl, hw⟩
            rw [hw]
            clear hw w9
            go_wp2
            go_ret
            exact ⟨ret_int HF.out.symm, Ext.refl _⟩
        · have hB : Msg.boundsN f m.kind m.view m.from_ m.slot m.value = true := decide_eq_true (by omega)
          by_cases hc : 30 < m.certs.length
          · have hM : Msg.manyN f m.certs.length m.refs.length = true := decide_eq_true (by omega)
            have HF : Hid (Msg.faultM f m = 2) := Msg.faultM_3 hb0 hB hM
            go_enter Tryz.func168, Tryz.ntmps168
            go_wp2_with fail
            refine (HBa.out).mono ?_
            rintro e w9 ⟨rfl, hw⟩
            rw [hw]
            clear hw w9
            go_wp2_with fail
            refine (l1In_isM _ _ _ _ _ qv).mono ?_
            rintro e w9 ⟨rfl, hw⟩
            rw [hw]
            clear hw w9
            go_wp2_with fail
            refine (l8Id_any _ _ _ _ hf0 hf1 qf).mono ?_
            rintro e w9 ⟨rfl, hw⟩
            rw [hw]
            clear hw w9
            go_wp2
            go_ret
            exact ⟨ret_int HF.out.symm, Ext.refl _⟩
          · by_cases hr : 3 * f + 1 < m.refs.length
            · have hM : Msg.manyN f m.certs.length m.refs.length = true := decide_eq_true (by omega)
              have HF : Hid (Msg.faultM f m = 2) := Msg.faultM_3 hb0 hB hM
              go_enter Tryz.func168, Tryz.ntmps168
              go_wp2_with fail
              refine (HBa.out).mono ?_
              rintro e w9 ⟨rfl, hw⟩
              rw [hw]
              clear hw w9
              go_wp2_with fail
              refine (l1In_isM _ _ _ _ _ qv).mono ?_
              rintro e w9 ⟨rfl, hw⟩
              rw [hw]
              clear hw w9
              go_wp2_with fail
              refine (l8Id_any _ _ _ _ hf0 hf1 qf).mono ?_
              rintro e w9 ⟨rfl, hw⟩
              rw [hw]
              clear hw w9
              go_wp2
              go_ret
              exact ⟨ret_int HF.out.symm, Ext.refl _⟩
            · have hM : Msg.manyN f m.certs.length m.refs.length = false := decide_eq_false (by omega)
              have HL := HLi.out (by omega) (by omega)
              have HF : Hid (Msg.faultM f m = Msg.lists m) := Msg.faultM_4 hb0 hB hM
              generalize Msg.lists m = R at *
              go_enter Tryz.func168, Tryz.ntmps168
              go_wp2_with fail
              refine (HBa.out).mono ?_
              rintro e w9 ⟨rfl, hw⟩
              rw [hw]
              clear hw w9
              go_wp2_with fail
              refine (l1In_isM _ _ _ _ _ qv).mono ?_
              rintro e w9 ⟨rfl, hw⟩
              rw [hw]
              clear hw w9
              go_wp2_with fail
              refine (l8Id_any _ _ _ _ hf0 hf1 qf).mono ?_
              rintro e w9 ⟨rfl, hw⟩
              rw [hw]
              clear hw w9
              go_wp2_with fail
              refine HL.mono ?_
              rintro e w9 ⟨rfl, hb⟩
              have HB9 : Hid (Ext w w9) := hb
              clear hb
              go_wp2
              go_ret
              exact ⟨ret_int HF.out.symm, HB9.out⟩
      · have qf : (decide (1 ≤ m.from_) && decide (m.from_ ≤ 3 * f + 1)) = false := by rw [Bool.and_eq_false_iff]; simp; omega
        have hB : Msg.boundsN f m.kind m.view m.from_ m.slot m.value = false := decide_eq_false (by omega)
        have HF : Hid (Msg.faultM f m = 3) := Msg.faultM_2 hb0 hB
        go_enter Tryz.func168, Tryz.ntmps168
        go_wp2_with fail
        refine (HBa.out).mono ?_
        rintro e w9 ⟨rfl, hw⟩
        rw [hw]
        clear hw w9
        go_wp2_with fail
        refine (l1In_isM _ _ _ _ _ qv).mono ?_
        rintro e w9 ⟨rfl, hw⟩
        rw [hw]
        clear hw w9
        go_wp2_with fail
        refine (l8Id_any _ _ _ _ hf0 hf1 qf).mono ?_
        rintro e w9 ⟨rfl, hw⟩
        rw [hw]
        clear hw w9
        go_wp2
        go_ret
        exact ⟨ret_int HF.out.symm, Ext.refl _⟩
    · have qv : (decide (0 ≤ m.view) && decide (m.view ≤ 20)) = false := by rw [Bool.and_eq_false_iff]; simp; omega
      have hB : Msg.boundsN f m.kind m.view m.from_ m.slot m.value = false := decide_eq_false (by omega)
      have HF : Hid (Msg.faultM f m = 3) := Msg.faultM_2 hb0 hB
      go_enter Tryz.func168, Tryz.ntmps168
      go_wp2_with fail
      refine (HBa.out).mono ?_
      rintro e w9 ⟨rfl, hw⟩
      rw [hw]
      clear hw w9
      go_wp2_with fail
      refine (l1In_isM _ _ _ _ _ qv).mono ?_
      rintro e w9 ⟨rfl, hw⟩
      rw [hw]
      clear hw w9
      go_wp2
      go_ret
      exact ⟨ret_int HF.out.symm, Ext.refl _⟩

end Go.Proofs.YtecgjdgfjgcmdaaGreat
