/- OpText of the specification and of the program, at every operation. -/
import Derived.Test.YtdjnkchaapcjpaaGreatDoorP5
import Derived.Test.YtdjnkchaapcjpaaGreatDoorO7
import Derived.Test.YtdjnkchaapcjpaaGreatDoorP3a
import Derived.Test.YtdjnkchaapcjpaaGreatDoorP3b
namespace Go.Proofs.YtdjnkchaapcjpaaGreatDoor
open Go.RowKit
theorem Opr.noExtra {k : Int} {p : ByteArray} {d v : Int} {s q : Bool} (h : Opr.fault ⟨k, p, d, v, s, q⟩ = 0) (hk : k ≠ 3) : s = false ∧ q = false := by
  have h1 := (Opr.fault_zero h).1
  unfold Opr.extra at h1
  simp only [Bool.or_eq_false_iff] at h1
  have h2 := h1.2.2.2
  simp [hk] at h2
  exact h2
theorem Opr.bounds {o : Opn} (h : Opr.fault o = 0) : 0 ≤ o.data ∧ o.data ≤ 9999 ∧ -1 ≤ o.version ∧ o.version ≤ 999 := by
  simpa [Opr.inR] using (Opr.fault_zero h).2.1
set_option maxHeartbeats 1000000 in
theorem l5Text_any (b off : Nat) (z : Opn) (w : World) (hb : b < w.heap.size) (hO : OAt w b off z) (hf : Opr.fault z = 0) :
    Calls Tryz.prog 67 #[.pointer (some ⟨b, off, none⟩)] w fun e w' => e = .returned (.string (mkB (Opr.text z))) ∧ Ext w w' := by
  obtain ⟨k, p, d, v, s, q⟩ := z
  have hk := Opr.fault_zero_kind hf
  have hbd := Opr.bounds hf
  have hpz := (Opr.fault_zero hf).2.2
  simp only at hk hbd hpz
  rcases kinds8 hk.1 hk.2 with h | h | h | h | h | h | h | h <;> subst h
  · obtain ⟨rfl, rfl⟩ := Opr.noExtra hf (by decide)
    exact l5Text_1 b off p d v w hb hO
  · obtain ⟨rfl, rfl⟩ := Opr.noExtra hf (by decide)
    exact l5Text_2 b off p d v w hb hO
  · have hp := few_of_ok (s := p) (hpz rfl)
    cases s <;> cases q
    · exact l5Text_3_ff b off p d v w hb hO hp hbd.1 hbd.2.1
    · exact l5Text_3_ft b off p d v w hb hO hp hbd.1 hbd.2.1
    · exact l5Text_3_tf b off p d v w hb hO hp hbd.1 hbd.2.1
    · exact l5Text_3_tt b off p d v w hb hO hp hbd.1 hbd.2.1
  · obtain ⟨rfl, rfl⟩ := Opr.noExtra hf (by decide)
    have hp := few_of_ok (s := p) (hpz rfl)
    by_cases hv : v = -1
    · exact l5Text_4_any b off p d v w hb hO hp hv
    · exact l5Text_4_num b off p d v w hb hO hp (by omega) hbd.2.2.2
  · obtain ⟨rfl, rfl⟩ := Opr.noExtra hf (by decide)
    have hp := few_of_ok (s := p) (hpz rfl)
    by_cases hv : v = -1
    · exact l5Text_5_any b off p d v w hb hO hp hbd.1 hbd.2.1 hv
    · exact l5Text_5_num b off p d v w hb hO hp hbd.1 hbd.2.1 (by omega) hbd.2.2.2
  · obtain ⟨rfl, rfl⟩ := Opr.noExtra hf (by decide)
    exact l5Text_6 b off p d v w hb hO (few_of_ok (s := p) (hpz rfl))
  · obtain ⟨rfl, rfl⟩ := Opr.noExtra hf (by decide)
    exact l5Text_7 b off p d v w hb hO (few_of_ok (s := p) (hpz rfl))
  · obtain ⟨rfl, rfl⟩ := Opr.noExtra hf (by decide)
    have hp := few_of_ok (s := p) (hpz rfl)
    by_cases hv : v = -1
    · exact l5Text_8_any b off p d v w hb hO hp hv
    · exact l5Text_8_num b off p d v w hb hO hp (by omega) hbd.2.2.2
theorem OBoxAt.at {w : World} {b : Nat} {z : Opn} (h : OBoxAt w b z) : OAt w b 0 z := ⟨h.2.1, h.2.2.1, h.2.2.2.1, h.2.2.2.2.1, h.2.2.2.2.2.1, h.2.2.2.2.2.2⟩
theorem Opr.textV_bad {z : Opn} {c : Int} (h : Opr.fault z = c) (h0 : c ≠ 0) : Opr.textV z = (c, []) := by unfold Opr.textV; rw [h, if_pos h0]
theorem Opr.textV_ok {z : Opn} (h : Opr.fault z = 0) : Opr.textV z = (0, Opr.text z) := by unfold Opr.textV; rw [h, if_neg (by decide)]
set_option maxHeartbeats 2000000 in
set_option maxRecDepth 100000 in
theorem specOpText_any (z : Opn) (w : World) : Calls Tryz.prog 27 #[oagg z] w fun e w' => e = .returned (tr (Opr.textV z)) ∧ Ext w w' := by
  have HL : Hid (∀ wx : World, OBoxAt wx w.heap.size z → Calls Tryz.prog 73 #[.pointer (some ⟨w.heap.size, 0, none⟩)] wx fun e w' => e = .returned (.int .i64 (Opr.fault z)) ∧ Ext wx w') := fun wx h => l5Op_any _ 0 z wx h.1 h.at
  have HX : Hid (Opr.fault z = 0 → ∀ wx : World, OBoxAt wx w.heap.size z → Calls Tryz.prog 67 #[.pointer (some ⟨w.heap.size, 0, none⟩)] wx fun e w' => e = .returned (.string (mkB (Opr.text z))) ∧ Ext wx w') := fun hf wx h => l5Text_any _ 0 z wx h.1 h.at hf
  unfold oagg
  by_cases hf : Opr.fault z = 0
  · have HX2 : Hid _ := HX.out hf
    rw [Opr.textV_ok hf]
    rw [hf] at HL
    clear hf HX
    generalize Opr.text z = TX at *
    unfold tr
    go_enter Tryz.func27, Tryz.ntmps27
    go_wp2_with fail
    refine (HL.out _ ((obox_new w z _).ext ((Ext.refl _).alloc _))).mono ?_
    rintro e w1 ⟨rfl, hb⟩
    have HB : Hid (Ext w w1) := (((Ext.refl _).alloc _).alloc _).trans hb
    have HO : Hid (OBoxAt w1 w.heap.size z) := (obox_new w z _).ext (((Ext.refl _).alloc _).trans hb)
    have HT0 := (tbox_new (w.alloc _) 0 ⟨#[]⟩ _).ext hb
    rw [World.size_alloc] at HT0
    have HT : Hid (TBoxAt w1 (w.heap.size + 1) 0 ⟨#[]⟩) := HT0
    clear hb HT0
    go_wp2_with fail
    refine (HX2.out _ HO.out).mono ?_
    rintro e w2 ⟨rfl, hb⟩
    have HB2 : Hid (Ext w w2) := HB.out.trans hb
    obtain ⟨t0, t1, t2, t3, t4⟩ := HT.out.ext hb
    clear hb
    go_wp2
    exact bodyPost_ret (v := tr (0, TX)) (by simp [results, Tryz.results27, go_sem, tr, *]) rfl ⟨rfl, (HB2.out.setCell (by simp) _).setCell (by simp) _⟩
  · rw [Opr.textV_bad rfl hf]
    clear HX
    generalize Opr.fault z = c at *
    have hcb : (c != 0) = true := by simpa using hf
    unfold tr
    go_enter Tryz.func27, Tryz.ntmps27
    go_wp2_with fail
    refine (HL.out _ ((obox_new w z _).ext ((Ext.refl _).alloc _))).mono ?_
    rintro e w1 ⟨rfl, hb⟩
    have HB : Hid (Ext w w1) := (((Ext.refl _).alloc _).alloc _).trans hb
    have HT0 := (tbox_new (w.alloc _) 0 ⟨#[]⟩ _).ext hb
    rw [World.size_alloc] at HT0
    obtain ⟨t0, t1, t2, t3, t4⟩ := HT0
    clear hb
    go_wp2
    exact bodyPost_ret (v := tr (c, [])) (by simp [results, Tryz.results27, go_sem, tr, mkB, *]) rfl ⟨rfl, (HB.out.setCell (by simp) _).setCell (by simp) _⟩
set_option maxHeartbeats 2000000 in
set_option maxRecDepth 100000 in
theorem implOpText_any (z : Opn) (w : World) (hg : Gd w) (ht : Tb w) : Calls Tryz.prog 25 #[oagg z] w fun e w' => e = .returned (tr (Opr.textV z)) ∧ Ext w w' := by
  by_cases hf : Opr.fault z = 0
  · rw [Opr.textV_ok hf]
    obtain ⟨k, p, d, v, s, q⟩ := z
    have hk := Opr.fault_zero_kind hf
    simp only at hk
    rcases kinds8 hk.1 hk.2 with h | h | h | h | h | h | h | h <;> subst h
    · obtain ⟨rfl, rfl⟩ := Opr.noExtra hf (by decide); exact implOpText_1 p d v w hg ht hf
    · obtain ⟨rfl, rfl⟩ := Opr.noExtra hf (by decide); exact implOpText_2 p d v w hg ht hf
    · cases s <;> cases q
      · exact implOpText_3_ff p d v w hg ht hf
      · exact implOpText_3_ft p d v w hg ht hf
      · exact implOpText_3_tf p d v w hg ht hf
      · exact implOpText_3_tt p d v w hg ht hf
    · obtain ⟨rfl, rfl⟩ := Opr.noExtra hf (by decide); exact implOpText_4 p d v w hg ht hf
    · obtain ⟨rfl, rfl⟩ := Opr.noExtra hf (by decide); exact implOpText_5 p d v w hg ht hf
    · obtain ⟨rfl, rfl⟩ := Opr.noExtra hf (by decide); exact implOpText_6 p d v w hg ht hf
    · obtain ⟨rfl, rfl⟩ := Opr.noExtra hf (by decide); exact implOpText_7 p d v w hg ht hf
    · obtain ⟨rfl, rfl⟩ := Opr.noExtra hf (by decide); exact implOpText_8 p d v w hg ht hf
  · rw [Opr.textV_bad rfl hf]
    have HF : Hid (∀ wx : World, Ext w wx → Calls Tryz.prog 28 #[oagg z] wx fun e w' => e = .returned (.int .i64 (Opr.fault z)) ∧ Ext wx w') := fun wx he => implOpFault_any _ wx (hg.ext he)
    clear hg ht
    generalize Opr.fault z = c at *
    have hcb : (c != 0) = true := by simpa using hf
    unfold oagg at *
    unfold tr
    go_enter Tryz.func25, Tryz.ntmps25
    go_wp2_with fail
    refine (HF.out _ (((Ext.refl _).alloc _).alloc _)).mono ?_
    rintro e w1 ⟨rfl, hb⟩
    have HB : Hid (Ext w w1) := (((Ext.refl _).alloc _).alloc _).trans hb
    have HT0 := (tbox_new (w.alloc _) 0 ⟨#[]⟩ _).ext hb
    rw [World.size_alloc] at HT0
    obtain ⟨t0, t1, t2, t3, t4⟩ := HT0
    clear hb
    go_wp2
    exact bodyPost_ret (v := tr (c, [])) (by simp [results, Tryz.results25, go_sem, tr, mkB, *]) rfl ⟨rfl, (HB.out.setCell (by simp) _).setCell (by simp) _⟩
end Go.Proofs.YtdjnkchaapcjpaaGreatDoor
