/- votes: both VotersFors, both AcceptOfs. -/
import Derived.Test.YtfgjodnjahhanaaVfVT4
import Derived.Test.YtfgjodnjahhanaaVfQS3
import Derived.Test.YtfgjodnjahhanaaVfRY1
namespace Go.Proofs.Ytfgjodnjahhanaa
open Go.RowKit Go.Maps
namespace Vot
theorem jret_at {w w2 : World} (c : Int) {v : Value} {g : Nat} {rs : List Int} (rb : Nat) (hr : w.heap.size ≤ rb) (hE : Ext w w2) (hO : Led.IOwn w2 v g rs) (hg : rb < g) :
    Led.JRet w c rs (.returned (Led.jr c v)) ((w2.setCell ⟨rb, 0, none⟩ (.int .i64 c)).setCell ⟨rb, 1, none⟩ v) :=
  ⟨v, g, rfl, by omega, hO.upd' (((Upd.refl rb w2).setAt _ _).setAt _ _) (fun _ => by omega), (hE.setCell (p := ⟨rb, 0, none⟩) hr _).setCell (p := ⟨rb, 1, none⟩) hr _⟩
theorem jret_no {w w2 : World} (c : Int) (rb : Nat) (hr : w.heap.size ≤ rb) (hE : Ext w w2) :
    Led.JRet w c [] (.returned (Led.jr c (.slice none 0 0))) ((w2.setCell ⟨rb, 0, none⟩ (.int .i64 c)).setCell ⟨rb, 1, none⟩ (.slice none 0 0)) :=
  jret_at (g := rb + 1) c rb hr hE ⟨none, 0, rfl, Nat.le_refl _, by unfold maxLen; omega, fun h => by simp at h⟩ (by omega)
/-- Four values in a box of their own. -/
def Y4 (w : World) (b : Nat) (v0 v1 v2 v3 : Value) : Prop := b < w.heap.size ∧ (w.cell? ⟨b, 0, none⟩ = some v0 ∧ w.cell? ⟨b, 1, none⟩ = some v1 ∧ w.cell? ⟨b, 2, none⟩ = some v2 ∧ w.cell? ⟨b, 3, none⟩ = some v3) ∧ w.frozen? ⟨b, 0, none⟩ = false ∧ w.frozen? ⟨b, 1, none⟩ = false ∧ w.frozen? ⟨b, 2, none⟩ = false ∧ w.frozen? ⟨b, 3, none⟩ = false
theorem Y4.ext {w w' : World} {b : Nat} {v0 v1 v2 v3 : Value} (h : Y4 w b v0 v1 v2 v3) (he : Ext w w') : Y4 w' b v0 v1 v2 v3 := by
  obtain ⟨hc, hf⟩ := Ext.cell he
  obtain ⟨hb, ⟨c0, c1, c2, c3⟩, f0, f1, f2, f3⟩ := h
  exact ⟨Nat.lt_of_lt_of_le hb he.size, ⟨(hc _ _ hb).trans c0, (hc _ _ hb).trans c1, (hc _ _ hb).trans c2, (hc _ _ hb).trans c3⟩, (hf _ _ hb).trans f0, (hf _ _ hb).trans f1, (hf _ _ hb).trans f2, (hf _ _ hb).trans f3⟩
set_option maxHeartbeats 8000000 in
set_option maxRecDepth 100000 in
theorem implVotersFor_any (f c r : Int) (p : ByteArray) (v : Value) (zs : List Vt) (w : World) (hS : VtSlice w v zs) (hz : ∀ z ∈ zs, z.path.size ≤ maxLen) :
    Calls Try.prog 14 #[.int .i64 f, v, yagg c r p] w (Led.JRet w (votersV f zs c r p).1 (votersV f zs c r p).2) := by
  have HF : Hid (∀ wx, Ext w wx → Calls Try.prog 9 #[.int .i64 f, v] wx fun e w' => e = .returned (.int .i64 (fault f zs)) ∧ Ext wx w') := fun wx he => implVotesFault_any f v zs wx (hS.ext he) hz
  have HV0 : Hid (fault f zs = 0 → ∀ wx, Ext w wx → Calls Try.prog 30 #[yagg c r p, v] wx fun e w' => ∃ b n, e = .returned (.map (some b)) ∧ wx.heap.size ≤ b ∧ Nst.SMap w' b n (voters f zs c r p) ∧ Ext wx w') := fun h0 wx he => by
    rw [← vset_voters c r p h0]
    obtain ⟨hf0, hf1, hlen, ha⟩ := fault_zero h0
    exact votersOf_any c r p v zs wx (hS.ext he) hlen (fun z hm => by have := (ha z hm).1; omega)
  have HR0 : Hid (∀ (rs : List Int), Nst.Ris rs → rs.length ≤ 7 → ∀ (b n : Nat) (wx : World), Nst.SMap wx b n rs → Calls Try.prog 31 #[.map (some b)] wx fun e w' => ∃ v g, e = .returned v ∧ wx.heap.size ≤ g ∧ Led.IOwn w' v g rs ∧ Ext wx w') := fun rs hr hl b n wx h => Nst.rising_any b n rs wx h hr (by omega)
  obtain ⟨a, cap, rfl, -, -, -⟩ := hS
  unfold yagg at *
  by_cases hc : fault f zs = 0
  · rw [votersV_ok hc]
    obtain ⟨hf0, hf1, hlen, -⟩ := fault_zero hc
    rw [hc] at HF
    have HV : Hid _ := HV0.out hc
    have HR : Hid (∀ (b n : Nat) (wx : World), Nst.SMap wx b n (voters f zs c r p) → Calls Try.prog 31 #[.map (some b)] wx fun e w' => ∃ v g, e = .returned v ∧ wx.heap.size ≤ g ∧ Led.IOwn w' v g (voters f zs c r p) ∧ Ext wx w') := HR0.out _ (votersK_ris _ _ _ _ _) (voters_len hf1)
    clear HV0 HR0 hc
    generalize voters f zs c r p = rs at *
    go_enter Try.func14, Try.ntmps14
    go_wp2_with fail
    refine (HF.out _ (((Ext.refl _).alloc _).alloc _)).mono ?_
    rintro e w2 ⟨rfl, hb⟩
    have HE2 : Hid (Ext w w2) := (((Ext.refl _).alloc _).alloc _).trans hb
    have HB2 : Hid (RyAt w2 w.heap.size (.int .i64 c) (.int .i64 r) (.string p)) := ((ry_new w _ _ _ _).ext ((Ext.refl _).alloc _)).ext hb
    have HZ2 : Hid (Led.JZ w2 (w.heap.size + 1)) := by have h := (Led.jz_new (w.alloc (.cells #[.int .i64 c, .int .i64 r, .string p] 36)) 34).ext hb; simp only [World.size_alloc] at h; exact h
    clear hb
    obtain ⟨-, ⟨p0, p1, p2⟩, -⟩ := HB2.out
    go_wp2_with fail
    refine (HV.out _ HE2.out).mono ?_
    rintro e w4 ⟨b, n, rfl, -, hM4, hb⟩
    have HE4 : Hid (Ext w w4) := HE2.out.trans hb
    have HZ4 : Hid (Led.JZ w4 (w.heap.size + 1)) := HZ2.out.ext hb
    have HM4 : Hid (Nst.SMap w4 b n rs) := hM4
    clear hb hM4 p0 p1 p2
    go_wp2_with fail
    refine (HR.out _ _ _ HM4.out).mono ?_
    rintro e w5 ⟨v5, g5, rfl, hg5, hO5, hb⟩
    obtain ⟨a5, c5, rfl, -⟩ := id hO5
    have HE5 : Hid (Ext w w5) := HE4.out.trans hb
    have HZ5 : Hid (Led.JZ w5 (w.heap.size + 1)) := HZ4.out.ext hb
    have HO5 : Hid (Led.IOwn w5 (.slice a5 rs.length c5) g5 rs ∧ w.heap.size + 1 < g5) := ⟨hO5, Nat.lt_of_lt_of_le HZ4.out.1 hg5⟩
    clear hb hO5 hg5
    obtain ⟨x0, x1, x2, x3, x4⟩ := HZ5.out
    go_wp2
    exact bodyPost_ret (v := Led.jr 0 (.slice a5 rs.length c5)) (by simp [results, Try.results14, go_sem, Led.jr, x1, x2]) rfl (jret_at 0 _ (by omega) HE5.out HO5.out.1 HO5.out.2)
  · rw [votersV_bad rfl hc]
    clear HV0 HR0
    have g2 : (fault f zs != 0) = true := by simpa using hc
    clear hc
    generalize fault f zs = k at *
    go_enter Try.func14, Try.ntmps14
    go_wp2_with fail
    refine (HF.out _ (((Ext.refl _).alloc _).alloc _)).mono ?_
    rintro e w2 ⟨rfl, hb⟩
    have HE2 : Hid (Ext w w2) := (((Ext.refl _).alloc _).alloc _).trans hb
    have HZ2 : Hid (Led.JZ w2 (w.heap.size + 1)) := by have h := (Led.jz_new (w.alloc (.cells #[.int .i64 c, .int .i64 r, .string p] 36)) 34).ext hb; simp only [World.size_alloc] at h; exact h
    clear hb
    obtain ⟨x0, x1, x2, x3, x4⟩ := HZ2.out
    go_wp2
    exact bodyPost_ret (v := Led.jr k (.slice none 0 0)) (by simp [results, Try.results14, go_sem, Led.jr, x1, x2]) rfl (jret_no k _ (by omega) HE2.out)

set_option maxHeartbeats 8000000 in
set_option maxRecDepth 100000 in
theorem specVotersFor_any (f c r : Int) (p : ByteArray) (v : Value) (zs : List Vt) (w : World) (hS : VtSlice w v zs) (hz : ∀ z ∈ zs, z.path.size ≤ maxLen) :
    Calls Try.prog 12 #[.int .i64 f, v, yagg c r p] w (Led.JRet w (votersV f zs c r p).1 (votersV f zs c r p).2) := by
  have HF : Hid (∀ wx, Ext w wx → Calls Try.prog 23 #[.int .i64 f, v] wx fun e w' => e = .returned (.int .i64 (fault f zs)) ∧ Ext wx w') := fun wx he => l14Fault_any f v zs wx (hS.ext he) hz
  have HV0 : Hid (1 ≤ f → f ≤ 2 → zs.length ≤ 40 → ∀ wx, Ext w wx → Calls Try.prog 29 #[.int .i64 f, v, yagg c r p] wx fun e w' => ∃ vo g, e = .returned vo ∧ wx.heap.size ≤ g ∧ Led.IOwn w' vo g (voters f zs c r p) ∧ Ext wx w') := fun h0 h1 h2 wx he => l14Voters_any f c r p v zs wx (hS.ext he) h0 h1 h2
  obtain ⟨a, cap, rfl, -, -, -⟩ := hS
  unfold yagg at *
  by_cases hc : fault f zs = 0
  · rw [votersV_ok hc]
    obtain ⟨hf0, hf1, hlen, -⟩ := fault_zero hc
    rw [hc] at HF
    have HV : Hid _ := HV0.out hf0 hf1 hlen
    clear HV0 hc
    generalize voters f zs c r p = rs at *
    go_enter Try.func12, Try.ntmps12
    go_wp2_with fail
    refine (HF.out _ (((Ext.refl _).alloc _).alloc _)).mono ?_
    rintro e w2 ⟨rfl, hb⟩
    have HE2 : Hid (Ext w w2) := (((Ext.refl _).alloc _).alloc _).trans hb
    have HB2 : Hid (RyAt w2 w.heap.size (.int .i64 c) (.int .i64 r) (.string p)) := ((ry_new w _ _ _ _).ext ((Ext.refl _).alloc _)).ext hb
    have HZ2 : Hid (Led.JZ w2 (w.heap.size + 1)) := by have h := (Led.jz_new (w.alloc (.cells #[.int .i64 c, .int .i64 r, .string p] 36)) 34).ext hb; simp only [World.size_alloc] at h; exact h
    clear hb
    obtain ⟨-, ⟨p0, p1, p2⟩, -⟩ := HB2.out
    go_wp2_with fail
    refine (HV.out _ HE2.out).mono ?_
    rintro e w5 ⟨v5, g5, rfl, hg5, hO5, hb⟩
    obtain ⟨a5, c5, rfl, -⟩ := id hO5
    have HE5 : Hid (Ext w w5) := HE2.out.trans hb
    have HZ5 : Hid (Led.JZ w5 (w.heap.size + 1)) := HZ2.out.ext hb
    have HO5 : Hid (Led.IOwn w5 (.slice a5 rs.length c5) g5 rs ∧ w.heap.size + 1 < g5) := ⟨hO5, Nat.lt_of_lt_of_le HZ2.out.1 hg5⟩
    clear hb hO5 hg5 p0 p1 p2
    obtain ⟨x0, x1, x2, x3, x4⟩ := HZ5.out
    go_wp2
    exact bodyPost_ret (v := Led.jr 0 (.slice a5 rs.length c5)) (by simp [results, Try.results12, go_sem, Led.jr, x1, x2]) rfl (jret_at 0 _ (by omega) HE5.out HO5.out.1 HO5.out.2)
  · rw [votersV_bad rfl hc]
    clear HV0
    have g2 : (fault f zs != 0) = true := by simpa using hc
    clear hc
    generalize fault f zs = k at *
    go_enter Try.func12, Try.ntmps12
    go_wp2_with fail
    refine (HF.out _ (((Ext.refl _).alloc _).alloc _)).mono ?_
    rintro e w2 ⟨rfl, hb⟩
    have HE2 : Hid (Ext w w2) := (((Ext.refl _).alloc _).alloc _).trans hb
    have HZ2 : Hid (Led.JZ w2 (w.heap.size + 1)) := by have h := (Led.jz_new (w.alloc (.cells #[.int .i64 c, .int .i64 r, .string p] 36)) 34).ext hb; simp only [World.size_alloc] at h; exact h
    clear hb
    obtain ⟨x0, x1, x2, x3, x4⟩ := HZ2.out
    go_wp2
    exact bodyPost_ret (v := Led.jr k (.slice none 0 0)) (by simp [results, Try.results12, go_sem, Led.jr, x1, x2]) rfl (jret_no k _ (by omega) HE2.out)

end Vot
end Go.Proofs.Ytfgjodnjahhanaa
