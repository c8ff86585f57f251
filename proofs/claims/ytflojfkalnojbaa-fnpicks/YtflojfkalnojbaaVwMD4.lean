/- the specification's l8Many, l8DrawF. -/
import Derived.Test.YtflojfkalnojbaaVwMD2
import Derived.Test.YtflojfkalnojbaaVwMD3
namespace Go.Proofs.Ytflojfkalnojbaa
open Go.RowKit
theorem Dr.msg_new (w : World) (m : Ms) (v u : Value) (t : TypeId) : ∀ j x, (Dr.cellsP [(m, v, u)])[j]? = some x → (w.alloc (.cells #[.int .i64 m.kind, .int .i64 m.view, .int .i64 m.from_, .int .i64 m.slot, .int .i64 m.value, v, u] t)).cell? ((⟨w.heap.size, 0, none⟩ : Addr).add j) = some x := by
  intro j x hx
  have e : Dr.cellsP [(m, v, u)] = [.int .i64 m.kind, .int .i64 m.view, .int .i64 m.from_, .int .i64 m.slot, .int .i64 m.value, v, u] := rfl
  rw [e] at hx
  rw [Addr.add_lit, Nat.zero_add, World.cell?_alloc_at _ _ _ _ rfl]
  simpa using hx
theorem Dr.Got.lists {base : Nat} {w : World} {b a : Nat} {cv : Value} {m : Ms} {v u : Value} {w' : World} (h : Dr.Got base w b a cv m v u w') : MLs w' v u m := by
  obtain ⟨g, -, hC⟩ := ctown_of_owns h.1
  exact ⟨hC.slice, islice_of_owns h.2.1⟩
set_option maxHeartbeats 8000000 in
set_option maxRecDepth 100000 in
theorem l8Many_any (b a : Nat) (cv : Value) (w : World) (h : SrcAt w b a cv) (ha : a ≤ 300) :
    Calls Try.prog 154 #[.pointer (some ⟨b, 0, none⟩)] w fun e w' => ∃ (ov : Value) (ps : List (Ms × Value × Value)) (a' : Nat), e = .returned ov ∧ Dr.MRow w.heap.size w' ov ps ∧ ps.length ≤ 15 ∧ a' ≤ a + 400 ∧ Dr.Tick b a' cv w w' := by
  have hi9 : (Try.prog.info? 28).map (fun i => (i.zero, i.size, i.bytes)) = some (some (.agg #[.int .i64 0, .int .i64 0, .int .i64 0, .int .i64 0, .int .i64 0, .slice none 0 0, .slice none 0 0]), 7, 88) := by kernel_rfl
  obtain ⟨ti, hti, hxx⟩ := Option.map_eq_some_iff.1 hi9
  simp only [Prod.mk.injEq] at hxx
  obtain ⟨hz0, hz1, hz2⟩ := hxx
  clear hi9
  have hb := h.lt
  have NX : Hid (∀ (a' : Nat) (k : Int) (wx : World), SrcAt wx b a' cv → 1 ≤ k → k ≤ 200 → a' ≤ 1000 → Calls Try.prog 67 #[.pointer (some ⟨b, 0, none⟩), .int .i64 k] wx fun e w' => ∃ r : Int, e = .returned (.int .i64 r) ∧ 0 ≤ r ∧ r < k ∧ Dr.Tick b (a' + 1) cv wx w') := fun a' k wx h1 h2 h3 h4 => Dr.next b a' cv k wx h1 h2 h3 h4
  have DR : Hid (∀ (a' : Nat) (k : Int) (wx : World), SrcAt wx b a' cv → 0 ≤ k → k ≤ 20 → a' ≤ 900 → Calls Try.prog 123 #[.pointer (some ⟨b, 0, none⟩), .int .i64 k] wx fun e w' => ∃ m v u, e = .returned (magg m v u) ∧ Dr.Got (wx.heap.size + 1) wx b (a' + 25) cv m v u w' ∧ m.certs.length ≤ 4) := fun a' k wx h1 h2 h3 h4 => l8Draw_any b a' cv k wx h1 h2 h3 h4
  have AT : Hid (∀ (ov : Value) (ms : List Ms) (m : Ms) (B : Nat) (wx : World), MSlice wx ov ms → B < wx.heap.size → MAt wx B 0 m → Calls Try.prog 124 #[ov, .pointer (some ⟨B, 0, none⟩)] wx fun e w' => e = .returned (.int .i64 (Msg.place ms m)) ∧ Ext wx w') := fun ov ms m B wx h1 h2 h3 => l8At_any ov ms m B 0 wx h1 h2 h3
  have T0 : Hid (Dr.Tick b a cv w (w.alloc (.cells #[] 28))) := (Dr.Tick.start h).ext ((Ext.refl _).alloc _)
  have M0 : Hid (Dr.MRow w.heap.size (w.alloc (.cells #[] 28)) (.slice (some ⟨w.heap.size, 0, none⟩) 0 0) []) := ⟨World.ownsRow_made w #[] 0 (Nat.le_refl _) (by unfold maxLen; omega) rfl, fun p hp => (by cases hp), fun p hp => by cases hp⟩
  clear h
  go_enter Try.func154, Try.ntmps154
  go_wp2_with fail
  refine (NX.out a 16 _ T0.out.1 (by omega) (by omega) (by omega)).mono ?_
  rintro e w1 ⟨r, rfl, hr0, hr1, ht⟩
  have T1 : Hid (Dr.Tick b (a + 1) cv w w1) := T0.out.trans ht
  have M1 : Hid (Dr.MRow w.heap.size w1 (.slice (some ⟨w.heap.size, 0, none⟩) 0 0) []) := M0.out.kp ht.2.2 hb
  clear ht T0 M0
  obtain ⟨R, rfl⟩ := Int.eq_ofNat_of_zero_le hr0
  have hR : R ≤ 15 := by omega
  go_wp2
  go_loopw [3, 4] (fun ov i wr => ∃ (k : Nat) (ps : List (Ms × Value × Value)) (a4 : Nat), k ≤ R ∧ i = .int .i64 (k : Int) ∧ ps.length + k ≤ R ∧ a4 ≤ a + 1 + 25 * (R - k) ∧ Hid (Dr.MRow w.heap.size wr ov ps) ∧ Hid (Dr.Tick b a4 cv w wr)) (fun _ i _ => (intOf i).toNat)
  case atStart => exact ⟨R, [], a + 1, Nat.le_refl _, rfl, by simp, by omega, M1, T1⟩
  case round =>
    obtain ⟨k, ps, a4, hk, rfl, hpl, ha4, HM, HT⟩ := hrel
    obtain ⟨ad, cp, rfl⟩ := Led.owns_form HM.out.1
    by_cases hk0 : 0 < k
    · have hk1 : (0 : Int) < (k : Int) := by omega
      have hpl2 : (ps.length : Int) ≤ 20 := by omega
      have hwk : IntKind.i64.wrap ((k : Int) - 1) = ((k - 1 : Nat) : Int) := by rw [IntKind.wrap_i64]; omega
      go_wp2_with fail
      refine (DR.out a4 _ _ HT.out.1 (by omega) hpl2 (by omega)).mono ?_
      rintro e w2 ⟨m, v, u, rfl, hG, hcl⟩
      obtain ⟨av, cpv, rfl⟩ := Led.owns_form hG.1
      obtain ⟨au, cpu, rfl⟩ := Led.owns_form hG.2.1
      obtain ⟨a5, ha5, htk⟩ := hG.2.2.2.2
      have HT2 : Hid (Dr.Tick b a5 cv w w2) := HT.out.trans htk
      have HM2 : Hid (Dr.MRow w.heap.size w2 (.slice ad ps.length cp) ps) := HM.out.kp htk.2.2 hb
      have hsz : w.heap.size ≤ w2.heap.size := HT2.out.2.2.1
      have HC : Hid (w2.ownsRow w.heap.size 38 3 (.slice av m.certs.length cpv) m.certs.length (cellsCt m.certs) ∧ w2.ownsRow w.heap.size 2 1 (.slice au m.refs.length cpu) m.refs.length (m.refs.map (Value.int .i64))) := ⟨Dr.own_base hG.1 (by have := HT.out.2.2.1; omega), Dr.own_base hG.2.1 (by have := HT.out.2.2.1; omega)⟩
      have HL : Hid (MLs w2 (.slice av m.certs.length cpv) (.slice au m.refs.length cpu) m) := hG.lists
      have HSm : Hid (SmallM m) := ⟨by have := hG.2.2.1; omega, by have := hG.2.2.2.1; omega⟩
      clear hG htk HM HT hcl
      unfold magg
      have HA : Hid (MAt (w2.alloc (.cells #[.int .i64 m.kind, .int .i64 m.view, .int .i64 m.from_, .int .i64 m.slot, .int .i64 m.value, .slice av m.certs.length cpv, .slice au m.refs.length cpu] 28)) w2.heap.size 0 m) := ⟨_, _, (mbox_new w2 m _ _ _).cs, HL.out.ext ((Ext.refl _).alloc _)⟩
      have HS : Hid (MSlice (w2.alloc (.cells #[.int .i64 m.kind, .int .i64 m.view, .int .i64 m.from_, .int .i64 m.slot, .int .i64 m.value, .slice av m.certs.length cpv, .slice au m.refs.length cpu] 28)) (.slice ad ps.length cp) (ps.map (·.1))) := HM2.out.slice.ext ((Ext.refl _).alloc _)
      go_wp2_with fail
      refine (AT.out _ _ _ _ _ HS.out (by simp) HA.out).mono ?_
      rintro e w3 ⟨rfl, hb3⟩
      have HX : Hid (Ext w2 w3) := ((Ext.refl _).alloc _).trans hb3
      have HB : Hid (MBoxAt w3 w2.heap.size m (.slice av m.certs.length cpv) (.slice au m.refs.length cpu)) := (mbox_new w2 m _ _ _).ext hb3
      have HM3 : Hid (Dr.MRow w.heap.size w3 (.slice ad ps.length cp) ps) := HM2.out.ext HX.out
      have HT3 : Hid (Dr.Tick b a5 cv w w3) := HT2.out.ext HX.out
      have HC3 : Hid (w3.ownsRow w.heap.size 38 3 (.slice av m.certs.length cpv) m.certs.length (cellsCt m.certs) ∧ w3.ownsRow w.heap.size 2 1 (.slice au m.refs.length cpu) m.refs.length (m.refs.map (Value.int .i64))) := ⟨Led.own_ext HC.out.1 HX.out, Led.own_ext HC.out.2 HX.out⟩
      have hsz3 : w.heap.size ≤ w3.heap.size := HT3.out.2.2.1
      clear hb3 HA HS HX HM2 HT2 HC HL
      generalize Msg.place (ps.map (·.1)) m = pl at *
      by_cases hneg : pl < 0
      · obtain ⟨bl, ⟨c0, c1, c2, c3, c4, c5, c6⟩, -⟩ := HB.out
        go_wp2_with (at_builtin; go_must (refine wpList_append_own _ rfl _ _ 24 rfl w.heap.size 28 ti (.agg #[.int .i64 0, .int .i64 0, .int .i64 0, .int .i64 0, .int .i64 0, .slice none 0 0, .slice none 0 0]) 7 88 Try.underlying24 hti hz0 hz1 hz2 rfl (by decide) _ ps.length _ rfl (HM3.out.1.alloc _) ⟨w3.heap.size, 0, none⟩ 1 1 (Dr.cellsP [(m, .slice av m.certs.length cpv, .slice au m.refs.length cpu)]) rfl rfl (Dr.msg_new _ _ _ _ _) (Dr.cellsP_one _ (fun p hp => by rw [List.mem_singleton] at hp; subst hp; exact ⟨rfl, rfl⟩)) (by unfold maxLen; omega) (by omega) (by simp; omega) ?_; intro v6 w6 hown6 hgrow6 hnil6; have HM6 : Hid (Dr.MRow w.heap.size w6 v6 (ps ++ [(m, .slice av m.certs.length cpv, .slice au m.refs.length cpu)])) := HM3.out.push HC3.out.1 HC3.out.2 hown6 hgrow6 HSm.out; have HT6 : Hid (Dr.Tick b a5 cv w w6) := Dr.Tick.grown (HT3.out.ext ((Ext.refl _).alloc _)) hb hgrow6 (fun q hq => (HM3.out.1.lt q hq).1); clear hown6 hgrow6 hnil6))
        exact ⟨⟨k - 1, ps ++ [(m, .slice av m.certs.length cpv, .slice au m.refs.length cpu)], a5, by omega, by first | rfl | rw [hwk], by rw [List.length_append]; simp; omega, by omega, HM6, HT6⟩, by simp [intOf]; omega⟩
      · go_wp2
        exact ⟨⟨k - 1, ps, a5, by omega, by first | rfl | rw [hwk], by omega, by omega, HM3, HT3⟩, by simp [intOf]; omega⟩
    · have hke : k = 0 := by omega
      subst hke
      go_wp2
      go_ret
      exact ⟨_, ps, a4, rfl, HM.out, by omega, by omega, HT.out⟩
end Go.Proofs.Ytflojfkalnojbaa
