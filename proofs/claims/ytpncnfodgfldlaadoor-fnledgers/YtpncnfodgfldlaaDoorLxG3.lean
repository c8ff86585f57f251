/- MD4, MD5, MD6, in one text. -/
import Derived.Test.YtpncnfodgfldlaaDoorLxMD2
import Derived.Test.YtpncnfodgfldlaaDoorLxG2
import Derived.Maps.AppendAt
namespace Go.Proofs.YtpncnfodgfldlaaDoor
open Go.RowKit
theorem Dr.msg_new (w : World) (m : Ms) (v u : Value) (t : TypeId) : ∀ j x, (Dr.cellsP [(m, v, u)])[j]? = some x → (w.alloc (.cells #[.int .i64 m.kind, .int .i64 m.view, .int .i64 m.from_, .int .i64 m.slot, .int .i64 m.value, v, u] t)).cell? ((⟨w.heap.size, 0, none⟩ : Addr).add j) = some x := by
  intro j x hx
  have e : Dr.cellsP [(m, v, u)] = [.int .i64 m.kind, .int .i64 m.view, .int .i64 m.from_, .int .i64 m.slot, .int .i64 m.value, v, u] := rfl
  rw [e] at hx
  rw [Addr.add_lit, Nat.zero_add, World.cell?_alloc_at _ _ _ _ rfl]
  simpa using hx
theorem Dr.Got.lists {base : Nat} {w : World} {b a : Nat} {cv : Value} {m : Ms} {v u : Value} {w' : World} (h : Dr.Got base w b a cv m v u w') : MLs w' v u m := by
  obtain ⟨g, -, hC⟩ := ctown_of_owns h.1
  exact ⟨hC.slice, islice_of_owns h.2.1⟩
set_option maxHeartbeats 8000000 in
set_option maxRecDepth 100000 in
theorem l8Many_any (b a : Nat) (cv : Value) (w : World) (h : SrcAt w b a cv) (ha : a ≤ 300) :
    Calls Tryd.prog 37 #[.pointer (some ⟨b, 0, none⟩)] w fun e w' => ∃ (ov : Value) (ps : List (Ms × Value × Value)) (a' : Nat), e = .returned ov ∧ Dr.MRow w.heap.size w' ov ps ∧ ps.length ≤ 15 ∧ a' ≤ a + 400 ∧ Dr.Tick b a' cv w w' := by
  have hi9 : (Tryd.prog.info? 28).map (fun i => (i.zero, i.size, i.bytes)) = some (some (.agg #[.int .i64 0, .int .i64 0, .int .i64 0, .int .i64 0, .int .i64 0, .slice none 0 0, .slice none 0 0]), 7, 88) := by kernel_rfl
  obtain ⟨ti, hti, hxx⟩ := Option.map_eq_some_iff.1 hi9
  simp only [Prod.mk.injEq] at hxx
  obtain ⟨hz0, hz1, hz2⟩ := hxx
  clear hi9
  have hb := h.lt
  have NX : Hid (∀ (a' : Nat) (k : Int) (wx : World), SrcAt wx b a' cv → 1 ≤ k → k ≤ 200 → a' ≤ 1000 → Calls Tryd.prog 38 #[.pointer (some ⟨b, 0, none⟩), .int .i64 k] wx fun e w' => ∃ r : Int, e = .returned (.int .i64 r) ∧ 0 ≤ r ∧ r < k ∧ Dr.Tick b (a' + 1) cv wx w') := fun a' k wx h1 h2 h3 h4 => Dr.next b a' cv k wx h1 h2 h3 h4
  have DR : Hid (∀ (a' : Nat) (k : Int) (wx : World), SrcAt wx b a' cv → 0 ≤ k → k ≤ 20 → a' ≤ 900 → Calls Tryd.prog 39 #[.pointer (some ⟨b, 0, none⟩), .int .i64 k] wx fun e w' => ∃ m v u, e = .returned (magg m v u) ∧ Dr.Got (wx.heap.size + 1) wx b (a' + 25) cv m v u w' ∧ m.certs.length ≤ 4) := fun a' k wx h1 h2 h3 h4 => l8Draw_any b a' cv k wx h1 h2 h3 h4
  have AT : Hid (∀ (ov : Value) (ms : List Ms) (m : Ms) (B : Nat) (wx : World), MSlice wx ov ms → B < wx.heap.size → MAt wx B 0 m → Calls Tryd.prog 45 #[ov, .pointer (some ⟨B, 0, none⟩)] wx fun e w' => e = .returned (.int .i64 (Msg.place ms m)) ∧ Ext wx w') := fun ov ms m B wx h1 h2 h3 => l8At_any ov ms m B 0 wx h1 h2 h3
  have T0 : Hid (Dr.Tick b a cv w (w.alloc (.cells #[] 28))) := (Dr.Tick.start h).ext ((Ext.refl _).alloc _)
  have M0 : Hid (Dr.MRow w.heap.size (w.alloc (.cells #[] 28)) (.slice (some ⟨w.heap.size, 0, none⟩) 0 0) []) := ⟨World.ownsRow_made w #[] 0 (Nat.le_refl _) (by unfold maxLen; omega) rfl, fun p hp => (by cases hp), fun p hp => by cases hp⟩
  clear h
  go_enter Tryd.func37, Tryd.ntmps37
  go_wp2_with fail
  refine (NX.out a 16 _ T0.out.1 (by omega) (by omega) (by omega)).mono ?_
  rintro e w1 ⟨r, rfl, hr0, hr1, ht⟩
  have T1 : Hid (Dr.Tick b (a + 1) cv w w1) := T0.out.trans ht
  have M1 : Hid (Dr.MRow w.heap.size w1 (.slice (some ⟨w.heap.size, 0, none⟩) 0 0) []) := M0.out.kp ht.2.2 hb
  clear ht T0 M0
  obtain ⟨R, rfl⟩ := Int.eq_ofNat_of_zero_le hr0
  have hR : R ≤ 15 := by omega
  go_wp2
  go_loopw [3, 4] (fun ov i wr => ∃ (k : Nat) (ps : List (Ms × Value × Value)) (a4 : Nat), k ≤ R ∧ i = .int .i64 (k : Int) ∧ ps.length + k ≤ R ∧ a4 ≤ a + 1 + 25 * (R - k) ∧ Hid (Dr.MRow w.heap.size wr ov ps) ∧ Hid (Dr.Tick b a4 cv w wr)) (fun _ i _ => (intOf i).toNat)
  case atStart => exact ⟨R, [], a + 1, Nat.le_refl _, rfl, by simp, by omega, M1, T1⟩
  case round =>
    obtain ⟨k, ps, a4, hk, rfl, hpl, ha4, HM, HT⟩ := hrel
    obtain ⟨ad, cp, rfl⟩ := Led.owns_form HM.out.1
    by_cases hk0 : 0 < k
    · have hk1 : (0 : Int) < (k : Int) := by omega
      have hpl2 : (ps.length : Int) ≤ 20 := by omega
      have hwk : IntKind.i64.wrap ((k : Int) - 1) = ((k - 1 : Nat) : Int) := by rw [IntKind.wrap_i64]; omega
      go_wp2_with fail
      refine (DR.out a4 _ _ HT.out.1 (by omega) hpl2 (by omega)).mono ?_
      rintro e w2 ⟨m, v, u, rfl, hG, hcl⟩
      obtain ⟨av, cpv, rfl⟩ := Led.owns_form hG.1
      obtain ⟨au, cpu, rfl⟩ := Led.owns_form hG.2.1
      obtain ⟨a5, ha5, htk⟩ := hG.2.2.2.2
      have HT2 : Hid (Dr.Tick b a5 cv w w2) := HT.out.trans htk
      have HM2 : Hid (Dr.MRow w.heap.size w2 (.slice ad ps.length cp) ps) := HM.out.kp htk.2.2 hb
      have hsz : w.heap.size ≤ w2.heap.size := HT2.out.2.2.1
      have HC : Hid (w2.ownsRow w.heap.size 76 3 (.slice av m.certs.length cpv) m.certs.length (cellsCt m.certs) ∧ w2.ownsRow w.heap.size 2 1 (.slice au m.refs.length cpu) m.refs.length (m.refs.map (Value.int .i64))) := ⟨Dr.own_base hG.1 (by have := HT.out.2.2.1; omega), Dr.own_base hG.2.1 (by have := HT.out.2.2.1; omega)⟩
      have HL : Hid (MLs w2 (.slice av m.certs.length cpv) (.slice au m.refs.length cpu) m) := hG.lists
      have HSm : Hid (SmallM m) := ⟨by have := hG.2.2.1; omega, by have := hG.2.2.2.1; omega⟩
      clear hG htk HM HT hcl
      unfold magg
      have HA : Hid (MAt (w2.alloc (.cells #[.int .i64 m.kind, .int .i64 m.view, .int .i64 m.from_, .int .i64 m.slot, .int .i64 m.value, .slice av m.certs.length cpv, .slice au m.refs.length cpu] 28)) w2.heap.size 0 m) := ⟨_, _, (mbox_new w2 m _ _ _).cs, HL.out.ext ((Ext.refl _).alloc _)⟩
      have HS : Hid (MSlice (w2.alloc (.cells #[.int .i64 m.kind, .int .i64 m.view, .int .i64 m.from_, .int .i64 m.slot, .int .i64 m.value, .slice av m.certs.length cpv, .slice au m.refs.length cpu] 28)) (.slice ad ps.length cp) (ps.map (·.1))) := HM2.out.slice.ext ((Ext.refl _).alloc _)
      go_wp2_with fail
      refine (AT.out _ _ _ _ _ HS.out (by simp) HA.out).mono ?_
      rintro e w3 ⟨rfl, hb3⟩
      have HX : Hid (Ext w2 w3) := ((Ext.refl _).alloc _).trans hb3
      have HB : Hid (MBoxAt w3 w2.heap.size m (.slice av m.certs.length cpv) (.slice au m.refs.length cpu)) := (mbox_new w2 m _ _ _).ext hb3
      have HM3 : Hid (Dr.MRow w.heap.size w3 (.slice ad ps.length cp) ps) := HM2.out.ext HX.out
      have HT3 : Hid (Dr.Tick b a5 cv w w3) := HT2.out.ext HX.out
      have HC3 : Hid (w3.ownsRow w.heap.size 76 3 (.slice av m.certs.length cpv) m.certs.length (cellsCt m.certs) ∧ w3.ownsRow w.heap.size 2 1 (.slice au m.refs.length cpu) m.refs.length (m.refs.map (Value.int .i64))) := ⟨Led.own_ext HC.out.1 HX.out, Led.own_ext HC.out.2 HX.out⟩
      have hsz3 : w.heap.size ≤ w3.heap.size := HT3.out.2.2.1
      clear hb3 HA HS HX HM2 HT2 HC HL
      generalize Msg.place (ps.map (·.1)) m = pl at *
      by_cases hneg : pl < 0
      · obtain ⟨bl, ⟨c0, c1, c2, c3, c4, c5, c6⟩, -⟩ := HB.out
        go_wp2_with (at_builtin; go_must (refine wpList_append_own _ rfl _ _ 24 rfl w.heap.size 28 ti (.agg #[.int .i64 0, .int .i64 0, .int .i64 0, .int .i64 0, .int .i64 0, .slice none 0 0, .slice none 0 0]) 7 88 Tryd.underlying24 hti hz0 hz1 hz2 rfl (by decide) _ ps.length _ rfl (HM3.out.1.alloc _) ⟨w3.heap.size, 0, none⟩ 1 1 (Dr.cellsP [(m, .slice av m.certs.length cpv, .slice au m.refs.length cpu)]) rfl rfl (Dr.msg_new _ _ _ _ _) (Dr.cellsP_one _ (fun p hp => by rw [List.mem_singleton] at hp; subst hp; exact ⟨rfl, rfl⟩)) (by unfold maxLen; omega) (by omega) (by simp; omega) ?_; intro v6 w6 hown6 hgrow6 hnil6; have HM6 : Hid (Dr.MRow w.heap.size w6 v6 (ps ++ [(m, .slice av m.certs.length cpv, .slice au m.refs.length cpu)])) := HM3.out.push HC3.out.1 HC3.out.2 hown6 hgrow6 HSm.out; have HT6 : Hid (Dr.Tick b a5 cv w w6) := Dr.Tick.grown (HT3.out.ext ((Ext.refl _).alloc _)) hb hgrow6 (fun q hq => (HM3.out.1.lt q hq).1); clear hown6 hgrow6 hnil6))
        exact ⟨⟨k - 1, ps ++ [(m, .slice av m.certs.length cpv, .slice au m.refs.length cpu)], a5, by omega, by first | rfl | rw [hwk], by rw [List.length_append]; simp; omega, by omega, HM6, HT6⟩, by simp [intOf]; omega⟩
      · go_wp2
        exact ⟨⟨k - 1, ps, a5, by omega, by first | rfl | rw [hwk], by omega, by omega, HM3, HT3⟩, by simp [intOf]; omega⟩
    · have hke : k = 0 := by omega
      subst hke
      go_wp2
      go_ret
      exact ⟨_, ps, a4, rfl, HM.out, by omega, by omega, HT.out⟩
end Go.Proofs.YtpncnfodgfldlaaDoor
namespace Go.Proofs.YtpncnfodgfldlaaDoor
open Go.RowKit
theorem Dr.own_set {w : World} {base : Nat} {e : TypeId} {s : Nat} {v : Value} {n : Nat} {xs : List Value} (h : w.ownsRow base e s v n xs) (g o : Nat) (x : Value) (hne : ∀ q, v.ownBlock = some q → q ≠ g) : (w.setCell ⟨g, o, none⟩ x).ownsRow base e s v n xs := by
  refine ⟨h.1, ?_⟩
  rcases h.2 with hn | ⟨q, cap, cur, rfl, hg, hgg, rest⟩
  · exact .inl hn
  · exact .inr ⟨q, cap, cur, rfl, hg, (Dr.heap_set w (hne q rfl) o x).trans hgg, rest⟩
theorem Dr.bset0 {w : World} {b : Nat} {m : Ms} {v u : Value} {x : Int} (h : MBoxAt w b m v u) : MBoxAt (w.setCell ⟨b, 0, none⟩ (.int .i64 x)) b { m with kind := x } v u := by
  obtain ⟨hb, ⟨c0, c1, c2, c3, c4, c5, c6⟩, f0, f1, f2, f3, f4, f5, f6⟩ := h
  refine ⟨by simpa using hb, ⟨iset_eq _ _ _ _ ⟨_, c0⟩, ?_, ?_, ?_, ?_, ?_, ?_⟩, by simpa using f0, by simpa using f1, by simpa using f2, by simpa using f3, by simpa using f4, by simpa using f5, by simpa using f6⟩ <;> rw [iset_ne _ _ _ _ _ _ (by omega)] <;> assumption
theorem Dr.bset1 {w : World} {b : Nat} {m : Ms} {v u : Value} {x : Int} (h : MBoxAt w b m v u) : MBoxAt (w.setCell ⟨b, 1, none⟩ (.int .i64 x)) b { m with view := x } v u := by
  obtain ⟨hb, ⟨c0, c1, c2, c3, c4, c5, c6⟩, f0, f1, f2, f3, f4, f5, f6⟩ := h
  refine ⟨by simpa using hb, ⟨?_, iset_eq _ _ _ _ ⟨_, c1⟩, ?_, ?_, ?_, ?_, ?_⟩, by simpa using f0, by simpa using f1, by simpa using f2, by simpa using f3, by simpa using f4, by simpa using f5, by simpa using f6⟩ <;> rw [iset_ne _ _ _ _ _ _ (by omega)] <;> assumption
theorem Dr.bset2 {w : World} {b : Nat} {m : Ms} {v u : Value} {x : Int} (h : MBoxAt w b m v u) : MBoxAt (w.setCell ⟨b, 2, none⟩ (.int .i64 x)) b { m with from_ := x } v u := by
  obtain ⟨hb, ⟨c0, c1, c2, c3, c4, c5, c6⟩, f0, f1, f2, f3, f4, f5, f6⟩ := h
  refine ⟨by simpa using hb, ⟨?_, ?_, iset_eq _ _ _ _ ⟨_, c2⟩, ?_, ?_, ?_, ?_⟩, by simpa using f0, by simpa using f1, by simpa using f2, by simpa using f3, by simpa using f4, by simpa using f5, by simpa using f6⟩ <;> rw [iset_ne _ _ _ _ _ _ (by omega)] <;> assumption
theorem Dr.bset3 {w : World} {b : Nat} {m : Ms} {v u : Value} {x : Int} (h : MBoxAt w b m v u) : MBoxAt (w.setCell ⟨b, 3, none⟩ (.int .i64 x)) b { m with slot := x } v u := by
  obtain ⟨hb, ⟨c0, c1, c2, c3, c4, c5, c6⟩, f0, f1, f2, f3, f4, f5, f6⟩ := h
  refine ⟨by simpa using hb, ⟨?_, ?_, ?_, iset_eq _ _ _ _ ⟨_, c3⟩, ?_, ?_, ?_⟩, by simpa using f0, by simpa using f1, by simpa using f2, by simpa using f3, by simpa using f4, by simpa using f5, by simpa using f6⟩ <;> rw [iset_ne _ _ _ _ _ _ (by omega)] <;> assumption
theorem Dr.bset4 {w : World} {b : Nat} {m : Ms} {v u : Value} {x : Int} (h : MBoxAt w b m v u) : MBoxAt (w.setCell ⟨b, 4, none⟩ (.int .i64 x)) b { m with value := x } v u := by
  obtain ⟨hb, ⟨c0, c1, c2, c3, c4, c5, c6⟩, f0, f1, f2, f3, f4, f5, f6⟩ := h
  refine ⟨by simpa using hb, ⟨?_, ?_, ?_, ?_, iset_eq _ _ _ _ ⟨_, c4⟩, ?_, ?_⟩, by simpa using f0, by simpa using f1, by simpa using f2, by simpa using f3, by simpa using f4, by simpa using f5, by simpa using f6⟩ <;> rw [iset_ne _ _ _ _ _ _ (by omega)] <;> assumption
/-- How a bent draw stands: the message's box is newer than its lists. -/
def Dr.Sb (w : World) (b : Nat) (cv : Value) (W : World) (B a : Nat) (m : Ms) (v u : Value) : Prop :=
  MBoxAt W w.heap.size ⟨0, 0, 0, 0, 0, [], []⟩ (.slice none 0 0) (.slice none 0 0) ∧ MBoxAt W B m v u ∧ w.heap.size < B ∧ W.ownsRow (w.heap.size + 1) 76 3 v m.certs.length (cellsCt m.certs) ∧ W.ownsRow (w.heap.size + 1) 2 1 u m.refs.length (m.refs.map (Value.int .i64)) ∧ (∀ q, v.ownBlock = some q → q ≠ B) ∧ (∀ q, u.ownBlock = some q → q ≠ B) ∧ Dr.Tick b a cv w W
theorem Dr.Sb.tick {w : World} {b : Nat} {cv : Value} {W W' : World} {B a a2 : Nat} {m : Ms} {v u : Value} (h : Dr.Sb w b cv W B a m v u) (hb : b < w.heap.size) (ht : Dr.Tick b a2 cv W W') : Dr.Sb w b cv W' B a2 m v u := by
  obtain ⟨h1, h2, h3, h4, h5, h6, h7, h8⟩ := h
  exact ⟨ht.2.2.box h1 (by omega), ht.2.2.box h2 (by omega), h3, ht.2.2.own h4 (by omega), ht.2.2.own h5 (by omega), h6, h7, h8.trans ht⟩
theorem Dr.Sb.set0 {w : World} {b : Nat} {cv : Value} {W : World} {B a : Nat} {m : Ms} {v u : Value} (h : Dr.Sb w b cv W B a m v u) (hb : b < w.heap.size) (x : Int) : Dr.Sb w b cv (W.setCell ⟨B, 0, none⟩ (.int .i64 x)) B a { m with kind := x } v u := by
  obtain ⟨h1, h2, h3, h4, h5, h6, h7, h8⟩ := h
  exact ⟨h1.set_ne (by omega), Dr.bset0 h2, h3, Dr.own_set h4 _ _ _ h6, Dr.own_set h5 _ _ _ h7, h6, h7, h8.set hb _ _ (by omega) _⟩
theorem Dr.Sb.set1 {w : World} {b : Nat} {cv : Value} {W : World} {B a : Nat} {m : Ms} {v u : Value} (h : Dr.Sb w b cv W B a m v u) (hb : b < w.heap.size) (x : Int) : Dr.Sb w b cv (W.setCell ⟨B, 1, none⟩ (.int .i64 x)) B a { m with view := x } v u := by
  obtain ⟨h1, h2, h3, h4, h5, h6, h7, h8⟩ := h
  exact ⟨h1.set_ne (by omega), Dr.bset1 h2, h3, Dr.own_set h4 _ _ _ h6, Dr.own_set h5 _ _ _ h7, h6, h7, h8.set hb _ _ (by omega) _⟩
theorem Dr.Sb.set2 {w : World} {b : Nat} {cv : Value} {W : World} {B a : Nat} {m : Ms} {v u : Value} (h : Dr.Sb w b cv W B a m v u) (hb : b < w.heap.size) (x : Int) : Dr.Sb w b cv (W.setCell ⟨B, 2, none⟩ (.int .i64 x)) B a { m with from_ := x } v u := by
  obtain ⟨h1, h2, h3, h4, h5, h6, h7, h8⟩ := h
  exact ⟨h1.set_ne (by omega), Dr.bset2 h2, h3, Dr.own_set h4 _ _ _ h6, Dr.own_set h5 _ _ _ h7, h6, h7, h8.set hb _ _ (by omega) _⟩
theorem Dr.Sb.set3 {w : World} {b : Nat} {cv : Value} {W : World} {B a : Nat} {m : Ms} {v u : Value} (h : Dr.Sb w b cv W B a m v u) (hb : b < w.heap.size) (x : Int) : Dr.Sb w b cv (W.setCell ⟨B, 3, none⟩ (.int .i64 x)) B a { m with slot := x } v u := by
  obtain ⟨h1, h2, h3, h4, h5, h6, h7, h8⟩ := h
  exact ⟨h1.set_ne (by omega), Dr.bset3 h2, h3, Dr.own_set h4 _ _ _ h6, Dr.own_set h5 _ _ _ h7, h6, h7, h8.set hb _ _ (by omega) _⟩
theorem Dr.Sb.set4 {w : World} {b : Nat} {cv : Value} {W : World} {B a : Nat} {m : Ms} {v u : Value} (h : Dr.Sb w b cv W B a m v u) (hb : b < w.heap.size) (x : Int) : Dr.Sb w b cv (W.setCell ⟨B, 4, none⟩ (.int .i64 x)) B a { m with value := x } v u := by
  obtain ⟨h1, h2, h3, h4, h5, h6, h7, h8⟩ := h
  exact ⟨h1.set_ne (by omega), Dr.bset4 h2, h3, Dr.own_set h4 _ _ _ h6, Dr.own_set h5 _ _ _ h7, h6, h7, h8.set hb _ _ (by omega) _⟩
theorem Dr.Sb.got {w : World} {b : Nat} {cv : Value} {W : World} {B a k : Nat} {m : Ms} {v u : Value} (h : Dr.Sb w b cv W B a m v u) (hb : b < w.heap.size) (hk : a ≤ k) (h1 : m.certs.length ≤ 5) (h2 : m.refs.length ≤ 4) : Dr.Got (w.heap.size + 1) w b k cv m v u (Dr.put7 W w.heap.size m v u) := by
  obtain ⟨-, -, h3, h4, h5, -, -, h6⟩ := h
  exact Dr.Got.put7 ⟨h4, h5, h1, h2, a, hk, h6⟩ hb _ (Nat.le_refl _) (by omega)
theorem Dr.Sb.first {w w1 : World} {b a k : Nat} {cv : Value} {m : Ms} {v u : Value} (h : SrcAt w b a cv) (hG : Dr.Got ((w.alloc (.cells #[.int .i64 0, .int .i64 0, .int .i64 0, .int .i64 0, .int .i64 0, .slice none 0 0, .slice none 0 0] 28)).heap.size + 1) (w.alloc (.cells #[.int .i64 0, .int .i64 0, .int .i64 0, .int .i64 0, .int .i64 0, .slice none 0 0, .slice none 0 0] 28)) b k cv m v u w1) :
    ∃ a', a' ≤ k ∧ Dr.Sb w b cv (w1.alloc (.cells #[.int .i64 m.kind, .int .i64 m.view, .int .i64 m.from_, .int .i64 m.slot, .int .i64 m.value, v, u] 28)) w1.heap.size a' m v u := by
  have hlt := h.lt
  obtain ⟨h1, h2, -, -, a', ha, ht⟩ := hG
  have q1 := ht.2.2.box (mbox_new w ⟨0, 0, 0, 0, 0, [], []⟩ (.slice none 0 0) (.slice none 0 0) 28) (by omega)
  refine ⟨a', ha, q1.ext ((Ext.refl _).alloc _), mbox_new w1 m v u _, q1.1, Dr.own_base (h1.alloc _) (by simp), Dr.own_base (h2.alloc _) (by simp), fun q hq => Nat.ne_of_lt (h1.lt q hq).2, fun q hq => Nat.ne_of_lt (h2.lt q hq).2, ?_⟩
  exact (((Dr.Tick.start h).ext ((Ext.refl _).alloc _)).trans ht).ext ((Ext.refl _).alloc _)
theorem Dr.cell_block {w w' : World} {c : Nat} (h : w'.heap[c]? = w.heap[c]?) (o : Nat) : w'.cell? ⟨c, o, none⟩ = w.cell? ⟨c, o, none⟩ ∧ w'.frozen? ⟨c, o, none⟩ = w.frozen? ⟨c, o, none⟩ := by
  unfold World.cell? World.frozen?
  simp only [h, and_self]
theorem Dr.res_of {W : World} {B R : Nat} {x : Value} {m : Ms} {v u : Value} (h : MBoxAt (W.setCell ⟨B, 5, none⟩ x) R m v u) (hRB : R < B) : MBoxAt W R m v u := by
  obtain ⟨hb, ⟨c0, c1, c2, c3, c4, c5, c6⟩, f0, f1, f2, f3, f4, f5, f6⟩ := h
  have hc := fun k => (iset_ne W B 5 R k x (Or.inl (Nat.ne_of_gt hRB)))
  exact ⟨by simpa using hb, ⟨(hc _).symm.trans c0, (hc _).symm.trans c1, (hc _).symm.trans c2, (hc _).symm.trans c3, (hc _).symm.trans c4, (hc _).symm.trans c5, (hc _).symm.trans c6⟩, by simpa using f0, by simpa using f1, by simpa using f2, by simpa using f3, by simpa using f4, by simpa using f5, by simpa using f6⟩
theorem Dr.Sb.certs {w : World} {b : Nat} {cv : Value} {W W2 : World} {B a : Nat} {m : Ms} {v u v6 : Value} {o : Obj} {z : Ct} (h : Dr.Sb w b cv W B a m v u) (hb : b < w.heap.size) (ho : W2.ownsRow (w.heap.size + 1) 76 3 v6 (m.certs.length + 1) (cellsCt m.certs ++ cellsCt [z])) (hg : (W.alloc o).grownBy W2 v.ownBlock) (hat : v6.ownBlock = v.ownBlock ∨ v6.ownBlock = some (W.alloc o).heap.size) :
    MBoxAt W2 B m v u ∧ Dr.Sb w b cv (W2.setCell ⟨B, 5, none⟩ v6) B a { m with certs := m.certs ++ [z] } v6 u := by
  obtain ⟨h1, h2, h3, h4, h5, h6, h7, h8⟩ := h
  have hv := h4.lt
  have hB2 := h2.1
  have kp : ∀ {x : Nat} {m : Ms} {v' u' : Value}, MBoxAt W x m v' u' → (∀ q, v.ownBlock = some q → q ≠ x) → MBoxAt W2 x m v' u' := fun {x m v' u'} hx hne => by
    have hx' := hx.ext ((Ext.refl W).alloc o)
    obtain ⟨hb, ⟨c0, c1, c2, c3, c4, c5, c6⟩, f0, f1, f2, f3, f4, f5, f6⟩ := hx'
    have hbl := hg.block x hb (fun e => hne x e.symm rfl)
    have hc := fun k => (Dr.cell_block hbl k).1
    have hf := fun k => (Dr.cell_block hbl k).2
    exact ⟨Nat.lt_of_lt_of_le hb hg.size, ⟨(hc _).trans c0, (hc _).trans c1, (hc _).trans c2, (hc _).trans c3, (hc _).trans c4, (hc _).trans c5, (hc _).trans c6⟩, (hf _).trans f0, (hf _).trans f1, (hf _).trans f2, (hf _).trans f3, (hf _).trans f4, (hf _).trans f5, (hf _).trans f6⟩
  have e1 := kp h1 (fun q hq => by have := (hv q hq).1; omega)
  have e2 := kp h2 h6
  have h6' : ∀ q, v6.ownBlock = some q → q ≠ B := fun q hq => by
    rcases hat with h | h
    · exact h6 q (h.symm.trans hq)
    · rw [h] at hq
      cases hq
      simp
      omega
  refine ⟨e2, e1.set_ne (by omega), e2.set5, h3, ?_, ?_, h6', h7, ?_⟩
  · rw [List.length_append]
    rw [show cellsCt (m.certs ++ [z]) = cellsCt m.certs ++ cellsCt [z] from by simp [cellsCt]]
    exact Dr.own_set ho _ _ _ h6'
  · exact Dr.own_set (Dr.own_grown (h5.alloc _) hg (Dr.own_ne h4 h5 Dr.ne_types)) _ _ _ h7
  · exact (Dr.Tick.grown (h8.ext ((Ext.refl _).alloc _)) hb hg (fun q hq => by have := (hv q hq).1; omega)).set hb _ _ (by omega) _

set_option maxHeartbeats 8000000 in
set_option maxRecDepth 100000 in
theorem l8Bent_any (b a : Nat) (cv : Value) (w : World) (h : SrcAt w b a cv) (ha : a ≤ 900) :
    Calls Tryd.prog 18 #[.pointer (some ⟨b, 0, none⟩)] w fun e w' => ∃ m v u, e = .returned (magg m v u) ∧ Dr.Got (w.heap.size + 1) w b (a + 30) cv m v u w' := by
  have hi9 : (Tryd.prog.info? 76).map (fun i => (i.zero, i.size, i.bytes)) = some (some (.agg #[.int .i64 0, .int .i64 0, .int .i64 0]), 3, 24) := by kernel_rfl
  obtain ⟨ti, hti, hxx⟩ := Option.map_eq_some_iff.1 hi9
  simp only [Prod.mk.injEq] at hxx
  obtain ⟨hz0, hz1, hz2⟩ := hxx
  clear hi9
  have hb := h.lt
  have HS0 : Hid (SrcAt w b a cv) := h
  have NX : Hid (∀ (a' : Nat) (k : Int) (wx : World), SrcAt wx b a' cv → 1 ≤ k → k ≤ 200 → a' ≤ 1000 → Calls Tryd.prog 38 #[.pointer (some ⟨b, 0, none⟩), .int .i64 k] wx fun e w' => ∃ r : Int, e = .returned (.int .i64 r) ∧ 0 ≤ r ∧ r < k ∧ Dr.Tick b (a' + 1) cv wx w') := fun a' k wx h1 h2 h3 h4 => Dr.next b a' cv k wx h1 h2 h3 h4
  have DR : Hid (∀ (a' : Nat) (k : Int) (wx : World), SrcAt wx b a' cv → 0 ≤ k → k ≤ 20 → a' ≤ 900 → Calls Tryd.prog 39 #[.pointer (some ⟨b, 0, none⟩), .int .i64 k] wx fun e w' => ∃ m v u, e = .returned (magg m v u) ∧ Dr.Got (wx.heap.size + 1) wx b (a' + 25) cv m v u w' ∧ m.certs.length ≤ 4) := fun a' k wx h1 h2 h3 h4 => l8Draw_any b a' cv k wx h1 h2 h3 h4
  have PK0 : Hid (∀ (a' g : Nat) (wx : World), g = wx.heap.size → SrcAt wx b a' cv → a' ≤ 1000 → Calls Tryd.prog 36 #[.pointer (some ⟨b, 0, none⟩), .slice (some ⟨g, 0, none⟩) 4 4] (wx.alloc (.cells #[.int .i64 0, .int .i64 1, .int .i64 4, .int .i64 6] 2)) fun e w' => ∃ x : Int, e = .returned (.int .i64 x) ∧ Dr.Tick b (a' + 1) cv wx w') := fun a' g wx hg h1 h2 => by subst hg; exact Dr.pick b a' cv [0, 1, 4, 6] wx 2 h1 (by decide) (by decide) h2
  have PK1 : Hid (∀ (a' g : Nat) (wx : World), g = wx.heap.size → SrcAt wx b a' cv → a' ≤ 1000 → Calls Tryd.prog 36 #[.pointer (some ⟨b, 0, none⟩), .slice (some ⟨g, 0, none⟩) 3 3] (wx.alloc (.cells #[.int .i64 (-1), .int .i64 20, .int .i64 21] 2)) fun e w' => ∃ x : Int, e = .returned (.int .i64 x) ∧ Dr.Tick b (a' + 1) cv wx w') := fun a' g wx hg h1 h2 => by subst hg; exact Dr.pick b a' cv [-1, 20, 21] wx 2 h1 (by decide) (by decide) h2
  have PK2 : Hid (∀ (a' g : Nat) (wx : World), g = wx.heap.size → SrcAt wx b a' cv → a' ≤ 1000 → Calls Tryd.prog 36 #[.pointer (some ⟨b, 0, none⟩), .slice (some ⟨g, 0, none⟩) 4 4] (wx.alloc (.cells #[.int .i64 0, .int .i64 4, .int .i64 7, .int .i64 8] 2)) fun e w' => ∃ x : Int, e = .returned (.int .i64 x) ∧ Dr.Tick b (a' + 1) cv wx w') := fun a' g wx hg h1 h2 => by subst hg; exact Dr.pick b a' cv [0, 4, 7, 8] wx 2 h1 (by decide) (by decide) h2
  have PK3 : Hid (∀ (a' g : Nat) (wx : World), g = wx.heap.size → SrcAt wx b a' cv → a' ≤ 1000 → Calls Tryd.prog 36 #[.pointer (some ⟨b, 0, none⟩), .slice (some ⟨g, 0, none⟩) 3 3] (wx.alloc (.cells #[.int .i64 0, .int .i64 30, .int .i64 31] 2)) fun e w' => ∃ x : Int, e = .returned (.int .i64 x) ∧ Dr.Tick b (a' + 1) cv wx w') := fun a' g wx hg h1 h2 => by subst hg; exact Dr.pick b a' cv [0, 30, 31] wx 2 h1 (by decide) (by decide) h2
  have PK4 : Hid (∀ (a' g : Nat) (wx : World), g = wx.heap.size → SrcAt wx b a' cv → a' ≤ 1000 → Calls Tryd.prog 36 #[.pointer (some ⟨b, 0, none⟩), .slice (some ⟨g, 0, none⟩) 3 3] (wx.alloc (.cells #[.int .i64 (-1), .int .i64 12, .int .i64 13] 2)) fun e w' => ∃ x : Int, e = .returned (.int .i64 x) ∧ Dr.Tick b (a' + 1) cv wx w') := fun a' g wx hg h1 h2 => by subst hg; exact Dr.pick b a' cv [-1, 12, 13] wx 2 h1 (by decide) (by decide) h2
  clear h
  go_enter Tryd.func18, Tryd.ntmps18
  go_wp2_with fail
  refine (DR.out a 6 _ (HS0.out.alloc _) (by omega) (by omega) (by omega)).mono ?_
  rintro e w1 ⟨m, v, u, rfl, hG, hcl4⟩
  obtain ⟨av, cpv, rfl⟩ := Led.owns_form hG.1
  obtain ⟨au, cpu, rfl⟩ := Led.owns_form hG.2.1
  have hcl := hG.2.2.1
  have hrl := hG.2.2.2.1
  obtain ⟨a1, ha1, hSb⟩ := Dr.Sb.first HS0.out hG
  have SB : Hid _ := hSb
  clear hG hSb HS0 DR
  unfold magg
  obtain ⟨W0, hW0⟩ : ∃ W0, W0 = w1.alloc (.cells #[.int .i64 m.kind, .int .i64 m.view, .int .i64 m.from_, .int .i64 m.slot, .int .i64 m.value, (.slice av m.certs.length cpv), (.slice au m.refs.length cpu)] 28) := ⟨_, rfl⟩
  have S1 : Hid (Dr.Sb w b cv W0 w1.heap.size a1 m (.slice av m.certs.length cpv) (.slice au m.refs.length cpu)) := by rw [hW0]; exact SB.out
  clear SB
  go_wp2_with fail
  rw [← hW0]
  generalize w1.heap.size = B at *
  clear hW0
  refine (NX.out a1 12 _ S1.out.2.2.2.2.2.2.2.1 (by omega) (by omega) (by omega)).mono ?_
  rintro e w2 ⟨r, rfl, hr0, hr1, ht⟩
  have S2 : Hid (Dr.Sb w b cv w2 B (a1 + 1) m (.slice av m.certs.length cpv) (.slice au m.refs.length cpu)) := S1.out.tick hb ht
  clear ht S1 NX
  by_cases h0 : r = 0
  · have g0 : (r == 0) = true := by simpa using h0
    clear h0
    go_wp2_with fail
    refine (PK0.out (a1 + 1) _ _ rfl S2.out.2.2.2.2.2.2.2.1 (by omega)).mono ?_
    rintro e w3 ⟨x, rfl, ht⟩
    have S30 : Hid (Dr.Sb w b cv w3 B (a1 + 1 + 1) m (.slice av m.certs.length cpv) (.slice au m.refs.length cpu)) := S2.out.tick hb ht
    have S3 : Hid (Dr.Sb w b cv (w3.setCell ⟨B, 0, none⟩ (.int .i64 x)) B (a1 + 1 + 1) ⟨x, m.view, m.from_, m.slot, m.value, m.certs, m.refs⟩ (.slice av m.certs.length cpv) (.slice au m.refs.length cpu)) := S30.out.set0 hb x
    clear ht S2 PK0 PK1 PK2 PK3 PK4
    have GT : Hid (Dr.Got (w.heap.size + 1) w b (a + 30) cv ⟨x, m.view, m.from_, m.slot, m.value, m.certs, m.refs⟩ (.slice av m.certs.length cpv) (.slice au m.refs.length cpu) (Dr.put7 (w3.setCell ⟨B, 0, none⟩ (.int .i64 x)) w.heap.size ⟨x, m.view, m.from_, m.slot, m.value, m.certs, m.refs⟩ (.slice av m.certs.length cpv) (.slice au m.refs.length cpu))) := S3.out.got hb (by omega) hcl hrl
    obtain ⟨⟨rl, ⟨R0, R1, R2, R3, R4, R5, R6⟩, F0, F1, F2, F3, F4, F5, F6⟩, ⟨bl, ⟨c0, c1, c2, c3, c4, c5, c6⟩, f0, f1, f2, f3, f4, f5, f6⟩, hRB, -⟩ := S30.out
    have hne : w.heap.size ≠ B := Nat.ne_of_lt hRB
    go_wp2
    exact bodyPost_ret (v := magg ⟨x, m.view, m.from_, m.slot, m.value, m.certs, m.refs⟩ (.slice av m.certs.length cpv) (.slice au m.refs.length cpu)) (by simp [results, Tryd.results18, go_sem, magg, *]) rfl ⟨_, _, _, rfl, GT.out⟩
  have g0 : (r == 0) = false := by simpa using h0
  by_cases h1 : r = 1
  · have g1 : (r == 1) = true := by simpa using h1
    clear h1
    go_wp2_with fail
    refine (PK1.out (a1 + 1) _ _ rfl S2.out.2.2.2.2.2.2.2.1 (by omega)).mono ?_
    rintro e w3 ⟨x, rfl, ht⟩
    have S30 : Hid (Dr.Sb w b cv w3 B (a1 + 1 + 1) m (.slice av m.certs.length cpv) (.slice au m.refs.length cpu)) := S2.out.tick hb ht
    have S3 : Hid (Dr.Sb w b cv (w3.setCell ⟨B, 1, none⟩ (.int .i64 x)) B (a1 + 1 + 1) ⟨m.kind, x, m.from_, m.slot, m.value, m.certs, m.refs⟩ (.slice av m.certs.length cpv) (.slice au m.refs.length cpu)) := S30.out.set1 hb x
    clear ht S2 PK0 PK1 PK2 PK3 PK4
    have GT : Hid (Dr.Got (w.heap.size + 1) w b (a + 30) cv ⟨m.kind, x, m.from_, m.slot, m.value, m.certs, m.refs⟩ (.slice av m.certs.length cpv) (.slice au m.refs.length cpu) (Dr.put7 (w3.setCell ⟨B, 1, none⟩ (.int .i64 x)) w.heap.size ⟨m.kind, x, m.from_, m.slot, m.value, m.certs, m.refs⟩ (.slice av m.certs.length cpv) (.slice au m.refs.length cpu))) := S3.out.got hb (by omega) hcl hrl
    obtain ⟨⟨rl, ⟨R0, R1, R2, R3, R4, R5, R6⟩, F0, F1, F2, F3, F4, F5, F6⟩, ⟨bl, ⟨c0, c1, c2, c3, c4, c5, c6⟩, f0, f1, f2, f3, f4, f5, f6⟩, hRB, -⟩ := S30.out
    have hne : w.heap.size ≠ B := Nat.ne_of_lt hRB
    go_wp2
    exact bodyPost_ret (v := magg ⟨m.kind, x, m.from_, m.slot, m.value, m.certs, m.refs⟩ (.slice av m.certs.length cpv) (.slice au m.refs.length cpu)) (by simp [results, Tryd.results18, go_sem, magg, *]) rfl ⟨_, _, _, rfl, GT.out⟩
  have g1 : (r == 1) = false := by simpa using h1
  by_cases h2 : r = 2
  · have g2 : (r == 2) = true := by simpa using h2
    clear h2
    go_wp2_with fail
    refine (PK2.out (a1 + 1) _ _ rfl S2.out.2.2.2.2.2.2.2.1 (by omega)).mono ?_
    rintro e w3 ⟨x, rfl, ht⟩
    have S30 : Hid (Dr.Sb w b cv w3 B (a1 + 1 + 1) m (.slice av m.certs.length cpv) (.slice au m.refs.length cpu)) := S2.out.tick hb ht
    have S3 : Hid (Dr.Sb w b cv (w3.setCell ⟨B, 2, none⟩ (.int .i64 x)) B (a1 + 1 + 1) ⟨m.kind, m.view, x, m.slot, m.value, m.certs, m.refs⟩ (.slice av m.certs.length cpv) (.slice au m.refs.length cpu)) := S30.out.set2 hb x
    clear ht S2 PK0 PK1 PK2 PK3 PK4
    have GT : Hid (Dr.Got (w.heap.size + 1) w b (a + 30) cv ⟨m.kind, m.view, x, m.slot, m.value, m.certs, m.refs⟩ (.slice av m.certs.length cpv) (.slice au m.refs.length cpu) (Dr.put7 (w3.setCell ⟨B, 2, none⟩ (.int .i64 x)) w.heap.size ⟨m.kind, m.view, x, m.slot, m.value, m.certs, m.refs⟩ (.slice av m.certs.length cpv) (.slice au m.refs.length cpu))) := S3.out.got hb (by omega) hcl hrl
    obtain ⟨⟨rl, ⟨R0, R1, R2, R3, R4, R5, R6⟩, F0, F1, F2, F3, F4, F5, F6⟩, ⟨bl, ⟨c0, c1, c2, c3, c4, c5, c6⟩, f0, f1, f2, f3, f4, f5, f6⟩, hRB, -⟩ := S30.out
    have hne : w.heap.size ≠ B := Nat.ne_of_lt hRB
    go_wp2
    exact bodyPost_ret (v := magg ⟨m.kind, m.view, x, m.slot, m.value, m.certs, m.refs⟩ (.slice av m.certs.length cpv) (.slice au m.refs.length cpu)) (by simp [results, Tryd.results18, go_sem, magg, *]) rfl ⟨_, _, _, rfl, GT.out⟩
  have g2 : (r == 2) = false := by simpa using h2
  by_cases h3 : r = 3
  · have g3 : (r == 3) = true := by simpa using h3
    clear h3
    go_wp2_with fail
    refine (PK3.out (a1 + 1) _ _ rfl S2.out.2.2.2.2.2.2.2.1 (by omega)).mono ?_
    rintro e w3 ⟨x, rfl, ht⟩
    have S30 : Hid (Dr.Sb w b cv w3 B (a1 + 1 + 1) m (.slice av m.certs.length cpv) (.slice au m.refs.length cpu)) := S2.out.tick hb ht
    have S3 : Hid (Dr.Sb w b cv (w3.setCell ⟨B, 3, none⟩ (.int .i64 x)) B (a1 + 1 + 1) ⟨m.kind, m.view, m.from_, x, m.value, m.certs, m.refs⟩ (.slice av m.certs.length cpv) (.slice au m.refs.length cpu)) := S30.out.set3 hb x
    clear ht S2 PK0 PK1 PK2 PK3 PK4
    have GT : Hid (Dr.Got (w.heap.size + 1) w b (a + 30) cv ⟨m.kind, m.view, m.from_, x, m.value, m.certs, m.refs⟩ (.slice av m.certs.length cpv) (.slice au m.refs.length cpu) (Dr.put7 (w3.setCell ⟨B, 3, none⟩ (.int .i64 x)) w.heap.size ⟨m.kind, m.view, m.from_, x, m.value, m.certs, m.refs⟩ (.slice av m.certs.length cpv) (.slice au m.refs.length cpu))) := S3.out.got hb (by omega) hcl hrl
    obtain ⟨⟨rl, ⟨R0, R1, R2, R3, R4, R5, R6⟩, F0, F1, F2, F3, F4, F5, F6⟩, ⟨bl, ⟨c0, c1, c2, c3, c4, c5, c6⟩, f0, f1, f2, f3, f4, f5, f6⟩, hRB, -⟩ := S30.out
    have hne : w.heap.size ≠ B := Nat.ne_of_lt hRB
    go_wp2
    exact bodyPost_ret (v := magg ⟨m.kind, m.view, m.from_, x, m.value, m.certs, m.refs⟩ (.slice av m.certs.length cpv) (.slice au m.refs.length cpu)) (by simp [results, Tryd.results18, go_sem, magg, *]) rfl ⟨_, _, _, rfl, GT.out⟩
  have g3 : (r == 3) = false := by simpa using h3
  by_cases h4 : r = 4
  · have g4 : (r == 4) = true := by simpa using h4
    clear h4
    go_wp2_with fail
    refine (PK4.out (a1 + 1) _ _ rfl S2.out.2.2.2.2.2.2.2.1 (by omega)).mono ?_
    rintro e w3 ⟨x, rfl, ht⟩
    have S30 : Hid (Dr.Sb w b cv w3 B (a1 + 1 + 1) m (.slice av m.certs.length cpv) (.slice au m.refs.length cpu)) := S2.out.tick hb ht
    have S3 : Hid (Dr.Sb w b cv (w3.setCell ⟨B, 4, none⟩ (.int .i64 x)) B (a1 + 1 + 1) ⟨m.kind, m.view, m.from_, m.slot, x, m.certs, m.refs⟩ (.slice av m.certs.length cpv) (.slice au m.refs.length cpu)) := S30.out.set4 hb x
    clear ht S2 PK0 PK1 PK2 PK3 PK4
    have GT : Hid (Dr.Got (w.heap.size + 1) w b (a + 30) cv ⟨m.kind, m.view, m.from_, m.slot, x, m.certs, m.refs⟩ (.slice av m.certs.length cpv) (.slice au m.refs.length cpu) (Dr.put7 (w3.setCell ⟨B, 4, none⟩ (.int .i64 x)) w.heap.size ⟨m.kind, m.view, m.from_, m.slot, x, m.certs, m.refs⟩ (.slice av m.certs.length cpv) (.slice au m.refs.length cpu))) := S3.out.got hb (by omega) hcl hrl
    obtain ⟨⟨rl, ⟨R0, R1, R2, R3, R4, R5, R6⟩, F0, F1, F2, F3, F4, F5, F6⟩, ⟨bl, ⟨c0, c1, c2, c3, c4, c5, c6⟩, f0, f1, f2, f3, f4, f5, f6⟩, hRB, -⟩ := S30.out
    have hne : w.heap.size ≠ B := Nat.ne_of_lt hRB
    go_wp2
    exact bodyPost_ret (v := magg ⟨m.kind, m.view, m.from_, m.slot, x, m.certs, m.refs⟩ (.slice av m.certs.length cpv) (.slice au m.refs.length cpu)) (by simp [results, Tryd.results18, go_sem, magg, *]) rfl ⟨_, _, _, rfl, GT.out⟩
  have g4 : (r == 4) = false := by simpa using h4
  by_cases h5 : r = 5
  · have g5 : (r == 5) = true := by simpa using h5
    clear h5 PK0 PK1 PK2 PK3 PK4
    obtain ⟨bl, ⟨-, -, -, -, -, c5, -⟩, -⟩ := S2.out.2.1
    have hO : Hid (w2.ownsRow (w.heap.size + 1) 76 3 (.slice av m.certs.length cpv) m.certs.length (cellsCt m.certs)) := S2.out.2.2.2.1
    have hRB2 : w.heap.size < B := S2.out.2.2.1
    go_wp2_with (at_builtin; go_must (refine wpList_append_own_at _ rfl _ _ 25 rfl (w.heap.size + 1) 76 ti (.agg #[.int .i64 0, .int .i64 0, .int .i64 0]) 3 24 Tryd.underlying25 hti hz0 hz1 hz2 rfl (by decide) _ m.certs.length _ rfl (hO.out.alloc _) ⟨w2.heap.size, 0, none⟩ 1 1 (cellsCt [⟨1, 0, 1⟩]) rfl rfl (ct_new _ _ _) (cellsCt_one _) (by unfold maxLen; omega) (by omega) (by simp; omega) ?_; intro v6 w6 hown6 hgrow6 hnil6 hat6; have TF : Hid (MBoxAt w6 B m (.slice av m.certs.length cpv) (.slice au m.refs.length cpu) ∧ Dr.Sb w b cv (w6.setCell ⟨B, 5, none⟩ v6) B (a1 + 1) ⟨m.kind, m.view, m.from_, m.slot, m.value, m.certs ++ [⟨1, 0, 1⟩], m.refs⟩ v6 (.slice au m.refs.length cpu)) := S2.out.certs hb hown6 hgrow6 hat6; obtain ⟨ad6, cap6, rfl⟩ := Led.owns_form hown6; have S3 : Hid (Dr.Sb w b cv (w6.setCell ⟨B, 5, none⟩ (.slice ad6 (m.certs.length + 1) cap6)) B (a1 + 1) ⟨m.kind, m.view, m.from_, m.slot, m.value, m.certs ++ [⟨1, 0, 1⟩], m.refs⟩ (.slice ad6 (m.certs.length + 1) cap6) (.slice au m.refs.length cpu)) := TF.out.2; have R6 : Hid (MBoxAt w6 w.heap.size ⟨0, 0, 0, 0, 0, [], []⟩ (.slice none 0 0) (.slice none 0 0)) := Dr.res_of TF.out.2.1 hRB2; have GT : Hid (Dr.Got (w.heap.size + 1) w b (a + 30) cv ⟨m.kind, m.view, m.from_, m.slot, m.value, m.certs ++ [⟨1, 0, 1⟩], m.refs⟩ (.slice ad6 (m.certs.length + 1) cap6) (.slice au m.refs.length cpu) (Dr.put7 (w6.setCell ⟨B, 5, none⟩ (.slice ad6 (m.certs.length + 1) cap6)) w.heap.size ⟨m.kind, m.view, m.from_, m.slot, m.value, m.certs ++ [⟨1, 0, 1⟩], m.refs⟩ (.slice ad6 (m.certs.length + 1) cap6) (.slice au m.refs.length cpu))) := S3.out.got hb (by omega) (by show (m.certs ++ [(⟨1, 0, 1⟩ : Ct)]).length ≤ 5; rw [List.length_append]; simp; omega) hrl; obtain ⟨rl, ⟨R0, R1, R2, R3, R4, R5, R66⟩, F0, F1, F2, F3, F4, F5, F6⟩ := R6.out; obtain ⟨bl6, ⟨c06, c16, c26, c36, c46, c56, c66⟩, f06, f16, f26, f36, f46, f56, f66⟩ := TF.out.1; have hne : w.heap.size ≠ B := Nat.ne_of_lt hRB2; clear hown6 hgrow6 hnil6 hat6 TF R6 S3))
    exact bodyPost_ret (v := magg ⟨m.kind, m.view, m.from_, m.slot, m.value, m.certs ++ [⟨1, 0, 1⟩], m.refs⟩ (.slice ad6 (m.certs.length + 1) cap6) (.slice au m.refs.length cpu)) (by simp [results, Tryd.results18, go_sem, magg, *]) rfl ⟨_, _, _, rfl, GT.out⟩
  · have g5 : (r == 5) = false := by simpa using h5
    clear h5 PK0 PK1 PK2 PK3 PK4
    have S20 := S2
    have GT : Hid (Dr.Got (w.heap.size + 1) w b (a + 30) cv m (.slice av m.certs.length cpv) (.slice au m.refs.length cpu) (Dr.put7 w2 w.heap.size m (.slice av m.certs.length cpv) (.slice au m.refs.length cpu))) := S2.out.got hb (by omega) hcl hrl
    obtain ⟨⟨rl, ⟨R0, R1, R2, R3, R4, R5, R6⟩, F0, F1, F2, F3, F4, F5, F6⟩, ⟨bl, ⟨c0, c1, c2, c3, c4, c5, c6⟩, f0, f1, f2, f3, f4, f5, f6⟩, hRB, -⟩ := S20.out
    have hne : w.heap.size ≠ B := Nat.ne_of_lt hRB
    go_wp2
    exact bodyPost_ret (v := magg m (.slice av m.certs.length cpv) (.slice au m.refs.length cpu)) (by simp [results, Tryd.results18, go_sem, magg, *]) rfl ⟨_, _, _, rfl, GT.out⟩
end Go.Proofs.YtpncnfodgfldlaaDoor
namespace Go.Proofs.YtpncnfodgfldlaaDoor
open Go.RowKit
/-- Blocks from base on are as they were. -/
def Dr.Kb (base : Nat) (w w' : World) : Prop := w.heap.size ≤ w'.heap.size ∧ ∀ g, base ≤ g → g < w.heap.size → w'.heap[g]? = w.heap[g]?
theorem Dr.Kb.refl (base : Nat) (w : World) : Dr.Kb base w w := ⟨Nat.le_refl _, fun _ _ _ => rfl⟩
theorem Dr.Kb.trans {base : Nat} {w w1 w2 : World} (h : Dr.Kb base w w1) (h2 : Dr.Kb base w1 w2) : Dr.Kb base w w2 := ⟨Nat.le_trans h.1 h2.1, fun g hb hg => (h2.2 g hb (Nat.lt_of_lt_of_le hg h.1)).trans (h.2 g hb hg)⟩
theorem Dr.Kb.mono {base base' : Nat} {w w' : World} (h : Dr.Kb base w w') (hb : base ≤ base') : Dr.Kb base' w w' := ⟨h.1, fun g h1 h2 => h.2 g (by omega) h2⟩
theorem Dr.Kb.of_kp {b base : Nat} {w w' : World} (h : Dr.Kp b w w') (hb : b < base) : Dr.Kb base w w' := ⟨h.1, fun g h1 h2 => h.2 g h2 (by omega)⟩
theorem Dr.Kb.of_ext {base : Nat} {w w' : World} (h : Ext w w') : Dr.Kb base w w' := ⟨h.size, fun g _ hg => Below.block h g hg⟩
theorem Dr.Kb.own {base : Nat} {w w' : World} {e : TypeId} {s n : Nat} {v : Value} {xs : List Value} (hk : Dr.Kb base w w') (h : w.ownsRow base e s v n xs) : w'.ownsRow base e s v n xs := by
  refine ⟨h.1, ?_⟩
  rcases h.2 with hn | ⟨g, cap, cur, rfl, hbg, hgg, rest⟩
  · exact .inl hn
  · exact .inr ⟨g, cap, cur, rfl, hbg, (hk.2 g hbg (Array.getElem?_eq_some_iff.1 hgg).1).trans hgg, rest⟩
theorem Dr.MRow.kb {base : Nat} {W W' : World} {ov : Value} {ps : List (Ms × Value × Value)} (h : Dr.MRow base W ov ps) (hk : Dr.Kb base W W') : Dr.MRow base W' ov ps :=
  ⟨hk.own h.1, fun p hp => ⟨hk.own (h.2.1 p hp).1, hk.own (h.2.1 p hp).2⟩, h.2.2⟩
/-- What a draw of a ledger leaves. -/
def Dr.Ledger (k : Nat) (w : World) (b a : Nat) (cv : Value) (e : Ending) (w' : World) : Prop :=
  ∃ (ov : Value) (ms : List Ms) (a' : Nat), e = .returned ov ∧ (∀ W', Dr.Kb w.heap.size w' W' → MSlice W' ov ms) ∧ (ms.length ≤ 241 ∧ ∀ m ∈ ms, SmallM m) ∧ a' ≤ a + k ∧ Dr.Tick b a' cv w w'
theorem Dr.made_at (z : Array Value) (hz : z.size = 7) (n i j : Nat) (hi : i < n) (hj : j < 7) : (madeCells z (n * 7))[i * 7 + j]? = z[j]? := by
  have h1 : i * 7 + j < n * 7 := by omega
  rw [Array.getElem?_eq_getElem (by rw [size_madeCells]; exact h1), Array.getElem?_eq_getElem (by omega)]
  congr 1
  simp only [madeCells, Array.getElem_map, Array.getElem_range, hz]
  rw [show (i * 7 + j) % 7 = j from by omega]
  exact getElem!_pos z j (by omega)
theorem Dr.zeros (w : World) (M : Array Value) (n : Nat) (hM : M = madeCells (Value.agg #[.int .i64 0, .int .i64 0, .int .i64 0, .int .i64 0, .int .i64 0, .slice none 0 0, .slice none 0 0]).cells (n * 7)) (hn : n ≤ maxLen) (t : TypeId) (W' : World) (hW : (∀ o, W'.cell? ⟨w.heap.size, o, none⟩ = (w.alloc (.cells M t)).cell? ⟨w.heap.size, o, none⟩) ∧ w.heap.size < W'.heap.size) : MSlice W' (.slice (some ⟨w.heap.size, 0, none⟩) n n) (List.replicate n ⟨0, 0, 0, 0, 0, [], []⟩) := by
  refine ⟨_, n, by rw [List.length_replicate], by rw [List.length_replicate]; exact Nat.le_refl _, hn, fun _ => ⟨w.heap.size, 0, rfl, hW.2, fun i m hm => ?_⟩⟩
  rw [List.getElem?_replicate] at hm
  split at hm
  · rename_i hi
    cases hm
    have hc : ∀ j, j < 7 → W'.cell? ⟨w.heap.size, 0 + i * 7 + j, none⟩ = (Value.agg #[.int .i64 0, .int .i64 0, .int .i64 0, .int .i64 0, .int .i64 0, .slice none 0 0, .slice none 0 0]).cells[j]? := fun j hj => by
      rw [hW.1, Nat.zero_add, World.cell?_alloc_at _ _ _ _ rfl, hM]
      exact Dr.made_at _ rfl n i j hi hj
    refine ⟨.slice none 0 0, .slice none 0 0, ⟨?_, ?_, ?_, ?_, ?_, ?_, ?_⟩, ⟨⟨none, 0, rfl, Nat.le_refl _, by unfold maxLen; omega, fun h => by simp at h⟩, ⟨none, 0, rfl, Nat.le_refl _, by unfold maxLen; omega, fun h => by simp at h⟩⟩⟩
    · exact (hc 0 (by omega)).trans rfl
    · exact (hc 1 (by omega)).trans rfl
    · exact (hc 2 (by omega)).trans rfl
    · exact (hc 3 (by omega)).trans rfl
    · exact (hc 4 (by omega)).trans rfl
    · exact (hc 5 (by omega)).trans rfl
    · exact (hc 6 (by omega)).trans rfl
  · cases hm
theorem Dr.Ledger.of {k : Nat} {w : World} {b a a' : Nat} {cv : Value} {ov : Value} {w' : World} {ps : List (Ms × Value × Value)} (h : Dr.MRow w.heap.size w' ov ps) (hl : ps.length ≤ 241) (ha : a' ≤ a + k) (ht : Dr.Tick b a' cv w w') : Dr.Ledger k w b a cv (.returned ov) w' := ⟨ov, _, a', rfl, fun _ hk => (h.kb hk).slice, ⟨by rw [List.length_map]; exact hl, fun m hm => by obtain ⟨p, hp, rfl⟩ := List.mem_map.1 hm; exact h.2.2 p hp⟩, ha, ht⟩
set_option maxHeartbeats 8000000 in
set_option maxRecDepth 100000 in
theorem l8Wrong_any (b a : Nat) (cv : Value) (w : World) (h : SrcAt w b a cv) (ha : a ≤ 300) :
    Calls Tryd.prog 16 #[.pointer (some ⟨b, 0, none⟩)] w (Dr.Ledger 450 w b a cv) := by
  have hi9 : (Tryd.prog.info? 28).map (fun i => (i.zero, i.size, i.bytes)) = some (some (.agg #[.int .i64 0, .int .i64 0, .int .i64 0, .int .i64 0, .int .i64 0, .slice none 0 0, .slice none 0 0]), 7, 88) := by kernel_rfl
  obtain ⟨ti, hti, hxx⟩ := Option.map_eq_some_iff.1 hi9
  simp only [Prod.mk.injEq] at hxx
  obtain ⟨hz0, hz1, hz2⟩ := hxx
  clear hi9
  have hb := h.lt
  have HS0 : Hid (SrcAt w b a cv) := h
  have NX : Hid (∀ (a' : Nat) (k : Int) (wx : World), SrcAt wx b a' cv → 1 ≤ k → k ≤ 200 → a' ≤ 1000 → Calls Tryd.prog 38 #[.pointer (some ⟨b, 0, none⟩), .int .i64 k] wx fun e w' => ∃ r : Int, e = .returned (.int .i64 r) ∧ 0 ≤ r ∧ r < k ∧ Dr.Tick b (a' + 1) cv wx w') := fun a' k wx h1 h2 h3 h4 => Dr.next b a' cv k wx h1 h2 h3 h4
  have MY : Hid (Calls Tryd.prog 37 #[.pointer (some ⟨b, 0, none⟩)] w fun e w' => ∃ (ov : Value) (ps : List (Ms × Value × Value)) (a' : Nat), e = .returned ov ∧ Dr.MRow w.heap.size w' ov ps ∧ ps.length ≤ 15 ∧ a' ≤ a + 400 ∧ Dr.Tick b a' cv w w') := l8Many_any b a cv w h ha
  have BT : Hid (∀ (a' : Nat) (wx : World), SrcAt wx b a' cv → a' ≤ 900 → Calls Tryd.prog 18 #[.pointer (some ⟨b, 0, none⟩)] wx fun e w' => ∃ m v u, e = .returned (magg m v u) ∧ Dr.Got (wx.heap.size + 1) wx b (a' + 30) cv m v u w') := fun a' wx h1 h2 => l8Bent_any b a' cv wx h1 h2
  clear h
  go_enter Tryd.func16, Tryd.ntmps16
  go_wp2_with fail
  refine MY.out.mono ?_
  rintro e w1 ⟨ov, ps, a1, rfl, hM, hpl, ha1, ht⟩
  obtain ⟨ad, cp, rfl⟩ := Led.owns_form hM.1
  have HM1 : Hid (Dr.MRow w.heap.size w1 (.slice ad ps.length cp) ps) := hM
  have HT1 : Hid (Dr.Tick b a1 cv w w1) := ht
  clear hM ht MY HS0
  go_wp2_with fail
  refine (NX.out a1 12 _ HT1.out.1 (by omega) (by omega) (by omega)).mono ?_
  rintro e w2 ⟨r, rfl, hr0, hr1, ht⟩
  have HM2 : Hid (Dr.MRow w.heap.size w2 (.slice ad ps.length cp) ps) := HM1.out.kp ht.2.2 hb
  have HT2 : Hid (Dr.Tick b (a1 + 1) cv w w2) := HT1.out.trans ht
  clear ht HM1 HT1 NX
  by_cases h0 : r = 0
  · have g0 : (r == 0) = true := by simpa using h0
    clear h0
    go_wp2_with fail
    refine (BT.out (a1 + 1) _ HT2.out.1 (by omega)).mono ?_
    rintro e w3 ⟨m, v, u, rfl, hG⟩
    obtain ⟨av, cpv, rfl⟩ := Led.owns_form hG.1
    obtain ⟨au, cpu, rfl⟩ := Led.owns_form hG.2.1
    obtain ⟨a5, ha5, htk⟩ := hG.2.2.2.2
    have HT3 : Hid (Dr.Tick b a5 cv w w3) := HT2.out.trans htk
    have HM3 : Hid (Dr.MRow w.heap.size w3 (.slice ad ps.length cp) ps) := HM2.out.kp htk.2.2 hb
    have HSm : Hid (SmallM m) := ⟨by have := hG.2.2.1; omega, by have := hG.2.2.2.1; omega⟩
    have HC3 : Hid (w3.ownsRow w.heap.size 76 3 (.slice av m.certs.length cpv) m.certs.length (cellsCt m.certs) ∧ w3.ownsRow w.heap.size 2 1 (.slice au m.refs.length cpu) m.refs.length (m.refs.map (Value.int .i64))) := ⟨Dr.own_base hG.1 (by have := HT2.out.2.2.1; omega), Dr.own_base hG.2.1 (by have := HT2.out.2.2.1; omega)⟩
    have hsz3 : w.heap.size ≤ w3.heap.size := HT3.out.2.2.1
    clear hG htk HM2 HT2 BT
    unfold magg
    go_wp2_with (at_builtin; go_must (refine wpList_append_own _ rfl _ _ 24 rfl w.heap.size 28 ti (.agg #[.int .i64 0, .int .i64 0, .int .i64 0, .int .i64 0, .int .i64 0, .slice none 0 0, .slice none 0 0]) 7 88 Tryd.underlying24 hti hz0 hz1 hz2 rfl (by decide) _ ps.length _ rfl (HM3.out.1.alloc _) ⟨w3.heap.size, 0, none⟩ 1 1 (Dr.cellsP [(m, .slice av m.certs.length cpv, .slice au m.refs.length cpu)]) rfl rfl (Dr.msg_new _ _ _ _ _) (Dr.cellsP_one _ (fun p hp => by rw [List.mem_singleton] at hp; subst hp; exact ⟨rfl, rfl⟩)) (by unfold maxLen; omega) (by omega) (by simp; omega) ?_; intro v6 w6 hown6 hgrow6 hnil6; have HM6 : Hid (Dr.MRow w.heap.size w6 v6 (ps ++ [(m, .slice av m.certs.length cpv, .slice au m.refs.length cpu)])) := HM3.out.push HC3.out.1 HC3.out.2 hown6 hgrow6 HSm.out; have HT6 : Hid (Dr.Tick b a5 cv w w6) := Dr.Tick.grown (HT3.out.ext ((Ext.refl _).alloc _)) hb hgrow6 (fun q hq => (HM3.out.1.lt q hq).1); clear hown6 hgrow6 hnil6))
    go_ret
    exact Dr.Ledger.of HM6.out (by rw [List.length_append]; simp; omega) (by omega) HT6.out
  · have g0 : (r == 0) = false := by simpa using h0
    by_cases h1 : r = 1
    · have g1 : (r == 1) = true := by simpa using h1
      obtain ⟨M, hM⟩ : ∃ M, M = madeCells (Value.agg #[.int .i64 0, .int .i64 0, .int .i64 0, .int .i64 0, .int .i64 0, .slice none 0 0, .slice none 0 0]).cells (241 * 7) := ⟨_, rfl⟩
      have HMk : ∀ W : World, (Instr.makeSlice 24 (.int .i64 241) (.int .i64 241)).run Tryd.prog W = .ok (.slice (some ⟨W.heap.size, 0, none⟩) 241 241) (W.alloc (.cells M 28)) := fun W => by
        have h := run_make (P := Tryd.prog) W 24 28 ti _ Tryd.underlying24 hti hz0 .i64 .i64 241 241 (by omega) (by omega) (by rw [hz2]; omega) (by omega)
        rw [hz1] at h
        rw [hM]
        simpa using h
      have HZ : Hid (∀ W W' : World, w.heap.size ≤ W.heap.size → Dr.Kb w.heap.size (W.alloc (.cells M 28)) W' → MSlice W' (.slice (some ⟨W.heap.size, 0, none⟩) 241 241) (List.replicate 241 ⟨0, 0, 0, 0, 0, [], []⟩)) := fun W W' hbW hk => Dr.zeros W M 241 hM (by unfold maxLen; omega) _ W' ⟨fun o => (Dr.cell_block (hk.2 W.heap.size hbW (by simp)) o).1, Nat.lt_of_lt_of_le (by simp) hk.1⟩
      clear h0 h1 hM BT
      go_wp2
      go_ret
      exact ⟨_, _, a1 + 1, rfl, fun W' hk => HZ.out _ W' HT2.out.2.2.1 hk, ⟨by rw [List.length_replicate]; exact Nat.le_refl _, fun m hm => by rw [(List.mem_replicate.1 hm).2]; exact ⟨Nat.zero_le _, Nat.zero_le _⟩⟩, by omega, HT2.out.ext ((Ext.refl _).alloc _)⟩
    · have g1 : (r == 1) = false := by simpa using h1
      clear h0 h1 BT
      go_wp2
      go_ret
      exact Dr.Ledger.of HM2.out (by omega) (by omega) HT2.out
theorem l8DrawF_any (b a : Nat) (cv : Value) (w : World) (h : SrcAt w b a cv) (ha : a ≤ 900) :
    Calls Tryd.prog 15 #[.pointer (some ⟨b, 0, none⟩)] w fun e w' => ∃ x : Int, e = .returned (.int .i64 x) ∧ Dr.Tick b (a + 1) cv w w' := by
  have HS0 : Hid (SrcAt w b a cv) := h
  have PK : Hid (∀ (g : Nat) (wx : World), g = wx.heap.size → SrcAt wx b a cv → Calls Tryd.prog 36 #[.pointer (some ⟨b, 0, none⟩), .slice (some ⟨g, 0, none⟩) 9 9] (wx.alloc (.cells #[.int .i64 1, .int .i64 1, .int .i64 1, .int .i64 1, .int .i64 2, .int .i64 0, .int .i64 1, .int .i64 1, .int .i64 3] 2)) fun e w' => ∃ x : Int, e = .returned (.int .i64 x) ∧ Dr.Tick b (a + 1) cv wx w') := fun g wx hg h1 => by subst hg; exact Dr.pick b a cv [1, 1, 1, 1, 2, 0, 1, 1, 3] wx 2 h1 (by decide) (by decide) (by omega)
  clear h
  go_enter Tryd.func15, Tryd.ntmps15
  go_wp2_with fail
  refine (PK.out _ _ rfl HS0.out).mono ?_
  rintro e w1 ⟨x, rfl, ht⟩
  have HT : Hid (Dr.Tick b (a + 1) cv w w1) := ht
  clear ht
  go_wp2
  go_ret
  exact ⟨x, rfl, HT.out⟩
end Go.Proofs.YtpncnfodgfldlaaDoor
