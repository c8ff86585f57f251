/- copies of a ledger: messages in a row of their own, each list a row of its own, no two in one block. -/
import Derived.Test.YtpncnfodgfldlaaDoorLxPM1
import Derived.Test.YtpncnfodgfldlaaDoorLxG3
namespace Go.Proofs.YtpncnfodgfldlaaDoor
open Go.RowKit
/-- No two of the lists lie in one block. -/
def Dst (ps : List (Ms × Value × Value)) : Prop := ps.Pairwise (fun p q => (∀ b, p.2.1.ownBlock = some b → q.2.1.ownBlock ≠ some b) ∧ (∀ b, p.2.2.ownBlock = some b → q.2.2.ownBlock ≠ some b))
/-- What a copy of a ledger leaves. -/
def LCp (w : World) (ms : List Ms) (e : Ending) (w' : World) : Prop := ∃ vo ps, e = .returned vo ∧ Dr.MRow w.heap.size w' vo ps ∧ Dst ps ∧ ps.map (·.1) = ms ∧ Ext w w'
theorem Dst.push {ps : List (Ms × Value × Value)} {p : Ms × Value × Value} {base : Nat} {W W' : World} {ov : Value} (h : Dst ps) (hM : Dr.MRow base W ov ps) (h1 : W'.ownsRow W.heap.size 76 3 p.2.1 p.1.certs.length (cellsCt p.1.certs)) (h2 : W'.ownsRow W.heap.size 2 1 p.2.2 p.1.refs.length (p.1.refs.map (Value.int .i64))) : Dst (ps ++ [p]) := by
  unfold Dst
  rw [List.pairwise_append]
  refine ⟨h, List.pairwise_singleton _ _, fun a ha b hb => ?_⟩
  rw [List.mem_singleton] at hb
  subst hb
  obtain ⟨q1, q2⟩ := hM.2.1 a ha
  exact ⟨fun c hc e => by have := (q1.lt c hc).2; have := (h1.lt c e).1; omega, fun c hc e => by have := (q2.lt c hc).2; have := (h2.lt c e).1; omega⟩
set_option maxHeartbeats 4000000 in
set_option maxRecDepth 100000 in
theorem l8CopyP (v : Value) (ms : List Ms) (w : World) (hS : MSlice w v ms) (hml : ms.length ≤ 1048576) (hsm : ∀ m ∈ ms, SmallM m) :
    Calls Tryd.prog 46 #[v] w (LCp w ms) := by
  have hi9 : (Tryd.prog.info? 28).map (fun i => (i.zero, i.size, i.bytes)) = some (some (.agg #[.int .i64 0, .int .i64 0, .int .i64 0, .int .i64 0, .int .i64 0, .slice none 0 0, .slice none 0 0]), 7, 88) := by kernel_rfl
  obtain ⟨ti, hti, hxx⟩ := Option.map_eq_some_iff.1 hi9
  simp only [Prod.mk.injEq] at hxx
  obtain ⟨hz0, hz1, hz2⟩ := hxx
  clear hi9
  have CP : Hid (∀ (m : Ms) (v u : Value) (wx : World), MLs wx v u m → SmallM m → Calls Tryd.prog 47 #[magg m v u] wx (MCp wx m)) := fun m v u wx h1 h2 => copyOneP m v u wx h1 h2.1 h2.2
  have HS : Hid (MSlice w v ms) := hS
  have HSm : Hid (∀ m ∈ ms, SmallM m) := hsm
  obtain ⟨a, cap, rfl, -, hcm, -⟩ := hS
  unfold maxLen at hcm
  have H0 : Hid (Dr.MRow w.heap.size (w.alloc (.cells #[] 28)) (.slice (some ⟨w.heap.size, 0, none⟩) 0 0) []) := ⟨World.ownsRow_made w #[] 0 (Nat.le_refl _) (by unfold maxLen; omega) rfl, fun p hp => (by cases hp), fun p hp => by cases hp⟩
  clear hsm
  go_enter Tryd.func46, Tryd.ntmps46
  go_wp2
  go_loopw [3, 4] (fun ov i wr => ∃ (k : Nat) (ps : List (Ms × Value × Value)), k ≤ ms.length ∧ i = .int .i64 (k : Int) ∧ Hid (ps.length = k) ∧ Hid (ps.map (·.1) = ms.take k) ∧ Hid (Dr.MRow w.heap.size wr ov ps) ∧ Hid (Dst ps) ∧ Hid (Ext w wr)) (fun _ i _ => ms.length - (intOf i).toNat)
  case atStart => exact ⟨0, [], Nat.zero_le _, rfl, rfl, rfl, H0, List.Pairwise.nil, (Ext.refl _).alloc _⟩
  case round =>
    obtain ⟨k, ps, hk, rfl, HPl, HP, HM, HD, HE⟩ := hrel
    obtain ⟨ad, cp, rfl⟩ := Led.owns_form HM.out.1
    have hsz : w.heap.size ≤ wr.heap.size := HE.out.size
    by_cases hlt : k < ms.length
    · obtain ⟨m, hmk⟩ : ∃ m, ms[k]? = some m := ⟨_, List.getElem?_eq_getElem hlt⟩
      have HSk : Hid (SmallM m) := HSm.out m (List.mem_of_getElem? hmk)
      have HP1 : Hid (ps.map (·.1) ++ [m] = ms.take (k + 1)) := by
        show _ = _
        obtain ⟨hk', rfl⟩ := List.getElem?_eq_some_iff.1 hmk
        rw [List.take_succ_eq_append_getElem hk', HP.out]
      obtain ⟨b1, off1, cap1, e1, hlt1, hlm1, hcm1, hb1, hm⟩ := (HS.out.ext HE.out).at2 hmk
      injection e1 with e1 e4 e5
      subst e1 e5
      obtain ⟨vz, uz, ⟨c0, c1, c2, c3, c4, c5, c6⟩, hls⟩ := hm
      obtain ⟨x0, y0, x1, y1, rfl, rfl, -, -, -, -⟩ := hls.form
      have HL : Hid (MLs wr (.slice x0 m.certs.length y0) (.slice x1 m.refs.length y1) m) := hls.ext (Ext.refl _)
      clear hls hmk e4
      go_wp2_with fail
      refine (CP.out m _ _ _ HL.out HSk.out).mono ?_
      rintro e w3 ⟨vx, vy, rfl, hx, hy, hb⟩
      have HX3 : Hid (Ext wr w3) := (Ext.refl _).trans hb
      obtain ⟨ax, cx, rfl⟩ := Led.owns_form hx
      obtain ⟨ay, cy, rfl⟩ := Led.owns_form hy
      have HC3 : Hid (w3.ownsRow wr.heap.size 76 3 (.slice ax m.certs.length cx) m.certs.length (cellsCt m.certs) ∧ w3.ownsRow wr.heap.size 2 1 (.slice ay m.refs.length cy) m.refs.length (m.refs.map (Value.int .i64))) := ⟨Dr.own_base hx (Nat.le_refl _), Dr.own_base hy (Nat.le_refl _)⟩
      have HM3 : Hid (Dr.MRow w.heap.size w3 (.slice ad ps.length cp) ps) := HM.out.ext HX3.out
      have HD3 : Hid (Dst (ps ++ [(m, .slice ax m.certs.length cx, .slice ay m.refs.length cy)])) := Dst.push HD.out HM.out HC3.out.1 HC3.out.2
      have hsz3 : w.heap.size ≤ w3.heap.size := Nat.le_trans hsz HX3.out.size
      unfold magg
      clear hx hy hb HL c0 c1 c2 c3 c4 c5 c6
      go_wp2_with (at_builtin; go_must (refine wpList_append_own _ rfl _ _ 24 rfl w.heap.size 28 ti (.agg #[.int .i64 0, .int .i64 0, .int .i64 0, .int .i64 0, .int .i64 0, .slice none 0 0, .slice none 0 0]) 7 88 Tryd.underlying24 hti hz0 hz1 hz2 rfl (by decide) _ ps.length _ rfl (HM3.out.1.alloc _) ⟨w3.heap.size, 0, none⟩ 1 1 (Dr.cellsP [(m, .slice ax m.certs.length cx, .slice ay m.refs.length cy)]) rfl rfl (Dr.msg_new _ _ _ _ _) (Dr.cellsP_one _ (fun p hp => by rw [List.mem_singleton] at hp; subst hp; exact ⟨rfl, rfl⟩)) (by have := HPl.out; unfold maxLen; omega) (by have := HPl.out; omega) (by simp; omega) ?_; intro v6 w6 hown6 hgrow6 hnil6; have HM6 : Hid (Dr.MRow w.heap.size w6 v6 (ps ++ [(m, .slice ax m.certs.length cx, .slice ay m.refs.length cy)])) := HM3.out.push (Dr.own_base HC3.out.1 hsz) (Dr.own_base HC3.out.2 hsz) hown6 hgrow6 HSk.out; have HE6 : Hid (Ext w w6) := Below.grown ((HE.out.trans HX3.out).alloc _) hgrow6 (by simp; omega) (fun q hq => (HM3.out.1.lt q hq).1); clear hown6 hgrow6 hnil6))
      exact ⟨⟨k + 1, ps ++ [(m, .slice ax m.certs.length cx, .slice ay m.refs.length cy)], by omega, by go_num, by show _ = _; rw [List.length_append, HPl.out]; rfl, by show _ = _; rw [List.map_append]; exact HP1.out, HM6, HD3, HE6⟩, by simp [intOf]; omega⟩
    · have hke : k = ms.length := by omega
      have hltI : ¬ (k : Int) < (ms.length : Int) := by omega
      have HPe : Hid (ps.map (·.1) = ms) := by show _ = _; rw [HP.out, hke, List.take_length]
      clear hke
      go_wp2
      go_ret
      exact ⟨_, ps, rfl, HM.out, HD.out, HPe.out, HE.out⟩
set_option maxHeartbeats 4000000 in
set_option maxRecDepth 100000 in
theorem copyLedgerP (v : Value) (ms : List Ms) (w : World) (hS : MSlice w v ms) (hml : ms.length ≤ 1048576) (hsm : ∀ m ∈ ms, SmallM m) :
    Calls Tryd.prog 21 #[v] w (LCp w ms) := by
  have hi9 : (Tryd.prog.info? 28).map (fun i => (i.zero, i.size, i.bytes)) = some (some (.agg #[.int .i64 0, .int .i64 0, .int .i64 0, .int .i64 0, .int .i64 0, .slice none 0 0, .slice none 0 0]), 7, 88) := by kernel_rfl
  obtain ⟨ti, hti, hxx⟩ := Option.map_eq_some_iff.1 hi9
  simp only [Prod.mk.injEq] at hxx
  obtain ⟨hz0, hz1, hz2⟩ := hxx
  clear hi9
  have CP : Hid (∀ (m : Ms) (v u : Value) (wx : World), MLs wx v u m → SmallM m → Calls Tryd.prog 22 #[magg m v u] wx (MCp wx m)) := fun m v u wx h1 h2 => copyMsgP m v u wx h1 h2.1 h2.2
  have HS : Hid (MSlice w v ms) := hS
  have HSm : Hid (∀ m ∈ ms, SmallM m) := hsm
  obtain ⟨a, cap, rfl, -, hcm, -⟩ := hS
  unfold maxLen at hcm
  have H0 : Hid (Dr.MRow w.heap.size w (.slice none 0 0) []) := ⟨World.ownsRow_nil _ _ _ _, fun p hp => (by cases hp), fun p hp => by cases hp⟩
  clear hsm
  go_enter Tryd.func21, Tryd.ntmps21
  go_wp2
  go_loopw [3, 8] (fun ov i wr => ∃ (k : Nat) (ps : List (Ms × Value × Value)), k ≤ ms.length ∧ i = .int .i64 (k : Int) ∧ Hid (ps.length = k) ∧ Hid (ps.map (·.1) = ms.take k) ∧ Hid (Dr.MRow w.heap.size wr ov ps) ∧ Hid (Dst ps) ∧ Hid (Ext w wr)) (fun _ i _ => ms.length - (intOf i).toNat)
  case atStart => exact ⟨0, [], Nat.zero_le _, rfl, rfl, rfl, H0, List.Pairwise.nil, Ext.refl _⟩
  case round =>
    obtain ⟨k, ps, hk, rfl, HPl, HP, HM, HD, HE⟩ := hrel
    obtain ⟨ad, cp, rfl⟩ := Led.owns_form HM.out.1
    have hsz : w.heap.size ≤ wr.heap.size := HE.out.size
    by_cases hlt : k < ms.length
    · obtain ⟨m, hmk⟩ : ∃ m, ms[k]? = some m := ⟨_, List.getElem?_eq_getElem hlt⟩
      have HSk : Hid (SmallM m) := HSm.out m (List.mem_of_getElem? hmk)
      have HP1 : Hid (ps.map (·.1) ++ [m] = ms.take (k + 1)) := by
        show _ = _
        obtain ⟨hk', rfl⟩ := List.getElem?_eq_some_iff.1 hmk
        rw [List.take_succ_eq_append_getElem hk', HP.out]
      obtain ⟨b1, off1, cap1, e1, hlt1, hlm1, hcm1, hb1, hm⟩ := (HS.out.ext HE.out).at2 hmk
      injection e1 with e1 e4 e5
      subst e1 e5
      obtain ⟨vz, uz, ⟨c0, c1, c2, c3, c4, c5, c6⟩, hls⟩ := hm
      obtain ⟨x0, y0, x1, y1, rfl, rfl, -, -, -, -⟩ := hls.form
      have HL : Hid (MLs (wr.alloc (.cells #[.int .i64 m.kind, .int .i64 m.view, .int .i64 m.from_, .int .i64 m.slot, .int .i64 m.value, .slice x0 m.certs.length y0, .slice x1 m.refs.length y1] 28)) (.slice x0 m.certs.length y0) (.slice x1 m.refs.length y1) m) := hls.ext ((Ext.refl _).alloc _)
      clear hls hmk e4
      go_wp2_with fail
      refine (CP.out m _ _ _ HL.out HSk.out).mono ?_
      rintro e w3 ⟨vx, vy, rfl, hx, hy, hb⟩
      have HX3 : Hid (Ext wr w3) := ((Ext.refl _).alloc _).trans hb
      obtain ⟨ax, cx, rfl⟩ := Led.owns_form hx
      obtain ⟨ay, cy, rfl⟩ := Led.owns_form hy
      have HC3 : Hid (w3.ownsRow wr.heap.size 76 3 (.slice ax m.certs.length cx) m.certs.length (cellsCt m.certs) ∧ w3.ownsRow wr.heap.size 2 1 (.slice ay m.refs.length cy) m.refs.length (m.refs.map (Value.int .i64))) := ⟨Dr.own_base hx (by simp), Dr.own_base hy (by simp)⟩
      have HM3 : Hid (Dr.MRow w.heap.size w3 (.slice ad ps.length cp) ps) := HM.out.ext HX3.out
      have HD3 : Hid (Dst (ps ++ [(m, .slice ax m.certs.length cx, .slice ay m.refs.length cy)])) := Dst.push HD.out HM.out HC3.out.1 HC3.out.2
      have hsz3 : w.heap.size ≤ w3.heap.size := Nat.le_trans hsz HX3.out.size
      unfold magg
      clear hx hy hb HL c0 c1 c2 c3 c4 c5 c6
      go_wp2_with (at_builtin; go_must (refine wpList_append_own _ rfl _ _ 24 rfl w.heap.size 28 ti (.agg #[.int .i64 0, .int .i64 0, .int .i64 0, .int .i64 0, .int .i64 0, .slice none 0 0, .slice none 0 0]) 7 88 Tryd.underlying24 hti hz0 hz1 hz2 rfl (by decide) _ ps.length _ rfl (HM3.out.1.alloc _) ⟨w3.heap.size, 0, none⟩ 1 1 (Dr.cellsP [(m, .slice ax m.certs.length cx, .slice ay m.refs.length cy)]) rfl rfl (Dr.msg_new _ _ _ _ _) (Dr.cellsP_one _ (fun p hp => by rw [List.mem_singleton] at hp; subst hp; exact ⟨rfl, rfl⟩)) (by have := HPl.out; unfold maxLen; omega) (by have := HPl.out; omega) (by simp; omega) ?_; intro v6 w6 hown6 hgrow6 hnil6; have HM6 : Hid (Dr.MRow w.heap.size w6 v6 (ps ++ [(m, .slice ax m.certs.length cx, .slice ay m.refs.length cy)])) := HM3.out.push (Dr.own_base HC3.out.1 hsz) (Dr.own_base HC3.out.2 hsz) hown6 hgrow6 HSk.out; have HE6 : Hid (Ext w w6) := Below.grown ((HE.out.trans HX3.out).alloc _) hgrow6 (by simp; omega) (fun q hq => (HM3.out.1.lt q hq).1); clear hown6 hgrow6 hnil6))
      exact ⟨⟨k + 1, ps ++ [(m, .slice ax m.certs.length cx, .slice ay m.refs.length cy)], by omega, by go_num, by show _ = _; rw [List.length_append, HPl.out]; rfl, by show _ = _; rw [List.map_append]; exact HP1.out, HM6, HD3, HE6⟩, by simp [intOf]; omega⟩
    · have hke : k = ms.length := by omega
      have hltI : ¬ (k : Int) < (ms.length : Int) := by omega
      have HPe : Hid (ps.map (·.1) = ms) := by show _ = _; rw [HP.out, hke, List.take_length]
      clear hke
      go_wp2
      go_ret
      exact ⟨_, ps, rfl, HM.out, HD.out, HPe.out, HE.out⟩
end Go.Proofs.YtpncnfodgfldlaaDoor
