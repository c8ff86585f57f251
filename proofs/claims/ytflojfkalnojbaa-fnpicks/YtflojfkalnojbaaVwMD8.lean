/- the specification's l10World. -/
import Derived.Test.YtflojfkalnojbaaVwMD6
import Derived.Test.YtflojfkalnojbaaVwQ9
namespace Go.Proofs.Ytflojfkalnojbaa
open Go.RowKit
theorem Dr.boxg {w w' : World} {R : Nat} {m : Ms} {v u : Value} {k : Option Nat} (h : MBoxAt w R m v u) (hg : w.grownBy w' k) (hne : ∀ q, k = some q → q ≠ R) : MBoxAt w' R m v u := by
  have hb : w'.heap[R]? = w.heap[R]? := hg.block R h.1 (fun e => hne R e.symm rfl)
  obtain ⟨hl, ⟨c0, c1, c2, c3, c4, c5, c6⟩, f0, f1, f2, f3, f4, f5, f6⟩ := h
  have hc := fun o => (Dr.cell_block hb o).1
  have hf := fun o => (Dr.cell_block hb o).2
  exact ⟨Nat.lt_of_lt_of_le hl hg.size, ⟨(hc _).trans c0, (hc _).trans c1, (hc _).trans c2, (hc _).trans c3, (hc _).trans c4, (hc _).trans c5, (hc _).trans c6⟩, (hf _).trans f0, (hf _).trans f1, (hf _).trans f2, (hf _).trans f3, (hf _).trans f4, (hf _).trans f5, (hf _).trans f6⟩
theorem Dr.msg_newS (w : World) (m : Ms) (v u : Value) (t : TypeId) (n : Nat) (hn : n = w.heap.size) : ∀ j x, (Dr.cellsP [(m, v, u)])[j]? = some x → (w.alloc (.cells #[.int .i64 m.kind, .int .i64 m.view, .int .i64 m.from_, .int .i64 m.slot, .int .i64 m.value, v, u] t)).cell? ((⟨n, 0, none⟩ : Addr).add j) = some x := by
  subst hn
  exact Dr.msg_new w m v u t
/-- How a message in a box stands while it is made: its lists are its own. -/
def Dr.Mx (w : World) (b : Nat) (cv : Value) (W : World) (B a : Nat) (m : Ms) (v u : Value) : Prop :=
  MBoxAt W B m v u ∧ w.heap.size ≤ B ∧ W.ownsRow w.heap.size 38 3 v m.certs.length (cellsCt m.certs) ∧ W.ownsRow w.heap.size 2 1 u m.refs.length (m.refs.map (Value.int .i64)) ∧ (∀ q, v.ownBlock = some q → q ≠ B) ∧ (∀ q, u.ownBlock = some q → q ≠ B) ∧ Dr.Tick b a cv w W
theorem Dr.Mx.tick {w : World} {b : Nat} {cv : Value} {W W' : World} {B a a2 : Nat} {m : Ms} {v u : Value} (h : Dr.Mx w b cv W B a m v u) (hb : b < w.heap.size) (ht : Dr.Tick b a2 cv W W') : Dr.Mx w b cv W' B a2 m v u := by
  obtain ⟨h2, h3, h4, h5, h6, h7, h8⟩ := h
  exact ⟨ht.2.2.box h2 (by omega), h3, ht.2.2.own h4 (by omega), ht.2.2.own h5 (by omega), h6, h7, h8.trans ht⟩
theorem Dr.Mx.first {w W : World} {b a : Nat} {cv : Value} {m : Ms} {v u : Value} (ht : Dr.Tick b a cv w W) (h4 : W.ownsRow w.heap.size 38 3 v m.certs.length (cellsCt m.certs)) (h5 : W.ownsRow w.heap.size 2 1 u m.refs.length (m.refs.map (Value.int .i64))) :
    Dr.Mx w b cv (W.alloc (.cells #[.int .i64 m.kind, .int .i64 m.view, .int .i64 m.from_, .int .i64 m.slot, .int .i64 m.value, v, u] 28)) W.heap.size a m v u :=
  ⟨mbox_new W m v u _, ht.2.2.1, h4.alloc _, h5.alloc _, fun q hq => Nat.ne_of_lt (h4.lt q hq).2, fun q hq => Nat.ne_of_lt (h5.lt q hq).2, ht.ext ((Ext.refl _).alloc _)⟩
theorem Dr.Mx.certs {w : World} {b : Nat} {cv : Value} {W W2 : World} {B a : Nat} {m : Ms} {v u v6 : Value} {o : Obj} {z : Ct} (h : Dr.Mx w b cv W B a m v u) (hb : b < w.heap.size) (ho : W2.ownsRow w.heap.size 38 3 v6 (m.certs.length + 1) (cellsCt m.certs ++ cellsCt [z])) (hg : (W.alloc o).grownBy W2 v.ownBlock) (hat : v6.ownBlock = v.ownBlock ∨ v6.ownBlock = some (W.alloc o).heap.size) :
    MBoxAt W2 B m v u ∧ Dr.Mx w b cv (W2.setCell ⟨B, 5, none⟩ v6) B a { m with certs := m.certs ++ [z] } v6 u := by
  obtain ⟨h2, h3, h4, h5, h6, h7, h8⟩ := h
  have hv := h4.lt
  have hB2 := h2.1
  have e2 : MBoxAt W2 B m v u := Dr.boxg (h2.ext ((Ext.refl W).alloc o)) hg h6
  have h6' : ∀ q, v6.ownBlock = some q → q ≠ B := fun q hq => by
    rcases hat with h | h
    · exact h6 q (h.symm.trans hq)
    · rw [h] at hq
      cases hq
      simp
      omega
  refine ⟨e2, e2.set5, h3, ?_, ?_, h6', h7, ?_⟩
  · rw [List.length_append]
    rw [show cellsCt (m.certs ++ [z]) = cellsCt m.certs ++ cellsCt [z] from by simp [cellsCt]]
    exact Dr.own_set ho _ _ _ h6'
  · exact Dr.own_set (Dr.own_grown (h5.alloc _) hg (Dr.own_ne h4 h5 Dr.ne_types)) _ _ _ h7
  · exact (Dr.Tick.grown (h8.ext ((Ext.refl _).alloc _)) hb hg (fun q hq => by have := (hv q hq).1; omega)).set hb _ _ (by omega) _
theorem Dr.Mx.refs {w : World} {b : Nat} {cv : Value} {W W2 : World} {B a : Nat} {m : Ms} {v u v6 : Value} {o : Obj} {z : Int} (h : Dr.Mx w b cv W B a m v u) (hb : b < w.heap.size) (ho : W2.ownsRow w.heap.size 2 1 v6 (m.refs.length + 1) (m.refs.map (Value.int .i64) ++ [.int .i64 z])) (hg : (W.alloc o).grownBy W2 u.ownBlock) (hat : v6.ownBlock = u.ownBlock ∨ v6.ownBlock = some (W.alloc o).heap.size) :
    MBoxAt W2 B m v u ∧ Dr.Mx w b cv (W2.setCell ⟨B, 6, none⟩ v6) B a { m with refs := m.refs ++ [z] } v v6 := by
  obtain ⟨h2, h3, h4, h5, h6, h7, h8⟩ := h
  have hv := h5.lt
  have hB2 := h2.1
  have e2 : MBoxAt W2 B m v u := Dr.boxg (h2.ext ((Ext.refl W).alloc o)) hg h7
  have h7' : ∀ q, v6.ownBlock = some q → q ≠ B := fun q hq => by
    rcases hat with h | h
    · exact h7 q (h.symm.trans hq)
    · rw [h] at hq
      cases hq
      simp
      omega
  refine ⟨e2, e2.set6, h3, ?_, ?_, h6, h7', ?_⟩
  · exact Dr.own_set (Dr.own_grown (h4.alloc _) hg (fun q hq e => Dr.own_ne h4 h5 Dr.ne_types q e hq)) _ _ _ h6
  · rw [List.length_append]
    rw [show (m.refs ++ [z]).map (Value.int .i64) = m.refs.map (Value.int .i64) ++ [Value.int .i64 z] from by simp]
    exact Dr.own_set ho _ _ _ h7'
  · exact (Dr.Tick.grown (h8.ext ((Ext.refl _).alloc _)) hb hg (fun q hq => by have := (hv q hq).1; omega)).set hb _ _ (by omega) _
set_option maxHeartbeats 16000000 in
set_option maxRecDepth 100000 in
theorem l10World_any (b a : Nat) (cv : Value) (w : World) (h : SrcAt w b a cv) (ha : a ≤ 100) :
    Calls Try.prog 141 #[.pointer (some ⟨b, 0, none⟩)] w (Dr.Ledger 60 w b a cv) := by
  have hi9 : (Try.prog.info? 28).map (fun i => (i.zero, i.size, i.bytes)) = some (some (.agg #[.int .i64 0, .int .i64 0, .int .i64 0, .int .i64 0, .int .i64 0, .slice none 0 0, .slice none 0 0]), 7, 88) := by kernel_rfl
  obtain ⟨ti, hti, hxx⟩ := Option.map_eq_some_iff.1 hi9
  simp only [Prod.mk.injEq] at hxx
  obtain ⟨hz0, hz1, hz2⟩ := hxx
  clear hi9
  have hi9 : (Try.prog.info? 38).map (fun i => (i.zero, i.size, i.bytes)) = some (some (.agg #[.int .i64 0, .int .i64 0, .int .i64 0]), 3, 24) := by kernel_rfl
  obtain ⟨tc, htc, hxx⟩ := Option.map_eq_some_iff.1 hi9
  simp only [Prod.mk.injEq] at hxx
  obtain ⟨hy0, hy1, hy2⟩ := hxx
  clear hi9
  have hi9 : (Try.prog.info? 2).map (fun i => (i.zero, i.size, i.bytes)) = some (some (.int .i64 0), 1, 8) := by kernel_rfl
  obtain ⟨tn, htn, hxx⟩ := Option.map_eq_some_iff.1 hi9
  simp only [Prod.mk.injEq] at hxx
  obtain ⟨hn0, hn1, hn2⟩ := hxx
  clear hi9
  have hb := h.lt
  have NX : Hid (∀ (a' : Nat) (k : Int) (wx : World), SrcAt wx b a' cv → 1 ≤ k → k ≤ 200 → a' ≤ 1000 → Calls Try.prog 67 #[.pointer (some ⟨b, 0, none⟩), .int .i64 k] wx fun e w' => ∃ r : Int, e = .returned (.int .i64 r) ∧ 0 ≤ r ∧ r < k ∧ Dr.Tick b (a' + 1) cv wx w') := fun a' k wx h1 h2 h3 h4 => Dr.next b a' cv k wx h1 h2 h3 h4
  have CH : Hid (∀ (a' : Nat) (k : Int) (wx : World), SrcAt wx b a' cv → 1 ≤ k → k ≤ 200 → a' ≤ 1000 → Calls Try.prog 64 #[.pointer (some ⟨b, 0, none⟩), .int .i64 k] wx fun e w' => ∃ r : Bool, e = .returned (.bool r) ∧ Dr.Tick b (a' + 1) cv wx w') := fun a' k wx h1 h2 h3 h4 => Dr.chance b a' cv k wx h1 h2 h3 h4
  have HCt : Hid (∀ (ov : Value) (ms : List Ms) (id : Int) (wx : World), MSlice wx ov ms → (∀ z ∈ ms, 0 ≤ z.view) → Calls Try.prog 118 #[ov, .int .i64 id, .int .i64 1] wx fun e w' => ∃ (vo : Value) (cs : List Ct), e = .returned vo ∧ cs.length ≤ 30 ∧ w'.ownsRow wx.heap.size 38 3 vo cs.length (cellsCt cs) ∧ Ext wx w') := fun ov ms id wx h1 h2 => (l10Certs_row ov ms id 1 wx h1 h2).mono fun e w' ⟨vo, g1, g2, g3⟩ => ⟨vo, _, g1, Msg.ns_len _ _, g2, g3⟩
  have T0 : Hid (Dr.Tick b a cv w (w.alloc (.cells #[] 28))) := (Dr.Tick.start h).ext ((Ext.refl _).alloc _)
  have M0 : Hid (Dr.MRow w.heap.size (w.alloc (.cells #[] 28)) (.slice (some ⟨w.heap.size, 0, none⟩) 0 0) []) := ⟨World.ownsRow_made w #[] 0 (Nat.le_refl _) (by unfold maxLen; omega) rfl, fun p hp => (by cases hp), fun p hp => by cases hp⟩
  have PK0 : Hid (∀ (a' g : Nat) (wx : World), g = wx.heap.size → SrcAt wx b a' cv → a' ≤ 1000 → Calls Try.prog 126 #[.pointer (some ⟨b, 0, none⟩), .slice (some ⟨g, 0, none⟩) 4 4] (wx.alloc (.cells #[.int .i64 2, .int .i64 2, .int .i64 2, .int .i64 1] 2)) fun e w' => ∃ x : Int, e = .returned (.int .i64 x) ∧ Dr.Tick b (a' + 1) cv wx w') := fun a' g wx hg h1 h2 => by subst hg; exact Dr.pick b a' cv [2, 2, 2, 1] wx 2 h1 (by decide) (by decide) h2
  have PK1 : Hid (∀ (a' g : Nat) (wx : World), g = wx.heap.size → SrcAt wx b a' cv → a' ≤ 1000 → Calls Try.prog 126 #[.pointer (some ⟨b, 0, none⟩), .slice (some ⟨g, 0, none⟩) 3 3] (wx.alloc (.cells #[.int .i64 1, .int .i64 1, .int .i64 0] 2)) fun e w' => ∃ x : Int, e = .returned (.int .i64 x) ∧ Dr.Tick b (a' + 1) cv wx w') := fun a' g wx hg h1 h2 => by subst hg; exact Dr.pick b a' cv [1, 1, 0] wx 2 h1 (by decide) (by decide) h2
  have PK2 : Hid (∀ (a' g : Nat) (wx : World), g = wx.heap.size → SrcAt wx b a' cv → a' ≤ 1000 → Calls Try.prog 126 #[.pointer (some ⟨b, 0, none⟩), .slice (some ⟨g, 0, none⟩) 3 3] (wx.alloc (.cells #[.int .i64 2, .int .i64 2, .int .i64 1] 2)) fun e w' => ∃ x : Int, e = .returned (.int .i64 x) ∧ Dr.Tick b (a' + 1) cv wx w') := fun a' g wx hg h1 h2 => by subst hg; exact Dr.pick b a' cv [2, 2, 1] wx 2 h1 (by decide) (by decide) h2
  clear h
  go_enter Try.func141, Try.ntmps141
  go_wp2
  go_loopw [3, 4] (fun ov i wr => ∃ (s : Nat) (ps : List (Ms × Value × Value)) (a4 : Nat), 1 ≤ s ∧ s ≤ 3 ∧ i = .int .i64 (s : Int) ∧ ps.length + 8 ≤ 8 * s ∧ a4 + 9 ≤ a + 9 * s ∧ Hid (Dr.MRow w.heap.size wr ov ps) ∧ Hid (Dr.Tick b a4 cv w wr) ∧ Hid (∀ p ∈ ps, 0 ≤ p.1.view)) (fun _ i _ => 3 - (intOf i).toNat)
  case atStart => exact ⟨1, [], a, by omega, by omega, rfl, by simp, by omega, M0, T0, fun p hp => by cases hp⟩
  case round =>
    obtain ⟨s, ps, a4, hs1, hs3, rfl, hpl, ha4, HM, HT, HV⟩ := hrel
    obtain ⟨ad, cp, rfl⟩ := Led.owns_form HM.out.1
    by_cases hs : s ≤ 2
    · have hs2 : (s : Int) ≤ 2 := by omega
      go_wp2_with fail
      refine (NX.out a4 2 _ HT.out.1 (by omega) (by omega) (by omega)).mono ?_
      rintro e w1 ⟨r1, rfl, hr0, hr1, ht⟩
      have HM1 : Hid (Dr.MRow w.heap.size w1 (.slice ad ps.length cp) ps) := HM.out.kp ht.2.2 hb
      have HT1 : Hid (Dr.Tick b (a4 + 1) cv w w1) := HT.out.trans ht
      clear ht HM HT
      have hwr : IntKind.i64.wrap (1 + r1) = 1 + r1 := by rw [IntKind.wrap_i64]; omega
      go_wp2
      go_loopw [3, 6] (fun ov i wy => ∃ (j : Nat) (ps : List (Ms × Value × Value)) (a5 : Nat), 1 ≤ j ∧ j ≤ 5 ∧ i = .int .i64 (j : Int) ∧ ps.length + 10 ≤ 8 * s + 2 * j ∧ a5 + 10 ≤ a + 9 * s + 2 * j ∧ Hid (Dr.MRow w.heap.size wy ov ps) ∧ Hid (Dr.Tick b a5 cv w wy) ∧ Hid (∀ p ∈ ps, 0 ≤ p.1.view)) (fun _ i _ => 5 - (intOf i).toNat)
      case atStart => exact ⟨1, ps, a4 + 1, by omega, by omega, rfl, by omega, by omega, HM1, HT1, HV⟩
      case round =>
        obtain ⟨j, ps, a5, hj1, hj5, rfl, hpl, ha5, HM, HT, HV⟩ := hrel
        obtain ⟨ad, cp, rfl⟩ := Led.owns_form HM.out.1
        by_cases hj : j ≤ 4
        · have hj4 : (j : Int) ≤ 4 := by omega
          go_wp2_with fail
          refine (CH.out (a5) 8 _ HT.out.1 (by omega) (by omega) (by omega)).mono ?_
          rintro e w3 ⟨ch3, rfl, ht⟩
          have HM3 : Hid (Dr.MRow w.heap.size w3 (.slice ad ps.length cp) ps) := HM.out.kp ht.2.2 hb
          have HT3 : Hid (Dr.Tick b (a5 + 1) cv w w3) := HT.out.trans ht
          have hsz3 : w.heap.size ≤ w3.heap.size := HT3.out.2.2.1
          clear ht HM HT
          cases ch3 with
          | true =>
            go_wp2_with fail
            refine (CH.out (a5 + 1) 2 _ HT3.out.1 (by omega) (by omega) (by omega)).mono ?_
            rintro e w4 ⟨ch4, rfl, ht⟩
            have HM4 : Hid (Dr.MRow w.heap.size w4 (.slice ad ps.length cp) ps) := HM3.out.kp ht.2.2 hb
            have HT4 : Hid (Dr.Tick b (a5 + 1 + 1) cv w w4) := HT3.out.trans ht
            have hsz4 : w.heap.size ≤ w4.heap.size := HT4.out.2.2.1
            clear ht HM3 HT3
            cases ch4 with
            | false =>
              go_wp2
              exact ⟨⟨j + 1, ps, a5 + 1 + 1, by omega, by omega, by go_num, by omega, by omega, HM4, HT4, HV⟩, by simp [intOf]; omega⟩
            | true =>
              have HV6 : Hid (∀ p ∈ ps ++ [((⟨3, 0, (j : Int), (s : Int), 1 + r1, [], []⟩ : Ms), (.slice none 0 0), (.slice none 0 0))], 0 ≤ p.1.view) := fun p hp => by rw [List.mem_append, List.mem_singleton] at hp; rcases hp with hp | rfl; exact HV.out p hp; exact (by decide : (0 : Int) ≤ 0)
              go_wp2_with (at_builtin; go_must (refine wpList_append_own _ rfl _ _ 24 rfl w.heap.size 28 ti (.agg #[.int .i64 0, .int .i64 0, .int .i64 0, .int .i64 0, .int .i64 0, .slice none 0 0, .slice none 0 0]) 7 88 Try.underlying24 hti hz0 hz1 hz2 rfl (by decide) _ ps.length _ rfl (HM4.out.1.alloc _) ⟨w4.heap.size, 0, none⟩ 1 1 (Dr.cellsP [((⟨3, 0, (j : Int), (s : Int), 1 + r1, [], []⟩ : Ms), (.slice none 0 0), (.slice none 0 0))]) rfl rfl (Dr.msg_new _ _ _ _ _) (Dr.cellsP_one _ (fun p hp => by rw [List.mem_singleton] at hp; subst hp; exact ⟨rfl, rfl⟩)) (by unfold maxLen; omega) (by omega) (by simp; omega) ?_; intro v6 w6 hown6 hgrow6 hnil6; have HM6 : Hid (Dr.MRow w.heap.size w6 v6 (ps ++ [((⟨3, 0, (j : Int), (s : Int), 1 + r1, [], []⟩ : Ms), (.slice none 0 0), (.slice none 0 0))])) := HM4.out.push (World.ownsRow_nil _ _ _ _) (World.ownsRow_nil _ _ _ _) hown6 hgrow6 ⟨Nat.zero_le _, Nat.zero_le _⟩; have HT6 : Hid (Dr.Tick b (a5 + 1 + 1) cv w w6) := Dr.Tick.grown (HT4.out.ext ((Ext.refl _).alloc _)) hb hgrow6 (fun q hq => (HM4.out.1.lt q hq).1); clear hown6 hgrow6 hnil6))
              exact ⟨⟨j + 1, ps ++ [((⟨3, 0, (j : Int), (s : Int), 1 + r1, [], []⟩ : Ms), (.slice none 0 0), (.slice none 0 0))], a5 + 1 + 1, by omega, by omega, by go_num, by rw [List.length_append]; simp; omega, by omega, HM6, HT6, HV6⟩, by simp [intOf]; omega⟩
          | false =>
            have HV6 : Hid (∀ p ∈ ps ++ [((⟨2, 0, (j : Int), (s : Int), 1 + r1, [], []⟩ : Ms), (.slice none 0 0), (.slice none 0 0))], 0 ≤ p.1.view) := fun p hp => by rw [List.mem_append, List.mem_singleton] at hp; rcases hp with hp | rfl; exact HV.out p hp; exact (by decide : (0 : Int) ≤ 0)
            go_wp2_with (at_builtin; go_must (refine wpList_append_own _ rfl _ _ 24 rfl w.heap.size 28 ti (.agg #[.int .i64 0, .int .i64 0, .int .i64 0, .int .i64 0, .int .i64 0, .slice none 0 0, .slice none 0 0]) 7 88 Try.underlying24 hti hz0 hz1 hz2 rfl (by decide) _ ps.length _ rfl (HM3.out.1.alloc _) ⟨w3.heap.size, 0, none⟩ 1 1 (Dr.cellsP [((⟨2, 0, (j : Int), (s : Int), 1 + r1, [], []⟩ : Ms), (.slice none 0 0), (.slice none 0 0))]) rfl rfl (Dr.msg_new _ _ _ _ _) (Dr.cellsP_one _ (fun p hp => by rw [List.mem_singleton] at hp; subst hp; exact ⟨rfl, rfl⟩)) (by unfold maxLen; omega) (by omega) (by simp; omega) ?_; intro v6 w6 hown6 hgrow6 hnil6; have HM6 : Hid (Dr.MRow w.heap.size w6 v6 (ps ++ [((⟨2, 0, (j : Int), (s : Int), 1 + r1, [], []⟩ : Ms), (.slice none 0 0), (.slice none 0 0))])) := HM3.out.push (World.ownsRow_nil _ _ _ _) (World.ownsRow_nil _ _ _ _) hown6 hgrow6 ⟨Nat.zero_le _, Nat.zero_le _⟩; have HT6 : Hid (Dr.Tick b (a5 + 1) cv w w6) := Dr.Tick.grown (HT3.out.ext ((Ext.refl _).alloc _)) hb hgrow6 (fun q hq => (HM3.out.1.lt q hq).1); clear hown6 hgrow6 hnil6))
            obtain ⟨qs, hqs⟩ : ∃ qs, qs = ps ++ [((⟨2, 0, (j : Int), (s : Int), 1 + r1, [], []⟩ : Ms), (.slice none 0 0), (.slice none 0 0))] := ⟨_, rfl⟩
            have hql : Hid (qs.length = ps.length + 1) := by rw [hqs, List.length_append]; rfl
            rw [← hqs] at HM6 HV6
            clear hqs
            obtain ⟨ad7, cp7, rfl⟩ := Led.owns_form HM6.out.1
            refine (CH.out (a5 + 1) 2 _ HT6.out.1 (by omega) (by omega) (by omega)).mono ?_
            rintro e w4 ⟨ch4, rfl, ht⟩
            have HM4 : Hid (Dr.MRow w.heap.size w4 (.slice ad7 qs.length cp7) qs) := HM6.out.kp ht.2.2 hb
            have HT4 : Hid (Dr.Tick b (a5 + 1 + 1) cv w w4) := HT6.out.trans ht
            have hsz4 : w.heap.size ≤ w4.heap.size := HT4.out.2.2.1
            clear ht HM6 HT6 HM3 HT3 HV
            cases ch4 with
            | false =>
              go_wp2
              exact ⟨⟨j + 1, qs, a5 + 1 + 1, by omega, by omega, by go_num, by have := hql.out; omega, by omega, HM4, HT4, HV6⟩, by simp [intOf]; omega⟩
            | true =>
              have HV8 : Hid (∀ p ∈ qs ++ [((⟨3, 0, (j : Int), (s : Int), 1 + r1, [], []⟩ : Ms), (.slice none 0 0), (.slice none 0 0))], 0 ≤ p.1.view) := fun p hp => by rw [List.mem_append, List.mem_singleton] at hp; rcases hp with hp | rfl; exact HV6.out p hp; exact (by decide : (0 : Int) ≤ 0)
              go_wp2_with (at_builtin; go_must (refine wpList_append_own _ rfl _ _ 24 rfl w.heap.size 28 ti (.agg #[.int .i64 0, .int .i64 0, .int .i64 0, .int .i64 0, .int .i64 0, .slice none 0 0, .slice none 0 0]) 7 88 Try.underlying24 hti hz0 hz1 hz2 rfl (by decide) _ qs.length _ rfl (HM4.out.1.alloc _) ⟨w4.heap.size, 0, none⟩ 1 1 (Dr.cellsP [((⟨3, 0, (j : Int), (s : Int), 1 + r1, [], []⟩ : Ms), (.slice none 0 0), (.slice none 0 0))]) rfl rfl (Dr.msg_new _ _ _ _ _) (Dr.cellsP_one _ (fun p hp => by rw [List.mem_singleton] at hp; subst hp; exact ⟨rfl, rfl⟩)) (by have := hql.out; unfold maxLen; omega) (by have := hql.out; omega) (by have := hql.out; simp; omega) ?_; intro v8 w8 hown8 hgrow8 hnil8; have HM8 : Hid (Dr.MRow w.heap.size w8 v8 (qs ++ [((⟨3, 0, (j : Int), (s : Int), 1 + r1, [], []⟩ : Ms), (.slice none 0 0), (.slice none 0 0))])) := HM4.out.push (World.ownsRow_nil _ _ _ _) (World.ownsRow_nil _ _ _ _) hown8 hgrow8 ⟨Nat.zero_le _, Nat.zero_le _⟩; have HT8 : Hid (Dr.Tick b (a5 + 1 + 1) cv w w8) := Dr.Tick.grown (HT4.out.ext ((Ext.refl _).alloc _)) hb hgrow8 (fun q hq => (HM4.out.1.lt q hq).1); clear hown8 hgrow8 hnil8))
              exact ⟨⟨j + 1, qs ++ [((⟨3, 0, (j : Int), (s : Int), 1 + r1, [], []⟩ : Ms), (.slice none 0 0), (.slice none 0 0))], a5 + 1 + 1, by omega, by omega, by go_num, by have := hql.out; rw [List.length_append]; simp; omega, by omega, HM8, HT8, HV8⟩, by simp [intOf]; omega⟩
        · go_wp2
          exact ⟨⟨s + 1, ps, a5, by omega, by omega, by go_num, by omega, by omega, HM, HT, HV⟩, by simp [intOf]; omega⟩
    · have hs2n : ¬ (s : Int) ≤ 2 := by omega
      have hF16 : ps.length ≤ 16 := by omega
      go_wp2
      go_loopw [3, 8] (fun ov i wr => ∃ (j : Nat) (qs : List (Ms × Value × Value)) (a5 : Nat), 1 ≤ j ∧ j ≤ 5 ∧ i = .int .i64 (j : Int) ∧ qs.length + 1 ≤ 16 + j ∧ ps.length ≤ qs.length ∧ a5 + 2 ≤ a + 18 + 2 * j ∧ Hid (Dr.MRow w.heap.size wr ov qs) ∧ Hid (Dr.Tick b a5 cv w wr) ∧ Hid (∀ p ∈ qs, 0 ≤ p.1.view)) (fun _ i _ => 5 - (intOf i).toNat)
      case atStart => exact ⟨1, ps, a4, by omega, by omega, rfl, by omega, by omega, by omega, HM, HT, HV⟩
      case round =>
        obtain ⟨j, qs, a5, hj1, hj5, rfl, hpl, hpq, ha5, HM, HT, HV⟩ := hrel
        obtain ⟨ad, cp, rfl⟩ := Led.owns_form HM.out.1
        by_cases hj : j ≤ 4
        · have hj4 : (j : Int) ≤ 4 := by omega
          go_wp2_with fail
          refine (CH.out (a5) 6 _ HT.out.1 (by omega) (by omega) (by omega)).mono ?_
          rintro e w3 ⟨ch3, rfl, ht⟩
          have HM3 : Hid (Dr.MRow w.heap.size w3 (.slice ad qs.length cp) qs) := HM.out.kp ht.2.2 hb
          have HT3 : Hid (Dr.Tick b (a5 + 1) cv w w3) := HT.out.trans ht
          have hsz3 : w.heap.size ≤ w3.heap.size := HT3.out.2.2.1
          clear ht HM HT
          cases ch3 with
          | true =>
            go_wp2
            exact ⟨⟨j + 1, qs, a5 + 1, by omega, by omega, by go_num, by omega, by omega, by omega, HM3, HT3, HV⟩, by simp [intOf]; omega⟩
          | false =>
            have HSl : Hid (MSlice w3 (.slice ad qs.length cp) (qs.map (·.1))) := HM3.out.slice
            have HVs : Hid (∀ z ∈ qs.map (·.1), 0 ≤ z.view) := fun z hz => by obtain ⟨p, hp, rfl⟩ := List.mem_map.1 hz; exact HV.out p hp
            go_wp2_with fail
            refine (HCt.out _ _ _ _ HSl.out HVs.out).mono ?_
            rintro e w4 ⟨vo, cs, rfl, hcl, hrow, hb4⟩
            obtain ⟨avo, cvo, rfl⟩ := Led.owns_form hrow
            obtain ⟨W5, hW5⟩ : ∃ W5, W5 = (w4.alloc (.cells #[.int .i64 4, .int .i64 1, .int .i64 (j : Int), .int .i64 0, .int .i64 0, .slice avo cs.length cvo, .slice none 0 0] 28)) := ⟨_, rfl⟩
            have HX5 : Hid (Dr.Mx w3 b cv W5 w4.heap.size (a5 + 1) ⟨4, 1, (j : Int), 0, 0, cs, []⟩ (.slice avo cs.length cvo) (.slice none 0 0)) := by rw [hW5]; exact Dr.Mx.first (m := ⟨4, 1, (j : Int), 0, 0, cs, []⟩) (v := (.slice avo cs.length cvo)) (u := (.slice none 0 0)) ((Dr.Tick.start HT3.out.1).ext hb4) hrow (World.ownsRow_nil _ _ _ _)
            clear hb4 hrow HSl HVs
            go_wp2_with fail
            rw [← hW5]
            generalize w4.heap.size = Bm at *
            clear hW5
            refine (CH.out (a5 + 1) 8 _ HX5.out.2.2.2.2.2.2.1 (by omega) (by omega) (by omega)).mono ?_
            rintro e w6 ⟨ch6, rfl, ht⟩
            have HX6 : Hid (Dr.Mx w3 b cv w6 Bm (a5 + 1 + 1) ⟨4, 1, (j : Int), 0, 0, cs, []⟩ (.slice avo cs.length cvo) (.slice none 0 0)) := HX5.out.tick (by omega) ht
            clear ht HX5
            cases ch6 with
            | false =>
              have HV8 : Hid (∀ p ∈ qs ++ [((⟨4, 1, (j : Int), 0, 0, cs, []⟩ : Ms), (.slice avo cs.length cvo), (.slice none 0 0))], 0 ≤ p.1.view) := fun p hp => by rw [List.mem_append, List.mem_singleton] at hp; rcases hp with hp | rfl; exact HV.out p hp; exact (by decide : (0 : Int) ≤ 1)
              have HM6 : Hid (Dr.MRow w.heap.size w6 (.slice ad qs.length cp) qs) := HM3.out.kp HX6.out.2.2.2.2.2.2.2.2 hb
              have HT6 : Hid (Dr.Tick b (a5 + 1 + 1) cv w w6) := HT3.out.trans HX6.out.2.2.2.2.2.2
              have hs6 : w.heap.size ≤ w6.heap.size := HT6.out.2.2.1
              obtain ⟨bl9, ⟨q0, q1, q2, q3, q4, q5, q6⟩, f0, f1, f2, f3, f4, f5, f6⟩ := HX6.out.1
              go_wp2_with (at_builtin; go_must (refine wpList_append_own _ rfl _ _ 24 rfl w.heap.size 28 ti (.agg #[.int .i64 0, .int .i64 0, .int .i64 0, .int .i64 0, .int .i64 0, .slice none 0 0, .slice none 0 0]) 7 88 Try.underlying24 hti hz0 hz1 hz2 rfl (by decide) _ qs.length _ rfl (HM6.out.1.alloc _) ⟨w6.heap.size, 0, none⟩ 1 1 (Dr.cellsP [((⟨4, 1, (j : Int), 0, 0, cs, []⟩ : Ms), (.slice avo cs.length cvo), (.slice none 0 0))]) rfl rfl (Dr.msg_new _ _ _ _ _) (Dr.cellsP_one _ (fun p hp => by rw [List.mem_singleton] at hp; subst hp; exact ⟨rfl, rfl⟩)) (by unfold maxLen; omega) (by omega) (by simp; omega) ?_; intro v8 w8 hown8 hgrow8 hnil8; have HM8 : Hid (Dr.MRow w.heap.size w8 v8 (qs ++ [((⟨4, 1, (j : Int), 0, 0, cs, []⟩ : Ms), (.slice avo cs.length cvo), (.slice none 0 0))])) := HM6.out.push (Dr.own_base HX6.out.2.2.1 (by omega)) (World.ownsRow_nil _ _ _ _) hown8 hgrow8 ⟨by show cs.length ≤ _; omega, Nat.zero_le _⟩; have HT8 : Hid (Dr.Tick b (a5 + 1 + 1) cv w w8) := Dr.Tick.grown (HT6.out.ext ((Ext.refl _).alloc _)) hb hgrow8 (fun q hq => (HM6.out.1.lt q hq).1); clear hown8 hgrow8 hnil8))
              exact ⟨⟨j + 1, qs ++ [((⟨4, 1, (j : Int), 0, 0, cs, []⟩ : Ms), (.slice avo cs.length cvo), (.slice none 0 0))], a5 + 1 + 1, by omega, by omega, by go_num, by rw [List.length_append]; simp; omega, by rw [List.length_append]; omega, by omega, HM8, HT8, HV8⟩, by simp [intOf]; omega⟩
            | true =>
              have HO6 : Hid (w6.ownsRow w3.heap.size 38 3 (.slice avo cs.length cvo) cs.length (cellsCt cs)) := HX6.out.2.2.1
              have hs36 : w3.heap.size ≤ w6.heap.size := HX6.out.2.2.2.2.2.2.2.2.1
              obtain ⟨bl9, ⟨q0, q1, q2, q3, q4, q5, q6⟩, f0, f1, f2, f3, f4, f5, f6⟩ := HX6.out.1
              go_wp2_with (first | (have h99 := HM9; clear h99; (at_builtin; go_must (refine wpList_append_own _ rfl _ _ 24 rfl w.heap.size 28 ti (.agg #[.int .i64 0, .int .i64 0, .int .i64 0, .int .i64 0, .int .i64 0, .slice none 0 0, .slice none 0 0]) 7 88 Try.underlying24 hti hz0 hz1 hz2 rfl (by decide) _ qs.length _ rfl (HM9.out.1.alloc _) ⟨w7.heap.size, 0, none⟩ 1 1 (Dr.cellsP [((⟨4, 1, (j : Int), 0, 0, (cs ++ [⟨9, 0, 1⟩]), []⟩ : Ms), (.slice a7 (cs.length + 1) c7), (.slice none 0 0))]) rfl rfl (Dr.msg_newS _ _ _ _ _ w7.heap.size (by simp)) (Dr.cellsP_one _ (fun p hp => by rw [List.mem_singleton] at hp; subst hp; exact ⟨rfl, rfl⟩)) (by unfold maxLen; omega) (by omega) (by simp; omega) ?_; intro v8 w8 hown8 hgrow8 hnil8; have HM8 : Hid (Dr.MRow w.heap.size w8 v8 (qs ++ [((⟨4, 1, (j : Int), 0, 0, (cs ++ [⟨9, 0, 1⟩]), []⟩ : Ms), (.slice a7 (cs.length + 1) c7), (.slice none 0 0))])) := HM9.out.push (Dr.own_base HX7.out.2.2.1 (by omega)) (World.ownsRow_nil _ _ _ _) hown8 hgrow8 ⟨by show (cs ++ [_]).length ≤ _; rw [List.length_append]; simp; omega, Nat.zero_le _⟩; have HT8 : Hid (Dr.Tick b (a5 + 1 + 1) cv w w8) := Dr.Tick.grown (HT9.out.ext ((Ext.refl _).alloc _)) hb hgrow8 (fun q hq => (HM9.out.1.lt q hq).1); clear hown8 hgrow8 hnil8))) | (at_builtin; (refine wpList_append_own_at _ rfl _ _ 25 rfl w3.heap.size 38 tc (.agg #[.int .i64 0, .int .i64 0, .int .i64 0]) 3 24 Try.underlying25 htc hy0 hy1 hy2 rfl (by decide) _ cs.length _ rfl (HO6.out.alloc _) ⟨w6.heap.size, 0, none⟩ 1 1 (cellsCt [⟨9, 0, 1⟩]) rfl rfl (ct_new _ _ _) (cellsCt_one _) (by unfold maxLen; omega) (by omega) (by simp; omega) ?_; intro v7 w7 hown7 hgrow7 hnil7 hat7; have TF : Hid (MBoxAt w7 Bm ⟨4, 1, (j : Int), 0, 0, cs, []⟩ (.slice avo cs.length cvo) (.slice none 0 0) ∧ Dr.Mx w3 b cv (w7.setCell ⟨Bm, 5, none⟩ v7) Bm (a5 + 1 + 1) ⟨4, 1, (j : Int), 0, 0, (cs ++ [⟨9, 0, 1⟩]), []⟩ v7 (.slice none 0 0)) := HX6.out.certs (by omega) hown7 hgrow7 hat7; obtain ⟨a7, c7, rfl⟩ := Led.owns_form hown7; have HX7 : Hid (Dr.Mx w3 b cv (w7.setCell ⟨Bm, 5, none⟩ (.slice a7 (cs.length + 1) c7)) Bm (a5 + 1 + 1) ⟨4, 1, (j : Int), 0, 0, (cs ++ [⟨9, 0, 1⟩]), []⟩ (.slice a7 (cs.length + 1) c7) (.slice none 0 0)) := TF.out.2; clear q0 q1 q2 q3 q4 q5 q6 f0 f1 f2 f3 f4 f5 f6 bl9 hown7 hgrow7 hnil7 hat7; obtain ⟨bl9, ⟨q0, q1, q2, q3, q4, q5, q6⟩, f0, f1, f2, f3, f4, f5, f6⟩ := TF.out.1; clear TF; have HM9 : Hid (Dr.MRow w.heap.size (w7.setCell ⟨Bm, 5, none⟩ (.slice a7 (cs.length + 1) c7)) (.slice ad qs.length cp) qs) := HM3.out.kp HX7.out.2.2.2.2.2.2.2.2 hb; have HT9 : Hid (Dr.Tick b (a5 + 1 + 1) cv w (w7.setCell ⟨Bm, 5, none⟩ (.slice a7 (cs.length + 1) c7))) := HT3.out.trans HX7.out.2.2.2.2.2.2; have hs9 : w.heap.size ≤ (w7.setCell ⟨Bm, 5, none⟩ (.slice a7 (cs.length + 1) c7)).heap.size := HT9.out.2.2.1; have hs97 : w.heap.size ≤ w7.heap.size := (by simpa using hs9); clear hs9)))
              have HV8 : Hid (∀ p ∈ qs ++ [((⟨4, 1, (j : Int), 0, 0, (cs ++ [⟨9, 0, 1⟩]), []⟩ : Ms), (.slice a7 (cs.length + 1) c7), (.slice none 0 0))], 0 ≤ p.1.view) := fun p hp => by rw [List.mem_append, List.mem_singleton] at hp; rcases hp with hp | rfl; exact HV.out p hp; exact (by decide : (0 : Int) ≤ 1)
              exact ⟨⟨j + 1, qs ++ [((⟨4, 1, (j : Int), 0, 0, (cs ++ [⟨9, 0, 1⟩]), []⟩ : Ms), (.slice a7 (cs.length + 1) c7), (.slice none 0 0))], a5 + 1 + 1, by omega, by omega, by go_num, by rw [List.length_append]; simp; omega, by rw [List.length_append]; omega, by omega, HM8, HT8, HV8⟩, by simp [intOf]; omega⟩
        · have hj4 : ¬ (j : Int) ≤ 4 := by omega
          have hq20 : qs.length ≤ 20 := by omega
          clear hj1 hpl
          obtain ⟨wq, hwq⟩ : ∃ wq, wq = wr := ⟨_, rfl⟩
          subst hwq
          have hbr : Hid (b < wq.heap.size) := HT.out.1.lt
          have ha5' : a5 ≤ a + 26 := by omega
          clear ha5
          go_wp2_with fail
          refine (PK0.out a5 _ _ rfl HT.out.1 (by omega)).mono ?_
          rintro e w5 ⟨x, rfl, ht⟩
          obtain ⟨W6, hW6⟩ : ∃ W6, W6 = (w5.alloc (.cells #[.int .i64 5, .int .i64 1, .int .i64 x, .int .i64 0, .int .i64 0, .slice none 0 0, .slice none 0 0] 28)) := ⟨_, rfl⟩
          have HX : Hid (Dr.Mx wq b cv W6 w5.heap.size (a5 + 1) ⟨5, 1, x, 0, 0, [], []⟩ (.slice none 0 0) (.slice none 0 0)) := by rw [hW6]; exact Dr.Mx.first (m := ⟨5, 1, x, 0, 0, [], []⟩) (v := (.slice none 0 0)) (u := (.slice none 0 0)) ht (World.ownsRow_nil _ _ _ _) (World.ownsRow_nil _ _ _ _)
          clear ht
          go_wp2
          rw [← hW6]
          generalize w5.heap.size = Bn at *
          clear hW6
          go_loopw [11] (fun i wy => ∃ (k : Nat) (rs : List Int) (ur : Value), ps.length ≤ k ∧ k ≤ qs.length ∧ i = .int .i64 (k : Int) ∧ rs.length + ps.length = k ∧ Hid (Dr.Mx wq b cv wy Bn (a5 + 1) ⟨5, 1, x, 0, 0, [], rs⟩ (.slice none 0 0) ur)) (fun i _ => qs.length - (intOf i).toNat)
          case atStart => exact ⟨ps.length, [], _, Nat.le_refl _, hpq, rfl, Nat.zero_add _, HX⟩
          case round =>
            obtain ⟨k, rs, ur, hk1, hk2, rfl, hrl, HY⟩ := hrel
            obtain ⟨au, cu, rfl⟩ := Led.owns_form HY.out.2.2.2.1
            have HRL : Hid (rs.length + ps.length = k) := hrl
            have hr20 : rs.length ≤ 20 := by omega
            clear hrl
            have hsy : wq.heap.size ≤ wr.heap.size := HY.out.2.2.2.2.2.2.2.2.1
            have hswr : w.heap.size ≤ wq.heap.size := HT.out.2.2.1
            by_cases hk : k < qs.length
            · have hkI : (k : Int) < (qs.length : Int) := by omega
              have HOk : Hid (wr.ownsRow wq.heap.size 2 1 (.slice au rs.length cu) rs.length (rs.map (Value.int .i64))) := HY.out.2.2.2.1
              obtain ⟨bl9, ⟨q0, q1, q2, q3, q4, q5, q6⟩, f0, f1, f2, f3, f4, f5, f6⟩ := HY.out.1
              go_wp2_with (at_builtin; go_must (refine wpList_append_own_at _ rfl _ _ 26 rfl wq.heap.size 2 tn (.int .i64 0) 1 8 Try.underlying26 htn hn0 hn1 hn2 rfl (by decide) _ rs.length _ rfl (HOk.out.alloc _) ⟨wr.heap.size, 0, none⟩ 1 1 [.int .i64 (k : Int)] rfl rfl (cell_one_new _ _ _) (by intro u hu; rw [List.mem_singleton] at hu; subst hu; rfl) (by unfold maxLen; omega) (by omega) (by simp; omega) ?_; intro v7 w7 hown7 hgrow7 hnil7 hat7; have TF : Hid (MBoxAt w7 Bn ⟨5, 1, x, 0, 0, [], rs⟩ (.slice none 0 0) (.slice au rs.length cu) ∧ Dr.Mx wq b cv (w7.setCell ⟨Bn, 6, none⟩ v7) Bn (a5 + 1) ⟨5, 1, x, 0, 0, [], (rs ++ [(k : Int)])⟩ (.slice none 0 0) v7) := HY.out.refs hbr.out hown7 hgrow7 hat7; obtain ⟨a7, c7, rfl⟩ := Led.owns_form hown7; have HX7 : Hid (Dr.Mx wq b cv (w7.setCell ⟨Bn, 6, none⟩ (.slice a7 (rs.length + 1) c7)) Bn (a5 + 1) ⟨5, 1, x, 0, 0, [], (rs ++ [(k : Int)])⟩ (.slice none 0 0) (.slice a7 (rs.length + 1) c7)) := TF.out.2; clear q0 q1 q2 q3 q4 q5 q6 f0 f1 f2 f3 f4 f5 f6 bl9 hown7 hgrow7 hnil7 hat7; obtain ⟨bl9, ⟨q0, q1, q2, q3, q4, q5, q6⟩, f0, f1, f2, f3, f4, f5, f6⟩ := TF.out.1; clear TF))
              exact ⟨⟨k + 1, rs ++ [(k : Int)], _, by omega, by omega, by go_num, by have := HRL.out; rw [List.length_append]; simp; omega, HX7⟩, by simp [intOf]; omega⟩
            · have hkI : ¬ (k : Int) < (qs.length : Int) := by omega
              have HMy : Hid (Dr.MRow w.heap.size wr (.slice ad qs.length cp) qs) := HM.out.kp HY.out.2.2.2.2.2.2.2.2 hb
              have HTy : Hid (Dr.Tick b (a5 + 1) cv w wr) := HT.out.trans HY.out.2.2.2.2.2.2
              obtain ⟨bl9, ⟨q0, q1, q2, q3, q4, q5, q6⟩, f0, f1, f2, f3, f4, f5, f6⟩ := HY.out.1
              go_wp2_with (at_builtin; go_must (refine wpList_append_own _ rfl _ _ 24 rfl w.heap.size 28 ti (.agg #[.int .i64 0, .int .i64 0, .int .i64 0, .int .i64 0, .int .i64 0, .slice none 0 0, .slice none 0 0]) 7 88 Try.underlying24 hti hz0 hz1 hz2 rfl (by decide) _ qs.length _ rfl (HMy.out.1.alloc _) ⟨wr.heap.size, 0, none⟩ 1 1 (Dr.cellsP [((⟨5, 1, x, 0, 0, [], rs⟩ : Ms), (.slice none 0 0), (.slice au rs.length cu))]) rfl rfl (Dr.msg_new _ _ _ _ _) (Dr.cellsP_one _ (fun p hp => by rw [List.mem_singleton] at hp; subst hp; exact ⟨rfl, rfl⟩)) (by unfold maxLen; omega) (by omega) (by simp; omega) ?_; intro v8 w8 hown8 hgrow8 hnil8; have HM8 : Hid (Dr.MRow w.heap.size w8 v8 (qs ++ [((⟨5, 1, x, 0, 0, [], rs⟩ : Ms), (.slice none 0 0), (.slice au rs.length cu))])) := HMy.out.push (World.ownsRow_nil _ _ _ _) (Dr.own_base HY.out.2.2.2.1 (by omega)) hown8 hgrow8 ⟨Nat.zero_le _, by show rs.length ≤ _; omega⟩; have HT8 : Hid (Dr.Tick b (a5 + 1) cv w w8) := Dr.Tick.grown (HTy.out.ext ((Ext.refl _).alloc _)) hb hgrow8 (fun q hq => (HMy.out.1.lt q hq).1); clear hown8 hgrow8 hnil8))
              clear q0 q1 q2 q3 q4 q5 q6 f0 f1 f2 f3 f4 f5 f6 bl9
              go_loopw [3, 12] (fun ov i wz => ∃ (j : Nat) (ts : List (Ms × Value × Value)) (a6 : Nat), 1 ≤ j ∧ j ≤ 4 ∧ i = .int .i64 (j : Int) ∧ ts.length ≤ 20 + j ∧ a6 + 3 ≤ a + 27 + 3 * j ∧ Hid (Dr.MRow w.heap.size wz ov ts) ∧ Hid (Dr.Tick b a6 cv w wz)) (fun _ i _ => 4 - (intOf i).toNat)
              case atStart => exact ⟨1, qs ++ [((⟨5, 1, x, 0, 0, [], rs⟩ : Ms), (.slice none 0 0), (.slice au rs.length cu))], a5 + 1, by omega, by omega, rfl, by rw [List.length_append]; simp; omega, by omega, HM8, HT8⟩
              case round =>
                clear HM HT HY HMy HTy HM8 HT8 hk hkI hr20 hk1 hk2
                obtain ⟨j, ts, a6, hj1, hj4, rfl, htl, ha6, HM, HT⟩ := hrel
                obtain ⟨ad, cp, rfl⟩ := Led.owns_form HM.out.1
                by_cases hj : j ≤ 3
                · have hj3 : (j : Int) ≤ 3 := by omega
                  go_wp2_with fail
                  refine (PK1.out a6 _ _ rfl HT.out.1 (by omega)).mono ?_
                  rintro e w3 ⟨x1, rfl, ht⟩
                  have HM3 : Hid (Dr.MRow w.heap.size w3 (.slice ad ts.length cp) ts) := HM.out.kp ht.2.2 hb
                  have HT3 : Hid (Dr.Tick b (a6 + 1) cv w w3) := HT.out.trans ht
                  have hsz3 : w.heap.size ≤ w3.heap.size := HT3.out.2.2.1
                  clear ht HM HT
                  go_wp2_with fail
                  refine (PK2.out (a6 + 1) _ _ rfl HT3.out.1 (by omega)).mono ?_
                  rintro e w4 ⟨x2, rfl, ht⟩
                  have HM4 : Hid (Dr.MRow w.heap.size w4 (.slice ad ts.length cp) ts) := HM3.out.kp ht.2.2 hb
                  have HT4 : Hid (Dr.Tick b (a6 + 1 + 1) cv w w4) := HT3.out.trans ht
                  have hsz4 : w.heap.size ≤ w4.heap.size := HT4.out.2.2.1
                  clear ht HM3 HT3
                  go_wp2_with fail
                  refine (NX.out (a6 + 1 + 1) 3 _ HT4.out.1 (by omega) (by omega) (by omega)).mono ?_
                  rintro e w6 ⟨r6, rfl, -, -, ht⟩
                  have HM6 : Hid (Dr.MRow w.heap.size w6 (.slice ad ts.length cp) ts) := HM4.out.kp ht.2.2 hb
                  have HT6 : Hid (Dr.Tick b (a6 + 1 + 1 + 1) cv w w6) := HT4.out.trans ht
                  have hsz6 : w.heap.size ≤ w6.heap.size := HT6.out.2.2.1
                  clear ht HM4 HT4
                  go_wp2_with (at_builtin; go_must (refine wpList_append_own _ rfl _ _ 24 rfl w.heap.size 28 ti (.agg #[.int .i64 0, .int .i64 0, .int .i64 0, .int .i64 0, .int .i64 0, .slice none 0 0, .slice none 0 0]) 7 88 Try.underlying24 hti hz0 hz1 hz2 rfl (by decide) _ ts.length _ rfl (HM6.out.1.alloc _) ⟨w6.heap.size, 0, none⟩ 1 1 (Dr.cellsP [((⟨1, x1, x2, (j : Int), r6, [], []⟩ : Ms), (.slice none 0 0), (.slice none 0 0))]) rfl rfl (Dr.msg_new _ _ _ _ _) (Dr.cellsP_one _ (fun p hp => by rw [List.mem_singleton] at hp; subst hp; exact ⟨rfl, rfl⟩)) (by unfold maxLen; omega) (by omega) (by simp; omega) ?_; intro v8 w8 hown8 hgrow8 hnil8; have HM8 : Hid (Dr.MRow w.heap.size w8 v8 (ts ++ [((⟨1, x1, x2, (j : Int), r6, [], []⟩ : Ms), (.slice none 0 0), (.slice none 0 0))])) := HM6.out.push (World.ownsRow_nil _ _ _ _) (World.ownsRow_nil _ _ _ _) hown8 hgrow8 ⟨Nat.zero_le _, Nat.zero_le _⟩; have HT8 : Hid (Dr.Tick b (a6 + 1 + 1 + 1) cv w w8) := Dr.Tick.grown (HT6.out.ext ((Ext.refl _).alloc _)) hb hgrow8 (fun q hq => (HM6.out.1.lt q hq).1); clear hown8 hgrow8 hnil8))
                  exact ⟨⟨j + 1, ts ++ [((⟨1, x1, x2, (j : Int), r6, [], []⟩ : Ms), (.slice none 0 0), (.slice none 0 0))], a6 + 1 + 1 + 1, by omega, by omega, by go_num, by rw [List.length_append]; simp; omega, by omega, HM8, HT8⟩, by simp [intOf]; omega⟩
                · have hj3 : ¬ (j : Int) ≤ 3 := by omega
                  go_wp2
                  go_ret
                  exact Dr.Ledger.of HM.out (by omega) (by omega) HT.out
end Go.Proofs.Ytflojfkalnojbaa
