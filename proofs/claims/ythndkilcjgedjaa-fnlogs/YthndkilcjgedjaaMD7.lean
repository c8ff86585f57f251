/- the specification's l9World. -/
import Derived.Test.YthndkilcjgedjaaMD6
namespace Go.Proofs.Ythndkilcjgedjaa
open Go.RowKit
theorem Dr.box_row {w w' : World} {base C : Nat} {s : Nat} {v : Value} {n : Nat} {xs : List Value} {cs : Array Value} {o : Obj} (h : w.ownsRow base 28 s v n xs) (hC : w.heap[C]? = some (.cells cs 38)) (hg : (w.alloc o).grownBy w' v.ownBlock) : w'.heap[C]? = some (.cells cs 38) := by
  have hlt := (Array.getElem?_eq_some_iff.1 hC).1
  have h2 : (w.alloc o).heap[C]? = some (.cells cs 38) := (Below.block ((Ext.refl w).alloc o) C hlt).trans hC
  refine (hg.block C (by simp; omega) (fun e => ?_)).trans h2
  rcases h.2 with ⟨rfl, -⟩ | ⟨g, cap, cur, rfl, hb, hgg, -⟩
  · cases e
  · cases e
    rw [hC] at hgg
    cases hgg
theorem Dr.cert_cells {w : World} {C : Nat} {x y z : Value} (h : w.heap[C]? = some (.cells #[x, y, z] 38)) : w.cell? ⟨C, 1, none⟩ = some y ∧ w.cell? ⟨C, 2, none⟩ = some z := by
  unfold World.cell?
  simp [h]
set_option maxHeartbeats 16000000 in
set_option maxRecDepth 100000 in
theorem l9World_any (b a : Nat) (cv : Value) (w : World) (h : SrcAt w b a cv) (ha : a ≤ 100) :
    Calls Try.prog 57 #[.pointer (some ⟨b, 0, none⟩)] w (Dr.Ledger 600 w b a cv) := by
  have hi9 : (Try.prog.info? 28).map (fun i => (i.zero, i.size, i.bytes)) = some (some (.agg #[.int .i64 0, .int .i64 0, .int .i64 0, .int .i64 0, .int .i64 0, .slice none 0 0, .slice none 0 0]), 7, 88) := by kernel_rfl
  obtain ⟨ti, hti, hxx⟩ := Option.map_eq_some_iff.1 hi9
  simp only [Prod.mk.injEq] at hxx
  obtain ⟨hz0, hz1, hz2⟩ := hxx
  clear hi9
  have hb := h.lt
  have NX : Hid (∀ (a' : Nat) (k : Int) (wx : World), SrcAt wx b a' cv → 1 ≤ k → k ≤ 200 → a' ≤ 1000 → Calls Try.prog 61 #[.pointer (some ⟨b, 0, none⟩), .int .i64 k] wx fun e w' => ∃ r : Int, e = .returned (.int .i64 r) ∧ 0 ≤ r ∧ r < k ∧ Dr.Tick b (a' + 1) cv wx w') := fun a' k wx h1 h2 h3 h4 => Dr.next b a' cv k wx h1 h2 h3 h4
  have CH : Hid (∀ (a' : Nat) (k : Int) (wx : World), SrcAt wx b a' cv → 1 ≤ k → k ≤ 200 → a' ≤ 1000 → Calls Try.prog 58 #[.pointer (some ⟨b, 0, none⟩), .int .i64 k] wx fun e w' => ∃ r : Bool, e = .returned (.bool r) ∧ Dr.Tick b (a' + 1) cv wx w') := fun a' k wx h1 h2 h3 h4 => Dr.chance b a' cv k wx h1 h2 h3 h4
  have DR : Hid (∀ (a' : Nat) (k : Int) (wx : World), SrcAt wx b a' cv → 0 ≤ k → k ≤ 20 → a' ≤ 900 → Calls Try.prog 105 #[.pointer (some ⟨b, 0, none⟩), .int .i64 k] wx fun e w' => ∃ m v u, e = .returned (magg m v u) ∧ Dr.Got (wx.heap.size + 1) wx b (a' + 25) cv m v u w' ∧ m.certs.length ≤ 4) := fun a' k wx h1 h2 h3 h4 => l8Draw_any b a' cv k wx h1 h2 h3 h4
  have AT : Hid (∀ (ov : Value) (ms : List Ms) (m : Ms) (B : Nat) (wx : World), MSlice wx ov ms → B < wx.heap.size → MAt wx B 0 m → Calls Try.prog 106 #[ov, .pointer (some ⟨B, 0, none⟩)] wx fun e w' => e = .returned (.int .i64 (Msg.place ms m)) ∧ Ext wx w') := fun ov ms m B wx h1 h2 h3 => l8At_any ov ms m B 0 wx h1 h2 h3
  have WR : Hid (∀ (a' : Nat) (wx : World), SrcAt wx b a' cv → a' ≤ 300 → Calls Try.prog 107 #[.pointer (some ⟨b, 0, none⟩)] wx (Dr.Ledger 450 wx b a' cv)) := fun a' wx h1 h2 => l8Wrong_any b a' cv wx h1 h2
  have T0 : Hid (Dr.Tick b a cv w (w.alloc (.cells #[] 28))) := (Dr.Tick.start h).ext ((Ext.refl _).alloc _)
  have M0 : Hid (Dr.MRow w.heap.size (w.alloc (.cells #[] 28)) (.slice (some ⟨w.heap.size, 0, none⟩) 0 0) []) := ⟨World.ownsRow_made w #[] 0 (Nat.le_refl _) (by unfold maxLen; omega) rfl, fun p hp => by cases hp⟩
  clear h
  go_enter Try.func57, Try.ntmps57
  go_wp2
  go_loopw [3, 4] (fun ov i wr => ∃ (s : Nat) (ps : List (Ms × Value × Value)) (a4 : Nat), 1 ≤ s ∧ s ≤ 3 ∧ i = .int .i64 (s : Int) ∧ ps.length + 8 ≤ 8 * s ∧ a4 + 10 ≤ a + 10 * s ∧ Hid (Dr.MRow w.heap.size wr ov ps) ∧ Hid (Dr.Tick b a4 cv w wr)) (fun _ i _ => 3 - (intOf i).toNat)
  case atStart => exact ⟨1, [], a, by omega, by omega, rfl, by simp, by omega, M0, T0⟩
  case round =>
    obtain ⟨s, ps, a4, hs1, hs3, rfl, hpl, ha4, HM, HT⟩ := hrel
    by_cases hs : s ≤ 2
    · have hs2 : (s : Int) ≤ 2 := by omega
      obtain ⟨ad, cp, rfl⟩ := Led.owns_form HM.out.1
      go_wp2_with fail
      refine (NX.out a4 2 _ HT.out.1 (by omega) (by omega) (by omega)).mono ?_
      rintro e w1 ⟨r1, rfl, -, -, ht⟩
      have HM1 : Hid (Dr.MRow w.heap.size w1 (.slice ad ps.length cp) ps) := HM.out.kp ht.2.2 hb
      have HT1 : Hid (Dr.Tick b (a4 + 1) cv w w1) := HT.out.trans ht
      clear ht HM HT
      go_wp2_with fail
      refine (NX.out (a4 + 1) 3 _ HT1.out.1 (by omega) (by omega) (by omega)).mono ?_
      rintro e w2 ⟨r2, rfl, -, -, ht⟩
      have HM2 : Hid (Dr.MRow w.heap.size (w2.alloc (.cells #[.int .i64 (s : Int), .int .i64 r1, .int .i64 r2] 38)) (.slice ad ps.length cp) ps) := (HM1.out.kp ht.2.2 hb).ext ((Ext.refl _).alloc _)
      have HT2 : Hid (Dr.Tick b (a4 + 2) cv w (w2.alloc (.cells #[.int .i64 (s : Int), .int .i64 r1, .int .i64 r2] 38))) := (HT1.out.trans ht).ext ((Ext.refl _).alloc _)
      have HB2 : Hid ((w2.alloc (.cells #[.int .i64 (s : Int), .int .i64 r1, .int .i64 r2] 38)).heap[w2.heap.size]? = some (.cells #[.int .i64 (s : Int), .int .i64 r1, .int .i64 r2] 38) ∧ w.heap.size ≤ w2.heap.size) := ⟨heap_alloc_new w2 _, (HT1.out.trans ht).2.2.1⟩
      clear ht HM1 HT1
      go_wp2
      obtain ⟨W2, hW2⟩ : ∃ W2, W2 = w2.alloc (.cells #[.int .i64 (s : Int), .int .i64 r1, .int .i64 r2] 38) := ⟨_, rfl⟩
      rw [← hW2] at HM2 HT2 HB2 ⊢
      generalize w2.heap.size = C at *
      clear hW2
      go_loopw [3, 6] (fun ov i wy => ∃ (d : Nat) (ps : List (Ms × Value × Value)) (a5 : Nat), 2 ≤ d ∧ d ≤ 4 ∧ i = .int .i64 (d : Int) ∧ ps.length + 16 ≤ 8 * s + 4 * d ∧ a5 + 16 ≤ a + 10 * s + 4 * d ∧ Hid (Dr.MRow w.heap.size wy ov ps) ∧ Hid (Dr.Tick b a5 cv w wy) ∧ Hid (wy.heap[C]? = some (.cells #[.int .i64 (s : Int), .int .i64 r1, .int .i64 r2] 38) ∧ w.heap.size ≤ C)) (fun _ i _ => 4 - (intOf i).toNat)
      case atStart => exact ⟨2, ps, a4 + 2, by omega, by omega, rfl, by omega, by omega, HM2, HT2, HB2⟩
      case round =>
        obtain ⟨d, ps, a5, hd2, hd4, rfl, hpl, ha5, HM, HT, HB⟩ := hrel
        by_cases hd : d ≤ 3
        · have hd3 : (d : Int) ≤ 3 := by omega
          go_wp2
          go_loopw [3, 7] (fun ov i wz => ∃ (j : Nat) (ps : List (Ms × Value × Value)) (a6 : Nat), 1 ≤ j ∧ j ≤ 5 ∧ i = .int .i64 (j : Int) ∧ ps.length + 17 ≤ 8 * s + 4 * d + j ∧ a6 + 17 ≤ a + 10 * s + 4 * d + j ∧ Hid (Dr.MRow w.heap.size wz ov ps) ∧ Hid (Dr.Tick b a6 cv w wz) ∧ Hid (wz.heap[C]? = some (.cells #[.int .i64 (s : Int), .int .i64 r1, .int .i64 r2] 38) ∧ w.heap.size ≤ C)) (fun _ i _ => 5 - (intOf i).toNat)
          case atStart => exact ⟨1, ps, a5, by omega, by omega, rfl, by omega, by omega, HM, HT, HB⟩
          case round =>
            obtain ⟨j, ps, a6, hj1, hj5, rfl, hpl, ha6, HM, HT, HB⟩ := hrel
            obtain ⟨ad, cp, rfl⟩ := Led.owns_form HM.out.1
            by_cases hj : j ≤ 4
            · have hj4 : (j : Int) ≤ 4 := by omega
              go_wp2_with fail
              refine (CH.out a6 5 _ HT.out.1 (by omega) (by omega) (by omega)).mono ?_
              rintro e w3 ⟨ch, rfl, ht⟩
              have HM3 : Hid (Dr.MRow w.heap.size w3 (.slice ad ps.length cp) ps) := HM.out.kp ht.2.2 hb
              have HT3 : Hid (Dr.Tick b (a6 + 1) cv w w3) := HT.out.trans ht
              have HB3 : Hid (w3.heap[C]? = some (.cells #[.int .i64 (s : Int), .int .i64 r1, .int .i64 r2] 38) ∧ w.heap.size ≤ C) := ⟨(ht.2.2.2 C (Array.getElem?_eq_some_iff.1 HB.out.1).1 (by have := HB.out.2; omega)).trans HB.out.1, HB.out.2⟩
              have hsz3 : w.heap.size ≤ w3.heap.size := HT3.out.2.2.1
              clear ht HM HT HB
              cases ch with
              | true =>
                go_wp2
                exact ⟨⟨j + 1, ps, a6 + 1, by omega, by omega, by go_num, by omega, by omega, HM3, HT3, HB3⟩, by simp [intOf]; omega⟩
              | false =>
                obtain ⟨c1, c2⟩ := Dr.cert_cells HB3.out.1
                go_wp2_with (at_builtin; go_must (refine wpList_append_own _ rfl _ _ 24 rfl w.heap.size 28 ti (.agg #[.int .i64 0, .int .i64 0, .int .i64 0, .int .i64 0, .int .i64 0, .slice none 0 0, .slice none 0 0]) 7 88 Try.underlying24 hti hz0 hz1 hz2 rfl (by decide) _ ps.length _ rfl (HM3.out.1.alloc _) ⟨w3.heap.size, 0, none⟩ 1 1 (Dr.cellsP [((⟨(d : Int), r1, (j : Int), (s : Int), r2, [], []⟩ : Ms), (.slice none 0 0), (.slice none 0 0))]) rfl rfl (Dr.msg_new _ _ _ _ _) (Dr.cellsP_one _ (fun p hp => by rw [List.mem_singleton] at hp; subst hp; exact ⟨rfl, rfl⟩)) (by unfold maxLen; omega) (by omega) (by simp; omega) ?_; intro v6 w6 hown6 hgrow6 hnil6; have HM6 : Hid (Dr.MRow w.heap.size w6 v6 (ps ++ [((⟨(d : Int), r1, (j : Int), (s : Int), r2, [], []⟩ : Ms), (.slice none 0 0), (.slice none 0 0))])) := HM3.out.push (World.ownsRow_nil _ _ _ _) (World.ownsRow_nil _ _ _ _) hown6 hgrow6; have HT6 : Hid (Dr.Tick b (a6 + 1) cv w w6) := Dr.Tick.grown (HT3.out.ext ((Ext.refl _).alloc _)) hb hgrow6 (fun q hq => (HM3.out.1.lt q hq).1); have HB6 : Hid (w6.heap[C]? = some (.cells #[.int .i64 (s : Int), .int .i64 r1, .int .i64 r2] 38) ∧ w.heap.size ≤ C) := ⟨Dr.box_row HM3.out.1 HB3.out.1 hgrow6, HB3.out.2⟩; clear hown6 hgrow6 hnil6))
                exact ⟨⟨j + 1, ps ++ [((⟨(d : Int), r1, (j : Int), (s : Int), r2, [], []⟩ : Ms), (.slice none 0 0), (.slice none 0 0))], a6 + 1, by omega, by omega, by go_num, by rw [List.length_append]; simp; omega, by omega, HM6, HT6, HB6⟩, by simp [intOf]; omega⟩
            · go_wp2
              exact ⟨⟨d + 1, ps, a6, by omega, by omega, by go_num, by omega, by omega, HM, HT, HB⟩, by simp [intOf]; omega⟩
        · go_wp2
          exact ⟨⟨s + 1, ps, a5, by omega, by omega, by go_num, by omega, by omega, HM, HT⟩, by simp [intOf]; omega⟩
    · have hse : s = 3 := by omega
      subst hse
      obtain ⟨ad, cp, rfl⟩ := Led.owns_form HM.out.1
      go_wp2_with fail
      refine (NX.out a4 4 _ HT.out.1 (by omega) (by omega) (by omega)).mono ?_
      rintro e w1 ⟨r, rfl, hr0, hr1, ht⟩
      have HM1 : Hid (Dr.MRow w.heap.size w1 (.slice ad ps.length cp) ps) := HM.out.kp ht.2.2 hb
      have HT1 : Hid (Dr.Tick b (a4 + 1) cv w w1) := HT.out.trans ht
      clear ht HM HT
      obtain ⟨R, rfl⟩ := Int.eq_ofNat_of_zero_le hr0
      have hR : R ≤ 3 := by omega
      clear hr0 hr1
      go_wp2
      go_loopw [3, 8] (fun ov i wr => ∃ (k : Nat) (ps : List (Ms × Value × Value)) (a5 : Nat), k ≤ R ∧ i = .int .i64 (k : Int) ∧ ps.length + k ≤ 16 + R ∧ a5 ≤ a + 21 + 25 * (R - k) ∧ Hid (Dr.MRow w.heap.size wr ov ps) ∧ Hid (Dr.Tick b a5 cv w wr)) (fun _ i _ => (intOf i).toNat)
      case atStart => exact ⟨R, ps, a4 + 1, Nat.le_refl _, rfl, by omega, by omega, HM1, HT1⟩
      case round =>
        obtain ⟨k, ps, a5, hk, rfl, hpl, ha5, HM, HT⟩ := hrel
        obtain ⟨ad, cp, rfl⟩ := Led.owns_form HM.out.1
        by_cases hk0 : 0 < k
        · have hk1 : (0 : Int) < (k : Int) := by omega
          have hpl2 : (ps.length : Int) ≤ 20 := by omega
          have hwk : IntKind.i64.wrap ((k : Int) - 1) = ((k - 1 : Nat) : Int) := by rw [IntKind.wrap_i64]; omega
          go_wp2_with fail
          refine (DR.out a5 _ _ HT.out.1 (by omega) hpl2 (by omega)).mono ?_
          rintro e w2 ⟨m, v, u, rfl, hG, hcl⟩
          obtain ⟨av, cpv, rfl⟩ := Led.owns_form hG.1
          obtain ⟨au, cpu, rfl⟩ := Led.owns_form hG.2.1
          obtain ⟨a6, ha6, htk⟩ := hG.2.2.2.2
          have HT2 : Hid (Dr.Tick b a6 cv w w2) := HT.out.trans htk
          have HM2 : Hid (Dr.MRow w.heap.size w2 (.slice ad ps.length cp) ps) := HM.out.kp htk.2.2 hb
          have hsz : w.heap.size ≤ w2.heap.size := HT2.out.2.2.1
          have HC : Hid (w2.ownsRow w.heap.size 38 3 (.slice av m.certs.length cpv) m.certs.length (cellsCt m.certs) ∧ w2.ownsRow w.heap.size 2 1 (.slice au m.refs.length cpu) m.refs.length (m.refs.map (Value.int .i64))) := ⟨Dr.own_base hG.1 (by have := HT.out.2.2.1; omega), Dr.own_base hG.2.1 (by have := HT.out.2.2.1; omega)⟩
          have HL : Hid (MLs w2 (.slice av m.certs.length cpv) (.slice au m.refs.length cpu) m) := hG.lists
          clear hG htk HM HT hcl
          unfold magg
          have HA : Hid (MAt (w2.alloc (.cells #[.int .i64 m.kind, .int .i64 m.view, .int .i64 m.from_, .int .i64 m.slot, .int .i64 m.value, .slice av m.certs.length cpv, .slice au m.refs.length cpu] 28)) w2.heap.size 0 m) := ⟨_, _, (mbox_new w2 m _ _ _).cs, HL.out.ext ((Ext.refl _).alloc _)⟩
          have HS : Hid (MSlice (w2.alloc (.cells #[.int .i64 m.kind, .int .i64 m.view, .int .i64 m.from_, .int .i64 m.slot, .int .i64 m.value, .slice av m.certs.length cpv, .slice au m.refs.length cpu] 28)) (.slice ad ps.length cp) (ps.map (·.1))) := HM2.out.slice.ext ((Ext.refl _).alloc _)
          go_wp2_with fail
          refine (AT.out _ _ _ _ _ HS.out (by simp) HA.out).mono ?_
          rintro e w3 ⟨rfl, hb3⟩
          have HX : Hid (Ext w2 w3) := ((Ext.refl _).alloc _).trans hb3
          have HB : Hid (MBoxAt w3 w2.heap.size m (.slice av m.certs.length cpv) (.slice au m.refs.length cpu)) := (mbox_new w2 m _ _ _).ext hb3
          have HM3 : Hid (Dr.MRow w.heap.size w3 (.slice ad ps.length cp) ps) := HM2.out.ext HX.out
          have HT3 : Hid (Dr.Tick b a6 cv w w3) := HT2.out.ext HX.out
          have HC3 : Hid (w3.ownsRow w.heap.size 38 3 (.slice av m.certs.length cpv) m.certs.length (cellsCt m.certs) ∧ w3.ownsRow w.heap.size 2 1 (.slice au m.refs.length cpu) m.refs.length (m.refs.map (Value.int .i64))) := ⟨Led.own_ext HC.out.1 HX.out, Led.own_ext HC.out.2 HX.out⟩
          have hsz3 : w.heap.size ≤ w3.heap.size := HT3.out.2.2.1
          clear hb3 HA HS HX HM2 HT2 HC HL
          generalize Msg.place (ps.map (·.1)) m = pl at *
          by_cases hneg : pl < 0
          · obtain ⟨bl, ⟨c0, c1, c2, c3, c4, c5, c6⟩, -⟩ := HB.out
            go_wp2_with (at_builtin; go_must (refine wpList_append_own _ rfl _ _ 24 rfl w.heap.size 28 ti (.agg #[.int .i64 0, .int .i64 0, .int .i64 0, .int .i64 0, .int .i64 0, .slice none 0 0, .slice none 0 0]) 7 88 Try.underlying24 hti hz0 hz1 hz2 rfl (by decide) _ ps.length _ rfl (HM3.out.1.alloc _) ⟨w3.heap.size, 0, none⟩ 1 1 (Dr.cellsP [(m, .slice av m.certs.length cpv, .slice au m.refs.length cpu)]) rfl rfl (Dr.msg_new _ _ _ _ _) (Dr.cellsP_one _ (fun p hp => by rw [List.mem_singleton] at hp; subst hp; exact ⟨rfl, rfl⟩)) (by unfold maxLen; omega) (by omega) (by simp; omega) ?_; intro v6 w6 hown6 hgrow6 hnil6; have HM6 : Hid (Dr.MRow w.heap.size w6 v6 (ps ++ [(m, .slice av m.certs.length cpv, .slice au m.refs.length cpu)])) := HM3.out.push HC3.out.1 HC3.out.2 hown6 hgrow6; have HT6 : Hid (Dr.Tick b a6 cv w w6) := Dr.Tick.grown (HT3.out.ext ((Ext.refl _).alloc _)) hb hgrow6 (fun q hq => (HM3.out.1.lt q hq).1); clear hown6 hgrow6 hnil6))
            exact ⟨⟨k - 1, ps ++ [(m, .slice av m.certs.length cpv, .slice au m.refs.length cpu)], a6, by omega, by first | rfl | rw [hwk], by rw [List.length_append]; simp; omega, by omega, HM6, HT6⟩, by simp [intOf]; omega⟩
          · go_wp2
            exact ⟨⟨k - 1, ps, a6, by omega, by first | rfl | rw [hwk], by omega, by omega, HM3, HT3⟩, by simp [intOf]; omega⟩
        · have hke : k = 0 := by omega
          subst hke
          go_wp2_with fail
          refine (CH.out a5 14 _ HT.out.1 (by omega) (by omega) (by omega)).mono ?_
          rintro e w3 ⟨ch, rfl, ht⟩
          have HM3 : Hid (Dr.MRow w.heap.size w3 (.slice ad ps.length cp) ps) := HM.out.kp ht.2.2 hb
          have HT3 : Hid (Dr.Tick b (a5 + 1) cv w w3) := HT.out.trans ht
          clear ht HM HT
          cases ch with
          | true =>
            go_wp2_with fail
            refine (WR.out (a5 + 1) _ HT3.out.1 (by omega)).mono ?_
            rintro e w4 ⟨ov, ms, a7, rfl, hS, ha7, ht⟩
            have HS4 : Hid (MSlice w4 ov ms) := hS
            have HT4 : Hid (Dr.Tick b a7 cv w w4) := HT3.out.trans ht
            obtain ⟨ad9, cp9, rfl, -⟩ := id hS
            clear ht hS HM3 HT3
            go_wp2
            go_ret
            exact ⟨_, ms, a7, rfl, HS4.out, by omega, HT4.out⟩
          | false =>
            go_wp2
            go_ret
            exact Dr.Ledger.of HM3.out (by omega) HT3.out
end Go.Proofs.Ythndkilcjgedjaa
