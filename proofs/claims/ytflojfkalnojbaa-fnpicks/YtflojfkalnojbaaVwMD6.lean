/- the specification's l8Wrong, l8DrawF. -/
import Derived.Test.YtflojfkalnojbaaVwMD4
import Derived.Test.YtflojfkalnojbaaVwMD5
namespace Go.Proofs.Ytflojfkalnojbaa
open Go.RowKit
/-- Blocks from base on are as they were. -/
def Dr.Kb (base : Nat) (w w' : World) : Prop := w.heap.size ≤ w'.heap.size ∧ ∀ g, base ≤ g → g < w.heap.size → w'.heap[g]? = w.heap[g]?
theorem Dr.Kb.refl (base : Nat) (w : World) : Dr.Kb base w w := ⟨Nat.le_refl _, fun _ _ _ => rfl⟩
theorem Dr.Kb.trans {base : Nat} {w w1 w2 : World} (h : Dr.Kb base w w1) (h2 : Dr.Kb base w1 w2) : Dr.Kb base w w2 := ⟨Nat.le_trans h.1 h2.1, fun g hb hg => (h2.2 g hb (Nat.lt_of_lt_of_le hg h.1)).trans (h.2 g hb hg)⟩
theorem Dr.Kb.mono {base base' : Nat} {w w' : World} (h : Dr.Kb base w w') (hb : base ≤ base') : Dr.Kb base' w w' := ⟨h.1, fun g h1 h2 => h.2 g (by omega) h2⟩
theorem Dr.Kb.of_kp {b base : Nat} {w w' : World} (h : Dr.Kp b w w') (hb : b < base) : Dr.Kb base w w' := ⟨h.1, fun g h1 h2 => h.2 g h2 (by omega)⟩
theorem Dr.Kb.own {base : Nat} {w w' : World} {e : TypeId} {s n : Nat} {v : Value} {xs : List Value} (hk : Dr.Kb base w w') (h : w.ownsRow base e s v n xs) : w'.ownsRow base e s v n xs := by
  refine ⟨h.1, ?_⟩
  rcases h.2 with hn | ⟨g, cap, cur, rfl, hbg, hgg, rest⟩
  · exact .inl hn
  · exact .inr ⟨g, cap, cur, rfl, hbg, (hk.2 g hbg (Array.getElem?_eq_some_iff.1 hgg).1).trans hgg, rest⟩
theorem Dr.MRow.kb {base : Nat} {W W' : World} {ov : Value} {ps : List (Ms × Value × Value)} (h : Dr.MRow base W ov ps) (hk : Dr.Kb base W W') : Dr.MRow base W' ov ps :=
  ⟨hk.own h.1, fun p hp => ⟨hk.own (h.2.1 p hp).1, hk.own (h.2.1 p hp).2⟩, h.2.2⟩
/-- What a draw of a ledger leaves. -/
def Dr.Ledger (k : Nat) (w : World) (b a : Nat) (cv : Value) (e : Ending) (w' : World) : Prop :=
  ∃ (ov : Value) (ms : List Ms) (a' : Nat), e = .returned ov ∧ (∀ W', Dr.Kb w.heap.size w' W' → MSlice W' ov ms) ∧ (ms.length ≤ 241 ∧ ∀ m ∈ ms, SmallM m) ∧ a' ≤ a + k ∧ Dr.Tick b a' cv w w'
theorem Dr.made_at (z : Array Value) (hz : z.size = 7) (n i j : Nat) (hi : i < n) (hj : j < 7) : (madeCells z (n * 7))[i * 7 + j]? = z[j]? := by
  have h1 : i * 7 + j < n * 7 := by omega
  rw [Array.getElem?_eq_getElem (by rw [size_madeCells]; exact h1), Array.getElem?_eq_getElem (by omega)]
  congr 1
  simp only [madeCells, Array.getElem_map, Array.getElem_range, hz]
  rw [show (i * 7 + j) % 7 = j from by omega]
  exact getElem!_pos z j (by omega)
theorem Dr.zeros (w : World) (M : Array Value) (n : Nat) (hM : M = madeCells (Value.agg #[.int .i64 0, .int .i64 0, .int .i64 0, .int .i64 0, .int .i64 0, .slice none 0 0, .slice none 0 0]).cells (n * 7)) (hn : n ≤ maxLen) (t : TypeId) (W' : World) (hW : (∀ o, W'.cell? ⟨w.heap.size, o, none⟩ = (w.alloc (.cells M t)).cell? ⟨w.heap.size, o, none⟩) ∧ w.heap.size < W'.heap.size) : MSlice W' (.slice (some ⟨w.heap.size, 0, none⟩) n n) (List.replicate n ⟨0, 0, 0, 0, 0, [], []⟩) := by
  refine ⟨_, n, by rw [List.length_replicate], by rw [List.length_replicate]; exact Nat.le_refl _, hn, fun _ => ⟨w.heap.size, 0, rfl, hW.2, fun i m hm => ?_⟩⟩
  rw [List.getElem?_replicate] at hm
  split at hm
  · rename_i hi
    cases hm
    have hc : ∀ j, j < 7 → W'.cell? ⟨w.heap.size, 0 + i * 7 + j, none⟩ = (Value.agg #[.int .i64 0, .int .i64 0, .int .i64 0, .int .i64 0, .int .i64 0, .slice none 0 0, .slice none 0 0]).cells[j]? := fun j hj => by
      rw [hW.1, Nat.zero_add, World.cell?_alloc_at _ _ _ _ rfl, hM]
      exact Dr.made_at _ rfl n i j hi hj
    refine ⟨.slice none 0 0, .slice none 0 0, ⟨?_, ?_, ?_, ?_, ?_, ?_, ?_⟩, ⟨⟨none, 0, rfl, Nat.le_refl _, by unfold maxLen; omega, fun h => by simp at h⟩, ⟨none, 0, rfl, Nat.le_refl _, by unfold maxLen; omega, fun h => by simp at h⟩⟩⟩
    · exact (hc 0 (by omega)).trans rfl
    · exact (hc 1 (by omega)).trans rfl
    · exact (hc 2 (by omega)).trans rfl
    · exact (hc 3 (by omega)).trans rfl
    · exact (hc 4 (by omega)).trans rfl
    · exact (hc 5 (by omega)).trans rfl
    · exact (hc 6 (by omega)).trans rfl
  · cases hm
theorem Dr.Ledger.of {k : Nat} {w : World} {b a a' : Nat} {cv : Value} {ov : Value} {w' : World} {ps : List (Ms × Value × Value)} (h : Dr.MRow w.heap.size w' ov ps) (hl : ps.length ≤ 241) (ha : a' ≤ a + k) (ht : Dr.Tick b a' cv w w') : Dr.Ledger k w b a cv (.returned ov) w' := ⟨ov, _, a', rfl, fun _ hk => (h.kb hk).slice, ⟨by rw [List.length_map]; exact hl, fun m hm => by obtain ⟨p, hp, rfl⟩ := List.mem_map.1 hm; exact h.2.2 p hp⟩, ha, ht⟩
set_option maxHeartbeats 8000000 in
set_option maxRecDepth 100000 in
theorem l8Wrong_any (b a : Nat) (cv : Value) (w : World) (h : SrcAt w b a cv) (ha : a ≤ 300) :
    Calls Try.prog 125 #[.pointer (some ⟨b, 0, none⟩)] w (Dr.Ledger 450 w b a cv) := by
  have hi9 : (Try.prog.info? 28).map (fun i => (i.zero, i.size, i.bytes)) = some (some (.agg #[.int .i64 0, .int .i64 0, .int .i64 0, .int .i64 0, .int .i64 0, .slice none 0 0, .slice none 0 0]), 7, 88) := by kernel_rfl
  obtain ⟨ti, hti, hxx⟩ := Option.map_eq_some_iff.1 hi9
  simp only [Prod.mk.injEq] at hxx
  obtain ⟨hz0, hz1, hz2⟩ := hxx
  clear hi9
  have hb := h.lt
  have HS0 : Hid (SrcAt w b a cv) := h
  have NX : Hid (∀ (a' : Nat) (k : Int) (wx : World), SrcAt wx b a' cv → 1 ≤ k → k ≤ 200 → a' ≤ 1000 → Calls Try.prog 67 #[.pointer (some ⟨b, 0, none⟩), .int .i64 k] wx fun e w' => ∃ r : Int, e = .returned (.int .i64 r) ∧ 0 ≤ r ∧ r < k ∧ Dr.Tick b (a' + 1) cv wx w') := fun a' k wx h1 h2 h3 h4 => Dr.next b a' cv k wx h1 h2 h3 h4
  have MY : Hid (Calls Try.prog 154 #[.pointer (some ⟨b, 0, none⟩)] w fun e w' => ∃ (ov : Value) (ps : List (Ms × Value × Value)) (a' : Nat), e = .returned ov ∧ Dr.MRow w.heap.size w' ov ps ∧ ps.length ≤ 15 ∧ a' ≤ a + 400 ∧ Dr.Tick b a' cv w w') := l8Many_any b a cv w h ha
  have BT : Hid (∀ (a' : Nat) (wx : World), SrcAt wx b a' cv → a' ≤ 900 → Calls Try.prog 68 #[.pointer (some ⟨b, 0, none⟩)] wx fun e w' => ∃ m v u, e = .returned (magg m v u) ∧ Dr.Got (wx.heap.size + 1) wx b (a' + 30) cv m v u w') := fun a' wx h1 h2 => l8Bent_any b a' cv wx h1 h2
  clear h
  go_enter Try.func125, Try.ntmps125
  go_wp2_with fail
  refine MY.out.mono ?_
  rintro e w1 ⟨ov, ps, a1, rfl, hM, hpl, ha1, ht⟩
  obtain ⟨ad, cp, rfl⟩ := Led.owns_form hM.1
  have HM1 : Hid (Dr.MRow w.heap.size w1 (.slice ad ps.length cp) ps) := hM
  have HT1 : Hid (Dr.Tick b a1 cv w w1) := ht
  clear hM ht MY HS0
  go_wp2_with fail
  refine (NX.out a1 12 _ HT1.out.1 (by omega) (by omega) (by omega)).mono ?_
  rintro e w2 ⟨r, rfl, hr0, hr1, ht⟩
  have HM2 : Hid (Dr.MRow w.heap.size w2 (.slice ad ps.length cp) ps) := HM1.out.kp ht.2.2 hb
  have HT2 : Hid (Dr.Tick b (a1 + 1) cv w w2) := HT1.out.trans ht
  clear ht HM1 HT1 NX
  by_cases h0 : r = 0
  · have g0 : (r == 0) = true := by simpa using h0
    clear h0
    go_wp2_with fail
    refine (BT.out (a1 + 1) _ HT2.out.1 (by omega)).mono ?_
    rintro e w3 ⟨m, v, u, rfl, hG⟩
    obtain ⟨av, cpv, rfl⟩ := Led.owns_form hG.1
    obtain ⟨au, cpu, rfl⟩ := Led.owns_form hG.2.1
    obtain ⟨a5, ha5, htk⟩ := hG.2.2.2.2
    have HT3 : Hid (Dr.Tick b a5 cv w w3) := HT2.out.trans htk
    have HM3 : Hid (Dr.MRow w.heap.size w3 (.slice ad ps.length cp) ps) := HM2.out.kp htk.2.2 hb
    have HSm : Hid (SmallM m) := ⟨by have := hG.2.2.1; omega, by have := hG.2.2.2.1; omega⟩
    have HC3 : Hid (w3.ownsRow w.heap.size 38 3 (.slice av m.certs.length cpv) m.certs.length (cellsCt m.certs) ∧ w3.ownsRow w.heap.size 2 1 (.slice au m.refs.length cpu) m.refs.length (m.refs.map (Value.int .i64))) := ⟨Dr.own_base hG.1 (by have := HT2.out.2.2.1; omega), Dr.own_base hG.2.1 (by have := HT2.out.2.2.1; omega)⟩
    have hsz3 : w.heap.size ≤ w3.heap.size := HT3.out.2.2.1
    clear hG htk HM2 HT2 BT
    unfold magg
    go_wp2_with (at_builtin; go_must (refine wpList_append_own _ rfl _ _ 24 rfl w.heap.size 28 ti (.agg #[.int .i64 0, .int .i64 0, .int .i64 0, .int .i64 0, .int .i64 0, .slice none 0 0, .slice none 0 0]) 7 88 Try.underlying24 hti hz0 hz1 hz2 rfl (by decide) _ ps.length _ rfl (HM3.out.1.alloc _) ⟨w3.heap.size, 0, none⟩ 1 1 (Dr.cellsP [(m, .slice av m.certs.length cpv, .slice au m.refs.length cpu)]) rfl rfl (Dr.msg_new _ _ _ _ _) (Dr.cellsP_one _ (fun p hp => by rw [List.mem_singleton] at hp; subst hp; exact ⟨rfl, rfl⟩)) (by unfold maxLen; omega) (by omega) (by simp; omega) ?_; intro v6 w6 hown6 hgrow6 hnil6; have HM6 : Hid (Dr.MRow w.heap.size w6 v6 (ps ++ [(m, .slice av m.certs.length cpv, .slice au m.refs.length cpu)])) := HM3.out.push HC3.out.1 HC3.out.2 hown6 hgrow6 HSm.out; have HT6 : Hid (Dr.Tick b a5 cv w w6) := Dr.Tick.grown (HT3.out.ext ((Ext.refl _).alloc _)) hb hgrow6 (fun q hq => (HM3.out.1.lt q hq).1); clear hown6 hgrow6 hnil6))
    go_ret
    exact Dr.Ledger.of HM6.out (by rw [List.length_append]; simp; omega) (by omega) HT6.out
  · have g0 : (r == 0) = false := by simpa using h0
    by_cases h1 : r = 1
    · have g1 : (r == 1) = true := by simpa using h1
      obtain ⟨M, hM⟩ : ∃ M, M = madeCells (Value.agg #[.int .i64 0, .int .i64 0, .int .i64 0, .int .i64 0, .int .i64 0, .slice none 0 0, .slice none 0 0]).cells (241 * 7) := ⟨_, rfl⟩
      have HMk : ∀ W : World, (Instr.makeSlice 24 (.int .i64 241) (.int .i64 241)).run Try.prog W = .ok (.slice (some ⟨W.heap.size, 0, none⟩) 241 241) (W.alloc (.cells M 28)) := fun W => by
        have h := run_make (P := Try.prog) W 24 28 ti _ Try.underlying24 hti hz0 .i64 .i64 241 241 (by omega) (by omega) (by rw [hz2]; omega) (by omega)
        rw [hz1] at h
        rw [hM]
        simpa using h
      have HZ : Hid (∀ W W' : World, w.heap.size ≤ W.heap.size → Dr.Kb w.heap.size (W.alloc (.cells M 28)) W' → MSlice W' (.slice (some ⟨W.heap.size, 0, none⟩) 241 241) (List.replicate 241 ⟨0, 0, 0, 0, 0, [], []⟩)) := fun W W' hbW hk => Dr.zeros W M 241 hM (by unfold maxLen; omega) _ W' ⟨fun o => (Dr.cell_block (hk.2 W.heap.size hbW (by simp)) o).1, Nat.lt_of_lt_of_le (by simp) hk.1⟩
      clear h0 h1 hM BT
      go_wp2
      go_ret
      exact ⟨_, _, a1 + 1, rfl, fun W' hk => HZ.out _ W' HT2.out.2.2.1 hk, ⟨by rw [List.length_replicate]; exact Nat.le_refl _, fun m hm => by rw [(List.mem_replicate.1 hm).2]; exact ⟨Nat.zero_le _, Nat.zero_le _⟩⟩, by omega, HT2.out.ext ((Ext.refl _).alloc _)⟩
    · have g1 : (r == 1) = false := by simpa using h1
      clear h0 h1 BT
      go_wp2
      go_ret
      exact Dr.Ledger.of HM2.out (by omega) (by omega) HT2.out
theorem l8DrawF_any (b a : Nat) (cv : Value) (w : World) (h : SrcAt w b a cv) (ha : a ≤ 900) :
    Calls Try.prog 65 #[.pointer (some ⟨b, 0, none⟩)] w fun e w' => ∃ x : Int, e = .returned (.int .i64 x) ∧ Dr.Tick b (a + 1) cv w w' := by
  have HS0 : Hid (SrcAt w b a cv) := h
  have PK : Hid (∀ (g : Nat) (wx : World), g = wx.heap.size → SrcAt wx b a cv → Calls Try.prog 126 #[.pointer (some ⟨b, 0, none⟩), .slice (some ⟨g, 0, none⟩) 9 9] (wx.alloc (.cells #[.int .i64 1, .int .i64 1, .int .i64 1, .int .i64 1, .int .i64 2, .int .i64 0, .int .i64 1, .int .i64 1, .int .i64 3] 2)) fun e w' => ∃ x : Int, e = .returned (.int .i64 x) ∧ Dr.Tick b (a + 1) cv wx w') := fun g wx hg h1 => by subst hg; exact Dr.pick b a cv [1, 1, 1, 1, 2, 0, 1, 1, 3] wx 2 h1 (by decide) (by decide) (by omega)
  clear h
  go_enter Try.func65, Try.ntmps65
  go_wp2_with fail
  refine (PK.out _ _ rfl HS0.out).mono ?_
  rintro e w1 ⟨x, rfl, ht⟩
  have HT : Hid (Dr.Tick b (a + 1) cv w w1) := ht
  clear ht
  go_wp2
  go_ret
  exact ⟨x, rfl, HT.out⟩
end Go.Proofs.Ytflojfkalnojbaa
