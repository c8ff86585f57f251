/- the specification's l10Wrong, l10Place, DrawNewRight. -/
import Derived.Test.YtflojfkalnojbaaVwMD8
import Derived.Test.YtflojfkalnojbaaVwDN
import Derived.Test.YtflojfkalnojbaaVwQV5s
namespace Go.Proofs.Ytflojfkalnojbaa
open Go.RowKit Go.Maps
theorem Dr.Ledger.later {k k' : Nat} {w w1 : World} {b a a1 : Nat} {cv : Value} {e : Ending} {w' : World} (ht : Dr.Tick b a1 cv w w1) (ha : a1 + k ≤ a + k') (h : Dr.Ledger k w1 b a1 cv e w') : Dr.Ledger k' w b a cv e w' := by
  obtain ⟨ov, ms, a', h1, h2, h3, h4, h5⟩ := h
  exact ⟨ov, ms, a', h1, fun W' hk => h2 W' (hk.mono ht.2.2.1), h3, by omega, ht.trans h5⟩
set_option maxHeartbeats 4000000 in
set_option maxRecDepth 100000 in
theorem l10Wrong_any (b a : Nat) (cv : Value) (w : World) (h : SrcAt w b a cv) (ha : a ≤ 90) :
    Calls Try.prog 86 #[.pointer (some ⟨b, 0, none⟩)] w (Dr.Ledger 451 w b a cv) := by
  have CH : Hid (∀ (a' : Nat) (k : Int) (wx : World), SrcAt wx b a' cv → 1 ≤ k → k ≤ 200 → a' ≤ 1000 → Calls Try.prog 64 #[.pointer (some ⟨b, 0, none⟩), .int .i64 k] wx fun e w' => ∃ r : Bool, e = .returned (.bool r) ∧ Dr.Tick b (a' + 1) cv wx w') := fun a' k wx h1 h2 h3 h4 => Dr.chance b a' cv k wx h1 h2 h3 h4
  have WR : Hid (∀ (wx : World), SrcAt wx b (a + 1) cv → Calls Try.prog 125 #[.pointer (some ⟨b, 0, none⟩)] wx (Dr.Ledger 450 wx b (a + 1) cv)) := fun wx h1 => l8Wrong_any b (a + 1) cv wx h1 (by omega)
  have WO : Hid (∀ (wx : World), SrcAt wx b (a + 1) cv → Calls Try.prog 141 #[.pointer (some ⟨b, 0, none⟩)] wx (Dr.Ledger 60 wx b (a + 1) cv)) := fun wx h1 => l10World_any b (a + 1) cv wx h1 (by omega)
  have HS : Hid (SrcAt w b a cv) := h
  clear h
  go_enter Try.func86, Try.ntmps86
  go_wp2_with fail
  refine (CH.out a 10 _ HS.out (by omega) (by omega) (by omega)).mono ?_
  rintro e w1 ⟨ch, rfl, ht⟩
  have HT : Hid (Dr.Tick b (a + 1) cv w w1) := ht
  clear ht
  cases ch with
  | true =>
    go_wp2_with fail
    refine (WR.out _ HT.out.1).mono ?_
    intro e w2 hL
    obtain ⟨ov, ms, a2, rfl, hL2⟩ := id hL
    obtain ⟨ad9, cp9, rfl, -⟩ := hL2.1 _ (Dr.Kb.refl _ _)
    have HL : Hid (Dr.Ledger 450 w1 b (a + 1) cv (.returned (.slice ad9 ms.length cp9)) w2) := hL
    clear hL hL2
    go_wp2
    go_ret
    exact Dr.Ledger.later HT.out (by omega) HL.out
  | false =>
    go_wp2_with fail
    refine (WO.out _ HT.out.1).mono ?_
    intro e w2 hL
    obtain ⟨ov, ms, a2, rfl, hL2⟩ := id hL
    obtain ⟨ad9, cp9, rfl, -⟩ := hL2.1 _ (Dr.Kb.refl _ _)
    have HL : Hid (Dr.Ledger 60 w1 b (a + 1) cv (.returned (.slice ad9 ms.length cp9)) w2) := hL
    clear hL hL2
    go_wp2
    go_ret
    exact Dr.Ledger.later HT.out (by omega) HL.out
/-- What a draw of a number leaves. -/
def Dr.One (w : World) (b a : Nat) (cv : Value) (e : Ending) (w' : World) : Prop := ∃ (x : Int) (a' : Nat), e = .returned (.int .i64 x) ∧ a' ≤ a + 2 ∧ Dr.Tick b a' cv w w'
set_option maxHeartbeats 4000000 in
set_option maxRecDepth 100000 in
theorem l10Place_any (b a : Nat) (cv : Value) (v : Value) (ms : List Ms) (kind : Int) (w : World) (h : SrcAt w b a cv) (hS : MSlice w v ms) (hml : ms.length ≤ 241) (ha : a ≤ 990) :
    Calls Try.prog 87 #[.pointer (some ⟨b, 0, none⟩), v, .int .i64 kind] w (Dr.One w b a cv) := by
  have hi9 : (Try.prog.info? 2).map (fun i => (i.zero, i.size, i.bytes)) = some (some (.int .i64 0), 1, 8) := by kernel_rfl
  obtain ⟨ti, hti, hxx⟩ := Option.map_eq_some_iff.1 hi9
  simp only [Prod.mk.injEq] at hxx
  obtain ⟨hz0, hz1, hz2⟩ := hxx
  clear hi9
  have CH : Hid (∀ (a' : Nat) (k : Int) (wx : World), SrcAt wx b a' cv → 1 ≤ k → k ≤ 200 → a' ≤ 1000 → Calls Try.prog 64 #[.pointer (some ⟨b, 0, none⟩), .int .i64 k] wx fun e w' => ∃ r : Bool, e = .returned (.bool r) ∧ Dr.Tick b (a' + 1) cv wx w') := fun a' k wx h1 h2 h3 h4 => Dr.chance b a' cv k wx h1 h2 h3 h4
  have NX : Hid (∀ (a' : Nat) (k : Int) (wx : World), SrcAt wx b a' cv → 1 ≤ k → k ≤ 300 → a' ≤ 1000 → Calls Try.prog 67 #[.pointer (some ⟨b, 0, none⟩), .int .i64 k] wx fun e w' => ∃ r : Int, e = .returned (.int .i64 r) ∧ 0 ≤ r ∧ r < k ∧ Dr.Tick b (a' + 1) cv wx w') := fun a' k wx h1 h2 h3 h4 => Dr.nextB b a' cv k wx h1 h2 h3 h4
  have hb := h.lt
  have T0 : Hid (Dr.Tick b a cv w w) := Dr.Tick.start h
  have HS : Hid (MSlice w v ms) := hS
  obtain ⟨ad, cap, rfl, -, -, -⟩ := hS
  clear h
  go_enter Try.func87, Try.ntmps87
  go_wp2
  go_loopw [7, 8] (fun ov i wr => ∃ (k : Nat) (l : List Int), k ≤ ms.length ∧ i = .int .i64 k ∧ l.length ≤ k ∧ Hid (wr.ownsRow w.heap.size 2 1 ov l.length (l.map (Value.int .i64))) ∧ Hid (Ext w wr)) (fun _ i _ => ms.length - (intOf i).toNat)
  case atStart => exact ⟨0, [], Nat.zero_le _, rfl, Nat.le_refl _, World.ownsRow_made w #[] 0 (Nat.le_refl _) (by unfold maxLen; omega) rfl, (Ext.refl _).alloc _⟩
  case round =>
    obtain ⟨k, l, hk, rfl, hlk, HO, HE⟩ := hrel
    obtain ⟨ar, cr, rfl⟩ := Led.owns_form HO.out
    have hws : w.heap.size ≤ wr.heap.size := HE.out.size
    by_cases hlt : k < ms.length
    · obtain ⟨z, h2⟩ : ∃ z, ms[k]? = some z := ⟨_, List.getElem?_eq_getElem hlt⟩
      obtain ⟨b1, off1, cap1, e1, hlt1, hlm1, hcm1, hb1, hm⟩ := (HS.out.ext HE.out).at2 h2
      injection e1 with e1 e4 e5
      subst e1 e5
      obtain ⟨vz, uz, ⟨c0, -, -, -, -, -, -⟩, -⟩ := hm
      clear h2 e4
      by_cases hv : z.kind = kind
      · have g1 : (z.kind == kind) = true := by simpa using hv
        go_wp2_with (at_builtin; go_must (refine wpList_append_own _ rfl _ _ 26 rfl (w.heap.size) 2 ti (.int .i64 0) 1 8 Try.underlying26 hti hz0 hz1 hz2 rfl (by decide) _ _ _ rfl (HO.out.alloc _) ⟨wr.heap.size, 0, none⟩ 1 1 [.int .i64 (k : Int)] rfl rfl (cellM_one _ _ _ _ rfl) (ints_oneCell .i64 [(k : Int)]) (by unfold maxLen; omega) (by omega) (by simp; omega) ?_; intro v6 w6 hown6 hgrow6 hnil6))
        refine ⟨⟨k + 1, l ++ [(k : Int)], by omega, by go_num, by rw [List.length_append]; simp; omega, ?_, Below.grown (HE.out.alloc _) hgrow6 (by simp; omega) (fun q hq => (HO.out.lt q hq).1)⟩, by simp [intOf]; omega⟩
        show w6.ownsRow _ _ _ _ _ _
        rw [List.map_append, List.length_append]
        exact hown6
      · have g1 : (z.kind == kind) = false := by simpa using hv
        go_wp2
        exact ⟨⟨k + 1, l, by omega, by go_num, by omega, HO, HE⟩, by simp [intOf]; omega⟩
    · have hltI : ¬ (k : Int) < (ms.length : Int) := by omega
      have HT : Hid (Dr.Tick b a cv w wr) := T0.out.ext HE.out
      by_cases hl0 : l.length = 0
      · have g0 : ((l.length : Int) == 0) = true := by simp [hl0]
        obtain rfl : l = [] := List.length_eq_zero_iff.1 hl0
        clear hl0
        go_wp2_with fail
        refine (NX.out a 30 _ HT.out.1 (by omega) (by omega) (by omega)).mono ?_
        rintro e w2 ⟨r, rfl, hr0, hr1, ht⟩
        have HT2 : Hid (Dr.Tick b (a + 1) cv w w2) := HT.out.trans ht
        clear ht
        go_wp2
        go_ret
        exact ⟨_, a + 1, rfl, by omega, HT2.out⟩
      · have g0 : ((l.length : Int) == 0) = false := by simp; exact fun e => hl0 (by simp [e])
        have hl1 : 1 ≤ l.length := by omega
        clear hl0
        go_wp2_with fail
        refine (CH.out a 8 _ HT.out.1 (by omega) (by omega) (by omega)).mono ?_
        rintro e w1 ⟨ch, rfl, ht⟩
        have HT1 : Hid (Dr.Tick b (a + 1) cv w w1) := HT.out.trans ht
        have HO1 : Hid (w1.ownsRow w.heap.size 2 1 (.slice ar l.length cr) l.length (l.map (Value.int .i64))) := ht.2.2.own HO.out hb
        clear ht
        cases ch with
        | true =>
          go_wp2_with fail
          refine (NX.out (a + 1) 30 _ HT1.out.1 (by omega) (by omega) (by omega)).mono ?_
          rintro e w2 ⟨r, rfl, hr0, hr1, ht⟩
          have HT2 : Hid (Dr.Tick b (a + 1 + 1) cv w w2) := HT1.out.trans ht
          clear ht
          go_wp2
          go_ret
          exact ⟨_, a + 1 + 1, rfl, by omega, HT2.out⟩
        | false =>
          go_wp2_with fail
          refine (NX.out (a + 1) (l.length : Int) _ HT1.out.1 (by omega) (by omega) (by omega)).mono ?_
          rintro e w2 ⟨r, rfl, hr0, hr1, ht⟩
          have HT2 : Hid (Dr.Tick b (a + 1 + 1) cv w w2) := HT1.out.trans ht
          have HO2 : Hid (w2.ownsRow w.heap.size 2 1 (.slice ar l.length cr) l.length (l.map (Value.int .i64))) := ht.2.2.own HO1.out hb
          clear ht
          obtain ⟨n, rfl⟩ : ∃ n : Nat, r = n := ⟨r.toNat, by omega⟩
          have hn : n < l.length := by omega
          obtain ⟨x, hx⟩ : ∃ x, l[n]? = some x := ⟨_, List.getElem?_eq_getElem hn⟩
          obtain ⟨g, -, -, hT⟩ := Led.iown_of_owns HO2.out
          obtain ⟨a8, c8, e8, h81, h82, h83⟩ := hT.slice
          injection e8 with e8 e9 e10
          obtain ⟨b8, o8, e11, hb8, hN⟩ := h83 (by omega)
          subst e8 e10 e11
          clear e9
          have c8 := hN n x hx
          clear hN hx
          go_wp2
          go_ret
          exact ⟨_, a + 1 + 1, rfl, by omega, HT2.out⟩
/-- What a draw of (f, ledger, place) leaves. -/
def Dr.Placed (w : World) (e : Ending) (w' : World) : Prop := ∃ (f : Int) (ov : Value) (ms : List Ms) (x : Int), e = .returned (.tuple #[.int .i64 f, ov, .int .i64 x]) ∧ MSlice w' ov ms ∧ ms.length ≤ 241 ∧ (∀ m ∈ ms, SmallM m) ∧ Ext w w'
set_option maxHeartbeats 4000000 in
set_option maxRecDepth 100000 in
theorem drawNewRight_any (cv : Value) (w : World) (hc : CodeOk w w.heap.size cv) :
    Calls Try.prog 27 #[cv] w (Dr.Placed w) := by
  have HS : Hid (SrcAt (w.alloc (.cells #[cv, .int .i64 0] 137)) w.heap.size 0 cv) := src_new hc
  have DF : Hid (∀ (a : Nat) (wx : World), SrcAt wx w.heap.size a cv → a ≤ 900 → Calls Try.prog 65 #[.pointer (some ⟨w.heap.size, 0, none⟩)] wx fun e w' => ∃ x : Int, e = .returned (.int .i64 x) ∧ Dr.Tick w.heap.size (a + 1) cv wx w') := fun a wx h1 h2 => l8DrawF_any w.heap.size a cv wx h1 h2
  have WO : Hid (∀ (wx : World), SrcAt wx w.heap.size 0 cv → Calls Try.prog 86 #[.pointer (some ⟨w.heap.size, 0, none⟩)] wx (Dr.Ledger 451 wx w.heap.size 0 cv)) := fun wx h1 => l10Wrong_any w.heap.size 0 cv wx h1 (by omega)
  have PL : Hid (∀ (a : Nat) (v : Value) (ms : List Ms) (wx : World), SrcAt wx w.heap.size a cv → MSlice wx v ms → ms.length ≤ 241 → a ≤ 990 → Calls Try.prog 87 #[.pointer (some ⟨w.heap.size, 0, none⟩), v, .int .i64 5] wx (Dr.One wx w.heap.size a cv)) := fun a v ms wx h1 h2 h3 h4 => l10Place_any w.heap.size a cv v ms 5 wx h1 h2 h3 h4
  obtain ⟨ad, len, cap, hcv, -⟩ := hc
  have HC := source_any cv w ad len cap hcv
  clear hcv
  go_enter Try.func27, Try.ntmps27
  go_wp2_with fail
  refine HC.mono ?_
  rintro e w1 ⟨rfl, hw1⟩
  have HS1 : Hid (SrcAt w1 w.heap.size 0 cv) := by rw [hw1]; exact HS.out
  have HE1 : Hid (Ext w w1) := by rw [hw1]; exact (Ext.refl _).alloc _
  have hsz1 : w1.heap.size = w.heap.size + 1 := by rw [hw1]; simp
  clear HC HS hw1
  go_wp2_with fail
  refine (WO.out _ HS1.out).mono ?_
  rintro e w2 ⟨ov, ms, a2, rfl, hM, ⟨hml, hsm⟩, ha2, ht⟩
  obtain ⟨ad9, cp9, rfl, -⟩ := hM _ (Dr.Kb.refl _ _)
  have HM : Hid (∀ W', Dr.Kb w1.heap.size w2 W' → MSlice W' (.slice ad9 ms.length cp9) ms) := hM
  have HSm : Hid (∀ m ∈ ms, SmallM m) := hsm
  have HT2 : Hid (Dr.Tick w.heap.size a2 cv w1 w2) := ht
  clear ht hM hsm HS1 WO
  go_wp2_with fail
  refine (DF.out a2 _ HT2.out.1 (by omega)).mono ?_
  rintro e w3 ⟨f, rfl, ht⟩
  have HT3 : Hid (Dr.Tick w.heap.size (a2 + 1) cv w1 w3) := HT2.out.trans ht
  have HK3 : Hid (Dr.Kb w1.heap.size w2 w3) := Dr.Kb.of_kp ht.2.2 (by omega)
  clear ht HT2 DF
  go_wp2_with fail
  refine (PL.out (a2 + 1) _ ms _ HT3.out.1 (HM.out _ HK3.out) hml (by omega)).mono ?_
  rintro e w4 ⟨x, a4, rfl, ha4, ht⟩
  have HM4 : Hid (MSlice w4 (.slice ad9 ms.length cp9) ms) := HM.out _ (HK3.out.trans (Dr.Kb.of_kp ht.2.2 (by omega)))
  have HE4 : Hid (Ext w w4) := Below.trans HE1.out (Below.mono (HT3.out.trans ht).2.1 (by omega))
  clear ht HT3 HK3 PL
  go_wp2
  exact bodyPost_ret (v := .tuple #[.int .i64 f, .slice ad9 ms.length cp9, .int .i64 x]) (by simp [results, Try.results27, go_sem]) rfl ⟨f, _, ms, x, rfl, HM4.out, hml, HSm.out, HE4.out⟩
end Go.Proofs.Ytflojfkalnojbaa
