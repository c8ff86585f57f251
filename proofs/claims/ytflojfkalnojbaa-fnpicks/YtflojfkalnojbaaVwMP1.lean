/- the specification's DrawPickOf: f, a ledger, a list of numbers. -/
import Derived.Test.YtflojfkalnojbaaVwMD9
namespace Go.Proofs.Ytflojfkalnojbaa
open Go.RowKit Go.Maps
/-- What a draw of (f, ledger, numbers) leaves. -/
def Dr.Refd (w : World) (e : Ending) (w' : World) : Prop := ∃ (f : Int) (ov : Value) (ms : List Ms) (rv : Value) (refs : List Int), e = .returned (.tuple #[.int .i64 f, ov, rv]) ∧ MSlice w' ov ms ∧ ms.length ≤ 241 ∧ ISlice w' rv refs ∧ refs.length ≤ 9 ∧ Ext w w'
theorem Dr.nine (w : World) (base : Nat) (h : base ≤ w.heap.size) : (w.alloc (.cells #[.int .i64 0, .int .i64 0, .int .i64 0, .int .i64 0, .int .i64 0, .int .i64 0, .int .i64 0, .int .i64 0, .int .i64 0] 2)).ownsRow base 2 1 (.slice (some ⟨w.heap.size, 0, none⟩) ([0, 0, 0, 0, 0, 0, 0, 0, 0] : List Int).length 9) ([0, 0, 0, 0, 0, 0, 0, 0, 0] : List Int).length (([0, 0, 0, 0, 0, 0, 0, 0, 0] : List Int).map (Value.int .i64)) :=
  ⟨rfl, .inr ⟨w.heap.size, 9, _, rfl, h, heap_alloc_new w _, Nat.le_refl _, by unfold maxLen; omega, rfl, rfl⟩⟩
set_option maxHeartbeats 4000000 in
set_option maxRecDepth 100000 in
theorem drawPickOf_any (cv : Value) (w : World) (hc : CodeOk w w.heap.size cv) :
    Calls Try.prog 24 #[cv] w (Dr.Refd w) := by
  have hi9 : (Try.prog.info? 2).map (fun i => (i.zero, i.size, i.bytes)) = some (some (.int .i64 0), 1, 8) := by kernel_rfl
  obtain ⟨ti, hti, hxx⟩ := Option.map_eq_some_iff.1 hi9
  simp only [Prod.mk.injEq] at hxx
  obtain ⟨hz0, hz1, hz2⟩ := hxx
  clear hi9
  have hmk : ∀ W : World, (Instr.makeSlice 26 (.int .i64 9) (.int .i64 9)).run Try.prog W = .ok (.slice (some ⟨W.heap.size, 0, none⟩) 9 9) (W.alloc (.cells #[.int .i64 0, .int .i64 0, .int .i64 0, .int .i64 0, .int .i64 0, .int .i64 0, .int .i64 0, .int .i64 0, .int .i64 0] 2)) := fun W => by
    have h := run_make (P := Try.prog) W 26 2 ti _ Try.underlying26 hti hz0 .i64 .i64 9 9 (by omega) (by omega) (by rw [hz2]; omega) (by omega)
    have hm : madeCells (Value.int .i64 0).cells (Int.toNat 9 * 1) = #[.int .i64 0, .int .i64 0, .int .i64 0, .int .i64 0, .int .i64 0, .int .i64 0, .int .i64 0, .int .i64 0, .int .i64 0] := by kernel_rfl
    rw [hz1, hm] at h
    exact h
  have HS : Hid (SrcAt (w.alloc (.cells #[cv, .int .i64 0] 137)) w.heap.size 0 cv) := src_new hc
  have CH : Hid (∀ (a' : Nat) (k : Int) (wx : World), SrcAt wx w.heap.size a' cv → 1 ≤ k → k ≤ 200 → a' ≤ 1000 → Calls Try.prog 64 #[.pointer (some ⟨w.heap.size, 0, none⟩), .int .i64 k] wx fun e w' => ∃ r : Bool, e = .returned (.bool r) ∧ Dr.Tick w.heap.size (a' + 1) cv wx w') := fun a' k wx h1 h2 h3 h4 => Dr.chance w.heap.size a' cv k wx h1 h2 h3 h4
  have NX : Hid (∀ (a' : Nat) (k : Int) (wx : World), SrcAt wx w.heap.size a' cv → 1 ≤ k → k ≤ 200 → a' ≤ 1000 → Calls Try.prog 67 #[.pointer (some ⟨w.heap.size, 0, none⟩), .int .i64 k] wx fun e w' => ∃ r : Int, e = .returned (.int .i64 r) ∧ 0 ≤ r ∧ r < k ∧ Dr.Tick w.heap.size (a' + 1) cv wx w') := fun a' k wx h1 h2 h3 h4 => Dr.next w.heap.size a' cv k wx h1 h2 h3 h4
  have DF : Hid (∀ (a : Nat) (wx : World), SrcAt wx w.heap.size a cv → a ≤ 900 → Calls Try.prog 65 #[.pointer (some ⟨w.heap.size, 0, none⟩)] wx fun e w' => ∃ x : Int, e = .returned (.int .i64 x) ∧ Dr.Tick w.heap.size (a + 1) cv wx w') := fun a wx h1 h2 => l8DrawF_any w.heap.size a cv wx h1 h2
  have WO : Hid (∀ (wx : World), SrcAt wx w.heap.size 0 cv → Calls Try.prog 86 #[.pointer (some ⟨w.heap.size, 0, none⟩)] wx (Dr.Ledger 451 wx w.heap.size 0 cv)) := fun wx h1 => l10Wrong_any w.heap.size 0 cv wx h1 (by omega)
  have PL : Hid (∀ (a : Nat) (v : Value) (ms : List Ms) (wx : World), SrcAt wx w.heap.size a cv → MSlice wx v ms → ms.length ≤ 241 → a ≤ 990 → Calls Try.prog 87 #[.pointer (some ⟨w.heap.size, 0, none⟩), v, .int .i64 4] wx (Dr.One wx w.heap.size a cv)) := fun a v ms wx h1 h2 h3 h4 => l10Place_any w.heap.size a cv v ms 4 wx h1 h2 h3 h4
  obtain ⟨ad, len, cap, hcv, -⟩ := hc
  have HC := source_any cv w ad len cap hcv
  clear hcv
  go_enter Try.func24, Try.ntmps24
  go_wp2_with fail
  refine HC.mono ?_
  rintro e w1 ⟨rfl, hw1⟩
  have HS1 : Hid (SrcAt w1 w.heap.size 0 cv) := by rw [hw1]; exact HS.out
  have HE1 : Hid (Ext w w1) := by rw [hw1]; exact (Ext.refl _).alloc _
  have hsz1 : w1.heap.size = w.heap.size + 1 := by rw [hw1]; simp
  clear HC HS hw1
  go_wp2_with fail
  refine (WO.out _ HS1.out).mono ?_
  rintro e w2 ⟨ov, ms, a2, rfl, hM, ⟨hml, -⟩, ha2, ht⟩
  obtain ⟨ad9, cp9, rfl, -⟩ := hM _ (Dr.Kb.refl _ _)
  have HM : Hid (∀ W', Dr.Kb w1.heap.size w2 W' → MSlice W' (.slice ad9 ms.length cp9) ms) := hM
  have hsz2 : w1.heap.size ≤ w2.heap.size := ht.2.2.1
  have HT2 : Hid (Dr.Tick w.heap.size a2 cv w1 w2) := ht
  clear ht hM HS1 WO
  go_wp2_with fail
  obtain ⟨w3, hw3⟩ : ∃ w3, w3 = w2.alloc (.cells #[] 2) := ⟨_, rfl⟩
  rw [← hw3]
  have HO3 : Hid (w3.ownsRow w2.heap.size 2 1 (.slice (some ⟨w2.heap.size, 0, none⟩) 0 0) 0 []) := by rw [hw3]; exact World.ownsRow_made w2 #[] 0 (Nat.le_refl _) (by unfold maxLen; omega) rfl
  have HT3 : Hid (Dr.Tick w.heap.size a2 cv w2 w3) := by rw [hw3]; exact (Dr.Tick.start HT2.out.1).ext ((Ext.refl _).alloc _)
  clear hw3
  refine (NX.out a2 5 _ HT3.out.1 (by omega) (by omega) (by omega)).mono ?_
  rintro e w4 ⟨r, rfl, hr0, hr1, ht⟩
  have HT4 : Hid (Dr.Tick w.heap.size (a2 + 1) cv w2 w4) := HT3.out.trans ht
  have HO4 : Hid (w4.ownsRow w2.heap.size 2 1 (.slice (some ⟨w2.heap.size, 0, none⟩) 0 0) 0 []) := ht.2.2.own HO3.out (by omega)
  clear ht HT3 HO3
  obtain ⟨n, rfl⟩ : ∃ n : Nat, r = n := ⟨r.toNat, by omega⟩
  have hbb : w.heap.size < w2.heap.size := by omega
  go_wp2
  go_loopw [7, 8] (fun rv kv wr => ∃ (j : Nat) (l : List Int) (a3 : Nat), kv = .int .i64 j ∧ l.length + j ≤ 4 ∧ a3 + 2 * j ≤ 470 ∧ Hid (wr.ownsRow w2.heap.size 2 1 rv l.length (l.map (Value.int .i64))) ∧ Hid (Dr.Tick w.heap.size a3 cv w2 wr)) (fun _ kv _ => (intOf kv).toNat)
  case atStart => exact ⟨n, [], a2 + 1, rfl, by simp; omega, by omega, HO4, HT4⟩
  case round =>
    obtain ⟨j, l, a3, rfl, hlj, ha3, HO, HT⟩ := hrel
    obtain ⟨ar, cr, rfl⟩ := Led.owns_form HO.out
    have hws : w2.heap.size ≤ wr.heap.size := HT.out.2.2.1
    have HK : Hid (Dr.Kb w1.heap.size w2 wr) := Dr.Kb.of_kp HT.out.2.2 (by omega)
    by_cases hj : 0 < j
    · have hjI : (0 : Int) < (j : Int) := by omega
      go_wp2_with fail
      refine (PL.out a3 _ ms _ HT.out.1 (HM.out _ HK.out) hml (by omega)).mono ?_
      rintro e w5 ⟨x, a5, rfl, ha5, ht⟩
      have HT5 : Hid (Dr.Tick w.heap.size a5 cv w2 w5) := HT.out.trans ht
      have HO5 : Hid (w5.ownsRow w2.heap.size 2 1 (.slice ar l.length cr) l.length (l.map (Value.int .i64))) := ht.2.2.own HO.out hbb
      have hws5 : w2.heap.size ≤ w5.heap.size := HT5.out.2.2.1
      clear ht
      go_wp2_with (at_builtin; go_must (refine wpList_append_own _ rfl _ _ 26 rfl (w2.heap.size) 2 ti (.int .i64 0) 1 8 Try.underlying26 hti hz0 hz1 hz2 rfl (by decide) _ _ _ rfl (HO5.out.alloc _) ⟨w5.heap.size, 0, none⟩ 1 1 [.int .i64 x] rfl rfl (cellM_one _ _ _ _ rfl) (ints_oneCell .i64 [x]) (by unfold maxLen; omega) (by omega) (by simp; omega) ?_; intro v6 w6 hown6 hgrow6 hnil6))
      obtain ⟨i, rfl⟩ : ∃ i, j = i + 1 := ⟨j - 1, by omega⟩
      refine ⟨⟨i, l ++ [x], a5, by go_num, by rw [List.length_append]; simp; omega, by omega, ?_, ?_⟩, by simp [intOf]⟩
      · show w6.ownsRow _ _ _ _ _ _
        rw [List.map_append, List.length_append]
        exact hown6
      · exact (HT5.out.ext ((Ext.refl _).alloc _)).grown hbb hgrow6 (fun q hq => (HO5.out.lt q hq).1)
    · obtain rfl : j = 0 := by omega
      clear hj
      go_wp2_with fail
      refine (CH.out a3 20 _ HT.out.1 (by omega) (by omega) (by omega)).mono ?_
      rintro e w5 ⟨ch, rfl, ht⟩
      have HT5 : Hid (Dr.Tick w.heap.size (a3 + 1) cv w2 w5) := HT.out.trans ht
      have HO5 : Hid (w5.ownsRow w2.heap.size 2 1 (.slice ar l.length cr) l.length (l.map (Value.int .i64))) := ht.2.2.own HO.out hbb
      have hws5 : w2.heap.size ≤ w5.heap.size := HT5.out.2.2.1
      clear ht HO HK HT
      cases ch with
      | true =>
        have H9 : Hid (Dr.Tick w.heap.size (a3 + 1) cv w2 (w5.alloc (.cells #[.int .i64 0, .int .i64 0, .int .i64 0, .int .i64 0, .int .i64 0, .int .i64 0, .int .i64 0, .int .i64 0, .int .i64 0] 2))) := HT5.out.ext ((Ext.refl _).alloc _)
        have N9 := Dr.nine w5 w2.heap.size hws5
        have HN9 : Hid ((w5.alloc (.cells #[.int .i64 0, .int .i64 0, .int .i64 0, .int .i64 0, .int .i64 0, .int .i64 0, .int .i64 0, .int .i64 0, .int .i64 0] 2)).ownsRow w2.heap.size 2 1 (.slice (some ⟨w5.heap.size, 0, none⟩) 9 9) 9 (([0, 0, 0, 0, 0, 0, 0, 0, 0] : List Int).map (Value.int .i64))) := N9
        clear N9
        go_wp2_with fail
        refine (DF.out (a3 + 1) _ H9.out.1 (by omega)).mono ?_
        rintro e w6 ⟨f, rfl, ht⟩
        have HT6 : Hid (Dr.Tick w.heap.size (a3 + 1 + 1) cv w2 w6) := H9.out.trans ht
        have HO6 : Hid (w6.ownsRow w2.heap.size 2 1 (.slice (some ⟨w5.heap.size, 0, none⟩) 9 9) 9 (([0, 0, 0, 0, 0, 0, 0, 0, 0] : List Int).map (Value.int .i64))) := ht.2.2.own HN9.out hbb
        have HM6 : Hid (MSlice w6 (.slice ad9 ms.length cp9) ms) := HM.out _ (Dr.Kb.of_kp HT6.out.2.2 (by omega))
        have HE6 : Hid (Ext w w6) := Below.trans HE1.out (Below.mono (HT2.out.trans HT6.out).2.1 (by omega))
        clear ht HT5 HO5 H9 HN9
        obtain ⟨g, -, -, hT⟩ := Led.iown_of_owns (l := [0, 0, 0, 0, 0, 0, 0, 0, 0]) HO6.out
        have HI6 : Hid (ISlice w6 (.slice (some ⟨w5.heap.size, 0, none⟩) 9 9) [0, 0, 0, 0, 0, 0, 0, 0, 0]) := hT.slice
        clear hT
        go_wp2
        exact bodyPost_ret (v := .tuple #[.int .i64 f, .slice ad9 ms.length cp9, .slice (some ⟨w5.heap.size, 0, none⟩) 9 9]) (by simp [results, Try.results24, go_sem]) rfl ⟨f, _, ms, _, _, rfl, HM6.out, hml, HI6.out, by decide, HE6.out⟩
      | false =>
        go_wp2_with fail
        refine (DF.out (a3 + 1) _ HT5.out.1 (by omega)).mono ?_
        rintro e w6 ⟨f, rfl, ht⟩
        have HT6 : Hid (Dr.Tick w.heap.size (a3 + 1 + 1) cv w2 w6) := HT5.out.trans ht
        have HO6 : Hid (w6.ownsRow w2.heap.size 2 1 (.slice ar l.length cr) l.length (l.map (Value.int .i64))) := ht.2.2.own HO5.out hbb
        have HM6 : Hid (MSlice w6 (.slice ad9 ms.length cp9) ms) := HM.out _ (Dr.Kb.of_kp HT6.out.2.2 (by omega))
        have HE6 : Hid (Ext w w6) := Below.trans HE1.out (Below.mono (HT2.out.trans HT6.out).2.1 (by omega))
        clear ht HT5 HO5
        obtain ⟨g, -, -, hT⟩ := Led.iown_of_owns HO6.out
        have HI6 : Hid (ISlice w6 (.slice ar l.length cr) l) := hT.slice
        clear hT
        go_wp2
        exact bodyPost_ret (v := .tuple #[.int .i64 f, .slice ad9 ms.length cp9, .slice ar l.length cr]) (by simp [results, Try.results24, go_sem]) rfl ⟨f, _, ms, _, l, rfl, HM6.out, hml, HI6.out, by omega, HE6.out⟩
end Go.Proofs.Ytflojfkalnojbaa
