/- what FnLogs leans on. -/
import Derived.Test.YthndkilcjgedjaaMD7
import Derived.Test.YthndkilcjgedjaaQS4
import Derived.Test.YthndkilcjgedjaaQS8
namespace Go.Proofs.Ythndkilcjgedjaa
open Go.RowKit
namespace Msg
theorem run_yes {f : Int} {ms : List Ms} (n : Nat) : ∀ j, j < run f ms n → ¬ decided f ms ((j : Int) + 1) = [] := by
  induction n with
  | zero => intro j hj; exact absurd hj (by show ¬ j < 0; omega)
  | succ n ih =>
    intro j hj
    unfold run at hj
    split at hj
    · rename_i h
      by_cases hjn : j = n
      · subst hjn; exact h.2
      · exact ih j (by rw [h.1]; omega)
    · exact ih j hj
theorem run_no {f : Int} {ms : List Ms} (n : Nat) (h : run f ms n < n) : decided f ms ((run f ms n : Int) + 1) = [] := by
  induction n with
  | zero => omega
  | succ n ih =>
    by_cases hc : run f ms n = n ∧ ¬ decided f ms ((n : Int) + 1) = []
    · exact absurd h (by unfold run; rw [if_pos hc]; omega)
    · have e : run f ms (n + 1) = run f ms n := by rw [run, if_neg hc]
      rw [e]
      by_cases hn : run f ms n = n
      · rw [hn]
        by_cases hd : decided f ms ((n : Int) + 1) = []
        · exact hd
        · exact absurd ⟨hn, hd⟩ hc
      · exact ih (by have := run_le f ms n; omega)
theorem heads_at {f : Int} {ms : List Ms} {k j : Nat} (h : j < k) : (heads f ms k)[j]? = some ((decided f ms ((j : Int) + 1)).headD 0) := by
  induction k with
  | zero => omega
  | succ k ih =>
    rw [heads]
    by_cases hj : j = k
    · subst hj
      rw [List.getElem?_append_right (by rw [heads_len]; exact Nat.le_refl _), heads_len]
      simp
    · rw [List.getElem?_append_left (by rw [heads_len]; omega)]
      exact ih (by omega)
theorem log_yes {f : Int} {ms : List Ms} {s : Nat} (h1 : 1 ≤ s) (h2 : s ≤ (log f ms).length) : ¬ decided f ms s = [] ∧ (log f ms)[s - 1]? = some ((decided f ms s).headD 0) := by
  have hl : (log f ms).length = run f ms 30 := heads_len _ _ _
  have e : (((s - 1 : Nat) : Int) + 1) = (s : Int) := by omega
  have a := run_yes (f := f) (ms := ms) 30 (s - 1) (by omega)
  have b := heads_at (f := f) (ms := ms) (k := run f ms 30) (j := s - 1) (by omega)
  rw [e] at a b
  exact ⟨a, b⟩
theorem log_no {f : Int} {ms : List Ms} {s : Nat} (h1 : s = (log f ms).length + 1) (h2 : s ≤ 30) : decided f ms s = [] := by
  have hl : (log f ms).length = run f ms 30 := heads_len _ _ _
  have a := run_no (f := f) (ms := ms) 30 (by omega)
  rw [h1, hl]
  exact a
end Msg
set_option maxHeartbeats 400000 in
theorem lwBigL_any (ad : Option Addr) (len cap : Nat) (w : World) :
    Calls Try.prog 15 #[.slice ad len cap] w fun e w' => e = .returned (.bool (decide (1048576 < len))) ∧ w' = w := by
  go_enter Try.func15, Try.ntmps15
  go_wp2
  go_ret
  exact ⟨ret_bool (by rw [Bool.eq_iff_iff]; simp; omega), rfl⟩
set_option maxHeartbeats 400000 in
theorem lawLogs_big (ad : Option Addr) (len cap : Nat) (w : World) (hl : 1048576 < len) :
    Calls Try.prog 4 #[.slice ad len cap] w fun e w' => e = .returned (.bool true) ∧ Ext w w' := by
  have hbig : decide (1048576 < len) = true := by simpa using hl
  have hB := lwBigL_any ad len cap w
  rw [hbig] at hB
  clear hbig
  go_enter Try.func4, Try.ntmps4
  go_wp2_with fail
  refine hB.mono ?_
  rintro e w0 ⟨rfl, hw⟩
  subst hw
  clear hB
  go_wp2
  go_ret
  exact ⟨rfl, Ext.refl _⟩
set_option maxHeartbeats 1000000 in
set_option maxRecDepth 100000 in
theorem lwNums_same (v v' : Value) (l : List Int) (w : World) (hS : ISlice w v l) (hS' : ISlice w v' l) :
    Calls Try.prog 22 #[v, v'] w fun e w' => e = .returned (.bool true) ∧ Ext w w' := by
  obtain ⟨a, cap, rfl, hlc, hcm, hx⟩ := hS
  obtain ⟨a', cap', rfl, hlc', hcm', hx'⟩ := hS'
  have HX : Hid (0 < l.length → ∃ b off, a = some ⟨b, off, none⟩ ∧ b < w.heap.size ∧ NumsAt w b off l) := hx
  have HX' : Hid (0 < l.length → ∃ b off, a' = some ⟨b, off, none⟩ ∧ b < w.heap.size ∧ NumsAt w b off l) := hx'
  clear hx hx'
  unfold maxLen at hcm
  go_enter Try.func22, Try.ntmps22
  go_wp2
  go_loopw [5] (fun i wr => ∃ (k : Nat), k ≤ l.length ∧ i = .int .i64 k ∧ Hid (Ext w wr)) (fun i _ => l.length - (intOf i).toNat)
  case atStart => exact ⟨0, Nat.zero_le _, rfl, Ext.refl _⟩
  case round =>
    obtain ⟨k, hk, rfl, HE⟩ := hrel
    by_cases hlt : k < l.length
    · obtain ⟨z, hzk⟩ : ∃ z, l[k]? = some z := ⟨_, List.getElem?_eq_getElem hlt⟩
      obtain ⟨b, off, rfl, hb, hN⟩ := HX.out (by omega)
      obtain ⟨b', off', rfl, hb', hN'⟩ := HX'.out (by omega)
      have d0 := hN.ext hb HE.out k z hzk
      have d1 := hN'.ext hb' HE.out k z hzk
      clear hzk hN hN'
      go_wp2
      go_region
      all_goals
        go_wp2
        exact ⟨⟨k + 1, by omega, by go_num, HE.out.drew⟩, by simp [intOf]; omega⟩
    · go_wp2
      go_ret
      exact ⟨rfl, HE.out⟩

theorem Dr.Tick.to_ext {w w' : World} {o : Obj} {a : Nat} {cv : Value} (h : Dr.Tick w.heap.size a cv (w.alloc o) w') : Ext w w' := Below.trans ((Below.refl _ _).alloc (Nat.le_refl _) _) h.2.1
set_option maxHeartbeats 2000000 in
set_option maxRecDepth 100000 in
theorem drawLogOf_any (cv : Value) (w : World) (hc : CodeOk w w.heap.size cv) :
    Calls Try.prog 25 #[cv] w fun e w' => ∃ (f : Int) (ov : Value) (ms : List Ms), e = .returned (.tuple #[.int .i64 f, ov]) ∧ MSlice w' ov ms ∧ Ext w w' := by
  have HS : Hid (SrcAt (w.alloc (.cells #[cv, .int .i64 0] 122)) w.heap.size 0 cv) := src_new hc
  have DF : Hid (∀ (a : Nat) (wx : World), SrcAt wx w.heap.size a cv → a ≤ 900 → Calls Try.prog 59 #[.pointer (some ⟨w.heap.size, 0, none⟩)] wx fun e w' => ∃ x : Int, e = .returned (.int .i64 x) ∧ Dr.Tick w.heap.size (a + 1) cv wx w') := fun a wx h1 h2 => l8DrawF_any w.heap.size a cv wx h1 h2
  have WO : Hid (∀ (a : Nat) (wx : World), SrcAt wx w.heap.size a cv → a ≤ 100 → Calls Try.prog 57 #[.pointer (some ⟨w.heap.size, 0, none⟩)] wx (Dr.Ledger 600 wx w.heap.size a cv)) := fun a wx h1 h2 => l9World_any w.heap.size a cv wx h1 h2
  obtain ⟨ad, len, cap, hcv, -⟩ := hc
  have HC := source_any cv w ad len cap hcv
  clear hcv
  go_enter Try.func25, Try.ntmps25
  go_wp2_with fail
  refine HC.mono ?_
  rintro e w1 ⟨rfl, rfl⟩
  clear HC
  go_wp2_with fail
  refine (DF.out 0 _ (by exact HS.out) (by omega)).mono ?_
  rintro e w2 ⟨f, rfl, ht⟩
  have HT : Hid (Dr.Tick w.heap.size (0 + 1) cv (w.alloc (.cells #[cv, .int .i64 0] 122)) w2) := ht
  clear ht HS
  go_wp2_with fail
  refine (WO.out (0 + 1) _ (by exact HT.out.1) (by omega)).mono ?_
  rintro e w3 ⟨ov, ms, a', rfl, hM, -, ht⟩
  have HE : Hid (Ext w w3) := Dr.Tick.to_ext (HT.out.trans ht)
  have HM : Hid (MSlice w3 ov ms) := hM
  obtain ⟨ad9, cp9, rfl, -⟩ := id hM
  clear ht hM
  go_wp2
  go_ret2
  exact ⟨f, _, ms, rfl, HM.out, HE.out⟩
end Go.Proofs.Ythndkilcjgedjaa
