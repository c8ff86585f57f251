/- sessions: what FnSessions asks of what was opened. -/
import Derived.Test.YtjlmkjcahnnjpaaE16
import Derived.Test.YtjlmkjcahnnjpaaLSplitSessions
namespace Go.Proofs.Ytjlmkjcahnnjpaa
open Go.RowKit

theorem hasE_put (s : Se) (l : List Se) : hasE (putSe s l) s.id = true := by
  unfold hasE putSe
  rw [List.any_append, List.any_cons]
  simp
theorem tilE_put (s : Se) (l : List Se) (hr : Rises l) : tilE (putSe s l) s.id = s.til := by
  have hm : s ∈ putSe s l := by unfold putSe; simp
  obtain ⟨k, hk⟩ := List.getElem?_of_mem hm
  exact (hr.put s).til hk
/-- What is known where a session was opened. -/
theorem opened_facts {l : List Se} {i n : Int} {rs : List Se} (h : Ses.openV l i n = (0, rs)) :
    rs = putSe ⟨i, n + 10⟩ l ∧ Rises l ∧ (1 ≤ i ∧ i ≤ 9) ∧ (0 ≤ n ∧ n ≤ 9000) ∧ hasE l i = false ∧ l.length < 6 ∧ (∀ s ∈ l, Ses.ok s = true) := by
  unfold Ses.openV at h
  by_cases hc : Ses.asked l i n ≠ 0
  · rw [if_pos hc] at h; injection h with h1 h2; exact absurd h1 hc
  · rw [if_neg hc] at h
    obtain ⟨hf, hi, hn⟩ := Ses.asked_zero (l := l) (i := i) (n := n) (by omega)
    obtain ⟨h6, hr, ho⟩ := Ses.fault_zero hf
    by_cases h1 : hasE l i = true
    · rw [if_pos h1] at h; cases h
    · rw [if_neg h1] at h
      by_cases h2 : 6 ≤ l.length
      · rw [if_pos h2] at h; cases h
      · rw [if_neg h2] at h
        injection h with h3 h4
        exact ⟨h4.symm, hr, hi, hn, by simpa using h1, by omega, ho⟩
theorem opened_fault {l : List Se} {i n : Int} {rs : List Se} (h : Ses.openV l i n = (0, rs)) : Ses.fault rs = 0 := by
  obtain ⟨rfl, hr, hi, hn, hh, hl, ho⟩ := opened_facts h
  have hlen := putSe_len ⟨i, n + 10⟩ l
  unfold Ses.fault
  rw [if_neg (by omega)]
  have key : ∀ (m : List Se) (a : Int), Rises m → (∀ s ∈ m, Ses.ok s = true) → (∀ s ∈ m, a < s.id) → Ses.from a m = 0 := by
    intro m
    induction m with
    | nil => intro a _ _ _; rfl
    | cons s r ih =>
      intro a h1 h2 h3
      have h1' := List.pairwise_cons.1 h1
      rw [Ses.from, if_neg (by rw [h2 s (by simp)]; simp), if_neg (by have := h3 s (by simp); omega)]
      exact ih s.id h1'.2 (fun t ht => h2 t (by simp [ht])) h1'.1
  have hok : ∀ s ∈ putSe ⟨i, n + 10⟩ l, Ses.ok s = true := by
    intro s hs
    rcases putSe_mem hs with rfl | hs
    · exact Ses.ok_iff.2 ⟨⟨hi.1, hi.2⟩, by show 0 ≤ n + 10; omega, by show n + 10 ≤ 9999; omega⟩
    · exact ho s hs
  exact key _ 0 (hr.put _) hok (fun s hs => by have := Ses.ok_iff.1 (hok s hs); omega)
theorem opened_asked {l : List Se} {i n m : Int} {rs : List Se} (h : Ses.openV l i n = (0, rs)) (hm : 0 ≤ m ∧ m ≤ 9000) : Ses.asked rs i m = 0 := by
  have hf := opened_fault h
  obtain ⟨-, -, hi, -⟩ := opened_facts h
  unfold Ses.asked
  rw [if_neg (by simp [hf]), if_pos (by simp [Ses.idOk, Ses.nowOk, hi, hm])]
theorem opened_live {l : List Se} {i n m : Int} {rs : List Se} (h : Ses.openV l i n = (0, rs)) (hm : 0 ≤ m ∧ m ≤ 9000) : Ses.liveV rs i m = decide (m ≤ n + 10) := by
  have ha := opened_asked h hm
  obtain ⟨rfl, hr, hi, hn, hh, hl, ho⟩ := opened_facts h
  unfold Ses.liveV Ses.live
  rw [ha, tilE_put ⟨i, n + 10⟩ l hr, hasE_put ⟨i, n + 10⟩ l]
  simp
theorem opened_dead {l : List Se} {i n : Int} {rs : List Se} (h : Ses.openV l i n = (0, rs)) : Ses.liveV l i n = false := by
  obtain ⟨rfl, hr, hi, hn, hh, hl, ho⟩ := opened_facts h
  unfold Ses.liveV Ses.live
  rw [hh]; simp
theorem opened_split {l : List Se} {i n : Int} {rs : List Se} (h : Ses.openV l i n = (0, rs)) : (Ses.splitV rs n).1 = 0 ∧ (Ses.splitV rs n).2.1.length + (Ses.splitV rs n).2.2.length = rs.length ∧ i ∉ (Ses.splitV rs n).2.2 := by
  have hf := opened_fault h
  obtain ⟨rfl, hr, hi, hn, hh, hl, ho⟩ := opened_facts h
  have hm : Ses.moment (putSe ⟨i, n + 10⟩ l) n = 0 := by
    unfold Ses.moment
    rw [if_neg (by simp [hf]), if_pos (by simp [Ses.nowOk, hn])]
  unfold Ses.splitV
  rw [if_neg (by simp [hm])]
  refine ⟨rfl, ?_, ?_⟩
  · show (Ses.liveL _ n).length + (Ses.overL _ n).length = _
    generalize putSe ⟨i, n + 10⟩ l = m
    unfold Ses.liveL Ses.overL
    rw [List.length_map]
    induction m with
    | nil => rfl
    | cons s r ih =>
      by_cases q : n ≤ s.til
      · rw [List.filter_cons_of_pos (by simpa using q), List.filter_cons_of_neg (by simp; omega), List.length_cons, List.length_cons]; omega
      · rw [List.filter_cons_of_neg (by simpa using q), List.filter_cons_of_pos (by simp; omega), List.length_cons, List.length_cons]; omega
  · show i ∉ Ses.overL _ n
    unfold Ses.overL
    rw [List.mem_map]
    rintro ⟨s, hs, he⟩
    obtain ⟨hs1, hs2⟩ := List.mem_filter.1 hs
    obtain ⟨k, hk⟩ := List.getElem?_of_mem hs1
    have h1 := (hr.put ⟨i, n + 10⟩).til hk
    rw [he, tilE_put ⟨i, n + 10⟩ l hr] at h1
    simp at hs2
    have h2 : n + 10 = s.til := h1
    omega
theorem opened_taken {l : List Se} {i n : Int} {rs : List Se} (h : Ses.openV l i n = (0, rs)) : Ses.openV rs i n = (6, []) := by
  obtain ⟨hrs, hr, hi, hn, hh, hl, ho⟩ := opened_facts h
  have ha := opened_asked h hn
  unfold Ses.openV
  rw [if_neg (by simp [ha]), if_pos (by rw [hrs]; exact hasE_put ⟨i, n + 10⟩ l)]
theorem touch_live (l : List Se) (i n : Int) : ((Ses.touchV l i n).1 == 0) = Ses.liveV l i n := by
  unfold Ses.touchV Ses.liveV
  by_cases h : Ses.asked l i n ≠ 0
  · rw [if_pos h, decide_eq_false h]; simp [h]
  · rw [if_neg h, decide_eq_true (by omega), Bool.true_and]
    cases Ses.live l i n <;> rfl
set_option maxHeartbeats 400000 in
theorem lwBigE_any (ad : Option Addr) (len cap : Nat) (w : World) :
    Calls Try.prog 9 #[.slice ad len cap] w fun e w' => e = .returned (.bool (decide (1048576 < len))) ∧ w' = w := by
  go_enter Try.func9, Try.ntmps9
  go_wp2
  go_ret
  exact ⟨ret_bool (by rw [Bool.eq_iff_iff]; simp; omega), rfl⟩
set_option maxHeartbeats 1000000 in
theorem lwHas_any (v : Value) (l : List Int) (x : Int) (w : World) (hS : ISlice w v l) (hx : x ∉ l) :
    Calls Try.prog 18 #[v, .int .i64 x] w fun e w' => e = .returned (.bool false) ∧ w' = w := by
  obtain ⟨a, cap, rfl, hlc, hcm, hy⟩ := hS
  have HX : Hid (0 < l.length → ∃ b off, a = some ⟨b, off, none⟩ ∧ b < w.heap.size ∧ NumsAt w b off l) := hy
  have HN : Hid (x ∉ l) := hx
  clear hy hx
  unfold maxLen at hcm
  go_enter Try.func18, Try.ntmps18
  go_wp2
  go_loop [5] (fun iv => ∃ (k : Nat), k ≤ l.length ∧ iv = .int .i64 k) (fun iv => l.length - (intOf iv).toNat)
  case atStart => exact ⟨0, Nat.zero_le _, rfl⟩
  case round =>
    obtain ⟨k, hk, rfl⟩ := hrel
    by_cases hlt : k < l.length
    · obtain ⟨s, hsk⟩ : ∃ s, l[k]? = some s := ⟨_, List.getElem?_eq_getElem hlt⟩
      obtain ⟨b, off, rfl, hb, hN⟩ := HX.out (by omega)
      have d0 := hN k s hsk
      have hne : ¬ s = x := fun e => HN.out (e ▸ List.mem_of_getElem? hsk)
      clear hN hsk
      go_wp2
      exact ⟨⟨k + 1, by omega, by go_num⟩, by simp [intOf]; omega⟩
    · go_wp2
      go_ret
      exact ⟨rfl, rfl⟩
end Go.Proofs.Ytjlmkjcahnnjpaa
