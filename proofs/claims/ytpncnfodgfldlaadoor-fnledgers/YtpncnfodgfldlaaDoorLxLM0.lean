/- what is put is there, once, and nothing that was there is lost (mathematics). -/
import Derived.Test.YtpncnfodgfldlaaDoorLxPM3
namespace Go.Proofs.YtpncnfodgfldlaaDoor
namespace Msg
theorem ledger_steps {f : Int} {ms : List Ms} (h : ledger f ms = 0) : fOk f = true ∧ ∀ (k : Nat) m, ms[k]? = some m → faultM f m = 0 ∧ refsB m k = true ∧ ¬ m ∈ ms.take k := by
  have hf : fOk f = true := by
    cases hf : fOk f with
    | true => rfl
    | false => rw [ledger_1 hf] at h; exact absurd h (by decide)
  refine ⟨hf, fun k m hk => ?_⟩
  have hl := ledger_zero h
  rw [ledger_2 hf] at h
  unfold ledgerM at h
  rw [if_neg (by omega)] at h
  have h2 := firstNZ_all h k (List.getElem?_eq_some_iff.1 hk).1
  rw [stepG_at hk] at h2
  by_cases h3 : faultM f m = 0
  · cases h4 : refsB m k with
    | false => rw [stepF_2 h3 h4] at h2; exact absurd h2 (by decide)
    | true =>
      refine ⟨h3, rfl, fun h5 => ?_⟩
      rw [stepF_3 h3 h4 h5] at h2
      exact absurd h2 (by decide)
  · rw [stepF_1 h3] at h2; exact absurd h2 h3
theorem ledger_snoc {f : Int} {ms : List Ms} {m : Ms} (h : ledger f ms = 0) (hm : faultM f m = 0) (hr : refsB m ms.length = true) (hn : ¬ m ∈ ms) (hl : ¬ 240 ≤ ms.length) : ledger f (ms ++ [m]) = 0 := by
  obtain ⟨hf, hs⟩ := ledger_steps h
  rw [ledger_2 hf]
  refine ledgerM_3 (by rw [List.length_append]; simp; omega) (fun j hj => ?_)
  rw [List.length_append] at hj
  simp only [List.length_cons, List.length_nil, Nat.zero_add] at hj
  by_cases hjl : j < ms.length
  · obtain ⟨z, hz⟩ : ∃ z, ms[j]? = some z := ⟨_, List.getElem?_eq_getElem hjl⟩
    obtain ⟨h1, h2, h3⟩ := hs j z hz
    rw [stepG_at (m := z) (by rw [List.getElem?_append_left hjl]; exact hz)]
    exact stepF_4 h1 h2 (by rw [List.take_append_of_le_length (by omega)]; exact h3)
  · have e : j = ms.length := by omega
    subst e
    rw [stepG_at (m := m) (by simp)]
    exact stepF_4 hm hr (by rw [List.take_left]; exact hn)
theorem refsB_mono {m : Ms} {n k : Nat} (h : refsB m n = true) (hk : n ≤ k) : refsB m k = true := by
  unfold refsB at *
  rw [List.all_eq_true] at *
  intro x hx
  have := h x hx
  rw [decide_eq_true_eq] at *
  omega
/-- All that is said of what was put. -/
theorem put_facts {f : Int} {ms : List Ms} {m : Ms} (h : (putV f ms m).1 = 0) : ledger f ms = 0 ∧ faultM f m = 0 ∧ ledger f (putV f ms m).2 = 0 ∧ m ∈ (putV f ms m).2 ∧ (∀ (i : Nat) z, ms[i]? = some z → (putV f ms m).2[i]? = some z) ∧ ms.length ≤ (putV f ms m).2.length ∧ (putV f ms m).2.length ≤ ms.length + 1 ∧ putV f (putV f ms m).2 m = (0, (putV f ms m).2) := by
  by_cases h1 : ledger f ms = 0
  · by_cases h2 : faultM f m = 0
    · cases h3 : refsB m ms.length with
      | false => rw [putV_refs h1 h2 h3] at h; exact absurd h (by decide)
      | true =>
        rw [putV_ok h1 h2 h3] at h ⊢
        by_cases h4 : 0 ≤ place ms m
        · rw [putM_there h4]
          refine ⟨h1, h2, h1, place_mem.1 h4, fun i z hz => hz, Nat.le_refl _, Nat.le_succ _, ?_⟩
          show putV f ms m = _
          rw [putV_ok h1 h2 h3, putM_there h4]
        · by_cases h5 : 240 ≤ ms.length
          · rw [putM_many h4 h5] at h; exact absurd h (by decide)
          · rw [putM_new h4 h5]
            have hn : ¬ m ∈ ms := fun hm => h4 (place_mem.2 hm)
            have hl := ledger_snoc h1 h2 h3 hn h5
            have hm : m ∈ ms ++ [m] := by simp
            refine ⟨h1, h2, hl, hm, fun i z hz => ?_, ?_, ?_, ?_⟩
            · show (ms ++ [m])[i]? = some z
              rw [List.getElem?_append_left (List.getElem?_eq_some_iff.1 hz).1]
              exact hz
            · show ms.length ≤ (ms ++ [m]).length
              rw [List.length_append]; omega
            · show (ms ++ [m]).length ≤ ms.length + 1
              rw [List.length_append]; exact Nat.le_refl _
            · show putV f (ms ++ [m]) m = (0, ms ++ [m])
              rw [putV_ok hl h2 (refsB_mono h3 (by rw [List.length_append]; omega)), putM_there (place_mem.2 hm)]
    · rw [putV_msg h1 h2] at h; exact absurd h h2
  · rw [putV_bad h1] at h; exact absurd h h1
def cntM (rs : List Ms) (m : Ms) (i : Nat) : Nat := ((rs.take i).filter (fun z => sameM z m)).length
theorem cntM_yes {rs : List Ms} {m z : Ms} {i : Nat} (h : rs[i]? = some z) (hs : sameM z m = true) : cntM rs m (i + 1) = cntM rs m i + 1 := by
  unfold cntM
  obtain ⟨hi, rfl⟩ := List.getElem?_eq_some_iff.1 h
  rw [List.take_succ_eq_append_getElem hi, List.filter_append, List.filter_cons_of_pos (by simpa using hs), List.length_append]; rfl
theorem cntM_no {rs : List Ms} {m z : Ms} {i : Nat} (h : rs[i]? = some z) (hs : sameM z m = false) : cntM rs m (i + 1) = cntM rs m i := by
  unfold cntM
  obtain ⟨hi, rfl⟩ := List.getElem?_eq_some_iff.1 h
  rw [List.take_succ_eq_append_getElem hi, List.filter_append, List.filter_cons_of_neg (by simp [hs]), List.length_append]; rfl
theorem cntM_le (rs : List Ms) (m : Ms) (i : Nat) : cntM rs m i ≤ i := by
  unfold cntM
  have := List.length_filter_le (fun z => sameM z m) (rs.take i)
  rw [List.length_take] at this
  omega
theorem cntM_mem {rs : List Ms} {m : Ms} (h : ∀ (k : Nat) z, rs[k]? = some z → ¬ z ∈ rs.take k) : ∀ i, i ≤ rs.length → cntM rs m i = if m ∈ rs.take i then 1 else 0
  | 0, _ => by rw [List.take_zero, if_neg (by simp)]; rfl
  | i + 1, hi => by
    have ih := cntM_mem (m := m) h i (by omega)
    obtain ⟨z, hz⟩ : ∃ z, rs[i]? = some z := ⟨_, List.getElem?_eq_getElem (by omega)⟩
    have hi' : i < rs.length := by omega
    have e : rs.take (i + 1) = rs.take i ++ [z] := by
      obtain ⟨_, rfl⟩ := List.getElem?_eq_some_iff.1 hz
      exact List.take_succ_eq_append_getElem hi'
    by_cases hzm : z = m
    · subst hzm
      have hn := h i z hz
      rw [cntM_yes hz (by simp [sameM]), ih, if_neg hn, if_pos (by rw [e]; simp)]
    · rw [cntM_no hz (by simp [sameM, hzm]), ih]
      by_cases hm : m ∈ rs.take i
      · rw [if_pos hm, if_pos (by rw [e, List.mem_append]; exact Or.inl hm)]
      · rw [if_neg hm, if_neg (by rw [e, List.mem_append, List.mem_singleton]; rintro (h1 | h1); exact hm h1; exact hzm h1.symm)]
theorem cntM_one {f : Int} {rs : List Ms} {m : Ms} (h : ledger f rs = 0) (hm : m ∈ rs) : cntM rs m rs.length = 1 := by
  rw [cntM_mem (fun k z hz => ((ledger_steps h).2 k z hz).2.2) _ (Nat.le_refl _), List.take_length, if_pos hm]
theorem sentK_mono (ms : List Ms) (x : Int) (k j : Nat) : (sentK ms x k).length ≤ (sentK ms x (k + j)).length := by
  induction j with
  | zero => exact Nat.le_refl _
  | succ j ih =>
    refine Nat.le_trans ih ?_
    show _ ≤ (sentK ms x (k + j) ++ _).length
    rw [List.length_append]
    omega
theorem sentV_mem {f : Int} {ms : List Ms} {m : Ms} (h : ledger f ms = 0) (hm : m ∈ ms) : (sentV f ms m.from_).1 = 0 ∧ 0 < (sentV f ms m.from_).2.length := by
  rw [sentV_ok h (from_in (ledger_all h m hm))]
  refine ⟨rfl, ?_⟩
  obtain ⟨k, hk⟩ := List.getElem?_of_mem hm
  have hl := (List.getElem?_eq_some_iff.1 hk).1
  obtain ⟨j, hj⟩ : ∃ j, ms.length = (k + 1) + j := ⟨ms.length - (k + 1), by omega⟩
  have h1 := sentK_mono ms m.from_ (k + 1) j
  rw [← hj, sentK_yes hk rfl, List.length_append] at h1
  simp only [List.length_cons, List.length_nil] at h1
  show 0 < (sentK ms m.from_ ms.length).length
  omega
end Msg
end Go.Proofs.YtpncnfodgfldlaaDoor
