/- mathematics of what a replica says: who leaves a view tells all that it committed; what may be prepared, committed. -/
import Derived.Test.YtecgjdgfjgcmdaaGreatRtGP
namespace Go.Proofs.YtecgjdgfjgcmdaaGreat
open Go.RowKit
namespace Msg
theorem best_ge {cs : List Ct} {slot : Int} {c : Ct} (h : c ∈ cs) (hs : c.slot = slot) : ∃ d, best cs slot = some d ∧ c.view ≤ d.view := by
  have key : ∀ (l : List Ct) (o : Option Ct), (c ∈ l ∨ ∃ d, o = some d ∧ c.view ≤ d.view) → ∃ d, l.foldl (better slot) o = some d ∧ c.view ≤ d.view := by
    intro l
    induction l with
    | nil => intro o h; rcases h with h | h; · cases h
             exact h
    | cons a r ih =>
      intro o h
      rw [List.foldl_cons]
      apply ih
      rcases h with h | ⟨d, rfl, hd⟩
      · rcases List.mem_cons.1 h with rfl | h
        · right
          cases o with
          | none => rw [better_none hs]; exact ⟨_, rfl, Int.le_refl _⟩
          | some e =>
            rw [better_some hs]
            split
            · exact ⟨_, rfl, Int.le_refl _⟩
            · exact ⟨_, rfl, by omega⟩
        · exact Or.inl h
      · right
        by_cases h2 : a.slot = slot
        · rw [better_some h2]
          split
          · exact ⟨_, rfl, by omega⟩
          · exact ⟨_, rfl, hd⟩
        · rw [better_ne h2]; exact ⟨_, rfl, hd⟩
  exact key cs none (Or.inl h)
theorem ns_has {cs : List Ct} {c : Ct} (n : Nat) (h : c ∈ cs) (h1 : 1 ≤ c.slot) (h2 : c.slot ≤ n) : ∃ d ∈ ns cs n, d.slot = c.slot ∧ c.view ≤ d.view := by
  induction n with
  | zero => omega
  | succ k ih =>
    by_cases hk : c.slot ≤ k
    · obtain ⟨d, hd, h3⟩ := ih hk
      refine ⟨d, ?_, h3⟩
      cases hb : best cs ((k : Int) + 1) with
      | none => rw [ns_no hb]; exact hd
      | some x => rw [ns_yes hb]; exact List.mem_append_left _ hd
    · obtain ⟨d, hb, hv⟩ := best_ge h (show c.slot = (k : Int) + 1 by omega)
      exact ⟨d, by rw [ns_yes hb]; simp, by rw [(best_mem hb).2]; omega, hv⟩
/-- What one says who leaves its view. -/
def chM (ms : List Ms) (r : Rp) (view : Int) : Ms := ⟨4, view, r.id, 0, 0, ns (cms ms r.id view) 30, []⟩
/-- What one says who begins its view. -/
def nwM (f : Int) (ms : List Ms) (r : Rp) : Ms := ⟨5, r.view, r.id, 0, 0, [], refsN f ms r⟩
theorem mem_cms {ms : List Ms} {id view : Int} {c : Ct} : c ∈ cms ms id view ↔ ∃ z ∈ ms, (z.kind = 3 ∧ z.from_ = id ∧ z.view < view) ∧ c = ⟨z.slot, z.view, z.value⟩ := by
  unfold cms isCm
  simp only [List.mem_map, List.mem_filter]
  constructor
  · rintro ⟨z, ⟨h1, h2⟩, rfl⟩
    exact ⟨z, h1, by simpa using h2, rfl⟩
  · rintro ⟨z, h1, h2, rfl⟩
    exact ⟨z, ⟨h1, by simpa using h2⟩, rfl⟩
theorem com_in {f : Int} {z : Ms} (h : faultM f z = 0) (hk : z.kind = 3) : (0 ≤ z.view ∧ z.view ≤ 20) ∧ (1 ≤ z.slot ∧ z.slot ≤ 30) ∧ (0 ≤ z.value ∧ z.value ≤ 12) := by
  have h1 := (faultM_zero h).2
  unfold boundsN at h1
  have h2 := of_decide_eq_true h1
  have h3 := h2.2.2.2.2 (by omega)
  exact ⟨⟨h2.1, h2.2.1⟩, ⟨h3.1, h3.2.1⟩, h3.2.2⟩
/-- Whatever z committed ahead of view, the message tells of it. -/
theorem ch_tells {f : Int} {ms : List Ms} {r : Rp} {view : Int} (hl : ledger f ms = 0) {z : Ms} (hz : z ∈ ms) (h : z.kind = 3 ∧ z.from_ = r.id ∧ z.view < view) : ∃ d ∈ (chM ms r view).certs, d.slot = z.slot ∧ z.view ≤ d.view := by
  have hi := com_in (ledger_all hl z hz) h.1
  exact ns_has (c := ⟨z.slot, z.view, z.value⟩) 30 (mem_cms.2 ⟨z, hz, h, rfl⟩) hi.2.1.1 (by have := hi.2.1.2; exact this)
theorem ch_fault {f : Int} {ms : List Ms} {r : Rp} {view : Int} (hl : repC f ms r = 0) (hv : 0 ≤ view ∧ view ≤ 20) : fault f (chM ms r view) = 0 := by
  have hled := repC_led hl
  obtain ⟨hf0, hf1, hml⟩ := ledger_zero hled
  have hr := repF_zero (by rw [← repC_ok hled]; exact hl)
  have hfo : fOk f = true := by unfold fOk; simp [hf0, hf1]
  have hln := ns_len (cms ms r.id view) 30
  have hcert : ∀ c ∈ ns (cms ms r.id view) 30, certOk view c = true := fun c hc => by
    obtain ⟨z, hz, hk, rfl⟩ := mem_cms.1 (ns_mem 30 hc).1
    have hi := com_in (ledger_all hled z hz) hk.1
    unfold certOk
    exact decide_eq_true ⟨hi.2.1.1, hi.2.1.2, hi.1.1, by have := hk.2.2; show z.view ≤ view - 1; omega, hi.2.2⟩
  have h1 : bareN 4 0 0 (ns (cms ms r.id view) 30).length 0 = true := by unfold bareN; exact decide_eq_true ⟨by omega, by omega, Or.inr ⟨rfl, rfl⟩, Or.inl rfl, Or.inr rfl⟩
  have h2 : boundsN f 4 view r.id 0 0 = true := by unfold boundsN; exact decide_eq_true ⟨hv.1, hv.2, hr.1.1, hr.1.2, fun h => by omega⟩
  have h3 : manyN f (ns (cms ms r.id view) 30).length 0 = false := by unfold manyN; exact decide_eq_false (by omega)
  have h4 : rises (slots (ns (cms ms r.id view) 30)) = true := rises_all (fun i x y hx hy => by
    obtain ⟨c, hc, rfl⟩ := slots_back hx
    obtain ⟨d, hd, rfl⟩ := slots_back hy
    exact ns_ris _ 30 i (i + 1) c d (by omega) hc hd)
  have h5 : parts (chM ms r view) = true := by
    unfold parts chM
    simp only [List.all_nil, Bool.and_true]
    exact List.all_eq_true.2 hcert
  unfold fault
  rw [hfo, if_neg (by decide)]
  unfold faultM
  rw [show bareN (chM ms r view).kind (chM ms r view).slot (chM ms r view).value (chM ms r view).certs.length (chM ms r view).refs.length = true from h1, if_neg (by decide), show boundsN f (chM ms r view).kind (chM ms r view).view (chM ms r view).from_ (chM ms r view).slot (chM ms r view).value = true from h2, if_neg (by decide), show manyN f (chM ms r view).certs.length (chM ms r view).refs.length = false from h3, if_neg (by decide)]
  exact lists_4 h4 rfl h5
theorem askC_zero {f : Int} {ms : List Ms} {r : Rp} {c : Int} (h : askC f ms r c = 0) : repC f ms r = 0 ∧ c = 0 := by
  unfold askC at h
  by_cases h1 : repC f ms r = 0
  · rw [if_neg (by simp [h1])] at h; exact ⟨h1, h⟩
  · rw [if_pos h1] at h; exact absurd h h1
theorem chC_zero {r : Rp} {view : Int} (h : chC r view = 0) : (0 ≤ view ∧ view ≤ 20) ∧ r.view < view := by
  unfold chC at h
  split at h
  · omega
  · split at h
    · omega
    · exact ⟨by omega, by omega⟩
theorem refsN_len {f : Int} {ms : List Ms} {r : Rp} (hf : 1 ≤ f) : ((refsN f ms r).length : Int) ≤ 2 * f + 1 := by
  unfold refsN; rw [List.length_take]; omega
theorem newC_zero {f : Int} {ms : List Ms} {r : Rp} (hf : 1 ≤ f) (h : newC f ms r = 0) : ((refsN f ms r).length : Int) = 2 * f + 1 := by
  have := refsN_len (f := f) (ms := ms) (r := r) hf
  unfold newC at h
  split at h
  · omega
  · split at h <;> omega
end Msg
end Go.Proofs.YtecgjdgfjgcmdaaGreat
