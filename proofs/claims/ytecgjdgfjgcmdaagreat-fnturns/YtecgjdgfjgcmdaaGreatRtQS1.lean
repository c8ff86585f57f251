/- votes: who has said what; what is decided; the log (mathematics). -/
import Derived.Test.YtecgjdgfjgcmdaaGreatRtLG5
import Derived.Test.YtecgjdgfjgcmdaaGreatRtQS0
namespace Go.Proofs.YtecgjdgfjgcmdaaGreat
namespace Msg
theorem ledger_all {f : Int} {ms : List Ms} (h : ledger f ms = 0) : ∀ m ∈ ms, faultM f m = 0 := by
 intro m hm
 obtain ⟨k, hk⟩ := List.getElem?_of_mem hm
 have hl := (List.getElem?_eq_some_iff.1 hk).1
 have h240 := (ledger_zero h).2.2
 unfold ledger at h
 split at h
 ·omega
 ·unfold ledgerM at h
  rw [if_neg (by omega)] at h
  have h2 := firstNZ_all h k hl
  rw [stepG_at hk] at h2
  by_cases h3 : faultM f m = 0
  ·exact h3
  ·rw [stepF_1 h3] at h2
   exact h2
theorem faultM_zero {f : Int} {m : Ms} (h : faultM f m = 0) : bareN m.kind m.slot m.value m.certs.length m.refs.length = true ∧ boundsN f m.kind m.view m.from_ m.slot m.value = true := by
 unfold faultM at h
 split at h
 ·omega
 ·rename_i h1
  split at h
  ·omega
  ·rename_i h2
   exact ⟨by simpa using h1, by simpa using h2⟩
theorem of_slot {f : Int} {m : Ms} (h : faultM f m = 0) (hk : m.kind = 2 ∨ m.kind = 3) : m.certs = [] ∧ m.refs = [] ∧ 1 ≤ m.slot ∧ m.slot ≤ 30 ∧ 0 ≤ m.view ∧ m.view ≤ 20 ∧ 0 ≤ m.value ∧ m.value ≤ 12 ∧ 1 ≤ m.from_ ∧ m.from_ ≤ 3 * f + 1 := by
 obtain ⟨h1, h2⟩ := faultM_zero h
 unfold bareN at h1
 unfold boundsN at h2
 rw [decide_eq_true_eq] at h1 h2
 refine ⟨List.eq_nil_of_length_eq_zero (by omega), List.eq_nil_of_length_eq_zero (by omega), ?_⟩
 omega
theorem from_in {f : Int} {m : Ms} (h : faultM f m = 0) : 1 ≤ m.from_ ∧ m.from_ ≤ 3 * f + 1 := by
 obtain ⟨-, h2⟩ := faultM_zero h
 unfold boundsN at h2
 rw [decide_eq_true_eq] at h2
 omega
/-- The message that id would send. -/
def vm (k : Int) (c : Ct) (id : Int) : Ms := ⟨k, c.view, id, c.slot, c.value, [], []⟩
def votesK (ms : List Ms) (k : Int) (c : Ct) (n : Nat) : List Int := (Nst.upto 1 n).filter (fun id => decide (vm k c id ∈ ms))
def votes (f : Int) (ms : List Ms) (k : Int) (c : Ct) : List Int := votesK ms k c (3 * f + 1).toNat
theorem votesK_yes {ms : List Ms} {k : Int} {c : Ct} {n : Nat} (h : vm k c (1 + n) ∈ ms) : votesK ms k c (n + 1) = votesK ms k c n ++ [1 + (n : Int)] := by
 unfold votesK
 rw [Nst.upto, List.filter_append, List.filter_cons_of_pos (by simpa using h)]
 rfl
theorem votesK_no {ms : List Ms} {k : Int} {c : Ct} {n : Nat} (h : ¬ vm k c (1 + n) ∈ ms) : votesK ms k c (n + 1) = votesK ms k c n := by
 unfold votesK
 rw [Nst.upto, List.filter_append, List.filter_cons_of_neg (by simpa using h)]
 simp
theorem votesK_ris (ms : List Ms) (k : Int) (c : Ct) (n : Nat) : Nst.Ris (votesK ms k c n) := (Nst.ris_upto 1 n).filter _
theorem votesK_len (ms : List Ms) (k : Int) (c : Ct) (n : Nat) : (votesK ms k c n).length ≤ n := by
 have := List.length_filter_le (fun id => decide (vm k c id ∈ ms)) (Nst.upto 1 n)
 rw [Nst.len_upto] at this
 exact this
theorem mem_votes {f : Int} {ms : List Ms} {k : Int} {c : Ct} {x : Int} (hf : 0 ≤ f) : x ∈ votes f ms k c ↔ (1 ≤ x ∧ x ≤ 3 * f + 1) ∧ vm k c x ∈ ms := by
 unfold votes votesK
 rw [List.mem_filter, Nst.mem_upto, decide_eq_true_eq]
 constructor
 ·rintro ⟨h1, h2⟩; exact ⟨by omega, h2⟩
 ·rintro ⟨h1, h2⟩; exact ⟨by omega, h2⟩
def enough (f : Int) (ms : List Ms) (k : Int) (c : Ct) : Bool := decide (2 * f + 1 ≤ ((votes f ms k c).length : Int))
theorem place_mem {ms : List Ms} {m : Ms} : (0 ≤ place ms m) ↔ m ∈ ms := by
 rcases first_place ms m ms.length with h | ⟨k, hk, h1, h2⟩
 ·rw [place_none h]
  constructor
  ·intro hh; omega
  ·intro hm
   obtain ⟨k, hk⟩ := List.getElem?_of_mem hm
   exact absurd hk (h k (List.getElem?_eq_some_iff.1 hk).1)
 ·rw [place_at h1 h2]
  exact ⟨fun _ => List.mem_of_getElem? h1, fun _ => by omega⟩
/-- The message m as id would say it. -/
def as_ (m : Ms) (id : Int) : Ms := { m with from_ := id }
theorem as_vm {m : Ms} {id : Int} (h1 : m.certs = []) (h2 : m.refs = []) : as_ m id = vm m.kind ⟨m.slot, m.view, m.value⟩ id := by
 unfold as_ vm; rw [h1, h2]
/-- The program's set: who of the first k has said m. -/
def voters (ms : List Ms) (m : Ms) : Nat → List Int
 | 0 => []
 | k + 1 => match ms[k]? with
  | some z => if z = as_ m z.from_ then Nst.put z.from_ (voters ms m k) else voters ms m k
  | none => voters ms m k
theorem voters_yes {ms : List Ms} {m z : Ms} {k : Nat} (h : ms[k]? = some z) (h2 : z = as_ m z.from_) : voters ms m (k + 1) = Nst.put z.from_ (voters ms m k) := by
 rw [voters, h]; simp only; rw [if_pos h2]
theorem voters_no {ms : List Ms} {m z : Ms} {k : Nat} (h : ms[k]? = some z) (h2 : ¬ z = as_ m z.from_) : voters ms m (k + 1) = voters ms m k := by
 rw [voters, h]; simp only; rw [if_neg h2]
theorem voters_ris (ms : List Ms) (m : Ms) (k : Nat) : Nst.Ris (voters ms m k) := by
 induction k with
 | zero => exact List.Pairwise.nil
 | succ k ih =>
  cases h : ms[k]? with
  | none => rw [voters, h]; exact ih
  | some z =>
   by_cases h2 : z = as_ m z.from_
   ·rw [voters_yes h h2]; exact ih.put _
   ·rw [voters_no h h2]; exact ih
theorem mem_voters {ms : List Ms} {m : Ms} {x : Int} (k : Nat) (hk : k ≤ ms.length) : x ∈ voters ms m k ↔ as_ m x ∈ ms.take k := by
 induction k with
 | zero => simp [voters]
 | succ k ih =>
  have ih := ih (by omega)
  obtain ⟨z, h⟩ : ∃ z, ms[k]? = some z := ⟨_, List.getElem?_eq_getElem (by omega)⟩
  have ht : as_ m x ∈ ms.take (k + 1) ↔ as_ m x ∈ ms.take k ∨ z = as_ m x := by
   rw [mem_take, mem_take]
   constructor
   ·rintro ⟨j, hj, e⟩
    by_cases hjk : j = k
    ·subst hjk; rw [h] at e; cases e; exact Or.inr rfl
    ·exact Or.inl ⟨j, by omega, e⟩
   ·rintro (⟨j, hj, e⟩ | e)
    ·exact ⟨j, by omega, e⟩
    ·exact ⟨k, by omega, by rw [h, e]⟩
  rw [ht]
  by_cases h2 : z = as_ m z.from_
  ·rw [voters_yes h h2, Nst.mem_put, ih]
   constructor
   ·rintro (e | e)
    ·exact Or.inr (by rw [e]; exact h2)
    ·exact Or.inl e
   ·rintro (e | e)
    ·exact Or.inr e
    ·exact Or.inl (by rw [e]; rfl)
  ·rw [voters_no h h2, ih]
   constructor
   ·exact Or.inl
   ·rintro (e | e)
    ·exact e
    ·exact absurd (show z = as_ m z.from_ from by rw [e]; rfl) h2
theorem voters_votes {f : Int} {ms : List Ms} {m : Ms} (h : ledger f ms = 0) (h1 : m.certs = []) (h2 : m.refs = []) : voters ms m ms.length = votes f ms m.kind ⟨m.slot, m.view, m.value⟩ := by
 have hf := ledger_zero h
 refine (voters_ris _ _ _).ext (votesK_ris _ _ _ _) fun x => ?_
 rw [mem_voters _ (Nat.le_refl _), List.take_length]
 show _ ↔ x ∈ votes f ms m.kind ⟨m.slot, m.view, m.value⟩
 rw [mem_votes (by omega), as_vm h1 h2]
 constructor
 ·intro hm
  refine ⟨?_, hm⟩
  have := from_in (ledger_all h _ hm)
  exact this
 ·exact fun hm => hm.2
theorem votes_len {f : Int} {ms : List Ms} {k : Int} {c : Ct} (h0 : 1 ≤ f) (h1 : f ≤ 2) : (votes f ms k c).length ≤ 7 := by
 have := votesK_len ms k c (3 * f + 1).toNat
 unfold votes
 omega
def votesV (f : Int) (ms : List Ms) (m : Ms) : Int × List Int := if ¬ ledger f ms = 0 then (ledger f ms, []) else if ¬ faultM f m = 0 then (faultM f m, []) else if ¬ (m.kind = 2 ∨ m.kind = 3) then (1, []) else (0, votes f ms m.kind ⟨m.slot, m.view, m.value⟩)
def certRight (f : Int) (ms : List Ms) (c : Ct) : Bool := decide (ledger f ms = 0) && certIn c && enough f ms 2 c
/-! ### what is decided -/
def dec (f : Int) (ms : List Ms) (slot v : Int) (m : Ms) : Bool := decide (m.kind = 3 ∧ m.slot = slot ∧ m.value = v) && enough f ms 3 ⟨slot, m.view, v⟩
def decB (f : Int) (ms : List Ms) (slot v : Int) : Bool := ms.any (dec f ms slot v)
def decidedK (f : Int) (ms : List Ms) (slot : Int) (n : Nat) : List Int := (Nst.upto 0 n).filter (decB f ms slot)
def decided (f : Int) (ms : List Ms) (slot : Int) : List Int := decidedK f ms slot 13
theorem decidedK_yes {f : Int} {ms : List Ms} {slot : Int} {n : Nat} (h : decB f ms slot n = true) : decidedK f ms slot (n + 1) = decidedK f ms slot n ++ [(n : Int)] := by
 unfold decidedK
 rw [Nst.upto, List.filter_append, Int.zero_add, List.filter_cons_of_pos h]
 rfl
theorem decidedK_no {f : Int} {ms : List Ms} {slot : Int} {n : Nat} (h : decB f ms slot n = false) : decidedK f ms slot (n + 1) = decidedK f ms slot n := by
 unfold decidedK
 rw [Nst.upto, List.filter_append, Int.zero_add, List.filter_cons_of_neg (by simp [h])]
 simp
theorem decidedK_ris (f : Int) (ms : List Ms) (slot : Int) (n : Nat) : Nst.Ris (decidedK f ms slot n) := (Nst.ris_upto 0 n).filter _
theorem decidedK_len (f : Int) (ms : List Ms) (slot : Int) (n : Nat) : (decidedK f ms slot n).length ≤ n := by
 have := List.length_filter_le (decB f ms slot) (Nst.upto 0 n)
 rw [Nst.len_upto] at this
 exact this
/-- The program's set of the values that the first k decide. -/
def dset (f : Int) (ms : List Ms) (slot : Int) : Nat → List Int
 | 0 => []
 | k + 1 => match ms[k]? with
  | some z => if z.kind = 3 ∧ z.slot = slot ∧ enough f ms 3 ⟨z.slot, z.view, z.value⟩ = true then Nst.put z.value (dset f ms slot k) else dset f ms slot k
  | none => dset f ms slot k
theorem dset_yes {f : Int} {ms : List Ms} {slot : Int} {z : Ms} {k : Nat} (h : ms[k]? = some z) (h2 : z.kind = 3 ∧ z.slot = slot ∧ enough f ms 3 ⟨z.slot, z.view, z.value⟩ = true) : dset f ms slot (k + 1) = Nst.put z.value (dset f ms slot k) := by
 rw [dset, h]; simp only; rw [if_pos h2]
theorem dset_no {f : Int} {ms : List Ms} {slot : Int} {z : Ms} {k : Nat} (h : ms[k]? = some z) (h2 : ¬ (z.kind = 3 ∧ z.slot = slot ∧ enough f ms 3 ⟨z.slot, z.view, z.value⟩ = true)) : dset f ms slot (k + 1) = dset f ms slot k := by
 rw [dset, h]; simp only; rw [if_neg h2]
theorem dset_ris (f : Int) (ms : List Ms) (slot : Int) (k : Nat) : Nst.Ris (dset f ms slot k) := by
 induction k with
 | zero => exact List.Pairwise.nil
 | succ k ih =>
  cases h : ms[k]? with
  | none => rw [dset, h]; exact ih
  | some z =>
   by_cases h2 : z.kind = 3 ∧ z.slot = slot ∧ enough f ms 3 ⟨z.slot, z.view, z.value⟩ = true
   ·rw [dset_yes h h2]; exact ih.put _
   ·rw [dset_no h h2]; exact ih
theorem mem_dset {f : Int} {ms : List Ms} {slot : Int} {x : Int} (k : Nat) (hk : k ≤ ms.length) : x ∈ dset f ms slot k ↔ ∃ z ∈ ms.take k, z.kind = 3 ∧ z.slot = slot ∧ enough f ms 3 ⟨z.slot, z.view, z.value⟩ = true ∧ z.value = x := by
 induction k with
 | zero => simp [dset]
 | succ k ih =>
  have ih := ih (by omega)
  have hlt : k < ms.length := by omega
  have h : ms[k]? = some ms[k] := List.getElem?_eq_getElem hlt
  rw [List.take_succ_eq_append_getElem hlt]
  by_cases h2 : ms[k].kind = 3 ∧ ms[k].slot = slot ∧ enough f ms 3 ⟨ms[k].slot, ms[k].view, ms[k].value⟩ = true
  ·rw [dset_yes h h2, Nst.mem_put, ih]
   constructor
   ·rintro (e | ⟨z, hz, hh⟩)
    ·exact ⟨ms[k], List.mem_append_right _ (List.mem_singleton.2 rfl), h2.1, h2.2.1, h2.2.2, e.symm⟩
    ·exact ⟨z, List.mem_append_left _ hz, hh⟩
   ·rintro ⟨z, hz, hh⟩
    rcases List.mem_append.1 hz with hz | hz
    ·exact Or.inr ⟨z, hz, hh⟩
    ·rw [List.mem_singleton] at hz
     subst hz
     exact Or.inl hh.2.2.2.symm
  ·rw [dset_no h h2, ih]
   constructor
   ·rintro ⟨z, hz, hh⟩
    exact ⟨z, List.mem_append_left _ hz, hh⟩
   ·rintro ⟨z, hz, hh⟩
    rcases List.mem_append.1 hz with hz | hz
    ·exact ⟨z, hz, hh⟩
    ·rw [List.mem_singleton] at hz
     subst hz
     exact absurd ⟨hh.1, hh.2.1, hh.2.2.1⟩ h2
theorem dset_decided {f : Int} {ms : List Ms} {slot : Int} (h : ledger f ms = 0) : dset f ms slot ms.length = decided f ms slot := by
 refine (dset_ris _ _ _ _).ext (decidedK_ris _ _ _ _) fun x => ?_
 rw [mem_dset _ (Nat.le_refl _), List.take_length]
 unfold decided decidedK
 rw [List.mem_filter, Nst.mem_upto]
 unfold decB
 rw [List.any_eq_true]
 constructor
 ·rintro ⟨z, hz, hk, hs, he, hx⟩
  obtain ⟨-, -, -, -, -, -, v1, v2, -⟩ := of_slot (ledger_all h z hz) (Or.inr hk)
  subst hs
  subst hx
  refine ⟨by omega, z, hz, ?_⟩
  unfold dec
  rw [he, Bool.and_true, decide_eq_true_eq]
  exact ⟨hk, rfl, rfl⟩
 ·rintro ⟨-, z, hz, hd⟩
  unfold dec at hd
  rw [Bool.and_eq_true, decide_eq_true_eq] at hd
  obtain ⟨⟨hk, hs, hx⟩, he⟩ := hd
  subst hs
  subst hx
  exact ⟨z, hz, hk, rfl, he, rfl⟩
def decidedV (f : Int) (ms : List Ms) (x : Int) : Int × List Int := if ¬ ledger f ms = 0 then (ledger f ms, []) else if ¬ (1 ≤ x ∧ x ≤ 30) then (3, []) else (0, decided f ms x)
/-! ### the log -/
/-- What is decided first of each of the first k slots. -/
def heads (f : Int) (ms : List Ms) : Nat → List Int
 | 0 => []
 | k + 1 => heads f ms k ++ [(decided f ms ((k : Int) + 1)).headD 0]
theorem heads_len (f : Int) (ms : List Ms) (k : Nat) : (heads f ms k).length = k := by
 induction k with
 | zero => rfl
 | succ k ih => rw [heads, List.length_append, ih]; rfl
/-- How many slots of the first n are decided without a gap. -/
def run (f : Int) (ms : List Ms) : Nat → Nat
 | 0 => 0
 | n + 1 => if run f ms n = n ∧ ¬ decided f ms ((n : Int) + 1) = [] then n + 1 else run f ms n
theorem run_full {f : Int} {ms : List Ms} {n : Nat} (h : ∀ j, j < n → ¬ decided f ms ((j : Int) + 1) = []) : run f ms n = n := by
 induction n with
 | zero => rfl
 | succ n ih => rw [run, if_pos ⟨ih (fun j hj => h j (by omega)), h n (by omega)⟩]
theorem run_stop {f : Int} {ms : List Ms} {k : Nat} (h : ∀ j, j < k → ¬ decided f ms ((j : Int) + 1) = []) (h2 : decided f ms ((k : Int) + 1) = []) : ∀ n, k ≤ n → run f ms n = k := by
 intro n
 induction n with
 | zero => intro hk; show 0 = k; omega
 | succ n ih =>
  intro hk
  by_cases hkn : k = n + 1
  ·subst hkn; exact run_full h
  ·have := ih (by omega)
   rw [run, this]
   by_cases e : k = n
   ·subst e; rw [if_neg (by simp [h2])]
   ·rw [if_neg (by omega)]
def log (f : Int) (ms : List Ms) : List Int := heads f ms (run f ms 30)
theorem log_full {f : Int} {ms : List Ms} (h : ∀ j : Nat, j < 30 → ¬ decided f ms ((j : Int) + 1) = []) : log f ms = heads f ms 30 := by unfold log; rw [run_full h]
theorem log_stop {f : Int} {ms : List Ms} {k : Nat} (h : ∀ j, j < k → ¬ decided f ms ((j : Int) + 1) = []) (h2 : decided f ms ((k : Int) + 1) = []) (hk : k ≤ 30) : log f ms = heads f ms k := by unfold log; rw [run_stop h h2 30 hk]
def logV (f : Int) (ms : List Ms) : Int × List Int := if ¬ ledger f ms = 0 then (ledger f ms, []) else (0, log f ms)
end Msg
end Go.Proofs.YtecgjdgfjgcmdaaGreat
