/- new views: what is a right change, which changes there are, what a new view takes over (mathematics). -/
import Derived.Test.YtecgjdgfjgcmdaaQS4
namespace Go.Proofs.Ytecgjdgfjgcmdaa
namespace Msg
theorem at_zero {f : Int} {ms : List Ms} {k : Nat} {m : Ms} (h : ledger f ms = 0) (hk : ms[k]? = some m) : faultM f m = 0 ∧ refsB m k = true := by
  have h0 := ledger_all h m (List.mem_of_getElem? hk)
  refine ⟨h0, ?_⟩
  have hl := (List.getElem?_eq_some_iff.1 hk).1
  have h240 := (ledger_zero h).2.2
  unfold ledger at h
  split at h
  · omega
  · unfold ledgerM at h
    rw [if_neg (by omega)] at h
    have h2 := firstNZ_all h k hl
    rw [stepG_at hk] at h2
    cases h3 : refsB m k with
    | true => rfl
    | false => rw [stepF_2 h0 h3] at h2; omega
theorem lists_zero {f : Int} {m : Ms} (h : faultM f m = 0) : m.certs.length ≤ 30 ∧ (m.refs.length : Int) ≤ 3 * f + 1 ∧ (∀ c ∈ m.certs, 1 ≤ c.slot ∧ c.slot ≤ 30 ∧ 0 ≤ c.view ∧ c.view ≤ m.view - 1 ∧ 0 ≤ c.value ∧ c.value ≤ 12) ∧ (∀ r ∈ m.refs, 0 ≤ r ∧ r ≤ 239) ∧ rises (slots m.certs) = true := by
  unfold faultM at h
  split at h
  · omega
  · split at h
    · omega
    · split at h
      · omega
      · rename_i h3
        have h3 : manyN f m.certs.length m.refs.length = false := by simpa using h3
        unfold manyN at h3
        rw [decide_eq_false_iff_not] at h3
        unfold lists at h
        split at h
        · omega
        · rename_i h5
          split at h
          · omega
          · split at h
            · omega
            · rename_i h4
              have h4 : parts m = true := by simpa using h4
              unfold parts at h4
              rw [Bool.and_eq_true, List.all_eq_true, List.all_eq_true] at h4
              refine ⟨by omega, by omega, fun c hc => ?_, fun r hr => ?_, by simpa using h5⟩
              · have := h4.1 c hc
                unfold certOk at this
                rw [decide_eq_true_eq] at this
                omega
              · have := h4.2 r hr
                unfold refOk at this
                rw [decide_eq_true_eq] at this
                exact this
theorem refs_zero {f : Int} {ms : List Ms} {k : Nat} {m : Ms} (h : ledger f ms = 0) (hk : ms[k]? = some m) : ∀ r ∈ m.refs, 0 ≤ r ∧ r < (ms.length : Int) := by
  intro r hr
  obtain ⟨h1, h2⟩ := at_zero h hk
  have hl := (List.getElem?_eq_some_iff.1 hk).1
  unfold refsB at h2
  rw [List.all_eq_true] at h2
  have h3 := h2 r hr
  rw [decide_eq_true_eq] at h3
  have h4 := (lists_zero h1).2.2.2.1 r hr
  omega
theorem view_in {f : Int} {m : Ms} (h : faultM f m = 0) : 0 ≤ m.view ∧ m.view ≤ 20 := by
  obtain ⟨-, h2⟩ := faultM_zero h
  unfold boundsN at h2
  rw [decide_eq_true_eq] at h2
  omega
/-- The message at a place. -/
def nth (ms : List Ms) (p : Int) : Option Ms := if 0 ≤ p then ms[p.toNat]? else none
theorem nth_at {ms : List Ms} {p : Int} (h0 : 0 ≤ p) (h1 : p < (ms.length : Int)) : ∃ z, ms[p.toNat]? = some z ∧ nth ms p = some z := by
  refine ⟨ms[p.toNat]'(by omega), List.getElem?_eq_getElem (by omega), ?_⟩
  unfold nth
  rw [if_pos h0]
  exact List.getElem?_eq_getElem (by omega)
theorem nth_out {ms : List Ms} {p : Int} (h : ¬ (0 ≤ p ∧ p < (ms.length : Int))) : nth ms p = none := by
  unfold nth
  split
  · exact List.getElem?_eq_none (by omega)
  · rfl
theorem nth_nat {ms : List Ms} (k : Nat) : nth ms (k : Int) = ms[k]? := by
  unfold nth
  rw [if_pos (by omega)]
  rfl
theorem nth_some {ms : List Ms} {p : Int} {z : Ms} (h : nth ms p = some z) : 0 ≤ p ∧ p < (ms.length : Int) ∧ ms[p.toNat]? = some z := by
  unfold nth at h
  split at h
  · rename_i h0
    have := (List.getElem?_eq_some_iff.1 h).1
    exact ⟨h0, by omega, h⟩
  · cases h
def kindAt (ms : List Ms) (p k : Int) : Bool := match nth ms p with
  | some z => decide (z.kind = k)
  | none => false
theorem kindAt_some {ms : List Ms} {p k : Int} {z : Ms} (h : nth ms p = some z) : kindAt ms p k = decide (z.kind = k) := by unfold kindAt; rw [h]
theorem kindAt_none {ms : List Ms} {p k : Int} (h : nth ms p = none) : kindAt ms p k = false := by unfold kindAt; rw [h]
def changeB (f : Int) (ms : List Ms) (z : Ms) : Bool := decide (z.kind = 4 ∧ 1 ≤ z.view) && z.certs.all (enough f ms 2)
theorem changeB_no {f : Int} {ms : List Ms} {z : Ms} (h : ¬ (z.kind = 4 ∧ 1 ≤ z.view)) : changeB f ms z = false := by unfold changeB; rw [decide_eq_false h]; rfl
theorem changeB_is {f : Int} {ms : List Ms} {z : Ms} (h : z.kind = 4 ∧ 1 ≤ z.view) : changeB f ms z = z.certs.all (enough f ms 2) := by unfold changeB; rw [decide_eq_true h]; rfl
theorem all_no {f : Int} {ms : List Ms} {l : List Ct} {k : Nat} {c : Ct} (h : l[k]? = some c) (h2 : enough f ms 2 c = false) : l.all (enough f ms 2) = false := by
  rw [List.all_eq_false]
  exact ⟨c, List.mem_of_getElem? h, by simp [h2]⟩
theorem all_step {f : Int} {ms : List Ms} {l : List Ct} {k : Nat} {c : Ct} (h : l[k]? = some c) (h0 : (l.take k).all (enough f ms 2) = true) (h2 : enough f ms 2 c = true) : (l.take (k + 1)).all (enough f ms 2) = true := by
  obtain ⟨hk, rfl⟩ := List.getElem?_eq_some_iff.1 h
  rw [List.take_succ_eq_append_getElem hk, List.all_append, h0]
  simp [h2]
def changeAt (f : Int) (ms : List Ms) (p : Int) : Bool := match nth ms p with
  | some z => changeB f ms z
  | none => false
theorem changeAt_some {f : Int} {ms : List Ms} {p : Int} {z : Ms} (h : nth ms p = some z) : changeAt f ms p = changeB f ms z := by unfold changeAt; rw [h]
theorem changeAt_none {f : Int} {ms : List Ms} {p : Int} (h : nth ms p = none) : changeAt f ms p = false := by unfold changeAt; rw [h]
def changeRight (f : Int) (ms : List Ms) (p : Int) : Bool := decide (ledger f ms = 0) && changeAt f ms p
theorem changeRight_bad {f : Int} {ms : List Ms} {p : Int} (h : ¬ ledger f ms = 0) : changeRight f ms p = false := by unfold changeRight; rw [decide_eq_false h]; rfl
theorem changeRight_ok {f : Int} {ms : List Ms} {p : Int} (h : ledger f ms = 0) : changeRight f ms p = changeAt f ms p := by unfold changeRight; rw [decide_eq_true h]; rfl
def fromAt (ms : List Ms) (p : Int) : Int := match nth ms p with
  | some z => z.from_
  | none => 0
theorem fromAt_some {ms : List Ms} {p : Int} {z : Ms} (h : nth ms p = some z) : fromAt ms p = z.from_ := by unfold fromAt; rw [h]
def viewAt (ms : List Ms) (p : Int) : Int := match nth ms p with
  | some z => z.view
  | none => 0
theorem viewAt_some {ms : List Ms} {p : Int} {z : Ms} (h : nth ms p = some z) : viewAt ms p = z.view := by unfold viewAt; rw [h]
def fromIn (ms : List Ms) (l : List Int) (x : Int) : Bool := l.any (fun p => decide (fromAt ms p = x))
theorem fromIn_take {ms : List Ms} {l : List Int} {x p : Int} {k : Nat} (h : l[k]? = some p) : fromIn ms (l.take (k + 1)) x = (fromIn ms (l.take k) x || decide (fromAt ms p = x)) := by
  obtain ⟨hk, rfl⟩ := List.getElem?_eq_some_iff.1 h
  unfold fromIn
  rw [List.take_succ_eq_append_getElem hk, List.any_append]
  simp
theorem fromIn_yes {ms : List Ms} {l : List Int} {x p : Int} {k : Nat} (h : l[k]? = some p) (h2 : fromAt ms p = x) : fromIn ms l x = true := by
  unfold fromIn
  rw [List.any_eq_true]
  exact ⟨p, List.mem_of_getElem? h, by simp [h2]⟩
/-- Is the message at p a right change to view, of one that is not among l? -/
def okP (f : Int) (ms : List Ms) (view : Int) (l : List Int) (p : Int) : Bool := decide (viewAt ms p = view) && changeAt f ms p && !fromIn ms l (fromAt ms p)
def among (f : Int) (ms : List Ms) (view : Int) (ps : List Int) : Nat → List Int
  | 0 => []
  | k + 1 => match ps[k]? with
    | some p => if okP f ms view (among f ms view ps k) p = true then among f ms view ps k ++ [p] else among f ms view ps k
    | none => among f ms view ps k
theorem among_yes {f : Int} {ms : List Ms} {view : Int} {ps : List Int} {k : Nat} {p : Int} (h : ps[k]? = some p) (h2 : okP f ms view (among f ms view ps k) p = true) : among f ms view ps (k + 1) = among f ms view ps k ++ [p] := by
  rw [among, h]; simp only; rw [if_pos h2]
theorem among_no {f : Int} {ms : List Ms} {view : Int} {ps : List Int} {k : Nat} {p : Int} (h : ps[k]? = some p) (h2 : okP f ms view (among f ms view ps k) p = false) : among f ms view ps (k + 1) = among f ms view ps k := by
  rw [among, h]; simp only; rw [if_neg (by simp [h2])]
theorem among_cases (f : Int) (ms : List Ms) (view : Int) (ps : List Int) (k : Nat) : among f ms view ps (k + 1) = among f ms view ps k ∨ ∃ p, ps[k]? = some p ∧ okP f ms view (among f ms view ps k) p = true ∧ among f ms view ps (k + 1) = among f ms view ps k ++ [p] := by
  cases h : ps[k]? with
  | none => left; rw [among, h]
  | some p =>
    cases h2 : okP f ms view (among f ms view ps k) p with
    | true => exact Or.inr ⟨p, rfl, h2, among_yes h h2⟩
    | false => exact Or.inl (among_no h h2)
theorem among_len (f : Int) (ms : List Ms) (view : Int) (ps : List Int) (k : Nat) : (among f ms view ps k).length ≤ k := by
  induction k with
  | zero => simp [among]
  | succ k ih =>
    rcases among_cases f ms view ps k with h | ⟨p, -, -, h⟩
    · rw [h]; omega
    · rw [h, List.length_append]; simp; omega
theorem among_mem {f : Int} {ms : List Ms} {view : Int} {ps : List Int} (k : Nat) {x : Int} (h : x ∈ among f ms view ps k) : x ∈ ps := by
  induction k with
  | zero => simp [among] at h
  | succ k ih =>
    rcases among_cases f ms view ps k with h1 | ⟨p, h2, -, h1⟩
    · rw [h1] at h; exact ih h
    · rw [h1, List.mem_append] at h
      rcases h with h | h
      · exact ih h
      · rw [List.mem_singleton] at h; rw [h]; exact List.mem_of_getElem? h2
theorem among_pre (f : Int) (ms : List Ms) (view : Int) (ps : List Int) (k j : Nat) : ∃ r, among f ms view ps (k + j) = among f ms view ps k ++ r ∧ r.length ≤ j := by
  induction j with
  | zero => exact ⟨[], by simp, by simp⟩
  | succ j ih =>
    obtain ⟨r, h, hr⟩ := ih
    rcases among_cases f ms view ps (k + j) with h1 | ⟨p, -, -, h1⟩
    · exact ⟨r, by rw [← Nat.add_assoc, h1, h], by omega⟩
    · exact ⟨r ++ [p], by rw [← Nat.add_assoc, h1, h, List.append_assoc], by rw [List.length_append]; simp; omega⟩
theorem among_take {f : Int} {ms : List Ms} {view : Int} {ps : List Int} {k n m : Nat} (hk : k ≤ n) (h : (among f ms view ps k).length = m) : (among f ms view ps n).take m = among f ms view ps k := by
  obtain ⟨r, h1, -⟩ := among_pre f ms view ps k (n - k)
  rw [show k + (n - k) = n from by omega] at h1
  rw [h1, List.take_append_of_le_length (by omega), List.take_of_length_le (by omega)]
theorem among_full {f : Int} {ms : List Ms} {view : Int} {ps : List Int} (k : Nat) (hk : k ≤ ps.length) (h : (among f ms view ps k).length = k) : among f ms view ps k = ps.take k := by
  induction k with
  | zero => simp [among]
  | succ k ih =>
    have hl := among_len f ms view ps k
    rcases among_cases f ms view ps k with h1 | ⟨p, h2, -, h1⟩
    · rw [h1] at h; omega
    · rw [h1, List.length_append] at h
      simp at h
      rw [h1, ih (by omega) h]
      obtain ⟨hk2, rfl⟩ := List.getElem?_eq_some_iff.1 h2
      rw [List.take_succ_eq_append_getElem hk2]
theorem among_short {f : Int} {ms : List Ms} {view : Int} {ps : List Int} {k n : Nat} {p : Int} (hk : k < n) (h0 : ps[k]? = some p) (h : okP f ms view (among f ms view ps k) p = false) : ¬ (among f ms view ps n).length = n := by
  obtain ⟨r, h1, hr⟩ := among_pre f ms view ps (k + 1) (n - (k + 1))
  rw [show k + 1 + (n - (k + 1)) = n from by omega] at h1
  have hl := among_len f ms view ps k
  rw [h1, List.length_append, among_no h0 h]
  omega
/-- Who has sent those of l. -/
def sset (ms : List Ms) (l : List Int) : List Int := l.foldl (fun s p => Nst.put (fromAt ms p) s) []
theorem sset_snoc (ms : List Ms) (l : List Int) (p : Int) : sset ms (l ++ [p]) = Nst.put (fromAt ms p) (sset ms l) := by unfold sset; rw [List.foldl_append]; rfl
theorem sset_both (ms : List Ms) (l : List Int) : Nst.Ris (sset ms l) ∧ ∀ x, x ∈ sset ms l ↔ ∃ p ∈ l, fromAt ms p = x := by
  unfold sset
  have key : ∀ (l s : List Int), Nst.Ris s → Nst.Ris (l.foldl (fun s p => Nst.put (fromAt ms p) s) s) ∧ ∀ x, x ∈ l.foldl (fun s p => Nst.put (fromAt ms p) s) s ↔ (∃ p ∈ l, fromAt ms p = x) ∨ x ∈ s := by
    intro l
    induction l with
    | nil => intro s hs; exact ⟨hs, fun x => by simp⟩
    | cons a r ih =>
      intro s hs
      obtain ⟨h1, h2⟩ := ih _ (hs.put (fromAt ms a))
      refine ⟨h1, fun x => ?_⟩
      rw [List.foldl_cons, h2, Nst.mem_put]
      constructor
      · rintro (⟨p, hp, e⟩ | e | e)
        · exact Or.inl ⟨p, List.mem_cons_of_mem _ hp, e⟩
        · exact Or.inl ⟨a, by simp, e.symm⟩
        · exact Or.inr e
      · rintro (⟨p, hp, e⟩ | e)
        · rcases List.mem_cons.1 hp with rfl | hp
          · exact Or.inr (Or.inl e.symm)
          · exact Or.inl ⟨p, hp, e⟩
        · exact Or.inr (Or.inr e)
  obtain ⟨h1, h2⟩ := key l [] List.Pairwise.nil
  exact ⟨h1, fun x => by rw [h2]; simp⟩
theorem sset_ris (ms : List Ms) (l : List Int) : Nst.Ris (sset ms l) := (sset_both ms l).1
theorem sset_has (ms : List Ms) (l : List Int) (x : Int) : decide (x ∈ sset ms l) = fromIn ms l x := by
  unfold fromIn
  rw [Bool.eq_iff_iff, decide_eq_true_eq, (sset_both ms l).2, List.any_eq_true]
  simp
theorem sset_in {ms : List Ms} {l : List Int} (h : ∀ p ∈ l, 1 ≤ fromAt ms p ∧ fromAt ms p ≤ 7) : ∀ x ∈ sset ms l, 1 ≤ x ∧ x ≤ 7 := by
  intro x hx
  obtain ⟨p, hp, rfl⟩ := ((sset_both ms l).2 x).1 hx
  exact h p hp
def changesV (f : Int) (ms : List Ms) (x : Int) : Int × List Int := if ¬ ledger f ms = 0 then (ledger f ms, []) else if ¬ (0 ≤ x ∧ x ≤ 20) then (3, []) else (0, (among f ms x (Nst.upto 0 ms.length) ms.length).take (2 * f + 1).toNat)
theorem changesV_bad {f : Int} {ms : List Ms} {x : Int} (h : ¬ ledger f ms = 0) : changesV f ms x = (ledger f ms, []) := by unfold changesV; rw [if_pos h]
theorem changesV_view {f : Int} {ms : List Ms} {x : Int} (h : ledger f ms = 0) (h2 : ¬ (0 ≤ x ∧ x ≤ 20)) : changesV f ms x = (3, []) := by unfold changesV; rw [if_neg (by omega), if_pos h2]
theorem changesV_ok {f : Int} {ms : List Ms} {x : Int} (h : ledger f ms = 0) (h2 : 0 ≤ x ∧ x ≤ 20) : changesV f ms x = (0, (among f ms x (Nst.upto 0 ms.length) ms.length).take (2 * f + 1).toNat) := by unfold changesV; rw [if_neg (by omega), if_neg (by omega)]
theorem changesV_len (f : Int) (ms : List Ms) (x : Int) : (changesV f ms x).2.length ≤ 1048576 := by
  by_cases h : ledger f ms = 0
  · by_cases h2 : 0 ≤ x ∧ x ≤ 20
    · rw [changesV_ok h h2]
      have hf := ledger_zero h
      have := among_len f ms x (Nst.upto 0 ms.length) ms.length
      show (List.take _ _).length ≤ _
      rw [List.length_take]
      omega
    · rw [changesV_view h h2]; simp
  · rw [changesV_bad h]; simp
theorem upto_at {n k : Nat} (h : k < n) : (Nst.upto 0 n)[k]? = some (k : Int) := by
  induction n with
  | zero => omega
  | succ n ih =>
    rw [Nst.upto]
    by_cases hk : k < n
    · rw [List.getElem?_append_left (by rw [Nst.len_upto]; exact hk)]; exact ih hk
    · have : k = n := by omega
      subst this
      rw [List.getElem?_append_right (by rw [Nst.len_upto]; omega), Nst.len_upto]
      simp
theorem upto_take {n k : Nat} (h : k ≤ n) : (Nst.upto 0 n).take k = Nst.upto 0 k := by
  apply List.ext_getElem?
  intro i
  rw [List.getElem?_take]
  split
  · rw [upto_at (by omega), upto_at (by omega)]
  · rw [List.getElem?_eq_none (by rw [Nst.len_upto]; omega)]
/-! ### the beginning of a view -/
def newB (f : Int) (ms : List Ms) (z : Ms) : Bool := decide (z.kind = 5 ∧ 1 ≤ z.view ∧ z.from_ = primary f z.view ∧ 2 * f + 1 ≤ (z.refs.length : Int)) && decide ((among f ms z.view z.refs z.refs.length).length = z.refs.length)
def newAt (f : Int) (ms : List Ms) (p : Int) : Bool := match nth ms p with
  | some z => newB f ms z
  | none => false
theorem newAt_some {f : Int} {ms : List Ms} {p : Int} {z : Ms} (h : nth ms p = some z) : newAt f ms p = newB f ms z := by unfold newAt; rw [h]
theorem newAt_none {f : Int} {ms : List Ms} {p : Int} (h : nth ms p = none) : newAt f ms p = false := by unfold newAt; rw [h]
theorem newB_no {f : Int} {ms : List Ms} {z : Ms} (h : ¬ (z.kind = 5 ∧ 1 ≤ z.view ∧ z.from_ = primary f z.view ∧ 2 * f + 1 ≤ (z.refs.length : Int))) : newB f ms z = false := by unfold newB; rw [decide_eq_false h]; rfl
theorem newB_is {f : Int} {ms : List Ms} {z : Ms} (h : z.kind = 5 ∧ 1 ≤ z.view ∧ z.from_ = primary f z.view ∧ 2 * f + 1 ≤ (z.refs.length : Int)) : newB f ms z = decide ((among f ms z.view z.refs z.refs.length).length = z.refs.length) := by unfold newB; rw [decide_eq_true h]; rfl
theorem okP_view {f : Int} {ms : List Ms} {view : Int} {l : List Int} {p : Int} (h : okP f ms view l p = true) : 1 ≤ view := by
  unfold okP at h
  rw [Bool.and_eq_true, Bool.and_eq_true, decide_eq_true_eq] at h
  obtain ⟨⟨h1, h2⟩, -⟩ := h
  cases hn : nth ms p with
  | none => rw [changeAt_none hn] at h2; cases h2
  | some z =>
    rw [changeAt_some hn] at h2
    rw [viewAt_some hn] at h1
    unfold changeB at h2
    rw [Bool.and_eq_true, decide_eq_true_eq] at h2
    omega
/-- The program's own question: it need not ask for a view above 0. -/
theorem newB_prog {f : Int} {ms : List Ms} {z : Ms} (hk : z.kind = 5) (hf : 1 ≤ f) : newB f ms z = (decide (primary f z.view = z.from_) && decide (2 * f + 1 ≤ (z.refs.length : Int)) && decide ((among f ms z.view z.refs z.refs.length).length = z.refs.length)) := by
  by_cases h1 : primary f z.view = z.from_
  · by_cases h2 : 2 * f + 1 ≤ (z.refs.length : Int)
    · by_cases h3 : 1 ≤ z.view
      · rw [newB_is ⟨hk, h3, h1.symm, h2⟩, decide_eq_true h1, decide_eq_true h2]; rfl
      · rw [newB_no (fun h => h3 h.2.1)]
        symm
        rw [Bool.and_eq_false_iff]
        right
        rw [decide_eq_false_iff_not]
        intro hlen
        obtain ⟨p, hp⟩ : ∃ p, z.refs[0]? = some p := ⟨_, List.getElem?_eq_getElem (by omega)⟩
        cases ho : okP f ms z.view (among f ms z.view z.refs 0) p with
        | true => exact h3 (okP_view ho)
        | false => exact among_short (by omega) hp ho hlen
    · rw [newB_no (fun h => h2 h.2.2.2), decide_eq_false h2]; simp
  · rw [newB_no (fun h => h1 h.2.2.1.symm), decide_eq_false h1]; simp
def newRight (f : Int) (ms : List Ms) (p : Int) : Bool := decide (ledger f ms = 0) && newAt f ms p
theorem newRight_bad {f : Int} {ms : List Ms} {p : Int} (h : ¬ ledger f ms = 0) : newRight f ms p = false := by unfold newRight; rw [decide_eq_false h]; rfl
theorem newRight_ok {f : Int} {ms : List Ms} {p : Int} (h : ledger f ms = 0) : newRight f ms p = newAt f ms p := by unfold newRight; rw [decide_eq_true h]; rfl
end Msg
theorem MSlice.at2 {w : World} {v : Value} {ms : List Ms} (h : MSlice w v ms) {k : Nat} {z : Ms} (hk : ms[k]? = some z) : ∃ b off cap, v = .slice (some ⟨b, off, none⟩) ms.length cap ∧ k < ms.length ∧ ms.length ≤ cap ∧ cap ≤ 9223372036854775807 ∧ b < w.heap.size ∧ MAt w b (off + k * 7) z := by
  obtain ⟨a, cap, rfl, h1, h2, hx⟩ := h
  have hl := (List.getElem?_eq_some_iff.1 hk).1
  obtain ⟨b, off, rfl, hb, hN⟩ := hx (by omega)
  unfold maxLen at h2
  exact ⟨b, off, cap, rfl, hl, h1, by omega, hb, hN k z hk⟩
end Go.Proofs.Ytecgjdgfjgcmdaa
