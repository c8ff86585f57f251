/- QV1, QV2, in one text. -/
import Derived.Test.YtecgjdgfjgcmdaaGreatRtQS4
namespace Go.Proofs.YtecgjdgfjgcmdaaGreat
namespace Msg
theorem at_zero {f : Int} {ms : List Ms} {k : Nat} {m : Ms} (h : ledger f ms = 0) (hk : ms[k]? = some m) : faultM f m = 0 ∧ refsB m k = true := by
 have h0 := ledger_all h m (List.mem_of_getElem? hk)
 refine ⟨h0, ?_⟩
 have hl := (List.getElem?_eq_some_iff.1 hk).1
 have h240 := (ledger_zero h).2.2
 unfold ledger at h
 split at h
 ·omega
 ·unfold ledgerM at h
  rw [if_neg (by omega)] at h
  have h2 := firstNZ_all h k hl
  rw [stepG_at hk] at h2
  cases h3 : refsB m k with
  | true => rfl
  | false => rw [stepF_2 h0 h3] at h2; omega
theorem lists_zero {f : Int} {m : Ms} (h : faultM f m = 0) : m.certs.length ≤ 30 ∧ (m.refs.length : Int) ≤ 3 * f + 1 ∧ (∀ c ∈ m.certs, 1 ≤ c.slot ∧ c.slot ≤ 30 ∧ 0 ≤ c.view ∧ c.view ≤ m.view - 1 ∧ 0 ≤ c.value ∧ c.value ≤ 12) ∧ (∀ r ∈ m.refs, 0 ≤ r ∧ r ≤ 239) ∧ rises (slots m.certs) = true := by
 unfold faultM at h
 split at h
 ·omega
 ·split at h
  ·omega
  ·split at h
   ·omega
   ·rename_i h3
    have h3 : manyN f m.certs.length m.refs.length = false := by simpa using h3
    unfold manyN at h3
    rw [decide_eq_false_iff_not] at h3
    unfold lists at h
    split at h
    ·omega
    ·rename_i h5
     split at h
     ·omega
     ·split at h
      ·omega
      ·rename_i h4
       have h4 : parts m = true := by simpa using h4
       unfold parts at h4
       rw [Bool.and_eq_true, List.all_eq_true, List.all_eq_true] at h4
       refine ⟨by omega, by omega, fun c hc => ?_, fun r hr => ?_, by simpa using h5⟩
       ·have := h4.1 c hc
        unfold certOk at this
        rw [decide_eq_true_eq] at this
        omega
       ·have := h4.2 r hr
        unfold refOk at this
        rw [decide_eq_true_eq] at this
        exact this
theorem refs_zero {f : Int} {ms : List Ms} {k : Nat} {m : Ms} (h : ledger f ms = 0) (hk : ms[k]? = some m) : ∀ r ∈ m.refs, 0 ≤ r ∧ r < (ms.length : Int) := by
 intro r hr
 obtain ⟨h1, h2⟩ := at_zero h hk
 have hl := (List.getElem?_eq_some_iff.1 hk).1
 unfold refsB at h2
 rw [List.all_eq_true] at h2
 have h3 := h2 r hr
 rw [decide_eq_true_eq] at h3
 have h4 := (lists_zero h1).2.2.2.1 r hr
 omega
theorem view_in {f : Int} {m : Ms} (h : faultM f m = 0) : 0 ≤ m.view ∧ m.view ≤ 20 := by
 obtain ⟨-, h2⟩ := faultM_zero h
 unfold boundsN at h2
 rw [decide_eq_true_eq] at h2
 omega
/-- The message at a place. -/
def nth (ms : List Ms) (p : Int) : Option Ms := if 0 ≤ p then ms[p.toNat]? else none
theorem nth_at {ms : List Ms} {p : Int} (h0 : 0 ≤ p) (h1 : p < (ms.length : Int)) : ∃ z, ms[p.toNat]? = some z ∧ nth ms p = some z := by
 refine ⟨ms[p.toNat]'(by omega), List.getElem?_eq_getElem (by omega), ?_⟩
 unfold nth
 rw [if_pos h0]
 exact List.getElem?_eq_getElem (by omega)
theorem nth_out {ms : List Ms} {p : Int} (h : ¬ (0 ≤ p ∧ p < (ms.length : Int))) : nth ms p = none := by
 unfold nth
 split
 ·exact List.getElem?_eq_none (by omega)
 ·rfl
theorem nth_nat {ms : List Ms} (k : Nat) : nth ms (k : Int) = ms[k]? := by
 unfold nth
 rw [if_pos (by omega)]
 rfl
theorem nth_some {ms : List Ms} {p : Int} {z : Ms} (h : nth ms p = some z) : 0 ≤ p ∧ p < (ms.length : Int) ∧ ms[p.toNat]? = some z := by
 unfold nth at h
 split at h
 ·rename_i h0
  have := (List.getElem?_eq_some_iff.1 h).1
  exact ⟨h0, by omega, h⟩
 ·cases h
def kindAt (ms : List Ms) (p k : Int) : Bool := match nth ms p with
 | some z => decide (z.kind = k)
 | none => false
theorem kindAt_some {ms : List Ms} {p k : Int} {z : Ms} (h : nth ms p = some z) : kindAt ms p k = decide (z.kind = k) := by unfold kindAt; rw [h]
theorem kindAt_none {ms : List Ms} {p k : Int} (h : nth ms p = none) : kindAt ms p k = false := by unfold kindAt; rw [h]
def changeB (f : Int) (ms : List Ms) (z : Ms) : Bool := decide (z.kind = 4 ∧ 1 ≤ z.view) && z.certs.all (enough f ms 2)
theorem changeB_no {f : Int} {ms : List Ms} {z : Ms} (h : ¬ (z.kind = 4 ∧ 1 ≤ z.view)) : changeB f ms z = false := by unfold changeB; rw [decide_eq_false h]; rfl
theorem changeB_is {f : Int} {ms : List Ms} {z : Ms} (h : z.kind = 4 ∧ 1 ≤ z.view) : changeB f ms z = z.certs.all (enough f ms 2) := by unfold changeB; rw [decide_eq_true h]; rfl
theorem all_no {f : Int} {ms : List Ms} {l : List Ct} {k : Nat} {c : Ct} (h : l[k]? = some c) (h2 : enough f ms 2 c = false) : l.all (enough f ms 2) = false := by
 rw [List.all_eq_false]
 exact ⟨c, List.mem_of_getElem? h, by simp [h2]⟩
theorem all_step {f : Int} {ms : List Ms} {l : List Ct} {k : Nat} {c : Ct} (h : l[k]? = some c) (h0 : (l.take k).all (enough f ms 2) = true) (h2 : enough f ms 2 c = true) : (l.take (k + 1)).all (enough f ms 2) = true := by
 obtain ⟨hk, rfl⟩ := List.getElem?_eq_some_iff.1 h
 rw [List.take_succ_eq_append_getElem hk, List.all_append, h0]
 simp [h2]
def changeAt (f : Int) (ms : List Ms) (p : Int) : Bool := match nth ms p with
 | some z => changeB f ms z
 | none => false
theorem changeAt_some {f : Int} {ms : List Ms} {p : Int} {z : Ms} (h : nth ms p = some z) : changeAt f ms p = changeB f ms z := by unfold changeAt; rw [h]
theorem changeAt_none {f : Int} {ms : List Ms} {p : Int} (h : nth ms p = none) : changeAt f ms p = false := by unfold changeAt; rw [h]
def changeRight (f : Int) (ms : List Ms) (p : Int) : Bool := decide (ledger f ms = 0) && changeAt f ms p
def fromAt (ms : List Ms) (p : Int) : Int := match nth ms p with
 | some z => z.from_
 | none => 0
theorem fromAt_some {ms : List Ms} {p : Int} {z : Ms} (h : nth ms p = some z) : fromAt ms p = z.from_ := by unfold fromAt; rw [h]
def viewAt (ms : List Ms) (p : Int) : Int := match nth ms p with
 | some z => z.view
 | none => 0
theorem viewAt_some {ms : List Ms} {p : Int} {z : Ms} (h : nth ms p = some z) : viewAt ms p = z.view := by unfold viewAt; rw [h]
def fromIn (ms : List Ms) (l : List Int) (x : Int) : Bool := l.any (fun p => decide (fromAt ms p = x))
theorem fromIn_take {ms : List Ms} {l : List Int} {x p : Int} {k : Nat} (h : l[k]? = some p) : fromIn ms (l.take (k + 1)) x = (fromIn ms (l.take k) x || decide (fromAt ms p = x)) := by
 obtain ⟨hk, rfl⟩ := List.getElem?_eq_some_iff.1 h
 unfold fromIn
 rw [List.take_succ_eq_append_getElem hk, List.any_append]
 simp
theorem fromIn_yes {ms : List Ms} {l : List Int} {x p : Int} {k : Nat} (h : l[k]? = some p) (h2 : fromAt ms p = x) : fromIn ms l x = true := by
 unfold fromIn
 rw [List.any_eq_true]
 exact ⟨p, List.mem_of_getElem? h, by simp [h2]⟩
/-- Is the message at p a right change to view, of one that is not among l? -/
def okP (f : Int) (ms : List Ms) (view : Int) (l : List Int) (p : Int) : Bool := decide (viewAt ms p = view) && changeAt f ms p && !fromIn ms l (fromAt ms p)
def among (f : Int) (ms : List Ms) (view : Int) (ps : List Int) : Nat → List Int
 | 0 => []
 | k + 1 => match ps[k]? with
  | some p => if okP f ms view (among f ms view ps k) p = true then among f ms view ps k ++ [p] else among f ms view ps k
  | none => among f ms view ps k
theorem among_yes {f : Int} {ms : List Ms} {view : Int} {ps : List Int} {k : Nat} {p : Int} (h : ps[k]? = some p) (h2 : okP f ms view (among f ms view ps k) p = true) : among f ms view ps (k + 1) = among f ms view ps k ++ [p] := by
 rw [among, h]; simp only; rw [if_pos h2]
theorem among_no {f : Int} {ms : List Ms} {view : Int} {ps : List Int} {k : Nat} {p : Int} (h : ps[k]? = some p) (h2 : okP f ms view (among f ms view ps k) p = false) : among f ms view ps (k + 1) = among f ms view ps k := by
 rw [among, h]; simp only; rw [if_neg (by simp [h2])]
theorem among_cases (f : Int) (ms : List Ms) (view : Int) (ps : List Int) (k : Nat) : among f ms view ps (k + 1) = among f ms view ps k ∨ ∃ p, ps[k]? = some p ∧ okP f ms view (among f ms view ps k) p = true ∧ among f ms view ps (k + 1) = among f ms view ps k ++ [p] := by
 cases h : ps[k]? with
 | none => left; rw [among, h]
 | some p =>
  cases h2 : okP f ms view (among f ms view ps k) p with
  | true => exact Or.inr ⟨p, rfl, h2, among_yes h h2⟩
  | false => exact Or.inl (among_no h h2)
theorem among_len (f : Int) (ms : List Ms) (view : Int) (ps : List Int) (k : Nat) : (among f ms view ps k).length ≤ k := by
 induction k with
 | zero => simp [among]
 | succ k ih =>
  rcases among_cases f ms view ps k with h | ⟨p, -, -, h⟩
  ·rw [h]; omega
  ·rw [h, List.length_append]; simp; omega
theorem among_mem {f : Int} {ms : List Ms} {view : Int} {ps : List Int} (k : Nat) {x : Int} (h : x ∈ among f ms view ps k) : x ∈ ps := by
 induction k with
 | zero => simp [among] at h
 | succ k ih =>
  rcases among_cases f ms view ps k with h1 | ⟨p, h2, -, h1⟩
  ·rw [h1] at h; exact ih h
  ·rw [h1, List.mem_append] at h
   rcases h with h | h
   ·exact ih h
   ·rw [List.mem_singleton] at h; rw [h]; exact List.mem_of_getElem? h2
theorem among_pre (f : Int) (ms : List Ms) (view : Int) (ps : List Int) (k j : Nat) : ∃ r, among f ms view ps (k + j) = among f ms view ps k ++ r ∧ r.length ≤ j := by
 induction j with
 | zero => exact ⟨[], by simp, by simp⟩
 | succ j ih =>
  obtain ⟨r, h, hr⟩ := ih
  rcases among_cases f ms view ps (k + j) with h1 | ⟨p, -, -, h1⟩
  ·exact ⟨r, by rw [← Nat.add_assoc, h1, h], by omega⟩
  ·exact ⟨r ++ [p], by rw [← Nat.add_assoc, h1, h, List.append_assoc], by rw [List.length_append]; simp; omega⟩
theorem among_take {f : Int} {ms : List Ms} {view : Int} {ps : List Int} {k n m : Nat} (hk : k ≤ n) (h : (among f ms view ps k).length = m) : (among f ms view ps n).take m = among f ms view ps k := by
 obtain ⟨r, h1, -⟩ := among_pre f ms view ps k (n - k)
 rw [show k + (n - k) = n from by omega] at h1
 rw [h1, List.take_append_of_le_length (by omega), List.take_of_length_le (by omega)]
theorem among_full {f : Int} {ms : List Ms} {view : Int} {ps : List Int} (k : Nat) (hk : k ≤ ps.length) (h : (among f ms view ps k).length = k) : among f ms view ps k = ps.take k := by
 induction k with
 | zero => simp [among]
 | succ k ih =>
  have hl := among_len f ms view ps k
  rcases among_cases f ms view ps k with h1 | ⟨p, h2, -, h1⟩
  ·rw [h1] at h; omega
  ·rw [h1, List.length_append] at h
   simp at h
   rw [h1, ih (by omega) h]
   obtain ⟨hk2, rfl⟩ := List.getElem?_eq_some_iff.1 h2
   rw [List.take_succ_eq_append_getElem hk2]
theorem among_short {f : Int} {ms : List Ms} {view : Int} {ps : List Int} {k n : Nat} {p : Int} (hk : k < n) (h0 : ps[k]? = some p) (h : okP f ms view (among f ms view ps k) p = false) : ¬ (among f ms view ps n).length = n := by
 obtain ⟨r, h1, hr⟩ := among_pre f ms view ps (k + 1) (n - (k + 1))
 rw [show k + 1 + (n - (k + 1)) = n from by omega] at h1
 have hl := among_len f ms view ps k
 rw [h1, List.length_append, among_no h0 h]
 omega
/-- Who has sent those of l. -/
def sset (ms : List Ms) (l : List Int) : List Int := l.foldl (fun s p => Nst.put (fromAt ms p) s) []
theorem sset_snoc (ms : List Ms) (l : List Int) (p : Int) : sset ms (l ++ [p]) = Nst.put (fromAt ms p) (sset ms l) := by unfold sset; rw [List.foldl_append]; rfl
theorem sset_both (ms : List Ms) (l : List Int) : Nst.Ris (sset ms l) ∧ ∀ x, x ∈ sset ms l ↔ ∃ p ∈ l, fromAt ms p = x := by
 unfold sset
 have key : ∀ (l s : List Int), Nst.Ris s → Nst.Ris (l.foldl (fun s p => Nst.put (fromAt ms p) s) s) ∧ ∀ x, x ∈ l.foldl (fun s p => Nst.put (fromAt ms p) s) s ↔ (∃ p ∈ l, fromAt ms p = x) ∨ x ∈ s := by
  intro l
  induction l with
  | nil => intro s hs; exact ⟨hs, fun x => by simp⟩
  | cons a r ih =>
   intro s hs
   obtain ⟨h1, h2⟩ := ih _ (hs.put (fromAt ms a))
   refine ⟨h1, fun x => ?_⟩
   rw [List.foldl_cons, h2, Nst.mem_put]
   constructor
   ·rintro (⟨p, hp, e⟩ | e | e)
    ·exact Or.inl ⟨p, List.mem_cons_of_mem _ hp, e⟩
    ·exact Or.inl ⟨a, by simp, e.symm⟩
    ·exact Or.inr e
   ·rintro (⟨p, hp, e⟩ | e)
    ·rcases List.mem_cons.1 hp with rfl | hp
     ·exact Or.inr (Or.inl e.symm)
     ·exact Or.inl ⟨p, hp, e⟩
    ·exact Or.inr (Or.inr e)
 obtain ⟨h1, h2⟩ := key l [] List.Pairwise.nil
 exact ⟨h1, fun x => by rw [h2]; simp⟩
theorem sset_ris (ms : List Ms) (l : List Int) : Nst.Ris (sset ms l) := (sset_both ms l).1
theorem sset_has (ms : List Ms) (l : List Int) (x : Int) : decide (x ∈ sset ms l) = fromIn ms l x := by
 unfold fromIn
 rw [Bool.eq_iff_iff, decide_eq_true_eq, (sset_both ms l).2, List.any_eq_true]
 simp
def changesV (f : Int) (ms : List Ms) (x : Int) : Int × List Int := if ¬ ledger f ms = 0 then (ledger f ms, []) else if ¬ (0 ≤ x ∧ x ≤ 20) then (3, []) else (0, (among f ms x (Nst.upto 0 ms.length) ms.length).take (2 * f + 1).toNat)
theorem upto_at {n k : Nat} (h : k < n) : (Nst.upto 0 n)[k]? = some (k : Int) := by
 induction n with
 | zero => omega
 | succ n ih =>
  rw [Nst.upto]
  by_cases hk : k < n
  ·rw [List.getElem?_append_left (by rw [Nst.len_upto]; exact hk)]; exact ih hk
  ·have : k = n := by omega
   subst this
   rw [List.getElem?_append_right (by rw [Nst.len_upto]; omega), Nst.len_upto]
   simp
/-! ### the beginning of a view -/
def newB (f : Int) (ms : List Ms) (z : Ms) : Bool := decide (z.kind = 5 ∧ 1 ≤ z.view ∧ z.from_ = primary f z.view ∧ 2 * f + 1 ≤ (z.refs.length : Int)) && decide ((among f ms z.view z.refs z.refs.length).length = z.refs.length)
def newAt (f : Int) (ms : List Ms) (p : Int) : Bool := match nth ms p with
 | some z => newB f ms z
 | none => false
theorem newAt_some {f : Int} {ms : List Ms} {p : Int} {z : Ms} (h : nth ms p = some z) : newAt f ms p = newB f ms z := by unfold newAt; rw [h]
theorem newAt_none {f : Int} {ms : List Ms} {p : Int} (h : nth ms p = none) : newAt f ms p = false := by unfold newAt; rw [h]
theorem newB_no {f : Int} {ms : List Ms} {z : Ms} (h : ¬ (z.kind = 5 ∧ 1 ≤ z.view ∧ z.from_ = primary f z.view ∧ 2 * f + 1 ≤ (z.refs.length : Int))) : newB f ms z = false := by unfold newB; rw [decide_eq_false h]; rfl
theorem newB_is {f : Int} {ms : List Ms} {z : Ms} (h : z.kind = 5 ∧ 1 ≤ z.view ∧ z.from_ = primary f z.view ∧ 2 * f + 1 ≤ (z.refs.length : Int)) : newB f ms z = decide ((among f ms z.view z.refs z.refs.length).length = z.refs.length) := by unfold newB; rw [decide_eq_true h]; rfl
theorem okP_view {f : Int} {ms : List Ms} {view : Int} {l : List Int} {p : Int} (h : okP f ms view l p = true) : 1 ≤ view := by
 unfold okP at h
 rw [Bool.and_eq_true, Bool.and_eq_true, decide_eq_true_eq] at h
 obtain ⟨⟨h1, h2⟩, -⟩ := h
 cases hn : nth ms p with
 | none => rw [changeAt_none hn] at h2; cases h2
 | some z =>
  rw [changeAt_some hn] at h2
  rw [viewAt_some hn] at h1
  unfold changeB at h2
  rw [Bool.and_eq_true, decide_eq_true_eq] at h2
  omega
/-- The program's own question: it need not ask for a view above 0. -/
theorem newB_prog {f : Int} {ms : List Ms} {z : Ms} (hk : z.kind = 5) (hf : 1 ≤ f) : newB f ms z = (decide (primary f z.view = z.from_) && decide (2 * f + 1 ≤ (z.refs.length : Int)) && decide ((among f ms z.view z.refs z.refs.length).length = z.refs.length)) := by
 by_cases h1 : primary f z.view = z.from_
 ·by_cases h2 : 2 * f + 1 ≤ (z.refs.length : Int)
  ·by_cases h3 : 1 ≤ z.view
   ·rw [newB_is ⟨hk, h3, h1.symm, h2⟩, decide_eq_true h1, decide_eq_true h2]; rfl
   ·rw [newB_no (fun h => h3 h.2.1)]
    symm
    rw [Bool.and_eq_false_iff]
    right
    rw [decide_eq_false_iff_not]
    intro hlen
    obtain ⟨p, hp⟩ : ∃ p, z.refs[0]? = some p := ⟨_, List.getElem?_eq_getElem (by omega)⟩
    cases ho : okP f ms z.view (among f ms z.view z.refs 0) p with
    | true => exact h3 (okP_view ho)
    | false => exact among_short (by omega) hp ho hlen
  ·rw [newB_no (fun h => h2 h.2.2.2), decide_eq_false h2]; simp
 ·rw [newB_no (fun h => h1 h.2.2.1.symm), decide_eq_false h1]; simp
def newRight (f : Int) (ms : List Ms) (p : Int) : Bool := decide (ledger f ms = 0) && newAt f ms p
end Msg
theorem MSlice.at2 {w : World} {v : Value} {ms : List Ms} (h : MSlice w v ms) {k : Nat} {z : Ms} (hk : ms[k]? = some z) : ∃ b off cap, v = .slice (some ⟨b, off, none⟩) ms.length cap ∧ k < ms.length ∧ ms.length ≤ cap ∧ cap ≤ 9223372036854775807 ∧ b < w.heap.size ∧ MAt w b (off + k * 7) z := by
 obtain ⟨a, cap, rfl, h1, h2, hx⟩ := h
 have hl := (List.getElem?_eq_some_iff.1 hk).1
 obtain ⟨b, off, rfl, hb, hN⟩ := hx (by omega)
 unfold maxLen at h2
 exact ⟨b, off, cap, rfl, hl, h1, by omega, hb, hN k z hk⟩
end Go.Proofs.YtecgjdgfjgcmdaaGreat
namespace Go.Proofs.YtecgjdgfjgcmdaaGreat
namespace Msg
def better (slot : Int) (o : Option Ct) (c : Ct) : Option Ct := if c.slot = slot then (match o with
 | none => some c
 | some d => if d.view < c.view then some c else some d) else o
def best (cs : List Ct) (slot : Int) : Option Ct := cs.foldl (better slot) none
theorem best_snoc (cs : List Ct) (slot : Int) (c : Ct) : best (cs ++ [c]) slot = better slot (best cs slot) c := by unfold best; rw [List.foldl_append]; rfl
theorem better_ne {slot : Int} {o : Option Ct} {c : Ct} (h : ¬ c.slot = slot) : better slot o c = o := by unfold better; rw [if_neg h]
theorem better_some {slot : Int} {d c : Ct} (h : c.slot = slot) : better slot (some d) c = if d.view < c.view then some c else some d := by unfold better; rw [if_pos h]
theorem better_none {slot : Int} {c : Ct} (h : c.slot = slot) : better slot none c = some c := by unfold better; rw [if_pos h]
theorem best_mem {cs : List Ct} {slot : Int} {c : Ct} (h : best cs slot = some c) : c ∈ cs ∧ c.slot = slot := by
 have key : ∀ (l : List Ct) (o : Option Ct), (∀ d, o = some d → d ∈ cs ∧ d.slot = slot) → (∀ d ∈ l, d ∈ cs) → ∀ d, l.foldl (better slot) o = some d → d ∈ cs ∧ d.slot = slot := by
  intro l
  induction l with
  | nil => intro o ho _ d hd; exact ho d hd
  | cons a r ih =>
   intro o ho hl d hd
   rw [List.foldl_cons] at hd
   refine ih _ ?_ (fun x hx => hl x (List.mem_cons_of_mem _ hx)) d hd
   intro x hx
   by_cases hs : a.slot = slot
   ·cases o with
    | none => rw [better_none hs] at hx; cases hx; exact ⟨hl a (by simp), hs⟩
    | some e =>
     rw [better_some hs] at hx
     split at hx
     ·cases hx; exact ⟨hl a (by simp), hs⟩
     ·cases hx; exact ho _ rfl
   ·rw [better_ne hs] at hx; exact ho x hx
 exact key cs none (fun d hd => by cases hd) (fun d hd => hd) c h
/-- The view and the value of what is the best, as the specification keeps them. -/
def vw : Option Ct → Int
 | none => -1
 | some c => c.view
def vl : Option Ct → Int
 | none => 0
 | some c => c.value
theorem better_take {slot : Int} {o : Option Ct} {c : Ct} (h : c.slot = slot) (h2 : vw o < c.view) : better slot o c = some c := by
 cases o with
 | none => exact better_none h
 | some d => rw [better_some h, if_pos (show d.view < c.view from h2)]
theorem better_keep {slot : Int} {o : Option Ct} {c : Ct} (h0 : 0 ≤ c.view) (h2 : ¬ vw o < c.view) : better slot o c = o := by
 cases o with
 | none => exact absurd (show (-1 : Int) < c.view by omega) h2
 | some d =>
  by_cases h : c.slot = slot
  ·rw [better_some h, if_neg (show ¬ d.view < c.view from h2)]
  ·exact better_ne h
/-- The program's way: those of a slot, then the newest. -/
def ofSlot (cs : List Ct) (slot : Int) : List Ct := cs.filter (fun c => decide (c.slot = slot))
theorem ofSlot_yes {cs : List Ct} {slot : Int} {k : Nat} {c : Ct} (h : cs[k]? = some c) (hs : c.slot = slot) : ofSlot (cs.take (k + 1)) slot = ofSlot (cs.take k) slot ++ [c] := by
 obtain ⟨hk, rfl⟩ := List.getElem?_eq_some_iff.1 h
 unfold ofSlot
 rw [List.take_succ_eq_append_getElem hk, List.filter_append, List.filter_cons_of_pos (by simpa using hs)]
 rfl
theorem ofSlot_no {cs : List Ct} {slot : Int} {k : Nat} {c : Ct} (h : cs[k]? = some c) (hs : ¬ c.slot = slot) : ofSlot (cs.take (k + 1)) slot = ofSlot (cs.take k) slot := by
 obtain ⟨hk, rfl⟩ := List.getElem?_eq_some_iff.1 h
 unfold ofSlot
 rw [List.take_succ_eq_append_getElem hk, List.filter_append, List.filter_cons_of_neg (by simpa using hs)]
 simp
theorem ofSlot_len (cs : List Ct) (slot : Int) : (ofSlot cs slot).length ≤ cs.length := List.length_filter_le _ _
def newer (d c : Ct) : Ct := if d.view < c.view then c else d
def newestK (c : Ct) (r : List Ct) (k : Nat) : Ct := (r.take k).foldl newer c
theorem newestK_step {c d : Ct} {r : List Ct} {k : Nat} (h : r[k]? = some d) : newestK c r (k + 1) = newer (newestK c r k) d := by
 obtain ⟨hk, rfl⟩ := List.getElem?_eq_some_iff.1 h
 unfold newestK
 rw [List.take_succ_eq_append_getElem hk, List.foldl_append]
 rfl
theorem best_ofSlot (cs : List Ct) (slot : Int) : best cs slot = match ofSlot cs slot with
  | [] => none
  | c :: r => some (newestK c r r.length) := by
 have h1 : best cs slot = (ofSlot cs slot).foldl (better slot) none := by
  unfold best ofSlot
  rw [List.foldl_filter]
  congr 1
  funext o c
  by_cases h : c.slot = slot
  ·rw [if_pos (by simpa using h)]
  ·rw [if_neg (by simpa using h), better_ne h]
 have h2 : ∀ c ∈ ofSlot cs slot, c.slot = slot := fun c hc => by simpa using (List.mem_filter.1 hc).2
 rw [h1]
 revert h2
 generalize ofSlot cs slot = l
 intro h2
 cases l with
 | nil => rfl
 | cons c r =>
  show r.foldl (better slot) (better slot none c) = some (newestK c r r.length)
  rw [better_none (h2 c (by simp))]
  have h3 : ∀ d ∈ r, d.slot = slot := fun d hd => h2 d (List.mem_cons_of_mem _ hd)
  unfold newestK
  rw [List.take_length]
  clear h1 h2
  induction r generalizing c with
  | nil => rfl
  | cons a s ih =>
   rw [List.foldl_cons, List.foldl_cons, better_some (h3 a (by simp))]
   have e : (if c.view < a.view then some a else some c) = some (newer c a) := by unfold newer; split <;> rfl
   rw [e]
   exact ih _ (fun d hd => h3 d (List.mem_cons_of_mem _ hd))
theorem best_nil {cs : List Ct} {slot : Int} (h : ofSlot cs slot = []) : best cs slot = none := by rw [best_ofSlot, h]
theorem best_cons {cs : List Ct} {slot : Int} {c : Ct} {r : List Ct} (h : ofSlot cs slot = c :: r) : best cs slot = some (newestK c r r.length) := by rw [best_ofSlot, h]
/-- The newest of the slots 1 to k. -/
def ns (cs : List Ct) : Nat → List Ct
 | 0 => []
 | k + 1 => match best cs ((k : Int) + 1) with
  | some c => ns cs k ++ [c]
  | none => ns cs k
theorem ns_yes {cs : List Ct} {k : Nat} {c : Ct} (h : best cs ((k : Int) + 1) = some c) : ns cs (k + 1) = ns cs k ++ [c] := by rw [ns, h]
theorem ns_no {cs : List Ct} {k : Nat} (h : best cs ((k : Int) + 1) = none) : ns cs (k + 1) = ns cs k := by rw [ns, h]
theorem ns_len (cs : List Ct) (k : Nat) : (ns cs k).length ≤ k := by
 induction k with
 | zero => simp [ns]
 | succ k ih =>
  cases h : best cs ((k : Int) + 1) with
  | none => rw [ns_no h]; omega
  | some c => rw [ns_yes h, List.length_append]; simp; omega
theorem ns_mem {cs : List Ct} (k : Nat) {c : Ct} (h : c ∈ ns cs k) : c ∈ cs ∧ 1 ≤ c.slot ∧ c.slot ≤ k := by
 induction k with
 | zero => simp [ns] at h
 | succ k ih =>
  cases hb : best cs ((k : Int) + 1) with
  | none => rw [ns_no hb] at h; have := ih h; exact ⟨this.1, this.2.1, by omega⟩
  | some d =>
   rw [ns_yes hb, List.mem_append] at h
   rcases h with h | h
   ·have := ih h; exact ⟨this.1, this.2.1, by omega⟩
   ·rw [List.mem_singleton] at h; subst h
    have := best_mem hb
    exact ⟨this.1, by omega, by omega⟩
/-- n zeros more. -/
def zeros (n : Nat) : List Int := List.replicate n 0
def fill1 (vs : List Int) (c : Ct) : List Int := vs ++ zeros ((c.slot - 1).toNat - vs.length) ++ [c.value]
def fillK (l : List Ct) (k : Nat) : List Int := (l.take k).foldl fill1 []
theorem fillK_step {l : List Ct} {k : Nat} {c : Ct} (h : l[k]? = some c) : fillK l (k + 1) = fill1 (fillK l k) c := by
 obtain ⟨hk, rfl⟩ := List.getElem?_eq_some_iff.1 h
 unfold fillK
 rw [List.take_succ_eq_append_getElem hk, List.foldl_append]
 rfl
def pick (cs : List Ct) : Nat → List Int
 | 0 => []
 | k + 1 => match best cs ((k : Int) + 1) with
  | some c => pick cs k ++ zeros (k - (pick cs k).length) ++ [c.value]
  | none => pick cs k
theorem pick_yes {cs : List Ct} {k : Nat} {c : Ct} (h : best cs ((k : Int) + 1) = some c) : pick cs (k + 1) = pick cs k ++ zeros (k - (pick cs k).length) ++ [c.value] := by rw [pick, h]
theorem pick_no {cs : List Ct} {k : Nat} (h : best cs ((k : Int) + 1) = none) : pick cs (k + 1) = pick cs k := by rw [pick, h]
theorem fill_ns (cs : List Ct) (k : Nat) : fillK (ns cs k) (ns cs k).length = pick cs k := by
 unfold fillK
 rw [List.take_length]
 induction k with
 | zero => rfl
 | succ k ih =>
  cases h : best cs ((k : Int) + 1) with
  | none => rw [ns_no h, pick_no h]; exact ih
  | some c =>
   rw [ns_yes h, pick_yes h, List.foldl_append, ih]
   show fill1 (pick cs k) c = _
   unfold fill1
   rw [(best_mem h).2]
   rw [show ((k : Int) + 1 - 1).toNat = k from by omega]
theorem fillK_len (l : List Ct) (hl : ∀ c ∈ l, 1 ≤ c.slot ∧ c.slot ≤ 30) (hr : ∀ (i j : Nat) c d, i < j → l[i]? = some c → l[j]? = some d → c.slot < d.slot) (k : Nat) (c : Ct) (h : l[k]? = some c) : ((fillK l k).length : Int) ≤ c.slot - 1 := by
 induction k generalizing c with
 | zero => have := hl c (List.mem_of_getElem? h); simp [fillK]; omega
 | succ k ih =>
  have hlt := (List.getElem?_eq_some_iff.1 h).1
  obtain ⟨d, hd⟩ : ∃ d, l[k]? = some d := ⟨_, List.getElem?_eq_getElem (by omega)⟩
  have h1 := ih d hd
  have h2 := hr k (k + 1) d c (by omega) hd h
  have h3 := hl d (List.mem_of_getElem? hd)
  rw [fillK_step hd]
  unfold fill1
  simp [zeros]
  omega
theorem ns_ris (cs : List Ct) (n : Nat) : ∀ (i j : Nat) c d, i < j → (ns cs n)[i]? = some c → (ns cs n)[j]? = some d → c.slot < d.slot := by
 induction n with
 | zero => intro i j c d _ h; simp [ns] at h
 | succ n ih =>
  cases hb : best cs ((n : Int) + 1) with
  | none => rw [ns_no hb]; exact ih
  | some e =>
   rw [ns_yes hb]
   intro i j c d hij hi hj
   by_cases hj2 : j < (ns cs n).length
   ·rw [List.getElem?_append_left hj2] at hj
    rw [List.getElem?_append_left (by omega)] at hi
    exact ih i j c d hij hi hj
   ·have hjl := (List.getElem?_eq_some_iff.1 hj).1
    rw [List.length_append] at hjl
    simp at hjl
    have hje : j = (ns cs n).length := by omega
    subst hje
    rw [List.getElem?_append_right (Nat.le_refl _)] at hj
    simp at hj
    subst hj
    rw [List.getElem?_append_left hij] at hi
    have h1 := (ns_mem n (List.mem_of_getElem? hi)).2.2
    have h2 := (best_mem hb).2
    omega
/-- What the specification lays down slot by slot. -/
def vals (cs : List Ct) : Nat → List Int
 | 0 => []
 | k + 1 => vals cs k ++ [vl (best cs ((k : Int) + 1))]
/-! ### the certificates of some messages -/
def certsAt (ms : List Ms) (p : Int) : List Ct := match nth ms p with
 | some z => z.certs
 | none => []
theorem certsAt_some {ms : List Ms} {p : Int} {z : Ms} (h : nth ms p = some z) : certsAt ms p = z.certs := by unfold certsAt; rw [h]
def refsAt (ms : List Ms) (p : Int) : List Int := match nth ms p with
 | some z => z.refs
 | none => []
theorem refsAt_some {ms : List Ms} {p : Int} {z : Ms} (h : nth ms p = some z) : refsAt ms p = z.refs := by unfold refsAt; rw [h]
def cat (ms : List Ms) (l : List Int) : List Ct := l.flatMap (certsAt ms)
theorem cat_step {ms : List Ms} {l : List Int} {k : Nat} {p : Int} (h : l[k]? = some p) : cat ms (l.take (k + 1)) = cat ms (l.take k) ++ certsAt ms p := by
 obtain ⟨hk, rfl⟩ := List.getElem?_eq_some_iff.1 h
 unfold cat
 rw [List.take_succ_eq_append_getElem hk, List.flatMap_append]
 simp
theorem cat_len {f : Int} {ms : List Ms} (h : ledger f ms = 0) (l : List Int) : (cat ms l).length ≤ 30 * l.length := by
 induction l with
 | nil => simp [cat]
 | cons p r ih =>
  have e : cat ms (p :: r) = certsAt ms p ++ cat ms r := by unfold cat; rw [List.flatMap_cons]
  rw [e, List.length_append, List.length_cons]
  have h1 : (certsAt ms p).length ≤ 30 := by
   cases hn : nth ms p with
   | none => unfold certsAt; rw [hn]; simp
   | some z =>
    rw [certsAt_some hn]
    exact (lists_zero (ledger_all h z (List.mem_of_getElem? (nth_some hn).2.2))).1
  omega
def picks (ms : List Ms) (l : List Int) : List Int := pick (cat ms l) 30
def pickV (f : Int) (ms : List Ms) (refs : List Int) : Int × List Int := if ¬ ledger f ms = 0 then (ledger f ms, []) else if 3 * f + 1 < (refs.length : Int) then (2, []) else if refs.all (fun p => kindAt ms p 4) = false then (4, []) else (0, picks ms refs)
/-! ### what one has committed -/
def isCm (id view : Int) (z : Ms) : Bool := decide (z.kind = 3 ∧ z.from_ = id ∧ z.view < view)
def cms (ms : List Ms) (id view : Int) : List Ct := (ms.filter (isCm id view)).map (fun z => ⟨z.slot, z.view, z.value⟩)
theorem cms_yes {ms : List Ms} {id view : Int} {k : Nat} {z : Ms} (h : ms[k]? = some z) (h2 : z.kind = 3 ∧ z.from_ = id ∧ z.view < view) : cms (ms.take (k + 1)) id view = cms (ms.take k) id view ++ [⟨z.slot, z.view, z.value⟩] := by
 obtain ⟨hk, rfl⟩ := List.getElem?_eq_some_iff.1 h
 unfold cms
 rw [List.take_succ_eq_append_getElem hk, List.filter_append, List.filter_cons_of_pos (by unfold isCm; exact decide_eq_true h2), List.map_append]
 rfl
theorem cms_no {ms : List Ms} {id view : Int} {k : Nat} {z : Ms} (h : ms[k]? = some z) (h2 : ¬ (z.kind = 3 ∧ z.from_ = id ∧ z.view < view)) : cms (ms.take (k + 1)) id view = cms (ms.take k) id view := by
 obtain ⟨hk, rfl⟩ := List.getElem?_eq_some_iff.1 h
 unfold cms
 rw [List.take_succ_eq_append_getElem hk, List.filter_append, List.filter_cons_of_neg (by unfold isCm; simpa using h2)]
 simp
theorem cms_len (ms : List Ms) (id view : Int) : (cms ms id view).length ≤ ms.length := by
 unfold cms; rw [List.length_map]; exact List.length_filter_le _ _
theorem cms_in {f : Int} {ms : List Ms} {id view : Int} (h : ledger f ms = 0) : ∀ c ∈ cms ms id view, 1 ≤ c.slot ∧ c.slot ≤ 30 ∧ 0 ≤ c.view ∧ c.view ≤ 20 ∧ 0 ≤ c.value ∧ c.value ≤ 12 := by
 intro c hc
 unfold cms at hc
 obtain ⟨z, hz, rfl⟩ := List.mem_map.1 hc
 obtain ⟨hz, hq⟩ := List.mem_filter.1 hz
 unfold isCm at hq
 rw [decide_eq_true_eq] at hq
 obtain ⟨-, -, h1, h2, h3, h4, h5, h6, -⟩ := of_slot (ledger_all h z hz) (Or.inr hq.1)
 exact ⟨h1, h2, h3, h4, h5, h6⟩
def certsV (f : Int) (ms : List Ms) (id view : Int) : Int × List Ct := if ¬ ledger f ms = 0 then (ledger f ms, []) else if ¬ (1 ≤ id ∧ id ≤ 3 * f + 1) then (3, []) else if ¬ (0 ≤ view ∧ view ≤ 20) then (3, []) else (0, ns (cms ms id view) 30)
theorem certsV_bad {f : Int} {ms : List Ms} {id view : Int} (h : ¬ ledger f ms = 0) : certsV f ms id view = (ledger f ms, []) := by unfold certsV; rw [if_pos h]
theorem certsV_id {f : Int} {ms : List Ms} {id view : Int} (h : ledger f ms = 0) (h2 : ¬ (1 ≤ id ∧ id ≤ 3 * f + 1)) : certsV f ms id view = (3, []) := by unfold certsV; rw [if_neg (by omega), if_pos h2]
theorem certsV_view {f : Int} {ms : List Ms} {id view : Int} (h : ledger f ms = 0) (h2 : 1 ≤ id ∧ id ≤ 3 * f + 1) (h3 : ¬ (0 ≤ view ∧ view ≤ 20)) : certsV f ms id view = (3, []) := by unfold certsV; rw [if_neg (by omega), if_neg (by omega), if_pos h3]
theorem certsV_ok {f : Int} {ms : List Ms} {id view : Int} (h : ledger f ms = 0) (h2 : 1 ≤ id ∧ id ≤ 3 * f + 1) (h3 : 0 ≤ view ∧ view ≤ 20) : certsV f ms id view = (0, ns (cms ms id view) 30) := by unfold certsV; rw [if_neg (by omega), if_neg (by omega), if_neg (by omega)]
/-! ### what may be proposed -/
def startB (f : Int) (ms : List Ms) (view start : Int) : Bool := if view = 0 then decide (start = -1) else newAt f ms start && decide (viewAt ms start = view)
def valueB (ms : List Ms) (start slot value : Int) : Bool := if start < 0 then decide (0 < value) else if slot ≤ ((picks ms (refsAt ms start)).length : Int) then decide (value = (picks ms (refsAt ms start)).getD (slot - 1).toNat 0) else decide (0 < value)
def proposeB (f : Int) (ms : List Ms) (z : Ms) (start : Int) : Bool := decide (z.kind = 1) && decide (z.from_ = primary f z.view) && startB f ms z.view start && valueB ms start z.slot z.value
def proposeAt (f : Int) (ms : List Ms) (p start : Int) : Bool := match nth ms p with
 | some z => proposeB f ms z start
 | none => false
def proposeRight (f : Int) (ms : List Ms) (p start : Int) : Bool := decide (ledger f ms = 0) && proposeAt f ms p start
end Msg
end Go.Proofs.YtecgjdgfjgcmdaaGreat
