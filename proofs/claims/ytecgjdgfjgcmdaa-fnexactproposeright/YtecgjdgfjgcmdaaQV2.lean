/- new views: the newest certificate of each slot; what is taken over (mathematics). -/
import Derived.Test.YtecgjdgfjgcmdaaQV1
namespace Go.Proofs.Ytecgjdgfjgcmdaa
namespace Msg
def better (slot : Int) (o : Option Ct) (c : Ct) : Option Ct := if c.slot = slot then (match o with
  | none => some c
  | some d => if d.view < c.view then some c else some d) else o
def best (cs : List Ct) (slot : Int) : Option Ct := cs.foldl (better slot) none
theorem best_snoc (cs : List Ct) (slot : Int) (c : Ct) : best (cs ++ [c]) slot = better slot (best cs slot) c := by unfold best; rw [List.foldl_append]; rfl
theorem better_ne {slot : Int} {o : Option Ct} {c : Ct} (h : ¬ c.slot = slot) : better slot o c = o := by unfold better; rw [if_neg h]
theorem better_some {slot : Int} {d c : Ct} (h : c.slot = slot) : better slot (some d) c = if d.view < c.view then some c else some d := by unfold better; rw [if_pos h]
theorem better_none {slot : Int} {c : Ct} (h : c.slot = slot) : better slot none c = some c := by unfold better; rw [if_pos h]
theorem best_mem {cs : List Ct} {slot : Int} {c : Ct} (h : best cs slot = some c) : c ∈ cs ∧ c.slot = slot := by
  have key : ∀ (l : List Ct) (o : Option Ct), (∀ d, o = some d → d ∈ cs ∧ d.slot = slot) → (∀ d ∈ l, d ∈ cs) → ∀ d, l.foldl (better slot) o = some d → d ∈ cs ∧ d.slot = slot := by
    intro l
    induction l with
    | nil => intro o ho _ d hd; exact ho d hd
    | cons a r ih =>
      intro o ho hl d hd
      rw [List.foldl_cons] at hd
      refine ih _ ?_ (fun x hx => hl x (List.mem_cons_of_mem _ hx)) d hd
      intro x hx
      by_cases hs : a.slot = slot
      · cases o with
        | none => rw [better_none hs] at hx; cases hx; exact ⟨hl a (by simp), hs⟩
        | some e =>
          rw [better_some hs] at hx
          split at hx
          · cases hx; exact ⟨hl a (by simp), hs⟩
          · cases hx; exact ho _ rfl
      · rw [better_ne hs] at hx; exact ho x hx
  exact key cs none (fun d hd => by cases hd) (fun d hd => hd) c h
/-- The view and the value of what is the best, as the specification keeps them. -/
def vw : Option Ct → Int
  | none => -1
  | some c => c.view
def vl : Option Ct → Int
  | none => 0
  | some c => c.value
theorem better_take {slot : Int} {o : Option Ct} {c : Ct} (h : c.slot = slot) (h2 : vw o < c.view) : better slot o c = some c := by
  cases o with
  | none => exact better_none h
  | some d => rw [better_some h, if_pos (show d.view < c.view from h2)]
theorem better_keep {slot : Int} {o : Option Ct} {c : Ct} (h0 : 0 ≤ c.view) (h2 : ¬ vw o < c.view) : better slot o c = o := by
  cases o with
  | none => exact absurd (show (-1 : Int) < c.view by omega) h2
  | some d =>
    by_cases h : c.slot = slot
    · rw [better_some h, if_neg (show ¬ d.view < c.view from h2)]
    · exact better_ne h
theorem vw_none {cs : List Ct} {slot : Int} (h : ∀ c ∈ cs, 0 ≤ c.view) : (0 ≤ vw (best cs slot)) ↔ (best cs slot).isSome = true := by
  cases hb : best cs slot with
  | none => simp [vw]
  | some c =>
    have := h c (best_mem hb).1
    simp [vw, this]
/-- The program's way: those of a slot, then the newest. -/
def ofSlot (cs : List Ct) (slot : Int) : List Ct := cs.filter (fun c => decide (c.slot = slot))
theorem ofSlot_yes {cs : List Ct} {slot : Int} {k : Nat} {c : Ct} (h : cs[k]? = some c) (hs : c.slot = slot) : ofSlot (cs.take (k + 1)) slot = ofSlot (cs.take k) slot ++ [c] := by
  obtain ⟨hk, rfl⟩ := List.getElem?_eq_some_iff.1 h
  unfold ofSlot
  rw [List.take_succ_eq_append_getElem hk, List.filter_append, List.filter_cons_of_pos (by simpa using hs)]
  rfl
theorem ofSlot_no {cs : List Ct} {slot : Int} {k : Nat} {c : Ct} (h : cs[k]? = some c) (hs : ¬ c.slot = slot) : ofSlot (cs.take (k + 1)) slot = ofSlot (cs.take k) slot := by
  obtain ⟨hk, rfl⟩ := List.getElem?_eq_some_iff.1 h
  unfold ofSlot
  rw [List.take_succ_eq_append_getElem hk, List.filter_append, List.filter_cons_of_neg (by simpa using hs)]
  simp
theorem ofSlot_len (cs : List Ct) (slot : Int) : (ofSlot cs slot).length ≤ cs.length := List.length_filter_le _ _
def newer (d c : Ct) : Ct := if d.view < c.view then c else d
def newestK (c : Ct) (r : List Ct) (k : Nat) : Ct := (r.take k).foldl newer c
theorem newestK_step {c d : Ct} {r : List Ct} {k : Nat} (h : r[k]? = some d) : newestK c r (k + 1) = newer (newestK c r k) d := by
  obtain ⟨hk, rfl⟩ := List.getElem?_eq_some_iff.1 h
  unfold newestK
  rw [List.take_succ_eq_append_getElem hk, List.foldl_append]
  rfl
theorem best_ofSlot (cs : List Ct) (slot : Int) : best cs slot = match ofSlot cs slot with
    | [] => none
    | c :: r => some (newestK c r r.length) := by
  have h1 : best cs slot = (ofSlot cs slot).foldl (better slot) none := by
    unfold best ofSlot
    rw [List.foldl_filter]
    congr 1
    funext o c
    by_cases h : c.slot = slot
    · rw [if_pos (by simpa using h)]
    · rw [if_neg (by simpa using h), better_ne h]
  have h2 : ∀ c ∈ ofSlot cs slot, c.slot = slot := fun c hc => by simpa using (List.mem_filter.1 hc).2
  rw [h1]
  revert h2
  generalize ofSlot cs slot = l
  intro h2
  cases l with
  | nil => rfl
  | cons c r =>
    show r.foldl (better slot) (better slot none c) = some (newestK c r r.length)
    rw [better_none (h2 c (by simp))]
    have h3 : ∀ d ∈ r, d.slot = slot := fun d hd => h2 d (List.mem_cons_of_mem _ hd)
    unfold newestK
    rw [List.take_length]
    clear h1 h2
    induction r generalizing c with
    | nil => rfl
    | cons a s ih =>
      rw [List.foldl_cons, List.foldl_cons, better_some (h3 a (by simp))]
      have e : (if c.view < a.view then some a else some c) = some (newer c a) := by unfold newer; split <;> rfl
      rw [e]
      exact ih _ (fun d hd => h3 d (List.mem_cons_of_mem _ hd))
theorem best_nil {cs : List Ct} {slot : Int} (h : ofSlot cs slot = []) : best cs slot = none := by rw [best_ofSlot, h]
theorem best_cons {cs : List Ct} {slot : Int} {c : Ct} {r : List Ct} (h : ofSlot cs slot = c :: r) : best cs slot = some (newestK c r r.length) := by rw [best_ofSlot, h]
/-- The newest of the slots 1 to k. -/
def ns (cs : List Ct) : Nat → List Ct
  | 0 => []
  | k + 1 => match best cs ((k : Int) + 1) with
    | some c => ns cs k ++ [c]
    | none => ns cs k
theorem ns_yes {cs : List Ct} {k : Nat} {c : Ct} (h : best cs ((k : Int) + 1) = some c) : ns cs (k + 1) = ns cs k ++ [c] := by rw [ns, h]
theorem ns_no {cs : List Ct} {k : Nat} (h : best cs ((k : Int) + 1) = none) : ns cs (k + 1) = ns cs k := by rw [ns, h]
theorem ns_len (cs : List Ct) (k : Nat) : (ns cs k).length ≤ k := by
  induction k with
  | zero => simp [ns]
  | succ k ih =>
    cases h : best cs ((k : Int) + 1) with
    | none => rw [ns_no h]; omega
    | some c => rw [ns_yes h, List.length_append]; simp; omega
theorem ns_mem {cs : List Ct} (k : Nat) {c : Ct} (h : c ∈ ns cs k) : c ∈ cs ∧ 1 ≤ c.slot ∧ c.slot ≤ k := by
  induction k with
  | zero => simp [ns] at h
  | succ k ih =>
    cases hb : best cs ((k : Int) + 1) with
    | none => rw [ns_no hb] at h; have := ih h; exact ⟨this.1, this.2.1, by omega⟩
    | some d =>
      rw [ns_yes hb, List.mem_append] at h
      rcases h with h | h
      · have := ih h; exact ⟨this.1, this.2.1, by omega⟩
      · rw [List.mem_singleton] at h; subst h
        have := best_mem hb
        exact ⟨this.1, by omega, by omega⟩
/-- n zeros more. -/
def zeros (n : Nat) : List Int := List.replicate n 0
def fill1 (vs : List Int) (c : Ct) : List Int := vs ++ zeros ((c.slot - 1).toNat - vs.length) ++ [c.value]
def fillK (l : List Ct) (k : Nat) : List Int := (l.take k).foldl fill1 []
theorem fillK_step {l : List Ct} {k : Nat} {c : Ct} (h : l[k]? = some c) : fillK l (k + 1) = fill1 (fillK l k) c := by
  obtain ⟨hk, rfl⟩ := List.getElem?_eq_some_iff.1 h
  unfold fillK
  rw [List.take_succ_eq_append_getElem hk, List.foldl_append]
  rfl
def pick (cs : List Ct) : Nat → List Int
  | 0 => []
  | k + 1 => match best cs ((k : Int) + 1) with
    | some c => pick cs k ++ zeros (k - (pick cs k).length) ++ [c.value]
    | none => pick cs k
theorem pick_yes {cs : List Ct} {k : Nat} {c : Ct} (h : best cs ((k : Int) + 1) = some c) : pick cs (k + 1) = pick cs k ++ zeros (k - (pick cs k).length) ++ [c.value] := by rw [pick, h]
theorem pick_no {cs : List Ct} {k : Nat} (h : best cs ((k : Int) + 1) = none) : pick cs (k + 1) = pick cs k := by rw [pick, h]
theorem pick_len (cs : List Ct) (k : Nat) : (pick cs k).length ≤ k := by
  induction k with
  | zero => simp [pick]
  | succ k ih =>
    cases h : best cs ((k : Int) + 1) with
    | none => rw [pick_no h]; omega
    | some c => rw [pick_yes h]; simp [zeros]; omega
theorem pick_len_yes {cs : List Ct} {k : Nat} {c : Ct} (h : best cs ((k : Int) + 1) = some c) : (pick cs (k + 1)).length = k + 1 := by
  have := pick_len cs k
  rw [pick_yes h]; simp [zeros]; omega
theorem fill_ns (cs : List Ct) (k : Nat) : fillK (ns cs k) (ns cs k).length = pick cs k := by
  unfold fillK
  rw [List.take_length]
  induction k with
  | zero => rfl
  | succ k ih =>
    cases h : best cs ((k : Int) + 1) with
    | none => rw [ns_no h, pick_no h]; exact ih
    | some c =>
      rw [ns_yes h, pick_yes h, List.foldl_append, ih]
      show fill1 (pick cs k) c = _
      unfold fill1
      rw [(best_mem h).2]
      rw [show ((k : Int) + 1 - 1).toNat = k from by omega]
theorem fillK_len (l : List Ct) (hl : ∀ c ∈ l, 1 ≤ c.slot ∧ c.slot ≤ 30) (hr : ∀ (i j : Nat) c d, i < j → l[i]? = some c → l[j]? = some d → c.slot < d.slot) (k : Nat) (c : Ct) (h : l[k]? = some c) : ((fillK l k).length : Int) ≤ c.slot - 1 := by
  induction k generalizing c with
  | zero => have := hl c (List.mem_of_getElem? h); simp [fillK]; omega
  | succ k ih =>
    have hlt := (List.getElem?_eq_some_iff.1 h).1
    obtain ⟨d, hd⟩ : ∃ d, l[k]? = some d := ⟨_, List.getElem?_eq_getElem (by omega)⟩
    have h1 := ih d hd
    have h2 := hr k (k + 1) d c (by omega) hd h
    have h3 := hl d (List.mem_of_getElem? hd)
    rw [fillK_step hd]
    unfold fill1
    simp [zeros]
    omega
theorem ns_ris (cs : List Ct) (n : Nat) : ∀ (i j : Nat) c d, i < j → (ns cs n)[i]? = some c → (ns cs n)[j]? = some d → c.slot < d.slot := by
  induction n with
  | zero => intro i j c d _ h; simp [ns] at h
  | succ n ih =>
    cases hb : best cs ((n : Int) + 1) with
    | none => rw [ns_no hb]; exact ih
    | some e =>
      rw [ns_yes hb]
      intro i j c d hij hi hj
      by_cases hj2 : j < (ns cs n).length
      · rw [List.getElem?_append_left hj2] at hj
        rw [List.getElem?_append_left (by omega)] at hi
        exact ih i j c d hij hi hj
      · have hjl := (List.getElem?_eq_some_iff.1 hj).1
        rw [List.length_append] at hjl
        simp at hjl
        have hje : j = (ns cs n).length := by omega
        subst hje
        rw [List.getElem?_append_right (Nat.le_refl _)] at hj
        simp at hj
        subst hj
        rw [List.getElem?_append_left hij] at hi
        have h1 := (ns_mem n (List.mem_of_getElem? hi)).2.2
        have h2 := (best_mem hb).2
        omega
/-- What the specification lays down slot by slot. -/
def vals (cs : List Ct) : Nat → List Int
  | 0 => []
  | k + 1 => vals cs k ++ [vl (best cs ((k : Int) + 1))]
theorem vals_len (cs : List Ct) : ∀ k, (vals cs k).length = k
  | 0 => rfl
  | k + 1 => by rw [vals, List.length_append, vals_len]; rfl
theorem vals_pick (cs : List Ct) (k : Nat) : vals cs k = pick cs k ++ zeros (k - (pick cs k).length) := by
  induction k with
  | zero => rfl
  | succ k ih =>
    have hl := pick_len cs k
    rw [vals, ih]
    cases h : best cs ((k : Int) + 1) with
    | none =>
      rw [pick_no h, List.append_assoc]
      congr 1
      rw [show k + 1 - (pick cs k).length = (k - (pick cs k).length) + 1 from by omega]
      unfold zeros
      rw [List.replicate_succ']
      rfl
    | some c =>
      have h2 := pick_len_yes h
      rw [h2, Nat.sub_self]
      rw [pick_yes h]
      simp [zeros, vl]
theorem vals_take (cs : List Ct) (k : Nat) : (vals cs k).take (pick cs k).length = pick cs k := by rw [vals_pick, List.take_left]
/-! ### the certificates of some messages -/
def certsAt (ms : List Ms) (p : Int) : List Ct := match nth ms p with
  | some z => z.certs
  | none => []
theorem certsAt_some {ms : List Ms} {p : Int} {z : Ms} (h : nth ms p = some z) : certsAt ms p = z.certs := by unfold certsAt; rw [h]
def refsAt (ms : List Ms) (p : Int) : List Int := match nth ms p with
  | some z => z.refs
  | none => []
theorem refsAt_some {ms : List Ms} {p : Int} {z : Ms} (h : nth ms p = some z) : refsAt ms p = z.refs := by unfold refsAt; rw [h]
def cat (ms : List Ms) (l : List Int) : List Ct := l.flatMap (certsAt ms)
theorem cat_step {ms : List Ms} {l : List Int} {k : Nat} {p : Int} (h : l[k]? = some p) : cat ms (l.take (k + 1)) = cat ms (l.take k) ++ certsAt ms p := by
  obtain ⟨hk, rfl⟩ := List.getElem?_eq_some_iff.1 h
  unfold cat
  rw [List.take_succ_eq_append_getElem hk, List.flatMap_append]
  simp
theorem cat_in {f : Int} {ms : List Ms} {l : List Int} (h : ledger f ms = 0) : ∀ c ∈ cat ms l, 1 ≤ c.slot ∧ c.slot ≤ 30 ∧ 0 ≤ c.view ∧ c.view ≤ 19 ∧ 0 ≤ c.value ∧ c.value ≤ 12 := by
  intro c hc
  unfold cat at hc
  rw [List.mem_flatMap] at hc
  obtain ⟨p, -, hc⟩ := hc
  cases hn : nth ms p with
  | none => unfold certsAt at hc; rw [hn] at hc; simp at hc
  | some z =>
    rw [certsAt_some hn] at hc
    have h1 := ledger_all h z (List.mem_of_getElem? (nth_some hn).2.2)
    have h2 := (lists_zero h1).2.2.1 c hc
    have h3 := view_in h1
    omega
theorem cat_len {f : Int} {ms : List Ms} (h : ledger f ms = 0) (l : List Int) : (cat ms l).length ≤ 30 * l.length := by
  induction l with
  | nil => simp [cat]
  | cons p r ih =>
    have e : cat ms (p :: r) = certsAt ms p ++ cat ms r := by unfold cat; rw [List.flatMap_cons]
    rw [e, List.length_append, List.length_cons]
    have h1 : (certsAt ms p).length ≤ 30 := by
      cases hn : nth ms p with
      | none => unfold certsAt; rw [hn]; simp
      | some z =>
        rw [certsAt_some hn]
        exact (lists_zero (ledger_all h z (List.mem_of_getElem? (nth_some hn).2.2))).1
    omega
def picks (ms : List Ms) (l : List Int) : List Int := pick (cat ms l) 30
theorem picks_len (ms : List Ms) (l : List Int) : (picks ms l).length ≤ 30 := pick_len _ _
def pickV (f : Int) (ms : List Ms) (refs : List Int) : Int × List Int := if ¬ ledger f ms = 0 then (ledger f ms, []) else if 3 * f + 1 < (refs.length : Int) then (2, []) else if refs.all (fun p => kindAt ms p 4) = false then (4, []) else (0, picks ms refs)
theorem pickV_bad {f : Int} {ms : List Ms} {refs : List Int} (h : ¬ ledger f ms = 0) : pickV f ms refs = (ledger f ms, []) := by unfold pickV; rw [if_pos h]
theorem pickV_many {f : Int} {ms : List Ms} {refs : List Int} (h : ledger f ms = 0) (h2 : 3 * f + 1 < (refs.length : Int)) : pickV f ms refs = (2, []) := by unfold pickV; rw [if_neg (by omega), if_pos h2]
theorem pickV_none {f : Int} {ms : List Ms} {refs : List Int} (h : ledger f ms = 0) (h2 : ¬ 3 * f + 1 < (refs.length : Int)) {k : Nat} {p : Int} (hk : refs[k]? = some p) (h3 : kindAt ms p 4 = false) : pickV f ms refs = (4, []) := by
  unfold pickV; rw [if_neg (by omega), if_neg h2, if_pos (by rw [List.all_eq_false]; exact ⟨p, List.mem_of_getElem? hk, by simp [h3]⟩)]
theorem pickV_ok {f : Int} {ms : List Ms} {refs : List Int} (h : ledger f ms = 0) (h2 : ¬ 3 * f + 1 < (refs.length : Int)) (h3 : ∀ j, j < refs.length → ∀ p, refs[j]? = some p → kindAt ms p 4 = true) : pickV f ms refs = (0, picks ms refs) := by
  unfold pickV; rw [if_neg (by omega), if_neg h2, if_neg]
  rw [Bool.not_eq_false, List.all_eq_true]
  intro p hp
  obtain ⟨j, hj⟩ := List.getElem?_of_mem hp
  exact h3 j (List.getElem?_eq_some_iff.1 hj).1 p hj
theorem pickV_len (f : Int) (ms : List Ms) (refs : List Int) : (pickV f ms refs).2.length ≤ 1048576 := by
  unfold pickV
  split
  · simp
  · split
    · simp
    · split
      · simp
      · have := picks_len ms refs
        show (picks ms refs).length ≤ _
        omega
/-! ### what one has committed -/
def isCm (id view : Int) (z : Ms) : Bool := decide (z.kind = 3 ∧ z.from_ = id ∧ z.view < view)
def cms (ms : List Ms) (id view : Int) : List Ct := (ms.filter (isCm id view)).map (fun z => ⟨z.slot, z.view, z.value⟩)
theorem cms_yes {ms : List Ms} {id view : Int} {k : Nat} {z : Ms} (h : ms[k]? = some z) (h2 : z.kind = 3 ∧ z.from_ = id ∧ z.view < view) : cms (ms.take (k + 1)) id view = cms (ms.take k) id view ++ [⟨z.slot, z.view, z.value⟩] := by
  obtain ⟨hk, rfl⟩ := List.getElem?_eq_some_iff.1 h
  unfold cms
  rw [List.take_succ_eq_append_getElem hk, List.filter_append, List.filter_cons_of_pos (by unfold isCm; exact decide_eq_true h2), List.map_append]
  rfl
theorem cms_no {ms : List Ms} {id view : Int} {k : Nat} {z : Ms} (h : ms[k]? = some z) (h2 : ¬ (z.kind = 3 ∧ z.from_ = id ∧ z.view < view)) : cms (ms.take (k + 1)) id view = cms (ms.take k) id view := by
  obtain ⟨hk, rfl⟩ := List.getElem?_eq_some_iff.1 h
  unfold cms
  rw [List.take_succ_eq_append_getElem hk, List.filter_append, List.filter_cons_of_neg (by unfold isCm; simpa using h2)]
  simp
theorem cms_len (ms : List Ms) (id view : Int) : (cms ms id view).length ≤ ms.length := by
  unfold cms; rw [List.length_map]; exact List.length_filter_le _ _
theorem cms_in {f : Int} {ms : List Ms} {id view : Int} (h : ledger f ms = 0) : ∀ c ∈ cms ms id view, 1 ≤ c.slot ∧ c.slot ≤ 30 ∧ 0 ≤ c.view ∧ c.view ≤ 20 ∧ 0 ≤ c.value ∧ c.value ≤ 12 := by
  intro c hc
  unfold cms at hc
  obtain ⟨z, hz, rfl⟩ := List.mem_map.1 hc
  obtain ⟨hz, hq⟩ := List.mem_filter.1 hz
  unfold isCm at hq
  rw [decide_eq_true_eq] at hq
  obtain ⟨-, -, h1, h2, h3, h4, h5, h6, -⟩ := of_slot (ledger_all h z hz) (Or.inr hq.1)
  exact ⟨h1, h2, h3, h4, h5, h6⟩
def certsV (f : Int) (ms : List Ms) (id view : Int) : Int × List Ct := if ¬ ledger f ms = 0 then (ledger f ms, []) else if ¬ (1 ≤ id ∧ id ≤ 3 * f + 1) then (3, []) else if ¬ (0 ≤ view ∧ view ≤ 20) then (3, []) else (0, ns (cms ms id view) 30)
theorem certsV_bad {f : Int} {ms : List Ms} {id view : Int} (h : ¬ ledger f ms = 0) : certsV f ms id view = (ledger f ms, []) := by unfold certsV; rw [if_pos h]
theorem certsV_id {f : Int} {ms : List Ms} {id view : Int} (h : ledger f ms = 0) (h2 : ¬ (1 ≤ id ∧ id ≤ 3 * f + 1)) : certsV f ms id view = (3, []) := by unfold certsV; rw [if_neg (by omega), if_pos h2]
theorem certsV_view {f : Int} {ms : List Ms} {id view : Int} (h : ledger f ms = 0) (h2 : 1 ≤ id ∧ id ≤ 3 * f + 1) (h3 : ¬ (0 ≤ view ∧ view ≤ 20)) : certsV f ms id view = (3, []) := by unfold certsV; rw [if_neg (by omega), if_neg (by omega), if_pos h3]
theorem certsV_ok {f : Int} {ms : List Ms} {id view : Int} (h : ledger f ms = 0) (h2 : 1 ≤ id ∧ id ≤ 3 * f + 1) (h3 : 0 ≤ view ∧ view ≤ 20) : certsV f ms id view = (0, ns (cms ms id view) 30) := by unfold certsV; rw [if_neg (by omega), if_neg (by omega), if_neg (by omega)]
theorem certsV_len (f : Int) (ms : List Ms) (id view : Int) : (certsV f ms id view).2.length ≤ 30 := by
  unfold certsV
  split
  · simp
  · split
    · simp
    · split
      · simp
      · exact ns_len _ _
/-! ### what may be proposed -/
def startB (f : Int) (ms : List Ms) (view start : Int) : Bool := if view = 0 then decide (start = -1) else newAt f ms start && decide (viewAt ms start = view)
def valueB (ms : List Ms) (start slot value : Int) : Bool := if start < 0 then decide (0 < value) else if slot ≤ ((picks ms (refsAt ms start)).length : Int) then decide (value = (picks ms (refsAt ms start)).getD (slot - 1).toNat 0) else decide (0 < value)
def proposeB (f : Int) (ms : List Ms) (z : Ms) (start : Int) : Bool := decide (z.kind = 1) && decide (z.from_ = primary f z.view) && startB f ms z.view start && valueB ms start z.slot z.value
def proposeAt (f : Int) (ms : List Ms) (p start : Int) : Bool := match nth ms p with
  | some z => proposeB f ms z start
  | none => false
theorem proposeAt_some {f : Int} {ms : List Ms} {p start : Int} {z : Ms} (h : nth ms p = some z) : proposeAt f ms p start = proposeB f ms z start := by unfold proposeAt; rw [h]
theorem proposeAt_none {f : Int} {ms : List Ms} {p start : Int} (h : nth ms p = none) : proposeAt f ms p start = false := by unfold proposeAt; rw [h]
def proposeRight (f : Int) (ms : List Ms) (p start : Int) : Bool := decide (ledger f ms = 0) && proposeAt f ms p start
theorem proposeRight_bad {f : Int} {ms : List Ms} {p start : Int} (h : ¬ ledger f ms = 0) : proposeRight f ms p start = false := by unfold proposeRight; rw [decide_eq_false h]; rfl
theorem proposeRight_ok {f : Int} {ms : List Ms} {p start : Int} (h : ledger f ms = 0) : proposeRight f ms p start = proposeAt f ms p start := by unfold proposeRight; rw [decide_eq_true h]; rfl
end Msg
end Go.Proofs.Ytecgjdgfjgcmdaa
