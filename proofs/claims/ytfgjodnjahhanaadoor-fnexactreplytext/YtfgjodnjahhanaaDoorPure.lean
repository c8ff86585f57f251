/- Plain mathematics of chapter 1: what it is to read a path byte by byte, and to cut it at its slashes; that both tell the same. Nothing here speaks of a program. -/
namespace Go.Proofs.YtfgjodnjahhanaaDoor
namespace Pth

def nb (c : UInt8) : Bool := (decide (97 ≤ c) && decide (c ≤ 122)) || (decide (48 ≤ c) && decide (c ≤ 57))

/-- The machine inside a name: k bytes of it are read; at: the place; last: where the name begins; names: how many. -/
def scan : List UInt8 → Nat → Nat → Nat → Nat → Option (Nat × Nat)
  | [], k, _, last, names => if k = 0 then none else some (names, last)
  | c :: r, k, at_, last, names =>
    if k < 8 ∧ nb c = true then scan r (k + 1) (at_ + 1) last names
    else if k = 0 then none
    else if c = 47 then scan r 0 (at_ + 1) (at_ + 1) (names + 1) else none

def slashAt : List UInt8 → Nat → Nat → Option (Nat × Nat)
  | [], _, _ => none
  | c :: r, at_, names => if c = 47 then scan r 0 (at_ + 1) (at_ + 1) (names + 1) else none

def rd (l : List UInt8) : Option (Nat × Nat) := if l = [47] then some (0, 0) else slashAt l 0 0

def many (l : List UInt8) : Bool := decide (24 < l.length) || decide (4 < l.count 47)

def faultI (l : List UInt8) : Int := if many l then 2 else if (rd l).isNone then 5 else 0

def cut : List UInt8 → List UInt8 → List (List UInt8)
  | cur, [] => [cur]
  | cur, c :: r => if c = 47 then cur :: cut [] r else cut (cur ++ [c]) r

def okName (n : List UInt8) : Bool := n.all nb && (decide (1 ≤ n.length) && decide (n.length ≤ 8))

def namesS (l : List UInt8) : Option (List (List UInt8)) :=
  if l = [47] then some [] else
  if (cut [] l).length < 2 ∨ (cut [] l).head? ≠ some [] then none
  else if (cut [] l).tail.all okName then some (cut [] l).tail else none

def manyS (l : List UInt8) : Bool := decide (24 < l.length) || (decide (l ≠ [47]) && decide (5 < (cut [] l).length))
def faultS (l : List UInt8) : Int := if manyS l then 2 else if (namesS l).isNone then 5 else 0

def lastSl : List UInt8 → Nat → Nat → Nat
  | [], _, a => a
  | c :: r, i, a => if c = 47 then lastSl r (i + 1) i else lastSl r (i + 1) a

theorem nb_ne (c : UInt8) (h : nb c = true) : c ≠ 47 := by
  intro e; subst e; revert h; decide

theorem cut_sl (cur r : List UInt8) : cut cur ((47 : UInt8) :: r) = cur :: cut [] r := by rw [cut, if_pos rfl]
theorem cut_ne (cur : List UInt8) (c : UInt8) (r : List UInt8) (h : ¬ c = 47) : cut cur (c :: r) = cut (cur ++ [c]) r := by rw [cut, if_neg h]

theorem cut_length (l : List UInt8) : ∀ cur, (cut cur l).length = l.count 47 + 1 := by
  induction l with
  | nil => intro cur; simp [cut]
  | cons c r ih =>
    intro cur
    unfold cut
    by_cases h : c = 47
    · subst h; simp [ih]
    · have h2 : ¬ (c == 47) = true := by simpa using h
      rw [if_neg h, ih, List.count_cons, if_neg h2]

theorem cut_head (l : List UInt8) : ∀ cur, ∃ p t, cut [] l = p :: t ∧ cut cur l = (cur ++ p) :: t := by
  induction l with
  | nil => intro cur; exact ⟨[], [], by simp [cut], by simp [cut]⟩
  | cons c r ih =>
    intro cur
    unfold cut
    by_cases h : c = 47
    · simp only [if_pos h]; exact ⟨[], cut [] r, rfl, by simp⟩
    · simp only [if_neg h]
      obtain ⟨p, t, h1, h2⟩ := ih [c]
      obtain ⟨p', t', h1', h2'⟩ := ih (cur ++ [c])
      rw [h1] at h1'
      simp only [List.cons.injEq] at h1'
      obtain ⟨rfl, rfl⟩ := h1'
      exact ⟨[c] ++ p, t, by simpa using h2, by rw [h2']; simp⟩

theorem cut_mem_len (l : List UInt8) : ∀ cur x, x ∈ cut cur l → x.length ≤ cur.length + l.length := by
  induction l with
  | nil => intro cur x h; simp [cut] at h; subst h; simp
  | cons c r ih =>
    intro cur x h
    by_cases hc : c = 47
    · subst hc
      rw [cut_sl, List.mem_cons] at h
      rcases h with rfl | h
      · simp
      · have := ih [] x h; simp at this ⊢; omega
    · rw [cut_ne _ _ _ hc] at h
      have := ih _ x h; simp at this ⊢; omega

/-- What the machine says inside a name is what the pieces say. -/
theorem scan_isSome (l : List UInt8) : ∀ (cur : List UInt8) (at_ last names : Nat), cur.all nb = true → cur.length ≤ 8 →
    (scan l cur.length at_ last names).isSome = (cut cur l).all okName := by
  induction l with
  | nil =>
    intro cur at_ last names ha hl
    by_cases h : cur.length = 0
    · simp [scan, cut, okName, h]
    · have h1 : decide (1 ≤ cur.length) = true := by simp; omega
      have h8 : decide (cur.length ≤ 8) = true := by simpa using hl
      simp only [scan, if_neg h, cut, List.all_cons, List.all_nil, okName, ha, h1, h8]
      rfl
  | cons c r ih =>
    intro cur at_ last names ha hl
    unfold scan
    by_cases hc : c = 47
    · subst hc
      have hg : ¬ (cur.length < 8 ∧ nb 47 = true) := by
        rintro ⟨_, h⟩; revert h; decide
      rw [if_neg hg, cut_sl]
      by_cases h0 : cur.length = 0
      · have hcur : cur = [] := List.eq_nil_of_length_eq_zero h0
        subst hcur
        simp [okName]
      · rw [if_neg h0, if_pos rfl]
        have := ih [] (at_ + 1) (at_ + 1) (names + 1) rfl (by simp)
        simp only [List.length_nil] at this
        rw [this]
        have h1 : decide (1 ≤ cur.length) = true := by simp; omega
        have h8 : decide (cur.length ≤ 8) = true := by simpa using hl
        simp only [List.all_cons, okName, ha, h1, h8]
        simp
    · rw [cut_ne _ _ _ hc]
      by_cases hg : cur.length < 8 ∧ nb c = true
      · rw [if_pos hg]
        have := ih (cur ++ [c]) (at_ + 1) last names (by simp [ha, hg.2]) (by simp; omega)
        rw [← this]
        simp
      · rw [if_neg hg]
        obtain ⟨p, t, _, h2⟩ := cut_head r (cur ++ [c])
        have hbad : okName ((cur ++ [c]) ++ p) = false := by
          unfold okName
          by_cases hn : nb c = true
          · have h8 : ¬ cur.length < 8 := fun h => hg ⟨h, hn⟩
            have : decide (((cur ++ [c]) ++ p).length ≤ 8) = false := by simp; omega
            rw [this]; simp
          · simp [hn]
        rw [h2, List.all_cons, hbad, Bool.false_and]
        by_cases h0 : cur.length = 0
        · rw [if_pos h0]; rfl
        · rw [if_neg h0, if_neg hc]; rfl

theorem scan_some (l : List UInt8) : ∀ (k at_ last names n la : Nat), 1 ≤ last → scan l k at_ last names = some (n, la) →
    n = names + l.count 47 ∧ la = lastSl l at_ (last - 1) + 1 := by
  induction l with
  | nil =>
    intro k at_ last names n la hl h
    unfold scan at h
    by_cases h0 : k = 0
    · simp [h0] at h
    · simp [h0] at h
      obtain ⟨rfl, rfl⟩ := h
      simp [lastSl]; omega
  | cons c r ih =>
    intro k at_ last names n la hl h
    unfold scan at h
    by_cases hg : k < 8 ∧ nb c = true
    · rw [if_pos hg] at h
      have hc := nb_ne c hg.2
      obtain ⟨h1, h2⟩ := ih _ _ _ _ _ _ hl h
      have h3 : ¬ (c == 47) = true := by simpa using hc
      rw [List.count_cons, if_neg h3, lastSl, if_neg hc]
      exact ⟨by omega, h2⟩
    · rw [if_neg hg] at h
      by_cases h0 : k = 0
      · simp [h0] at h
      · rw [if_neg h0] at h
        by_cases hc : c = 47
        · rw [if_pos hc] at h
          obtain ⟨h1, h2⟩ := ih _ _ _ _ _ _ (by omega) h
          subst hc
          refine ⟨by simp; omega, ?_⟩
          rw [lastSl, if_pos rfl, h2]
          simp
        · rw [if_neg hc] at h; cases h

theorem rd_isSome (l : List UInt8) : (rd l).isSome = (namesS l).isSome := by
  unfold rd namesS
  by_cases h : l = [47]
  · simp [h]
  · rw [if_neg h, if_neg h]
    cases l with
    | nil => simp [slashAt, cut]
    | cons c r =>
      by_cases hc : c = 47
      · subst hc
        have hs := scan_isSome r [] 1 1 1 rfl (by simp)
        simp only [List.length_nil] at hs
        have hcut : cut [] ((47 : UInt8) :: r) = [] :: cut [] r := by simp [cut]
        have hlen : ¬ ((cut [] ((47 : UInt8) :: r)).length < 2 ∨ (cut [] ((47 : UInt8) :: r)).head? ≠ some []) := by
          rw [hcut]; have := cut_length r []; simp; omega
        rw [if_neg hlen, hcut]
        simp only [slashAt, if_true, Nat.zero_add, hs]
        split
        · rename_i ha; rw [show (cut [] r).all okName = true from ha]; rfl
        · rename_i ha; rw [show (cut [] r).all okName = false from by simpa using ha]; rfl
      · obtain ⟨p, t, _, h2⟩ := cut_head r [c]
        have hcut : cut [] (c :: r) = ([c] ++ p) :: t := by rw [cut, if_neg hc]; simpa using h2
        have hh : (cut [] (c :: r)).length < 2 ∨ (cut [] (c :: r)).head? ≠ some [] := by
          right; rw [hcut]; simp
        rw [if_pos hh]
        simp [slashAt, hc]

theorem rd_some (l : List UInt8) (n la : Nat) (hne : l ≠ [47]) (h : rd l = some (n, la)) :
    n = l.count 47 ∧ la = lastSl l 0 0 + 1 ∧ ∃ r, l = 47 :: r ∧ r ≠ [] := by
  unfold rd at h
  rw [if_neg hne] at h
  cases l with
  | nil => simp [slashAt] at h
  | cons c r =>
    by_cases hc : c = 47
    · subst hc
      simp only [slashAt, if_true, Nat.zero_add] at h
      obtain ⟨h1, h2⟩ := scan_some r 0 1 1 1 n la (by omega) h
      refine ⟨by simp; omega, ?_, r, rfl, ?_⟩
      · rw [h2]; simp [lastSl]
      · rintro rfl; exact hne rfl
    · simp [slashAt, hc] at h

theorem many_eq (l : List UInt8) : many l = manyS l := by
  unfold many manyS
  rw [cut_length]
  by_cases h : l = [47]
  · subst h; decide
  · have e : decide (5 < l.count 47 + 1) = decide (4 < l.count 47) := by
      rw [decide_eq_decide]; omega
    simp [h, e]

theorem fault_eq (l : List UInt8) : faultI l = faultS l := by
  unfold faultI faultS
  rw [many_eq]
  have := rd_isSome l
  have e : (rd l).isNone = (namesS l).isNone := by
    cases h1 : rd l <;> cases h2 : namesS l <;> simp_all
  rw [e]

/-- How many names the pieces give. -/
theorem namesS_length (l : List UInt8) (ns : List (List UInt8)) (h : namesS l = some ns) (hne : l ≠ [47]) : ns.length = l.count 47 := by
  unfold namesS at h
  rw [if_neg hne] at h
  by_cases h1 : (cut [] l).length < 2 ∨ (cut [] l).head? ≠ some []
  · rw [if_pos h1] at h; cases h
  · rw [if_neg h1] at h
    by_cases h2 : (cut [] l).tail.all okName = true
    · rw [if_pos h2] at h
      simp only [Option.some.injEq] at h
      subst h
      rw [List.length_tail, cut_length]; omega
    · rw [if_neg h2] at h; cases h

theorem count_lastSl (l : List UInt8) : ∀ i a, l.count 47 = 0 → lastSl l i a = a := by
  induction l with
  | nil => intro i a _; rfl
  | cons c r ih =>
    intro i a h
    by_cases hc : c = 47
    · subst hc; simp at h
    · have h3 : ¬ (c == 47) = true := by simpa using hc
      rw [List.count_cons, if_neg h3] at h
      rw [lastSl, if_neg hc]
      exact ih _ _ (by omega)

theorem lastSl_pos (l : List UInt8) : ∀ i a, 0 < l.count 47 → i ≤ lastSl l i a := by
  induction l with
  | nil => intro i a h; simp at h
  | cons c r ih =>
    intro i a h
    by_cases hc : c = 47
    · rw [lastSl, if_pos hc]
      by_cases h0 : 0 < r.count 47
      · have := ih (i + 1) i h0; omega
      · rw [count_lastSl r _ _ (by omega)]; omega
    · have h3 : ¬ (c == 47) = true := by simpa using hc
      rw [List.count_cons, if_neg h3] at h
      rw [lastSl, if_neg hc]
      have := ih (i + 1) a (by omega); omega

theorem lastSl_lt (l : List UInt8) : ∀ i a, lastSl l i a = a ∨ lastSl l i a < i + l.length := by
  induction l with
  | nil => intro i a; left; rfl
  | cons c r ih =>
    intro i a
    by_cases hc : c = 47
    · rw [lastSl, if_pos hc]
      rcases ih (i + 1) i with h | h
      · right; rw [h]; simp
      · right; simp only [List.length_cons]; omega
    · rw [lastSl, if_neg hc]
      rcases ih (i + 1) a with h | h
      · left; exact h
      · right; simp only [List.length_cons]; omega

/-- One name: the last slash is the first byte; several: it is not. -/
theorem last_one (r : List UInt8) : (((47 : UInt8) :: r).count 47 = 1) ↔ lastSl ((47 : UInt8) :: r) 0 0 = 0 := by
  rw [lastSl, if_pos rfl]
  simp only [List.count_cons_self]
  constructor
  · intro h; exact count_lastSl r _ _ (by omega)
  · intro h
    rcases Nat.eq_zero_or_pos (r.count 47) with h0 | h0
    · omega
    · have := lastSl_pos r (0 + 1) 0 h0; omega

/-- A text behind a slash is a path of one name just if it is a name. -/
theorem isName_eq (t : List UInt8) : (!many ((47 : UInt8) :: t) && ((rd ((47 : UInt8) :: t)).map (·.1) == some 1)) = okName t := by
  by_cases ht : t = []
  · subst ht; decide
  have hne : ((47 : UInt8) :: t) ≠ [47] := by simpa using ht
  have hs := scan_isSome t [] 1 1 1 rfl (by simp)
  simp only [List.length_nil] at hs
  have hrd : rd ((47 : UInt8) :: t) = scan t 0 1 1 1 := by
    unfold rd; rw [if_neg hne]; simp [slashAt]
  by_cases h0 : t.count 47 = 0
  · -- no slash in it: one piece
    have hc : cut [] t = [t] := by
      obtain ⟨p, q, h1, _⟩ := cut_head t []
      have hl := cut_length t []
      rw [h1] at hl
      have hq : q = [] := by
        cases q with
        | nil => rfl
        | cons a b => simp at hl; omega
      subst hq
      have key : ∀ (l cur : List UInt8), l.count 47 = 0 → cut cur l = [cur ++ l] := by
        intro l
        induction l with
        | nil => intro cur _; simp [cut]
        | cons c r ih =>
          intro cur hc
          by_cases h47 : c = 47
          · subst h47; simp at hc
          · have h3 : ¬ (c == 47) = true := by simpa using h47
            rw [List.count_cons, if_neg h3] at hc
            rw [cut, if_neg h47, ih _ (by omega)]; simp
      simpa using key t [] h0
    rw [hc] at hs
    simp only [List.all_cons, List.all_nil, Bool.and_true] at hs
    rw [hrd]
    cases hsc : scan t 0 1 1 1 with
    | none =>
      rw [hsc] at hs
      simp only [Option.isSome_none] at hs
      rw [← hs]; simp
    | some x =>
      obtain ⟨n, la⟩ := x
      rw [hsc] at hs
      simp only [Option.isSome_some] at hs
      obtain ⟨h1, _⟩ := scan_some t 0 1 1 1 n la (by omega) hsc
      have hok : okName t = true := hs.symm
      have hlen : t.length ≤ 8 := by
        unfold okName at hok
        simp only [Bool.and_eq_true, decide_eq_true_eq] at hok
        exact hok.2.2
      have hm : many ((47 : UInt8) :: t) = false := by
        unfold many
        simp [h0]; omega
      rw [hm, hok, h1, h0]; rfl
  · -- a slash in it: no name, and not one name
    have hok : okName t = false := by
      unfold okName
      have : t.all nb = false := by
        have hm : (47 : UInt8) ∈ t := List.count_pos_iff.1 (by omega)
        rw [List.all_eq_false]
        exact ⟨47, hm, by decide⟩
      rw [this]; rfl
    rw [hok, hrd]
    cases hsc : scan t 0 1 1 1 with
    | none => simp
    | some x =>
      obtain ⟨n, la⟩ := x
      obtain ⟨h1, _⟩ := scan_some t 0 1 1 1 n la (by omega) hsc
      have : ¬ n = 1 := by omega
      simp [this]

/-! ### What the functions answer -/
def parentV (l : List UInt8) : Int × List UInt8 :=
  if faultI l ≠ 0 then (faultI l, []) else if l = [47] then (4, []) else (0, if lastSl l 0 0 = 0 then [47] else l.take (lastSl l 0 0))
def nameV (l : List UInt8) : Int × List UInt8 :=
  if faultI l ≠ 0 then (faultI l, []) else if l = [47] then (4, []) else (0, l.drop (lastSl l 0 0 + 1))
def deepV (l : List UInt8) : Int × Int :=
  if faultI l ≠ 0 then (faultI l, 0) else (0, if l = [47] then 0 else (l.count 47 : Nat))
def joined (l n : List UInt8) : List UInt8 := if l = [47] then 47 :: n else l ++ 47 :: n
def joinV (l n : List UInt8) : Int × List UInt8 :=
  if faultI l ≠ 0 then (faultI l, []) else if okName n = false then (5, []) else if faultI (joined l n) ≠ 0 then (faultI (joined l n), []) else (0, joined l n)
def under (p t : List UInt8) : Bool := decide (p = t) || (decide (t = [47]) || (t ++ [47]).isPrefixOf p)
def underV (p t : List UInt8) : Bool := decide (faultI p = 0) && (decide (faultI t = 0) && under p t)
def seqd (n : List UInt8) (k : Nat) : List UInt8 := n ++ [UInt8.ofNat (48 + k / 10), UInt8.ofNat (48 + k % 10)]
def seqV (n : List UInt8) (k : Int) : Int × List UInt8 :=
  if okName n = false then (5, []) else if k < 0 ∨ 99 < k then (3, []) else if okName (seqd n k.toNat) = false then (5, []) else (0, seqd n k.toNat)

theorem fault_cases (l : List UInt8) : (many l = true ∧ faultI l = 2) ∨ (many l = false ∧ rd l = none ∧ faultI l = 5) ∨ (many l = false ∧ faultI l = 0 ∧ ∃ n la, rd l = some (n, la)) := by
  unfold faultI
  cases hm : many l
  · cases hr : rd l with
    | none => right; left; exact ⟨rfl, rfl, by simp⟩
    | some x => right; right; exact ⟨rfl, by simp, x.1, x.2, rfl⟩
  · left; exact ⟨rfl, by simp⟩

theorem rd_top (l : List UInt8) (n la : Nat) (h : rd l = some (n, la)) : (l = [47] ∧ n = 0 ∧ la = 0) ∨ (l ≠ [47] ∧ n = l.count 47 ∧ 1 ≤ n ∧ la = lastSl l 0 0 + 1 ∧ (n = 1 ↔ lastSl l 0 0 = 0) ∧ la ≤ l.length) := by
  by_cases hl : l = [47]
  · left
    rw [hl] at h
    have : rd [47] = some (0, 0) := rfl
    rw [this] at h
    simp only [Option.some.injEq, Prod.mk.injEq] at h
    exact ⟨hl, h.1.symm, h.2.symm⟩
  · right
    obtain ⟨h1, h2, r, h3, h4⟩ := rd_some l n la hl h
    refine ⟨hl, h1, ?_, h2, ?_, ?_⟩
    · rw [h1, h3]; simp
    · rw [h1, h3]; exact last_one r
    · have hp : 0 < l.length := by rw [h3]; simp
      rcases lastSl_lt l 0 0 with h | h
      · rw [h2, h]; omega
      · rw [h2]; omega

end Pth
end Go.Proofs.YtfgjodnjahhanaaDoor
