/- Jumps, W2, in one text. -/
import Derived.ScopeJumps
import Derived.WalkMore
import Derived.Test.YtilinjjimiiplaaGreatDoorKqJ9
namespace Go.Proofs.YtilinjjimiiplaaGreatDoor
open Go
/-- As Q; by a goto: J of its label. -/
def Jumped (J : Nat → Act → World → Prop) (Q : Exit → Act → World → Prop) : Exit → Act → World → Prop
  | .goto l, a, w => J l a w
  | e, a, w => Q e a w

section
variable {P : Program} {a : Act} {w : World} {Q : Exit → Act → World → Prop}
theorem jumped_ret (J : Nat → Act → World → Prop) : Jumped J Q .ret a w = Q .ret a w := rfl
theorem wp_scope_labels {c : Code} (rest : Nat → Code) (J : Nat → Act → World → Prop) (μ : Nat → Act → World → Nat) (hf : ∀ l a w, J l a w → findLabel c l = some (rest l))
    (first : c.wp P (Jumped J Q) a w)
    (pass : ∀ l a w, J l a w → (rest l).wp P (Jumped (fun l' a' w' => J l' a' w' ∧ μ l' a' w' < μ l a w) Q) a w) : (Code.scope c).wp P Q a w := by
  intro b k cs
  have hg : ∀ l a w, J l a w → gotoIn l (.inScope c :: k) = some (.code (rest l) :: .inScope c :: k) := fun l a w h => by simp [gotoIn, hf l a w h]
  have key : ∀ n l a w, μ l a w = n → J l a w → ∃ e a' w', Q e a' w' ∧ Arrives P (lone (b.at a (.code (rest l) :: .inScope c :: k)) cs w) b k cs e a' w' := by
    intro n
    induction n using Nat.strongRecOn with
    | _ n ih =>
      intro l a w hn hJ
      obtain ⟨e, a₁, w₁, hq, harr⟩ := pass l a w hJ b (.inScope c :: k) cs
      cases e with
      | normal => exact ⟨.normal, a₁, w₁, hq, Steps.trans harr (.one step_inScope)⟩
      | exit id => exact ⟨.exit id, a₁, w₁, hq, fun k' hk => harr k' (by simp [exitTo, hk])⟩
      | goto l' =>
        obtain ⟨hJ', hlt⟩ := hq
        obtain ⟨e₂, a₂, w₂, hq₂, harr₂⟩ := ih _ (by omega) l' a₁ w₁ rfl hJ'
        exact ⟨e₂, a₂, w₂, hq₂, .of_steps (harr _ (hg l' a₁ w₁ hJ')) harr₂⟩
      | ret => exact ⟨_, a₁, w₁, hq, harr⟩
      | panic ch => exact ⟨_, a₁, w₁, hq, harr⟩
      | outgrown => exact ⟨_, a₁, w₁, hq, harr⟩
  obtain ⟨e, a₁, w₁, hq, harr⟩ := first b (.inScope c :: k) cs
  cases e with
  | normal => exact ⟨.normal, a₁, w₁, hq, .head step_scope (Steps.trans harr (.one step_inScope))⟩
  | exit id => exact ⟨.exit id, a₁, w₁, hq, fun k' hk => .head step_scope (harr k' (by simp [exitTo, hk]))⟩
  | goto l' =>
    obtain ⟨e₂, a₂, w₂, hq₂, harr₂⟩ := key _ l' a₁ w₁ rfl hq
    exact ⟨e₂, a₂, w₂, hq₂, .of_steps (.head step_scope (harr _ (hg l' a₁ w₁ hq))) harr₂⟩
  | ret => exact ⟨_, a₁, w₁, hq, .of_steps (.one step_scope) harr⟩
  | panic ch => exact ⟨_, a₁, w₁, hq, .of_steps (.one step_scope) harr⟩
  | outgrown => exact ⟨_, a₁, w₁, hq, .of_steps (.one step_scope) harr⟩

theorem jumped_mono {J J' : Nat → Act → World → Prop} (h : ∀ l a w, J l a w → J' l a w) : ∀ e a w, Jumped J Q e a w → Jumped J' Q e a w := by
  intro e a w hj
  cases e with
  | goto l => exact h l a w hj
  | normal => exact hj
  | exit id => exact hj
  | ret => exact hj
  | panic ch => exact hj
  | outgrown => exact hj

def J4 (J0 J1 J2 J3 : Act → World → Prop) : Nat → Act → World → Prop
  | 0, a, w => J0 a w
  | 1, a, w => J1 a w
  | 2, a, w => J2 a w
  | 3, a, w => J3 a w
  | _, _, _ => False

/-- Four labels, of which the code of 1 falls into that of 3, and what stands ahead into that of 1. -/
theorem wp_scope4 {c r0 r1 r2 r3 : Code} (J0 J1 J2 J3 : Act → World → Prop) (μ : Nat → Act → World → Nat)
    (h0 : findLabel c 0 = some (Code.skip.seq r0)) (h1 : findLabel c 1 = some (Code.skip.seq r1)) (h2 : findLabel c 2 = some (Code.skip.seq r2)) (h3 : findLabel c 3 = some (Code.skip.seq r3))
    (p0 : ∀ a w, J0 a w → r0.wp P (Jumped (fun l' a' w' => J4 J0 J1 J2 J3 l' a' w' ∧ μ l' a' w' < μ 0 a w) Q) a w)
    (p2 : ∀ a w, J2 a w → r2.wp P (Jumped (fun l' a' w' => J4 J0 J1 J2 J3 l' a' w' ∧ μ l' a' w' < μ 2 a w) Q) a w)
    (p3 : ∀ a w, J3 a w → r3.wp P (Jumped (fun l' a' w' => J4 J0 J1 J2 J3 l' a' w' ∧ μ l' a' w' < μ 3 a w) Q) a w)
    (p1 : ∀ a w, J1 a w → (∀ a1 w1, J3 a1 w1 → μ 3 a1 w1 ≤ μ 1 a w → r3.wp P (Jumped (fun l' a' w' => J4 J0 J1 J2 J3 l' a' w' ∧ μ l' a' w' < μ 1 a w) Q) a1 w1) →
      r1.wp P (Jumped (fun l' a' w' => J4 J0 J1 J2 J3 l' a' w' ∧ μ l' a' w' < μ 1 a w) Q) a w)
    (first : (∀ a1 w1, J1 a1 w1 → r1.wp P (Jumped (J4 J0 J1 J2 J3) Q) a1 w1) → c.wp P (Jumped (J4 J0 J1 J2 J3) Q) a w) : (Code.scope c).wp P Q a w := by
  have p1' : ∀ a w, J1 a w → r1.wp P (Jumped (fun l' a' w' => J4 J0 J1 J2 J3 l' a' w' ∧ μ l' a' w' < μ 1 a w) Q) a w := fun a w hj =>
    p1 a w hj (fun a1 w1 hj1 hm => Code.wp_mono (jumped_mono (fun l a' w' h => ⟨h.1, by omega⟩)) (p3 a1 w1 hj1))
  refine wp_scope_labels (fun l => match l with | 0 => Code.skip.seq r0 | 1 => Code.skip.seq r1 | 2 => Code.skip.seq r2 | 3 => Code.skip.seq r3 | _ => Code.skip) (J4 J0 J1 J2 J3) μ ?_
    (first (fun a1 w1 hj => Code.wp_mono (jumped_mono (fun l a' w' h => h.1)) (p1' a1 w1 hj))) ?_
  · intro l a w hj
    match l, hj with
    | 0, _ => exact h0
    | 1, _ => exact h1
    | 2, _ => exact h2
    | 3, _ => exact h3
    | n + 4, hj => exact absurd hj (by intro h; exact h)
  · intro l a w hj
    match l, hj with
    | 0, hj => exact wp_seq (wp_skip (p0 a w hj))
    | 1, hj => exact wp_seq (wp_skip (p1' a w hj))
    | 2, hj => exact wp_seq (wp_skip (p2 a w hj))
    | 3, hj => exact wp_seq (wp_skip (p3 a w hj))
    | n + 4, hj => exact absurd hj (by intro h; exact h)
end
end Go.Proofs.YtilinjjimiiplaaGreatDoor
namespace Go.Proofs.YtilinjjimiiplaaGreatDoor
open Go.RowKit
/-- The frame and the world at each label: only the place, the last name's start and the count of names turn. -/
def Frm (s : ByteArray) (w : World) (R : Nat → Nat → Nat → Prop) (a : Act) (w' : World) : Prop :=
  ∃ (at_ last names : Nat) (u1 u6 u7 u8 u9 u10 u11 u12 u13 u14 u15 u16 u17 u18 u19 u20 u21 u22 u23 u24 u25 u26 u27 u28 u29 u30 u31 u32 u33 u34 u35 u36 u37 u38 u39 u40 u41 u42 u43 u44 u45 u46 u47 u48 u49 u50 u51 u52 u53 u54 u55 u56 u57 u58 u59 u60 u61 u62 u63 : Value), w' = (w.alloc (.cells #[.int .i64 0, .int .i64 0] 91)).alloc (.cells #[.int .i64 (names : Int), .int .i64 (last : Int)] 91) ∧ a = { tmps := #[.string s, u1, .pointer (some ⟨w.heap.size, 0, none⟩), .nilIface, .pointer (some ⟨w.heap.size + 1, 0, none⟩), .int .i64 (at_ : Int), u6, u7, u8, u9, u10, u11, u12, u13, u14, u15, u16, u17, u18, u19, u20, u21, u22, u23, u24, u25, u26, u27, u28, u29, u30, u31, u32, u33, u34, u35, u36, u37, u38, u39, u40, u41, u42, u43, u44, u45, u46, u47, u48, u49, u50, u51, u52, u53, u54, u55, u56, u57, u58, u59, u60, u61, u62, u63], defers := [] } ∧ R at_ last names

def Rwrong (l : List UInt8) (_ _ _ : Nat) : Prop := Pth.rd l = none
def Rdone (l : List UInt8) (_ last names : Nat) : Prop := Pth.rd l = some (names, last)
def Rname (l : List UInt8) (at_ last names : Nat) : Prop :=
  at_ ≤ l.length ∧ last ≤ at_ ∧ at_ - last ≤ 8 ∧ 1 ≤ last ∧ names ≤ at_ ∧ l.length ≠ 1 ∧ Pth.scan (l.drop at_) (at_ - last) at_ last names = Pth.rd l
def Rslash (l : List UInt8) (at_ last names : Nat) : Prop :=
  at_ ≤ l.length ∧ names ≤ at_ ∧ (l.length = 1 → at_ = 0 ∧ names = 0 ∧ last = 0) ∧ (l ≠ [47] → Pth.slashAt (l.drop at_) at_ names = Pth.rd l)

/-- Inside a name: one byte on. -/
theorem name_on (s : ByteArray) (k last names : Nat) (h : k < s.size) (h8 : k < last + 8) (hb : nbI (s[k].toNat : Int) = true) (hr : Rname s.data.toList k last names) :
    Rname s.data.toList (k + 1) last names := by
  obtain ⟨a, b, c, d, e, f, g⟩ := hr
  rw [len_eq] at *
  rw [nbI_eq] at hb
  refine ⟨by rw [len_eq]; omega, by omega, by omega, by omega, by omega, by rw [len_eq]; exact f, ?_⟩
  rw [← g, drop_at s k h, Pth.scan, if_pos ⟨by omega, hb⟩]
  congr 1; omega
/-- The name has no byte. -/
theorem name_none (s : ByteArray) (k names : Nat) (hr : Rname s.data.toList k k names) (hz : ¬ (k < s.size ∧ k < k + 8 ∧ ∃ h : k < s.size, nbI (s[k].toNat : Int) = true)) : Rwrong s.data.toList k k names := by
  obtain ⟨a, b, c, d, e, f, g⟩ := hr
  rw [len_eq] at *
  unfold Rwrong
  rw [← g, Nat.sub_self]
  by_cases h : k < s.size
  · have hb : ¬ Pth.nb s[k] = true := by
      intro hb; rw [← nbI_eq] at hb; exact hz ⟨h, by omega, h, hb⟩
    rw [drop_at s k h, Pth.scan, if_neg (fun x => hb x.2), if_pos rfl]
  · rw [List.drop_of_length_le (by rw [len_eq]; omega)]; rfl
/-- The name ends, and the text goes on. -/
theorem name_slash (s : ByteArray) (k last names : Nat) (h : k < s.size) (hne : ¬ k = last) (hr : Rname s.data.toList k last names) (hz : k < last + 8 → nbI (s[k].toNat : Int) = false) :
    Rslash s.data.toList k last names := by
  obtain ⟨a, b, c, d, e, f, g⟩ := hr
  refine ⟨a, e, fun x => absurd x f, fun _ => ?_⟩
  rw [← g, drop_at s k h, Pth.scan, if_neg ?_, if_neg (by omega)]
  · rfl
  · rintro ⟨x, y⟩
    have := hz (by omega)
    rw [nbI_eq, y] at this
    cases this
/-- The name ends with the text. -/
theorem name_done (s : ByteArray) (k last names : Nat) (h : ¬ k < s.size) (hne : ¬ k = last) (hr : Rname s.data.toList k last names) : Rdone s.data.toList k last names := by
  obtain ⟨a, b, c, d, e, f, g⟩ := hr
  unfold Rdone
  rw [← g, List.drop_of_length_le (by rw [len_eq]; omega), Pth.scan, if_neg (by omega)]
/-- No slash where one must stand. -/
theorem slash_wrong (s : ByteArray) (k last names : Nat) (hr : Rslash s.data.toList k last names) (hz : ∀ h : k < s.size, ¬ s[k] = 47) (hw : k = s.size ∨ k < s.size) : Rwrong s.data.toList k last names := by
  obtain ⟨a, b, c, d⟩ := hr
  unfold Rwrong
  have hne : s.data.toList ≠ [47] := by
    intro e
    have hl : s.data.toList.length = 1 := by rw [e]; rfl
    obtain ⟨h0, _, _⟩ := c hl
    rw [len_eq] at hl
    subst h0
    refine hz (by omega) ?_
    have := drop_at s 0 (by omega)
    rw [List.drop_zero, e] at this
    simp only [List.cons.injEq] at this
    exact this.1.symm
  rw [← d hne]
  rcases hw with h | h
  · rw [List.drop_of_length_le (by rw [len_eq]; omega)]; rfl
  · rw [drop_at s k h, Pth.slashAt, if_neg (hz h)]
/-- The top. -/
theorem slash_top (s : ByteArray) (k last names : Nat) (hr : Rslash s.data.toList k last names) (h : k < s.size) (h47 : s[k] = 47) (h1 : s.size = 1) : Rdone s.data.toList (k + 1) last names := by
  obtain ⟨a, b, c, d⟩ := hr
  obtain ⟨rfl, rfl, rfl⟩ := c (by rw [len_eq]; exact h1)
  have e : s.data.toList = [47] := by
    have := drop_at s 0 h
    rw [List.drop_zero, h47, List.drop_of_length_le (by rw [len_eq]; omega)] at this
    exact this
  unfold Rdone
  rw [e]; rfl
/-- A slash: a name begins. -/
theorem slash_name (s : ByteArray) (k last names : Nat) (hr : Rslash s.data.toList k last names) (h : k < s.size) (h47 : s[k] = 47) (h1 : ¬ s.size = 1) : Rname s.data.toList (k + 1) (k + 1) (names + 1) := by
  obtain ⟨a, b, c, d⟩ := hr
  have hne : s.data.toList ≠ [47] := by
    intro e
    apply h1
    rw [← len_eq, e]; rfl
  refine ⟨by rw [len_eq]; omega, by omega, by omega, by omega, by omega, by rw [len_eq]; exact h1, ?_⟩
  rw [← d hne, drop_at s k h, Pth.slashAt, if_pos h47, Nat.sub_self]
theorem slash_start (l : List UInt8) : Rslash l 0 0 0 := by
  refine ⟨by omega, by omega, fun _ => ⟨rfl, rfl, rfl⟩, fun h => ?_⟩
  rw [Pth.rd, if_neg h]; rfl

end Go.Proofs.YtilinjjimiiplaaGreatDoor
