/- A scope in which the run jumps to several labels, forward and back: what holds at each jump, and a measure that every pass from a label lowers. -/
import Derived.ScopeJumps
import Derived.WalkMore
namespace Go.Proofs.YtfgjodnjahhanaaDoor
open Go

/-- As Q; by a goto: J of its label. -/
def Jumped (J : Nat → Act → World → Prop) (Q : Exit → Act → World → Prop) : Exit → Act → World → Prop
  | .goto l, a, w => J l a w
  | e, a, w => Q e a w

section
variable {P : Program} {a : Act} {w : World} {Q : Exit → Act → World → Prop}
theorem jumped_ret (J : Nat → Act → World → Prop) : Jumped J Q .ret a w = Q .ret a w := rfl
theorem jumped_normal (J : Nat → Act → World → Prop) : Jumped J Q .normal a w = Q .normal a w := rfl
theorem jumped_goto (J : Nat → Act → World → Prop) (l : Nat) : Jumped J Q (.goto l) a w = J l a w := rfl

theorem wp_scope_labels {c : Code} (rest : Nat → Code) (J : Nat → Act → World → Prop) (μ : Nat → Act → World → Nat) (hf : ∀ l a w, J l a w → findLabel c l = some (rest l))
    (first : c.wp P (Jumped J Q) a w)
    (pass : ∀ l a w, J l a w → (rest l).wp P (Jumped (fun l' a' w' => J l' a' w' ∧ μ l' a' w' < μ l a w) Q) a w) : (Code.scope c).wp P Q a w := by
  intro b k cs
  have hg : ∀ l a w, J l a w → gotoIn l (.inScope c :: k) = some (.code (rest l) :: .inScope c :: k) := fun l a w h => by simp [gotoIn, hf l a w h]
  have key : ∀ n l a w, μ l a w = n → J l a w → ∃ e a' w', Q e a' w' ∧ Arrives P (lone (b.at a (.code (rest l) :: .inScope c :: k)) cs w) b k cs e a' w' := by
    intro n
    induction n using Nat.strongRecOn with
    | _ n ih =>
      intro l a w hn hJ
      obtain ⟨e, a₁, w₁, hq, harr⟩ := pass l a w hJ b (.inScope c :: k) cs
      cases e with
      | normal => exact ⟨.normal, a₁, w₁, hq, Steps.trans harr (.one step_inScope)⟩
      | exit id => exact ⟨.exit id, a₁, w₁, hq, fun k' hk => harr k' (by simp [exitTo, hk])⟩
      | goto l' =>
        obtain ⟨hJ', hlt⟩ := hq
        obtain ⟨e₂, a₂, w₂, hq₂, harr₂⟩ := ih _ (by omega) l' a₁ w₁ rfl hJ'
        exact ⟨e₂, a₂, w₂, hq₂, .of_steps (harr _ (hg l' a₁ w₁ hJ')) harr₂⟩
      | ret => exact ⟨_, a₁, w₁, hq, harr⟩
      | panic ch => exact ⟨_, a₁, w₁, hq, harr⟩
      | outgrown => exact ⟨_, a₁, w₁, hq, harr⟩
  obtain ⟨e, a₁, w₁, hq, harr⟩ := first b (.inScope c :: k) cs
  cases e with
  | normal => exact ⟨.normal, a₁, w₁, hq, .head step_scope (Steps.trans harr (.one step_inScope))⟩
  | exit id => exact ⟨.exit id, a₁, w₁, hq, fun k' hk => .head step_scope (harr k' (by simp [exitTo, hk]))⟩
  | goto l' =>
    obtain ⟨e₂, a₂, w₂, hq₂, harr₂⟩ := key _ l' a₁ w₁ rfl hq
    exact ⟨e₂, a₂, w₂, hq₂, .of_steps (.head step_scope (harr _ (hg l' a₁ w₁ hq))) harr₂⟩
  | ret => exact ⟨_, a₁, w₁, hq, .of_steps (.one step_scope) harr⟩
  | panic ch => exact ⟨_, a₁, w₁, hq, .of_steps (.one step_scope) harr⟩
  | outgrown => exact ⟨_, a₁, w₁, hq, .of_steps (.one step_scope) harr⟩

theorem jumped_mono {J J' : Nat → Act → World → Prop} (h : ∀ l a w, J l a w → J' l a w) : ∀ e a w, Jumped J Q e a w → Jumped J' Q e a w := by
  intro e a w hj
  cases e with
  | goto l => exact h l a w hj
  | normal => exact hj
  | exit id => exact hj
  | ret => exact hj
  | panic ch => exact hj
  | outgrown => exact hj

def J4 (J0 J1 J2 J3 : Act → World → Prop) : Nat → Act → World → Prop
  | 0, a, w => J0 a w
  | 1, a, w => J1 a w
  | 2, a, w => J2 a w
  | 3, a, w => J3 a w
  | _, _, _ => False

/-- Four labels, of which the code of 1 falls into that of 3, and what stands ahead into that of 1. -/
theorem wp_scope4 {c r0 r1 r2 r3 : Code} (J0 J1 J2 J3 : Act → World → Prop) (μ : Nat → Act → World → Nat)
    (h0 : findLabel c 0 = some (Code.skip.seq r0)) (h1 : findLabel c 1 = some (Code.skip.seq r1)) (h2 : findLabel c 2 = some (Code.skip.seq r2)) (h3 : findLabel c 3 = some (Code.skip.seq r3))
    (p0 : ∀ a w, J0 a w → r0.wp P (Jumped (fun l' a' w' => J4 J0 J1 J2 J3 l' a' w' ∧ μ l' a' w' < μ 0 a w) Q) a w)
    (p2 : ∀ a w, J2 a w → r2.wp P (Jumped (fun l' a' w' => J4 J0 J1 J2 J3 l' a' w' ∧ μ l' a' w' < μ 2 a w) Q) a w)
    (p3 : ∀ a w, J3 a w → r3.wp P (Jumped (fun l' a' w' => J4 J0 J1 J2 J3 l' a' w' ∧ μ l' a' w' < μ 3 a w) Q) a w)
    (p1 : ∀ a w, J1 a w → (∀ a1 w1, J3 a1 w1 → μ 3 a1 w1 ≤ μ 1 a w → r3.wp P (Jumped (fun l' a' w' => J4 J0 J1 J2 J3 l' a' w' ∧ μ l' a' w' < μ 1 a w) Q) a1 w1) →
      r1.wp P (Jumped (fun l' a' w' => J4 J0 J1 J2 J3 l' a' w' ∧ μ l' a' w' < μ 1 a w) Q) a w)
    (first : (∀ a1 w1, J1 a1 w1 → r1.wp P (Jumped (J4 J0 J1 J2 J3) Q) a1 w1) → c.wp P (Jumped (J4 J0 J1 J2 J3) Q) a w) : (Code.scope c).wp P Q a w := by
  have p1' : ∀ a w, J1 a w → r1.wp P (Jumped (fun l' a' w' => J4 J0 J1 J2 J3 l' a' w' ∧ μ l' a' w' < μ 1 a w) Q) a w := fun a w hj =>
    p1 a w hj (fun a1 w1 hj1 hm => Code.wp_mono (jumped_mono (fun l a' w' h => ⟨h.1, by omega⟩)) (p3 a1 w1 hj1))
  refine wp_scope_labels (fun l => match l with | 0 => Code.skip.seq r0 | 1 => Code.skip.seq r1 | 2 => Code.skip.seq r2 | 3 => Code.skip.seq r3 | _ => Code.skip) (J4 J0 J1 J2 J3) μ ?_
    (first (fun a1 w1 hj => Code.wp_mono (jumped_mono (fun l a' w' h => h.1)) (p1' a1 w1 hj))) ?_
  · intro l a w hj
    match l, hj with
    | 0, _ => exact h0
    | 1, _ => exact h1
    | 2, _ => exact h2
    | 3, _ => exact h3
    | n + 4, hj => exact absurd hj (by intro h; exact h)
  · intro l a w hj
    match l, hj with
    | 0, hj => exact wp_seq (wp_skip (p0 a w hj))
    | 1, hj => exact wp_seq (wp_skip (p1' a w hj))
    | 2, hj => exact wp_seq (wp_skip (p2 a w hj))
    | 3, hj => exact wp_seq (wp_skip (p3 a w hj))
    | n + 4, hj => exact absurd hj (by intro h; exact h)
end
end Go.Proofs.YtfgjodnjahhanaaDoor
