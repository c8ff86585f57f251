/- impl.readPath: the machine with goto: what it answers at every text. -/
import Derived.Test.YtfgjodnjahhanaaDoorW1
import Derived.Test.YtfgjodnjahhanaaDoorJumps
namespace Go.Proofs.YtfgjodnjahhanaaDoor
open Go.RowKit

def Rwrong (l : List UInt8) (_ _ _ : Nat) : Prop := Pth.rd l = none
def Rdone (l : List UInt8) (_ last names : Nat) : Prop := Pth.rd l = some (names, last)
def Rname (l : List UInt8) (at_ last names : Nat) : Prop :=
  at_ ≤ l.length ∧ last ≤ at_ ∧ at_ - last ≤ 8 ∧ 1 ≤ last ∧ names ≤ at_ ∧ l.length ≠ 1 ∧ Pth.scan (l.drop at_) (at_ - last) at_ last names = Pth.rd l
def Rslash (l : List UInt8) (at_ last names : Nat) : Prop :=
  at_ ≤ l.length ∧ names ≤ at_ ∧ (l.length = 1 → at_ = 0 ∧ names = 0 ∧ last = 0) ∧ (l ≠ [47] → Pth.slashAt (l.drop at_) at_ names = Pth.rd l)

/-- Inside a name: one byte on. -/
theorem name_on (s : ByteArray) (k last names : Nat) (h : k < s.size) (h8 : k < last + 8) (hb : nbI (s[k].toNat : Int) = true) (hr : Rname s.data.toList k last names) :
    Rname s.data.toList (k + 1) last names := by
  obtain ⟨a, b, c, d, e, f, g⟩ := hr
  rw [len_eq] at *
  rw [nbI_eq] at hb
  refine ⟨by rw [len_eq]; omega, by omega, by omega, by omega, by omega, by rw [len_eq]; exact f, ?_⟩
  rw [← g, drop_at s k h, Pth.scan, if_pos ⟨by omega, hb⟩]
  congr 1; omega
/-- The name has no byte. -/
theorem name_none (s : ByteArray) (k names : Nat) (hr : Rname s.data.toList k k names) (hz : ¬ (k < s.size ∧ k < k + 8 ∧ ∃ h : k < s.size, nbI (s[k].toNat : Int) = true)) : Rwrong s.data.toList k k names := by
  obtain ⟨a, b, c, d, e, f, g⟩ := hr
  rw [len_eq] at *
  unfold Rwrong
  rw [← g, Nat.sub_self]
  by_cases h : k < s.size
  · have hb : ¬ Pth.nb s[k] = true := by
      intro hb; rw [← nbI_eq] at hb; exact hz ⟨h, by omega, h, hb⟩
    rw [drop_at s k h, Pth.scan, if_neg (fun x => hb x.2), if_pos rfl]
  · rw [List.drop_of_length_le (by rw [len_eq]; omega)]; rfl
/-- The name ends, and the text goes on. -/
theorem name_slash (s : ByteArray) (k last names : Nat) (h : k < s.size) (hne : ¬ k = last) (hr : Rname s.data.toList k last names) (hz : k < last + 8 → nbI (s[k].toNat : Int) = false) :
    Rslash s.data.toList k last names := by
  obtain ⟨a, b, c, d, e, f, g⟩ := hr
  refine ⟨a, e, fun x => absurd x f, fun _ => ?_⟩
  rw [← g, drop_at s k h, Pth.scan, if_neg ?_, if_neg (by omega)]
  · rfl
  · rintro ⟨x, y⟩
    have := hz (by omega)
    rw [nbI_eq, y] at this
    cases this
/-- The name ends with the text. -/
theorem name_done (s : ByteArray) (k last names : Nat) (h : ¬ k < s.size) (hne : ¬ k = last) (hr : Rname s.data.toList k last names) : Rdone s.data.toList k last names := by
  obtain ⟨a, b, c, d, e, f, g⟩ := hr
  unfold Rdone
  rw [← g, List.drop_of_length_le (by rw [len_eq]; omega), Pth.scan, if_neg (by omega)]
/-- No slash where one must stand. -/
theorem slash_wrong (s : ByteArray) (k last names : Nat) (hr : Rslash s.data.toList k last names) (hz : ∀ h : k < s.size, ¬ s[k] = 47) (hw : k = s.size ∨ k < s.size) : Rwrong s.data.toList k last names := by
  obtain ⟨a, b, c, d⟩ := hr
  unfold Rwrong
  have hne : s.data.toList ≠ [47] := by
    intro e
    have hl : s.data.toList.length = 1 := by rw [e]; rfl
    obtain ⟨h0, _, _⟩ := c hl
    rw [len_eq] at hl
    subst h0
    refine hz (by omega) ?_
    have := drop_at s 0 (by omega)
    rw [List.drop_zero, e] at this
    simp only [List.cons.injEq] at this
    exact this.1.symm
  rw [← d hne]
  rcases hw with h | h
  · rw [List.drop_of_length_le (by rw [len_eq]; omega)]; rfl
  · rw [drop_at s k h, Pth.slashAt, if_neg (hz h)]
/-- The top. -/
theorem slash_top (s : ByteArray) (k last names : Nat) (hr : Rslash s.data.toList k last names) (h : k < s.size) (h47 : s[k] = 47) (h1 : s.size = 1) : Rdone s.data.toList (k + 1) last names := by
  obtain ⟨a, b, c, d⟩ := hr
  obtain ⟨rfl, rfl, rfl⟩ := c (by rw [len_eq]; exact h1)
  have e : s.data.toList = [47] := by
    have := drop_at s 0 h
    rw [List.drop_zero, h47, List.drop_of_length_le (by rw [len_eq]; omega)] at this
    exact this
  unfold Rdone
  rw [e]; rfl
/-- A slash: a name begins. -/
theorem slash_name (s : ByteArray) (k last names : Nat) (hr : Rslash s.data.toList k last names) (h : k < s.size) (h47 : s[k] = 47) (h1 : ¬ s.size = 1) : Rname s.data.toList (k + 1) (k + 1) (names + 1) := by
  obtain ⟨a, b, c, d⟩ := hr
  have hne : s.data.toList ≠ [47] := by
    intro e
    apply h1
    rw [← len_eq, e]; rfl
  refine ⟨by rw [len_eq]; omega, by omega, by omega, by omega, by omega, by rw [len_eq]; exact h1, ?_⟩
  rw [← d hne, drop_at s k h, Pth.slashAt, if_pos h47, Nat.sub_self]
theorem slash_start (l : List UInt8) : Rslash l 0 0 0 := by
  refine ⟨by omega, by omega, fun _ => ⟨rfl, rfl, rfl⟩, fun h => ?_⟩
  rw [Pth.rd, if_neg h]; rfl

end Go.Proofs.YtfgjodnjahhanaaDoor
