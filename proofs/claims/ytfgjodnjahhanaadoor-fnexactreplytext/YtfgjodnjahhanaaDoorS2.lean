/- the specification's l1Cut, l1Names, l1Fault: what they answer. -/
import Derived.Test.YtfgjodnjahhanaaDoorS1
namespace Go.Proofs.YtfgjodnjahhanaaDoor
open Go.RowKit

/-- The slice value v of world w' holds the texts ps. -/
def Txts (w' : World) (v : Value) (ps : List ByteArray) : Prop :=
  ∃ g off cap, v = .slice (some ⟨g, off, none⟩) ps.length cap ∧ ps.length ≤ cap ∧ cap ≤ maxLen ∧ ∀ j b, ps[j]? = some b → w'.cell? ⟨g, off + j, none⟩ = some (.string b)

theorem txts_of_owns {w' : World} {base : Nat} {v : Value} {ps : List ByteArray} (h : w'.ownsRow base 9 1 v ps.length (ps.map Value.string)) (hne : ps ≠ []) : Txts w' v ps := by
  rcases h.2 with ⟨_, h0⟩ | ⟨g, cap, cur, hv, hb, hh, hn, hm, _⟩
  · exact absurd (List.eq_nil_of_length_eq_zero h0) hne
  · refine ⟨g, 0, cap, hv, hn, hm, fun j b hj => ?_⟩
    have := h.cells (g := g) (by rw [hv]; rfl) j (.string b) (by rw [List.getElem?_map, hj]; rfl)
    rw [Addr.add_lit] at this
    simpa using this

theorem txts_len {w' : World} {v : Value} {ps : List ByteArray} (h : Txts w' v ps) : ∃ g off cap, v = .slice (some ⟨g, off, none⟩) ps.length cap ∧ ps.length ≤ cap ∧ cap ≤ maxLen := by
  obtain ⟨g, off, cap, h1, h2, h3, _⟩ := h; exact ⟨g, off, cap, h1, h2, h3⟩

section
variable {l : List UInt8} {ps : List ByteArray}
theorem names_short (hc : ps.map (·.data.toList) = Pth.cut [] l) (hne : l ≠ [47]) (h : ps.length < 2) : Pth.namesS l = none := by
  unfold Pth.namesS
  rw [if_neg hne, if_pos (Or.inl (by rw [← hc]; simpa using h))]
theorem names_head (hc : ps.map (·.data.toList) = Pth.cut [] l) (hne : l ≠ [47]) (p : ByteArray) (h : ps[0]? = some p) (hp : p.data.toList ≠ []) : Pth.namesS l = none := by
  unfold Pth.namesS
  rw [if_neg hne, if_pos (Or.inr ?_)]
  rw [← hc, List.head?_eq_getElem?, List.getElem?_map, h]
  simpa using hp
theorem tail_get (i : Nat) (b : ByteArray) (h : ps[i + 1]? = some b) : (ps.map (·.data.toList)).tail[i]? = some b.data.toList := by
  rw [List.getElem?_tail, List.getElem?_map, h]; rfl
theorem names_bad (hc : ps.map (·.data.toList) = Pth.cut [] l) (hne : l ≠ [47]) (i : Nat) (b : ByteArray) (hi : 1 ≤ i) (h : ps[i]? = some b) (hb : Pth.okName b.data.toList = false) : Pth.namesS l = none := by
  unfold Pth.namesS
  rw [if_neg hne]
  have : ¬ (Pth.cut [] l).tail.all Pth.okName = true := by
    rw [← hc]
    intro ha
    obtain ⟨j, rfl⟩ : ∃ j, i = j + 1 := ⟨i - 1, by omega⟩
    have := List.all_eq_true.1 ha _ (List.mem_of_getElem? (tail_get j b h))
    rw [hb] at this; cases this
  rw [if_neg this]
  split <;> rfl
theorem names_good (hc : ps.map (·.data.toList) = Pth.cut [] l) (hne : l ≠ [47]) (h2 : 2 ≤ ps.length) (p : ByteArray) (h : ps[0]? = some p) (hp : p.data.toList = [])
    (ha : ∀ j b, 1 ≤ j → j < ps.length → ps[j]? = some b → Pth.okName b.data.toList = true) : ∃ ns, Pth.namesS l = some ns ∧ ns.length = ps.length - 1 := by
  refine ⟨(Pth.cut [] l).tail, ?_, by rw [← hc]; simp⟩
  unfold Pth.namesS
  rw [if_neg hne, if_neg, if_pos]
  · rw [← hc, List.all_eq_true]
    intro x hx
    obtain ⟨j, hj⟩ := List.getElem?_of_mem hx
    rw [List.getElem?_tail, List.getElem?_map] at hj
    cases hb : ps[j + 1]? with
    | none => rw [hb] at hj; cases hj
    | some b =>
      rw [hb] at hj
      simp only [Option.map_some, Option.some.injEq] at hj
      rw [← hj]
      exact ha (j + 1) b (by omega) (List.getElem?_eq_some_iff.1 hb).1 hb
  · rw [← hc]
    rintro (x | x)
    · simp at x; omega
    · rw [List.head?_eq_getElem?, List.getElem?_map, h] at x
      simp [hp] at x
end

def namesSaid (l : List UInt8) (w : World) (e : Ending) (w' : World) : Prop :=
  ∃ v : Value, e = .returned (.tuple #[v, .bool (Pth.namesS l).isSome]) ∧ (∀ ns, Pth.namesS l = some ns → ∃ a cap, v = .slice (some a) ns.length cap) ∧ Ext w w'
theorem said_none {l : List UInt8} {w w' : World} {v : Value} (h : Pth.namesS l = none) (hb : Ext w w') : namesSaid l w (.returned (.tuple #[v, .bool false])) w' :=
  ⟨v, by rw [h]; rfl, fun ns hn => (by rw [h] at hn; cases hn), hb⟩
theorem said_some {l : List UInt8} {w w' : World} {a : Addr} {n cap : Nat} {ns : List (List UInt8)} (h : Pth.namesS l = some ns) (hl : ns.length = n) (hb : Ext w w') : namesSaid l w (.returned (.tuple #[.slice (some a) n cap, .bool true])) w' :=
  ⟨_, by rw [h]; rfl, fun ns' hn => (by rw [h] at hn; cases hn; exact ⟨a, cap, by rw [hl]⟩), hb⟩

end Go.Proofs.YtfgjodnjahhanaaDoor
