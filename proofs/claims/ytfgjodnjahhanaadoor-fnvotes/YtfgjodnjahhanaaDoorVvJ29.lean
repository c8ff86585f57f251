/- S2, D2, D3, in one text. -/
import Derived.Test.YtfgjodnjahhanaaDoorVvJ2
import Derived.Test.YtfgjodnjahhanaaDoorVvD1
import Derived.Deep.RegionWith
namespace Go.Proofs.YtfgjodnjahhanaaDoor
open Go.RowKit
/-- The slice value v of world w' holds the texts ps. -/
def Txts (w' : World) (v : Value) (ps : List ByteArray) : Prop :=
  ∃ g off cap, v = .slice (some ⟨g, off, none⟩) ps.length cap ∧ ps.length ≤ cap ∧ cap ≤ maxLen ∧ ∀ j b, ps[j]? = some b → w'.cell? ⟨g, off + j, none⟩ = some (.string b)

theorem txts_of_owns {w' : World} {base : Nat} {v : Value} {ps : List ByteArray} (h : w'.ownsRow base 9 1 v ps.length (ps.map Value.string)) (hne : ps ≠ []) : Txts w' v ps := by
  rcases h.2 with ⟨_, h0⟩ | ⟨g, cap, cur, hv, hb, hh, hn, hm, _⟩
  · exact absurd (List.eq_nil_of_length_eq_zero h0) hne
  · refine ⟨g, 0, cap, hv, hn, hm, fun j b hj => ?_⟩
    have := h.cells (g := g) (by rw [hv]; rfl) j (.string b) (by rw [List.getElem?_map, hj]; rfl)
    rw [Addr.add_lit] at this
    simpa using this

section
variable {l : List UInt8} {ps : List ByteArray}
end
def namesSaid (l : List UInt8) (w : World) (e : Ending) (w' : World) : Prop :=
  ∃ v : Value, e = .returned (.tuple #[v, .bool (Pth.namesS l).isSome]) ∧ (∀ ns, Pth.namesS l = some ns → ∃ a cap, v = .slice (some a) ns.length cap) ∧ Ext w w'
end Go.Proofs.YtfgjodnjahhanaaDoor
namespace Go.Proofs.YtfgjodnjahhanaaDoor
open Go.RowKit
/-- What a draw of a text leaves. -/
def Drawn (b a k : Nat) (cv : Value) (m : Nat) (w : World) (e : Ending) (w' : World) : Prop :=
  ∃ (t : ByteArray) (a' : Nat), e = .returned (.string t) ∧ t.size ≤ m ∧ a' ≤ a + k ∧ SrcAt w' b a' cv ∧ Upd b w w'

end Go.Proofs.YtfgjodnjahhanaaDoor
namespace Go.Proofs.YtfgjodnjahhanaaDoor
open Go.RowKit
set_option maxHeartbeats 400000 in
theorem source_any (cv : Value) (w : World) (ad : Option Addr) (len cap : Nat) (hcv : cv = .slice ad len cap) :
    Calls Tryd.prog 38 #[cv] w fun e w' => e = .returned (.pointer (some ⟨w.heap.size, 0, none⟩)) ∧ w' = w.alloc (.cells #[cv, .int .i64 0] 87) := by
  subst hcv
  go_enter Tryd.func38, Tryd.ntmps38
  go_wp2
  go_ret
  exact ⟨rfl, rfl⟩

theorem src_new {w : World} {cv : Value} (h : CodeOk w w.heap.size cv) : SrcAt (w.alloc (.cells #[cv, .int .i64 0] 87)) w.heap.size 0 cv :=
  ⟨by simp, by simp, by simp, by simp, h.below ((Below.refl _ _).alloc (Nat.le_refl _) _)⟩
theorem ext_of_upd {w w' : World} {o : Obj} (h : Upd w.heap.size (w.alloc o) w') : Ext w w' := Below.trans ((Below.refl _ _).alloc (Nat.le_refl _) _) h.1

/-- What a draw of two texts leaves. -/
def Two (w : World) (e : Ending) (w' : World) : Prop :=
  ∃ p n : ByteArray, e = .returned (.tuple #[.string p, .string n]) ∧ p.size ≤ 30 ∧ n.size ≤ 30 ∧ Ext w w'

end Go.Proofs.YtfgjodnjahhanaaDoor
