/- V3, LG6, in one text. -/
import Derived.Test.YtfgjodnjahhanaaDoorVvJ29
import Derived.Test.YtfgjodnjahhanaaDoorVvV2
import Derived.Below
import Derived.OwnWalk
import Derived.Laws.OwnMore
import Derived.Test.YtfgjodnjahhanaaDoorVvLG4
import Derived.Test.YtfgjodnjahhanaaDoorVvJ16
import Derived.Laws.AppendOwnNone
namespace Go.Proofs.YtfgjodnjahhanaaDoor
open Go.RowKit
theorem CodeOk.rise {w w' : World} {b b' : Nat} {cv : Value} (h : CodeOk w b cv) (hb : Below b w w') (hbb : b ≤ b') : CodeOk w' b' cv := by
  obtain ⟨ad, len, cap, h1, h2, h3⟩ := h.below hb
  refine ⟨ad, len, cap, h1, h2, fun hl => ?_⟩
  obtain ⟨cb, co, e, hc, hx⟩ := h3 hl
  exact ⟨cb, co, e, by omega, hx⟩
set_option maxHeartbeats 1000000 in
set_option maxRecDepth 100000 in
theorem pick_any (b a g off cap : Nat) (cv : Value) (l : List Int) (w : World) (h : SrcAt w b a cv) (hg : g ≠ b) (hN : NumsAt w g off l) (h1 : 1 ≤ l.length) (h2 : l.length ≤ 200) (ha : a ≤ 1000) :
    Calls Tryd.prog 51 #[.pointer (some ⟨b, 0, none⟩), .slice (some ⟨g, off, none⟩) l.length cap] w fun e w' => ∃ (x : Int) (q : Nat), e = .returned (.int .i64 x) ∧ w' = (w.setCell ⟨b, 1, none⟩ (.int .i64 (a + 1 : Nat))).drewN q := by
  have HS : Hid (SrcAt w b a cv) := h
  have HN : Hid (NumsAt w g off l) := hN
  clear h hN
  go_enter Tryd.func51, Tryd.ntmps51
  go_wp2_with fail
  refine (next_any b a cv l.length _ HS.out (by omega) (by omega) ha).mono ?_
  rintro e w1 ⟨r, q, rfl, hr0, hr1, hw⟩
  obtain ⟨k, rfl⟩ := Int.eq_ofNat_of_zero_le hr0
  have hk : k < l.length := by omega
  obtain ⟨x, hx⟩ : ∃ x, l[k]? = some x := ⟨_, List.getElem?_eq_getElem hk⟩
  have hc : w1.cell? ⟨g, off + k, none⟩ = some (.int .i64 x) := by
    rw [hw, World.cell?_drewN, iset_ne _ _ _ _ _ _ (Or.inl (Ne.symm hg))]
    exact HN.out k x hx
  have HW : Hid (w1 = (w.setCell ⟨b, 1, none⟩ (.int .i64 (a + 1 : Nat))).drewN q) := hw
  clear hw hx
  go_wp2
  go_ret
  exact ⟨x, q, rfl, HW.out⟩

/-- What a draw of numbers leaves. -/
def Drew (w : World) (e : Ending) (w' : World) : Prop := ∃ (g off cap : Nat) (l : List Int), e = .returned (.slice (some ⟨g, off, none⟩) l.length cap) ∧ ISlice w' (.slice (some ⟨g, off, none⟩) l.length cap) l ∧ (l.length ≤ 9 ∨ l.length = 201) ∧ Ext w w'
theorem SrcAt.kept {w w' : World} {b a : Nat} {cv : Value} (h : SrcAt w b a cv) (he : Below (b + 1) w w') : SrcAt w' b a cv :=
  ⟨(Below.cell he (p := ⟨b, 0, none⟩) (Nat.lt_succ_self _)).trans h.1, (Below.cell he (p := ⟨b, 1, none⟩) (Nat.lt_succ_self _)).trans h.2.1, (Below.frozen he (p := ⟨b, 1, none⟩) (Nat.lt_succ_self _)).trans h.2.2.1, Nat.lt_of_lt_of_le h.2.2.2.1 (Nat.le_trans (Nat.le_refl _) (by
    have := Below.size he
    have h2 := h.2.2.2.1
    omega)), h.2.2.2.2.below (Below.mono he (Nat.le_succ _))⟩
end Go.Proofs.YtfgjodnjahhanaaDoor
namespace Go.Proofs.YtfgjodnjahhanaaDoor
open Go.RowKit
def cellsCt (l : List Ct) : List Value := l.flatMap fun s => [.int .i64 s.slot, .int .i64 s.view, .int .i64 s.value]
/-- A copy of m came back, its lists in new memory, each in its own. -/
def MCopy (w : World) (m : Ms) (e : Ending) (w' : World) : Prop := ∃ x y g h, e = .returned (magg m x y) ∧ w.heap.size ≤ g ∧ g < h ∧ h ≤ w'.heap.size ∧ CtOwn w' x g m.certs ∧ Led.IOwn w' y h m.refs ∧ Ext w w'
end Go.Proofs.YtfgjodnjahhanaaDoor
