/- the draws' source: spec.l1Next and l1Chance: what they answer, and that nothing but the source's place turns. -/
import Derived.Test.YtfgjodnjahhanaaDoorProg
import Derived.Test.YtfgjodnjahhanaaDoorVvBase
import Derived.Deep.QuietTactic
import Derived.BigQuiet
namespace Go.Proofs.YtfgjodnjahhanaaDoor
open Go.RowKit
set_option maxHeartbeats 2000000 in
set_option maxRecDepth 100000 in
theorem next_empty (b a : Nat) (ad : Option Addr) (cap : Nat) (n : Int) (w : World) (h1 : 1 ≤ n) (h2 : n ≤ 200) (ha : a ≤ 1000)
    (h0 : w.cell? ⟨b, 0, none⟩ = some (.slice ad 0 cap)) (hA : w.cell? ⟨b, 1, none⟩ = some (.int .i64 a)) (hF : w.frozen? ⟨b, 1, none⟩ = false) :
    Calls Tryd.prog 52 #[.pointer (some ⟨b, 0, none⟩), .int .i64 n] w fun e w' => ∃ (r : Int) (q : Nat), e = .returned (.int .i64 r) ∧ 0 ≤ r ∧ r < n ∧ w' = (w.setCell ⟨b, 1, none⟩ (.int .i64 (a + 1 : Nat))).drewN q := by
  go_enter Tryd.func52, Tryd.ntmps52
  go_wp2
  go_ret
  exact ⟨_, 0, rfl, Int.emod_nonneg _ (by omega), Int.emod_lt_of_pos _ (by omega), rfl⟩

set_option maxHeartbeats 2000000 in
set_option maxRecDepth 100000 in
theorem next_some (b a cb co len cap : Nat) (x : Int) (n : Int) (w : World) (h1 : 1 ≤ n) (h2 : n ≤ 200) (ha : a ≤ 1000) (hl : 0 < len) (hl2 : len ≤ 1048576) (hx0 : 0 ≤ x) (hx1 : x ≤ 255) (hcb : cb ≠ b)
    (h0 : w.cell? ⟨b, 0, none⟩ = some (.slice (some ⟨cb, co, none⟩) len cap)) (hA : w.cell? ⟨b, 1, none⟩ = some (.int .i64 a)) (hF : w.frozen? ⟨b, 1, none⟩ = false)
    (hx : w.cell? ⟨cb, co + a % len, none⟩ = some (.int .u8 x)) :
    Calls Tryd.prog 52 #[.pointer (some ⟨b, 0, none⟩), .int .i64 n] w fun e w' => ∃ (r : Int) (q : Nat), e = .returned (.int .i64 r) ∧ 0 ≤ r ∧ r < n ∧ w' = (w.setCell ⟨b, 1, none⟩ (.int .i64 (a + 1 : Nat))).drewN q := by
  have e0 : ((len : Int) == 0) = false := by simp; omega
  go_enter Tryd.func52, Tryd.ntmps52
  have hm : ((a : Int) % (len : Int)).toNat = a % len := by omega
  have hml : (a : Int) % (len : Int) < (len : Int) := Int.emod_lt_of_pos _ (by omega)
  have hm0 : 0 ≤ (a : Int) % (len : Int) := Int.emod_nonneg _ (by omega)
  have hq0 : 0 ≤ (a : Int) / (len : Int) := Int.ediv_nonneg (by omega) (by omega)
  have hq1 : (a : Int) / (len : Int) ≤ 1000 := by have := Int.ediv_le_self (len : Int) (show (0 : Int) ≤ (a : Int) by omega); omega
  go_wp2
  go_quiet (fail)
  go_wp2
  go_ret
  exact ⟨_, _, rfl, Int.emod_nonneg _ (by omega), Int.emod_lt_of_pos _ (by omega), rfl⟩

/-- The bytes of a code, in memory older than block b. -/
def CodeOk (w : World) (b : Nat) (cv : Value) : Prop :=
  ∃ ad len cap, cv = .slice ad len cap ∧ len ≤ 1048576 ∧ (0 < len → ∃ cb co, ad = some ⟨cb, co, none⟩ ∧ cb < b ∧ ∀ i, i < len → ∃ x : Int, 0 ≤ x ∧ x ≤ 255 ∧ w.cell? ⟨cb, co + i, none⟩ = some (.int .u8 x))
/-- The source in block b has come to place a. -/
def SrcAt (w : World) (b a : Nat) (cv : Value) : Prop :=
  w.cell? ⟨b, 0, none⟩ = some cv ∧ w.cell? ⟨b, 1, none⟩ = some (.int .i64 (a : Int)) ∧ w.frozen? ⟨b, 1, none⟩ = false ∧ b < w.heap.size ∧ CodeOk w b cv
theorem CodeOk.below {w w' : World} {b : Nat} {cv : Value} (h : CodeOk w b cv) (hb : Below b w w') : CodeOk w' b cv := by
  obtain ⟨ad, len, cap, h1, h2, h3⟩ := h
  refine ⟨ad, len, cap, h1, h2, fun hl => ?_⟩
  obtain ⟨cb, co, e, hc, hx⟩ := h3 hl
  refine ⟨cb, co, e, hc, fun i hi => ?_⟩
  obtain ⟨x, x0, x1, hcell⟩ := hx i hi
  exact ⟨x, x0, x1, (hb.cell (p := ⟨cb, co + i, none⟩) hc).trans hcell⟩
theorem Upd.place {b : Nat} (w : World) (v : Value) (q : Nat) : Upd b w ((w.setCell ⟨b, 1, none⟩ v).drewN q) := by
  refine ⟨below_drewN (Below.setCell (p := ⟨b, 1, none⟩) (Below.refl b w) (Nat.le_refl _) v) _, by simp, fun c o hc hl => ?_⟩
  have hne : c ≠ b := Nat.ne_of_gt hc
  constructor
  · rw [World.cell?_drewN]; exact World.cell?_setCell_other _ _ _ _ (by intro e; injection e with e1 _ _; exact hne e1.symm)
  · simp
theorem SrcAt.ext {w w' : World} {b a : Nat} {cv : Value} (h : SrcAt w b a cv) (he : Ext w w') : SrcAt w' b a cv :=
  ⟨(Below.cell he (p := ⟨b, 0, none⟩) h.2.2.2.1).trans h.1, (Below.cell he (p := ⟨b, 1, none⟩) h.2.2.2.1).trans h.2.1, (Below.frozen he (p := ⟨b, 1, none⟩) h.2.2.2.1).trans h.2.2.1, Nat.lt_of_lt_of_le h.2.2.2.1 he.size, h.2.2.2.2.below (Below.mono he (Nat.le_of_lt h.2.2.2.1))⟩
theorem SrcAt.alloc {w : World} {b a : Nat} {cv : Value} (h : SrcAt w b a cv) (o : Obj) : SrcAt (w.alloc o) b a cv := h.ext ((Ext.refl _).alloc _)
theorem SrcAt.place {w : World} {b a : Nat} {cv : Value} (h : SrcAt w b a cv) (a' q : Nat) : SrcAt ((w.setCell ⟨b, 1, none⟩ (.int .i64 (a' : Int))).drewN q) b a' cv := by
  obtain ⟨h0, h1, h2, h3, h4⟩ := h
  refine ⟨?_, ?_, by simp [h2], by simpa using h3, h4.below (Upd.place w _ q).1⟩
  · rw [World.cell?_drewN, World.cell?_setCell_other _ _ _ _ (by simp)]; exact h0
  · rw [World.cell?_drewN]; exact World.cell?_setCell_same _ _ _ h1

theorem Upd.set {b : Nat} (w : World) (v : Value) : Upd b w (w.setCell ⟨b, 1, none⟩ v) := Upd.place w v 0
theorem Upd.drewN {b : Nat} {w w' : World} (h : Upd b w w') (q : Nat) : Upd b w (w'.drewN q) := ⟨below_drewN h.1 _, by simpa using h.2.1, fun c o hc hl => ⟨by rw [World.cell?_drewN]; exact (h.2.2 c o hc hl).1, by simpa using (h.2.2 c o hc hl).2⟩⟩
theorem SrcAt.set {w : World} {b a : Nat} {cv : Value} (h : SrcAt w b a cv) (a' : Nat) : SrcAt (w.setCell ⟨b, 1, none⟩ (.int .i64 (a' : Int))) b a' cv := h.place a' 0
theorem SrcAt.drewN {w : World} {b a : Nat} {cv : Value} (h : SrcAt w b a cv) (q : Nat) : SrcAt (w.drewN q) b a cv :=
  ⟨by rw [World.cell?_drewN]; exact h.1, by rw [World.cell?_drewN]; exact h.2.1, by simpa using h.2.2.1, by simpa using h.2.2.2.1, h.2.2.2.2.below (below_drewN (Below.refl _ _) _)⟩
theorem SrcAt.lt {w : World} {b a : Nat} {cv : Value} (h : SrcAt w b a cv) : b < w.heap.size := h.2.2.2.1

theorem next_any (b a : Nat) (cv : Value) (n : Int) (w : World) (h : SrcAt w b a cv) (h1 : 1 ≤ n) (h2 : n ≤ 200) (ha : a ≤ 1000) :
    Calls Tryd.prog 52 #[.pointer (some ⟨b, 0, none⟩), .int .i64 n] w fun e w' => ∃ (r : Int) (q : Nat), e = .returned (.int .i64 r) ∧ 0 ≤ r ∧ r < n ∧ w' = (w.setCell ⟨b, 1, none⟩ (.int .i64 (a + 1 : Nat))).drewN q := by
  obtain ⟨c0, c1, c2, c3, ad, len, cap, rfl, hl, hc⟩ := h
  rcases Nat.eq_zero_or_pos len with h0 | h0
  · subst h0
    exact next_empty b a ad cap n w h1 h2 ha c0 c1 c2
  · obtain ⟨cb, co, rfl, hcb, hx⟩ := hc h0
    obtain ⟨x, x0, x1, hcell⟩ := hx (a % len) (Nat.mod_lt _ h0)
    exact next_some b a cb co len cap x n w h1 h2 ha h0 hl x0 x1 (Nat.ne_of_lt hcb) c0 c1 c2 hcell

end Go.Proofs.YtfgjodnjahhanaaDoor
