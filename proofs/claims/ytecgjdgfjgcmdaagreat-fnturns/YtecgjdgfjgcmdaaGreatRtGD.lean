/- D1, S2, D2, D3, V3, in one text. -/
import Derived.Test.YtecgjdgfjgcmdaaGreatProg
import Derived.Test.YtecgjdgfjgcmdaaGreatRtA1
import Derived.Deep.QuietTactic
import Derived.BigQuiet
import Derived.Deep.RegionWith
import Derived.Below
import Derived.OwnWalk
import Derived.Laws.OwnMore
namespace Go.Proofs.YtecgjdgfjgcmdaaGreat
open Go.RowKit
set_option maxHeartbeats 2000000 in
set_option maxRecDepth 100000 in
theorem next_empty (b a : Nat) (ad : Option Addr) (cap : Nat) (n : Int) (w : World) (h1 : 1 ≤ n) (h2 : n ≤ 200) (ha : a ≤ 1000)
  (h0 : w.cell? ⟨b, 0, none⟩ = some (.slice ad 0 cap)) (hA : w.cell? ⟨b, 1, none⟩ = some (.int .i64 a)) (hF : w.frozen? ⟨b, 1, none⟩ = false) :
  Calls Tryz.prog 82 #[.pointer (some ⟨b, 0, none⟩), .int .i64 n] w fun e w' => ∃ (r : Int) (q : Nat), e = .returned (.int .i64 r) ∧ 0 ≤ r ∧ r < n ∧ w' = (w.setCell ⟨b, 1, none⟩ (.int .i64 (a + 1 : Nat))).drewN q := by
 go_enter Tryz.func82, Tryz.ntmps82
 go_wp2
 go_ret
 exact ⟨_, 0, rfl, Int.emod_nonneg _ (by omega), Int.emod_lt_of_pos _ (by omega), rfl⟩

set_option maxHeartbeats 2000000 in
set_option maxRecDepth 100000 in
theorem next_some (b a cb co len cap : Nat) (x : Int) (n : Int) (w : World) (h1 : 1 ≤ n) (h2 : n ≤ 200) (ha : a ≤ 1000) (hl : 0 < len) (hl2 : len ≤ 1048576) (hx0 : 0 ≤ x) (hx1 : x ≤ 255) (hcb : cb ≠ b)
  (h0 : w.cell? ⟨b, 0, none⟩ = some (.slice (some ⟨cb, co, none⟩) len cap)) (hA : w.cell? ⟨b, 1, none⟩ = some (.int .i64 a)) (hF : w.frozen? ⟨b, 1, none⟩ = false)
  (hx : w.cell? ⟨cb, co + a % len, none⟩ = some (.int .u8 x)) :
  Calls Tryz.prog 82 #[.pointer (some ⟨b, 0, none⟩), .int .i64 n] w fun e w' => ∃ (r : Int) (q : Nat), e = .returned (.int .i64 r) ∧ 0 ≤ r ∧ r < n ∧ w' = (w.setCell ⟨b, 1, none⟩ (.int .i64 (a + 1 : Nat))).drewN q := by
 have e0 : ((len : Int) == 0) = false := by simp; omega
 go_enter Tryz.func82, Tryz.ntmps82
 have hm : ((a : Int) % (len : Int)).toNat = a % len := by omega
 have hml : (a : Int) % (len : Int) < (len : Int) := Int.emod_lt_of_pos _ (by omega)
 have hm0 : 0 ≤ (a : Int) % (len : Int) := Int.emod_nonneg _ (by omega)
 have hq0 : 0 ≤ (a : Int) / (len : Int) := Int.ediv_nonneg (by omega) (by omega)
 have hq1 : (a : Int) / (len : Int) ≤ 1000 := by have := Int.ediv_le_self (len : Int) (show (0 : Int) ≤ (a : Int) by omega); omega
 go_wp2
 go_quiet (fail)
 go_wp2
 go_ret
 exact ⟨_, _, rfl, Int.emod_nonneg _ (by omega), Int.emod_lt_of_pos _ (by omega), rfl⟩

/-- The bytes of a code, in memory older than block b. -/
def CodeOk (w : World) (b : Nat) (cv : Value) : Prop :=
 ∃ ad len cap, cv = .slice ad len cap ∧ len ≤ 1048576 ∧ (0 < len → ∃ cb co, ad = some ⟨cb, co, none⟩ ∧ cb < b ∧ ∀ i, i < len → ∃ x : Int, 0 ≤ x ∧ x ≤ 255 ∧ w.cell? ⟨cb, co + i, none⟩ = some (.int .u8 x))
/-- The source in block b has come to place a. -/
def SrcAt (w : World) (b a : Nat) (cv : Value) : Prop :=
 w.cell? ⟨b, 0, none⟩ = some cv ∧ w.cell? ⟨b, 1, none⟩ = some (.int .i64 (a : Int)) ∧ w.frozen? ⟨b, 1, none⟩ = false ∧ b < w.heap.size ∧ CodeOk w b cv
theorem CodeOk.below {w w' : World} {b : Nat} {cv : Value} (h : CodeOk w b cv) (hb : Below b w w') : CodeOk w' b cv := by
 obtain ⟨ad, len, cap, h1, h2, h3⟩ := h
 refine ⟨ad, len, cap, h1, h2, fun hl => ?_⟩
 obtain ⟨cb, co, e, hc, hx⟩ := h3 hl
 refine ⟨cb, co, e, hc, fun i hi => ?_⟩
 obtain ⟨x, x0, x1, hcell⟩ := hx i hi
 exact ⟨x, x0, x1, (hb.cell (p := ⟨cb, co + i, none⟩) hc).trans hcell⟩
theorem Upd.place {b : Nat} (w : World) (v : Value) (q : Nat) : Upd b w ((w.setCell ⟨b, 1, none⟩ v).drewN q) := by
 refine ⟨below_drewN (Below.setCell (p := ⟨b, 1, none⟩) (Below.refl b w) (Nat.le_refl _) v) _, by simp, fun c o hc hl => ?_⟩
 have hne : c ≠ b := Nat.ne_of_gt hc
 constructor
 ·rw [World.cell?_drewN]; exact World.cell?_setCell_other _ _ _ _ (by intro e; injection e with e1 _ _; exact hne e1.symm)
 ·simp
theorem SrcAt.ext {w w' : World} {b a : Nat} {cv : Value} (h : SrcAt w b a cv) (he : Ext w w') : SrcAt w' b a cv :=
 ⟨(Below.cell he (p := ⟨b, 0, none⟩) h.2.2.2.1).trans h.1, (Below.cell he (p := ⟨b, 1, none⟩) h.2.2.2.1).trans h.2.1, (Below.frozen he (p := ⟨b, 1, none⟩) h.2.2.2.1).trans h.2.2.1, Nat.lt_of_lt_of_le h.2.2.2.1 he.size, h.2.2.2.2.below (Below.mono he (Nat.le_of_lt h.2.2.2.1))⟩
theorem SrcAt.alloc {w : World} {b a : Nat} {cv : Value} (h : SrcAt w b a cv) (o : Obj) : SrcAt (w.alloc o) b a cv := h.ext ((Ext.refl _).alloc _)
theorem SrcAt.place {w : World} {b a : Nat} {cv : Value} (h : SrcAt w b a cv) (a' q : Nat) : SrcAt ((w.setCell ⟨b, 1, none⟩ (.int .i64 (a' : Int))).drewN q) b a' cv := by
 obtain ⟨h0, h1, h2, h3, h4⟩ := h
 refine ⟨?_, ?_, by simp [h2], by simpa using h3, h4.below (Upd.place w _ q).1⟩
 ·rw [World.cell?_drewN, World.cell?_setCell_other _ _ _ _ (by simp)]; exact h0
 ·rw [World.cell?_drewN]; exact World.cell?_setCell_same _ _ _ h1

theorem Upd.set {b : Nat} (w : World) (v : Value) : Upd b w (w.setCell ⟨b, 1, none⟩ v) := Upd.place w v 0
theorem Upd.drewN {b : Nat} {w w' : World} (h : Upd b w w') (q : Nat) : Upd b w (w'.drewN q) := ⟨below_drewN h.1 _, by simpa using h.2.1, fun c o hc hl => ⟨by rw [World.cell?_drewN]; exact (h.2.2 c o hc hl).1, by simpa using (h.2.2 c o hc hl).2⟩⟩
theorem SrcAt.set {w : World} {b a : Nat} {cv : Value} (h : SrcAt w b a cv) (a' : Nat) : SrcAt (w.setCell ⟨b, 1, none⟩ (.int .i64 (a' : Int))) b a' cv := h.place a' 0
theorem SrcAt.drewN {w : World} {b a : Nat} {cv : Value} (h : SrcAt w b a cv) (q : Nat) : SrcAt (w.drewN q) b a cv :=
 ⟨by rw [World.cell?_drewN]; exact h.1, by rw [World.cell?_drewN]; exact h.2.1, by simpa using h.2.2.1, by simpa using h.2.2.2.1, h.2.2.2.2.below (below_drewN (Below.refl _ _) _)⟩
theorem SrcAt.lt {w : World} {b a : Nat} {cv : Value} (h : SrcAt w b a cv) : b < w.heap.size := h.2.2.2.1

theorem next_any (b a : Nat) (cv : Value) (n : Int) (w : World) (h : SrcAt w b a cv) (h1 : 1 ≤ n) (h2 : n ≤ 200) (ha : a ≤ 1000) :
  Calls Tryz.prog 82 #[.pointer (some ⟨b, 0, none⟩), .int .i64 n] w fun e w' => ∃ (r : Int) (q : Nat), e = .returned (.int .i64 r) ∧ 0 ≤ r ∧ r < n ∧ w' = (w.setCell ⟨b, 1, none⟩ (.int .i64 (a + 1 : Nat))).drewN q := by
 obtain ⟨c0, c1, c2, c3, ad, len, cap, rfl, hl, hc⟩ := h
 rcases Nat.eq_zero_or_pos len with h0 | h0
 ·subst h0
  exact next_empty b a ad cap n w h1 h2 ha c0 c1 c2
 ·obtain ⟨cb, co, rfl, hcb, hx⟩ := hc h0
  obtain ⟨x, x0, x1, hcell⟩ := hx (a % len) (Nat.mod_lt _ h0)
  exact next_some b a cb co len cap x n w h1 h2 ha h0 hl x0 x1 (Nat.ne_of_lt hcb) c0 c1 c2 hcell

set_option maxHeartbeats 400000 in
theorem chance_any (b a : Nat) (cv : Value) (n : Int) (w : World) (h : SrcAt w b a cv) (h1 : 1 ≤ n) (h2 : n ≤ 200) (ha : a ≤ 1000) :
  Calls Tryz.prog 80 #[.pointer (some ⟨b, 0, none⟩), .int .i64 n] w fun e w' => ∃ (r : Bool) (q : Nat), e = .returned (.bool r) ∧ w' = (w.setCell ⟨b, 1, none⟩ (.int .i64 (a + 1 : Nat))).drewN q := by
 have HS : Hid (SrcAt w b a cv) := h
 clear h
 go_enter Tryz.func80, Tryz.ntmps80
 go_wp2_with fail
 refine (next_any b a cv n _ HS.out h1 h2 ha).mono ?_
 rintro e w1 ⟨r, q, rfl, hr0, hr1, rfl⟩
 go_wp2
 go_ret
 exact ⟨_, q, rfl, rfl⟩
end Go.Proofs.YtecgjdgfjgcmdaaGreat
namespace Go.Proofs.YtecgjdgfjgcmdaaGreat
open Go.RowKit
/-- The slice value v of world w' holds the texts ps. -/
def Txts (w' : World) (v : Value) (ps : List ByteArray) : Prop :=
 ∃ g off cap, v = .slice (some ⟨g, off, none⟩) ps.length cap ∧ ps.length ≤ cap ∧ cap ≤ maxLen ∧ ∀ j b, ps[j]? = some b → w'.cell? ⟨g, off + j, none⟩ = some (.string b)

section
variable {l : List UInt8} {ps : List ByteArray}
end
def namesSaid (l : List UInt8) (w : World) (e : Ending) (w' : World) : Prop :=
 ∃ v : Value, e = .returned (.tuple #[v, .bool (Pth.namesS l).isSome]) ∧ (∀ ns, Pth.namesS l = some ns → ∃ a cap, v = .slice (some a) ns.length cap) ∧ Ext w w'
end Go.Proofs.YtecgjdgfjgcmdaaGreat
namespace Go.Proofs.YtecgjdgfjgcmdaaGreat
open Go.RowKit
/-- What a draw of a text leaves. -/
def Drawn (b a k : Nat) (cv : Value) (m : Nat) (w : World) (e : Ending) (w' : World) : Prop :=
 ∃ (t : ByteArray) (a' : Nat), e = .returned (.string t) ∧ t.size ≤ m ∧ a' ≤ a + k ∧ SrcAt w' b a' cv ∧ Upd b w w'

end Go.Proofs.YtecgjdgfjgcmdaaGreat
namespace Go.Proofs.YtecgjdgfjgcmdaaGreat
open Go.RowKit
set_option maxHeartbeats 400000 in
theorem source_any (cv : Value) (w : World) (ad : Option Addr) (len cap : Nat) (hcv : cv = .slice ad len cap) :
  Calls Tryz.prog 123 #[cv] w fun e w' => e = .returned (.pointer (some ⟨w.heap.size, 0, none⟩)) ∧ w' = w.alloc (.cells #[cv, .int .i64 0] 140) := by
 subst hcv
 go_enter Tryz.func123, Tryz.ntmps123
 go_wp2
 go_ret
 exact ⟨rfl, rfl⟩

theorem src_new {w : World} {cv : Value} (h : CodeOk w w.heap.size cv) : SrcAt (w.alloc (.cells #[cv, .int .i64 0] 140)) w.heap.size 0 cv :=
 ⟨by simp, by simp, by simp, by simp, h.below ((Below.refl _ _).alloc (Nat.le_refl _) _)⟩
/-- What a draw of two texts leaves. -/
def Two (w : World) (e : Ending) (w' : World) : Prop :=
 ∃ p n : ByteArray, e = .returned (.tuple #[.string p, .string n]) ∧ p.size ≤ 30 ∧ n.size ≤ 30 ∧ Ext w w'

end Go.Proofs.YtecgjdgfjgcmdaaGreat
namespace Go.Proofs.YtecgjdgfjgcmdaaGreat
open Go.RowKit
theorem CodeOk.rise {w w' : World} {b b' : Nat} {cv : Value} (h : CodeOk w b cv) (hb : Below b w w') (hbb : b ≤ b') : CodeOk w' b' cv := by
 obtain ⟨ad, len, cap, h1, h2, h3⟩ := h.below hb
 refine ⟨ad, len, cap, h1, h2, fun hl => ?_⟩
 obtain ⟨cb, co, e, hc, hx⟩ := h3 hl
 exact ⟨cb, co, e, by omega, hx⟩
set_option maxHeartbeats 1000000 in
set_option maxRecDepth 100000 in
theorem pick_any (b a g off cap : Nat) (cv : Value) (l : List Int) (w : World) (h : SrcAt w b a cv) (hg : g ≠ b) (hN : NumsAt w g off l) (h1 : 1 ≤ l.length) (h2 : l.length ≤ 200) (ha : a ≤ 1000) :
  Calls Tryz.prog 73 #[.pointer (some ⟨b, 0, none⟩), .slice (some ⟨g, off, none⟩) l.length cap] w fun e w' => ∃ (x : Int) (q : Nat), e = .returned (.int .i64 x) ∧ w' = (w.setCell ⟨b, 1, none⟩ (.int .i64 (a + 1 : Nat))).drewN q := by
 have HS : Hid (SrcAt w b a cv) := h
 have HN : Hid (NumsAt w g off l) := hN
 clear h hN
 go_enter Tryz.func73, Tryz.ntmps73
 go_wp2_with fail
 refine (next_any b a cv l.length _ HS.out (by omega) (by omega) ha).mono ?_
 rintro e w1 ⟨r, q, rfl, hr0, hr1, hw⟩
 obtain ⟨k, rfl⟩ := Int.eq_ofNat_of_zero_le hr0
 have hk : k < l.length := by omega
 obtain ⟨x, hx⟩ : ∃ x, l[k]? = some x := ⟨_, List.getElem?_eq_getElem hk⟩
 have hc : w1.cell? ⟨g, off + k, none⟩ = some (.int .i64 x) := by
  rw [hw, World.cell?_drewN, iset_ne _ _ _ _ _ _ (Or.inl (Ne.symm hg))]
  exact HN.out k x hx
 have HW : Hid (w1 = (w.setCell ⟨b, 1, none⟩ (.int .i64 (a + 1 : Nat))).drewN q) := hw
 clear hw hx
 go_wp2
 go_ret
 exact ⟨x, q, rfl, HW.out⟩

/-- What a draw of numbers leaves. -/
def Drew (w : World) (e : Ending) (w' : World) : Prop := ∃ (g off cap : Nat) (l : List Int), e = .returned (.slice (some ⟨g, off, none⟩) l.length cap) ∧ ISlice w' (.slice (some ⟨g, off, none⟩) l.length cap) l ∧ (l.length ≤ 9 ∨ l.length = 201) ∧ Ext w w'
theorem SrcAt.kept {w w' : World} {b a : Nat} {cv : Value} (h : SrcAt w b a cv) (he : Below (b + 1) w w') : SrcAt w' b a cv :=
 ⟨(Below.cell he (p := ⟨b, 0, none⟩) (Nat.lt_succ_self _)).trans h.1, (Below.cell he (p := ⟨b, 1, none⟩) (Nat.lt_succ_self _)).trans h.2.1, (Below.frozen he (p := ⟨b, 1, none⟩) (Nat.lt_succ_self _)).trans h.2.2.1, Nat.lt_of_lt_of_le h.2.2.2.1 (Nat.le_trans (Nat.le_refl _) (by
  have := Below.size he
  have h2 := h.2.2.2.1
  omega)), h.2.2.2.2.below (Below.mono he (Nat.le_succ _))⟩
end Go.Proofs.YtecgjdgfjgcmdaaGreat
