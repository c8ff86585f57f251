/- D1, S2, D2, D3, V3, LG6, QS0, QS1, QS5, MD0, MD1, LV0, MD3, QS2a, QS2, QS3, LSumOf, QS4, QV1, QV2, QV7a, QV5, QV7b, in one text. -/
import Derived.Test.YtpncnfodgfldlaaDoorProg
import Derived.Test.YtpncnfodgfldlaaDoorLxA1
import Derived.Deep.QuietTactic
import Derived.BigQuiet
import Derived.Deep.RegionWith
import Derived.Below
import Derived.OwnWalk
import Derived.Laws.OwnMore
import Derived.Test.YtpncnfodgfldlaaDoorLxLG4
import Derived.Test.YtpncnfodgfldlaaDoorLxH10
import Derived.Laws.AppendOwnNone
import Derived.Lib.SlKeysI
import Derived.Maps.Views
import Derived.Test.YtpncnfodgfldlaaDoorLxLG5
import Derived.Test.YtpncnfodgfldlaaDoorLxLG2
import Derived.Shelf.SlIterI.Sorted
import Derived.Shelf.SortM.Plain
import Derived.Shelf.SortM.SortNone
import Derived.Maps.OwnSet
import Derived.Maps.OwnOps
import Derived.Deep.Onto
namespace Go.Proofs.YtpncnfodgfldlaaDoor
open Go.RowKit
set_option maxHeartbeats 2000000 in
set_option maxRecDepth 100000 in
theorem next_empty (b a : Nat) (ad : Option Addr) (cap : Nat) (n : Int) (w : World) (h1 : 1 ≤ n) (h2 : n ≤ 200) (ha : a ≤ 1000)
    (h0 : w.cell? ⟨b, 0, none⟩ = some (.slice ad 0 cap)) (hA : w.cell? ⟨b, 1, none⟩ = some (.int .i64 a)) (hF : w.frozen? ⟨b, 1, none⟩ = false) :
    Calls Tryd.prog 38 #[.pointer (some ⟨b, 0, none⟩), .int .i64 n] w fun e w' => ∃ (r : Int) (q : Nat), e = .returned (.int .i64 r) ∧ 0 ≤ r ∧ r < n ∧ w' = (w.setCell ⟨b, 1, none⟩ (.int .i64 (a + 1 : Nat))).drewN q := by
  go_enter Tryd.func38, Tryd.ntmps38
  go_wp2
  go_ret
  exact ⟨_, 0, rfl, Int.emod_nonneg _ (by omega), Int.emod_lt_of_pos _ (by omega), rfl⟩

set_option maxHeartbeats 2000000 in
set_option maxRecDepth 100000 in
theorem next_some (b a cb co len cap : Nat) (x : Int) (n : Int) (w : World) (h1 : 1 ≤ n) (h2 : n ≤ 200) (ha : a ≤ 1000) (hl : 0 < len) (hl2 : len ≤ 1048576) (hx0 : 0 ≤ x) (hx1 : x ≤ 255) (hcb : cb ≠ b)
    (h0 : w.cell? ⟨b, 0, none⟩ = some (.slice (some ⟨cb, co, none⟩) len cap)) (hA : w.cell? ⟨b, 1, none⟩ = some (.int .i64 a)) (hF : w.frozen? ⟨b, 1, none⟩ = false)
    (hx : w.cell? ⟨cb, co + a % len, none⟩ = some (.int .u8 x)) :
    Calls Tryd.prog 38 #[.pointer (some ⟨b, 0, none⟩), .int .i64 n] w fun e w' => ∃ (r : Int) (q : Nat), e = .returned (.int .i64 r) ∧ 0 ≤ r ∧ r < n ∧ w' = (w.setCell ⟨b, 1, none⟩ (.int .i64 (a + 1 : Nat))).drewN q := by
  have e0 : ((len : Int) == 0) = false := by simp; omega
  go_enter Tryd.func38, Tryd.ntmps38
  have hm : ((a : Int) % (len : Int)).toNat = a % len := by omega
  have hml : (a : Int) % (len : Int) < (len : Int) := Int.emod_lt_of_pos _ (by omega)
  have hm0 : 0 ≤ (a : Int) % (len : Int) := Int.emod_nonneg _ (by omega)
  have hq0 : 0 ≤ (a : Int) / (len : Int) := Int.ediv_nonneg (by omega) (by omega)
  have hq1 : (a : Int) / (len : Int) ≤ 1000 := by have := Int.ediv_le_self (len : Int) (show (0 : Int) ≤ (a : Int) by omega); omega
  go_wp2
  go_quiet (fail)
  go_wp2
  go_ret
  exact ⟨_, _, rfl, Int.emod_nonneg _ (by omega), Int.emod_lt_of_pos _ (by omega), rfl⟩

/-- The bytes of a code, in memory older than block b. -/
def CodeOk (w : World) (b : Nat) (cv : Value) : Prop :=
  ∃ ad len cap, cv = .slice ad len cap ∧ len ≤ 1048576 ∧ (0 < len → ∃ cb co, ad = some ⟨cb, co, none⟩ ∧ cb < b ∧ ∀ i, i < len → ∃ x : Int, 0 ≤ x ∧ x ≤ 255 ∧ w.cell? ⟨cb, co + i, none⟩ = some (.int .u8 x))
/-- The source in block b has come to place a. -/
def SrcAt (w : World) (b a : Nat) (cv : Value) : Prop :=
  w.cell? ⟨b, 0, none⟩ = some cv ∧ w.cell? ⟨b, 1, none⟩ = some (.int .i64 (a : Int)) ∧ w.frozen? ⟨b, 1, none⟩ = false ∧ b < w.heap.size ∧ CodeOk w b cv
theorem CodeOk.below {w w' : World} {b : Nat} {cv : Value} (h : CodeOk w b cv) (hb : Below b w w') : CodeOk w' b cv := by
  obtain ⟨ad, len, cap, h1, h2, h3⟩ := h
  refine ⟨ad, len, cap, h1, h2, fun hl => ?_⟩
  obtain ⟨cb, co, e, hc, hx⟩ := h3 hl
  refine ⟨cb, co, e, hc, fun i hi => ?_⟩
  obtain ⟨x, x0, x1, hcell⟩ := hx i hi
  exact ⟨x, x0, x1, (hb.cell (p := ⟨cb, co + i, none⟩) hc).trans hcell⟩
theorem Upd.place {b : Nat} (w : World) (v : Value) (q : Nat) : Upd b w ((w.setCell ⟨b, 1, none⟩ v).drewN q) := by
  refine ⟨below_drewN (Below.setCell (p := ⟨b, 1, none⟩) (Below.refl b w) (Nat.le_refl _) v) _, by simp, fun c o hc hl => ?_⟩
  have hne : c ≠ b := Nat.ne_of_gt hc
  constructor
  · rw [World.cell?_drewN]; exact World.cell?_setCell_other _ _ _ _ (by intro e; injection e with e1 _ _; exact hne e1.symm)
  · simp
theorem SrcAt.ext {w w' : World} {b a : Nat} {cv : Value} (h : SrcAt w b a cv) (he : Ext w w') : SrcAt w' b a cv :=
  ⟨(Below.cell he (p := ⟨b, 0, none⟩) h.2.2.2.1).trans h.1, (Below.cell he (p := ⟨b, 1, none⟩) h.2.2.2.1).trans h.2.1, (Below.frozen he (p := ⟨b, 1, none⟩) h.2.2.2.1).trans h.2.2.1, Nat.lt_of_lt_of_le h.2.2.2.1 he.size, h.2.2.2.2.below (Below.mono he (Nat.le_of_lt h.2.2.2.1))⟩
theorem SrcAt.alloc {w : World} {b a : Nat} {cv : Value} (h : SrcAt w b a cv) (o : Obj) : SrcAt (w.alloc o) b a cv := h.ext ((Ext.refl _).alloc _)
theorem SrcAt.place {w : World} {b a : Nat} {cv : Value} (h : SrcAt w b a cv) (a' q : Nat) : SrcAt ((w.setCell ⟨b, 1, none⟩ (.int .i64 (a' : Int))).drewN q) b a' cv := by
  obtain ⟨h0, h1, h2, h3, h4⟩ := h
  refine ⟨?_, ?_, by simp [h2], by simpa using h3, h4.below (Upd.place w _ q).1⟩
  · rw [World.cell?_drewN, World.cell?_setCell_other _ _ _ _ (by simp)]; exact h0
  · rw [World.cell?_drewN]; exact World.cell?_setCell_same _ _ _ h1

theorem Upd.set {b : Nat} (w : World) (v : Value) : Upd b w (w.setCell ⟨b, 1, none⟩ v) := Upd.place w v 0
theorem Upd.drewN {b : Nat} {w w' : World} (h : Upd b w w') (q : Nat) : Upd b w (w'.drewN q) := ⟨below_drewN h.1 _, by simpa using h.2.1, fun c o hc hl => ⟨by rw [World.cell?_drewN]; exact (h.2.2 c o hc hl).1, by simpa using (h.2.2 c o hc hl).2⟩⟩
theorem SrcAt.set {w : World} {b a : Nat} {cv : Value} (h : SrcAt w b a cv) (a' : Nat) : SrcAt (w.setCell ⟨b, 1, none⟩ (.int .i64 (a' : Int))) b a' cv := h.place a' 0
theorem SrcAt.drewN {w : World} {b a : Nat} {cv : Value} (h : SrcAt w b a cv) (q : Nat) : SrcAt (w.drewN q) b a cv :=
  ⟨by rw [World.cell?_drewN]; exact h.1, by rw [World.cell?_drewN]; exact h.2.1, by simpa using h.2.2.1, by simpa using h.2.2.2.1, h.2.2.2.2.below (below_drewN (Below.refl _ _) _)⟩
theorem SrcAt.lt {w : World} {b a : Nat} {cv : Value} (h : SrcAt w b a cv) : b < w.heap.size := h.2.2.2.1

theorem next_any (b a : Nat) (cv : Value) (n : Int) (w : World) (h : SrcAt w b a cv) (h1 : 1 ≤ n) (h2 : n ≤ 200) (ha : a ≤ 1000) :
    Calls Tryd.prog 38 #[.pointer (some ⟨b, 0, none⟩), .int .i64 n] w fun e w' => ∃ (r : Int) (q : Nat), e = .returned (.int .i64 r) ∧ 0 ≤ r ∧ r < n ∧ w' = (w.setCell ⟨b, 1, none⟩ (.int .i64 (a + 1 : Nat))).drewN q := by
  obtain ⟨c0, c1, c2, c3, ad, len, cap, rfl, hl, hc⟩ := h
  rcases Nat.eq_zero_or_pos len with h0 | h0
  · subst h0
    exact next_empty b a ad cap n w h1 h2 ha c0 c1 c2
  · obtain ⟨cb, co, rfl, hcb, hx⟩ := hc h0
    obtain ⟨x, x0, x1, hcell⟩ := hx (a % len) (Nat.mod_lt _ h0)
    exact next_some b a cb co len cap x n w h1 h2 ha h0 hl x0 x1 (Nat.ne_of_lt hcb) c0 c1 c2 hcell

set_option maxHeartbeats 400000 in
theorem chance_any (b a : Nat) (cv : Value) (n : Int) (w : World) (h : SrcAt w b a cv) (h1 : 1 ≤ n) (h2 : n ≤ 200) (ha : a ≤ 1000) :
    Calls Tryd.prog 17 #[.pointer (some ⟨b, 0, none⟩), .int .i64 n] w fun e w' => ∃ (r : Bool) (q : Nat), e = .returned (.bool r) ∧ w' = (w.setCell ⟨b, 1, none⟩ (.int .i64 (a + 1 : Nat))).drewN q := by
  have HS : Hid (SrcAt w b a cv) := h
  clear h
  go_enter Tryd.func17, Tryd.ntmps17
  go_wp2_with fail
  refine (next_any b a cv n _ HS.out h1 h2 ha).mono ?_
  rintro e w1 ⟨r, q, rfl, hr0, hr1, rfl⟩
  go_wp2
  go_ret
  exact ⟨_, q, rfl, rfl⟩
end Go.Proofs.YtpncnfodgfldlaaDoor
namespace Go.Proofs.YtpncnfodgfldlaaDoor
open Go.RowKit
/-- The slice value v of world w' holds the texts ps. -/
def Txts (w' : World) (v : Value) (ps : List ByteArray) : Prop :=
  ∃ g off cap, v = .slice (some ⟨g, off, none⟩) ps.length cap ∧ ps.length ≤ cap ∧ cap ≤ maxLen ∧ ∀ j b, ps[j]? = some b → w'.cell? ⟨g, off + j, none⟩ = some (.string b)

section
variable {l : List UInt8} {ps : List ByteArray}
end
def namesSaid (l : List UInt8) (w : World) (e : Ending) (w' : World) : Prop :=
  ∃ v : Value, e = .returned (.tuple #[v, .bool (Pth.namesS l).isSome]) ∧ (∀ ns, Pth.namesS l = some ns → ∃ a cap, v = .slice (some a) ns.length cap) ∧ Ext w w'
end Go.Proofs.YtpncnfodgfldlaaDoor
namespace Go.Proofs.YtpncnfodgfldlaaDoor
open Go.RowKit
/-- What a draw of a text leaves. -/
def Drawn (b a k : Nat) (cv : Value) (m : Nat) (w : World) (e : Ending) (w' : World) : Prop :=
  ∃ (t : ByteArray) (a' : Nat), e = .returned (.string t) ∧ t.size ≤ m ∧ a' ≤ a + k ∧ SrcAt w' b a' cv ∧ Upd b w w'

end Go.Proofs.YtpncnfodgfldlaaDoor
namespace Go.Proofs.YtpncnfodgfldlaaDoor
open Go.RowKit
set_option maxHeartbeats 400000 in
theorem source_any (cv : Value) (w : World) (ad : Option Addr) (len cap : Nat) (hcv : cv = .slice ad len cap) :
    Calls Tryd.prog 14 #[cv] w fun e w' => e = .returned (.pointer (some ⟨w.heap.size, 0, none⟩)) ∧ w' = w.alloc (.cells #[cv, .int .i64 0] 71) := by
  subst hcv
  go_enter Tryd.func14, Tryd.ntmps14
  go_wp2
  go_ret
  exact ⟨rfl, rfl⟩

theorem src_new {w : World} {cv : Value} (h : CodeOk w w.heap.size cv) : SrcAt (w.alloc (.cells #[cv, .int .i64 0] 71)) w.heap.size 0 cv :=
  ⟨by simp, by simp, by simp, by simp, h.below ((Below.refl _ _).alloc (Nat.le_refl _) _)⟩
/-- What a draw of two texts leaves. -/
def Two (w : World) (e : Ending) (w' : World) : Prop :=
  ∃ p n : ByteArray, e = .returned (.tuple #[.string p, .string n]) ∧ p.size ≤ 30 ∧ n.size ≤ 30 ∧ Ext w w'

end Go.Proofs.YtpncnfodgfldlaaDoor
namespace Go.Proofs.YtpncnfodgfldlaaDoor
open Go.RowKit
theorem CodeOk.rise {w w' : World} {b b' : Nat} {cv : Value} (h : CodeOk w b cv) (hb : Below b w w') (hbb : b ≤ b') : CodeOk w' b' cv := by
  obtain ⟨ad, len, cap, h1, h2, h3⟩ := h.below hb
  refine ⟨ad, len, cap, h1, h2, fun hl => ?_⟩
  obtain ⟨cb, co, e, hc, hx⟩ := h3 hl
  exact ⟨cb, co, e, by omega, hx⟩
set_option maxHeartbeats 1000000 in
set_option maxRecDepth 100000 in
theorem pick_any (b a g off cap : Nat) (cv : Value) (l : List Int) (w : World) (h : SrcAt w b a cv) (hg : g ≠ b) (hN : NumsAt w g off l) (h1 : 1 ≤ l.length) (h2 : l.length ≤ 200) (ha : a ≤ 1000) :
    Calls Tryd.prog 36 #[.pointer (some ⟨b, 0, none⟩), .slice (some ⟨g, off, none⟩) l.length cap] w fun e w' => ∃ (x : Int) (q : Nat), e = .returned (.int .i64 x) ∧ w' = (w.setCell ⟨b, 1, none⟩ (.int .i64 (a + 1 : Nat))).drewN q := by
  have HS : Hid (SrcAt w b a cv) := h
  have HN : Hid (NumsAt w g off l) := hN
  clear h hN
  go_enter Tryd.func36, Tryd.ntmps36
  go_wp2_with fail
  refine (next_any b a cv l.length _ HS.out (by omega) (by omega) ha).mono ?_
  rintro e w1 ⟨r, q, rfl, hr0, hr1, hw⟩
  obtain ⟨k, rfl⟩ := Int.eq_ofNat_of_zero_le hr0
  have hk : k < l.length := by omega
  obtain ⟨x, hx⟩ : ∃ x, l[k]? = some x := ⟨_, List.getElem?_eq_getElem hk⟩
  have hc : w1.cell? ⟨g, off + k, none⟩ = some (.int .i64 x) := by
    rw [hw, World.cell?_drewN, iset_ne _ _ _ _ _ _ (Or.inl (Ne.symm hg))]
    exact HN.out k x hx
  have HW : Hid (w1 = (w.setCell ⟨b, 1, none⟩ (.int .i64 (a + 1 : Nat))).drewN q) := hw
  clear hw hx
  go_wp2
  go_ret
  exact ⟨x, q, rfl, HW.out⟩

/-- What a draw of numbers leaves. -/
def Drew (w : World) (e : Ending) (w' : World) : Prop := ∃ (g off cap : Nat) (l : List Int), e = .returned (.slice (some ⟨g, off, none⟩) l.length cap) ∧ ISlice w' (.slice (some ⟨g, off, none⟩) l.length cap) l ∧ (l.length ≤ 9 ∨ l.length = 201) ∧ Ext w w'
theorem SrcAt.kept {w w' : World} {b a : Nat} {cv : Value} (h : SrcAt w b a cv) (he : Below (b + 1) w w') : SrcAt w' b a cv :=
  ⟨(Below.cell he (p := ⟨b, 0, none⟩) (Nat.lt_succ_self _)).trans h.1, (Below.cell he (p := ⟨b, 1, none⟩) (Nat.lt_succ_self _)).trans h.2.1, (Below.frozen he (p := ⟨b, 1, none⟩) (Nat.lt_succ_self _)).trans h.2.2.1, Nat.lt_of_lt_of_le h.2.2.2.1 (Nat.le_trans (Nat.le_refl _) (by
    have := Below.size he
    have h2 := h.2.2.2.1
    omega)), h.2.2.2.2.below (Below.mono he (Nat.le_succ _))⟩
end Go.Proofs.YtpncnfodgfldlaaDoor
namespace Go.Proofs.YtpncnfodgfldlaaDoor
open Go.RowKit
def cellsCt (l : List Ct) : List Value := l.flatMap fun s => [.int .i64 s.slot, .int .i64 s.view, .int .i64 s.value]
theorem cellsCt_len (l : List Ct) : (cellsCt l).length = l.length * 3 := by
  induction l with
  | nil => rfl
  | cons s r ih => simp only [cellsCt, List.flatMap_cons, List.length_append, List.length_cons, List.length_nil] at ih ⊢; omega
theorem cellsCt_at : ∀ (l : List Ct) (i : Nat) (s : Ct), l[i]? = some s → (cellsCt l)[i * 3]? = some (.int .i64 s.slot) ∧ (cellsCt l)[i * 3 + 1]? = some (.int .i64 s.view) ∧ (cellsCt l)[i * 3 + 2]? = some (.int .i64 s.value)
  | s :: r, 0, t, h => by simp at h; subst h; exact ⟨rfl, rfl, rfl⟩
  | s :: r, i + 1, t, h => by
    simp only [List.getElem?_cons_succ] at h
    have := cellsCt_at r i t h
    rw [show (i + 1) * 3 = i * 3 + 1 + 1 + 1 from by omega]
    exact this
  | [], i, t, h => by simp at h
theorem cellsCt_get : ∀ (l : List Ct) (j : Nat) (u : Value), (cellsCt l)[j]? = some u → ∃ i s, l[i]? = some s ∧ ((j = i * 3 ∧ u = .int .i64 s.slot) ∨ (j = i * 3 + 1 ∧ u = .int .i64 s.view) ∨ (j = i * 3 + 2 ∧ u = .int .i64 s.value))
  | [], j, u, h => by simp [cellsCt] at h
  | s :: r, 0, u, h => by simp [cellsCt] at h; exact ⟨0, s, rfl, Or.inl ⟨rfl, h.symm⟩⟩
  | s :: r, 1, u, h => by simp [cellsCt] at h; exact ⟨0, s, rfl, Or.inr (Or.inl ⟨rfl, h.symm⟩)⟩
  | s :: r, 2, u, h => by simp [cellsCt] at h; exact ⟨0, s, rfl, Or.inr (Or.inr ⟨rfl, h.symm⟩)⟩
  | s :: r, j + 3, u, h => by
    have h' : (cellsCt r)[j]? = some u := by simpa [cellsCt] using h
    obtain ⟨i, t, q1, q2⟩ := cellsCt_get r j u h'
    refine ⟨i + 1, t, by simpa using q1, ?_⟩
    rcases q2 with ⟨q, e⟩ | ⟨q, e⟩ | ⟨q, e⟩
    · exact Or.inl ⟨by omega, e⟩
    · exact Or.inr (Or.inl ⟨by omega, e⟩)
    · exact Or.inr (Or.inr ⟨by omega, e⟩)
theorem CtsAt.news {w : World} {b off : Nat} {l : List Ct} (h : CtsAt w b off l) : ∀ j u, (cellsCt l)[j]? = some u → w.cell? ((⟨b, off, none⟩ : Addr).add j) = some u := by
  intro j u hu
  rw [Addr.add_lit]
  obtain ⟨i, s, hs, q⟩ := cellsCt_get l j u hu
  obtain ⟨c0, c1, c2⟩ := h i s hs
  rcases q with ⟨rfl, rfl⟩ | ⟨rfl, rfl⟩ | ⟨rfl, rfl⟩
  · exact c0
  · rw [← Nat.add_assoc]; exact c1
  · rw [← Nat.add_assoc]; exact c2
theorem cellsCt_one (l : List Ct) : ∀ u ∈ cellsCt l, u.oneCell' = true := by
  intro u hu
  simp only [cellsCt, List.mem_flatMap] at hu
  obtain ⟨s, _, hs⟩ := hu
  simp at hs
  rcases hs with rfl | rfl | rfl <;> rfl
theorem NumsAt.news {w : World} {b off : Nat} {l : List Int} (h : NumsAt w b off l) : ∀ j u, (l.map (Value.int .i64))[j]? = some u → w.cell? ((⟨b, off, none⟩ : Addr).add j) = some u := by
  intro j u hu
  rw [Addr.add_lit]
  rw [List.getElem?_map] at hu
  obtain ⟨x, hx, rfl⟩ := Option.map_eq_some_iff.1 hu
  exact h j x hx
theorem owns_form6 {w : World} {B : Nat} {e : TypeId} {s : Nat} {v : Value} {n : Nat} {xs : List Value} (h : w.ownsRow B e s v n xs) : ∃ a c, v = .slice a n c := by
  rcases h.2 with ⟨hv, h0⟩ | ⟨g, cap, cur, hv, -⟩
  · exact ⟨none, 0, by rw [hv, h0]⟩
  · exact ⟨_, cap, hv⟩
theorem owns_ext6 {B : Nat} {e : TypeId} {k : Nat} {v : Value} {n : Nat} {xs : List Value} {w w' : World} (h : w.ownsRow B e k v n xs) (hb : Ext w w') : w'.ownsRow B e k v n xs := by
  refine ⟨h.1, ?_⟩
  rcases h.2 with h0 | ⟨g, cap, cur, h1, h2, h3, h4⟩
  · exact .inl h0
  · exact .inr ⟨g, cap, cur, h1, h2, (Below.block hb g (Array.getElem?_eq_some_iff.1 h3).1).trans h3, h4⟩
theorem ctown_of_owns {w : World} {base : Nat} {v : Value} {l : List Ct} (h : w.ownsRow base 76 3 v l.length (cellsCt l)) : ∃ g, base ≤ g ∧ CtOwn w v g l := by
  have hlt := h.lt
  rcases h.2 with ⟨hv, h0⟩ | ⟨g, cap, cur, hv, hb, hh, hn, hm, hcs, htk⟩
  · exact ⟨base, Nat.le_refl _, none, 0, by rw [hv, h0], by omega, by unfold maxLen; omega, fun h => by omega⟩
  · subst hv
    refine ⟨g, hb, some ⟨g, 0, none⟩, cap, rfl, hn, hm, fun h0 => ⟨0, rfl, ⟨(hlt g rfl).2, fun j hj => ⟨?_, h.frozenAt _⟩⟩, fun i s hs => ?_⟩⟩
    · have hj' : j < (cellsCt l).length := by rw [cellsCt_len]; exact hj
      rw [Nat.zero_add]
      exact ⟨(cellsCt l)[j], by rw [h.cellAt j hj, List.getElem?_eq_getElem hj']⟩
    · obtain ⟨h1, h2, h3⟩ := cellsCt_at l i s hs
      have hi := (List.getElem?_eq_some_iff.1 hs).1
      rw [Nat.zero_add]
      exact ⟨by rw [h.cellAt _ (by omega)]; exact h1, by rw [h.cellAt _ (by omega)]; exact h2, by rw [h.cellAt _ (by omega)]; exact h3⟩

/-- A copy of m came back, its lists in new memory, each in its own. -/
def MCopy (w : World) (m : Ms) (e : Ending) (w' : World) : Prop := ∃ x y g h, e = .returned (magg m x y) ∧ w.heap.size ≤ g ∧ g < h ∧ h ≤ w'.heap.size ∧ CtOwn w' x g m.certs ∧ Led.IOwn w' y h m.refs ∧ Ext w w'
end Go.Proofs.YtpncnfodgfldlaaDoor
namespace Go.Proofs.YtpncnfodgfldlaaDoor
open Go.Maps
namespace Nst
def kv (x : Int) : Lit × DataW Unit := (.int .i64 x, .agg [])
def map (l : List Int) : DataW Unit := .map (l.map kv)
def Ris (l : List Int) : Prop := l.Pairwise fun a b => a < b
/-- x put among l. -/
def put (x : Int) (l : List Int) : List Int := l.filter (fun t => decide (t < x)) ++ x :: l.filter (fun t => decide (x < t))
theorem Ris.put {l : List Int} (h : Ris l) (s : Int) : Ris (put s l) := by
  unfold Nst.put
  refine List.pairwise_append.2 ⟨h.filter _, List.pairwise_cons.2 ⟨fun b hb => by have := (List.mem_filter.1 hb).2; simpa using this, h.filter _⟩, fun a ha b hb => ?_⟩
  have h1 : a < s := by have := (List.mem_filter.1 ha).2; simpa using this
  rcases List.mem_cons.1 hb with rfl | hb
  · exact h1
  · have h2 : s < b := by have := (List.mem_filter.1 hb).2; simpa using this
    omega
/-- Rising lists with the same members are one. -/
theorem Ris.ext : ∀ {l m : List Int}, Ris l → Ris m → (∀ x, x ∈ l ↔ x ∈ m) → l = m
  | [], [], _, _, _ => rfl
  | [], y :: r, _, _, h => absurd ((h y).2 (by simp)) (by simp)
  | x :: r, [], _, _, h => absurd ((h x).1 (by simp)) (by simp)
  | x :: r, y :: s, h1, h2, h => by
    have g1 := List.pairwise_cons.1 h1
    have g2 := List.pairwise_cons.1 h2
    have e : x = y := by
      rcases List.mem_cons.1 ((h x).1 (by simp)) with e | hx
      · exact e
      · rcases List.mem_cons.1 ((h y).2 (by simp)) with e | hy
        · exact e.symm
        · have a := g1.1 y hy
          have b := g2.1 x hx
          omega
    subst e
    congr 1
    refine Ris.ext g1.2 g2.2 fun z => ?_
    have hz := h z
    rw [List.mem_cons, List.mem_cons] at hz
    constructor
    · intro hm
      rcases hz.1 (Or.inr hm) with rfl | hh
      · exact absurd (g1.1 _ hm) (by omega)
      · exact hh
    · intro hm
      rcases hz.2 (Or.inr hm) with rfl | hh
      · exact absurd (g2.1 _ hm) (by omega)
      · exact hh
/-- The numbers lo, lo + 1, .., n of them. -/
def upto (lo : Int) : Nat → List Int
  | 0 => []
  | n + 1 => upto lo n ++ [lo + n]
theorem mem_upto {lo x : Int} : ∀ {n : Nat}, x ∈ upto lo n ↔ lo ≤ x ∧ x < lo + n
  | 0 => by simp [upto]
  | n + 1 => by rw [upto, List.mem_append, mem_upto, List.mem_singleton]; omega
theorem ris_upto (lo : Int) : ∀ n : Nat, Ris (upto lo n)
  | 0 => List.Pairwise.nil
  | n + 1 => List.pairwise_append.2 ⟨ris_upto lo n, List.pairwise_singleton _ _, fun a ha b hb => by
      have := mem_upto.1 ha
      rw [List.mem_singleton] at hb
      omega⟩
theorem len_upto (lo : Int) : ∀ n : Nat, (upto lo n).length = n
  | 0 => rfl
  | n + 1 => by rw [upto, List.length_append, len_upto]; rfl
theorem Ris.len {l : List Int} (h : Ris l) {lo : Int} {n : Nat} (hm : ∀ x ∈ l, lo ≤ x ∧ x < lo + n) : l.length ≤ n := by
  have e : l = (upto lo n).filter (fun x => decide (x ∈ l)) := by
    refine h.ext ((ris_upto lo n).filter _) fun x => ?_
    rw [List.mem_filter, mem_upto, decide_eq_true_eq]
    exact ⟨fun hx => ⟨hm x hx, hx⟩, fun hx => hx.2⟩
  rw [e]
  have := List.length_filter_le (fun x => decide (x ∈ l)) (upto lo n)
  rw [len_upto] at this
  exact this
end Nst
end Go.Proofs.YtpncnfodgfldlaaDoor
namespace Go.Proofs.YtpncnfodgfldlaaDoor
namespace Msg
theorem ledger_all {f : Int} {ms : List Ms} (h : ledger f ms = 0) : ∀ m ∈ ms, faultM f m = 0 := by
  intro m hm
  obtain ⟨k, hk⟩ := List.getElem?_of_mem hm
  have hl := (List.getElem?_eq_some_iff.1 hk).1
  have h240 := (ledger_zero h).2.2
  unfold ledger at h
  split at h
  · omega
  · unfold ledgerM at h
    rw [if_neg (by omega)] at h
    have h2 := firstNZ_all h k hl
    rw [stepG_at hk] at h2
    by_cases h3 : faultM f m = 0
    · exact h3
    · rw [stepF_1 h3] at h2
      exact h2
theorem faultM_zero {f : Int} {m : Ms} (h : faultM f m = 0) : bareN m.kind m.slot m.value m.certs.length m.refs.length = true ∧ boundsN f m.kind m.view m.from_ m.slot m.value = true := by
  unfold faultM at h
  split at h
  · omega
  · rename_i h1
    split at h
    · omega
    · rename_i h2
      exact ⟨by simpa using h1, by simpa using h2⟩
theorem from_in {f : Int} {m : Ms} (h : faultM f m = 0) : 1 ≤ m.from_ ∧ m.from_ ≤ 3 * f + 1 := by
  obtain ⟨-, h2⟩ := faultM_zero h
  unfold boundsN at h2
  rw [decide_eq_true_eq] at h2
  omega
/-- The message that id would send. -/
def vm (k : Int) (c : Ct) (id : Int) : Ms := ⟨k, c.view, id, c.slot, c.value, [], []⟩
def votesK (ms : List Ms) (k : Int) (c : Ct) (n : Nat) : List Int := (Nst.upto 1 n).filter (fun id => decide (vm k c id ∈ ms))
def votes (f : Int) (ms : List Ms) (k : Int) (c : Ct) : List Int := votesK ms k c (3 * f + 1).toNat
def enough (f : Int) (ms : List Ms) (k : Int) (c : Ct) : Bool := decide (2 * f + 1 ≤ ((votes f ms k c).length : Int))
theorem place_mem {ms : List Ms} {m : Ms} : (0 ≤ place ms m) ↔ m ∈ ms := by
  rcases first_place ms m ms.length with h | ⟨k, hk, h1, h2⟩
  · rw [place_none h]
    constructor
    · intro hh; omega
    · intro hm
      obtain ⟨k, hk⟩ := List.getElem?_of_mem hm
      exact absurd hk (h k (List.getElem?_eq_some_iff.1 hk).1)
  · rw [place_at h1 h2]
    exact ⟨fun _ => List.mem_of_getElem? h1, fun _ => by omega⟩
/-- The message m as id would say it. -/
def as_ (m : Ms) (id : Int) : Ms := { m with from_ := id }
/-- The program's set: who of the first k has said m. -/
def voters (ms : List Ms) (m : Ms) : Nat → List Int
  | 0 => []
  | k + 1 => match ms[k]? with
    | some z => if z = as_ m z.from_ then Nst.put z.from_ (voters ms m k) else voters ms m k
    | none => voters ms m k
def votesV (f : Int) (ms : List Ms) (m : Ms) : Int × List Int := if ¬ ledger f ms = 0 then (ledger f ms, []) else if ¬ faultM f m = 0 then (faultM f m, []) else if ¬ (m.kind = 2 ∨ m.kind = 3) then (1, []) else (0, votes f ms m.kind ⟨m.slot, m.view, m.value⟩)
def certRight (f : Int) (ms : List Ms) (c : Ct) : Bool := decide (ledger f ms = 0) && certIn c && enough f ms 2 c
/-! ### what is decided -/
def dec (f : Int) (ms : List Ms) (slot v : Int) (m : Ms) : Bool := decide (m.kind = 3 ∧ m.slot = slot ∧ m.value = v) && enough f ms 3 ⟨slot, m.view, v⟩
def decB (f : Int) (ms : List Ms) (slot v : Int) : Bool := ms.any (dec f ms slot v)
def decidedK (f : Int) (ms : List Ms) (slot : Int) (n : Nat) : List Int := (Nst.upto 0 n).filter (decB f ms slot)
def decided (f : Int) (ms : List Ms) (slot : Int) : List Int := decidedK f ms slot 13
/-- The program's set of the values that the first k decide. -/
def dset (f : Int) (ms : List Ms) (slot : Int) : Nat → List Int
  | 0 => []
  | k + 1 => match ms[k]? with
    | some z => if z.kind = 3 ∧ z.slot = slot ∧ enough f ms 3 ⟨z.slot, z.view, z.value⟩ = true then Nst.put z.value (dset f ms slot k) else dset f ms slot k
    | none => dset f ms slot k
def decidedV (f : Int) (ms : List Ms) (x : Int) : Int × List Int := if ¬ ledger f ms = 0 then (ledger f ms, []) else if ¬ (1 ≤ x ∧ x ≤ 30) then (3, []) else (0, decided f ms x)
/-! ### the log -/
/-- What is decided first of each of the first k slots. -/
def heads (f : Int) (ms : List Ms) : Nat → List Int
  | 0 => []
  | k + 1 => heads f ms k ++ [(decided f ms ((k : Int) + 1)).headD 0]
/-- How many slots of the first n are decided without a gap. -/
def run (f : Int) (ms : List Ms) : Nat → Nat
  | 0 => 0
  | n + 1 => if run f ms n = n ∧ ¬ decided f ms ((n : Int) + 1) = [] then n + 1 else run f ms n
def log (f : Int) (ms : List Ms) : List Int := heads f ms (run f ms 30)
def logV (f : Int) (ms : List Ms) : Int × List Int := if ¬ ledger f ms = 0 then (ledger f ms, []) else (0, log f ms)
end Msg
end Go.Proofs.YtpncnfodgfldlaaDoor
namespace Go.Proofs.YtpncnfodgfldlaaDoor
open Go.RowKit
theorem Led.own_ext {w w' : World} {base : Nat} {e : TypeId} {size : Nat} {v : Value} {n : Nat} {xs : List Value} (h : w.ownsRow base e size v n xs) (he : Ext w w') : w'.ownsRow base e size v n xs := by
  refine ⟨h.1, ?_⟩
  rcases h.2 with hn | ⟨g, cap, cur, rfl, hb, hgg, rest⟩
  · exact .inl hn
  · exact .inr ⟨g, cap, cur, rfl, hb, (he.block g (Array.getElem?_eq_some_iff.1 hgg).1).trans hgg, rest⟩
end Go.Proofs.YtpncnfodgfldlaaDoor
namespace Go.Proofs.YtpncnfodgfldlaaDoor
open Go.RowKit
namespace Dr
theorem step_append_own {P : Program} (w : World) {ops : Array Oper} {o : Oper} {a : Act} {K : Act → World → Prop} {Q : Exit → Act → World → Prop} {E : Prop} (hgd : o.guard = none) (s x : Operand) (t : TypeId)
    (ho : o.op = .call { callee := .builtin .append, args := #[s, x], argTypes := #[t, t] })
    (base : Nat) (e : TypeId) (i : TypeInfo) (z : Value) (size bytes : Nat) (ht : P.underlying t = some (.slice e)) (hi : P.info? e = some i) (hz : i.zero = some z)
    (hsize : i.size = size) (hby : i.bytes = bytes) (hzs : z.cells.size = size) (hsz : 0 < size)
    (v : Value) (n : Nat) (xs : List Value) (hs : a.eval s = v) (hown : w.ownsRow base e size v n xs)
    (ad : Addr) (m c : Nat) (news : List Value) (hx : a.eval x = .slice (some ad) m c) (hl : news.length = m * size) (hnews : ∀ j u, news[j]? = some u → w.cell? (ad.add j) = some u) (h1 : ∀ u ∈ news, u.oneCell' = true)
    (h63 : n + m ≤ maxLen) (hbytes : (n + m) * bytes ≤ 140737488355328) (hbase : base ≤ w.heap.size)
    (h : ∀ v' w', w'.ownsRow base e size v' (n + m) (xs ++ news) → w.grownBy w' v.ownBlock → (v' = .slice none 0 0 ↔ v = .slice none 0 0 ∧ m = 0) → K (a.put o.dst v') w') :
    if Region.wanted o (yielded ops a.tmps) = true then Oper.wp P o a w K Q else E := by
  have hw : Region.wanted o (yielded ops a.tmps) = true := by simp [Region.wanted, hgd]
  rw [if_pos hw]
  exact wp_append_own w s x t ho base e i z size bytes ht hi hz hsize hby hzs hsz v n xs hs hown ad m c news hx hl hnews h1 h63 hbytes hbase h
/-- Blocks that were there are as they were, but block b. -/
def Kp (b : Nat) (w w' : World) : Prop := w.heap.size ≤ w'.heap.size ∧ ∀ g, g < w.heap.size → g ≠ b → w'.heap[g]? = w.heap[g]?
theorem Kp.refl (b : Nat) (w : World) : Kp b w w := ⟨Nat.le_refl _, fun _ _ _ => rfl⟩
theorem Kp.trans {b : Nat} {w w1 w2 : World} (h : Kp b w w1) (h2 : Kp b w1 w2) : Kp b w w2 := ⟨Nat.le_trans h.1 h2.1, fun g hg hne => (h2.2 g (Nat.lt_of_lt_of_le hg h.1) hne).trans (h.2 g hg hne)⟩
theorem Kp.ext {b : Nat} {w w' : World} (h : Ext w w') : Kp b w w' := ⟨h.size, fun g hg _ => Below.block h g hg⟩
theorem Kp.cell {b : Nat} {w w' : World} (h : Kp b w w') {g : Nat} (hg : g < w.heap.size) (hne : g ≠ b) (o : Nat) : w'.cell? ⟨g, o, none⟩ = w.cell? ⟨g, o, none⟩ ∧ w'.frozen? ⟨g, o, none⟩ = w.frozen? ⟨g, o, none⟩ := by
  have e := h.2 g hg hne
  unfold World.cell? World.frozen?
  simp only [e, and_self]
theorem Kp.own {b : Nat} {w w' : World} (hk : Kp b w w') {base : Nat} {e : TypeId} {s : Nat} {v : Value} {n : Nat} {xs : List Value} (h : w.ownsRow base e s v n xs) (hb : b < base) : w'.ownsRow base e s v n xs := by
  refine ⟨h.1, ?_⟩
  rcases h.2 with hn | ⟨g, cap, cur, rfl, hg, hgg, rest⟩
  · exact .inl hn
  · exact .inr ⟨g, cap, cur, rfl, hg, (hk.2 g (Array.getElem?_eq_some_iff.1 hgg).1 (by omega)).trans hgg, rest⟩
theorem Kp.box {b : Nat} {w w' : World} (hk : Kp b w w') {B : Nat} {m : Ms} {v u : Value} (h : MBoxAt w B m v u) (hne : B ≠ b) : MBoxAt w' B m v u := by
  obtain ⟨hb, ⟨c0, c1, c2, c3, c4, c5, c6⟩, f0, f1, f2, f3, f4, f5, f6⟩ := h
  have hc := fun k => (hk.cell hb hne k).1
  have hf := fun k => (hk.cell hb hne k).2
  exact ⟨Nat.lt_of_lt_of_le hb hk.1, ⟨(hc _).trans c0, (hc _).trans c1, (hc _).trans c2, (hc _).trans c3, (hc _).trans c4, (hc _).trans c5, (hc _).trans c6⟩, (hf _).trans f0, (hf _).trans f1, (hf _).trans f2, (hf _).trans f3, (hf _).trans f4, (hf _).trans f5, (hf _).trans f6⟩
theorem heap_set (w : World) {k g : Nat} (h : k ≠ g) (o : Nat) (v : Value) : (w.setCell ⟨g, o, none⟩ v).heap[k]? = w.heap[k]? := Below.heap_setCell w ⟨g, o, none⟩ v k h
theorem Kp.set {b : Nat} {w w1 : World} (h : Kp b w w1) (g o : Nat) (hg : w.heap.size ≤ g ∨ g = b) (v : Value) : Kp b w (w1.setCell ⟨g, o, none⟩ v) :=
  ⟨by simpa using h.1, fun k hk hne => by
    have e : (w1.setCell ⟨g, o, none⟩ v).heap[k]? = w1.heap[k]? := heap_set w1 (by omega) o v
    exact e.trans (h.2 k hk hne)⟩
theorem Kp.drewN {b : Nat} {w w1 : World} (h : Kp b w w1) (q : Nat) : Kp b w (w1.drewN q) := ⟨by simpa using h.1, fun k hk hne => by simpa using h.2 k hk hne⟩
/-- A draw was made: the source has gone on, nothing else has turned. -/
def Tick (b a : Nat) (cv : Value) (w w' : World) : Prop := SrcAt w' b a cv ∧ Below b w w' ∧ Kp b w w'
theorem Tick.upd {b a : Nat} {cv : Value} {w w' : World} (h : Tick b a cv w w') : Upd b w w' := ⟨h.2.1, h.2.2.1, fun _ o hc hl => h.2.2.cell hl (Nat.ne_of_gt hc) o⟩
theorem tick_of {b a : Nat} {cv : Value} {w w' : World} {q : Nat} (h : SrcAt w b a cv) (e : w' = (w.setCell ⟨b, 1, none⟩ (.int .i64 (a + 1 : Nat))).drewN q) : Tick b (a + 1) cv w w' := by
  rw [e]
  exact ⟨h.place _ _, (Upd.place _ _ _).1, ((Kp.refl b w).set _ _ (Or.inr rfl) _).drewN _⟩
theorem next (b a : Nat) (cv : Value) (n : Int) (w : World) (h : SrcAt w b a cv) (h1 : 1 ≤ n) (h2 : n ≤ 200) (ha : a ≤ 1000) :
    Calls Tryd.prog 38 #[.pointer (some ⟨b, 0, none⟩), .int .i64 n] w fun e w' => ∃ r : Int, e = .returned (.int .i64 r) ∧ 0 ≤ r ∧ r < n ∧ Tick b (a + 1) cv w w' :=
  (next_any b a cv n w h h1 h2 ha).mono fun _ _ ⟨r, _, h1, h2, h3, h4⟩ => ⟨r, h1, h2, h3, tick_of h h4⟩
theorem chance (b a : Nat) (cv : Value) (n : Int) (w : World) (h : SrcAt w b a cv) (h1 : 1 ≤ n) (h2 : n ≤ 200) (ha : a ≤ 1000) :
    Calls Tryd.prog 17 #[.pointer (some ⟨b, 0, none⟩), .int .i64 n] w fun e w' => ∃ r : Bool, e = .returned (.bool r) ∧ Tick b (a + 1) cv w w' :=
  (chance_any b a cv n w h h1 h2 ha).mono fun _ _ ⟨r, _, h1, h4⟩ => ⟨r, h1, tick_of h h4⟩
theorem nums_new (w : World) (l : List Int) (t : TypeId) : NumsAt (w.alloc (.cells (l.map (Value.int .i64)).toArray t)) w.heap.size 0 l := by
  intro i x hx
  rw [Nat.zero_add, World.cell?_alloc_at _ _ _ _ rfl]
  simp [hx]
theorem pick (b a : Nat) (cv : Value) (l : List Int) (w : World) (t : TypeId) (h : SrcAt w b a cv) (h1 : 1 ≤ l.length) (h2 : l.length ≤ 200) (ha : a ≤ 1000) :
    Calls Tryd.prog 36 #[.pointer (some ⟨b, 0, none⟩), .slice (some ⟨w.heap.size, 0, none⟩) l.length l.length] (w.alloc (.cells (l.map (Value.int .i64)).toArray t)) fun e w' => ∃ x : Int, e = .returned (.int .i64 x) ∧ Tick b (a + 1) cv w w' :=
  (pick_any b a w.heap.size 0 _ cv l _ (h.alloc _) (Nat.ne_of_gt h.lt) (nums_new w l t) h1 h2 ha).mono fun _ _ ⟨x, _, h1, h4⟩ => ⟨x, h1, by
    obtain ⟨q1, q2, q3⟩ := tick_of (h.alloc _) h4
    exact ⟨q1, ((Below.refl _ _).alloc (Nat.le_of_lt h.lt) _).trans q2, (Kp.ext ((Ext.refl _).alloc _)).trans q3⟩⟩
theorem src_set {w : World} {b a : Nat} {cv : Value} (h : SrcAt w b a cv) (g o : Nat) (hg : b < g) (v : Value) : SrcAt (w.setCell ⟨g, o, none⟩ v) b a cv := h.kept ((Below.refl _ _).setCell (p := ⟨g, o, none⟩) hg v)
/-- From w on: draws were made, new memory was made and written. -/
theorem Tick.trans {b a a2 : Nat} {cv : Value} {w w1 w2 : World} (h : Tick b a cv w w1) (h2 : Tick b a2 cv w1 w2) : Tick b a2 cv w w2 := ⟨h2.1, h.2.1.trans h2.2.1, h.2.2.trans h2.2.2⟩
theorem Tick.ext {b a : Nat} {cv : Value} {w w1 w2 : World} (h : Tick b a cv w w1) (he : Ext w1 w2) : Tick b a cv w w2 := ⟨h.1.ext he, h.2.1.trans (Below.mono he (Nat.le_of_lt h.1.lt)), h.2.2.trans (Kp.ext he)⟩
theorem Tick.start {b a : Nat} {cv : Value} {w : World} (h : SrcAt w b a cv) : Tick b a cv w w := ⟨h, Below.refl _ _, Kp.refl _ _⟩
theorem Tick.set {b a : Nat} {cv : Value} {w w1 : World} (h : Tick b a cv w w1) (hb : b < w.heap.size) (g o : Nat) (hg : w.heap.size ≤ g) (v : Value) : Tick b a cv w (w1.setCell ⟨g, o, none⟩ v) := ⟨src_set h.1 _ _ (by omega) _, Below.setCell (p := ⟨g, o, none⟩) h.2.1 (by show b ≤ g; omega) v, h.2.2.set _ _ (Or.inl hg) _⟩
theorem Tick.grown {b a : Nat} {cv : Value} {w w1 w2 : World} {k : Option Nat} (h : Tick b a cv w w1) (hb : b < w.heap.size) (hg : w1.grownBy w2 k) (hk : ∀ q, k = some q → w.heap.size ≤ q) : Tick b a cv w w2 := by
  have hB : Below w.heap.size w1 w2 := Below.grown (Below.refl _ _) hg h.2.2.1 (fun q hq => hk q hq)
  refine ⟨h.1.kept (hB.mono (by omega)), h.2.1.trans (hB.mono (by omega)), ?_⟩
  refine ⟨Nat.le_trans h.2.2.1 hg.size, fun g hg1 hne => ?_⟩
  exact (hg.block g (Nat.lt_of_lt_of_le hg1 h.2.2.1) (fun e => by have := hk g e.symm; omega)).trans (h.2.2.2 g hg1 hne)
theorem box_set3 {w : World} {b : Nat} {m : Ms} {v u : Value} {x : Int} (h : MBoxAt w b m v u) : MBoxAt (w.setCell ⟨b, 3, none⟩ (.int .i64 x)) b { m with slot := x } v u := by
  obtain ⟨hb, ⟨c0, c1, c2, c3, c4, c5, c6⟩, f0, f1, f2, f3, f4, f5, f6⟩ := h
  refine ⟨by simpa using hb, ⟨?_, ?_, ?_, iset_eq _ _ _ _ ⟨_, c3⟩, ?_, ?_, ?_⟩, by simpa using f0, by simpa using f1, by simpa using f2, by simpa using f3, by simpa using f4, by simpa using f5, by simpa using f6⟩ <;> rw [iset_ne _ _ _ _ _ _ (by omega)] <;> assumption
theorem box_set4 {w : World} {b : Nat} {m : Ms} {v u : Value} {x : Int} (h : MBoxAt w b m v u) : MBoxAt (w.setCell ⟨b, 4, none⟩ (.int .i64 x)) b { m with value := x } v u := by
  obtain ⟨hb, ⟨c0, c1, c2, c3, c4, c5, c6⟩, f0, f1, f2, f3, f4, f5, f6⟩ := h
  refine ⟨by simpa using hb, ⟨?_, ?_, ?_, ?_, iset_eq _ _ _ _ ⟨_, c4⟩, ?_, ?_⟩, by simpa using f0, by simpa using f1, by simpa using f2, by simpa using f3, by simpa using f4, by simpa using f5, by simpa using f6⟩ <;> rw [iset_ne _ _ _ _ _ _ (by omega)] <;> assumption
theorem own_base {w : World} {base base' : Nat} {e : TypeId} {s : Nat} {v : Value} {n : Nat} {xs : List Value} (h : w.ownsRow base e s v n xs) (hb : base' ≤ base) : w.ownsRow base' e s v n xs := by
  refine ⟨h.1, ?_⟩
  rcases h.2 with hn | ⟨g, cap, cur, rfl, hg, hgg, rest⟩
  · exact .inl hn
  · exact .inr ⟨g, cap, cur, rfl, Nat.le_trans hb hg, hgg, rest⟩
theorem own_ne {w : World} {b1 b2 : Nat} {e1 e2 : TypeId} {s1 s2 : Nat} {v u : Value} {n1 n2 : Nat} {xs ys : List Value} (h1 : w.ownsRow b1 e1 s1 v n1 xs) (h2 : w.ownsRow b2 e2 s2 u n2 ys) (he : e1 ≠ e2) : ∀ q, u.ownBlock = some q → v.ownBlock ≠ some q := by
  intro q hu hv
  rcases h1.2 with ⟨rfl, -⟩ | ⟨g, cap, cur, rfl, hg, hgg, -⟩
  · cases hv
  · rcases h2.2 with ⟨rfl, -⟩ | ⟨g2, cap2, cur2, rfl, hg2, hgg2, -⟩
    · cases hu
    · cases hv
      cases hu
      rw [hgg] at hgg2
      cases hgg2
      exact he rfl
theorem own_grown {w w' : World} {base : Nat} {e : TypeId} {s : Nat} {u : Value} {n : Nat} {xs : List Value} {k : Option Nat} (h : w.ownsRow base e s u n xs) (hg : w.grownBy w' k) (hne : ∀ q, u.ownBlock = some q → k ≠ some q) : w'.ownsRow base e s u n xs := by
  refine ⟨h.1, ?_⟩
  rcases h.2 with hn | ⟨g, cap, cur, rfl, hb, hgg, rest⟩
  · exact .inl hn
  · exact .inr ⟨g, cap, cur, rfl, hb, (hg.block g (Array.getElem?_eq_some_iff.1 hgg).1 (fun e => hne g rfl e.symm)).trans hgg, rest⟩
theorem box_below {w w' : World} {B n : Nat} {m : Ms} {v u : Value} (h : MBoxAt w B m v u) (hB : Below n w w') (hn : B < n) : MBoxAt w' B m v u := by
  obtain ⟨hb, ⟨c0, c1, c2, c3, c4, c5, c6⟩, f0, f1, f2, f3, f4, f5, f6⟩ := h
  have hc := fun k => hB.cell (p := ⟨B, k, none⟩) hn
  have hf := fun k => hB.frozen (p := ⟨B, k, none⟩) hn
  exact ⟨Nat.lt_of_lt_of_le hb hB.size, ⟨(hc _).trans c0, (hc _).trans c1, (hc _).trans c2, (hc _).trans c3, (hc _).trans c4, (hc _).trans c5, (hc _).trans c6⟩, (hf _).trans f0, (hf _).trans f1, (hf _).trans f2, (hf _).trans f3, (hf _).trans f4, (hf _).trans f5, (hf _).trans f6⟩
theorem ne_types : (76 : TypeId) ≠ 2 := by decide
/-- A message came of a draw; its lists lie in memory of their own, from base on; the source has come to a place of at most a. -/
def Got (base : Nat) (w : World) (b a : Nat) (cv : Value) (m : Ms) (v u : Value) (w' : World) : Prop :=
  w'.ownsRow base 76 3 v m.certs.length (cellsCt m.certs) ∧ w'.ownsRow base 2 1 u m.refs.length (m.refs.map (Value.int .i64)) ∧ m.certs.length ≤ 5 ∧ m.refs.length ≤ 4 ∧ ∃ a', a' ≤ a ∧ Tick b a' cv w w'
def put7 (W : World) (R : Nat) (m : Ms) (v u : Value) : World := (((((((W.setCell ⟨R, 0, none⟩ (.int .i64 m.kind)).setCell ⟨R, 1, none⟩ (.int .i64 m.view)).setCell ⟨R, 2, none⟩ (.int .i64 m.from_)).setCell ⟨R, 3, none⟩ (.int .i64 m.slot)).setCell ⟨R, 4, none⟩ (.int .i64 m.value)).setCell ⟨R, 5, none⟩ v).setCell ⟨R, 6, none⟩ u)
theorem Got.put7 {base : Nat} {w : World} {b a : Nat} {cv : Value} {m : Ms} {v u : Value} {w' : World} (h : Got base w b a cv m v u w') (hb : b < w.heap.size) (R : Nat) (hR : w.heap.size ≤ R) (hRb : R < base) : Got base w b a cv m v u (put7 w' R m v u) := by
  obtain ⟨h1, h2, h3, h4, a', ha, h5⟩ := h
  refine ⟨?_, ?_, h3, h4, a', ha, ?_⟩ <;> unfold Dr.put7
  · exact Led.owns_set (Led.owns_set (Led.owns_set (Led.owns_set (Led.owns_set (Led.owns_set (Led.owns_set (h1) hRb _) hRb _) hRb _) hRb _) hRb _) hRb _) hRb _
  · exact Led.owns_set (Led.owns_set (Led.owns_set (Led.owns_set (Led.owns_set (Led.owns_set (Led.owns_set (h2) hRb _) hRb _) hRb _) hRb _) hRb _) hRb _) hRb _
  · exact Tick.set (Tick.set (Tick.set (Tick.set (Tick.set (Tick.set (Tick.set (h5) hb _ _ hR _) hb _ _ hR _) hb _ _ hR _) hb _ _ hR _) hb _ _ hR _) hb _ _ hR _) hb _ _ hR _
end Dr
end Go.Proofs.YtpncnfodgfldlaaDoor
namespace Go.Proofs.YtpncnfodgfldlaaDoor
open Go.RowKit
/-- How a draw of a message stands: the result's box, the message's box, its lists, the source. -/
def Dr.St (w : World) (b : Nat) (cv : Value) (W : World) (B a : Nat) (m : Ms) (v u : Value) : Prop :=
  MBoxAt W w.heap.size ⟨0, 0, 0, 0, 0, [], []⟩ (.slice none 0 0) (.slice none 0 0) ∧ MBoxAt W B m v u ∧ w.heap.size < B ∧ W.ownsRow (B + 1) 76 3 v m.certs.length (cellsCt m.certs) ∧ W.ownsRow (B + 1) 2 1 u m.refs.length (m.refs.map (Value.int .i64)) ∧ Dr.Tick b a cv w W
theorem Dr.St.tick {w : World} {b : Nat} {cv : Value} {W W' : World} {B a a2 : Nat} {m : Ms} {v u : Value} (h : Dr.St w b cv W B a m v u) (hb : b < w.heap.size) (ht : Dr.Tick b a2 cv W W') : Dr.St w b cv W' B a2 m v u := by
  obtain ⟨h1, h2, h3, h4, h5, h6⟩ := h
  exact ⟨ht.2.2.box h1 (by omega), ht.2.2.box h2 (by omega), h3, ht.2.2.own h4 (by omega), ht.2.2.own h5 (by omega), h6.trans ht⟩
theorem Dr.St.ext {w : World} {b : Nat} {cv : Value} {W W' : World} {B a : Nat} {m : Ms} {v u : Value} (h : Dr.St w b cv W B a m v u) (he : Ext W W') : Dr.St w b cv W' B a m v u := by
  obtain ⟨h1, h2, h3, h4, h5, h6⟩ := h
  exact ⟨h1.ext he, h2.ext he, h3, Led.own_ext h4 he, Led.own_ext h5 he, h6.ext he⟩
theorem Dr.St.slot {w : World} {b : Nat} {cv : Value} {W : World} {B a : Nat} {m : Ms} {v u : Value} (h : Dr.St w b cv W B a m v u) (hb : b < w.heap.size) (x : Int) : Dr.St w b cv (W.setCell ⟨B, 3, none⟩ (.int .i64 x)) B a { m with slot := x } v u := by
  obtain ⟨h1, h2, h3, h4, h5, h6⟩ := h
  exact ⟨h1.set_ne (by omega), Dr.box_set3 h2, h3, Led.owns_set h4 (by omega) _, Led.owns_set h5 (by omega) _, h6.set hb _ _ (by omega) _⟩
theorem Dr.St.value {w : World} {b : Nat} {cv : Value} {W : World} {B a : Nat} {m : Ms} {v u : Value} (h : Dr.St w b cv W B a m v u) (hb : b < w.heap.size) (x : Int) : Dr.St w b cv (W.setCell ⟨B, 4, none⟩ (.int .i64 x)) B a { m with value := x } v u := by
  obtain ⟨h1, h2, h3, h4, h5, h6⟩ := h
  exact ⟨h1.set_ne (by omega), Dr.box_set4 h2, h3, Led.owns_set h4 (by omega) _, Led.owns_set h5 (by omega) _, h6.set hb _ _ (by omega) _⟩
theorem Dr.St.got {w : World} {b : Nat} {cv : Value} {W : World} {B a k : Nat} {m : Ms} {v u : Value} (h : Dr.St w b cv W B a m v u) (hb : b < w.heap.size) (hk : a ≤ k) (h1 : m.certs.length ≤ 5) (h2 : m.refs.length ≤ 4) : Dr.Got (w.heap.size + 1) w b k cv m v u (Dr.put7 W w.heap.size m v u) := by
  obtain ⟨-, -, h3, h4, h5, h6⟩ := h
  exact Dr.Got.put7 ⟨Dr.own_base h4 (by omega), Dr.own_base h5 (by omega), h1, h2, a, hk, h6⟩ hb _ (Nat.le_refl _) (by omega)
theorem Dr.St.certs {w : World} {b : Nat} {cv : Value} {W W2 : World} {B a : Nat} {m : Ms} {v u v6 : Value} {o : Obj} {z : Ct} (h : Dr.St w b cv W B a m v u) (hb : b < w.heap.size) (ho : W2.ownsRow (B + 1) 76 3 v6 (m.certs.length + 1) (cellsCt m.certs ++ cellsCt [z])) (hg : (W.alloc o).grownBy W2 v.ownBlock) : Dr.St w b cv (W2.setCell ⟨B, 5, none⟩ v6) B a { m with certs := m.certs ++ [z] } v6 u := by
  obtain ⟨h1, h2, h3, h4, h5, h6⟩ := h
  have hv := h4.lt
  have hB : Below (B + 1) W W2 := Below.grown ((Below.refl _ _).alloc (by have := h2.1; omega) _) hg (by have := h2.1; simp; omega) (fun q hq => (hv q hq).1)
  have e1 : MBoxAt W2 w.heap.size ⟨0, 0, 0, 0, 0, [], []⟩ (.slice none 0 0) (.slice none 0 0) := Dr.box_below h1 hB (by omega)
  have e2 : MBoxAt W2 B m v u := Dr.box_below h2 hB (by omega)
  refine ⟨e1.set_ne (by omega), e2.set5, h3, ?_, ?_, ?_⟩
  · have h9 := Led.owns_set ho (b := B) (o := 5) (by omega) v6
    rw [List.length_append]
    rw [show cellsCt (m.certs ++ [z]) = cellsCt m.certs ++ cellsCt [z] from by simp [cellsCt]]
    exact h9
  · exact Led.owns_set (Dr.own_grown (h5.alloc _) hg (Dr.own_ne h4 h5 Dr.ne_types)) (by omega) _
  · exact (Dr.Tick.grown (h6.ext ((Ext.refl _).alloc _)) hb hg (fun q hq => by have := (hv q hq).1; omega)).set hb _ _ (by omega) _
theorem Dr.St.refs {w : World} {b : Nat} {cv : Value} {W W2 : World} {B a : Nat} {m : Ms} {v u v6 : Value} {o : Obj} {z : Int} (h : Dr.St w b cv W B a m v u) (hb : b < w.heap.size) (ho : W2.ownsRow (B + 1) 2 1 v6 (m.refs.length + 1) (m.refs.map (Value.int .i64) ++ [.int .i64 z])) (hg : (W.alloc o).grownBy W2 u.ownBlock) : Dr.St w b cv (W2.setCell ⟨B, 6, none⟩ v6) B a { m with refs := m.refs ++ [z] } v v6 := by
  obtain ⟨h1, h2, h3, h4, h5, h6⟩ := h
  have hv := h5.lt
  have hB : Below (B + 1) W W2 := Below.grown ((Below.refl _ _).alloc (by have := h2.1; omega) _) hg (by have := h2.1; simp; omega) (fun q hq => (hv q hq).1)
  have e1 : MBoxAt W2 w.heap.size ⟨0, 0, 0, 0, 0, [], []⟩ (.slice none 0 0) (.slice none 0 0) := Dr.box_below h1 hB (by omega)
  have e2 : MBoxAt W2 B m v u := Dr.box_below h2 hB (by omega)
  refine ⟨e1.set_ne (by omega), e2.set6, h3, ?_, ?_, ?_⟩
  · exact Led.owns_set (Dr.own_grown (h4.alloc _) hg (Dr.own_ne h5 h4 (Ne.symm Dr.ne_types))) (by omega) _
  · have h9 := Led.owns_set ho (b := B) (o := 6) (by omega) v6
    rw [List.length_append, List.map_append]
    exact h9
  · exact (Dr.Tick.grown (h6.ext ((Ext.refl _).alloc _)) hb hg (fun q hq => by have := (hv q hq).1; omega)).set hb _ _ (by omega) _
end Go.Proofs.YtpncnfodgfldlaaDoor
namespace Go.Proofs.YtpncnfodgfldlaaDoor
open Go.RowKit
theorem keepAl {w : World} {ob : Obj} {c o : Nat} {v : Value} (hv : w.cell? ⟨c, o, none⟩ = some v) : (w.alloc ob).cell? ⟨c, o, none⟩ = some v :=
  (World.cell?_alloc_lt _ _ _ (World.block_lt_of_cell? w _ hv)).trans hv
def OnlyZ (R : Act → World → Prop) : Exit → Act → World → Prop
  | .normal, a, w => R a w
  | _, _, _ => False
theorem OnlyZ.out {R : Act → World → Prop} {e : Exit} {a : Act} {w : World} (h : OnlyZ R e a w) : e = .normal ∧ R a w := by
  cases e <;> first | exact ⟨rfl, h⟩ | exact (h : False).elim
/-- An IntsResult was made and boxed in bw; w0 is as it was. -/
def Led.Got (w0 : World) (c : Int) (rs : List Int) (W : World) (bw g3 : Nat) (v : Value) : Prop :=
  Ext w0 W ∧ w0.heap.size ≤ bw ∧ Led.JBoxAt W bw c v ∧ Led.IOwn W v g3 rs ∧ w0.heap.size ≤ g3
theorem Led.Got.new {w0 n : World} {c : Int} {rs : List Int} {g3 : Nat} {v : Value} {t : TypeId} (X : Ext w0 n) (hO : Led.IOwn n v g3 rs) (hg : w0.heap.size ≤ g3) : Led.Got w0 c rs (n.alloc (.cells #[.int .i64 c, v] t)) n.heap.size g3 v :=
  ⟨X.alloc _, X.size, Led.jbox_new n c v t, hO.ext ((Ext.refl _).alloc _), hg⟩
theorem Led.jz_put {n : World} {b : Nat} {c : Int} {v : Value} (B : Led.JZ n b) : Led.JBoxAt ((n.setCell ⟨b, 0, none⟩ (.int .i64 c)).setCell ⟨b, 1, none⟩ v) b c v := by
  obtain ⟨h0, h1, h2, -, -⟩ := B
  refine ⟨by simpa using h0, ?_, ?_⟩
  · rw [iset_ne _ _ _ _ _ _ (by omega)]; exact iset_eq _ _ _ _ ⟨_, h1⟩
  · apply iset_eq; rw [iset_ne _ _ _ _ _ _ (by omega)]; exact ⟨_, h2⟩
theorem Led.Got.set {w0 n : World} {c : Int} {rs : List Int} {g3 b : Nat} {v : Value} (X : Ext w0 n) (hb : w0.heap.size ≤ b) (B : Led.JZ n b) (hO : Led.IOwn n v g3 rs) (hbg : 0 < rs.length → g3 ≠ b) (hg : w0.heap.size ≤ g3) : Led.Got w0 c rs ((n.setCell ⟨b, 0, none⟩ (.int .i64 c)).setCell ⟨b, 1, none⟩ v) b g3 v :=
  ⟨(X.setCell (p := ⟨b, 0, none⟩) hb _).setCell (p := ⟨b, 1, none⟩) hb _, hb, Led.jz_put B, hO.upd' (((Upd.refl b n).setAt _ _).setAt _ _) hbg, hg⟩
namespace Led
end Led
end Go.Proofs.YtpncnfodgfldlaaDoor
namespace Go.Proofs.YtpncnfodgfldlaaDoor
open Go.RowKit
namespace Dr
def cellsP (l : List (Ms × Value × Value)) : List Value := l.flatMap fun p => [.int .i64 p.1.kind, .int .i64 p.1.view, .int .i64 p.1.from_, .int .i64 p.1.slot, .int .i64 p.1.value, p.2.1, p.2.2]
theorem cellsP_app (l k : List (Ms × Value × Value)) : cellsP (l ++ k) = cellsP l ++ cellsP k := by simp [cellsP]
theorem cellsP_at : ∀ (l : List (Ms × Value × Value)) (i : Nat) (p : Ms × Value × Value), l[i]? = some p → (cellsP l)[i * 7]? = some (.int .i64 p.1.kind) ∧ (cellsP l)[i * 7 + 1]? = some (.int .i64 p.1.view) ∧ (cellsP l)[i * 7 + 2]? = some (.int .i64 p.1.from_) ∧ (cellsP l)[i * 7 + 3]? = some (.int .i64 p.1.slot) ∧ (cellsP l)[i * 7 + 4]? = some (.int .i64 p.1.value) ∧ (cellsP l)[i * 7 + 5]? = some p.2.1 ∧ (cellsP l)[i * 7 + 6]? = some p.2.2
  | [], i, p, h => by simp at h
  | q :: r, 0, p, h => by simp at h; subst h; simp [cellsP]
  | q :: r, i + 1, p, h => by
    simp only [List.getElem?_cons_succ] at h
    have := cellsP_at r i p h
    have e : ∀ j, (cellsP (q :: r))[(i + 1) * 7 + j]? = (cellsP r)[i * 7 + j]? := fun j => by
      rw [show cellsP (q :: r) = [.int .i64 q.1.kind, .int .i64 q.1.view, .int .i64 q.1.from_, .int .i64 q.1.slot, .int .i64 q.1.value, q.2.1, q.2.2] ++ cellsP r from rfl, List.getElem?_append_right (by simp; omega)]
      congr 1
      simp
      omega
    have e0 := e 0
    rw [Nat.add_zero, Nat.add_zero] at e0
    rw [e0, e 1, e 2, e 3, e 4, e 5, e 6]
    exact this
theorem cellsP_one (l : List (Ms × Value × Value)) (h : ∀ p ∈ l, p.2.1.oneCell' = true ∧ p.2.2.oneCell' = true) : ∀ u ∈ cellsP l, u.oneCell' = true := by
  intro u hu
  simp only [cellsP, List.mem_flatMap] at hu
  obtain ⟨p, hp, hs⟩ := hu
  obtain ⟨q1, q2⟩ := h p hp
  simp at hs
  rcases hs with rfl | rfl | rfl | rfl | rfl | rfl | rfl <;> first | rfl | assumption
/-- The messages of ps lie in a row of their own, their lists in rows of their own. -/
def MRow (base : Nat) (W : World) (ov : Value) (ps : List (Ms × Value × Value)) : Prop :=
  W.ownsRow base 28 7 ov ps.length (cellsP ps) ∧ (∀ p ∈ ps, W.ownsRow base 76 3 p.2.1 p.1.certs.length (cellsCt p.1.certs) ∧ W.ownsRow base 2 1 p.2.2 p.1.refs.length (p.1.refs.map (Value.int .i64))) ∧ ∀ p ∈ ps, SmallM p.1
theorem MRow.kp {base b : Nat} {W W' : World} {ov : Value} {ps : List (Ms × Value × Value)} (h : MRow base W ov ps) (hk : Kp b W W') (hb : b < base) : MRow base W' ov ps :=
  ⟨hk.own h.1 hb, fun p hp => ⟨hk.own (h.2.1 p hp).1 hb, hk.own (h.2.1 p hp).2 hb⟩, h.2.2⟩
theorem MRow.ext {base : Nat} {W W' : World} {ov : Value} {ps : List (Ms × Value × Value)} (h : MRow base W ov ps) (he : Ext W W') : MRow base W' ov ps :=
  ⟨Led.own_ext h.1 he, fun p hp => ⟨Led.own_ext (h.2.1 p hp).1 he, Led.own_ext (h.2.1 p hp).2 he⟩, h.2.2⟩
theorem ne_cm : (28 : TypeId) ≠ 76 := by decide
theorem ne_im : (28 : TypeId) ≠ 2 := by decide
theorem MRow.push {base : Nat} {W W2 : World} {ov v6 : Value} {ps : List (Ms × Value × Value)} {p : Ms × Value × Value} {o : Obj} (h : MRow base W ov ps) (h1 : W.ownsRow base 76 3 p.2.1 p.1.certs.length (cellsCt p.1.certs)) (h2 : W.ownsRow base 2 1 p.2.2 p.1.refs.length (p.1.refs.map (Value.int .i64))) (ho : W2.ownsRow base 28 7 v6 (ps.length + 1) (cellsP ps ++ cellsP [p])) (hg : (W.alloc o).grownBy W2 ov.ownBlock) (hs : SmallM p.1) : MRow base W2 v6 (ps ++ [p]) := by
  have hr := h.1
  refine ⟨by rw [cellsP_app, List.length_append]; exact ho, fun q hq => ?_, fun q hq => by
    rw [List.mem_append, List.mem_singleton] at hq
    rcases hq with hq | rfl
    · exact h.2.2 q hq
    · exact hs⟩
  have hkeep : ∀ q : Ms × Value × Value, W.ownsRow base 76 3 q.2.1 q.1.certs.length (cellsCt q.1.certs) ∧ W.ownsRow base 2 1 q.2.2 q.1.refs.length (q.1.refs.map (Value.int .i64)) → W2.ownsRow base 76 3 q.2.1 q.1.certs.length (cellsCt q.1.certs) ∧ W2.ownsRow base 2 1 q.2.2 q.1.refs.length (q.1.refs.map (Value.int .i64)) := fun q hq =>
    ⟨own_grown (hq.1.alloc _) hg (own_ne hr hq.1 ne_cm), own_grown (hq.2.alloc _) hg (own_ne hr hq.2 ne_im)⟩
  rw [List.mem_append, List.mem_singleton] at hq
  rcases hq with hq | rfl
  · exact hkeep q (h.2.1 q hq)
  · exact hkeep q ⟨h1, h2⟩
theorem MRow.slice {base : Nat} {W : World} {ov : Value} {ps : List (Ms × Value × Value)} (h : MRow base W ov ps) : MSlice W ov (ps.map (·.1)) := by
  have hlt := h.1.lt
  rcases h.1.2 with ⟨hv, h0⟩ | ⟨g, cap, cur, hv, hb, hh, hn, hm, hcs, htk⟩
  · exact ⟨none, 0, by rw [hv, List.length_map, h0], by rw [List.length_map]; omega, by unfold maxLen; omega, fun hp => by rw [List.length_map] at hp; omega⟩
  · subst hv
    refine ⟨some ⟨g, 0, none⟩, cap, by rw [List.length_map], by rw [List.length_map]; exact hn, hm, fun hp => ⟨g, 0, rfl, (hlt g rfl).2, fun i m hi => ?_⟩⟩
    rw [List.getElem?_map] at hi
    obtain ⟨p, hpi, rfl⟩ := Option.map_eq_some_iff.1 hi
    have hil := (List.getElem?_eq_some_iff.1 hpi).1
    obtain ⟨c0, c1, c2, c3, c4, c5, c6⟩ := cellsP_at ps i p hpi
    obtain ⟨q1, q2⟩ := h.2.1 p (List.mem_of_getElem? hpi)
    obtain ⟨g1, -, hC⟩ := ctown_of_owns q1
    refine ⟨p.2.1, p.2.2, ?_, hC.slice, islice_of_owns q2⟩
    rw [Nat.zero_add]
    have e := fun j (hj : j < 7) => h.1.cellAt (i * 7 + j) (by omega)
    exact ⟨(by have := e 0 (by omega); rw [Nat.add_zero] at this; exact this.trans c0), (e 1 (by omega)).trans c1, (e 2 (by omega)).trans c2, (e 3 (by omega)).trans c3, (e 4 (by omega)).trans c4, (e 5 (by omega)).trans c5, (e 6 (by omega)).trans c6⟩
end Dr
end Go.Proofs.YtpncnfodgfldlaaDoor
namespace Go.Proofs.YtpncnfodgfldlaaDoor
open Go.RowKit Go.Maps Go.Sort Go.Shelf
def keysS_ren : Go.Shelf.Ren := ⟨fun | 7 => 132 | 10 => 164 | n => n, fun | 23 => 95 | 26 => 2 | 3 => 149 | 28 => 147 | 0 => 0 | 27 => 146 | 33 => 101 | 4 => 4 | n => n, fun | n => n⟩
def sortedS_ren : Go.Shelf.Ren := ⟨fun | 6 => 131 | 8 => 162 | 9 => 163 | 11 => 167 | 13 => 169 | 12 => 168 | 23 => 180 | 24 => 181 | 14 => 171 | 15 => 172 | 16 => 173 | 17 => 174 | 18 => 175 | 19 => 176 | 20 => 177 | 21 => 178 | 22 => 179 | 25 => 182 | 26 => 183 | 27 => 184 | 28 => 185 | 29 => 186 | 30 => 187 | 31 => 188 | n => n, fun | 26 => 2 | 28 => 147 | 24 => 26 | 0 => 0 | 3 => 3 | 37 => 167 | 48 => 178 | 50 => 180 | 4 => 4 | 40 => 171 | 39 => 170 | 45 => 175 | 5 => 5 | 9 => 9 | 51 => 181 | 55 => 185 | 57 => 187 | 58 => 188 | 33 => 101 | n => n, fun | n => n⟩
def sortS_ren : Go.Shelf.Ren := ⟨fun | 5 => 163 | 8 => 169 | 7 => 168 | 19 => 180 | 20 => 181 | 10 => 171 | 11 => 172 | 12 => 173 | 13 => 174 | 14 => 175 | 15 => 176 | 16 => 177 | 17 => 178 | 18 => 179 | 30 => 182 | 31 => 183 | 32 => 184 | 33 => 185 | 34 => 186 | 35 => 187 | 40 => 188 | n => n, fun | 23 => 26 | 25 => 2 | 3 => 3 | 32 => 167 | 22 => 26 | 0 => 0 | 44 => 178 | 46 => 180 | 4 => 4 | 36 => 171 | 35 => 170 | 41 => 175 | 5 => 5 | 9 => 9 | 53 => 181 | 57 => 185 | 63 => 187 | 64 => 188 | n => n, fun | n => n⟩
end Go.Proofs.YtpncnfodgfldlaaDoor
namespace Go.Proofs.YtpncnfodgfldlaaDoor
open Go.RowKit Go.Maps
namespace Nst
/-- Block b holds a set of the numbers l. -/
def SMap (w : World) (b n : Nat) (l : List Int) : Prop := w.ownsMap Tryd.prog 2 (unitElem (H := Unit)) b n (map l)
theorem SMap.lt {w : World} {b n : Nat} {l : List Int} (h : SMap w b n l) : b < w.heap.size := World.ownsMap.lt h
theorem SMap.ext {w w' : World} {b n : Nat} {l : List Int} (h : SMap w b n l) (he : Ext w w') : SMap w' b n l := by
  have hlt := h.lt
  obtain ⟨es, clock, hb, F, hs, hD⟩ := h
  exact ⟨es, clock, (Below.block he b hlt).trans hb, F, hs, hD⟩
theorem SMap.made (w : World) : SMap (w.alloc (.map #[] 0)) w.heap.size 0 [] := World.ownsMap_made _ _ _ _
theorem SMap.set {w : World} {b n : Nat} {l : List Int} (h : SMap w b n l) (g o : Nat) (hg : b ≠ g) (v : Value) : SMap (w.setCell ⟨g, o, none⟩ v) b n l := World.ownsMap.setCell h hg v
theorem cell_block {w w' : World} {c : Nat} (h : w'.heap[c]? = w.heap[c]?) (o : Nat) : w'.cell? ⟨c, o, none⟩ = w.cell? ⟨c, o, none⟩ ∧ w'.frozen? ⟨c, o, none⟩ = w.frozen? ⟨c, o, none⟩ := by
  unfold World.cell? World.frozen?
  simp only [h, and_self]
end Nst
end Go.Proofs.YtpncnfodgfldlaaDoor
namespace Go.Proofs.YtpncnfodgfldlaaDoor
open Go.RowKit Go.Maps
theorem MBoxAt.set2 {w : World} {b : Nat} {m : Ms} {v u : Value} {x : Int} (h : MBoxAt w b m v u) : MBoxAt (w.setCell ⟨b, 2, none⟩ (.int .i64 x)) b (Msg.as_ m x) v u := by
  obtain ⟨hb, ⟨c0, c1, c2, c3, c4, c5, c6⟩, f0, f1, f2, f3, f4, f5, f6⟩ := h
  refine ⟨by simpa using hb, ⟨?_, ?_, iset_eq _ _ _ _ ⟨_, c2⟩, ?_, ?_, ?_, ?_⟩, by simpa using f0, by simpa using f1, by simpa using f2, by simpa using f3, by simpa using f4, by simpa using f5, by simpa using f6⟩ <;> rw [iset_ne _ _ _ _ _ _ (by omega)] <;> assumption
theorem MBoxAt.upd {w w' : World} {b g : Nat} {m : Ms} {v u : Value} (h : MBoxAt w b m v u) (hu : Upd g w w') (hne : b ≠ g) : MBoxAt w' b m v u := by
  obtain ⟨hb, ⟨c0, c1, c2, c3, c4, c5, c6⟩, f0, f1, f2, f3, f4, f5, f6⟩ := h
  have hc := fun k => (hu.at_ne b k hne hb).1
  have hf := fun k => (hu.at_ne b k hne hb).2
  exact ⟨Nat.lt_of_lt_of_le hb hu.2.1, ⟨(hc _).trans c0, (hc _).trans c1, (hc _).trans c2, (hc _).trans c3, (hc _).trans c4, (hc _).trans c5, (hc _).trans c6⟩, (hf _).trans f0, (hf _).trans f1, (hf _).trans f2, (hf _).trans f3, (hf _).trans f4, (hf _).trans f5, (hf _).trans f6⟩
end Go.Proofs.YtpncnfodgfldlaaDoor
namespace Go.Proofs.YtpncnfodgfldlaaDoor
open Go.RowKit
/-- Block b holds an IntResult. -/
def IBoxAt (w : World) (b : Nat) (c n : Int) : Prop := b < w.heap.size ∧ w.cell? ⟨b, 0, none⟩ = some (.int .i64 c) ∧ w.cell? ⟨b, 1, none⟩ = some (.int .i64 n)
theorem IBoxAt.ext {w w' : World} {b : Nat} {c n : Int} (h : IBoxAt w b c n) (he : Ext w w') : IBoxAt w' b c n := by
  obtain ⟨hc, _⟩ := Ext.cell he
  exact ⟨Nat.lt_of_lt_of_le h.1 he.size, (hc _ _ h.1).trans h.2.1, (hc _ _ h.1).trans h.2.2⟩
end Go.Proofs.YtpncnfodgfldlaaDoor
namespace Go.Proofs.YtpncnfodgfldlaaDoor
open Go.RowKit
def Msg.needV (f : Int) : Int × Int := if Msg.fOk f = false then (3, 0) else (0, 2 * f + 1)
def Msg.primary (f view : Int) : Int := 1 + view % (3 * f + 1)
def Msg.primV (f view : Int) : Int × Int := if Msg.fOk f = false then (3, 0) else if (decide (0 ≤ view) && decide (view ≤ 20)) = false then (3, 0) else (0, Msg.primary f view)
end Go.Proofs.YtpncnfodgfldlaaDoor
namespace Go.Proofs.YtpncnfodgfldlaaDoor
namespace Msg
theorem lists_zero {f : Int} {m : Ms} (h : faultM f m = 0) : m.certs.length ≤ 30 ∧ (m.refs.length : Int) ≤ 3 * f + 1 ∧ (∀ c ∈ m.certs, 1 ≤ c.slot ∧ c.slot ≤ 30 ∧ 0 ≤ c.view ∧ c.view ≤ m.view - 1 ∧ 0 ≤ c.value ∧ c.value ≤ 12) ∧ (∀ r ∈ m.refs, 0 ≤ r ∧ r ≤ 239) ∧ rises (slots m.certs) = true := by
  unfold faultM at h
  split at h
  · omega
  · split at h
    · omega
    · split at h
      · omega
      · rename_i h3
        have h3 : manyN f m.certs.length m.refs.length = false := by simpa using h3
        unfold manyN at h3
        rw [decide_eq_false_iff_not] at h3
        unfold lists at h
        split at h
        · omega
        · rename_i h5
          split at h
          · omega
          · split at h
            · omega
            · rename_i h4
              have h4 : parts m = true := by simpa using h4
              unfold parts at h4
              rw [Bool.and_eq_true, List.all_eq_true, List.all_eq_true] at h4
              refine ⟨by omega, by omega, fun c hc => ?_, fun r hr => ?_, by simpa using h5⟩
              · have := h4.1 c hc
                unfold certOk at this
                rw [decide_eq_true_eq] at this
                omega
              · have := h4.2 r hr
                unfold refOk at this
                rw [decide_eq_true_eq] at this
                exact this
/-- The message at a place. -/
def nth (ms : List Ms) (p : Int) : Option Ms := if 0 ≤ p then ms[p.toNat]? else none
def kindAt (ms : List Ms) (p k : Int) : Bool := match nth ms p with
  | some z => decide (z.kind = k)
  | none => false
def changeB (f : Int) (ms : List Ms) (z : Ms) : Bool := decide (z.kind = 4 ∧ 1 ≤ z.view) && z.certs.all (enough f ms 2)
def changeAt (f : Int) (ms : List Ms) (p : Int) : Bool := match nth ms p with
  | some z => changeB f ms z
  | none => false
def changeRight (f : Int) (ms : List Ms) (p : Int) : Bool := decide (ledger f ms = 0) && changeAt f ms p
def fromAt (ms : List Ms) (p : Int) : Int := match nth ms p with
  | some z => z.from_
  | none => 0
def viewAt (ms : List Ms) (p : Int) : Int := match nth ms p with
  | some z => z.view
  | none => 0
def fromIn (ms : List Ms) (l : List Int) (x : Int) : Bool := l.any (fun p => decide (fromAt ms p = x))
/-- Is the message at p a right change to view, of one that is not among l? -/
def okP (f : Int) (ms : List Ms) (view : Int) (l : List Int) (p : Int) : Bool := decide (viewAt ms p = view) && changeAt f ms p && !fromIn ms l (fromAt ms p)
def among (f : Int) (ms : List Ms) (view : Int) (ps : List Int) : Nat → List Int
  | 0 => []
  | k + 1 => match ps[k]? with
    | some p => if okP f ms view (among f ms view ps k) p = true then among f ms view ps k ++ [p] else among f ms view ps k
    | none => among f ms view ps k
/-- Who has sent those of l. -/
def sset (ms : List Ms) (l : List Int) : List Int := l.foldl (fun s p => Nst.put (fromAt ms p) s) []
def changesV (f : Int) (ms : List Ms) (x : Int) : Int × List Int := if ¬ ledger f ms = 0 then (ledger f ms, []) else if ¬ (0 ≤ x ∧ x ≤ 20) then (3, []) else (0, (among f ms x (Nst.upto 0 ms.length) ms.length).take (2 * f + 1).toNat)
/-! ### the beginning of a view -/
def newB (f : Int) (ms : List Ms) (z : Ms) : Bool := decide (z.kind = 5 ∧ 1 ≤ z.view ∧ z.from_ = primary f z.view ∧ 2 * f + 1 ≤ (z.refs.length : Int)) && decide ((among f ms z.view z.refs z.refs.length).length = z.refs.length)
def newAt (f : Int) (ms : List Ms) (p : Int) : Bool := match nth ms p with
  | some z => newB f ms z
  | none => false
def newRight (f : Int) (ms : List Ms) (p : Int) : Bool := decide (ledger f ms = 0) && newAt f ms p
end Msg
theorem MSlice.at2 {w : World} {v : Value} {ms : List Ms} (h : MSlice w v ms) {k : Nat} {z : Ms} (hk : ms[k]? = some z) : ∃ b off cap, v = .slice (some ⟨b, off, none⟩) ms.length cap ∧ k < ms.length ∧ ms.length ≤ cap ∧ cap ≤ 9223372036854775807 ∧ b < w.heap.size ∧ MAt w b (off + k * 7) z := by
  obtain ⟨a, cap, rfl, h1, h2, hx⟩ := h
  have hl := (List.getElem?_eq_some_iff.1 hk).1
  obtain ⟨b, off, rfl, hb, hN⟩ := hx (by omega)
  unfold maxLen at h2
  exact ⟨b, off, cap, rfl, hl, h1, by omega, hb, hN k z hk⟩
end Go.Proofs.YtpncnfodgfldlaaDoor
namespace Go.Proofs.YtpncnfodgfldlaaDoor
namespace Msg
def better (slot : Int) (o : Option Ct) (c : Ct) : Option Ct := if c.slot = slot then (match o with
  | none => some c
  | some d => if d.view < c.view then some c else some d) else o
def best (cs : List Ct) (slot : Int) : Option Ct := cs.foldl (better slot) none
/-- The view and the value of what is the best, as the specification keeps them. -/
def vw : Option Ct → Int
  | none => -1
  | some c => c.view
def vl : Option Ct → Int
  | none => 0
  | some c => c.value
/-- The program's way: those of a slot, then the newest. -/
def ofSlot (cs : List Ct) (slot : Int) : List Ct := cs.filter (fun c => decide (c.slot = slot))
def newer (d c : Ct) : Ct := if d.view < c.view then c else d
def newestK (c : Ct) (r : List Ct) (k : Nat) : Ct := (r.take k).foldl newer c
/-- The newest of the slots 1 to k. -/
def ns (cs : List Ct) : Nat → List Ct
  | 0 => []
  | k + 1 => match best cs ((k : Int) + 1) with
    | some c => ns cs k ++ [c]
    | none => ns cs k
/-- n zeros more. -/
def zeros (n : Nat) : List Int := List.replicate n 0
def fill1 (vs : List Int) (c : Ct) : List Int := vs ++ zeros ((c.slot - 1).toNat - vs.length) ++ [c.value]
def fillK (l : List Ct) (k : Nat) : List Int := (l.take k).foldl fill1 []
def pick (cs : List Ct) : Nat → List Int
  | 0 => []
  | k + 1 => match best cs ((k : Int) + 1) with
    | some c => pick cs k ++ zeros (k - (pick cs k).length) ++ [c.value]
    | none => pick cs k
/-- What the specification lays down slot by slot. -/
def vals (cs : List Ct) : Nat → List Int
  | 0 => []
  | k + 1 => vals cs k ++ [vl (best cs ((k : Int) + 1))]
/-! ### the certificates of some messages -/
def certsAt (ms : List Ms) (p : Int) : List Ct := match nth ms p with
  | some z => z.certs
  | none => []
def refsAt (ms : List Ms) (p : Int) : List Int := match nth ms p with
  | some z => z.refs
  | none => []
def cat (ms : List Ms) (l : List Int) : List Ct := l.flatMap (certsAt ms)
def picks (ms : List Ms) (l : List Int) : List Int := pick (cat ms l) 30
def pickV (f : Int) (ms : List Ms) (refs : List Int) : Int × List Int := if ¬ ledger f ms = 0 then (ledger f ms, []) else if 3 * f + 1 < (refs.length : Int) then (2, []) else if refs.all (fun p => kindAt ms p 4) = false then (4, []) else (0, picks ms refs)
/-! ### what one has committed -/
def isCm (id view : Int) (z : Ms) : Bool := decide (z.kind = 3 ∧ z.from_ = id ∧ z.view < view)
def cms (ms : List Ms) (id view : Int) : List Ct := (ms.filter (isCm id view)).map (fun z => ⟨z.slot, z.view, z.value⟩)
def certsV (f : Int) (ms : List Ms) (id view : Int) : Int × List Ct := if ¬ ledger f ms = 0 then (ledger f ms, []) else if ¬ (1 ≤ id ∧ id ≤ 3 * f + 1) then (3, []) else if ¬ (0 ≤ view ∧ view ≤ 20) then (3, []) else (0, ns (cms ms id view) 30)
/-! ### what may be proposed -/
def startB (f : Int) (ms : List Ms) (view start : Int) : Bool := if view = 0 then decide (start = -1) else newAt f ms start && decide (viewAt ms start = view)
def valueB (ms : List Ms) (start slot value : Int) : Bool := if start < 0 then decide (0 < value) else if slot ≤ ((picks ms (refsAt ms start)).length : Int) then decide (value = (picks ms (refsAt ms start)).getD (slot - 1).toNat 0) else decide (0 < value)
def proposeB (f : Int) (ms : List Ms) (z : Ms) (start : Int) : Bool := decide (z.kind = 1) && decide (z.from_ = primary f z.view) && startB f ms z.view start && valueB ms start z.slot z.value
def proposeAt (f : Int) (ms : List Ms) (p start : Int) : Bool := match nth ms p with
  | some z => proposeB f ms z start
  | none => false
def proposeRight (f : Int) (ms : List Ms) (p start : Int) : Bool := decide (ledger f ms = 0) && proposeAt f ms p start
end Msg
end Go.Proofs.YtpncnfodgfldlaaDoor
namespace Go.Proofs.YtpncnfodgfldlaaDoor
open Go.RowKit
/-- A certificate in a box that may be written. -/
def CBx (w : World) (b : Nat) (c : Ct) : Prop := b < w.heap.size ∧ (w.cell? ⟨b, 0, none⟩ = some (.int .i64 c.slot) ∧ w.cell? ⟨b, 1, none⟩ = some (.int .i64 c.view) ∧ w.cell? ⟨b, 2, none⟩ = some (.int .i64 c.value)) ∧ w.frozen? ⟨b, 0, none⟩ = false ∧ w.frozen? ⟨b, 1, none⟩ = false ∧ w.frozen? ⟨b, 2, none⟩ = false
theorem CBx.ext {w w' : World} {b : Nat} {c : Ct} (h : CBx w b c) (he : Ext w w') : CBx w' b c := by
  obtain ⟨hc, hf⟩ := Ext.cell he
  obtain ⟨hb, ⟨c0, c1, c2⟩, f0, f1, f2⟩ := h
  exact ⟨Nat.lt_of_lt_of_le hb he.size, ⟨(hc _ _ hb).trans c0, (hc _ _ hb).trans c1, (hc _ _ hb).trans c2⟩, (hf _ _ hb).trans f0, (hf _ _ hb).trans f1, (hf _ _ hb).trans f2⟩
theorem CBx.set_ne {w : World} {b g o : Nat} {c : Ct} {x : Value} (h : CBx w b c) (hne : g ≠ b) : CBx (w.setCell ⟨g, o, none⟩ x) b c := by
  obtain ⟨hb, ⟨c0, c1, c2⟩, f0, f1, f2⟩ := h
  refine ⟨by simpa using hb, ⟨?_, ?_, ?_⟩, by simpa using f0, by simpa using f1, by simpa using f2⟩ <;> rw [iset_ne _ _ _ _ _ _ (Or.inl hne)] <;> assumption
theorem CBx.put {w : World} {b : Nat} {c : Ct} (h : CBx w b c) (d : Ct) : CBx (((w.setCell ⟨b, 0, none⟩ (.int .i64 d.slot)).setCell ⟨b, 1, none⟩ (.int .i64 d.view)).setCell ⟨b, 2, none⟩ (.int .i64 d.value)) b d := by
  obtain ⟨hb, ⟨c0, c1, c2⟩, f0, f1, f2⟩ := h
  have h1 := putCt_eq w b 0 d (fun j hj => by
    match j, hj with
    | 0, _ => exact ⟨_, c0⟩
    | 1, _ => exact ⟨_, c1⟩
    | 2, _ => exact ⟨_, c2⟩)
  unfold putCt at h1
  obtain ⟨e0, e1, e2⟩ := h1
  exact ⟨by simpa using hb, ⟨e0, e1, e2⟩, by simpa using f0, by simpa using f1, by simpa using f2⟩

end Go.Proofs.YtpncnfodgfldlaaDoor
namespace Go.Proofs.YtpncnfodgfldlaaDoor
open Go.RowKit Go.Maps
theorem Nst.SMap.below {B : Nat} {w w' : World} {b n : Nat} {l : List Int} (h : Nst.SMap w b n l) (he : Below B w w') (hb : b < B) : Nst.SMap w' b n l := by
  obtain ⟨es, clock, hb2, F, hs, hD⟩ := h
  exact ⟨es, clock, (Below.block he b hb).trans hb2, F, hs, hD⟩
theorem Led.IOwn.take {w : World} {a : Option Addr} {n cap g : Nat} {l : List Int} (h : Led.IOwn w (.slice a n cap) g l) {k m : Nat} (hk : m = (l.take k).length) : Led.IOwn w (.slice a m cap) g (l.take k) := by
  obtain ⟨a0, cap0, h1, h2, h3, h4⟩ := h
  injection h1 with e1 e2 e3
  subst e1 e3
  have hl : (l.take k).length ≤ l.length := by rw [List.length_take]; omega
  refine ⟨a, cap, by rw [hk], by omega, h3, fun h0 => ?_⟩
  obtain ⟨off, e, hr, hN⟩ := h4 (by omega)
  refine ⟨off, e, ⟨hr.1, fun j hj => hr.2 j (by omega)⟩, fun i x hx => hN i x ?_⟩
  rw [List.getElem?_take] at hx
  split at hx
  · exact hx
  · cases hx

end Go.Proofs.YtpncnfodgfldlaaDoor
namespace Go.Proofs.YtpncnfodgfldlaaDoor
open Go.RowKit
theorem append_none_cap {P : Program} {w : World} {ops : Array Oper} {rest : List Oper} {o : Oper} {a : Act} {Q : Exit → Act → World → Prop} (hgd : o.guard = none) (s x : Operand) (t : TypeId)
    (ho : o.op = .call { callee := .builtin .append, args := #[s, x], argTypes := #[t, t] })
    (base : Nat) (e : TypeId) (i : TypeInfo) (size : Nat) (ht : P.underlying t = some (.slice e)) (hi : P.info? e = some i)
    (v : Value) (n : Nat) (xs : List Value) (hs : a.eval s = v) (hown : w.ownsRow base e size v n xs) (c : Nat) (hx : a.eval x = .slice none 0 c)
    (h : wpList P ops Q rest (a.put o.dst v) w) : wpList P ops Q (o :: rest) a w := by
  refine wpList_plain hgd fun K hK => ?_
  have hrun : (Builtin.append_ #[t, t] o.type #[v, .slice none 0 c]).run P w = .ok v w := by
    rcases hown.2 with ⟨rfl, rfl⟩ | ⟨g, cap, cur, rfl, _, _, hnc, _⟩
    · simp [Builtin.append_, run_underlying ht, sizeOf, typeInfo, hi, Builtin.lenOf, Builtin.firstCells]
    · simp [Builtin.append_, run_underlying ht, sizeOf, typeInfo, hi, Builtin.lenOf, Builtin.firstCells, hnc, storeCells]
  unfold Oper.wp
  simp [execOp, ho, resolve, invoke, builtin, hs, hx, hrun, Result.andThen]
  exact hK _ _ h
end Go.Proofs.YtpncnfodgfldlaaDoor
