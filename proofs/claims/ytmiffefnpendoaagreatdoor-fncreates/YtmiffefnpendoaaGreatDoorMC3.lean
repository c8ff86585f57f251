/- D4, D1, D2, D3, V3, D5, D6, D7, D8, D9, D7s, D10, RowB, in one text. -/
import Derived.Test.YtmiffefnpendoaaGreatDoorMC1
import Derived.Test.YtmiffefnpendoaaGreatDoorProg
import Derived.Test.YtmiffefnpendoaaGreatDoorBase
import Derived.Deep.QuietTactic
import Derived.BigQuiet
import Derived.Deep.RegionWith
import Derived.Below
import Derived.OwnWalk
import Derived.Laws.OwnMore
import Derived.Deep.RegionHeld3
import Derived.ChangeSame
import Derived.ChangeVars
import Derived.ChangeOld
import Derived.ChangeSlices
import Derived.Carry
import Derived.RowKit
import Derived.ProofKit
import Derived.OpenShut
import Derived.Deep.Slices
/- draws of trees, what they keep: at most 20 nodes, each path right, numbers not below 0, the top among them. -/
namespace Go.Proofs.YtmiffefnpendoaaGreatDoor
open Go.RowKit
namespace Tre
/-- What every tree keeps that is drawn. -/
def Kept (zs : List Zn) : Prop := zs.length ≤ 20 ∧ (∃ z, z ∈ zs ∧ key z = [47]) ∧ ∀ z ∈ zs, Pth.faultI (key z) = 0 ∧ 0 ≤ z.version ∧ 0 ≤ z.next
theorem Kept.pos {zs : List Zn} (h : Kept zs) : 0 < zs.length := by
  obtain ⟨-, ⟨z, hz, -⟩, -⟩ := h
  exact List.length_pos_of_mem hz
theorem kept_new {d : Int} (h : (newT d).1 = 0) : Kept (newT d).2.2 := by
  unfold newT at h ⊢
  split at h
  · rename_i h1
    rw [if_pos h1]
    exact ⟨by simp, ⟨_, List.mem_singleton.2 rfl, (by decide : top.data.toList = [47])⟩, fun z hz => by rw [List.mem_singleton.1 hz]; exact ⟨(by decide : Pth.faultI top.data.toList = 0), by simp, by simp⟩⟩
  · simp at h
theorem at_range {zs : List Zn} {p : ByteArray} (h : ¬ atI zs p < 0) : ∃ (k : Nat) (z : Zn), atI zs p = k ∧ k < zs.length ∧ zs[k]? = some z ∧ isAt p z = true := by
  rcases atI_range zs p with ⟨h1, -⟩ | h1
  · omega
  · exact h1
theorem mem_set {zs : List Zn} {k : Nat} {y z : Zn} (h : z ∈ zs.set k y) : z ∈ zs ∨ z = y := List.mem_or_eq_of_mem_set h
theorem kept_put {zs : List Zn} (h : Kept zs) {k : Nat} {y y' : Zn} (hy : zs[k]? = some y) (hk : key y' = key y) (hv : 0 ≤ y'.version) (hn : 0 ≤ y'.next) : Kept (zs.set k y') := by
  obtain ⟨h1, ⟨z, hz, ht⟩, h3⟩ := h
  have hkl : k < zs.length := (List.getElem?_eq_some_iff.1 hy).1
  have hm : y ∈ zs := List.mem_of_getElem? hy
  refine ⟨by simpa using h1, ?_, fun x hx => ?_⟩
  · obtain ⟨i, hi⟩ := List.mem_iff_getElem?.1 hz
    by_cases hik : i = k
    · subst hik
      rw [hy] at hi
      cases hi
      exact ⟨y', List.mem_iff_getElem?.2 ⟨i, by rw [List.getElem?_set_self hkl]⟩, by rw [hk]; exact ht⟩
    · exact ⟨z, List.mem_iff_getElem?.2 ⟨i, by rw [List.getElem?_set_ne (Ne.symm hik)]; exact hi⟩, ht⟩
  · rcases mem_set hx with hx | rfl
    · exact h3 x hx
    · exact ⟨by rw [hk]; exact (h3 y hm).1, hv, hn⟩
theorem kept_set {zs : List Zn} {p : ByteArray} {d n : Int} (h : Kept zs) (h0 : (setT zs p d n).1 = 0) : Kept (setT zs p d n).2.2 := by
  cases hd : okData d with
  | false => rw [setT_data hd] at h0; simp at h0
  | true =>
  by_cases ha : atI zs p < 0
  · rw [setT_none hd ha] at h0; simp at h0
  obtain ⟨k, z, hk, hkl, hz, -⟩ := at_range ha
  rw [setT_some hd hk hz] at h0 ⊢
  have hm := h.2.2 z (List.mem_of_getElem? hz)
  split
  · rename_i h1; rw [if_pos h1] at h0; simp at h0
  rename_i h1
  rw [if_neg h1] at h0
  split
  · rename_i h2; rw [if_pos h2] at h0; simp at h0
  exact kept_put h hz rfl (by show 0 ≤ z.version + 1; omega) hm.2.2
theorem kept_del {zs : List Zn} {p : ByteArray} {n : Int} (h : Kept zs) (h0 : (delT zs p n).1 = 0) : Kept (delT zs p n).2.2 := by
  cases ht : (p.toList == [47]) with
  | true => rw [delT_top ht] at h0; simp at h0
  | false =>
  by_cases ha : atI zs p < 0
  · rw [delT_none ht ha] at h0; simp at h0
  obtain ⟨k, z, hk, hkl, hz, hp⟩ := at_range ha
  unfold delT at h0 ⊢
  rw [if_neg (by rw [ht]; simp), if_neg ha, hk, Int.toNat_natCast, hz] at h0 ⊢
  dsimp only at h0 ⊢
  split
  · rename_i h1; rw [if_pos h1] at h0; simp at h0
  rename_i h1
  rw [if_neg h1] at h0
  split
  · rename_i h2; rw [if_pos h2] at h0; simp at h0
  obtain ⟨k1, ⟨y, hy, hyt⟩, k3⟩ := h
  refine ⟨by simp; omega, ⟨y, ?_, hyt⟩, fun x hx => k3 x ?_⟩
  · obtain ⟨i, hi⟩ := List.mem_iff_getElem?.1 hy
    have hik : i ≠ k := by
      rintro rfl
      rw [hz] at hi
      cases hi
      rw [isAt_iff.1 hp] at hyt
      rw [Lib.toList_data, hyt] at ht
      simp at ht
    rw [List.mem_append]
    by_cases hlt : i < k
    · exact Or.inl (List.mem_iff_getElem?.2 ⟨i, by rw [List.getElem?_take_of_lt hlt]; exact hi⟩)
    · exact Or.inr (List.mem_iff_getElem?.2 ⟨i - (k + 1), by rw [List.getElem?_drop, show k + 1 + (i - (k + 1)) = i by omega]; exact hi⟩)
  · rcases List.mem_append.1 hx with hx | hx
    · exact List.mem_of_mem_take hx
    · exact List.mem_of_mem_drop hx
theorem mem_putT {zs : List Zn} {z x : Zn} : x ∈ putT zs z ↔ x ∈ zs ∨ x = z := by
  unfold putT
  conv => rhs; rw [← List.take_append_drop (cut zs (key z)) zs]
  simp only [List.mem_append, List.mem_cons]
  constructor
  · rintro (h | rfl | h)
    · exact Or.inl (Or.inl h)
    · exact Or.inr rfl
    · exact Or.inl (Or.inr h)
  · rintro ((h | h) | rfl)
    · exact Or.inl h
    · exact Or.inr (Or.inr h)
    · exact Or.inr (Or.inl rfl)
theorem putT_length (zs : List Zn) (z : Zn) : (putT zs z).length = zs.length + 1 := by
  unfold putT
  have := cut_le zs (key z)
  simp
  omega
theorem kept_fin {zs bs : List Zn} {p : ByteArray} {d o : Int} (h : Kept bs) (hl : bs.length = zs.length) (hf : Pth.faultI p.data.toList = 0) (h0 : (finT zs p bs d o).1 = 0) : Kept (finT zs p bs d o).2.2 := by
  unfold finT at h0 ⊢
  split
  · rename_i h1; rw [if_pos h1] at h0; simp at h0
  rename_i h1
  rw [if_neg h1] at h0
  split
  · rename_i h2; rw [if_pos h2] at h0; simp at h0
  rename_i h2
  obtain ⟨k1, ⟨y, hy, hyt⟩, k3⟩ := h
  refine ⟨by rw [putT_length]; omega, ⟨y, mem_putT.2 (Or.inl hy), hyt⟩, fun x hx => ?_⟩
  rcases mem_putT.1 hx with hx | rfl
  · exact k3 x hx
  · exact ⟨hf, by simp, by simp⟩
theorem kept_create {zs : List Zn} {p : ByteArray} {d o : Int} {q : Bool} (h : Kept zs) (hf : Pth.faultI p.data.toList = 0) (h0 : (createT zs p d o q).1 = 0) : Kept (createT zs p d o q).2.2 := by
  unfold createT at h0 ⊢
  split
  · rename_i h1; rw [if_pos h1] at h0; simp at h0
  rename_i h1
  rw [if_neg h1] at h0
  split
  · rename_i h2; rw [if_pos h2] at h0; simp at h0
  rename_i h2
  rw [if_neg h2] at h0
  split
  · rename_i h3; rw [if_pos h3] at h0; simp at h0
  rename_i h3
  rw [if_neg h3] at h0
  obtain ⟨k, y, hk, hkl, hy, -⟩ := at_range h3
  rw [hk, Int.toNat_natCast, hy] at h0 ⊢
  dsimp only at h0 ⊢
  split
  · rename_i h4; rw [if_pos h4] at h0; simp at h0
  rename_i h4
  rw [if_neg h4] at h0
  cases q with
  | false =>
    rw [if_neg (by simp)] at h0 ⊢
    exact kept_fin h rfl hf h0
  | true =>
    rw [if_pos rfl] at h0 ⊢
    split
    · rename_i h5; rw [if_pos h5] at h0; exact absurd h0 h5
    rename_i h5
    rw [if_neg h5] at h0
    have hm := h.2.2 y (List.mem_of_getElem? hy)
    have hs : (seqT zs p k y) = (0, seqP p y.next, zs.set k { y with next := y.next + 1 }) ∧ Pth.faultI (seqP p y.next).data.toList = 0 := by
      have h6 := h5
      unfold seqT at h6 ⊢
      by_cases c1 : 100 ≤ y.next
      · rw [if_pos c1] at h6; simp at h6
      rw [if_neg c1] at h6 ⊢
      by_cases c2 : Pth.okName (seqN p y.next).data.toList = false
      · rw [if_pos c2] at h6; simp at h6
      rw [if_neg c2] at h6 ⊢
      by_cases c3 : Pth.faultI (seqP p y.next).data.toList ≠ 0
      · rw [if_pos c3] at h6; exact absurd c3 h6
      rw [if_neg c3]
      exact ⟨rfl, by simpa using c3⟩
    rw [hs.1] at h0 ⊢
    exact kept_fin (kept_put h hy rfl hm.2.1 (by show 0 ≤ y.next + 1; omega)) (by simp) hs.2 h0
end Tre
/-- The paths that are drawn, by their depth. -/
def abc : Nat → List (List UInt8)
  | 0 => [[47]]
  | k + 1 => (abc k).flatMap fun p => [Pth.joined p [97], Pth.joined p [98], Pth.joined p [99]]
theorem abc_right : ∀ j, j ≤ 3 → ∀ p ∈ abc j, Pth.faultI p = 0 := by decide
end Go.Proofs.YtmiffefnpendoaaGreatDoor

/- the draws' source: spec.l1Next and l1Chance: what they answer, and that nothing but the source's place turns. -/
namespace Go.Proofs.YtmiffefnpendoaaGreatDoor
open Go.RowKit

set_option maxHeartbeats 2000000 in
set_option maxRecDepth 100000 in
theorem next_empty (b a : Nat) (ad : Option Addr) (cap : Nat) (n : Int) (w : World) (h1 : 1 ≤ n) (h2 : n ≤ 200) (ha : a ≤ 1000)
    (h0 : w.cell? ⟨b, 0, none⟩ = some (.slice ad 0 cap)) (hA : w.cell? ⟨b, 1, none⟩ = some (.int .i64 a)) (hF : w.frozen? ⟨b, 1, none⟩ = false) :
    Calls Tryz.prog 39 #[.pointer (some ⟨b, 0, none⟩), .int .i64 n] w fun e w' => ∃ (r : Int) (q : Nat), e = .returned (.int .i64 r) ∧ 0 ≤ r ∧ r < n ∧ w' = (w.setCell ⟨b, 1, none⟩ (.int .i64 (a + 1 : Nat))).drewN q := by
  go_enter Tryz.func39, Tryz.ntmps39
  go_wp2
  go_ret
  exact ⟨_, 0, rfl, Int.emod_nonneg _ (by omega), Int.emod_lt_of_pos _ (by omega), rfl⟩

set_option maxHeartbeats 2000000 in
set_option maxRecDepth 100000 in
theorem next_some (b a cb co len cap : Nat) (x : Int) (n : Int) (w : World) (h1 : 1 ≤ n) (h2 : n ≤ 200) (ha : a ≤ 1000) (hl : 0 < len) (hl2 : len ≤ 1048576) (hx0 : 0 ≤ x) (hx1 : x ≤ 255) (hcb : cb ≠ b)
    (h0 : w.cell? ⟨b, 0, none⟩ = some (.slice (some ⟨cb, co, none⟩) len cap)) (hA : w.cell? ⟨b, 1, none⟩ = some (.int .i64 a)) (hF : w.frozen? ⟨b, 1, none⟩ = false)
    (hx : w.cell? ⟨cb, co + a % len, none⟩ = some (.int .u8 x)) :
    Calls Tryz.prog 39 #[.pointer (some ⟨b, 0, none⟩), .int .i64 n] w fun e w' => ∃ (r : Int) (q : Nat), e = .returned (.int .i64 r) ∧ 0 ≤ r ∧ r < n ∧ w' = (w.setCell ⟨b, 1, none⟩ (.int .i64 (a + 1 : Nat))).drewN q := by
  have e0 : ((len : Int) == 0) = false := by simp; omega
  go_enter Tryz.func39, Tryz.ntmps39
  have hm : ((a : Int) % (len : Int)).toNat = a % len := by omega
  have hml : (a : Int) % (len : Int) < (len : Int) := Int.emod_lt_of_pos _ (by omega)
  have hm0 : 0 ≤ (a : Int) % (len : Int) := Int.emod_nonneg _ (by omega)
  have hq0 : 0 ≤ (a : Int) / (len : Int) := Int.ediv_nonneg (by omega) (by omega)
  have hq1 : (a : Int) / (len : Int) ≤ 1000 := by have := Int.ediv_le_self (len : Int) (show (0 : Int) ≤ (a : Int) by omega); omega
  go_wp2
  go_quiet (fail)
  go_wp2
  go_ret
  exact ⟨_, _, rfl, Int.emod_nonneg _ (by omega), Int.emod_lt_of_pos _ (by omega), rfl⟩

/-- The bytes of a code, in memory older than block b. -/
def CodeOk (w : World) (b : Nat) (cv : Value) : Prop :=
  ∃ ad len cap, cv = .slice ad len cap ∧ len ≤ 1048576 ∧ (0 < len → ∃ cb co, ad = some ⟨cb, co, none⟩ ∧ cb < b ∧ ∀ i, i < len → ∃ x : Int, 0 ≤ x ∧ x ≤ 255 ∧ w.cell? ⟨cb, co + i, none⟩ = some (.int .u8 x))
/-- The source in block b has come to place a. -/
def SrcAt (w : World) (b a : Nat) (cv : Value) : Prop :=
  w.cell? ⟨b, 0, none⟩ = some cv ∧ w.cell? ⟨b, 1, none⟩ = some (.int .i64 (a : Int)) ∧ w.frozen? ⟨b, 1, none⟩ = false ∧ b < w.heap.size ∧ CodeOk w b cv
theorem CodeOk.below {w w' : World} {b : Nat} {cv : Value} (h : CodeOk w b cv) (hb : Below b w w') : CodeOk w' b cv := by
  obtain ⟨ad, len, cap, h1, h2, h3⟩ := h
  refine ⟨ad, len, cap, h1, h2, fun hl => ?_⟩
  obtain ⟨cb, co, e, hc, hx⟩ := h3 hl
  refine ⟨cb, co, e, hc, fun i hi => ?_⟩
  obtain ⟨x, x0, x1, hcell⟩ := hx i hi
  exact ⟨x, x0, x1, (hb.cell (p := ⟨cb, co + i, none⟩) hc).trans hcell⟩
theorem Upd.place {b : Nat} (w : World) (v : Value) (q : Nat) : Upd b w ((w.setCell ⟨b, 1, none⟩ v).drewN q) := by
  refine ⟨below_drewN (Below.setCell (p := ⟨b, 1, none⟩) (Below.refl b w) (Nat.le_refl _) v) _, by simp, fun c o hc hl => ?_⟩
  have hne : c ≠ b := Nat.ne_of_gt hc
  constructor
  · rw [World.cell?_drewN]; exact World.cell?_setCell_other _ _ _ _ (by intro e; injection e with e1 _ _; exact hne e1.symm)
  · simp
theorem SrcAt.ext {w w' : World} {b a : Nat} {cv : Value} (h : SrcAt w b a cv) (he : Ext w w') : SrcAt w' b a cv :=
  ⟨(Below.cell he (p := ⟨b, 0, none⟩) h.2.2.2.1).trans h.1, (Below.cell he (p := ⟨b, 1, none⟩) h.2.2.2.1).trans h.2.1, (Below.frozen he (p := ⟨b, 1, none⟩) h.2.2.2.1).trans h.2.2.1, Nat.lt_of_lt_of_le h.2.2.2.1 he.size, h.2.2.2.2.below (Below.mono he (Nat.le_of_lt h.2.2.2.1))⟩
theorem SrcAt.alloc {w : World} {b a : Nat} {cv : Value} (h : SrcAt w b a cv) (o : Obj) : SrcAt (w.alloc o) b a cv := h.ext ((Ext.refl _).alloc _)
theorem SrcAt.place {w : World} {b a : Nat} {cv : Value} (h : SrcAt w b a cv) (a' q : Nat) : SrcAt ((w.setCell ⟨b, 1, none⟩ (.int .i64 (a' : Int))).drewN q) b a' cv := by
  obtain ⟨h0, h1, h2, h3, h4⟩ := h
  refine ⟨?_, ?_, by simp [h2], by simpa using h3, h4.below (Upd.place w _ q).1⟩
  · rw [World.cell?_drewN, World.cell?_setCell_other _ _ _ _ (by simp)]; exact h0
  · rw [World.cell?_drewN]; exact World.cell?_setCell_same _ _ _ h1

theorem Upd.set {b : Nat} (w : World) (v : Value) : Upd b w (w.setCell ⟨b, 1, none⟩ v) := Upd.place w v 0
theorem Upd.drewN {b : Nat} {w w' : World} (h : Upd b w w') (q : Nat) : Upd b w (w'.drewN q) := ⟨below_drewN h.1 _, by simpa using h.2.1, fun c o hc hl => ⟨by rw [World.cell?_drewN]; exact (h.2.2 c o hc hl).1, by simpa using (h.2.2 c o hc hl).2⟩⟩
theorem SrcAt.set {w : World} {b a : Nat} {cv : Value} (h : SrcAt w b a cv) (a' : Nat) : SrcAt (w.setCell ⟨b, 1, none⟩ (.int .i64 (a' : Int))) b a' cv := h.place a' 0
theorem SrcAt.drewN {w : World} {b a : Nat} {cv : Value} (h : SrcAt w b a cv) (q : Nat) : SrcAt (w.drewN q) b a cv :=
  ⟨by rw [World.cell?_drewN]; exact h.1, by rw [World.cell?_drewN]; exact h.2.1, by simpa using h.2.2.1, by simpa using h.2.2.2.1, h.2.2.2.2.below (below_drewN (Below.refl _ _) _)⟩
theorem SrcAt.lt {w : World} {b a : Nat} {cv : Value} (h : SrcAt w b a cv) : b < w.heap.size := h.2.2.2.1

theorem next_any (b a : Nat) (cv : Value) (n : Int) (w : World) (h : SrcAt w b a cv) (h1 : 1 ≤ n) (h2 : n ≤ 200) (ha : a ≤ 1000) :
    Calls Tryz.prog 39 #[.pointer (some ⟨b, 0, none⟩), .int .i64 n] w fun e w' => ∃ (r : Int) (q : Nat), e = .returned (.int .i64 r) ∧ 0 ≤ r ∧ r < n ∧ w' = (w.setCell ⟨b, 1, none⟩ (.int .i64 (a + 1 : Nat))).drewN q := by
  obtain ⟨c0, c1, c2, c3, ad, len, cap, rfl, hl, hc⟩ := h
  rcases Nat.eq_zero_or_pos len with h0 | h0
  · subst h0
    exact next_empty b a ad cap n w h1 h2 ha c0 c1 c2
  · obtain ⟨cb, co, rfl, hcb, hx⟩ := hc h0
    obtain ⟨x, x0, x1, hcell⟩ := hx (a % len) (Nat.mod_lt _ h0)
    exact next_some b a cb co len cap x n w h1 h2 ha h0 hl x0 x1 (Nat.ne_of_lt hcb) c0 c1 c2 hcell

set_option maxHeartbeats 400000 in
theorem chance_any (b a : Nat) (cv : Value) (n : Int) (w : World) (h : SrcAt w b a cv) (h1 : 1 ≤ n) (h2 : n ≤ 200) (ha : a ≤ 1000) :
    Calls Tryz.prog 37 #[.pointer (some ⟨b, 0, none⟩), .int .i64 n] w fun e w' => ∃ (r : Bool) (q : Nat), e = .returned (.bool r) ∧ w' = (w.setCell ⟨b, 1, none⟩ (.int .i64 (a + 1 : Nat))).drewN q := by
  have HS : Hid (SrcAt w b a cv) := h
  clear h
  go_enter Tryz.func37, Tryz.ntmps37
  go_wp2_with fail
  refine (next_any b a cv n _ HS.out h1 h2 ha).mono ?_
  rintro e w1 ⟨r, q, rfl, hr0, hr1, rfl⟩
  go_wp2
  go_ret
  exact ⟨_, q, rfl, rfl⟩
end Go.Proofs.YtmiffefnpendoaaGreatDoor

/- the draws of paths and names: spec.l1DrawName, l1Draw, l1Bent, DrawJoinPath, DrawIsUnder: texts of at most 30 bytes; nothing that was there turns. -/
namespace Go.Proofs.YtmiffefnpendoaaGreatDoor
open Go.RowKit

/-- What a draw of a text leaves. -/
def Drawn (b a k : Nat) (cv : Value) (m : Nat) (w : World) (e : Ending) (w' : World) : Prop :=
  ∃ (t : ByteArray) (a' : Nat), e = .returned (.string t) ∧ t.size ≤ m ∧ a' ≤ a + k ∧ SrcAt w' b a' cv ∧ Upd b w w'

set_option maxHeartbeats 1000000 in
set_option maxRecDepth 100000 in
theorem drawName_any (b a : Nat) (cv : Value) (w : World) (h : SrcAt w b a cv) (ha : a ≤ 900) :
    Calls Tryz.prog 40 #[.pointer (some ⟨b, 0, none⟩)] w (Drawn b a 1 cv 4 w) := by
  have hbl : b < w.heap.size := h.2.2.2.1
  have hne : ¬ b = w.heap.size := by omega
  have HS : Hid (SrcAt w b a cv) := h
  clear h
  go_enter Tryz.func40, Tryz.ntmps40
  go_wp2_with fail
  refine (next_any b a cv 5 _ (by exact HS.out.alloc _) (by omega) (by omega) (by omega)).mono ?_
  rintro e w1 ⟨r, q, rfl, hr0, hr1, rfl⟩
  have hd : r = 0 ∨ r = 1 ∨ r = 2 ∨ r = 3 ∨ r = 4 := by omega
  clear hr0 hr1
  rcases hd with rfl | rfl | rfl | rfl | rfl
  all_goals
    go_wp2
    go_ret
    exact ⟨_, a + 1, rfl, by decide, by omega, ((HS.out.set (a + 1)).alloc _).drewN _, ((Upd.set w _).trans (Upd.alloc _ _ (by simp; omega))).drewN _⟩

theorem join_short (t c : ByteArray) (hc : c.size = 1) : ∃ t', t' = mkB (Pth.joined t.data.toList c.data.toList) ∧ t'.size ≤ t.size + 2 := by
  refine ⟨_, rfl, ?_⟩
  rw [← len_eq, mkB_list]
  unfold Pth.joined
  split
  · rename_i h
    have h1 := len_eq t
    rw [h] at h1
    simp only [List.length_cons, len_eq, hc]
    simp at h1
    omega
  · simp only [List.length_append, List.length_cons, len_eq, hc]
    omega

set_option maxHeartbeats 1000000 in
set_option maxRecDepth 100000 in
theorem draw_any (b a : Nat) (cv : Value) (w : World) (h : SrcAt w b a cv) (ha : a ≤ 900) :
    Calls Tryz.prog 94 #[.pointer (some ⟨b, 0, none⟩)] w (Drawn b a 4 cv 7 w) := by
  have hbl : b < w.heap.size := h.2.2.2.1
  have HS : Hid (SrcAt w b a cv) := h
  clear h
  go_enter Tryz.func94, Tryz.ntmps94
  go_wp2_with fail
  refine (next_any b a cv 4 _ (by exact HS.out) (by omega) (by omega) (by omega)).mono ?_
  rintro e w1 ⟨r, q, rfl, hr0, hr1, rfl⟩
  obtain ⟨k0, rfl⟩ := Int.eq_ofNat_of_zero_le hr0
  go_wp2
  go_loopw [3, 4] (fun pv kv wr => ∃ (t : ByteArray) (k a' : Nat), pv = .string t ∧ kv = .int .i64 k ∧ k ≤ 3 ∧ t.size + 2 * k ≤ 7 ∧ a' + k ≤ a + 4 ∧ Hid (SrcAt wr b a' cv) ∧ Hid (Upd b w wr)) (fun _ kv _ => (intOf kv).toNat)
  case atStart => exact ⟨_, k0, a + 1, rfl, rfl, by omega, by show 1 + 2 * k0 ≤ 7; omega, by omega, (HS.out.set (a + 1)).drewN _, (Upd.set w _).drewN _⟩
  case round =>
    obtain ⟨t, k, a', rfl, rfl, hk3, htk, hak, HS2, HU⟩ := hrel
    by_cases hk : 0 < k
    · have hlr : b < wr.heap.size := HS2.out.lt
      have hne : ¬ b = wr.heap.size := by omega
      have ht : t.size ≤ 1048576 := by omega
      go_wp2_with fail
      refine (next_any b a' cv 3 _ (by exact HS2.out.alloc _) (by omega) (by omega) (by omega)).mono ?_
      rintro e w1 ⟨r, q2, rfl, hr0, hr1, rfl⟩
      have hd : r = 0 ∨ r = 1 ∨ r = 2 := by omega
      clear hr0 hr1
      rcases hd with rfl | rfl | rfl
      · go_wp2_with fail
        refine (l1Join_any t ⟨#[97]⟩ _ ht (by decide)).mono ?_
        rintro e w4 ⟨rfl, hw⟩
        subst hw
        obtain ⟨t', ht', hts⟩ := join_short t ⟨#[97]⟩ rfl
        rw [← ht']
        clear ht'
        go_wp2
        exact ⟨⟨t', k - 1, a' + 1, rfl, by rw [show ((k - 1 : Nat) : Int) = (k : Int) - 1 from by omega], by omega, by omega, by omega, ((HS2.out.set (a' + 1)).alloc _).drewN _, HU.out.trans (((Upd.set wr _).trans (Upd.alloc _ _ (by simp; omega))).drewN _)⟩, by simp [intOf]; omega⟩
      · go_wp2_with fail
        refine (l1Join_any t ⟨#[98]⟩ _ ht (by decide)).mono ?_
        rintro e w4 ⟨rfl, hw⟩
        subst hw
        obtain ⟨t', ht', hts⟩ := join_short t ⟨#[98]⟩ rfl
        rw [← ht']
        clear ht'
        go_wp2
        exact ⟨⟨t', k - 1, a' + 1, rfl, by rw [show ((k - 1 : Nat) : Int) = (k : Int) - 1 from by omega], by omega, by omega, by omega, ((HS2.out.set (a' + 1)).alloc _).drewN _, HU.out.trans (((Upd.set wr _).trans (Upd.alloc _ _ (by simp; omega))).drewN _)⟩, by simp [intOf]; omega⟩
      · go_wp2_with fail
        refine (l1Join_any t ⟨#[99]⟩ _ ht (by decide)).mono ?_
        rintro e w4 ⟨rfl, hw⟩
        subst hw
        obtain ⟨t', ht', hts⟩ := join_short t ⟨#[99]⟩ rfl
        rw [← ht']
        clear ht'
        go_wp2
        exact ⟨⟨t', k - 1, a' + 1, rfl, by rw [show ((k - 1 : Nat) : Int) = (k : Int) - 1 from by omega], by omega, by omega, by omega, ((HS2.out.set (a' + 1)).alloc _).drewN _, HU.out.trans (((Upd.set wr _).trans (Upd.alloc _ _ (by simp; omega))).drewN _)⟩, by simp [intOf]; omega⟩
    · go_wp2
      go_ret
      exact ⟨t, a', rfl, by omega, by omega, HS2.out, HU.out⟩

theorem Drawn.of_upd {b a k k2 a1 m m2 : Nat} {cv : Value} {w w1 : World} {e : Ending} {w' : World} (hu : Upd b w w1) (ha : a1 + k2 ≤ a + k) (hm : m2 ≤ m) (h : Drawn b a1 k2 cv m2 w1 e w') : Drawn b a k cv m w e w' := by
  obtain ⟨t, a', h1, h2, h3, h4, h5⟩ := h
  exact ⟨t, a', h1, by omega, by omega, h4, hu.trans h5⟩

set_option maxHeartbeats 2000000 in
set_option maxRecDepth 100000 in
theorem bent_any (b a : Nat) (cv : Value) (w : World) (h : SrcAt w b a cv) (ha : a ≤ 800) :
    Calls Tryz.prog 36 #[.pointer (some ⟨b, 0, none⟩)] w (Drawn b a 6 cv 30 w) := by
  have HS : Hid (SrcAt w b a cv) := h
  clear h
  go_enter Tryz.func36, Tryz.ntmps36
  go_wp2_with fail
  refine (draw_any b a cv _ (by exact HS.out) (by omega)).mono ?_
  rintro e w1 ⟨t, a1, rfl, ht, ha1, hS1, hU1⟩
  have HS1 : Hid (SrcAt w1 b a1 cv) := hS1
  have HU1 : Hid (Upd b w w1) := hU1
  have hl1 : b < w1.heap.size := hS1.lt
  clear hS1 hU1
  go_wp2_with fail
  refine (next_any b a1 cv 10 _ (by exact HS1.out) (by omega) (by omega) (by omega)).mono ?_
  rintro e w2 ⟨r, q, rfl, hr0, hr1, hw⟩
  have HS2 : Hid (SrcAt w2 b (a1 + 1) cv) := by rw [hw]; exact (HS1.out.set (a1 + 1)).drewN _
  have HU2 : Hid (Upd b w w2) := by rw [hw]; exact HU1.out.trans ((Upd.set w1 _).drewN _)
  have hl2 : b < w2.heap.size := HS2.out.lt
  have hne : ¬ b = w2.heap.size := by omega
  clear hw
  by_cases h0 : r = 0
  · subst h0
    go_wp2
    go_ret
    exact ⟨_, a1 + 1, rfl, by rw [ByteArray.size_append]; show t.size + 1 ≤ 30; omega, by omega, HS2.out, HU2.out⟩
  · have e0 : (r == 0) = false := by simp [h0]
    by_cases h1 : r = 1
    · subst h1
      go_wp2_with fail
      refine (next_any b (a1 + 1) cv 7 _ (by exact HS2.out.alloc _) (by omega) (by omega) (by omega)).mono ?_
      rintro e w3 ⟨r3, q3, rfl, hr30, hr31, rfl⟩
      have hd : r3 = 0 ∨ r3 = 1 ∨ r3 = 2 ∨ r3 = 3 ∨ r3 = 4 ∨ r3 = 5 ∨ r3 = 6 := by omega
      clear hr30 hr31
      rcases hd with rfl | rfl | rfl | rfl | rfl | rfl | rfl
      all_goals
        go_wp2
        go_ret
        exact ⟨_, a1 + 1 + 1, rfl, by decide, by omega, ((HS2.out.set (a1 + 1 + 1)).alloc _).drewN _, HU2.out.trans (((Upd.set w2 _).trans (Upd.alloc _ _ (by simp; omega))).drewN _)⟩
    · have e1 : (r == 1) = false := by simp [h1]
      go_wp2
      go_ret
      exact ⟨_, a1 + 1, rfl, by omega, by omega, HS2.out, HU2.out⟩
end Go.Proofs.YtmiffefnpendoaaGreatDoor

/- spec.DrawJoinPath and DrawIsUnder: two texts of at most 30 bytes; nothing that was there turns. -/
namespace Go.Proofs.YtmiffefnpendoaaGreatDoor
open Go.RowKit

set_option maxHeartbeats 400000 in
theorem source_any (cv : Value) (w : World) (ad : Option Addr) (len cap : Nat) (hcv : cv = .slice ad len cap) :
    Calls Tryz.prog 34 #[cv] w fun e w' => e = .returned (.pointer (some ⟨w.heap.size, 0, none⟩)) ∧ w' = w.alloc (.cells #[cv, .int .i64 0] 141) := by
  subst hcv
  go_enter Tryz.func34, Tryz.ntmps34
  go_wp2
  go_ret
  exact ⟨rfl, rfl⟩

theorem src_new {w : World} {cv : Value} (h : CodeOk w w.heap.size cv) : SrcAt (w.alloc (.cells #[cv, .int .i64 0] 141)) w.heap.size 0 cv :=
  ⟨by simp, by simp, by simp, by simp, h.below ((Below.refl _ _).alloc (Nat.le_refl _) _)⟩
theorem ext_of_upd {w w' : World} {o : Obj} (h : Upd w.heap.size (w.alloc o) w') : Ext w w' := Below.trans ((Below.refl _ _).alloc (Nat.le_refl _) _) h.1

/-- What a draw of two texts leaves. -/
def Two (w : World) (e : Ending) (w' : World) : Prop :=
  ∃ p n : ByteArray, e = .returned (.tuple #[.string p, .string n]) ∧ p.size ≤ 30 ∧ n.size ≤ 30 ∧ Ext w w'

end Go.Proofs.YtmiffefnpendoaaGreatDoor

/- the draws of numbers: spec.l1Pick, DrawSumOf, DrawPairSum: what they leave. -/
namespace Go.Proofs.YtmiffefnpendoaaGreatDoor
open Go.RowKit

theorem CodeOk.rise {w w' : World} {b b' : Nat} {cv : Value} (h : CodeOk w b cv) (hb : Below b w w') (hbb : b ≤ b') : CodeOk w' b' cv := by
  obtain ⟨ad, len, cap, h1, h2, h3⟩ := h.below hb
  refine ⟨ad, len, cap, h1, h2, fun hl => ?_⟩
  obtain ⟨cb, co, e, hc, hx⟩ := h3 hl
  exact ⟨cb, co, e, by omega, hx⟩
theorem nums_of_owns {w' : World} {base : Nat} {v : Value} {l : List Int} (h : w'.ownsRow base 2 1 v l.length (l.map (Value.int .i64))) : ISlice w' v l := by
  have hlt := h.lt
  rcases h.2 with ⟨hv, h0⟩ | ⟨g, cap, cur, hv, hb, hh, hn, hm, _⟩
  · exact ⟨none, 0, by rw [hv, h0], by omega, by unfold maxLen; omega, fun h => by omega⟩
  · refine ⟨some ⟨g, 0, none⟩, cap, hv, hn, hm, fun h0 => ⟨g, 0, rfl, (hlt g (by rw [hv]; rfl)).2, fun j x hj => ?_⟩⟩
    have := h.cells (g := g) (by rw [hv]; rfl) j (.int .i64 x) (by rw [List.getElem?_map, hj]; rfl)
    rw [Addr.add_lit] at this
    simpa using this
theorem owns_place {w : World} {base : Nat} {e : TypeId} {size : Nat} {v : Value} {n : Nat} {xs : List Value} (h : w.ownsRow base e size v n xs) {b : Nat} (hb : b < base) (u : Value) (q : Nat) : ((w.setCell ⟨b, 1, none⟩ u).drewN q).ownsRow base e size v n xs := by
  have h2 : (w.setCell ⟨b, 1, none⟩ u).ownsRow base e size v n xs := ownsRow_setCell_below h (a := ⟨b, 1, none⟩) hb u
  exact h2

set_option maxHeartbeats 2000000 in
set_option maxRecDepth 100000 in
theorem next_empty_big (b a : Nat) (ad : Option Addr) (cap : Nat) (n : Int) (w : World) (h1 : 1 ≤ n) (h2 : n ≤ 1000) (ha : a ≤ 1000)
    (h0 : w.cell? ⟨b, 0, none⟩ = some (.slice ad 0 cap)) (hA : w.cell? ⟨b, 1, none⟩ = some (.int .i64 a)) (hF : w.frozen? ⟨b, 1, none⟩ = false) :
    Calls Tryz.prog 39 #[.pointer (some ⟨b, 0, none⟩), .int .i64 n] w fun e w' => ∃ (r : Int) (q : Nat), e = .returned (.int .i64 r) ∧ 0 ≤ r ∧ r < n ∧ w' = (w.setCell ⟨b, 1, none⟩ (.int .i64 (a + 1 : Nat))).drewN q := by
  go_enter Tryz.func39, Tryz.ntmps39
  go_wp2
  go_ret
  exact ⟨_, 0, rfl, Int.emod_nonneg _ (by omega), Int.emod_lt_of_pos _ (by omega), rfl⟩

set_option maxHeartbeats 2000000 in
set_option maxRecDepth 100000 in
theorem next_some_big (b a cb co len cap : Nat) (x y : Int) (n : Int) (w : World) (h1 : 200 < n) (h2 : n ≤ 1000) (ha : a ≤ 1000) (hl : 0 < len) (hl2 : len ≤ 1048576) (hx0 : 0 ≤ x) (hx1 : x ≤ 255) (hy0 : 0 ≤ y) (hy1 : y ≤ 255) (hcb : cb ≠ b)
    (h0 : w.cell? ⟨b, 0, none⟩ = some (.slice (some ⟨cb, co, none⟩) len cap)) (hA : w.cell? ⟨b, 1, none⟩ = some (.int .i64 a)) (hF : w.frozen? ⟨b, 1, none⟩ = false)
    (hx : w.cell? ⟨cb, co + a % len, none⟩ = some (.int .u8 x)) (hy : w.cell? ⟨cb, co + (a + 1) % len, none⟩ = some (.int .u8 y)) :
    Calls Tryz.prog 39 #[.pointer (some ⟨b, 0, none⟩), .int .i64 n] w fun e w' => ∃ (r : Int) (q : Nat), e = .returned (.int .i64 r) ∧ 0 ≤ r ∧ r < n ∧ w' = (w.setCell ⟨b, 1, none⟩ (.int .i64 (a + 1 : Nat))).drewN q := by
  have e0 : ((len : Int) == 0) = false := by simp; omega
  have h1' : 1 ≤ n := by omega
  go_enter Tryz.func39, Tryz.ntmps39
  have hm : ((a : Int) % (len : Int)).toNat = a % len := by omega
  have hml : (a : Int) % (len : Int) < (len : Int) := Int.emod_lt_of_pos _ (by omega)
  have hm0 : 0 ≤ (a : Int) % (len : Int) := Int.emod_nonneg _ (by omega)
  have hn : (((a : Int) + 1) % (len : Int)).toNat = (a + 1) % len := by rw [show (a : Int) + 1 = ((a + 1 : Nat) : Int) from by omega]; rfl
  have hnl : ((a : Int) + 1) % (len : Int) < (len : Int) := Int.emod_lt_of_pos _ (by omega)
  have hn0 : 0 ≤ ((a : Int) + 1) % (len : Int) := Int.emod_nonneg _ (by omega)
  have hq0 : 0 ≤ (a : Int) / (len : Int) := Int.ediv_nonneg (by omega) (by omega)
  have hq1 : (a : Int) / (len : Int) ≤ 1000 := by have := Int.ediv_le_self (len : Int) (show (0 : Int) ≤ (a : Int) by omega); omega
  go_wp2
  go_quiet (fail)
  go_wp2
  go_quiet (fail)
  go_wp2
  go_ret
  exact ⟨_, _, rfl, Int.emod_nonneg _ (by omega), Int.emod_lt_of_pos _ (by omega), rfl⟩

theorem next_wide (b a : Nat) (cv : Value) (n : Int) (w : World) (h : SrcAt w b a cv) (h1 : 1 ≤ n) (h2 : n ≤ 1000) (ha : a ≤ 1000) :
    Calls Tryz.prog 39 #[.pointer (some ⟨b, 0, none⟩), .int .i64 n] w fun e w' => ∃ (r : Int) (q : Nat), e = .returned (.int .i64 r) ∧ 0 ≤ r ∧ r < n ∧ w' = (w.setCell ⟨b, 1, none⟩ (.int .i64 (a + 1 : Nat))).drewN q := by
  by_cases h3 : n ≤ 200
  · exact next_any b a cv n w h h1 h3 ha
  · obtain ⟨c0, c1, c2, c3, ad, len, cap, rfl, hl, hc⟩ := h
    rcases Nat.eq_zero_or_pos len with h0 | h0
    · subst h0
      exact next_empty_big b a ad cap n w h1 h2 ha c0 c1 c2
    · obtain ⟨cb, co, rfl, hcb, hx⟩ := hc h0
      obtain ⟨x, x0, x1, hcell⟩ := hx (a % len) (Nat.mod_lt _ h0)
      obtain ⟨y, y0, y1, hcell2⟩ := hx ((a + 1) % len) (Nat.mod_lt _ h0)
      exact next_some_big b a cb co len cap x y n w (by omega) h2 ha h0 hl x0 x1 y0 y1 (Nat.ne_of_lt hcb) c0 c1 c2 hcell hcell2

set_option maxHeartbeats 1000000 in
set_option maxRecDepth 100000 in
theorem pick_any (b a g off cap : Nat) (cv : Value) (l : List Int) (w : World) (h : SrcAt w b a cv) (hg : g ≠ b) (hN : NumsAt w g off l) (h1 : 1 ≤ l.length) (h2 : l.length ≤ 200) (ha : a ≤ 1000) :
    Calls Tryz.prog 41 #[.pointer (some ⟨b, 0, none⟩), .slice (some ⟨g, off, none⟩) l.length cap] w fun e w' => ∃ (x : Int) (q : Nat), e = .returned (.int .i64 x) ∧ w' = (w.setCell ⟨b, 1, none⟩ (.int .i64 (a + 1 : Nat))).drewN q := by
  have HS : Hid (SrcAt w b a cv) := h
  have HN : Hid (NumsAt w g off l) := hN
  clear h hN
  go_enter Tryz.func41, Tryz.ntmps41
  go_wp2_with fail
  refine (next_any b a cv l.length _ HS.out (by omega) (by omega) ha).mono ?_
  rintro e w1 ⟨r, q, rfl, hr0, hr1, hw⟩
  obtain ⟨k, rfl⟩ := Int.eq_ofNat_of_zero_le hr0
  have hk : k < l.length := by omega
  obtain ⟨x, hx⟩ : ∃ x, l[k]? = some x := ⟨_, List.getElem?_eq_getElem hk⟩
  have hc : w1.cell? ⟨g, off + k, none⟩ = some (.int .i64 x) := by
    rw [hw, World.cell?_drewN, iset_ne _ _ _ _ _ _ (Or.inl (Ne.symm hg))]
    exact HN.out k x hx
  have HW : Hid (w1 = (w.setCell ⟨b, 1, none⟩ (.int .i64 (a + 1 : Nat))).drewN q) := hw
  clear hw hx
  go_wp2
  go_ret
  exact ⟨x, q, rfl, HW.out⟩

/-- What a draw of numbers leaves. -/
def Drew (w : World) (e : Ending) (w' : World) : Prop := ∃ (g off cap : Nat) (l : List Int), e = .returned (.slice (some ⟨g, off, none⟩) l.length cap) ∧ ISlice w' (.slice (some ⟨g, off, none⟩) l.length cap) l ∧ (l.length ≤ 9 ∨ l.length = 201) ∧ Ext w w'
theorem SrcAt.kept {w w' : World} {b a : Nat} {cv : Value} (h : SrcAt w b a cv) (he : Below (b + 1) w w') : SrcAt w' b a cv :=
  ⟨(Below.cell he (p := ⟨b, 0, none⟩) (Nat.lt_succ_self _)).trans h.1, (Below.cell he (p := ⟨b, 1, none⟩) (Nat.lt_succ_self _)).trans h.2.1, (Below.frozen he (p := ⟨b, 1, none⟩) (Nat.lt_succ_self _)).trans h.2.2.1, Nat.lt_of_lt_of_le h.2.2.2.1 (Nat.le_trans (Nat.le_refl _) (by
    have := Below.size he
    have h2 := h.2.2.2.1
    omega)), h.2.2.2.2.below (Below.mono he (Nat.le_succ _))⟩
theorem drew_of {w w' : World} {base : Nat} {v : Value} {l : List Int} (h : w'.ownsRow base 2 1 v l.length (l.map (Value.int .i64))) (hv : v ≠ .slice none 0 0) (hl : l.length ≤ 9) (he : Ext w w') : Drew w (.returned v) w' := by
  have hI := nums_of_owns h
  rcases h.2 with ⟨hn, _⟩ | ⟨g, cap, cur, rfl, _⟩
  · exact absurd hn hv
  · exact ⟨g, 0, cap, l, rfl, hI, Or.inl hl, he⟩

theorem nums3 (w : World) (x y z : Int) (t : TypeId) : NumsAt (w.alloc (.cells #[.int .i64 x, .int .i64 y, .int .i64 z] t)) w.heap.size 0 [x, y, z] := by
  intro i u hu
  match i, hu with
  | 0, hu => cases hu; simp
  | 1, hu => cases hu; simp
  | 2, hu => cases hu; simp
theorem nums4 (w : World) (x y z v : Int) (t : TypeId) : NumsAt (w.alloc (.cells #[.int .i64 x, .int .i64 y, .int .i64 z, .int .i64 v] t)) w.heap.size 0 [x, y, z, v] := by
  intro i u hu
  match i, hu with
  | 0, hu => cases hu; simp
  | 1, hu => cases hu; simp
  | 2, hu => cases hu; simp
  | 3, hu => cases hu; simp

end Go.Proofs.YtmiffefnpendoaaGreatDoor

/- draws of trees: l1Draw's texts are paths without fault; l2Right. -/
namespace Go.Proofs.YtmiffefnpendoaaGreatDoor
open Go.RowKit
/-- What a draw of a right path leaves. -/
def DrawnP (b a k : Nat) (cv : Value) (w : World) (e : Ending) (w' : World) : Prop :=
  ∃ (t : ByteArray) (a' : Nat), e = .returned (.string t) ∧ Pth.faultI t.data.toList = 0 ∧ a' ≤ a + k ∧ SrcAt w' b a' cv ∧ Upd b w w'
theorem abc_next {t : ByteArray} {j : Nat} (h : t.data.toList ∈ abc j) (c : UInt8) (hc : c = 97 ∨ c = 98 ∨ c = 99) : (mkB (Pth.joined t.data.toList [c])).data.toList ∈ abc (j + 1) := by
  rw [mkB_list]
  refine List.mem_flatMap.2 ⟨_, h, ?_⟩
  rcases hc with rfl | rfl | rfl <;> simp
theorem abc_size : ∀ j, j ≤ 3 → ∀ p ∈ abc j, p.length ≤ 7 := by decide

set_option maxHeartbeats 1000000 in
set_option maxRecDepth 100000 in
theorem draw_right (b a : Nat) (cv : Value) (w : World) (h : SrcAt w b a cv) (ha : a ≤ 900) :
    Calls Tryz.prog 94 #[.pointer (some ⟨b, 0, none⟩)] w (DrawnP b a 4 cv w) := by
  have hbl : b < w.heap.size := h.2.2.2.1
  have HS : Hid (SrcAt w b a cv) := h
  clear h
  go_enter Tryz.func94, Tryz.ntmps94
  go_wp2_with fail
  refine (next_any b a cv 4 _ (by exact HS.out) (by omega) (by omega) (by omega)).mono ?_
  rintro e w1 ⟨r, q, rfl, hr0, hr1, rfl⟩
  obtain ⟨k0, rfl⟩ := Int.eq_ofNat_of_zero_le hr0
  go_wp2
  go_loopw [3, 4] (fun pv kv wr => ∃ (t : ByteArray) (k a' j : Nat), pv = .string t ∧ kv = .int .i64 k ∧ j + k ≤ 3 ∧ Hid (t.data.toList ∈ abc j) ∧ a' + k ≤ a + 4 ∧ Hid (SrcAt wr b a' cv) ∧ Hid (Upd b w wr)) (fun _ kv _ => (intOf kv).toNat)
  case atStart => exact ⟨_, k0, a + 1, 0, rfl, rfl, by omega, (by decide : ([47] : List UInt8) ∈ abc 0), by omega, (HS.out.set (a + 1)).drewN _, (Upd.set w _).drewN _⟩
  case round =>
    obtain ⟨t, k, a', j, rfl, rfl, hk3, HT, hak, HS2, HU⟩ := hrel
    have ht7 := abc_size j (by omega) _ HT.out
    rw [len_eq] at ht7
    by_cases hk : 0 < k
    · have hlr : b < wr.heap.size := HS2.out.lt
      have hne : ¬ b = wr.heap.size := by omega
      have ht : t.size ≤ 1048576 := by omega
      go_wp2_with fail
      refine (next_any b a' cv 3 _ (by exact HS2.out.alloc _) (by omega) (by omega) (by omega)).mono ?_
      rintro e w1 ⟨r, q2, rfl, hr0, hr1, rfl⟩
      have hd : r = 0 ∨ r = 1 ∨ r = 2 := by omega
      clear hr0 hr1
      rcases hd with rfl | rfl | rfl
      · go_wp2_with fail
        refine (l1Join_any t ⟨#[97]⟩ _ ht (by decide)).mono ?_
        rintro e w4 ⟨rfl, hw⟩
        subst hw
        have HT2 : Hid ((mkB (Pth.joined t.data.toList (⟨#[97]⟩ : ByteArray).data.toList)).data.toList ∈ abc (j + 1)) := abc_next HT.out 97 (by simp)
        generalize mkB (Pth.joined t.data.toList (⟨#[97]⟩ : ByteArray).data.toList) = t' at *
        go_wp2
        exact ⟨⟨t', k - 1, a' + 1, j + 1, rfl, by rw [show ((k - 1 : Nat) : Int) = (k : Int) - 1 from by omega], by omega, HT2, by omega, ((HS2.out.set (a' + 1)).alloc _).drewN _, HU.out.trans (((Upd.set wr _).trans (Upd.alloc _ _ (by simp; omega))).drewN _)⟩, by simp [intOf]; omega⟩
      · go_wp2_with fail
        refine (l1Join_any t ⟨#[98]⟩ _ ht (by decide)).mono ?_
        rintro e w4 ⟨rfl, hw⟩
        subst hw
        have HT2 : Hid ((mkB (Pth.joined t.data.toList (⟨#[98]⟩ : ByteArray).data.toList)).data.toList ∈ abc (j + 1)) := abc_next HT.out 98 (by simp)
        generalize mkB (Pth.joined t.data.toList (⟨#[98]⟩ : ByteArray).data.toList) = t' at *
        go_wp2
        exact ⟨⟨t', k - 1, a' + 1, j + 1, rfl, by rw [show ((k - 1 : Nat) : Int) = (k : Int) - 1 from by omega], by omega, HT2, by omega, ((HS2.out.set (a' + 1)).alloc _).drewN _, HU.out.trans (((Upd.set wr _).trans (Upd.alloc _ _ (by simp; omega))).drewN _)⟩, by simp [intOf]; omega⟩
      · go_wp2_with fail
        refine (l1Join_any t ⟨#[99]⟩ _ ht (by decide)).mono ?_
        rintro e w4 ⟨rfl, hw⟩
        subst hw
        have HT2 : Hid ((mkB (Pth.joined t.data.toList (⟨#[99]⟩ : ByteArray).data.toList)).data.toList ∈ abc (j + 1)) := abc_next HT.out 99 (by simp)
        generalize mkB (Pth.joined t.data.toList (⟨#[99]⟩ : ByteArray).data.toList) = t' at *
        go_wp2
        exact ⟨⟨t', k - 1, a' + 1, j + 1, rfl, by rw [show ((k - 1 : Nat) : Int) = (k : Int) - 1 from by omega], by omega, HT2, by omega, ((HS2.out.set (a' + 1)).alloc _).drewN _, HU.out.trans (((Upd.set wr _).trans (Upd.alloc _ _ (by simp; omega))).drewN _)⟩, by simp [intOf]; omega⟩
    · go_wp2
      go_ret
      exact ⟨t, a', rfl, abc_right j (by omega) _ HT.out, by omega, HS2.out, HU.out⟩
end Go.Proofs.YtmiffefnpendoaaGreatDoor

/- draws of trees: l2Right. -/
namespace Go.Proofs.YtmiffefnpendoaaGreatDoor
open Go.RowKit
/-- What a draw of a tree leaves. -/
def DrawnT (K : List Zn → Prop) (b a k : Nat) (cv : Value) (w : World) (e : Ending) (w' : World) : Prop :=
  ∃ (g off cap a' : Nat) (zs : List Zn), e = .returned (.slice (some ⟨g, off, none⟩) zs.length cap) ∧ K zs ∧ w.heap.size ≤ g ∧ Own w' (.slice (some ⟨g, off, none⟩) zs.length cap) g zs ∧ a' ≤ a + k ∧ SrcAt w' b a' cv ∧ Upd b w w'
theorem Own.at {w : World} {v : Value} {g : Nat} {zs : List Zn} (h : Own w v g zs) (hp : 0 < zs.length) : ∃ off cap, v = .slice (some ⟨g, off, none⟩) zs.length cap := by
  obtain ⟨a, cap, rfl, -, -, hx⟩ := h
  obtain ⟨off, rfl, -⟩ := hx hp
  exact ⟨off, cap, rfl⟩

/-- Under way: the source at a, nothing of w turned, the nodes zs in block g. -/
def St (w : World) (b a : Nat) (cv v : Value) (g : Nat) (zs : List Zn) (wr : World) : Prop := SrcAt wr b a cv ∧ Upd b w wr ∧ Own wr v g zs ∧ g ≠ b
theorem St.ext {w : World} {b a g : Nat} {cv v : Value} {zs : List Zn} {wr w' : World} (h : St w b a cv v g zs wr) (he : Ext wr w') : St w b a cv v g zs w' :=
  ⟨h.1.ext he, h.2.1.trans (Upd.ext he (Nat.le_of_lt h.1.lt)), h.2.2.1.ext he, h.2.2.2⟩
theorem St.alloc {w : World} {b a g : Nat} {cv v : Value} {zs : List Zn} {wr : World} (h : St w b a cv v g zs wr) (o : Obj) : St w b a cv v g zs (wr.alloc o) := h.ext ((Ext.refl _).alloc _)
theorem St.place {w : World} {b a g : Nat} {cv v : Value} {zs : List Zn} {wr : World} (h : St w b a cv v g zs wr) (a' q : Nat) : St w b a' cv v g zs ((wr.setCell ⟨b, 1, none⟩ (.int .i64 (a' : Int))).drewN q) :=
  ⟨h.1.place a' q, h.2.1.trans (Upd.place _ _ _), h.2.2.1.upd (Upd.place _ _ _) h.2.2.2, h.2.2.2⟩
theorem St.upd {w : World} {b a a' g : Nat} {cv v : Value} {zs : List Zn} {wr w' : World} (h : St w b a cv v g zs wr) (hs : SrcAt w' b a' cv) (hu : Upd b wr w') : St w b a' cv v g zs w' :=
  ⟨hs, h.2.1.trans hu, h.2.2.1.upd hu h.2.2.2, h.2.2.2⟩
theorem St.box {w : World} {b a g : Nat} {cv v : Value} {zs : List Zn} {wr : World} (h : St w b a cv v g zs wr) (hb : b < w.heap.size) {rb : Nat} (h1 : w.heap.size ≤ rb) (h2 : rb ≠ g) (o : Nat) (u : Value) : St w b a cv v g zs (wr.setCell ⟨rb, o, none⟩ u) := by
  have hu : Upd rb wr (wr.setCell ⟨rb, o, none⟩ u) := (Upd.refl _ _).setAt o u
  refine ⟨h.1.kept (Below.mono hu.1 (by omega)), ⟨Below.trans h.2.1.1 (Below.mono hu.1 (by omega)), Nat.le_trans h.2.1.2.1 hu.2.1, fun c o' hc hl => ?_⟩, h.2.2.1.upd hu (Ne.symm h2), h.2.2.2⟩
  have e1 := hu.at_ne c o' (by omega) (Nat.lt_of_lt_of_le hl h.2.1.2.1)
  have e2 := h.2.1.2.2 c o' hc hl
  exact ⟨e1.1.trans e2.1, e1.2.trans e2.2⟩
theorem fieldZ_code (c : Int) (t : ByteArray) (v : Value) (w : World) : (Instr.field 28 (.agg #[.int .i64 c, .string t, v]) 0).run Tryz.prog w = .ok (.int .i64 c) w := by kernel_rfl
theorem fieldZ_nodes (c : Int) (t : ByteArray) (v : Value) (w : World) : (Instr.field 28 (.agg #[.int .i64 c, .string t, v]) 2).run Tryz.prog w = .ok v w := by kernel_rfl

set_option maxHeartbeats 4000000 in
set_option maxRecDepth 100000 in
theorem l2Right_any (b a : Nat) (cv : Value) (w : World) (h : SrcAt w b a cv) (ha : a ≤ 600) :
    Calls Tryz.prog 67 #[.pointer (some ⟨b, 0, none⟩)] w (DrawnT Tre.Kept b a 101 cv w) := by
  have hbl : b < w.heap.size := h.2.2.2.1
  have HS : Hid (SrcAt w b a cv) := h
  clear h
  have hfz := fieldZ_nodes
  go_enter Tryz.func67, Tryz.ntmps67
  go_wp2_with fail
  refine (next_any b a cv 9 _ (by exact HS.out) (by omega) (by omega) (by omega)).mono ?_
  rintro e w1 ⟨r, q, rfl, hr0, hr1, hw⟩
  have HS1 : Hid (SrcAt w1 b (a + 1) cv) := by rw [hw]; exact HS.out.place _ _
  have HU1 : Hid (Upd b w w1) := by rw [hw]; exact Upd.place _ _ _
  clear hw
  have hN := specNewTree_any r w1
  have hN0 : Tre.newT r = (0, ⟨#[]⟩, [⟨Tre.top, r, 0, 0, 0⟩]) := by unfold Tre.newT Tre.okData; rw [if_pos (by simp; omega)]
  have HK1 : Hid (Tre.Kept (Tre.newT r).2.2) := Tre.kept_new (by rw [hN0])
  rw [hN0] at hN HK1
  clear hN0
  dsimp only at hN HK1
  have HN : Hid (Calls Tryz.prog 119 #[.int .i64 r] w1 (ZRet w1 0 ⟨#[]⟩ [⟨Tre.top, r, 0, 0, 0⟩])) := hN
  clear hN
  go_wp2_with fail
  refine HN.out.mono ?_
  rintro e w2 ⟨v, g, rfl, hg, hO, hE⟩
  obtain ⟨off, cap, rfl⟩ := hO.at (by simp)
  generalize hzs : ([⟨Tre.top, r, 0, 0, 0⟩] : List Zn) = zs0 at *
  have HS2 : Hid (SrcAt w2 b (a + 1) cv) := HS1.out.ext hE
  have HU2 : Hid (Upd b w w2) := HU1.out.trans (Upd.ext hE (Nat.le_of_lt HS1.out.lt))
  have HO2 : Hid (Own w2 (.slice (some ⟨g, off, none⟩) zs0.length cap) g zs0) := hO
  have hg2 : w.heap.size ≤ g := Nat.le_trans HU1.out.2.1 hg
  clear hO hE hg
  unfold zr
  go_wp2_with fail
  refine (next_any b (a + 1) cv 12 _ (by exact HS2.out) (by omega) (by omega) (by omega)).mono ?_
  rintro e w3 ⟨r3, q3, rfl, hr30, hr31, hw⟩
  obtain ⟨k0, rfl⟩ := Int.eq_ofNat_of_zero_le hr30
  have HS3 : Hid (SrcAt w3 b (a + 2) cv) := by rw [hw]; exact HS2.out.place _ _
  have HU3 : Hid (Upd b w w3) := by rw [hw]; exact HU2.out.trans (Upd.place _ _ _)
  have HO3 : Hid (Own w3 (.slice (some ⟨g, off, none⟩) zs0.length cap) g zs0) := by rw [hw]; exact HO2.out.upd (Upd.place _ _ _) (by omega)
  clear hw
  go_wp2
  go_loopw [3, 4] (fun ov kv wr => ∃ (g off cap k a' : Nat) (zs : List Zn), ov = .slice (some ⟨g, off, none⟩) zs.length cap ∧ kv = .int .i64 k ∧ k ≤ 11 ∧ Hid (Tre.Kept zs) ∧ w.heap.size ≤ g ∧ Hid (Own wr (.slice (some ⟨g, off, none⟩) zs.length cap) g zs) ∧ a' + 9 * k ≤ a + 101 ∧ Hid (SrcAt wr b a' cv) ∧ Hid (Upd b w wr)) (fun _ kv _ => (intOf kv).toNat)
  case atStart => exact ⟨g, off, cap, k0, a + 2, zs0, rfl, rfl, by omega, HK1, hg2, HO3, by omega, HS3, HU3⟩
  case round =>
    clear HO3 HK1 HS3 HU3 HS2 HU2 HS1 HU1 HN HO2
    obtain ⟨g, off, cap, k, a', zs, rfl, rfl, hk11, HK, hgw, HO, hak, HS4, HU4⟩ := hrel
    by_cases hk : 0 < k
    · go_wp2_with fail
      refine (draw_right b a' cv _ (by exact HS4.out) (by omega)).mono ?_
      rintro e w5 ⟨p, a5, rfl, hpf, ha5, hS5, hU5⟩
      have HT5 : Hid (St w b a5 cv (.slice (some ⟨g, off, none⟩) zs.length cap) g zs w5) := (show St w b a' cv (.slice (some ⟨g, off, none⟩) zs.length cap) g zs wr from ⟨HS4.out, HU4.out, HO.out, by omega⟩).upd hS5 hU5
      clear hS5 hU5 HS4 HU4 HO
      go_wp2_with fail
      refine (next_any b a5 cv 99 _ (by first | exact HT5.out.1 | exact (HT5.out.alloc _).1) (by omega) (by omega) (by omega)).mono ?_
      rintro e w6 ⟨d, q6, rfl, hd0, hd1, hw⟩
      have HT6 : Hid (St w b (a5 + 1) cv (.slice (some ⟨g, off, none⟩) zs.length cap) g zs w6) := by rw [hw]; first | exact HT5.out.place _ _ | exact (HT5.out.alloc _).place _ _
      clear hw HT5
      have hlt6 : b < w6.heap.size := HT6.out.1.lt
      go_wp2_with fail
      refine (pick_any b (a5 + 1) w6.heap.size 0 4 cv [0, 0, 1, 2] _ (by exact (HT6.out.alloc _).1) (by omega) (nums4 _ _ _ _ _ _) (by simp) (by simp) (by omega)).mono ?_
      rintro e w7 ⟨o, q7, rfl, hw⟩
      have HT7 : Hid (St w b (a5 + 2) cv (.slice (some ⟨g, off, none⟩) zs.length cap) g zs w7) := by rw [hw]; exact (HT6.out.alloc _).place _ _
      clear hw HT6
      go_wp2_with fail
      refine (chance_any b (a5 + 2) cv 5 _ (by exact HT7.out.1) (by omega) (by omega) (by omega)).mono ?_
      rintro e w8 ⟨qb, q8, rfl, hw⟩
      have HT8 : Hid (St w b (a5 + 3) cv (.slice (some ⟨g, off, none⟩) zs.length cap) g zs w8) := by rw [hw]; exact HT7.out.place _ _
      clear hw HT7
      go_wp2_with fail
      have hcr := l2Create_any g off cap zs p d o qb w8 HT8.out.2.2.1.slice (Nat.le_trans HK.out.1 (by omega)) HK.out.pos hpf (fun z hz => (HK.out.2.2 z hz).2.2)
      have HK9 : Hid ((Tre.createT zs p d o qb).1 = 0 → Tre.Kept (Tre.createT zs p d o qb).2.2) := fun h => Tre.kept_create HK.out hpf h
      generalize (Tre.createT zs p d o qb).1 = c at *
      generalize (Tre.createT zs p d o qb).2.1 = t at *
      generalize (Tre.createT zs p d o qb).2.2 = rs at *
      refine hcr.mono ?_
      rintro e w9 ⟨v', g', rfl, hg', hO', hE'⟩
      obtain ⟨ad', cap', rfl⟩ : ∃ ad' cap', v' = .slice ad' rs.length cap' := by obtain ⟨a0, c0, h0, -⟩ := hO'; exact ⟨a0, c0, h0⟩
      have hg8 : b < g' := Nat.lt_of_lt_of_le HT8.out.1.lt hg'
      have hg9 : w.heap.size ≤ g' := Nat.le_trans HT8.out.2.1.2.1 hg'
      have HT9 : Hid (St w b (a5 + 3) cv (.slice (some ⟨g, off, none⟩) zs.length cap) g zs w9) := HT8.out.ext hE'
      have HO9 : Hid (Own w9 (.slice ad' rs.length cap') g' rs) := hO'
      clear hO' hE' HT8 hcr hg'
      unfold zr
      go_wp2_with fail
      refine (next_any b (a5 + 3) cv 6 _ (by exact (HT9.out.alloc _).1) (by omega) (by omega) (by omega)).mono ?_
      rintro e w10 ⟨r6, q10, rfl, h60, h61, hw⟩
      have hgl := HT9.out.2.2.1.lt HK.out.pos
      have hb9 := HT9.out.1.lt
      have hw9 := HT9.out.2.1.2.1
      have hr9 : 0 < rs.length → g' < w9.heap.size := fun h => HO9.out.lt h
      have HT10 : Hid (St w b (a5 + 4) cv (.slice (some ⟨g, off, none⟩) zs.length cap) g zs w10) := by rw [hw]; exact (HT9.out.alloc _).place _ _
      have HO10 : Hid (Own w10 (.slice ad' rs.length cap') g' rs) := by rw [hw]; exact (HO9.out.ext ((Ext.refl _).alloc _)).upd (Upd.place _ _ _) (by omega)
      have hat := fun i => (Upd.place (b := b) (w9.alloc (.cells #[.int .i64 c,   .string t, .slice ad' rs.length cap'] 28)) (.int .i64 (a5 + 3 + 1 : Nat)) q10).at_ne w9.heap.size i (by omega) (by simp)
      rw [← hw] at hat
      have c0 : w10.cell? ⟨w9.heap.size, 0, none⟩ = some (.int .i64 c) := (hat 0).1.trans (by simp)
      have c1 : w10.cell? ⟨w9.heap.size, 1, none⟩ = some (.string t) := (hat 1).1.trans (by simp)
      have c2 : w10.cell? ⟨w9.heap.size, 2, none⟩ = some (.slice ad' rs.length cap') := (hat 2).1.trans (by simp)
      have f0 : w10.frozen? ⟨w9.heap.size, 0, none⟩ = false := (hat 0).2.trans (by simp)
      have f1 : w10.frozen? ⟨w9.heap.size, 1, none⟩ = false := (hat 1).2.trans (by simp)
      have f2 : w10.frozen? ⟨w9.heap.size, 2, none⟩ = false := (hat 2).2.trans (by simp)
      have hlt10 : w9.heap.size < w10.heap.size := by rw [hw]; simp
      clear hw hat HT9 HO9
      generalize w9.heap.size = rb at *
      by_cases h6 : r6 = 0
      · subst h6
        go_wp2_with fail
        refine (next_any b (a5 + 4) cv 99 _ (by exact HT10.out.1) (by omega) (by omega) (by omega)).mono ?_
        rintro e w11 ⟨d2, q11, rfl, hd20, hd21, hw⟩
        have HT11 : Hid (St w b (a5 + 5) cv (.slice (some ⟨g, off, none⟩) zs.length cap) g zs w11) := by rw [hw]; exact HT10.out.place _ _
        have hat := fun i => (Upd.place (b := b) w10 (.int .i64 (a5 + 4 + 1 : Nat)) q11).at_ne rb i (by omega) hlt10
        rw [← hw] at hat
        have c0' := (hat 0).1.trans c0
        have c1' := (hat 1).1.trans c1
        have c2' := (hat 2).1.trans c2
        have f0' := (hat 0).2.trans f0
        have f1' := (hat 1).2.trans f1
        have f2' := (hat 2).2.trans f2
        have hlt11 : rb < w11.heap.size := by rw [hw]; simpa using hlt10
        clear hw hat HT10 HO10 c0 c1 c2 f0 f1 f2 HK9
        go_wp2_with fail
        have hcr := l2Set_any (.slice (some ⟨g, off, none⟩) zs.length cap) zs p d2 (-1) w11 HT11.out.2.2.1.slice (Nat.le_trans HK.out.1 (by omega)) (fun z hz => (HK.out.2.2 z hz).2.1)
        have HK12 : Hid ((Tre.setT zs p d2 (-1)).1 = 0 → Tre.Kept (Tre.setT zs p d2 (-1)).2.2) := fun h => Tre.kept_set HK.out h
        generalize (Tre.setT zs p d2 (-1)).1 = c3 at *
        generalize (Tre.setT zs p d2 (-1)).2.1 = t3 at *
        generalize (Tre.setT zs p d2 (-1)).2.2 = rs3 at *
        refine hcr.mono ?_
        rintro e w12 ⟨v3, g3, rfl, hg3, hO3, hE3⟩
        obtain ⟨ad3, cap3, rfl⟩ : ∃ ad' cap', v3 = .slice ad' rs3.length cap' := by obtain ⟨a0, c0, h0, -⟩ := hO3; exact ⟨a0, c0, h0⟩
        have hgb : rb < g3 := Nat.lt_of_lt_of_le hlt11 hg3
        have hg9 : w.heap.size ≤ g3 := Nat.le_trans HT11.out.2.1.2.1 hg3
        have HT12 : Hid (St w b (a5 + 5) cv (.slice (some ⟨g, off, none⟩) zs.length cap) g zs w12) := HT11.out.ext hE3
        have HO12 : Hid (Own w12 (.slice ad3 rs3.length cap3) g3 rs3) := hO3
        have x0 := (Below.cell hE3 (p := ⟨rb, 0, none⟩) hlt11).trans c0'
        have x1 := (Below.cell hE3 (p := ⟨rb, 1, none⟩) hlt11).trans c1'
        have x2 := (Below.cell hE3 (p := ⟨rb, 2, none⟩) hlt11).trans c2'
        have y0 := (Below.frozen hE3 (p := ⟨rb, 0, none⟩) hlt11).trans f0'
        have y1 := (Below.frozen hE3 (p := ⟨rb, 1, none⟩) hlt11).trans f1'
        have y2 := (Below.frozen hE3 (p := ⟨rb, 2, none⟩) hlt11).trans f2'
        clear hO3 hE3 hcr hg3 c0' c1' c2' f0' f1' f2' HT11
        unfold zr
        by_cases hc : c3 = 0
        · subst hc
          have HKz : Hid (Tre.Kept rs3) := HK12.out rfl
          clear HK12
          go_wp2
          obtain ⟨off', cap2, hv'⟩ := HO12.out.at HKz.out.pos
          exact ⟨⟨g3, off', cap2, k - 1, (a5 + 5), rs3, hv', by rw [show ((k - 1 : Nat) : Int) = (k : Int) - 1 from by omega], by omega, HKz, hg9, hv' ▸ ((HO12.out.upd ((Upd.refl rb _).setAt 0 _) (by omega)).upd ((Upd.refl rb _).setAt 1 _) (by omega)).upd ((Upd.refl rb _).setAt 2 _) (by omega), by omega, (((HT12.out.box hbl (by omega) (by omega) 0 _).box hbl (by omega) (by omega) 1 _).box hbl (by omega) (by omega) 2 _).1, (((HT12.out.box hbl (by omega) (by omega) 0 _).box hbl (by omega) (by omega) 1 _).box hbl (by omega) (by omega) 2 _).2.1⟩, by simp [intOf]; omega⟩
        · have ec : (c3 == 0) = false := by simp [hc]
          go_wp2
          have hX := ((HT12.out.box hbl (rb := rb) (by omega) (by omega) 0 (.int .i64 c3)).box hbl (rb := rb) (by omega) (by omega) 1 (.string t3)).box hbl (rb := rb) (by omega) (by omega) 2 (.slice ad3 rs3.length cap3)
          exact ⟨⟨g, off, cap, k - 1, (a5 + 5), zs, rfl, by rw [show ((k - 1 : Nat) : Int) = (k : Int) - 1 from by omega], by omega, HK, hgw, hX.2.2.1, by omega, hX.1, hX.2.1⟩, by simp [intOf]; omega⟩
      · have e0 : (r6 == 0) = false := by simp [h6]
        by_cases h7 : r6 = 1
        · subst h7
          go_wp2_with fail
          have hcr := l2Delete_any (.slice (some ⟨g, off, none⟩) zs.length cap) zs p (-1) w10 HT10.out.2.2.1.slice (Nat.le_trans HK.out.1 (by omega)) (fun z hz => (HK.out.2.2 z hz).1)
          have HK12 : Hid ((Tre.delT zs p (-1)).1 = 0 → Tre.Kept (Tre.delT zs p (-1)).2.2) := fun h => Tre.kept_del HK.out h
          generalize (Tre.delT zs p (-1)).1 = c3 at *
          generalize (Tre.delT zs p (-1)).2.1 = t3 at *
          generalize (Tre.delT zs p (-1)).2.2 = rs3 at *
          refine hcr.mono ?_
          rintro e w12 ⟨v3, g3, rfl, hg3, hO3, hE3⟩
          obtain ⟨ad3, cap3, rfl⟩ : ∃ ad' cap', v3 = .slice ad' rs3.length cap' := by obtain ⟨a0, c0, h0, -⟩ := hO3; exact ⟨a0, c0, h0⟩
          have hgb : rb < g3 := Nat.lt_of_lt_of_le hlt10 hg3
          have hg9 : w.heap.size ≤ g3 := Nat.le_trans HT10.out.2.1.2.1 hg3
          have HT12 : Hid (St w b (a5 + 4) cv (.slice (some ⟨g, off, none⟩) zs.length cap) g zs w12) := HT10.out.ext hE3
          have HO12 : Hid (Own w12 (.slice ad3 rs3.length cap3) g3 rs3) := hO3
          have x0 := (Below.cell hE3 (p := ⟨rb, 0, none⟩) hlt10).trans c0
          have x1 := (Below.cell hE3 (p := ⟨rb, 1, none⟩) hlt10).trans c1
          have x2 := (Below.cell hE3 (p := ⟨rb, 2, none⟩) hlt10).trans c2
          have y0 := (Below.frozen hE3 (p := ⟨rb, 0, none⟩) hlt10).trans f0
          have y1 := (Below.frozen hE3 (p := ⟨rb, 1, none⟩) hlt10).trans f1
          have y2 := (Below.frozen hE3 (p := ⟨rb, 2, none⟩) hlt10).trans f2
          clear hO3 hE3 hcr hg3 c0 c1 c2 f0 f1 f2 HT10 HO10 HK9
          unfold zr
          by_cases hc : c3 = 0
          · subst hc
            have HKz : Hid (Tre.Kept rs3) := HK12.out rfl
            clear HK12
            go_wp2
            obtain ⟨off', cap2, hv'⟩ := HO12.out.at HKz.out.pos
            exact ⟨⟨g3, off', cap2, k - 1, (a5 + 4), rs3, hv', by rw [show ((k - 1 : Nat) : Int) = (k : Int) - 1 from by omega], by omega, HKz, hg9, hv' ▸ ((HO12.out.upd ((Upd.refl rb _).setAt 0 _) (by omega)).upd ((Upd.refl rb _).setAt 1 _) (by omega)).upd ((Upd.refl rb _).setAt 2 _) (by omega), by omega, (((HT12.out.box hbl (by omega) (by omega) 0 _).box hbl (by omega) (by omega) 1 _).box hbl (by omega) (by omega) 2 _).1, (((HT12.out.box hbl (by omega) (by omega) 0 _).box hbl (by omega) (by omega) 1 _).box hbl (by omega) (by omega) 2 _).2.1⟩, by simp [intOf]; omega⟩
          · have ec : (c3 == 0) = false := by simp [hc]
            go_wp2
            have hX := ((HT12.out.box hbl (rb := rb) (by omega) (by omega) 0 (.int .i64 c3)).box hbl (rb := rb) (by omega) (by omega) 1 (.string t3)).box hbl (rb := rb) (by omega) (by omega) 2 (.slice ad3 rs3.length cap3)
            exact ⟨⟨g, off, cap, k - 1, (a5 + 4), zs, rfl, by rw [show ((k - 1 : Nat) : Int) = (k : Int) - 1 from by omega], by omega, HK, hgw, hX.2.2.1, by omega, hX.1, hX.2.1⟩, by simp [intOf]; omega⟩
        · have e1 : (r6 == 1) = false := by simp [h7]
          by_cases hc : c = 0
          · subst hc
            have HKz : Hid (Tre.Kept rs) := HK9.out rfl
            clear HK9
            go_wp2
            obtain ⟨off', cap2, hv'⟩ := HO10.out.at HKz.out.pos
            exact ⟨⟨g', off', cap2, k - 1, a5 + 4, rs, hv', by rw [show ((k - 1 : Nat) : Int) = (k : Int) - 1 from by omega], by omega, HKz, hg9, hv' ▸ HO10, by omega, HT10.out.1, HT10.out.2.1⟩, by simp [intOf]; omega⟩
          · have ec : (c == 0) = false := by simp [hc]
            go_wp2
            exact ⟨⟨g, off, cap, k - 1, a5 + 4, zs, rfl, by rw [show ((k - 1 : Nat) : Int) = (k : Int) - 1 from by omega], by omega, HK, hgw, HT10.out.2.2.1, by omega, HT10.out.1, HT10.out.2.1⟩, by simp [intOf]; omega⟩
    · go_wp2
      go_ret
      exact ⟨g, off, cap, a', zs, rfl, HK.out, hgw, HO.out, by omega, HS4.out, HU4.out⟩
end Go.Proofs.YtmiffefnpendoaaGreatDoor

/- draws of trees: l2Bent. -/
namespace Go.Proofs.YtmiffefnpendoaaGreatDoor
open Go.RowKit
/-- A tree that is not empty, nor too great. -/
def Few (zs : List Zn) : Prop := 0 < zs.length ∧ zs.length ≤ 21
theorem Upd.above {w wr : World} {b rb : Nat} (h : Upd b w wr) (hb : b < w.heap.size) (h1 : w.heap.size ≤ rb) (o : Nat) (u : Value) : Upd b w (wr.setCell ⟨rb, o, none⟩ u) := by
  have hu : Upd rb wr (wr.setCell ⟨rb, o, none⟩ u) := (Upd.refl _ _).setAt o u
  refine ⟨Below.trans h.1 (Below.mono hu.1 (by omega)), Nat.le_trans h.2.1 hu.2.1, fun c o' hc hl => ?_⟩
  have e1 := hu.at_ne c o' (by omega) (Nat.lt_of_lt_of_le hl h.2.1)
  have e2 := h.2.2 c o' hc hl
  exact ⟨e1.1.trans e2.1, e1.2.trans e2.2⟩
theorem bent_store {w wr : World} {b a a0 k g off cap i : Nat} {cv : Value} {zs : List Zn} {z : Zn} (h : St w b a cv (.slice (some ⟨g, off, none⟩) zs.length cap) g zs wr) (hb : b < w.heap.size) (hg : w.heap.size ≤ g) (hz : zs[i]? = some z) (hl : zs.length ≤ 20) (ha : a ≤ a0 + k) (r : Nat) (hr : r < 5) (u : Value) (z' : Zn) (hz' : zcells z' = (zcells z).set r u) :
    DrawnT Few b a0 k cv w (.returned (.slice (some ⟨g, off, none⟩) zs.length cap)) (wr.setCell ⟨g, off + i * 5 + r, none⟩ u) := by
  have hu : Upd g wr (wr.setCell ⟨g, off + i * 5 + r, none⟩ u) := (Upd.refl _ _).setAt _ u
  have hi := (List.getElem?_eq_some_iff.1 hz).1
  refine ⟨g, off, cap, a, zs.set i z', by rw [List.length_set], ⟨by rw [List.length_set]; omega, by rw [List.length_set]; omega⟩, hg, ?_, ha, h.1.kept (Below.mono hu.1 (by omega)), h.2.1.above hb hg _ _⟩
  rw [List.length_set]
  exact h.2.2.1.field hz r hr u z' hz'
theorem nums2 (w : World) (x y : Int) (t : TypeId) : NumsAt (w.alloc (.cells #[.int .i64 x, .int .i64 y] t)) w.heap.size 0 [x, y] := by
  intro i u hu
  match i, hu with
  | 0, hu => cases hu; simp
  | 1, hu => cases hu; simp
theorem Own.room {w : World} {g off cap : Nat} {zs : List Zn} (h : Own w (.slice (some ⟨g, off, none⟩) zs.length cap) g zs) (hp : 0 < zs.length) : Room w g off zs.length ∧ zs.length ≤ cap ∧ cap ≤ maxLen := by
  obtain ⟨a, cap', he, h2, h3, h4⟩ := h
  obtain ⟨off', ha, hR, -⟩ := h4 hp
  injection he with e1 _ e3
  subst e3
  rw [← e1] at ha
  injection ha with ha
  injection ha with _ ha _
  subst ha
  exact ⟨hR, h2, h3⟩
def z0 : Zn := ⟨⟨#[]⟩, 0, 0, 0, 0⟩
theorem made21 : (madeCells #[.string ⟨#[]⟩, .int .i64 0, .int .i64 0, .int .i64 0, .int .i64 0] 105).toList = cellsZ (List.replicate 21 z0) := by kernel_rfl

set_option maxHeartbeats 4000000 in
set_option maxRecDepth 100000 in
theorem l2Bent_any (b a : Nat) (cv : Value) (w : World) (h : SrcAt w b a cv) (ha : a ≤ 600) :
    Calls Tryz.prog 35 #[.pointer (some ⟨b, 0, none⟩)] w (DrawnT Few b a 109 cv w) := by
  have hi9 : (Tryz.prog.info? 39).map (fun i => (i.zero, i.size, i.bytes)) = some (some (.agg #[.string ⟨#[]⟩, .int .i64 0, .int .i64 0, .int .i64 0, .int .i64 0]), 5, 48) := by kernel_rfl
  obtain ⟨i0, hi, hx⟩ := Option.map_eq_some_iff.1 hi9
  simp only [Prod.mk.injEq] at hx
  obtain ⟨hz0, hz1, hz2⟩ := hx
  clear hi9
  have hbl : b < w.heap.size := h.2.2.2.1
  have HS : Hid (SrcAt w b a cv) := h
  clear h
  go_enter Tryz.func35, Tryz.ntmps35
  go_wp2_with fail
  refine (l2Right_any b a cv _ (by exact HS.out) (by omega)).mono ?_
  rintro e w1 ⟨g, off, cap, a1, zs, rfl, hK, hgw, hO, ha1, hS1, hU1⟩
  have hpos := hK.pos
  have hl20 := hK.1
  have HT1 : Hid (St w b a1 cv (.slice (some ⟨g, off, none⟩) zs.length cap) g zs w1) := ⟨hS1, hU1, hO, by omega⟩
  clear hK hO hS1 hU1
  go_wp2_with fail
  refine (next_any b a1 cv zs.length _ (by exact HT1.out.1) (by omega) (by omega) (by omega)).mono ?_
  rintro e w2 ⟨ri, q2, rfl, hi0, hi1, hw⟩
  obtain ⟨i, rfl⟩ := Int.eq_ofNat_of_zero_le hi0
  have hil : i < zs.length := by omega
  have HT2 : Hid (St w b (a1 + 1) cv (.slice (some ⟨g, off, none⟩) zs.length cap) g zs w2) := by rw [hw]; exact HT1.out.place _ _
  clear hw HT1
  go_wp2_with fail
  refine (next_any b (a1 + 1) cv 14 _ (by exact HT2.out.1) (by omega) (by omega) (by omega)).mono ?_
  rintro e w3 ⟨r, q3, rfl, hr0, hr1, hw⟩
  have HT3 : Hid (St w b (a1 + 2) cv (.slice (some ⟨g, off, none⟩) zs.length cap) g zs w3) := by rw [hw]; exact HT2.out.place _ _
  clear hw HT2
  obtain ⟨z, hzi⟩ : ∃ z, zs[i]? = some z := ⟨_, List.getElem?_eq_getElem hil⟩
  have HZ : Hid (zs[i]? = some z) := hzi
  clear hzi
  by_cases h0 : r = 0
  · subst h0
    go_wp2_with fail
    refine (bent_any b (a1 + 2) cv _ (by exact HT3.out.1) (by omega)).mono ?_
    rintro e w4 ⟨t, a4, rfl, -, ha4, hS4, hU4⟩
    have HT4 : Hid (St w b a4 cv (.slice (some ⟨g, off, none⟩) zs.length cap) g zs w4) := HT3.out.upd hS4 hU4
    clear hS4 hU4 HT3
    obtain ⟨hR9, hlc9, hcm9⟩ := HT4.out.2.2.1.room hpos
    obtain ⟨⟨y1, r1⟩, s1⟩ := hR9.2 (i * 5 + 0) (by omega)
    rw [← Nat.add_assoc] at r1 s1
    unfold maxLen at hcm9
    clear hR9
    simp only [Nat.add_zero] at r1 s1
    go_wp2
    go_ret
    exact bent_store HT4.out hbl hgw HZ.out hl20 (by omega) 0 (by omega) (.string t) { z with path := t } rfl
  have e0 : (r == 0) = false := by simp [h0]
  by_cases h1 : r = 1
  · subst h1
    go_wp2_with fail
    have hl3 : b < w3.heap.size := HT3.out.1.lt
    refine (pick_any b (a1 + 2) w3.heap.size 0 2 cv [-1, 10000] _ (by exact (HT3.out.alloc _).1) (by omega) (nums2 _ _ _ _) (by simp) (by simp) (by omega)).mono ?_
    rintro e w4 ⟨x, q4, rfl, hw⟩
    have HT4 : Hid (St w b (a1 + 3) cv (.slice (some ⟨g, off, none⟩) zs.length cap) g zs w4) := by rw [hw]; exact (HT3.out.alloc _).place _ _
    clear hw HT3
    obtain ⟨hR9, hlc9, hcm9⟩ := HT4.out.2.2.1.room hpos
    obtain ⟨⟨y1, r1⟩, s1⟩ := hR9.2 (i * 5 + 1) (by omega)
    rw [← Nat.add_assoc] at r1 s1
    unfold maxLen at hcm9
    clear hR9
    go_wp2
    go_ret
    exact bent_store HT4.out hbl hgw HZ.out hl20 (by omega) 1 (by omega) (.int .i64 x) { z with data := x } rfl
  have e1 : (r == 1) = false := by simp [h1]
  by_cases h2 : r = 2
  · subst h2
    go_wp2_with fail
    have hl3 : b < w3.heap.size := HT3.out.1.lt
    refine (pick_any b (a1 + 2) w3.heap.size 0 3 cv [-1, 999, 1000] _ (by exact (HT3.out.alloc _).1) (by omega) (nums3 _ _ _ _ _) (by simp) (by simp) (by omega)).mono ?_
    rintro e w4 ⟨x, q4, rfl, hw⟩
    have HT4 : Hid (St w b (a1 + 3) cv (.slice (some ⟨g, off, none⟩) zs.length cap) g zs w4) := by rw [hw]; exact (HT3.out.alloc _).place _ _
    clear hw HT3
    obtain ⟨hR9, hlc9, hcm9⟩ := HT4.out.2.2.1.room hpos
    obtain ⟨⟨y1, r1⟩, s1⟩ := hR9.2 (i * 5 + 2) (by omega)
    rw [← Nat.add_assoc] at r1 s1
    unfold maxLen at hcm9
    clear hR9
    go_wp2
    go_ret
    exact bent_store HT4.out hbl hgw HZ.out hl20 (by omega) 2 (by omega) (.int .i64 x) { z with version := x } rfl
  have e2 : (r == 2) = false := by simp [h2]
  by_cases h3 : r = 3
  · subst h3
    go_wp2_with fail
    have hl3 : b < w3.heap.size := HT3.out.1.lt
    refine (pick_any b (a1 + 2) w3.heap.size 0 2 cv [3, 10] _ (by exact (HT3.out.alloc _).1) (by omega) (nums2 _ _ _ _) (by simp) (by simp) (by omega)).mono ?_
    rintro e w4 ⟨x, q4, rfl, hw⟩
    have HT4 : Hid (St w b (a1 + 3) cv (.slice (some ⟨g, off, none⟩) zs.length cap) g zs w4) := by rw [hw]; exact (HT3.out.alloc _).place _ _
    clear hw HT3
    obtain ⟨hR9, hlc9, hcm9⟩ := HT4.out.2.2.1.room hpos
    obtain ⟨⟨y1, r1⟩, s1⟩ := hR9.2 (i * 5 + 3) (by omega)
    rw [← Nat.add_assoc] at r1 s1
    unfold maxLen at hcm9
    clear hR9
    go_wp2
    go_ret
    exact bent_store HT4.out hbl hgw HZ.out hl20 (by omega) 3 (by omega) (.int .i64 x) { z with owner := x } rfl
  have e3 : (r == 3) = false := by simp [h3]
  by_cases h4 : r = 4
  · subst h4
    go_wp2_with fail
    have hl3 : b < w3.heap.size := HT3.out.1.lt
    refine (pick_any b (a1 + 2) w3.heap.size 0 2 cv [100, 101] _ (by exact (HT3.out.alloc _).1) (by omega) (nums2 _ _ _ _) (by simp) (by simp) (by omega)).mono ?_
    rintro e w4 ⟨x, q4, rfl, hw⟩
    have HT4 : Hid (St w b (a1 + 3) cv (.slice (some ⟨g, off, none⟩) zs.length cap) g zs w4) := by rw [hw]; exact (HT3.out.alloc _).place _ _
    clear hw HT3
    obtain ⟨hR9, hlc9, hcm9⟩ := HT4.out.2.2.1.room hpos
    obtain ⟨⟨y1, r1⟩, s1⟩ := hR9.2 (i * 5 + 4) (by omega)
    rw [← Nat.add_assoc] at r1 s1
    unfold maxLen at hcm9
    clear hR9
    go_wp2
    go_ret
    exact bent_store HT4.out hbl hgw HZ.out hl20 (by omega) 4 (by omega) (.int .i64 x) { z with next := x } rfl
  have e4 : (r == 4) = false := by simp [h4]
  by_cases h5 : r = 5
  · subst h5
    have hmk : ∀ W : World, (Instr.makeSlice 24 (.int .i64 21) (.int .i64 21)).run Tryz.prog W = .ok (.slice (some ⟨W.heap.size, 0, none⟩) 21 21) (W.alloc (.cells (madeCells #[.string ⟨#[]⟩, .int .i64 0, .int .i64 0, .int .i64 0, .int .i64 0] 105) 39)) := fun W => by
      have h := run_make (P := Tryz.prog) W 24 39 i0 _ Tryz.underlying24 hi hz0 .i64 .i64 21 21 (by omega) (by omega) (by rw [hz2]; omega) (by omega)
      rw [hz1] at h
      exact h
    have HM : Hid ((madeCells #[.string ⟨#[]⟩, .int .i64 0, .int .i64 0, .int .i64 0, .int .i64 0] 105).toList = cellsZ (List.replicate 21 z0)) := made21
    generalize madeCells #[.string ⟨#[]⟩, .int .i64 0, .int .i64 0, .int .i64 0, .int .i64 0] 105 = M at hmk HM
    go_wp2
    go_ret
    obtain ⟨g9, hg9, hO9⟩ := own_lit w3 (List.replicate 21 z0) M 39 HM.out (by unfold maxLen; simp)
    obtain ⟨off9, cap9, he9⟩ := hO9.at (by simp)
    injection he9 with e91 _ _
    injection e91 with e91
    injection e91 with e91 _ _
    subst e91
    exact ⟨w3.heap.size, 0, 21, a1 + 2, List.replicate 21 z0, by simp, ⟨by simp, by simp⟩, HT3.out.2.1.2.1, hO9, by omega, (HT3.out.alloc _).1, (HT3.out.alloc _).2.1⟩
  have e5 : (r == 5) = false := by simp [h5]
  go_wp2
  go_ret
  exact ⟨g, off, cap, a1 + 2, zs, rfl, ⟨hpos, by omega⟩, hgw, HT3.out.2.2.1, by omega, HT3.out.1, HT3.out.2.1⟩
end Go.Proofs.YtmiffefnpendoaaGreatDoor

/- draws of trees with what is asked of them: l1Later, l2With, DrawDeleteZ, DrawSetZ. -/
namespace Go.Proofs.YtmiffefnpendoaaGreatDoor
open Go.RowKit
/-- What a draw of a tree and more leaves. -/
def DrawnW (us : List Value → Prop) (w : World) (e : Ending) (w' : World) : Prop :=
  ∃ (g off cap : Nat) (zs : List Zn) (p : ByteArray) (l : List Value), e = .returned (.tuple (.slice (some ⟨g, off, none⟩) zs.length cap :: .string p :: l).toArray) ∧ us l ∧ Few zs ∧ Own w' (.slice (some ⟨g, off, none⟩) zs.length cap) g zs ∧ Ext w w'
theorem Own.node {w : World} {g off cap i : Nat} {zs : List Zn} {z : Zn} (h : Own w (.slice (some ⟨g, off, none⟩) zs.length cap) g zs) (hz : zs[i]? = some z) : w.cell? ⟨g, off + i * 5, none⟩ = some (.string z.path) := by
  have hi := (List.getElem?_eq_some_iff.1 hz).1
  obtain ⟨a, cap', he, h2, h3, h4⟩ := h
  obtain ⟨off', ha, -, hN⟩ := h4 (by omega)
  injection he with e1 _ e3
  subst e3
  rw [← e1] at ha
  injection ha with ha
  injection ha with _ ha _
  subst ha
  exact (hN i z hz).1

theorem src_new2 {w : World} {cv : Value} (n : Nat) (h : CodeOk w w.heap.size cv) : SrcAt (w.alloc (.cells #[cv, .int .i64 (n : Nat)] 141)) w.heap.size n cv :=
  ⟨by simp, by simp, by simp, by simp, h.below ((Below.refl _ _).alloc (Nat.le_refl _) _)⟩

set_option maxHeartbeats 2000000 in
set_option maxRecDepth 100000 in
theorem l2With_any (cv : Value) (w : World) (hc : CodeOk w w.heap.size cv) :
    Calls Tryz.prog 59 #[cv] w (DrawnW (fun l => l = []) w) := by
  have HS : Hid (SrcAt (w.alloc (.cells #[cv, .int .i64 0] 141)) w.heap.size 0 cv) := src_new hc
  obtain ⟨ad, len, cap0, hcv, -⟩ := hc
  have HC := source_any cv w ad len cap0 hcv
  clear hcv
  go_enter Tryz.func59, Tryz.ntmps59
  go_wp2_with fail
  refine HC.mono ?_
  rintro e w1 ⟨rfl, rfl⟩
  clear HC
  go_wp2_with fail
  refine (l2Bent_any w.heap.size 0 cv _ (by exact HS.out) (by omega)).mono ?_
  rintro e w2 ⟨g, off, cap, a2, zs, rfl, hF, hg, hO, ha2, hS2, hU2⟩
  have hg2 : w.heap.size < g := by have h2 := hg; simp at h2; omega
  have hpos := hF.1
  have h21 := hF.2
  have HT2 : Hid (St (w.alloc (.cells #[cv, .int .i64 0] 141)) w.heap.size a2 cv (.slice (some ⟨g, off, none⟩) zs.length cap) g zs w2) := ⟨hS2, hU2, hO, by omega⟩
  clear hF hg hO hS2 hU2
  go_wp2_with fail
  refine (chance_any w.heap.size a2 cv 2 _ (by exact HT2.out.1) (by omega) (by omega) (by omega)).mono ?_
  rintro e w3 ⟨c, q, rfl, hw⟩
  have HT3 : Hid (St (w.alloc (.cells #[cv, .int .i64 0] 141)) w.heap.size (a2 + 1) cv (.slice (some ⟨g, off, none⟩) zs.length cap) g zs w3) := by rw [hw]; exact HT2.out.place _ _
  clear hw HT2
  cases c
  · go_wp2_with fail
    refine (bent_any w.heap.size (a2 + 1) cv _ (by exact HT3.out.1) (by omega)).mono ?_
    rintro e w4 ⟨t, a4, rfl, -, ha4, hS4, hU4⟩
    have HT4 : Hid (St (w.alloc (.cells #[cv, .int .i64 0] 141)) w.heap.size a4 cv (.slice (some ⟨g, off, none⟩) zs.length cap) g zs w4) := HT3.out.upd hS4 hU4
    clear hS4 hU4 HT3
    go_wp2
    go_ret2
    exact ⟨g, off, cap, zs, t, [], rfl, rfl, ⟨hpos, h21⟩, HT4.out.2.2.1, ext_of_upd HT4.out.2.1⟩
  · have HX : Hid (∀ (W : World) (i q4 : Nat), (W = w3 ∨ ∃ n, W = w3.drewN n) → i < zs.length → ∀ w4, w4 = (W.setCell ⟨w.heap.size, 1, none⟩ (.int .i64 (a2 + 1 + 1 : Nat))).drewN q4 → ∃ z : Zn, w4.cell? ⟨g, off + i * 5, none⟩ = some (.string z.path) ∧ Hid (St (w.alloc (.cells #[cv, .int .i64 0] 141)) w.heap.size (a2 + 2) cv (.slice (some ⟨g, off, none⟩) zs.length cap) g zs w4)) := by
      intro W i q4 hW hi w4 hw
      have HW : St (w.alloc (.cells #[cv, .int .i64 0] 141)) w.heap.size (a2 + 1) cv (.slice (some ⟨g, off, none⟩) zs.length cap) g zs W := by
        rcases hW with rfl | ⟨n, rfl⟩
        · exact HT3.out
        · exact HT3.out.upd (HT3.out.1.drewN n) ((Upd.refl _ _).drewN n)
      have HT4 : St (w.alloc (.cells #[cv, .int .i64 0] 141)) w.heap.size (a2 + 2) cv (.slice (some ⟨g, off, none⟩) zs.length cap) g zs w4 := by rw [hw]; exact HW.place _ _
      obtain ⟨z, hzi⟩ : ∃ z, zs[i]? = some z := ⟨_, List.getElem?_eq_getElem hi⟩
      exact ⟨z, HT4.2.2.1.node hzi, HT4⟩
    have HN : Hid (∀ W : World, (W = w3 ∨ W = w3.drewN 1) → Calls Tryz.prog 39 #[.pointer (some ⟨w.heap.size, 0, none⟩), .int .i64 zs.length] W fun e w4 => ∃ (i : Nat) (z : Zn), e = .returned (.int .i64 i) ∧ i < zs.length ∧ w4.cell? ⟨g, off + i * 5, none⟩ = some (.string z.path) ∧ Hid (St (w.alloc (.cells #[cv, .int .i64 0] 141)) w.heap.size (a2 + 2) cv (.slice (some ⟨g, off, none⟩) zs.length cap) g zs w4)) := by
      intro W hW
      refine (next_any w.heap.size (a2 + 1) cv zs.length W (by rcases hW with rfl | rfl <;> first | exact HT3.out.1 | exact HT3.out.1.drewN 1) (by omega) (by omega) (by omega)).mono ?_
      rintro e w4 ⟨ri, q4, rfl, hi0, hi1, hw⟩
      obtain ⟨i, rfl⟩ := Int.eq_ofNat_of_zero_le hi0
      have hil : i < zs.length := by omega
      obtain ⟨z, hcz, HT4⟩ := HX.out W i q4 (by rcases hW with rfl | rfl <;> first | exact Or.inl rfl | exact Or.inr ⟨1, rfl⟩) hil w4 hw
      exact ⟨i, z, rfl, hil, hcz, HT4⟩
    have hcm := (HT3.out.2.2.1.room hpos).2
    unfold maxLen at hcm
    clear HX
    go_wp2
    go_region_with (go_at_call 39; refine (HN.out _ (by first | exact Or.inl rfl | exact Or.inr rfl)).mono ?_; rintro e w4 ⟨i, z, rfl, hil, hcz, HT4⟩)
    all_goals
      go_wp2
      go_ret2
      exact ⟨g, off, cap, zs, z.path, [], rfl, rfl, ⟨hpos, h21⟩, HT4.out.2.2.1, ext_of_upd HT4.out.2.1⟩
end Go.Proofs.YtmiffefnpendoaaGreatDoor

/- draws of trees with what is asked of them: DrawDeleteZ, DrawSetZ. -/
namespace Go.Proofs.YtmiffefnpendoaaGreatDoor
open Go.RowKit

end Go.Proofs.YtmiffefnpendoaaGreatDoor

/- draws of bent trees, with short paths. -/
namespace Go.Proofs.YtmiffefnpendoaaGreatDoor
open Go.RowKit
def FewS (zs : List Zn) : Prop := Few zs ∧ ∀ z ∈ zs, z.path.size ≤ 30
theorem bent_storeS {w wr : World} {b a a0 k g off cap i : Nat} {cv : Value} {zs : List Zn} {z : Zn} (h : St w b a cv (.slice (some ⟨g, off, none⟩) zs.length cap) g zs wr) (hb : b < w.heap.size) (hg : w.heap.size ≤ g) (hz : zs[i]? = some z) (hl : zs.length ≤ 20) (ha : a ≤ a0 + k) (r : Nat) (hr : r < 5) (u : Value) (z' : Zn) (hz' : zcells z' = (zcells z).set r u) (hsh : ∀ z ∈ zs, z.path.size ≤ 30) (hs' : z'.path.size ≤ 30) :
    DrawnT FewS b a0 k cv w (.returned (.slice (some ⟨g, off, none⟩) zs.length cap)) (wr.setCell ⟨g, off + i * 5 + r, none⟩ u) := by
  have hu : Upd g wr (wr.setCell ⟨g, off + i * 5 + r, none⟩ u) := (Upd.refl _ _).setAt _ u
  have hi := (List.getElem?_eq_some_iff.1 hz).1
  refine ⟨g, off, cap, a, zs.set i z', by rw [List.length_set], ⟨⟨by rw [List.length_set]; omega, by rw [List.length_set]; omega⟩, fun x hx => by rcases List.mem_or_eq_of_mem_set hx with hx | rfl; exact hsh x hx; exact hs'⟩, hg, ?_, ha, h.1.kept (Below.mono hu.1 (by omega)), h.2.1.above hb hg _ _⟩
  rw [List.length_set]
  exact h.2.2.1.field hz r hr u z' hz'

set_option maxHeartbeats 4000000 in
set_option maxRecDepth 100000 in
theorem l2BentS_any (b a : Nat) (cv : Value) (w : World) (h : SrcAt w b a cv) (ha : a ≤ 600) :
    Calls Tryz.prog 35 #[.pointer (some ⟨b, 0, none⟩)] w (DrawnT FewS b a 109 cv w) := by
  have hi9 : (Tryz.prog.info? 39).map (fun i => (i.zero, i.size, i.bytes)) = some (some (.agg #[.string ⟨#[]⟩, .int .i64 0, .int .i64 0, .int .i64 0, .int .i64 0]), 5, 48) := by kernel_rfl
  obtain ⟨i0, hi, hx⟩ := Option.map_eq_some_iff.1 hi9
  simp only [Prod.mk.injEq] at hx
  obtain ⟨hz0, hz1, hz2⟩ := hx
  clear hi9
  have hbl : b < w.heap.size := h.2.2.2.1
  have HS : Hid (SrcAt w b a cv) := h
  clear h
  go_enter Tryz.func35, Tryz.ntmps35
  go_wp2_with fail
  refine (l2Right_any b a cv _ (by exact HS.out) (by omega)).mono ?_
  rintro e w1 ⟨g, off, cap, a1, zs, rfl, hK, hgw, hO, ha1, hS1, hU1⟩
  have hpos := hK.pos
  have hl20 := hK.1
  have HT1 : Hid (St w b a1 cv (.slice (some ⟨g, off, none⟩) zs.length cap) g zs w1) := ⟨hS1, hU1, hO, by omega⟩
  have HSh : Hid (∀ z ∈ zs, z.path.size ≤ 30) := fun z hz => by have := few_of_ok (s := z.path) (hK.2.2 z hz).1; omega
  clear hK hO hS1 hU1
  go_wp2_with fail
  refine (next_any b a1 cv zs.length _ (by exact HT1.out.1) (by omega) (by omega) (by omega)).mono ?_
  rintro e w2 ⟨ri, q2, rfl, hi0, hi1, hw⟩
  obtain ⟨i, rfl⟩ := Int.eq_ofNat_of_zero_le hi0
  have hil : i < zs.length := by omega
  have HT2 : Hid (St w b (a1 + 1) cv (.slice (some ⟨g, off, none⟩) zs.length cap) g zs w2) := by rw [hw]; exact HT1.out.place _ _
  clear hw HT1
  go_wp2_with fail
  refine (next_any b (a1 + 1) cv 14 _ (by exact HT2.out.1) (by omega) (by omega) (by omega)).mono ?_
  rintro e w3 ⟨r, q3, rfl, hr0, hr1, hw⟩
  have HT3 : Hid (St w b (a1 + 2) cv (.slice (some ⟨g, off, none⟩) zs.length cap) g zs w3) := by rw [hw]; exact HT2.out.place _ _
  clear hw HT2
  obtain ⟨z, hzi⟩ : ∃ z, zs[i]? = some z := ⟨_, List.getElem?_eq_getElem hil⟩
  have HZ : Hid (zs[i]? = some z) := hzi
  clear hzi
  by_cases h0 : r = 0
  · subst h0
    go_wp2_with fail
    refine (bent_any b (a1 + 2) cv _ (by exact HT3.out.1) (by omega)).mono ?_
    rintro e w4 ⟨t, a4, rfl, ht4, ha4, hS4, hU4⟩
    have HTt : Hid (t.size ≤ 30) := ht4
    clear ht4
    have HT4 : Hid (St w b a4 cv (.slice (some ⟨g, off, none⟩) zs.length cap) g zs w4) := HT3.out.upd hS4 hU4
    clear hS4 hU4 HT3
    obtain ⟨hR9, hlc9, hcm9⟩ := HT4.out.2.2.1.room hpos
    obtain ⟨⟨y1, r1⟩, s1⟩ := hR9.2 (i * 5 + 0) (by omega)
    rw [← Nat.add_assoc] at r1 s1
    unfold maxLen at hcm9
    clear hR9
    simp only [Nat.add_zero] at r1 s1
    go_wp2
    go_ret
    exact bent_storeS HT4.out hbl hgw HZ.out hl20 (by omega) 0 (by omega) (.string t) { z with path := t } rfl HSh.out HTt.out
  have e0 : (r == 0) = false := by simp [h0]
  by_cases h1 : r = 1
  · subst h1
    go_wp2_with fail
    have hl3 : b < w3.heap.size := HT3.out.1.lt
    refine (pick_any b (a1 + 2) w3.heap.size 0 2 cv [-1, 10000] _ (by exact (HT3.out.alloc _).1) (by omega) (nums2 _ _ _ _) (by simp) (by simp) (by omega)).mono ?_
    rintro e w4 ⟨x, q4, rfl, hw⟩
    have HT4 : Hid (St w b (a1 + 3) cv (.slice (some ⟨g, off, none⟩) zs.length cap) g zs w4) := by rw [hw]; exact (HT3.out.alloc _).place _ _
    clear hw HT3
    obtain ⟨hR9, hlc9, hcm9⟩ := HT4.out.2.2.1.room hpos
    obtain ⟨⟨y1, r1⟩, s1⟩ := hR9.2 (i * 5 + 1) (by omega)
    rw [← Nat.add_assoc] at r1 s1
    unfold maxLen at hcm9
    clear hR9
    go_wp2
    go_ret
    exact bent_storeS HT4.out hbl hgw HZ.out hl20 (by omega) 1 (by omega) (.int .i64 x) { z with data := x } rfl HSh.out (HSh.out z (List.mem_of_getElem? HZ.out))
  have e1 : (r == 1) = false := by simp [h1]
  by_cases h2 : r = 2
  · subst h2
    go_wp2_with fail
    have hl3 : b < w3.heap.size := HT3.out.1.lt
    refine (pick_any b (a1 + 2) w3.heap.size 0 3 cv [-1, 999, 1000] _ (by exact (HT3.out.alloc _).1) (by omega) (nums3 _ _ _ _ _) (by simp) (by simp) (by omega)).mono ?_
    rintro e w4 ⟨x, q4, rfl, hw⟩
    have HT4 : Hid (St w b (a1 + 3) cv (.slice (some ⟨g, off, none⟩) zs.length cap) g zs w4) := by rw [hw]; exact (HT3.out.alloc _).place _ _
    clear hw HT3
    obtain ⟨hR9, hlc9, hcm9⟩ := HT4.out.2.2.1.room hpos
    obtain ⟨⟨y1, r1⟩, s1⟩ := hR9.2 (i * 5 + 2) (by omega)
    rw [← Nat.add_assoc] at r1 s1
    unfold maxLen at hcm9
    clear hR9
    go_wp2
    go_ret
    exact bent_storeS HT4.out hbl hgw HZ.out hl20 (by omega) 2 (by omega) (.int .i64 x) { z with version := x } rfl HSh.out (HSh.out z (List.mem_of_getElem? HZ.out))
  have e2 : (r == 2) = false := by simp [h2]
  by_cases h3 : r = 3
  · subst h3
    go_wp2_with fail
    have hl3 : b < w3.heap.size := HT3.out.1.lt
    refine (pick_any b (a1 + 2) w3.heap.size 0 2 cv [3, 10] _ (by exact (HT3.out.alloc _).1) (by omega) (nums2 _ _ _ _) (by simp) (by simp) (by omega)).mono ?_
    rintro e w4 ⟨x, q4, rfl, hw⟩
    have HT4 : Hid (St w b (a1 + 3) cv (.slice (some ⟨g, off, none⟩) zs.length cap) g zs w4) := by rw [hw]; exact (HT3.out.alloc _).place _ _
    clear hw HT3
    obtain ⟨hR9, hlc9, hcm9⟩ := HT4.out.2.2.1.room hpos
    obtain ⟨⟨y1, r1⟩, s1⟩ := hR9.2 (i * 5 + 3) (by omega)
    rw [← Nat.add_assoc] at r1 s1
    unfold maxLen at hcm9
    clear hR9
    go_wp2
    go_ret
    exact bent_storeS HT4.out hbl hgw HZ.out hl20 (by omega) 3 (by omega) (.int .i64 x) { z with owner := x } rfl HSh.out (HSh.out z (List.mem_of_getElem? HZ.out))
  have e3 : (r == 3) = false := by simp [h3]
  by_cases h4 : r = 4
  · subst h4
    go_wp2_with fail
    have hl3 : b < w3.heap.size := HT3.out.1.lt
    refine (pick_any b (a1 + 2) w3.heap.size 0 2 cv [100, 101] _ (by exact (HT3.out.alloc _).1) (by omega) (nums2 _ _ _ _) (by simp) (by simp) (by omega)).mono ?_
    rintro e w4 ⟨x, q4, rfl, hw⟩
    have HT4 : Hid (St w b (a1 + 3) cv (.slice (some ⟨g, off, none⟩) zs.length cap) g zs w4) := by rw [hw]; exact (HT3.out.alloc _).place _ _
    clear hw HT3
    obtain ⟨hR9, hlc9, hcm9⟩ := HT4.out.2.2.1.room hpos
    obtain ⟨⟨y1, r1⟩, s1⟩ := hR9.2 (i * 5 + 4) (by omega)
    rw [← Nat.add_assoc] at r1 s1
    unfold maxLen at hcm9
    clear hR9
    go_wp2
    go_ret
    exact bent_storeS HT4.out hbl hgw HZ.out hl20 (by omega) 4 (by omega) (.int .i64 x) { z with next := x } rfl HSh.out (HSh.out z (List.mem_of_getElem? HZ.out))
  have e4 : (r == 4) = false := by simp [h4]
  by_cases h5 : r = 5
  · subst h5
    have hmk : ∀ W : World, (Instr.makeSlice 24 (.int .i64 21) (.int .i64 21)).run Tryz.prog W = .ok (.slice (some ⟨W.heap.size, 0, none⟩) 21 21) (W.alloc (.cells (madeCells #[.string ⟨#[]⟩, .int .i64 0, .int .i64 0, .int .i64 0, .int .i64 0] 105) 39)) := fun W => by
      have h := run_make (P := Tryz.prog) W 24 39 i0 _ Tryz.underlying24 hi hz0 .i64 .i64 21 21 (by omega) (by omega) (by rw [hz2]; omega) (by omega)
      rw [hz1] at h
      exact h
    have HM : Hid ((madeCells #[.string ⟨#[]⟩, .int .i64 0, .int .i64 0, .int .i64 0, .int .i64 0] 105).toList = cellsZ (List.replicate 21 z0)) := made21
    generalize madeCells #[.string ⟨#[]⟩, .int .i64 0, .int .i64 0, .int .i64 0, .int .i64 0] 105 = M at hmk HM
    go_wp2
    go_ret
    obtain ⟨g9, hg9, hO9⟩ := own_lit w3 (List.replicate 21 z0) M 39 HM.out (by unfold maxLen; simp)
    obtain ⟨off9, cap9, he9⟩ := hO9.at (by simp)
    injection he9 with e91 _ _
    injection e91 with e91
    injection e91 with e91 _ _
    subst e91
    exact ⟨w3.heap.size, 0, 21, a1 + 2, List.replicate 21 z0, by simp, ⟨⟨by simp, by simp⟩, fun z hz => by rw [List.eq_of_mem_replicate hz]; decide⟩, HT3.out.2.1.2.1, hO9, by omega, (HT3.out.alloc _).1, (HT3.out.alloc _).2.1⟩
  have e5 : (r == 5) = false := by simp [h5]
  go_wp2
  go_ret
  exact ⟨g, off, cap, a1 + 2, zs, rfl, ⟨⟨hpos, by omega⟩, HSh.out⟩, hgw, HT3.out.2.2.1, by omega, HT3.out.1, HT3.out.2.1⟩
end Go.Proofs.YtmiffefnpendoaaGreatDoor

/- draws: DrawCreateZ, DrawSeqName. -/
namespace Go.Proofs.YtmiffefnpendoaaGreatDoor
open Go.RowKit
set_option maxHeartbeats 4000000 in
set_option maxRecDepth 100000 in
theorem drawCreateZ_any (cv : Value) (w : World) (hc : CodeOk w w.heap.size cv) :
    Calls Tryz.prog 7 #[cv] w (DrawnW (fun l => ∃ (d o : Int) (q : Bool), l = [.int .i64 d, .int .i64 o, .bool q]) w) := by
  have HS : Hid (SrcAt (w.alloc (.cells #[cv, .int .i64 0] 141)) w.heap.size 0 cv) := src_new hc
  obtain ⟨ad, len, cap0, hcv, -⟩ := hc
  have HC := source_any cv w ad len cap0 hcv
  clear hcv
  go_enter Tryz.func7, Tryz.ntmps7
  go_wp2_with fail
  refine HC.mono ?_
  rintro e w1 ⟨rfl, rfl⟩
  clear HC
  go_wp2_with fail
  refine (l2BentS_any w.heap.size 0 cv _ (by exact HS.out) (by omega)).mono ?_
  rintro e w2 ⟨g, off, cap, a2, zs, rfl, hF, hg, hO, ha2, hS2, hU2⟩
  have hg2 : w.heap.size < g := by have h2 := hg; simp at h2; omega
  have hpos := hF.1.1
  have h21 := hF.1.2
  have HSh : Hid (∀ z ∈ zs, z.path.size ≤ 30) := hF.2
  have HT2 : Hid (St (w.alloc (.cells #[cv, .int .i64 0] 141)) w.heap.size a2 cv (.slice (some ⟨g, off, none⟩) zs.length cap) g zs w2) := ⟨hS2, hU2, hO, by omega⟩
  clear hF hg hO hS2 hU2
  go_wp2_with fail
  refine (bent_any w.heap.size a2 cv _ (by exact HT2.out.1) (by omega)).mono ?_
  rintro e w3 ⟨t, a3, rfl, -, ha3, hS3, hU3⟩
  have HT3 : Hid (St (w.alloc (.cells #[cv, .int .i64 0] 141)) w.heap.size a3 cv (.slice (some ⟨g, off, none⟩) zs.length cap) g zs w3) := HT2.out.upd hS3 hU3
  clear hS3 hU3 HT2
  go_wp2_with fail
  refine (chance_any w.heap.size a3 cv 2 _ (by exact HT3.out.1) (by omega) (by omega) (by omega)).mono ?_
  rintro e w4 ⟨c, q, rfl, hw⟩
  have HT4 : Hid (St (w.alloc (.cells #[cv, .int .i64 0] 141)) w.heap.size (a3 + 1) cv (.slice (some ⟨g, off, none⟩) zs.length cap) g zs w4) := by rw [hw]; exact HT3.out.place _ _
  clear hw HT3
  have hcm := (HT4.out.2.2.1.room hpos).2
  unfold maxLen at hcm
  have HFin : Hid (∀ (W : World) (a : Nat) (t : ByteArray), St (w.alloc (.cells #[cv, .int .i64 0] 141)) w.heap.size a cv (.slice (some ⟨g, off, none⟩) zs.length cap) g zs W → a ≤ 700 → True) := fun _ _ _ _ _ => trivial
  clear HFin
  cases c
  · go_wp2_with fail
    refine (next_any w.heap.size (a3 + 1) cv 99 _ (by exact HT4.out.1) (by omega) (by omega) (by omega)).mono ?_
    rintro e w5 ⟨x, q5, rfl, -, -, hw⟩
    have HT5 : Hid (St (w.alloc (.cells #[cv, .int .i64 0] 141)) w.heap.size (a3 + 2) cv (.slice (some ⟨g, off, none⟩) zs.length cap) g zs w5) := by rw [hw]; exact HT4.out.place _ _
    have hl5 := HT5.out.1.lt
    clear hw HT4
    go_wp2_with fail
    refine (pick_any w.heap.size (a3 + 2) w5.heap.size 0 2 cv [x, 10000] _ (by exact (HT5.out.alloc _).1) (by omega) (nums2 _ _ _ _) (by simp) (by simp) (by omega)).mono ?_
    rintro e w6 ⟨d, q6, rfl, hw⟩
    have HT6 : Hid (St (w.alloc (.cells #[cv, .int .i64 0] 141)) w.heap.size (a3 + 3) cv (.slice (some ⟨g, off, none⟩) zs.length cap) g zs w6) := by rw [hw]; exact (HT5.out.alloc _).place _ _
    have hl6 := HT6.out.1.lt
    clear hw HT5 hl5
    go_wp2_with fail
    refine (pick_any w.heap.size (a3 + 3) w6.heap.size 0 4 cv [0, 0, 1, 10] _ (by exact (HT6.out.alloc _).1) (by omega) (nums4 _ _ _ _ _ _) (by simp) (by simp) (by omega)).mono ?_
    rintro e w7 ⟨o, q7, rfl, hw⟩
    have HT7 : Hid (St (w.alloc (.cells #[cv, .int .i64 0] 141)) w.heap.size (a3 + 4) cv (.slice (some ⟨g, off, none⟩) zs.length cap) g zs w7) := by rw [hw]; exact (HT6.out.alloc _).place _ _
    clear hw HT6 hl6
    go_wp2_with fail
    refine (chance_any w.heap.size (a3 + 4) cv 3 _ (by exact HT7.out.1) (by omega) (by omega) (by omega)).mono ?_
    rintro e w8 ⟨c8, q8, rfl, hw⟩
    have HT8 : Hid (St (w.alloc (.cells #[cv, .int .i64 0] 141)) w.heap.size (a3 + 5) cv (.slice (some ⟨g, off, none⟩) zs.length cap) g zs w8) := by rw [hw]; exact HT7.out.place _ _
    clear hw HT7
    go_wp2
    exact bodyPost_ret (v := .tuple #[.slice (some ⟨g, off, none⟩) zs.length cap, .string t, .int .i64 d, .int .i64 o, .bool c8]) (by simp [results, Tryz.results7, go_sem]) rfl ⟨g, off, cap, zs, t, _, rfl, ⟨d, o, c8, rfl⟩, ⟨hpos, h21⟩, HT8.out.2.2.1, ext_of_upd HT8.out.2.1⟩
  · have HN : Hid (∀ W : World, (W = w4 ∨ W = w4.drewN 1) → Calls Tryz.prog 39 #[.pointer (some ⟨w.heap.size, 0, none⟩), .int .i64 zs.length] W fun e w5 => ∃ (i : Nat) (z : Zn), e = .returned (.int .i64 i) ∧ i < zs.length ∧ z.path.size ≤ 30 ∧ w5.cell? ⟨g, off + i * 5, none⟩ = some (.string z.path) ∧ Hid (zs[i]? = some z) ∧ Hid (St (w.alloc (.cells #[cv, .int .i64 0] 141)) w.heap.size (a3 + 2) cv (.slice (some ⟨g, off, none⟩) zs.length cap) g zs w5)) := by
      intro W hW
      have HW : St (w.alloc (.cells #[cv, .int .i64 0] 141)) w.heap.size (a3 + 1) cv (.slice (some ⟨g, off, none⟩) zs.length cap) g zs W := by
        rcases hW with rfl | rfl
        · exact HT4.out
        · exact HT4.out.upd (HT4.out.1.drewN 1) ((Upd.refl _ _).drewN 1)
      refine (next_any w.heap.size (a3 + 1) cv zs.length W HW.1 (by omega) (by omega) (by omega)).mono ?_
      rintro e w5 ⟨ri, q5, rfl, hi0, hi1, hw⟩
      obtain ⟨i, rfl⟩ := Int.eq_ofNat_of_zero_le hi0
      have hil : i < zs.length := by omega
      have HT5 : St (w.alloc (.cells #[cv, .int .i64 0] 141)) w.heap.size (a3 + 2) cv (.slice (some ⟨g, off, none⟩) zs.length cap) g zs w5 := by rw [hw]; exact HW.place _ _
      obtain ⟨z, hzi⟩ : ∃ z, zs[i]? = some z := ⟨_, List.getElem?_eq_getElem hil⟩
      exact ⟨i, z, rfl, hil, HSh.out z (List.mem_of_getElem? hzi), HT5.2.2.1.node hzi, hzi, HT5⟩
    clear HSh
    go_wp2
    go_region_with (first
      | (go_at_call 39; refine (HN.out _ (by first | exact Or.inl rfl | exact Or.inr rfl)).mono ?_; rintro e w5 ⟨i, z, rfl, hil, hzs, hcz, HZi, HT5⟩)
      | (go_at_call 40; refine (drawName_any w.heap.size (a3 + 2) cv _ HT5.out.1 (by omega)).mono ?_; rintro e w6 ⟨nm, a6, rfl, hnm, ha6, hS6, hU6⟩; have HT6 : Hid (St (w.alloc (.cells #[cv, .int .i64 0] 141)) w.heap.size a6 cv (.slice (some ⟨g, off, none⟩) zs.length cap) g zs w6) := HT5.out.upd hS6 hU6; have hcz6 := HT6.out.2.2.1.node HZi.out; clear hS6 hU6)
      | (go_at_call 38; refine (l1Join_any z.path nm _ (by omega) (by omega)).mono ?_; rintro e w7 ⟨rfl, hw7⟩; rw [hw7]; clear hw7 w7))
    all_goals
      clear hcz hcz6 HZi HT5 HN
      go_wp2_with fail
      refine (next_any w.heap.size a6 cv 99 _ (by exact HT6.out.1) (by omega) (by omega) (by omega)).mono ?_
      rintro e u5 ⟨x, q5, rfl, -, -, hw⟩
      have HV5 : Hid (St (w.alloc (.cells #[cv, .int .i64 0] 141)) w.heap.size (a6 + 1) cv (.slice (some ⟨g, off, none⟩) zs.length cap) g zs u5) := by rw [hw]; exact HT6.out.place _ _
      have hl5 := HV5.out.1.lt
      clear hw HT6
      go_wp2_with fail
      refine (pick_any w.heap.size (a6 + 1) u5.heap.size 0 2 cv [x, 10000] _ (by exact (HV5.out.alloc _).1) (by omega) (nums2 _ _ _ _) (by simp) (by simp) (by omega)).mono ?_
      rintro e u6 ⟨d, q6, rfl, hw⟩
      have HV6 : Hid (St (w.alloc (.cells #[cv, .int .i64 0] 141)) w.heap.size (a6 + 2) cv (.slice (some ⟨g, off, none⟩) zs.length cap) g zs u6) := by rw [hw]; exact (HV5.out.alloc _).place _ _
      have hl6 := HV6.out.1.lt
      clear hw HV5 hl5
      go_wp2_with fail
      refine (pick_any w.heap.size (a6 + 2) u6.heap.size 0 4 cv [0, 0, 1, 10] _ (by exact (HV6.out.alloc _).1) (by omega) (nums4 _ _ _ _ _ _) (by simp) (by simp) (by omega)).mono ?_
      rintro e u7 ⟨o, q7, rfl, hw⟩
      have HV7 : Hid (St (w.alloc (.cells #[cv, .int .i64 0] 141)) w.heap.size (a6 + 3) cv (.slice (some ⟨g, off, none⟩) zs.length cap) g zs u7) := by rw [hw]; exact (HV6.out.alloc _).place _ _
      clear hw HV6 hl6
      go_wp2_with fail
      refine (chance_any w.heap.size (a6 + 3) cv 3 _ (by exact HV7.out.1) (by omega) (by omega) (by omega)).mono ?_
      rintro e u8 ⟨c8, q8, rfl, hw⟩
      have HV8 : Hid (St (w.alloc (.cells #[cv, .int .i64 0] 141)) w.heap.size (a6 + 4) cv (.slice (some ⟨g, off, none⟩) zs.length cap) g zs u8) := by rw [hw]; exact HV7.out.place _ _
      clear hw HV7
      go_wp2
      exact bodyPost_ret (v := .tuple #[.slice (some ⟨g, off, none⟩) zs.length cap, .string (mkB (Pth.joined z.path.data.toList nm.data.toList)), .int .i64 d, .int .i64 o, .bool c8]) (by simp [results, Tryz.results7, go_sem]) rfl ⟨g, off, cap, zs, mkB (Pth.joined z.path.data.toList nm.data.toList), _, rfl, ⟨d, o, c8, rfl⟩, ⟨hpos, h21⟩, HV8.out.2.2.1, ext_of_upd HV8.out.2.1⟩
end Go.Proofs.YtmiffefnpendoaaGreatDoor

/- How an argument of bytes is opened. -/
namespace Go.Proofs.YtmiffefnpendoaaGreatDoor
open Go.ChangeShapes Go.WideShapes Go.ChangeAt Go.RowKit
set_option maxRecDepth 100000 in
theorem open_code {H : Type} {enc : TypeId × Value → H} {W : World} {v : Value} {d : DataW H} {ps : List MemPlace}
    (h : DataW.Trod enc Tryz.prog W 0 (fun _ => true) true 22 v d ps) (hv : ∃ a l c, v = .slice a l c) : ∃ ad len cap, v = .slice ad len cap ∧ (len ≤ 1048576 → CodeOk W W.heap.size v) := by
  obtain ⟨a0, l0, c0, rfl⟩ := hv
  obtain ⟨fuel, hf⟩ := h
  refine ⟨a0, l0, c0, rfl, fun hl0 => ?_⟩
  rcases open_ints Tryz.underlying22 Tryz.underlying5 (by kernel_rfl) hf with ⟨hcs, _⟩ | ⟨x, l, c, zs, hcs, _, hl, hm, hz, _, hcell, hwz⟩
  · simp [Value.cells] at hcs
    obtain ⟨rfl, rfl, rfl⟩ := hcs
    exact ⟨none, 0, 0, rfl, by omega, fun h => by omega⟩
  · simp [Value.cells] at hcs
    obtain ⟨rfl, rfl, rfl⟩ := hcs
    have hz' : zs.length = c0 := by simpa using hz
    refine ⟨some x, l0, c0, rfl, hl0, fun h0 => ?_⟩
    obtain ⟨b, off, rfl, hc⟩ := ints_at hcell (by omega)
    refine ⟨b, off, rfl, World.block_lt_of_cell? W ⟨b, off + 0, none⟩ (hc 0 (by omega)), fun i hi => ⟨zs.getD i 0, ?_, ?_, hc i (by omega)⟩⟩
    all_goals
      have hm : zs.getD i 0 ∈ zs := by
        rw [List.getD_eq_getElem?_getD, List.getElem?_eq_getElem (by omega)]; exact List.getElem_mem _
      have := bounds_u8 (hwz _ hm)
      omega
end Go.Proofs.YtmiffefnpendoaaGreatDoor
