/- D4, D1, in one text. -/
import Derived.Test.YtilinjjimiiplaaGreatDoorKqT9
import Derived.Test.YtilinjjimiiplaaGreatDoorProg
import Derived.Test.YtilinjjimiiplaaGreatDoorKqJ1
import Derived.Deep.QuietTactic
import Derived.BigQuiet
namespace Go.Proofs.YtilinjjimiiplaaGreatDoor
open Go.RowKit
namespace Tre
/-- What every tree keeps that is drawn. -/
def Kept (zs : List Zn) : Prop := zs.length ≤ 20 ∧ (∃ z, z ∈ zs ∧ key z = [47]) ∧ ∀ z ∈ zs, Pth.faultI (key z) = 0 ∧ 0 ≤ z.version ∧ 0 ≤ z.next
theorem Kept.pos {zs : List Zn} (h : Kept zs) : 0 < zs.length := by
  obtain ⟨-, ⟨z, hz, -⟩, -⟩ := h
  exact List.length_pos_of_mem hz
theorem kept_new {d : Int} (h : (newT d).1 = 0) : Kept (newT d).2.2 := by
  unfold newT at h ⊢
  split at h
  · rename_i h1
    rw [if_pos h1]
    exact ⟨by simp, ⟨_, List.mem_singleton.2 rfl, (by decide : top.data.toList = [47])⟩, fun z hz => by rw [List.mem_singleton.1 hz]; exact ⟨(by decide : Pth.faultI top.data.toList = 0), by simp, by simp⟩⟩
  · simp at h
theorem at_range {zs : List Zn} {p : ByteArray} (h : ¬ atI zs p < 0) : ∃ (k : Nat) (z : Zn), atI zs p = k ∧ k < zs.length ∧ zs[k]? = some z ∧ isAt p z = true := by
  rcases atI_range zs p with ⟨h1, -⟩ | h1
  · omega
  · exact h1
theorem mem_set {zs : List Zn} {k : Nat} {y z : Zn} (h : z ∈ zs.set k y) : z ∈ zs ∨ z = y := List.mem_or_eq_of_mem_set h
theorem kept_put {zs : List Zn} (h : Kept zs) {k : Nat} {y y' : Zn} (hy : zs[k]? = some y) (hk : key y' = key y) (hv : 0 ≤ y'.version) (hn : 0 ≤ y'.next) : Kept (zs.set k y') := by
  obtain ⟨h1, ⟨z, hz, ht⟩, h3⟩ := h
  have hkl : k < zs.length := (List.getElem?_eq_some_iff.1 hy).1
  have hm : y ∈ zs := List.mem_of_getElem? hy
  refine ⟨by simpa using h1, ?_, fun x hx => ?_⟩
  · obtain ⟨i, hi⟩ := List.mem_iff_getElem?.1 hz
    by_cases hik : i = k
    · subst hik
      rw [hy] at hi
      cases hi
      exact ⟨y', List.mem_iff_getElem?.2 ⟨i, by rw [List.getElem?_set_self hkl]⟩, by rw [hk]; exact ht⟩
    · exact ⟨z, List.mem_iff_getElem?.2 ⟨i, by rw [List.getElem?_set_ne (Ne.symm hik)]; exact hi⟩, ht⟩
  · rcases mem_set hx with hx | rfl
    · exact h3 x hx
    · exact ⟨by rw [hk]; exact (h3 y hm).1, hv, hn⟩
theorem kept_set {zs : List Zn} {p : ByteArray} {d n : Int} (h : Kept zs) (h0 : (setT zs p d n).1 = 0) : Kept (setT zs p d n).2.2 := by
  cases hd : okData d with
  | false => rw [setT_data hd] at h0; simp at h0
  | true =>
  by_cases ha : atI zs p < 0
  · rw [setT_none hd ha] at h0; simp at h0
  obtain ⟨k, z, hk, hkl, hz, -⟩ := at_range ha
  rw [setT_some hd hk hz] at h0 ⊢
  have hm := h.2.2 z (List.mem_of_getElem? hz)
  split
  · rename_i h1; rw [if_pos h1] at h0; simp at h0
  rename_i h1
  rw [if_neg h1] at h0
  split
  · rename_i h2; rw [if_pos h2] at h0; simp at h0
  exact kept_put h hz rfl (by show 0 ≤ z.version + 1; omega) hm.2.2
theorem kept_del {zs : List Zn} {p : ByteArray} {n : Int} (h : Kept zs) (h0 : (delT zs p n).1 = 0) : Kept (delT zs p n).2.2 := by
  cases ht : (p.toList == [47]) with
  | true => rw [delT_top ht] at h0; simp at h0
  | false =>
  by_cases ha : atI zs p < 0
  · rw [delT_none ht ha] at h0; simp at h0
  obtain ⟨k, z, hk, hkl, hz, hp⟩ := at_range ha
  unfold delT at h0 ⊢
  rw [if_neg (by rw [ht]; simp), if_neg ha, hk, Int.toNat_natCast, hz] at h0 ⊢
  dsimp only at h0 ⊢
  split
  · rename_i h1; rw [if_pos h1] at h0; simp at h0
  rename_i h1
  rw [if_neg h1] at h0
  split
  · rename_i h2; rw [if_pos h2] at h0; simp at h0
  obtain ⟨k1, ⟨y, hy, hyt⟩, k3⟩ := h
  refine ⟨by simp; omega, ⟨y, ?_, hyt⟩, fun x hx => k3 x ?_⟩
  · obtain ⟨i, hi⟩ := List.mem_iff_getElem?.1 hy
    have hik : i ≠ k := by
      rintro rfl
      rw [hz] at hi
      cases hi
      rw [isAt_iff.1 hp] at hyt
      rw [Lib.toList_data, hyt] at ht
      simp at ht
    rw [List.mem_append]
    by_cases hlt : i < k
    · exact Or.inl (List.mem_iff_getElem?.2 ⟨i, by rw [List.getElem?_take_of_lt hlt]; exact hi⟩)
    · exact Or.inr (List.mem_iff_getElem?.2 ⟨i - (k + 1), by rw [List.getElem?_drop, show k + 1 + (i - (k + 1)) = i by omega]; exact hi⟩)
  · rcases List.mem_append.1 hx with hx | hx
    · exact List.mem_of_mem_take hx
    · exact List.mem_of_mem_drop hx
theorem mem_putT {zs : List Zn} {z x : Zn} : x ∈ putT zs z ↔ x ∈ zs ∨ x = z := by
  unfold putT
  conv => rhs; rw [← List.take_append_drop (cut zs (key z)) zs]
  simp only [List.mem_append, List.mem_cons]
  constructor
  · rintro (h | rfl | h)
    · exact Or.inl (Or.inl h)
    · exact Or.inr rfl
    · exact Or.inl (Or.inr h)
  · rintro ((h | h) | rfl)
    · exact Or.inl h
    · exact Or.inr (Or.inr h)
    · exact Or.inr (Or.inl rfl)
theorem putT_length (zs : List Zn) (z : Zn) : (putT zs z).length = zs.length + 1 := by
  unfold putT
  have := cut_le zs (key z)
  simp
  omega
theorem kept_fin {zs bs : List Zn} {p : ByteArray} {d o : Int} (h : Kept bs) (hl : bs.length = zs.length) (hf : Pth.faultI p.data.toList = 0) (h0 : (finT zs p bs d o).1 = 0) : Kept (finT zs p bs d o).2.2 := by
  unfold finT at h0 ⊢
  split
  · rename_i h1; rw [if_pos h1] at h0; simp at h0
  rename_i h1
  rw [if_neg h1] at h0
  split
  · rename_i h2; rw [if_pos h2] at h0; simp at h0
  rename_i h2
  obtain ⟨k1, ⟨y, hy, hyt⟩, k3⟩ := h
  refine ⟨by rw [putT_length]; omega, ⟨y, mem_putT.2 (Or.inl hy), hyt⟩, fun x hx => ?_⟩
  rcases mem_putT.1 hx with hx | rfl
  · exact k3 x hx
  · exact ⟨hf, by simp, by simp⟩
theorem kept_create {zs : List Zn} {p : ByteArray} {d o : Int} {q : Bool} (h : Kept zs) (hf : Pth.faultI p.data.toList = 0) (h0 : (createT zs p d o q).1 = 0) : Kept (createT zs p d o q).2.2 := by
  unfold createT at h0 ⊢
  split
  · rename_i h1; rw [if_pos h1] at h0; simp at h0
  rename_i h1
  rw [if_neg h1] at h0
  split
  · rename_i h2; rw [if_pos h2] at h0; simp at h0
  rename_i h2
  rw [if_neg h2] at h0
  split
  · rename_i h3; rw [if_pos h3] at h0; simp at h0
  rename_i h3
  rw [if_neg h3] at h0
  obtain ⟨k, y, hk, hkl, hy, -⟩ := at_range h3
  rw [hk, Int.toNat_natCast, hy] at h0 ⊢
  dsimp only at h0 ⊢
  split
  · rename_i h4; rw [if_pos h4] at h0; simp at h0
  rename_i h4
  rw [if_neg h4] at h0
  cases q with
  | false =>
    rw [if_neg (by simp)] at h0 ⊢
    exact kept_fin h rfl hf h0
  | true =>
    rw [if_pos rfl] at h0 ⊢
    split
    · rename_i h5; rw [if_pos h5] at h0; exact absurd h0 h5
    rename_i h5
    rw [if_neg h5] at h0
    have hm := h.2.2 y (List.mem_of_getElem? hy)
    have hs : (seqT zs p k y) = (0, seqP p y.next, zs.set k { y with next := y.next + 1 }) ∧ Pth.faultI (seqP p y.next).data.toList = 0 := by
      have h6 := h5
      unfold seqT at h6 ⊢
      by_cases c1 : 100 ≤ y.next
      · rw [if_pos c1] at h6; simp at h6
      rw [if_neg c1] at h6 ⊢
      by_cases c2 : Pth.okName (seqN p y.next).data.toList = false
      · rw [if_pos c2] at h6; simp at h6
      rw [if_neg c2] at h6 ⊢
      by_cases c3 : Pth.faultI (seqP p y.next).data.toList ≠ 0
      · rw [if_pos c3] at h6; exact absurd c3 h6
      rw [if_neg c3]
      exact ⟨rfl, by simpa using c3⟩
    rw [hs.1] at h0 ⊢
    exact kept_fin (kept_put h hy rfl hm.2.1 (by show 0 ≤ y.next + 1; omega)) (by simp) hs.2 h0
end Tre
/-- The paths that are drawn, by their depth. -/
def abc : Nat → List (List UInt8)
  | 0 => [[47]]
  | k + 1 => (abc k).flatMap fun p => [Pth.joined p [97], Pth.joined p [98], Pth.joined p [99]]
theorem abc_right : ∀ j, j ≤ 3 → ∀ p ∈ abc j, Pth.faultI p = 0 := by decide
end Go.Proofs.YtilinjjimiiplaaGreatDoor
namespace Go.Proofs.YtilinjjimiiplaaGreatDoor
open Go.RowKit
set_option maxHeartbeats 2000000 in
set_option maxRecDepth 100000 in
theorem next_empty (b a : Nat) (ad : Option Addr) (cap : Nat) (n : Int) (w : World) (h1 : 1 ≤ n) (h2 : n ≤ 200) (ha : a ≤ 1000)
    (h0 : w.cell? ⟨b, 0, none⟩ = some (.slice ad 0 cap)) (hA : w.cell? ⟨b, 1, none⟩ = some (.int .i64 a)) (hF : w.frozen? ⟨b, 1, none⟩ = false) :
    Calls Tryz.prog 30 #[.pointer (some ⟨b, 0, none⟩), .int .i64 n] w fun e w' => ∃ (r : Int) (q : Nat), e = .returned (.int .i64 r) ∧ 0 ≤ r ∧ r < n ∧ w' = (w.setCell ⟨b, 1, none⟩ (.int .i64 (a + 1 : Nat))).drewN q := by
  go_enter Tryz.func30, Tryz.ntmps30
  go_wp2
  go_ret
  exact ⟨_, 0, rfl, Int.emod_nonneg _ (by omega), Int.emod_lt_of_pos _ (by omega), rfl⟩

set_option maxHeartbeats 2000000 in
set_option maxRecDepth 100000 in
theorem next_some (b a cb co len cap : Nat) (x : Int) (n : Int) (w : World) (h1 : 1 ≤ n) (h2 : n ≤ 200) (ha : a ≤ 1000) (hl : 0 < len) (hl2 : len ≤ 1048576) (hx0 : 0 ≤ x) (hx1 : x ≤ 255) (hcb : cb ≠ b)
    (h0 : w.cell? ⟨b, 0, none⟩ = some (.slice (some ⟨cb, co, none⟩) len cap)) (hA : w.cell? ⟨b, 1, none⟩ = some (.int .i64 a)) (hF : w.frozen? ⟨b, 1, none⟩ = false)
    (hx : w.cell? ⟨cb, co + a % len, none⟩ = some (.int .u8 x)) :
    Calls Tryz.prog 30 #[.pointer (some ⟨b, 0, none⟩), .int .i64 n] w fun e w' => ∃ (r : Int) (q : Nat), e = .returned (.int .i64 r) ∧ 0 ≤ r ∧ r < n ∧ w' = (w.setCell ⟨b, 1, none⟩ (.int .i64 (a + 1 : Nat))).drewN q := by
  have e0 : ((len : Int) == 0) = false := by simp; omega
  go_enter Tryz.func30, Tryz.ntmps30
  have hm : ((a : Int) % (len : Int)).toNat = a % len := by omega
  have hml : (a : Int) % (len : Int) < (len : Int) := Int.emod_lt_of_pos _ (by omega)
  have hm0 : 0 ≤ (a : Int) % (len : Int) := Int.emod_nonneg _ (by omega)
  have hq0 : 0 ≤ (a : Int) / (len : Int) := Int.ediv_nonneg (by omega) (by omega)
  have hq1 : (a : Int) / (len : Int) ≤ 1000 := by have := Int.ediv_le_self (len : Int) (show (0 : Int) ≤ (a : Int) by omega); omega
  go_wp2
  go_quiet (fail)
  go_wp2
  go_ret
  exact ⟨_, _, rfl, Int.emod_nonneg _ (by omega), Int.emod_lt_of_pos _ (by omega), rfl⟩

/-- The bytes of a code, in memory older than block b. -/
def CodeOk (w : World) (b : Nat) (cv : Value) : Prop :=
  ∃ ad len cap, cv = .slice ad len cap ∧ len ≤ 1048576 ∧ (0 < len → ∃ cb co, ad = some ⟨cb, co, none⟩ ∧ cb < b ∧ ∀ i, i < len → ∃ x : Int, 0 ≤ x ∧ x ≤ 255 ∧ w.cell? ⟨cb, co + i, none⟩ = some (.int .u8 x))
/-- The source in block b has come to place a. -/
def SrcAt (w : World) (b a : Nat) (cv : Value) : Prop :=
  w.cell? ⟨b, 0, none⟩ = some cv ∧ w.cell? ⟨b, 1, none⟩ = some (.int .i64 (a : Int)) ∧ w.frozen? ⟨b, 1, none⟩ = false ∧ b < w.heap.size ∧ CodeOk w b cv
theorem CodeOk.below {w w' : World} {b : Nat} {cv : Value} (h : CodeOk w b cv) (hb : Below b w w') : CodeOk w' b cv := by
  obtain ⟨ad, len, cap, h1, h2, h3⟩ := h
  refine ⟨ad, len, cap, h1, h2, fun hl => ?_⟩
  obtain ⟨cb, co, e, hc, hx⟩ := h3 hl
  refine ⟨cb, co, e, hc, fun i hi => ?_⟩
  obtain ⟨x, x0, x1, hcell⟩ := hx i hi
  exact ⟨x, x0, x1, (hb.cell (p := ⟨cb, co + i, none⟩) hc).trans hcell⟩
theorem Upd.place {b : Nat} (w : World) (v : Value) (q : Nat) : Upd b w ((w.setCell ⟨b, 1, none⟩ v).drewN q) := by
  refine ⟨below_drewN (Below.setCell (p := ⟨b, 1, none⟩) (Below.refl b w) (Nat.le_refl _) v) _, by simp, fun c o hc hl => ?_⟩
  have hne : c ≠ b := Nat.ne_of_gt hc
  constructor
  · rw [World.cell?_drewN]; exact World.cell?_setCell_other _ _ _ _ (by intro e; injection e with e1 _ _; exact hne e1.symm)
  · simp
theorem SrcAt.ext {w w' : World} {b a : Nat} {cv : Value} (h : SrcAt w b a cv) (he : Ext w w') : SrcAt w' b a cv :=
  ⟨(Below.cell he (p := ⟨b, 0, none⟩) h.2.2.2.1).trans h.1, (Below.cell he (p := ⟨b, 1, none⟩) h.2.2.2.1).trans h.2.1, (Below.frozen he (p := ⟨b, 1, none⟩) h.2.2.2.1).trans h.2.2.1, Nat.lt_of_lt_of_le h.2.2.2.1 he.size, h.2.2.2.2.below (Below.mono he (Nat.le_of_lt h.2.2.2.1))⟩
theorem SrcAt.alloc {w : World} {b a : Nat} {cv : Value} (h : SrcAt w b a cv) (o : Obj) : SrcAt (w.alloc o) b a cv := h.ext ((Ext.refl _).alloc _)
theorem SrcAt.place {w : World} {b a : Nat} {cv : Value} (h : SrcAt w b a cv) (a' q : Nat) : SrcAt ((w.setCell ⟨b, 1, none⟩ (.int .i64 (a' : Int))).drewN q) b a' cv := by
  obtain ⟨h0, h1, h2, h3, h4⟩ := h
  refine ⟨?_, ?_, by simp [h2], by simpa using h3, h4.below (Upd.place w _ q).1⟩
  · rw [World.cell?_drewN, World.cell?_setCell_other _ _ _ _ (by simp)]; exact h0
  · rw [World.cell?_drewN]; exact World.cell?_setCell_same _ _ _ h1

theorem Upd.set {b : Nat} (w : World) (v : Value) : Upd b w (w.setCell ⟨b, 1, none⟩ v) := Upd.place w v 0
theorem Upd.drewN {b : Nat} {w w' : World} (h : Upd b w w') (q : Nat) : Upd b w (w'.drewN q) := ⟨below_drewN h.1 _, by simpa using h.2.1, fun c o hc hl => ⟨by rw [World.cell?_drewN]; exact (h.2.2 c o hc hl).1, by simpa using (h.2.2 c o hc hl).2⟩⟩
theorem SrcAt.set {w : World} {b a : Nat} {cv : Value} (h : SrcAt w b a cv) (a' : Nat) : SrcAt (w.setCell ⟨b, 1, none⟩ (.int .i64 (a' : Int))) b a' cv := h.place a' 0
theorem SrcAt.drewN {w : World} {b a : Nat} {cv : Value} (h : SrcAt w b a cv) (q : Nat) : SrcAt (w.drewN q) b a cv :=
  ⟨by rw [World.cell?_drewN]; exact h.1, by rw [World.cell?_drewN]; exact h.2.1, by simpa using h.2.2.1, by simpa using h.2.2.2.1, h.2.2.2.2.below (below_drewN (Below.refl _ _) _)⟩
theorem SrcAt.lt {w : World} {b a : Nat} {cv : Value} (h : SrcAt w b a cv) : b < w.heap.size := h.2.2.2.1

theorem next_any (b a : Nat) (cv : Value) (n : Int) (w : World) (h : SrcAt w b a cv) (h1 : 1 ≤ n) (h2 : n ≤ 200) (ha : a ≤ 1000) :
    Calls Tryz.prog 30 #[.pointer (some ⟨b, 0, none⟩), .int .i64 n] w fun e w' => ∃ (r : Int) (q : Nat), e = .returned (.int .i64 r) ∧ 0 ≤ r ∧ r < n ∧ w' = (w.setCell ⟨b, 1, none⟩ (.int .i64 (a + 1 : Nat))).drewN q := by
  obtain ⟨c0, c1, c2, c3, ad, len, cap, rfl, hl, hc⟩ := h
  rcases Nat.eq_zero_or_pos len with h0 | h0
  · subst h0
    exact next_empty b a ad cap n w h1 h2 ha c0 c1 c2
  · obtain ⟨cb, co, rfl, hcb, hx⟩ := hc h0
    obtain ⟨x, x0, x1, hcell⟩ := hx (a % len) (Nat.mod_lt _ h0)
    exact next_some b a cb co len cap x n w h1 h2 ha h0 hl x0 x1 (Nat.ne_of_lt hcb) c0 c1 c2 hcell

set_option maxHeartbeats 400000 in
theorem chance_any (b a : Nat) (cv : Value) (n : Int) (w : World) (h : SrcAt w b a cv) (h1 : 1 ≤ n) (h2 : n ≤ 200) (ha : a ≤ 1000) :
    Calls Tryz.prog 42 #[.pointer (some ⟨b, 0, none⟩), .int .i64 n] w fun e w' => ∃ (r : Bool) (q : Nat), e = .returned (.bool r) ∧ w' = (w.setCell ⟨b, 1, none⟩ (.int .i64 (a + 1 : Nat))).drewN q := by
  have HS : Hid (SrcAt w b a cv) := h
  clear h
  go_enter Tryz.func42, Tryz.ntmps42
  go_wp2_with fail
  refine (next_any b a cv n _ HS.out h1 h2 ha).mono ?_
  rintro e w1 ⟨r, q, rfl, hr0, hr1, rfl⟩
  go_wp2
  go_ret
  exact ⟨_, q, rfl, rfl⟩
end Go.Proofs.YtilinjjimiiplaaGreatDoor
