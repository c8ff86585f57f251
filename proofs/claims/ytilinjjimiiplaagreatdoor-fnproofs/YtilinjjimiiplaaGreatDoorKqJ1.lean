/- Base, Z1, in one text. -/
import Derived.Test.YtilinjjimiiplaaGreatDoorKqPure
import Derived.WalkKit
import Derived.WalkLawsBesides
import Derived.WalkSpells
import Derived.Lib.Bytealg
import Derived.Lib.Strings
import Derived.Test.YtilinjjimiiplaaGreatDoorProg
import Derived.Deep.RegionWith
import Derived.Laws.MakeOwn
namespace Go.Proofs.YtilinjjimiiplaaGreatDoor
open Go.RowKit
def nbI (n : Int) : Bool := (decide (97 ≤ n) && decide (n ≤ 122)) || (decide (48 ≤ n) && decide (n ≤ 57))

theorem nbI_eq (c : UInt8) : nbI (c.toNat : Int) = Pth.nb c := by
  unfold nbI Pth.nb
  simp only [UInt8.le_iff_toNat_le]
  rw [Bool.eq_iff_iff]
  simp
  omega

theorem ret_bool {a b : Bool} (h : a = b) : Ending.returned (.bool a) = .returned (.bool b) := by rw [h]

theorem ret_int {k : IntKind} {a b : Int} (h : a = b) : Ending.returned (.int k a) = .returned (.int k b) := by rw [h]

theorem len_eq (s : ByteArray) : s.data.toList.length = s.size := rfl

theorem drop_at (s : ByteArray) (k : Nat) (h : k < s.size) : s.data.toList.drop k = s[k] :: s.data.toList.drop (k + 1) := by
  rw [List.drop_eq_getElem_cons (by simpa using h)]; rfl

def intOf : Value → Int | .int _ q => q | _ => 0

/-- All that was there is as it was. -/
def Ext (w w' : World) : Prop := Below w.heap.size w w'

theorem Ext.refl (w : World) : Ext w w := Below.refl _ _

theorem Ext.trans {w w1 w2 : World} (h1 : Ext w w1) (h2 : Ext w1 w2) : Ext w w2 := Below.trans h1 (Below.mono h2 (Below.size h1))

theorem Ext.alloc {w w1 : World} (h1 : Ext w w1) (o : Obj) : Ext w (w1.alloc o) := Below.alloc h1 (Below.size h1) o

theorem Ext.drew {w w1 : World} (h1 : Ext w w1) : Ext w w1.drew := Ext.trans h1 (by unfold Ext; exact (Below.refl _ _).drew)

theorem Ext.size {w w1 : World} (h1 : Ext w w1) : w.heap.size ≤ w1.heap.size := Below.size h1

theorem Ext.kept {w w1 : World} (h : Ext w w1) (may : MemPlace → Prop) : w.keptBut w1 may := Below.frame h may

theorem ba_eq {a b : ByteArray} (h : a.data.toList = b.data.toList) : a = b := by
  cases a; cases b; congr 1; exact Array.toList_inj.1 h

def mkB (l : List UInt8) : ByteArray := ⟨l.toArray⟩

theorem mkB_list (l : List UInt8) : (mkB l).data.toList = l := by simp [mkB]

theorem eq_mkB {a : ByteArray} {l : List UInt8} (h : a.data.toList = l) : a = mkB l := ba_eq (by rw [h, mkB_list])

theorem Ext.cell {w w1 : World} (h : Ext w w1) : (∀ b o, b < w.heap.size → w1.cell? ⟨b, o, none⟩ = w.cell? ⟨b, o, none⟩) ∧ (∀ b o, b < w.heap.size → w1.frozen? ⟨b, o, none⟩ = w.frozen? ⟨b, o, none⟩) :=
  ⟨fun b o hb => Below.cell h (p := ⟨b, o, none⟩) hb, fun b o hb => Below.frozen h (p := ⟨b, o, none⟩) hb⟩

theorem Ext.setCell {w w1 : World} (h : Ext w w1) {p : Addr} (hp : w.heap.size ≤ p.block) (v : Value) : Ext w (w1.setCell p v) := Below.setCell h hp v

def tr (x : Int × List UInt8) : Value := .agg #[.int .i64 x.1, .string (mkB x.2)]

def ir (x : Int × Int) : Value := .agg #[.int .i64 x.1, .int .i64 x.2]

theorem alloc_cell (W : World) (o : Obj) (b k : Nat) (h : b < W.heap.size) : (W.alloc o).cell? ⟨b, k, none⟩ = W.cell? ⟨b, k, none⟩ := World.cell?_alloc_lt _ _ _ h

theorem alloc_frozen (W : World) (o : Obj) (b k : Nat) (h : b < W.heap.size) : (W.alloc o).frozen? ⟨b, k, none⟩ = W.frozen? ⟨b, k, none⟩ := World.frozen?_alloc_old _ _ _ (Nat.ne_of_lt h)

theorem parentV_bad {l : List UInt8} {c : Int} (h : Pth.faultI l = c) (hc : c ≠ 0) : Pth.parentV l = (c, []) := by
  unfold Pth.parentV; rw [h, if_pos hc]

theorem extract_list (s : ByteArray) (f k : Nat) : (s.extract f k).data.toList = (s.data.toList.drop f).take (k - f) := by
  simp [ByteArray.data_extract]

theorem beq_val (a b : ByteArray) : (a.toList == b.toList) = decide (a.data.toList = b.data.toList) := by
  rw [Lib.toList_data, Lib.toList_data, Bool.eq_iff_iff]; simp

theorem beq_top (a : ByteArray) : (a.toList == [47]) = decide (a.data.toList = [47]) := by
  rw [Lib.toList_data, Bool.eq_iff_iff]; simp

theorem take_snoc (s : ByteArray) (k : Nat) (h : k < s.size) : s.data.toList.take (k + 1) = s.data.toList.take k ++ [s[k]] := by
  rw [List.take_succ_eq_append_getElem (by simpa using h)]; rfl

/-- Nothing older than the source has turned, nor any block behind it that was there. -/
def Upd (b : Nat) (w w' : World) : Prop :=
  Below b w w' ∧ w.heap.size ≤ w'.heap.size ∧ ∀ c o, b < c → c < w.heap.size → w'.cell? ⟨c, o, none⟩ = w.cell? ⟨c, o, none⟩ ∧ w'.frozen? ⟨c, o, none⟩ = w.frozen? ⟨c, o, none⟩

theorem Upd.refl (b : Nat) (w : World) : Upd b w w := ⟨Below.refl _ _, Nat.le_refl _, fun _ _ _ _ => ⟨rfl, rfl⟩⟩

theorem Upd.trans {b : Nat} {w w1 w2 : World} (h : Upd b w w1) (h2 : Upd b w1 w2) : Upd b w w2 :=
  ⟨h.1.trans h2.1, Nat.le_trans h.2.1 h2.2.1, fun c o hc hl => ⟨((h2.2.2 c o hc (Nat.lt_of_lt_of_le hl h.2.1)).1).trans (h.2.2 c o hc hl).1, ((h2.2.2 c o hc (Nat.lt_of_lt_of_le hl h.2.1)).2).trans (h.2.2 c o hc hl).2⟩⟩

theorem Upd.alloc {b : Nat} (w : World) (o : Obj) (hb : b ≤ w.heap.size) : Upd b w (w.alloc o) :=
  ⟨(Below.refl _ _).alloc hb _, by simp, fun c k _ hl => ⟨World.cell?_alloc_lt _ _ _ hl, World.frozen?_alloc_old _ _ _ (Nat.ne_of_lt hl)⟩⟩

theorem Upd.ext {b : Nat} {w w' : World} (h : Ext w w') (hb : b ≤ w.heap.size) : Upd b w w' :=
  ⟨Below.mono h hb, h.size, fun c o _ hl => ⟨Below.cell h (p := ⟨c, o, none⟩) hl, Below.frozen h (p := ⟨c, o, none⟩) hl⟩⟩
theorem Upd.setAt {b : Nat} {w w' : World} (h : Upd b w w') (o : Nat) (v : Value) : Upd b w (w'.setCell ⟨b, o, none⟩ v) := by
  refine ⟨Below.setCell (p := ⟨b, o, none⟩) h.1 (Nat.le_refl _) v, by simpa using h.2.1, fun c k hc hl => ?_⟩
  refine ⟨?_, by simpa using (h.2.2 c k hc hl).2⟩
  rw [World.cell?_setCell_other _ _ _ _ (by intro e; injection e with e1 _ _; exact (Nat.ne_of_gt hc) e1.symm)]
  exact (h.2.2 c k hc hl).1
theorem Upd.at_ne {b : Nat} {w w' : World} (h : Upd b w w') (c o : Nat) (hc : c ≠ b) (hl : c < w.heap.size) : w'.cell? ⟨c, o, none⟩ = w.cell? ⟨c, o, none⟩ ∧ w'.frozen? ⟨c, o, none⟩ = w.frozen? ⟨c, o, none⟩ := by
  rcases Nat.lt_or_ge c b with hlt | hge
  · exact ⟨h.1.cell (p := ⟨c, o, none⟩) hlt, h.1.frozen (p := ⟨c, o, none⟩) hlt⟩
  · exact h.2.2 c o (by omega) hl
theorem Upd.to_ext {b : Nat} {w w1 w' : World} (h : Upd b w1 w') (he : Ext w w1) (hb : w.heap.size ≤ b) : Ext w w' := Below.trans he (Below.mono h.1 hb)
end Go.Proofs.YtilinjjimiiplaaGreatDoor
namespace Go.Proofs.YtilinjjimiiplaaGreatDoor
open Go.RowKit
structure Zn where
  path : ByteArray
  data : Int
  version : Int
  owner : Int
  next : Int
  deriving DecidableEq

def zagg (z : Zn) : Value := .agg #[.string z.path, .int .i64 z.data, .int .i64 z.version, .int .i64 z.owner, .int .i64 z.next]

/-- The nodes zs lie in block b, from off on. -/
def NodesAt (w : World) (b off : Nat) (zs : List Zn) : Prop :=
  ∀ (i : Nat) z, zs[i]? = some z → w.cell? ⟨b, off + i * 5, none⟩ = some (.string z.path) ∧ w.cell? ⟨b, off + i * 5 + 1, none⟩ = some (.int .i64 z.data) ∧ w.cell? ⟨b, off + i * 5 + 2, none⟩ = some (.int .i64 z.version) ∧ w.cell? ⟨b, off + i * 5 + 3, none⟩ = some (.int .i64 z.owner) ∧ w.cell? ⟨b, off + i * 5 + 4, none⟩ = some (.int .i64 z.next)

theorem NodesAt.ext {w w' : World} {b off : Nat} {zs : List Zn} (h : NodesAt w b off zs) (hb : b < w.heap.size) (he : Ext w w') : NodesAt w' b off zs := by
  intro i z hz
  obtain ⟨c0, c1, c2, c3, c4⟩ := h i z hz
  obtain ⟨hc, _⟩ := Ext.cell he
  exact ⟨(hc _ _ hb).trans c0, (hc _ _ hb).trans c1, (hc _ _ hb).trans c2, (hc _ _ hb).trans c3, (hc _ _ hb).trans c4⟩
/-- The slice value v reads as the nodes zs. -/
def NSlice (w : World) (v : Value) (zs : List Zn) : Prop :=
  ∃ a cap, v = .slice a zs.length cap ∧ zs.length ≤ cap ∧ cap ≤ maxLen ∧ (0 < zs.length → ∃ b off, a = some ⟨b, off, none⟩ ∧ b < w.heap.size ∧ NodesAt w b off zs)
theorem NSlice.ext {w w' : World} {v : Value} {zs : List Zn} (h : NSlice w v zs) (he : Ext w w') : NSlice w' v zs := by
  obtain ⟨a, cap, h1, h2, h3, h4⟩ := h
  refine ⟨a, cap, h1, h2, h3, fun h0 => ?_⟩
  obtain ⟨b, off, e, hb, hN⟩ := h4 h0
  exact ⟨b, off, e, Nat.lt_of_lt_of_le hb he.size, hN.ext hb he⟩

/-! ### Nodes that are stored -/
/-- Block g holds room for n nodes from off on, and may be written there. -/
def Room (w : World) (g off n : Nat) : Prop := g < w.heap.size ∧ ∀ j, j < n * 5 → (∃ u, w.cell? ⟨g, off + j, none⟩ = some u) ∧ w.frozen? ⟨g, off + j, none⟩ = false
def putZ (w : World) (g o : Nat) (z : Zn) : World :=
  ((((w.setCell ⟨g, o, none⟩ (.string z.path)).setCell ⟨g, o + 1, none⟩ (.int .i64 z.data)).setCell ⟨g, o + 2, none⟩ (.int .i64 z.version)).setCell ⟨g, o + 3, none⟩ (.int .i64 z.owner)).setCell ⟨g, o + 4, none⟩ (.int .i64 z.next)

theorem set_ne (w : World) (g o b k : Nat) (v : Value) (h : g ≠ b ∨ o ≠ k) : (w.setCell ⟨g, o, none⟩ v).cell? ⟨b, k, none⟩ = w.cell? ⟨b, k, none⟩ :=
  World.cell?_setCell_other _ _ _ _ (by intro e; injection e with e1 e2 _; rcases h with h | h; exact h e1; exact h e2)
theorem set_eq (w : World) (g o : Nat) (v : Value) (h : ∃ u, w.cell? ⟨g, o, none⟩ = some u) : (w.setCell ⟨g, o, none⟩ v).cell? ⟨g, o, none⟩ = some v := by
  obtain ⟨u, hu⟩ := h; exact World.cell?_setCell_same _ _ _ hu
theorem putZ_ne (w : World) (g o b k : Nat) (z : Zn) (h : g ≠ b ∨ k < o ∨ o + 5 ≤ k) : (putZ w g o z).cell? ⟨b, k, none⟩ = w.cell? ⟨b, k, none⟩ := by
  unfold putZ
  rw [set_ne _ _ _ _ _ _ (by omega), set_ne _ _ _ _ _ _ (by omega), set_ne _ _ _ _ _ _ (by omega), set_ne _ _ _ _ _ _ (by omega), set_ne _ _ _ _ _ _ (by omega)]
theorem putZ_eq (w : World) (g o : Nat) (z : Zn) (h : ∀ j, j < 5 → ∃ u, w.cell? ⟨g, o + j, none⟩ = some u) :
    (putZ w g o z).cell? ⟨g, o, none⟩ = some (.string z.path) ∧ (putZ w g o z).cell? ⟨g, o + 1, none⟩ = some (.int .i64 z.data) ∧ (putZ w g o z).cell? ⟨g, o + 2, none⟩ = some (.int .i64 z.version) ∧ (putZ w g o z).cell? ⟨g, o + 3, none⟩ = some (.int .i64 z.owner) ∧ (putZ w g o z).cell? ⟨g, o + 4, none⟩ = some (.int .i64 z.next) := by
  unfold putZ
  refine ⟨?_, ?_, ?_, ?_, ?_⟩
  · rw [set_ne _ _ _ _ _ _ (by omega), set_ne _ _ _ _ _ _ (by omega), set_ne _ _ _ _ _ _ (by omega), set_ne _ _ _ _ _ _ (by omega)]; exact set_eq _ _ _ _ (h 0 (by omega))
  · rw [set_ne _ _ _ _ _ _ (by omega), set_ne _ _ _ _ _ _ (by omega), set_ne _ _ _ _ _ _ (by omega)]; apply set_eq; rw [set_ne _ _ _ _ _ _ (by omega)]; exact h 1 (by omega)
  · rw [set_ne _ _ _ _ _ _ (by omega), set_ne _ _ _ _ _ _ (by omega)]; apply set_eq; rw [set_ne _ _ _ _ _ _ (by omega), set_ne _ _ _ _ _ _ (by omega)]; exact h 2 (by omega)
  · rw [set_ne _ _ _ _ _ _ (by omega)]; apply set_eq; rw [set_ne _ _ _ _ _ _ (by omega), set_ne _ _ _ _ _ _ (by omega), set_ne _ _ _ _ _ _ (by omega)]; exact h 3 (by omega)
  · apply set_eq; rw [set_ne _ _ _ _ _ _ (by omega), set_ne _ _ _ _ _ _ (by omega), set_ne _ _ _ _ _ _ (by omega), set_ne _ _ _ _ _ _ (by omega)]; exact h 4 (by omega)
theorem putZ_size (w : World) (g o : Nat) (z : Zn) : (putZ w g o z).heap.size = w.heap.size := by simp [putZ]
theorem putZ_frozen (w : World) (g o : Nat) (z : Zn) (a : Addr) : (putZ w g o z).frozen? a = w.frozen? a := by simp [putZ]
theorem Room.put {w : World} {g off n k : Nat} (h : Room w g off n) (z : Zn) (hk : k < n) : Room (putZ w g (off + k * 5) z) g off n := by
  refine ⟨by rw [putZ_size]; exact h.1, fun j hj => ⟨?_, by rw [putZ_frozen]; exact (h.2 j hj).2⟩⟩
  obtain ⟨q0, q1, q2, q3, q4⟩ := putZ_eq w g (off + k * 5) z (fun i hi => by rw [Nat.add_assoc]; exact (h.2 (k * 5 + i) (by omega)).1)
  by_cases hh : off + j < off + k * 5 ∨ off + k * 5 + 5 ≤ off + j
  · rw [putZ_ne _ _ _ _ _ _ (Or.inr hh)]; exact (h.2 j hj).1
  · have hj5 : j = k * 5 ∨ j = k * 5 + 1 ∨ j = k * 5 + 2 ∨ j = k * 5 + 3 ∨ j = k * 5 + 4 := by omega
    rcases hj5 with e | e | e | e | e <;> subst e
    · exact ⟨_, q0⟩
    · exact ⟨_, q1⟩
    · exact ⟨_, q2⟩
    · exact ⟨_, q3⟩
    · exact ⟨_, q4⟩
theorem Room.ext {w w' : World} {g off n : Nat} (h : Room w g off n) (he : Ext w w') : Room w' g off n := by
  obtain ⟨hc, hf⟩ := Ext.cell he
  exact ⟨Nat.lt_of_lt_of_le h.1 he.size, fun j hj => ⟨by rw [hc _ _ h.1]; exact (h.2 j hj).1, by rw [hf _ _ h.1]; exact (h.2 j hj).2⟩⟩
theorem Room.upd {w w' : World} {g off n b : Nat} (h : Room w g off n) (he : Upd b w w') (hne : g ≠ b) : Room w' g off n :=
  ⟨Nat.lt_of_lt_of_le h.1 he.2.1, fun j hj => ⟨by rw [(he.at_ne _ _ hne h.1).1]; exact (h.2 j hj).1, by rw [(he.at_ne _ _ hne h.1).2]; exact (h.2 j hj).2⟩⟩
theorem NodesAt.upd {w w' : World} {g off b : Nat} {zs : List Zn} (h : NodesAt w g off zs) (he : Upd b w w') (hne : g ≠ b) (hg : g < w.heap.size) : NodesAt w' g off zs := by
  intro i z hz
  obtain ⟨c0, c1, c2, c3, c4⟩ := h i z hz
  exact ⟨(he.at_ne _ _ hne hg).1.trans c0, (he.at_ne _ _ hne hg).1.trans c1, (he.at_ne _ _ hne hg).1.trans c2, (he.at_ne _ _ hne hg).1.trans c3, (he.at_ne _ _ hne hg).1.trans c4⟩
theorem NodesAt.put {w : World} {g off n k : Nat} {zs : List Zn} {z : Zn} (hr : Room w g off n) (hk : k < n) (hz : zs[k]? = some z) (h : NodesAt w g off (zs.take k)) : NodesAt (putZ w g (off + k * 5) z) g off (zs.take (k + 1)) := by
  intro i z' hi
  rw [List.getElem?_take] at hi
  split at hi
  · rename_i hlt
    by_cases hik : i = k
    · subst hik
      rw [hz] at hi
      cases hi
      exact putZ_eq w g (off + i * 5) z (fun j hj => by rw [Nat.add_assoc]; exact (hr.2 (i * 5 + j) (by omega)).1)
    · obtain ⟨c0, c1, c2, c3, c4⟩ := h i z' (by rw [List.getElem?_take, if_pos (by omega)]; exact hi)
      refine ⟨?_, ?_, ?_, ?_, ?_⟩
      · rw [putZ_ne _ _ _ _ _ _ (by omega)]; exact c0
      · rw [putZ_ne _ _ _ _ _ _ (by omega)]; exact c1
      · rw [putZ_ne _ _ _ _ _ _ (by omega)]; exact c2
      · rw [putZ_ne _ _ _ _ _ _ (by omega)]; exact c3
      · rw [putZ_ne _ _ _ _ _ _ (by omega)]; exact c4
  · cases hi
/-- The slice value v reads as the nodes zs, which lie in block g and may be written there. -/
def Own (w : World) (v : Value) (g : Nat) (zs : List Zn) : Prop :=
  ∃ a cap, v = .slice a zs.length cap ∧ zs.length ≤ cap ∧ cap ≤ maxLen ∧ (0 < zs.length → ∃ off, a = some ⟨g, off, none⟩ ∧ Room w g off zs.length ∧ NodesAt w g off zs)
theorem Own.slice {w : World} {v : Value} {g : Nat} {zs : List Zn} (h : Own w v g zs) : NSlice w v zs := by
  obtain ⟨a, cap, h1, h2, h3, h4⟩ := h
  refine ⟨a, cap, h1, h2, h3, fun h0 => ?_⟩
  obtain ⟨off, e, hr, hN⟩ := h4 h0
  exact ⟨g, off, e, hr.1, hN⟩
theorem Own.ext {w w' : World} {v : Value} {g : Nat} {zs : List Zn} (h : Own w v g zs) (he : Ext w w') : Own w' v g zs := by
  obtain ⟨a, cap, h1, h2, h3, h4⟩ := h
  refine ⟨a, cap, h1, h2, h3, fun h0 => ?_⟩
  obtain ⟨off, e, hr, hN⟩ := h4 h0
  exact ⟨off, e, hr.ext he, hN.ext hr.1 he⟩
theorem Own.upd {w w' : World} {v : Value} {g b : Nat} {zs : List Zn} (h : Own w v g zs) (he : Upd b w w') (hne : g ≠ b) : Own w' v g zs := by
  obtain ⟨a, cap, h1, h2, h3, h4⟩ := h
  refine ⟨a, cap, h1, h2, h3, fun h0 => ?_⟩
  obtain ⟨off, e, hr, hN⟩ := h4 h0
  exact ⟨off, e, hr.upd he hne, hN.upd he hne hr.1⟩
end Go.Proofs.YtilinjjimiiplaaGreatDoor
