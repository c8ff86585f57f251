/- Conv, Z3, Z4, Z5, T3, in one text. -/
import Derived.Test.YtilinjjimiiplaaGreatDoorProg
import Derived.Test.YtilinjjimiiplaaGreatDoorKqJ1
import Derived.Test.YtilinjjimiiplaaGreatDoorKqT2
import Derived.Laws.OwnMore
namespace Go.Proofs.YtilinjjimiiplaaGreatDoor
open Go.RowKit
theorem conv_one (w : World) (n : Int) :
    (convert 22 9 (.slice (some ⟨w.heap.size, 0, none⟩) 1 1)).run Tryz.prog (w.alloc (.cells #[.int .u8 n] 5)) = .ok (.string (mkB [UInt8.ofNat n.toNat])) (w.alloc (.cells #[.int .u8 n] 5)) := by
  rw [run_convert_bytes_string _ _ _ 5 _ _ _ Tryz.underlying22 Tryz.underlying5 Tryz.underlying9]
  rw [run_bytesToString _ _ 1 1 [n] (by simp [loadCells, loadCellsFrom, Addr.add])]
  rfl

end Go.Proofs.YtilinjjimiiplaaGreatDoor
namespace Go.Proofs.YtilinjjimiiplaaGreatDoor
open Go.RowKit
def dgsF : Nat → Nat → List UInt8 → List UInt8
  | 0, _, acc => acc
  | f + 1, n, acc => if n = 0 then acc else dgsF f (n / 10) ((48 + UInt8.ofNat (n % 10)) :: acc)
/-- The text of a mark. -/
def mtext (k : Nat) : ByteArray := if k = 0 then ⟨#[109, 48]⟩ else (⟨#[109]⟩ : ByteArray) ++ mkB (dgsF k k [])

/-- The mark that begins with k. -/
def mz (k : Nat) : Zn := ⟨mtext k, (k + 1 : Nat), (k + 2 : Nat), (k + 3 : Nat), (k + 4 : Nat)⟩
def marks (k n : Nat) : List Zn := (List.range n).map fun i => mz (k + 5 * i)
end Go.Proofs.YtilinjjimiiplaaGreatDoor
namespace Go.Proofs.YtilinjjimiiplaaGreatDoor
open Go.RowKit
/-- A ZResult as a value. -/
def zr (c : Int) (p : ByteArray) (v : Value) : Value := .agg #[.int .i64 c, .string p, v]

end Go.Proofs.YtilinjjimiiplaaGreatDoor
namespace Go.Proofs.YtilinjjimiiplaaGreatDoor
open Go.RowKit
/-- A ZResult of code c, path p and nodes rs came back, its nodes in new memory. -/
def ZRet (w : World) (c : Int) (p : ByteArray) (rs : List Zn) (e : Ending) (w' : World) : Prop :=
  ∃ v g, e = .returned (zr c p v) ∧ w.heap.size ≤ g ∧ Own w' v g rs ∧ Ext w w'
/-- Block b holds a ZResult. -/
def BoxAt (w : World) (b : Nat) (c : Int) (p : ByteArray) (v : Value) : Prop :=
  b < w.heap.size ∧ w.cell? ⟨b, 0, none⟩ = some (.int .i64 c) ∧ w.cell? ⟨b, 1, none⟩ = some (.string p) ∧ w.cell? ⟨b, 2, none⟩ = some v
theorem Own.lt {w : World} {v : Value} {g : Nat} {zs : List Zn} (h : Own w v g zs) (h0 : 0 < zs.length) : g < w.heap.size := by
  obtain ⟨a, cap, -, -, -, h4⟩ := h
  obtain ⟨off, -, hr, -⟩ := h4 h0
  exact hr.1
theorem Own.nil {w w' : World} {v : Value} {g g' : Nat} {zs : List Zn} (h : Own w v g zs) (h0 : ¬ 0 < zs.length) : Own w' v g' zs := by
  obtain ⟨a, cap, h1, h2, h3, -⟩ := h
  exact ⟨a, cap, h1, h2, h3, fun h => absurd h h0⟩
theorem Own.upd' {w w' : World} {v : Value} {g b : Nat} {zs : List Zn} (h : Own w v g zs) (he : Upd b w w') (hne : 0 < zs.length → g ≠ b) : Own w' v g zs := by
  by_cases h0 : 0 < zs.length
  · exact h.upd he (hne h0)
  · exact h.nil h0
theorem BoxAt.ext {w w' : World} {b : Nat} {c : Int} {p : ByteArray} {v : Value} (h : BoxAt w b c p v) (he : Ext w w') : BoxAt w' b c p v := by
  obtain ⟨hc, _⟩ := Ext.cell he
  exact ⟨Nat.lt_of_lt_of_le h.1 he.size, (hc _ _ h.1).trans h.2.1, (hc _ _ h.1).trans h.2.2.1, (hc _ _ h.1).trans h.2.2.2⟩
theorem BoxAt.upd {w w' : World} {b g : Nat} {c : Int} {p : ByteArray} {v : Value} (h : BoxAt w b c p v) (he : Upd g w w') (hne : b ≠ g) : BoxAt w' b c p v :=
  ⟨Nat.lt_of_lt_of_le h.1 he.2.1, (he.at_ne _ _ hne h.1).1.trans h.2.1, (he.at_ne _ _ hne h.1).1.trans h.2.2.1, (he.at_ne _ _ hne h.1).1.trans h.2.2.2⟩
theorem box_new (w : World) (c : Int) (p : ByteArray) (v : Value) (t : TypeId) : BoxAt (w.alloc (.cells #[.int .i64 c, .string p, v] t)) w.heap.size c p v :=
  ⟨by simp, by simp, by simp, by simp⟩

end Go.Proofs.YtilinjjimiiplaaGreatDoor
namespace Go.Proofs.YtilinjjimiiplaaGreatDoor
open Go.RowKit
def zcells (z : Zn) : List Value := [.string z.path, .int .i64 z.data, .int .i64 z.version, .int .i64 z.owner, .int .i64 z.next]
def cellsZ : List Zn → List Value
  | [] => []
  | z :: r => zcells z ++ cellsZ r
theorem cellsZ_length (zs : List Zn) : (cellsZ zs).length = zs.length * 5 := by
  induction zs with
  | nil => rfl
  | cons z r ih => simp [cellsZ, zcells, ih]; omega
theorem cellsZ_append (a b : List Zn) : cellsZ (a ++ b) = cellsZ a ++ cellsZ b := by
  induction a with
  | nil => rfl
  | cons z r ih => simp [cellsZ, ih]
theorem cellsZ_get (zs : List Zn) : ∀ (i r : Nat) (z : Zn), zs[i]? = some z → r < 5 → (cellsZ zs)[i * 5 + r]? = (zcells z)[r]? := by
  induction zs with
  | nil => intro i r z h; simp at h
  | cons y t ih =>
    intro i r z h hr
    have hl : (zcells y).length = 5 := rfl
    cases i with
    | zero =>
      simp at h; subst h
      rw [cellsZ, List.getElem?_append_left (by omega)]
      congr 1; omega
    | succ i =>
      rw [cellsZ, List.getElem?_append_right (by omega), hl, show (i + 1) * 5 + r - 5 = i * 5 + r from by omega]
      exact ih i r z (by simpa using h) hr
theorem cellsZ_find (zs : List Zn) (j : Nat) (u : Value) (h : (cellsZ zs)[j]? = some u) : ∃ (i r : Nat) (z : Zn), zs[i]? = some z ∧ r < 5 ∧ j = i * 5 + r ∧ (zcells z)[r]? = some u := by
  have hj := (List.getElem?_eq_some_iff.1 h).1
  rw [cellsZ_length] at hj
  have hi : j / 5 < zs.length := by omega
  refine ⟨j / 5, j % 5, zs[j / 5], List.getElem?_eq_getElem hi, by omega, by omega, ?_⟩
  rw [← cellsZ_get zs (j / 5) (j % 5) _ (List.getElem?_eq_getElem hi) (by omega), show j / 5 * 5 + j % 5 = j from by omega, h]
theorem cellsZ_one (zs : List Zn) : ∀ u ∈ cellsZ zs, u.oneCell' = true := by
  intro u hu
  induction zs with
  | nil => simp [cellsZ] at hu
  | cons z r ih =>
    rw [cellsZ, List.mem_append] at hu
    rcases hu with hu | hu
    · simp [zcells] at hu
      rcases hu with h | h | h | h | h <;> subst h <;> rfl
    · exact ih hu
theorem NodesAt.news {w : World} {b off : Nat} {zs : List Zn} (h : NodesAt w b off zs) : ∀ j u, (cellsZ zs)[j]? = some u → w.cell? ((⟨b, off, none⟩ : Addr).add j) = some u := by
  intro j u hu
  obtain ⟨i, r, z, hz, hr, rfl, hc⟩ := cellsZ_find zs j u hu
  obtain ⟨c0, c1, c2, c3, c4⟩ := h i z hz
  rw [Addr.add_lit, ← Nat.add_assoc]
  have hr5 : r = 0 ∨ r = 1 ∨ r = 2 ∨ r = 3 ∨ r = 4 := by omega
  rcases hr5 with rfl | rfl | rfl | rfl | rfl
  · simp [zcells] at hc; subst hc; exact c0
  · simp [zcells] at hc; subst hc; exact c1
  · simp [zcells] at hc; subst hc; exact c2
  · simp [zcells] at hc; subst hc; exact c3
  · simp [zcells] at hc; subst hc; exact c4
theorem Own.of_row {w : World} {base : Nat} {e : TypeId} {v : Value} {zs : List Zn} (h : w.ownsRow base e 5 v zs.length (cellsZ zs)) : ∃ g, base ≤ g ∧ Own w v g zs := by
  rcases h.2 with ⟨hv, h0⟩ | ⟨g, cap, cur, hv, hb, hh, hn, hm, hs, ht⟩
  · exact ⟨base, Nat.le_refl _, none, 0, by rw [hv, h0], by omega, by unfold maxLen; omega, fun h => by omega⟩
  · subst hv
    refine ⟨g, hb, some ⟨g, 0, none⟩, cap, rfl, hn, hm, fun _ => ⟨0, rfl, ⟨?_, fun j hj => ?_⟩, ?_⟩⟩
    · exact (Array.getElem?_eq_some_iff.1 hh).1
    · have hc := h.cellAt j hj
      rw [Nat.zero_add, hc]
      exact ⟨⟨_, List.getElem?_eq_getElem (by rw [cellsZ_length]; omega)⟩, h.frozenAt j⟩
    · intro i z hz
      have hi := (List.getElem?_eq_some_iff.1 hz).1
      have hc := fun r (hr : r < 5) => (h.cellAt (i * 5 + r) (by omega)).trans (cellsZ_get zs i r z hz hr)
      simp only [Nat.zero_add]
      exact ⟨hc 0 (by omega), hc 1 (by omega), hc 2 (by omega), hc 3 (by omega), hc 4 (by omega)⟩

theorem own_none (w : World) (g : Nat) : Own w (.slice Option.none 0 0) g [] := ⟨Option.none, 0, rfl, Nat.le_refl _, by unfold maxLen; omega, fun h => by simp at h⟩
/-- Block r holds a ZResult that nobody has written yet, and may be written. -/
def RBox (w : World) (r : Nat) : Prop :=
  r < w.heap.size ∧ w.cell? ⟨r, 0, none⟩ = some (.int .i64 0) ∧ w.cell? ⟨r, 1, none⟩ = some (.string ⟨#[]⟩) ∧ w.cell? ⟨r, 2, none⟩ = some (.slice none 0 0) ∧ w.frozen? ⟨r, 0, none⟩ = false ∧ w.frozen? ⟨r, 1, none⟩ = false ∧ w.frozen? ⟨r, 2, none⟩ = false
theorem RBox.new (w : World) (t : TypeId) : RBox (w.alloc (.cells #[.int .i64 0, .string ⟨#[]⟩, .slice none 0 0] t)) w.heap.size := ⟨by simp, by simp, by simp, by simp, by simp, by simp, by simp⟩
theorem RBox.ext {w w2 : World} {r : Nat} (h : RBox w r) (he : Ext w w2) : RBox w2 r := by
  obtain ⟨hc, hf⟩ := Ext.cell he
  obtain ⟨h1, h2, h3, h4, h5, h6, h7⟩ := h
  exact ⟨Nat.lt_of_lt_of_le h1 he.size, (hc _ _ h1).trans h2, (hc _ _ h1).trans h3, (hc _ _ h1).trans h4, (hf _ _ h1).trans h5, (hf _ _ h1).trans h6, (hf _ _ h1).trans h7⟩
theorem Ext.box3 {w w2 : World} (h : Ext w w2) (a b c : Value) : Ext w (((w2.setCell ⟨w.heap.size, 0, none⟩ a).setCell ⟨w.heap.size, 1, none⟩ b).setCell ⟨w.heap.size, 2, none⟩ c) :=
  ((h.setCell (p := ⟨w.heap.size, 0, none⟩) (Nat.le_refl _) a).setCell (p := ⟨w.heap.size, 1, none⟩) (Nat.le_refl _) b).setCell (p := ⟨w.heap.size, 2, none⟩) (Nat.le_refl _) c
theorem zret_bad {w w' : World} (c : Int) (p : ByteArray) (h : Ext w w') : ZRet w c p [] (.returned (zr c p (.slice none 0 0))) w' := ⟨_, w.heap.size, rfl, Nat.le_refl _, own_none _ _, h⟩
theorem own_lit (w : World) (zs : List Zn) (cs : Array Value) (t : TypeId) (hc : cs.toList = cellsZ zs) (hm : zs.length ≤ maxLen) : ∃ g, w.heap.size ≤ g ∧ Own (w.alloc (.cells cs t)) (.slice (some ⟨w.heap.size, 0, none⟩) zs.length zs.length) g zs := by
  have hs : cs.size = zs.length * 5 := by rw [← cellsZ_length, ← hc]; simp
  have h := World.ownsRow_lit (base := w.heap.size) (e := t) (size := 5) w cs zs.length (Nat.le_refl _) hm hs
  rw [hc] at h
  exact Own.of_row h
theorem zret_lit {w w' : World} (c : Int) (p : ByteArray) (zs : List Zn) (cs : Array Value) (t : TypeId) (hc : cs.toList = cellsZ zs) (hm : zs.length ≤ maxLen) (h : Ext w w') : ZRet w c p zs (.returned (zr c p (.slice (some ⟨w'.heap.size, 0, none⟩) zs.length zs.length))) (w'.alloc (.cells cs t)) := by
  obtain ⟨g, hg, hO⟩ := own_lit w' zs cs t hc hm
  exact ⟨_, g, rfl, Nat.le_trans h.size hg, hO, h.alloc _⟩

set_option maxHeartbeats 1000000 in
theorem l2Bad_any (c : Int) (w : World) : Calls Tryz.prog 75 #[.int .i64 c] w fun e w' => e = .returned (zr c ⟨#[]⟩ (.slice none 0 0)) ∧ Ext w w' := by
  go_enter Tryz.func75, Tryz.ntmps75
  go_wp2
  exact bodyPost_ret (v := zr c ⟨#[]⟩ (.slice none 0 0)) (by simp [results, Tryz.results75, go_sem, zr]) rfl ⟨rfl, (Ext.refl _).alloc _⟩

namespace Tre
def okData (d : Int) : Bool := decide (0 ≤ d) && decide (d ≤ 9999)
def newT (d : Int) : Int × ByteArray × List Zn := if okData d = true then (0, ⟨#[]⟩, [⟨top, d, 0, 0, 0⟩]) else (3, ⟨#[]⟩, [])
def asked (zs : List Zn) (p : ByteArray) : Int := if fault zs ≠ 0 then fault zs else Pth.faultI p.data.toList
def getT (zs : List Zn) (p : ByteArray) : Int × ByteArray × List Zn :=
  if asked zs p ≠ 0 then (asked zs p, ⟨#[]⟩, []) else match zs[(atI zs p).toNat]? with
    | some z => if atI zs p < 0 then (4, ⟨#[]⟩, []) else (0, ⟨#[]⟩, [z])
    | none => (4, ⟨#[]⟩, [])
theorem getT_bad {zs : List Zn} {p : ByteArray} {c : Int} (h : asked zs p = c) (h0 : c ≠ 0) : getT zs p = (c, ⟨#[]⟩, []) := by unfold getT; rw [h, if_pos h0]
theorem getT_none {zs : List Zn} {p : ByteArray} (h : asked zs p = 0) (h0 : atI zs p < 0) : getT zs p = (4, ⟨#[]⟩, []) := by
  unfold getT; rw [h, if_neg (by simp)]
  split
  · rw [if_pos h0]
  · rfl
theorem getT_ok {zs : List Zn} {p : ByteArray} {k : Nat} {z : Zn} (h : asked zs p = 0) (h0 : atI zs p = k) (hz : zs[k]? = some z) : getT zs p = (0, ⟨#[]⟩, [z]) := by
  unfold getT; rw [h, if_neg (by simp), h0, Int.toNat_natCast, hz]
  simp only []
  rw [if_neg (by omega)]
end Tre
set_option maxHeartbeats 1000000 in
theorem specNewTree_any (d : Int) (w : World) : Calls Tryz.prog 54 #[.int .i64 d] w (ZRet w (Tre.newT d).1 (Tre.newT d).2.1 (Tre.newT d).2.2) := by
  cases hb : (decide (0 ≤ d) && decide (d ≤ 9999)) with
  | false =>
    rw [show Tre.newT d = (3, ⟨#[]⟩, []) from by unfold Tre.newT Tre.okData; rw [hb]; rfl]
    go_enter Tryz.func54, Tryz.ntmps54
    go_wp2_with fail
    refine (l2Data_any _ _).mono ?_
    rintro e w2 ⟨rfl, rfl⟩
    rw [hb]
    go_wp2
    exact bodyPost_ret (v := zr 3 ⟨#[]⟩ (.slice none 0 0)) (by simp [results, Tryz.results54, go_sem, zr]) rfl (zret_bad _ _ ((Ext.refl _).alloc _))
  | true =>
    rw [show Tre.newT d = (0, ⟨#[]⟩, [⟨Tre.top, d, 0, 0, 0⟩]) from by unfold Tre.newT Tre.okData; rw [hb]; rfl]
    go_enter Tryz.func54, Tryz.ntmps54
    go_wp2_with fail
    refine (l2Data_any _ _).mono ?_
    rintro e w2 ⟨rfl, rfl⟩
    rw [hb]
    go_wp2
    refine bodyPost_ret (v := zr 0 ⟨#[]⟩ (.slice (some ⟨w.heap.size + 1, 0, none⟩) 1 1)) (by simp [results, Tryz.results54, go_sem, zr]) rfl ?_
    have h := zret_lit (w := w) (w' := w.alloc (.cells #[.int .i64 0, .string ⟨#[]⟩, .slice (some ⟨w.heap.size + 1, 0, none⟩) 1 1] 32)) 0 ⟨#[]⟩ [⟨Tre.top, d, 0, 0, 0⟩] #[.string ⟨#[47]⟩, .int .i64 d, .int .i64 0, .int .i64 0, .int .i64 0] 38 rfl (by unfold maxLen; simp) ((Ext.refl _).alloc _)
    simpa using h

set_option maxHeartbeats 1000000 in
theorem l2Asked_any (v : Value) (zs : List Zn) (p : ByteArray) (w : World) (hS : NSlice w v zs) :
    Calls Tryz.prog 20 #[v, .string p] w fun e w' => e = .returned (.int .i64 (Tre.asked zs p)) ∧ Ext w w' := by
  have HL : Hid (Calls Tryz.prog 37 #[v] w fun e w' => e = .returned (.int .i64 (Tre.fault zs)) ∧ Ext w w') := l2Fault_any v zs w hS
  obtain ⟨a, cap, rfl, -⟩ := hS
  have HP : Hid (∀ wx : World, Calls Tryz.prog 47 #[.string p] wx fun e w' => e = .returned (.int .i64 (Pth.faultI p.data.toList)) ∧ Ext wx w') := l1FaultI_any p
  by_cases h0 : Tre.fault zs ≠ 0
  · rw [show Tre.asked zs p = Tre.fault zs from by unfold Tre.asked; rw [if_pos h0]]
    generalize Tre.fault zs = F at *
    go_enter Tryz.func20, Tryz.ntmps20
    go_wp2_with fail
    refine HL.out.mono ?_
    rintro e w2 ⟨rfl, hb⟩
    have HB : Hid (Ext w w2) := hb
    clear hb
    go_wp2
    go_ret
    exact ⟨rfl, HB.out⟩
  · rw [show Tre.asked zs p = Pth.faultI p.data.toList from by unfold Tre.asked; rw [if_neg h0]]
    rw [show Tre.fault zs = 0 from by omega] at HL
    go_enter Tryz.func20, Tryz.ntmps20
    go_wp2_with fail
    refine HL.out.mono ?_
    rintro e w2 ⟨rfl, hb⟩
    have HB : Hid (Ext w w2) := hb
    clear hb
    go_wp2_with fail
    refine (HP.out _).mono ?_
    rintro e w3 ⟨rfl, hb⟩
    have HB3 : Hid (Ext w w3) := HB.out.trans hb
    clear hb
    go_wp2
    go_ret
    exact ⟨rfl, HB3.out⟩

end Go.Proofs.YtilinjjimiiplaaGreatDoor
