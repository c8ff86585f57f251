/- CheckProof: of the specification and of the program. -/
import Derived.Test.YtilinjjimiiplaaGreatDoorKqJ30
import Derived.Test.YtilinjjimiiplaaGreatDoorKqJ34
namespace Go.Proofs.YtilinjjimiiplaaGreatDoor
open Go.RowKit
/-- A sum with the other one of its pair. -/
def Sm.with (x : Int) (s : Sd) : Int := if s.left = true then Sm.sum [1, s.sum, x] else Sm.sum [1, x, s.sum]
/-- A sum led up by sides; none where a side has no sum. -/
def Sm.lead : Int → List Sd → Option Int
  | x, [] => some x
  | x, s :: r => if Sm.is s.sum = true then Sm.lead (Sm.with x s) r else none
def Sm.check (z : Zn) (l : List Sd) (root : Int) : Bool :=
  if Sm.nodeC z ≠ 0 then false else if 8 < l.length then false else match Sm.lead (Sm.leaf z) l with
    | none => false
    | some x => x == root
theorem Sm.check_node {z : Zn} {l : List Sd} {root : Int} (h : Sm.nodeC z ≠ 0) : Sm.check z l root = false := by unfold Sm.check; rw [if_pos h]
theorem Sm.check_many {z : Zn} {l : List Sd} {root : Int} (h : Sm.nodeC z = 0) (hl : 8 < l.length) : Sm.check z l root = false := by unfold Sm.check; rw [if_neg (by simp [h]), if_pos hl]
theorem Sm.check_bad {z : Zn} {l : List Sd} {root : Int} (h : Sm.nodeC z = 0) (hl : ¬ 8 < l.length) (hn : Sm.lead (Sm.leaf z) l = none) : Sm.check z l root = false := by unfold Sm.check; rw [if_neg (by simp [h]), if_neg hl, hn]
theorem Sm.check_ok {z : Zn} {l : List Sd} {root x : Int} (h : Sm.nodeC z = 0) (hl : ¬ 8 < l.length) (hn : Sm.lead (Sm.leaf z) l = some x) : Sm.check z l root = (x == root) := by unfold Sm.check; rw [if_neg (by simp [h]), if_neg hl, hn]
theorem Sm.lead_at {l : List Sd} {k : Nat} {s : Sd} (x : Int) (h : l[k]? = some s) : Sm.lead x (l.drop k) = if Sm.is s.sum = true then Sm.lead (Sm.with x s) (l.drop (k + 1)) else none := by
  obtain ⟨hk, rfl⟩ := List.getElem?_eq_some_iff.1 h
  rw [List.drop_eq_getElem_cons hk, Sm.lead]
theorem Sm.with_is (x : Int) (s : Sd) : 0 ≤ Sm.with x s ∧ Sm.with x s ≤ 1000002 := by
  unfold Sm.with
  split <;> exact Sm.sum_is _
theorem Sm.leaf_is (z : Zn) : 0 ≤ Sm.leaf z ∧ Sm.leaf z ≤ 1000002 := Sm.sum_is _

set_option maxHeartbeats 4000000 in
set_option maxRecDepth 100000 in
theorem specCheckProof_any (z : Zn) (v : Value) (l : List Sd) (root : Int) (w : World) (hS : SSlice w v l) :
    Calls Tryz.prog 14 #[zagg z, v, .int .i64 root] w fun e w' => e = .returned (.bool (Sm.check z l root)) ∧ Ext w w' := by
  have HN : Hid (∀ (b : Nat) (wx : World), ZAt wx b 0 z → Calls Tryz.prog 38 #[.pointer (some ⟨b, 0, none⟩)] wx fun e w' => e = .returned (.int .i64 (Sm.nodeC z)) ∧ Ext wx w') := fun b wx h => l3Node_any b 0 z wx h
  have HS : Hid (SSlice w v l) := hS
  obtain ⟨a, cap, rfl, hlc, hcm, hx⟩ := hS
  have HX : Hid (0 < l.length → ∃ b off, a = some ⟨b, off, none⟩ ∧ b < w.heap.size ∧ SidesAt w b off l) := hx
  clear hx
  unfold maxLen at hcm
  unfold zagg
  by_cases hc0 : Sm.nodeC z ≠ 0
  · rw [Sm.check_node hc0]
    have e0 : (Sm.nodeC z != 0) = true := by simp [hc0]
    generalize Sm.nodeC z = c at *
    go_enter Tryz.func14, Tryz.ntmps14
    go_wp2_with fail
    refine (HN.out _ _ (ZAt.new w z _)).mono ?_
    rintro e w2 ⟨rfl, hb⟩
    have HB : Hid (Ext w w2) := ((Ext.refl _).alloc _).trans hb
    clear hb
    go_wp2
    go_ret
    exact ⟨rfl, HB.out⟩
  · have hc1 : Sm.nodeC z = 0 := by omega
    rw [hc1] at HN
    by_cases h8 : 8 < l.length
    · rw [Sm.check_many hc1 h8]
      clear hc0 hc1
      go_enter Tryz.func14, Tryz.ntmps14
      go_wp2_with fail
      refine (HN.out _ _ (ZAt.new w z _)).mono ?_
      rintro e w2 ⟨rfl, hb⟩
      have HB : Hid (Ext w w2) := ((Ext.refl _).alloc _).trans hb
      clear hb
      go_wp2
      go_ret
      exact ⟨rfl, HB.out⟩
    · obtain ⟨hf, hn⟩ := Sm.nodeC_zero hc1
      have hs : z.path.size ≤ 24 := by have := fault_short hf; rw [len_eq] at this; exact this
      have HL : Hid (∀ (b : Nat) (wx : World), ZAt wx b 0 z → Calls Tryz.prog 22 #[.pointer (some ⟨b, 0, none⟩)] wx fun e w' => e = .returned (.int .i64 (Sm.leaf z)) ∧ Ext wx w') := fun b wx h => l3Leaf_any b 0 z wx h hs hn
      have HC : Hid (Sm.lead (Sm.leaf z) l = none → Sm.check z l root = false) := fun h => Sm.check_bad hc1 h8 h
      have HD : Hid (∀ x, Sm.lead (Sm.leaf z) l = some x → Sm.check z l root = (x == root)) := fun x h => Sm.check_ok hc1 h8 h
      obtain ⟨hl0, hl1⟩ := Sm.leaf_is z
      clear hf hn hc0 hc1
      generalize Sm.check z l root = R at *
      generalize Sm.leaf z = r at *
      have h88 : l.length ≤ 8 := by omega
      go_enter Tryz.func14, Tryz.ntmps14
      go_wp2_with fail
      refine (HN.out _ _ (ZAt.new w z _)).mono ?_
      rintro e w2 ⟨rfl, hb⟩
      have HB : Hid (Ext w w2) := ((Ext.refl _).alloc _).trans hb
      have HZ2 : Hid (ZAt w2 w.heap.size 0 z) := (ZAt.new w z _).ext hb
      clear hb
      go_wp2_with fail
      refine (HL.out _ _ HZ2.out).mono ?_
      rintro e w3 ⟨rfl, hb⟩
      have HB3 : Hid (Ext w w3) := HB.out.trans hb
      clear hb
      go_wp2
      go_loopw [7, 8] (fun nv i wr => ∃ (k : Nat) (x : Int), k ≤ l.length ∧ i = .int .i64 k ∧ nv = .int .i64 x ∧ 0 ≤ x ∧ x ≤ 1000002 ∧ Hid (Sm.lead x (l.drop k) = Sm.lead r l) ∧ Hid (Ext w wr)) (fun _ i _ => l.length - (intOf i).toNat)
      case atStart => exact ⟨0, r, Nat.zero_le _, rfl, rfl, hl0, hl1, rfl, HB3.out⟩
      case round =>
        obtain ⟨k, x, hk, rfl, rfl, hx0, hx1, HA, HE⟩ := hrel
        by_cases hlt : k < l.length
        · obtain ⟨s, hsk⟩ : ∃ s, l[k]? = some s := ⟨_, List.getElem?_eq_getElem hlt⟩
          obtain ⟨b, off, rfl, hb, hN⟩ := HX.out (by omega)
          have hat := Sm.lead_at x hsk
          have HNk : Hid (b < w.heap.size ∧ SidesAt w b off l ∧ l[k]? = some s) := ⟨hb, hN, hsk⟩
          obtain ⟨d0, d1⟩ := hN.ext hb HE.out k s hsk
          have HI : Hid (∀ wx : World, Calls Tryz.prog 39 #[.int .i64 s.sum] wx fun e w' => e = .returned (.bool (Sm.is s.sum)) ∧ w' = wx) := l3Is_any s.sum
          cases his : Sm.is s.sum with
          | false =>
            rw [his] at HI hat
            have HF : Hid (R = false) := HC.out (by rw [← HA.out, hat]; rfl)
            clear hat his hN hsk hb
            go_wp2_with fail
            refine (HI.out _).mono ?_
            rintro e w4 ⟨rfl, rfl⟩
            go_wp2
            go_ret
            exact ⟨ret_bool HF.out.symm, HE.out⟩
          | true =>
            rw [his, if_pos rfl] at hat
            rw [his] at HI
            have hxi : Sm.is x = true := Sm.is_iff.2 ⟨hx0, hx1⟩
            have HA2 : Hid (Sm.lead (Sm.with x s) (l.drop (k + 1)) = Sm.lead r l) := by show _ = _; rw [← hat, HA.out]
            obtain ⟨hy0, hy1⟩ := Sm.with_is x s
            cases hle : s.left with
            | false =>
              have hw : Sm.with x s = Sm.sum [1, x, s.sum] := by unfold Sm.with; rw [hle]; rfl
              have HP : Hid (∀ wx : World, Calls Tryz.prog 40 #[.int .i64 x, .int .i64 s.sum] wx fun e w' => e = .returned (.int .i64 (Sm.with x s)) ∧ Ext wx w') := fun wx => by rw [hw]; exact l3Pair_any x s.sum wx hxi his
              rw [hle] at d0
              clear hat his hxi hw hle hN hsk hb
              generalize Sm.with x s = y at *
              go_wp2_with fail
              refine (HI.out _).mono ?_
              rintro e w4 ⟨rfl, rfl⟩
              go_wp2_with fail
              refine (HP.out _).mono ?_
              rintro e w5 ⟨rfl, hb5⟩
              have HE5 : Hid (Ext w w5) := HE.out.trans hb5
              clear hb5
              go_wp2
              exact ⟨⟨k + 1, y, by omega, by go_num, rfl, hy0, hy1, HA2, HE5⟩, by simp [intOf]; omega⟩
            | true =>
              have hw : Sm.with x s = Sm.sum [1, s.sum, x] := by unfold Sm.with; rw [hle]; rfl
              have HP : Hid (∀ wx : World, Calls Tryz.prog 40 #[.int .i64 s.sum, .int .i64 x] wx fun e w' => e = .returned (.int .i64 (Sm.with x s)) ∧ Ext wx w') := fun wx => by rw [hw]; exact l3Pair_any s.sum x wx his hxi
              rw [hle] at d0
              clear hat his hxi hw hle hN hsk hb
              generalize Sm.with x s = y at *
              go_wp2_with fail
              refine (HI.out _).mono ?_
              rintro e w4 ⟨rfl, rfl⟩
              go_wp2_with fail
              refine (HP.out _).mono ?_
              rintro e w5 ⟨rfl, hb5⟩
              have HE5 : Hid (Ext w w5) := HE.out.trans hb5
              clear hb5
              go_wp2
              exact ⟨⟨k + 1, y, by omega, by go_num, rfl, hy0, hy1, HA2, HE5⟩, by simp [intOf]; omega⟩
        · have HF : Hid (R = (x == root)) := by
            refine HD.out x ?_
            rw [← HA.out, List.drop_of_length_le (by omega), Sm.lead]
          go_wp2
          go_ret
          exact ⟨ret_bool HF.out.symm, HE.out⟩

/-! ### the program's -/
theorem Sm.pairV_ok {x y : Int} (hx : Sm.is x = true) (hy : Sm.is y = true) : Sm.pairV x y = (0, Sm.sum [1, x, y]) := Sm.sumV_ok (by simp) (by simp [Sm.ok, hx, hy]; decide)
theorem Sm.pairV_bad {x y : Int} (h : Sm.is x = false ∨ Sm.is y = false) : Sm.pairV x y = (3, 0) := Sm.sumV_bad (by simp) (by
  unfold Sm.ok
  rw [List.all_eq_false]
  rcases h with h | h
  · exact ⟨x, by simp, by simp [h]⟩
  · exact ⟨y, by simp, by simp [h]⟩)
/-- What the pair with a side comes to. -/
def Sm.withV (x : Int) (s : Sd) : Int × Int := if Sm.is s.sum = true then (0, Sm.with x s) else (3, 0)
theorem Sm.withV_left {x : Int} {s : Sd} (hx : Sm.is x = true) (hl : s.left = true) : Sm.pairV s.sum x = Sm.withV x s := by
  unfold Sm.withV Sm.with
  rw [if_pos hl]
  by_cases h : Sm.is s.sum = true
  · rw [if_pos h, Sm.pairV_ok h hx]
  · rw [if_neg h, Sm.pairV_bad (Or.inl (by simpa using h))]
theorem Sm.withV_right {x : Int} {s : Sd} (hx : Sm.is x = true) (hl : s.left = false) : Sm.pairV x s.sum = Sm.withV x s := by
  unfold Sm.withV Sm.with
  rw [if_neg (show ¬ s.left = true by simp [hl])]
  by_cases h : Sm.is s.sum = true
  · rw [if_pos h, Sm.pairV_ok hx h]
  · rw [if_neg h, Sm.pairV_bad (Or.inr (by simpa using h))]

theorem side_boxes (w : World) (s : Sd) (t t' : TypeId) : IBox ((w.alloc (.cells #[.bool s.left, .int .i64 s.sum] t)).alloc (.cells #[.int .i64 0, .int .i64 0] t')) (w.heap.size + 1) := by
  have h := IBox.new (w.alloc (.cells #[.bool s.left, .int .i64 s.sum] t)) t'
  rw [show (w.alloc (.cells #[.bool s.left, .int .i64 s.sum] t)).heap.size = w.heap.size + 1 from by simp] at h
  exact h

set_option maxHeartbeats 2000000 in
set_option maxRecDepth 100000 in
theorem pairWith_any (x : Int) (s : Sd) (w : World) (hx : Sm.is x = true) :
    Calls Tryz.prog 33 #[.int .i64 x, sagg s] w fun e w' => e = .returned (ir (Sm.withV x s)) ∧ Ext w w' := by
  cases hl : s.left with
  | true =>
    have HP : Hid (∀ wx : World, Calls Tryz.prog 53 #[.int .i64 s.sum, .int .i64 x] wx fun e w' => e = .returned (ir (Sm.withV x s)) ∧ Ext wx w') := fun wx => by rw [← Sm.withV_left hx hl]; exact implPairSum_any s.sum x wx
    have HBX : Hid (∀ (t t' : TypeId), IBox ((w.alloc (.cells #[.bool true, .int .i64 s.sum] t)).alloc (.cells #[.int .i64 0, .int .i64 0] t')) (w.heap.size + 1)) := fun t t' => by have h := side_boxes w s t t'; rw [hl] at h; exact h
    generalize Sm.withV x s = r at *
    obtain ⟨c, n⟩ := r
    unfold ir at HP
    unfold sagg
    rw [hl]
    go_enter Tryz.func33, Tryz.ntmps33
    go_wp2_with fail
    refine (HP.out _).mono ?_
    rintro e w2 ⟨rfl, hb⟩
    have HB : Hid (Ext w w2) := (((Ext.refl _).alloc _).alloc _).trans hb
    obtain ⟨q, q0, q1, f0, f1⟩ := (HBX.out _ _).ext hb
    clear hb
    go_wp2
    exact bodyPost_ret (v := ir (c, n)) (by simp [results, Tryz.results33, go_sem, ir, q0, q1]) rfl ⟨rfl, HB.out.two1 _ _⟩
  | false =>
    have HP : Hid (∀ wx : World, Calls Tryz.prog 53 #[.int .i64 x, .int .i64 s.sum] wx fun e w' => e = .returned (ir (Sm.withV x s)) ∧ Ext wx w') := fun wx => by rw [← Sm.withV_right hx hl]; exact implPairSum_any x s.sum wx
    have HBX : Hid (∀ (t t' : TypeId), IBox ((w.alloc (.cells #[.bool false, .int .i64 s.sum] t)).alloc (.cells #[.int .i64 0, .int .i64 0] t')) (w.heap.size + 1)) := fun t t' => by have h := side_boxes w s t t'; rw [hl] at h; exact h
    generalize Sm.withV x s = r at *
    obtain ⟨c, n⟩ := r
    unfold ir at HP
    unfold sagg
    rw [hl]
    go_enter Tryz.func33, Tryz.ntmps33
    go_wp2_with fail
    refine (HP.out _).mono ?_
    rintro e w2 ⟨rfl, hb⟩
    have HB : Hid (Ext w w2) := (((Ext.refl _).alloc _).alloc _).trans hb
    obtain ⟨q, q0, q1, f0, f1⟩ := (HBX.out _ _).ext hb
    clear hb
    go_wp2
    exact bodyPost_ret (v := ir (c, n)) (by simp [results, Tryz.results33, go_sem, ir, q0, q1]) rfl ⟨rfl, HB.out.two1 _ _⟩

/-- Block b holds an IntResult, and may be written. -/
def IBoxW (w : World) (b : Nat) (c n : Int) : Prop :=
  b < w.heap.size ∧ w.cell? ⟨b, 0, none⟩ = some (.int .i64 c) ∧ w.cell? ⟨b, 1, none⟩ = some (.int .i64 n) ∧ w.frozen? ⟨b, 0, none⟩ = false ∧ w.frozen? ⟨b, 1, none⟩ = false
theorem IBoxW.new (w : World) (c n : Int) (t : TypeId) : IBoxW (w.alloc (.cells #[.int .i64 c, .int .i64 n] t)) w.heap.size c n := ⟨by simp, by simp, by simp, by simp, by simp⟩
theorem IBoxW.ext {w w2 : World} {r : Nat} {c n : Int} (h : IBoxW w r c n) (he : Ext w w2) : IBoxW w2 r c n := by
  obtain ⟨hc, hf⟩ := Ext.cell he
  obtain ⟨h1, h2, h3, h5, h6⟩ := h
  exact ⟨Nat.lt_of_lt_of_le h1 he.size, (hc _ _ h1).trans h2, (hc _ _ h1).trans h3, (hf _ _ h1).trans h5, (hf _ _ h1).trans h6⟩
theorem IBoxW.set {w : World} {r : Nat} {c n : Int} (h : IBoxW w r c n) (c' n' : Int) : IBoxW ((w.setCell ⟨r, 0, none⟩ (.int .i64 c')).setCell ⟨r, 1, none⟩ (.int .i64 n')) r c' n' := by
  obtain ⟨h1, h2, h3, h5, h6⟩ := h
  refine ⟨by simpa using h1, ?_, ?_, by simpa using h5, by simpa using h6⟩
  · rw [iset_ne _ _ _ _ _ _ (by omega)]; exact iset_eq _ _ _ _ ⟨_, h2⟩
  · refine iset_eq _ _ _ _ ⟨.int .i64 n, ?_⟩
    rw [iset_ne _ _ _ _ _ _ (by omega)]; exact h3

set_option maxHeartbeats 4000000 in
set_option maxRecDepth 100000 in
theorem implCheckProof_any (z : Zn) (v : Value) (l : List Sd) (root : Int) (w : World) (hg : Gd w) (hS : SSlice w v l) :
    Calls Tryz.prog 11 #[zagg z, v, .int .i64 root] w fun e w' => e = .returned (.bool (Sm.check z l root)) ∧ Ext w w' := by
  have HL : Hid (∀ wx : World, Ext w wx → Calls Tryz.prog 12 #[zagg z] wx fun e w' => e = .returned (ir (Sm.leafV z)) ∧ Ext wx w') := fun wx h => implLeafSum_any z wx (hg.ext h)
  clear hg
  have HS : Hid (SSlice w v l) := hS
  obtain ⟨a, cap, rfl, hlc, hcm, hx⟩ := hS
  have HX : Hid (0 < l.length → ∃ b off, a = some ⟨b, off, none⟩ ∧ b < w.heap.size ∧ SidesAt w b off l) := hx
  clear hx
  unfold maxLen at hcm
  by_cases hc0 : Sm.nodeC z ≠ 0
  · rw [Sm.check_node hc0]
    have e0 : (Sm.nodeC z != 0) = true := by simp [hc0]
    rw [leafV_bad rfl hc0] at HL
    generalize Sm.nodeC z = c at *
    unfold ir at HL
    unfold zagg at HL ⊢
    go_enter Tryz.func11, Tryz.ntmps11
    go_wp2_with fail
    refine (HL.out _ (by first | exact Ext.refl _ | exact (Ext.refl _).alloc _)).mono ?_
    rintro e w2 ⟨rfl, hb⟩
    have HB : Hid (Ext w w2) := by first | exact hb | exact ((Ext.refl _).alloc _).trans hb
    clear hb
    go_wp2
    go_ret
    exact ⟨rfl, HB.out.alloc _⟩
  · have hc1 : Sm.nodeC z = 0 := by omega
    rw [leafV_ok hc1] at HL
    by_cases h8 : 8 < l.length
    · rw [Sm.check_many hc1 h8]
      clear hc0 hc1
      generalize Sm.leaf z = r at *
      unfold ir at HL
      unfold zagg at HL ⊢
      go_enter Tryz.func11, Tryz.ntmps11
      go_wp2_with fail
      refine (HL.out _ (by first | exact Ext.refl _ | exact (Ext.refl _).alloc _)).mono ?_
      rintro e w2 ⟨rfl, hb⟩
      have HB : Hid (Ext w w2) := by first | exact hb | exact ((Ext.refl _).alloc _).trans hb
      clear hb
      go_wp2
      go_ret
      exact ⟨rfl, HB.out.alloc _⟩
    · have HC : Hid (Sm.lead (Sm.leaf z) l = none → Sm.check z l root = false) := fun h => Sm.check_bad hc1 h8 h
      have HD : Hid (∀ x, Sm.lead (Sm.leaf z) l = some x → Sm.check z l root = (x == root)) := fun x h => Sm.check_ok hc1 h8 h
      obtain ⟨hl0, hl1⟩ := Sm.leaf_is z
      clear hc0 hc1
      generalize Sm.check z l root = R at *
      generalize Sm.leaf z = r at *
      have h88 : l.length ≤ 8 := by omega
      unfold ir at HL
      unfold zagg at HL ⊢
      go_enter Tryz.func11, Tryz.ntmps11
      go_wp2_with fail
      refine (HL.out _ (by first | exact Ext.refl _ | exact (Ext.refl _).alloc _)).mono ?_
      rintro e w2 ⟨rfl, hb⟩
      have HB : Hid (Ext w w2) := by first | exact hb | exact ((Ext.refl _).alloc _).trans hb
      clear hb
      have HQ2 : Hid (IBoxW (w2.alloc (.cells #[.int .i64 0, .int .i64 r] 35)) w2.heap.size 0 r) := IBoxW.new w2 0 r _
      have hw2 : w.heap.size ≤ w2.heap.size := HB.out.size
      go_wp2
      go_loopw [22] (fun i wr => ∃ (k : Nat) (x : Int), k ≤ l.length ∧ i = .int .i64 k ∧ 0 ≤ x ∧ x ≤ 1000002 ∧ Hid (IBoxW wr w2.heap.size 0 x) ∧ Hid (Sm.lead x (l.drop k) = Sm.lead r l) ∧ Hid (Ext w wr)) (fun i _ => l.length - (intOf i).toNat)
      case atStart => exact ⟨0, r, Nat.zero_le _, rfl, hl0, hl1, HQ2.out, rfl, HB.out.alloc _⟩
      case round =>
        obtain ⟨k, x, hk, rfl, hx0, hx1, HQ, HA, HE⟩ := hrel
        by_cases hlt : k < l.length
        · obtain ⟨s, hsk⟩ : ∃ s, l[k]? = some s := ⟨_, List.getElem?_eq_getElem hlt⟩
          obtain ⟨b, off, rfl, hb, hN⟩ := HX.out (by omega)
          have hat := Sm.lead_at x hsk
          obtain ⟨d0, d1⟩ := hN.ext hb HE.out k s hsk
          have hbr : b < wr.heap.size := Nat.lt_of_lt_of_le hb HE.out.size
          have hxi : Sm.is x = true := Sm.is_iff.2 ⟨hx0, hx1⟩
          have HP : Hid (∀ wx : World, Calls Tryz.prog 33 #[.int .i64 x, sagg s] wx fun e w' => e = .returned (ir (Sm.withV x s)) ∧ Ext wx w') := fun wx => pairWith_any x s wx hxi
          unfold ir sagg at HP
          obtain ⟨q, q0, q1, f0, f1⟩ := HQ.out
          have hal := alloc_cell
          clear hsk hN hb hxi
          cases his : Sm.is s.sum with
          | false =>
            rw [his] at hat
            have HF : Hid (R = false) := HC.out (by rw [← HA.out, hat]; rfl)
            rw [show Sm.withV x s = (3, 0) from by unfold Sm.withV; rw [his]; rfl] at HP
            clear hat his
            go_wp2_with fail
            refine (HP.out _).mono ?_
            rintro e w5 ⟨rfl, hb5⟩
            have HE5 : Hid (Ext w w5) := (HE.out.alloc _).trans hb5
            have HQ5 : Hid (IBoxW w5 w2.heap.size 0 x) := (HQ.out.ext ((Ext.refl _).alloc _)).ext hb5
            clear hb5 d0 d1 q q0 q1 f0 f1 hal
            obtain ⟨q, q0, q1, f0, f1⟩ := HQ5.out
            go_wp2
            go_ret
            exact ⟨ret_bool HF.out.symm, (HE5.out.setCell (p := ⟨w2.heap.size, 0, none⟩) hw2 _).setCell (p := ⟨w2.heap.size, 1, none⟩) hw2 _⟩
          | true =>
            rw [his, if_pos rfl] at hat
            have HA2 : Hid (Sm.lead (Sm.with x s) (l.drop (k + 1)) = Sm.lead r l) := by show _ = _; rw [← hat, HA.out]
            obtain ⟨hy0, hy1⟩ := Sm.with_is x s
            rw [show Sm.withV x s = (0, Sm.with x s) from by unfold Sm.withV; rw [his]; rfl] at HP
            clear hat his
            generalize Sm.with x s = y at *
            go_wp2_with fail
            refine (HP.out _).mono ?_
            rintro e w5 ⟨rfl, hb5⟩
            have HE5 : Hid (Ext w w5) := (HE.out.alloc _).trans hb5
            have HQ5 : Hid (IBoxW w5 w2.heap.size 0 x) := (HQ.out.ext ((Ext.refl _).alloc _)).ext hb5
            clear hb5 d0 d1 q q0 q1 f0 f1 hal
            have HQ6 := HQ5.out.set 0 y
            obtain ⟨q, q0, q1, f0, f1⟩ := HQ5.out
            have HQ6' : Hid _ := HQ6
            clear HQ6
            go_wp2
            exact ⟨⟨k + 1, y, by omega, by go_num, hy0, hy1, HQ6'.out, HA2, (HE5.out.setCell (p := ⟨w2.heap.size, 0, none⟩) hw2 _).setCell (p := ⟨w2.heap.size, 1, none⟩) hw2 _⟩, by simp [intOf]; omega⟩
        · have HF : Hid (R = (x == root)) := by
            refine HD.out x ?_
            rw [← HA.out, List.drop_of_length_le (by omega), Sm.lead]
          obtain ⟨q, q0, q1, f0, f1⟩ := HQ.out
          go_wp2
          go_ret
          exact ⟨ret_bool HF.out.symm, HE.out⟩
end Go.Proofs.YtilinjjimiiplaaGreatDoor
