/- states: the laws' functions over them. -/
import Derived.Test.YtdjnkchaapcjpaaGreatDoorM1
import Derived.Test.YtdjnkchaapcjpaaGreatDoorE2
import Derived.Test.YtdjnkchaapcjpaaGreatDoorZ2
namespace Go.Proofs.YtdjnkchaapcjpaaGreatDoor
open Go.RowKit

structure Stt where
  nodes : List Zn
  ses : List Se
  now : Int
  marks : List Mk

def sagg (vn vs : Value) (n : Int) (vm : Value) : Value := .agg #[vn, vs, .int .i64 n, vm]
/-- The three slices read ae what the state holds. -/
def SSlice (w : World) (vn vs vm : Value) (s : Stt) : Prop := NSlice w vn s.nodes ∧ ESlice w vs s.ses ∧ MSlice w vm s.marks
theorem SSlice.ext {w w' : World} {vn vs vm : Value} {s : Stt} (h : SSlice w vn vs vm s) (he : Ext w w') : SSlice w' vn vs vm s := ⟨h.1.ext he, h.2.1.ext he, h.2.2.ext he⟩
/-- All texts are of a length that can be. -/
def Stt.fits (s : Stt) : Prop := (∀ z ∈ s.nodes, z.path.size ≤ maxLen) ∧ ∀ z ∈ s.marks, z.path.size ≤ maxLen
/-- All is small. -/
def Stt.small (s : Stt) : Prop := (s.nodes.length ≤ 1048576 ∧ ∀ z ∈ s.nodes, z.path.size ≤ 1048576) ∧ s.ses.length ≤ 1048576 ∧ s.marks.length ≤ 1048576 ∧ ∀ z ∈ s.marks, z.path.size ≤ 1048576

/-- Four values in a box of their own. -/
def SBoxAt (w : World) (b : Nat) (v0 v1 v2 v3 : Value) : Prop := b < w.heap.size ∧ (w.cell? ⟨b, 0, none⟩ = some v0 ∧ w.cell? ⟨b, 1, none⟩ = some v1 ∧ w.cell? ⟨b, 2, none⟩ = some v2 ∧ w.cell? ⟨b, 3, none⟩ = some v3) ∧ w.frozen? ⟨b, 0, none⟩ = false ∧ w.frozen? ⟨b, 1, none⟩ = false ∧ w.frozen? ⟨b, 2, none⟩ = false ∧ w.frozen? ⟨b, 3, none⟩ = false
theorem SBoxAt.ext {w w' : World} {b : Nat} {v0 v1 v2 v3 : Value} (h : SBoxAt w b v0 v1 v2 v3) (he : Ext w w') : SBoxAt w' b v0 v1 v2 v3 := by
  obtain ⟨hc, hf⟩ := Ext.cell he
  obtain ⟨hb, ⟨c0, c1, c2, c3⟩, f0, f1, f2, f3⟩ := h
  exact ⟨Nat.lt_of_lt_of_le hb he.size, ⟨(hc _ _ hb).trans c0, (hc _ _ hb).trans c1, (hc _ _ hb).trans c2, (hc _ _ hb).trans c3⟩, (hf _ _ hb).trans f0, (hf _ _ hb).trans f1, (hf _ _ hb).trans f2, (hf _ _ hb).trans f3⟩
theorem sbox_new (w : World) (v0 v1 v2 v3 : Value) (t : TypeId) : SBoxAt (w.alloc (.cells #[v0, v1, v2, v3] t)) w.heap.size v0 v1 v2 v3 := ⟨by simp, ⟨by simp, by simp, by simp, by simp⟩, by simp, by simp, by simp, by simp⟩
theorem SBoxAt.set0 {w : World} {b : Nat} {v0 v1 v2 v3 : Value} (h : SBoxAt w b v0 v1 v2 v3) (v : Value) : SBoxAt (w.setCell ⟨b, 0, none⟩ v) b v v1 v2 v3 := by
  obtain ⟨hb, ⟨c0, c1, c2, c3⟩, f0, f1, f2, f3⟩ := h
  exact ⟨by simpa using hb, ⟨iset_eq _ _ _ _ ⟨_, c0⟩, by rw [iset_ne _ _ _ _ _ _ (by omega)]; exact c1, by rw [iset_ne _ _ _ _ _ _ (by omega)]; exact c2, by rw [iset_ne _ _ _ _ _ _ (by omega)]; exact c3⟩, by simpa using f0, by simpa using f1, by simpa using f2, by simpa using f3⟩
theorem SBoxAt.set1 {w : World} {b : Nat} {v0 v1 v2 v3 : Value} (h : SBoxAt w b v0 v1 v2 v3) (v : Value) : SBoxAt (w.setCell ⟨b, 1, none⟩ v) b v0 v v2 v3 := by
  obtain ⟨hb, ⟨c0, c1, c2, c3⟩, f0, f1, f2, f3⟩ := h
  exact ⟨by simpa using hb, ⟨by rw [iset_ne _ _ _ _ _ _ (by omega)]; exact c0, iset_eq _ _ _ _ ⟨_, c1⟩, by rw [iset_ne _ _ _ _ _ _ (by omega)]; exact c2, by rw [iset_ne _ _ _ _ _ _ (by omega)]; exact c3⟩, by simpa using f0, by simpa using f1, by simpa using f2, by simpa using f3⟩
theorem SBoxAt.set2 {w : World} {b : Nat} {v0 v1 v2 v3 : Value} (h : SBoxAt w b v0 v1 v2 v3) (v : Value) : SBoxAt (w.setCell ⟨b, 2, none⟩ v) b v0 v1 v v3 := by
  obtain ⟨hb, ⟨c0, c1, c2, c3⟩, f0, f1, f2, f3⟩ := h
  exact ⟨by simpa using hb, ⟨by rw [iset_ne _ _ _ _ _ _ (by omega)]; exact c0, by rw [iset_ne _ _ _ _ _ _ (by omega)]; exact c1, iset_eq _ _ _ _ ⟨_, c2⟩, by rw [iset_ne _ _ _ _ _ _ (by omega)]; exact c3⟩, by simpa using f0, by simpa using f1, by simpa using f2, by simpa using f3⟩
theorem SBoxAt.set3 {w : World} {b : Nat} {v0 v1 v2 v3 : Value} (h : SBoxAt w b v0 v1 v2 v3) (v : Value) : SBoxAt (w.setCell ⟨b, 3, none⟩ v) b v0 v1 v2 v := by
  obtain ⟨hb, ⟨c0, c1, c2, c3⟩, f0, f1, f2, f3⟩ := h
  exact ⟨by simpa using hb, ⟨by rw [iset_ne _ _ _ _ _ _ (by omega)]; exact c0, by rw [iset_ne _ _ _ _ _ _ (by omega)]; exact c1, by rw [iset_ne _ _ _ _ _ _ (by omega)]; exact c2, iset_eq _ _ _ _ ⟨_, c3⟩⟩, by simpa using f0, by simpa using f1, by simpa using f2, by simpa using f3⟩
theorem SBoxAt.other {w : World} {b g o : Nat} {v0 v1 v2 v3 : Value} (h : SBoxAt w b v0 v1 v2 v3) (v : Value) (hne : g ≠ b) : SBoxAt (w.setCell ⟨g, o, none⟩ v) b v0 v1 v2 v3 := by
  obtain ⟨hb, ⟨c0, c1, c2, c3⟩, f0, f1, f2, f3⟩ := h
  exact ⟨by simpa using hb, ⟨by rw [iset_ne _ _ _ _ _ _ (Or.inl hne)]; exact c0, by rw [iset_ne _ _ _ _ _ _ (Or.inl hne)]; exact c1, by rw [iset_ne _ _ _ _ _ _ (Or.inl hne)]; exact c2, by rw [iset_ne _ _ _ _ _ _ (Or.inl hne)]; exact c3⟩, by simpa using f0, by simpa using f1, by simpa using f2, by simpa using f3⟩
/-- Nodes, sessions, marks that lie elsewhere are ae they were. -/
theorem nodes_other {w : World} {b off g o : Nat} {zs : List Zn} {v : Value} (h : NodesAt w b off zs) (hne : g ≠ b) : NodesAt (w.setCell ⟨g, o, none⟩ v) b off zs := by
  intro i z hz
  obtain ⟨c0, c1, c2, c3, c4⟩ := h i z hz
  refine ⟨?_, ?_, ?_, ?_, ?_⟩ <;> rw [iset_ne _ _ _ _ _ _ (Or.inl hne)] <;> assumption
theorem ses_other {w : World} {b off g o : Nat} {zs : List Se} {v : Value} (h : SesAt w b off zs) (hne : g ≠ b) : SesAt (w.setCell ⟨g, o, none⟩ v) b off zs := by
  intro i z hz
  obtain ⟨c0, c1⟩ := h i z hz
  refine ⟨?_, ?_⟩ <;> rw [iset_ne _ _ _ _ _ _ (Or.inl hne)] <;> assumption
theorem marks_other {w : World} {b off g o : Nat} {zs : List Mk} {v : Value} (h : MksAt w b off zs) (hne : g ≠ b) : MksAt (w.setCell ⟨g, o, none⟩ v) b off zs := by
  intro i z hz
  obtain ⟨c0, c1, c2, c3, c4⟩ := h i z hz
  refine ⟨?_, ?_, ?_, ?_, ?_⟩ <;> rw [iset_ne _ _ _ _ _ _ (Or.inl hne)] <;> assumption
set_option maxHeartbeats 1000000 in
set_option maxRecDepth 100000 in
theorem szState_le (s : Stt) (vn vs vm : Value) (n : Int) (w : World) (h0 : 0 ≤ n) (h1 : n ≤ 1048576) (hS : SSlice w vn vs vm s) (hz : s.fits) :
    Calls Tryz.prog 9 #[sagg vn vs s.now vm, .int .i64 n] w fun e w' => ∃ q : Int, e = .returned (.int .i64 q) ∧ -1 ≤ q ∧ q ≤ 1048576 ∧ (0 ≤ q → s.small) ∧ Ext w w' := by
  have H1 : Hid (∀ wx : World, Ext w wx → Calls Tryz.prog 33 #[vn, .int .i64 n] wx fun e w' => ∃ r : Int, e = .returned (.int .i64 r) ∧ r ≤ 1048576 ∧ (0 ≤ r → s.nodes.length ≤ 1048576 ∧ ∀ z ∈ s.nodes, z.path.size ≤ 1048576) ∧ Ext wx w') := fun wx he => szZnodeS_le vn s.nodes n wx h0 h1 (hS.1.ext he) hz.1
  have H2 : Hid (∀ (m : Int) (wx : World), 0 ≤ m → m ≤ 1048576 → Ext w wx → Calls Tryz.prog 42 #[vs, .int .i64 m] wx fun e w' => e = .returned (.int .i64 (if m < s.ses.length then -1 else m - s.ses.length)) ∧ w' = wx) := fun m wx ha hb he => szSessionS_any vs s.ses m wx ha hb (hS.2.1.ext he)
  have H3 : Hid (∀ (m : Int) (wx : World), 0 ≤ m → m ≤ 1048576 → Ext w wx → Calls Tryz.prog 43 #[vm, .int .i64 m] wx fun e w' => ∃ r : Int, e = .returned (.int .i64 r) ∧ -1 ≤ r ∧ r ≤ 1048576 ∧ (0 ≤ r → s.marks.length ≤ 1048576 ∧ ∀ z ∈ s.marks, z.path.size ≤ 1048576) ∧ Ext wx w') := fun m wx ha hb he => szMarkS_le vm s.marks m wx ha hb (hS.2.2.ext he) hz.2
  obtain ⟨⟨an, cn, rfl, -⟩, ⟨ae, cs, rfl, -⟩, ⟨am, cm, rfl, -⟩⟩ := hS
  clear hz
  unfold sagg
  go_enter Tryz.func9, Tryz.ntmps9
  go_wp2_with fail
  refine (H1.out _ ((Ext.refl _).alloc _)).mono ?_
  rintro e w1 ⟨q, rfl, hq1, hq2, hb⟩
  have HQ : Hid (0 ≤ q → s.nodes.length ≤ 1048576 ∧ ∀ z ∈ s.nodes, z.path.size ≤ 1048576) := hq2
  have HB : Hid (Ext w w1) := ((Ext.refl _).alloc _).trans hb
  have XB : Hid (SBoxAt w1 w.heap.size (.slice an s.nodes.length cn) (.slice ae s.ses.length cs) (.int .i64 s.now) (.slice am s.marks.length cm)) := (sbox_new _ _ _ _ _ _).ext hb
  clear hb hq2 H1
  by_cases hneg : q < 0
  · go_wp2
    go_ret
    exact ⟨_, rfl, by omega, by omega, fun h => by omega, HB.out⟩
  obtain ⟨q0, ⟨c0, c1, c2, c3⟩, -, -, -, -⟩ := XB.out
  go_wp2_with fail
  refine (H2.out _ _ (by omega) (by omega) HB.out).mono ?_
  rintro e w2 ⟨rfl, hw2⟩
  rw [hw2]
  clear hw2 w2
  by_cases hneg2 : q < s.ses.length
  · rw [if_pos hneg2]
    go_wp2
    go_ret
    exact ⟨_, rfl, by omega, by omega, fun h => by omega, HB.out⟩
  rw [if_neg hneg2]
  go_wp2_with fail
  refine (H3.out _ _ (by omega) (by omega) HB.out).mono ?_
  rintro e w3 ⟨r, rfl, hr0, hr1, hr2, hb⟩
  have HR : Hid (0 ≤ r → s.marks.length ≤ 1048576 ∧ ∀ z ∈ s.marks, z.path.size ≤ 1048576) := hr2
  have HB3 : Hid (Ext w w3) := HB.out.trans hb
  clear hb hr2 XB c0 c1 c2 c3 q0 HB
  by_cases hneg3 : r < 0
  · go_wp2
    go_ret
    exact ⟨_, rfl, by omega, by omega, fun h => by omega, HB3.out⟩
  · go_wp2
    go_ret
    exact ⟨_, rfl, hr0, hr1, fun h => ⟨HQ.out (by omega), by omega, HR.out h⟩, HB3.out⟩

set_option maxHeartbeats 2000000 in
set_option maxRecDepth 100000 in
theorem eqState_same (s : Stt) (vn vs vm un us um : Value) (w : World) (hS : SSlice w vn vs vm s) (hS' : SSlice w un us um s) :
    Calls Tryz.prog 13 #[sagg vn vs s.now vm, sagg un us s.now um] w fun e w' => e = .returned (.bool true) ∧ Ext w w' := by
  have H1 : Hid (∀ wx : World, Ext w wx → Calls Tryz.prog 38 #[vn, un] wx fun e w' => e = .returned (.bool true) ∧ Ext wx w') := fun wx he => eqZnodeS_same vn un s.nodes wx (hS.1.ext he) (hS'.1.ext he)
  have H2 : Hid (∀ wx : World, Ext w wx → Calls Tryz.prog 51 #[vs, us] wx fun e w' => e = .returned (.bool true) ∧ Ext wx w') := fun wx he => eqSessionS_same vs us s.ses wx (hS.2.1.ext he) (hS'.2.1.ext he)
  have H3 : Hid (∀ wx : World, Ext w wx → Calls Tryz.prog 52 #[vm, um] wx fun e w' => e = .returned (.bool true) ∧ Ext wx w') := fun wx he => eqMarkS_same vm um s.marks wx (hS.2.2.ext he) (hS'.2.2.ext he)
  obtain ⟨⟨an, cn, rfl, -⟩, ⟨ae, cs, rfl, -⟩, ⟨am, cm, rfl, -⟩⟩ := hS
  obtain ⟨⟨bn, dn, rfl, -⟩, ⟨bs, ds, rfl, -⟩, ⟨bm, dm, rfl, -⟩⟩ := hS'
  unfold sagg
  go_enter Tryz.func13, Tryz.ntmps13
  go_wp2_with fail
  refine (H1.out _ (((Ext.refl _).alloc _).alloc _)).mono ?_
  rintro e w1 ⟨rfl, hb⟩
  have HB : Hid (Ext w w1) := (((Ext.refl _).alloc _).alloc _).trans hb
  have x0 := (sbox_new w (.slice an s.nodes.length cn) (.slice ae s.ses.length cs) (.int .i64 s.now) (.slice am s.marks.length cm) _).ext (((Ext.refl _).alloc _).trans hb)
  have y0 := (sbox_new (w.alloc _) (.slice bn s.nodes.length dn) (.slice bs s.ses.length ds) (.int .i64 s.now) (.slice bm s.marks.length dm) _).ext hb
  simp only [World.size_alloc] at y0
  have XB : Hid (SBoxAt w1 w.heap.size (.slice an s.nodes.length cn) (.slice ae s.ses.length cs) (.int .i64 s.now) (.slice am s.marks.length cm)) := x0
  have YB : Hid (SBoxAt w1 (w.heap.size + 1) (.slice bn s.nodes.length dn) (.slice bs s.ses.length ds) (.int .i64 s.now) (.slice bm s.marks.length dm)) := y0
  clear hb x0 y0 H1
  obtain ⟨q0, ⟨c0, c1, c2, c3⟩, -, -, -, -⟩ := XB.out
  obtain ⟨p0, ⟨d0, d1, d2, d3⟩, -, -, -, -⟩ := YB.out
  go_wp2_with fail
  refine (H2.out _ HB.out).mono ?_
  rintro e w2 ⟨rfl, hb⟩
  have HB2 : Hid (Ext w w2) := HB.out.trans hb
  have XB2 : Hid (SBoxAt w2 w.heap.size (.slice an s.nodes.length cn) (.slice ae s.ses.length cs) (.int .i64 s.now) (.slice am s.marks.length cm)) := XB.out.ext hb
  have YB2 : Hid (SBoxAt w2 (w.heap.size + 1) (.slice bn s.nodes.length dn) (.slice bs s.ses.length ds) (.int .i64 s.now) (.slice bm s.marks.length dm)) := YB.out.ext hb
  clear hb XB YB HB q0 c0 c1 c2 c3 p0 d0 d1 d2 d3 H2
  obtain ⟨q0, ⟨c0, c1, c2, c3⟩, -, -, -, -⟩ := XB2.out
  obtain ⟨p0, ⟨d0, d1, d2, d3⟩, -, -, -, -⟩ := YB2.out
  go_wp2_with fail
  refine (H3.out _ HB2.out).mono ?_
  rintro e w3 ⟨rfl, hb⟩
  have HB3 : Hid (Ext w w3) := HB2.out.trans hb
  clear hb XB2 YB2 HB2 q0 c0 c1 c2 c3 p0 d0 d1 d2 d3 H3
  go_wp2
  go_ret
  exact ⟨rfl, HB3.out⟩

/-- Marks that lie in block g and may be written there. -/
def MOwn (w : World) (v : Value) (g : Nat) (zs : List Mk) : Prop :=
  ∃ a cap, v = .slice a zs.length cap ∧ zs.length ≤ cap ∧ cap ≤ maxLen ∧ (0 < zs.length → ∃ off, a = some ⟨g, off, none⟩ ∧ MRoom w g off zs.length ∧ MksAt w g off zs)
theorem MOwn.slice {w : World} {v : Value} {g : Nat} {zs : List Mk} (h : MOwn w v g zs) : MSlice w v zs := by
  obtain ⟨a, cap, h1, h2, h3, h4⟩ := h
  refine ⟨a, cap, h1, h2, h3, fun h0 => ?_⟩
  obtain ⟨off, e, hr, hN⟩ := h4 h0
  exact ⟨g, off, e, hr.1, hN⟩
theorem MOwn.ext {w w' : World} {v : Value} {g : Nat} {zs : List Mk} (h : MOwn w v g zs) (he : Ext w w') : MOwn w' v g zs := by
  obtain ⟨a, cap, h1, h2, h3, h4⟩ := h
  refine ⟨a, cap, h1, h2, h3, fun h0 => ?_⟩
  obtain ⟨off, e, hr, hN⟩ := h4 h0
  exact ⟨off, e, hr.ext he, hN.ext hr.1 he⟩
theorem own_other {w : World} {v : Value} {b g o : Nat} {zs : List Zn} {x : Value} (h : Own w v b zs) (hne : g ≠ b) : Own (w.setCell ⟨g, o, none⟩ x) v b zs := by
  obtain ⟨a, cap, h1, h2, h3, h4⟩ := h
  refine ⟨a, cap, h1, h2, h3, fun h0 => ?_⟩
  obtain ⟨off, e, hr, hN⟩ := h4 h0
  refine ⟨off, e, ⟨by simpa using hr.1, fun j hj => ?_⟩, nodes_other hN hne⟩
  rw [iset_ne _ _ _ _ _ _ (Or.inl hne)]
  exact ⟨(hr.2 j hj).1, by simpa using (hr.2 j hj).2⟩
theorem eown_other {w : World} {v : Value} {b g o : Nat} {zs : List Se} {x : Value} (h : EOwn w v b zs) (hne : g ≠ b) : EOwn (w.setCell ⟨g, o, none⟩ x) v b zs := by
  obtain ⟨a, cap, h1, h2, h3, h4⟩ := h
  refine ⟨a, cap, h1, h2, h3, fun h0 => ?_⟩
  obtain ⟨off, e, hr, hN⟩ := h4 h0
  refine ⟨off, e, ⟨by simpa using hr.1, fun j hj => ?_⟩, ses_other hN hne⟩
  rw [iset_ne _ _ _ _ _ _ (Or.inl hne)]
  exact ⟨(hr.2 j hj).1, by simpa using (hr.2 j hj).2⟩
theorem mown_other {w : World} {v : Value} {b g o : Nat} {zs : List Mk} {x : Value} (h : MOwn w v b zs) (hne : g ≠ b) : MOwn (w.setCell ⟨g, o, none⟩ x) v b zs := by
  obtain ⟨a, cap, h1, h2, h3, h4⟩ := h
  refine ⟨a, cap, h1, h2, h3, fun h0 => ?_⟩
  obtain ⟨off, e, hr, hN⟩ := h4 h0
  refine ⟨off, e, ⟨by simpa using hr.1, fun j hj => ?_⟩, marks_other hN hne⟩
  rw [iset_ne _ _ _ _ _ _ (Or.inl hne)]
  exact ⟨(hr.2 j hj).1, by simpa using (hr.2 j hj).2⟩
/-- The three slices hold the state, each in a block of its own, all of them new. -/
def SOwn (w w' : World) (vn vs vm : Value) (s : Stt) : Prop := ∃ g1 g2 g3, w.heap.size ≤ g1 ∧ (0 < s.nodes.length → g1 < g2) ∧ g1 ≤ g2 ∧ g2 < g3 ∧ Own w' vn g1 s.nodes ∧ EOwn w' vs g2 s.ses ∧ MOwn w' vm g3 s.marks
theorem SOwn.slice {w w' : World} {vn vs vm : Value} {s : Stt} (h : SOwn w w' vn vs vm s) : SSlice w' vn vs vm s := by
  obtain ⟨g1, g2, g3, -, -, -, -, h1, h2, h3⟩ := h
  exact ⟨h1.slice, h2.slice, h3.slice⟩

set_option maxHeartbeats 2000000 in
set_option maxRecDepth 100000 in
theorem toState_own (s : Stt) (vn vs vm : Value) (w : World) (hS : SSlice w vn vs vm s) (hl : s.small) :
    Calls Tryz.prog 11 #[sagg vn vs s.now vm] w fun e w' => ∃ an cn ae cs am cm, e = .returned (sagg (.slice an s.nodes.length cn) (.slice ae s.ses.length cs) s.now (.slice am s.marks.length cm)) ∧ SOwn w w' (.slice an s.nodes.length cn) (.slice ae s.ses.length cs) (.slice am s.marks.length cm) s ∧ Ext w w' := by
  have H1 : Hid (∀ wx : World, Ext w wx → Calls Tryz.prog 35 #[vn] wx fun e w' => ∃ v', e = .returned v' ∧ Own w' v' wx.heap.size s.nodes ∧ Ext wx w') := fun wx he => toZnodeS_any vn s.nodes wx (hS.1.ext he) hl.1.1
  have H2 : Hid (∀ wx : World, Ext w wx → Calls Tryz.prog 45 #[vs] wx fun e w' => e = .returned (.slice (some ⟨wx.heap.size, 0, none⟩) s.ses.length s.ses.length) ∧ ERoom w' wx.heap.size 0 s.ses.length ∧ SesAt w' wx.heap.size 0 s.ses ∧ Ext wx w') := fun wx he => toSessionS_at vs s.ses wx (hS.2.1.ext he) hl.2.1
  have H3 : Hid (∀ wx : World, Ext w wx → Calls Tryz.prog 46 #[vm] wx fun e w' => e = .returned (.slice (some ⟨wx.heap.size, 0, none⟩) s.marks.length s.marks.length) ∧ MRoom w' wx.heap.size 0 s.marks.length ∧ MksAt w' wx.heap.size 0 s.marks ∧ Ext wx w') := fun wx he => toMarkS_at vm s.marks wx (hS.2.2.ext he) hl.2.2.1
  have HL2 : Hid (s.ses.length ≤ maxLen) := Nat.le_trans hl.2.1 (by unfold maxLen; omega)
  have HL3 : Hid (s.marks.length ≤ maxLen) := Nat.le_trans hl.2.2.1 (by unfold maxLen; omega)
  obtain ⟨⟨an, cn, rfl, -⟩, ⟨ae, cs, rfl, -⟩, ⟨am, cm, rfl, -⟩⟩ := hS
  clear hl
  unfold sagg
  go_enter Tryz.func11, Tryz.ntmps11
  go_wp2_with fail
  refine (H1.out _ ((((Ext.refl _).alloc _).alloc _).alloc _)).mono ?_
  rintro e w1 ⟨v', rfl, hO, hb⟩
  have HE1 : Hid (Ext w w1) := ((((Ext.refl _).alloc _).alloc _).alloc _).trans hb
  have x0 := (sbox_new w (.slice an s.nodes.length cn) (.slice ae s.ses.length cs) (.int .i64 s.now) (.slice am s.marks.length cm) _).ext ((((Ext.refl _).alloc _).alloc _).trans hb)
  have y0 := (sbox_new (w.alloc _) (.slice none 0 0) (.slice none 0 0) (.int .i64 0) (.slice none 0 0) _).ext (((Ext.refl _).alloc _).trans hb)
  have z0 := (sbox_new ((w.alloc _).alloc _) (.slice none 0 0) (.slice none 0 0) (.int .i64 0) (.slice none 0 0) _).ext hb
  have hs1 := hb.size
  simp only [World.size_alloc] at y0 z0 hO hs1
  have XB : Hid (SBoxAt w1 w.heap.size (.slice an s.nodes.length cn) (.slice ae s.ses.length cs) (.int .i64 s.now) (.slice am s.marks.length cm)) := x0
  have YB : Hid (SBoxAt w1 (w.heap.size + 1) (.slice none 0 0) (.slice none 0 0) (.int .i64 0) (.slice none 0 0)) := y0
  have ZB : Hid (SBoxAt w1 (w.heap.size + 1 + 1) (.slice none 0 0) (.slice none 0 0) (.int .i64 0) (.slice none 0 0)) := z0
  obtain ⟨ax, cx, rfl, hO'⟩ := hO
  have HO : Hid (Own w1 (.slice ax s.nodes.length cx) (w.heap.size + 1 + 1 + 1) s.nodes) := ⟨ax, cx, rfl, hO'⟩
  have HOl : Hid (0 < s.nodes.length → w.heap.size + 1 + 1 + 1 < w1.heap.size) := fun h => by obtain ⟨off, -, hr, -⟩ := hO'.2.2 h; exact hr.1
  clear hb x0 y0 z0 hO' H1
  obtain ⟨xl, ⟨xc0, xc1, xc2, xc3⟩, -, -, -, -⟩ := XB.out
  obtain ⟨zl, ⟨zc0, zc1, zc2, zc3⟩, zf0, zf1, zf2, zf3⟩ := ZB.out
  go_wp2_with fail
  refine (H2.out _ (HE1.out.setCell (by simp; omega) _)).mono ?_
  rintro e w2 ⟨rfl, hr2, hs2, hb⟩
  have HE2 : Hid (Ext w w2) := (HE1.out.setCell (by simp; omega) _).trans hb
  have XB2 : Hid (SBoxAt w2 w.heap.size (.slice an s.nodes.length cn) (.slice ae s.ses.length cs) (.int .i64 s.now) (.slice am s.marks.length cm)) := (XB.out.other _ (by omega)).ext hb
  have YB2 : Hid (SBoxAt w2 (w.heap.size + 1) (.slice none 0 0) (.slice none 0 0) (.int .i64 0) (.slice none 0 0)) := (YB.out.other _ (by omega)).ext hb
  have ZB2 : Hid (SBoxAt w2 (w.heap.size + 1 + 1) (.slice ax s.nodes.length cx) (.slice none 0 0) (.int .i64 0) (.slice none 0 0)) := (ZB.out.set0 _).ext hb
  have HO2 : Hid (Own w2 (.slice ax s.nodes.length cx) (w.heap.size + 1 + 1 + 1) s.nodes) := (own_other HO.out (by omega)).ext hb
  have hs := hb.size
  simp only [World.size_setCell] at hr2 hs2 hs ⊢
  have HP2 : Hid (EOwn w2 (.slice (some ⟨w1.heap.size, 0, none⟩) s.ses.length s.ses.length) w1.heap.size s.ses) := ⟨_, _, rfl, Nat.le_refl _, HL2.out, fun _ => ⟨0, rfl, hr2, hs2⟩⟩
  have hlt2 := hr2.1
  clear hb hr2 hs2 HO XB YB ZB HE1 H2 xl xc0 xc1 xc2 xc3 zl zc0 zc1 zc2 zc3 zf0 zf1 zf2 zf3
  obtain ⟨xl, ⟨xc0, xc1, xc2, xc3⟩, -, -, -, -⟩ := XB2.out
  obtain ⟨zl, ⟨zc0, zc1, zc2, zc3⟩, zf0, zf1, zf2, zf3⟩ := ZB2.out
  go_wp2_with fail
  refine (H3.out _ ((HE2.out.setCell (by simp; omega) _).setCell (by simp; omega) _)).mono ?_
  rintro e w3 ⟨rfl, hr3, hs3, hb⟩
  have HE3 : Hid (Ext w w3) := ((HE2.out.setCell (by simp; omega) _).setCell (by simp; omega) _).trans hb
  have YB3 : Hid (SBoxAt w3 (w.heap.size + 1) (.slice none 0 0) (.slice none 0 0) (.int .i64 0) (.slice none 0 0)) := ((YB2.out.other _ (by omega)).other _ (by omega)).ext hb
  have ZB3 : Hid (SBoxAt w3 (w.heap.size + 1 + 1) (.slice ax s.nodes.length cx) (.slice (some ⟨w1.heap.size, 0, none⟩) s.ses.length s.ses.length) (.int .i64 s.now) (.slice none 0 0)) := ((ZB2.out.set1 _).set2 _).ext hb
  have HO3 : Hid (Own w3 (.slice ax s.nodes.length cx) (w.heap.size + 1 + 1 + 1) s.nodes) := (own_other (own_other HO2.out (by omega)) (by omega)).ext hb
  have HP3 : Hid (EOwn w3 (.slice (some ⟨w1.heap.size, 0, none⟩) s.ses.length s.ses.length) w1.heap.size s.ses) := (eown_other (eown_other HP2.out (by omega)) (by omega)).ext hb
  simp only [World.size_setCell] at hr3 hs3 ⊢
  have HQ3 : Hid (MOwn w3 (.slice (some ⟨w2.heap.size, 0, none⟩) s.marks.length s.marks.length) w2.heap.size s.marks) := ⟨_, _, rfl, Nat.le_refl _, HL3.out, fun _ => ⟨0, rfl, hr3, hs3⟩⟩
  clear hb hr3 hs3 HO2 HP2 XB2 YB2 ZB2 HE2 H3 xl xc0 xc1 xc2 xc3 zl zc0 zc1 zc2 zc3 zf0 zf1 zf2 zf3
  obtain ⟨yl, ⟨yc0, yc1, yc2, yc3⟩, yf0, yf1, yf2, yf3⟩ := YB3.out
  obtain ⟨zl, ⟨zc0, zc1, zc2, zc3⟩, zf0, zf1, zf2, zf3⟩ := ZB3.out
  go_wp2
  refine bodyPost_ret (v := sagg (.slice ax s.nodes.length cx) (.slice (some ⟨w1.heap.size, 0, none⟩) s.ses.length s.ses.length) s.now (.slice (some ⟨w2.heap.size, 0, none⟩) s.marks.length s.marks.length)) (by simp [results, Tryz.results11, go_sem, sagg, *]) rfl ⟨_, _, _, _, _, _, rfl, ⟨w.heap.size + 1 + 1 + 1, w1.heap.size, w2.heap.size, by omega, HOl.out, by omega, by omega, ?_, ?_, ?_⟩, ?_⟩
  · exact own_other (own_other (own_other (own_other (own_other HO3.out (by omega)) (by omega)) (by omega)) (by omega)) (by omega)
  · exact eown_other (eown_other (eown_other (eown_other (eown_other HP3.out (by omega)) (by omega)) (by omega)) (by omega)) (by omega)
  · exact mown_other (mown_other (mown_other (mown_other (mown_other HQ3.out (by omega)) (by omega)) (by omega)) (by omega)) (by omega)
  · exact ((((HE3.out.setCell (by simp; omega) _).setCell (by simp) _).setCell (by simp) _).setCell (by simp) _).setCell (by simp) _
theorem toState_any (s : Stt) (vn vs vm : Value) (w : World) (hS : SSlice w vn vs vm s) (hl : s.small) :
    Calls Tryz.prog 11 #[sagg vn vs s.now vm] w fun e w' => ∃ an cn ae cs am cm, e = .returned (sagg (.slice an s.nodes.length cn) (.slice ae s.ses.length cs) s.now (.slice am s.marks.length cm)) ∧ SSlice w' (.slice an s.nodes.length cn) (.slice ae s.ses.length cs) (.slice am s.marks.length cm) s ∧ Ext w w' :=
  (toState_own s vn vs vm w hS hl).mono fun _ _ ⟨an, cn, ae, cs, am, cm, h1, h2, h3⟩ => ⟨an, cn, ae, cs, am, cm, h1, h2.slice, h3⟩
end Go.Proofs.YtdjnkchaapcjpaaGreatDoor
