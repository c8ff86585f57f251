/- MarkOf: of the specification and of the program. -/
import Derived.Test.YtdjnkchaapcjpaaGreatDoorN4
import Derived.Test.YtdjnkchaapcjpaaGreatDoorN5
import Derived.Test.YtdjnkchaapcjpaaGreatDoorClone
namespace Go.Proofs.YtdjnkchaapcjpaaGreatDoor
open Go.RowKit
def yr (c d v : Int) (p : ByteArray) : Value := .agg #[.int .i64 c, .int .i64 d, .int .i64 v, .string p]
def YBoxAt (w : World) (b : Nat) (c d v : Int) (p : ByteArray) : Prop := b < w.heap.size ∧ w.cell? ⟨b, 0, none⟩ = some (.int .i64 c) ∧ w.cell? ⟨b, 1, none⟩ = some (.int .i64 d) ∧ w.cell? ⟨b, 2, none⟩ = some (.int .i64 v) ∧ w.cell? ⟨b, 3, none⟩ = some (.string p)
theorem YBoxAt.ext {w w' : World} {b : Nat} {c d v : Int} {p : ByteArray} (h : YBoxAt w b c d v p) (he : Ext w w') : YBoxAt w' b c d v p := by
  obtain ⟨hc, hf⟩ := Ext.cell he
  obtain ⟨hb, c0, c1, c2, c3⟩ := h
  exact ⟨Nat.lt_of_lt_of_le hb he.size, (hc _ _ hb).trans c0, (hc _ _ hb).trans c1, (hc _ _ hb).trans c2, (hc _ _ hb).trans c3⟩
theorem ybox_new (w : World) (c d v : Int) (p : ByteArray) (t : TypeId) : YBoxAt (w.alloc (.cells #[.int .i64 c, .int .i64 d, .int .i64 v, .string p] t)) w.heap.size c d v p := ⟨by simp, by simp, by simp, by simp, by simp⟩
/-- What MarkOf answers: code, and the reply's code, value, path. -/
def Sta.markV (s : Stt) (c n : Int) : Int × Int × Int × ByteArray := if Sta.fault s ≠ 0 then (Sta.fault s, 0, 0, ⟨#[]⟩) else if idxM c n 0 s.marks = -1 then (4, 0, 0, ⟨#[]⟩) else match s.marks[(idxM c n 0 s.marks).toNat]? with
  | some m => (0, m.code, m.value, m.path)
  | none => (0, 0, 0, ⟨#[]⟩)
theorem Sta.markV_bad {s : Stt} {c n f : Int} (h : Sta.fault s = f) (hc : f ≠ 0) : Sta.markV s c n = (f, 0, 0, ⟨#[]⟩) := by unfold Sta.markV; rw [h, if_pos hc]
theorem Sta.markV_none {s : Stt} {c n : Int} (h : Sta.fault s = 0) (hi : idxM c n 0 s.marks = -1) : Sta.markV s c n = (4, 0, 0, ⟨#[]⟩) := by unfold Sta.markV; rw [h, if_neg (by decide), if_pos hi]
theorem Sta.markV_some {s : Stt} {c n : Int} {k : Nat} {m : Mk} (h : Sta.fault s = 0) (hi : idxM c n 0 s.marks = (k : Int)) (hm : s.marks[k]? = some m) : Sta.markV s c n = (0, m.code, m.value, m.path) := by
  unfold Sta.markV
  rw [h, if_neg (by decide), hi, if_neg (by omega)]
  rw [show ((k : Int)).toNat = k from by simp, hm]
def yrT (x : Int × Int × Int × ByteArray) : Value := yr x.1 x.2.1 x.2.2.1 x.2.2.2

/-- Three values of a reply in a box of their own. -/
def RyAt (w : World) (b : Nat) (v0 v1 v2 : Value) : Prop := b < w.heap.size ∧ (w.cell? ⟨b, 0, none⟩ = some v0 ∧ w.cell? ⟨b, 1, none⟩ = some v1 ∧ w.cell? ⟨b, 2, none⟩ = some v2) ∧ w.frozen? ⟨b, 0, none⟩ = false ∧ w.frozen? ⟨b, 1, none⟩ = false ∧ w.frozen? ⟨b, 2, none⟩ = false
theorem RyAt.ext {w w' : World} {b : Nat} {v0 v1 v2 : Value} (h : RyAt w b v0 v1 v2) (he : Ext w w') : RyAt w' b v0 v1 v2 := by
  obtain ⟨hc, hf⟩ := Ext.cell he
  obtain ⟨hb, ⟨c0, c1, c2⟩, f0, f1, f2⟩ := h
  exact ⟨Nat.lt_of_lt_of_le hb he.size, ⟨(hc _ _ hb).trans c0, (hc _ _ hb).trans c1, (hc _ _ hb).trans c2⟩, (hf _ _ hb).trans f0, (hf _ _ hb).trans f1, (hf _ _ hb).trans f2⟩
theorem ry_new (w : World) (v0 v1 v2 : Value) (t : TypeId) : RyAt (w.alloc (.cells #[v0, v1, v2] t)) w.heap.size v0 v1 v2 := ⟨by simp, ⟨by simp, by simp, by simp⟩, by simp, by simp, by simp⟩
theorem markFrom_ok : ∀ (l ah : List Mk), markFrom ah l = 0 → ∀ m ∈ l, okM m = true
  | [], _, _, m, hm => by cases hm
  | x :: r, ah, h, m, hm => by
    rw [markFrom] at h
    split at h
    · cases h
    · rename_i g
      split at h
      · cases h
      · rcases List.mem_cons.1 hm with rfl | hm'
        · simpa using g
        · exact markFrom_ok r _ h m hm'
theorem okM_path {m : Mk} (h : okM m = true) : m.path.size ≤ 24 := by
  unfold okM okY at h
  simp only [Bool.and_eq_true, decide_eq_true_eq] at h
  exact h.2.2.2.2
theorem Ext.four1 {w w2 : World} (h : Ext w w2) (a b c d : Value) : Ext w ((((w2.setCell ⟨w.heap.size + 1, 0, none⟩ a).setCell ⟨w.heap.size + 1, 1, none⟩ b).setCell ⟨w.heap.size + 1, 2, none⟩ c).setCell ⟨w.heap.size + 1, 3, none⟩ d) :=
  (((h.setCell (p := ⟨w.heap.size + 1, 0, none⟩) (by simp) _).setCell (p := ⟨w.heap.size + 1, 1, none⟩) (by simp) _).setCell (p := ⟨w.heap.size + 1, 2, none⟩) (by simp) _).setCell (p := ⟨w.heap.size + 1, 3, none⟩) (by simp) _

set_option maxHeartbeats 1000000 in
set_option maxRecDepth 100000 in
theorem copyReply_any (c v : Int) (p : ByteArray) (w : World) (hp : p.size ≤ 1048576) : Calls Tryz.prog 55 #[yagg c v p] w fun e w' => e = .returned (yagg c v p) ∧ Ext w w' := by
  have HC : Hid (∀ wx : World, Calls Tryz.prog 61 #[.string p] wx fun e w' => e = .returned (.string p) ∧ Ext wx w') := fun wx => clone_any p wx hp
  unfold yagg
  go_enter Tryz.func55, Tryz.ntmps55
  go_wp2_with fail
  refine (HC.out _).mono ?_
  rintro e w1 ⟨rfl, hb⟩
  have HB : Hid (Ext w w1) := (((Ext.refl _).alloc _).alloc _).trans hb
  have x0 := (ry_new w (.int .i64 c) (.int .i64 v) (.string p) _).ext (((Ext.refl _).alloc _).trans hb)
  have y0 := (ry_new (w.alloc _) (.int .i64 0) (.int .i64 0) (.string ByteArray.empty) _).ext hb
  simp only [World.size_alloc] at y0
  obtain ⟨xl, ⟨xc0, xc1, xc2⟩, xf0, xf1, xf2⟩ := x0
  obtain ⟨yl, ⟨yc0, yc1, yc2⟩, yf0, yf1, yf2⟩ := y0
  clear hb
  go_wp2
  refine bodyPost_ret (v := yagg c v p) (by simp [results, Tryz.results55, go_sem, yagg, *]) rfl ⟨rfl, ?_⟩
  exact (((HB.out.setCell (by simp) _).setCell (by simp) _).setCell (by simp) _).setCell (by simp) _

set_option maxHeartbeats 2000000 in
set_option maxRecDepth 100000 in
theorem specMarkOf_any (s : Stt) (vn vs vm : Value) (c n : Int) (w : World) (hz : s.fits) (hS : SSlice w vn vs vm s) :
    Calls Tryz.prog 14 #[sagg vn vs s.now vm, .int .i64 c, .int .i64 n] w fun e w' => e = .returned (yrT (Sta.markV s c n)) ∧ Ext w w' := by
  have HS : Hid (SSlice w vn vs vm s) := hS
  obtain ⟨⟨an, cn, rfl, -⟩, ⟨ae, cs, rfl, -⟩, ⟨am, cm, rfl, -⟩⟩ := hS
  have HF : Hid (∀ wx : World, Ext w wx → SBoxAt wx w.heap.size (.slice an s.nodes.length cn) (.slice ae s.ses.length cs) (.int .i64 s.now) (.slice am s.marks.length cm) → Calls Tryz.prog 44 #[.pointer (some ⟨w.heap.size, 0, none⟩)] wx fun e w' => e = .returned (.int .i64 (Sta.fault s)) ∧ Ext wx w') := fun wx he h => l6Fault_any _ s an ae am cn cs cm wx h hz (HS.out.ext he)
  have HM : Hid (∀ wx : World, Ext w wx → wx.cell? ⟨w.heap.size, 3, none⟩ = some (.slice am s.marks.length cm) → Calls Tryz.prog 53 #[.pointer (some ⟨w.heap.size, 0, none⟩), .int .i64 c, .int .i64 n] wx fun e w' => e = .returned (.int .i64 (idxM c n 0 s.marks)) ∧ Ext wx w') := fun wx he h => l6Mark_any _ am cm s.marks c n wx h (HS.out.2.2.ext he)
  clear hz
  unfold sagg
  by_cases hc0 : Sta.fault s ≠ 0
  · rw [Sta.markV_bad rfl hc0]
    generalize Sta.fault s = f at *
    go_enter Tryz.func14, Tryz.ntmps14
    go_wp2_with fail
    refine (HF.out _ (((Ext.refl _).alloc _).alloc _) ((sbox_new w _ _ _ _ _).ext ((Ext.refl _).alloc _))).mono ?_
    rintro e w2 ⟨rfl, hb⟩
    have HB : Hid (Ext w w2) := (((Ext.refl _).alloc _).alloc _).trans hb
    have qx := (sbox_new (w.alloc _) (.int .i64 0) (.int .i64 0) (.int .i64 0) (.string ByteArray.empty) _).ext hb
    simp only [World.size_alloc] at qx
    obtain ⟨q, ⟨q0, q1, q2, q3⟩, f0, f1, f2, f3⟩ := qx
    clear hb
    go_wp2
    exact bodyPost_ret (v := yr f 0 0 ⟨#[]⟩) (by simp [results, Tryz.results14, go_sem, yr, q0, q1, q2, q3]) rfl ⟨rfl, HB.out.four1 _ _ _ _⟩
  have hc1 : Sta.fault s = 0 := by omega
  rw [hc1] at HF
  rcases idxM_is c n s.marks 0 with ⟨g1, g2⟩ | ⟨k, g1, g2, -, z, g4, -⟩
  · rw [Sta.markV_none hc1 g1]
    rw [g1] at HM
    clear hc0 hc1 g1 g2
    go_enter Tryz.func14, Tryz.ntmps14
    go_wp2_with fail
    refine (HF.out _ (((Ext.refl _).alloc _).alloc _) ((sbox_new w _ _ _ _ _).ext ((Ext.refl _).alloc _))).mono ?_
    rintro e w2 ⟨rfl, hb⟩
    have HB : Hid (Ext w w2) := (((Ext.refl _).alloc _).alloc _).trans hb
    have qx := (sbox_new (w.alloc _) (.int .i64 0) (.int .i64 0) (.int .i64 0) (.string ByteArray.empty) _).ext hb
    simp only [World.size_alloc] at qx
    have HQ : Hid (SBoxAt w2 (w.heap.size + 1) (.int .i64 0) (.int .i64 0) (.int .i64 0) (.string ByteArray.empty)) := qx
    have HX : Hid (w2.cell? ⟨w.heap.size, 3, none⟩ = some (.slice am s.marks.length cm)) := ((sbox_new w (.slice an s.nodes.length cn) (.slice ae s.ses.length cs) (.int .i64 s.now) (.slice am s.marks.length cm) _).ext (((Ext.refl _).alloc _).trans hb)).2.1.2.2.2
    clear hb qx
    go_wp2_with fail
    refine (HM.out _ HB.out HX.out).mono ?_
    rintro e w3 ⟨rfl, hb⟩
    have HB3 : Hid (Ext w w3) := HB.out.trans hb
    obtain ⟨q, ⟨q0, q1, q2, q3⟩, f0, f1, f2, f3⟩ := HQ.out.ext hb
    clear hb HB HX HQ
    go_wp2
    exact bodyPost_ret (v := yr 4 0 0 ⟨#[]⟩) (by simp [results, Tryz.results14, go_sem, yr, q0, q1, q2, q3]) rfl ⟨rfl, HB3.out.four1 _ _ _ _⟩
  · rw [Nat.zero_add] at g2
    rw [Sta.markV_some hc1 g2 g4]
    rw [g2] at HM
    obtain ⟨am', cm', e, hml, hmm, hmx⟩ := HS.out.2.2
    injection e with e1 e2 e3
    subst e1 e3
    obtain ⟨b, off, rfl, hbl, hN⟩ := hmx (by omega)
    unfold maxLen at hmm
    have HN : Hid (∀ wx, Ext w wx → MAt wx b (off + k * 5) z) := fun wx he => (hN.ext hbl he) k z g4
    clear hc0 hc1 g2 g4 hN hmx e2
    go_enter Tryz.func14, Tryz.ntmps14
    go_wp2_with fail
    refine (HF.out _ (((Ext.refl _).alloc _).alloc _) ((sbox_new w _ _ _ _ _).ext ((Ext.refl _).alloc _))).mono ?_
    rintro e w2 ⟨rfl, hb⟩
    have HB : Hid (Ext w w2) := (((Ext.refl _).alloc _).alloc _).trans hb
    have qx := (sbox_new (w.alloc _) (.int .i64 0) (.int .i64 0) (.int .i64 0) (.string ByteArray.empty) _).ext hb
    simp only [World.size_alloc] at qx
    have HQ : Hid (SBoxAt w2 (w.heap.size + 1) (.int .i64 0) (.int .i64 0) (.int .i64 0) (.string ByteArray.empty)) := qx
    have HX : Hid (SBoxAt w2 w.heap.size (.slice an s.nodes.length cn) (.slice ae s.ses.length cs) (.int .i64 s.now) (.slice (some ⟨b, off, none⟩) s.marks.length cm)) := (sbox_new w _ _ _ _ _).ext (((Ext.refl _).alloc _).trans hb)
    clear hb qx
    go_wp2_with fail
    refine (HM.out _ HB.out HX.out.2.1.2.2.2).mono ?_
    rintro e w3 ⟨rfl, hb⟩
    have HB3 : Hid (Ext w w3) := HB.out.trans hb
    obtain ⟨q, ⟨q0, q1, q2, q3⟩, f0, f1, f2, f3⟩ := HQ.out.ext hb
    obtain ⟨x, ⟨x0, x1, x2, x3⟩, -⟩ := HX.out.ext hb
    obtain ⟨d0, d1, d2, d3, d4⟩ := HN.out _ HB3.out
    clear hb HB HX HQ
    go_wp2
    exact bodyPost_ret (v := yr 0 z.code z.value z.path) (by simp [results, Tryz.results14, go_sem, yr, q0, q1, q2, q3]) rfl ⟨rfl, HB3.out.four1 _ _ _ _⟩

set_option maxHeartbeats 2000000 in
set_option maxRecDepth 100000 in
theorem implMarkOf_any (s : Stt) (vn vs vm : Value) (c n : Int) (w : World) (hg : Gd w) (hz : s.fits) (hS : SSlice w vn vs vm s) :
    Calls Tryz.prog 15 #[sagg vn vs s.now vm, .int .i64 c, .int .i64 n] w fun e w' => e = .returned (yrT (Sta.markV s c n)) ∧ Ext w w' := by
  have HF : Hid (∀ wx : World, Ext w wx → SSlice wx vn vs vm s → Calls Tryz.prog 12 #[sagg vn vs s.now vm] wx fun e w' => e = .returned (.int .i64 (Sta.fault s)) ∧ Ext wx w') := fun wx he h => implStateFault_any s vn vs vm wx (hg.ext he) hz h
  have HS : Hid (SSlice w vn vs vm s) := hS
  have HM : Hid (∀ wx : World, Ext w wx → Calls Tryz.prog 54 #[vm, .int .i64 c, .int .i64 n] wx fun e w' => ∃ p, e = .returned (.pointer p) ∧ FoundM wx s.marks c n p ∧ Ext wx w') := fun wx he => findMark_any vm s.marks c n wx (hS.2.2.ext he)
  obtain ⟨⟨an, cn, rfl, -⟩, ⟨ae, cs, rfl, -⟩, ⟨am, cm, rfl, -⟩⟩ := hS
  clear hz hg
  unfold sagg at *
  by_cases hc0 : Sta.fault s ≠ 0
  · rw [Sta.markV_bad rfl hc0]
    generalize Sta.fault s = f at *
    go_enter Tryz.func15, Tryz.ntmps15
    go_wp2_with fail
    refine (HF.out _ (((Ext.refl _).alloc _).alloc _) (HS.out.ext (((Ext.refl _).alloc _).alloc _))).mono ?_
    rintro e w2 ⟨rfl, hb⟩
    have HB : Hid (Ext w w2) := (((Ext.refl _).alloc _).alloc _).trans hb
    have qx := (sbox_new (w.alloc _) (.int .i64 0) (.int .i64 0) (.int .i64 0) (.string ByteArray.empty) _).ext hb
    simp only [World.size_alloc] at qx
    obtain ⟨q, ⟨q0, q1, q2, q3⟩, f0, f1, f2, f3⟩ := qx
    clear hb
    go_wp2
    exact bodyPost_ret (v := yr f 0 0 ⟨#[]⟩) (by simp [results, Tryz.results15, go_sem, yr, q0, q1, q2, q3]) rfl ⟨rfl, HB.out.four1 _ _ _ _⟩
  have hc1 : Sta.fault s = 0 := by omega
  rw [hc1] at HF
  have HOK : Hid (∀ m ∈ s.marks, m.path.size ≤ 24) := fun m hm => okM_path (markFrom_ok _ _ (Sta.fault_zero hc1).2.2.2.2 m hm)
  have HV1 : Hid (idxM c n 0 s.marks = -1 → Sta.markV s c n = (4, 0, 0, ⟨#[]⟩)) := fun h => Sta.markV_none hc1 h
  have HV2 : Hid (∀ (k : Nat) m, idxM c n 0 s.marks = (k : Int) → s.marks[k]? = some m → Sta.markV s c n = (0, m.code, m.value, m.path)) := fun k m h1 h2 => Sta.markV_some hc1 h1 h2
  clear hc0 hc1
  go_enter Tryz.func15, Tryz.ntmps15
  go_wp2_with fail
  refine (HF.out _ (((Ext.refl _).alloc _).alloc _) (HS.out.ext (((Ext.refl _).alloc _).alloc _))).mono ?_
  rintro e w2 ⟨rfl, hb⟩
  have HB : Hid (Ext w w2) := (((Ext.refl _).alloc _).alloc _).trans hb
  have qx := (sbox_new (w.alloc _) (.int .i64 0) (.int .i64 0) (.int .i64 0) (.string ByteArray.empty) _).ext hb
  simp only [World.size_alloc] at qx
  have HQ : Hid (SBoxAt w2 (w.heap.size + 1) (.int .i64 0) (.int .i64 0) (.int .i64 0) (.string ByteArray.empty)) := qx
  obtain ⟨x, ⟨x0, x1, x2, x3⟩, -⟩ := (sbox_new w (.slice an s.nodes.length cn) (.slice ae s.ses.length cs) (.int .i64 s.now) (.slice am s.marks.length cm) _).ext (((Ext.refl _).alloc _).trans hb)
  clear hb qx
  go_wp2_with fail
  refine (HM.out _ HB.out).mono ?_
  rintro e w3 ⟨p, rfl, hF, hb⟩
  have HB3 : Hid (Ext w w3) := HB.out.trans hb
  have HQ3 : Hid (SBoxAt w3 (w.heap.size + 1) (.int .i64 0) (.int .i64 0) (.int .i64 0) (.string ByteArray.empty)) := HQ.out.ext hb
  clear x x0 x1 x2 x3
  rcases hF with ⟨rfl, g1, -⟩ | ⟨b, o, k, z, rfl, hbl, hN, g4, g2, -⟩
  · have HVx : Hid (Sta.markV s c n = (4, 0, 0, ⟨#[]⟩)) := HV1.out g1
    obtain ⟨q, ⟨q0, q1, q2, q3⟩, f0, f1, f2, f3⟩ := HQ3.out
    clear hb g1 HB HQ
    go_wp2
    exact bodyPost_ret (v := yr 4 0 0 ⟨#[]⟩) (by simp [results, Tryz.results15, go_sem, yr, q0, q1, q2, q3]) rfl ⟨by rw [HVx.out]; rfl, HB3.out.four1 _ _ _ _⟩
  · have HVx : Hid (Sta.markV s c n = (0, z.code, z.value, z.path)) := HV2.out k z g2 g4
    have HP : Hid (∀ wx : World, Calls Tryz.prog 55 #[.agg #[.int .i64 z.code, .int .i64 z.value, .string z.path]] wx fun e w' => e = .returned (.agg #[.int .i64 z.code, .int .i64 z.value, .string z.path]) ∧ Ext wx w') := fun wx => copyReply_any z.code z.value z.path wx (Nat.le_trans (HOK.out z (List.mem_of_getElem? g4)) (by omega))
    obtain ⟨d0, d1, d2, d3, d4⟩ := hN.ext hbl hb
    clear hb g2 g4 HB HQ hN hbl
    go_wp2_with fail
    refine (HP.out _).mono ?_
    rintro e w4 ⟨rfl, hb⟩
    have HB4 : Hid (Ext w w4) := HB3.out.trans hb
    obtain ⟨q, ⟨q0, q1, q2, q3⟩, f0, f1, f2, f3⟩ := HQ3.out.ext hb
    clear hb HB3 HQ3 d0 d1 d2 d3 d4
    go_wp2
    exact bodyPost_ret (v := yr 0 z.code z.value z.path) (by simp [results, Tryz.results15, go_sem, yr, q0, q1, q2, q3]) rfl ⟨by rw [HVx.out]; rfl, HB4.out.four1 _ _ _ _⟩
end Go.Proofs.YtdjnkchaapcjpaaGreatDoor
