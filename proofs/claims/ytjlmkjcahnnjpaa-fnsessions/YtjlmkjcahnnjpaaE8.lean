/- the program's OpenSession, TouchSession. -/
import Derived.Test.YtjlmkjcahnnjpaaE7
namespace Go.Proofs.Ytjlmkjcahnnjpaa
open Go.RowKit Go.Maps

/-- A SessionsResult as a value. -/
def er (c : Int) (v : Value) : Value := .agg #[.int .i64 c, v]
/-- A SessionsResult of code c and sessions rs came back, its sessions in new memory. -/
def ERet (w : World) (c : Int) (rs : List Se) (e : Ending) (w' : World) : Prop :=
  ∃ v g, e = .returned (er c v) ∧ w.heap.size ≤ g ∧ EOwn w' v g rs ∧ Ext w w'
/-- Block r holds a SessionsResult that nobody has written yet, and may be written. -/
def EBox (w : World) (r : Nat) : Prop :=
  r < w.heap.size ∧ w.cell? ⟨r, 0, none⟩ = some (.int .i64 0) ∧ w.cell? ⟨r, 1, none⟩ = some (.slice none 0 0) ∧ w.frozen? ⟨r, 0, none⟩ = false ∧ w.frozen? ⟨r, 1, none⟩ = false
theorem EBox.new (w : World) (t : TypeId) : EBox (w.alloc (.cells #[.int .i64 0, .slice none 0 0] t)) w.heap.size := ⟨by simp, by simp, by simp, by simp, by simp⟩
theorem EBox.below {w w2 : World} {r B : Nat} (h : EBox w r) (he : Below B w w2) (hr : r < B) : EBox w2 r := by
  obtain ⟨h1, h2, h3, h5, h6⟩ := h
  exact ⟨Nat.lt_of_lt_of_le h1 he.size, (he.cell (p := ⟨r, 0, none⟩) hr).trans h2, (he.cell (p := ⟨r, 1, none⟩) hr).trans h3, (he.frozen (p := ⟨r, 0, none⟩) hr).trans h5, (he.frozen (p := ⟨r, 1, none⟩) hr).trans h6⟩
theorem EBox.ext {w w2 : World} {r : Nat} (h : EBox w r) (he : Ext w w2) : EBox w2 r := h.below he h.1
theorem eret_box {w w2 : World} (c : Int) {v : Value} {g : Nat} {rs : List Se} (hE : Ext w w2) (hO : EOwn w2 v g rs) (hg : w.heap.size < g) :
    ERet w c rs (.returned (er c v)) ((w2.setCell ⟨w.heap.size, 0, none⟩ (.int .i64 c)).setCell ⟨w.heap.size, 1, none⟩ v) :=
  ⟨v, g, rfl, Nat.le_of_lt hg, hO.upd' (((Upd.refl w.heap.size w2).setAt _ _).setAt _ _) (fun _ => by omega), hE.two _ _⟩
theorem eret_bad {w w2 : World} (c : Int) (hE : Ext w w2) :
    ERet w c [] (.returned (er c (.slice none 0 0))) ((w2.setCell ⟨w.heap.size, 0, none⟩ (.int .i64 c)).setCell ⟨w.heap.size, 1, none⟩ (.slice none 0 0)) :=
  eret_box (g := w.heap.size + 1) c hE ⟨none, 0, rfl, Nat.le_refl _, by unfold maxLen; omega, fun h => by simp at h⟩ (by omega)
theorem putSe_mem {s t : Se} {l : List Se} (h : t ∈ putSe s l) : t = s ∨ t ∈ l := by
  unfold putSe at h
  rcases List.mem_append.1 h with h | h
  · exact Or.inr (List.mem_filter.1 h).1
  · rcases List.mem_cons.1 h with h | h
    · exact Or.inl h
    · exact Or.inr (List.mem_filter.1 h).1

set_option maxHeartbeats 2000000 in
set_option maxRecDepth 100000 in
theorem implOpenSession_any (v : Value) (l : List Se) (i n : Int) (w : World) (hS : ESlice w v l) :
    Calls Try.prog 11 #[v, .int .i64 i, .int .i64 n] w (ERet w (Ses.openV l i n).1 (Ses.openV l i n).2) := by
  have HS : Hid (ESlice w v l) := hS
  have HF : Hid (∀ wx, Ext w wx → Calls Try.prog 33 #[v, .int .i64 i, .int .i64 n] wx fun e w' => e = .returned (.int .i64 (Ses.asked l i n)) ∧ Ext wx w') := fun wx he => sessionFault_any v l i n wx (hS.ext he)
  obtain ⟨a, cap, rfl, -⟩ := hS
  unfold Ses.openV
  by_cases hc : Ses.asked l i n = 0
  · obtain ⟨hf, hi, hn⟩ := Ses.asked_zero hc
    obtain ⟨h6, hr, ho⟩ := Ses.fault_zero hf
    have HR : Hid (∀ wx, Ext w wx → Calls Try.prog 34 #[.slice a l.length cap] wx fun e w' => ∃ b, e = .returned (.map (some b)) ∧ wx.heap.size ≤ b ∧ EMap w' b l.length l ∧ Ext wx w') := fun wx he => rollOf_any _ l wx (HS.out.ext he) h6 hr ho
    have HP : Hid (Rises l ∧ ∀ s ∈ l, Ses.ok s = true) := ⟨hr, ho⟩
    have hkey : keyOf Try.prog 2 (.int .i64 i) = some (.int .i64 i) := key64 (by omega)
    have hhas : Maps.has (mapE l) (.int .i64 i) = hasE l i := mapE_has l i
    rw [hc] at HF
    rw [if_neg (by simp [hc])]
    clear hc hf hr ho
    cases hh : hasE l i with
    | true =>
      rw [hh] at hhas
      rw [if_pos rfl]
      go_enter Try.func11, Try.ntmps11
      go_wp2_with fail
      refine (HF.out _ ((Ext.refl _).alloc _)).mono ?_
      rintro e w2 ⟨rfl, hb⟩
      have HX2 : Hid (EBox w2 w.heap.size) := (EBox.new w _).ext hb
      have HB : Hid (Ext w w2) := ((Ext.refl _).alloc _).trans hb
      clear hb
      go_wp2_with fail
      refine (HR.out _ HB.out).mono ?_
      rintro e w3 ⟨b, rfl, hb3, hM, hb⟩
      have HM : Hid (EMap w3 b l.length l) := hM
      have HX3 : Hid (EBox w3 w.heap.size) := HX2.out.ext hb
      obtain ⟨x0, x1, x2, x3, x4⟩ := id HX3.out
      have HB3 : Hid (Ext w w3) := HB.out.trans hb
      clear hb hM
      go_wp2_with (at_lookup; refine wpList_lookup_own_ok_int _ rfl _ _ 51 rfl 2 2 .i64 law64 Try.underlying51 Try.underlying2 (zero64 _) b l.length _ rfl HM.out _ _ rfl hkey ?_; intro c hat hwc; rw [hhas])
      exact bodyPost_ret (v := er 6 (.slice none 0 0)) (by simp [results, Try.results11, go_sem, er, x1, x2]) rfl (eret_bad _ HB3.out)
    | false =>
      rw [hh] at hhas
      rw [if_neg (by simp)]
      have hsz : Maps.size (mapE l) = l.length := mapE_size l
      by_cases h66 : 6 ≤ l.length
      · rw [if_pos h66]
        have hl6 : ((l.length : Nat) : Int) = 6 := by omega
        go_enter Try.func11, Try.ntmps11
        go_wp2_with fail
        refine (HF.out _ ((Ext.refl _).alloc _)).mono ?_
        rintro e w2 ⟨rfl, hb⟩
        have HX2 : Hid (EBox w2 w.heap.size) := (EBox.new w _).ext hb
        have HB : Hid (Ext w w2) := ((Ext.refl _).alloc _).trans hb
        clear hb
        go_wp2_with fail
        refine (HR.out _ HB.out).mono ?_
        rintro e w3 ⟨b, rfl, hb3, hM, hb⟩
        have HM : Hid (EMap w3 b l.length l) := hM
        have HX3 : Hid (EBox w3 w.heap.size) := HX2.out.ext hb
        obtain ⟨x0, x1, x2, x3, x4⟩ := id HX3.out
        have HB3 : Hid (Ext w w3) := HB.out.trans hb
        clear hb hM
        go_wp2_with (first | (at_lookup; refine wpList_lookup_own_ok_int _ rfl _ _ 51 rfl 2 2 .i64 law64 Try.underlying51 Try.underlying2 (zero64 _) b l.length _ rfl HM.out _ _ rfl hkey ?_; intro c hat hwc; rw [hhas]) | (at_len; refine wpList_len_own _ rfl _ 51 rfl 2 2 Try.underlying51 _ b l.length _ rfl HM.out ?_; rw [hsz, hl6]))
        exact bodyPost_ret (v := er 2 (.slice none 0 0)) (by simp [results, Try.results11, go_sem, er, x1, x2]) rfl (eret_bad _ HB3.out)
      · rw [if_neg h66]
        have hl6 : ((l.length : Nat) : Int) ≠ 6 := by omega
        have hval : plainElem (H := Unit) Try.prog 2 (.int .i64 (n + 10)) = some (.lit (.int .i64 (n + 10)), []) := plainElem_int Try.underlying2 (wf64 (by omega))
        have hput : (mapE l).put (.int .i64 i) (.lit (.int .i64 (n + 10))) = mapE (putSe ⟨i, n + 10⟩ l) := mapE_put ⟨i, n + 10⟩ l HP.out.1
        have HIn : Hid (∀ (b : Nat) (wx : World), EMap wx b (l.length + 1) (putSe ⟨i, n + 10⟩ l) → Calls Try.prog 35 #[.map (some b)] wx fun e w' => ∃ v g, e = .returned v ∧ wx.heap.size ≤ g ∧ EOwn w' v g (putSe ⟨i, n + 10⟩ l) ∧ Ext wx w') := fun b wx h => inOrder_any b _ _ wx h (HP.out.1.put _) (by have := putSe_len ⟨i, n + 10⟩ l; omega) (fun s hs => by
          rcases putSe_mem hs with rfl | hs
          · show _ ≤ i ∧ i ≤ _; omega
          · have := Ses.ok_iff.1 (HP.out.2 s hs); omega)
        generalize putSe ⟨i, n + 10⟩ l = rs at *
        go_enter Try.func11, Try.ntmps11
        go_wp2_with fail
        refine (HF.out _ ((Ext.refl _).alloc _)).mono ?_
        rintro e w2 ⟨rfl, hb⟩
        have HX2 : Hid (EBox w2 w.heap.size) := (EBox.new w _).ext hb
        have HB : Hid (Ext w w2) := ((Ext.refl _).alloc _).trans hb
        clear hb
        go_wp2_with fail
        refine (HR.out _ HB.out).mono ?_
        rintro e w3 ⟨b, rfl, hb3, hM, hb⟩
        have HM : Hid (EMap w3 b l.length l) := hM
        have HX3 : Hid (EBox w3 w.heap.size) := HX2.out.ext hb
        obtain ⟨x0, x1, x2, x3, x4⟩ := id HX3.out
        have HB3 : Hid (Ext w w3) := HB.out.trans hb
        have hb4 : w.heap.size < b := Nat.lt_of_lt_of_le HX2.out.1 hb3
        clear hb hM hb3
        go_wp2_with (first | (at_lookup; refine wpList_lookup_own_ok_int _ rfl _ _ 51 rfl 2 2 .i64 law64 Try.underlying51 Try.underlying2 (zero64 _) b l.length _ rfl HM.out _ _ rfl hkey ?_; intro c hat hwc; rw [hhas]; clear hat hwc) | (at_len; refine wpList_len_own _ rfl _ 51 rfl 2 2 Try.underlying51 _ b l.length _ rfl HM.out ?_; rw [hsz]) | (at_mapUpdate; refine wpList_mapUpdate_own _ rfl _ _ _ 51 rfl 2 2 law64 Try.underlying51 _ b l.length _ rfl HM.out (by unfold maxLen; omega) _ _ _ rfl rfl hkey _ [] hval ?_; intro w4 hown4 hgrow4; rw [hput] at hown4; have HM4 : Hid (EMap w4 b (l.length + 1) rs) := hown4; have HB4 : Hid (Ext w w4) := Below.grown HB3.out hgrow4 HB3.out.size (fun j hj => by cases hj; exact Nat.le_of_lt hb4); have HX4 : Hid (EBox w4 w.heap.size) := HX3.out.below ((Below.refl b w3).grown hgrow4 (Nat.le_of_lt HM.out.lt) (fun j hj => by cases hj; exact Nat.le_refl _)) hb4; clear hown4 hgrow4))
        refine (HIn.out _ _ HM4.out).mono ?_
        rintro e w5 ⟨v5, g5, rfl, hg5, hO5, hb⟩
        have HX5 : Hid (EBox w5 w.heap.size) := HX4.out.ext hb
        have HB5 : Hid (Ext w w5) := HB4.out.trans hb
        have HO5 : Hid (EOwn w5 v5 g5 rs) := hO5
        have hg6 : w.heap.size < g5 := Nat.lt_of_lt_of_le HX4.out.1 hg5
        obtain ⟨a5, cap5, rfl, -⟩ := id hO5
        clear hb hO5 x0 x1 x2 x3 x4
        obtain ⟨x0, x1, x2, x3, x4⟩ := id HX5.out
        go_wp2
        exact bodyPost_ret (v := er 0 (.slice a5 rs.length cap5)) (by simp [results, Try.results11, go_sem, er, x1, x2]) rfl (eret_box 0 HB5.out HO5.out hg6)
  · rw [if_pos hc]
    generalize Ses.asked l i n = c at *
    go_enter Try.func11, Try.ntmps11
    go_wp2_with fail
    refine (HF.out _ ((Ext.refl _).alloc _)).mono ?_
    rintro e w2 ⟨rfl, hb⟩
    have HX2 : Hid (EBox w2 w.heap.size) := (EBox.new w _).ext hb
    have HB : Hid (Ext w w2) := ((Ext.refl _).alloc _).trans hb
    clear hb
    obtain ⟨x0, x1, x2, x3, x4⟩ := id HX2.out
    go_wp2
    exact bodyPost_ret (v := er c (.slice none 0 0)) (by simp [results, Try.results11, go_sem, er, x1, x2]) rfl (eret_bad _ HB.out)
end Go.Proofs.Ytjlmkjcahnnjpaa
