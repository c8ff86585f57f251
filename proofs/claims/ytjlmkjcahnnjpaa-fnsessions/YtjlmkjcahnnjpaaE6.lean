/- sessions in a map: rollOf, isLive; the program's LiveSession. -/
import Derived.Test.YtjlmkjcahnnjpaaE5
import Derived.Maps.OwnSet
import Derived.Maps.OwnOps
namespace Go.Proofs.Ytjlmkjcahnnjpaa
open Go.RowKit Go.Maps

theorem law64 : Keyed Try.prog 2 := int_keyed Try.underlying2
theorem zero64 (w : World) : (zeroValue 2).run Try.prog w = .ok (.int .i64 0) w := by kernel_rfl
/-- Block b holds a map of the sessions l. -/
def EMap (w : World) (b n : Nat) (l : List Se) : Prop := w.ownsMap Try.prog 2 (plainElem (H := Unit) Try.prog 2) b n (mapE l)
theorem EMap.lt {w : World} {b n : Nat} {l : List Se} (h : EMap w b n l) : b < w.heap.size := World.ownsMap.lt h
theorem EMap.ext {w w' : World} {b n : Nat} {l : List Se} (h : EMap w b n l) (he : Ext w w') : EMap w' b n l := by
  have hlt := h.lt
  obtain ⟨es, clock, hb, F, hs, hD⟩ := h
  exact ⟨es, clock, (Below.block he b hlt).trans hb, F, hs, hD⟩
theorem wf64 {n : Int} (h : -100000 ≤ n ∧ n ≤ 100000) : (Lit.int .i64 n).wf = true := WalkArith.wf_i64 (by omega)
theorem key64 {n : Int} (h : -100000 ≤ n ∧ n ≤ 100000) : keyOf Try.prog 2 (.int .i64 n) = some (.int .i64 n) := keyOf_int_mk Try.underlying2 (wf64 h)
theorem make_roll (n : Int) (w : World) : (Instr.makeMap 51 (some (.int .i64 n))).run Try.prog w = .ok (.map (some w.heap.size)) (w.alloc (.map #[] 0)) := by
  simp [Instr.makeMap, run_underlying Try.underlying51, asInt, go_sem]

set_option maxHeartbeats 2000000 in
set_option maxRecDepth 100000 in
theorem rollOf_any (v : Value) (l : List Se) (w : World) (hS : ESlice w v l) (h6 : l.length ≤ 6) (hr : Rises l) (ho : ∀ s ∈ l, Ses.ok s = true) :
    Calls Try.prog 34 #[v] w fun e w' => ∃ b, e = .returned (.map (some b)) ∧ w.heap.size ≤ b ∧ EMap w' b l.length l ∧ Ext w w' := by
  obtain ⟨a, cap, rfl, hlc, hcm, hx⟩ := hS
  have HX : Hid (0 < l.length → ∃ b off, a = some ⟨b, off, none⟩ ∧ b < w.heap.size ∧ SesAt w b off l) := hx
  have HO : Hid (Rises l ∧ ∀ s ∈ l, Ses.ok s = true) := ⟨hr, ho⟩
  clear hx hr ho
  unfold maxLen at hcm
  have hmk := make_roll
  go_enter Try.func34, Try.ntmps34
  go_wp2
  go_loopw [11] (fun i wr => ∃ (k : Nat), k ≤ l.length ∧ i = .int .i64 k ∧ Hid (EMap wr w.heap.size k (l.take k)) ∧ Hid (Ext w wr)) (fun i _ => l.length - (intOf i).toNat)
  case atStart => exact ⟨0, Nat.zero_le _, rfl, World.ownsMap_made _ _ _ _, (Ext.refl _).alloc _⟩
  case round =>
    obtain ⟨k, hk, rfl, HM, HE⟩ := hrel
    by_cases hlt : k < l.length
    · obtain ⟨s, hsk⟩ : ∃ s, l[k]? = some s := ⟨_, List.getElem?_eq_getElem hlt⟩
      obtain ⟨b, off, rfl, hb, hN⟩ := HX.out (by omega)
      obtain ⟨d0, d1⟩ := hN.ext hb HE.out k s hsk
      have hos := Ses.ok_iff.1 (HO.out.2 s (List.mem_of_getElem? hsk))
      have hkey : keyOf Try.prog 2 (.int .i64 s.id) = some (.int .i64 s.id) := key64 (by omega)
      have hval : plainElem (H := Unit) Try.prog 2 (.int .i64 s.til) = some (.lit (.int .i64 s.til), []) := plainElem_int Try.underlying2 (wf64 (by omega))
      have hput : (mapE (l.take k)).put (.int .i64 s.id) (.lit (.int .i64 s.til)) = mapE (l.take (k + 1)) := by rw [mapE_put s _ (HO.out.1.sublist (List.take_sublist _ _)), put_last HO.out.1 hsk]
      clear hN hsk
      go_wp2_with (at_mapUpdate; refine wpList_mapUpdate_own _ rfl _ _ _ 51 rfl 2 2 law64 Try.underlying51 _ w.heap.size k _ rfl (World.ownsMap.alloc HM.out _) (by unfold maxLen; omega) _ _ _ rfl rfl hkey _ [] hval ?_; intro w1 hown1 hgrow1)
      exact ⟨⟨k + 1, by omega, by go_num, by rw [hput] at hown1; exact hown1, Below.grown (HE.out.alloc _) hgrow1 (HE.out.alloc _).size (fun j hj => by cases hj; exact Nat.le_refl _)⟩, by simp [intOf]; omega⟩
    · have hke : k = l.length := by omega
      subst hke
      go_wp2
      go_ret
      exact ⟨_, rfl, Nat.le_refl _, by have := HM.out; rw [List.take_length] at this; exact this, HE.out⟩

set_option maxHeartbeats 1000000 in
set_option maxRecDepth 100000 in
theorem isLive_any (b n : Nat) (l : List Se) (i now : Int) (w : World) (hM : EMap w b n l) (hi : -100000 ≤ i ∧ i ≤ 100000) :
    Calls Try.prog 36 #[.map (some b), .int .i64 i, .int .i64 now] w fun e w' => e = .returned (.bool (Ses.live l i now)) ∧ w' = w := by
  have hkey := key64 hi
  have hhas : Maps.has (mapE l) (.int .i64 i) = hasE l i := mapE_has l i
  have hatt := mapE_at l i
  unfold Ses.live
  cases hh : hasE l i with
  | false =>
    rw [hh] at hhas
    rw [Bool.false_and]
    go_enter Try.func36, Try.ntmps36
    go_wp2_with (at_lookup; refine wpList_lookup_own_ok_int _ rfl _ _ 51 rfl 2 2 .i64 law64 Try.underlying51 Try.underlying2 (zero64 _) b n _ rfl hM _ _ rfl hkey ?_; intro c hat hwc; rw [hhas])
    go_ret
    exact ⟨rfl, rfl⟩
  | true =>
    rw [hh] at hhas
    rw [Bool.true_and]
    generalize tilE l i = t at *
    go_enter Try.func36, Try.ntmps36
    go_wp2_with (at_lookup; refine wpList_lookup_own_ok_int _ rfl _ _ 51 rfl 2 2 .i64 law64 Try.underlying51 Try.underlying2 (zero64 _) b n _ rfl hM _ _ rfl hkey ?_; intro c hat hwc; rw [hhas]; rw [hatt] at hat; simp only [DataW.lit.injEq, Lit.int.injEq, true_and] at hat; rw [← hat]; clear hat hwc)
    go_ret
    exact ⟨rfl, rfl⟩

set_option maxHeartbeats 1000000 in
theorem implLiveSession_any (v : Value) (l : List Se) (i n : Int) (w : World) (hS : ESlice w v l) :
    Calls Try.prog 15 #[v, .int .i64 i, .int .i64 n] w fun e w' => e = .returned (.bool (Ses.liveV l i n)) ∧ Ext w w' := by
  have HS : Hid (ESlice w v l) := hS
  have HF : Hid (Calls Try.prog 33 #[v, .int .i64 i, .int .i64 n] w fun e w' => e = .returned (.int .i64 (Ses.asked l i n)) ∧ Ext w w') := sessionFault_any v l i n w hS
  obtain ⟨a, cap, rfl, -⟩ := hS
  unfold Ses.liveV
  by_cases hc : Ses.asked l i n = 0
  · obtain ⟨hf, hi, -⟩ := Ses.asked_zero hc
    obtain ⟨h6, hr, ho⟩ := Ses.fault_zero hf
    have HR : Hid (∀ wx, Ext w wx → Calls Try.prog 34 #[.slice a l.length cap] wx fun e w' => ∃ b, e = .returned (.map (some b)) ∧ wx.heap.size ≤ b ∧ EMap w' b l.length l ∧ Ext wx w') := fun wx he => rollOf_any _ l wx (HS.out.ext he) h6 hr ho
    have HL : Hid (∀ (b : Nat) (wx : World), EMap wx b l.length l → Calls Try.prog 36 #[.map (some b), .int .i64 i, .int .i64 n] wx fun e w' => e = .returned (.bool (Ses.live l i n)) ∧ w' = wx) := fun b wx h => isLive_any b _ l i n wx h (by omega)
    rw [hc] at HF ⊢
    rw [decide_eq_true rfl, Bool.true_and]
    clear hc hf hr ho
    generalize Ses.live l i n = B at *
    go_enter Try.func15, Try.ntmps15
    go_wp2_with fail
    refine HF.out.mono ?_
    rintro e w2 ⟨rfl, hb⟩
    have HB : Hid (Ext w w2) := hb
    clear hb
    go_wp2_with fail
    refine (HR.out _ HB.out).mono ?_
    rintro e w3 ⟨b, rfl, -, hM, hb⟩
    have HM : Hid (EMap w3 b l.length l) := hM
    have HB3 : Hid (Ext w w3) := HB.out.trans hb
    clear hb hM
    go_wp2_with fail
    refine (HL.out _ _ HM.out).mono ?_
    rintro e w4 ⟨rfl, rfl⟩
    go_wp2
    go_ret
    exact ⟨rfl, HB3.out⟩
  · rw [decide_eq_false hc, Bool.false_and]
    generalize Ses.asked l i n = c at *
    go_enter Try.func15, Try.ntmps15
    go_wp2_with fail
    refine HF.out.mono ?_
    rintro e w2 ⟨rfl, hb⟩
    have HB : Hid (Ext w w2) := hb
    clear hb
    go_wp2
    go_ret
    exact ⟨rfl, HB.out⟩
end Go.Proofs.Ytjlmkjcahnnjpaa
