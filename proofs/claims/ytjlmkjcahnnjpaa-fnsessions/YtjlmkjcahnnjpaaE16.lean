/- the draws of sessions, on: l4Bent, l4With, DrawOpenSession. -/
import Derived.Test.YtjlmkjcahnnjpaaE15
namespace Go.Proofs.Ytjlmkjcahnnjpaa
open Go.RowKit

theorem nums2 (w : World) (x y : Int) (t : TypeId) : NumsAt (w.alloc (.cells #[.int .i64 x, .int .i64 y] t)) w.heap.size 0 [x, y] := by
  intro i u hu
  match i, hu with
  | 0, hu => cases hu; simp
  | 1, hu => cases hu; simp
theorem nums5 (w : World) (x y z v u5 : Int) (t : TypeId) : NumsAt (w.alloc (.cells #[.int .i64 x, .int .i64 y, .int .i64 z, .int .i64 v, .int .i64 u5] t)) w.heap.size 0 [x, y, z, v, u5] := by
  intro i u hu
  match i, hu with
  | 0, hu => cases hu; simp
  | 1, hu => cases hu; simp
  | 2, hu => cases hu; simp
  | 3, hu => cases hu; simp
  | 4, hu => cases hu; simp
theorem DSt.lt {w wx : World} {b a k : Nat} {cv v : Value} {l : List Se} (h : DSt w b a k cv v l wx) : b < wx.heap.size := by
  obtain ⟨a', q1, q2, q6, q7, q8, q9⟩ := h
  exact q7.lt

set_option maxHeartbeats 2000000 in
set_option maxRecDepth 100000 in
theorem l4Bent_any (b a : Nat) (cv : Value) (w : World) (h : SrcAt w b a cv) (ha : a ≤ 900) :
    Calls Try.prog 53 #[.pointer (some ⟨b, 0, none⟩)] w fun e w' => ∃ v l, e = .returned v ∧ DSt w b a 14 cv v l w' := by
  have hi9 : (Try.prog.info? 58).map (fun i => (i.zero, i.size, i.bytes)) = some (some (.agg #[.int .i64 0, .int .i64 0]), 2, 16) := by kernel_rfl
  obtain ⟨ti, hti, hxx⟩ := Option.map_eq_some_iff.1 hi9
  simp only [Prod.mk.injEq] at hxx
  obtain ⟨hz0, hz1, hz2⟩ := hxx
  clear hi9
  have HR : Hid (Calls Try.prog 62 #[.pointer (some ⟨b, 0, none⟩)] w fun e w' => ∃ v l, e = .returned v ∧ l.length ≤ 6 ∧ DSt w b a 11 cv v l w') := l4Right_any b a cv w h ha
  clear h
  go_enter Try.func53, Try.ntmps53
  go_wp2_with fail
  refine HR.out.mono ?_
  rintro e w1 ⟨v, l, rfl, hl6, hD⟩
  obtain ⟨bb, off, cap0, hv0⟩ := hD.form
  subst hv0
  generalize (some (⟨bb, off, none⟩ : Addr)) = a0 at *
  have HD : Hid (DSt w b a 11 cv (.slice a0 l.length cap0) l w1) := hD
  clear hD HR
  go_wp2_with fail
  refine (HD.out.next 12 (by omega) (by omega) (by omega)).mono ?_
  rintro e w2 ⟨r1, rfl, p0, p1, hD1⟩
  have HD1 : Hid (DSt w b a 12 cv (.slice a0 l.length cap0) l w2) := hD1
  clear hD1 HD
  by_cases hr0 : r1 = 0
  · subst hr0
    go_wp2_with fail
    refine ((HD1.out.ext ((Ext.refl _).alloc _)).pick w2.heap.size 4 [0, 1, 9, 10] HD1.out.lt (nums4 _ _ _ _ _ _) (by simp) (by simp) (by omega)).mono ?_
    rintro e w3 ⟨x, rfl, hD2⟩
    have HD2 : Hid (DSt w b a 13 cv (.slice a0 l.length cap0) l w3) := hD2
    clear hD2
    go_wp2_with fail
    refine ((HD2.out.ext ((Ext.refl _).alloc _)).pick w3.heap.size 2 [5, -1] HD2.out.lt (nums2 _ _ _ _) (by simp) (by simp) (by omega)).mono ?_
    rintro e w4 ⟨y, rfl, hD3⟩
    have HD3 : Hid (DSt w b a 14 cv (.slice a0 l.length cap0) l w4) := hD3
    clear hD3
    have HO : Hid (w4.ownsRow (b + 1) 58 2 (.slice a0 l.length cap0) l.length (cellsE l)) := by obtain ⟨a', q1, q2, -⟩ := HD3.out; exact q2
    have hbw := HD3.out.lt
    go_wp2_with (at_builtin; go_must (refine wpList_append_own _ rfl _ _ 24 rfl (b + 1) 58 ti (.agg #[.int .i64 0, .int .i64 0]) 2 16 Try.underlying24 hti hz0 hz1 hz2 rfl (by decide) (.slice a0 l.length cap0) _ _ rfl (HO.out.alloc _) ⟨w4.heap.size, 0, none⟩ 1 1 (cellsE [⟨x, y⟩]) rfl rfl (cells_ses _ _ _ _) (cellsE_one _) (by unfold maxLen; omega) (by omega) (by simp; omega) ?_; intro v6 w6 hown6 hgrow6 hnil6))
    have HO6 : Hid (w6.ownsRow (b + 1) 58 2 v6 (l ++ [(⟨x, y⟩ : Se)]).length (cellsE (l ++ [⟨x, y⟩]))) := by show World.ownsRow _ _ _ _ _ _ _; rw [List.length_append, cellsE_app]; exact hown6
    have HB6 : Hid (Below (b + 1) w4 w6) := ((Below.refl _ _).alloc (by omega) _).grown hgrow6 (by simp; omega) (fun q hq => (HO.out.lt q hq).1)
    clear hown6 hgrow6 hnil6
    have HF : Hid (DSt w b a 14 cv v6 (l ++ [⟨x, y⟩]) w6) := by
      obtain ⟨a', q1, q2, q6, q7, q8, q9⟩ := HD3.out
      obtain ⟨g, hg, hE⟩ := eown_of_owns HO6.out
      exact ⟨a', hE.some (by simp), HO6.out, by simp; omega, q7.kept HB6.out, q8, q9.trans (Below.mono HB6.out (Nat.le_succ _))⟩
    go_wp2
    go_ret
    exact ⟨_, _, rfl, HF.out⟩
  · by_cases hr1 : r1 = 1
    · subst hr1
      have hbw := HD1.out.lt
      have hmk : ∀ W : World, (Instr.makeSlice 24 (.int .i64 7) (.int .i64 7)).run Try.prog W = .ok (.slice (some ⟨W.heap.size, 0, none⟩) 7 7) (W.alloc (.cells #[.int .i64 0, .int .i64 0, .int .i64 0, .int .i64 0, .int .i64 0, .int .i64 0, .int .i64 0, .int .i64 0, .int .i64 0, .int .i64 0, .int .i64 0, .int .i64 0, .int .i64 0, .int .i64 0] 58)) := fun W => by
        have h := run_make (P := Try.prog) W 24 58 ti _ Try.underlying24 hti hz0 .i64 .i64 7 7 (by omega) (by omega) (by rw [hz2]; omega) (by omega)
        have hm : madeCells (Value.agg #[.int .i64 0, .int .i64 0]).cells (Int.toNat 7 * 2) = #[.int .i64 0, .int .i64 0, .int .i64 0, .int .i64 0, .int .i64 0, .int .i64 0, .int .i64 0, .int .i64 0, .int .i64 0, .int .i64 0, .int .i64 0, .int .i64 0, .int .i64 0, .int .i64 0] := by kernel_rfl
        rw [hz1, hm] at h
        exact h
      have HF : Hid (∀ W, W = w2.alloc (.cells #[.int .i64 0, .int .i64 0, .int .i64 0, .int .i64 0, .int .i64 0, .int .i64 0, .int .i64 0, .int .i64 0, .int .i64 0, .int .i64 0, .int .i64 0, .int .i64 0, .int .i64 0, .int .i64 0] 58) → DSt w b a 14 cv (.slice (some ⟨w2.heap.size, 0, none⟩) 7 7) [⟨0, 0⟩, ⟨0, 0⟩, ⟨0, 0⟩, ⟨0, 0⟩, ⟨0, 0⟩, ⟨0, 0⟩, ⟨0, 0⟩] W) := by
        intro W hW
        rw [hW]
        obtain ⟨a', q1, q2, q6, q7, q8, q9⟩ := HD1.out
        exact ⟨a', ⟨_, _, _, _, rfl⟩, World.ownsRow_lit w2 _ 7 (by omega) (by unfold maxLen; omega) rfl, by simp, q7.alloc _, by omega, q9.trans ((Below.refl _ _).alloc (by omega) _)⟩
      go_wp2
      go_ret
      exact ⟨_, _, rfl, HF.out _ rfl⟩
    · go_wp2
      go_ret
      exact ⟨_, l, rfl, HD1.out.more (by omega)⟩

/-- What a draw of sessions, an Id and a time leaves. -/
def DrawnE (w : World) (e : Ending) (w' : World) : Prop := ∃ v l i n, e = .returned (.tuple #[v, .int .i64 i, .int .i64 n]) ∧ SomeS v ∧ ESlice w' v l ∧ l.length ≤ 7 ∧ Ext w w'
set_option maxHeartbeats 2000000 in
set_option maxRecDepth 100000 in
theorem l4With_any (cv : Value) (w : World) (hc : CodeOk w w.heap.size cv) : Calls Try.prog 32 #[cv] w (DrawnE w) := by
  have HSrc : Hid (SrcAt (w.alloc (.cells #[cv, .int .i64 0] 79)) w.heap.size 0 cv) := src_new hc
  obtain ⟨ad, len, cap, hcv, -⟩ := hc
  have HSo : Hid (Calls Try.prog 52 #[cv] w fun e w' => e = .returned (.pointer (some ⟨w.heap.size, 0, none⟩)) ∧ w' = w.alloc (.cells #[cv, .int .i64 0] 79)) := source_any cv w ad len cap hcv
  subst hcv
  generalize hcv : Value.slice ad len cap = cv at *
  go_enter Try.func32, Try.ntmps32
  go_wp2_with fail
  refine HSo.out.mono ?_
  rintro e w1 ⟨rfl, hw⟩
  have HS1 : Hid (SrcAt w1 w.heap.size 0 cv ∧ Ext w w1) := by rw [hw]; exact ⟨HSrc.out, (Ext.refl _).alloc _⟩
  clear hw
  go_wp2_with fail
  refine (l4Bent_any w.heap.size 0 cv _ HS1.out.1 (by omega)).mono ?_
  rintro e w2 ⟨v, l, rfl, hD⟩
  obtain ⟨bb, off, cap0, hv0⟩ := hD.form
  subst hv0
  generalize ha0 : (some (⟨bb, off, none⟩ : Addr)) = a0 at *
  have HD2 : Hid (DSt w1 w.heap.size 0 14 cv (.slice a0 l.length cap0) l w2) := hD
  clear hD ha0
  go_wp2_with fail
  refine (HD2.out.next 4 (by omega) (by omega) (by omega)).mono ?_
  rintro e w3 ⟨r1, rfl, pr1, sr1, hD⟩
  have HD3 : Hid (DSt w1 w.heap.size 0 15 cv (.slice a0 l.length cap0) l w3) := hD
  clear hD HD2
  go_wp2_with fail
  refine (HD3.out.next 4 (by omega) (by omega) (by omega)).mono ?_
  rintro e w4 ⟨r2, rfl, pr2, sr2, hD⟩
  have HD4 : Hid (DSt w1 w.heap.size 0 16 cv (.slice a0 l.length cap0) l w4) := hD
  clear hD HD3
  go_wp2_with fail
  refine ((HD4.out.ext ((Ext.refl _).alloc _)).pick w4.heap.size 4 [1 + r1, 1 + r2, 0, 10] HD4.out.lt (nums4 _ _ _ _ _ _) (by simp) (by simp) (by omega)).mono ?_
  rintro e w5 ⟨i, rfl, hD⟩
  have HD5 : Hid (DSt w1 w.heap.size 0 17 cv (.slice a0 l.length cap0) l w5) := hD
  clear hD HD4
  go_wp2_with fail
  refine (HD5.out.next 40 (by omega) (by omega) (by omega)).mono ?_
  rintro e w6 ⟨r3, rfl, pr3, sr3, hD⟩
  have HD6 : Hid (DSt w1 w.heap.size 0 18 cv (.slice a0 l.length cap0) l w6) := hD
  clear hD HD5
  go_wp2_with fail
  refine (HD6.out.next 40 (by omega) (by omega) (by omega)).mono ?_
  rintro e w7 ⟨r4, rfl, pr4, sr4, hD⟩
  have HD7 : Hid (DSt w1 w.heap.size 0 19 cv (.slice a0 l.length cap0) l w7) := hD
  clear hD HD6
  go_wp2_with fail
  refine ((HD7.out.ext ((Ext.refl _).alloc _)).pick w7.heap.size 5 [r3, r4, 9000, 9001, -1] HD7.out.lt (nums5 _ _ _ _ _ _ _) (by simp) (by simp) (by omega)).mono ?_
  rintro e w8 ⟨n, rfl, hD⟩
  have HD8 : Hid (DSt w1 w.heap.size 0 20 cv (.slice a0 l.length cap0) l w8) := hD
  clear hD HD7
  have HF : Hid (SomeS (.slice a0 l.length cap0) ∧ ESlice w8 (.slice a0 l.length cap0) l ∧ l.length ≤ 7 ∧ Ext w w8) := by
    obtain ⟨a', q1, q2, q6, q7, q8, q9⟩ := HD8.out
    exact ⟨q1, HD8.out.slice, q6, Below.trans HS1.out.2 q9⟩
  go_wp2
  exact bodyPost_ret (v := .tuple #[.slice a0 l.length cap0, .int .i64 i, .int .i64 n]) (by simp [results, Try.results32, go_sem]) rfl ⟨_, l, i, n, rfl, HF.out.1, HF.out.2.1, HF.out.2.2.1, HF.out.2.2.2⟩

set_option maxHeartbeats 1000000 in
theorem drawOpenSession_any (cv : Value) (w : World) (hc : CodeOk w w.heap.size cv) : Calls Try.prog 10 #[cv] w (DrawnE w) := by
  have H : Hid (Calls Try.prog 32 #[cv] w (DrawnE w)) := l4With_any cv w hc
  obtain ⟨ad, len, cap, rfl, -⟩ := hc
  go_enter Try.func10, Try.ntmps10
  go_wp2_with fail
  refine H.out.mono ?_
  rintro e w2 ⟨v, l, i, n, rfl, hv, hS, hl, hE⟩
  have HF : Hid (SomeS v ∧ ESlice w2 v l ∧ l.length ≤ 7 ∧ Ext w w2) := ⟨hv, hS, hl, hE⟩
  obtain ⟨bb, off, m, cap0, rfl⟩ := hv
  clear hS hl hE
  go_wp2
  exact bodyPost_ret (v := .tuple #[.slice (some ⟨bb, off, none⟩) m cap0, .int .i64 i, .int .i64 n]) (by simp [results, Try.results10, go_sem]) rfl ⟨_, l, i, n, rfl, HF.out.1, HF.out.2.1, HF.out.2.2.1, HF.out.2.2.2⟩
end Go.Proofs.Ytjlmkjcahnnjpaa
