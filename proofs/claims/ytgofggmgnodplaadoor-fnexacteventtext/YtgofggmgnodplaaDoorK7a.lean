/- the text of an event without a fault, kind by kind: the specification's. -/
import Derived.Test.YtgofggmgnodplaaDoorK7
namespace Go.Proofs.YtgofggmgnodplaaDoor
open Go.RowKit
theorem Ext.twoK {w W : World} (h : Ext w W) (a b : Value) : Ext w ((W.setCell ⟨w.heap.size + 1, 0, none⟩ a).setCell ⟨w.heap.size + 1, 1, none⟩ b) :=
  (h.setCell (p := ⟨w.heap.size + 1, 0, none⟩) (Nat.le_succ _) _).setCell (p := ⟨w.heap.size + 1, 1, none⟩) (Nat.le_succ _) _
theorem EvAt.cells {W : World} {b : Nat} {c : Int} {p : ByteArray} {k : Int} (h : EvAt W b 0 ⟨c, p, k⟩) : W.cell? ⟨b, 0, none⟩ = some (.int .i64 c) ∧ W.cell? ⟨b, 1, none⟩ = some (.string p) ∧ W.cell? ⟨b, 2, none⟩ = some (.int .i64 k) := by
  obtain ⟨h0, h1, h2⟩ := h
  simp only [Nat.zero_add] at h1 h2
  exact ⟨h0, h1, h2⟩
theorem TwoBox.alloc {w : World} {b : Nat} {z : Ev} (h : TwoBox w b z) (o : Obj) : TwoBox (w.alloc o) b z := h.ext ((Ext.refl _).alloc _)
theorem TwoBox.put {W : World} {b : Nat} {z : Ev} (h : TwoBox W b z) (u v : Value) : EvAt ((W.setCell ⟨b + 1, 0, none⟩ u).setCell ⟨b + 1, 1, none⟩ v) b 0 z := by
  obtain ⟨c0, c1, c2⟩ := h.1.2
  refine ⟨?_, ?_, ?_⟩ <;> (rw [iset_ne _ _ _ _ _ _ (by omega), iset_ne _ _ _ _ _ _ (by omega)]; assumption)
set_option maxHeartbeats 8000000 in
set_option maxRecDepth 100000 in
theorem specEventText_1 (c : Int) (p : ByteArray) (w : World) (hi : Wch.idOk c = true) (hc : Pth.faultI p.data.toList = 0) :
    Calls Tryd.prog 18 #[evagg ⟨c, p, 1⟩] w fun e w' => e = .returned (tr (0, Lib.join (Wch.evW c p 1) [32])) ∧ Ext w w' := by
  have HI : Hid (∀ wx : World, Calls Tryd.prog 38 #[.int .i64 c] wx fun e w' => e = .returned (.bool true) ∧ w' = wx) := fun wx => by have := l4IdO_any c wx; rw [show (decide (1 ≤ c) && decide (c ≤ 9)) = true from hi] at this; exact this
  have HF : Hid (∀ wx : World, Calls Tryd.prog 39 #[.string p] wx fun e w' => e = .returned (.int .i64 0) ∧ Ext wx w') := fun wx => by have := l1FaultI_any p wx; rw [hc] at this; exact this
  have HK : Hid (∀ wx : World, Calls Tryd.prog 40 #[.int .i64 1, .int .i64 1, .int .i64 3] wx fun e w' => e = .returned (.bool true) ∧ w' = wx) := l1In_any 1 1 3
  simp only [Wch.idOk, Bool.and_eq_true, decide_eq_true_eq] at hi
  have HD : Hid (∀ wx : World, Calls Tryd.prog 41 #[.int .i64 c] wx fun e w' => e = .returned (.string (mkB (Lib.itoa c))) ∧ Ext wx w') := digits_any c (by omega) (by omega)
  have s1 : (mkB (Lib.itoa c)).size ≤ 21 := by rw [mkB_size]; exact itoa_len _ (by omega) (by omega)
  have s2 : p.size ≤ 24 := few_of_ok hc
  rw [Wch.evW_eq, show Lib.itoa c = (mkB (Lib.itoa c)).data.toList from (mkB_list _).symm]
  clear hc hi
  generalize mkB (Lib.itoa c) = dg at *
  obtain ⟨A1, l1, n1, hA1⟩ := add_run ⟨#[101, 118, 101, 110, 116, 32]⟩ dg 6 21 (by decide) s1 (by decide)
  obtain ⟨A2, l2, n2, hA2⟩ := add_run A1 ⟨#[32]⟩ 27 1 n1 (by decide) (by decide)
  obtain ⟨A3, l3, n3, hA3⟩ := add_run A2 p 28 24 n2 s2 (by decide)
  obtain ⟨A4, l4, n4, hA4⟩ := add_run A3 ⟨#[32]⟩ 52 1 n3 (by decide) (by decide)
  obtain ⟨A5, l5, n5, hA5⟩ := add_run A4 ⟨#[109, 97, 100, 101]⟩ 53 6 n4 (by decide) (by decide)
  have hX : mkB ([101, 118, 101, 110, 116, 32] ++ dg.data.toList ++ [32] ++ p.data.toList ++ [32] ++ Wch.kindW 1) = A5 := by
    refine (eq_mkB ?_).symm
    rw [l5, l4, l3, l2, l1]; rfl
  unfold tr
  rw [hX]
  clear hX l1 l2 l3 l4 l5 s1 s2 n1 n2 n3 n4 n5
  unfold evagg
  simp only
  go_enter Tryd.func18, Tryd.ntmps18
  go_wp2_with fail
  refine (HI.out _).mono ?_
  rintro e w1 ⟨rfl, hw1⟩; rw [hw1]; clear hw1 w1
  go_wp2_with fail
  refine (HF.out _).mono ?_
  rintro e w2 ⟨rfl, hb⟩
  have HB : Hid (Ext w w2) := (((Ext.refl _).alloc _).alloc _).trans hb
  have HT : Hid (TwoBox w2 w.heap.size ⟨c, p, 1⟩) := (twobox_new w ⟨c, p, 1⟩ _ _).ext hb
  clear hb
  obtain ⟨c0, c1, c2⟩ := HT.out.1.2.cells
  go_wp2_with fail
  refine (HK.out _).mono ?_
  rintro e w1 ⟨rfl, hw1⟩; rw [hw1]; clear hw1 w1
  clear HI HF HK
  go_wp2
  refine wp_region_held_drew (S := fun W' => W'.cell? ⟨w.heap.size, 0, none⟩ = some (.int .i64 c) ∧ W'.cell? ⟨w.heap.size, 1, none⟩ = some (.string p) ∧ W'.cell? ⟨w.heap.size, 2, none⟩ = some (.int .i64 1)) (by kernel_rfl) ⟨c0, c1, c2⟩ (fun hHeld => ?_)
  refine wpAnyH_take (i := 0) (v := ?v1) rfl (by kernel_rfl) (by kernel_rfl) (by kernel_rfl) (fun _ _ _ h => h) (Or.inl ⟨by rfl, ?y1⟩) (by assumption) ?r1
  case y1 => (intro w' hSw; (try dsimp only at hSw); go_simp; try with_reducible rfl)
  (try simp only [Act.put])
  refine wpAnyH_take (i := 1) (v := ?v2) rfl (by kernel_rfl) (by kernel_rfl) (by kernel_rfl) (fun _ _ _ h => h) (Or.inl ⟨by rfl, ?y2⟩) (by assumption) ?r2
  case y2 => (intro w' hSw; (try dsimp only at hSw); go_simp; try with_reducible rfl)
  (try simp only [Act.put])
  refine wpAnyH_take (i := 5) (v := ?v3) rfl (by kernel_rfl) (by kernel_rfl) (by kernel_rfl) (fun _ _ _ h => h) (Or.inl ⟨by rfl, ?y3⟩) (by assumption) ?r3
  case y3 => (intro w' hSw; (try dsimp only at hSw); go_simp; try with_reducible rfl)
  (try simp only [Act.put])
  refine wpAnyH_take (i := 6) (v := ?v4) rfl (by kernel_rfl) (by kernel_rfl) (by kernel_rfl) (fun _ _ _ h => h) (Or.inl ⟨by rfl, ?y4⟩) (by assumption) ?r4
  case y4 => (intro w' hSw; (try dsimp only at hSw); go_simp; try with_reducible rfl)
  (try simp only [Act.put])
  refine wpAnyH_take (i := 10) (v := ?v5) rfl (by kernel_rfl) (by kernel_rfl) (by kernel_rfl) (fun _ _ _ h => h) (Or.inl ⟨by rfl, ?y5⟩) (by assumption) ?r5
  case y5 => (intro w' hSw; (try dsimp only at hSw); go_simp; try with_reducible rfl)
  (try simp only [Act.put])
  refine wpAnyH_take (i := 11) (v := ?v6) rfl (by kernel_rfl) (by kernel_rfl) (by kernel_rfl) (fun _ _ _ h => h) (Or.inl ⟨by rfl, ?y6⟩) (by assumption) ?r6
  case y6 => (intro w' hSw; (try dsimp only at hSw); go_simp; try with_reducible rfl)
  (try simp only [Act.put])
  refine wpAnyH_ready (rs := [2, 9]) (by kernel_rfl) (by simp) (AllReadyH.cons rfl (fun K hK => ?_) (AllReadyH.cons rfl (fun K hK => ?_) AllReadyH.nil))
  · go_simp
    refine (HD.out _).mono ?_
    rintro e w3 ⟨rfl, hb3⟩
    have HE3 : Hid (Ext w w3) := (HB.out.drew).trans hb3
    have HT3 : Hid (TwoBox w3 w.heap.size ⟨c, p, 1⟩) := (HT.out.ext ((Ext.refl _).drew)).ext hb3
    clear hb3
    refine hK.out _ _ HT3.out.1.2.cells (fun hHeld1 => ?_)
    clear hK K
    refine wpAnyH_take (i := 3) (v := ?v7) rfl (by kernel_rfl) (by kernel_rfl) (by kernel_rfl) (fun _ _ _ h => h) (Or.inl ⟨by rfl, ?y7⟩) (by assumption) ?r7
    case y7 => (intro w' hSw; (try dsimp only at hSw); go_simp; try with_reducible rfl)
    (try simp only [Act.put])
    refine wpAnyH_take (i := 4) (v := ?v8) rfl (by kernel_rfl) (by kernel_rfl) (by kernel_rfl) (fun _ _ _ h => h) (Or.inl ⟨by rfl, ?y8⟩) (by assumption) ?r8
    case y8 => (intro w' hSw; (try dsimp only at hSw); go_simp; try with_reducible rfl)
    (try simp only [Act.put])
    refine wpAnyH_take (i := 7) (v := ?v9) rfl (by kernel_rfl) (by kernel_rfl) (by kernel_rfl) (fun _ _ _ h => h) (Or.inl ⟨by rfl, ?y9⟩) (by assumption) ?r9
    case y9 => (intro w' hSw; (try dsimp only at hSw); go_simp; try with_reducible rfl)
    (try simp only [Act.put])
    refine wpAnyH_take (i := 8) (v := ?v10) rfl (by kernel_rfl) (by kernel_rfl) (by kernel_rfl) (fun _ _ _ h => h) (Or.inl ⟨by rfl, ?y10⟩) (by assumption) ?r10
    case y10 => (intro w' hSw; (try dsimp only at hSw); go_simp; try with_reducible rfl)
    (try simp only [Act.put])
    refine wpAnyH_ready (rs := [9]) (by kernel_rfl) (by simp) (AllReadyH.cons rfl (fun K hK => ?_) AllReadyH.nil)
    go_simp
    refine hK.out _ _ (HT3.out.alloc _).1.2.cells (fun hHeld2 => ?_)
    clear hK K
    refine wpAnyH_take (i := 12) (v := ?v11) rfl (by kernel_rfl) (by kernel_rfl) (by kernel_rfl) (fun _ _ _ h => h) (Or.inl ⟨by rfl, ?y11⟩) (by assumption) ?r11
    case y11 => (intro w' hSw; (try dsimp only at hSw); go_simp; try with_reducible rfl)
    (try simp only [Act.put])
    refine wpAnyH_ready (rs := [13]) (by kernel_rfl) (by simp) (AllReadyH.cons rfl (fun K hK => ?_) AllReadyH.nil)
    go_simp
    refine hK.out _ _ (HT3.out.alloc _).1.2.cells (fun hHeld3 => ?_)
    clear hK K
    refine wpAnyH_take (i := 14) (v := ?v12) rfl (by kernel_rfl) (by kernel_rfl) (by kernel_rfl) (fun _ _ _ h => h) (Or.inl ⟨by rfl, ?y12⟩) (by assumption) ?r12
    case y12 => (intro w' hSw; (try dsimp only at hSw); go_simp; try with_reducible rfl)
    (try simp only [Act.put])
    refine wpAnyH_take (i := 15) (v := ?v13) rfl (by kernel_rfl) (by kernel_rfl) (by kernel_rfl) (fun _ _ _ h => h) (Or.inl ⟨by rfl, ?y13⟩) (by assumption) ?r13
    case y13 => (intro w' hSw; (try dsimp only at hSw); go_simp; try with_reducible rfl)
    (try simp only [Act.put])
    obtain ⟨t0, t1, t2, t3, t4⟩ := HT3.out.2
    refine wpAnyH_ready (rs := [16]) (by kernel_rfl) (by simp) (AllReadyH.cons rfl (fun K hK => ?_) AllReadyH.nil)
    go_simp
    refine hK.out _ _ (by first | exact ((HT3.out.alloc (.cells #[.string ⟨#[]⟩, .string ⟨#[109, 97, 100, 101]⟩, .string ⟨#[103, 111, 110, 101]⟩, .string ⟨#[116, 117, 114, 110, 101, 100]⟩] 9)).put _ _).cells | exact (((HT3.out.put _ _).ext (by have := t0; simp; omega) ((Ext.refl _).alloc _)).cells)) (fun hHeld9 => ?_)
    clear hK K
    refine wpAnyH_done (by kernel_rfl) ?_ _
    go_wp2
    exact bodyPost_ret (v := .agg #[.int .i64 0, .string A5]) (by simp [results, Tryd.results18, go_sem, *]) rfl ⟨rfl, by first | exact HE3.out.twoK _ _ | exact (HE3.out.alloc _).twoK _ _ | exact (HE3.out.twoK _ _).alloc _⟩
  · go_simp
    have HT2 : Hid (TwoBox (w2.drew.alloc (.cells #[.string ⟨#[]⟩, .string ⟨#[109, 97, 100, 101]⟩, .string ⟨#[103, 111, 110, 101]⟩, .string ⟨#[116, 117, 114, 110, 101, 100]⟩] 9)) w.heap.size ⟨c, p, 1⟩) := (HT.out.ext ((Ext.refl _).drew)).alloc _
    have HB2 : Hid (Ext w (w2.drew.alloc (.cells #[.string ⟨#[]⟩, .string ⟨#[109, 97, 100, 101]⟩, .string ⟨#[103, 111, 110, 101]⟩, .string ⟨#[116, 117, 114, 110, 101, 100]⟩] 9))) := (HB.out.drew).alloc _
    refine hK.out _ _ HT2.out.1.2.cells (fun hHeld2 => ?_)
    clear hK K
    refine wpAnyH_take (i := 12) (v := ?v14) rfl (by kernel_rfl) (by kernel_rfl) (by kernel_rfl) (fun _ _ _ h => h) (Or.inl ⟨by rfl, ?y14⟩) (by assumption) ?r14
    case y14 => (intro w' hSw; (try dsimp only at hSw); go_simp; try with_reducible rfl)
    (try simp only [Act.put])
    refine wpAnyH_ready (rs := [2, 13]) (by kernel_rfl) (by simp) (AllReadyH.cons rfl (fun K hK => ?_) (AllReadyH.cons rfl (fun K hK => ?_) AllReadyH.nil))
    · go_simp
      refine (HD.out _).mono ?_
      rintro e w3 ⟨rfl, hb3⟩
      have HE3 : Hid (Ext w w3) := HB2.out.trans hb3
      have HT3 : Hid (TwoBox w3 w.heap.size ⟨c, p, 1⟩) := HT2.out.ext hb3
      have qq := after4 (w2 := w2) (by first | exact hb3 | exact ((Ext.refl _).drew).trans hb3)
      clear hb3
      refine hK.out _ _ HT3.out.1.2.cells (fun hHeld1 => ?_)
      clear hK K
      refine wpAnyH_take (i := 3) (v := ?v15) rfl (by kernel_rfl) (by kernel_rfl) (by kernel_rfl) (fun _ _ _ h => h) (Or.inl ⟨by rfl, ?y15⟩) (by assumption) ?r15
      case y15 => (intro w' hSw; (try dsimp only at hSw); go_simp; try with_reducible rfl)
      (try simp only [Act.put])
      refine wpAnyH_take (i := 4) (v := ?v16) rfl (by kernel_rfl) (by kernel_rfl) (by kernel_rfl) (fun _ _ _ h => h) (Or.inl ⟨by rfl, ?y16⟩) (by assumption) ?r16
      case y16 => (intro w' hSw; (try dsimp only at hSw); go_simp; try with_reducible rfl)
      (try simp only [Act.put])
      refine wpAnyH_take (i := 7) (v := ?v17) rfl (by kernel_rfl) (by kernel_rfl) (by kernel_rfl) (fun _ _ _ h => h) (Or.inl ⟨by rfl, ?y17⟩) (by assumption) ?r17
      case y17 => (intro w' hSw; (try dsimp only at hSw); go_simp; try with_reducible rfl)
      (try simp only [Act.put])
      refine wpAnyH_take (i := 8) (v := ?v18) rfl (by kernel_rfl) (by kernel_rfl) (by kernel_rfl) (fun _ _ _ h => h) (Or.inl ⟨by rfl, ?y18⟩) (by assumption) ?r18
      case y18 => (intro w' hSw; (try dsimp only at hSw); go_simp; try with_reducible rfl)
      (try simp only [Act.put])
      refine wpAnyH_ready (rs := [13]) (by kernel_rfl) (by simp) (AllReadyH.cons rfl (fun K hK => ?_) AllReadyH.nil)
      go_simp
      refine hK.out _ _ HT3.out.1.2.cells (fun hHeld3 => ?_)
      clear hK K
      refine wpAnyH_take (i := 14) (v := ?v19) rfl (by kernel_rfl) (by kernel_rfl) (by kernel_rfl) (fun _ _ _ h => h) (Or.inl ⟨by rfl, ?y19⟩) (by assumption) ?r19
      case y19 => (intro w' hSw; (try dsimp only at hSw); go_simp; try with_reducible rfl)
      (try simp only [Act.put])
      refine wpAnyH_take (i := 15) (v := ?v20) rfl (by kernel_rfl) (by kernel_rfl) (by kernel_rfl) (fun _ _ _ h => h) (Or.inl ⟨by rfl, ?y20⟩) (by assumption) ?r20
      case y20 => (intro w' hSw; (try dsimp only at hSw); go_simp; try with_reducible rfl)
      (try simp only [Act.put])
      obtain ⟨t0, t1, t2, t3, t4⟩ := HT3.out.2
      refine wpAnyH_ready (rs := [16]) (by kernel_rfl) (by simp) (AllReadyH.cons rfl (fun K hK => ?_) AllReadyH.nil)
      go_simp
      refine hK.out _ _ (by first | exact ((HT3.out).put _ _).cells | exact (((HT3.out.put _ _).ext (by have := t0; simp; omega) ((Ext.refl _).alloc _)).cells)) (fun hHeld9 => ?_)
      clear hK K
      refine wpAnyH_done (by kernel_rfl) ?_ _
      go_wp2
      exact bodyPost_ret (v := .agg #[.int .i64 0, .string A5]) (by simp [results, Tryd.results18, go_sem, *]) rfl ⟨rfl, by first | exact HE3.out.twoK _ _ | exact (HE3.out.alloc _).twoK _ _ | exact (HE3.out.twoK _ _).alloc _⟩
    · go_simp
      refine hK.out _ _ HT2.out.1.2.cells (fun hHeld3 => ?_)
      clear hK K
      refine wpAnyH_ready (rs := [2]) (by kernel_rfl) (by simp) (AllReadyH.cons rfl (fun K hK => ?_) AllReadyH.nil)
      go_simp
      refine (HD.out _).mono ?_
      rintro e w3 ⟨rfl, hb3⟩
      have HE3 : Hid (Ext w w3) := HB2.out.trans hb3
      have HT3 : Hid (TwoBox w3 w.heap.size ⟨c, p, 1⟩) := HT2.out.ext hb3
      clear hb3
      refine hK.out _ _ HT3.out.1.2.cells (fun hHeld1 => ?_)
      clear hK K
      refine wpAnyH_take (i := 3) (v := ?v21) rfl (by kernel_rfl) (by kernel_rfl) (by kernel_rfl) (fun _ _ _ h => h) (Or.inl ⟨by rfl, ?y21⟩) (by assumption) ?r21
      case y21 => (intro w' hSw; (try dsimp only at hSw); go_simp; try with_reducible rfl)
      (try simp only [Act.put])
      refine wpAnyH_take (i := 4) (v := ?v22) rfl (by kernel_rfl) (by kernel_rfl) (by kernel_rfl) (fun _ _ _ h => h) (Or.inl ⟨by rfl, ?y22⟩) (by assumption) ?r22
      case y22 => (intro w' hSw; (try dsimp only at hSw); go_simp; try with_reducible rfl)
      (try simp only [Act.put])
      refine wpAnyH_take (i := 7) (v := ?v23) rfl (by kernel_rfl) (by kernel_rfl) (by kernel_rfl) (fun _ _ _ h => h) (Or.inl ⟨by rfl, ?y23⟩) (by assumption) ?r23
      case y23 => (intro w' hSw; (try dsimp only at hSw); go_simp; try with_reducible rfl)
      (try simp only [Act.put])
      refine wpAnyH_take (i := 8) (v := ?v24) rfl (by kernel_rfl) (by kernel_rfl) (by kernel_rfl) (fun _ _ _ h => h) (Or.inl ⟨by rfl, ?y24⟩) (by assumption) ?r24
      case y24 => (intro w' hSw; (try dsimp only at hSw); go_simp; try with_reducible rfl)
      (try simp only [Act.put])
      refine wpAnyH_take (i := 14) (v := ?v25) rfl (by kernel_rfl) (by kernel_rfl) (by kernel_rfl) (fun _ _ _ h => h) (Or.inl ⟨by rfl, ?y25⟩) (by assumption) ?r25
      case y25 => (intro w' hSw; (try dsimp only at hSw); go_simp; try with_reducible rfl)
      (try simp only [Act.put])
      refine wpAnyH_take (i := 15) (v := ?v26) rfl (by kernel_rfl) (by kernel_rfl) (by kernel_rfl) (fun _ _ _ h => h) (Or.inl ⟨by rfl, ?y26⟩) (by assumption) ?r26
      case y26 => (intro w' hSw; (try dsimp only at hSw); go_simp; try with_reducible rfl)
      (try simp only [Act.put])
      obtain ⟨t0, t1, t2, t3, t4⟩ := HT3.out.2
      refine wpAnyH_ready (rs := [16]) (by kernel_rfl) (by simp) (AllReadyH.cons rfl (fun K hK => ?_) AllReadyH.nil)
      go_simp
      refine hK.out _ _ (by first | exact ((HT3.out).put _ _).cells | exact (((HT3.out.put _ _).ext (by have := t0; simp; omega) ((Ext.refl _).alloc _)).cells)) (fun hHeld9 => ?_)
      clear hK K
      refine wpAnyH_done (by kernel_rfl) ?_ _
      go_wp2
      exact bodyPost_ret (v := .agg #[.int .i64 0, .string A5]) (by simp [results, Tryd.results18, go_sem, *]) rfl ⟨rfl, by first | exact HE3.out.twoK _ _ | exact (HE3.out.alloc _).twoK _ _ | exact (HE3.out.twoK _ _).alloc _⟩
set_option maxHeartbeats 8000000 in
set_option maxRecDepth 100000 in
theorem specEventText_2 (c : Int) (p : ByteArray) (w : World) (hi : Wch.idOk c = true) (hc : Pth.faultI p.data.toList = 0) :
    Calls Tryd.prog 18 #[evagg ⟨c, p, 2⟩] w fun e w' => e = .returned (tr (0, Lib.join (Wch.evW c p 2) [32])) ∧ Ext w w' := by
  have HI : Hid (∀ wx : World, Calls Tryd.prog 38 #[.int .i64 c] wx fun e w' => e = .returned (.bool true) ∧ w' = wx) := fun wx => by have := l4IdO_any c wx; rw [show (decide (1 ≤ c) && decide (c ≤ 9)) = true from hi] at this; exact this
  have HF : Hid (∀ wx : World, Calls Tryd.prog 39 #[.string p] wx fun e w' => e = .returned (.int .i64 0) ∧ Ext wx w') := fun wx => by have := l1FaultI_any p wx; rw [hc] at this; exact this
  have HK : Hid (∀ wx : World, Calls Tryd.prog 40 #[.int .i64 2, .int .i64 1, .int .i64 3] wx fun e w' => e = .returned (.bool true) ∧ w' = wx) := l1In_any 2 1 3
  simp only [Wch.idOk, Bool.and_eq_true, decide_eq_true_eq] at hi
  have HD : Hid (∀ wx : World, Calls Tryd.prog 41 #[.int .i64 c] wx fun e w' => e = .returned (.string (mkB (Lib.itoa c))) ∧ Ext wx w') := digits_any c (by omega) (by omega)
  have s1 : (mkB (Lib.itoa c)).size ≤ 21 := by rw [mkB_size]; exact itoa_len _ (by omega) (by omega)
  have s2 : p.size ≤ 24 := few_of_ok hc
  rw [Wch.evW_eq, show Lib.itoa c = (mkB (Lib.itoa c)).data.toList from (mkB_list _).symm]
  clear hc hi
  generalize mkB (Lib.itoa c) = dg at *
  obtain ⟨A1, l1, n1, hA1⟩ := add_run ⟨#[101, 118, 101, 110, 116, 32]⟩ dg 6 21 (by decide) s1 (by decide)
  obtain ⟨A2, l2, n2, hA2⟩ := add_run A1 ⟨#[32]⟩ 27 1 n1 (by decide) (by decide)
  obtain ⟨A3, l3, n3, hA3⟩ := add_run A2 p 28 24 n2 s2 (by decide)
  obtain ⟨A4, l4, n4, hA4⟩ := add_run A3 ⟨#[32]⟩ 52 1 n3 (by decide) (by decide)
  obtain ⟨A5, l5, n5, hA5⟩ := add_run A4 ⟨#[103, 111, 110, 101]⟩ 53 6 n4 (by decide) (by decide)
  have hX : mkB ([101, 118, 101, 110, 116, 32] ++ dg.data.toList ++ [32] ++ p.data.toList ++ [32] ++ Wch.kindW 2) = A5 := by
    refine (eq_mkB ?_).symm
    rw [l5, l4, l3, l2, l1]; rfl
  unfold tr
  rw [hX]
  clear hX l1 l2 l3 l4 l5 s1 s2 n1 n2 n3 n4 n5
  unfold evagg
  simp only
  go_enter Tryd.func18, Tryd.ntmps18
  go_wp2_with fail
  refine (HI.out _).mono ?_
  rintro e w1 ⟨rfl, hw1⟩; rw [hw1]; clear hw1 w1
  go_wp2_with fail
  refine (HF.out _).mono ?_
  rintro e w2 ⟨rfl, hb⟩
  have HB : Hid (Ext w w2) := (((Ext.refl _).alloc _).alloc _).trans hb
  have HT : Hid (TwoBox w2 w.heap.size ⟨c, p, 2⟩) := (twobox_new w ⟨c, p, 2⟩ _ _).ext hb
  clear hb
  obtain ⟨c0, c1, c2⟩ := HT.out.1.2.cells
  go_wp2_with fail
  refine (HK.out _).mono ?_
  rintro e w1 ⟨rfl, hw1⟩; rw [hw1]; clear hw1 w1
  clear HI HF HK
  go_wp2
  refine wp_region_held_drew (S := fun W' => W'.cell? ⟨w.heap.size, 0, none⟩ = some (.int .i64 c) ∧ W'.cell? ⟨w.heap.size, 1, none⟩ = some (.string p) ∧ W'.cell? ⟨w.heap.size, 2, none⟩ = some (.int .i64 2)) (by kernel_rfl) ⟨c0, c1, c2⟩ (fun hHeld => ?_)
  refine wpAnyH_take (i := 0) (v := ?v27) rfl (by kernel_rfl) (by kernel_rfl) (by kernel_rfl) (fun _ _ _ h => h) (Or.inl ⟨by rfl, ?y27⟩) (by assumption) ?r27
  case y27 => (intro w' hSw; (try dsimp only at hSw); go_simp; try with_reducible rfl)
  (try simp only [Act.put])
  refine wpAnyH_take (i := 1) (v := ?v28) rfl (by kernel_rfl) (by kernel_rfl) (by kernel_rfl) (fun _ _ _ h => h) (Or.inl ⟨by rfl, ?y28⟩) (by assumption) ?r28
  case y28 => (intro w' hSw; (try dsimp only at hSw); go_simp; try with_reducible rfl)
  (try simp only [Act.put])
  refine wpAnyH_take (i := 5) (v := ?v29) rfl (by kernel_rfl) (by kernel_rfl) (by kernel_rfl) (fun _ _ _ h => h) (Or.inl ⟨by rfl, ?y29⟩) (by assumption) ?r29
  case y29 => (intro w' hSw; (try dsimp only at hSw); go_simp; try with_reducible rfl)
  (try simp only [Act.put])
  refine wpAnyH_take (i := 6) (v := ?v30) rfl (by kernel_rfl) (by kernel_rfl) (by kernel_rfl) (fun _ _ _ h => h) (Or.inl ⟨by rfl, ?y30⟩) (by assumption) ?r30
  case y30 => (intro w' hSw; (try dsimp only at hSw); go_simp; try with_reducible rfl)
  (try simp only [Act.put])
  refine wpAnyH_take (i := 10) (v := ?v31) rfl (by kernel_rfl) (by kernel_rfl) (by kernel_rfl) (fun _ _ _ h => h) (Or.inl ⟨by rfl, ?y31⟩) (by assumption) ?r31
  case y31 => (intro w' hSw; (try dsimp only at hSw); go_simp; try with_reducible rfl)
  (try simp only [Act.put])
  refine wpAnyH_take (i := 11) (v := ?v32) rfl (by kernel_rfl) (by kernel_rfl) (by kernel_rfl) (fun _ _ _ h => h) (Or.inl ⟨by rfl, ?y32⟩) (by assumption) ?r32
  case y32 => (intro w' hSw; (try dsimp only at hSw); go_simp; try with_reducible rfl)
  (try simp only [Act.put])
  refine wpAnyH_ready (rs := [2, 9]) (by kernel_rfl) (by simp) (AllReadyH.cons rfl (fun K hK => ?_) (AllReadyH.cons rfl (fun K hK => ?_) AllReadyH.nil))
  · go_simp
    refine (HD.out _).mono ?_
    rintro e w3 ⟨rfl, hb3⟩
    have HE3 : Hid (Ext w w3) := (HB.out.drew).trans hb3
    have HT3 : Hid (TwoBox w3 w.heap.size ⟨c, p, 2⟩) := (HT.out.ext ((Ext.refl _).drew)).ext hb3
    clear hb3
    refine hK.out _ _ HT3.out.1.2.cells (fun hHeld1 => ?_)
    clear hK K
    refine wpAnyH_take (i := 3) (v := ?v33) rfl (by kernel_rfl) (by kernel_rfl) (by kernel_rfl) (fun _ _ _ h => h) (Or.inl ⟨by rfl, ?y33⟩) (by assumption) ?r33
    case y33 => (intro w' hSw; (try dsimp only at hSw); go_simp; try with_reducible rfl)
    (try simp only [Act.put])
    refine wpAnyH_take (i := 4) (v := ?v34) rfl (by kernel_rfl) (by kernel_rfl) (by kernel_rfl) (fun _ _ _ h => h) (Or.inl ⟨by rfl, ?y34⟩) (by assumption) ?r34
    case y34 => (intro w' hSw; (try dsimp only at hSw); go_simp; try with_reducible rfl)
    (try simp only [Act.put])
    refine wpAnyH_take (i := 7) (v := ?v35) rfl (by kernel_rfl) (by kernel_rfl) (by kernel_rfl) (fun _ _ _ h => h) (Or.inl ⟨by rfl, ?y35⟩) (by assumption) ?r35
    case y35 => (intro w' hSw; (try dsimp only at hSw); go_simp; try with_reducible rfl)
    (try simp only [Act.put])
    refine wpAnyH_take (i := 8) (v := ?v36) rfl (by kernel_rfl) (by kernel_rfl) (by kernel_rfl) (fun _ _ _ h => h) (Or.inl ⟨by rfl, ?y36⟩) (by assumption) ?r36
    case y36 => (intro w' hSw; (try dsimp only at hSw); go_simp; try with_reducible rfl)
    (try simp only [Act.put])
    refine wpAnyH_ready (rs := [9]) (by kernel_rfl) (by simp) (AllReadyH.cons rfl (fun K hK => ?_) AllReadyH.nil)
    go_simp
    refine hK.out _ _ (HT3.out.alloc _).1.2.cells (fun hHeld2 => ?_)
    clear hK K
    refine wpAnyH_take (i := 12) (v := ?v37) rfl (by kernel_rfl) (by kernel_rfl) (by kernel_rfl) (fun _ _ _ h => h) (Or.inl ⟨by rfl, ?y37⟩) (by assumption) ?r37
    case y37 => (intro w' hSw; (try dsimp only at hSw); go_simp; try with_reducible rfl)
    (try simp only [Act.put])
    refine wpAnyH_ready (rs := [13]) (by kernel_rfl) (by simp) (AllReadyH.cons rfl (fun K hK => ?_) AllReadyH.nil)
    go_simp
    refine hK.out _ _ (HT3.out.alloc _).1.2.cells (fun hHeld3 => ?_)
    clear hK K
    refine wpAnyH_take (i := 14) (v := ?v38) rfl (by kernel_rfl) (by kernel_rfl) (by kernel_rfl) (fun _ _ _ h => h) (Or.inl ⟨by rfl, ?y38⟩) (by assumption) ?r38
    case y38 => (intro w' hSw; (try dsimp only at hSw); go_simp; try with_reducible rfl)
    (try simp only [Act.put])
    refine wpAnyH_take (i := 15) (v := ?v39) rfl (by kernel_rfl) (by kernel_rfl) (by kernel_rfl) (fun _ _ _ h => h) (Or.inl ⟨by rfl, ?y39⟩) (by assumption) ?r39
    case y39 => (intro w' hSw; (try dsimp only at hSw); go_simp; try with_reducible rfl)
    (try simp only [Act.put])
    obtain ⟨t0, t1, t2, t3, t4⟩ := HT3.out.2
    refine wpAnyH_ready (rs := [16]) (by kernel_rfl) (by simp) (AllReadyH.cons rfl (fun K hK => ?_) AllReadyH.nil)
    go_simp
    refine hK.out _ _ (by first | exact ((HT3.out.alloc (.cells #[.string ⟨#[]⟩, .string ⟨#[109, 97, 100, 101]⟩, .string ⟨#[103, 111, 110, 101]⟩, .string ⟨#[116, 117, 114, 110, 101, 100]⟩] 9)).put _ _).cells | exact (((HT3.out.put _ _).ext (by have := t0; simp; omega) ((Ext.refl _).alloc _)).cells)) (fun hHeld9 => ?_)
    clear hK K
    refine wpAnyH_done (by kernel_rfl) ?_ _
    go_wp2
    exact bodyPost_ret (v := .agg #[.int .i64 0, .string A5]) (by simp [results, Tryd.results18, go_sem, *]) rfl ⟨rfl, by first | exact HE3.out.twoK _ _ | exact (HE3.out.alloc _).twoK _ _ | exact (HE3.out.twoK _ _).alloc _⟩
  · go_simp
    have HT2 : Hid (TwoBox (w2.drew.alloc (.cells #[.string ⟨#[]⟩, .string ⟨#[109, 97, 100, 101]⟩, .string ⟨#[103, 111, 110, 101]⟩, .string ⟨#[116, 117, 114, 110, 101, 100]⟩] 9)) w.heap.size ⟨c, p, 2⟩) := (HT.out.ext ((Ext.refl _).drew)).alloc _
    have HB2 : Hid (Ext w (w2.drew.alloc (.cells #[.string ⟨#[]⟩, .string ⟨#[109, 97, 100, 101]⟩, .string ⟨#[103, 111, 110, 101]⟩, .string ⟨#[116, 117, 114, 110, 101, 100]⟩] 9))) := (HB.out.drew).alloc _
    refine hK.out _ _ HT2.out.1.2.cells (fun hHeld2 => ?_)
    clear hK K
    refine wpAnyH_take (i := 12) (v := ?v40) rfl (by kernel_rfl) (by kernel_rfl) (by kernel_rfl) (fun _ _ _ h => h) (Or.inl ⟨by rfl, ?y40⟩) (by assumption) ?r40
    case y40 => (intro w' hSw; (try dsimp only at hSw); go_simp; try with_reducible rfl)
    (try simp only [Act.put])
    refine wpAnyH_ready (rs := [2, 13]) (by kernel_rfl) (by simp) (AllReadyH.cons rfl (fun K hK => ?_) (AllReadyH.cons rfl (fun K hK => ?_) AllReadyH.nil))
    · go_simp
      refine (HD.out _).mono ?_
      rintro e w3 ⟨rfl, hb3⟩
      have HE3 : Hid (Ext w w3) := HB2.out.trans hb3
      have HT3 : Hid (TwoBox w3 w.heap.size ⟨c, p, 2⟩) := HT2.out.ext hb3
      have qq := after4 (w2 := w2) (by first | exact hb3 | exact ((Ext.refl _).drew).trans hb3)
      clear hb3
      refine hK.out _ _ HT3.out.1.2.cells (fun hHeld1 => ?_)
      clear hK K
      refine wpAnyH_take (i := 3) (v := ?v41) rfl (by kernel_rfl) (by kernel_rfl) (by kernel_rfl) (fun _ _ _ h => h) (Or.inl ⟨by rfl, ?y41⟩) (by assumption) ?r41
      case y41 => (intro w' hSw; (try dsimp only at hSw); go_simp; try with_reducible rfl)
      (try simp only [Act.put])
      refine wpAnyH_take (i := 4) (v := ?v42) rfl (by kernel_rfl) (by kernel_rfl) (by kernel_rfl) (fun _ _ _ h => h) (Or.inl ⟨by rfl, ?y42⟩) (by assumption) ?r42
      case y42 => (intro w' hSw; (try dsimp only at hSw); go_simp; try with_reducible rfl)
      (try simp only [Act.put])
      refine wpAnyH_take (i := 7) (v := ?v43) rfl (by kernel_rfl) (by kernel_rfl) (by kernel_rfl) (fun _ _ _ h => h) (Or.inl ⟨by rfl, ?y43⟩) (by assumption) ?r43
      case y43 => (intro w' hSw; (try dsimp only at hSw); go_simp; try with_reducible rfl)
      (try simp only [Act.put])
      refine wpAnyH_take (i := 8) (v := ?v44) rfl (by kernel_rfl) (by kernel_rfl) (by kernel_rfl) (fun _ _ _ h => h) (Or.inl ⟨by rfl, ?y44⟩) (by assumption) ?r44
      case y44 => (intro w' hSw; (try dsimp only at hSw); go_simp; try with_reducible rfl)
      (try simp only [Act.put])
      refine wpAnyH_ready (rs := [13]) (by kernel_rfl) (by simp) (AllReadyH.cons rfl (fun K hK => ?_) AllReadyH.nil)
      go_simp
      refine hK.out _ _ HT3.out.1.2.cells (fun hHeld3 => ?_)
      clear hK K
      refine wpAnyH_take (i := 14) (v := ?v45) rfl (by kernel_rfl) (by kernel_rfl) (by kernel_rfl) (fun _ _ _ h => h) (Or.inl ⟨by rfl, ?y45⟩) (by assumption) ?r45
      case y45 => (intro w' hSw; (try dsimp only at hSw); go_simp; try with_reducible rfl)
      (try simp only [Act.put])
      refine wpAnyH_take (i := 15) (v := ?v46) rfl (by kernel_rfl) (by kernel_rfl) (by kernel_rfl) (fun _ _ _ h => h) (Or.inl ⟨by rfl, ?y46⟩) (by assumption) ?r46
      case y46 => (intro w' hSw; (try dsimp only at hSw); go_simp; try with_reducible rfl)
      (try simp only [Act.put])
      obtain ⟨t0, t1, t2, t3, t4⟩ := HT3.out.2
      refine wpAnyH_ready (rs := [16]) (by kernel_rfl) (by simp) (AllReadyH.cons rfl (fun K hK => ?_) AllReadyH.nil)
      go_simp
      refine hK.out _ _ (by first | exact ((HT3.out).put _ _).cells | exact (((HT3.out.put _ _).ext (by have := t0; simp; omega) ((Ext.refl _).alloc _)).cells)) (fun hHeld9 => ?_)
      clear hK K
      refine wpAnyH_done (by kernel_rfl) ?_ _
      go_wp2
      exact bodyPost_ret (v := .agg #[.int .i64 0, .string A5]) (by simp [results, Tryd.results18, go_sem, *]) rfl ⟨rfl, by first | exact HE3.out.twoK _ _ | exact (HE3.out.alloc _).twoK _ _ | exact (HE3.out.twoK _ _).alloc _⟩
    · go_simp
      refine hK.out _ _ HT2.out.1.2.cells (fun hHeld3 => ?_)
      clear hK K
      refine wpAnyH_ready (rs := [2]) (by kernel_rfl) (by simp) (AllReadyH.cons rfl (fun K hK => ?_) AllReadyH.nil)
      go_simp
      refine (HD.out _).mono ?_
      rintro e w3 ⟨rfl, hb3⟩
      have HE3 : Hid (Ext w w3) := HB2.out.trans hb3
      have HT3 : Hid (TwoBox w3 w.heap.size ⟨c, p, 2⟩) := HT2.out.ext hb3
      clear hb3
      refine hK.out _ _ HT3.out.1.2.cells (fun hHeld1 => ?_)
      clear hK K
      refine wpAnyH_take (i := 3) (v := ?v47) rfl (by kernel_rfl) (by kernel_rfl) (by kernel_rfl) (fun _ _ _ h => h) (Or.inl ⟨by rfl, ?y47⟩) (by assumption) ?r47
      case y47 => (intro w' hSw; (try dsimp only at hSw); go_simp; try with_reducible rfl)
      (try simp only [Act.put])
      refine wpAnyH_take (i := 4) (v := ?v48) rfl (by kernel_rfl) (by kernel_rfl) (by kernel_rfl) (fun _ _ _ h => h) (Or.inl ⟨by rfl, ?y48⟩) (by assumption) ?r48
      case y48 => (intro w' hSw; (try dsimp only at hSw); go_simp; try with_reducible rfl)
      (try simp only [Act.put])
      refine wpAnyH_take (i := 7) (v := ?v49) rfl (by kernel_rfl) (by kernel_rfl) (by kernel_rfl) (fun _ _ _ h => h) (Or.inl ⟨by rfl, ?y49⟩) (by assumption) ?r49
      case y49 => (intro w' hSw; (try dsimp only at hSw); go_simp; try with_reducible rfl)
      (try simp only [Act.put])
      refine wpAnyH_take (i := 8) (v := ?v50) rfl (by kernel_rfl) (by kernel_rfl) (by kernel_rfl) (fun _ _ _ h => h) (Or.inl ⟨by rfl, ?y50⟩) (by assumption) ?r50
      case y50 => (intro w' hSw; (try dsimp only at hSw); go_simp; try with_reducible rfl)
      (try simp only [Act.put])
      refine wpAnyH_take (i := 14) (v := ?v51) rfl (by kernel_rfl) (by kernel_rfl) (by kernel_rfl) (fun _ _ _ h => h) (Or.inl ⟨by rfl, ?y51⟩) (by assumption) ?r51
      case y51 => (intro w' hSw; (try dsimp only at hSw); go_simp; try with_reducible rfl)
      (try simp only [Act.put])
      refine wpAnyH_take (i := 15) (v := ?v52) rfl (by kernel_rfl) (by kernel_rfl) (by kernel_rfl) (fun _ _ _ h => h) (Or.inl ⟨by rfl, ?y52⟩) (by assumption) ?r52
      case y52 => (intro w' hSw; (try dsimp only at hSw); go_simp; try with_reducible rfl)
      (try simp only [Act.put])
      obtain ⟨t0, t1, t2, t3, t4⟩ := HT3.out.2
      refine wpAnyH_ready (rs := [16]) (by kernel_rfl) (by simp) (AllReadyH.cons rfl (fun K hK => ?_) AllReadyH.nil)
      go_simp
      refine hK.out _ _ (by first | exact ((HT3.out).put _ _).cells | exact (((HT3.out.put _ _).ext (by have := t0; simp; omega) ((Ext.refl _).alloc _)).cells)) (fun hHeld9 => ?_)
      clear hK K
      refine wpAnyH_done (by kernel_rfl) ?_ _
      go_wp2
      exact bodyPost_ret (v := .agg #[.int .i64 0, .string A5]) (by simp [results, Tryd.results18, go_sem, *]) rfl ⟨rfl, by first | exact HE3.out.twoK _ _ | exact (HE3.out.alloc _).twoK _ _ | exact (HE3.out.twoK _ _).alloc _⟩
set_option maxHeartbeats 8000000 in
set_option maxRecDepth 100000 in
theorem specEventText_3 (c : Int) (p : ByteArray) (w : World) (hi : Wch.idOk c = true) (hc : Pth.faultI p.data.toList = 0) :
    Calls Tryd.prog 18 #[evagg ⟨c, p, 3⟩] w fun e w' => e = .returned (tr (0, Lib.join (Wch.evW c p 3) [32])) ∧ Ext w w' := by
  have HI : Hid (∀ wx : World, Calls Tryd.prog 38 #[.int .i64 c] wx fun e w' => e = .returned (.bool true) ∧ w' = wx) := fun wx => by have := l4IdO_any c wx; rw [show (decide (1 ≤ c) && decide (c ≤ 9)) = true from hi] at this; exact this
  have HF : Hid (∀ wx : World, Calls Tryd.prog 39 #[.string p] wx fun e w' => e = .returned (.int .i64 0) ∧ Ext wx w') := fun wx => by have := l1FaultI_any p wx; rw [hc] at this; exact this
  have HK : Hid (∀ wx : World, Calls Tryd.prog 40 #[.int .i64 3, .int .i64 1, .int .i64 3] wx fun e w' => e = .returned (.bool true) ∧ w' = wx) := l1In_any 3 1 3
  simp only [Wch.idOk, Bool.and_eq_true, decide_eq_true_eq] at hi
  have HD : Hid (∀ wx : World, Calls Tryd.prog 41 #[.int .i64 c] wx fun e w' => e = .returned (.string (mkB (Lib.itoa c))) ∧ Ext wx w') := digits_any c (by omega) (by omega)
  have s1 : (mkB (Lib.itoa c)).size ≤ 21 := by rw [mkB_size]; exact itoa_len _ (by omega) (by omega)
  have s2 : p.size ≤ 24 := few_of_ok hc
  rw [Wch.evW_eq, show Lib.itoa c = (mkB (Lib.itoa c)).data.toList from (mkB_list _).symm]
  clear hc hi
  generalize mkB (Lib.itoa c) = dg at *
  obtain ⟨A1, l1, n1, hA1⟩ := add_run ⟨#[101, 118, 101, 110, 116, 32]⟩ dg 6 21 (by decide) s1 (by decide)
  obtain ⟨A2, l2, n2, hA2⟩ := add_run A1 ⟨#[32]⟩ 27 1 n1 (by decide) (by decide)
  obtain ⟨A3, l3, n3, hA3⟩ := add_run A2 p 28 24 n2 s2 (by decide)
  obtain ⟨A4, l4, n4, hA4⟩ := add_run A3 ⟨#[32]⟩ 52 1 n3 (by decide) (by decide)
  obtain ⟨A5, l5, n5, hA5⟩ := add_run A4 ⟨#[116, 117, 114, 110, 101, 100]⟩ 53 6 n4 (by decide) (by decide)
  have hX : mkB ([101, 118, 101, 110, 116, 32] ++ dg.data.toList ++ [32] ++ p.data.toList ++ [32] ++ Wch.kindW 3) = A5 := by
    refine (eq_mkB ?_).symm
    rw [l5, l4, l3, l2, l1]; rfl
  unfold tr
  rw [hX]
  clear hX l1 l2 l3 l4 l5 s1 s2 n1 n2 n3 n4 n5
  unfold evagg
  simp only
  go_enter Tryd.func18, Tryd.ntmps18
  go_wp2_with fail
  refine (HI.out _).mono ?_
  rintro e w1 ⟨rfl, hw1⟩; rw [hw1]; clear hw1 w1
  go_wp2_with fail
  refine (HF.out _).mono ?_
  rintro e w2 ⟨rfl, hb⟩
  have HB : Hid (Ext w w2) := (((Ext.refl _).alloc _).alloc _).trans hb
  have HT : Hid (TwoBox w2 w.heap.size ⟨c, p, 3⟩) := (twobox_new w ⟨c, p, 3⟩ _ _).ext hb
  clear hb
  obtain ⟨c0, c1, c2⟩ := HT.out.1.2.cells
  go_wp2_with fail
  refine (HK.out _).mono ?_
  rintro e w1 ⟨rfl, hw1⟩; rw [hw1]; clear hw1 w1
  clear HI HF HK
  go_wp2
  refine wp_region_held_drew (S := fun W' => W'.cell? ⟨w.heap.size, 0, none⟩ = some (.int .i64 c) ∧ W'.cell? ⟨w.heap.size, 1, none⟩ = some (.string p) ∧ W'.cell? ⟨w.heap.size, 2, none⟩ = some (.int .i64 3)) (by kernel_rfl) ⟨c0, c1, c2⟩ (fun hHeld => ?_)
  refine wpAnyH_take (i := 0) (v := ?v53) rfl (by kernel_rfl) (by kernel_rfl) (by kernel_rfl) (fun _ _ _ h => h) (Or.inl ⟨by rfl, ?y53⟩) (by assumption) ?r53
  case y53 => (intro w' hSw; (try dsimp only at hSw); go_simp; try with_reducible rfl)
  (try simp only [Act.put])
  refine wpAnyH_take (i := 1) (v := ?v54) rfl (by kernel_rfl) (by kernel_rfl) (by kernel_rfl) (fun _ _ _ h => h) (Or.inl ⟨by rfl, ?y54⟩) (by assumption) ?r54
  case y54 => (intro w' hSw; (try dsimp only at hSw); go_simp; try with_reducible rfl)
  (try simp only [Act.put])
  refine wpAnyH_take (i := 5) (v := ?v55) rfl (by kernel_rfl) (by kernel_rfl) (by kernel_rfl) (fun _ _ _ h => h) (Or.inl ⟨by rfl, ?y55⟩) (by assumption) ?r55
  case y55 => (intro w' hSw; (try dsimp only at hSw); go_simp; try with_reducible rfl)
  (try simp only [Act.put])
  refine wpAnyH_take (i := 6) (v := ?v56) rfl (by kernel_rfl) (by kernel_rfl) (by kernel_rfl) (fun _ _ _ h => h) (Or.inl ⟨by rfl, ?y56⟩) (by assumption) ?r56
  case y56 => (intro w' hSw; (try dsimp only at hSw); go_simp; try with_reducible rfl)
  (try simp only [Act.put])
  refine wpAnyH_take (i := 10) (v := ?v57) rfl (by kernel_rfl) (by kernel_rfl) (by kernel_rfl) (fun _ _ _ h => h) (Or.inl ⟨by rfl, ?y57⟩) (by assumption) ?r57
  case y57 => (intro w' hSw; (try dsimp only at hSw); go_simp; try with_reducible rfl)
  (try simp only [Act.put])
  refine wpAnyH_take (i := 11) (v := ?v58) rfl (by kernel_rfl) (by kernel_rfl) (by kernel_rfl) (fun _ _ _ h => h) (Or.inl ⟨by rfl, ?y58⟩) (by assumption) ?r58
  case y58 => (intro w' hSw; (try dsimp only at hSw); go_simp; try with_reducible rfl)
  (try simp only [Act.put])
  refine wpAnyH_ready (rs := [2, 9]) (by kernel_rfl) (by simp) (AllReadyH.cons rfl (fun K hK => ?_) (AllReadyH.cons rfl (fun K hK => ?_) AllReadyH.nil))
  · go_simp
    refine (HD.out _).mono ?_
    rintro e w3 ⟨rfl, hb3⟩
    have HE3 : Hid (Ext w w3) := (HB.out.drew).trans hb3
    have HT3 : Hid (TwoBox w3 w.heap.size ⟨c, p, 3⟩) := (HT.out.ext ((Ext.refl _).drew)).ext hb3
    clear hb3
    refine hK.out _ _ HT3.out.1.2.cells (fun hHeld1 => ?_)
    clear hK K
    refine wpAnyH_take (i := 3) (v := ?v59) rfl (by kernel_rfl) (by kernel_rfl) (by kernel_rfl) (fun _ _ _ h => h) (Or.inl ⟨by rfl, ?y59⟩) (by assumption) ?r59
    case y59 => (intro w' hSw; (try dsimp only at hSw); go_simp; try with_reducible rfl)
    (try simp only [Act.put])
    refine wpAnyH_take (i := 4) (v := ?v60) rfl (by kernel_rfl) (by kernel_rfl) (by kernel_rfl) (fun _ _ _ h => h) (Or.inl ⟨by rfl, ?y60⟩) (by assumption) ?r60
    case y60 => (intro w' hSw; (try dsimp only at hSw); go_simp; try with_reducible rfl)
    (try simp only [Act.put])
    refine wpAnyH_take (i := 7) (v := ?v61) rfl (by kernel_rfl) (by kernel_rfl) (by kernel_rfl) (fun _ _ _ h => h) (Or.inl ⟨by rfl, ?y61⟩) (by assumption) ?r61
    case y61 => (intro w' hSw; (try dsimp only at hSw); go_simp; try with_reducible rfl)
    (try simp only [Act.put])
    refine wpAnyH_take (i := 8) (v := ?v62) rfl (by kernel_rfl) (by kernel_rfl) (by kernel_rfl) (fun _ _ _ h => h) (Or.inl ⟨by rfl, ?y62⟩) (by assumption) ?r62
    case y62 => (intro w' hSw; (try dsimp only at hSw); go_simp; try with_reducible rfl)
    (try simp only [Act.put])
    refine wpAnyH_ready (rs := [9]) (by kernel_rfl) (by simp) (AllReadyH.cons rfl (fun K hK => ?_) AllReadyH.nil)
    go_simp
    refine hK.out _ _ (HT3.out.alloc _).1.2.cells (fun hHeld2 => ?_)
    clear hK K
    refine wpAnyH_take (i := 12) (v := ?v63) rfl (by kernel_rfl) (by kernel_rfl) (by kernel_rfl) (fun _ _ _ h => h) (Or.inl ⟨by rfl, ?y63⟩) (by assumption) ?r63
    case y63 => (intro w' hSw; (try dsimp only at hSw); go_simp; try with_reducible rfl)
    (try simp only [Act.put])
    refine wpAnyH_ready (rs := [13]) (by kernel_rfl) (by simp) (AllReadyH.cons rfl (fun K hK => ?_) AllReadyH.nil)
    go_simp
    refine hK.out _ _ (HT3.out.alloc _).1.2.cells (fun hHeld3 => ?_)
    clear hK K
    refine wpAnyH_take (i := 14) (v := ?v64) rfl (by kernel_rfl) (by kernel_rfl) (by kernel_rfl) (fun _ _ _ h => h) (Or.inl ⟨by rfl, ?y64⟩) (by assumption) ?r64
    case y64 => (intro w' hSw; (try dsimp only at hSw); go_simp; try with_reducible rfl)
    (try simp only [Act.put])
    refine wpAnyH_take (i := 15) (v := ?v65) rfl (by kernel_rfl) (by kernel_rfl) (by kernel_rfl) (fun _ _ _ h => h) (Or.inl ⟨by rfl, ?y65⟩) (by assumption) ?r65
    case y65 => (intro w' hSw; (try dsimp only at hSw); go_simp; try with_reducible rfl)
    (try simp only [Act.put])
    obtain ⟨t0, t1, t2, t3, t4⟩ := HT3.out.2
    refine wpAnyH_ready (rs := [16]) (by kernel_rfl) (by simp) (AllReadyH.cons rfl (fun K hK => ?_) AllReadyH.nil)
    go_simp
    refine hK.out _ _ (by first | exact ((HT3.out.alloc (.cells #[.string ⟨#[]⟩, .string ⟨#[109, 97, 100, 101]⟩, .string ⟨#[103, 111, 110, 101]⟩, .string ⟨#[116, 117, 114, 110, 101, 100]⟩] 9)).put _ _).cells | exact (((HT3.out.put _ _).ext (by have := t0; simp; omega) ((Ext.refl _).alloc _)).cells)) (fun hHeld9 => ?_)
    clear hK K
    refine wpAnyH_done (by kernel_rfl) ?_ _
    go_wp2
    exact bodyPost_ret (v := .agg #[.int .i64 0, .string A5]) (by simp [results, Tryd.results18, go_sem, *]) rfl ⟨rfl, by first | exact HE3.out.twoK _ _ | exact (HE3.out.alloc _).twoK _ _ | exact (HE3.out.twoK _ _).alloc _⟩
  · go_simp
    have HT2 : Hid (TwoBox (w2.drew.alloc (.cells #[.string ⟨#[]⟩, .string ⟨#[109, 97, 100, 101]⟩, .string ⟨#[103, 111, 110, 101]⟩, .string ⟨#[116, 117, 114, 110, 101, 100]⟩] 9)) w.heap.size ⟨c, p, 3⟩) := (HT.out.ext ((Ext.refl _).drew)).alloc _
    have HB2 : Hid (Ext w (w2.drew.alloc (.cells #[.string ⟨#[]⟩, .string ⟨#[109, 97, 100, 101]⟩, .string ⟨#[103, 111, 110, 101]⟩, .string ⟨#[116, 117, 114, 110, 101, 100]⟩] 9))) := (HB.out.drew).alloc _
    refine hK.out _ _ HT2.out.1.2.cells (fun hHeld2 => ?_)
    clear hK K
    refine wpAnyH_take (i := 12) (v := ?v66) rfl (by kernel_rfl) (by kernel_rfl) (by kernel_rfl) (fun _ _ _ h => h) (Or.inl ⟨by rfl, ?y66⟩) (by assumption) ?r66
    case y66 => (intro w' hSw; (try dsimp only at hSw); go_simp; try with_reducible rfl)
    (try simp only [Act.put])
    refine wpAnyH_ready (rs := [2, 13]) (by kernel_rfl) (by simp) (AllReadyH.cons rfl (fun K hK => ?_) (AllReadyH.cons rfl (fun K hK => ?_) AllReadyH.nil))
    · go_simp
      refine (HD.out _).mono ?_
      rintro e w3 ⟨rfl, hb3⟩
      have HE3 : Hid (Ext w w3) := HB2.out.trans hb3
      have HT3 : Hid (TwoBox w3 w.heap.size ⟨c, p, 3⟩) := HT2.out.ext hb3
      have qq := after4 (w2 := w2) (by first | exact hb3 | exact ((Ext.refl _).drew).trans hb3)
      clear hb3
      refine hK.out _ _ HT3.out.1.2.cells (fun hHeld1 => ?_)
      clear hK K
      refine wpAnyH_take (i := 3) (v := ?v67) rfl (by kernel_rfl) (by kernel_rfl) (by kernel_rfl) (fun _ _ _ h => h) (Or.inl ⟨by rfl, ?y67⟩) (by assumption) ?r67
      case y67 => (intro w' hSw; (try dsimp only at hSw); go_simp; try with_reducible rfl)
      (try simp only [Act.put])
      refine wpAnyH_take (i := 4) (v := ?v68) rfl (by kernel_rfl) (by kernel_rfl) (by kernel_rfl) (fun _ _ _ h => h) (Or.inl ⟨by rfl, ?y68⟩) (by assumption) ?r68
      case y68 => (intro w' hSw; (try dsimp only at hSw); go_simp; try with_reducible rfl)
      (try simp only [Act.put])
      refine wpAnyH_take (i := 7) (v := ?v69) rfl (by kernel_rfl) (by kernel_rfl) (by kernel_rfl) (fun _ _ _ h => h) (Or.inl ⟨by rfl, ?y69⟩) (by assumption) ?r69
      case y69 => (intro w' hSw; (try dsimp only at hSw); go_simp; try with_reducible rfl)
      (try simp only [Act.put])
      refine wpAnyH_take (i := 8) (v := ?v70) rfl (by kernel_rfl) (by kernel_rfl) (by kernel_rfl) (fun _ _ _ h => h) (Or.inl ⟨by rfl, ?y70⟩) (by assumption) ?r70
      case y70 => (intro w' hSw; (try dsimp only at hSw); go_simp; try with_reducible rfl)
      (try simp only [Act.put])
      refine wpAnyH_ready (rs := [13]) (by kernel_rfl) (by simp) (AllReadyH.cons rfl (fun K hK => ?_) AllReadyH.nil)
      go_simp
      refine hK.out _ _ HT3.out.1.2.cells (fun hHeld3 => ?_)
      clear hK K
      refine wpAnyH_take (i := 14) (v := ?v71) rfl (by kernel_rfl) (by kernel_rfl) (by kernel_rfl) (fun _ _ _ h => h) (Or.inl ⟨by rfl, ?y71⟩) (by assumption) ?r71
      case y71 => (intro w' hSw; (try dsimp only at hSw); go_simp; try with_reducible rfl)
      (try simp only [Act.put])
      refine wpAnyH_take (i := 15) (v := ?v72) rfl (by kernel_rfl) (by kernel_rfl) (by kernel_rfl) (fun _ _ _ h => h) (Or.inl ⟨by rfl, ?y72⟩) (by assumption) ?r72
      case y72 => (intro w' hSw; (try dsimp only at hSw); go_simp; try with_reducible rfl)
      (try simp only [Act.put])
      obtain ⟨t0, t1, t2, t3, t4⟩ := HT3.out.2
      refine wpAnyH_ready (rs := [16]) (by kernel_rfl) (by simp) (AllReadyH.cons rfl (fun K hK => ?_) AllReadyH.nil)
      go_simp
      refine hK.out _ _ (by first | exact ((HT3.out).put _ _).cells | exact (((HT3.out.put _ _).ext (by have := t0; simp; omega) ((Ext.refl _).alloc _)).cells)) (fun hHeld9 => ?_)
      clear hK K
      refine wpAnyH_done (by kernel_rfl) ?_ _
      go_wp2
      exact bodyPost_ret (v := .agg #[.int .i64 0, .string A5]) (by simp [results, Tryd.results18, go_sem, *]) rfl ⟨rfl, by first | exact HE3.out.twoK _ _ | exact (HE3.out.alloc _).twoK _ _ | exact (HE3.out.twoK _ _).alloc _⟩
    · go_simp
      refine hK.out _ _ HT2.out.1.2.cells (fun hHeld3 => ?_)
      clear hK K
      refine wpAnyH_ready (rs := [2]) (by kernel_rfl) (by simp) (AllReadyH.cons rfl (fun K hK => ?_) AllReadyH.nil)
      go_simp
      refine (HD.out _).mono ?_
      rintro e w3 ⟨rfl, hb3⟩
      have HE3 : Hid (Ext w w3) := HB2.out.trans hb3
      have HT3 : Hid (TwoBox w3 w.heap.size ⟨c, p, 3⟩) := HT2.out.ext hb3
      clear hb3
      refine hK.out _ _ HT3.out.1.2.cells (fun hHeld1 => ?_)
      clear hK K
      refine wpAnyH_take (i := 3) (v := ?v73) rfl (by kernel_rfl) (by kernel_rfl) (by kernel_rfl) (fun _ _ _ h => h) (Or.inl ⟨by rfl, ?y73⟩) (by assumption) ?r73
      case y73 => (intro w' hSw; (try dsimp only at hSw); go_simp; try with_reducible rfl)
      (try simp only [Act.put])
      refine wpAnyH_take (i := 4) (v := ?v74) rfl (by kernel_rfl) (by kernel_rfl) (by kernel_rfl) (fun _ _ _ h => h) (Or.inl ⟨by rfl, ?y74⟩) (by assumption) ?r74
      case y74 => (intro w' hSw; (try dsimp only at hSw); go_simp; try with_reducible rfl)
      (try simp only [Act.put])
      refine wpAnyH_take (i := 7) (v := ?v75) rfl (by kernel_rfl) (by kernel_rfl) (by kernel_rfl) (fun _ _ _ h => h) (Or.inl ⟨by rfl, ?y75⟩) (by assumption) ?r75
      case y75 => (intro w' hSw; (try dsimp only at hSw); go_simp; try with_reducible rfl)
      (try simp only [Act.put])
      refine wpAnyH_take (i := 8) (v := ?v76) rfl (by kernel_rfl) (by kernel_rfl) (by kernel_rfl) (fun _ _ _ h => h) (Or.inl ⟨by rfl, ?y76⟩) (by assumption) ?r76
      case y76 => (intro w' hSw; (try dsimp only at hSw); go_simp; try with_reducible rfl)
      (try simp only [Act.put])
      refine wpAnyH_take (i := 14) (v := ?v77) rfl (by kernel_rfl) (by kernel_rfl) (by kernel_rfl) (fun _ _ _ h => h) (Or.inl ⟨by rfl, ?y77⟩) (by assumption) ?r77
      case y77 => (intro w' hSw; (try dsimp only at hSw); go_simp; try with_reducible rfl)
      (try simp only [Act.put])
      refine wpAnyH_take (i := 15) (v := ?v78) rfl (by kernel_rfl) (by kernel_rfl) (by kernel_rfl) (fun _ _ _ h => h) (Or.inl ⟨by rfl, ?y78⟩) (by assumption) ?r78
      case y78 => (intro w' hSw; (try dsimp only at hSw); go_simp; try with_reducible rfl)
      (try simp only [Act.put])
      obtain ⟨t0, t1, t2, t3, t4⟩ := HT3.out.2
      refine wpAnyH_ready (rs := [16]) (by kernel_rfl) (by simp) (AllReadyH.cons rfl (fun K hK => ?_) AllReadyH.nil)
      go_simp
      refine hK.out _ _ (by first | exact ((HT3.out).put _ _).cells | exact (((HT3.out.put _ _).ext (by have := t0; simp; omega) ((Ext.refl _).alloc _)).cells)) (fun hHeld9 => ?_)
      clear hK K
      refine wpAnyH_done (by kernel_rfl) ?_ _
      go_wp2
      exact bodyPost_ret (v := .agg #[.int .i64 0, .string A5]) (by simp [results, Tryd.results18, go_sem, *]) rfl ⟨rfl, by first | exact HE3.out.twoK _ _ | exact (HE3.out.alloc _).twoK _ _ | exact (HE3.out.twoK _ _).alloc _⟩
end Go.Proofs.YtgofggmgnodplaaDoor
