/- the specification's l8Draw. -/
import Derived.Test.YtpncnfodgfldlaaDoorLxG2
import Derived.Test.YtpncnfodgfldlaaDoorLxTk
namespace Go.Proofs.YtpncnfodgfldlaaDoor
open Go.RowKit
theorem ct_new (w : World) (z : Ct) (t : TypeId) : ∀ j u, (cellsCt [z])[j]? = some u → (w.alloc (.cells #[.int .i64 z.slot, .int .i64 z.view, .int .i64 z.value] t)).cell? ((⟨w.heap.size, 0, none⟩ : Addr).add j) = some u := CtsAt.news (l := [z]) (by
  intro i y hy
  cases i with
  | zero => simp at hy; subst hy; exact ⟨by simp, by simp, by simp⟩
  | succ i => simp at hy)
theorem Dr.St.first {w w1 w2 w3 : World} {b a : Nat} {cv : Value} (x r1 r2 : Int) (h : SrcAt w b a cv) (ht1 : Dr.Tick b (a + 1) cv (w.alloc (.cells #[.int .i64 0, .int .i64 0, .int .i64 0, .int .i64 0, .int .i64 0, .slice none 0 0, .slice none 0 0] 28)) w1) (ht2 : Dr.Tick b (a + 1 + 1) cv w1 w2) (ht3 : Dr.Tick b (a + 1 + 1 + 1) cv w2 w3) :
    Dr.St w b cv (w3.alloc (.cells #[.int .i64 x, .int .i64 r1, .int .i64 (1 + r2), .int .i64 0, .int .i64 0, .slice none 0 0, .slice none 0 0] 28)) w3.heap.size (a + 3) ⟨x, r1, 1 + r2, 0, 0, [], []⟩ (.slice none 0 0) (.slice none 0 0) := by
  have hlt := h.lt
  have hR := (((mbox_new w ⟨0, 0, 0, 0, 0, [], []⟩ (.slice none 0 0) (.slice none 0 0) 28)))
  have q1 := ht1.2.2.box hR (by omega)
  have q2 := ht2.2.2.box q1 (by omega)
  have q3 := ht3.2.2.box q2 (by omega)
  refine ⟨q3.ext ((Ext.refl _).alloc _), mbox_new w3 ⟨x, r1, 1 + r2, 0, 0, [], []⟩ (.slice none 0 0) (.slice none 0 0) _, q3.1, World.ownsRow_nil _ _ _ _, World.ownsRow_nil _ _ _ _, ?_⟩
  exact ((((Dr.Tick.start h).ext ((Ext.refl _).alloc _)).trans ht1).trans ht2).trans ht3 |>.ext ((Ext.refl _).alloc _)
set_option linter.unusedSimpArgs false in
set_option maxHeartbeats 8000000 in
set_option maxRecDepth 100000 in
theorem l8Draw_any (b a : Nat) (cv : Value) (n : Int) (w : World) (h : SrcAt w b a cv) (hn0 : 0 ≤ n) (hn1 : n ≤ 20) (ha : a ≤ 900) :
    Calls Tryd.prog 39 #[.pointer (some ⟨b, 0, none⟩), .int .i64 n] w fun e w' => ∃ m v u, e = .returned (magg m v u) ∧ Dr.Got (w.heap.size + 1) w b (a + 25) cv m v u w' ∧ m.certs.length ≤ 4 := by
  have hi9 : (Tryd.prog.info? 76).map (fun i => (i.zero, i.size, i.bytes)) = some (some (.agg #[.int .i64 0, .int .i64 0, .int .i64 0]), 3, 24) := by kernel_rfl
  obtain ⟨ti, hti, hxx⟩ := Option.map_eq_some_iff.1 hi9
  simp only [Prod.mk.injEq] at hxx
  obtain ⟨hz0, hz1, hz2⟩ := hxx
  clear hi9
  have hi9 : (Tryd.prog.info? 2).map (fun i => (i.zero, i.size, i.bytes)) = some (some (.int .i64 0), 1, 8) := by kernel_rfl
  obtain ⟨si, hsi, hxx⟩ := Option.map_eq_some_iff.1 hi9
  simp only [Prod.mk.injEq] at hxx
  obtain ⟨sz0, sz1, sz2⟩ := hxx
  clear hi9
  have hb := h.lt
  have HS0 : Hid (SrcAt w b a cv) := h
  have NX : Hid (∀ (a' : Nat) (k : Int) (wx : World), SrcAt wx b a' cv → 1 ≤ k → k ≤ 200 → a' ≤ 1000 → Calls Tryd.prog 38 #[.pointer (some ⟨b, 0, none⟩), .int .i64 k] wx fun e w' => ∃ r : Int, e = .returned (.int .i64 r) ∧ 0 ≤ r ∧ r < k ∧ Dr.Tick b (a' + 1) cv wx w') := fun a' k wx h1 h2 h3 h4 => Dr.next b a' cv k wx h1 h2 h3 h4
  have CH : Hid (∀ (a' : Nat) (k : Int) (wx : World), SrcAt wx b a' cv → 1 ≤ k → k ≤ 200 → a' ≤ 1000 → Calls Tryd.prog 17 #[.pointer (some ⟨b, 0, none⟩), .int .i64 k] wx fun e w' => ∃ r : Bool, e = .returned (.bool r) ∧ Dr.Tick b (a' + 1) cv wx w') := fun a' k wx h1 h2 h3 h4 => Dr.chance b a' cv k wx h1 h2 h3 h4
  have PK : Hid (∀ (a' g : Nat) (wx : World), g = wx.heap.size → SrcAt wx b a' cv → a' ≤ 1000 → Calls Tryd.prog 36 #[.pointer (some ⟨b, 0, none⟩), .slice (some ⟨g, 0, none⟩) 7 7] (wx.alloc (.cells #[.int .i64 1, .int .i64 2, .int .i64 2, .int .i64 3, .int .i64 3, .int .i64 4, .int .i64 5] 2)) fun e w' => ∃ x : Int, e = .returned (.int .i64 x) ∧ Dr.Tick b (a' + 1) cv wx w') := fun a' g wx hg h1 h2 => by subst hg; exact Dr.pick b a' cv [1, 2, 2, 3, 3, 4, 5] wx 2 h1 (by decide) (by decide) h2
  clear h
  go_enter Tryd.func39, Tryd.ntmps39
  go_wp2_with fail
  refine (PK.out a _ _ (by simp) (HS0.out.alloc _) (by omega)).mono ?_
  rintro e w1 ⟨x, rfl, ht1⟩
  have T1 : Hid _ := ht1
  clear ht1
  go_wp2_with fail
  refine (NX.out (a + 1) 3 _ T1.out.1 (by omega) (by omega) (by omega)).mono ?_
  rintro e w2 ⟨r1, rfl, hr10, hr11, ht2⟩
  have T2 : Hid _ := ht2
  clear ht2
  go_wp2_with fail
  refine (NX.out (a + 1 + 1) 4 _ T2.out.1 (by omega) (by omega) (by omega)).mono ?_
  rintro e w3 ⟨r2, rfl, hr20, hr21, ht3⟩
  have ST : Hid _ := Dr.St.first x r1 r2 HS0.out T1.out T2.out ht3
  clear ht3 T1 T2 PK HS0
  have hwr : IntKind.i64.wrap (1 + r2) = 1 + r2 := by rw [IntKind.wrap_i64]; omega
  obtain ⟨W0, hW0⟩ : ∃ W0, W0 = w3.alloc (.cells #[.int .i64 x, .int .i64 r1, .int .i64 (1 + r2), .int .i64 0, .int .i64 0, .slice none 0 0, .slice none 0 0] 28) := ⟨_, rfl⟩
  have ST2 : Hid (Dr.St w b cv W0 w3.heap.size (a + 3) ⟨x, r1, 1 + r2, 0, 0, [], []⟩ (.slice none 0 0) (.slice none 0 0)) := by rw [hW0]; exact ST.out
  clear ST
  by_cases hx4 : x = 4
  · have g4 : (x == 4) = true := by simpa using hx4
    clear hx4
    go_wp2
    rw [← hW0]
    generalize w3.heap.size = B at *
    clear hW0
    go_loopw [6] (fun i wr => ∃ (k : Nat) (zs : List Ct) (v : Value) (a4 : Nat), 1 ≤ k ∧ k ≤ 4 ∧ i = .int .i64 (k : Int) ∧ zs.length + 1 ≤ k ∧ a4 ≤ a + 3 + 5 * k ∧ a4 ≤ 1000 ∧ Hid (Dr.St w b cv wr B a4 ⟨x, r1, 1 + r2, 0, 0, zs, []⟩ v (.slice none 0 0))) (fun i _ => 4 - (intOf i).toNat)
    case atStart => exact ⟨1, [], (.slice none 0 0), a + 3, by omega, by omega, rfl, by simp, by omega, by omega, ST2⟩
    case round =>
      obtain ⟨k, zs, v, a4, hk1, hk, rfl, hzl, ha4, ha5, SK⟩ := hrel
      obtain ⟨ad, cp, rfl⟩ := Led.owns_form SK.out.2.2.2.1
      by_cases hk4 : k < 4
      · by_cases hv : 0 < r1
        · obtain ⟨bl, ⟨c0, c1, c2, c3, c4, c5, c6⟩, -⟩ := SK.out.2.1
          go_wp2_with fail
          refine (CH.out a4 3 _ SK.out.2.2.2.2.2.1 (by omega) (by omega) (by omega)).mono ?_
          rintro e w4 ⟨ch, rfl, ht⟩
          have T4 : Hid (Dr.St w b cv w4 B (a4 + 1) ⟨x, r1, 1 + r2, 0, 0, zs, []⟩ (.slice ad zs.length cp) (.slice none 0 0)) := SK.out.tick hb ht
          clear ht bl c0 c1 c2 c3 c4 c5 c6 SK
          cases ch with
          | false =>
            go_wp2
            exact ⟨⟨k + 1, zs, _, a4 + 1, by omega, by omega, by go_num, by omega, by omega, by omega, T4⟩, by simp [intOf]; omega⟩
          | true =>
            have TD : Hid (Dr.St w b cv w4.drew B (a4 + 1) ⟨x, r1, 1 + r2, 0, 0, zs, []⟩ (.slice ad zs.length cp) (.slice none 0 0)) := T4.out.ext (Ext.refl _).drew
            go_wp2
            refine wp_region_held_drew (S := (fun W' : World => W'.cell? ⟨B, 1, none⟩ = some (.int .i64 r1))) (by kernel_rfl) (T4.out.2.1.2.1.2.1) (fun hHeld => ?_)
            refine tk 0 { dst := some 39, op := Op.fieldAddr 28 (.tmp 5) 5, type := 0, pos := "l08_msg.go:214", after := #[], guard := none } ?_
            refine tk 2 { dst := some 41, op := Op.move (.tmp 6), type := 2, pos := "l08_msg.go:214", after := #[], guard := none } ?_
            refine tk 3 { dst := some 42, op := Op.move (.tmp 0), type := 43, pos := "l08_msg.go:214", after := #[], guard := none } ?_
            refine tk 4 { dst := some 43, op := Op.fieldAddr 28 (.tmp 5) 1, type := 0, pos := "l08_msg.go:214", after := #[], guard := none } ?_
            refine tk 5 { dst := some 44, op := Op.load 2 (.tmp 43), type := 2, pos := "l08_msg.go:214", after := #[⟨4, .data⟩], guard := none } ?_
            refine tk 7 { dst := some 46, op := Op.move (.tmp 0), type := 43, pos := "l08_msg.go:214", after := #[], guard := none } ?_
            refine wpAnyH_ready (rs := [1, 6]) (by kernel_rfl) (by simp) (AllReadyH.cons rfl (fun K hK => ?_) (AllReadyH.cons rfl (fun K hK => ?_) AllReadyH.nil))
            · have cc5 : w4.drew.cell? ⟨B, 5, none⟩ = some (.slice ad zs.length cp) := TD.out.2.1.2.1.2.2.2.2.2.1
              have SV1 : Hid (w4.drew.cell? ⟨B, 1, none⟩ = some (.int .i64 r1)) := TD.out.2.1.2.1.2.1
              go_simp
              refine hK.out _ _ (by exact SV1.out) (fun hHeld1 => ?_)
              clear hK K
              clear cc5
              refine wpAnyH_ready (rs := [6]) (by kernel_rfl) (by simp) (AllReadyH.cons rfl (fun K hK => ?_) AllReadyH.nil)
              go_simp
              refine (NX.out _ r1 _ TD.out.2.2.2.2.2.1 (by omega) (by omega) (by omega)).mono ?_
              rintro e y3 ⟨q1, rfl, hq10, hq11, ht⟩
              have T3 : Hid (Dr.St w b cv y3 B (a4 + 1 + 1) ⟨x, r1, 1 + r2, 0, 0, zs, []⟩ (.slice ad zs.length cp) (.slice none 0 0)) := TD.out.tick hb ht
              have SV3 : Hid (y3.cell? ⟨B, 1, none⟩ = some (.int .i64 r1)) := T3.out.2.1.2.1.2.1
              clear ht
              refine hK.out _ _ (by exact SV3.out) (fun hHeld3 => ?_)
              clear hK K
              refine wpAnyH_ready (rs := [8]) (by kernel_rfl) (by simp) (AllReadyH.cons rfl (fun K hK => ?_) AllReadyH.nil)
              go_simp
              refine (NX.out _ 3 _ T3.out.2.2.2.2.2.1 (by omega) (by omega) (by omega)).mono ?_
              rintro e y4 ⟨q2, rfl, hq20, hq21, ht⟩
              have T4 : Hid (Dr.St w b cv y4 B (a4 + 1 + 1 + 1) ⟨x, r1, 1 + r2, 0, 0, zs, []⟩ (.slice ad zs.length cp) (.slice none 0 0)) := T3.out.tick hb ht
              have SV4 : Hid (y4.cell? ⟨B, 1, none⟩ = some (.int .i64 r1)) := T4.out.2.1.2.1.2.1
              clear ht
              refine hK.out _ _ (by exact SV4.out) (fun hHeld4 => ?_)
              clear hK K
              refine tk 9 { dst := some 48, op := Op.build 76 #[(0, .tmp 41), (1, .tmp 45), (2, .tmp 47)], type := 76, pos := "l08_msg.go:214", after := #[⟨2, .data⟩, ⟨6, .data⟩, ⟨8, .data⟩], guard := none } ?_
              refine wpAnyH_ready (rs := [10]) (by kernel_rfl) (by simp) (AllReadyH.cons rfl (fun K hK => ?_) AllReadyH.nil)
              go_simp
              have SV5 : Hid ((y4.alloc (.cells #[.int .i64 (k : Int), .int .i64 q1, .int .i64 q2] 76)).cell? ⟨B, 1, none⟩ = some (.int .i64 r1)) := keepAl T4.out.2.1.2.1.2.1
              refine hK.out _ _ (by exact SV5.out) (fun hHeld5 => ?_)
              clear hK K
              refine wpAnyH_ready (rs := [11]) (by kernel_rfl) (by simp) (AllReadyH.cons rfl (fun K hK => ?_) AllReadyH.nil)
              refine Dr.step_append_own _ rfl (.tmp 40) (.tmp 49) 25 rfl (B + 1) 76 ti (.agg #[.int .i64 0, .int .i64 0, .int .i64 0]) 3 24 Tryd.underlying25 hti hz0 hz1 hz2 rfl (by decide) (.slice ad zs.length cp) zs.length (cellsCt zs) rfl (T4.out.2.2.2.1.alloc _) ⟨y4.heap.size, 0, none⟩ 1 1 (cellsCt [⟨k, q1, q2⟩]) rfl rfl (ct_new _ _ _) (cellsCt_one _) (by unfold maxLen; omega) (by omega) (by have := T4.out.2.1.1; simp; omega) ?_
              intro v6 w6 hown6 hgrow6 hnil6
              clear hnil6
              have TF : Hid (Dr.St w b cv (w6.setCell ⟨B, 5, none⟩ v6) B (a4 + 1 + 1 + 1) ⟨x, r1, 1 + r2, 0, 0, (zs ++ [⟨k, q1, q2⟩]), []⟩ v6 (.slice none 0 0)) := T4.out.certs hb hown6 hgrow6
              have BX : Hid (MBoxAt w6 B ⟨x, r1, 1 + r2, 0, 0, zs, []⟩ (.slice ad zs.length cp) (.slice none 0 0)) := Dr.box_below T4.out.2.1 (Below.grown ((Below.refl (B + 1) y4).alloc (by have := T4.out.2.1.1; omega) _) hgrow6 (by have := T4.out.2.1.1; simp; omega) (fun q hq => (T4.out.2.2.2.1.lt q hq).1)) (by omega)
              have SV6 : Hid (w6.cell? ⟨B, 1, none⟩ = some (.int .i64 r1)) := BX.out.2.1.2.1
              have OW : Hid (∃ ad6 cap6, v6 = .slice ad6 (zs.length + 1) cap6) := Led.owns_form hown6
              clear hown6 hgrow6
              refine hK.out _ _ (by exact SV6.out) (fun hHeld6 => ?_)
              clear hK K
              refine tk 12 { dst := some 51, op := Op.fieldAddr 28 (.tmp 5) 5, type := 0, pos := "l08_msg.go:214", after := #[⟨0, .phase⟩, ⟨1, .phase⟩, ⟨2, .phase⟩, ⟨3, .phase⟩, ⟨4, .phase⟩, ⟨5, .phase⟩, ⟨6, .phase⟩, ⟨7, .phase⟩, ⟨8, .phase⟩, ⟨9, .phase⟩, ⟨10, .phase⟩, ⟨11, .phase⟩], guard := none } ?_
              refine wpAnyH_ready (rs := [13]) (by kernel_rfl) (by simp) (AllReadyH.cons rfl (fun K hK => ?_) AllReadyH.nil)
              obtain ⟨-, ⟨-, -, -, -, -, bx5, -⟩, -, -, -, -, -, bf5, -⟩ := BX.out
              obtain ⟨ad6, cap6, rfl⟩ := OW.out
              go_simp
              have SV7 : Hid ((w6.setCell ⟨B, 5, none⟩ (.slice ad6 (zs.length + 1) cap6)).cell? ⟨B, 1, none⟩ = some (.int .i64 r1)) := TF.out.2.1.2.1.2.1
              refine hK.out _ _ (by exact SV7.out) (fun hHeld7 => ?_)
              clear hK K
              refine wpAnyH_done (by kernel_rfl) ?_ _
              obtain ⟨W7, hW7⟩ : ∃ W7, W7 = w6.setCell ⟨B, 5, none⟩ (.slice ad6 (zs.length + 1) cap6) := ⟨_, rfl⟩
              have TG2 : Hid (Dr.St w b cv W7 B (a4 + 1 + 1 + 1) ⟨x, r1, 1 + r2, 0, 0, (zs ++ [⟨k, q1, q2⟩]), []⟩ (.slice ad6 (zs.length + 1) cap6) (.slice none 0 0)) := by rw [hW7]; exact TF.out
              rw [← hW7]
              clear TF BX hW7
              go_wp2
              exact ⟨⟨k + 1, zs ++ [⟨k, q1, q2⟩], _, a4 + 1 + 1 + 1, by omega, by omega, by go_num, by rw [List.length_append]; simp; omega, by omega, by omega, TG2⟩, by simp [intOf]; omega⟩
            · go_simp
              refine (NX.out _ r1 _ TD.out.2.2.2.2.2.1 (by omega) (by omega) (by omega)).mono ?_
              rintro e y2 ⟨q1, rfl, hq10, hq11, ht⟩
              have T2 : Hid (Dr.St w b cv y2 B (a4 + 1 + 1) ⟨x, r1, 1 + r2, 0, 0, zs, []⟩ (.slice ad zs.length cp) (.slice none 0 0)) := TD.out.tick hb ht
              have SV2 : Hid (y2.cell? ⟨B, 1, none⟩ = some (.int .i64 r1)) := T2.out.2.1.2.1.2.1
              clear ht
              refine hK.out _ _ (by exact SV2.out) (fun hHeld2 => ?_)
              clear hK K
              refine wpAnyH_ready (rs := [1, 8]) (by kernel_rfl) (by simp) (AllReadyH.cons rfl (fun K hK => ?_) (AllReadyH.cons rfl (fun K hK => ?_) AllReadyH.nil))
              · have cc5 : y2.cell? ⟨B, 5, none⟩ = some (.slice ad zs.length cp) := T2.out.2.1.2.1.2.2.2.2.2.1
                have SV8 : Hid (y2.cell? ⟨B, 1, none⟩ = some (.int .i64 r1)) := T2.out.2.1.2.1.2.1
                go_simp
                refine hK.out _ _ (by exact SV8.out) (fun hHeld8 => ?_)
                clear hK K
                clear cc5
                refine wpAnyH_ready (rs := [8]) (by kernel_rfl) (by simp) (AllReadyH.cons rfl (fun K hK => ?_) AllReadyH.nil)
                go_simp
                refine (NX.out _ 3 _ T2.out.2.2.2.2.2.1 (by omega) (by omega) (by omega)).mono ?_
                rintro e y10 ⟨q2, rfl, hq20, hq21, ht⟩
                have T10 : Hid (Dr.St w b cv y10 B (a4 + 1 + 1 + 1) ⟨x, r1, 1 + r2, 0, 0, zs, []⟩ (.slice ad zs.length cp) (.slice none 0 0)) := T2.out.tick hb ht
                have SV10 : Hid (y10.cell? ⟨B, 1, none⟩ = some (.int .i64 r1)) := T10.out.2.1.2.1.2.1
                clear ht
                refine hK.out _ _ (by exact SV10.out) (fun hHeld10 => ?_)
                clear hK K
                refine tk 9 { dst := some 48, op := Op.build 76 #[(0, .tmp 41), (1, .tmp 45), (2, .tmp 47)], type := 76, pos := "l08_msg.go:214", after := #[⟨2, .data⟩, ⟨6, .data⟩, ⟨8, .data⟩], guard := none } ?_
                refine wpAnyH_ready (rs := [10]) (by kernel_rfl) (by simp) (AllReadyH.cons rfl (fun K hK => ?_) AllReadyH.nil)
                go_simp
                have SV11 : Hid ((y10.alloc (.cells #[.int .i64 (k : Int), .int .i64 q1, .int .i64 q2] 76)).cell? ⟨B, 1, none⟩ = some (.int .i64 r1)) := keepAl T10.out.2.1.2.1.2.1
                refine hK.out _ _ (by exact SV11.out) (fun hHeld11 => ?_)
                clear hK K
                refine wpAnyH_ready (rs := [11]) (by kernel_rfl) (by simp) (AllReadyH.cons rfl (fun K hK => ?_) AllReadyH.nil)
                refine Dr.step_append_own _ rfl (.tmp 40) (.tmp 49) 25 rfl (B + 1) 76 ti (.agg #[.int .i64 0, .int .i64 0, .int .i64 0]) 3 24 Tryd.underlying25 hti hz0 hz1 hz2 rfl (by decide) (.slice ad zs.length cp) zs.length (cellsCt zs) rfl (T10.out.2.2.2.1.alloc _) ⟨y10.heap.size, 0, none⟩ 1 1 (cellsCt [⟨k, q1, q2⟩]) rfl rfl (ct_new _ _ _) (cellsCt_one _) (by unfold maxLen; omega) (by omega) (by have := T10.out.2.1.1; simp; omega) ?_
                intro v6 w6 hown6 hgrow6 hnil6
                clear hnil6
                have TF : Hid (Dr.St w b cv (w6.setCell ⟨B, 5, none⟩ v6) B (a4 + 1 + 1 + 1) ⟨x, r1, 1 + r2, 0, 0, (zs ++ [⟨k, q1, q2⟩]), []⟩ v6 (.slice none 0 0)) := T10.out.certs hb hown6 hgrow6
                have BX : Hid (MBoxAt w6 B ⟨x, r1, 1 + r2, 0, 0, zs, []⟩ (.slice ad zs.length cp) (.slice none 0 0)) := Dr.box_below T10.out.2.1 (Below.grown ((Below.refl (B + 1) y10).alloc (by have := T10.out.2.1.1; omega) _) hgrow6 (by have := T10.out.2.1.1; simp; omega) (fun q hq => (T10.out.2.2.2.1.lt q hq).1)) (by omega)
                have SV12 : Hid (w6.cell? ⟨B, 1, none⟩ = some (.int .i64 r1)) := BX.out.2.1.2.1
                have OW : Hid (∃ ad6 cap6, v6 = .slice ad6 (zs.length + 1) cap6) := Led.owns_form hown6
                clear hown6 hgrow6
                refine hK.out _ _ (by exact SV12.out) (fun hHeld12 => ?_)
                clear hK K
                refine tk 12 { dst := some 51, op := Op.fieldAddr 28 (.tmp 5) 5, type := 0, pos := "l08_msg.go:214", after := #[⟨0, .phase⟩, ⟨1, .phase⟩, ⟨2, .phase⟩, ⟨3, .phase⟩, ⟨4, .phase⟩, ⟨5, .phase⟩, ⟨6, .phase⟩, ⟨7, .phase⟩, ⟨8, .phase⟩, ⟨9, .phase⟩, ⟨10, .phase⟩, ⟨11, .phase⟩], guard := none } ?_
                refine wpAnyH_ready (rs := [13]) (by kernel_rfl) (by simp) (AllReadyH.cons rfl (fun K hK => ?_) AllReadyH.nil)
                obtain ⟨-, ⟨-, -, -, -, -, bx5, -⟩, -, -, -, -, -, bf5, -⟩ := BX.out
                obtain ⟨ad6, cap6, rfl⟩ := OW.out
                go_simp
                have SV13 : Hid ((w6.setCell ⟨B, 5, none⟩ (.slice ad6 (zs.length + 1) cap6)).cell? ⟨B, 1, none⟩ = some (.int .i64 r1)) := TF.out.2.1.2.1.2.1
                refine hK.out _ _ (by exact SV13.out) (fun hHeld13 => ?_)
                clear hK K
                refine wpAnyH_done (by kernel_rfl) ?_ _
                obtain ⟨W7, hW7⟩ : ∃ W7, W7 = w6.setCell ⟨B, 5, none⟩ (.slice ad6 (zs.length + 1) cap6) := ⟨_, rfl⟩
                have TG2 : Hid (Dr.St w b cv W7 B (a4 + 1 + 1 + 1) ⟨x, r1, 1 + r2, 0, 0, (zs ++ [⟨k, q1, q2⟩]), []⟩ (.slice ad6 (zs.length + 1) cap6) (.slice none 0 0)) := by rw [hW7]; exact TF.out
                rw [← hW7]
                clear TF BX hW7
                go_wp2
                exact ⟨⟨k + 1, zs ++ [⟨k, q1, q2⟩], _, a4 + 1 + 1 + 1, by omega, by omega, by go_num, by rw [List.length_append]; simp; omega, by omega, by omega, TG2⟩, by simp [intOf]; omega⟩
              · go_simp
                refine (NX.out _ 3 _ T2.out.2.2.2.2.2.1 (by omega) (by omega) (by omega)).mono ?_
                rintro e y9 ⟨q2, rfl, hq20, hq21, ht⟩
                have T9 : Hid (Dr.St w b cv y9 B (a4 + 1 + 1 + 1) ⟨x, r1, 1 + r2, 0, 0, zs, []⟩ (.slice ad zs.length cp) (.slice none 0 0)) := T2.out.tick hb ht
                have SV9 : Hid (y9.cell? ⟨B, 1, none⟩ = some (.int .i64 r1)) := T9.out.2.1.2.1.2.1
                clear ht
                refine hK.out _ _ (by exact SV9.out) (fun hHeld9 => ?_)
                clear hK K
                refine tk 9 { dst := some 48, op := Op.build 76 #[(0, .tmp 41), (1, .tmp 45), (2, .tmp 47)], type := 76, pos := "l08_msg.go:214", after := #[⟨2, .data⟩, ⟨6, .data⟩, ⟨8, .data⟩], guard := none } ?_
                refine wpAnyH_ready (rs := [1, 10]) (by kernel_rfl) (by simp) (AllReadyH.cons rfl (fun K hK => ?_) (AllReadyH.cons rfl (fun K hK => ?_) AllReadyH.nil))
                · have cc5 : y9.cell? ⟨B, 5, none⟩ = some (.slice ad zs.length cp) := T9.out.2.1.2.1.2.2.2.2.2.1
                  have SV14 : Hid (y9.cell? ⟨B, 1, none⟩ = some (.int .i64 r1)) := T9.out.2.1.2.1.2.1
                  go_simp
                  refine hK.out _ _ (by exact SV14.out) (fun hHeld14 => ?_)
                  clear hK K
                  clear cc5
                  refine wpAnyH_ready (rs := [10]) (by kernel_rfl) (by simp) (AllReadyH.cons rfl (fun K hK => ?_) AllReadyH.nil)
                  go_simp
                  have SV16 : Hid ((y9.alloc (.cells #[.int .i64 (k : Int), .int .i64 q1, .int .i64 q2] 76)).cell? ⟨B, 1, none⟩ = some (.int .i64 r1)) := keepAl T9.out.2.1.2.1.2.1
                  refine hK.out _ _ (by exact SV16.out) (fun hHeld16 => ?_)
                  clear hK K
                  refine wpAnyH_ready (rs := [11]) (by kernel_rfl) (by simp) (AllReadyH.cons rfl (fun K hK => ?_) AllReadyH.nil)
                  refine Dr.step_append_own _ rfl (.tmp 40) (.tmp 49) 25 rfl (B + 1) 76 ti (.agg #[.int .i64 0, .int .i64 0, .int .i64 0]) 3 24 Tryd.underlying25 hti hz0 hz1 hz2 rfl (by decide) (.slice ad zs.length cp) zs.length (cellsCt zs) rfl (T9.out.2.2.2.1.alloc _) ⟨y9.heap.size, 0, none⟩ 1 1 (cellsCt [⟨k, q1, q2⟩]) rfl rfl (ct_new _ _ _) (cellsCt_one _) (by unfold maxLen; omega) (by omega) (by have := T9.out.2.1.1; simp; omega) ?_
                  intro v6 w6 hown6 hgrow6 hnil6
                  clear hnil6
                  have TF : Hid (Dr.St w b cv (w6.setCell ⟨B, 5, none⟩ v6) B (a4 + 1 + 1 + 1) ⟨x, r1, 1 + r2, 0, 0, (zs ++ [⟨k, q1, q2⟩]), []⟩ v6 (.slice none 0 0)) := T9.out.certs hb hown6 hgrow6
                  have BX : Hid (MBoxAt w6 B ⟨x, r1, 1 + r2, 0, 0, zs, []⟩ (.slice ad zs.length cp) (.slice none 0 0)) := Dr.box_below T9.out.2.1 (Below.grown ((Below.refl (B + 1) y9).alloc (by have := T9.out.2.1.1; omega) _) hgrow6 (by have := T9.out.2.1.1; simp; omega) (fun q hq => (T9.out.2.2.2.1.lt q hq).1)) (by omega)
                  have SV17 : Hid (w6.cell? ⟨B, 1, none⟩ = some (.int .i64 r1)) := BX.out.2.1.2.1
                  have OW : Hid (∃ ad6 cap6, v6 = .slice ad6 (zs.length + 1) cap6) := Led.owns_form hown6
                  clear hown6 hgrow6
                  refine hK.out _ _ (by exact SV17.out) (fun hHeld17 => ?_)
                  clear hK K
                  refine tk 12 { dst := some 51, op := Op.fieldAddr 28 (.tmp 5) 5, type := 0, pos := "l08_msg.go:214", after := #[⟨0, .phase⟩, ⟨1, .phase⟩, ⟨2, .phase⟩, ⟨3, .phase⟩, ⟨4, .phase⟩, ⟨5, .phase⟩, ⟨6, .phase⟩, ⟨7, .phase⟩, ⟨8, .phase⟩, ⟨9, .phase⟩, ⟨10, .phase⟩, ⟨11, .phase⟩], guard := none } ?_
                  refine wpAnyH_ready (rs := [13]) (by kernel_rfl) (by simp) (AllReadyH.cons rfl (fun K hK => ?_) AllReadyH.nil)
                  obtain ⟨-, ⟨-, -, -, -, -, bx5, -⟩, -, -, -, -, -, bf5, -⟩ := BX.out
                  obtain ⟨ad6, cap6, rfl⟩ := OW.out
                  go_simp
                  have SV18 : Hid ((w6.setCell ⟨B, 5, none⟩ (.slice ad6 (zs.length + 1) cap6)).cell? ⟨B, 1, none⟩ = some (.int .i64 r1)) := TF.out.2.1.2.1.2.1
                  refine hK.out _ _ (by exact SV18.out) (fun hHeld18 => ?_)
                  clear hK K
                  refine wpAnyH_done (by kernel_rfl) ?_ _
                  obtain ⟨W7, hW7⟩ : ∃ W7, W7 = w6.setCell ⟨B, 5, none⟩ (.slice ad6 (zs.length + 1) cap6) := ⟨_, rfl⟩
                  have TG2 : Hid (Dr.St w b cv W7 B (a4 + 1 + 1 + 1) ⟨x, r1, 1 + r2, 0, 0, (zs ++ [⟨k, q1, q2⟩]), []⟩ (.slice ad6 (zs.length + 1) cap6) (.slice none 0 0)) := by rw [hW7]; exact TF.out
                  rw [← hW7]
                  clear TF BX hW7
                  go_wp2
                  exact ⟨⟨k + 1, zs ++ [⟨k, q1, q2⟩], _, a4 + 1 + 1 + 1, by omega, by omega, by go_num, by rw [List.length_append]; simp; omega, by omega, by omega, TG2⟩, by simp [intOf]; omega⟩
                · go_simp
                  have SV15 : Hid ((y9.alloc (.cells #[.int .i64 (k : Int), .int .i64 q1, .int .i64 q2] 76)).cell? ⟨B, 1, none⟩ = some (.int .i64 r1)) := keepAl T9.out.2.1.2.1.2.1
                  refine hK.out _ _ (by exact SV15.out) (fun hHeld15 => ?_)
                  clear hK K
                  refine wpAnyH_ready (rs := [1]) (by kernel_rfl) (by simp) (AllReadyH.cons rfl (fun K hK => ?_) AllReadyH.nil)
                  have cc5 : (y9.alloc (.cells #[.int .i64 (k : Int), .int .i64 q1, .int .i64 q2] 76)).cell? ⟨B, 5, none⟩ = some (.slice ad zs.length cp) := keepAl T9.out.2.1.2.1.2.2.2.2.2.1
                  have SV19 : Hid ((y9.alloc (.cells #[.int .i64 (k : Int), .int .i64 q1, .int .i64 q2] 76)).cell? ⟨B, 1, none⟩ = some (.int .i64 r1)) := keepAl T9.out.2.1.2.1.2.1
                  go_simp
                  refine hK.out _ _ (by exact SV19.out) (fun hHeld19 => ?_)
                  clear hK K
                  clear cc5
                  refine wpAnyH_ready (rs := [11]) (by kernel_rfl) (by simp) (AllReadyH.cons rfl (fun K hK => ?_) AllReadyH.nil)
                  refine Dr.step_append_own _ rfl (.tmp 40) (.tmp 49) 25 rfl (B + 1) 76 ti (.agg #[.int .i64 0, .int .i64 0, .int .i64 0]) 3 24 Tryd.underlying25 hti hz0 hz1 hz2 rfl (by decide) (.slice ad zs.length cp) zs.length (cellsCt zs) rfl (T9.out.2.2.2.1.alloc _) ⟨y9.heap.size, 0, none⟩ 1 1 (cellsCt [⟨k, q1, q2⟩]) rfl rfl (ct_new _ _ _) (cellsCt_one _) (by unfold maxLen; omega) (by omega) (by have := T9.out.2.1.1; simp; omega) ?_
                  intro v6 w6 hown6 hgrow6 hnil6
                  clear hnil6
                  have TF : Hid (Dr.St w b cv (w6.setCell ⟨B, 5, none⟩ v6) B (a4 + 1 + 1 + 1) ⟨x, r1, 1 + r2, 0, 0, (zs ++ [⟨k, q1, q2⟩]), []⟩ v6 (.slice none 0 0)) := T9.out.certs hb hown6 hgrow6
                  have BX : Hid (MBoxAt w6 B ⟨x, r1, 1 + r2, 0, 0, zs, []⟩ (.slice ad zs.length cp) (.slice none 0 0)) := Dr.box_below T9.out.2.1 (Below.grown ((Below.refl (B + 1) y9).alloc (by have := T9.out.2.1.1; omega) _) hgrow6 (by have := T9.out.2.1.1; simp; omega) (fun q hq => (T9.out.2.2.2.1.lt q hq).1)) (by omega)
                  have SV20 : Hid (w6.cell? ⟨B, 1, none⟩ = some (.int .i64 r1)) := BX.out.2.1.2.1
                  have OW : Hid (∃ ad6 cap6, v6 = .slice ad6 (zs.length + 1) cap6) := Led.owns_form hown6
                  clear hown6 hgrow6
                  refine hK.out _ _ (by exact SV20.out) (fun hHeld20 => ?_)
                  clear hK K
                  refine tk 12 { dst := some 51, op := Op.fieldAddr 28 (.tmp 5) 5, type := 0, pos := "l08_msg.go:214", after := #[⟨0, .phase⟩, ⟨1, .phase⟩, ⟨2, .phase⟩, ⟨3, .phase⟩, ⟨4, .phase⟩, ⟨5, .phase⟩, ⟨6, .phase⟩, ⟨7, .phase⟩, ⟨8, .phase⟩, ⟨9, .phase⟩, ⟨10, .phase⟩, ⟨11, .phase⟩], guard := none } ?_
                  refine wpAnyH_ready (rs := [13]) (by kernel_rfl) (by simp) (AllReadyH.cons rfl (fun K hK => ?_) AllReadyH.nil)
                  obtain ⟨-, ⟨-, -, -, -, -, bx5, -⟩, -, -, -, -, -, bf5, -⟩ := BX.out
                  obtain ⟨ad6, cap6, rfl⟩ := OW.out
                  go_simp
                  have SV21 : Hid ((w6.setCell ⟨B, 5, none⟩ (.slice ad6 (zs.length + 1) cap6)).cell? ⟨B, 1, none⟩ = some (.int .i64 r1)) := TF.out.2.1.2.1.2.1
                  refine hK.out _ _ (by exact SV21.out) (fun hHeld21 => ?_)
                  clear hK K
                  refine wpAnyH_done (by kernel_rfl) ?_ _
                  obtain ⟨W7, hW7⟩ : ∃ W7, W7 = w6.setCell ⟨B, 5, none⟩ (.slice ad6 (zs.length + 1) cap6) := ⟨_, rfl⟩
                  have TG2 : Hid (Dr.St w b cv W7 B (a4 + 1 + 1 + 1) ⟨x, r1, 1 + r2, 0, 0, (zs ++ [⟨k, q1, q2⟩]), []⟩ (.slice ad6 (zs.length + 1) cap6) (.slice none 0 0)) := by rw [hW7]; exact TF.out
                  rw [← hW7]
                  clear TF BX hW7
                  go_wp2
                  exact ⟨⟨k + 1, zs ++ [⟨k, q1, q2⟩], _, a4 + 1 + 1 + 1, by omega, by omega, by go_num, by rw [List.length_append]; simp; omega, by omega, by omega, TG2⟩, by simp [intOf]; omega⟩
        · obtain ⟨⟨rl, ⟨R0, R1, R2, R3, R4, R5, R6⟩, F0, F1, F2, F3, F4, F5, F6⟩, ⟨bl, ⟨c0, c1, c2, c3, c4, c5, c6⟩, f0, f1, f2, f3, f4, f5, f6⟩, hRB, -, -, -⟩ := SK.out
          have hne : w.heap.size ≠ B := Nat.ne_of_lt hRB
          have GT : Hid (Dr.Got (w.heap.size + 1) w b (a + 25) cv ⟨x, r1, 1 + r2, 0, 0, zs, []⟩ (.slice ad zs.length cp) (.slice none 0 0) (Dr.put7 wr w.heap.size ⟨x, r1, 1 + r2, 0, 0, zs, []⟩ (.slice ad zs.length cp) (.slice none 0 0))) := SK.out.got hb (by omega) (by show zs.length ≤ 5; omega) (by simp)
          have GL : Hid (zs.length ≤ 4) := by show _ ≤ _; omega
          clear SK NX CH
          go_wp2
          exact bodyPost_ret (v := magg ⟨x, r1, 1 + r2, 0, 0, zs, []⟩ (.slice ad zs.length cp) (.slice none 0 0)) (by simp [results, Tryd.results39, go_sem, magg, *]) rfl ⟨_, _, _, rfl, GT.out, GL.out⟩
      · obtain ⟨⟨rl, ⟨R0, R1, R2, R3, R4, R5, R6⟩, F0, F1, F2, F3, F4, F5, F6⟩, ⟨bl, ⟨c0, c1, c2, c3, c4, c5, c6⟩, f0, f1, f2, f3, f4, f5, f6⟩, hRB, -, -, -⟩ := SK.out
        have hne : w.heap.size ≠ B := Nat.ne_of_lt hRB
        have GT : Hid (Dr.Got (w.heap.size + 1) w b (a + 25) cv ⟨x, r1, 1 + r2, 0, 0, zs, []⟩ (.slice ad zs.length cp) (.slice none 0 0) (Dr.put7 wr w.heap.size ⟨x, r1, 1 + r2, 0, 0, zs, []⟩ (.slice ad zs.length cp) (.slice none 0 0))) := SK.out.got hb (by omega) (by show zs.length ≤ 5; omega) (by simp)
        have GL : Hid (zs.length ≤ 4) := by show _ ≤ _; omega
        clear SK NX CH
        go_wp2
        exact bodyPost_ret (v := magg ⟨x, r1, 1 + r2, 0, 0, zs, []⟩ (.slice ad zs.length cp) (.slice none 0 0)) (by simp [results, Tryd.results39, go_sem, magg, *]) rfl ⟨_, _, _, rfl, GT.out, GL.out⟩
  · by_cases hx5 : x = 5
    · have g4 : (x == 4) = false := by simpa using hx4
      have g5 : (x == 5) = true := by simpa using hx5
      clear hx4 hx5
      go_wp2
      rw [← hW0]
      generalize w3.heap.size = B at *
      clear hW0
      go_loopw [7] (fun i wr => ∃ (k : Nat) (rs : List Int) (u : Value) (a4 : Nat), (k : Int) ≤ n ∧ i = .int .i64 (k : Int) ∧ rs.length ≤ 4 ∧ a4 ≤ a + 3 + k ∧ a4 ≤ 1000 ∧ Hid (Dr.St w b cv wr B a4 ⟨x, r1, 1 + r2, 0, 0, [], rs⟩ (.slice none 0 0) u)) (fun i _ => n.toNat - (intOf i).toNat)
      case atStart => exact ⟨0, [], (.slice none 0 0), a + 3, by omega, rfl, by simp, by omega, by omega, ST2⟩
      case round =>
        obtain ⟨k, rs, u, a4, hk, rfl, hrl, ha4, ha5, SK⟩ := hrel
        obtain ⟨ad, cp, rfl⟩ := Led.owns_form SK.out.2.2.2.2.1
        by_cases hkn : (k : Int) < n
        · by_cases hl4 : rs.length < 4
          · obtain ⟨bl, ⟨c0, c1, c2, c3, c4, c5, c6⟩, -⟩ := SK.out.2.1
            have hl5 : (rs.length : Int) < 4 := by omega
            go_wp2_with fail
            refine (CH.out a4 3 _ SK.out.2.2.2.2.2.1 (by omega) (by omega) (by omega)).mono ?_
            rintro e w4 ⟨ch, rfl, ht⟩
            have T4 : Hid (Dr.St w b cv w4 B (a4 + 1) ⟨x, r1, 1 + r2, 0, 0, [], rs⟩ (.slice none 0 0) (.slice ad rs.length cp)) := SK.out.tick hb ht
            clear ht bl c0 c1 c2 c3 c4 c5 c6 SK
            cases ch with
            | false =>
              go_wp2
              exact ⟨⟨k + 1, rs, _, a4 + 1, by omega, by go_num, by omega, by omega, by omega, T4⟩, by simp [intOf]; omega⟩
            | true =>
              obtain ⟨bl, ⟨-, -, -, -, -, -, c6⟩, -⟩ := T4.out.2.1
              have hO4 : Hid (w4.ownsRow (B + 1) 2 1 (.slice ad rs.length cp) rs.length (rs.map (Value.int .i64))) := T4.out.2.2.2.2.1
              go_wp2_with (at_builtin; go_must (refine wpList_append_own _ rfl _ _ 26 rfl (B + 1) 2 si (.int .i64 0) 1 8 Tryd.underlying26 hsi sz0 sz1 sz2 rfl (by decide) _ rs.length _ rfl (hO4.out.alloc _) ⟨w4.heap.size, 0, none⟩ 1 1 [.int .i64 (k : Int)] rfl rfl (cellM_one _ _ _ _ rfl) (ints_oneCell .i64 [(k : Int)]) (by unfold maxLen; omega) (by omega) (by simp; omega) ?_; intro v6 w6 hown6 hgrow6 hnil6; have TF : Hid (Dr.St w b cv (w6.setCell ⟨B, 6, none⟩ v6) B (a4 + 1) ⟨x, r1, 1 + r2, 0, 0, [], rs ++ [(k : Int)]⟩ (.slice none 0 0) v6) := T4.out.refs hb hown6 hgrow6; have BX : Hid (MBoxAt w6 B ⟨x, r1, 1 + r2, 0, 0, [], rs⟩ (.slice none 0 0) (.slice ad rs.length cp)) := Dr.box_below T4.out.2.1 (Below.grown ((Below.refl (B + 1) w4).alloc (by omega) _) hgrow6 (by simp; omega) (fun q hq => (T4.out.2.2.2.2.1.lt q hq).1)) (by omega); obtain ⟨ad6, cap6, rfl⟩ := Led.owns_form hown6; obtain ⟨-, ⟨-, -, -, -, -, -, bx6⟩, -, -, -, -, -, -, bf6⟩ := BX.out; clear hown6 hgrow6 hnil6 BX))
              exact ⟨⟨k + 1, rs ++ [(k : Int)], _, a4 + 1, by omega, by go_num, by rw [List.length_append]; simp; omega, by omega, by omega, TF⟩, by simp [intOf]; omega⟩
          · have hl5 : ¬ (rs.length : Int) < 4 := by omega
            obtain ⟨⟨rl, ⟨R0, R1, R2, R3, R4, R5, R6⟩, F0, F1, F2, F3, F4, F5, F6⟩, ⟨bl, ⟨c0, c1, c2, c3, c4, c5, c6⟩, f0, f1, f2, f3, f4, f5, f6⟩, hRB, -, -, -⟩ := SK.out
            have hne : w.heap.size ≠ B := Nat.ne_of_lt hRB
            have GT : Hid (Dr.Got (w.heap.size + 1) w b (a + 25) cv ⟨x, r1, 1 + r2, 0, 0, [], rs⟩ (.slice none 0 0) (.slice ad rs.length cp) (Dr.put7 wr w.heap.size ⟨x, r1, 1 + r2, 0, 0, [], rs⟩ (.slice none 0 0) (.slice ad rs.length cp))) := SK.out.got hb (by omega) (by simp) (by show rs.length ≤ 4; omega)
            have GL : Hid (([] : List Ct).length ≤ 4) := by show _ ≤ _; simp
            clear SK NX CH
            go_wp2
            exact bodyPost_ret (v := magg ⟨x, r1, 1 + r2, 0, 0, [], rs⟩ (.slice none 0 0) (.slice ad rs.length cp)) (by simp [results, Tryd.results39, go_sem, magg, *]) rfl ⟨_, _, _, rfl, GT.out, GL.out⟩
        · obtain ⟨⟨rl, ⟨R0, R1, R2, R3, R4, R5, R6⟩, F0, F1, F2, F3, F4, F5, F6⟩, ⟨bl, ⟨c0, c1, c2, c3, c4, c5, c6⟩, f0, f1, f2, f3, f4, f5, f6⟩, hRB, -, -, -⟩ := SK.out
          have hne : w.heap.size ≠ B := Nat.ne_of_lt hRB
          have GT : Hid (Dr.Got (w.heap.size + 1) w b (a + 25) cv ⟨x, r1, 1 + r2, 0, 0, [], rs⟩ (.slice none 0 0) (.slice ad rs.length cp) (Dr.put7 wr w.heap.size ⟨x, r1, 1 + r2, 0, 0, [], rs⟩ (.slice none 0 0) (.slice ad rs.length cp))) := SK.out.got hb (by omega) (by simp) (by show rs.length ≤ 4; omega)
          have GL : Hid (([] : List Ct).length ≤ 4) := by show _ ≤ _; simp
          clear SK NX CH
          go_wp2
          exact bodyPost_ret (v := magg ⟨x, r1, 1 + r2, 0, 0, [], rs⟩ (.slice none 0 0) (.slice ad rs.length cp)) (by simp [results, Tryd.results39, go_sem, magg, *]) rfl ⟨_, _, _, rfl, GT.out, GL.out⟩
    · have g4 : (x == 4) = false := by simpa using hx4
      have g5 : (x == 5) = false := by simpa using hx5
      clear hx4 hx5
      go_wp2_with fail
      rw [← hW0]
      generalize w3.heap.size = B at *
      clear hW0
      refine (NX.out (a + 3) 2 _ ST2.out.2.2.2.2.2.1 (by omega) (by omega) (by omega)).mono ?_
      rintro e w4 ⟨s1, rfl, hs10, hs11, ht⟩
      have S4 : Hid (Dr.St w b cv w4 B (a + 3 + 1) ⟨x, r1, 1 + r2, 0, 0, [], []⟩ (.slice none 0 0) (.slice none 0 0)) := ST2.out.tick hb ht
      have S5 : Hid (Dr.St w b cv (w4.setCell ⟨B, 3, none⟩ (.int .i64 (1 + s1))) B (a + 3 + 1) ⟨x, r1, 1 + r2, 1 + s1, 0, [], []⟩ (.slice none 0 0) (.slice none 0 0)) := S4.out.slot hb (1 + s1)
      have hws : IntKind.i64.wrap (1 + s1) = 1 + s1 := by rw [IntKind.wrap_i64]; omega
      obtain ⟨bl, ⟨c0, c1, c2, c3, c4, c5, c6⟩, f0, f1, f2, f3, f4, f5, f6⟩ := S4.out.2.1
      clear ht ST2
      go_wp2_with fail
      refine (NX.out (a + 3 + 1) 3 _ S5.out.2.2.2.2.2.1 (by omega) (by omega) (by omega)).mono ?_
      rintro e w5 ⟨s2, rfl, hs20, hs21, ht⟩
      have S6 : Hid (Dr.St w b cv w5 B (a + 3 + 1 + 1) ⟨x, r1, 1 + r2, 1 + s1, 0, [], []⟩ (.slice none 0 0) (.slice none 0 0)) := S5.out.tick hb ht
      have S7 : Hid (Dr.St w b cv (w5.setCell ⟨B, 4, none⟩ (.int .i64 s2)) B (a + 3 + 1 + 1) ⟨x, r1, 1 + r2, 1 + s1, s2, [], []⟩ (.slice none 0 0) (.slice none 0 0)) := S6.out.value hb s2
      clear ht bl c0 c1 c2 c3 c4 c5 c6 f0 f1 f2 f3 f4 f5 f6 hwr hws g4 g5
      have GT : Hid (Dr.Got (w.heap.size + 1) w b (a + 25) cv ⟨x, r1, 1 + r2, 1 + s1, s2, [], []⟩ (.slice none 0 0) (.slice none 0 0) (Dr.put7 (w5.setCell ⟨B, 4, none⟩ (.int .i64 s2)) w.heap.size ⟨x, r1, 1 + r2, 1 + s1, s2, [], []⟩ (.slice none 0 0) (.slice none 0 0))) := S7.out.got hb (by omega) (by simp) (by simp)
      have GL : Hid (([] : List Ct).length ≤ 4) := by show _ ≤ _; simp
      obtain ⟨⟨rl, ⟨R0, R1, R2, R3, R4, R5, R6⟩, F0, F1, F2, F3, F4, F5, F6⟩, ⟨bl, ⟨c0, c1, c2, c3, c4, c5, c6⟩, f0, f1, f2, f3, f4, f5, f6⟩, hRB, -, -, -⟩ := S6.out
      have hne : w.heap.size ≠ B := Nat.ne_of_lt hRB
      go_wp2
      exact bodyPost_ret (v := magg ⟨x, r1, 1 + r2, 1 + s1, s2, [], []⟩ (.slice none 0 0) (.slice none 0 0)) (by simp [results, Tryd.results39, go_sem, magg, *]) rfl ⟨_, _, _, rfl, GT.out, GL.out⟩
end Go.Proofs.YtpncnfodgfldlaaDoor
