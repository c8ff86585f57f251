/- laws.FnViews, walked: it answers true at every code. -/
import Derived.Test.YtflojfkalnojbaaVwMD9
import Derived.Test.YtflojfkalnojbaaVwQV5
import Derived.Test.YtflojfkalnojbaaVwQV6
import Derived.Test.YtflojfkalnojbaaVwQV6s
import Derived.Test.YtflojfkalnojbaaVwQV7
import Derived.Deep.RegionHeld3
namespace Go.Proofs.Ytflojfkalnojbaa
open Go.RowKit
namespace Msg
theorem among_ok {f : Int} {ms : List Ms} {view : Int} {ps : List Int} (k : Nat) {x : Int} (h : x ∈ among f ms view ps k) : viewAt ms x = view ∧ changeAt f ms x = true := by
  induction k with
  | zero => cases h
  | succ k ih =>
    rcases among_cases f ms view ps k with e | ⟨p, hp, ho, e⟩
    · rw [e] at h; exact ih h
    · rw [e, List.mem_append] at h
      rcases h with h | h
      · exact ih h
      · have h2 := List.mem_singleton.1 h
        subst h2
        unfold okP at ho
        rw [Bool.and_eq_true, Bool.and_eq_true, decide_eq_true_eq] at ho
        exact ho.1
theorem new_all {f : Int} {ms : List Ms} {p : Int} (h : newRight f ms p = true) : ledger f ms = 0 ∧ ∃ z, nth ms p = some z ∧ z.from_ = primary f z.view ∧ 2 * f + 1 ≤ (z.refs.length : Int) ∧ ∀ r ∈ z.refs, viewAt ms r = z.view ∧ changeAt f ms r = true := by
  unfold newRight at h
  rw [Bool.and_eq_true, decide_eq_true_eq] at h
  obtain ⟨h1, h2⟩ := h
  refine ⟨h1, ?_⟩
  cases hn : nth ms p with
  | none => rw [newAt_none hn] at h2; cases h2
  | some z =>
    rw [newAt_some hn] at h2
    unfold newB at h2
    rw [Bool.and_eq_true, decide_eq_true_eq, decide_eq_true_eq] at h2
    obtain ⟨⟨-, -, h3, h4⟩, h5⟩ := h2
    refine ⟨z, rfl, h3, h4, fun r hr => ?_⟩
    have e := among_full z.refs.length (Nat.le_refl _) h5
    rw [List.take_length] at e
    have hr2 : r ∈ among f ms z.view z.refs z.refs.length := by rw [e]; exact hr
    exact among_ok _ hr2
theorem change_kind {f : Int} {ms : List Ms} {p : Int} (h : changeAt f ms p = true) : ∃ z, nth ms p = some z ∧ z.kind = 4 := by
  cases hn : nth ms p with
  | none => rw [changeAt_none hn] at h; cases h
  | some z =>
    rw [changeAt_some hn] at h
    unfold changeB at h
    rw [Bool.and_eq_true, decide_eq_true_eq] at h
    exact ⟨z, rfl, h.1.1⟩
theorem pick_zero {f : Int} {ms : List Ms} {refs : List Int} (h : ledger f ms = 0) (h2 : (refs.length : Int) ≤ 3 * f + 1) (h3 : ∀ r ∈ refs, changeAt f ms r = true) : (pickV f ms refs).1 = 0 := by
  rw [pickV_ok h (by omega) (fun j _ p hp => by
    obtain ⟨z, hz, hk⟩ := change_kind (h3 p (List.mem_of_getElem? hp))
    rw [kindAt_some hz, decide_eq_true hk])]
theorem changes_all {f : Int} {ms : List Ms} {x p : Int} (h : ledger f ms = 0) (hp : p ∈ (changesV f ms x).2) : changeRight f ms p = true := by
  rw [changeRight_ok h]
  by_cases h2 : 0 ≤ x ∧ x ≤ 20
  · rw [changesV_ok h h2] at hp; exact (among_ok _ (List.mem_of_mem_take hp)).2
  · rw [changesV_view h h2] at hp; cases hp
end Msg
set_option maxHeartbeats 400000 in
theorem lwBigV_any (ad : Option Addr) (len cap : Nat) (w : World) :
    Calls Try.prog 14 #[.slice ad len cap] w fun e w' => e = .returned (.bool (decide (1048576 < len))) ∧ w' = w := by
  go_enter Try.func14, Try.ntmps14
  go_wp2
  go_ret
  exact ⟨ret_bool (by rw [Bool.eq_iff_iff]; simp; omega), rfl⟩
set_option maxHeartbeats 400000 in
theorem lawViews_big (ad : Option Addr) (len cap : Nat) (w : World) (hl : 1048576 < len) :
    Calls Try.prog 5 #[.slice ad len cap] w fun e w' => e = .returned (.bool true) ∧ Ext w w' := by
  have hbig : decide (1048576 < len) = true := by simpa using hl
  have hB := lwBigV_any ad len cap w
  rw [hbig] at hB
  clear hbig
  go_enter Try.func5, Try.ntmps5
  go_wp2_with fail
  refine hB.mono ?_
  rintro e w0 ⟨rfl, hw⟩
  subst hw
  clear hB
  go_wp2
  go_ret
  exact ⟨rfl, Ext.refl _⟩
set_option linter.unusedSimpArgs false in
set_option maxHeartbeats 16000000 in
set_option maxRecDepth 100000 in
theorem lawViews (cv : Value) (w : World) (hc : CodeOk w w.heap.size cv) :
    Calls Try.prog 5 #[cv] w fun e w' => e = .returned (.bool true) ∧ Ext w w' := by
  have hc' := hc
  obtain ⟨ad, len, cap0, rfl, hl, -⟩ := hc'
  have HC : Hid (CodeOk w w.heap.size (.slice ad len cap0)) := hc
  have hbig : decide (1048576 < len) = false := by simpa using hl
  have hB := lwBigV_any ad len cap0 w
  rw [hbig] at hB
  clear hc hbig hl
  have hf0 : ∀ (x : Int) (s : Value) (W : World), (Instr.field 32 (.agg #[.int .i64 x, s]) 0).run Try.prog W = .ok (.int .i64 x) W := fun _ _ _ => by kernel_rfl
  have hf1 : ∀ (x : Int) (a : Option Addr) (n c : Nat) (W : World), (Instr.field 32 (.agg #[.int .i64 x, .slice a n c]) 1).run Try.prog W = .ok (.slice a n c) W := fun _ _ _ _ _ => by kernel_rfl
  have hf2 : ∀ (x y : Int) (W : World), (Instr.field 35 (.agg #[.int .i64 x, .int .i64 y]) 1).run Try.prog W = .ok (.int .i64 y) W := fun _ _ _ => by kernel_rfl
  go_enter Try.func5, Try.ntmps5
  go_wp2_with fail
  refine hB.mono ?_
  rintro e w0 ⟨rfl, hw⟩
  rw [hw]
  clear hB hw w0
  go_wp2_with fail
  refine (drawNewRight_any _ _ HC.out).mono ?_
  rintro e w1 ⟨f, ov, ms, x, rfl, hM, hml, -, hE⟩
  obtain ⟨a, cap, rfl, -⟩ := id hM
  have M1 : Hid (MSlice w1 (.slice a ms.length cap) ms) := hM
  have E1 : Hid (Ext w w1) := hE
  clear hM hE HC
  obtain ⟨R, hR⟩ : ∃ R, R = Msg.newRight f ms x := ⟨_, rfl⟩
  have HR : Hid (R = Msg.newRight f ms x) := hR
  obtain ⟨c, hcd⟩ : ∃ c, c = (Msg.changesV f ms 1).1 := ⟨_, rfl⟩
  obtain ⟨rs, hrs⟩ : ∃ rs, rs = (Msg.changesV f ms 1).2 := ⟨_, rfl⟩
  have HN1 : Hid (∀ wx, MSlice wx (.slice a ms.length cap) ms → Calls Try.prog 28 #[.int .i64 f, .slice a ms.length cap, .int .i64 x] wx fun e w' => e = .returned (.bool R) ∧ Ext wx w') := by rw [hR]; exact fun wx h => implNewRight_any f x _ ms wx h
  have HN2 : Hid (∀ wx, MSlice wx (.slice a ms.length cap) ms → Calls Try.prog 29 #[.int .i64 f, .slice a ms.length cap, .int .i64 x] wx fun e w' => e = .returned (.bool R) ∧ Ext wx w') := by rw [hR]; exact fun wx h => specNewRight_any f x _ ms wx h
  have HSp : Hid (∀ (wx : World), MSlice wx (.slice a ms.length cap) ms → Calls Try.prog 31 #[.int .i64 f, .slice a ms.length cap, .int .i64 1] wx (Led.JRet wx c rs)) := by rw [hcd, hrs]; exact fun wx h => specChangesFor_any f 1 _ ms wx h
  have HIm : Hid (∀ (wx : World), MSlice wx (.slice a ms.length cap) ms → Calls Try.prog 30 #[.int .i64 f, .slice a ms.length cap, .int .i64 1] wx (Led.JRet wx c rs)) := by rw [hcd, hrs]; exact fun wx h => implChangesFor_any f 1 _ ms wx h
  have HCR : Hid (∀ (p : Int), Msg.changeRight f ms p = true → ∀ wx, MSlice wx (.slice a ms.length cap) ms → Calls Try.prog 32 #[.int .i64 f, .slice a ms.length cap, .int .i64 p] wx fun e w' => e = .returned (.bool true) ∧ Ext wx w') := fun p hp wx h => by have q := implChangeRight_any f p _ ms wx h; rw [hp] at q; exact q
  have HV : Hid (c = 0 ∧ Msg.ledger f ms = 0 ∨ ¬ c = 0 ∧ R = false) := by
    by_cases h : Msg.ledger f ms = 0
    · exact Or.inl ⟨by rw [hcd, Msg.changesV_ok h (by decide)], h⟩
    · exact Or.inr ⟨by rw [hcd, Msg.changesV_bad h]; exact h, by rw [hR, Msg.newRight_bad h]⟩
  have HAll : Hid (Msg.ledger f ms = 0 → ∀ p ∈ rs, Msg.changeRight f ms p = true) := fun h p hp => by rw [hrs] at hp; exact Msg.changes_all h hp
  have hrl : rs.length ≤ 1048576 := by rw [hrs]; exact Msg.changesV_len f ms 1
  clear hcd hrs hR
  have hRR : (R != R) = false := by cases R <;> rfl
  go_wp2_with fail
  refine (HN1.out _ M1.out).mono ?_
  rintro e w2 ⟨rfl, hb⟩
  have M2 : Hid (MSlice w2 (.slice a ms.length cap) ms) := M1.out.ext hb
  have E2 : Hid (Ext w w2) := E1.out.trans hb
  clear hb M1 E1 HN1
  go_wp2_with fail
  refine (HN2.out _ M2.out).mono ?_
  rintro e w3 ⟨rfl, hb⟩
  have M3 : Hid (MSlice w3 (.slice a ms.length cap) ms) := M2.out.ext hb
  have E3 : Hid (Ext w w3) := E2.out.trans hb
  clear hb M2 E2 HN2
  go_wp2_with fail
  refine (HIm.out _ M3.out).mono ?_
  rintro e w4 ⟨v2, g2, rfl, hg2, hO2, hb⟩
  obtain ⟨a2, cap2, rfl, -⟩ := id hO2
  unfold Led.jr
  obtain ⟨w5, hw5⟩ : ∃ w5, w5 = w4.alloc (.cells #[.int .i64 c, .slice a2 rs.length cap2] 32) := ⟨_, rfl⟩
  have X5 : Ext w3 w5 := by rw [hw5]; exact hb.alloc _
  have E5 : Hid (Ext w w5) := E3.out.trans X5
  have M5 : Hid (MSlice w5 (.slice a ms.length cap) ms) := M3.out.ext X5
  have BL : Hid (Led.JBoxAt w5 w4.heap.size c (.slice a2 rs.length cap2)) := by rw [hw5]; exact Led.jbox_new w4 c _ _
  have O5 : Hid (ISlice w5 (.slice a2 rs.length cap2) rs) := by rw [hw5]; exact (hO2.ext ((Ext.refl _).alloc _)).slice
  clear hb hO2 hg2 X5 M3 E3 HIm
  rcases HV.out with ⟨hc0, hled⟩ | ⟨hcn, hRf⟩
  · have HA : Hid (∀ p ∈ rs, Msg.changeRight f ms p = true) := HAll.out hled
    subst hc0
    clear HV HAll hled
    go_wp2
    rw [← hw5]
    generalize w4.heap.size = L at *
    clear hw5
    go_loopw [8] (fun i wr => ∃ (k : Nat), k ≤ rs.length ∧ i = .int .i64 k ∧ Hid (Ext w5 wr)) (fun i _ => rs.length - (intOf i).toNat)
    case atStart => exact ⟨0, Nat.zero_le _, rfl, Ext.refl _⟩
    case round =>
      obtain ⟨k, hk, rfl, HE⟩ := hrel
      obtain ⟨wq, hwq⟩ : ∃ wq, wq = wr := ⟨_, rfl⟩
      subst hwq
      have M6 : Hid (MSlice wq (.slice a ms.length cap) ms) := M5.out.ext HE.out
      have E6 : Hid (Ext w wq) := E5.out.trans HE.out
      have BL6 : Hid (Led.JBoxAt wq L 0 (.slice a2 rs.length cap2)) := BL.out.ext HE.out
      have O6 : Hid (ISlice wq (.slice a2 rs.length cap2) rs) := O5.out.ext HE.out
      have cL := BL6.out.2.2
      by_cases hlt : k < rs.length
      · obtain ⟨p, hp⟩ : ∃ p, rs[k]? = some p := ⟨_, List.getElem?_eq_getElem hlt⟩
        have HCp : Hid (Msg.changeRight f ms p = true) := HA.out p (List.mem_of_getElem? hp)
        obtain ⟨a8, c8, e8, h81, h82, h83⟩ := O6.out
        injection e8 with e8 e9 e10
        obtain ⟨b8, o8, e11, hb8, hN⟩ := h83 (by omega)
        unfold maxLen at h82
        subst e8 e10 e11
        have c8 := hN k p hp
        clear hN hp e9
        go_wp2_with fail
        refine (HCR.out p HCp.out _ M6.out).mono ?_
        rintro e w6 ⟨rfl, hb⟩
        have HE2 : Hid (Ext w5 w6) := HE.out.trans hb
        clear hb
        go_wp2
        exact ⟨⟨k + 1, by omega, by go_num, HE2⟩, by simp [intOf]; omega⟩
      · have hltI : ¬ (k : Int) < (rs.length : Int) := by omega
        have HS1 : Hid (∀ W', Ext wq W' → W'.cell? ⟨L, 1, none⟩ = some (.slice a2 rs.length cap2)) := fun W' he => (BL6.out.ext he).2.2
        clear O6 O5 HA M5 E5 BL HE
        cases R with
        | false =>
          clear HCR HR
          go_wp2
          refine wp_region_held_drew (S := (fun W' : World => W'.cell? ⟨L, 1, none⟩ = some (.slice a2 rs.length cap2))) (by kernel_rfl) (HS1.out _ ((Ext.refl _).drew)) (fun hHeld => ?_)
          refine wpAnyH_take (i := 0) (oi := { dst := some 64, op := Op.fieldAddr 32 (.tmp 7) 1, type := 0, pos := "laws.go:503", after := #[], guard := none }) (v := ?_) rfl (by kernel_rfl) (by kernel_rfl) (by kernel_rfl) (fun _ _ _ h => h) (Or.inl ⟨by rfl, ?_⟩) (by assumption) ?_
          rotate_left
          · intro w' hSw; (try dsimp only at hSw); go_simp; try with_reducible rfl
          (try simp only [Act.put, List.setIfInBounds_toArray, List.set_cons_zero, List.set_cons_succ])
          refine wpAnyH_take (i := 1) (oi := { dst := some 65, op := Op.load 26 (.tmp 64), type := 26, pos := "laws.go:503", after := #[⟨0, .data⟩], guard := none }) (v := ?_) rfl (by kernel_rfl) (by kernel_rfl) (by kernel_rfl) (fun _ _ _ h => h) (Or.inl ⟨by rfl, ?_⟩) (by assumption) ?_
          rotate_left
          · intro w' hSw; (try dsimp only at hSw); go_simp; try with_reducible rfl
          (try simp only [Act.put, List.setIfInBounds_toArray, List.set_cons_zero, List.set_cons_succ])
          refine wpAnyH_take (i := 2) (oi := { dst := some 66, op := Op.call { callee := Callee.builtin Builtin.len, args := #[.tmp 65], argTypes := #[26] }, type := 3, pos := "laws.go:503", after := #[⟨1, .data⟩], guard := none }) (v := ?_) rfl (by kernel_rfl) (by kernel_rfl) (by kernel_rfl) (fun _ _ _ h => h) (Or.inl ⟨by rfl, ?_⟩) (by assumption) ?_
          rotate_left
          · intro w' hSw; (try dsimp only at hSw); go_simp; try with_reducible rfl
          (try simp only [Act.put, List.setIfInBounds_toArray, List.set_cons_zero, List.set_cons_succ])
          refine wpAnyH_take (i := 3) (oi := { dst := some 67, op := Op.move (.tmp 3), type := 2, pos := "laws.go:503", after := #[], guard := none }) (v := ?_) rfl (by kernel_rfl) (by kernel_rfl) (by kernel_rfl) (fun _ _ _ h => h) (Or.inl ⟨by rfl, ?_⟩) (by assumption) ?_
          rotate_left
          · intro w' hSw; (try dsimp only at hSw); go_simp; try with_reducible rfl
          (try simp only [Act.put, List.setIfInBounds_toArray, List.set_cons_zero, List.set_cons_succ])
          refine wpAnyH_take (i := 4) (oi := { dst := some 68, op := Op.move (.tmp 4), type := 24, pos := "laws.go:503", after := #[], guard := none }) (v := ?_) rfl (by kernel_rfl) (by kernel_rfl) (by kernel_rfl) (fun _ _ _ h => h) (Or.inl ⟨by rfl, ?_⟩) (by assumption) ?_
          rotate_left
          · intro w' hSw; (try dsimp only at hSw); go_simp; try with_reducible rfl
          (try simp only [Act.put, List.setIfInBounds_toArray, List.set_cons_zero, List.set_cons_succ])
          refine wpAnyH_ready (rs := [5]) (by kernel_rfl) (by simp) (AllReadyH.cons rfl (fun K hK => ?_) AllReadyH.nil)
          go_simp
          refine (HSp.out _ (M6.out.ext (Ext.refl _).drew)).mono ?_
          rintro e y1 ⟨v9, g9, rfl, -, hO9, hb⟩
          obtain ⟨a9, c9, rfl, -⟩ := id hO9
          unfold Led.jr
          have X1 : Hid (Ext wq y1) := ((Ext.refl _).drew).trans hb
          clear hb hO9
          refine hK.out _ _ (by exact HS1.out _ X1.out) (fun hHeld1 => ?_)
          clear hK K
          refine wpAnyH_take (i := 6) (oi := { dst := some 70, op := Op.field 32 (.tmp 69) 1, type := 26, pos := "laws.go:503", after := #[⟨5, .data⟩], guard := none }) (v := ?_) rfl (by kernel_rfl) (by kernel_rfl) (by kernel_rfl) (fun _ _ _ h => h) (Or.inl ⟨by rfl, ?_⟩) (by assumption) ?_
          rotate_left
          · intro w' hSw; (try dsimp only at hSw); go_simp; try with_reducible rfl
          (try simp only [Act.put, List.setIfInBounds_toArray, List.set_cons_zero, List.set_cons_succ])
          refine wpAnyH_take (i := 7) (oi := { dst := some 71, op := Op.call { callee := Callee.builtin Builtin.len, args := #[.tmp 70], argTypes := #[26] }, type := 3, pos := "laws.go:503", after := #[⟨6, .data⟩], guard := none }) (v := ?_) rfl (by kernel_rfl) (by kernel_rfl) (by kernel_rfl) (fun _ _ _ h => h) (Or.inl ⟨by rfl, ?_⟩) (by assumption) ?_
          rotate_left
          · intro w' hSw; (try dsimp only at hSw); go_simp; try with_reducible rfl
          (try simp only [Act.put, List.setIfInBounds_toArray, List.set_cons_zero, List.set_cons_succ])
          refine wpAnyH_take (i := 8) (oi := { dst := some 72, op := Op.binOp BinOp.eql 3 (.tmp 66) (.tmp 71) 3, type := 4, pos := "laws.go:503", after := #[⟨2, .data⟩, ⟨7, .data⟩], guard := none }) (v := ?_) rfl (by kernel_rfl) (by kernel_rfl) (by kernel_rfl) (fun _ _ _ h => h) (Or.inl ⟨by rfl, ?_⟩) (by assumption) ?_
          rotate_left
          · intro w' hSw; (try dsimp only at hSw); go_simp; try with_reducible rfl
          (try simp only [Act.put, List.setIfInBounds_toArray, List.set_cons_zero, List.set_cons_succ])
          refine wpAnyH_take (i := 9) (oi := { dst := some 2, op := Op.assign (.tmp 72), type := 4, pos := "laws.go:503", after := #[⟨8, .data⟩, ⟨5, .chain⟩, ⟨0, .phase⟩, ⟨1, .phase⟩, ⟨2, .phase⟩, ⟨3, .phase⟩, ⟨4, .phase⟩, ⟨5, .phase⟩, ⟨6, .phase⟩, ⟨7, .phase⟩, ⟨8, .phase⟩], guard := none }) (v := ?_) rfl (by kernel_rfl) (by kernel_rfl) (by kernel_rfl) (fun _ _ _ h => h) (Or.inl ⟨by rfl, ?_⟩) (by assumption) ?_
          rotate_left
          · intro w' hSw; (try dsimp only at hSw); go_simp; try with_reducible rfl
          (try simp only [Act.put, List.setIfInBounds_toArray, List.set_cons_zero, List.set_cons_succ])
          refine wpAnyH_done (by kernel_rfl) ?_ _
          (try go_wp2)
          go_ret
          exact ⟨ret_bool (by simp), E6.out.trans X1.out⟩
        | true =>
          have HN : Hid (Msg.newRight f ms x = true) := HR.out.symm
          obtain ⟨hled, z, hz, hfr, hneed, hrf⟩ := Msg.new_all HN.out
          obtain ⟨hx0, hx1, hzk⟩ := Msg.nth_some hz
          obtain ⟨n, rfl⟩ : ∃ n : Nat, x = n := ⟨x.toNat, by omega⟩
          have hzk2 : ms[n]? = some z := by simpa using hzk
          obtain ⟨hf01, hf02, hml⟩ := Msg.ledger_zero hled
          have hfz := (Msg.at_zero hled hzk2).1
          have hrl := (Msg.lists_zero hfz).2.1
          have hvw := Msg.view_in hfz
          have HRf : Hid (∀ r ∈ z.refs, 0 ≤ r ∧ r < (ms.length : Int)) := Msg.refs_zero hled hzk2
          have HCh : Hid (∀ r ∈ z.refs, Msg.viewAt ms r = z.view ∧ Msg.changeAt f ms r = true) := hrf
          have HLd : Hid (Msg.ledger f ms = 0) := hled
          have HNd : Hid (∀ wx, Calls Try.prog 18 #[.int .i64 f] wx fun e w' => e = .returned (.agg #[.int .i64 0, .int .i64 (2 * f + 1)]) ∧ Ext wx w') := fun wx => by
            have q := implNeedOf_any f wx
            have e : Msg.needV f = (0, 2 * f + 1) := by unfold Msg.needV; rw [if_neg (by unfold Msg.fOk; simp; omega)]
            rw [e] at q
            exact q
          have hpr : Msg.primV f z.view = (0, z.from_) := by
            unfold Msg.primV
            rw [show Msg.fOk f = true from by unfold Msg.fOk; simp; omega, if_neg (by decide), if_neg (by simp; omega), hfr]
          have HPi : Hid (∀ wx, Calls Try.prog 22 #[.int .i64 f, .int .i64 z.view] wx fun e w' => e = .returned (.agg #[.int .i64 0, .int .i64 z.from_]) ∧ Ext wx w') := fun wx => by have q := implPrimaryOf_any f z.view wx; rw [hpr] at q; exact q
          obtain ⟨ps, hps⟩ : ∃ ps, ps = (Msg.pickV f ms z.refs).2 := ⟨_, rfl⟩
          have HPk : Hid (∀ wx, MSlice wx (.slice a ms.length cap) ms → ∀ u, ISlice wx u z.refs → Calls Try.prog 25 #[.int .i64 f, .slice a ms.length cap, u] wx (Led.JRet wx 0 ps)) := fun wx h u h2 => by
            have q := implPickOf_any f u z.refs _ ms wx h h2
            rw [Msg.pick_zero HLd.out hrl (fun r hr => (HCh.out r hr).2), ← hps] at q
            exact q
          have P6 : Hid (decide (2 * f + 1 ≤ (z.refs.length : Int)) = true) := decide_eq_true hneed
          have P15 : Hid ((z.from_ == z.from_) = true) := by show _ = _; simp
          obtain ⟨b1, off1, cap1, e1, hlt1, hlm1, hcm1, hb1, hm⟩ := M6.out.at2 hzk2
          injection e1 with e1 e4 e5
          subst e1 e5
          obtain ⟨vz, uz, hcs, hls⟩ := hm
          obtain ⟨va9, vc9, ua9, uc9, rfl, rfl, -, hv2, hu1, hu2⟩ := hls.form
          have I6 : Hid (ISlice wq (.slice ua9 z.refs.length uc9) z.refs) := hls.2
          obtain ⟨c0, c1, c2, c3, c4, c5, c6⟩ := hcs
          clear hls hpr hps hzk hzk2 hz hfr hneed hrf hfz hled e4 hrl HN HR HSp
          go_wp2_with fail
          obtain ⟨wp, hwp⟩ : ∃ wp, wp = wq.alloc (.cells #[.int .i64 z.kind, .int .i64 z.view, .int .i64 z.from_, .int .i64 z.slot, .int .i64 z.value, .slice va9 z.certs.length vc9, .slice ua9 z.refs.length uc9] 28) := ⟨_, rfl⟩
          rw [← hwp]
          have X7 : Ext wq wp := by rw [hwp]; exact (Ext.refl _).alloc _
          have E7 : Hid (Ext w wp) := E6.out.trans X7
          have M7 : Hid (MSlice wp (.slice (some ⟨b1, off1, none⟩) ms.length cap) ms) := M6.out.ext X7
          have I7 : Hid (ISlice wp (.slice ua9 z.refs.length uc9) z.refs) := I6.out.ext X7
          have BM7 : Hid (MBoxAt wp wq.heap.size z (.slice va9 z.certs.length vc9) (.slice ua9 z.refs.length uc9)) := by rw [hwp]; exact mbox_new wq z _ _ _
          generalize wq.heap.size = M at *
          clear hwp
          go_loopw [10] (fun i wr => ∃ (k : Nat), k ≤ z.refs.length ∧ i = .int .i64 k ∧ Hid (Ext wp wr)) (fun i _ => z.refs.length - (intOf i).toNat)
          case atStart => exact ⟨0, Nat.zero_le _, rfl, Ext.refl _⟩
          case round =>
            obtain ⟨k, hk, rfl, HE⟩ := hrel
            have M8 : Hid (MSlice wr (.slice (some ⟨b1, off1, none⟩) ms.length cap) ms) := M7.out.ext HE.out
            have E8 : Hid (Ext w wr) := E7.out.trans HE.out
            have BM8 : Hid (MBoxAt wr M z (.slice va9 z.certs.length vc9) (.slice ua9 z.refs.length uc9)) := BM7.out.ext HE.out
            have I8 : Hid (ISlice wr (.slice ua9 z.refs.length uc9) z.refs) := I7.out.ext HE.out
            obtain ⟨-, ⟨-, s1, s2, -, -, -, s6⟩, -⟩ := BM8.out
            by_cases hlt : k < z.refs.length
            · obtain ⟨p, hp⟩ : ∃ p, z.refs[k]? = some p := ⟨_, List.getElem?_eq_getElem hlt⟩
              have hpm := List.mem_of_getElem? hp
              obtain ⟨hp0, hp1⟩ := HRf.out p hpm
              obtain ⟨hpv, hpc⟩ := HCh.out p hpm
              obtain ⟨q, rfl⟩ : ∃ q : Nat, p = q := ⟨p.toNat, by omega⟩
              have hq : q < ms.length := by omega
              obtain ⟨y, hy⟩ : ∃ y, ms[q]? = some y := ⟨_, List.getElem?_eq_getElem hq⟩
              have hyn : Msg.nth ms (q : Int) = some y := by rw [Msg.nth_nat]; exact hy
              have hyv : y.view = z.view := by rw [← hpv, Msg.viewAt_some hyn]
              have HCq : Hid (Msg.changeRight f ms (q : Int) = true) := by show _ = _; rw [Msg.changeRight_ok HLd.out]; exact hpc
              obtain ⟨a8, c8, e8, h81, h82, h83⟩ := I8.out
              injection e8 with e8 e9 e10
              obtain ⟨b8, o8, e11, hb8, hN⟩ := h83 (by omega)
              unfold maxLen at h82
              subst e8 e10 e11
              have c8 := hN k q hp
              obtain ⟨b9, off9, cap9, e9, -, -, -, hb9, vy, uy, ⟨-, d1, -⟩, -⟩ := M8.out.at2 hy
              injection e9 with e9 e12 e13
              injection e9 with e9
              injection e9 with e9 e14
              subst e9 e14 e13
              rw [hyv] at d1
              have HS21 : Hid (∀ W', Ext wr W' → W'.cell? ⟨M, 1, none⟩ = some (.int .i64 z.view) ∧ W'.cell? ⟨M, 6, none⟩ = some (.slice (some ⟨b8, o8, none⟩) z.refs.length uc9) ∧ W'.cell? ⟨b8, o8 + k, none⟩ = some (.int .i64 (q : Int)) ∧ W'.cell? ⟨b1, off1 + q * 7 + 1, none⟩ = some (.int .i64 z.view)) := fun W' he => by
                obtain ⟨-, ⟨-, r1, r2, -, -, -, r6⟩, -⟩ := BM8.out.ext he
                exact ⟨r1, r6, ((Ext.cell he).1 _ _ hb8).trans c8, ((Ext.cell he).1 _ _ hb9).trans d1⟩
              clear hN hp hpm hpv hpc hy hyn hyv
              go_wp2
              refine wp_region_held_drew (S := (fun W' : World => W'.cell? ⟨M, 1, none⟩ = some (.int .i64 z.view) ∧ W'.cell? ⟨M, 6, none⟩ = some (.slice (some ⟨b8, o8, none⟩) z.refs.length uc9) ∧ W'.cell? ⟨b8, o8 + k, none⟩ = some (.int .i64 (q : Int)) ∧ W'.cell? ⟨b1, off1 + q * 7 + 1, none⟩ = some (.int .i64 z.view))) (by kernel_rfl) (HS21.out _ ((Ext.refl _).drew)) (fun hHeld => ?_)
              refine wpAnyH_take (i := 0) (oi := { dst := some 84, op := Op.move (.tmp 3), type := 2, pos := "laws.go:507", after := #[], guard := none }) (v := ?_) rfl (by kernel_rfl) (by kernel_rfl) (by kernel_rfl) (fun _ _ _ h => h) (Or.inl ⟨by rfl, ?_⟩) (by assumption) ?_
              rotate_left
              · intro w' hSw; (try dsimp only at hSw); go_simp; try with_reducible rfl
              (try simp only [Act.put, List.setIfInBounds_toArray, List.set_cons_zero, List.set_cons_succ])
              refine wpAnyH_take (i := 1) (oi := { dst := some 85, op := Op.move (.tmp 4), type := 24, pos := "laws.go:507", after := #[], guard := none }) (v := ?_) rfl (by kernel_rfl) (by kernel_rfl) (by kernel_rfl) (fun _ _ _ h => h) (Or.inl ⟨by rfl, ?_⟩) (by assumption) ?_
              rotate_left
              · intro w' hSw; (try dsimp only at hSw); go_simp; try with_reducible rfl
              (try simp only [Act.put, List.setIfInBounds_toArray, List.set_cons_zero, List.set_cons_succ])
              refine wpAnyH_take (i := 2) (oi := { dst := some 86, op := Op.fieldAddr 28 (.tmp 9) 6, type := 0, pos := "laws.go:507", after := #[], guard := none }) (v := ?_) rfl (by kernel_rfl) (by kernel_rfl) (by kernel_rfl) (fun _ _ _ h => h) (Or.inl ⟨by rfl, ?_⟩) (by assumption) ?_
              rotate_left
              · intro w' hSw; (try dsimp only at hSw); go_simp; try with_reducible rfl
              (try simp only [Act.put, List.setIfInBounds_toArray, List.set_cons_zero, List.set_cons_succ])
              refine wpAnyH_take (i := 3) (oi := { dst := some 87, op := Op.load 26 (.tmp 86), type := 26, pos := "laws.go:507", after := #[⟨2, .data⟩], guard := none }) (v := ?_) rfl (by kernel_rfl) (by kernel_rfl) (by kernel_rfl) (fun _ _ _ h => h) (Or.inl ⟨by rfl, ?_⟩) (by assumption) ?_
              rotate_left
              · intro w' hSw; (try dsimp only at hSw); go_simp; try with_reducible rfl
              (try simp only [Act.put, List.setIfInBounds_toArray, List.set_cons_zero, List.set_cons_succ])
              refine wpAnyH_take (i := 4) (oi := { dst := some 88, op := Op.move (.tmp 10), type := 3, pos := "laws.go:507", after := #[], guard := none }) (v := ?_) rfl (by kernel_rfl) (by kernel_rfl) (by kernel_rfl) (fun _ _ _ h => h) (Or.inl ⟨by rfl, ?_⟩) (by assumption) ?_
              rotate_left
              · intro w' hSw; (try dsimp only at hSw); go_simp; try with_reducible rfl
              (try simp only [Act.put, List.setIfInBounds_toArray, List.set_cons_zero, List.set_cons_succ])
              refine wpAnyH_take (i := 5) (oi := { dst := some 89, op := Op.indexAddr 26 (.tmp 87) (.tmp 88), type := 0, pos := "laws.go:507", after := #[⟨3, .data⟩, ⟨4, .data⟩], guard := none }) (v := ?_) rfl (by kernel_rfl) (by kernel_rfl) (by kernel_rfl) (fun _ _ _ h => h) (Or.inl ⟨by rfl, ?_⟩) (by assumption) ?_
              rotate_left
              · intro w' hSw; (try dsimp only at hSw); go_simp; try with_reducible rfl
              (try simp only [Act.put, List.setIfInBounds_toArray, List.set_cons_zero, List.set_cons_succ])
              refine wpAnyH_take (i := 6) (oi := { dst := some 90, op := Op.load 2 (.tmp 89), type := 2, pos := "laws.go:507", after := #[⟨5, .data⟩], guard := none }) (v := ?_) rfl (by kernel_rfl) (by kernel_rfl) (by kernel_rfl) (fun _ _ _ h => h) (Or.inl ⟨by rfl, ?_⟩) (by assumption) ?_
              rotate_left
              · intro w' hSw; (try dsimp only at hSw); go_simp; try with_reducible rfl
              (try simp only [Act.put, List.setIfInBounds_toArray, List.set_cons_zero, List.set_cons_succ])
              refine wpAnyH_ready (rs := [7]) (by kernel_rfl) (by simp) (AllReadyH.cons rfl (fun K hK => ?_) AllReadyH.nil)
              go_simp
              refine (HCR.out _ HCq.out _ (M8.out.ext (Ext.refl _).drew)).mono ?_
              rintro e y1 ⟨rfl, hb⟩
              have X1 : Hid (Ext wr y1) := ((Ext.refl _).drew).trans hb
              clear hb
              refine hK.out _ _ (by exact HS21.out _ X1.out) (fun hHeld1 => ?_)
              clear hK K
              refine wpAnyH_take (i := 8) (oi := { dst := some 92, op := Op.unOp UnOp.not 4 (.tmp 91), type := 4, pos := "laws.go:507", after := #[⟨7, .data⟩], guard := none }) (v := ?_) rfl (by kernel_rfl) (by kernel_rfl) (by kernel_rfl) (fun _ _ _ h => h) (Or.inl ⟨by rfl, ?_⟩) (by assumption) ?_
              rotate_left
              · intro w' hSw; (try dsimp only at hSw); go_simp; try with_reducible rfl
              (try simp only [Act.put, List.setIfInBounds_toArray, List.set_cons_zero, List.set_cons_succ])
              refine wpAnyH_take (i := 9) (oi := { dst := some 93, op := Op.move (.tmp 92), type := 4, pos := "laws.go:507", after := #[⟨8, .data⟩, ⟨7, .chain⟩], guard := none }) (v := ?_) rfl (by kernel_rfl) (by kernel_rfl) (by kernel_rfl) (fun _ _ _ h => h) (Or.inl ⟨by rfl, ?_⟩) (by assumption) ?_
              rotate_left
              · intro w' hSw; (try dsimp only at hSw); go_simp; try with_reducible rfl
              (try simp only [Act.put, List.setIfInBounds_toArray, List.set_cons_zero, List.set_cons_succ])
              refine wpAnyH_take (i := 10) (oi := { dst := some 94, op := Op.move (.tmp 4), type := 24, pos := "laws.go:507", after := #[⟨9, .guard⟩], guard := some (9, false) }) (v := ?_) rfl (by kernel_rfl) (by kernel_rfl) (by kernel_rfl) (fun _ _ _ h => h) (Or.inl ⟨by rfl, ?_⟩) (by assumption) ?_
              rotate_left
              · intro w' hSw; (try dsimp only at hSw); go_simp; try with_reducible rfl
              (try simp only [Act.put, List.setIfInBounds_toArray, List.set_cons_zero, List.set_cons_succ])
              refine wpAnyH_take (i := 11) (oi := { dst := some 95, op := Op.fieldAddr 28 (.tmp 9) 6, type := 0, pos := "laws.go:507", after := #[⟨9, .guard⟩], guard := some (9, false) }) (v := ?_) rfl (by kernel_rfl) (by kernel_rfl) (by kernel_rfl) (fun _ _ _ h => h) (Or.inl ⟨by rfl, ?_⟩) (by assumption) ?_
              rotate_left
              · intro w' hSw; (try dsimp only at hSw); go_simp; try with_reducible rfl
              (try simp only [Act.put, List.setIfInBounds_toArray, List.set_cons_zero, List.set_cons_succ])
              refine wpAnyH_take (i := 12) (oi := { dst := some 96, op := Op.load 26 (.tmp 95), type := 26, pos := "laws.go:507", after := #[⟨11, .data⟩, ⟨9, .guard⟩], guard := some (9, false) }) (v := ?_) rfl (by kernel_rfl) (by kernel_rfl) (by kernel_rfl) (fun _ _ _ h => h) (Or.inl ⟨by rfl, ?_⟩) (by assumption) ?_
              rotate_left
              · intro w' hSw; (try dsimp only at hSw); go_simp; try with_reducible rfl
              (try simp only [Act.put, List.setIfInBounds_toArray, List.set_cons_zero, List.set_cons_succ])
              refine wpAnyH_take (i := 13) (oi := { dst := some 97, op := Op.move (.tmp 10), type := 3, pos := "laws.go:507", after := #[⟨9, .guard⟩], guard := some (9, false) }) (v := ?_) rfl (by kernel_rfl) (by kernel_rfl) (by kernel_rfl) (fun _ _ _ h => h) (Or.inl ⟨by rfl, ?_⟩) (by assumption) ?_
              rotate_left
              · intro w' hSw; (try dsimp only at hSw); go_simp; try with_reducible rfl
              (try simp only [Act.put, List.setIfInBounds_toArray, List.set_cons_zero, List.set_cons_succ])
              refine wpAnyH_take (i := 14) (oi := { dst := some 98, op := Op.indexAddr 26 (.tmp 96) (.tmp 97), type := 0, pos := "laws.go:507", after := #[⟨12, .data⟩, ⟨13, .data⟩, ⟨9, .guard⟩], guard := some (9, false) }) (v := ?_) rfl (by kernel_rfl) (by kernel_rfl) (by kernel_rfl) (fun _ _ _ h => h) (Or.inl ⟨by rfl, ?_⟩) (by assumption) ?_
              rotate_left
              · intro w' hSw; (try dsimp only at hSw); go_simp; try with_reducible rfl
              (try simp only [Act.put, List.setIfInBounds_toArray, List.set_cons_zero, List.set_cons_succ])
              refine wpAnyH_take (i := 15) (oi := { dst := some 99, op := Op.load 2 (.tmp 98), type := 2, pos := "laws.go:507", after := #[⟨14, .data⟩, ⟨9, .guard⟩], guard := some (9, false) }) (v := ?_) rfl (by kernel_rfl) (by kernel_rfl) (by kernel_rfl) (fun _ _ _ h => h) (Or.inl ⟨by rfl, ?_⟩) (by assumption) ?_
              rotate_left
              · intro w' hSw; (try dsimp only at hSw); go_simp; try with_reducible rfl
              (try simp only [Act.put, List.setIfInBounds_toArray, List.set_cons_zero, List.set_cons_succ])
              refine wpAnyH_take (i := 16) (oi := { dst := some 100, op := Op.indexAddr 24 (.tmp 94) (.tmp 99), type := 0, pos := "laws.go:507", after := #[⟨10, .data⟩, ⟨15, .data⟩, ⟨9, .guard⟩], guard := some (9, false) }) (v := ?_) rfl (by kernel_rfl) (by kernel_rfl) (by kernel_rfl) (fun _ _ _ h => h) (Or.inl ⟨by rfl, ?_⟩) (by assumption) ?_
              rotate_left
              · intro w' hSw; (try dsimp only at hSw); go_simp; try with_reducible rfl
              (try simp only [Act.put, List.setIfInBounds_toArray, List.set_cons_zero, List.set_cons_succ])
              refine wpAnyH_take (i := 17) (oi := { dst := some 101, op := Op.fieldAddr 28 (.tmp 100) 1, type := 0, pos := "laws.go:507", after := #[⟨16, .data⟩, ⟨9, .guard⟩], guard := some (9, false) }) (v := ?_) rfl (by kernel_rfl) (by kernel_rfl) (by kernel_rfl) (fun _ _ _ h => h) (Or.inl ⟨by rfl, ?_⟩) (by assumption) ?_
              rotate_left
              · intro w' hSw; (try dsimp only at hSw); go_simp; try with_reducible rfl
              (try simp only [Act.put, List.setIfInBounds_toArray, List.set_cons_zero, List.set_cons_succ])
              refine wpAnyH_take (i := 18) (oi := { dst := some 102, op := Op.load 2 (.tmp 101), type := 2, pos := "laws.go:507", after := #[⟨17, .data⟩, ⟨9, .guard⟩], guard := some (9, false) }) (v := ?_) rfl (by kernel_rfl) (by kernel_rfl) (by kernel_rfl) (fun _ _ _ h => h) (Or.inl ⟨by rfl, ?_⟩) (by assumption) ?_
              rotate_left
              · intro w' hSw; (try dsimp only at hSw); go_simp; try with_reducible rfl
              (try simp only [Act.put, List.setIfInBounds_toArray, List.set_cons_zero, List.set_cons_succ])
              refine wpAnyH_take (i := 19) (oi := { dst := some 103, op := Op.fieldAddr 28 (.tmp 9) 1, type := 0, pos := "laws.go:507", after := #[⟨9, .guard⟩], guard := some (9, false) }) (v := ?_) rfl (by kernel_rfl) (by kernel_rfl) (by kernel_rfl) (fun _ _ _ h => h) (Or.inl ⟨by rfl, ?_⟩) (by assumption) ?_
              rotate_left
              · intro w' hSw; (try dsimp only at hSw); go_simp; try with_reducible rfl
              (try simp only [Act.put, List.setIfInBounds_toArray, List.set_cons_zero, List.set_cons_succ])
              refine wpAnyH_take (i := 20) (oi := { dst := some 104, op := Op.load 2 (.tmp 103), type := 2, pos := "laws.go:507", after := #[⟨19, .data⟩, ⟨9, .guard⟩], guard := some (9, false) }) (v := ?_) rfl (by kernel_rfl) (by kernel_rfl) (by kernel_rfl) (fun _ _ _ h => h) (Or.inl ⟨by rfl, ?_⟩) (by assumption) ?_
              rotate_left
              · intro w' hSw; (try dsimp only at hSw); go_simp; try with_reducible rfl
              (try simp only [Act.put, List.setIfInBounds_toArray, List.set_cons_zero, List.set_cons_succ])
              refine wpAnyH_take (i := 21) (oi := { dst := some 105, op := Op.binOp BinOp.neq 2 (.tmp 102) (.tmp 104) 2, type := 4, pos := "laws.go:507", after := #[⟨18, .data⟩, ⟨20, .data⟩, ⟨9, .guard⟩], guard := some (9, false) }) (v := ?_) rfl (by kernel_rfl) (by kernel_rfl) (by kernel_rfl) (fun _ _ _ h => h) (Or.inl ⟨by rfl, ?_⟩) (by assumption) ?_
              rotate_left
              · intro w' hSw; (try dsimp only at hSw); go_simp; try with_reducible rfl
              (try simp only [Act.put, List.setIfInBounds_toArray, List.set_cons_zero, List.set_cons_succ])
              refine wpAnyH_take (i := 22) (oi := { dst := some 106, op := Op.pick (.tmp 93) (Operand.const (Value.bool true)) (.tmp 105), type := 4, pos := "laws.go:507", after := #[⟨9, .data⟩, ⟨21, .data⟩], guard := none }) (v := ?_) rfl (by kernel_rfl) (by kernel_rfl) (by kernel_rfl) (fun _ _ _ h => h) (Or.inl ⟨by rfl, ?_⟩) (by assumption) ?_
              rotate_left
              · intro w' hSw; (try dsimp only at hSw); go_simp; try with_reducible rfl
              (try simp only [Act.put, List.setIfInBounds_toArray, List.set_cons_zero, List.set_cons_succ])
              refine wpAnyH_done (by kernel_rfl) ?_ _
              go_wp2
              exact ⟨⟨k + 1, by omega, by go_num, HE.out.trans X1.out⟩, by simp [intOf]; omega⟩
            · have hltI : ¬ (k : Int) < (z.refs.length : Int) := by omega
              have HS23 : Hid (∀ W', Ext wr W' → W'.cell? ⟨M, 1, none⟩ = some (.int .i64 z.view) ∧ W'.cell? ⟨M, 2, none⟩ = some (.int .i64 z.from_) ∧ W'.cell? ⟨M, 6, none⟩ = some (.slice ua9 z.refs.length uc9)) := fun W' he => by
                obtain ⟨-, ⟨-, r1, r2, -, -, -, r6⟩, -⟩ := BM8.out.ext he
                exact ⟨r1, r2, r6⟩
              go_wp2
              refine wp_region_held_drew (S := (fun W' : World => W'.cell? ⟨M, 1, none⟩ = some (.int .i64 z.view) ∧ W'.cell? ⟨M, 2, none⟩ = some (.int .i64 z.from_) ∧ W'.cell? ⟨M, 6, none⟩ = some (.slice ua9 z.refs.length uc9))) (by kernel_rfl) (HS23.out _ ((Ext.refl _).drew)) (fun hHeld => ?_)
              refine wpAnyH_take (i := 0) (oi := { dst := some 107, op := Op.fieldAddr 28 (.tmp 9) 6, type := 0, pos := "laws.go:511", after := #[], guard := none }) (v := ?_) rfl (by kernel_rfl) (by kernel_rfl) (by kernel_rfl) (fun _ _ _ h => h) (Or.inl ⟨by rfl, ?_⟩) (by assumption) ?_
              rotate_left
              · intro w' hSw; (try dsimp only at hSw); go_simp; try with_reducible rfl
              (try simp only [Act.put, List.setIfInBounds_toArray, List.set_cons_zero, List.set_cons_succ])
              refine wpAnyH_take (i := 1) (oi := { dst := some 108, op := Op.load 26 (.tmp 107), type := 26, pos := "laws.go:511", after := #[⟨0, .data⟩], guard := none }) (v := ?_) rfl (by kernel_rfl) (by kernel_rfl) (by kernel_rfl) (fun _ _ _ h => h) (Or.inl ⟨by rfl, ?_⟩) (by assumption) ?_
              rotate_left
              · intro w' hSw; (try dsimp only at hSw); go_simp; try with_reducible rfl
              (try simp only [Act.put, List.setIfInBounds_toArray, List.set_cons_zero, List.set_cons_succ])
              refine wpAnyH_take (i := 2) (oi := { dst := some 109, op := Op.call { callee := Callee.builtin Builtin.len, args := #[.tmp 108], argTypes := #[26] }, type := 3, pos := "laws.go:511", after := #[⟨1, .data⟩], guard := none }) (v := ?_) rfl (by kernel_rfl) (by kernel_rfl) (by kernel_rfl) (fun _ _ _ h => h) (Or.inl ⟨by rfl, ?_⟩) (by assumption) ?_
              rotate_left
              · intro w' hSw; (try dsimp only at hSw); go_simp; try with_reducible rfl
              (try simp only [Act.put, List.setIfInBounds_toArray, List.set_cons_zero, List.set_cons_succ])
              refine wpAnyH_take (i := 3) (oi := { dst := some 110, op := Op.move (.tmp 3), type := 2, pos := "laws.go:511", after := #[], guard := none }) (v := ?_) rfl (by kernel_rfl) (by kernel_rfl) (by kernel_rfl) (fun _ _ _ h => h) (Or.inl ⟨by rfl, ?_⟩) (by assumption) ?_
              rotate_left
              · intro w' hSw; (try dsimp only at hSw); go_simp; try with_reducible rfl
              (try simp only [Act.put, List.setIfInBounds_toArray, List.set_cons_zero, List.set_cons_succ])
              refine wpAnyH_ready (rs := [4]) (by kernel_rfl) (by simp) (AllReadyH.cons rfl (fun K hK => ?_) AllReadyH.nil)
              go_simp
              refine (HNd.out _).mono ?_
              rintro e y1 ⟨rfl, hb⟩
              have X1 : Hid (Ext wr y1) := (((Ext.refl wr).drew)).trans hb
              clear hb
              refine hK.out _ _ (by exact HS23.out _ X1.out) (fun hHeld1 => ?_)
              clear hK K
              refine wpAnyH_take (i := 5) (oi := { dst := some 112, op := Op.field 35 (.tmp 111) 1, type := 2, pos := "laws.go:511", after := #[⟨4, .data⟩], guard := none }) (v := ?_) rfl (by kernel_rfl) (by kernel_rfl) (by kernel_rfl) (fun _ _ _ h => h) (Or.inl ⟨by rfl, ?_⟩) (by assumption) ?_
              rotate_left
              · intro w' hSw; (try dsimp only at hSw); go_simp; try with_reducible rfl
              (try simp only [Act.put, List.setIfInBounds_toArray, List.set_cons_zero, List.set_cons_succ])
              refine wpAnyH_take (i := 6) (oi := { dst := some 113, op := Op.binOp BinOp.geq 2 (.tmp 109) (.tmp 112) 2, type := 4, pos := "laws.go:511", after := #[⟨2, .data⟩, ⟨5, .data⟩], guard := none }) (v := ?_) rfl (by kernel_rfl) (by kernel_rfl) (by kernel_rfl) (fun _ _ _ h => h) (Or.inl ⟨by rfl, ?_⟩) (by assumption) ?_
              rotate_left
              · intro w' hSw; (try dsimp only at hSw); go_simp; try with_reducible rfl
              (try simp only [Act.put, List.setIfInBounds_toArray, List.set_cons_zero, List.set_cons_succ])
              (try rw [P6.out])
              refine wpAnyH_take (i := 7) (oi := { dst := some 114, op := Op.move (.tmp 113), type := 4, pos := "laws.go:511", after := #[⟨6, .data⟩, ⟨4, .chain⟩], guard := none }) (v := ?_) rfl (by kernel_rfl) (by kernel_rfl) (by kernel_rfl) (fun _ _ _ h => h) (Or.inl ⟨by rfl, ?_⟩) (by assumption) ?_
              rotate_left
              · intro w' hSw; (try dsimp only at hSw); go_simp; try with_reducible rfl
              (try simp only [Act.put, List.setIfInBounds_toArray, List.set_cons_zero, List.set_cons_succ])
              refine wpAnyH_take (i := 8) (oi := { dst := some 115, op := Op.fieldAddr 28 (.tmp 9) 2, type := 0, pos := "laws.go:511", after := #[⟨7, .guard⟩], guard := some (7, true) }) (v := ?_) rfl (by kernel_rfl) (by kernel_rfl) (by kernel_rfl) (fun _ _ _ h => h) (Or.inl ⟨by rfl, ?_⟩) (by assumption) ?_
              rotate_left
              · intro w' hSw; (try dsimp only at hSw); go_simp; try with_reducible rfl
              (try simp only [Act.put, List.setIfInBounds_toArray, List.set_cons_zero, List.set_cons_succ])
              refine wpAnyH_take (i := 9) (oi := { dst := some 116, op := Op.load 2 (.tmp 115), type := 2, pos := "laws.go:511", after := #[⟨8, .data⟩, ⟨7, .guard⟩], guard := some (7, true) }) (v := ?_) rfl (by kernel_rfl) (by kernel_rfl) (by kernel_rfl) (fun _ _ _ h => h) (Or.inl ⟨by rfl, ?_⟩) (by assumption) ?_
              rotate_left
              · intro w' hSw; (try dsimp only at hSw); go_simp; try with_reducible rfl
              (try simp only [Act.put, List.setIfInBounds_toArray, List.set_cons_zero, List.set_cons_succ])
              refine wpAnyH_take (i := 10) (oi := { dst := some 117, op := Op.move (.tmp 3), type := 2, pos := "laws.go:511", after := #[⟨7, .guard⟩], guard := some (7, true) }) (v := ?_) rfl (by kernel_rfl) (by kernel_rfl) (by kernel_rfl) (fun _ _ _ h => h) (Or.inl ⟨by rfl, ?_⟩) (by assumption) ?_
              rotate_left
              · intro w' hSw; (try dsimp only at hSw); go_simp; try with_reducible rfl
              (try simp only [Act.put, List.setIfInBounds_toArray, List.set_cons_zero, List.set_cons_succ])
              refine wpAnyH_take (i := 11) (oi := { dst := some 118, op := Op.fieldAddr 28 (.tmp 9) 1, type := 0, pos := "laws.go:511", after := #[⟨7, .guard⟩], guard := some (7, true) }) (v := ?_) rfl (by kernel_rfl) (by kernel_rfl) (by kernel_rfl) (fun _ _ _ h => h) (Or.inl ⟨by rfl, ?_⟩) (by assumption) ?_
              rotate_left
              · intro w' hSw; (try dsimp only at hSw); go_simp; try with_reducible rfl
              (try simp only [Act.put, List.setIfInBounds_toArray, List.set_cons_zero, List.set_cons_succ])
              refine wpAnyH_take (i := 12) (oi := { dst := some 119, op := Op.load 2 (.tmp 118), type := 2, pos := "laws.go:511", after := #[⟨11, .data⟩, ⟨7, .guard⟩], guard := some (7, true) }) (v := ?_) rfl (by kernel_rfl) (by kernel_rfl) (by kernel_rfl) (fun _ _ _ h => h) (Or.inl ⟨by rfl, ?_⟩) (by assumption) ?_
              rotate_left
              · intro w' hSw; (try dsimp only at hSw); go_simp; try with_reducible rfl
              (try simp only [Act.put, List.setIfInBounds_toArray, List.set_cons_zero, List.set_cons_succ])
              refine wpAnyH_ready (rs := [13]) (by kernel_rfl) (by simp) (AllReadyH.cons rfl (fun K hK => ?_) AllReadyH.nil)
              go_simp
              refine (HPi.out _).mono ?_
              rintro e y2 ⟨rfl, hb⟩
              have X2 : Hid (Ext wr y2) := (X1.out).trans hb
              clear hb
              refine hK.out _ _ (by exact HS23.out _ X2.out) (fun hHeld2 => ?_)
              clear hK K
              refine wpAnyH_take (i := 14) (oi := { dst := some 121, op := Op.field 35 (.tmp 120) 1, type := 2, pos := "laws.go:511", after := #[⟨13, .data⟩, ⟨7, .guard⟩], guard := some (7, true) }) (v := ?_) rfl (by kernel_rfl) (by kernel_rfl) (by kernel_rfl) (fun _ _ _ h => h) (Or.inl ⟨by rfl, ?_⟩) (by assumption) ?_
              rotate_left
              · intro w' hSw; (try dsimp only at hSw); go_simp; try with_reducible rfl
              (try simp only [Act.put, List.setIfInBounds_toArray, List.set_cons_zero, List.set_cons_succ])
              refine wpAnyH_take (i := 15) (oi := { dst := some 122, op := Op.binOp BinOp.eql 2 (.tmp 116) (.tmp 121) 2, type := 4, pos := "laws.go:511", after := #[⟨9, .data⟩, ⟨14, .data⟩, ⟨7, .guard⟩], guard := some (7, true) }) (v := ?_) rfl (by kernel_rfl) (by kernel_rfl) (by kernel_rfl) (fun _ _ _ h => h) (Or.inl ⟨by rfl, ?_⟩) (by assumption) ?_
              rotate_left
              · intro w' hSw; (try dsimp only at hSw); go_simp; try with_reducible rfl
              (try simp only [Act.put, List.setIfInBounds_toArray, List.set_cons_zero, List.set_cons_succ])
              (try rw [P15.out])
              refine wpAnyH_take (i := 16) (oi := { dst := some 123, op := Op.pick (.tmp 114) (.tmp 122) (Operand.const (Value.bool false)), type := 4, pos := "laws.go:511", after := #[⟨7, .data⟩, ⟨15, .data⟩], guard := none }) (v := ?_) rfl (by kernel_rfl) (by kernel_rfl) (by kernel_rfl) (fun _ _ _ h => h) (Or.inl ⟨by rfl, ?_⟩) (by assumption) ?_
              rotate_left
              · intro w' hSw; (try dsimp only at hSw); go_simp; try with_reducible rfl
              (try simp only [Act.put, List.setIfInBounds_toArray, List.set_cons_zero, List.set_cons_succ])
              refine wpAnyH_take (i := 17) (oi := { dst := some 124, op := Op.move (.tmp 123), type := 4, pos := "laws.go:511", after := #[⟨16, .data⟩, ⟨13, .chain⟩], guard := none }) (v := ?_) rfl (by kernel_rfl) (by kernel_rfl) (by kernel_rfl) (fun _ _ _ h => h) (Or.inl ⟨by rfl, ?_⟩) (by assumption) ?_
              rotate_left
              · intro w' hSw; (try dsimp only at hSw); go_simp; try with_reducible rfl
              (try simp only [Act.put, List.setIfInBounds_toArray, List.set_cons_zero, List.set_cons_succ])
              refine wpAnyH_take (i := 18) (oi := { dst := some 125, op := Op.move (.tmp 3), type := 2, pos := "laws.go:511", after := #[⟨17, .guard⟩], guard := some (17, true) }) (v := ?_) rfl (by kernel_rfl) (by kernel_rfl) (by kernel_rfl) (fun _ _ _ h => h) (Or.inl ⟨by rfl, ?_⟩) (by assumption) ?_
              rotate_left
              · intro w' hSw; (try dsimp only at hSw); go_simp; try with_reducible rfl
              (try simp only [Act.put, List.setIfInBounds_toArray, List.set_cons_zero, List.set_cons_succ])
              refine wpAnyH_take (i := 19) (oi := { dst := some 126, op := Op.move (.tmp 4), type := 24, pos := "laws.go:511", after := #[⟨17, .guard⟩], guard := some (17, true) }) (v := ?_) rfl (by kernel_rfl) (by kernel_rfl) (by kernel_rfl) (fun _ _ _ h => h) (Or.inl ⟨by rfl, ?_⟩) (by assumption) ?_
              rotate_left
              · intro w' hSw; (try dsimp only at hSw); go_simp; try with_reducible rfl
              (try simp only [Act.put, List.setIfInBounds_toArray, List.set_cons_zero, List.set_cons_succ])
              refine wpAnyH_take (i := 20) (oi := { dst := some 127, op := Op.fieldAddr 28 (.tmp 9) 6, type := 0, pos := "laws.go:511", after := #[⟨17, .guard⟩], guard := some (17, true) }) (v := ?_) rfl (by kernel_rfl) (by kernel_rfl) (by kernel_rfl) (fun _ _ _ h => h) (Or.inl ⟨by rfl, ?_⟩) (by assumption) ?_
              rotate_left
              · intro w' hSw; (try dsimp only at hSw); go_simp; try with_reducible rfl
              (try simp only [Act.put, List.setIfInBounds_toArray, List.set_cons_zero, List.set_cons_succ])
              refine wpAnyH_take (i := 21) (oi := { dst := some 128, op := Op.load 26 (.tmp 127), type := 26, pos := "laws.go:511", after := #[⟨20, .data⟩, ⟨17, .guard⟩], guard := some (17, true) }) (v := ?_) rfl (by kernel_rfl) (by kernel_rfl) (by kernel_rfl) (fun _ _ _ h => h) (Or.inl ⟨by rfl, ?_⟩) (by assumption) ?_
              rotate_left
              · intro w' hSw; (try dsimp only at hSw); go_simp; try with_reducible rfl
              (try simp only [Act.put, List.setIfInBounds_toArray, List.set_cons_zero, List.set_cons_succ])
              refine wpAnyH_ready (rs := [22]) (by kernel_rfl) (by simp) (AllReadyH.cons rfl (fun K hK => ?_) AllReadyH.nil)
              go_simp
              refine (HPk.out _ (M8.out.ext (X2.out)) _ (I8.out.ext (X2.out))).mono ?_
              rintro e y3 ⟨v9, g9, rfl, -, hO9, hb⟩
              obtain ⟨a9, c9, rfl, -⟩ := id hO9
              unfold Led.jr
              clear hO9
              have X3 : Hid (Ext wr y3) := (X2.out).trans hb
              clear hb
              refine hK.out _ _ (by exact HS23.out _ X3.out) (fun hHeld3 => ?_)
              clear hK K
              refine wpAnyH_take (i := 23) (oi := { dst := some 130, op := Op.field 32 (.tmp 129) 0, type := 2, pos := "laws.go:511", after := #[⟨22, .data⟩, ⟨17, .guard⟩], guard := some (17, true) }) (v := ?_) rfl (by kernel_rfl) (by kernel_rfl) (by kernel_rfl) (fun _ _ _ h => h) (Or.inl ⟨by rfl, ?_⟩) (by assumption) ?_
              rotate_left
              · intro w' hSw; (try dsimp only at hSw); go_simp; try with_reducible rfl
              (try simp only [Act.put, List.setIfInBounds_toArray, List.set_cons_zero, List.set_cons_succ])
              refine wpAnyH_take (i := 24) (oi := { dst := some 131, op := Op.binOp BinOp.eql 2 (.tmp 130) (Operand.const (Value.int IntKind.i64 0)) 2, type := 4, pos := "laws.go:511", after := #[⟨23, .data⟩, ⟨17, .guard⟩], guard := some (17, true) }) (v := ?_) rfl (by kernel_rfl) (by kernel_rfl) (by kernel_rfl) (fun _ _ _ h => h) (Or.inl ⟨by rfl, ?_⟩) (by assumption) ?_
              rotate_left
              · intro w' hSw; (try dsimp only at hSw); go_simp; try with_reducible rfl
              (try simp only [Act.put, List.setIfInBounds_toArray, List.set_cons_zero, List.set_cons_succ])
              refine wpAnyH_take (i := 25) (oi := { dst := some 132, op := Op.pick (.tmp 124) (.tmp 131) (Operand.const (Value.bool false)), type := 4, pos := "laws.go:511", after := #[⟨17, .data⟩, ⟨24, .data⟩], guard := none }) (v := ?_) rfl (by kernel_rfl) (by kernel_rfl) (by kernel_rfl) (fun _ _ _ h => h) (Or.inl ⟨by rfl, ?_⟩) (by assumption) ?_
              rotate_left
              · intro w' hSw; (try dsimp only at hSw); go_simp; try with_reducible rfl
              (try simp only [Act.put, List.setIfInBounds_toArray, List.set_cons_zero, List.set_cons_succ])
              refine wpAnyH_take (i := 26) (oi := { dst := some 2, op := Op.assign (.tmp 132), type := 4, pos := "laws.go:511", after := #[⟨25, .data⟩, ⟨22, .chain⟩, ⟨0, .phase⟩, ⟨1, .phase⟩, ⟨2, .phase⟩, ⟨3, .phase⟩, ⟨4, .phase⟩, ⟨5, .phase⟩, ⟨6, .phase⟩, ⟨7, .phase⟩, ⟨8, .phase⟩, ⟨9, .phase⟩, ⟨10, .phase⟩, ⟨11, .phase⟩, ⟨12, .phase⟩, ⟨13, .phase⟩, ⟨14, .phase⟩, ⟨15, .phase⟩, ⟨16, .phase⟩, ⟨17, .phase⟩, ⟨18, .phase⟩, ⟨19, .phase⟩, ⟨20, .phase⟩, ⟨21, .phase⟩, ⟨22, .phase⟩, ⟨23, .phase⟩, ⟨24, .phase⟩, ⟨25, .phase⟩], guard := none }) (v := ?_) rfl (by kernel_rfl) (by kernel_rfl) (by kernel_rfl) (fun _ _ _ h => h) (Or.inl ⟨by rfl, ?_⟩) (by assumption) ?_
              rotate_left
              · intro w' hSw; (try dsimp only at hSw); go_simp; try with_reducible rfl
              (try simp only [Act.put, List.setIfInBounds_toArray, List.set_cons_zero, List.set_cons_succ])
              refine wpAnyH_done (by kernel_rfl) ?_ _
              (try go_wp2)
              go_ret
              exact ⟨ret_bool (by simp), E8.out.trans X3.out⟩
  · have g1 : (c != 0) = true := by simpa using hcn
    have P6 : Hid ((c == c) = true) := by show _ = _; simp
    subst hRf
    clear HV hcn HAll HCR HR
    go_wp2
    rw [← hw5]
    generalize w4.heap.size = L at *
    clear hw5
    have HS0 : Hid (∀ W', Ext w5 W' → W'.cell? ⟨L, 0, none⟩ = some (.int .i64 c)) := fun W' he => (BL.out.ext he).2.1
    refine wp_region_held_drew (S := (fun W' : World => W'.cell? ⟨L, 0, none⟩ = some (.int .i64 c))) (by kernel_rfl) (HS0.out _ ((Ext.refl _).drew)) (fun hHeld => ?_)
    refine wpAnyH_take (i := 0) (oi := { dst := some 35, op := Op.fieldAddr 32 (.tmp 7) 0, type := 0, pos := "laws.go:495", after := #[], guard := none }) (v := ?_) rfl (by kernel_rfl) (by kernel_rfl) (by kernel_rfl) (fun _ _ _ h => h) (Or.inl ⟨by rfl, ?_⟩) (by assumption) ?_
    rotate_left
    · intro w' hSw; (try dsimp only at hSw); go_simp; try with_reducible rfl
    (try simp only [Act.put, List.setIfInBounds_toArray, List.set_cons_zero, List.set_cons_succ])
    refine wpAnyH_take (i := 1) (oi := { dst := some 36, op := Op.load 2 (.tmp 35), type := 2, pos := "laws.go:495", after := #[⟨0, .data⟩], guard := none }) (v := ?_) rfl (by kernel_rfl) (by kernel_rfl) (by kernel_rfl) (fun _ _ _ h => h) (Or.inl ⟨by rfl, ?_⟩) (by assumption) ?_
    rotate_left
    · intro w' hSw; (try dsimp only at hSw); go_simp; try with_reducible rfl
    (try simp only [Act.put, List.setIfInBounds_toArray, List.set_cons_zero, List.set_cons_succ])
    refine wpAnyH_take (i := 2) (oi := { dst := some 37, op := Op.move (.tmp 3), type := 2, pos := "laws.go:495", after := #[], guard := none }) (v := ?_) rfl (by kernel_rfl) (by kernel_rfl) (by kernel_rfl) (fun _ _ _ h => h) (Or.inl ⟨by rfl, ?_⟩) (by assumption) ?_
    rotate_left
    · intro w' hSw; (try dsimp only at hSw); go_simp; try with_reducible rfl
    (try simp only [Act.put, List.setIfInBounds_toArray, List.set_cons_zero, List.set_cons_succ])
    refine wpAnyH_take (i := 3) (oi := { dst := some 38, op := Op.move (.tmp 4), type := 24, pos := "laws.go:495", after := #[], guard := none }) (v := ?_) rfl (by kernel_rfl) (by kernel_rfl) (by kernel_rfl) (fun _ _ _ h => h) (Or.inl ⟨by rfl, ?_⟩) (by assumption) ?_
    rotate_left
    · intro w' hSw; (try dsimp only at hSw); go_simp; try with_reducible rfl
    (try simp only [Act.put, List.setIfInBounds_toArray, List.set_cons_zero, List.set_cons_succ])
    refine wpAnyH_ready (rs := [4]) (by kernel_rfl) (by simp) (AllReadyH.cons rfl (fun K hK => ?_) AllReadyH.nil)
    go_simp
    refine (HSp.out _ (M5.out.ext (Ext.refl _).drew)).mono ?_
    rintro e y1 ⟨v9, g9, rfl, -, hO9, hb⟩
    obtain ⟨a9, c9, rfl, -⟩ := id hO9
    unfold Led.jr
    have X1 : Hid (Ext w5 y1) := ((Ext.refl _).drew).trans hb
    clear hb hO9
    refine hK.out _ _ (by exact HS0.out _ X1.out) (fun hHeld1 => ?_)
    clear hK K
    refine wpAnyH_take (i := 5) (oi := { dst := some 40, op := Op.field 32 (.tmp 39) 0, type := 2, pos := "laws.go:495", after := #[⟨4, .data⟩], guard := none }) (v := ?_) rfl (by kernel_rfl) (by kernel_rfl) (by kernel_rfl) (fun _ _ _ h => h) (Or.inl ⟨by rfl, ?_⟩) (by assumption) ?_
    rotate_left
    · intro w' hSw; (try dsimp only at hSw); go_simp; try with_reducible rfl
    (try simp only [Act.put, List.setIfInBounds_toArray, List.set_cons_zero, List.set_cons_succ])
    refine wpAnyH_take (i := 6) (oi := { dst := some 41, op := Op.binOp BinOp.eql 2 (.tmp 36) (.tmp 40) 2, type := 4, pos := "laws.go:495", after := #[⟨1, .data⟩, ⟨5, .data⟩], guard := none }) (v := ?_) rfl (by kernel_rfl) (by kernel_rfl) (by kernel_rfl) (fun _ _ _ h => h) (Or.inl ⟨by rfl, ?_⟩) (by assumption) ?_
    rotate_left
    · intro w' hSw; (try dsimp only at hSw); go_simp; try with_reducible rfl
    (try simp only [Act.put, List.setIfInBounds_toArray, List.set_cons_zero, List.set_cons_succ])
    (try rw [P6.out])
    refine wpAnyH_take (i := 7) (oi := { dst := some 42, op := Op.move (.tmp 41), type := 4, pos := "laws.go:495", after := #[⟨6, .data⟩, ⟨4, .chain⟩], guard := none }) (v := ?_) rfl (by kernel_rfl) (by kernel_rfl) (by kernel_rfl) (fun _ _ _ h => h) (Or.inl ⟨by rfl, ?_⟩) (by assumption) ?_
    rotate_left
    · intro w' hSw; (try dsimp only at hSw); go_simp; try with_reducible rfl
    (try simp only [Act.put, List.setIfInBounds_toArray, List.set_cons_zero, List.set_cons_succ])
    refine wpAnyH_take (i := 8) (oi := { dst := some 43, op := Op.move (.tmp 6), type := 4, pos := "laws.go:495", after := #[⟨7, .guard⟩], guard := some (7, true) }) (v := ?_) rfl (by kernel_rfl) (by kernel_rfl) (by kernel_rfl) (fun _ _ _ h => h) (Or.inl ⟨by rfl, ?_⟩) (by assumption) ?_
    rotate_left
    · intro w' hSw; (try dsimp only at hSw); go_simp; try with_reducible rfl
    (try simp only [Act.put, List.setIfInBounds_toArray, List.set_cons_zero, List.set_cons_succ])
    refine wpAnyH_take (i := 9) (oi := { dst := some 44, op := Op.unOp UnOp.not 4 (.tmp 43), type := 4, pos := "laws.go:495", after := #[⟨8, .data⟩, ⟨7, .guard⟩], guard := some (7, true) }) (v := ?_) rfl (by kernel_rfl) (by kernel_rfl) (by kernel_rfl) (fun _ _ _ h => h) (Or.inl ⟨by rfl, ?_⟩) (by assumption) ?_
    rotate_left
    · intro w' hSw; (try dsimp only at hSw); go_simp; try with_reducible rfl
    (try simp only [Act.put, List.setIfInBounds_toArray, List.set_cons_zero, List.set_cons_succ])
    refine wpAnyH_take (i := 10) (oi := { dst := some 45, op := Op.pick (.tmp 42) (.tmp 44) (Operand.const (Value.bool false)), type := 4, pos := "laws.go:495", after := #[⟨7, .data⟩, ⟨9, .data⟩], guard := none }) (v := ?_) rfl (by kernel_rfl) (by kernel_rfl) (by kernel_rfl) (fun _ _ _ h => h) (Or.inl ⟨by rfl, ?_⟩) (by assumption) ?_
    rotate_left
    · intro w' hSw; (try dsimp only at hSw); go_simp; try with_reducible rfl
    (try simp only [Act.put, List.setIfInBounds_toArray, List.set_cons_zero, List.set_cons_succ])
    refine wpAnyH_take (i := 11) (oi := { dst := some 2, op := Op.assign (.tmp 45), type := 4, pos := "laws.go:495", after := #[⟨10, .data⟩, ⟨7, .chain⟩, ⟨0, .phase⟩, ⟨1, .phase⟩, ⟨2, .phase⟩, ⟨3, .phase⟩, ⟨4, .phase⟩, ⟨5, .phase⟩, ⟨6, .phase⟩, ⟨7, .phase⟩, ⟨8, .phase⟩, ⟨9, .phase⟩, ⟨10, .phase⟩], guard := none }) (v := ?_) rfl (by kernel_rfl) (by kernel_rfl) (by kernel_rfl) (fun _ _ _ h => h) (Or.inl ⟨by rfl, ?_⟩) (by assumption) ?_
    rotate_left
    · intro w' hSw; (try dsimp only at hSw); go_simp; try with_reducible rfl
    (try simp only [Act.put, List.setIfInBounds_toArray, List.set_cons_zero, List.set_cons_succ])
    refine wpAnyH_done (by kernel_rfl) ?_ _
    (try go_wp2)
    go_ret
    exact ⟨ret_bool (by simp), E5.out.trans X1.out⟩
theorem lawViews_all (v : Value) (w : World) (h : ∃ ad len cap, v = .slice ad len cap ∧ (len ≤ 1048576 → CodeOk w w.heap.size v)) :
    Calls Try.prog 5 #[v] w fun e w' => e = .returned (.bool true) ∧ Ext w w' := by
  obtain ⟨ad, len, cap, rfl, hc⟩ := h
  by_cases hl : 1048576 < len
  · exact lawViews_big ad len cap w hl
  · exact lawViews _ w (hc (by omega))
end Go.Proofs.Ytflojfkalnojbaa
