/- laws.FnPicks, walked: it answers true at every code. -/
import Derived.Test.YtflojfkalnojbaaVwMP1
import Derived.Test.YtflojfkalnojbaaVwQV7
import Derived.Test.YtflojfkalnojbaaVwQV7s
import Derived.Deep.RegionHeld3
namespace Go.Proofs.Ytflojfkalnojbaa
open Go.RowKit
namespace Msg
theorem best_some {cs : List Ct} {slot : Int} {c : Ct} (h : c ∈ cs) (hs : c.slot = slot) : ∃ d, best cs slot = some d := by
  cases ho : ofSlot cs slot with
  | nil =>
    have h2 : c ∈ ofSlot cs slot := List.mem_filter.2 ⟨h, by simpa using hs⟩
    rw [ho] at h2
    cases h2
  | cons d r => exact ⟨_, best_cons ho⟩
theorem pick_mono (cs : List Ct) (k : Nat) : (pick cs k).length ≤ (pick cs (k + 1)).length := by
  cases h : best cs ((k : Int) + 1) with
  | none => rw [pick_no h]; exact Nat.le_refl _
  | some c => rw [pick_len_yes h]; have := pick_len cs k; omega
theorem pick_mono_le (cs : List Ct) (k j : Nat) : (pick cs k).length ≤ (pick cs (k + j)).length := by
  induction j with
  | zero => exact Nat.le_refl _
  | succ j ih => exact Nat.le_trans ih (pick_mono cs (k + j))
theorem pick_cover {cs : List Ct} {c : Ct} (h : c ∈ cs) (h1 : 1 ≤ c.slot) (h2 : c.slot ≤ 30) : c.slot ≤ ((pick cs 30).length : Int) := by
  obtain ⟨k, hk⟩ : ∃ k : Nat, c.slot = (k : Int) + 1 := ⟨(c.slot - 1).toNat, by omega⟩
  obtain ⟨d, hd⟩ := best_some h hk
  have e := pick_len_yes hd
  obtain ⟨j, hj⟩ : ∃ j, 30 = (k + 1) + j := ⟨30 - (k + 1), by omega⟩
  have := pick_mono_le cs (k + 1) j
  rw [← hj, e] at this
  omega
theorem vals_at (cs : List Ct) : ∀ (k i : Nat), i < k → (vals cs k)[i]? = some (vl (best cs ((i : Int) + 1)))
  | 0, i, h => by omega
  | k + 1, i, h => by
    rw [vals]
    by_cases hi : i < k
    · rw [List.getElem?_append_left (by rw [vals_len]; exact hi)]
      exact vals_at cs k i hi
    · have e : i = k := by omega
      subst e
      rw [List.getElem?_append_right (by rw [vals_len]; exact Nat.le_refl _), vals_len, Nat.sub_self]
      rfl
theorem picks_at {ms : List Ms} {refs : List Int} {i : Nat} (h : i < (picks ms refs).length) : (picks ms refs)[i]? = some (vl (best (cat ms refs) ((i : Int) + 1))) := by
  have hl := picks_len ms refs
  have e := vals_take (cat ms refs) 30
  have h2 : (picks ms refs)[i]? = ((vals (cat ms refs) 30).take (pick (cat ms refs) 30).length)[i]? := by rw [e]; rfl
  rw [h2, List.getElem?_take, if_pos (show i < (pick (cat ms refs) 30).length from h)]
  exact vals_at _ 30 i (by omega)
def hit (slot B v : Int) (cs : List Ct) : Bool := cs.any (fun c => decide (c.slot = slot) && decide (c.view = B) && decide (c.value = v))
theorem hit_snoc (slot B v : Int) (cs : List Ct) (c : Ct) : hit slot B v (cs ++ [c]) = (hit slot B v cs || (decide (c.slot = slot) && decide (c.view = B) && decide (c.value = v))) := by
  unfold hit
  rw [List.any_append]
  simp
theorem hit_all (cs : List Ct) (slot : Int) : ((vl (best cs slot) == 0) || hit slot (vw (best cs slot)) (vl (best cs slot)) cs) = true := by
  cases h : best cs slot with
  | none => rfl
  | some c =>
    obtain ⟨h1, h2⟩ := best_mem h
    rw [Bool.or_eq_true]
    right
    unfold hit
    rw [List.any_eq_true]
    exact ⟨c, h1, by simp [h2, vw, vl]⟩
theorem pick_inv {f : Int} {ms : List Ms} {refs : List Int} (h : (pickV f ms refs).1 = 0) : ledger f ms = 0 ∧ (refs.length : Int) ≤ 3 * f + 1 ∧ (∀ p ∈ refs, 0 ≤ p ∧ p < (ms.length : Int)) ∧ (pickV f ms refs).2 = picks ms refs := by
  by_cases h1 : ledger f ms = 0
  · by_cases h2 : 3 * f + 1 < (refs.length : Int)
    · rw [pickV_many h1 h2] at h; exact absurd h (by decide)
    · unfold pickV at h ⊢
      rw [if_neg (by omega), if_neg h2] at h ⊢
      by_cases h3 : refs.all (fun p => kindAt ms p 4) = false
      · rw [if_pos h3] at h; exact absurd h (by decide)
      · rw [if_neg h3]
        refine ⟨h1, by omega, fun p hp => ?_, rfl⟩
        have h4 : refs.all (fun p => kindAt ms p 4) = true := by cases hq : refs.all (fun p => kindAt ms p 4) with
          | true => rfl
          | false => exact absurd hq h3
        have h5 := List.all_eq_true.1 h4 p hp
        cases hn : nth ms p with
        | none => rw [kindAt_none hn] at h5; cases h5
        | some z => exact ⟨(nth_some hn).1, (nth_some hn).2.1⟩
  · rw [pickV_bad h1] at h; exact absurd h h1
theorem cat_mem {ms : List Ms} {refs : List Int} {k : Nat} {p : Int} {z : Ms} {c : Ct} (h : refs[k]? = some p) (hz : nth ms p = some z) (hc : c ∈ z.certs) : c ∈ cat ms refs := by
  unfold cat
  rw [List.mem_flatMap]
  exact ⟨p, List.mem_of_getElem? h, by rw [certsAt_some hz]; exact hc⟩
end Msg
set_option maxHeartbeats 400000 in
theorem lwBigP_any (ad : Option Addr) (len cap : Nat) (w : World) :
    Calls Try.prog 14 #[.slice ad len cap] w fun e w' => e = .returned (.bool (decide (1048576 < len))) ∧ w' = w := by
  go_enter Try.func14, Try.ntmps14
  go_wp2
  go_ret
  exact ⟨ret_bool (by rw [Bool.eq_iff_iff]; simp; omega), rfl⟩
set_option maxHeartbeats 400000 in
set_option maxRecDepth 100000 in
theorem lawPicks_big (ad : Option Addr) (len cap : Nat) (w : World) (hl : 1048576 < len) :
    Calls Try.prog 4 #[.slice ad len cap] w fun e w' => e = .returned (.bool true) ∧ Ext w w' := by
  have hbig : decide (1048576 < len) = true := by simpa using hl
  have hB := lwBigP_any ad len cap w
  rw [hbig] at hB
  clear hbig
  go_enter Try.func4, Try.ntmps4
  go_wp2_with fail
  refine hB.mono ?_
  rintro e w0 ⟨rfl, hw⟩
  subst hw
  clear hB
  go_wp2
  go_ret
  exact ⟨rfl, Ext.refl _⟩
set_option linter.unusedSimpArgs false in
set_option maxHeartbeats 16000000 in
set_option maxRecDepth 100000 in
theorem lawPicks (cv : Value) (w : World) (hc : CodeOk w w.heap.size cv) :
    Calls Try.prog 4 #[cv] w fun e w' => e = .returned (.bool true) ∧ Ext w w' := by
  have hc' := hc
  obtain ⟨ad, len, cap0, rfl, hl, -⟩ := hc'
  have HC : Hid (CodeOk w w.heap.size (.slice ad len cap0)) := hc
  have hbig : decide (1048576 < len) = false := by simpa using hl
  have hB := lwBigP_any ad len cap0 w
  rw [hbig] at hB
  clear hc hbig hl
  have hf0 : ∀ (x : Int) (s : Value) (W : World), (Instr.field 32 (.agg #[.int .i64 x, s]) 0).run Try.prog W = .ok (.int .i64 x) W := fun _ _ _ => by kernel_rfl
  have hf1 : ∀ (x : Int) (a : Option Addr) (n c : Nat) (W : World), (Instr.field 32 (.agg #[.int .i64 x, .slice a n c]) 1).run Try.prog W = .ok (.slice a n c) W := fun _ _ _ _ _ => by kernel_rfl
  go_enter Try.func4, Try.ntmps4
  go_wp2_with fail
  refine hB.mono ?_
  rintro e w0 ⟨rfl, hw⟩
  rw [hw]
  clear hB hw w0
  go_wp2_with fail
  refine (drawPickOf_any _ _ HC.out).mono ?_
  rintro e w1 ⟨f, ov, ms, rv, refs, rfl, hM, hml, hI, hrl, hE⟩
  obtain ⟨a, cap, rfl, -⟩ := id hM
  obtain ⟨ra, rc, rfl, -⟩ := id hI
  have M1 : Hid (MSlice w1 (.slice a ms.length cap) ms) := hM
  have I1 : Hid (ISlice w1 (.slice ra refs.length rc) refs) := hI
  have E1 : Hid (Ext w w1) := hE
  clear hM hE HC hI
  obtain ⟨c, hcd⟩ : ∃ c, c = (Msg.pickV f ms refs).1 := ⟨_, rfl⟩
  obtain ⟨rs, hrs⟩ : ∃ rs, rs = (Msg.pickV f ms refs).2 := ⟨_, rfl⟩
  have HSp : Hid (∀ (wx : World), MSlice wx (.slice a ms.length cap) ms → ISlice wx (.slice ra refs.length rc) refs → Calls Try.prog 26 #[.int .i64 f, .slice a ms.length cap, .slice ra refs.length rc] wx (Led.JRet wx c rs)) := by rw [hcd, hrs]; exact fun wx h h2 => specPickOf_any f _ refs _ ms wx h h2
  have HIm : Hid (∀ (wx : World), MSlice wx (.slice a ms.length cap) ms → ISlice wx (.slice ra refs.length rc) refs → Calls Try.prog 25 #[.int .i64 f, .slice a ms.length cap, .slice ra refs.length rc] wx (Led.JRet wx c rs)) := by rw [hcd, hrs]; exact fun wx h h2 => implPickOf_any f _ refs _ ms wx h h2
  have HV : Hid (c = 0 → Msg.ledger f ms = 0 ∧ (∀ p ∈ refs, 0 ≤ p ∧ p < (ms.length : Int)) ∧ rs = Msg.picks ms refs) := fun h => by
    rw [hcd] at h
    obtain ⟨h1, -, h2, h3⟩ := Msg.pick_inv h
    exact ⟨h1, h2, by rw [hrs, h3]⟩
  clear hcd hrs
  go_wp2_with fail
  refine (HIm.out _ M1.out I1.out).mono ?_
  rintro e w4 ⟨v2, g2, rfl, hg2, hO2, hb⟩
  obtain ⟨a2, cap2, rfl, -⟩ := id hO2
  unfold Led.jr
  obtain ⟨w5, hw5⟩ : ∃ w5, w5 = w4.alloc (.cells #[.int .i64 c, .slice a2 rs.length cap2] 32) := ⟨_, rfl⟩
  have X5 : Ext w1 w5 := by rw [hw5]; exact hb.alloc _
  have E5 : Hid (Ext w w5) := E1.out.trans X5
  have M5 : Hid (MSlice w5 (.slice a ms.length cap) ms) := M1.out.ext X5
  have I5 : Hid (ISlice w5 (.slice ra refs.length rc) refs) := I1.out.ext X5
  have BL : Hid (Led.JBoxAt w5 w4.heap.size c (.slice a2 rs.length cap2)) := by rw [hw5]; exact Led.jbox_new w4 c _ _
  have O5 : Hid (ISlice w5 (.slice a2 rs.length cap2) rs) := by rw [hw5]; exact (hO2.ext ((Ext.refl _).alloc _)).slice
  clear hb hO2 hg2 X5 M1 E1 I1 HIm
  by_cases hc0 : c = 0
  · obtain ⟨hled, hin, hrs⟩ := HV.out hc0
    have HIn : Hid (∀ p ∈ refs, 0 ≤ p ∧ p < (ms.length : Int)) := hin
    have HVw : Hid (∀ z ∈ ms, ∀ c ∈ z.certs, 0 ≤ c.view) := fun z hz c hc => ((Msg.lists_zero (Msg.ledger_all hled z hz)).2.2.1 c hc).2.2.1
    have HCv : Hid (∀ (k : Nat) (p : Int) z, refs[k]? = some p → Msg.nth ms p = some z → ∀ c ∈ z.certs, c.slot ≤ (rs.length : Int)) := fun k p z h1 h2 c hc => by
      have hm := Msg.cat_mem h1 h2 hc
      have hi := Msg.cat_in hled c hm
      rw [hrs]
      exact Msg.pick_cover hm hi.1 hi.2.1
    have HAt : Hid (∀ s : Nat, s < rs.length → rs[s]? = some (Msg.vl (Msg.best (Msg.cat ms refs) ((s : Int) + 1)))) := fun s h => by rw [hrs] at h ⊢; exact Msg.picks_at h
    have hrs30 : rs.length ≤ 30 := by rw [hrs]; exact Msg.picks_len _ _
    subst hc0
    clear HV hled hin hrs
    go_wp2
    rw [← hw5]
    generalize w4.heap.size = L at *
    clear hw5
    go_loopw [7] (fun i wr => ∃ (k : Nat), k ≤ refs.length ∧ i = .int .i64 k ∧ Hid (Ext w5 wr)) (fun i _ => refs.length - (intOf i).toNat)
    case atStart => exact ⟨0, Nat.zero_le _, rfl, Ext.refl _⟩
    case round =>
      obtain ⟨k, hk, rfl, HE⟩ := hrel
      obtain ⟨wq, hwq⟩ : ∃ wq, wq = wr := ⟨_, rfl⟩
      subst hwq
      have M6 : Hid (MSlice wq (.slice a ms.length cap) ms) := M5.out.ext HE.out
      have I6 : Hid (ISlice wq (.slice ra refs.length rc) refs) := I5.out.ext HE.out
      by_cases hlt : k < refs.length
      · obtain ⟨p, hpk⟩ : ∃ p, refs[k]? = some p := ⟨_, List.getElem?_eq_getElem hlt⟩
        obtain ⟨a7, c7, e7, h71, h72, h73⟩ := I6.out
        injection e7 with e7 e8' e9'
        obtain ⟨b, off, e10, hb, hN⟩ := h73 (by omega)
        unfold maxLen at h72
        subst e7 e9' e10
        have d0 := hN k p hpk
        have hp := HIn.out p (List.mem_of_getElem? hpk)
        obtain ⟨z, h2, h3⟩ := Msg.nth_at hp.1 hp.2
        obtain ⟨q, rfl⟩ : ∃ k : Nat, p = k := ⟨p.toNat, by omega⟩
        have h2 : ms[q]? = some z := h2
        obtain ⟨b1, off1, cap1, e1, hlt1, hlm1, hcm1, hb1, hm⟩ := M6.out.at2 h2
        injection e1 with e1 e4 e5
        subst e1 e5
        obtain ⟨vz, uz, ⟨-, -, -, -, -, c5, -⟩, hL⟩ := hm
        obtain ⟨⟨ac, cc, rfl, hcc, hccm, hcx⟩, -⟩ := hL
        have HCX : Hid (0 < z.certs.length → ∃ b off, ac = some ⟨b, off, none⟩ ∧ b < wq.heap.size ∧ CtsAt wq b off z.certs) := hcx
        unfold maxLen at hccm
        have HCov : Hid (∀ c ∈ z.certs, c.slot ≤ (rs.length : Int)) := fun c hc => HCv.out k _ z hpk h3 c hc
        clear hpk hN h2 h3 hp e4 e8' hcx h71 h73
        go_wp2
        clear d0 c5
        go_loopw [9] (fun i wy => ∃ (j : Nat), j ≤ z.certs.length ∧ i = .int .i64 j ∧ Hid (Ext wq wy)) (fun i _ => z.certs.length - (intOf i).toNat)
        case atStart => exact ⟨0, Nat.zero_le _, rfl, Ext.refl _⟩
        case round =>
          obtain ⟨j, hj, rfl, HE2⟩ := hrel
          by_cases hlj : j < z.certs.length
          · obtain ⟨c, hcj⟩ : ∃ c, z.certs[j]? = some c := ⟨_, List.getElem?_eq_getElem hlj⟩
            obtain ⟨b9, o9, rfl, hb9, hN9⟩ := HCX.out (by omega)
            obtain ⟨d0, d1, d2⟩ := hN9 j c hcj
            have hcs := HCov.out c (List.mem_of_getElem? hcj)
            have hcs2 : ¬ (rs.length : Int) < c.slot := by omega
            have HS14 : Hid (∀ W', Ext wr W' → W'.cell? ⟨b9, o9 + j * 3, none⟩ = some (.int .i64 c.slot) ∧ W'.cell? ⟨L, 1, none⟩ = some (.slice a2 rs.length cap2)) := fun W' he => ⟨((Ext.cell (HE2.out.trans he)).1 _ _ hb9).trans d0, (BL.out.ext ((HE.out.trans HE2.out).trans he)).2.2⟩
            clear hcj hN9 d0 d1 d2 hcs
            go_wp2
            refine wp_region_held_drew (S := (fun W' : World => W'.cell? ⟨b9, o9 + j * 3, none⟩ = some (.int .i64 c.slot) ∧ W'.cell? ⟨L, 1, none⟩ = some (.slice a2 rs.length cap2))) (by kernel_rfl) (HS14.out _ ((Ext.refl _).drew)) (fun hHeld => ?_)
            refine wpAnyH_take (i := 0) (oi := { dst := some 62, op := Op.move (.tmp 8), type := 25, pos := "laws.go:454", after := #[], guard := none }) (v := ?_) rfl (by kernel_rfl) (by kernel_rfl) (by kernel_rfl) (fun _ _ _ h => h) (Or.inl ⟨by rfl, ?_⟩) (by assumption) ?_
            rotate_left
            · intro w' hSw; (try dsimp only at hSw); go_simp; try with_reducible rfl
            (try simp only [Act.put, List.setIfInBounds_toArray, List.set_cons_zero, List.set_cons_succ])
            refine wpAnyH_take (i := 1) (oi := { dst := some 63, op := Op.move (.tmp 9), type := 3, pos := "laws.go:454", after := #[], guard := none }) (v := ?_) rfl (by kernel_rfl) (by kernel_rfl) (by kernel_rfl) (fun _ _ _ h => h) (Or.inl ⟨by rfl, ?_⟩) (by assumption) ?_
            rotate_left
            · intro w' hSw; (try dsimp only at hSw); go_simp; try with_reducible rfl
            (try simp only [Act.put, List.setIfInBounds_toArray, List.set_cons_zero, List.set_cons_succ])
            refine wpAnyH_take (i := 2) (oi := { dst := some 64, op := Op.indexAddr 25 (.tmp 62) (.tmp 63), type := 0, pos := "laws.go:454", after := #[⟨0, .data⟩, ⟨1, .data⟩], guard := none }) (v := ?_) rfl (by kernel_rfl) (by kernel_rfl) (by kernel_rfl) (fun _ _ _ h => h) (Or.inl ⟨by rfl, ?_⟩) (by assumption) ?_
            rotate_left
            · intro w' hSw; (try dsimp only at hSw); go_simp; try with_reducible rfl
            (try simp only [Act.put, List.setIfInBounds_toArray, List.set_cons_zero, List.set_cons_succ])
            refine wpAnyH_take (i := 3) (oi := { dst := some 65, op := Op.fieldAddr 38 (.tmp 64) 0, type := 0, pos := "laws.go:454", after := #[⟨2, .data⟩], guard := none }) (v := ?_) rfl (by kernel_rfl) (by kernel_rfl) (by kernel_rfl) (fun _ _ _ h => h) (Or.inl ⟨by rfl, ?_⟩) (by assumption) ?_
            rotate_left
            · intro w' hSw; (try dsimp only at hSw); go_simp; try with_reducible rfl
            (try simp only [Act.put, List.setIfInBounds_toArray, List.set_cons_zero, List.set_cons_succ])
            refine wpAnyH_take (i := 4) (oi := { dst := some 66, op := Op.load 2 (.tmp 65), type := 2, pos := "laws.go:454", after := #[⟨3, .data⟩], guard := none }) (v := ?_) rfl (by kernel_rfl) (by kernel_rfl) (by kernel_rfl) (fun _ _ _ h => h) (Or.inl ⟨by rfl, ?_⟩) (by assumption) ?_
            rotate_left
            · intro w' hSw; (try dsimp only at hSw); go_simp; try with_reducible rfl
            (try simp only [Act.put, List.setIfInBounds_toArray, List.set_cons_zero, List.set_cons_succ])
            refine wpAnyH_take (i := 5) (oi := { dst := some 67, op := Op.fieldAddr 32 (.tmp 6) 1, type := 0, pos := "laws.go:454", after := #[], guard := none }) (v := ?_) rfl (by kernel_rfl) (by kernel_rfl) (by kernel_rfl) (fun _ _ _ h => h) (Or.inl ⟨by rfl, ?_⟩) (by assumption) ?_
            rotate_left
            · intro w' hSw; (try dsimp only at hSw); go_simp; try with_reducible rfl
            (try simp only [Act.put, List.setIfInBounds_toArray, List.set_cons_zero, List.set_cons_succ])
            refine wpAnyH_take (i := 6) (oi := { dst := some 68, op := Op.load 26 (.tmp 67), type := 26, pos := "laws.go:454", after := #[⟨5, .data⟩], guard := none }) (v := ?_) rfl (by kernel_rfl) (by kernel_rfl) (by kernel_rfl) (fun _ _ _ h => h) (Or.inl ⟨by rfl, ?_⟩) (by assumption) ?_
            rotate_left
            · intro w' hSw; (try dsimp only at hSw); go_simp; try with_reducible rfl
            (try simp only [Act.put, List.setIfInBounds_toArray, List.set_cons_zero, List.set_cons_succ])
            refine wpAnyH_take (i := 7) (oi := { dst := some 69, op := Op.call { callee := Callee.builtin Builtin.len, args := #[.tmp 68], argTypes := #[26] }, type := 3, pos := "laws.go:454", after := #[⟨6, .data⟩], guard := none }) (v := ?_) rfl (by kernel_rfl) (by kernel_rfl) (by kernel_rfl) (fun _ _ _ h => h) (Or.inl ⟨by rfl, ?_⟩) (by assumption) ?_
            rotate_left
            · intro w' hSw; (try dsimp only at hSw); go_simp; try with_reducible rfl
            (try simp only [Act.put, List.setIfInBounds_toArray, List.set_cons_zero, List.set_cons_succ])
            refine wpAnyH_take (i := 8) (oi := { dst := some 70, op := Op.binOp BinOp.gtr 2 (.tmp 66) (.tmp 69) 2, type := 4, pos := "laws.go:454", after := #[⟨4, .data⟩, ⟨7, .data⟩], guard := none }) (v := ?_) rfl (by kernel_rfl) (by kernel_rfl) (by kernel_rfl) (fun _ _ _ h => h) (Or.inl ⟨by rfl, ?_⟩) (by assumption) ?_
            rotate_left
            · intro w' hSw; (try dsimp only at hSw); go_simp; try with_reducible rfl
            (try simp only [Act.put, List.setIfInBounds_toArray, List.set_cons_zero, List.set_cons_succ])
            refine wpAnyH_done (by kernel_rfl) ?_ _
            go_wp2
            exact ⟨⟨j + 1, by omega, by go_num, HE2.out.drew⟩, by simp [intOf]; omega⟩
          · have hljI : ¬ (j : Int) < (z.certs.length : Int) := by omega
            go_wp2
            exact ⟨⟨k + 1, by omega, by go_num, HE.out.trans HE2.out⟩, by simp [intOf]; omega⟩
      · have hltI : ¬ (k : Int) < (refs.length : Int) := by omega
        have E6 : Hid (Ext w wq) := E5.out.trans HE.out
        have BL6 : Hid (Led.JBoxAt wq L 0 (.slice a2 rs.length cap2)) := BL.out.ext HE.out
        have O6 : Hid (ISlice wq (.slice a2 rs.length cap2) rs) := O5.out.ext HE.out
        clear M5 I5 E5 BL O5 HE HCv hk hlt
        obtain ⟨wo, hwo⟩ : ∃ wo, wo = wq := ⟨_, rfl⟩
        subst hwo
        go_wp2
        go_loopw [10] (fun sv wr => ∃ (s : Nat), s ≤ rs.length ∧ sv = .int .i64 ((s : Int) + 1) ∧ Hid (Ext wo wr)) (fun sv _ => rs.length + 1 - (intOf sv).toNat)
        case atStart => exact ⟨0, Nat.zero_le _, rfl, Ext.refl _⟩
        case round =>
          obtain ⟨s, hs, rfl, HE⟩ := hrel
          obtain ⟨wq, hwq⟩ : ∃ wq, wq = wr := ⟨_, rfl⟩
          subst hwq
          have M7 : Hid (MSlice wq (.slice a ms.length cap) ms) := M6.out.ext HE.out
          have I7 : Hid (ISlice wq (.slice ra refs.length rc) refs) := I6.out.ext HE.out
          have E7 : Hid (Ext w wq) := E6.out.trans HE.out
          have BL7 : Hid (Led.JBoxAt wq L 0 (.slice a2 rs.length cap2)) := BL6.out.ext HE.out
          have O7 : Hid (ISlice wq (.slice a2 rs.length cap2) rs) := O6.out.ext HE.out
          have cL := BL7.out.2.2
          by_cases hls : s < rs.length
          · have hlsI : (s : Int) + 1 ≤ (rs.length : Int) := by omega
            obtain ⟨v, hv⟩ : ∃ v, v = Msg.vl (Msg.best (Msg.cat ms refs) ((s : Int) + 1)) := ⟨_, rfl⟩
            have hvs : rs[s]? = some v := by rw [hv]; exact HAt.out s hls
            have HVl : Hid (v = Msg.vl (Msg.best (Msg.cat ms refs) ((s : Int) + 1))) := hv
            clear hv
            obtain ⟨a8, c8, e8, h81, h82, h83⟩ := O7.out
            injection e8 with e8 e9 e10
            obtain ⟨b8, o8, e11, hb8, hN8⟩ := h83 (by omega)
            unfold maxLen at h82
            subst e8 e10 e11
            have d8 := hN8 s v hvs
            have HRv : Hid (rs[s]? = some v) := hvs
            have e0 : IntKind.i64.wrap ((s : Int) + 1 - 1) = (s : Int) := by rw [IntKind.wrap_i64]; omega
            have e00 : IntKind.i64.wrap (s : Int) = (s : Int) := by rw [IntKind.wrap_i64]; omega
            clear hN8 e9 h83 hvs
            obtain ⟨slot, hslot⟩ : ∃ slot : Int, slot = (s : Int) + 1 := ⟨_, rfl⟩
            go_wp2
            go_loopw [11, 13] (fun bv i wr => ∃ (k : Nat), k ≤ refs.length ∧ i = .int .i64 k ∧ bv = .int .i64 (Msg.vw (Msg.best (Msg.cat ms (refs.take k)) ((s : Int) + 1))) ∧ Hid (wr = wq)) (fun _ i _ => refs.length - (intOf i).toNat)
            case atStart => exact ⟨0, Nat.zero_le _, rfl, rfl, rfl⟩
            case round =>
              obtain ⟨k, hk, rfl, rfl, HW⟩ := hrel
              have hw := HW.out
              subst hw
              by_cases hlt : k < refs.length
              · obtain ⟨p, hpk⟩ : ∃ p, refs[k]? = some p := ⟨_, List.getElem?_eq_getElem hlt⟩
                obtain ⟨a7, c7, e7, h71, h72, h73⟩ := I7.out
                injection e7 with e7 e8' e9'
                obtain ⟨b, off, e10, hb, hN⟩ := h73 (by omega)
                unfold maxLen at h72
                subst e7 e9' e10
                have d0 := hN k p hpk
                have hp := HIn.out p (List.mem_of_getElem? hpk)
                obtain ⟨z, h2, h3⟩ := Msg.nth_at hp.1 hp.2
                obtain ⟨q, rfl⟩ : ∃ k : Nat, p = k := ⟨p.toNat, by omega⟩
                have h2 : ms[q]? = some z := h2
                obtain ⟨b1, off1, cap1, e1, hlt1, hlm1, hcm1, hb1, hm⟩ := M7.out.at2 h2
                injection e1 with e1 e4 e5
                subst e1 e5
                obtain ⟨vz, uz, ⟨-, -, -, -, -, c5, -⟩, hL⟩ := hm
                obtain ⟨⟨ac, cc, rfl, hcc, hccm, hcx⟩, -⟩ := hL
                have HCX : Hid (0 < z.certs.length → ∃ b off, ac = some ⟨b, off, none⟩ ∧ b < wr.heap.size ∧ CtsAt wr b off z.certs) := hcx
                unfold maxLen at hccm
                have HV : Hid (∀ c ∈ z.certs, 0 ≤ c.view) := HVw.out z (List.mem_of_getElem? h2)
                have HK2 : Hid (Msg.cat ms (refs.take (k + 1)) = Msg.cat ms (refs.take k) ++ z.certs) := by show _ = _; rw [Msg.cat_step hpk, Msg.certsAt_some h3]
                have HB0 : Hid (Msg.best (Msg.cat ms (refs.take k) ++ z.certs.take 0) ((s : Int) + 1) = Msg.best (Msg.cat ms (refs.take k)) ((s : Int) + 1)) := by show _ = _; rw [List.take_zero, List.append_nil]
                clear hpk hN h2 h3 hp e4 e8' hcx h71 h73
                go_wp2
                clear d0 c5
                go_loopw [11, 15] (fun bv i wr' => ∃ (j : Nat), j ≤ z.certs.length ∧ i = .int .i64 j ∧ bv = .int .i64 (Msg.vw (Msg.best (Msg.cat ms (refs.take k) ++ z.certs.take j) ((s : Int) + 1))) ∧ Hid (wr' = wr)) (fun _ i _ => z.certs.length - (intOf i).toNat)
                case atStart => exact ⟨0, Nat.zero_le _, rfl, by rw [HB0.out], rfl⟩
                case round =>
                  obtain ⟨j, hj, rfl, rfl, HW2⟩ := hrel
                  have hw2 := HW2.out
                  subst hw2
                  by_cases hlj : j < z.certs.length
                  · obtain ⟨c, hcj⟩ : ∃ c, z.certs[j]? = some c := ⟨_, List.getElem?_eq_getElem hlj⟩
                    obtain ⟨b9, o9, rfl, hb9, hN9⟩ := HCX.out (by omega)
                    obtain ⟨d0, d1, d2⟩ := hN9 j c hcj
                    have HSt : Hid (Msg.best (Msg.cat ms (refs.take k) ++ z.certs.take (j + 1)) ((s : Int) + 1) = Msg.better ((s : Int) + 1) (Msg.best (Msg.cat ms (refs.take k) ++ z.certs.take j) ((s : Int) + 1)) c) := by
                      show _ = _
                      obtain ⟨hj', rfl⟩ := List.getElem?_eq_some_iff.1 hcj
                      rw [List.take_succ_eq_append_getElem hj', ← List.append_assoc, Msg.best_snoc]
                    have hc0 := HV.out c (List.mem_of_getElem? hcj)
                    clear hcj hN9
                    generalize Msg.best (Msg.cat ms (refs.take k) ++ z.certs.take j) ((s : Int) + 1) = o at *
                    by_cases hs' : c.slot = ((s : Int) + 1)
                    · have g1 : (c.slot == ((s : Int) + 1)) = true := by simpa using hs'
                      by_cases hv : Msg.vw o < c.view
                      · have HF : Hid (Msg.best (Msg.cat ms (refs.take k) ++ z.certs.take (j + 1)) ((s : Int) + 1) = some c) := by show _ = _; rw [HSt.out]; exact Msg.better_take hs' hv
                        clear hs'
                        go_wp2
                        exact ⟨⟨j + 1, by omega, by go_num, by rw [HF.out]; rfl, by first | exact rfl | exact (trivial : True)⟩, by simp [intOf]; omega⟩
                      · have HF : Hid (Msg.best (Msg.cat ms (refs.take k) ++ z.certs.take (j + 1)) ((s : Int) + 1) = o) := by show _ = _; rw [HSt.out]; exact Msg.better_keep hc0 hv
                        clear hs'
                        go_wp2
                        exact ⟨⟨j + 1, by omega, by go_num, by rw [HF.out], by first | exact rfl | exact (trivial : True)⟩, by simp [intOf]; omega⟩
                    · have g1 : (c.slot == ((s : Int) + 1)) = false := by simpa using hs'
                      have HF : Hid (Msg.best (Msg.cat ms (refs.take k) ++ z.certs.take (j + 1)) ((s : Int) + 1) = o) := by show _ = _; rw [HSt.out]; exact Msg.better_ne hs'
                      clear hs'
                      go_wp2
                      exact ⟨⟨j + 1, by omega, by go_num, by rw [HF.out], by first | exact rfl | exact (trivial : True)⟩, by simp [intOf]; omega⟩
                  · have hje : j = z.certs.length := by omega
                    have hljI : ¬ (j : Int) < (z.certs.length : Int) := by omega
                    have HF : Hid (Msg.best (Msg.cat ms (refs.take k) ++ z.certs.take j) ((s : Int) + 1) = Msg.best (Msg.cat ms (refs.take (k + 1))) ((s : Int) + 1)) := by show _ = _; rw [HK2.out, hje, List.take_length]
                    clear hje
                    generalize Msg.best (Msg.cat ms (refs.take k) ++ z.certs.take j) ((s : Int) + 1) = o at *
                    go_wp2
                    exact ⟨⟨k + 1, by omega, by go_num, by rw [HF.out], by first | exact rfl | exact (trivial : True)⟩, by simp [intOf]; omega⟩
              · have hke : k = refs.length := by omega
                have hltI : ¬ (k : Int) < (refs.length : Int) := by omega
                have HF : Hid (Msg.best (Msg.cat ms (refs.take k)) ((s : Int) + 1) = Msg.best (Msg.cat ms refs) ((s : Int) + 1)) := by show _ = _; rw [hke, List.take_length]
                rw [HF.out]
                obtain ⟨bb, hbb⟩ : ∃ bb, bb = Msg.vw (Msg.best (Msg.cat ms refs) ((s : Int) + 1)) := ⟨_, rfl⟩
                have HAll : Hid (((v == 0) || Msg.hit ((s : Int) + 1) bb v (Msg.cat ms refs)) = true) := by show _ = _; rw [HVl.out, hbb]; exact Msg.hit_all _ _
                rw [← hbb]
                clear hke hbb HF HVl
                obtain ⟨wt, hwt⟩ : ∃ wt, wt = wr := ⟨_, rfl⟩
                subst hwt
                go_wp2
                go_loopw [12, 16] (fun fv i wr => ∃ (k : Nat) (fb : Bool), k ≤ refs.length ∧ i = .int .i64 k ∧ fv = .bool fb ∧ Hid (fb = ((v == 0) || Msg.hit ((s : Int) + 1) bb v (Msg.cat ms (refs.take k)))) ∧ Hid (Ext wt wr)) (fun _ i _ => refs.length - (intOf i).toNat)
                case atStart => exact ⟨0, _, Nat.zero_le _, rfl, rfl, by show _ = _; rw [List.take_zero]; show _ = ((v == 0) || false); rw [Bool.or_false], Ext.refl _⟩
                case round =>
                  obtain ⟨k, fb, hk, rfl, rfl, HFb, HE1⟩ := hrel
                  obtain ⟨wu, hwu⟩ : ∃ wu, wu = wr := ⟨_, rfl⟩
                  subst hwu
                  have M8 : Hid (MSlice wu (.slice a ms.length cap) ms) := M7.out.ext HE1.out
                  have I8 : Hid (ISlice wu (.slice ra refs.length rc) refs) := I7.out.ext HE1.out
                  have BL8 : Hid (Led.JBoxAt wu L 0 (.slice (some ⟨b8, o8, none⟩) rs.length cap2)) := BL7.out.ext HE1.out
                  have d9 : wu.cell? ⟨b8, o8 + s, none⟩ = some (.int .i64 v) := ((Ext.cell HE1.out).1 _ _ hb8).trans d8
                  by_cases hlt : k < refs.length
                  · obtain ⟨p, hpk⟩ : ∃ p, refs[k]? = some p := ⟨_, List.getElem?_eq_getElem hlt⟩
                    obtain ⟨a7, c7, e7, h71, h72, h73⟩ := I8.out
                    injection e7 with e7 e8' e9'
                    obtain ⟨b, off, e10, hb, hN⟩ := h73 (by omega)
                    unfold maxLen at h72
                    subst e7 e9' e10
                    have d0 := hN k p hpk
                    have hp := HIn.out p (List.mem_of_getElem? hpk)
                    obtain ⟨z, h2, h3⟩ := Msg.nth_at hp.1 hp.2
                    obtain ⟨q, rfl⟩ : ∃ k : Nat, p = k := ⟨p.toNat, by omega⟩
                    have h2 : ms[q]? = some z := h2
                    obtain ⟨b1, off1, cap1, e1, hlt1, hlm1, hcm1, hb1, hm⟩ := M8.out.at2 h2
                    injection e1 with e1 e4 e5
                    subst e1 e5
                    obtain ⟨vz, uz, ⟨-, -, -, -, -, c5, -⟩, hL⟩ := hm
                    obtain ⟨⟨ac, cc, rfl, hcc, hccm, hcx⟩, -⟩ := hL
                    have HCX : Hid (0 < z.certs.length → ∃ b off, ac = some ⟨b, off, none⟩ ∧ b < wu.heap.size ∧ CtsAt wu b off z.certs) := hcx
                    unfold maxLen at hccm
                    have HK2 : Hid (Msg.cat ms (refs.take (k + 1)) = Msg.cat ms (refs.take k) ++ z.certs) := by show _ = _; rw [Msg.cat_step hpk, Msg.certsAt_some h3]
                    clear hpk hN h2 h3 hp e4 e8' hcx h71 h73
                    go_wp2
                    clear d0 c5
                    go_loopw [12, 18] (fun fv i wr => ∃ (j : Nat) (fb : Bool), j ≤ z.certs.length ∧ i = .int .i64 j ∧ fv = .bool fb ∧ Hid (fb = ((v == 0) || Msg.hit ((s : Int) + 1) bb v (Msg.cat ms (refs.take k) ++ z.certs.take j))) ∧ Hid (Ext wu wr)) (fun _ i _ => z.certs.length - (intOf i).toNat)
                    case atStart => exact ⟨0, fb, Nat.zero_le _, rfl, rfl, by show _ = _; rw [List.take_zero, List.append_nil]; exact HFb.out, Ext.refl _⟩
                    case round =>
                      clear HFb
                      obtain ⟨j, fb, hj, rfl, rfl, HFb, HE2⟩ := hrel
                      by_cases hlj : j < z.certs.length
                      · obtain ⟨c, hcj⟩ : ∃ c, z.certs[j]? = some c := ⟨_, List.getElem?_eq_getElem hlj⟩
                        obtain ⟨b9, o9, rfl, hb9, hN9⟩ := HCX.out (by omega)
                        obtain ⟨d0, d1, d2⟩ := hN9 j c hcj
                        have HSt : Hid (((v == 0) || Msg.hit ((s : Int) + 1) bb v (Msg.cat ms (refs.take k) ++ z.certs.take (j + 1))) = (fb || (decide (c.slot = ((s : Int) + 1)) && decide (c.view = bb) && decide (c.value = v)))) := by
                          show _ = _
                          obtain ⟨hj', rfl⟩ := List.getElem?_eq_some_iff.1 hcj
                          rw [List.take_succ_eq_append_getElem hj', ← List.append_assoc, Msg.hit_snoc, HFb.out, Bool.or_assoc]
                        have HS37 : Hid (∀ W', Ext wr W' → W'.cell? ⟨b9, o9 + j * 3, none⟩ = some (.int .i64 c.slot) ∧ W'.cell? ⟨b9, o9 + j * 3 + 1, none⟩ = some (.int .i64 c.view) ∧ W'.cell? ⟨b9, o9 + j * 3 + 2, none⟩ = some (.int .i64 c.value) ∧ W'.cell? ⟨L, 1, none⟩ = some (.slice (some ⟨b8, o8, none⟩) rs.length cap2) ∧ W'.cell? ⟨b8, o8 + s, none⟩ = some (.int .i64 v)) := fun W' he => by
                          have hc := (Ext.cell (HE2.out.trans he)).1
                          exact ⟨(hc _ _ hb9).trans d0, (hc _ _ hb9).trans d1, (hc _ _ hb9).trans d2, (BL8.out.ext (HE2.out.trans he)).2.2, ((Ext.cell ((HE1.out.trans HE2.out).trans he)).1 _ _ hb8).trans d8⟩
                        clear hcj hN9 d0 d1 d2 HFb
                        cases fb with
                        | true =>
                          have HF : Hid (true = ((v == 0) || Msg.hit ((s : Int) + 1) bb v (Msg.cat ms (refs.take k) ++ z.certs.take (j + 1)))) := by show _ = _; rw [HSt.out, Bool.true_or]
                          clear HSt
                          go_wp2
                          refine wp_region_held_drew (S := (fun W' : World => W'.cell? ⟨b9, o9 + j * 3, none⟩ = some (.int .i64 c.slot) ∧ W'.cell? ⟨b9, o9 + j * 3 + 1, none⟩ = some (.int .i64 c.view) ∧ W'.cell? ⟨b9, o9 + j * 3 + 2, none⟩ = some (.int .i64 c.value) ∧ W'.cell? ⟨L, 1, none⟩ = some (.slice (some ⟨b8, o8, none⟩) rs.length cap2) ∧ W'.cell? ⟨b8, o8 + s, none⟩ = some (.int .i64 v))) (by kernel_rfl) (HS37.out _ ((Ext.refl _).drew)) (fun hHeld => ?_)
                          refine wpAnyH_take (i := 0) (oi := { dst := some 146, op := Op.move (.tmp 12), type := 4, pos := "laws.go:473", after := #[], guard := none }) (v := ?_) rfl (by kernel_rfl) (by kernel_rfl) (by kernel_rfl) (fun _ _ _ h => h) (Or.inl ⟨by rfl, ?_⟩) (by assumption) ?_
                          rotate_left
                          · intro w' hSw; (try dsimp only at hSw); go_simp; try with_reducible rfl
                          (try simp only [Act.put, List.setIfInBounds_toArray, List.set_cons_zero, List.set_cons_succ])
                          refine wpAnyH_take (i := 1) (oi := { dst := some 147, op := Op.move (.tmp 146), type := 4, pos := "laws.go:473", after := #[⟨0, .data⟩], guard := none }) (v := ?_) rfl (by kernel_rfl) (by kernel_rfl) (by kernel_rfl) (fun _ _ _ h => h) (Or.inl ⟨by rfl, ?_⟩) (by assumption) ?_
                          rotate_left
                          · intro w' hSw; (try dsimp only at hSw); go_simp; try with_reducible rfl
                          (try simp only [Act.put, List.setIfInBounds_toArray, List.set_cons_zero, List.set_cons_succ])
                          refine wpAnyH_take (i := 2) (oi := { dst := some 148, op := Op.move (.tmp 17), type := 25, pos := "laws.go:473", after := #[⟨1, .guard⟩], guard := some (1, false) }) (v := undef) rfl (by kernel_rfl) (by kernel_rfl) (by kernel_rfl) (fun _ _ _ h => h) (Or.inr ⟨by rfl, rfl⟩) (by assumption) ?_
                          (try simp only [Act.put, List.setIfInBounds_toArray, List.set_cons_zero, List.set_cons_succ])
                          refine wpAnyH_take (i := 3) (oi := { dst := some 149, op := Op.move (.tmp 18), type := 3, pos := "laws.go:473", after := #[⟨1, .guard⟩], guard := some (1, false) }) (v := undef) rfl (by kernel_rfl) (by kernel_rfl) (by kernel_rfl) (fun _ _ _ h => h) (Or.inr ⟨by rfl, rfl⟩) (by assumption) ?_
                          (try simp only [Act.put, List.setIfInBounds_toArray, List.set_cons_zero, List.set_cons_succ])
                          refine wpAnyH_take (i := 4) (oi := { dst := some 150, op := Op.indexAddr 25 (.tmp 148) (.tmp 149), type := 0, pos := "laws.go:473", after := #[⟨2, .data⟩, ⟨3, .data⟩, ⟨1, .guard⟩], guard := some (1, false) }) (v := undef) rfl (by kernel_rfl) (by kernel_rfl) (by kernel_rfl) (fun _ _ _ h => h) (Or.inr ⟨by rfl, rfl⟩) (by assumption) ?_
                          (try simp only [Act.put, List.setIfInBounds_toArray, List.set_cons_zero, List.set_cons_succ])
                          refine wpAnyH_take (i := 5) (oi := { dst := some 151, op := Op.fieldAddr 38 (.tmp 150) 0, type := 0, pos := "laws.go:473", after := #[⟨4, .data⟩, ⟨1, .guard⟩], guard := some (1, false) }) (v := undef) rfl (by kernel_rfl) (by kernel_rfl) (by kernel_rfl) (fun _ _ _ h => h) (Or.inr ⟨by rfl, rfl⟩) (by assumption) ?_
                          (try simp only [Act.put, List.setIfInBounds_toArray, List.set_cons_zero, List.set_cons_succ])
                          refine wpAnyH_take (i := 6) (oi := { dst := some 152, op := Op.load 2 (.tmp 151), type := 2, pos := "laws.go:473", after := #[⟨5, .data⟩, ⟨1, .guard⟩], guard := some (1, false) }) (v := undef) rfl (by kernel_rfl) (by kernel_rfl) (by kernel_rfl) (fun _ _ _ h => h) (Or.inr ⟨by rfl, rfl⟩) (by assumption) ?_
                          (try simp only [Act.put, List.setIfInBounds_toArray, List.set_cons_zero, List.set_cons_succ])
                          refine wpAnyH_take (i := 7) (oi := { dst := some 153, op := Op.move (.tmp 10), type := 2, pos := "laws.go:473", after := #[⟨1, .guard⟩], guard := some (1, false) }) (v := undef) rfl (by kernel_rfl) (by kernel_rfl) (by kernel_rfl) (fun _ _ _ h => h) (Or.inr ⟨by rfl, rfl⟩) (by assumption) ?_
                          (try simp only [Act.put, List.setIfInBounds_toArray, List.set_cons_zero, List.set_cons_succ])
                          refine wpAnyH_take (i := 8) (oi := { dst := some 154, op := Op.binOp BinOp.eql 2 (.tmp 152) (.tmp 153) 2, type := 4, pos := "laws.go:473", after := #[⟨6, .data⟩, ⟨7, .data⟩, ⟨1, .guard⟩], guard := some (1, false) }) (v := undef) rfl (by kernel_rfl) (by kernel_rfl) (by kernel_rfl) (fun _ _ _ h => h) (Or.inr ⟨by rfl, rfl⟩) (by assumption) ?_
                          (try simp only [Act.put, List.setIfInBounds_toArray, List.set_cons_zero, List.set_cons_succ])
                          refine wpAnyH_take (i := 9) (oi := { dst := some 155, op := Op.move (.tmp 154), type := 4, pos := "laws.go:473", after := #[⟨8, .data⟩, ⟨1, .chain⟩, ⟨1, .guard⟩], guard := some (1, false) }) (v := undef) rfl (by kernel_rfl) (by kernel_rfl) (by kernel_rfl) (fun _ _ _ h => h) (Or.inr ⟨by rfl, rfl⟩) (by assumption) ?_
                          (try simp only [Act.put, List.setIfInBounds_toArray, List.set_cons_zero, List.set_cons_succ])
                          refine wpAnyH_take (i := 10) (oi := { dst := some 156, op := Op.move (.tmp 17), type := 25, pos := "laws.go:473", after := #[⟨9, .guard⟩], guard := some (9, true) }) (v := undef) rfl (by kernel_rfl) (by kernel_rfl) (by kernel_rfl) (fun _ _ _ h => h) (Or.inr ⟨by rfl, rfl⟩) (by assumption) ?_
                          (try simp only [Act.put, List.setIfInBounds_toArray, List.set_cons_zero, List.set_cons_succ])
                          refine wpAnyH_take (i := 11) (oi := { dst := some 157, op := Op.move (.tmp 18), type := 3, pos := "laws.go:473", after := #[⟨9, .guard⟩], guard := some (9, true) }) (v := undef) rfl (by kernel_rfl) (by kernel_rfl) (by kernel_rfl) (fun _ _ _ h => h) (Or.inr ⟨by rfl, rfl⟩) (by assumption) ?_
                          (try simp only [Act.put, List.setIfInBounds_toArray, List.set_cons_zero, List.set_cons_succ])
                          refine wpAnyH_take (i := 12) (oi := { dst := some 158, op := Op.indexAddr 25 (.tmp 156) (.tmp 157), type := 0, pos := "laws.go:473", after := #[⟨10, .data⟩, ⟨11, .data⟩, ⟨9, .guard⟩], guard := some (9, true) }) (v := undef) rfl (by kernel_rfl) (by kernel_rfl) (by kernel_rfl) (fun _ _ _ h => h) (Or.inr ⟨by rfl, rfl⟩) (by assumption) ?_
                          (try simp only [Act.put, List.setIfInBounds_toArray, List.set_cons_zero, List.set_cons_succ])
                          refine wpAnyH_take (i := 13) (oi := { dst := some 159, op := Op.fieldAddr 38 (.tmp 158) 1, type := 0, pos := "laws.go:473", after := #[⟨12, .data⟩, ⟨9, .guard⟩], guard := some (9, true) }) (v := undef) rfl (by kernel_rfl) (by kernel_rfl) (by kernel_rfl) (fun _ _ _ h => h) (Or.inr ⟨by rfl, rfl⟩) (by assumption) ?_
                          (try simp only [Act.put, List.setIfInBounds_toArray, List.set_cons_zero, List.set_cons_succ])
                          refine wpAnyH_take (i := 14) (oi := { dst := some 160, op := Op.load 2 (.tmp 159), type := 2, pos := "laws.go:473", after := #[⟨13, .data⟩, ⟨9, .guard⟩], guard := some (9, true) }) (v := undef) rfl (by kernel_rfl) (by kernel_rfl) (by kernel_rfl) (fun _ _ _ h => h) (Or.inr ⟨by rfl, rfl⟩) (by assumption) ?_
                          (try simp only [Act.put, List.setIfInBounds_toArray, List.set_cons_zero, List.set_cons_succ])
                          refine wpAnyH_take (i := 15) (oi := { dst := some 161, op := Op.move (.tmp 11), type := 2, pos := "laws.go:473", after := #[⟨9, .guard⟩], guard := some (9, true) }) (v := undef) rfl (by kernel_rfl) (by kernel_rfl) (by kernel_rfl) (fun _ _ _ h => h) (Or.inr ⟨by rfl, rfl⟩) (by assumption) ?_
                          (try simp only [Act.put, List.setIfInBounds_toArray, List.set_cons_zero, List.set_cons_succ])
                          refine wpAnyH_take (i := 16) (oi := { dst := some 162, op := Op.binOp BinOp.eql 2 (.tmp 160) (.tmp 161) 2, type := 4, pos := "laws.go:473", after := #[⟨14, .data⟩, ⟨15, .data⟩, ⟨9, .guard⟩], guard := some (9, true) }) (v := undef) rfl (by kernel_rfl) (by kernel_rfl) (by kernel_rfl) (fun _ _ _ h => h) (Or.inr ⟨by rfl, rfl⟩) (by assumption) ?_
                          (try simp only [Act.put, List.setIfInBounds_toArray, List.set_cons_zero, List.set_cons_succ])
                          refine wpAnyH_take (i := 17) (oi := { dst := some 163, op := Op.pick (.tmp 155) (.tmp 162) (Operand.const (Value.bool false)), type := 4, pos := "laws.go:473", after := #[⟨9, .data⟩, ⟨16, .data⟩, ⟨1, .guard⟩], guard := some (1, false) }) (v := undef) rfl (by kernel_rfl) (by kernel_rfl) (by kernel_rfl) (fun _ _ _ h => h) (Or.inr ⟨by rfl, rfl⟩) (by assumption) ?_
                          (try simp only [Act.put, List.setIfInBounds_toArray, List.set_cons_zero, List.set_cons_succ])
                          refine wpAnyH_take (i := 18) (oi := { dst := some 164, op := Op.move (.tmp 163), type := 4, pos := "laws.go:473", after := #[⟨17, .data⟩, ⟨9, .chain⟩, ⟨1, .guard⟩], guard := some (1, false) }) (v := undef) rfl (by kernel_rfl) (by kernel_rfl) (by kernel_rfl) (fun _ _ _ h => h) (Or.inr ⟨by rfl, rfl⟩) (by assumption) ?_
                          (try simp only [Act.put, List.setIfInBounds_toArray, List.set_cons_zero, List.set_cons_succ])
                          refine wpAnyH_take (i := 19) (oi := { dst := some 165, op := Op.move (.tmp 17), type := 25, pos := "laws.go:473", after := #[⟨18, .guard⟩], guard := some (18, true) }) (v := undef) rfl (by kernel_rfl) (by kernel_rfl) (by kernel_rfl) (fun _ _ _ h => h) (Or.inr ⟨by rfl, rfl⟩) (by assumption) ?_
                          (try simp only [Act.put, List.setIfInBounds_toArray, List.set_cons_zero, List.set_cons_succ])
                          refine wpAnyH_take (i := 20) (oi := { dst := some 166, op := Op.move (.tmp 18), type := 3, pos := "laws.go:473", after := #[⟨18, .guard⟩], guard := some (18, true) }) (v := undef) rfl (by kernel_rfl) (by kernel_rfl) (by kernel_rfl) (fun _ _ _ h => h) (Or.inr ⟨by rfl, rfl⟩) (by assumption) ?_
                          (try simp only [Act.put, List.setIfInBounds_toArray, List.set_cons_zero, List.set_cons_succ])
                          refine wpAnyH_take (i := 21) (oi := { dst := some 167, op := Op.indexAddr 25 (.tmp 165) (.tmp 166), type := 0, pos := "laws.go:473", after := #[⟨19, .data⟩, ⟨20, .data⟩, ⟨18, .guard⟩], guard := some (18, true) }) (v := undef) rfl (by kernel_rfl) (by kernel_rfl) (by kernel_rfl) (fun _ _ _ h => h) (Or.inr ⟨by rfl, rfl⟩) (by assumption) ?_
                          (try simp only [Act.put, List.setIfInBounds_toArray, List.set_cons_zero, List.set_cons_succ])
                          refine wpAnyH_take (i := 22) (oi := { dst := some 168, op := Op.fieldAddr 38 (.tmp 167) 2, type := 0, pos := "laws.go:473", after := #[⟨21, .data⟩, ⟨18, .guard⟩], guard := some (18, true) }) (v := undef) rfl (by kernel_rfl) (by kernel_rfl) (by kernel_rfl) (fun _ _ _ h => h) (Or.inr ⟨by rfl, rfl⟩) (by assumption) ?_
                          (try simp only [Act.put, List.setIfInBounds_toArray, List.set_cons_zero, List.set_cons_succ])
                          refine wpAnyH_take (i := 23) (oi := { dst := some 169, op := Op.load 2 (.tmp 168), type := 2, pos := "laws.go:473", after := #[⟨22, .data⟩, ⟨18, .guard⟩], guard := some (18, true) }) (v := undef) rfl (by kernel_rfl) (by kernel_rfl) (by kernel_rfl) (fun _ _ _ h => h) (Or.inr ⟨by rfl, rfl⟩) (by assumption) ?_
                          (try simp only [Act.put, List.setIfInBounds_toArray, List.set_cons_zero, List.set_cons_succ])
                          refine wpAnyH_take (i := 24) (oi := { dst := some 170, op := Op.fieldAddr 32 (.tmp 6) 1, type := 0, pos := "laws.go:473", after := #[⟨18, .guard⟩], guard := some (18, true) }) (v := undef) rfl (by kernel_rfl) (by kernel_rfl) (by kernel_rfl) (fun _ _ _ h => h) (Or.inr ⟨by rfl, rfl⟩) (by assumption) ?_
                          (try simp only [Act.put, List.setIfInBounds_toArray, List.set_cons_zero, List.set_cons_succ])
                          refine wpAnyH_take (i := 25) (oi := { dst := some 171, op := Op.load 26 (.tmp 170), type := 26, pos := "laws.go:473", after := #[⟨24, .data⟩, ⟨18, .guard⟩], guard := some (18, true) }) (v := undef) rfl (by kernel_rfl) (by kernel_rfl) (by kernel_rfl) (fun _ _ _ h => h) (Or.inr ⟨by rfl, rfl⟩) (by assumption) ?_
                          (try simp only [Act.put, List.setIfInBounds_toArray, List.set_cons_zero, List.set_cons_succ])
                          refine wpAnyH_take (i := 26) (oi := { dst := some 172, op := Op.move (.tmp 10), type := 2, pos := "laws.go:473", after := #[⟨18, .guard⟩], guard := some (18, true) }) (v := undef) rfl (by kernel_rfl) (by kernel_rfl) (by kernel_rfl) (fun _ _ _ h => h) (Or.inr ⟨by rfl, rfl⟩) (by assumption) ?_
                          (try simp only [Act.put, List.setIfInBounds_toArray, List.set_cons_zero, List.set_cons_succ])
                          refine wpAnyH_take (i := 27) (oi := { dst := some 173, op := Op.binOp BinOp.sub 2 (.tmp 172) (Operand.const (Value.int IntKind.i64 1)) 2, type := 2, pos := "laws.go:473", after := #[⟨26, .data⟩, ⟨18, .guard⟩], guard := some (18, true) }) (v := undef) rfl (by kernel_rfl) (by kernel_rfl) (by kernel_rfl) (fun _ _ _ h => h) (Or.inr ⟨by rfl, rfl⟩) (by assumption) ?_
                          (try simp only [Act.put, List.setIfInBounds_toArray, List.set_cons_zero, List.set_cons_succ])
                          refine wpAnyH_take (i := 28) (oi := { dst := some 174, op := Op.indexAddr 26 (.tmp 171) (.tmp 173), type := 0, pos := "laws.go:473", after := #[⟨25, .data⟩, ⟨27, .data⟩, ⟨18, .guard⟩], guard := some (18, true) }) (v := undef) rfl (by kernel_rfl) (by kernel_rfl) (by kernel_rfl) (fun _ _ _ h => h) (Or.inr ⟨by rfl, rfl⟩) (by assumption) ?_
                          (try simp only [Act.put, List.setIfInBounds_toArray, List.set_cons_zero, List.set_cons_succ])
                          refine wpAnyH_take (i := 29) (oi := { dst := some 175, op := Op.load 2 (.tmp 174), type := 2, pos := "laws.go:473", after := #[⟨28, .data⟩, ⟨18, .guard⟩], guard := some (18, true) }) (v := undef) rfl (by kernel_rfl) (by kernel_rfl) (by kernel_rfl) (fun _ _ _ h => h) (Or.inr ⟨by rfl, rfl⟩) (by assumption) ?_
                          (try simp only [Act.put, List.setIfInBounds_toArray, List.set_cons_zero, List.set_cons_succ])
                          refine wpAnyH_take (i := 30) (oi := { dst := some 176, op := Op.binOp BinOp.eql 2 (.tmp 169) (.tmp 175) 2, type := 4, pos := "laws.go:473", after := #[⟨23, .data⟩, ⟨29, .data⟩, ⟨18, .guard⟩], guard := some (18, true) }) (v := undef) rfl (by kernel_rfl) (by kernel_rfl) (by kernel_rfl) (fun _ _ _ h => h) (Or.inr ⟨by rfl, rfl⟩) (by assumption) ?_
                          (try simp only [Act.put, List.setIfInBounds_toArray, List.set_cons_zero, List.set_cons_succ])
                          refine wpAnyH_take (i := 31) (oi := { dst := some 177, op := Op.pick (.tmp 164) (.tmp 176) (Operand.const (Value.bool false)), type := 4, pos := "laws.go:473", after := #[⟨18, .data⟩, ⟨30, .data⟩, ⟨1, .guard⟩], guard := some (1, false) }) (v := undef) rfl (by kernel_rfl) (by kernel_rfl) (by kernel_rfl) (fun _ _ _ h => h) (Or.inr ⟨by rfl, rfl⟩) (by assumption) ?_
                          (try simp only [Act.put, List.setIfInBounds_toArray, List.set_cons_zero, List.set_cons_succ])
                          refine wpAnyH_take (i := 32) (oi := { dst := some 178, op := Op.pick (.tmp 147) (Operand.const (Value.bool true)) (.tmp 177), type := 4, pos := "laws.go:473", after := #[⟨1, .data⟩, ⟨31, .data⟩], guard := none }) (v := ?_) rfl (by kernel_rfl) (by kernel_rfl) (by kernel_rfl) (fun _ _ _ h => h) (Or.inl ⟨by rfl, ?_⟩) (by assumption) ?_
                          rotate_left
                          · intro w' hSw; (try dsimp only at hSw); go_simp; try with_reducible rfl
                          (try simp only [Act.put, List.setIfInBounds_toArray, List.set_cons_zero, List.set_cons_succ])
                          refine wpAnyH_take (i := 33) (oi := { dst := some 12, op := Op.assign (.tmp 178), type := 4, pos := "laws.go:473", after := #[⟨32, .data⟩, ⟨18, .chain⟩, ⟨0, .phase⟩, ⟨1, .phase⟩, ⟨2, .phase⟩, ⟨3, .phase⟩, ⟨4, .phase⟩, ⟨5, .phase⟩, ⟨6, .phase⟩, ⟨7, .phase⟩, ⟨8, .phase⟩, ⟨9, .phase⟩, ⟨10, .phase⟩, ⟨11, .phase⟩, ⟨12, .phase⟩, ⟨13, .phase⟩, ⟨14, .phase⟩, ⟨15, .phase⟩, ⟨16, .phase⟩, ⟨17, .phase⟩, ⟨18, .phase⟩, ⟨19, .phase⟩, ⟨20, .phase⟩, ⟨21, .phase⟩, ⟨22, .phase⟩, ⟨23, .phase⟩, ⟨24, .phase⟩, ⟨25, .phase⟩, ⟨26, .phase⟩, ⟨27, .phase⟩, ⟨28, .phase⟩, ⟨29, .phase⟩, ⟨30, .phase⟩, ⟨31, .phase⟩, ⟨32, .phase⟩], guard := none }) (v := ?_) rfl (by kernel_rfl) (by kernel_rfl) (by kernel_rfl) (fun _ _ _ h => h) (Or.inl ⟨by rfl, ?_⟩) (by assumption) ?_
                          rotate_left
                          · intro w' hSw; (try dsimp only at hSw); go_simp; try with_reducible rfl
                          (try simp only [Act.put, List.setIfInBounds_toArray, List.set_cons_zero, List.set_cons_succ])
                          refine wpAnyH_done (by kernel_rfl) ?_ _
                          go_wp2
                          exact ⟨⟨j + 1, true, by omega, by go_num, rfl, HF, HE2.out.drew⟩, by simp [intOf]; omega⟩
                        | false =>
                          by_cases q1 : c.slot = ((s : Int) + 1)
                          · have g1 : (c.slot == ((s : Int) + 1)) = true := by simpa using q1
                            by_cases q2 : c.view = bb
                            · have g2 : (c.view == bb) = true := by simpa using q2
                              by_cases q3 : c.value = v
                              · have g3 : (c.value == v) = true := by simpa using q3
                                have HF : Hid (true = ((v == 0) || Msg.hit ((s : Int) + 1) bb v (Msg.cat ms (refs.take k) ++ z.certs.take (j + 1)))) := by show _ = _; rw [HSt.out, Bool.false_or, decide_eq_true q1, decide_eq_true q2, decide_eq_true q3]; rfl
                                clear HSt
                                go_wp2
                                refine wp_region_held_drew (S := (fun W' : World => W'.cell? ⟨b9, o9 + j * 3, none⟩ = some (.int .i64 c.slot) ∧ W'.cell? ⟨b9, o9 + j * 3 + 1, none⟩ = some (.int .i64 c.view) ∧ W'.cell? ⟨b9, o9 + j * 3 + 2, none⟩ = some (.int .i64 c.value) ∧ W'.cell? ⟨L, 1, none⟩ = some (.slice (some ⟨b8, o8, none⟩) rs.length cap2) ∧ W'.cell? ⟨b8, o8 + s, none⟩ = some (.int .i64 v))) (by kernel_rfl) (HS37.out _ ((Ext.refl _).drew)) (fun hHeld => ?_)
                                refine wpAnyH_take (i := 0) (oi := { dst := some 146, op := Op.move (.tmp 12), type := 4, pos := "laws.go:473", after := #[], guard := none }) (v := ?_) rfl (by kernel_rfl) (by kernel_rfl) (by kernel_rfl) (fun _ _ _ h => h) (Or.inl ⟨by rfl, ?_⟩) (by assumption) ?_
                                rotate_left
                                · intro w' hSw; (try dsimp only at hSw); go_simp; try with_reducible rfl
                                (try simp only [Act.put, List.setIfInBounds_toArray, List.set_cons_zero, List.set_cons_succ])
                                refine wpAnyH_take (i := 1) (oi := { dst := some 147, op := Op.move (.tmp 146), type := 4, pos := "laws.go:473", after := #[⟨0, .data⟩], guard := none }) (v := ?_) rfl (by kernel_rfl) (by kernel_rfl) (by kernel_rfl) (fun _ _ _ h => h) (Or.inl ⟨by rfl, ?_⟩) (by assumption) ?_
                                rotate_left
                                · intro w' hSw; (try dsimp only at hSw); go_simp; try with_reducible rfl
                                (try simp only [Act.put, List.setIfInBounds_toArray, List.set_cons_zero, List.set_cons_succ])
                                refine wpAnyH_take (i := 2) (oi := { dst := some 148, op := Op.move (.tmp 17), type := 25, pos := "laws.go:473", after := #[⟨1, .guard⟩], guard := some (1, false) }) (v := ?_) rfl (by kernel_rfl) (by kernel_rfl) (by kernel_rfl) (fun _ _ _ h => h) (Or.inl ⟨by rfl, ?_⟩) (by assumption) ?_
                                rotate_left
                                · intro w' hSw; (try dsimp only at hSw); go_simp; try with_reducible rfl
                                (try simp only [Act.put, List.setIfInBounds_toArray, List.set_cons_zero, List.set_cons_succ])
                                refine wpAnyH_take (i := 3) (oi := { dst := some 149, op := Op.move (.tmp 18), type := 3, pos := "laws.go:473", after := #[⟨1, .guard⟩], guard := some (1, false) }) (v := ?_) rfl (by kernel_rfl) (by kernel_rfl) (by kernel_rfl) (fun _ _ _ h => h) (Or.inl ⟨by rfl, ?_⟩) (by assumption) ?_
                                rotate_left
                                · intro w' hSw; (try dsimp only at hSw); go_simp; try with_reducible rfl
                                (try simp only [Act.put, List.setIfInBounds_toArray, List.set_cons_zero, List.set_cons_succ])
                                refine wpAnyH_take (i := 4) (oi := { dst := some 150, op := Op.indexAddr 25 (.tmp 148) (.tmp 149), type := 0, pos := "laws.go:473", after := #[⟨2, .data⟩, ⟨3, .data⟩, ⟨1, .guard⟩], guard := some (1, false) }) (v := ?_) rfl (by kernel_rfl) (by kernel_rfl) (by kernel_rfl) (fun _ _ _ h => h) (Or.inl ⟨by rfl, ?_⟩) (by assumption) ?_
                                rotate_left
                                · intro w' hSw; (try dsimp only at hSw); go_simp; try with_reducible rfl
                                (try simp only [Act.put, List.setIfInBounds_toArray, List.set_cons_zero, List.set_cons_succ])
                                refine wpAnyH_take (i := 5) (oi := { dst := some 151, op := Op.fieldAddr 38 (.tmp 150) 0, type := 0, pos := "laws.go:473", after := #[⟨4, .data⟩, ⟨1, .guard⟩], guard := some (1, false) }) (v := ?_) rfl (by kernel_rfl) (by kernel_rfl) (by kernel_rfl) (fun _ _ _ h => h) (Or.inl ⟨by rfl, ?_⟩) (by assumption) ?_
                                rotate_left
                                · intro w' hSw; (try dsimp only at hSw); go_simp; try with_reducible rfl
                                (try simp only [Act.put, List.setIfInBounds_toArray, List.set_cons_zero, List.set_cons_succ])
                                refine wpAnyH_take (i := 6) (oi := { dst := some 152, op := Op.load 2 (.tmp 151), type := 2, pos := "laws.go:473", after := #[⟨5, .data⟩, ⟨1, .guard⟩], guard := some (1, false) }) (v := ?_) rfl (by kernel_rfl) (by kernel_rfl) (by kernel_rfl) (fun _ _ _ h => h) (Or.inl ⟨by rfl, ?_⟩) (by assumption) ?_
                                rotate_left
                                · intro w' hSw; (try dsimp only at hSw); go_simp; try with_reducible rfl
                                (try simp only [Act.put, List.setIfInBounds_toArray, List.set_cons_zero, List.set_cons_succ])
                                refine wpAnyH_take (i := 7) (oi := { dst := some 153, op := Op.move (.tmp 10), type := 2, pos := "laws.go:473", after := #[⟨1, .guard⟩], guard := some (1, false) }) (v := ?_) rfl (by kernel_rfl) (by kernel_rfl) (by kernel_rfl) (fun _ _ _ h => h) (Or.inl ⟨by rfl, ?_⟩) (by assumption) ?_
                                rotate_left
                                · intro w' hSw; (try dsimp only at hSw); go_simp; try with_reducible rfl
                                (try simp only [Act.put, List.setIfInBounds_toArray, List.set_cons_zero, List.set_cons_succ])
                                refine wpAnyH_take (i := 8) (oi := { dst := some 154, op := Op.binOp BinOp.eql 2 (.tmp 152) (.tmp 153) 2, type := 4, pos := "laws.go:473", after := #[⟨6, .data⟩, ⟨7, .data⟩, ⟨1, .guard⟩], guard := some (1, false) }) (v := ?_) rfl (by kernel_rfl) (by kernel_rfl) (by kernel_rfl) (fun _ _ _ h => h) (Or.inl ⟨by rfl, ?_⟩) (by assumption) ?_
                                rotate_left
                                · intro w' hSw; (try dsimp only at hSw); go_simp; try with_reducible rfl
                                (try simp only [Act.put, List.setIfInBounds_toArray, List.set_cons_zero, List.set_cons_succ])
                                (try rw [g1])
                                refine wpAnyH_take (i := 9) (oi := { dst := some 155, op := Op.move (.tmp 154), type := 4, pos := "laws.go:473", after := #[⟨8, .data⟩, ⟨1, .chain⟩, ⟨1, .guard⟩], guard := some (1, false) }) (v := ?_) rfl (by kernel_rfl) (by kernel_rfl) (by kernel_rfl) (fun _ _ _ h => h) (Or.inl ⟨by rfl, ?_⟩) (by assumption) ?_
                                rotate_left
                                · intro w' hSw; (try dsimp only at hSw); go_simp; try with_reducible rfl
                                (try simp only [Act.put, List.setIfInBounds_toArray, List.set_cons_zero, List.set_cons_succ])
                                refine wpAnyH_take (i := 10) (oi := { dst := some 156, op := Op.move (.tmp 17), type := 25, pos := "laws.go:473", after := #[⟨9, .guard⟩], guard := some (9, true) }) (v := ?_) rfl (by kernel_rfl) (by kernel_rfl) (by kernel_rfl) (fun _ _ _ h => h) (Or.inl ⟨by rfl, ?_⟩) (by assumption) ?_
                                rotate_left
                                · intro w' hSw; (try dsimp only at hSw); go_simp; try with_reducible rfl
                                (try simp only [Act.put, List.setIfInBounds_toArray, List.set_cons_zero, List.set_cons_succ])
                                refine wpAnyH_take (i := 11) (oi := { dst := some 157, op := Op.move (.tmp 18), type := 3, pos := "laws.go:473", after := #[⟨9, .guard⟩], guard := some (9, true) }) (v := ?_) rfl (by kernel_rfl) (by kernel_rfl) (by kernel_rfl) (fun _ _ _ h => h) (Or.inl ⟨by rfl, ?_⟩) (by assumption) ?_
                                rotate_left
                                · intro w' hSw; (try dsimp only at hSw); go_simp; try with_reducible rfl
                                (try simp only [Act.put, List.setIfInBounds_toArray, List.set_cons_zero, List.set_cons_succ])
                                refine wpAnyH_take (i := 12) (oi := { dst := some 158, op := Op.indexAddr 25 (.tmp 156) (.tmp 157), type := 0, pos := "laws.go:473", after := #[⟨10, .data⟩, ⟨11, .data⟩, ⟨9, .guard⟩], guard := some (9, true) }) (v := ?_) rfl (by kernel_rfl) (by kernel_rfl) (by kernel_rfl) (fun _ _ _ h => h) (Or.inl ⟨by rfl, ?_⟩) (by assumption) ?_
                                rotate_left
                                · intro w' hSw; (try dsimp only at hSw); go_simp; try with_reducible rfl
                                (try simp only [Act.put, List.setIfInBounds_toArray, List.set_cons_zero, List.set_cons_succ])
                                refine wpAnyH_take (i := 13) (oi := { dst := some 159, op := Op.fieldAddr 38 (.tmp 158) 1, type := 0, pos := "laws.go:473", after := #[⟨12, .data⟩, ⟨9, .guard⟩], guard := some (9, true) }) (v := ?_) rfl (by kernel_rfl) (by kernel_rfl) (by kernel_rfl) (fun _ _ _ h => h) (Or.inl ⟨by rfl, ?_⟩) (by assumption) ?_
                                rotate_left
                                · intro w' hSw; (try dsimp only at hSw); go_simp; try with_reducible rfl
                                (try simp only [Act.put, List.setIfInBounds_toArray, List.set_cons_zero, List.set_cons_succ])
                                refine wpAnyH_take (i := 14) (oi := { dst := some 160, op := Op.load 2 (.tmp 159), type := 2, pos := "laws.go:473", after := #[⟨13, .data⟩, ⟨9, .guard⟩], guard := some (9, true) }) (v := ?_) rfl (by kernel_rfl) (by kernel_rfl) (by kernel_rfl) (fun _ _ _ h => h) (Or.inl ⟨by rfl, ?_⟩) (by assumption) ?_
                                rotate_left
                                · intro w' hSw; (try dsimp only at hSw); go_simp; try with_reducible rfl
                                (try simp only [Act.put, List.setIfInBounds_toArray, List.set_cons_zero, List.set_cons_succ])
                                refine wpAnyH_take (i := 15) (oi := { dst := some 161, op := Op.move (.tmp 11), type := 2, pos := "laws.go:473", after := #[⟨9, .guard⟩], guard := some (9, true) }) (v := ?_) rfl (by kernel_rfl) (by kernel_rfl) (by kernel_rfl) (fun _ _ _ h => h) (Or.inl ⟨by rfl, ?_⟩) (by assumption) ?_
                                rotate_left
                                · intro w' hSw; (try dsimp only at hSw); go_simp; try with_reducible rfl
                                (try simp only [Act.put, List.setIfInBounds_toArray, List.set_cons_zero, List.set_cons_succ])
                                refine wpAnyH_take (i := 16) (oi := { dst := some 162, op := Op.binOp BinOp.eql 2 (.tmp 160) (.tmp 161) 2, type := 4, pos := "laws.go:473", after := #[⟨14, .data⟩, ⟨15, .data⟩, ⟨9, .guard⟩], guard := some (9, true) }) (v := ?_) rfl (by kernel_rfl) (by kernel_rfl) (by kernel_rfl) (fun _ _ _ h => h) (Or.inl ⟨by rfl, ?_⟩) (by assumption) ?_
                                rotate_left
                                · intro w' hSw; (try dsimp only at hSw); go_simp; try with_reducible rfl
                                (try simp only [Act.put, List.setIfInBounds_toArray, List.set_cons_zero, List.set_cons_succ])
                                (try rw [g2])
                                refine wpAnyH_take (i := 17) (oi := { dst := some 163, op := Op.pick (.tmp 155) (.tmp 162) (Operand.const (Value.bool false)), type := 4, pos := "laws.go:473", after := #[⟨9, .data⟩, ⟨16, .data⟩, ⟨1, .guard⟩], guard := some (1, false) }) (v := ?_) rfl (by kernel_rfl) (by kernel_rfl) (by kernel_rfl) (fun _ _ _ h => h) (Or.inl ⟨by rfl, ?_⟩) (by assumption) ?_
                                rotate_left
                                · intro w' hSw; (try dsimp only at hSw); go_simp; try with_reducible rfl
                                (try simp only [Act.put, List.setIfInBounds_toArray, List.set_cons_zero, List.set_cons_succ])
                                refine wpAnyH_take (i := 18) (oi := { dst := some 164, op := Op.move (.tmp 163), type := 4, pos := "laws.go:473", after := #[⟨17, .data⟩, ⟨9, .chain⟩, ⟨1, .guard⟩], guard := some (1, false) }) (v := ?_) rfl (by kernel_rfl) (by kernel_rfl) (by kernel_rfl) (fun _ _ _ h => h) (Or.inl ⟨by rfl, ?_⟩) (by assumption) ?_
                                rotate_left
                                · intro w' hSw; (try dsimp only at hSw); go_simp; try with_reducible rfl
                                (try simp only [Act.put, List.setIfInBounds_toArray, List.set_cons_zero, List.set_cons_succ])
                                refine wpAnyH_take (i := 19) (oi := { dst := some 165, op := Op.move (.tmp 17), type := 25, pos := "laws.go:473", after := #[⟨18, .guard⟩], guard := some (18, true) }) (v := ?_) rfl (by kernel_rfl) (by kernel_rfl) (by kernel_rfl) (fun _ _ _ h => h) (Or.inl ⟨by rfl, ?_⟩) (by assumption) ?_
                                rotate_left
                                · intro w' hSw; (try dsimp only at hSw); go_simp; try with_reducible rfl
                                (try simp only [Act.put, List.setIfInBounds_toArray, List.set_cons_zero, List.set_cons_succ])
                                refine wpAnyH_take (i := 20) (oi := { dst := some 166, op := Op.move (.tmp 18), type := 3, pos := "laws.go:473", after := #[⟨18, .guard⟩], guard := some (18, true) }) (v := ?_) rfl (by kernel_rfl) (by kernel_rfl) (by kernel_rfl) (fun _ _ _ h => h) (Or.inl ⟨by rfl, ?_⟩) (by assumption) ?_
                                rotate_left
                                · intro w' hSw; (try dsimp only at hSw); go_simp; try with_reducible rfl
                                (try simp only [Act.put, List.setIfInBounds_toArray, List.set_cons_zero, List.set_cons_succ])
                                refine wpAnyH_take (i := 21) (oi := { dst := some 167, op := Op.indexAddr 25 (.tmp 165) (.tmp 166), type := 0, pos := "laws.go:473", after := #[⟨19, .data⟩, ⟨20, .data⟩, ⟨18, .guard⟩], guard := some (18, true) }) (v := ?_) rfl (by kernel_rfl) (by kernel_rfl) (by kernel_rfl) (fun _ _ _ h => h) (Or.inl ⟨by rfl, ?_⟩) (by assumption) ?_
                                rotate_left
                                · intro w' hSw; (try dsimp only at hSw); go_simp; try with_reducible rfl
                                (try simp only [Act.put, List.setIfInBounds_toArray, List.set_cons_zero, List.set_cons_succ])
                                refine wpAnyH_take (i := 22) (oi := { dst := some 168, op := Op.fieldAddr 38 (.tmp 167) 2, type := 0, pos := "laws.go:473", after := #[⟨21, .data⟩, ⟨18, .guard⟩], guard := some (18, true) }) (v := ?_) rfl (by kernel_rfl) (by kernel_rfl) (by kernel_rfl) (fun _ _ _ h => h) (Or.inl ⟨by rfl, ?_⟩) (by assumption) ?_
                                rotate_left
                                · intro w' hSw; (try dsimp only at hSw); go_simp; try with_reducible rfl
                                (try simp only [Act.put, List.setIfInBounds_toArray, List.set_cons_zero, List.set_cons_succ])
                                refine wpAnyH_take (i := 23) (oi := { dst := some 169, op := Op.load 2 (.tmp 168), type := 2, pos := "laws.go:473", after := #[⟨22, .data⟩, ⟨18, .guard⟩], guard := some (18, true) }) (v := ?_) rfl (by kernel_rfl) (by kernel_rfl) (by kernel_rfl) (fun _ _ _ h => h) (Or.inl ⟨by rfl, ?_⟩) (by assumption) ?_
                                rotate_left
                                · intro w' hSw; (try dsimp only at hSw); go_simp; try with_reducible rfl
                                (try simp only [Act.put, List.setIfInBounds_toArray, List.set_cons_zero, List.set_cons_succ])
                                refine wpAnyH_take (i := 24) (oi := { dst := some 170, op := Op.fieldAddr 32 (.tmp 6) 1, type := 0, pos := "laws.go:473", after := #[⟨18, .guard⟩], guard := some (18, true) }) (v := ?_) rfl (by kernel_rfl) (by kernel_rfl) (by kernel_rfl) (fun _ _ _ h => h) (Or.inl ⟨by rfl, ?_⟩) (by assumption) ?_
                                rotate_left
                                · intro w' hSw; (try dsimp only at hSw); go_simp; try with_reducible rfl
                                (try simp only [Act.put, List.setIfInBounds_toArray, List.set_cons_zero, List.set_cons_succ])
                                refine wpAnyH_take (i := 25) (oi := { dst := some 171, op := Op.load 26 (.tmp 170), type := 26, pos := "laws.go:473", after := #[⟨24, .data⟩, ⟨18, .guard⟩], guard := some (18, true) }) (v := ?_) rfl (by kernel_rfl) (by kernel_rfl) (by kernel_rfl) (fun _ _ _ h => h) (Or.inl ⟨by rfl, ?_⟩) (by assumption) ?_
                                rotate_left
                                · intro w' hSw; (try dsimp only at hSw); go_simp; try with_reducible rfl
                                (try simp only [Act.put, List.setIfInBounds_toArray, List.set_cons_zero, List.set_cons_succ])
                                refine wpAnyH_take (i := 26) (oi := { dst := some 172, op := Op.move (.tmp 10), type := 2, pos := "laws.go:473", after := #[⟨18, .guard⟩], guard := some (18, true) }) (v := ?_) rfl (by kernel_rfl) (by kernel_rfl) (by kernel_rfl) (fun _ _ _ h => h) (Or.inl ⟨by rfl, ?_⟩) (by assumption) ?_
                                rotate_left
                                · intro w' hSw; (try dsimp only at hSw); go_simp; try with_reducible rfl
                                (try simp only [Act.put, List.setIfInBounds_toArray, List.set_cons_zero, List.set_cons_succ])
                                refine wpAnyH_take (i := 27) (oi := { dst := some 173, op := Op.binOp BinOp.sub 2 (.tmp 172) (Operand.const (Value.int IntKind.i64 1)) 2, type := 2, pos := "laws.go:473", after := #[⟨26, .data⟩, ⟨18, .guard⟩], guard := some (18, true) }) (v := ?_) rfl (by kernel_rfl) (by kernel_rfl) (by kernel_rfl) (fun _ _ _ h => h) (Or.inl ⟨by rfl, ?_⟩) (by assumption) ?_
                                rotate_left
                                · intro w' hSw; (try dsimp only at hSw); go_simp; try with_reducible rfl
                                (try simp only [Act.put, List.setIfInBounds_toArray, List.set_cons_zero, List.set_cons_succ])
                                refine wpAnyH_take (i := 28) (oi := { dst := some 174, op := Op.indexAddr 26 (.tmp 171) (.tmp 173), type := 0, pos := "laws.go:473", after := #[⟨25, .data⟩, ⟨27, .data⟩, ⟨18, .guard⟩], guard := some (18, true) }) (v := ?_) rfl (by kernel_rfl) (by kernel_rfl) (by kernel_rfl) (fun _ _ _ h => h) (Or.inl ⟨by rfl, ?_⟩) (by assumption) ?_
                                rotate_left
                                · intro w' hSw; (try dsimp only at hSw); go_simp; try with_reducible rfl
                                (try simp only [Act.put, List.setIfInBounds_toArray, List.set_cons_zero, List.set_cons_succ])
                                refine wpAnyH_take (i := 29) (oi := { dst := some 175, op := Op.load 2 (.tmp 174), type := 2, pos := "laws.go:473", after := #[⟨28, .data⟩, ⟨18, .guard⟩], guard := some (18, true) }) (v := ?_) rfl (by kernel_rfl) (by kernel_rfl) (by kernel_rfl) (fun _ _ _ h => h) (Or.inl ⟨by rfl, ?_⟩) (by assumption) ?_
                                rotate_left
                                · intro w' hSw; (try dsimp only at hSw); go_simp; try with_reducible rfl
                                (try simp only [Act.put, List.setIfInBounds_toArray, List.set_cons_zero, List.set_cons_succ])
                                refine wpAnyH_take (i := 30) (oi := { dst := some 176, op := Op.binOp BinOp.eql 2 (.tmp 169) (.tmp 175) 2, type := 4, pos := "laws.go:473", after := #[⟨23, .data⟩, ⟨29, .data⟩, ⟨18, .guard⟩], guard := some (18, true) }) (v := ?_) rfl (by kernel_rfl) (by kernel_rfl) (by kernel_rfl) (fun _ _ _ h => h) (Or.inl ⟨by rfl, ?_⟩) (by assumption) ?_
                                rotate_left
                                · intro w' hSw; (try dsimp only at hSw); go_simp; try with_reducible rfl
                                (try simp only [Act.put, List.setIfInBounds_toArray, List.set_cons_zero, List.set_cons_succ])
                                (try rw [g3])
                                refine wpAnyH_take (i := 31) (oi := { dst := some 177, op := Op.pick (.tmp 164) (.tmp 176) (Operand.const (Value.bool false)), type := 4, pos := "laws.go:473", after := #[⟨18, .data⟩, ⟨30, .data⟩, ⟨1, .guard⟩], guard := some (1, false) }) (v := ?_) rfl (by kernel_rfl) (by kernel_rfl) (by kernel_rfl) (fun _ _ _ h => h) (Or.inl ⟨by rfl, ?_⟩) (by assumption) ?_
                                rotate_left
                                · intro w' hSw; (try dsimp only at hSw); go_simp; try with_reducible rfl
                                (try simp only [Act.put, List.setIfInBounds_toArray, List.set_cons_zero, List.set_cons_succ])
                                refine wpAnyH_take (i := 32) (oi := { dst := some 178, op := Op.pick (.tmp 147) (Operand.const (Value.bool true)) (.tmp 177), type := 4, pos := "laws.go:473", after := #[⟨1, .data⟩, ⟨31, .data⟩], guard := none }) (v := ?_) rfl (by kernel_rfl) (by kernel_rfl) (by kernel_rfl) (fun _ _ _ h => h) (Or.inl ⟨by rfl, ?_⟩) (by assumption) ?_
                                rotate_left
                                · intro w' hSw; (try dsimp only at hSw); go_simp; try with_reducible rfl
                                (try simp only [Act.put, List.setIfInBounds_toArray, List.set_cons_zero, List.set_cons_succ])
                                refine wpAnyH_take (i := 33) (oi := { dst := some 12, op := Op.assign (.tmp 178), type := 4, pos := "laws.go:473", after := #[⟨32, .data⟩, ⟨18, .chain⟩, ⟨0, .phase⟩, ⟨1, .phase⟩, ⟨2, .phase⟩, ⟨3, .phase⟩, ⟨4, .phase⟩, ⟨5, .phase⟩, ⟨6, .phase⟩, ⟨7, .phase⟩, ⟨8, .phase⟩, ⟨9, .phase⟩, ⟨10, .phase⟩, ⟨11, .phase⟩, ⟨12, .phase⟩, ⟨13, .phase⟩, ⟨14, .phase⟩, ⟨15, .phase⟩, ⟨16, .phase⟩, ⟨17, .phase⟩, ⟨18, .phase⟩, ⟨19, .phase⟩, ⟨20, .phase⟩, ⟨21, .phase⟩, ⟨22, .phase⟩, ⟨23, .phase⟩, ⟨24, .phase⟩, ⟨25, .phase⟩, ⟨26, .phase⟩, ⟨27, .phase⟩, ⟨28, .phase⟩, ⟨29, .phase⟩, ⟨30, .phase⟩, ⟨31, .phase⟩, ⟨32, .phase⟩], guard := none }) (v := ?_) rfl (by kernel_rfl) (by kernel_rfl) (by kernel_rfl) (fun _ _ _ h => h) (Or.inl ⟨by rfl, ?_⟩) (by assumption) ?_
                                rotate_left
                                · intro w' hSw; (try dsimp only at hSw); go_simp; try with_reducible rfl
                                (try simp only [Act.put, List.setIfInBounds_toArray, List.set_cons_zero, List.set_cons_succ])
                                refine wpAnyH_done (by kernel_rfl) ?_ _
                                go_wp2
                                exact ⟨⟨j + 1, true, by omega, by go_num, rfl, HF, HE2.out.drew⟩, by simp [intOf]; omega⟩
                              · have g3 : (c.value == v) = false := by simpa using q3
                                have HF : Hid (false = ((v == 0) || Msg.hit ((s : Int) + 1) bb v (Msg.cat ms (refs.take k) ++ z.certs.take (j + 1)))) := by show _ = _; rw [HSt.out, Bool.false_or, decide_eq_true q1, decide_eq_true q2, decide_eq_false q3]; rfl
                                clear HSt
                                go_wp2
                                refine wp_region_held_drew (S := (fun W' : World => W'.cell? ⟨b9, o9 + j * 3, none⟩ = some (.int .i64 c.slot) ∧ W'.cell? ⟨b9, o9 + j * 3 + 1, none⟩ = some (.int .i64 c.view) ∧ W'.cell? ⟨b9, o9 + j * 3 + 2, none⟩ = some (.int .i64 c.value) ∧ W'.cell? ⟨L, 1, none⟩ = some (.slice (some ⟨b8, o8, none⟩) rs.length cap2) ∧ W'.cell? ⟨b8, o8 + s, none⟩ = some (.int .i64 v))) (by kernel_rfl) (HS37.out _ ((Ext.refl _).drew)) (fun hHeld => ?_)
                                refine wpAnyH_take (i := 0) (oi := { dst := some 146, op := Op.move (.tmp 12), type := 4, pos := "laws.go:473", after := #[], guard := none }) (v := ?_) rfl (by kernel_rfl) (by kernel_rfl) (by kernel_rfl) (fun _ _ _ h => h) (Or.inl ⟨by rfl, ?_⟩) (by assumption) ?_
                                rotate_left
                                · intro w' hSw; (try dsimp only at hSw); go_simp; try with_reducible rfl
                                (try simp only [Act.put, List.setIfInBounds_toArray, List.set_cons_zero, List.set_cons_succ])
                                refine wpAnyH_take (i := 1) (oi := { dst := some 147, op := Op.move (.tmp 146), type := 4, pos := "laws.go:473", after := #[⟨0, .data⟩], guard := none }) (v := ?_) rfl (by kernel_rfl) (by kernel_rfl) (by kernel_rfl) (fun _ _ _ h => h) (Or.inl ⟨by rfl, ?_⟩) (by assumption) ?_
                                rotate_left
                                · intro w' hSw; (try dsimp only at hSw); go_simp; try with_reducible rfl
                                (try simp only [Act.put, List.setIfInBounds_toArray, List.set_cons_zero, List.set_cons_succ])
                                refine wpAnyH_take (i := 2) (oi := { dst := some 148, op := Op.move (.tmp 17), type := 25, pos := "laws.go:473", after := #[⟨1, .guard⟩], guard := some (1, false) }) (v := ?_) rfl (by kernel_rfl) (by kernel_rfl) (by kernel_rfl) (fun _ _ _ h => h) (Or.inl ⟨by rfl, ?_⟩) (by assumption) ?_
                                rotate_left
                                · intro w' hSw; (try dsimp only at hSw); go_simp; try with_reducible rfl
                                (try simp only [Act.put, List.setIfInBounds_toArray, List.set_cons_zero, List.set_cons_succ])
                                refine wpAnyH_take (i := 3) (oi := { dst := some 149, op := Op.move (.tmp 18), type := 3, pos := "laws.go:473", after := #[⟨1, .guard⟩], guard := some (1, false) }) (v := ?_) rfl (by kernel_rfl) (by kernel_rfl) (by kernel_rfl) (fun _ _ _ h => h) (Or.inl ⟨by rfl, ?_⟩) (by assumption) ?_
                                rotate_left
                                · intro w' hSw; (try dsimp only at hSw); go_simp; try with_reducible rfl
                                (try simp only [Act.put, List.setIfInBounds_toArray, List.set_cons_zero, List.set_cons_succ])
                                refine wpAnyH_take (i := 4) (oi := { dst := some 150, op := Op.indexAddr 25 (.tmp 148) (.tmp 149), type := 0, pos := "laws.go:473", after := #[⟨2, .data⟩, ⟨3, .data⟩, ⟨1, .guard⟩], guard := some (1, false) }) (v := ?_) rfl (by kernel_rfl) (by kernel_rfl) (by kernel_rfl) (fun _ _ _ h => h) (Or.inl ⟨by rfl, ?_⟩) (by assumption) ?_
                                rotate_left
                                · intro w' hSw; (try dsimp only at hSw); go_simp; try with_reducible rfl
                                (try simp only [Act.put, List.setIfInBounds_toArray, List.set_cons_zero, List.set_cons_succ])
                                refine wpAnyH_take (i := 5) (oi := { dst := some 151, op := Op.fieldAddr 38 (.tmp 150) 0, type := 0, pos := "laws.go:473", after := #[⟨4, .data⟩, ⟨1, .guard⟩], guard := some (1, false) }) (v := ?_) rfl (by kernel_rfl) (by kernel_rfl) (by kernel_rfl) (fun _ _ _ h => h) (Or.inl ⟨by rfl, ?_⟩) (by assumption) ?_
                                rotate_left
                                · intro w' hSw; (try dsimp only at hSw); go_simp; try with_reducible rfl
                                (try simp only [Act.put, List.setIfInBounds_toArray, List.set_cons_zero, List.set_cons_succ])
                                refine wpAnyH_take (i := 6) (oi := { dst := some 152, op := Op.load 2 (.tmp 151), type := 2, pos := "laws.go:473", after := #[⟨5, .data⟩, ⟨1, .guard⟩], guard := some (1, false) }) (v := ?_) rfl (by kernel_rfl) (by kernel_rfl) (by kernel_rfl) (fun _ _ _ h => h) (Or.inl ⟨by rfl, ?_⟩) (by assumption) ?_
                                rotate_left
                                · intro w' hSw; (try dsimp only at hSw); go_simp; try with_reducible rfl
                                (try simp only [Act.put, List.setIfInBounds_toArray, List.set_cons_zero, List.set_cons_succ])
                                refine wpAnyH_take (i := 7) (oi := { dst := some 153, op := Op.move (.tmp 10), type := 2, pos := "laws.go:473", after := #[⟨1, .guard⟩], guard := some (1, false) }) (v := ?_) rfl (by kernel_rfl) (by kernel_rfl) (by kernel_rfl) (fun _ _ _ h => h) (Or.inl ⟨by rfl, ?_⟩) (by assumption) ?_
                                rotate_left
                                · intro w' hSw; (try dsimp only at hSw); go_simp; try with_reducible rfl
                                (try simp only [Act.put, List.setIfInBounds_toArray, List.set_cons_zero, List.set_cons_succ])
                                refine wpAnyH_take (i := 8) (oi := { dst := some 154, op := Op.binOp BinOp.eql 2 (.tmp 152) (.tmp 153) 2, type := 4, pos := "laws.go:473", after := #[⟨6, .data⟩, ⟨7, .data⟩, ⟨1, .guard⟩], guard := some (1, false) }) (v := ?_) rfl (by kernel_rfl) (by kernel_rfl) (by kernel_rfl) (fun _ _ _ h => h) (Or.inl ⟨by rfl, ?_⟩) (by assumption) ?_
                                rotate_left
                                · intro w' hSw; (try dsimp only at hSw); go_simp; try with_reducible rfl
                                (try simp only [Act.put, List.setIfInBounds_toArray, List.set_cons_zero, List.set_cons_succ])
                                (try rw [g1])
                                refine wpAnyH_take (i := 9) (oi := { dst := some 155, op := Op.move (.tmp 154), type := 4, pos := "laws.go:473", after := #[⟨8, .data⟩, ⟨1, .chain⟩, ⟨1, .guard⟩], guard := some (1, false) }) (v := ?_) rfl (by kernel_rfl) (by kernel_rfl) (by kernel_rfl) (fun _ _ _ h => h) (Or.inl ⟨by rfl, ?_⟩) (by assumption) ?_
                                rotate_left
                                · intro w' hSw; (try dsimp only at hSw); go_simp; try with_reducible rfl
                                (try simp only [Act.put, List.setIfInBounds_toArray, List.set_cons_zero, List.set_cons_succ])
                                refine wpAnyH_take (i := 10) (oi := { dst := some 156, op := Op.move (.tmp 17), type := 25, pos := "laws.go:473", after := #[⟨9, .guard⟩], guard := some (9, true) }) (v := ?_) rfl (by kernel_rfl) (by kernel_rfl) (by kernel_rfl) (fun _ _ _ h => h) (Or.inl ⟨by rfl, ?_⟩) (by assumption) ?_
                                rotate_left
                                · intro w' hSw; (try dsimp only at hSw); go_simp; try with_reducible rfl
                                (try simp only [Act.put, List.setIfInBounds_toArray, List.set_cons_zero, List.set_cons_succ])
                                refine wpAnyH_take (i := 11) (oi := { dst := some 157, op := Op.move (.tmp 18), type := 3, pos := "laws.go:473", after := #[⟨9, .guard⟩], guard := some (9, true) }) (v := ?_) rfl (by kernel_rfl) (by kernel_rfl) (by kernel_rfl) (fun _ _ _ h => h) (Or.inl ⟨by rfl, ?_⟩) (by assumption) ?_
                                rotate_left
                                · intro w' hSw; (try dsimp only at hSw); go_simp; try with_reducible rfl
                                (try simp only [Act.put, List.setIfInBounds_toArray, List.set_cons_zero, List.set_cons_succ])
                                refine wpAnyH_take (i := 12) (oi := { dst := some 158, op := Op.indexAddr 25 (.tmp 156) (.tmp 157), type := 0, pos := "laws.go:473", after := #[⟨10, .data⟩, ⟨11, .data⟩, ⟨9, .guard⟩], guard := some (9, true) }) (v := ?_) rfl (by kernel_rfl) (by kernel_rfl) (by kernel_rfl) (fun _ _ _ h => h) (Or.inl ⟨by rfl, ?_⟩) (by assumption) ?_
                                rotate_left
                                · intro w' hSw; (try dsimp only at hSw); go_simp; try with_reducible rfl
                                (try simp only [Act.put, List.setIfInBounds_toArray, List.set_cons_zero, List.set_cons_succ])
                                refine wpAnyH_take (i := 13) (oi := { dst := some 159, op := Op.fieldAddr 38 (.tmp 158) 1, type := 0, pos := "laws.go:473", after := #[⟨12, .data⟩, ⟨9, .guard⟩], guard := some (9, true) }) (v := ?_) rfl (by kernel_rfl) (by kernel_rfl) (by kernel_rfl) (fun _ _ _ h => h) (Or.inl ⟨by rfl, ?_⟩) (by assumption) ?_
                                rotate_left
                                · intro w' hSw; (try dsimp only at hSw); go_simp; try with_reducible rfl
                                (try simp only [Act.put, List.setIfInBounds_toArray, List.set_cons_zero, List.set_cons_succ])
                                refine wpAnyH_take (i := 14) (oi := { dst := some 160, op := Op.load 2 (.tmp 159), type := 2, pos := "laws.go:473", after := #[⟨13, .data⟩, ⟨9, .guard⟩], guard := some (9, true) }) (v := ?_) rfl (by kernel_rfl) (by kernel_rfl) (by kernel_rfl) (fun _ _ _ h => h) (Or.inl ⟨by rfl, ?_⟩) (by assumption) ?_
                                rotate_left
                                · intro w' hSw; (try dsimp only at hSw); go_simp; try with_reducible rfl
                                (try simp only [Act.put, List.setIfInBounds_toArray, List.set_cons_zero, List.set_cons_succ])
                                refine wpAnyH_take (i := 15) (oi := { dst := some 161, op := Op.move (.tmp 11), type := 2, pos := "laws.go:473", after := #[⟨9, .guard⟩], guard := some (9, true) }) (v := ?_) rfl (by kernel_rfl) (by kernel_rfl) (by kernel_rfl) (fun _ _ _ h => h) (Or.inl ⟨by rfl, ?_⟩) (by assumption) ?_
                                rotate_left
                                · intro w' hSw; (try dsimp only at hSw); go_simp; try with_reducible rfl
                                (try simp only [Act.put, List.setIfInBounds_toArray, List.set_cons_zero, List.set_cons_succ])
                                refine wpAnyH_take (i := 16) (oi := { dst := some 162, op := Op.binOp BinOp.eql 2 (.tmp 160) (.tmp 161) 2, type := 4, pos := "laws.go:473", after := #[⟨14, .data⟩, ⟨15, .data⟩, ⟨9, .guard⟩], guard := some (9, true) }) (v := ?_) rfl (by kernel_rfl) (by kernel_rfl) (by kernel_rfl) (fun _ _ _ h => h) (Or.inl ⟨by rfl, ?_⟩) (by assumption) ?_
                                rotate_left
                                · intro w' hSw; (try dsimp only at hSw); go_simp; try with_reducible rfl
                                (try simp only [Act.put, List.setIfInBounds_toArray, List.set_cons_zero, List.set_cons_succ])
                                (try rw [g2])
                                refine wpAnyH_take (i := 17) (oi := { dst := some 163, op := Op.pick (.tmp 155) (.tmp 162) (Operand.const (Value.bool false)), type := 4, pos := "laws.go:473", after := #[⟨9, .data⟩, ⟨16, .data⟩, ⟨1, .guard⟩], guard := some (1, false) }) (v := ?_) rfl (by kernel_rfl) (by kernel_rfl) (by kernel_rfl) (fun _ _ _ h => h) (Or.inl ⟨by rfl, ?_⟩) (by assumption) ?_
                                rotate_left
                                · intro w' hSw; (try dsimp only at hSw); go_simp; try with_reducible rfl
                                (try simp only [Act.put, List.setIfInBounds_toArray, List.set_cons_zero, List.set_cons_succ])
                                refine wpAnyH_take (i := 18) (oi := { dst := some 164, op := Op.move (.tmp 163), type := 4, pos := "laws.go:473", after := #[⟨17, .data⟩, ⟨9, .chain⟩, ⟨1, .guard⟩], guard := some (1, false) }) (v := ?_) rfl (by kernel_rfl) (by kernel_rfl) (by kernel_rfl) (fun _ _ _ h => h) (Or.inl ⟨by rfl, ?_⟩) (by assumption) ?_
                                rotate_left
                                · intro w' hSw; (try dsimp only at hSw); go_simp; try with_reducible rfl
                                (try simp only [Act.put, List.setIfInBounds_toArray, List.set_cons_zero, List.set_cons_succ])
                                refine wpAnyH_take (i := 19) (oi := { dst := some 165, op := Op.move (.tmp 17), type := 25, pos := "laws.go:473", after := #[⟨18, .guard⟩], guard := some (18, true) }) (v := ?_) rfl (by kernel_rfl) (by kernel_rfl) (by kernel_rfl) (fun _ _ _ h => h) (Or.inl ⟨by rfl, ?_⟩) (by assumption) ?_
                                rotate_left
                                · intro w' hSw; (try dsimp only at hSw); go_simp; try with_reducible rfl
                                (try simp only [Act.put, List.setIfInBounds_toArray, List.set_cons_zero, List.set_cons_succ])
                                refine wpAnyH_take (i := 20) (oi := { dst := some 166, op := Op.move (.tmp 18), type := 3, pos := "laws.go:473", after := #[⟨18, .guard⟩], guard := some (18, true) }) (v := ?_) rfl (by kernel_rfl) (by kernel_rfl) (by kernel_rfl) (fun _ _ _ h => h) (Or.inl ⟨by rfl, ?_⟩) (by assumption) ?_
                                rotate_left
                                · intro w' hSw; (try dsimp only at hSw); go_simp; try with_reducible rfl
                                (try simp only [Act.put, List.setIfInBounds_toArray, List.set_cons_zero, List.set_cons_succ])
                                refine wpAnyH_take (i := 21) (oi := { dst := some 167, op := Op.indexAddr 25 (.tmp 165) (.tmp 166), type := 0, pos := "laws.go:473", after := #[⟨19, .data⟩, ⟨20, .data⟩, ⟨18, .guard⟩], guard := some (18, true) }) (v := ?_) rfl (by kernel_rfl) (by kernel_rfl) (by kernel_rfl) (fun _ _ _ h => h) (Or.inl ⟨by rfl, ?_⟩) (by assumption) ?_
                                rotate_left
                                · intro w' hSw; (try dsimp only at hSw); go_simp; try with_reducible rfl
                                (try simp only [Act.put, List.setIfInBounds_toArray, List.set_cons_zero, List.set_cons_succ])
                                refine wpAnyH_take (i := 22) (oi := { dst := some 168, op := Op.fieldAddr 38 (.tmp 167) 2, type := 0, pos := "laws.go:473", after := #[⟨21, .data⟩, ⟨18, .guard⟩], guard := some (18, true) }) (v := ?_) rfl (by kernel_rfl) (by kernel_rfl) (by kernel_rfl) (fun _ _ _ h => h) (Or.inl ⟨by rfl, ?_⟩) (by assumption) ?_
                                rotate_left
                                · intro w' hSw; (try dsimp only at hSw); go_simp; try with_reducible rfl
                                (try simp only [Act.put, List.setIfInBounds_toArray, List.set_cons_zero, List.set_cons_succ])
                                refine wpAnyH_take (i := 23) (oi := { dst := some 169, op := Op.load 2 (.tmp 168), type := 2, pos := "laws.go:473", after := #[⟨22, .data⟩, ⟨18, .guard⟩], guard := some (18, true) }) (v := ?_) rfl (by kernel_rfl) (by kernel_rfl) (by kernel_rfl) (fun _ _ _ h => h) (Or.inl ⟨by rfl, ?_⟩) (by assumption) ?_
                                rotate_left
                                · intro w' hSw; (try dsimp only at hSw); go_simp; try with_reducible rfl
                                (try simp only [Act.put, List.setIfInBounds_toArray, List.set_cons_zero, List.set_cons_succ])
                                refine wpAnyH_take (i := 24) (oi := { dst := some 170, op := Op.fieldAddr 32 (.tmp 6) 1, type := 0, pos := "laws.go:473", after := #[⟨18, .guard⟩], guard := some (18, true) }) (v := ?_) rfl (by kernel_rfl) (by kernel_rfl) (by kernel_rfl) (fun _ _ _ h => h) (Or.inl ⟨by rfl, ?_⟩) (by assumption) ?_
                                rotate_left
                                · intro w' hSw; (try dsimp only at hSw); go_simp; try with_reducible rfl
                                (try simp only [Act.put, List.setIfInBounds_toArray, List.set_cons_zero, List.set_cons_succ])
                                refine wpAnyH_take (i := 25) (oi := { dst := some 171, op := Op.load 26 (.tmp 170), type := 26, pos := "laws.go:473", after := #[⟨24, .data⟩, ⟨18, .guard⟩], guard := some (18, true) }) (v := ?_) rfl (by kernel_rfl) (by kernel_rfl) (by kernel_rfl) (fun _ _ _ h => h) (Or.inl ⟨by rfl, ?_⟩) (by assumption) ?_
                                rotate_left
                                · intro w' hSw; (try dsimp only at hSw); go_simp; try with_reducible rfl
                                (try simp only [Act.put, List.setIfInBounds_toArray, List.set_cons_zero, List.set_cons_succ])
                                refine wpAnyH_take (i := 26) (oi := { dst := some 172, op := Op.move (.tmp 10), type := 2, pos := "laws.go:473", after := #[⟨18, .guard⟩], guard := some (18, true) }) (v := ?_) rfl (by kernel_rfl) (by kernel_rfl) (by kernel_rfl) (fun _ _ _ h => h) (Or.inl ⟨by rfl, ?_⟩) (by assumption) ?_
                                rotate_left
                                · intro w' hSw; (try dsimp only at hSw); go_simp; try with_reducible rfl
                                (try simp only [Act.put, List.setIfInBounds_toArray, List.set_cons_zero, List.set_cons_succ])
                                refine wpAnyH_take (i := 27) (oi := { dst := some 173, op := Op.binOp BinOp.sub 2 (.tmp 172) (Operand.const (Value.int IntKind.i64 1)) 2, type := 2, pos := "laws.go:473", after := #[⟨26, .data⟩, ⟨18, .guard⟩], guard := some (18, true) }) (v := ?_) rfl (by kernel_rfl) (by kernel_rfl) (by kernel_rfl) (fun _ _ _ h => h) (Or.inl ⟨by rfl, ?_⟩) (by assumption) ?_
                                rotate_left
                                · intro w' hSw; (try dsimp only at hSw); go_simp; try with_reducible rfl
                                (try simp only [Act.put, List.setIfInBounds_toArray, List.set_cons_zero, List.set_cons_succ])
                                refine wpAnyH_take (i := 28) (oi := { dst := some 174, op := Op.indexAddr 26 (.tmp 171) (.tmp 173), type := 0, pos := "laws.go:473", after := #[⟨25, .data⟩, ⟨27, .data⟩, ⟨18, .guard⟩], guard := some (18, true) }) (v := ?_) rfl (by kernel_rfl) (by kernel_rfl) (by kernel_rfl) (fun _ _ _ h => h) (Or.inl ⟨by rfl, ?_⟩) (by assumption) ?_
                                rotate_left
                                · intro w' hSw; (try dsimp only at hSw); go_simp; try with_reducible rfl
                                (try simp only [Act.put, List.setIfInBounds_toArray, List.set_cons_zero, List.set_cons_succ])
                                refine wpAnyH_take (i := 29) (oi := { dst := some 175, op := Op.load 2 (.tmp 174), type := 2, pos := "laws.go:473", after := #[⟨28, .data⟩, ⟨18, .guard⟩], guard := some (18, true) }) (v := ?_) rfl (by kernel_rfl) (by kernel_rfl) (by kernel_rfl) (fun _ _ _ h => h) (Or.inl ⟨by rfl, ?_⟩) (by assumption) ?_
                                rotate_left
                                · intro w' hSw; (try dsimp only at hSw); go_simp; try with_reducible rfl
                                (try simp only [Act.put, List.setIfInBounds_toArray, List.set_cons_zero, List.set_cons_succ])
                                refine wpAnyH_take (i := 30) (oi := { dst := some 176, op := Op.binOp BinOp.eql 2 (.tmp 169) (.tmp 175) 2, type := 4, pos := "laws.go:473", after := #[⟨23, .data⟩, ⟨29, .data⟩, ⟨18, .guard⟩], guard := some (18, true) }) (v := ?_) rfl (by kernel_rfl) (by kernel_rfl) (by kernel_rfl) (fun _ _ _ h => h) (Or.inl ⟨by rfl, ?_⟩) (by assumption) ?_
                                rotate_left
                                · intro w' hSw; (try dsimp only at hSw); go_simp; try with_reducible rfl
                                (try simp only [Act.put, List.setIfInBounds_toArray, List.set_cons_zero, List.set_cons_succ])
                                (try rw [g3])
                                refine wpAnyH_take (i := 31) (oi := { dst := some 177, op := Op.pick (.tmp 164) (.tmp 176) (Operand.const (Value.bool false)), type := 4, pos := "laws.go:473", after := #[⟨18, .data⟩, ⟨30, .data⟩, ⟨1, .guard⟩], guard := some (1, false) }) (v := ?_) rfl (by kernel_rfl) (by kernel_rfl) (by kernel_rfl) (fun _ _ _ h => h) (Or.inl ⟨by rfl, ?_⟩) (by assumption) ?_
                                rotate_left
                                · intro w' hSw; (try dsimp only at hSw); go_simp; try with_reducible rfl
                                (try simp only [Act.put, List.setIfInBounds_toArray, List.set_cons_zero, List.set_cons_succ])
                                refine wpAnyH_take (i := 32) (oi := { dst := some 178, op := Op.pick (.tmp 147) (Operand.const (Value.bool true)) (.tmp 177), type := 4, pos := "laws.go:473", after := #[⟨1, .data⟩, ⟨31, .data⟩], guard := none }) (v := ?_) rfl (by kernel_rfl) (by kernel_rfl) (by kernel_rfl) (fun _ _ _ h => h) (Or.inl ⟨by rfl, ?_⟩) (by assumption) ?_
                                rotate_left
                                · intro w' hSw; (try dsimp only at hSw); go_simp; try with_reducible rfl
                                (try simp only [Act.put, List.setIfInBounds_toArray, List.set_cons_zero, List.set_cons_succ])
                                refine wpAnyH_take (i := 33) (oi := { dst := some 12, op := Op.assign (.tmp 178), type := 4, pos := "laws.go:473", after := #[⟨32, .data⟩, ⟨18, .chain⟩, ⟨0, .phase⟩, ⟨1, .phase⟩, ⟨2, .phase⟩, ⟨3, .phase⟩, ⟨4, .phase⟩, ⟨5, .phase⟩, ⟨6, .phase⟩, ⟨7, .phase⟩, ⟨8, .phase⟩, ⟨9, .phase⟩, ⟨10, .phase⟩, ⟨11, .phase⟩, ⟨12, .phase⟩, ⟨13, .phase⟩, ⟨14, .phase⟩, ⟨15, .phase⟩, ⟨16, .phase⟩, ⟨17, .phase⟩, ⟨18, .phase⟩, ⟨19, .phase⟩, ⟨20, .phase⟩, ⟨21, .phase⟩, ⟨22, .phase⟩, ⟨23, .phase⟩, ⟨24, .phase⟩, ⟨25, .phase⟩, ⟨26, .phase⟩, ⟨27, .phase⟩, ⟨28, .phase⟩, ⟨29, .phase⟩, ⟨30, .phase⟩, ⟨31, .phase⟩, ⟨32, .phase⟩], guard := none }) (v := ?_) rfl (by kernel_rfl) (by kernel_rfl) (by kernel_rfl) (fun _ _ _ h => h) (Or.inl ⟨by rfl, ?_⟩) (by assumption) ?_
                                rotate_left
                                · intro w' hSw; (try dsimp only at hSw); go_simp; try with_reducible rfl
                                (try simp only [Act.put, List.setIfInBounds_toArray, List.set_cons_zero, List.set_cons_succ])
                                refine wpAnyH_done (by kernel_rfl) ?_ _
                                go_wp2
                                exact ⟨⟨j + 1, false, by omega, by go_num, rfl, HF, HE2.out.drew⟩, by simp [intOf]; omega⟩
                            · have g2 : (c.view == bb) = false := by simpa using q2
                              have HF : Hid (false = ((v == 0) || Msg.hit ((s : Int) + 1) bb v (Msg.cat ms (refs.take k) ++ z.certs.take (j + 1)))) := by show _ = _; rw [HSt.out, Bool.false_or, decide_eq_true q1, decide_eq_false q2]; rfl
                              clear HSt
                              go_wp2
                              refine wp_region_held_drew (S := (fun W' : World => W'.cell? ⟨b9, o9 + j * 3, none⟩ = some (.int .i64 c.slot) ∧ W'.cell? ⟨b9, o9 + j * 3 + 1, none⟩ = some (.int .i64 c.view) ∧ W'.cell? ⟨b9, o9 + j * 3 + 2, none⟩ = some (.int .i64 c.value) ∧ W'.cell? ⟨L, 1, none⟩ = some (.slice (some ⟨b8, o8, none⟩) rs.length cap2) ∧ W'.cell? ⟨b8, o8 + s, none⟩ = some (.int .i64 v))) (by kernel_rfl) (HS37.out _ ((Ext.refl _).drew)) (fun hHeld => ?_)
                              refine wpAnyH_take (i := 0) (oi := { dst := some 146, op := Op.move (.tmp 12), type := 4, pos := "laws.go:473", after := #[], guard := none }) (v := ?_) rfl (by kernel_rfl) (by kernel_rfl) (by kernel_rfl) (fun _ _ _ h => h) (Or.inl ⟨by rfl, ?_⟩) (by assumption) ?_
                              rotate_left
                              · intro w' hSw; (try dsimp only at hSw); go_simp; try with_reducible rfl
                              (try simp only [Act.put, List.setIfInBounds_toArray, List.set_cons_zero, List.set_cons_succ])
                              refine wpAnyH_take (i := 1) (oi := { dst := some 147, op := Op.move (.tmp 146), type := 4, pos := "laws.go:473", after := #[⟨0, .data⟩], guard := none }) (v := ?_) rfl (by kernel_rfl) (by kernel_rfl) (by kernel_rfl) (fun _ _ _ h => h) (Or.inl ⟨by rfl, ?_⟩) (by assumption) ?_
                              rotate_left
                              · intro w' hSw; (try dsimp only at hSw); go_simp; try with_reducible rfl
                              (try simp only [Act.put, List.setIfInBounds_toArray, List.set_cons_zero, List.set_cons_succ])
                              refine wpAnyH_take (i := 2) (oi := { dst := some 148, op := Op.move (.tmp 17), type := 25, pos := "laws.go:473", after := #[⟨1, .guard⟩], guard := some (1, false) }) (v := ?_) rfl (by kernel_rfl) (by kernel_rfl) (by kernel_rfl) (fun _ _ _ h => h) (Or.inl ⟨by rfl, ?_⟩) (by assumption) ?_
                              rotate_left
                              · intro w' hSw; (try dsimp only at hSw); go_simp; try with_reducible rfl
                              (try simp only [Act.put, List.setIfInBounds_toArray, List.set_cons_zero, List.set_cons_succ])
                              refine wpAnyH_take (i := 3) (oi := { dst := some 149, op := Op.move (.tmp 18), type := 3, pos := "laws.go:473", after := #[⟨1, .guard⟩], guard := some (1, false) }) (v := ?_) rfl (by kernel_rfl) (by kernel_rfl) (by kernel_rfl) (fun _ _ _ h => h) (Or.inl ⟨by rfl, ?_⟩) (by assumption) ?_
                              rotate_left
                              · intro w' hSw; (try dsimp only at hSw); go_simp; try with_reducible rfl
                              (try simp only [Act.put, List.setIfInBounds_toArray, List.set_cons_zero, List.set_cons_succ])
                              refine wpAnyH_take (i := 4) (oi := { dst := some 150, op := Op.indexAddr 25 (.tmp 148) (.tmp 149), type := 0, pos := "laws.go:473", after := #[⟨2, .data⟩, ⟨3, .data⟩, ⟨1, .guard⟩], guard := some (1, false) }) (v := ?_) rfl (by kernel_rfl) (by kernel_rfl) (by kernel_rfl) (fun _ _ _ h => h) (Or.inl ⟨by rfl, ?_⟩) (by assumption) ?_
                              rotate_left
                              · intro w' hSw; (try dsimp only at hSw); go_simp; try with_reducible rfl
                              (try simp only [Act.put, List.setIfInBounds_toArray, List.set_cons_zero, List.set_cons_succ])
                              refine wpAnyH_take (i := 5) (oi := { dst := some 151, op := Op.fieldAddr 38 (.tmp 150) 0, type := 0, pos := "laws.go:473", after := #[⟨4, .data⟩, ⟨1, .guard⟩], guard := some (1, false) }) (v := ?_) rfl (by kernel_rfl) (by kernel_rfl) (by kernel_rfl) (fun _ _ _ h => h) (Or.inl ⟨by rfl, ?_⟩) (by assumption) ?_
                              rotate_left
                              · intro w' hSw; (try dsimp only at hSw); go_simp; try with_reducible rfl
                              (try simp only [Act.put, List.setIfInBounds_toArray, List.set_cons_zero, List.set_cons_succ])
                              refine wpAnyH_take (i := 6) (oi := { dst := some 152, op := Op.load 2 (.tmp 151), type := 2, pos := "laws.go:473", after := #[⟨5, .data⟩, ⟨1, .guard⟩], guard := some (1, false) }) (v := ?_) rfl (by kernel_rfl) (by kernel_rfl) (by kernel_rfl) (fun _ _ _ h => h) (Or.inl ⟨by rfl, ?_⟩) (by assumption) ?_
                              rotate_left
                              · intro w' hSw; (try dsimp only at hSw); go_simp; try with_reducible rfl
                              (try simp only [Act.put, List.setIfInBounds_toArray, List.set_cons_zero, List.set_cons_succ])
                              refine wpAnyH_take (i := 7) (oi := { dst := some 153, op := Op.move (.tmp 10), type := 2, pos := "laws.go:473", after := #[⟨1, .guard⟩], guard := some (1, false) }) (v := ?_) rfl (by kernel_rfl) (by kernel_rfl) (by kernel_rfl) (fun _ _ _ h => h) (Or.inl ⟨by rfl, ?_⟩) (by assumption) ?_
                              rotate_left
                              · intro w' hSw; (try dsimp only at hSw); go_simp; try with_reducible rfl
                              (try simp only [Act.put, List.setIfInBounds_toArray, List.set_cons_zero, List.set_cons_succ])
                              refine wpAnyH_take (i := 8) (oi := { dst := some 154, op := Op.binOp BinOp.eql 2 (.tmp 152) (.tmp 153) 2, type := 4, pos := "laws.go:473", after := #[⟨6, .data⟩, ⟨7, .data⟩, ⟨1, .guard⟩], guard := some (1, false) }) (v := ?_) rfl (by kernel_rfl) (by kernel_rfl) (by kernel_rfl) (fun _ _ _ h => h) (Or.inl ⟨by rfl, ?_⟩) (by assumption) ?_
                              rotate_left
                              · intro w' hSw; (try dsimp only at hSw); go_simp; try with_reducible rfl
                              (try simp only [Act.put, List.setIfInBounds_toArray, List.set_cons_zero, List.set_cons_succ])
                              (try rw [g1])
                              refine wpAnyH_take (i := 9) (oi := { dst := some 155, op := Op.move (.tmp 154), type := 4, pos := "laws.go:473", after := #[⟨8, .data⟩, ⟨1, .chain⟩, ⟨1, .guard⟩], guard := some (1, false) }) (v := ?_) rfl (by kernel_rfl) (by kernel_rfl) (by kernel_rfl) (fun _ _ _ h => h) (Or.inl ⟨by rfl, ?_⟩) (by assumption) ?_
                              rotate_left
                              · intro w' hSw; (try dsimp only at hSw); go_simp; try with_reducible rfl
                              (try simp only [Act.put, List.setIfInBounds_toArray, List.set_cons_zero, List.set_cons_succ])
                              refine wpAnyH_take (i := 10) (oi := { dst := some 156, op := Op.move (.tmp 17), type := 25, pos := "laws.go:473", after := #[⟨9, .guard⟩], guard := some (9, true) }) (v := ?_) rfl (by kernel_rfl) (by kernel_rfl) (by kernel_rfl) (fun _ _ _ h => h) (Or.inl ⟨by rfl, ?_⟩) (by assumption) ?_
                              rotate_left
                              · intro w' hSw; (try dsimp only at hSw); go_simp; try with_reducible rfl
                              (try simp only [Act.put, List.setIfInBounds_toArray, List.set_cons_zero, List.set_cons_succ])
                              refine wpAnyH_take (i := 11) (oi := { dst := some 157, op := Op.move (.tmp 18), type := 3, pos := "laws.go:473", after := #[⟨9, .guard⟩], guard := some (9, true) }) (v := ?_) rfl (by kernel_rfl) (by kernel_rfl) (by kernel_rfl) (fun _ _ _ h => h) (Or.inl ⟨by rfl, ?_⟩) (by assumption) ?_
                              rotate_left
                              · intro w' hSw; (try dsimp only at hSw); go_simp; try with_reducible rfl
                              (try simp only [Act.put, List.setIfInBounds_toArray, List.set_cons_zero, List.set_cons_succ])
                              refine wpAnyH_take (i := 12) (oi := { dst := some 158, op := Op.indexAddr 25 (.tmp 156) (.tmp 157), type := 0, pos := "laws.go:473", after := #[⟨10, .data⟩, ⟨11, .data⟩, ⟨9, .guard⟩], guard := some (9, true) }) (v := ?_) rfl (by kernel_rfl) (by kernel_rfl) (by kernel_rfl) (fun _ _ _ h => h) (Or.inl ⟨by rfl, ?_⟩) (by assumption) ?_
                              rotate_left
                              · intro w' hSw; (try dsimp only at hSw); go_simp; try with_reducible rfl
                              (try simp only [Act.put, List.setIfInBounds_toArray, List.set_cons_zero, List.set_cons_succ])
                              refine wpAnyH_take (i := 13) (oi := { dst := some 159, op := Op.fieldAddr 38 (.tmp 158) 1, type := 0, pos := "laws.go:473", after := #[⟨12, .data⟩, ⟨9, .guard⟩], guard := some (9, true) }) (v := ?_) rfl (by kernel_rfl) (by kernel_rfl) (by kernel_rfl) (fun _ _ _ h => h) (Or.inl ⟨by rfl, ?_⟩) (by assumption) ?_
                              rotate_left
                              · intro w' hSw; (try dsimp only at hSw); go_simp; try with_reducible rfl
                              (try simp only [Act.put, List.setIfInBounds_toArray, List.set_cons_zero, List.set_cons_succ])
                              refine wpAnyH_take (i := 14) (oi := { dst := some 160, op := Op.load 2 (.tmp 159), type := 2, pos := "laws.go:473", after := #[⟨13, .data⟩, ⟨9, .guard⟩], guard := some (9, true) }) (v := ?_) rfl (by kernel_rfl) (by kernel_rfl) (by kernel_rfl) (fun _ _ _ h => h) (Or.inl ⟨by rfl, ?_⟩) (by assumption) ?_
                              rotate_left
                              · intro w' hSw; (try dsimp only at hSw); go_simp; try with_reducible rfl
                              (try simp only [Act.put, List.setIfInBounds_toArray, List.set_cons_zero, List.set_cons_succ])
                              refine wpAnyH_take (i := 15) (oi := { dst := some 161, op := Op.move (.tmp 11), type := 2, pos := "laws.go:473", after := #[⟨9, .guard⟩], guard := some (9, true) }) (v := ?_) rfl (by kernel_rfl) (by kernel_rfl) (by kernel_rfl) (fun _ _ _ h => h) (Or.inl ⟨by rfl, ?_⟩) (by assumption) ?_
                              rotate_left
                              · intro w' hSw; (try dsimp only at hSw); go_simp; try with_reducible rfl
                              (try simp only [Act.put, List.setIfInBounds_toArray, List.set_cons_zero, List.set_cons_succ])
                              refine wpAnyH_take (i := 16) (oi := { dst := some 162, op := Op.binOp BinOp.eql 2 (.tmp 160) (.tmp 161) 2, type := 4, pos := "laws.go:473", after := #[⟨14, .data⟩, ⟨15, .data⟩, ⟨9, .guard⟩], guard := some (9, true) }) (v := ?_) rfl (by kernel_rfl) (by kernel_rfl) (by kernel_rfl) (fun _ _ _ h => h) (Or.inl ⟨by rfl, ?_⟩) (by assumption) ?_
                              rotate_left
                              · intro w' hSw; (try dsimp only at hSw); go_simp; try with_reducible rfl
                              (try simp only [Act.put, List.setIfInBounds_toArray, List.set_cons_zero, List.set_cons_succ])
                              (try rw [g2])
                              refine wpAnyH_take (i := 17) (oi := { dst := some 163, op := Op.pick (.tmp 155) (.tmp 162) (Operand.const (Value.bool false)), type := 4, pos := "laws.go:473", after := #[⟨9, .data⟩, ⟨16, .data⟩, ⟨1, .guard⟩], guard := some (1, false) }) (v := ?_) rfl (by kernel_rfl) (by kernel_rfl) (by kernel_rfl) (fun _ _ _ h => h) (Or.inl ⟨by rfl, ?_⟩) (by assumption) ?_
                              rotate_left
                              · intro w' hSw; (try dsimp only at hSw); go_simp; try with_reducible rfl
                              (try simp only [Act.put, List.setIfInBounds_toArray, List.set_cons_zero, List.set_cons_succ])
                              refine wpAnyH_take (i := 18) (oi := { dst := some 164, op := Op.move (.tmp 163), type := 4, pos := "laws.go:473", after := #[⟨17, .data⟩, ⟨9, .chain⟩, ⟨1, .guard⟩], guard := some (1, false) }) (v := ?_) rfl (by kernel_rfl) (by kernel_rfl) (by kernel_rfl) (fun _ _ _ h => h) (Or.inl ⟨by rfl, ?_⟩) (by assumption) ?_
                              rotate_left
                              · intro w' hSw; (try dsimp only at hSw); go_simp; try with_reducible rfl
                              (try simp only [Act.put, List.setIfInBounds_toArray, List.set_cons_zero, List.set_cons_succ])
                              refine wpAnyH_take (i := 19) (oi := { dst := some 165, op := Op.move (.tmp 17), type := 25, pos := "laws.go:473", after := #[⟨18, .guard⟩], guard := some (18, true) }) (v := undef) rfl (by kernel_rfl) (by kernel_rfl) (by kernel_rfl) (fun _ _ _ h => h) (Or.inr ⟨by rfl, rfl⟩) (by assumption) ?_
                              (try simp only [Act.put, List.setIfInBounds_toArray, List.set_cons_zero, List.set_cons_succ])
                              refine wpAnyH_take (i := 20) (oi := { dst := some 166, op := Op.move (.tmp 18), type := 3, pos := "laws.go:473", after := #[⟨18, .guard⟩], guard := some (18, true) }) (v := undef) rfl (by kernel_rfl) (by kernel_rfl) (by kernel_rfl) (fun _ _ _ h => h) (Or.inr ⟨by rfl, rfl⟩) (by assumption) ?_
                              (try simp only [Act.put, List.setIfInBounds_toArray, List.set_cons_zero, List.set_cons_succ])
                              refine wpAnyH_take (i := 21) (oi := { dst := some 167, op := Op.indexAddr 25 (.tmp 165) (.tmp 166), type := 0, pos := "laws.go:473", after := #[⟨19, .data⟩, ⟨20, .data⟩, ⟨18, .guard⟩], guard := some (18, true) }) (v := undef) rfl (by kernel_rfl) (by kernel_rfl) (by kernel_rfl) (fun _ _ _ h => h) (Or.inr ⟨by rfl, rfl⟩) (by assumption) ?_
                              (try simp only [Act.put, List.setIfInBounds_toArray, List.set_cons_zero, List.set_cons_succ])
                              refine wpAnyH_take (i := 22) (oi := { dst := some 168, op := Op.fieldAddr 38 (.tmp 167) 2, type := 0, pos := "laws.go:473", after := #[⟨21, .data⟩, ⟨18, .guard⟩], guard := some (18, true) }) (v := undef) rfl (by kernel_rfl) (by kernel_rfl) (by kernel_rfl) (fun _ _ _ h => h) (Or.inr ⟨by rfl, rfl⟩) (by assumption) ?_
                              (try simp only [Act.put, List.setIfInBounds_toArray, List.set_cons_zero, List.set_cons_succ])
                              refine wpAnyH_take (i := 23) (oi := { dst := some 169, op := Op.load 2 (.tmp 168), type := 2, pos := "laws.go:473", after := #[⟨22, .data⟩, ⟨18, .guard⟩], guard := some (18, true) }) (v := undef) rfl (by kernel_rfl) (by kernel_rfl) (by kernel_rfl) (fun _ _ _ h => h) (Or.inr ⟨by rfl, rfl⟩) (by assumption) ?_
                              (try simp only [Act.put, List.setIfInBounds_toArray, List.set_cons_zero, List.set_cons_succ])
                              refine wpAnyH_take (i := 24) (oi := { dst := some 170, op := Op.fieldAddr 32 (.tmp 6) 1, type := 0, pos := "laws.go:473", after := #[⟨18, .guard⟩], guard := some (18, true) }) (v := undef) rfl (by kernel_rfl) (by kernel_rfl) (by kernel_rfl) (fun _ _ _ h => h) (Or.inr ⟨by rfl, rfl⟩) (by assumption) ?_
                              (try simp only [Act.put, List.setIfInBounds_toArray, List.set_cons_zero, List.set_cons_succ])
                              refine wpAnyH_take (i := 25) (oi := { dst := some 171, op := Op.load 26 (.tmp 170), type := 26, pos := "laws.go:473", after := #[⟨24, .data⟩, ⟨18, .guard⟩], guard := some (18, true) }) (v := undef) rfl (by kernel_rfl) (by kernel_rfl) (by kernel_rfl) (fun _ _ _ h => h) (Or.inr ⟨by rfl, rfl⟩) (by assumption) ?_
                              (try simp only [Act.put, List.setIfInBounds_toArray, List.set_cons_zero, List.set_cons_succ])
                              refine wpAnyH_take (i := 26) (oi := { dst := some 172, op := Op.move (.tmp 10), type := 2, pos := "laws.go:473", after := #[⟨18, .guard⟩], guard := some (18, true) }) (v := undef) rfl (by kernel_rfl) (by kernel_rfl) (by kernel_rfl) (fun _ _ _ h => h) (Or.inr ⟨by rfl, rfl⟩) (by assumption) ?_
                              (try simp only [Act.put, List.setIfInBounds_toArray, List.set_cons_zero, List.set_cons_succ])
                              refine wpAnyH_take (i := 27) (oi := { dst := some 173, op := Op.binOp BinOp.sub 2 (.tmp 172) (Operand.const (Value.int IntKind.i64 1)) 2, type := 2, pos := "laws.go:473", after := #[⟨26, .data⟩, ⟨18, .guard⟩], guard := some (18, true) }) (v := undef) rfl (by kernel_rfl) (by kernel_rfl) (by kernel_rfl) (fun _ _ _ h => h) (Or.inr ⟨by rfl, rfl⟩) (by assumption) ?_
                              (try simp only [Act.put, List.setIfInBounds_toArray, List.set_cons_zero, List.set_cons_succ])
                              refine wpAnyH_take (i := 28) (oi := { dst := some 174, op := Op.indexAddr 26 (.tmp 171) (.tmp 173), type := 0, pos := "laws.go:473", after := #[⟨25, .data⟩, ⟨27, .data⟩, ⟨18, .guard⟩], guard := some (18, true) }) (v := undef) rfl (by kernel_rfl) (by kernel_rfl) (by kernel_rfl) (fun _ _ _ h => h) (Or.inr ⟨by rfl, rfl⟩) (by assumption) ?_
                              (try simp only [Act.put, List.setIfInBounds_toArray, List.set_cons_zero, List.set_cons_succ])
                              refine wpAnyH_take (i := 29) (oi := { dst := some 175, op := Op.load 2 (.tmp 174), type := 2, pos := "laws.go:473", after := #[⟨28, .data⟩, ⟨18, .guard⟩], guard := some (18, true) }) (v := undef) rfl (by kernel_rfl) (by kernel_rfl) (by kernel_rfl) (fun _ _ _ h => h) (Or.inr ⟨by rfl, rfl⟩) (by assumption) ?_
                              (try simp only [Act.put, List.setIfInBounds_toArray, List.set_cons_zero, List.set_cons_succ])
                              refine wpAnyH_take (i := 30) (oi := { dst := some 176, op := Op.binOp BinOp.eql 2 (.tmp 169) (.tmp 175) 2, type := 4, pos := "laws.go:473", after := #[⟨23, .data⟩, ⟨29, .data⟩, ⟨18, .guard⟩], guard := some (18, true) }) (v := undef) rfl (by kernel_rfl) (by kernel_rfl) (by kernel_rfl) (fun _ _ _ h => h) (Or.inr ⟨by rfl, rfl⟩) (by assumption) ?_
                              (try simp only [Act.put, List.setIfInBounds_toArray, List.set_cons_zero, List.set_cons_succ])
                              refine wpAnyH_take (i := 31) (oi := { dst := some 177, op := Op.pick (.tmp 164) (.tmp 176) (Operand.const (Value.bool false)), type := 4, pos := "laws.go:473", after := #[⟨18, .data⟩, ⟨30, .data⟩, ⟨1, .guard⟩], guard := some (1, false) }) (v := ?_) rfl (by kernel_rfl) (by kernel_rfl) (by kernel_rfl) (fun _ _ _ h => h) (Or.inl ⟨by rfl, ?_⟩) (by assumption) ?_
                              rotate_left
                              · intro w' hSw; (try dsimp only at hSw); go_simp; try with_reducible rfl
                              (try simp only [Act.put, List.setIfInBounds_toArray, List.set_cons_zero, List.set_cons_succ])
                              refine wpAnyH_take (i := 32) (oi := { dst := some 178, op := Op.pick (.tmp 147) (Operand.const (Value.bool true)) (.tmp 177), type := 4, pos := "laws.go:473", after := #[⟨1, .data⟩, ⟨31, .data⟩], guard := none }) (v := ?_) rfl (by kernel_rfl) (by kernel_rfl) (by kernel_rfl) (fun _ _ _ h => h) (Or.inl ⟨by rfl, ?_⟩) (by assumption) ?_
                              rotate_left
                              · intro w' hSw; (try dsimp only at hSw); go_simp; try with_reducible rfl
                              (try simp only [Act.put, List.setIfInBounds_toArray, List.set_cons_zero, List.set_cons_succ])
                              refine wpAnyH_take (i := 33) (oi := { dst := some 12, op := Op.assign (.tmp 178), type := 4, pos := "laws.go:473", after := #[⟨32, .data⟩, ⟨18, .chain⟩, ⟨0, .phase⟩, ⟨1, .phase⟩, ⟨2, .phase⟩, ⟨3, .phase⟩, ⟨4, .phase⟩, ⟨5, .phase⟩, ⟨6, .phase⟩, ⟨7, .phase⟩, ⟨8, .phase⟩, ⟨9, .phase⟩, ⟨10, .phase⟩, ⟨11, .phase⟩, ⟨12, .phase⟩, ⟨13, .phase⟩, ⟨14, .phase⟩, ⟨15, .phase⟩, ⟨16, .phase⟩, ⟨17, .phase⟩, ⟨18, .phase⟩, ⟨19, .phase⟩, ⟨20, .phase⟩, ⟨21, .phase⟩, ⟨22, .phase⟩, ⟨23, .phase⟩, ⟨24, .phase⟩, ⟨25, .phase⟩, ⟨26, .phase⟩, ⟨27, .phase⟩, ⟨28, .phase⟩, ⟨29, .phase⟩, ⟨30, .phase⟩, ⟨31, .phase⟩, ⟨32, .phase⟩], guard := none }) (v := ?_) rfl (by kernel_rfl) (by kernel_rfl) (by kernel_rfl) (fun _ _ _ h => h) (Or.inl ⟨by rfl, ?_⟩) (by assumption) ?_
                              rotate_left
                              · intro w' hSw; (try dsimp only at hSw); go_simp; try with_reducible rfl
                              (try simp only [Act.put, List.setIfInBounds_toArray, List.set_cons_zero, List.set_cons_succ])
                              refine wpAnyH_done (by kernel_rfl) ?_ _
                              go_wp2
                              exact ⟨⟨j + 1, false, by omega, by go_num, rfl, HF, HE2.out.drew⟩, by simp [intOf]; omega⟩
                          · have g1 : (c.slot == ((s : Int) + 1)) = false := by simpa using q1
                            have HF : Hid (false = ((v == 0) || Msg.hit ((s : Int) + 1) bb v (Msg.cat ms (refs.take k) ++ z.certs.take (j + 1)))) := by show _ = _; rw [HSt.out, Bool.false_or, decide_eq_false q1]; rfl
                            clear HSt
                            go_wp2
                            refine wp_region_held_drew (S := (fun W' : World => W'.cell? ⟨b9, o9 + j * 3, none⟩ = some (.int .i64 c.slot) ∧ W'.cell? ⟨b9, o9 + j * 3 + 1, none⟩ = some (.int .i64 c.view) ∧ W'.cell? ⟨b9, o9 + j * 3 + 2, none⟩ = some (.int .i64 c.value) ∧ W'.cell? ⟨L, 1, none⟩ = some (.slice (some ⟨b8, o8, none⟩) rs.length cap2) ∧ W'.cell? ⟨b8, o8 + s, none⟩ = some (.int .i64 v))) (by kernel_rfl) (HS37.out _ ((Ext.refl _).drew)) (fun hHeld => ?_)
                            refine wpAnyH_take (i := 0) (oi := { dst := some 146, op := Op.move (.tmp 12), type := 4, pos := "laws.go:473", after := #[], guard := none }) (v := ?_) rfl (by kernel_rfl) (by kernel_rfl) (by kernel_rfl) (fun _ _ _ h => h) (Or.inl ⟨by rfl, ?_⟩) (by assumption) ?_
                            rotate_left
                            · intro w' hSw; (try dsimp only at hSw); go_simp; try with_reducible rfl
                            (try simp only [Act.put, List.setIfInBounds_toArray, List.set_cons_zero, List.set_cons_succ])
                            refine wpAnyH_take (i := 1) (oi := { dst := some 147, op := Op.move (.tmp 146), type := 4, pos := "laws.go:473", after := #[⟨0, .data⟩], guard := none }) (v := ?_) rfl (by kernel_rfl) (by kernel_rfl) (by kernel_rfl) (fun _ _ _ h => h) (Or.inl ⟨by rfl, ?_⟩) (by assumption) ?_
                            rotate_left
                            · intro w' hSw; (try dsimp only at hSw); go_simp; try with_reducible rfl
                            (try simp only [Act.put, List.setIfInBounds_toArray, List.set_cons_zero, List.set_cons_succ])
                            refine wpAnyH_take (i := 2) (oi := { dst := some 148, op := Op.move (.tmp 17), type := 25, pos := "laws.go:473", after := #[⟨1, .guard⟩], guard := some (1, false) }) (v := ?_) rfl (by kernel_rfl) (by kernel_rfl) (by kernel_rfl) (fun _ _ _ h => h) (Or.inl ⟨by rfl, ?_⟩) (by assumption) ?_
                            rotate_left
                            · intro w' hSw; (try dsimp only at hSw); go_simp; try with_reducible rfl
                            (try simp only [Act.put, List.setIfInBounds_toArray, List.set_cons_zero, List.set_cons_succ])
                            refine wpAnyH_take (i := 3) (oi := { dst := some 149, op := Op.move (.tmp 18), type := 3, pos := "laws.go:473", after := #[⟨1, .guard⟩], guard := some (1, false) }) (v := ?_) rfl (by kernel_rfl) (by kernel_rfl) (by kernel_rfl) (fun _ _ _ h => h) (Or.inl ⟨by rfl, ?_⟩) (by assumption) ?_
                            rotate_left
                            · intro w' hSw; (try dsimp only at hSw); go_simp; try with_reducible rfl
                            (try simp only [Act.put, List.setIfInBounds_toArray, List.set_cons_zero, List.set_cons_succ])
                            refine wpAnyH_take (i := 4) (oi := { dst := some 150, op := Op.indexAddr 25 (.tmp 148) (.tmp 149), type := 0, pos := "laws.go:473", after := #[⟨2, .data⟩, ⟨3, .data⟩, ⟨1, .guard⟩], guard := some (1, false) }) (v := ?_) rfl (by kernel_rfl) (by kernel_rfl) (by kernel_rfl) (fun _ _ _ h => h) (Or.inl ⟨by rfl, ?_⟩) (by assumption) ?_
                            rotate_left
                            · intro w' hSw; (try dsimp only at hSw); go_simp; try with_reducible rfl
                            (try simp only [Act.put, List.setIfInBounds_toArray, List.set_cons_zero, List.set_cons_succ])
                            refine wpAnyH_take (i := 5) (oi := { dst := some 151, op := Op.fieldAddr 38 (.tmp 150) 0, type := 0, pos := "laws.go:473", after := #[⟨4, .data⟩, ⟨1, .guard⟩], guard := some (1, false) }) (v := ?_) rfl (by kernel_rfl) (by kernel_rfl) (by kernel_rfl) (fun _ _ _ h => h) (Or.inl ⟨by rfl, ?_⟩) (by assumption) ?_
                            rotate_left
                            · intro w' hSw; (try dsimp only at hSw); go_simp; try with_reducible rfl
                            (try simp only [Act.put, List.setIfInBounds_toArray, List.set_cons_zero, List.set_cons_succ])
                            refine wpAnyH_take (i := 6) (oi := { dst := some 152, op := Op.load 2 (.tmp 151), type := 2, pos := "laws.go:473", after := #[⟨5, .data⟩, ⟨1, .guard⟩], guard := some (1, false) }) (v := ?_) rfl (by kernel_rfl) (by kernel_rfl) (by kernel_rfl) (fun _ _ _ h => h) (Or.inl ⟨by rfl, ?_⟩) (by assumption) ?_
                            rotate_left
                            · intro w' hSw; (try dsimp only at hSw); go_simp; try with_reducible rfl
                            (try simp only [Act.put, List.setIfInBounds_toArray, List.set_cons_zero, List.set_cons_succ])
                            refine wpAnyH_take (i := 7) (oi := { dst := some 153, op := Op.move (.tmp 10), type := 2, pos := "laws.go:473", after := #[⟨1, .guard⟩], guard := some (1, false) }) (v := ?_) rfl (by kernel_rfl) (by kernel_rfl) (by kernel_rfl) (fun _ _ _ h => h) (Or.inl ⟨by rfl, ?_⟩) (by assumption) ?_
                            rotate_left
                            · intro w' hSw; (try dsimp only at hSw); go_simp; try with_reducible rfl
                            (try simp only [Act.put, List.setIfInBounds_toArray, List.set_cons_zero, List.set_cons_succ])
                            refine wpAnyH_take (i := 8) (oi := { dst := some 154, op := Op.binOp BinOp.eql 2 (.tmp 152) (.tmp 153) 2, type := 4, pos := "laws.go:473", after := #[⟨6, .data⟩, ⟨7, .data⟩, ⟨1, .guard⟩], guard := some (1, false) }) (v := ?_) rfl (by kernel_rfl) (by kernel_rfl) (by kernel_rfl) (fun _ _ _ h => h) (Or.inl ⟨by rfl, ?_⟩) (by assumption) ?_
                            rotate_left
                            · intro w' hSw; (try dsimp only at hSw); go_simp; try with_reducible rfl
                            (try simp only [Act.put, List.setIfInBounds_toArray, List.set_cons_zero, List.set_cons_succ])
                            (try rw [g1])
                            refine wpAnyH_take (i := 9) (oi := { dst := some 155, op := Op.move (.tmp 154), type := 4, pos := "laws.go:473", after := #[⟨8, .data⟩, ⟨1, .chain⟩, ⟨1, .guard⟩], guard := some (1, false) }) (v := ?_) rfl (by kernel_rfl) (by kernel_rfl) (by kernel_rfl) (fun _ _ _ h => h) (Or.inl ⟨by rfl, ?_⟩) (by assumption) ?_
                            rotate_left
                            · intro w' hSw; (try dsimp only at hSw); go_simp; try with_reducible rfl
                            (try simp only [Act.put, List.setIfInBounds_toArray, List.set_cons_zero, List.set_cons_succ])
                            refine wpAnyH_take (i := 10) (oi := { dst := some 156, op := Op.move (.tmp 17), type := 25, pos := "laws.go:473", after := #[⟨9, .guard⟩], guard := some (9, true) }) (v := undef) rfl (by kernel_rfl) (by kernel_rfl) (by kernel_rfl) (fun _ _ _ h => h) (Or.inr ⟨by rfl, rfl⟩) (by assumption) ?_
                            (try simp only [Act.put, List.setIfInBounds_toArray, List.set_cons_zero, List.set_cons_succ])
                            refine wpAnyH_take (i := 11) (oi := { dst := some 157, op := Op.move (.tmp 18), type := 3, pos := "laws.go:473", after := #[⟨9, .guard⟩], guard := some (9, true) }) (v := undef) rfl (by kernel_rfl) (by kernel_rfl) (by kernel_rfl) (fun _ _ _ h => h) (Or.inr ⟨by rfl, rfl⟩) (by assumption) ?_
                            (try simp only [Act.put, List.setIfInBounds_toArray, List.set_cons_zero, List.set_cons_succ])
                            refine wpAnyH_take (i := 12) (oi := { dst := some 158, op := Op.indexAddr 25 (.tmp 156) (.tmp 157), type := 0, pos := "laws.go:473", after := #[⟨10, .data⟩, ⟨11, .data⟩, ⟨9, .guard⟩], guard := some (9, true) }) (v := undef) rfl (by kernel_rfl) (by kernel_rfl) (by kernel_rfl) (fun _ _ _ h => h) (Or.inr ⟨by rfl, rfl⟩) (by assumption) ?_
                            (try simp only [Act.put, List.setIfInBounds_toArray, List.set_cons_zero, List.set_cons_succ])
                            refine wpAnyH_take (i := 13) (oi := { dst := some 159, op := Op.fieldAddr 38 (.tmp 158) 1, type := 0, pos := "laws.go:473", after := #[⟨12, .data⟩, ⟨9, .guard⟩], guard := some (9, true) }) (v := undef) rfl (by kernel_rfl) (by kernel_rfl) (by kernel_rfl) (fun _ _ _ h => h) (Or.inr ⟨by rfl, rfl⟩) (by assumption) ?_
                            (try simp only [Act.put, List.setIfInBounds_toArray, List.set_cons_zero, List.set_cons_succ])
                            refine wpAnyH_take (i := 14) (oi := { dst := some 160, op := Op.load 2 (.tmp 159), type := 2, pos := "laws.go:473", after := #[⟨13, .data⟩, ⟨9, .guard⟩], guard := some (9, true) }) (v := undef) rfl (by kernel_rfl) (by kernel_rfl) (by kernel_rfl) (fun _ _ _ h => h) (Or.inr ⟨by rfl, rfl⟩) (by assumption) ?_
                            (try simp only [Act.put, List.setIfInBounds_toArray, List.set_cons_zero, List.set_cons_succ])
                            refine wpAnyH_take (i := 15) (oi := { dst := some 161, op := Op.move (.tmp 11), type := 2, pos := "laws.go:473", after := #[⟨9, .guard⟩], guard := some (9, true) }) (v := undef) rfl (by kernel_rfl) (by kernel_rfl) (by kernel_rfl) (fun _ _ _ h => h) (Or.inr ⟨by rfl, rfl⟩) (by assumption) ?_
                            (try simp only [Act.put, List.setIfInBounds_toArray, List.set_cons_zero, List.set_cons_succ])
                            refine wpAnyH_take (i := 16) (oi := { dst := some 162, op := Op.binOp BinOp.eql 2 (.tmp 160) (.tmp 161) 2, type := 4, pos := "laws.go:473", after := #[⟨14, .data⟩, ⟨15, .data⟩, ⟨9, .guard⟩], guard := some (9, true) }) (v := undef) rfl (by kernel_rfl) (by kernel_rfl) (by kernel_rfl) (fun _ _ _ h => h) (Or.inr ⟨by rfl, rfl⟩) (by assumption) ?_
                            (try simp only [Act.put, List.setIfInBounds_toArray, List.set_cons_zero, List.set_cons_succ])
                            refine wpAnyH_take (i := 17) (oi := { dst := some 163, op := Op.pick (.tmp 155) (.tmp 162) (Operand.const (Value.bool false)), type := 4, pos := "laws.go:473", after := #[⟨9, .data⟩, ⟨16, .data⟩, ⟨1, .guard⟩], guard := some (1, false) }) (v := ?_) rfl (by kernel_rfl) (by kernel_rfl) (by kernel_rfl) (fun _ _ _ h => h) (Or.inl ⟨by rfl, ?_⟩) (by assumption) ?_
                            rotate_left
                            · intro w' hSw; (try dsimp only at hSw); go_simp; try with_reducible rfl
                            (try simp only [Act.put, List.setIfInBounds_toArray, List.set_cons_zero, List.set_cons_succ])
                            refine wpAnyH_take (i := 18) (oi := { dst := some 164, op := Op.move (.tmp 163), type := 4, pos := "laws.go:473", after := #[⟨17, .data⟩, ⟨9, .chain⟩, ⟨1, .guard⟩], guard := some (1, false) }) (v := ?_) rfl (by kernel_rfl) (by kernel_rfl) (by kernel_rfl) (fun _ _ _ h => h) (Or.inl ⟨by rfl, ?_⟩) (by assumption) ?_
                            rotate_left
                            · intro w' hSw; (try dsimp only at hSw); go_simp; try with_reducible rfl
                            (try simp only [Act.put, List.setIfInBounds_toArray, List.set_cons_zero, List.set_cons_succ])
                            refine wpAnyH_take (i := 19) (oi := { dst := some 165, op := Op.move (.tmp 17), type := 25, pos := "laws.go:473", after := #[⟨18, .guard⟩], guard := some (18, true) }) (v := undef) rfl (by kernel_rfl) (by kernel_rfl) (by kernel_rfl) (fun _ _ _ h => h) (Or.inr ⟨by rfl, rfl⟩) (by assumption) ?_
                            (try simp only [Act.put, List.setIfInBounds_toArray, List.set_cons_zero, List.set_cons_succ])
                            refine wpAnyH_take (i := 20) (oi := { dst := some 166, op := Op.move (.tmp 18), type := 3, pos := "laws.go:473", after := #[⟨18, .guard⟩], guard := some (18, true) }) (v := undef) rfl (by kernel_rfl) (by kernel_rfl) (by kernel_rfl) (fun _ _ _ h => h) (Or.inr ⟨by rfl, rfl⟩) (by assumption) ?_
                            (try simp only [Act.put, List.setIfInBounds_toArray, List.set_cons_zero, List.set_cons_succ])
                            refine wpAnyH_take (i := 21) (oi := { dst := some 167, op := Op.indexAddr 25 (.tmp 165) (.tmp 166), type := 0, pos := "laws.go:473", after := #[⟨19, .data⟩, ⟨20, .data⟩, ⟨18, .guard⟩], guard := some (18, true) }) (v := undef) rfl (by kernel_rfl) (by kernel_rfl) (by kernel_rfl) (fun _ _ _ h => h) (Or.inr ⟨by rfl, rfl⟩) (by assumption) ?_
                            (try simp only [Act.put, List.setIfInBounds_toArray, List.set_cons_zero, List.set_cons_succ])
                            refine wpAnyH_take (i := 22) (oi := { dst := some 168, op := Op.fieldAddr 38 (.tmp 167) 2, type := 0, pos := "laws.go:473", after := #[⟨21, .data⟩, ⟨18, .guard⟩], guard := some (18, true) }) (v := undef) rfl (by kernel_rfl) (by kernel_rfl) (by kernel_rfl) (fun _ _ _ h => h) (Or.inr ⟨by rfl, rfl⟩) (by assumption) ?_
                            (try simp only [Act.put, List.setIfInBounds_toArray, List.set_cons_zero, List.set_cons_succ])
                            refine wpAnyH_take (i := 23) (oi := { dst := some 169, op := Op.load 2 (.tmp 168), type := 2, pos := "laws.go:473", after := #[⟨22, .data⟩, ⟨18, .guard⟩], guard := some (18, true) }) (v := undef) rfl (by kernel_rfl) (by kernel_rfl) (by kernel_rfl) (fun _ _ _ h => h) (Or.inr ⟨by rfl, rfl⟩) (by assumption) ?_
                            (try simp only [Act.put, List.setIfInBounds_toArray, List.set_cons_zero, List.set_cons_succ])
                            refine wpAnyH_take (i := 24) (oi := { dst := some 170, op := Op.fieldAddr 32 (.tmp 6) 1, type := 0, pos := "laws.go:473", after := #[⟨18, .guard⟩], guard := some (18, true) }) (v := undef) rfl (by kernel_rfl) (by kernel_rfl) (by kernel_rfl) (fun _ _ _ h => h) (Or.inr ⟨by rfl, rfl⟩) (by assumption) ?_
                            (try simp only [Act.put, List.setIfInBounds_toArray, List.set_cons_zero, List.set_cons_succ])
                            refine wpAnyH_take (i := 25) (oi := { dst := some 171, op := Op.load 26 (.tmp 170), type := 26, pos := "laws.go:473", after := #[⟨24, .data⟩, ⟨18, .guard⟩], guard := some (18, true) }) (v := undef) rfl (by kernel_rfl) (by kernel_rfl) (by kernel_rfl) (fun _ _ _ h => h) (Or.inr ⟨by rfl, rfl⟩) (by assumption) ?_
                            (try simp only [Act.put, List.setIfInBounds_toArray, List.set_cons_zero, List.set_cons_succ])
                            refine wpAnyH_take (i := 26) (oi := { dst := some 172, op := Op.move (.tmp 10), type := 2, pos := "laws.go:473", after := #[⟨18, .guard⟩], guard := some (18, true) }) (v := undef) rfl (by kernel_rfl) (by kernel_rfl) (by kernel_rfl) (fun _ _ _ h => h) (Or.inr ⟨by rfl, rfl⟩) (by assumption) ?_
                            (try simp only [Act.put, List.setIfInBounds_toArray, List.set_cons_zero, List.set_cons_succ])
                            refine wpAnyH_take (i := 27) (oi := { dst := some 173, op := Op.binOp BinOp.sub 2 (.tmp 172) (Operand.const (Value.int IntKind.i64 1)) 2, type := 2, pos := "laws.go:473", after := #[⟨26, .data⟩, ⟨18, .guard⟩], guard := some (18, true) }) (v := undef) rfl (by kernel_rfl) (by kernel_rfl) (by kernel_rfl) (fun _ _ _ h => h) (Or.inr ⟨by rfl, rfl⟩) (by assumption) ?_
                            (try simp only [Act.put, List.setIfInBounds_toArray, List.set_cons_zero, List.set_cons_succ])
                            refine wpAnyH_take (i := 28) (oi := { dst := some 174, op := Op.indexAddr 26 (.tmp 171) (.tmp 173), type := 0, pos := "laws.go:473", after := #[⟨25, .data⟩, ⟨27, .data⟩, ⟨18, .guard⟩], guard := some (18, true) }) (v := undef) rfl (by kernel_rfl) (by kernel_rfl) (by kernel_rfl) (fun _ _ _ h => h) (Or.inr ⟨by rfl, rfl⟩) (by assumption) ?_
                            (try simp only [Act.put, List.setIfInBounds_toArray, List.set_cons_zero, List.set_cons_succ])
                            refine wpAnyH_take (i := 29) (oi := { dst := some 175, op := Op.load 2 (.tmp 174), type := 2, pos := "laws.go:473", after := #[⟨28, .data⟩, ⟨18, .guard⟩], guard := some (18, true) }) (v := undef) rfl (by kernel_rfl) (by kernel_rfl) (by kernel_rfl) (fun _ _ _ h => h) (Or.inr ⟨by rfl, rfl⟩) (by assumption) ?_
                            (try simp only [Act.put, List.setIfInBounds_toArray, List.set_cons_zero, List.set_cons_succ])
                            refine wpAnyH_take (i := 30) (oi := { dst := some 176, op := Op.binOp BinOp.eql 2 (.tmp 169) (.tmp 175) 2, type := 4, pos := "laws.go:473", after := #[⟨23, .data⟩, ⟨29, .data⟩, ⟨18, .guard⟩], guard := some (18, true) }) (v := undef) rfl (by kernel_rfl) (by kernel_rfl) (by kernel_rfl) (fun _ _ _ h => h) (Or.inr ⟨by rfl, rfl⟩) (by assumption) ?_
                            (try simp only [Act.put, List.setIfInBounds_toArray, List.set_cons_zero, List.set_cons_succ])
                            refine wpAnyH_take (i := 31) (oi := { dst := some 177, op := Op.pick (.tmp 164) (.tmp 176) (Operand.const (Value.bool false)), type := 4, pos := "laws.go:473", after := #[⟨18, .data⟩, ⟨30, .data⟩, ⟨1, .guard⟩], guard := some (1, false) }) (v := ?_) rfl (by kernel_rfl) (by kernel_rfl) (by kernel_rfl) (fun _ _ _ h => h) (Or.inl ⟨by rfl, ?_⟩) (by assumption) ?_
                            rotate_left
                            · intro w' hSw; (try dsimp only at hSw); go_simp; try with_reducible rfl
                            (try simp only [Act.put, List.setIfInBounds_toArray, List.set_cons_zero, List.set_cons_succ])
                            refine wpAnyH_take (i := 32) (oi := { dst := some 178, op := Op.pick (.tmp 147) (Operand.const (Value.bool true)) (.tmp 177), type := 4, pos := "laws.go:473", after := #[⟨1, .data⟩, ⟨31, .data⟩], guard := none }) (v := ?_) rfl (by kernel_rfl) (by kernel_rfl) (by kernel_rfl) (fun _ _ _ h => h) (Or.inl ⟨by rfl, ?_⟩) (by assumption) ?_
                            rotate_left
                            · intro w' hSw; (try dsimp only at hSw); go_simp; try with_reducible rfl
                            (try simp only [Act.put, List.setIfInBounds_toArray, List.set_cons_zero, List.set_cons_succ])
                            refine wpAnyH_take (i := 33) (oi := { dst := some 12, op := Op.assign (.tmp 178), type := 4, pos := "laws.go:473", after := #[⟨32, .data⟩, ⟨18, .chain⟩, ⟨0, .phase⟩, ⟨1, .phase⟩, ⟨2, .phase⟩, ⟨3, .phase⟩, ⟨4, .phase⟩, ⟨5, .phase⟩, ⟨6, .phase⟩, ⟨7, .phase⟩, ⟨8, .phase⟩, ⟨9, .phase⟩, ⟨10, .phase⟩, ⟨11, .phase⟩, ⟨12, .phase⟩, ⟨13, .phase⟩, ⟨14, .phase⟩, ⟨15, .phase⟩, ⟨16, .phase⟩, ⟨17, .phase⟩, ⟨18, .phase⟩, ⟨19, .phase⟩, ⟨20, .phase⟩, ⟨21, .phase⟩, ⟨22, .phase⟩, ⟨23, .phase⟩, ⟨24, .phase⟩, ⟨25, .phase⟩, ⟨26, .phase⟩, ⟨27, .phase⟩, ⟨28, .phase⟩, ⟨29, .phase⟩, ⟨30, .phase⟩, ⟨31, .phase⟩, ⟨32, .phase⟩], guard := none }) (v := ?_) rfl (by kernel_rfl) (by kernel_rfl) (by kernel_rfl) (fun _ _ _ h => h) (Or.inl ⟨by rfl, ?_⟩) (by assumption) ?_
                            rotate_left
                            · intro w' hSw; (try dsimp only at hSw); go_simp; try with_reducible rfl
                            (try simp only [Act.put, List.setIfInBounds_toArray, List.set_cons_zero, List.set_cons_succ])
                            refine wpAnyH_done (by kernel_rfl) ?_ _
                            go_wp2
                            exact ⟨⟨j + 1, false, by omega, by go_num, rfl, HF, HE2.out.drew⟩, by simp [intOf]; omega⟩
                      · have hje : j = z.certs.length := by omega
                        have hljI : ¬ (j : Int) < (z.certs.length : Int) := by omega
                        have HF : Hid (fb = ((v == 0) || Msg.hit ((s : Int) + 1) bb v (Msg.cat ms (refs.take (k + 1))))) := by show _ = _; rw [HK2.out, HFb.out, hje, List.take_length]
                        clear hje HFb
                        go_wp2
                        exact ⟨⟨k + 1, fb, by omega, by go_num, rfl, HF, HE1.out.trans HE2.out⟩, by simp [intOf]; omega⟩
                  · have hke : k = refs.length := by omega
                    have hltI : ¬ (k : Int) < (refs.length : Int) := by omega
                    have hfb : fb = true := by rw [HFb.out, hke, List.take_length]; exact HAll.out
                    subst hfb
                    have cL8 := BL8.out.2.2
                    have HE9 : Hid (Ext wo wu) := HE.out.trans HE1.out
                    clear hke HFb HAll
                    by_cases hb0 : (0 : Int) ≤ bb
                    · by_cases hv0 : v = 0
                      · have g3 : (v == 0) = true := by simpa using hv0
                        go_wp2_with fail
                        refine (HSp.out _ M8.out I8.out).mono ?_
                        rintro e w9 ⟨v9, g9, rfl, -, hO9, hb'⟩
                        have hI9 := hO9.slice
                        obtain ⟨a9, c9, rfl, h91, h92, h93⟩ := hI9
                        obtain ⟨b10, o10, rfl, hb10, hN10⟩ := h93 (by omega)
                        have d10 := hN10 s v HRv.out
                        unfold maxLen at h92
                        unfold Led.jr
                        have HE10 : Hid (Ext wo w9) := HE9.out.trans hb'
                        clear hb' hO9 hN10
                        subst hv0
                        go_wp2
                        exact ⟨⟨s + 1, by omega, by go_num, HE10⟩, by simp [intOf]; omega⟩
                      · have g3 : (v == 0) = false := by simpa using hv0
                        go_wp2
                        exact ⟨⟨s + 1, by omega, by go_num, HE9⟩, by simp [intOf]; omega⟩
                    · go_wp2
                      exact ⟨⟨s + 1, by omega, by go_num, HE9⟩, by simp [intOf]; omega⟩
          · have hlsI : ¬ (s : Int) + 1 ≤ (rs.length : Int) := by omega
            have HS1 : Hid (∀ W', Ext wq W' → W'.cell? ⟨L, 1, none⟩ = some (.slice a2 rs.length cap2)) := fun W' he => (BL7.out.ext he).2.2
            clear M6 I6 E6 BL6 O6
            go_wp2
            refine wp_region_held_drew (S := (fun W' : World => W'.cell? ⟨L, 1, none⟩ = some (.slice a2 rs.length cap2))) (by kernel_rfl) (HS1.out _ ((Ext.refl _).drew)) (fun hHeld => ?_)
            refine wpAnyH_take (i := 0) (oi := { dst := some 206, op := Op.fieldAddr 32 (.tmp 6) 1, type := 0, pos := "laws.go:480", after := #[], guard := none }) (v := ?_) rfl (by kernel_rfl) (by kernel_rfl) (by kernel_rfl) (fun _ _ _ h => h) (Or.inl ⟨by rfl, ?_⟩) (by assumption) ?_
            rotate_left
            · intro w' hSw; (try dsimp only at hSw); go_simp; try with_reducible rfl
            (try simp only [Act.put, List.setIfInBounds_toArray, List.set_cons_zero, List.set_cons_succ])
            refine wpAnyH_take (i := 1) (oi := { dst := some 207, op := Op.load 26 (.tmp 206), type := 26, pos := "laws.go:480", after := #[⟨0, .data⟩], guard := none }) (v := ?_) rfl (by kernel_rfl) (by kernel_rfl) (by kernel_rfl) (fun _ _ _ h => h) (Or.inl ⟨by rfl, ?_⟩) (by assumption) ?_
            rotate_left
            · intro w' hSw; (try dsimp only at hSw); go_simp; try with_reducible rfl
            (try simp only [Act.put, List.setIfInBounds_toArray, List.set_cons_zero, List.set_cons_succ])
            refine wpAnyH_take (i := 2) (oi := { dst := some 208, op := Op.call { callee := Callee.builtin Builtin.len, args := #[.tmp 207], argTypes := #[26] }, type := 3, pos := "laws.go:480", after := #[⟨1, .data⟩], guard := none }) (v := ?_) rfl (by kernel_rfl) (by kernel_rfl) (by kernel_rfl) (fun _ _ _ h => h) (Or.inl ⟨by rfl, ?_⟩) (by assumption) ?_
            rotate_left
            · intro w' hSw; (try dsimp only at hSw); go_simp; try with_reducible rfl
            (try simp only [Act.put, List.setIfInBounds_toArray, List.set_cons_zero, List.set_cons_succ])
            refine wpAnyH_take (i := 3) (oi := { dst := some 209, op := Op.move (.tmp 3), type := 2, pos := "laws.go:480", after := #[], guard := none }) (v := ?_) rfl (by kernel_rfl) (by kernel_rfl) (by kernel_rfl) (fun _ _ _ h => h) (Or.inl ⟨by rfl, ?_⟩) (by assumption) ?_
            rotate_left
            · intro w' hSw; (try dsimp only at hSw); go_simp; try with_reducible rfl
            (try simp only [Act.put, List.setIfInBounds_toArray, List.set_cons_zero, List.set_cons_succ])
            refine wpAnyH_take (i := 4) (oi := { dst := some 210, op := Op.move (.tmp 4), type := 24, pos := "laws.go:480", after := #[], guard := none }) (v := ?_) rfl (by kernel_rfl) (by kernel_rfl) (by kernel_rfl) (fun _ _ _ h => h) (Or.inl ⟨by rfl, ?_⟩) (by assumption) ?_
            rotate_left
            · intro w' hSw; (try dsimp only at hSw); go_simp; try with_reducible rfl
            (try simp only [Act.put, List.setIfInBounds_toArray, List.set_cons_zero, List.set_cons_succ])
            refine wpAnyH_take (i := 5) (oi := { dst := some 211, op := Op.move (.tmp 5), type := 26, pos := "laws.go:480", after := #[], guard := none }) (v := ?_) rfl (by kernel_rfl) (by kernel_rfl) (by kernel_rfl) (fun _ _ _ h => h) (Or.inl ⟨by rfl, ?_⟩) (by assumption) ?_
            rotate_left
            · intro w' hSw; (try dsimp only at hSw); go_simp; try with_reducible rfl
            (try simp only [Act.put, List.setIfInBounds_toArray, List.set_cons_zero, List.set_cons_succ])
            refine wpAnyH_ready (rs := [6]) (by kernel_rfl) (by simp) (AllReadyH.cons rfl (fun K hK => ?_) AllReadyH.nil)
            go_simp
            refine (HSp.out _ (M7.out.ext (Ext.refl _).drew) (I7.out.ext (Ext.refl _).drew)).mono ?_
            rintro e y1 ⟨v9, g9, rfl, -, hO9, hb⟩
            obtain ⟨a9, c9, rfl, -⟩ := id hO9
            unfold Led.jr
            have X1 : Hid (Ext wq y1) := ((Ext.refl _).drew).trans hb
            clear hb hO9
            refine hK.out _ _ (by exact HS1.out _ X1.out) (fun hHeld1 => ?_)
            clear hK K
            refine wpAnyH_take (i := 7) (oi := { dst := some 213, op := Op.field 32 (.tmp 212) 1, type := 26, pos := "laws.go:480", after := #[⟨6, .data⟩], guard := none }) (v := ?_) rfl (by kernel_rfl) (by kernel_rfl) (by kernel_rfl) (fun _ _ _ h => h) (Or.inl ⟨by rfl, ?_⟩) (by assumption) ?_
            rotate_left
            · intro w' hSw; (try dsimp only at hSw); go_simp; try with_reducible rfl
            (try simp only [Act.put, List.setIfInBounds_toArray, List.set_cons_zero, List.set_cons_succ])
            refine wpAnyH_take (i := 8) (oi := { dst := some 214, op := Op.call { callee := Callee.builtin Builtin.len, args := #[.tmp 213], argTypes := #[26] }, type := 3, pos := "laws.go:480", after := #[⟨7, .data⟩], guard := none }) (v := ?_) rfl (by kernel_rfl) (by kernel_rfl) (by kernel_rfl) (fun _ _ _ h => h) (Or.inl ⟨by rfl, ?_⟩) (by assumption) ?_
            rotate_left
            · intro w' hSw; (try dsimp only at hSw); go_simp; try with_reducible rfl
            (try simp only [Act.put, List.setIfInBounds_toArray, List.set_cons_zero, List.set_cons_succ])
            refine wpAnyH_take (i := 9) (oi := { dst := some 215, op := Op.binOp BinOp.eql 3 (.tmp 208) (.tmp 214) 3, type := 4, pos := "laws.go:480", after := #[⟨2, .data⟩, ⟨8, .data⟩], guard := none }) (v := ?_) rfl (by kernel_rfl) (by kernel_rfl) (by kernel_rfl) (fun _ _ _ h => h) (Or.inl ⟨by rfl, ?_⟩) (by assumption) ?_
            rotate_left
            · intro w' hSw; (try dsimp only at hSw); go_simp; try with_reducible rfl
            (try simp only [Act.put, List.setIfInBounds_toArray, List.set_cons_zero, List.set_cons_succ])
            refine wpAnyH_take (i := 10) (oi := { dst := some 2, op := Op.assign (.tmp 215), type := 4, pos := "laws.go:480", after := #[⟨9, .data⟩, ⟨6, .chain⟩, ⟨0, .phase⟩, ⟨1, .phase⟩, ⟨2, .phase⟩, ⟨3, .phase⟩, ⟨4, .phase⟩, ⟨5, .phase⟩, ⟨6, .phase⟩, ⟨7, .phase⟩, ⟨8, .phase⟩, ⟨9, .phase⟩], guard := none }) (v := ?_) rfl (by kernel_rfl) (by kernel_rfl) (by kernel_rfl) (fun _ _ _ h => h) (Or.inl ⟨by rfl, ?_⟩) (by assumption) ?_
            rotate_left
            · intro w' hSw; (try dsimp only at hSw); go_simp; try with_reducible rfl
            (try simp only [Act.put, List.setIfInBounds_toArray, List.set_cons_zero, List.set_cons_succ])
            refine wpAnyH_done (by kernel_rfl) ?_ _
            (try go_wp2)
            go_ret
            exact ⟨ret_bool (by simp), E7.out.trans X1.out⟩
  · have g1 : (c != 0) = true := by simpa using hc0
    have P7 : Hid ((c == c) = true) := by show _ = _; simp
    clear HV hc0
    go_wp2
    rw [← hw5]
    generalize w4.heap.size = L at *
    clear hw5
    have HS0 : Hid (∀ W', Ext w5 W' → W'.cell? ⟨L, 0, none⟩ = some (.int .i64 c)) := fun W' he => (BL.out.ext he).2.1
    refine wp_region_held_drew (S := (fun W' : World => W'.cell? ⟨L, 0, none⟩ = some (.int .i64 c))) (by kernel_rfl) (HS0.out _ ((Ext.refl _).drew)) (fun hHeld => ?_)
    refine wpAnyH_take (i := 0) (oi := { dst := some 34, op := Op.move (.tmp 3), type := 2, pos := "laws.go:449", after := #[], guard := none }) (v := ?_) rfl (by kernel_rfl) (by kernel_rfl) (by kernel_rfl) (fun _ _ _ h => h) (Or.inl ⟨by rfl, ?_⟩) (by assumption) ?_
    rotate_left
    · intro w' hSw; (try dsimp only at hSw); go_simp; try with_reducible rfl
    (try simp only [Act.put, List.setIfInBounds_toArray, List.set_cons_zero, List.set_cons_succ])
    refine wpAnyH_take (i := 1) (oi := { dst := some 35, op := Op.move (.tmp 4), type := 24, pos := "laws.go:449", after := #[], guard := none }) (v := ?_) rfl (by kernel_rfl) (by kernel_rfl) (by kernel_rfl) (fun _ _ _ h => h) (Or.inl ⟨by rfl, ?_⟩) (by assumption) ?_
    rotate_left
    · intro w' hSw; (try dsimp only at hSw); go_simp; try with_reducible rfl
    (try simp only [Act.put, List.setIfInBounds_toArray, List.set_cons_zero, List.set_cons_succ])
    refine wpAnyH_take (i := 2) (oi := { dst := some 36, op := Op.move (.tmp 5), type := 26, pos := "laws.go:449", after := #[], guard := none }) (v := ?_) rfl (by kernel_rfl) (by kernel_rfl) (by kernel_rfl) (fun _ _ _ h => h) (Or.inl ⟨by rfl, ?_⟩) (by assumption) ?_
    rotate_left
    · intro w' hSw; (try dsimp only at hSw); go_simp; try with_reducible rfl
    (try simp only [Act.put, List.setIfInBounds_toArray, List.set_cons_zero, List.set_cons_succ])
    refine wpAnyH_take (i := 5) (oi := { dst := some 39, op := Op.fieldAddr 32 (.tmp 6) 0, type := 0, pos := "laws.go:449", after := #[], guard := none }) (v := ?_) rfl (by kernel_rfl) (by kernel_rfl) (by kernel_rfl) (fun _ _ _ h => h) (Or.inl ⟨by rfl, ?_⟩) (by assumption) ?_
    rotate_left
    · intro w' hSw; (try dsimp only at hSw); go_simp; try with_reducible rfl
    (try simp only [Act.put, List.setIfInBounds_toArray, List.set_cons_zero, List.set_cons_succ])
    refine wpAnyH_take (i := 6) (oi := { dst := some 40, op := Op.load 2 (.tmp 39), type := 2, pos := "laws.go:449", after := #[⟨5, .data⟩], guard := none }) (v := ?_) rfl (by kernel_rfl) (by kernel_rfl) (by kernel_rfl) (fun _ _ _ h => h) (Or.inl ⟨by rfl, ?_⟩) (by assumption) ?_
    rotate_left
    · intro w' hSw; (try dsimp only at hSw); go_simp; try with_reducible rfl
    (try simp only [Act.put, List.setIfInBounds_toArray, List.set_cons_zero, List.set_cons_succ])
    refine wpAnyH_ready (rs := [3]) (by kernel_rfl) (by simp) (AllReadyH.cons rfl (fun K hK => ?_) AllReadyH.nil)
    go_simp
    refine (HSp.out _ (M5.out.ext (Ext.refl _).drew) (I5.out.ext (Ext.refl _).drew)).mono ?_
    rintro e y1 ⟨v9, g9, rfl, -, hO9, hb⟩
    obtain ⟨a9, c9, rfl, -⟩ := id hO9
    unfold Led.jr
    have X1 : Hid (Ext w5 y1) := ((Ext.refl _).drew).trans hb
    clear hb hO9
    refine hK.out _ _ (by exact HS0.out _ X1.out) (fun hHeld1 => ?_)
    clear hK K
    refine wpAnyH_take (i := 4) (oi := { dst := some 38, op := Op.field 32 (.tmp 37) 0, type := 2, pos := "laws.go:449", after := #[⟨3, .data⟩], guard := none }) (v := ?_) rfl (by kernel_rfl) (by kernel_rfl) (by kernel_rfl) (fun _ _ _ h => h) (Or.inl ⟨by rfl, ?_⟩) (by assumption) ?_
    rotate_left
    · intro w' hSw; (try dsimp only at hSw); go_simp; try with_reducible rfl
    (try simp only [Act.put, List.setIfInBounds_toArray, List.set_cons_zero, List.set_cons_succ])
    refine wpAnyH_take (i := 7) (oi := { dst := some 41, op := Op.binOp BinOp.eql 2 (.tmp 38) (.tmp 40) 2, type := 4, pos := "laws.go:449", after := #[⟨4, .data⟩, ⟨6, .data⟩], guard := none }) (v := ?_) rfl (by kernel_rfl) (by kernel_rfl) (by kernel_rfl) (fun _ _ _ h => h) (Or.inl ⟨by rfl, ?_⟩) (by assumption) ?_
    rotate_left
    · intro w' hSw; (try dsimp only at hSw); go_simp; try with_reducible rfl
    (try simp only [Act.put, List.setIfInBounds_toArray, List.set_cons_zero, List.set_cons_succ])
    (try rw [P7.out])
    refine wpAnyH_take (i := 8) (oi := { dst := some 2, op := Op.assign (.tmp 41), type := 4, pos := "laws.go:449", after := #[⟨7, .data⟩, ⟨3, .chain⟩, ⟨0, .phase⟩, ⟨1, .phase⟩, ⟨2, .phase⟩, ⟨3, .phase⟩, ⟨4, .phase⟩, ⟨5, .phase⟩, ⟨6, .phase⟩, ⟨7, .phase⟩], guard := none }) (v := ?_) rfl (by kernel_rfl) (by kernel_rfl) (by kernel_rfl) (fun _ _ _ h => h) (Or.inl ⟨by rfl, ?_⟩) (by assumption) ?_
    rotate_left
    · intro w' hSw; (try dsimp only at hSw); go_simp; try with_reducible rfl
    (try simp only [Act.put, List.setIfInBounds_toArray, List.set_cons_zero, List.set_cons_succ])
    refine wpAnyH_done (by kernel_rfl) ?_ _
    (try go_wp2)
    go_ret
    exact ⟨ret_bool (by simp), E5.out.trans X1.out⟩
theorem lawPicks_all (v : Value) (w : World) (h : ∃ ad len cap, v = .slice ad len cap ∧ (len ≤ 1048576 → CodeOk w w.heap.size v)) :
    Calls Try.prog 4 #[v] w fun e w' => e = .returned (.bool true) ∧ Ext w w' := by
  obtain ⟨ad, len, cap, rfl, hc⟩ := h
  by_cases hl : 1048576 < len
  · exact lawPicks_big ad len cap w hl
  · exact lawPicks _ w (hc (by omega))
end Go.Proofs.Ytflojfkalnojbaa
