/- the text of a request: what it is; the specification's. -/
import Derived.Test.YtdjnkchaapcjpaaGreatDoorP6
import Derived.Test.YtdjnkchaapcjpaaGreatDoorO8
import Derived.Deep.RegionHeld3
namespace Go.Proofs.YtdjnkchaapcjpaaGreatDoor
open Go.RowKit
namespace Opr
def opsW : List Opn → List (List UInt8)
  | [] => []
  | o :: t => text o :: t.flatMap (fun z => [[59], text z])
theorem opsW_snoc (l : List Opn) (o : Opn) : opsW (l ++ [o]) = opsW l ++ (if l.length = 0 then [text o] else [[59], text o]) := by
  cases l with
  | nil => rfl
  | cons x t => simp [opsW]
def headW (r : Rq) : List (List UInt8) := [[99, 108, 105, 101, 110, 116], Lib.itoa r.client, Lib.itoa r.number, [97, 116], Lib.itoa r.time, [58]]
def textR (r : Rq) : List UInt8 := Lib.join (headW r ++ opsW r.ops) [32]
def textRV (r : Rq) : Int × List UInt8 := if faultR r ≠ 0 then (faultR r, []) else (0, textR r)
theorem joinTail_app (a b : List (List UInt8)) : Lib.joinTail [32] (a ++ b) = Lib.joinTail [32] a ++ Lib.joinTail [32] b := by simp [Lib.joinTail]
theorem join_app (a b : List (List UInt8)) (h : a ≠ []) : Lib.join (a ++ b) [32] = Lib.join a [32] ++ Lib.joinTail [32] b := by
  cases a with
  | nil => exact absurd rfl h
  | cons x t => rw [List.cons_append, Lib.join_cons, Lib.join_cons, joinTail_app, List.append_assoc]
theorem textR_eq (r : Rq) : textR r = Lib.join (headW r) [32] ++ Lib.joinTail [32] (opsW r.ops) := join_app _ _ (by simp [headW])
theorem faultR_zero {r : Rq} (h : faultR r = 0) : okHead r ∧ 1 ≤ r.ops.length ∧ r.ops.length ≤ 3 ∧ ∀ z ∈ r.ops, fault z = 0 := by
  have hk := h
  unfold faultR at h
  split at h
  · cases h
  split at h
  · cases h
  split at h
  · cases h
  split at h
  · cases h
  split at h
  · rename_i hx; exact absurd h hx
  rename_i h1 h2 h3 h4 h5
  refine ⟨⟨by simpa using h1, by simpa using h2, by simpa using h3⟩, by omega, by omega, ?_⟩
  have h6 : firstF r.ops = 0 := by simpa using h5
  have aux : ∀ l : List Opn, firstF l = 0 → ∀ z ∈ l, fault z = 0 := by
    intro l
    induction l with
    | nil => intro _ z hz; cases hz
    | cons x t ih =>
      intro hf z hz
      unfold firstF at hf
      split at hf
      · rename_i hx; exact absurd hf hx
      · rename_i hx
        rcases List.mem_cons.1 hz with rfl | hz
        · simpa using hx
        · exact ih hf z hz
  exact aux _ h6
theorem text_len {z : Opn} (h : fault z = 0) : (text z).length ≤ 400 := by
  have hb := Opr.bounds h
  have hp := (Opr.fault_zero h).2.2
  refine join_short _ (fun x hx => ?_) ?_
  · unfold words at hx
    simp only [List.mem_cons, List.mem_append] at hx
    rcases hx with rfl | hx | hx | hx | hx | hx
    · unfold word; split <;> (try split) <;> (try split) <;> (try split) <;> (try split) <;> (try split) <;> (try split) <;> decide
    · split at hx
      · simp only [List.mem_singleton] at hx; subst hx
        have := few_of_ok (s := z.path) (hp (by assumption)); rw [len_eq]; omega
      · cases hx
    · split at hx
      · simp only [List.mem_singleton] at hx; subst hx; have := itoa_len z.data (by omega) (by omega); omega
      · cases hx
    · split at hx
      · simp only [List.mem_singleton] at hx; subst hx; have := verT_len z.version (by omega) (by omega); omega
      · cases hx
    · split at hx
      · simp only [List.mem_singleton] at hx; subst hx; decide
      · cases hx
    · split at hx
      · simp only [List.mem_singleton] at hx; subst hx; decide
      · cases hx
  · unfold words
    simp only [List.length_cons, List.length_append]
    have e : ∀ (b : Bool) (x : List UInt8), (if b = true then [x] else []).length ≤ 1 := by intro b x; split <;> simp
    have e1 := e (hasPath z.kind) z.path.data.toList
    have e2 := e (hasData z.kind) (Lib.itoa z.data)
    have e3 := e (hasVer z.kind) (verT z.version)
    have e4 := e z.seq seqW
    have e5 := e z.own ownW
    omega
theorem heads {r : Rq} (h : okHead r) : 1 ≤ r.client ∧ r.client ≤ 9 ∧ 1 ≤ r.number ∧ r.number ≤ 99 ∧ 0 ≤ r.time ∧ r.time ≤ 9000 := by
  obtain ⟨h1, h2, h3⟩ := h
  simp only [Bool.and_eq_true, decide_eq_true_eq] at h1 h2 h3
  omega
end Opr
theorem digits_any (n : Int) (h0 : 0 ≤ n) (h1 : n ≤ 99999) (w : World) : Calls Tryz.prog 131 #[.int .i64 n] w fun e w' => e = .returned (.string (mkB (Lib.itoa n))) ∧ Ext w w' := by
  obtain ⟨m, rfl⟩ : ∃ m : Nat, n = (m : Int) := ⟨n.toNat, by omega⟩
  rw [Lib.itoa_nonneg]
  exact l1Digits_any m (by omega) w
theorem headW_eq (r : Rq) : Lib.join (Opr.headW r) [32] = [99, 108, 105, 101, 110, 116, 32] ++ Lib.itoa r.client ++ [32] ++ Lib.itoa r.number ++ [32, 97, 116, 32] ++ Lib.itoa r.time ++ [32, 58] := by
  simp [Lib.join, Opr.headW, List.intercalate]

theorem add_run (a b : ByteArray) (n m : Nat) (ha : a.size ≤ n) (hb : b.size ≤ m) (h : n + m ≤ 100000) : ∃ c : ByteArray, c.data.toList = a.data.toList ++ b.data.toList ∧ c.size ≤ n + m ∧ ∀ W : World, (Op.stringOp .add a b).run Tryz.prog W = .ok (.string c) W :=
  ⟨a ++ b, cat_data a b, by rw [ByteArray.size_append]; omega, fun W => run_string_add W a b (by omega) (by omega)⟩
set_option maxHeartbeats 4000000 in
set_option maxRecDepth 100000 in
theorem l5RequestText_any (b o : Nat) (r : Rq) (v : Value) (w : World) (hR : RAt w b o r v) (hS : OSlice w v r.ops) (hf : Opr.faultR r = 0) :
    Calls Tryz.prog 82 #[.pointer (some ⟨b, o, none⟩)] w fun e w' => e = .returned (.string (mkB (Opr.textR r))) ∧ Ext w w' := by
  obtain ⟨hh, hl1, hl3, hz⟩ := Opr.faultR_zero hf
  obtain ⟨k1, k2, k3, k4, k5, k6⟩ := Opr.heads hh
  obtain ⟨a, cap, rfl, hlc, hcm, hx⟩ := hS
  have HX : Hid (0 < r.ops.length → ∃ b off, a = some ⟨b, off, none⟩ ∧ b < w.heap.size ∧ OpsAt w b off r.ops) := hx
  have HZ : Hid (∀ z ∈ r.ops, Opr.fault z = 0) := hz
  clear hx hf hh hz
  unfold maxLen at hcm
  have D1 : Hid (∀ wx : World, Calls Tryz.prog 131 #[.int .i64 r.client] wx fun e w' => e = .returned (.string (mkB (Lib.itoa r.client))) ∧ Ext wx w') := digits_any r.client (by omega) (by omega)
  have D2 : Hid (∀ wx : World, Calls Tryz.prog 131 #[.int .i64 r.number] wx fun e w' => e = .returned (.string (mkB (Lib.itoa r.number))) ∧ Ext wx w') := digits_any r.number (by omega) (by omega)
  have D3 : Hid (∀ wx : World, Calls Tryz.prog 131 #[.int .i64 r.time] wx fun e w' => e = .returned (.string (mkB (Lib.itoa r.time))) ∧ Ext wx w') := digits_any r.time (by omega) (by omega)
  have s1 : (mkB (Lib.itoa r.client)).size ≤ 21 := by rw [mkB_size]; exact itoa_len _ (by omega) (by omega)
  have s2 : (mkB (Lib.itoa r.number)).size ≤ 21 := by rw [mkB_size]; exact itoa_len _ (by omega) (by omega)
  have s3 : (mkB (Lib.itoa r.time)).size ≤ 21 := by rw [mkB_size]; exact itoa_len _ (by omega) (by omega)
  have HH : Hid (∀ x : ByteArray, x.data.toList = [99, 108, 105, 101, 110, 116, 32] ++ (mkB (Lib.itoa r.client)).data.toList ++ [32] ++ (mkB (Lib.itoa r.number)).data.toList ++ [32, 97, 116, 32] ++ (mkB (Lib.itoa r.time)).data.toList ++ [32, 58] → x.data.toList = Lib.join (Opr.headW r) [32]) := by
    intro x h; rw [h, headW_eq]; simp only [mkB_list]
  clear k1 k2 k3 k4 k5 k6
  generalize mkB (Lib.itoa r.client) = t1 at *
  generalize mkB (Lib.itoa r.number) = t2 at *
  generalize mkB (Lib.itoa r.time) = t3 at *
  obtain ⟨A1, l1, n1, hA1⟩ := add_run ⟨#[99, 108, 105, 101, 110, 116, 32]⟩ t1 7 21 (by decide) s1 (by decide)
  obtain ⟨A2, l2, n2, hA2⟩ := add_run A1 ⟨#[32]⟩ 28 1 n1 (by decide) (by decide)
  obtain ⟨A3, l3, n3, hA3⟩ := add_run A2 t2 29 21 n2 s2 (by decide)
  obtain ⟨A4, l4, n4, hA4⟩ := add_run A3 ⟨#[32, 97, 116, 32]⟩ 50 4 n3 (by decide) (by decide)
  obtain ⟨A5, l5, n5, hA5⟩ := add_run A4 t3 54 21 n4 s3 (by decide)
  obtain ⟨A6, l6, n6, hA6⟩ := add_run A5 ⟨#[32, 58]⟩ 75 2 n5 (by decide) (by decide)
  have HA6 : Hid (A6.data.toList = Lib.join (Opr.headW r) [32]) := HH.out A6 (by rw [l6, l5, l4, l3, l2, l1])
  clear l1 l2 l3 l4 l5 l6 HH s1 s2 s3 n1 n2 n3 n4 n5
  have HRA : Hid (RAt w b o r (.slice a r.ops.length cap)) := hR
  obtain ⟨-, c0, c1, c2, c3⟩ := hR
  go_enter Tryz.func82, Tryz.ntmps82
  go_wp2
  have E0 : Hid (Ext w w) := Ext.refl _
  go_region_held3 (fun W => W.cell? ⟨b, o, none⟩ = some (.int .i64 r.client) ∧ W.cell? ⟨b, o + 1, none⟩ = some (.int .i64 r.number) ∧ W.cell? ⟨b, o + 2, none⟩ = some (.int .i64 r.time) ∧ W.cell? ⟨b, o + 3, none⟩ = some (.slice a r.ops.length cap)) (first | exact ⟨c0, c1, c2, c3⟩ | go_keep) (first | (have tkw1 := E0; clear tkw1; go_at_call 131; refine (D1.out _).mono ?_; rintro e w1 ⟨rfl, hb⟩; have Xw1 : Hid (Ext w w1) := (by first | exact ((Ext.refl _).drew).trans hb | exact hb); have Ew1 : Hid (Ext w w1) := E0.out.trans Xw1.out; clear hb Xw1 E0 c0 c1 c2 c3; obtain ⟨-, c0, c1, c2, c3⟩ := HRA.out.ext Ew1.out) | (have tkw2 := Ew1; clear tkw2; go_at_call 131; refine (D2.out _).mono ?_; rintro e w2 ⟨rfl, hb⟩; have Xw2 : Hid (Ext w1 w2) := (by first | exact ((Ext.refl _).drew).trans hb | exact hb); have Ew2 : Hid (Ext w w2) := Ew1.out.trans Xw2.out; clear hb Xw2 Ew1 c0 c1 c2 c3; obtain ⟨-, c0, c1, c2, c3⟩ := HRA.out.ext Ew2.out) | (have tkw3 := Ew2; clear tkw3; go_at_call 131; refine (D3.out _).mono ?_; rintro e w3 ⟨rfl, hb⟩; have Xw3 : Hid (Ext w2 w3) := (by first | exact ((Ext.refl _).drew).trans hb | exact hb); have Ew3 : Hid (Ext w w3) := Ew2.out.trans Xw3.out; clear hb Xw3 Ew2 c0 c1 c2 c3; obtain ⟨-, c0, c1, c2, c3⟩ := HRA.out.ext Ew3.out))
  go_wp2
  clear c0 c1 c2 c3
  clear hA1 hA2 hA3 hA4 hA5 hA6
  go_loopw [3, 4] (fun out i wr => ∃ (k : Nat) (x : ByteArray), k ≤ r.ops.length ∧ i = .int .i64 k ∧ out = .string x ∧ Hid (x.size ≤ 100 + k * 500) ∧ Hid (x.data.toList = Lib.join (Opr.headW r) [32] ++ Lib.joinTail [32] (Opr.opsW (r.ops.take k))) ∧ Hid (Ext w wr)) (fun _ i _ => r.ops.length - (intOf i).toNat)
  case atStart => exact ⟨0, A6, Nat.zero_le _, rfl, rfl, (by omega : A6.size ≤ 100 + 0 * 500), (by rw [HA6.out]; simp [Opr.opsW, Lib.joinTail] : A6.data.toList = _), Ew3.out⟩
  case round =>
    obtain ⟨k, x, hk, rfl, rfl, HS, HL, HE⟩ := hrel
    have c3 := (HRA.out.ext HE.out).2.2.2.2
    by_cases hlt : k < r.ops.length
    · obtain ⟨z, hzk⟩ : ∃ z, r.ops[k]? = some z := ⟨_, List.getElem?_eq_getElem hlt⟩
      obtain ⟨b', off', rfl, hb', hN'⟩ := HX.out (by omega)
      have hfz := HZ.out z (List.mem_of_getElem? hzk)
      have HT : Hid (Calls Tryz.prog 67 #[.pointer (some ⟨b', off' + k * 6, none⟩)] wr fun e w' => e = .returned (.string (mkB (Opr.text z))) ∧ Ext wr w') := l5Text_any b' (off' + k * 6) z wr (Nat.lt_of_lt_of_le hb' HE.out.size) (hN'.ext hb' HE.out k z hzk) hfz
      have htl : (mkB (Opr.text z)).size ≤ 400 := by rw [mkB_size]; exact Opr.text_len hfz
      have hsx := HS.out
      have hsn : Opr.opsW (r.ops.take (k + 1)) = Opr.opsW (r.ops.take k) ++ (if k = 0 then [Opr.text z] else [[59], Opr.text z]) := by
        have ht : r.ops.take (k + 1) = r.ops.take k ++ [z] := by
          have h2 : r.ops[k] = z := by have := (List.getElem?_eq_some_iff.1 hzk).2; exact this
          rw [List.take_succ_eq_append_getElem hlt, h2]
        rw [ht, Opr.opsW_snoc, List.length_take, Nat.min_eq_left (by omega)]
      have HSn : Hid _ := hsn
      clear hzk hN' hfz hsn
      by_cases hk0 : k = 0
      · subst hk0
        obtain ⟨B1, q1, m1, hB1⟩ := add_run x ⟨#[32]⟩ (100 + 0 * 500) 1 hsx (by decide) (by omega)
        obtain ⟨B2, q2, m2, hB2⟩ := add_run B1 (mkB (Opr.text z)) (100 + 0 * 500 + 1) 400 m1 htl (by omega)
        have HL2 : Hid (B2.data.toList = Lib.join (Opr.headW r) [32] ++ Lib.joinTail [32] (Opr.opsW (r.ops.take (0 + 1)))) := by
          show _ = _
          rw [HSn.out, if_pos rfl, Opr.joinTail_app, q2, q1, HL.out, mkB_list]
          simp [Lib.joinTail]
        have HM2 : Hid (B2.size ≤ 100 + (0 + 1) * 500) := (by omega : B2.size ≤ 100 + (0 + 1) * 500)
        clear q1 q2 m1 m2 HSn HL htl hsx
        generalize mkB (Opr.text z) = tz at *
        go_wp2_with fail
        refine HT.out.mono ?_
        rintro e w2 ⟨rfl, hb2⟩
        have HE2 : Hid (Ext w w2) := HE.out.trans hb2
        clear hb2
        go_wp2
        exact ⟨⟨0 + 1, B2, by omega, by go_num, rfl, HM2, HL2, HE2⟩, by simp [intOf]; omega⟩
      · obtain ⟨B0, q0, m0, hB0⟩ := add_run x ⟨#[32, 59]⟩ (100 + k * 500) 2 hsx (by decide) (by omega)
        obtain ⟨B1, q1, m1, hB1⟩ := add_run B0 ⟨#[32]⟩ (100 + k * 500 + 2) 1 m0 (by decide) (by omega)
        obtain ⟨B2, q2, m2, hB2⟩ := add_run B1 (mkB (Opr.text z)) (100 + k * 500 + 2 + 1) 400 m1 htl (by omega)
        have HL2 : Hid (B2.data.toList = Lib.join (Opr.headW r) [32] ++ Lib.joinTail [32] (Opr.opsW (r.ops.take (k + 1)))) := by
          show _ = _
          rw [HSn.out, if_neg hk0, Opr.joinTail_app, q2, q1, q0, HL.out, mkB_list]
          simp [Lib.joinTail]
        have HM2 : Hid (B2.size ≤ 100 + (k + 1) * 500) := (by omega : B2.size ≤ 100 + (k + 1) * 500)
        have hkp : (0 : Int) < (k : Int) := by omega
        clear q0 q1 q2 m0 m1 m2 HSn HL htl hsx hk0
        generalize mkB (Opr.text z) = tz at *
        go_wp2_with fail
        refine HT.out.mono ?_
        rintro e w2 ⟨rfl, hb2⟩
        have HE2 : Hid (Ext w w2) := HE.out.trans hb2
        clear hb2
        go_wp2
        exact ⟨⟨k + 1, B2, by omega, by go_num, rfl, HM2, HL2, HE2⟩, by simp [intOf]; omega⟩
    · have hke : k = r.ops.length := by omega
      subst hke
      go_wp2
      go_ret
      refine ⟨ret_str ?_, HE.out⟩
      rw [HL.out, List.take_length, mkB_list, Opr.textR_eq]
end Go.Proofs.YtdjnkchaapcjpaaGreatDoor
