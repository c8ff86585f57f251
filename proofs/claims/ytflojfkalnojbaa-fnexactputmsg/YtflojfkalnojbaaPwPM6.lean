/- marks of a ledger in memory of its own: markMsgS, heldMsgS, and the laws' functions over LedgerResult. -/
import Derived.Test.YtflojfkalnojbaaPwPM5
namespace Go.Proofs.Ytflojfkalnojbaa
open Go.RowKit
namespace Led
set_option maxHeartbeats 8000000 in
set_option maxRecDepth 100000 in
theorem markMsgS_any (a : Option Addr) (cap n G : Nat) (X Y : Nat → Value) (g h : Nat → Nat) (M : Nat → Ms) (k lo hi : Nat) (w : World) (ha : 0 < n → a = some ⟨G, 0, none⟩) (hL : LAt w G n X Y g h M) (hA : Apart lo hi G n g h M) (hcap : n ≤ cap) (_hcm : cap ≤ maxLen) (hn : n ≤ 1000) (hk : k ≤ 1000) (hsz : ∀ i, i < n → (M i).certs.length ≤ 30 ∧ (M i).refs.length ≤ 7) (hlo : lo ≤ w.heap.size) :
    Calls Try.prog 42 #[.slice a n cap, .int .i64 k] w fun e w' => e = .returned (.int .i64 (kAt k M n : Nat)) ∧ LAt w' G n X Y g h (marked k M n) ∧ UpdR lo hi w w' := by
  have HA : Hid (Apart lo hi G n g h M) := hA
  have HSz : Hid (∀ i, i < n → (M i).certs.length ≤ 30 ∧ (M i).refs.length ≤ 7) := hsz
  have HL0 : Hid (LAt w G n X Y g h (marked k M 0)) := hL.congr (fun i _ => (marked_zero k M i).symm)
  have hcm := _hcm
  unfold maxLen at hcm
  clear hL hA hsz
  go_enter Try.func42, Try.ntmps42
  go_wp2
  go_loopw [1, 5] (fun kv i wr => ∃ (j : Nat), j ≤ n ∧ i = .int .i64 j ∧ kv = .int .i64 (kAt k M j : Nat) ∧ Hid (LAt wr G n X Y g h (marked k M j)) ∧ Hid (UpdR lo hi w wr)) (fun _ i _ => n - (intOf i).toNat)
  case atStart => exact ⟨0, Nat.zero_le _, rfl, rfl, HL0, UpdR.refl _ _ _⟩
  case round =>
    obtain ⟨j, hj, rfl, rfl, HL, HU⟩ := hrel
    by_cases hlt : j < n
    · obtain rfl := ha (by omega)
      obtain ⟨hs1, hs2⟩ := HSz.out j hlt
      have hkb := kAt_le (k := k) HSz.out j hj
      obtain ⟨kk, hkk⟩ : ∃ kk, kk = kAt k M j := ⟨_, rfl⟩
      have HKK : Hid (kk = kAt k M j) := hkk
      rw [← hkk] at hkb ⊢
      have hkb2 : kk ≤ 200000 := by omega
      clear hkk hkb
      have hr := HL.out.1 (by omega)
      obtain ⟨⟨u0, r0⟩, f0⟩ := hr.2 (j * 7) (by omega)
      obtain ⟨⟨u1, r1⟩, f1⟩ := hr.2 (j * 7 + 1) (by omega)
      obtain ⟨⟨u2, r2⟩, f2⟩ := hr.2 (j * 7 + 2) (by omega)
      obtain ⟨⟨u3, r3⟩, f3⟩ := hr.2 (j * 7 + 3) (by omega)
      obtain ⟨⟨u4, r4⟩, f4⟩ := hr.2 (j * 7 + 4) (by omega)
      rw [Nat.zero_add] at r0 r1 r2 r3 r4 f0 f1 f2 f3 f4
      clear hr
      have HAj : Hid (Apart lo hi G n g h (marked k M j)) := HA.out.same (fun i _ => marked_len k M j i)
      -- the five numbers
      have L5 : Hid (LAt (mk5 wr G (j * 7) kk) G n X Y g h (setM (marked k M j) j (put5 (M j) kk))) := by
        have h9 := HL.out.mk5 HAj.out j kk hlt
        rw [marked_at] at h9
        exact h9
      have HG : lo ≤ G ∧ G < hi := HA.out.1 (by omega)
      have U5 : Hid (UpdR lo hi w (mk5 wr G (j * 7) kk)) := HU.out.trans (UpdR.of (five_upd _ _ _ _ _ _ _ _) HG.1 HG.2)
      have A5 : Hid (Apart lo hi G n g h (setM (marked k M j) j (put5 (M j) kk))) := HA.out.same (fun i _ => by
        by_cases hij : i = j
        · subst hij; rw [setM_eq]; exact ⟨rfl, rfl⟩
        · rw [setM_ne hij]; exact marked_len k M j i)
      obtain ⟨cs5, hC5, hI5⟩ := L5.out.2 j hlt
      rw [setM_eq] at cs5 hC5 hI5
      have hC5 : CtOwn (mk5 wr G (j * 7) kk) (X j) (g j) (M j).certs := hC5
      obtain ⟨ax, cx, hx, -, -, -⟩ := id hC5
      obtain ⟨ay, cy, hy, -, -, -⟩ := id hI5
      have c5 : wr.cell? ⟨G, j * 7 + 5, none⟩ = some (.slice ax (M j).certs.length cx) := by
        have e := (HL.out.2 j hlt).1.2.2.2.2.2.1
        rw [hx] at e
        exact e
      obtain ⟨b, hbb, hCb⟩ : ∃ b, (0 < (M j).certs.length ∧ b = g j ∨ ¬ 0 < (M j).certs.length ∧ (mk5 wr G (j * 7) kk).heap.size ≤ b) ∧ CtOwn (mk5 wr G (j * 7) kk) (X j) b (M j).certs := by
        by_cases h0 : 0 < (M j).certs.length
        · exact ⟨g j, Or.inl ⟨h0, rfl⟩, hC5⟩
        · exact ⟨(mk5 wr G (j * 7) kk).heap.size, Or.inr ⟨h0, Nat.le_refl _⟩, hC5.nil h0⟩
      have HBb : Hid (0 < (M j).certs.length ∧ b = g j ∨ ¬ 0 < (M j).certs.length ∧ (mk5 wr G (j * 7) kk).heap.size ≤ b) := hbb
      have HX : Hid (X j = .slice ax (M j).certs.length cx) := hx
      have HY : Hid (Y j = .slice ay (M j).refs.length cy) := hy
      have HCb : Hid (CtOwn (mk5 wr G (j * 7) kk) (.slice ax (M j).certs.length cx) b (M j).certs) := by rw [← HX.out]; exact hCb
      have hlo5 : lo ≤ (mk5 wr G (j * 7) kk).heap.size := by have := U5.out.2.1; omega
      clear cs5 hC5 hI5 hx hy hbb hCb
      go_wp2_with fail
      rw [show ((kk : Int) + 1 + 1 + 1 + 1 + 1) = ((kk + 5 : Nat) : Int) from by omega]
      refine (markCertSP _ b (M j).certs (kk + 5) (mk5 wr G (j * 7) kk) HCb.out (by omega) (by omega)).mono ?_
      rintro e w2 ⟨rfl, hO2, hu2⟩
      have L6 : Hid (LAt w2 G n X Y g h (setM (setM (marked k M j) j (put5 (M j) kk)) j { put5 (M j) kk with certs := cmarks (kk + 5) (M j).certs.length })) := by
        have h9 := L5.out.certs A5.out hlt (b := b) (cs := cmarks (kk + 5) (M j).certs.length) hu2 (by rw [setM_eq]; exact HBb.out) (by rw [HX.out]; exact hO2) (by rw [setM_eq, cmarks_length]; rfl)
        rw [setM_eq] at h9
        exact h9
      have U6 : Hid (UpdR lo hi w w2) := U5.out.trans (by
        rcases HBb.out with ⟨h0, rfl⟩ | ⟨h0, h1⟩
        · have := (HA.out.2 j hlt).1 h0
          exact UpdR.of hu2 this.1 this.2.1
        · exact UpdR.big hu2 h1 hlo5)
      have A6 : Hid (Apart lo hi G n g h (setM (setM (marked k M j) j (put5 (M j) kk)) j { put5 (M j) kk with certs := cmarks (kk + 5) (M j).certs.length })) := HA.out.same (fun i _ => by
        by_cases hij : i = j
        · subst hij; rw [setM_eq]; exact ⟨cmarks_length _ _, rfl⟩
        · rw [setM_ne hij, setM_ne hij]; exact marked_len k M j i)
      obtain ⟨cs6, -, hI6⟩ := L6.out.2 j hlt
      rw [setM_eq] at cs6 hI6
      have hI6 : IOwn w2 (Y j) (h j) (M j).refs := hI6
      have c6 : w2.cell? ⟨G, j * 7 + 6, none⟩ = some (.slice ay (M j).refs.length cy) := by rw [← HY.out]; exact cs6.2.2.2.2.2.2
      obtain ⟨b2, hbb, hIb⟩ : ∃ b, (0 < (M j).refs.length ∧ b = h j ∨ ¬ 0 < (M j).refs.length ∧ w2.heap.size ≤ b) ∧ IOwn w2 (Y j) b (M j).refs := by
        by_cases h0 : 0 < (M j).refs.length
        · exact ⟨h j, Or.inl ⟨h0, rfl⟩, hI6⟩
        · exact ⟨w2.heap.size, Or.inr ⟨h0, Nat.le_refl _⟩, hI6.nil h0⟩
      have HBb2 : Hid (0 < (M j).refs.length ∧ b2 = h j ∨ ¬ 0 < (M j).refs.length ∧ w2.heap.size ≤ b2) := hbb
      have HIb : Hid (IOwn w2 (.slice ay (M j).refs.length cy) b2 (M j).refs) := by rw [← HY.out]; exact hIb
      have hlo6 : lo ≤ w2.heap.size := by have := U6.out.2.1; omega
      clear cs6 hI6 hbb hIb hO2 hu2 r0 r1 r2 r3 r4 f0 f1 f2 f3 f4 c5 HCb HBb L5 U5 A5
      go_wp2_with fail
      refine (markInt64S_any _ b2 (M j).refs (kk + 5 + 3 * (M j).certs.length) w2 HIb.out (by omega) (by omega)).mono ?_
      rintro e w3 ⟨rfl, hO3, hu3⟩
      have L7 : Hid (LAt w3 G n X Y g h (marked k M (j + 1))) := by
        have h9 := L6.out.refs A6.out hlt (b := b2) (rs := imarks (kk + 5 + 3 * (M j).certs.length) (M j).refs.length) hu3 (by rw [setM_eq]; exact HBb2.out) (by rw [HY.out]; exact hO3) (by rw [setM_eq, imarks_length]; rfl)
        rw [setM_eq] at h9
        refine h9.congr (fun i _ => ?_)
        have e9 := marked_succ k M j i
        rw [← HKK.out] at e9
        exact e9
      have U7 : Hid (UpdR lo hi w w3) := U6.out.trans (by
        rcases HBb2.out with ⟨h0, rfl⟩ | ⟨h0, h1⟩
        · have := (HA.out.2 j hlt).2 h0
          exact UpdR.of hu3 this.1 this.2.1
        · exact UpdR.big hu3 h1 hlo6)
      have HK2 : Hid (kk + 5 + 3 * (M j).certs.length + (M j).refs.length = kAt k M (j + 1)) := by show _ = _; rw [kAt, msz, HKK.out]; omega
      clear hO3 hu3 c6 HIb HBb2 L6 U6 A6
      generalize kk + 5 + 3 * (M j).certs.length + (M j).refs.length = k5 at *
      go_wp2
      exact ⟨⟨j + 1, by omega, by go_num, by rw [HK2.out], L7, U7⟩, by simp [intOf]; omega⟩
    · have hje : j = n := by omega
      subst hje
      go_wp2
      go_ret
      exact ⟨rfl, HL.out, HU.out⟩
set_option maxHeartbeats 8000000 in
set_option maxRecDepth 100000 in
theorem heldMsgS_any (a : Option Addr) (cap n G : Nat) (X Y : Nat → Value) (g h : Nat → Nat) (M : Nat → Ms) (k : Nat) (w : World) (ha : 0 < n → a = some ⟨G, 0, none⟩) (hL : LAt w G n X Y g h (marked k M n)) (hcap : n ≤ cap) (_hcm : cap ≤ maxLen) (hn : n ≤ 1000) (hk : k ≤ 1000) (hsz : ∀ i, i < n → (M i).certs.length ≤ 30 ∧ (M i).refs.length ≤ 7) :
    Calls Try.prog 109 #[.slice a n cap, .int .i64 k] w fun e w' => e = .returned (.int .i64 (kAt k M n : Nat)) ∧ Ext w w' := by
  have HSz : Hid (∀ i, i < n → (M i).certs.length ≤ 30 ∧ (M i).refs.length ≤ 7) := hsz
  have HL : Hid (LAt w G n X Y g h (marked k M n)) := hL
  have hcm := _hcm
  unfold maxLen at hcm
  clear hL hsz
  go_enter Try.func109, Try.ntmps109
  go_wp2
  go_loopw [1, 5] (fun kv i wr => ∃ (j : Nat), j ≤ n ∧ i = .int .i64 j ∧ kv = .int .i64 (kAt k M j : Nat) ∧ Hid (Ext w wr)) (fun _ i _ => n - (intOf i).toNat)
  case atStart => exact ⟨0, Nat.zero_le _, rfl, rfl, Ext.refl _⟩
  case round =>
    obtain ⟨j, hj, rfl, rfl, HE⟩ := hrel
    by_cases hlt : j < n
    · obtain rfl := ha (by omega)
      obtain ⟨hs1, hs2⟩ := HSz.out j hlt
      have hkb := kAt_le (k := k) HSz.out j hj
      obtain ⟨kk, hkk⟩ : ∃ kk, kk = kAt k M j := ⟨_, rfl⟩
      have HKK : Hid (kk = kAt k M j) := hkk
      rw [← hkk] at hkb ⊢
      have hkb2 : kk ≤ 200000 := by omega
      obtain ⟨hc, hC, hI⟩ := (HL.out.ext HE.out).2 j hlt
      rw [marked_done hlt, ← hkk] at hc hC hI
      clear hkk hkb
      obtain ⟨e0, e1, e2, e3, e4, d5, d6⟩ := hc
      have d0 : wr.cell? ⟨G, j * 7, none⟩ = some (.int .i64 (kk : Int)) := e0
      have d1 : wr.cell? ⟨G, j * 7 + 1, none⟩ = some (.int .i64 ((kk : Int) + 1)) := e1
      have d2 : wr.cell? ⟨G, j * 7 + 2, none⟩ = some (.int .i64 ((kk : Int) + 1 + 1)) := e2
      have d3 : wr.cell? ⟨G, j * 7 + 3, none⟩ = some (.int .i64 ((kk : Int) + 1 + 1 + 1)) := e3
      have d4 : wr.cell? ⟨G, j * 7 + 4, none⟩ = some (.int .i64 ((kk : Int) + 1 + 1 + 1 + 1)) := e4
      clear e0 e1 e2 e3 e4
      have hC : CtOwn wr (X j) (g j) (cmarks (kk + 5) (M j).certs.length) := hC
      have hI : IOwn wr (Y j) (h j) (imarks (kk + 5 + 3 * (M j).certs.length) (M j).refs.length) := hI
      obtain ⟨ax, cx, hx, -, -, -⟩ := id hC
      obtain ⟨ay, cy, hy, -, -, -⟩ := id hI
      rw [cmarks_length] at hx
      rw [imarks_length] at hy
      rw [hx] at d5 hC
      rw [hy] at d6 hI
      have HC : Hid (CtSlice wr (.slice ax (M j).certs.length cx) (cmarks (kk + 5) (M j).certs.length)) := hC.slice
      have HI : Hid (ISlice wr (.slice ay (M j).refs.length cy) (imarks (kk + 5 + 3 * (M j).certs.length) (M j).refs.length)) := hI.slice
      have hGl : G < wr.heap.size := ((HL.out.ext HE.out).1 (by omega)).1
      clear hC hI hx hy
      go_wp2_with fail
      rw [show ((kk : Int) + 1 + 1 + 1 + 1 + 1) = ((kk + 5 : Nat) : Int) from by omega]
      refine (heldCertSP _ (M j).certs.length (kk + 5) _ HC.out (by omega) (by omega)).mono ?_
      rintro e w2 ⟨rfl, hb⟩
      have c6 : w2.cell? ⟨G, j * 7 + 6, none⟩ = some (.slice ay (M j).refs.length cy) := ((Ext.cell hb).1 _ _ hGl).trans d6
      have HE2 : Hid (Ext w w2) := HE.out.trans hb
      have HI2 : Hid (ISlice w2 (.slice ay (M j).refs.length cy) (imarks (kk + 5 + 3 * (M j).certs.length) (M j).refs.length)) := HI.out.ext hb
      obtain ⟨q, hq⟩ : ∃ q, q = kk + 5 + 3 * (M j).certs.length := ⟨_, rfl⟩
      have HQ : Hid (q = kk + 5 + 3 * (M j).certs.length) := hq
      have hqb : q ≤ 300000 := by omega
      rw [← hq] at HI2 ⊢
      clear hb d0 d1 d2 d3 d4 d5 d6 HC HI hq
      go_wp2_with fail
      refine (heldInt64S_any _ (M j).refs.length q _ HI2.out (by omega) (by omega)).mono ?_
      rintro e w3 ⟨rfl, hb⟩
      have HE3 : Hid (Ext w w3) := HE2.out.trans hb
      have HK2 : Hid (q + (M j).refs.length = kAt k M (j + 1)) := by show _ = _; rw [HQ.out, kAt, msz, HKK.out]; omega
      clear hb c6 HI2
      generalize q + (M j).refs.length = k5 at *
      go_wp2
      exact ⟨⟨j + 1, by omega, by go_num, by rw [HK2.out], HE3⟩, by simp [intOf]; omega⟩
    · have hje : j = n := by omega
      subst hje
      go_wp2
      go_ret
      exact ⟨rfl, HE.out⟩
set_option maxHeartbeats 1000000 in
theorem eqLedgerResult_same (c : Int) (v v' : Value) (ts : List Ms) (w : World) (h : MSlice w v ts) (h' : MSlice w v' ts) :
    Calls Try.prog 39 #[jr c v, jr c v'] w fun e w' => e = .returned (.bool true) ∧ Ext w w' := by
  have HS : Hid (MSlice w v ts) := h
  have HS' : Hid (MSlice w v' ts) := h'
  obtain ⟨a, cap, rfl, _⟩ := h
  obtain ⟨a', cap', rfl, _⟩ := h'
  unfold jr
  go_enter Try.func39, Try.ntmps39
  go_wp2_with fail
  refine (eqMsgS_same _ _ ts _ (by exact HS.out.ext (((Ext.refl _).alloc _).alloc _)) (by exact HS'.out.ext (((Ext.refl _).alloc _).alloc _))).mono ?_
  rintro e w2 ⟨rfl, hb⟩
  go_wp2
  go_ret
  exact ⟨rfl, (((Ext.refl _).alloc _).alloc _).trans hb⟩
set_option maxHeartbeats 1000000 in
theorem markLedgerResult_any (c : Int) (a : Option Addr) (cap n G : Nat) (X Y : Nat → Value) (g h : Nat → Nat) (M : Nat → Ms) (k lo hi : Nat) (w : World) (ha : 0 < n → a = some ⟨G, 0, none⟩) (hL : LAt w G n X Y g h M) (hA : Apart lo hi G n g h M) (hcap : n ≤ cap) (hcm : cap ≤ maxLen) (hn : n ≤ 1000) (hk : k ≤ 1000) (hsz : ∀ i, i < n → (M i).certs.length ≤ 30 ∧ (M i).refs.length ≤ 7) (hlo : lo ≤ w.heap.size) :
    Calls Try.prog 44 #[jr c (.slice a n cap), .int .i64 k] w fun e w' => e = .returned (.int .i64 (kAt k M n : Nat)) ∧ LAt w' G n X Y g h (marked k M n) ∧ UpdR lo hi w w' := by
  have HK : Hid (∀ wx, Ext w wx → Calls Try.prog 42 #[.slice a n cap, .int .i64 k] wx fun e w' => e = .returned (.int .i64 (kAt k M n : Nat)) ∧ LAt w' G n X Y g h (marked k M n) ∧ UpdR lo hi wx w') := fun wx he => markMsgS_any a cap n G X Y g h M k lo hi wx ha (hL.ext he) hA hcap hcm hn hk hsz (by have := he.size; omega)
  clear hL hA hsz ha
  unfold jr
  go_enter Try.func44, Try.ntmps44
  go_wp2_with fail
  refine (HK.out _ ((Ext.refl _).alloc _)).mono ?_
  rintro e w2 ⟨rfl, hO2, hU⟩
  have HO2 : Hid (LAt w2 G n X Y g h (marked k M n)) := hO2
  have HU : Hid (UpdR lo hi w w2) := (UpdR.big (Upd.alloc _ _ (Nat.le_refl _)) (Nat.le_refl _) hlo).trans hU
  clear hO2 hU
  obtain ⟨q, hq⟩ : ∃ q, q = kAt k M n := ⟨_, rfl⟩
  rw [← hq]
  have HQ : Hid (q = kAt k M n) := hq
  clear hq
  go_wp2
  go_ret
  exact ⟨ret_int (by rw [HQ.out]), HO2.out, HU.out⟩
set_option maxHeartbeats 1000000 in
theorem heldLedgerResult_any (c : Int) (a : Option Addr) (cap n G : Nat) (X Y : Nat → Value) (g h : Nat → Nat) (M : Nat → Ms) (k : Nat) (w : World) (ha : 0 < n → a = some ⟨G, 0, none⟩) (hL : LAt w G n X Y g h (marked k M n)) (hcap : n ≤ cap) (hcm : cap ≤ maxLen) (hn : n ≤ 1000) (hk : k ≤ 1000) (hsz : ∀ i, i < n → (M i).certs.length ≤ 30 ∧ (M i).refs.length ≤ 7) :
    Calls Try.prog 45 #[jr c (.slice a n cap), .int .i64 k] w fun e w' => e = .returned (.int .i64 (kAt k M n : Nat)) ∧ Ext w w' := by
  have HK : Hid (∀ wx, Ext w wx → Calls Try.prog 109 #[.slice a n cap, .int .i64 k] wx fun e w' => e = .returned (.int .i64 (kAt k M n : Nat)) ∧ Ext wx w') := fun wx he => heldMsgS_any a cap n G X Y g h M k wx ha (hL.ext he) hcap hcm hn hk hsz
  clear hL hsz ha
  unfold jr
  go_enter Try.func45, Try.ntmps45
  go_wp2_with fail
  refine (HK.out _ ((Ext.refl _).alloc _)).mono ?_
  rintro e w2 ⟨rfl, hb⟩
  obtain ⟨q, hq⟩ : ∃ q, q = kAt k M n := ⟨_, rfl⟩
  rw [← hq]
  have HQ : Hid (q = kAt k M n) := hq
  clear hq
  go_wp2
  go_ret
  exact ⟨ret_int (by rw [HQ.out]), ((Ext.refl _).alloc _).trans hb⟩
end Led
end Go.Proofs.Ytflojfkalnojbaa
