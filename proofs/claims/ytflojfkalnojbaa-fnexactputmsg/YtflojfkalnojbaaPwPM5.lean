/- marks of a ledger in memory of its own: each list keeps its marks. -/
import Derived.Test.YtflojfkalnojbaaPwPM4
namespace Go.Proofs.Ytflojfkalnojbaa
open Go.RowKit
set_option maxHeartbeats 2000000 in
set_option maxRecDepth 100000 in
theorem markCertSP (v : Value) (g : Nat) (ts : List Ct) (k : Nat) (w : World) (hO : CtOwn w v g ts) (hk : k ≤ 1000000) (hl : ts.length ≤ 1048576) :
    Calls Try.prog 108 #[v, .int .i64 k] w fun e w' => e = .returned (.int .i64 (k + 3 * ts.length : Nat)) ∧ CtOwn w' v g (cmarks k ts.length) ∧ Upd g w w' := by
  obtain ⟨a, cap, rfl, hlc, hcm, hx⟩ := hO
  have HX : Hid (0 < ts.length → ∃ off, a = some ⟨g, off, none⟩ ∧ CtRoom w g off ts.length ∧ CtsAt w g off ts) := hx
  clear hx
  have hcm' : cap ≤ maxLen := hcm
  have HC : Hid (cap ≤ maxLen) := hcm'
  clear hcm'
  unfold maxLen at hcm
  go_enter Try.func108, Try.ntmps108
  go_wp2
  go_loopw [1, 5] (fun kv i wr => ∃ (j : Nat), j ≤ ts.length ∧ i = .int .i64 j ∧ kv = .int .i64 (k + 3 * j : Nat) ∧ Hid (∀ off, a = some ⟨g, off, none⟩ → 0 < ts.length → CtRoom wr g off ts.length ∧ CtsAt wr g off ((cmarks k ts.length).take j)) ∧ Hid (Upd g w wr)) (fun _ i _ => ts.length - (intOf i).toNat)
  case atStart =>
    refine ⟨0, Nat.zero_le _, rfl, rfl, ?_, Upd.refl _ _⟩
    intro off ha h0
    obtain ⟨off', ha', hr, _⟩ := HX.out h0
    rw [ha] at ha'
    simp only [Option.some.injEq, Addr.mk.injEq, true_and, and_true] at ha'
    subst ha'
    exact ⟨hr, fun i z h => by simp at h⟩
  case round =>
    obtain ⟨j, hj, rfl, rfl, HR, HU⟩ := hrel
    by_cases hlt : j < ts.length
    · obtain ⟨off, rfl, _, _⟩ := HX.out (by omega)
      obtain ⟨hr, hN⟩ := HR.out off rfl (by omega)
      obtain ⟨kk, hkk⟩ : ∃ kk, kk = k + 3 * j := ⟨_, rfl⟩
      have hkb : kk ≤ 5242981 := by omega
      have HK : Hid (kk = k + 3 * j) := hkk
      rw [← hkk]
      clear hkk
      have HRR : Hid (CtRoom wr g off ts.length) := hr
      have HNN : Hid (CtsAt wr g off ((cmarks k ts.length).take j)) := hN
      clear hr hN
      obtain ⟨⟨u0, r0⟩, f0⟩ := HRR.out.2 (j * 3) (by omega)
      obtain ⟨⟨u1, r1⟩, f1⟩ := HRR.out.2 (j * 3 + 1) (by omega)
      obtain ⟨⟨u2, r2⟩, f2⟩ := HRR.out.2 (j * 3 + 2) (by omega)
      rw [← Nat.add_assoc] at r1 f1 r2 f2
      have P1 : Hid (CtRoom (putCt wr g (off + j * 3) (cmark kk)) g off ts.length) := HRR.out.put (cmark kk) hlt
      have P2 : Hid (CtsAt (putCt wr g (off + j * 3) (cmark kk)) g off ((cmarks k ts.length).take (j + 1))) := CtsAt.put HRR.out hlt (by rw [cmarks_get _ _ _ hlt, ← HK.out]) HNN.out
      have P3 : Hid (Upd g w (putCt wr g (off + j * 3) (cmark kk))) := ((HU.out.setAt _ _).setAt _ _).setAt _ _
      go_wp2
      refine ⟨⟨j + 1, by omega, by go_num, by rw [show k + 3 * (j + 1) = kk + 1 + 1 + 1 from by rw [HK.out]; omega]; go_num, ?_, P3.out⟩, by simp [intOf]; omega⟩
      intro off' ho _
      simp only [Option.some.injEq, Addr.mk.injEq, true_and, and_true] at ho
      subst ho
      exact ⟨P1.out, P2.out⟩
    · have hje : j = ts.length := by omega
      subst hje
      go_wp2
      go_ret
      refine ⟨rfl, ⟨_, cap, by rw [cmarks_length], by rw [cmarks_length]; exact hlc, HC.out, fun h0 => ?_⟩, HU.out⟩
      rw [cmarks_length] at h0
      obtain ⟨off, rfl, _, _⟩ := HX.out h0
      obtain ⟨hr, hN⟩ := HR.out off rfl h0
      rw [List.take_of_length_le (by rw [cmarks_length]; omega)] at hN
      exact ⟨off, rfl, by rw [cmarks_length]; exact hr, hN⟩

set_option maxHeartbeats 2000000 in
set_option maxRecDepth 100000 in
theorem heldCertSP (v : Value) (n k : Nat) (w : World) (hO : CtSlice w v (cmarks k n)) (hk : k ≤ 1000000) (hl : n ≤ 1048576) :
    Calls Try.prog 122 #[v, .int .i64 k] w fun e w' => e = .returned (.int .i64 (k + 3 * n : Nat)) ∧ Ext w w' := by
  obtain ⟨a, cap, rfl, hlc, hcm, hx⟩ := hO
  have HX : Hid (0 < (cmarks k n).length → ∃ b off, a = some ⟨b, off, none⟩ ∧ b < w.heap.size ∧ CtsAt w b off (cmarks k n)) := hx
  clear hx
  unfold maxLen at hcm
  rw [cmarks_length] at hlc ⊢
  go_enter Try.func122, Try.ntmps122
  go_wp2
  go_loopw [1, 5] (fun kv i wr => ∃ (j : Nat), j ≤ n ∧ i = .int .i64 j ∧ kv = .int .i64 (k + 3 * j : Nat) ∧ Hid (Ext w wr)) (fun _ i _ => n - (intOf i).toNat)
  case atStart => exact ⟨0, Nat.zero_le _, rfl, rfl, Ext.refl _⟩
  case round =>
    obtain ⟨j, hj, rfl, rfl, HE⟩ := hrel
    by_cases hlt : j < n
    · obtain ⟨b, off, rfl, hb, hN⟩ := HX.out (by rw [cmarks_length]; omega)
      obtain ⟨d0, d1, d2⟩ := hN.ext hb HE.out j _ (cmarks_get k n j hlt)
      obtain ⟨kk, hkk⟩ : ∃ kk, kk = k + 3 * j := ⟨_, rfl⟩
      have hkb : kk ≤ 5242981 := by omega
      have HK : Hid (kk = k + 3 * j) := hkk
      rw [← hkk] at d0 d1 d2 ⊢
      have hd1 : wr.cell? ⟨b, off + j * 3 + 1, none⟩ = some (.int .i64 ((kk : Int) + 1)) := d1
      have hd0 : wr.cell? ⟨b, off + j * 3, none⟩ = some (.int .i64 (kk : Int)) := d0
      have hd2 : wr.cell? ⟨b, off + j * 3 + 2, none⟩ = some (.int .i64 ((kk : Int) + 2)) := d2
      clear hkk hN d0 d1 d2
      go_wp2
      exact ⟨⟨j + 1, by omega, by go_num, by rw [show k + 3 * (j + 1) = kk + 1 + 1 + 1 from by rw [HK.out]; omega]; go_num, HE⟩, by simp [intOf]; omega⟩
    · have hje : j = n := by omega
      subst hje
      go_wp2
      go_ret
      exact ⟨rfl, HE.out⟩


namespace Led
theorem block_of {W : World} {base : Nat} {e : TypeId} {s : Nat} {v : Value} {n : Nat} {xs : List Value} (h : W.ownsRow base e s v n xs) (h0 : 0 < n) : ∃ q cap, v = .slice (some ⟨q, 0, none⟩) n cap ∧ v.ownBlock = some q ∧ base ≤ q ∧ q < W.heap.size := by
  have hlt := h.lt
  rcases h.2 with ⟨_, h1⟩ | ⟨q, cap, cur, hv, hb, -⟩
  · omega
  · subst hv
    exact ⟨q, cap, rfl, rfl, hb, (hlt q rfl).2⟩
theorem ctown_at {W : World} {base : Nat} {v : Value} {l : List Ct} (h : W.ownsRow base 38 3 v l.length (cellsCt l)) : CtOwn W v (v.ownBlock.getD 0) l := by
  obtain ⟨g, -, hC⟩ := ctown_of_owns h
  by_cases h0 : 0 < l.length
  · obtain ⟨q, cap, hv, hq, -, -⟩ := block_of h h0
    obtain ⟨a, c, e, -, -, hx⟩ := id hC
    obtain ⟨off, ha, -, -⟩ := hx h0
    have e2 : q = g := by
      rw [hv] at e
      injection e with e
      rw [ha] at e
      injection e with e
      injection e
    rw [hq, e2]
    exact hC
  · exact hC.nil h0
theorem iown_at {W : World} {base : Nat} {v : Value} {l : List Int} (h : W.ownsRow base 2 1 v l.length (l.map (Value.int .i64))) : IOwn W v (v.ownBlock.getD 0) l := by
  obtain ⟨g, -, -, hC⟩ := iown_of_owns h
  by_cases h0 : 0 < l.length
  · obtain ⟨q, cap, hv, hq, -, -⟩ := block_of h h0
    obtain ⟨a, c, e, -, -, hx⟩ := id hC
    obtain ⟨off, ha, -, -⟩ := hx h0
    have e2 : q = g := by
      rw [hv] at e
      injection e with e
      rw [ha] at e
      injection e with e
      injection e
    rw [hq, e2]
    exact hC
  · exact hC.nil h0
theorem ne_ci : (38 : TypeId) ≠ 2 := by decide
theorem LAt.of {lo : Nat} {W : World} {vo : Value} {ps : List (Ms × Value × Value)} (hM : Dr.MRow lo W vo ps) (hD : Dst ps) : ∃ a cap G X Y g h M, vo = .slice a ps.length cap ∧ ps.length ≤ cap ∧ cap ≤ maxLen ∧ (0 < ps.length → a = some ⟨G, 0, none⟩) ∧ LAt W G ps.length X Y g h M ∧ Apart lo W.heap.size G ps.length g h M ∧ ∀ (i : Nat) p, ps[i]? = some p → M i = p.1 := by
  obtain ⟨a, cap, hvo, hcap, hcm, -⟩ := hM.slice
  rw [List.length_map] at hvo hcap
  have hP : ∀ i, i < ps.length → ps[i]? = some (ps.getD i (⟨0, 0, 0, 0, 0, [], []⟩, .slice none 0 0, .slice none 0 0)) := fun i hi => by rw [List.getD_eq_getElem?_getD, List.getElem?_eq_getElem hi]; rfl
  generalize hPf : (fun i => ps.getD i (⟨0, 0, 0, 0, 0, [], []⟩, .slice none 0 0, .slice none 0 0)) = P at *
  have hP : ∀ i, i < ps.length → ps[i]? = some (P i) := fun i hi => by rw [← hPf]; exact hP i hi
  have hO := fun i hi => hM.2.1 (P i) (List.mem_of_getElem? (hP i hi))
  have hR := hM.1
  refine ⟨a, cap, vo.ownBlock.getD 0, fun i => (P i).2.1, fun i => (P i).2.2, fun i => (P i).2.1.ownBlock.getD 0, fun i => (P i).2.2.ownBlock.getD 0, fun i => (P i).1, hvo, hcap, hcm, fun h0 => ?_, ⟨fun h0 => ?_, fun i hi => ⟨?_, ctown_at (hO i hi).1, iown_at (hO i hi).2⟩⟩, ⟨fun h0 => ?_, fun i hi => ⟨fun h0 => ?_, fun h0 => ?_⟩⟩, fun i p hp => ?_⟩
  · obtain ⟨q, c2, hv, hq, -, -⟩ := block_of hR h0
    rw [hvo] at hv
    injection hv with hv
    rw [hv, hq]
    rfl
  · obtain ⟨q, c2, hv, hq, -, hql⟩ := block_of hR h0
    subst hv
    refine ⟨hql, fun j hj => ⟨?_, hR.frozenAt _⟩⟩
    have hl : (Dr.cellsP ps).length = ps.length * 7 := hR.1
    rw [Nat.zero_add]
    exact ⟨(Dr.cellsP ps)[j]'(by omega), by show W.cell? ⟨q, j, none⟩ = _; rw [hR.cellAt j hj, List.getElem?_eq_getElem (by omega)]⟩
  · obtain ⟨q, c2, hv, hq, -, hql⟩ := block_of hR (by omega)
    subst hv
    obtain ⟨c0, c1, c2, c3, c4, c5, c6⟩ := Dr.cellsP_at ps i (P i) (hP i hi)
    have e := fun j (hj : j < 7) => hR.cellAt (i * 7 + j) (by omega)
    exact ⟨(e 0 (by omega)).trans c0, (e 1 (by omega)).trans c1, (e 2 (by omega)).trans c2, (e 3 (by omega)).trans c3, (e 4 (by omega)).trans c4, (e 5 (by omega)).trans c5, (e 6 (by omega)).trans c6⟩
  · obtain ⟨q, c2, hv, hq, h1, h2⟩ := block_of hR h0
    rw [hq]
    exact ⟨h1, h2⟩
  · obtain ⟨q, c2, hv, hq, h1, h2⟩ := block_of (hO i hi).1 h0
    show lo ≤ ((P i).2.1.ownBlock.getD 0) ∧ ((P i).2.1.ownBlock.getD 0) < _ ∧ ((P i).2.1.ownBlock.getD 0) ≠ _ ∧ _
    rw [hq]
    refine ⟨h1, h2, fun e => ?_, fun j hj => ⟨fun h3 e => ?_, fun hn h3 e => ?_⟩⟩
    · obtain ⟨q', c2', hv', hq', -, -⟩ := block_of hR (by omega)
      rw [hq'] at e
      exact Dr.own_ne hR (hO i hi).1 Dr.ne_cm q' (by rw [hq]; exact congrArg some e) hq'
    · obtain ⟨q', c2', hv', hq', -, -⟩ := block_of (hO j hj).2 h3
      have e' : q = q' := by have e2 : ((P i).2.1.ownBlock.getD 0) = ((P j).2.2.ownBlock.getD 0) := e; rw [hq, hq'] at e2; exact e2
      exact Dr.own_ne (hO i hi).1 (hO j hj).2 ne_ci q' hq' (by rw [hq, e'])
    · obtain ⟨q', c2', hv', hq', -, -⟩ := block_of (hO j hj).1 h3
      have e' : q = q' := by have e2 : ((P i).2.1.ownBlock.getD 0) = ((P j).2.1.ownBlock.getD 0) := e; rw [hq, hq'] at e2; exact e2
      have hpw := List.pairwise_iff_getElem.1 hD
      have gi : ps[i]'hi = P i := by have := hP i hi; rw [List.getElem?_eq_getElem hi] at this; injection this
      have gj : ps[j]'hj = P j := by have := hP j hj; rw [List.getElem?_eq_getElem hj] at this; injection this
      by_cases hlt : i < j
      · have h9 := (hpw i j hi hj hlt).1
        rw [gi, gj] at h9
        exact h9 q hq (by rw [hq', e'])
      · have h9 := (hpw j i hj hi (by omega)).1
        rw [gi, gj] at h9
        exact h9 q' hq' (by rw [hq, e'])
  · obtain ⟨q, c2, hv, hq, h1, h2⟩ := block_of (hO i hi).2 h0
    show lo ≤ ((P i).2.2.ownBlock.getD 0) ∧ ((P i).2.2.ownBlock.getD 0) < _ ∧ ((P i).2.2.ownBlock.getD 0) ≠ _ ∧ _
    rw [hq]
    refine ⟨h1, h2, fun e => ?_, fun j hj hn h3 e => ?_⟩
    · obtain ⟨q', c2', hv', hq', -, -⟩ := block_of hR (by omega)
      rw [hq'] at e
      exact Dr.own_ne hR (hO i hi).2 Dr.ne_im q' (by rw [hq]; exact congrArg some e) hq'
    · obtain ⟨q', c2', hv', hq', -, -⟩ := block_of (hO j hj).2 h3
      have e' : q = q' := by have e2 : ((P i).2.2.ownBlock.getD 0) = ((P j).2.2.ownBlock.getD 0) := e; rw [hq, hq'] at e2; exact e2
      have hpw := List.pairwise_iff_getElem.1 hD
      have gi : ps[i]'hi = P i := by have := hP i hi; rw [List.getElem?_eq_getElem hi] at this; injection this
      have gj : ps[j]'hj = P j := by have := hP j hj; rw [List.getElem?_eq_getElem hj] at this; injection this
      by_cases hlt : i < j
      · have h9 := (hpw i j hi hj hlt).2
        rw [gi, gj] at h9
        exact h9 q hq (by rw [hq', e'])
      · have h9 := (hpw j i hj hi (by omega)).2
        rw [gi, gj] at h9
        exact h9 q' hq' (by rw [hq, e'])
  · have hi := (List.getElem?_eq_some_iff.1 hp).1
    have := hP i hi
    rw [hp] at this
    injection this with this
    rw [this]
def msz (m : Ms) : Nat := 5 + 3 * m.certs.length + m.refs.length
def kAt (k : Nat) (M : Nat → Ms) : Nat → Nat
  | 0 => k
  | i + 1 => kAt k M i + msz (M i)
def markM (m : Ms) (k : Nat) : Ms := { put5 m k with certs := cmarks (k + 5) m.certs.length, refs := imarks (k + 5 + 3 * m.certs.length) m.refs.length }
def marked (k : Nat) (M : Nat → Ms) (j : Nat) : Nat → Ms := fun i => if i < j then markM (M i) (kAt k M i) else M i
theorem kAt_le {k : Nat} {M : Nat → Ms} {n : Nat} (h : ∀ i, i < n → (M i).certs.length ≤ 30 ∧ (M i).refs.length ≤ 7) : ∀ j, j ≤ n → kAt k M j ≤ k + 102 * j
  | 0, _ => Nat.le_refl _
  | j + 1, hj => by
    have h1 := kAt_le (k := k) h j (by omega)
    have h2 := h j (by omega)
    rw [kAt, msz]
    omega
theorem marked_len (k : Nat) (M : Nat → Ms) (j i : Nat) : (marked k M j i).certs.length = (M i).certs.length ∧ (marked k M j i).refs.length = (M i).refs.length := by
  unfold marked
  by_cases h : i < j
  · rw [if_pos h]
    exact ⟨cmarks_length _ _, imarks_length _ _⟩
  · rw [if_neg h]
    exact ⟨rfl, rfl⟩
theorem marked_at (k : Nat) (M : Nat → Ms) (j : Nat) : marked k M j j = M j := if_neg (Nat.lt_irrefl _)
theorem marked_zero (k : Nat) (M : Nat → Ms) (i : Nat) : marked k M 0 i = M i := if_neg (Nat.not_lt_zero _)
theorem marked_done {k : Nat} {M : Nat → Ms} {n i : Nat} (h : i < n) : marked k M n i = markM (M i) (kAt k M i) := if_pos h
theorem marked_succ (k : Nat) (M : Nat → Ms) (j i : Nat) : setM (setM (setM (marked k M j) j (put5 (M j) (kAt k M j))) j { put5 (M j) (kAt k M j) with certs := cmarks (kAt k M j + 5) (M j).certs.length }) j (markM (M j) (kAt k M j)) i = marked k M (j + 1) i := by
  by_cases h : i = j
  · subst h
    rw [setM_eq]
    unfold marked
    rw [if_pos (by omega)]
  · rw [setM_ne h, setM_ne h, setM_ne h]
    unfold marked
    by_cases h2 : i < j
    · rw [if_pos h2, if_pos (by omega)]
    · rw [if_neg h2, if_neg (by omega)]
end Led
end Go.Proofs.Ytflojfkalnojbaa
