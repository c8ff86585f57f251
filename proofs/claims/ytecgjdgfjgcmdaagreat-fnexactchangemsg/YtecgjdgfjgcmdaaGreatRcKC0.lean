/- marks of certificates; CertsResult: the laws' functions over it. -/
import Derived.Test.YtecgjdgfjgcmdaaGreatRcQV9
namespace Go.Proofs.YtecgjdgfjgcmdaaGreat
open Go.RowKit
def cmark (k : Nat) : Ct := ⟨(k : Nat), (k + 1 : Nat), (k + 2 : Nat)⟩
def cmarks (k n : Nat) : List Ct := (List.range n).map fun i => cmark (k + 3 * i)
theorem cmarks_length (k n : Nat) : (cmarks k n).length = n := by simp [cmarks]
theorem cmarks_get (k n i : Nat) (h : i < n) : (cmarks k n)[i]? = some (cmark (k + 3 * i)) := by
  unfold cmarks
  rw [List.getElem?_map, List.getElem?_range h]; rfl
theorem CtOwn.pick {w : World} {v : Value} {g : Nat} {ts : List Ct} (h : CtOwn w v g ts) : ∃ g', g' ≤ w.heap.size ∧ CtOwn w v g' ts ∧ (g' = w.heap.size ∧ ¬ 0 < ts.length ∨ (g' = g ∧ g < w.heap.size ∧ 0 < ts.length)) := by
  by_cases h0 : 0 < ts.length
  · exact ⟨g, Nat.le_of_lt (h.lt h0), h, Or.inr ⟨rfl, h.lt h0, h0⟩⟩
  · exact ⟨_, Nat.le_refl _, h.nil h0, Or.inl ⟨rfl, h0⟩⟩
theorem CtOwn.updR {lo hi : Nat} {w w' : World} {v : Value} {g : Nat} {ts : List Ct} (h : CtOwn w v g ts) (he : Led.UpdR lo hi w w') (hne : 0 < ts.length → g < lo ∨ hi ≤ g) : CtOwn w' v g ts := by
  by_cases h0 : 0 < ts.length
  · obtain ⟨a, cap, h1, h2, h3, h4⟩ := h
    refine ⟨a, cap, h1, h2, h3, fun _ => ?_⟩
    obtain ⟨off, e, hr, hN⟩ := h4 h0
    exact ⟨off, e, ⟨Nat.lt_of_lt_of_le hr.1 he.2.1, fun j hj => ⟨by rw [(he.at_ne _ _ (hne h0) hr.1).1]; exact (hr.2 j hj).1, by rw [(he.at_ne _ _ (hne h0) hr.1).2]; exact (hr.2 j hj).2⟩⟩, fun i t ht => by
      obtain ⟨c0, c1, c2⟩ := hN i t ht
      exact ⟨(he.at_ne _ _ (hne h0) hr.1).1.trans c0, (he.at_ne _ _ (hne h0) hr.1).1.trans c1, (he.at_ne _ _ (hne h0) hr.1).1.trans c2⟩⟩
  · exact h.nil h0
set_option maxHeartbeats 2000000 in
set_option maxRecDepth 100000 in
theorem markCertS_any (v : Value) (g : Nat) (ts : List Ct) (k : Nat) (w : World) (hO : CtOwn w v g ts) (hk : k ≤ 100) (hl : ts.length ≤ 1048576) :
    Calls Tryz.prog 61 #[v, .int .i64 k] w fun e w' => e = .returned (.int .i64 (k + 3 * ts.length : Nat)) ∧ CtOwn w' v g (cmarks k ts.length) ∧ Upd g w w' := by
  obtain ⟨a, cap, rfl, hlc, hcm, hx⟩ := hO
  have HX : Hid (0 < ts.length → ∃ off, a = some ⟨g, off, none⟩ ∧ CtRoom w g off ts.length ∧ CtsAt w g off ts) := hx
  clear hx
  have hcm' : cap ≤ maxLen := hcm
  have HC : Hid (cap ≤ maxLen) := hcm'
  clear hcm'
  unfold maxLen at hcm
  go_enter Tryz.func61, Tryz.ntmps61
  go_wp2
  go_loopw [1, 5] (fun kv i wr => ∃ (j : Nat), j ≤ ts.length ∧ i = .int .i64 j ∧ kv = .int .i64 (k + 3 * j : Nat) ∧ Hid (∀ off, a = some ⟨g, off, none⟩ → 0 < ts.length → CtRoom wr g off ts.length ∧ CtsAt wr g off ((cmarks k ts.length).take j)) ∧ Hid (Upd g w wr)) (fun _ i _ => ts.length - (intOf i).toNat)
  case atStart =>
    refine ⟨0, Nat.zero_le _, rfl, rfl, ?_, Upd.refl _ _⟩
    intro off ha h0
    obtain ⟨off', ha', hr, _⟩ := HX.out h0
    rw [ha] at ha'
    simp only [Option.some.injEq, Addr.mk.injEq, true_and, and_true] at ha'
    subst ha'
    exact ⟨hr, fun i z h => by simp at h⟩
  case round =>
    obtain ⟨j, hj, rfl, rfl, HR, HU⟩ := hrel
    by_cases hlt : j < ts.length
    · obtain ⟨off, rfl, _, _⟩ := HX.out (by omega)
      obtain ⟨hr, hN⟩ := HR.out off rfl (by omega)
      obtain ⟨kk, hkk⟩ : ∃ kk, kk = k + 3 * j := ⟨_, rfl⟩
      have hkb : kk ≤ 5242981 := by omega
      have HK : Hid (kk = k + 3 * j) := hkk
      rw [← hkk]
      clear hkk
      have HRR : Hid (CtRoom wr g off ts.length) := hr
      have HNN : Hid (CtsAt wr g off ((cmarks k ts.length).take j)) := hN
      clear hr hN
      obtain ⟨⟨u0, r0⟩, f0⟩ := HRR.out.2 (j * 3) (by omega)
      obtain ⟨⟨u1, r1⟩, f1⟩ := HRR.out.2 (j * 3 + 1) (by omega)
      obtain ⟨⟨u2, r2⟩, f2⟩ := HRR.out.2 (j * 3 + 2) (by omega)
      rw [← Nat.add_assoc] at r1 f1 r2 f2
      have P1 : Hid (CtRoom (putCt wr g (off + j * 3) (cmark kk)) g off ts.length) := HRR.out.put (cmark kk) hlt
      have P2 : Hid (CtsAt (putCt wr g (off + j * 3) (cmark kk)) g off ((cmarks k ts.length).take (j + 1))) := CtsAt.put HRR.out hlt (by rw [cmarks_get _ _ _ hlt, ← HK.out]) HNN.out
      have P3 : Hid (Upd g w (putCt wr g (off + j * 3) (cmark kk))) := ((HU.out.setAt _ _).setAt _ _).setAt _ _
      go_wp2
      refine ⟨⟨j + 1, by omega, by go_num, by rw [show k + 3 * (j + 1) = kk + 1 + 1 + 1 from by rw [HK.out]; omega]; go_num, ?_, P3.out⟩, by simp [intOf]; omega⟩
      intro off' ho _
      simp only [Option.some.injEq, Addr.mk.injEq, true_and, and_true] at ho
      subst ho
      exact ⟨P1.out, P2.out⟩
    · have hje : j = ts.length := by omega
      subst hje
      go_wp2
      go_ret
      refine ⟨rfl, ⟨_, cap, by rw [cmarks_length], by rw [cmarks_length]; exact hlc, HC.out, fun h0 => ?_⟩, HU.out⟩
      rw [cmarks_length] at h0
      obtain ⟨off, rfl, _, _⟩ := HX.out h0
      obtain ⟨hr, hN⟩ := HR.out off rfl h0
      rw [List.take_of_length_le (by rw [cmarks_length]; omega)] at hN
      exact ⟨off, rfl, by rw [cmarks_length]; exact hr, hN⟩

set_option maxHeartbeats 2000000 in
set_option maxRecDepth 100000 in
theorem heldCertS_any (v : Value) (n k : Nat) (w : World) (hO : CtSlice w v (cmarks k n)) (hk : k ≤ 100) (hl : n ≤ 1048576) :
    Calls Tryz.prog 118 #[v, .int .i64 k] w fun e w' => e = .returned (.int .i64 (k + 3 * n : Nat)) ∧ Ext w w' := by
  obtain ⟨a, cap, rfl, hlc, hcm, hx⟩ := hO
  have HX : Hid (0 < (cmarks k n).length → ∃ b off, a = some ⟨b, off, none⟩ ∧ b < w.heap.size ∧ CtsAt w b off (cmarks k n)) := hx
  clear hx
  unfold maxLen at hcm
  rw [cmarks_length] at hlc ⊢
  go_enter Tryz.func118, Tryz.ntmps118
  go_wp2
  go_loopw [1, 5] (fun kv i wr => ∃ (j : Nat), j ≤ n ∧ i = .int .i64 j ∧ kv = .int .i64 (k + 3 * j : Nat) ∧ Hid (Ext w wr)) (fun _ i _ => n - (intOf i).toNat)
  case atStart => exact ⟨0, Nat.zero_le _, rfl, rfl, Ext.refl _⟩
  case round =>
    obtain ⟨j, hj, rfl, rfl, HE⟩ := hrel
    by_cases hlt : j < n
    · obtain ⟨b, off, rfl, hb, hN⟩ := HX.out (by rw [cmarks_length]; omega)
      obtain ⟨d0, d1, d2⟩ := hN.ext hb HE.out j _ (cmarks_get k n j hlt)
      obtain ⟨kk, hkk⟩ : ∃ kk, kk = k + 3 * j := ⟨_, rfl⟩
      have hkb : kk ≤ 5242981 := by omega
      have HK : Hid (kk = k + 3 * j) := hkk
      rw [← hkk] at d0 d1 d2 ⊢
      have hd1 : wr.cell? ⟨b, off + j * 3 + 1, none⟩ = some (.int .i64 ((kk : Int) + 1)) := d1
      have hd0 : wr.cell? ⟨b, off + j * 3, none⟩ = some (.int .i64 (kk : Int)) := d0
      have hd2 : wr.cell? ⟨b, off + j * 3 + 2, none⟩ = some (.int .i64 ((kk : Int) + 2)) := d2
      clear hkk hN d0 d1 d2
      go_wp2
      exact ⟨⟨j + 1, by omega, by go_num, by rw [show k + 3 * (j + 1) = kk + 1 + 1 + 1 from by rw [HK.out]; omega]; go_num, HE⟩, by simp [intOf]; omega⟩
    · have hje : j = n := by omega
      subst hje
      go_wp2
      go_ret
      exact ⟨rfl, HE.out⟩


end Go.Proofs.YtecgjdgfjgcmdaaGreat
