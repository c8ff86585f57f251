/- the laws' marks of sessions. -/
import Derived.Test.YtdjnkchaapcjpaaE1
namespace Go.Proofs.Ytdjnkchaapcjpaa
open Go.RowKit

theorem SesAt.upd {w w' : World} {g off b : Nat} {ts : List Se} (h : SesAt w g off ts) (he : Upd b w w') (hne : g ≠ b) (hg : g < w.heap.size) : SesAt w' g off ts :=
  fun i t ht => ⟨(he.at_ne _ _ hne hg).1.trans (h i t ht).1, (he.at_ne _ _ hne hg).1.trans (h i t ht).2⟩
theorem ERoom.upd {w w' : World} {g off n b : Nat} (h : ERoom w g off n) (he : Upd b w w') (hne : g ≠ b) : ERoom w' g off n :=
  ⟨Nat.lt_of_lt_of_le h.1 he.2.1, fun j hj => ⟨by rw [(he.at_ne _ _ hne h.1).1]; exact (h.2 j hj).1, by rw [(he.at_ne _ _ hne h.1).2]; exact (h.2 j hj).2⟩⟩
def EOwn (w : World) (v : Value) (g : Nat) (ts : List Se) : Prop :=
  ∃ a cap, v = .slice a ts.length cap ∧ ts.length ≤ cap ∧ cap ≤ maxLen ∧ (0 < ts.length → ∃ off, a = some ⟨g, off, none⟩ ∧ ERoom w g off ts.length ∧ SesAt w g off ts)
theorem EOwn.slice {w : World} {v : Value} {g : Nat} {ts : List Se} (h : EOwn w v g ts) : ESlice w v ts := by
  obtain ⟨a, cap, h1, h2, h3, h4⟩ := h
  refine ⟨a, cap, h1, h2, h3, fun h0 => ?_⟩
  obtain ⟨off, e, hr, hN⟩ := h4 h0
  exact ⟨g, off, e, hr.1, hN⟩
theorem EOwn.ext {w w' : World} {v : Value} {g : Nat} {ts : List Se} (h : EOwn w v g ts) (he : Ext w w') : EOwn w' v g ts := by
  obtain ⟨a, cap, h1, h2, h3, h4⟩ := h
  refine ⟨a, cap, h1, h2, h3, fun h0 => ?_⟩
  obtain ⟨off, e, hr, hN⟩ := h4 h0
  exact ⟨off, e, hr.ext he, hN.ext hr.1 he⟩
theorem EOwn.lt {w : World} {v : Value} {g : Nat} {ts : List Se} (h : EOwn w v g ts) (h0 : 0 < ts.length) : g < w.heap.size := by
  obtain ⟨a, cap, -, -, -, h4⟩ := h
  obtain ⟨off, -, hr, -⟩ := h4 h0
  exact hr.1
theorem EOwn.nil {w w' : World} {v : Value} {g g' : Nat} {ts : List Se} (h : EOwn w v g ts) (h0 : ¬ 0 < ts.length) : EOwn w' v g' ts := by
  obtain ⟨a, cap, h1, h2, h3, -⟩ := h
  exact ⟨a, cap, h1, h2, h3, fun h => absurd h h0⟩
theorem EOwn.upd' {w w' : World} {v : Value} {g b : Nat} {ts : List Se} (h : EOwn w v g ts) (he : Upd b w w') (hne : 0 < ts.length → g ≠ b) : EOwn w' v g ts := by
  by_cases h0 : 0 < ts.length
  · obtain ⟨a, cap, h1, h2, h3, h4⟩ := h
    refine ⟨a, cap, h1, h2, h3, fun _ => ?_⟩
    obtain ⟨off, e, hr, hN⟩ := h4 h0
    exact ⟨off, e, hr.upd he (hne h0), hN.upd he (hne h0) hr.1⟩
  · exact h.nil h0
theorem EOwn.pick {w : World} {v : Value} {g : Nat} {ts : List Se} (h : EOwn w v g ts) : ∃ g', g' ≤ w.heap.size ∧ EOwn w v g' ts ∧ (g' = w.heap.size ∧ ¬ 0 < ts.length ∨ (g' = g ∧ g < w.heap.size ∧ 0 < ts.length)) := by
  by_cases h0 : 0 < ts.length
  · exact ⟨g, Nat.le_of_lt (h.lt h0), h, Or.inr ⟨rfl, h.lt h0, h0⟩⟩
  · exact ⟨_, Nat.le_refl _, h.nil h0, Or.inl ⟨rfl, h0⟩⟩

def emark (k : Nat) : Se := ⟨(k : Nat), (k + 1 : Nat)⟩
def emarks (k n : Nat) : List Se := (List.range n).map fun i => emark (k + 2 * i)
theorem emarks_length (k n : Nat) : (emarks k n).length = n := by simp [emarks]
theorem emarks_get (k n i : Nat) (h : i < n) : (emarks k n)[i]? = some (emark (k + 2 * i)) := by
  unfold emarks
  rw [List.getElem?_map, List.getElem?_range h]; rfl

set_option maxHeartbeats 2000000 in
set_option maxRecDepth 100000 in
theorem markSessionS_any (v : Value) (g : Nat) (ts : List Se) (k : Nat) (w : World) (hO : EOwn w v g ts) (hk : k ≤ 100) (hl : ts.length ≤ 1048576) :
    Calls Try.prog 37 #[v, .int .i64 k] w fun e w' => e = .returned (.int .i64 (k + 2 * ts.length : Nat)) ∧ EOwn w' v g (emarks k ts.length) ∧ Upd g w w' := by
  obtain ⟨a, cap, rfl, hlc, hcm, hx⟩ := hO
  have HX : Hid (0 < ts.length → ∃ off, a = some ⟨g, off, none⟩ ∧ ERoom w g off ts.length ∧ SesAt w g off ts) := hx
  clear hx
  have hcm' : cap ≤ maxLen := hcm
  have HC : Hid (cap ≤ maxLen) := hcm'
  clear hcm'
  unfold maxLen at hcm
  go_enter Try.func37, Try.ntmps37
  go_wp2
  go_loopw [1, 5] (fun kv i wr => ∃ (j : Nat), j ≤ ts.length ∧ i = .int .i64 j ∧ kv = .int .i64 (k + 2 * j : Nat) ∧ Hid (∀ off, a = some ⟨g, off, none⟩ → 0 < ts.length → ERoom wr g off ts.length ∧ SesAt wr g off ((emarks k ts.length).take j)) ∧ Hid (Upd g w wr)) (fun _ i _ => ts.length - (intOf i).toNat)
  case atStart =>
    refine ⟨0, Nat.zero_le _, rfl, rfl, ?_, Upd.refl _ _⟩
    intro off ha h0
    obtain ⟨off', ha', hr, _⟩ := HX.out h0
    rw [ha] at ha'
    simp only [Option.some.injEq, Addr.mk.injEq, true_and, and_true] at ha'
    subst ha'
    exact ⟨hr, fun i z h => by simp at h⟩
  case round =>
    obtain ⟨j, hj, rfl, rfl, HR, HU⟩ := hrel
    by_cases hlt : j < ts.length
    · obtain ⟨off, rfl, _, _⟩ := HX.out (by omega)
      obtain ⟨hr, hN⟩ := HR.out off rfl (by omega)
      obtain ⟨kk, hkk⟩ : ∃ kk, kk = k + 2 * j := ⟨_, rfl⟩
      have hkb : kk ≤ 5242981 := by omega
      have HK : Hid (kk = k + 2 * j) := hkk
      rw [← hkk]
      clear hkk
      have HRR : Hid (ERoom wr g off ts.length) := hr
      have HNN : Hid (SesAt wr g off ((emarks k ts.length).take j)) := hN
      clear hr hN
      obtain ⟨⟨u0, r0⟩, f0⟩ := HRR.out.2 (j * 2) (by omega)
      obtain ⟨⟨u1, r1⟩, f1⟩ := HRR.out.2 (j * 2 + 1) (by omega)
      rw [← Nat.add_assoc] at r1 f1
      have P1 : Hid (ERoom (putE wr g (off + j * 2) (emark kk)) g off ts.length) := HRR.out.put (emark kk) hlt
      have P2 : Hid (SesAt (putE wr g (off + j * 2) (emark kk)) g off ((emarks k ts.length).take (j + 1))) := SesAt.put HRR.out hlt (by rw [emarks_get _ _ _ hlt, ← HK.out]) HNN.out
      have P3 : Hid (Upd g w (putE wr g (off + j * 2) (emark kk))) := (HU.out.setAt _ _).setAt _ _
      go_wp2
      refine ⟨⟨j + 1, by omega, by go_num, by rw [show k + 2 * (j + 1) = kk + 1 + 1 from by rw [HK.out]; omega]; go_num, ?_, P3.out⟩, by simp [intOf]; omega⟩
      intro off' ho _
      simp only [Option.some.injEq, Addr.mk.injEq, true_and, and_true] at ho
      subst ho
      exact ⟨P1.out, P2.out⟩
    · have hje : j = ts.length := by omega
      subst hje
      go_wp2
      go_ret
      refine ⟨rfl, ⟨_, cap, by rw [emarks_length], by rw [emarks_length]; exact hlc, HC.out, fun h0 => ?_⟩, HU.out⟩
      rw [emarks_length] at h0
      obtain ⟨off, rfl, _, _⟩ := HX.out h0
      obtain ⟨hr, hN⟩ := HR.out off rfl h0
      rw [List.take_of_length_le (by rw [emarks_length]; omega)] at hN
      exact ⟨off, rfl, by rw [emarks_length]; exact hr, hN⟩

set_option maxHeartbeats 2000000 in
set_option maxRecDepth 100000 in
theorem heldSessionS_any (v : Value) (n k : Nat) (w : World) (hO : ESlice w v (emarks k n)) (hk : k ≤ 100) (hl : n ≤ 1048576) :
    Calls Try.prog 40 #[v, .int .i64 k] w fun e w' => e = .returned (.int .i64 (k + 2 * n : Nat)) ∧ Ext w w' := by
  obtain ⟨a, cap, rfl, hlc, hcm, hx⟩ := hO
  have HX : Hid (0 < (emarks k n).length → ∃ b off, a = some ⟨b, off, none⟩ ∧ b < w.heap.size ∧ SesAt w b off (emarks k n)) := hx
  clear hx
  unfold maxLen at hcm
  rw [emarks_length] at hlc ⊢
  go_enter Try.func40, Try.ntmps40
  go_wp2
  go_loopw [1, 5] (fun kv i wr => ∃ (j : Nat), j ≤ n ∧ i = .int .i64 j ∧ kv = .int .i64 (k + 2 * j : Nat) ∧ Hid (Ext w wr)) (fun _ i _ => n - (intOf i).toNat)
  case atStart => exact ⟨0, Nat.zero_le _, rfl, rfl, Ext.refl _⟩
  case round =>
    obtain ⟨j, hj, rfl, rfl, HE⟩ := hrel
    by_cases hlt : j < n
    · obtain ⟨b, off, rfl, hb, hN⟩ := HX.out (by rw [emarks_length]; omega)
      obtain ⟨d0, d1⟩ := hN.ext hb HE.out j _ (emarks_get k n j hlt)
      obtain ⟨kk, hkk⟩ : ∃ kk, kk = k + 2 * j := ⟨_, rfl⟩
      have hkb : kk ≤ 5242981 := by omega
      have HK : Hid (kk = k + 2 * j) := hkk
      rw [← hkk] at d0 d1 ⊢
      have hd1 : wr.cell? ⟨b, off + j * 2 + 1, none⟩ = some (.int .i64 ((kk : Int) + 1)) := d1
      have hd0 : wr.cell? ⟨b, off + j * 2, none⟩ = some (.int .i64 (kk : Int)) := d0
      clear hkk hN d0 d1
      go_wp2
      exact ⟨⟨j + 1, by omega, by go_num, by rw [show k + 2 * (j + 1) = kk + 1 + 1 from by rw [HK.out]; omega]; go_num, HE⟩, by simp [intOf]; omega⟩
    · have hje : j = n := by omega
      subst hje
      go_wp2
      go_ret
      exact ⟨rfl, HE.out⟩

/-- The slice value has an address. -/
def SomeS (v : Value) : Prop := ∃ b off n cap, v = .slice (some ⟨b, off, none⟩) n cap
theorem toSessionS_own (v : Value) (l : List Se) (w : World) (hS : ESlice w v l) (hl : l.length ≤ 1048576) :
    Calls Try.prog 27 #[v] w fun e w' => ∃ v', e = .returned v' ∧ SomeS v' ∧ EOwn w' v' w.heap.size l ∧ Ext w w' :=
  (toSessionS_at v l w hS hl).mono fun _ _ ⟨he, hr, hN, hE⟩ => ⟨_, he, ⟨_, _, _, _, rfl⟩, ⟨_, _, rfl, Nat.le_refl _, by unfold maxLen; omega, fun _ => ⟨0, rfl, hr, hN⟩⟩, hE⟩
end Go.Proofs.Ytdjnkchaapcjpaa
