/- the laws' functions over a SplitResult; the exact law of SplitSessions, walked. -/
import Derived.Test.YtjlmkjcahnnjpaaE13
namespace Go.Proofs.Ytjlmkjcahnnjpaa
open Go.RowKit

def imarks (k n : Nat) : List Int := (List.range n).map fun i => ((k + i : Nat) : Int)
theorem imarks_length (k n : Nat) : (imarks k n).length = n := by simp [imarks]
theorem imarks_get (k n i : Nat) (h : i < n) : (imarks k n)[i]? = some ((k + i : Nat) : Int) := by
  unfold imarks
  rw [List.getElem?_map, List.getElem?_range h]; rfl
set_option maxHeartbeats 2000000 in
set_option maxRecDepth 100000 in
theorem markInt64S_any (v : Value) (g : Nat) (ts : List Int) (k : Nat) (w : World) (hO : IOwn w v g ts) (hk : k ≤ 10000000) (hl : ts.length ≤ 1048576) :
    Calls Try.prog 50 #[v, .int .i64 k] w fun e w' => e = .returned (.int .i64 (k + ts.length : Nat)) ∧ IOwn w' v g (imarks k ts.length) ∧ Upd g w w' := by
  obtain ⟨a, cap, rfl, hlc, hcm, hx⟩ := hO
  have HX : Hid (0 < ts.length → ∃ off, a = some ⟨g, off, none⟩ ∧ IRoom w g off ts.length ∧ NumsAt w g off ts) := hx
  clear hx
  have HC : Hid (cap ≤ maxLen) := hcm
  unfold maxLen at hcm
  go_enter Try.func50, Try.ntmps50
  go_wp2
  go_loopw [1, 5] (fun kv i wr => ∃ (j : Nat), j ≤ ts.length ∧ i = .int .i64 j ∧ kv = .int .i64 (k + j : Nat) ∧ Hid (∀ off, a = some ⟨g, off, none⟩ → 0 < ts.length → IRoom wr g off ts.length ∧ NumsAt wr g off ((imarks k ts.length).take j)) ∧ Hid (Upd g w wr)) (fun _ i _ => ts.length - (intOf i).toNat)
  case atStart =>
    refine ⟨0, Nat.zero_le _, rfl, rfl, ?_, Upd.refl _ _⟩
    intro off ha h0
    obtain ⟨off', ha', hr, _⟩ := HX.out h0
    rw [ha] at ha'
    simp only [Option.some.injEq, Addr.mk.injEq, true_and, and_true] at ha'
    subst ha'
    exact ⟨hr, fun i z h => by simp at h⟩
  case round =>
    obtain ⟨j, hj, rfl, rfl, HR, HU⟩ := hrel
    by_cases hlt : j < ts.length
    · obtain ⟨off, rfl, _, _⟩ := HX.out (by omega)
      obtain ⟨hr, hN⟩ := HR.out off rfl (by omega)
      obtain ⟨kk, hkk⟩ : ∃ kk, kk = k + j := ⟨_, rfl⟩
      have hkb : kk ≤ 15242981 := by omega
      have HK : Hid (kk = k + j) := hkk
      rw [← hkk]
      clear hkk
      have HRR : Hid (IRoom wr g off ts.length) := hr
      have HNN : Hid (NumsAt wr g off ((imarks k ts.length).take j)) := hN
      clear hr hN
      obtain ⟨⟨u0, r0⟩, f0⟩ := HRR.out.2 j hlt
      have P1 : Hid (IRoom (wr.setCell ⟨g, off + j, none⟩ (.int .i64 (kk : Int))) g off ts.length) := HRR.out.set _ hlt
      have P2 : Hid (NumsAt (wr.setCell ⟨g, off + j, none⟩ (.int .i64 (kk : Int))) g off ((imarks k ts.length).take (j + 1))) := NumsAt.set HRR.out hlt (by rw [imarks_get _ _ _ hlt, ← HK.out]) HNN.out
      have P3 : Hid (Upd g w (wr.setCell ⟨g, off + j, none⟩ (.int .i64 (kk : Int)))) := HU.out.setAt _ _
      go_wp2
      refine ⟨⟨j + 1, by omega, by go_num, by rw [show k + (j + 1) = kk + 1 from by rw [HK.out]; omega]; go_num, ?_, P3.out⟩, by simp [intOf]; omega⟩
      intro off' ho _
      simp only [Option.some.injEq, Addr.mk.injEq, true_and, and_true] at ho
      subst ho
      exact ⟨P1.out, P2.out⟩
    · have hje : j = ts.length := by omega
      subst hje
      go_wp2
      go_ret
      refine ⟨rfl, ⟨_, cap, by rw [imarks_length], by rw [imarks_length]; exact hlc, HC.out, fun h0 => ?_⟩, HU.out⟩
      rw [imarks_length] at h0
      obtain ⟨off, rfl, _, _⟩ := HX.out h0
      obtain ⟨hr, hN⟩ := HR.out off rfl h0
      rw [List.take_of_length_le (by rw [imarks_length]; omega)] at hN
      exact ⟨off, rfl, by rw [imarks_length]; exact hr, hN⟩

set_option maxHeartbeats 2000000 in
set_option maxRecDepth 100000 in
theorem heldInt64S_any (v : Value) (n k : Nat) (w : World) (hO : ISlice w v (imarks k n)) (hk : k ≤ 10000000) (hl : n ≤ 1048576) :
    Calls Try.prog 51 #[v, .int .i64 k] w fun e w' => e = .returned (.int .i64 (k + n : Nat)) ∧ Ext w w' := by
  obtain ⟨a, cap, rfl, hlc, hcm, hx⟩ := hO
  have HX : Hid (0 < (imarks k n).length → ∃ b off, a = some ⟨b, off, none⟩ ∧ b < w.heap.size ∧ NumsAt w b off (imarks k n)) := hx
  clear hx
  unfold maxLen at hcm
  rw [imarks_length] at hlc ⊢
  go_enter Try.func51, Try.ntmps51
  go_wp2
  go_loopw [1, 5] (fun kv i wr => ∃ (j : Nat), j ≤ n ∧ i = .int .i64 j ∧ kv = .int .i64 (k + j : Nat) ∧ Hid (Ext w wr)) (fun _ i _ => n - (intOf i).toNat)
  case atStart => exact ⟨0, Nat.zero_le _, rfl, rfl, Ext.refl _⟩
  case round =>
    obtain ⟨j, hj, rfl, rfl, HE⟩ := hrel
    by_cases hlt : j < n
    · obtain ⟨b, off, rfl, hb, hN⟩ := HX.out (by rw [imarks_length]; omega)
      have d0 := hN.ext hb HE.out j _ (imarks_get k n j hlt)
      obtain ⟨kk, hkk⟩ : ∃ kk, kk = k + j := ⟨_, rfl⟩
      have hkb : kk ≤ 15242981 := by omega
      have HK : Hid (kk = k + j) := hkk
      rw [← hkk] at d0 ⊢
      clear hkk hN
      go_wp2
      exact ⟨⟨j + 1, by omega, by go_num, by rw [show k + (j + 1) = kk + 1 from by rw [HK.out]; omega]; go_num, HE⟩, by simp [intOf]; omega⟩
    · have hje : j = n := by omega
      subst hje
      go_wp2
      go_ret
      exact ⟨rfl, HE.out⟩

set_option maxHeartbeats 1000000 in
theorem eqSplitResult_same (c : Int) (v u v' u' : Value) (ls : List Se) (os : List Int) (w : World) (h : ESlice w v ls) (h' : ESlice w v' ls) (i : ISlice w u os) (i' : ISlice w u' os) :
    Calls Try.prog 29 #[sr c v u, sr c v' u'] w fun e w' => e = .returned (.bool true) ∧ Ext w w' := by
  have HS : Hid (ESlice w v ls) := h
  have HS' : Hid (ESlice w v' ls) := h'
  have HI : Hid (ISlice w u os) := i
  have HI' : Hid (ISlice w u' os) := i'
  obtain ⟨a, cap, rfl, _⟩ := h
  obtain ⟨a', cap', rfl, _⟩ := h'
  obtain ⟨b, cbp, rfl, _⟩ := i
  obtain ⟨b', cbp', rfl, _⟩ := i'
  unfold sr
  go_enter Try.func29, Try.ntmps29
  go_wp2_with fail
  refine (eqSessionS_same _ _ ls _ (by exact HS.out.ext (((Ext.refl _).alloc _).alloc _)) (by exact HS'.out.ext (((Ext.refl _).alloc _).alloc _))).mono ?_
  rintro e w2 ⟨rfl, hb⟩
  have HB : Hid (Ext w w2) := (((Ext.refl _).alloc _).alloc _).trans hb
  have d0 : w2.cell? ⟨w.heap.size, 2, none⟩ = some (.slice b os.length cbp) := ((Ext.cell hb).1 _ _ (by simp; omega)).trans (by simp)
  have d1 : w2.cell? ⟨w.heap.size + 1, 2, none⟩ = some (.slice b' os.length cbp') := ((Ext.cell hb).1 _ _ (by simp)).trans (by simp)
  clear hb
  go_wp2_with fail
  refine (eqInt64S_same _ _ os _ (by exact HI.out.ext HB.out) (by exact HI'.out.ext HB.out)).mono ?_
  rintro e w3 ⟨rfl, hb⟩
  have HB3 : Hid (Ext w w3) := HB.out.trans hb
  clear hb
  go_wp2
  go_ret
  exact ⟨rfl, HB3.out⟩

def Same (b : Nat) (w w' : World) : Prop := ∀ o, w'.cell? ⟨b, o, none⟩ = w.cell? ⟨b, o, none⟩ ∧ w'.frozen? ⟨b, o, none⟩ = w.frozen? ⟨b, o, none⟩
theorem Same.trans {b : Nat} {w w1 w2 : World} (h : Same b w w1) (h2 : Same b w1 w2) : Same b w w2 := fun o => ⟨(h2 o).1.trans (h o).1, (h2 o).2.trans (h o).2⟩
theorem Same.ext {b : Nat} {w w1 : World} (h : Ext w w1) (hb : b < w.heap.size) : Same b w w1 := fun o => ⟨(Ext.cell h).1 b o hb, (Ext.cell h).2 b o hb⟩
theorem Same.upd {b g : Nat} {w w1 : World} (h : Upd g w w1) (hb : b < w.heap.size) (hne : b ≠ g) : Same b w w1 := fun o => h.at_ne b o hne hb
theorem EOwn.same {w w' : World} {v : Value} {g : Nat} {ts : List Se} (h : EOwn w v g ts) (hs : w.heap.size ≤ w'.heap.size) (hm : 0 < ts.length → Same g w w') : EOwn w' v g ts := by
  obtain ⟨a, cap, h1, h2, h3, h4⟩ := h
  refine ⟨a, cap, h1, h2, h3, fun h0 => ?_⟩
  obtain ⟨off, e, hr, hN⟩ := h4 h0
  have hq := hm h0
  exact ⟨off, e, ⟨Nat.lt_of_lt_of_le hr.1 hs, fun j hj => ⟨by rw [(hq _).1]; exact (hr.2 j hj).1, by rw [(hq _).2]; exact (hr.2 j hj).2⟩⟩, fun i t ht => ⟨(hq _).1.trans (hN i t ht).1, (hq _).1.trans (hN i t ht).2⟩⟩
theorem IOwn.same {w w' : World} {v : Value} {g : Nat} {ts : List Int} (h : IOwn w v g ts) (hs : w.heap.size ≤ w'.heap.size) (hm : 0 < ts.length → Same g w w') : IOwn w' v g ts := by
  obtain ⟨a, cap, h1, h2, h3, h4⟩ := h
  refine ⟨a, cap, h1, h2, h3, fun h0 => ?_⟩
  obtain ⟨off, e, hr, hN⟩ := h4 h0
  have hq := hm h0
  exact ⟨off, e, ⟨Nat.lt_of_lt_of_le hr.1 hs, fun j hj => ⟨by rw [(hq _).1]; exact (hr.2 j hj).1, by rw [(hq _).2]; exact (hr.2 j hj).2⟩⟩, fun i t ht => (hq _).1.trans (hN i t ht)⟩

/-- What marks leave: all but blocks g and h. -/
def Mark (w w' : World) (p : Prop) (g : Nat) (q : Prop) (h : Nat) : Prop :=
  w.heap.size ≤ w'.heap.size ∧ (∀ b, b < w.heap.size → (p → b ≠ g) → (q → b ≠ h) → Same b w w') ∧ ∀ B, B ≤ w.heap.size → (p → B ≤ g) → (q → B ≤ h) → Below B w w'

set_option maxHeartbeats 1000000 in
theorem markSplitResult_any (c : Int) (v u : Value) (g h : Nat) (ls : List Se) (os : List Int) (w : World) (hO : EOwn w v g ls) (hI : IOwn w u h os) (hne : 0 < ls.length → 0 < os.length → g ≠ h) (hl : ls.length ≤ 1048576) (hl' : os.length ≤ 1048576) :
    Calls Try.prog 30 #[sr c v u, .int .i64 1] w fun e w' => e = .returned (.int .i64 (1 + 2 * ls.length + os.length : Nat)) ∧ ESlice w' v (emarks 1 ls.length) ∧ ISlice w' u (imarks (1 + 2 * ls.length) os.length) ∧ Mark w w' (0 < ls.length) g (0 < os.length) h := by
  have HO : Hid (EOwn w v g ls) := hO
  have HI : Hid (IOwn w u h os) := hI
  have HN : Hid (0 < ls.length → 0 < os.length → g ≠ h) := hne
  obtain ⟨a, cap, rfl, _⟩ := hO
  obtain ⟨b, cbp, rfl, _⟩ := hI
  clear hne
  have HP : Hid (∀ W, Ext w W → ∃ gz, gz ≤ W.heap.size ∧ EOwn W (.slice a ls.length cap) gz ls ∧ (gz = W.heap.size ∧ ¬ 0 < ls.length ∨ (gz = g ∧ g < W.heap.size ∧ 0 < ls.length))) := fun W he => (HO.out.ext he).pick
  have HW : Hid (∀ t, Ext w (w.alloc (.cells #[.int .i64 c, .slice a ls.length cap, .slice b os.length cbp] t))) := fun t => (Ext.refl _).alloc _
  unfold sr
  go_enter Try.func30, Try.ntmps30
  go_wp2_with fail
  obtain ⟨gz, hgz, hOz, hcz⟩ := HP.out _ (HW.out _)
  refine (markSessionS_any _ gz ls 1 _ hOz (by omega) hl).mono ?_
  rintro e w2 ⟨rfl, hO2, hU⟩
  simp only [World.size_alloc] at hgz hcz
  have HU : Hid (∀ bb, bb < w.heap.size + 1 → bb ≠ gz → Same bb (w.alloc (.cells #[.int .i64 c, .slice a ls.length cap, .slice b os.length cbp] 33)) w2) := fun bb hb hn => Same.upd hU (by simpa using hb) hn
  have HB2 : Hid (Below gz (w.alloc (.cells #[.int .i64 c, .slice a ls.length cap, .slice b os.length cbp] 33)) w2) := hU.1
  have HZ2 : Hid (w.heap.size + 1 ≤ w2.heap.size) := by show _ ≤ _; have := hU.2.1; simpa using this
  have HCZ : Hid (gz = w.heap.size + 1 ∧ ¬ 0 < ls.length ∨ (gz = g ∧ g < w.heap.size ∧ 0 < ls.length)) := by
    rcases hcz with h | ⟨h1, h2, h3⟩
    · exact Or.inl h
    · exact Or.inr ⟨h1, HO.out.lt h3, h3⟩
  have HO2 : Hid (EOwn w2 (.slice a ls.length cap) gz (emarks 1 ls.length)) := hO2
  have HI2 : Hid (IOwn w2 (.slice b os.length cbp) h os) := (HI.out.ext ((Ext.refl _).alloc _)).same (by simpa using HZ2.out) (fun h0 => HU.out h (by have := HI.out.lt h0; omega) (by
    intro e
    have := HI.out.lt h0
    rcases HCZ.out with h1 | ⟨h1, h2, h3⟩
    · omega
    · exact HN.out h3 h0 (by omega)))
  have d0 : w2.cell? ⟨w.heap.size, 2, none⟩ = some (.slice b os.length cbp) := ((HU.out w.heap.size (by omega) (by rcases HCZ.out with h1 | ⟨h1, h2, h3⟩ <;> omega)) 2).1.trans (by simp)
  clear hU hO2 hOz hgz hcz
  obtain ⟨hz, hhz, hIz, hcz⟩ := HI2.out.pick
  have HIz : Hid (IOwn w2 (.slice b os.length cbp) hz os) := hIz
  have HDZ : Hid (hz = w2.heap.size ∧ ¬ 0 < os.length ∨ (hz = h ∧ h < w.heap.size ∧ 0 < os.length)) := by
    rcases hcz with h | ⟨h1, h2, h3⟩
    · exact Or.inl h
    · exact Or.inr ⟨h1, HI.out.lt h3, h3⟩
  clear hIz hcz hhz
  obtain ⟨kk, hkk⟩ : ∃ kk, kk = 1 + 2 * ls.length := ⟨_, rfl⟩
  have hkb : kk ≤ 10000000 := by omega
  rw [← hkk]
  have HK : Hid (kk = 1 + 2 * ls.length) := hkk
  clear hkk
  go_wp2_with fail
  refine (markInt64S_any _ hz os kk _ HIz.out (by omega) hl').mono ?_
  rintro e w3 ⟨rfl, hI3, hU⟩
  have HI3 : Hid (ISlice w3 (.slice b os.length cbp) (imarks kk os.length)) := hI3.slice
  have HO3 : Hid (ESlice w3 (.slice a ls.length cap) (emarks 1 ls.length)) := by
    refine EOwn.slice (g := gz) (HO2.out.same hU.2.1 (fun h0 => Same.upd hU (HO2.out.lt h0) ?_))
    rw [emarks_length] at h0
    intro e
    rcases HCZ.out with h1 | ⟨h1, h2, h3⟩
    · omega
    · rcases HDZ.out with h4 | ⟨h4, h5, h6⟩
      · have := HZ2.out; omega
      · exact HN.out h3 h6 (by omega)
  have HM : Hid (Mark w w3 (0 < ls.length) g (0 < os.length) h) := by
    refine ⟨by have := HZ2.out; have := hU.2.1; omega, fun bb hb h1 h2 => ?_, fun B hB h1 h2 => ?_⟩
    · refine ((Same.ext ((Ext.refl _).alloc _) hb).trans (HU.out bb (by omega) ?_)).trans (Same.upd hU (by have := HZ2.out; omega) ?_)
      · rcases HCZ.out with q | ⟨q, q2, q3⟩
        · omega
        · have := h1 q3; omega
      · rcases HDZ.out with q | ⟨q, q2, q3⟩
        · have := HZ2.out; omega
        · have := h2 q3; omega
    · refine ((((Below.refl B w).alloc hB _).trans (HB2.out.mono ?_)).trans (hU.1.mono ?_))
      · rcases HCZ.out with q | ⟨q, q2, q3⟩
        · omega
        · have := h1 q3; omega
      · rcases HDZ.out with q | ⟨q, q2, q3⟩
        · have := HZ2.out; omega
        · have := h2 q3; omega
  clear hU hI3
  go_wp2
  go_ret
  have h3 := HI3.out
  rw [HK.out] at h3
  exact ⟨ret_int (by rw [HK.out]; push_cast; rfl), HO3.out, h3, HM.out⟩

set_option maxHeartbeats 1000000 in
theorem heldSplitResult_any (c : Int) (v u : Value) (n m : Nat) (w : World) (hO : ESlice w v (emarks 1 n)) (hI : ISlice w u (imarks (1 + 2 * n) m)) (hl : n ≤ 1048576) (hl' : m ≤ 1048576) :
    Calls Try.prog 31 #[sr c v u, .int .i64 1] w fun e w' => e = .returned (.int .i64 (1 + 2 * n + m : Nat)) ∧ Ext w w' := by
  have HO : Hid (ESlice w v (emarks 1 n)) := hO
  have HI : Hid (ISlice w u (imarks (1 + 2 * n) m)) := hI
  obtain ⟨a, cap, rfl, _⟩ := hO
  obtain ⟨b, cbp, rfl, _⟩ := hI
  unfold sr
  go_enter Try.func31, Try.ntmps31
  go_wp2_with fail
  refine (heldSessionS_any _ n 1 _ (by exact HO.out.ext ((Ext.refl _).alloc _)) (by omega) hl).mono ?_
  rintro e w2 ⟨rfl, hb⟩
  have HB : Hid (Ext w w2) := ((Ext.refl _).alloc _).trans hb
  have d0 : w2.cell? ⟨w.heap.size, 2, none⟩ = some (.slice b (imarks (1 + 2 * n) m).length cbp) := ((Ext.cell hb).1 _ _ (by simp)).trans (by simp)
  clear hb
  obtain ⟨kk, hkk⟩ : ∃ kk, kk = 1 + 2 * n := ⟨_, rfl⟩
  have hkb : kk ≤ 10000000 := by omega
  rw [← hkk] at d0 HI ⊢
  have HK : Hid (kk = 1 + 2 * n) := hkk
  clear hkk
  go_wp2_with fail
  refine (heldInt64S_any _ m kk _ (by exact HI.out.ext HB.out) (by omega) hl').mono ?_
  rintro e w3 ⟨rfl, hb⟩
  have HB3 : Hid (Ext w w3) := HB.out.trans hb
  clear hb
  obtain ⟨mm, hmm⟩ : ∃ mm, mm = kk + m := ⟨_, rfl⟩
  rw [← hmm]
  have HM : Hid (mm = kk + m) := hmm
  clear hmm
  go_wp2
  go_ret
  exact ⟨ret_int (by rw [HM.out, HK.out]), HB3.out⟩
end Go.Proofs.Ytjlmkjcahnnjpaa
