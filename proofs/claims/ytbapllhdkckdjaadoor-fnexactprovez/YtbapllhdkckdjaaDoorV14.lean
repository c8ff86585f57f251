/- the laws' marks of sides; the exact law of ProveZ, walked, out of what the function and its specification answer. -/
import Derived.Test.YtbapllhdkckdjaaDoorV6
import Derived.Test.YtbapllhdkckdjaaDoorZ5
namespace Go.Proofs.YtbapllhdkckdjaaDoor
open Go.RowKit

theorem SidesAt.upd {w w' : World} {g off b : Nat} {ts : List Sd} (h : SidesAt w g off ts) (he : Upd b w w') (hne : g ≠ b) (hg : g < w.heap.size) : SidesAt w' g off ts :=
  fun i t ht => ⟨(he.at_ne _ _ hne hg).1.trans (h i t ht).1, (he.at_ne _ _ hne hg).1.trans (h i t ht).2⟩
theorem SRoom.upd {w w' : World} {g off n b : Nat} (h : SRoom w g off n) (he : Upd b w w') (hne : g ≠ b) : SRoom w' g off n :=
  ⟨Nat.lt_of_lt_of_le h.1 he.2.1, fun j hj => ⟨by rw [(he.at_ne _ _ hne h.1).1]; exact (h.2 j hj).1, by rw [(he.at_ne _ _ hne h.1).2]; exact (h.2 j hj).2⟩⟩
def SOwn (w : World) (v : Value) (g : Nat) (ts : List Sd) : Prop :=
  ∃ a cap, v = .slice a ts.length cap ∧ ts.length ≤ cap ∧ cap ≤ maxLen ∧ (0 < ts.length → ∃ off, a = some ⟨g, off, none⟩ ∧ SRoom w g off ts.length ∧ SidesAt w g off ts)
theorem SOwn.slice {w : World} {v : Value} {g : Nat} {ts : List Sd} (h : SOwn w v g ts) : SSlice w v ts := by
  obtain ⟨a, cap, h1, h2, h3, h4⟩ := h
  refine ⟨a, cap, h1, h2, h3, fun h0 => ?_⟩
  obtain ⟨off, e, hr, hN⟩ := h4 h0
  exact ⟨g, off, e, hr.1, hN⟩
theorem SOwn.ext {w w' : World} {v : Value} {g : Nat} {ts : List Sd} (h : SOwn w v g ts) (he : Ext w w') : SOwn w' v g ts := by
  obtain ⟨a, cap, h1, h2, h3, h4⟩ := h
  refine ⟨a, cap, h1, h2, h3, fun h0 => ?_⟩
  obtain ⟨off, e, hr, hN⟩ := h4 h0
  exact ⟨off, e, hr.ext he, hN.ext hr.1 he⟩
theorem SOwn.lt {w : World} {v : Value} {g : Nat} {ts : List Sd} (h : SOwn w v g ts) (h0 : 0 < ts.length) : g < w.heap.size := by
  obtain ⟨a, cap, -, -, -, h4⟩ := h
  obtain ⟨off, -, hr, -⟩ := h4 h0
  exact hr.1
theorem SOwn.nil {w w' : World} {v : Value} {g g' : Nat} {ts : List Sd} (h : SOwn w v g ts) (h0 : ¬ 0 < ts.length) : SOwn w' v g' ts := by
  obtain ⟨a, cap, h1, h2, h3, -⟩ := h
  exact ⟨a, cap, h1, h2, h3, fun h => absurd h h0⟩
theorem SOwn.upd' {w w' : World} {v : Value} {g b : Nat} {ts : List Sd} (h : SOwn w v g ts) (he : Upd b w w') (hne : 0 < ts.length → g ≠ b) : SOwn w' v g ts := by
  by_cases h0 : 0 < ts.length
  · obtain ⟨a, cap, h1, h2, h3, h4⟩ := h
    refine ⟨a, cap, h1, h2, h3, fun _ => ?_⟩
    obtain ⟨off, e, hr, hN⟩ := h4 h0
    exact ⟨off, e, hr.upd he (hne h0), hN.upd he (hne h0) hr.1⟩
  · exact h.nil h0
theorem SOwn.pick {w : World} {v : Value} {g : Nat} {ts : List Sd} (h : SOwn w v g ts) : ∃ g', g' ≤ w.heap.size ∧ SOwn w v g' ts ∧ (g' = w.heap.size ∧ ¬ 0 < ts.length ∨ (g' = g ∧ g < w.heap.size ∧ 0 < ts.length)) := by
  by_cases h0 : 0 < ts.length
  · exact ⟨g, Nat.le_of_lt (h.lt h0), h, Or.inr ⟨rfl, h.lt h0, h0⟩⟩
  · exact ⟨_, Nat.le_refl _, h.nil h0, Or.inl ⟨rfl, h0⟩⟩

def smark (k : Nat) : Sd := ⟨((k : Int) % 3 == 0), (k + 1 : Nat)⟩
def smarks (k n : Nat) : List Sd := (List.range n).map fun i => smark (k + 2 * i)
theorem smarks_length (k n : Nat) : (smarks k n).length = n := by simp [smarks]
theorem smarks_get (k n i : Nat) (h : i < n) : (smarks k n)[i]? = some (smark (k + 2 * i)) := by
  unfold smarks
  rw [List.getElem?_map, List.getElem?_range h]; rfl

set_option maxHeartbeats 2000000 in
set_option maxRecDepth 100000 in
theorem markSideS_any (v : Value) (g : Nat) (ts : List Sd) (k : Nat) (w : World) (hO : SOwn w v g ts) (hk : k ≤ 100) (hl : ts.length ≤ 1048576) :
    Calls Tryd.prog 65 #[v, .int .i64 k] w fun e w' => e = .returned (.int .i64 (k + 2 * ts.length : Nat)) ∧ SOwn w' v g (smarks k ts.length) ∧ Upd g w w' := by
  obtain ⟨a, cap, rfl, hlc, hcm, hx⟩ := hO
  have HX : Hid (0 < ts.length → ∃ off, a = some ⟨g, off, none⟩ ∧ SRoom w g off ts.length ∧ SidesAt w g off ts) := hx
  clear hx
  have hcm' : cap ≤ maxLen := hcm
  have HC : Hid (cap ≤ maxLen) := hcm'
  clear hcm'
  unfold maxLen at hcm
  go_enter Tryd.func65, Tryd.ntmps65
  go_wp2
  go_loopw [1, 5] (fun kv i wr => ∃ (j : Nat), j ≤ ts.length ∧ i = .int .i64 j ∧ kv = .int .i64 (k + 2 * j : Nat) ∧ Hid (∀ off, a = some ⟨g, off, none⟩ → 0 < ts.length → SRoom wr g off ts.length ∧ SidesAt wr g off ((smarks k ts.length).take j)) ∧ Hid (Upd g w wr)) (fun _ i _ => ts.length - (intOf i).toNat)
  case atStart =>
    refine ⟨0, Nat.zero_le _, rfl, rfl, ?_, Upd.refl _ _⟩
    intro off ha h0
    obtain ⟨off', ha', hr, _⟩ := HX.out h0
    rw [ha] at ha'
    simp only [Option.some.injEq, Addr.mk.injEq, true_and, and_true] at ha'
    subst ha'
    exact ⟨hr, fun i z h => by simp at h⟩
  case round =>
    obtain ⟨j, hj, rfl, rfl, HR, HU⟩ := hrel
    by_cases hlt : j < ts.length
    · obtain ⟨off, rfl, _, _⟩ := HX.out (by omega)
      obtain ⟨hr, hN⟩ := HR.out off rfl (by omega)
      obtain ⟨kk, hkk⟩ : ∃ kk, kk = k + 2 * j := ⟨_, rfl⟩
      have hkb : kk ≤ 5242981 := by omega
      have HK : Hid (kk = k + 2 * j) := hkk
      rw [← hkk]
      clear hkk
      have HRR : Hid (SRoom wr g off ts.length) := hr
      have HNN : Hid (SidesAt wr g off ((smarks k ts.length).take j)) := hN
      clear hr hN
      obtain ⟨⟨u0, r0⟩, f0⟩ := HRR.out.2 (j * 2) (by omega)
      obtain ⟨⟨u1, r1⟩, f1⟩ := HRR.out.2 (j * 2 + 1) (by omega)
      rw [← Nat.add_assoc] at r1 f1
      have P1 : Hid (SRoom (putS wr g (off + j * 2) (smark kk)) g off ts.length) := HRR.out.put (smark kk) hlt
      have P2 : Hid (SidesAt (putS wr g (off + j * 2) (smark kk)) g off ((smarks k ts.length).take (j + 1))) := SidesAt.put HRR.out hlt (by rw [smarks_get _ _ _ hlt, ← HK.out]) HNN.out
      have P3 : Hid (Upd g w (putS wr g (off + j * 2) (smark kk))) := (HU.out.setAt _ _).setAt _ _
      go_wp2
      refine ⟨⟨j + 1, by omega, by go_num, by rw [show k + 2 * (j + 1) = kk + 1 + 1 from by rw [HK.out]; omega]; go_num, ?_, P3.out⟩, by simp [intOf]; omega⟩
      intro off' ho _
      simp only [Option.some.injEq, Addr.mk.injEq, true_and, and_true] at ho
      subst ho
      exact ⟨P1.out, P2.out⟩
    · have hje : j = ts.length := by omega
      subst hje
      go_wp2
      go_ret
      refine ⟨rfl, ⟨_, cap, by rw [smarks_length], by rw [smarks_length]; exact hlc, HC.out, fun h0 => ?_⟩, HU.out⟩
      rw [smarks_length] at h0
      obtain ⟨off, rfl, _, _⟩ := HX.out h0
      obtain ⟨hr, hN⟩ := HR.out off rfl h0
      rw [List.take_of_length_le (by rw [smarks_length]; omega)] at hN
      exact ⟨off, rfl, by rw [smarks_length]; exact hr, hN⟩

set_option maxHeartbeats 2000000 in
set_option maxRecDepth 100000 in
theorem heldSideS_any (v : Value) (n k : Nat) (w : World) (hO : SSlice w v (smarks k n)) (hk : k ≤ 100) (hl : n ≤ 1048576) :
    Calls Tryd.prog 66 #[v, .int .i64 k] w fun e w' => e = .returned (.int .i64 (k + 2 * n : Nat)) ∧ Ext w w' := by
  obtain ⟨a, cap, rfl, hlc, hcm, hx⟩ := hO
  have HX : Hid (0 < (smarks k n).length → ∃ b off, a = some ⟨b, off, none⟩ ∧ b < w.heap.size ∧ SidesAt w b off (smarks k n)) := hx
  clear hx
  unfold maxLen at hcm
  rw [smarks_length] at hlc ⊢
  go_enter Tryd.func66, Tryd.ntmps66
  go_wp2
  go_loopw [1, 5] (fun kv i wr => ∃ (j : Nat), j ≤ n ∧ i = .int .i64 j ∧ kv = .int .i64 (k + 2 * j : Nat) ∧ Hid (Ext w wr)) (fun _ i _ => n - (intOf i).toNat)
  case atStart => exact ⟨0, Nat.zero_le _, rfl, rfl, Ext.refl _⟩
  case round =>
    obtain ⟨j, hj, rfl, rfl, HE⟩ := hrel
    by_cases hlt : j < n
    · obtain ⟨b, off, rfl, hb, hN⟩ := HX.out (by rw [smarks_length]; omega)
      obtain ⟨d0, d1⟩ := hN.ext hb HE.out j _ (smarks_get k n j hlt)
      obtain ⟨kk, hkk⟩ : ∃ kk, kk = k + 2 * j := ⟨_, rfl⟩
      have hkb : kk ≤ 5242981 := by omega
      have HK : Hid (kk = k + 2 * j) := hkk
      rw [← hkk] at d0 d1 ⊢
      have hd1 : wr.cell? ⟨b, off + j * 2 + 1, none⟩ = some (.int .i64 ((kk : Int) + 1)) := d1
      have hd0 : wr.cell? ⟨b, off + j * 2, none⟩ = some (.bool ((kk : Int) % 3 == 0)) := d0
      clear hkk hN d0 d1
      go_wp2
      exact ⟨⟨j + 1, by omega, by go_num, by rw [show k + 2 * (j + 1) = kk + 1 + 1 from by rw [HK.out]; omega]; go_num, HE⟩, by simp [intOf]; omega⟩
    · have hje : j = n := by omega
      subst hje
      go_wp2
      go_ret
      exact ⟨rfl, HE.out⟩

/-- A ProofResult as a value. -/
def pr (c n : Int) (v : Value) : Value := .agg #[.int .i64 c, .int .i64 n, v]

set_option maxHeartbeats 1000000 in
theorem eqProofResult_same (c q : Int) (v v' : Value) (ts : List Sd) (w : World) (h : SSlice w v ts) (h' : SSlice w v' ts) :
    Calls Tryd.prog 26 #[pr c q v, pr c q v'] w fun e w' => e = .returned (.bool true) ∧ Ext w w' := by
  have HS : Hid (SSlice w v ts) := h
  have HS' : Hid (SSlice w v' ts) := h'
  obtain ⟨a, cap, rfl, _⟩ := h
  obtain ⟨a', cap', rfl, _⟩ := h'
  unfold pr
  go_enter Tryd.func26, Tryd.ntmps26
  go_wp2_with fail
  refine (eqSideS_same _ _ ts _ (by exact HS.out.ext (((Ext.refl _).alloc _).alloc _)) (by exact HS'.out.ext (((Ext.refl _).alloc _).alloc _))).mono ?_
  rintro e w2 ⟨rfl, hb⟩
  go_wp2
  go_ret
  exact ⟨rfl, (((Ext.refl _).alloc _).alloc _).trans hb⟩

set_option maxHeartbeats 1000000 in
theorem markProofResult_any (c q : Int) (v : Value) (g : Nat) (ts : List Sd) (k : Nat) (w : World) (hO : SOwn w v g ts) (hg : g ≤ w.heap.size) (hk : k ≤ 100) (hl : ts.length ≤ 1048576) :
    Calls Tryd.prog 28 #[pr c q v, .int .i64 k] w fun e w' => e = .returned (.int .i64 (k + 2 * ts.length : Nat)) ∧ SOwn w' v g (smarks k ts.length) ∧ Upd g w w' := by
  have HO : Hid (SOwn w v g ts) := hO
  obtain ⟨a, cap, rfl, _⟩ := hO
  unfold pr
  go_enter Tryd.func28, Tryd.ntmps28
  go_wp2_with fail
  refine (markSideS_any _ g ts k _ (by exact HO.out.ext ((Ext.refl _).alloc _)) hk hl).mono ?_
  rintro e w2 ⟨rfl, hO2, hU⟩
  have HO2 : Hid (SOwn w2 (.slice a ts.length cap) g (smarks k ts.length)) := hO2
  have HU : Hid (Upd g w w2) := (Upd.alloc _ _ hg).trans hU
  clear hO2 hU
  go_wp2
  go_ret
  exact ⟨rfl, HO2.out, HU.out⟩

set_option maxHeartbeats 1000000 in
theorem heldProofResult_any (c q : Int) (v : Value) (n k : Nat) (w : World) (hO : SSlice w v (smarks k n)) (hk : k ≤ 100) (hl : n ≤ 1048576) :
    Calls Tryd.prog 29 #[pr c q v, .int .i64 k] w fun e w' => e = .returned (.int .i64 (k + 2 * n : Nat)) ∧ Ext w w' := by
  have HO : Hid (SSlice w v (smarks k n)) := hO
  obtain ⟨a, cap, rfl, _⟩ := hO
  unfold pr
  go_enter Tryd.func29, Tryd.ntmps29
  go_wp2_with fail
  refine (heldSideS_any _ n k _ (by exact HO.out.ext ((Ext.refl _).alloc _)) hk hl).mono ?_
  rintro e w2 ⟨rfl, hb⟩
  obtain ⟨m, hm⟩ : ∃ m, m = k + 2 * n := ⟨_, rfl⟩
  rw [← hm]
  have HM : Hid (m = k + 2 * n) := hm
  clear hm
  go_wp2
  go_ret
  exact ⟨ret_int (by rw [HM.out]), ((Ext.refl _).alloc _).trans hb⟩

/-- A ProofResult of code c and texts rs came back, its texts in new memory. -/
def PRet (w : World) (c n : Int) (rs : List Sd) (e : Ending) (w' : World) : Prop :=
  ∃ v g, e = .returned (pr c n v) ∧ w.heap.size ≤ g ∧ SOwn w' v g rs ∧ Ext w w'
/-- Block b holds a ProofResult. -/
def PBoxAt (w : World) (b : Nat) (c n : Int) (v : Value) : Prop :=
  b < w.heap.size ∧ w.cell? ⟨b, 0, none⟩ = some (.int .i64 c) ∧ w.cell? ⟨b, 1, none⟩ = some (.int .i64 n) ∧ w.cell? ⟨b, 2, none⟩ = some v
theorem PBoxAt.ext {w w' : World} {b : Nat} {c n : Int} {v : Value} (h : PBoxAt w b c n v) (he : Ext w w') : PBoxAt w' b c n v := by
  obtain ⟨hc, _⟩ := Ext.cell he
  exact ⟨Nat.lt_of_lt_of_le h.1 he.size, (hc _ _ h.1).trans h.2.1, (hc _ _ h.1).trans h.2.2.1, (hc _ _ h.1).trans h.2.2.2⟩
theorem PBoxAt.upd {w w' : World} {b g : Nat} {c n : Int} {v : Value} (h : PBoxAt w b c n v) (he : Upd g w w') (hne : b ≠ g) : PBoxAt w' b c n v :=
  ⟨Nat.lt_of_lt_of_le h.1 he.2.1, (he.at_ne _ _ hne h.1).1.trans h.2.1, (he.at_ne _ _ hne h.1).1.trans h.2.2.1, (he.at_ne _ _ hne h.1).1.trans h.2.2.2⟩
theorem pbox_new (w : World) (c n : Int) (v : Value) (t : TypeId) : PBoxAt (w.alloc (.cells #[.int .i64 c, .int .i64 n, v] t)) w.heap.size c n v :=
  ⟨by simp, by simp, by simp, by simp⟩

set_option maxHeartbeats 4000000 in
set_option maxRecDepth 100000 in
theorem lawProveZ_of (v : Value) (zs : List Zn) (s : ByteArray) (w : World) (c n : Int) (rs : List Sd) (hS : NSlice w v zs) (hz : ∀ z ∈ zs, z.path.size ≤ maxLen) (hrs : rs.length ≤ 1048576)
    (hSp : s.size ≤ 1048576 → zs.length ≤ 1048576 → (∀ z ∈ zs, z.path.size ≤ 1048576) → ∀ (wx : World) (vx : Value), Ext w wx → NSlice wx vx zs → Calls Tryd.prog 24 #[vx, .string s] wx (PRet wx c n rs))
    (hIm : s.size ≤ 1048576 → zs.length ≤ 1048576 → (∀ z ∈ zs, z.path.size ≤ 1048576) → ∀ (wx : World) (vx : Value), Ext w wx → NSlice wx vx zs → Calls Tryd.prog 25 #[vx, .string s] wx (PRet wx c n rs)) :
    Calls Tryd.prog 6 #[v, .string s] w fun e w' => e = .returned (.bool true) ∧ Ext w w' := by
  have HA : Hid (NSlice w v zs) := hS
  have HSp : Hid (s.size ≤ 1048576 → zs.length ≤ 1048576 → (∀ z ∈ zs, z.path.size ≤ 1048576) → ∀ (wx : World) (vx : Value), Ext w wx → NSlice wx vx zs → Calls Tryd.prog 24 #[vx, .string s] wx (PRet wx c n rs)) := hSp
  have HIm : Hid (s.size ≤ 1048576 → zs.length ≤ 1048576 → (∀ z ∈ zs, z.path.size ≤ 1048576) → ∀ (wx : World) (vx : Value), Ext w wx → NSlice wx vx zs → Calls Tryd.prog 25 #[vx, .string s] wx (PRet wx c n rs)) := hIm
  have hsz := szZnodeS_any v zs 1048576 w (by omega) (by omega) hS hz
  obtain ⟨a, cap, rfl, -⟩ := hS
  clear hSp hIm hz
  by_cases hxs : 1048576 < s.size
  · go_enter Tryd.func6, Tryd.ntmps6
    go_wp2
    go_ret
    exact ⟨rfl, Ext.refl _⟩
  have HSz : Hid (Calls Tryd.prog 19 #[.slice a zs.length cap, .int .i64 1048576] w fun e w' => ∃ r : Int, e = .returned (.int .i64 r) ∧ (0 ≤ r → zs.length ≤ 1048576 ∧ ∀ z ∈ zs, z.path.size ≤ 1048576) ∧ Ext w w') := hsz
  clear hsz
  go_enter Tryd.func6, Tryd.ntmps6
  go_wp2_with fail
  refine HSz.out.mono ?_
  rintro e w1 ⟨r, rfl, hr, hb⟩
  have E1 : Hid (Ext w w1) := hb
  clear HSz hb
  by_cases hr0 : r < 0
  · go_wp2
    go_ret
    exact ⟨rfl, E1.out⟩
  · obtain ⟨hl, hp⟩ := hr (by omega)
    have S1 : Hid (∀ (wx : World) (vx : Value), Ext w wx → NSlice wx vx zs → Calls Tryd.prog 24 #[vx, .string s] wx (PRet wx c n rs)) := HSp.out (by omega) hl hp
    have I1 : Hid (∀ (wx : World) (vx : Value), Ext w wx → NSlice wx vx zs → Calls Tryd.prog 25 #[vx, .string s] wx (PRet wx c n rs)) := HIm.out (by omega) hl hp
    clear HSp HIm hr hp
    go_wp2_with fail
    refine (toZnodeS_any _ zs _ (by exact HA.out.ext E1.out) hl).mono ?_
    rintro e w2 ⟨v2, rfl, hO, hb⟩
    have E2 : Hid (Ext w w2) := E1.out.trans hb
    have O2 : Hid (NSlice w2 v2 zs) := hO.slice
    clear hb hO
    go_wp2_with fail
    refine (S1.out _ _ E2.out O2.out).mono ?_
    rintro e w3 ⟨v3, g3, rfl, hg3, hO, hb⟩
    obtain ⟨a3, cap3, rfl, -⟩ := id hO
    have E3 : Hid (Ext w w3) := E2.out.trans hb
    have O3 : Hid (SOwn w3 (.slice a3 rs.length cap3) g3 rs) := hO
    have L3 : Hid (0 < rs.length → g3 < w3.heap.size) := hO.lt
    clear hb hO hg3 O2 S1 E2
    unfold pr
    go_wp2_with fail
    refine (toZnodeS_any _ zs _ (by exact HA.out.ext (E3.out.alloc _)) hl).mono ?_
    rintro e w5 ⟨v5, rfl, hO, hb⟩
    obtain ⟨gx, hgx, hO⟩ : ∃ gx, gx = w3.heap.size + 1 ∧ Own w5 v5 gx zs := ⟨_, by simp, hO⟩
    have B5 : Hid (PBoxAt w5 w3.heap.size c n (.slice a3 rs.length cap3)) := (pbox_new _ _ _ _ _).ext hb
    have E5 : Hid (Ext w w5) := (E3.out.alloc _).trans hb
    have O5 : Hid (SOwn w5 (.slice a3 rs.length cap3) g3 rs) := (O3.out.ext ((Ext.refl _).alloc _)).ext hb
    have X5 : Hid (Own w5 v5 gx zs) := hO
    have G5 : Hid (gx = w3.heap.size + 1) := hgx
    have M3 : Hid (w.heap.size ≤ w3.heap.size) := E3.out.size
    clear hb hO E3 O3 hgx
    go_wp2_with fail
    refine (I1.out _ _ E5.out X5.out.slice).mono ?_
    rintro e w6 ⟨v6, g6, rfl, hg6, hO, hb⟩
    obtain ⟨a6, cap6, rfl, -⟩ := id hO
    have E6 : Hid (Ext w w6) := E5.out.trans hb
    have A6 : Hid (PBoxAt w6 w3.heap.size c n (.slice a3 rs.length cap3)) := B5.out.ext hb
    have O6 : Hid (SOwn w6 (.slice a3 rs.length cap3) g3 rs) := O5.out.ext hb
    have X6 : Hid (Own w6 v5 gx zs) := X5.out.ext hb
    have R6 : Hid (SOwn w6 (.slice a6 rs.length cap6) g6 rs) := hO
    have M5 : Hid (w5.heap.size ≤ g6 ∧ w3.heap.size < w5.heap.size ∧ (0 < zs.length → gx < w5.heap.size) ∧ (0 < rs.length → g6 < w6.heap.size)) := ⟨hg6, B5.out.1, X5.out.lt, hO.lt⟩
    have M6 : Hid (w5.heap.size ≤ w6.heap.size) := hb.size
    obtain ⟨c0, c1, c2⟩ := A6.out.2
    have hlt := A6.out.1
    clear hb hO B5 O5 X5 E5 hg6
    unfold pr
    go_wp2_with fail
    refine (eqProofResult_same c n _ _ rs _ (by exact R6.out.slice.ext ((Ext.refl _).alloc _)) (by exact O6.out.slice.ext ((Ext.refl _).alloc _))).mono ?_
    rintro e w7 ⟨rfl, hb⟩
    have hb := ((Ext.refl w6).alloc _).trans hb
    have B7 : Hid (PBoxAt w7 w6.heap.size c n (.slice a6 rs.length cap6)) := (pbox_new w6 c n _ _).ext (by assumption)
    clear c0 c1 c2 hlt
    have E7 : Hid (Ext w w7) := E6.out.trans hb
    have A7 : Hid (PBoxAt w7 w3.heap.size c n (.slice a3 rs.length cap3)) := A6.out.ext hb
    have O7 : Hid (SOwn w7 (.slice a3 rs.length cap3) g3 rs) := O6.out.ext hb
    have X7 : Hid (Own w7 v5 gx zs) := X6.out.ext hb
    have R7 : Hid (SOwn w7 (.slice a6 rs.length cap6) g6 rs) := R6.out.ext hb
    clear E6 A6 O6 X6 R6
    clear hb
    go_wp2_with fail
    refine (toZnodeS_any _ zs _ (by exact HA.out.ext E7.out) hl).mono ?_
    rintro e w8 ⟨v8, rfl, hO, hb⟩
    have Y8 : Hid (NSlice w8 v8 zs) := hO.slice
    clear hO
    have E8 : Hid (Ext w w8) := E7.out.trans hb
    have A8 : Hid (PBoxAt w8 w3.heap.size c n (.slice a3 rs.length cap3)) := A7.out.ext hb
    have B8 : Hid (PBoxAt w8 w6.heap.size c n (.slice a6 rs.length cap6)) := B7.out.ext hb
    have O8 : Hid (SOwn w8 (.slice a3 rs.length cap3) g3 rs) := O7.out.ext hb
    have X8 : Hid (Own w8 v5 gx zs) := X7.out.ext hb
    have R8 : Hid (SOwn w8 (.slice a6 rs.length cap6) g6 rs) := R7.out.ext hb
    clear E7 A7 B7 O7 X7 R7
    clear hb
    go_wp2_with fail
    refine (eqZnodeS_same _ _ zs _ X8.out.slice Y8.out).mono ?_
    rintro e w9 ⟨rfl, hb⟩
    have E9 : Hid (Ext w w9) := E8.out.trans hb
    have A9 : Hid (PBoxAt w9 w3.heap.size c n (.slice a3 rs.length cap3)) := A8.out.ext hb
    have B9 : Hid (PBoxAt w9 w6.heap.size c n (.slice a6 rs.length cap6)) := B8.out.ext hb
    have O9 : Hid (SOwn w9 (.slice a3 rs.length cap3) g3 rs) := O8.out.ext hb
    have X9 : Hid (Own w9 v5 gx zs) := X8.out.ext hb
    have R9 : Hid (SOwn w9 (.slice a6 rs.length cap6) g6 rs) := R8.out.ext hb
    clear E8 A8 B8 O8 X8 R8
    clear hb Y8
    obtain ⟨gy, hgy, hXy, hcase⟩ := X9.out.pick
    have XY : Hid (Own w9 v5 gy zs) := hXy
    have CY : Hid (gy ≤ w9.heap.size ∧ (gy = w9.heap.size ∧ ¬ 0 < zs.length ∨ (gy = gx ∧ gx < w9.heap.size ∧ 0 < zs.length))) := ⟨hgy, hcase⟩
    clear hgy hXy hcase X9
    go_wp2_with fail
    refine (markZnodeS_any _ gy zs 1 _ XY.out (by omega) hl).mono ?_
    rintro e w10 ⟨rfl, -, hu⟩
    have E10 : Hid (Ext w w10) := hu.to_ext E9.out (by have := CY.out; have := G5.out; have := M3.out; have := E9.out.size; omega)
    have A10 : Hid (PBoxAt w10 w3.heap.size c n (.slice a3 rs.length cap3)) := A9.out.upd hu (by have := CY.out; have := G5.out; have := A9.out.1; omega)
    have B10 : Hid (PBoxAt w10 w6.heap.size c n (.slice a6 rs.length cap6)) := B9.out.upd hu (by have := CY.out; have := M5.out; have := B9.out.1; have := M6.out; omega)
    have O10 : Hid (SOwn w10 (.slice a3 rs.length cap3) g3 rs) := O9.out.upd' hu (fun h => by have := CY.out; have := G5.out; have := L3.out h; have := O9.out.lt h; omega)
    have R10 : Hid (SOwn w10 (.slice a6 rs.length cap6) g6 rs) := R9.out.upd' hu (fun h => by have := CY.out; have := M5.out; have := R9.out.lt h; omega)
    clear hu XY E9 A9 B9 O9 R9
    obtain ⟨c0, c1, c2⟩ := A10.out.2
    obtain ⟨d0, d1, d2⟩ := B10.out.2
    have hlt := A10.out.1
    have hlu := B10.out.1
    go_wp2_with fail
    refine (eqProofResult_same c n _ _ rs _ R10.out.slice O10.out.slice).mono ?_
    rintro e w11 ⟨rfl, hb⟩
    clear c0 c1 c2 d0 d1 d2 hlt hlu
    have E11 : Hid (Ext w w11) := E10.out.trans hb
    have A11 : Hid (PBoxAt w11 w3.heap.size c n (.slice a3 rs.length cap3)) := A10.out.ext hb
    have B11 : Hid (PBoxAt w11 w6.heap.size c n (.slice a6 rs.length cap6)) := B10.out.ext hb
    have O11 : Hid (SOwn w11 (.slice a3 rs.length cap3) g3 rs) := O10.out.ext hb
    have R11 : Hid (SOwn w11 (.slice a6 rs.length cap6) g6 rs) := R10.out.ext hb
    clear E10 A10 B10 O10 R10
    clear hb
    obtain ⟨gz, hgz, hRz, hcase⟩ := R11.out.pick
    have RZ : Hid (SOwn w11 (.slice a6 rs.length cap6) gz rs) := hRz
    have CZ : Hid (gz ≤ w11.heap.size ∧ (gz = w11.heap.size ∧ ¬ 0 < rs.length ∨ (gz = g6 ∧ g6 < w11.heap.size ∧ 0 < rs.length))) := ⟨hgz, hcase⟩
    clear hRz hcase R11 hgz
    obtain ⟨c0, c1, c2⟩ := A11.out.2
    obtain ⟨d0, d1, d2⟩ := B11.out.2
    have hlt := A11.out.1
    have hlu := B11.out.1
    go_wp2_with fail
    refine (markProofResult_any c n _ gz rs 1 _ RZ.out CZ.out.1 (by omega) hrs).mono ?_
    rintro e w12 ⟨rfl, hQ, hu⟩
    clear c0 c1 c2 d0 d1 d2 hlt hlu
    have E12 : Hid (Ext w w12) := hu.to_ext E11.out (by have := CZ.out; have := M5.out; have := M3.out; have := E11.out.size; omega)
    have A12 : Hid (PBoxAt w12 w3.heap.size c n (.slice a3 rs.length cap3)) := A11.out.upd hu (by have := CZ.out; have := M5.out; have := A11.out.1; omega)
    have B12 : Hid (PBoxAt w12 w6.heap.size c n (.slice a6 rs.length cap6)) := B11.out.upd hu (by have := CZ.out; have := M5.out; have := B11.out.1; omega)
    have O12 : Hid (SOwn w12 (.slice a3 rs.length cap3) g3 rs) := O11.out.upd' hu (fun h => by have := CZ.out; have := M5.out; have := L3.out h; omega)
    have Q12 : Hid (SSlice w12 (.slice a6 rs.length cap6) (smarks 1 rs.length)) := hQ.slice
    clear hu hQ RZ E11 A11 B11 O11
    obtain ⟨c0, c1, c2⟩ := A12.out.2
    obtain ⟨d0, d1, d2⟩ := B12.out.2
    have hlt := A12.out.1
    have hlu := B12.out.1
    go_wp2_with fail
    refine (heldProofResult_any c n _ rs.length 1 _ Q12.out (by omega) hrs).mono ?_
    rintro e w13 ⟨rfl, hb⟩
    clear c0 c1 c2 d0 d1 d2 hlt hlu
    have E13 : Hid (Ext w w13) := E12.out.trans hb
    have A13 : Hid (PBoxAt w13 w3.heap.size c n (.slice a3 rs.length cap3)) := A12.out.ext hb
    have B13 : Hid (PBoxAt w13 w6.heap.size c n (.slice a6 rs.length cap6)) := B12.out.ext hb
    have O13 : Hid (SOwn w13 (.slice a3 rs.length cap3) g3 rs) := O12.out.ext hb
    have Q13 : Hid (SSlice w13 (.slice a6 rs.length cap6) (smarks 1 rs.length)) := Q12.out.ext hb
    clear E12 A12 B12 O12 Q12
    clear hb
    go_wp2_with fail
    refine (toZnodeS_any _ zs _ (by exact HA.out.ext E13.out) hl).mono ?_
    rintro e w14 ⟨v14, rfl, hO, hb⟩
    have Y14 : Hid (NSlice w14 v14 zs) := hO.slice
    clear hO
    have E14 : Hid (Ext w w14) := E13.out.trans hb
    have A14 : Hid (PBoxAt w14 w3.heap.size c n (.slice a3 rs.length cap3)) := A13.out.ext hb
    have B14 : Hid (PBoxAt w14 w6.heap.size c n (.slice a6 rs.length cap6)) := B13.out.ext hb
    have O14 : Hid (SOwn w14 (.slice a3 rs.length cap3) g3 rs) := O13.out.ext hb
    have Q14 : Hid (SSlice w14 (.slice a6 rs.length cap6) (smarks 1 rs.length)) := Q13.out.ext hb
    clear E13 A13 B13 O13 Q13
    clear hb
    go_wp2_with fail
    refine (I1.out _ _ E14.out Y14.out).mono ?_
    rintro e w15 ⟨v15, g15, rfl, -, hO, hb⟩
    obtain ⟨a15, cap15, rfl, -⟩ := id hO
    have R15 : Hid (SOwn w15 (.slice a15 rs.length cap15) g15 rs) := hO
    clear hO
    have E15 : Hid (Ext w w15) := E14.out.trans hb
    have A15 : Hid (PBoxAt w15 w3.heap.size c n (.slice a3 rs.length cap3)) := A14.out.ext hb
    have B15 : Hid (PBoxAt w15 w6.heap.size c n (.slice a6 rs.length cap6)) := B14.out.ext hb
    have O15 : Hid (SOwn w15 (.slice a3 rs.length cap3) g3 rs) := O14.out.ext hb
    have Q15 : Hid (SSlice w15 (.slice a6 rs.length cap6) (smarks 1 rs.length)) := Q14.out.ext hb
    clear E14 A14 B14 O14 Q14
    clear hb
    unfold pr
    obtain ⟨c0, c1, c2⟩ := A15.out.2
    obtain ⟨d0, d1, d2⟩ := B15.out.2
    have hlt := A15.out.1
    have hlu := B15.out.1
    go_wp2_with fail
    refine (eqProofResult_same c n _ _ rs _ (by exact R15.out.slice.ext ((Ext.refl _).alloc _)) (by exact O15.out.slice.ext ((Ext.refl _).alloc _))).mono ?_
    rintro e w16 ⟨rfl, hb⟩
    clear c0 c1 c2 d0 d1 d2 hlt hlu
    have hb := ((Ext.refl w15).alloc _).trans hb
    have E16 : Hid (Ext w w16) := E15.out.trans hb
    have A16 : Hid (PBoxAt w16 w3.heap.size c n (.slice a3 rs.length cap3)) := A15.out.ext hb
    have B16 : Hid (PBoxAt w16 w6.heap.size c n (.slice a6 rs.length cap6)) := B15.out.ext hb
    have O16 : Hid (SOwn w16 (.slice a3 rs.length cap3) g3 rs) := O15.out.ext hb
    have Q16 : Hid (SSlice w16 (.slice a6 rs.length cap6) (smarks 1 rs.length)) := Q15.out.ext hb
    clear E15 A15 B15 O15 Q15
    clear hb
    obtain ⟨c0, c1, c2⟩ := A16.out.2
    obtain ⟨d0, d1, d2⟩ := B16.out.2
    have hlt := A16.out.1
    have hlu := B16.out.1
    go_wp2_with fail
    refine (heldProofResult_any c n _ rs.length 1 _ Q16.out (by omega) hrs).mono ?_
    rintro e w17 ⟨rfl, hb⟩
    have E17 : Hid (Ext w w17) := E16.out.trans hb
    clear hb
    go_wp2
    go_ret
    exact ⟨rfl, E17.out⟩
end Go.Proofs.YtbapllhdkckdjaaDoor
