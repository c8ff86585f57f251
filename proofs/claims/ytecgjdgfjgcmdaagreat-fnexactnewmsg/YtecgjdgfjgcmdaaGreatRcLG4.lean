/- numbers of their own, marks, what marking a ledger turns. -/
import Derived.Test.YtecgjdgfjgcmdaaGreatRcLG1
namespace Go.Proofs.YtecgjdgfjgcmdaaGreat
open Go.RowKit
namespace Led
def IOwn (w : World) (v : Value) (g : Nat) (ts : List Int) : Prop :=
  ∃ a cap, v = .slice a ts.length cap ∧ ts.length ≤ cap ∧ cap ≤ maxLen ∧ (0 < ts.length → ∃ off, a = some ⟨g, off, none⟩ ∧ IRoom w g off ts.length ∧ NumsAt w g off ts)
theorem IOwn.slice {w : World} {v : Value} {g : Nat} {ts : List Int} (h : IOwn w v g ts) : ISlice w v ts := by
  obtain ⟨a, cap, h1, h2, h3, h4⟩ := h
  refine ⟨a, cap, h1, h2, h3, fun h0 => ?_⟩
  obtain ⟨off, e, hr, hN⟩ := h4 h0
  exact ⟨g, off, e, hr.1, hN⟩
theorem IOwn.ext {w w' : World} {v : Value} {g : Nat} {ts : List Int} (h : IOwn w v g ts) (he : Ext w w') : IOwn w' v g ts := by
  obtain ⟨a, cap, h1, h2, h3, h4⟩ := h
  refine ⟨a, cap, h1, h2, h3, fun h0 => ?_⟩
  obtain ⟨off, e, hr, hN⟩ := h4 h0
  exact ⟨off, e, iroom_ext hr he, hN.ext hr.1 he⟩
theorem IOwn.lt {w : World} {v : Value} {g : Nat} {ts : List Int} (h : IOwn w v g ts) (h0 : 0 < ts.length) : g < w.heap.size := by
  obtain ⟨a, cap, -, -, -, h4⟩ := h
  obtain ⟨off, -, hr, -⟩ := h4 h0
  exact hr.1
theorem IOwn.nil {w w' : World} {v : Value} {g g' : Nat} {ts : List Int} (h : IOwn w v g ts) (h0 : ¬ 0 < ts.length) : IOwn w' v g' ts := by
  obtain ⟨a, cap, h1, h2, h3, -⟩ := h
  exact ⟨a, cap, h1, h2, h3, fun h => absurd h h0⟩
theorem IOwn.upd' {w w' : World} {v : Value} {g b : Nat} {ts : List Int} (h : IOwn w v g ts) (he : Upd b w w') (hne : 0 < ts.length → g ≠ b) : IOwn w' v g ts := by
  by_cases h0 : 0 < ts.length
  · obtain ⟨a, cap, h1, h2, h3, h4⟩ := h
    refine ⟨a, cap, h1, h2, h3, fun _ => ?_⟩
    obtain ⟨off, e, hr, hN⟩ := h4 h0
    exact ⟨off, e, iroom_upd hr he (hne h0), numsAt_upd hN he (hne h0) hr.1⟩
  · exact h.nil h0
theorem IOwn.pick {w : World} {v : Value} {g : Nat} {ts : List Int} (h : IOwn w v g ts) : ∃ g', g' ≤ w.heap.size ∧ IOwn w v g' ts ∧ (g' = w.heap.size ∧ ¬ 0 < ts.length ∨ (g' = g ∧ g < w.heap.size ∧ 0 < ts.length)) := by
  by_cases h0 : 0 < ts.length
  · exact ⟨g, Nat.le_of_lt (h.lt h0), h, Or.inr ⟨rfl, h.lt h0, h0⟩⟩
  · exact ⟨_, Nat.le_refl _, h.nil h0, Or.inl ⟨rfl, h0⟩⟩
theorem iown_of_owns {w : World} {base : Nat} {v : Value} {l : List Int} (h : w.ownsRow base 2 1 v l.length (l.map (Value.int .i64))) : ∃ g, base ≤ g ∧ (0 < l.length → g < w.heap.size) ∧ IOwn w v g l := by
  have hlt := h.lt
  rcases h.2 with ⟨hv, h0⟩ | ⟨g, cap, cur, hv, hb, hh, hn, hm, hcs, htk⟩
  · exact ⟨base, Nat.le_refl _, fun h => by omega, none, 0, by rw [hv, h0], by omega, by unfold maxLen; omega, fun h => by omega⟩
  · subst hv
    refine ⟨g, hb, fun _ => (hlt g rfl).2, some ⟨g, 0, none⟩, cap, rfl, hn, hm, fun h0 => ⟨0, rfl, ⟨(hlt g rfl).2, fun j hj => ⟨?_, h.frozenAt _⟩⟩, fun i x hx => ?_⟩⟩
    · rw [Nat.zero_add]
      exact ⟨.int .i64 (l[j]'hj), by rw [h.cellAt j (by omega), List.getElem?_map, List.getElem?_eq_getElem hj]; rfl⟩
    · have hi := (List.getElem?_eq_some_iff.1 hx).1
      rw [Nat.zero_add, h.cellAt i (by omega), List.getElem?_map, hx]; rfl


def imarks (k n : Nat) : List Int := (List.range n).map fun i => ((k + i : Nat) : Int)
theorem imarks_length (k n : Nat) : (imarks k n).length = n := by simp [imarks]
theorem imarks_get (k n i : Nat) (h : i < n) : (imarks k n)[i]? = some ((k + i : Nat) : Int) := by
  unfold imarks
  rw [List.getElem?_map, List.getElem?_range h]; rfl
set_option maxHeartbeats 2000000 in
set_option maxRecDepth 100000 in
theorem markInt64S_any (v : Value) (g : Nat) (ts : List Int) (k : Nat) (w : World) (hO : IOwn w v g ts) (hk : k ≤ 10000000) (hl : ts.length ≤ 1048576) :
    Calls Tryz.prog 62 #[v, .int .i64 k] w fun e w' => e = .returned (.int .i64 (k + ts.length : Nat)) ∧ IOwn w' v g (imarks k ts.length) ∧ Upd g w w' := by
  obtain ⟨a, cap, rfl, hlc, hcm, hx⟩ := hO
  have HX : Hid (0 < ts.length → ∃ off, a = some ⟨g, off, none⟩ ∧ IRoom w g off ts.length ∧ NumsAt w g off ts) := hx
  clear hx
  have HC : Hid (cap ≤ maxLen) := hcm
  unfold maxLen at hcm
  go_enter Tryz.func62, Tryz.ntmps62
  go_wp2
  go_loopw [1, 5] (fun kv i wr => ∃ (j : Nat), j ≤ ts.length ∧ i = .int .i64 j ∧ kv = .int .i64 (k + j : Nat) ∧ Hid (∀ off, a = some ⟨g, off, none⟩ → 0 < ts.length → IRoom wr g off ts.length ∧ NumsAt wr g off ((imarks k ts.length).take j)) ∧ Hid (Upd g w wr)) (fun _ i _ => ts.length - (intOf i).toNat)
  case atStart =>
    refine ⟨0, Nat.zero_le _, rfl, rfl, ?_, Upd.refl _ _⟩
    intro off ha h0
    obtain ⟨off', ha', hr, _⟩ := HX.out h0
    rw [ha] at ha'
    simp only [Option.some.injEq, Addr.mk.injEq, true_and, and_true] at ha'
    subst ha'
    exact ⟨hr, fun i z h => by simp at h⟩
  case round =>
    obtain ⟨j, hj, rfl, rfl, HR, HU⟩ := hrel
    by_cases hlt : j < ts.length
    · obtain ⟨off, rfl, _, _⟩ := HX.out (by omega)
      obtain ⟨hr, hN⟩ := HR.out off rfl (by omega)
      obtain ⟨kk, hkk⟩ : ∃ kk, kk = k + j := ⟨_, rfl⟩
      have hkb : kk ≤ 15242981 := by omega
      have HK : Hid (kk = k + j) := hkk
      rw [← hkk]
      clear hkk
      have HRR : Hid (IRoom wr g off ts.length) := hr
      have HNN : Hid (NumsAt wr g off ((imarks k ts.length).take j)) := hN
      clear hr hN
      obtain ⟨⟨u0, r0⟩, f0⟩ := HRR.out.2 j hlt
      have P1 : Hid (IRoom (wr.setCell ⟨g, off + j, none⟩ (.int .i64 (kk : Int))) g off ts.length) := HRR.out.set _ hlt
      have P2 : Hid (NumsAt (wr.setCell ⟨g, off + j, none⟩ (.int .i64 (kk : Int))) g off ((imarks k ts.length).take (j + 1))) := NumsAt.set HRR.out hlt (by rw [imarks_get _ _ _ hlt, ← HK.out]) HNN.out
      have P3 : Hid (Upd g w (wr.setCell ⟨g, off + j, none⟩ (.int .i64 (kk : Int)))) := HU.out.setAt _ _
      go_wp2
      refine ⟨⟨j + 1, by omega, by go_num, by rw [show k + (j + 1) = kk + 1 from by rw [HK.out]; omega]; go_num, ?_, P3.out⟩, by simp [intOf]; omega⟩
      intro off' ho _
      simp only [Option.some.injEq, Addr.mk.injEq, true_and, and_true] at ho
      subst ho
      exact ⟨P1.out, P2.out⟩
    · have hje : j = ts.length := by omega
      subst hje
      go_wp2
      go_ret
      refine ⟨rfl, ⟨_, cap, by rw [imarks_length], by rw [imarks_length]; exact hlc, HC.out, fun h0 => ?_⟩, HU.out⟩
      rw [imarks_length] at h0
      obtain ⟨off, rfl, _, _⟩ := HX.out h0
      obtain ⟨hr, hN⟩ := HR.out off rfl h0
      rw [List.take_of_length_le (by rw [imarks_length]; omega)] at hN
      exact ⟨off, rfl, by rw [imarks_length]; exact hr, hN⟩

set_option maxHeartbeats 2000000 in
set_option maxRecDepth 100000 in
theorem heldInt64S_any (v : Value) (n k : Nat) (w : World) (hO : ISlice w v (imarks k n)) (hk : k ≤ 10000000) (hl : n ≤ 1048576) :
    Calls Tryz.prog 119 #[v, .int .i64 k] w fun e w' => e = .returned (.int .i64 (k + n : Nat)) ∧ Ext w w' := by
  obtain ⟨a, cap, rfl, hlc, hcm, hx⟩ := hO
  have HX : Hid (0 < (imarks k n).length → ∃ b off, a = some ⟨b, off, none⟩ ∧ b < w.heap.size ∧ NumsAt w b off (imarks k n)) := hx
  clear hx
  unfold maxLen at hcm
  rw [imarks_length] at hlc ⊢
  go_enter Tryz.func119, Tryz.ntmps119
  go_wp2
  go_loopw [1, 5] (fun kv i wr => ∃ (j : Nat), j ≤ n ∧ i = .int .i64 j ∧ kv = .int .i64 (k + j : Nat) ∧ Hid (Ext w wr)) (fun _ i _ => n - (intOf i).toNat)
  case atStart => exact ⟨0, Nat.zero_le _, rfl, rfl, Ext.refl _⟩
  case round =>
    obtain ⟨j, hj, rfl, rfl, HE⟩ := hrel
    by_cases hlt : j < n
    · obtain ⟨b, off, rfl, hb, hN⟩ := HX.out (by rw [imarks_length]; omega)
      have d0 := hN.ext hb HE.out j _ (imarks_get k n j hlt)
      obtain ⟨kk, hkk⟩ : ∃ kk, kk = k + j := ⟨_, rfl⟩
      have hkb : kk ≤ 15242981 := by omega
      have HK : Hid (kk = k + j) := hkk
      rw [← hkk] at d0 ⊢
      clear hkk hN
      go_wp2
      exact ⟨⟨j + 1, by omega, by go_num, by rw [show k + (j + 1) = kk + 1 from by rw [HK.out]; omega]; go_num, HE⟩, by simp [intOf]; omega⟩
    · have hje : j = n := by omega
      subst hje
      go_wp2
      go_ret
      exact ⟨rfl, HE.out⟩


def jr (c : Int) (v : Value) : Value := .agg #[.int .i64 c, v]

/-- An IntsResult of code c and numbers rs came back, its numbers in new memory. -/
def JRet (w : World) (c : Int) (rs : List Int) (e : Ending) (w' : World) : Prop :=
  ∃ v g, e = .returned (jr c v) ∧ w.heap.size ≤ g ∧ IOwn w' v g rs ∧ Ext w w'
/-- Block b holds a IntsResult. -/
def JBoxAt (w : World) (b : Nat) (c : Int) (v : Value) : Prop :=
  b < w.heap.size ∧ w.cell? ⟨b, 0, none⟩ = some (.int .i64 c) ∧ w.cell? ⟨b, 1, none⟩ = some v
theorem JBoxAt.ext {w w' : World} {b : Nat} {c : Int} {v : Value} (h : JBoxAt w b c v) (he : Ext w w') : JBoxAt w' b c v := by
  obtain ⟨hc, _⟩ := Ext.cell he
  exact ⟨Nat.lt_of_lt_of_le h.1 he.size, (hc _ _ h.1).trans h.2.1, (hc _ _ h.1).trans h.2.2⟩
theorem JBoxAt.upd {w w' : World} {b g : Nat} {c : Int} {v : Value} (h : JBoxAt w b c v) (he : Upd g w w') (hne : b ≠ g) : JBoxAt w' b c v :=
  ⟨Nat.lt_of_lt_of_le h.1 he.2.1, (he.at_ne _ _ hne h.1).1.trans h.2.1, (he.at_ne _ _ hne h.1).1.trans h.2.2⟩
theorem jbox_new (w : World) (c : Int) (v : Value) (t : TypeId) : JBoxAt (w.alloc (.cells #[.int .i64 c, v] t)) w.heap.size c v :=
  ⟨by simp, by simp, by simp⟩


/-- Nothing has turned but blocks from lo to hi. -/
def UpdR (lo hi : Nat) (w w' : World) : Prop :=
  Below lo w w' ∧ w.heap.size ≤ w'.heap.size ∧ ∀ c o, hi ≤ c → c < w.heap.size → w'.cell? ⟨c, o, none⟩ = w.cell? ⟨c, o, none⟩ ∧ w'.frozen? ⟨c, o, none⟩ = w.frozen? ⟨c, o, none⟩
theorem UpdR.refl (lo hi : Nat) (w : World) : UpdR lo hi w w := ⟨Below.refl _ _, Nat.le_refl _, fun _ _ _ _ => ⟨rfl, rfl⟩⟩
theorem UpdR.trans {lo hi : Nat} {w w1 w2 : World} (h : UpdR lo hi w w1) (h2 : UpdR lo hi w1 w2) : UpdR lo hi w w2 :=
  ⟨h.1.trans h2.1, Nat.le_trans h.2.1 h2.2.1, fun c o hc hl => ⟨((h2.2.2 c o hc (Nat.lt_of_lt_of_le hl h.2.1)).1).trans (h.2.2 c o hc hl).1, ((h2.2.2 c o hc (Nat.lt_of_lt_of_le hl h.2.1)).2).trans (h.2.2 c o hc hl).2⟩⟩
theorem UpdR.of {lo hi b : Nat} {w w' : World} (h : Upd b w w') (h1 : lo ≤ b) (h2 : b < hi) : UpdR lo hi w w' :=
  ⟨Below.mono h.1 h1, h.2.1, fun c o hc hl => h.2.2 c o (by omega) hl⟩
theorem UpdR.mono {lo hi lo' : Nat} {w w' : World} (h : UpdR lo hi w w') (h1 : lo' ≤ lo) : UpdR lo' hi w w' := ⟨Below.mono h.1 h1, h.2.1, h.2.2⟩
theorem UpdR.at_ne {lo hi : Nat} {w w' : World} (h : UpdR lo hi w w') (c o : Nat) (hc : c < lo ∨ hi ≤ c) (hl : c < w.heap.size) : w'.cell? ⟨c, o, none⟩ = w.cell? ⟨c, o, none⟩ ∧ w'.frozen? ⟨c, o, none⟩ = w.frozen? ⟨c, o, none⟩ := by
  rcases hc with hc | hc
  · exact ⟨h.1.cell (p := ⟨c, o, none⟩) hc, h.1.frozen (p := ⟨c, o, none⟩) hc⟩
  · exact h.2.2 c o hc hl
theorem UpdR.to_ext {lo hi : Nat} {w w1 w' : World} (h : UpdR lo hi w1 w') (he : Ext w w1) (hb : w.heap.size ≤ lo) : Ext w w' := Below.trans he (Below.mono h.1 hb)
theorem IOwn.updR {lo hi : Nat} {w w' : World} {v : Value} {g : Nat} {ts : List Int} (h : IOwn w v g ts) (he : UpdR lo hi w w') (hne : 0 < ts.length → g < lo ∨ hi ≤ g) : IOwn w' v g ts := by
  by_cases h0 : 0 < ts.length
  · obtain ⟨a, cap, h1, h2, h3, h4⟩ := h
    refine ⟨a, cap, h1, h2, h3, fun _ => ?_⟩
    obtain ⟨off, e, hr, hN⟩ := h4 h0
    exact ⟨off, e, ⟨Nat.lt_of_lt_of_le hr.1 he.2.1, fun j hj => ⟨by rw [(he.at_ne _ _ (hne h0) hr.1).1]; exact (hr.2 j hj).1, by rw [(he.at_ne _ _ (hne h0) hr.1).2]; exact (hr.2 j hj).2⟩⟩, fun i t ht => (he.at_ne _ _ (hne h0) hr.1).1.trans (hN i t ht)⟩
  · exact h.nil h0
theorem JBoxAt.updR {lo hi : Nat} {w w' : World} {b : Nat} {c : Int} {v : Value} (h : JBoxAt w b c v) (he : UpdR lo hi w w') (hne : b < lo ∨ hi ≤ b) : JBoxAt w' b c v :=
  ⟨Nat.lt_of_lt_of_le h.1 he.2.1, (he.at_ne _ _ hne h.1).1.trans h.2.1, (he.at_ne _ _ hne h.1).1.trans h.2.2⟩
/-- Cells that were there are there still, and may be written as before. -/
def Kept (w w' : World) : Prop := w.heap.size ≤ w'.heap.size ∧ ∀ b o, (∀ u, w.cell? ⟨b, o, none⟩ = some u → ∃ u', w'.cell? ⟨b, o, none⟩ = some u') ∧ w'.frozen? ⟨b, o, none⟩ = w.frozen? ⟨b, o, none⟩
theorem Kept.refl (w : World) : Kept w w := ⟨Nat.le_refl _, fun _ _ => ⟨fun u h => ⟨u, h⟩, rfl⟩⟩
theorem Kept.trans {w w1 w2 : World} (h : Kept w w1) (h2 : Kept w1 w2) : Kept w w2 := ⟨Nat.le_trans h.1 h2.1, fun b o => ⟨fun u hu => by obtain ⟨u', hu'⟩ := (h.2 b o).1 u hu; exact (h2.2 b o).1 u' hu', (h2.2 b o).2.trans (h.2 b o).2⟩⟩
theorem Kept.set {w w' : World} (h : Kept w w') (g p : Nat) (v : Value) : Kept w (w'.setCell ⟨g, p, none⟩ v) := by
  refine h.trans ⟨by simp, fun b o => ⟨fun u hu => ?_, by simp⟩⟩
  by_cases hh : g = b ∧ p = o
  · obtain ⟨rfl, rfl⟩ := hh
    exact ⟨v, iset_eq _ _ _ _ ⟨u, hu⟩⟩
  · exact ⟨u, by rw [iset_ne _ _ _ _ _ _ (by omega)]; exact hu⟩
theorem Kept.ct {w w' : World} (h : Kept w w') {g off n : Nat} (hr : CtRoom w g off n) : CtRoom w' g off n :=
  ⟨Nat.lt_of_lt_of_le hr.1 h.1, fun j hj => ⟨by obtain ⟨u, hu⟩ := (hr.2 j hj).1; exact (h.2 _ _).1 u hu, (h.2 _ _).2.trans (hr.2 j hj).2⟩⟩
theorem Kept.ir {w w' : World} (h : Kept w w') {g off n : Nat} (hr : IRoom w g off n) : IRoom w' g off n :=
  ⟨Nat.lt_of_lt_of_le hr.1 h.1, fun j hj => ⟨by obtain ⟨u, hu⟩ := (hr.2 j hj).1; exact (h.2 _ _).1 u hu, (h.2 _ _).2.trans (hr.2 j hj).2⟩⟩
theorem Kept.mr {w w' : World} (h : Kept w w') {g off n : Nat} (hr : MRoom w g off n) : MRoom w' g off n :=
  ⟨Nat.lt_of_lt_of_le hr.1 h.1, fun j hj => ⟨by obtain ⟨u, hu⟩ := (hr.2 j hj).1; exact (h.2 _ _).1 u hu, (h.2 _ _).2.trans (hr.2 j hj).2⟩⟩
/-- A list of n certificates lies from lo to hi and may be written. -/
def CtR (lo hi : Nat) (w : World) (v : Value) (n : Nat) : Prop :=
  ∃ a cap, v = .slice a n cap ∧ n ≤ cap ∧ cap ≤ maxLen ∧ (0 < n → ∃ b off, a = some ⟨b, off, none⟩ ∧ lo ≤ b ∧ b < hi ∧ CtRoom w b off n)
def IR (lo hi : Nat) (w : World) (v : Value) (n : Nat) : Prop :=
  ∃ a cap, v = .slice a n cap ∧ n ≤ cap ∧ cap ≤ maxLen ∧ (0 < n → ∃ b off, a = some ⟨b, off, none⟩ ∧ lo ≤ b ∧ b < hi ∧ IRoom w b off n)
theorem CtR.kept {lo hi : Nat} {w w' : World} {v : Value} {n : Nat} (h : CtR lo hi w v n) (hk : Kept w w') : CtR lo hi w' v n := by
  obtain ⟨a, cap, h1, h2, h3, h4⟩ := h
  refine ⟨a, cap, h1, h2, h3, fun h0 => ?_⟩
  obtain ⟨b, off, e, hB, hC, hr⟩ := h4 h0
  exact ⟨b, off, e, hB, hC, hk.ct hr⟩
theorem IR.kept {lo hi : Nat} {w w' : World} {v : Value} {n : Nat} (h : IR lo hi w v n) (hk : Kept w w') : IR lo hi w' v n := by
  obtain ⟨a, cap, h1, h2, h3, h4⟩ := h
  refine ⟨a, cap, h1, h2, h3, fun h0 => ?_⟩
  obtain ⟨b, off, e, hB, hC, hr⟩ := h4 h0
  exact ⟨b, off, e, hB, hC, hk.ir hr⟩
theorem CtR.of {B : Nat} {w : World} {v : Value} {zs : List Ct} (h : CtNew B w v zs) : CtR B w.heap.size w v zs.length := by
  obtain ⟨a, cap, h1, h2, h3, h4⟩ := h
  refine ⟨a, cap, h1, h2, h3, fun h0 => ?_⟩
  obtain ⟨b, off, e, hB, hr, hN⟩ := h4 h0
  exact ⟨b, off, e, hB, hr.1, hr⟩
theorem IR.of {B : Nat} {w : World} {v : Value} {zs : List Int} (h : INew B w v zs) : IR B w.heap.size w v zs.length := by
  obtain ⟨a, cap, h1, h2, h3, h4⟩ := h
  refine ⟨a, cap, h1, h2, h3, fun h0 => ?_⟩
  obtain ⟨b, off, e, hB, hr, hN⟩ := h4 h0
  exact ⟨b, off, e, hB, hr.1, hr⟩
set_option maxHeartbeats 4000000 in
set_option maxRecDepth 100000 in
theorem markCertS_room (lo hi : Nat) (v : Value) (n k : Nat) (w : World) (hR : CtR lo hi w v n) (hk : k ≤ 100000000000000) (hl : n ≤ 1048576) :
    Calls Tryz.prog 61 #[v, .int .i64 (k : Int)] w fun e w' => e = .returned (.int .i64 ((k + 3 * n : Nat) : Int)) ∧ UpdR lo hi w w' ∧ Kept w w' := by
  obtain ⟨a, cap, rfl, hlc, hcm, hx⟩ := hR
  have HX : Hid (0 < n → ∃ b off, a = some ⟨b, off, none⟩ ∧ lo ≤ b ∧ b < hi ∧ CtRoom w b off n) := hx
  clear hx
  unfold maxLen at hcm
  go_enter Tryz.func61, Tryz.ntmps61
  go_wp2
  go_loopw [1, 5] (fun kv i wr => ∃ (j : Nat), j ≤ n ∧ i = .int .i64 j ∧ kv = .int .i64 ((k + 3 * j : Nat) : Int) ∧ Hid (UpdR lo hi w wr ∧ Kept w wr)) (fun _ i _ => n - (intOf i).toNat)
  case atStart => exact ⟨0, Nat.zero_le _, rfl, rfl, UpdR.refl _ _ _, Kept.refl _⟩
  case round =>
    obtain ⟨j, hj, rfl, rfl, HU⟩ := hrel
    by_cases hlt : j < n
    · obtain ⟨b, off, rfl, hb1, hb2, hr⟩ := HX.out (by omega)
      obtain ⟨kk, hkk⟩ : ∃ kk, kk = k + 3 * j := ⟨_, rfl⟩
      have hkb : kk ≤ 200000000000000 := by omega
      have HK : Hid (kk = k + 3 * j) := hkk
      rw [← hkk]
      clear hkk
      have HRR : Hid (CtRoom wr b off n) := HU.out.2.ct hr
      clear hr
      obtain ⟨⟨u0, r0⟩, f0⟩ := HRR.out.2 (j * 3) (by omega)
      obtain ⟨⟨u1, r1⟩, f1⟩ := HRR.out.2 (j * 3 + 1) (by omega)
      obtain ⟨⟨u2, r2⟩, f2⟩ := HRR.out.2 (j * 3 + 2) (by omega)
      simp only [← Nat.add_assoc] at r0 r1 r2 f0 f1 f2
      have P3 : Hid (∀ x y z : Value, UpdR lo hi w (((wr.setCell ⟨b, off + j * 3, none⟩ x).setCell ⟨b, off + j * 3 + 1, none⟩ y).setCell ⟨b, off + j * 3 + 2, none⟩ z) ∧ Kept w (((wr.setCell ⟨b, off + j * 3, none⟩ x).setCell ⟨b, off + j * 3 + 1, none⟩ y).setCell ⟨b, off + j * 3 + 2, none⟩ z)) := fun x y z => ⟨HU.out.1.trans (UpdR.of ((((Upd.refl b wr).setAt _ x).setAt _ y).setAt _ z) hb1 hb2), ((HU.out.2.set _ _ x).set _ _ y).set _ _ z⟩
      go_wp2
      exact ⟨⟨j + 1, by omega, by go_num, by rw [show k + 3 * (j + 1) = kk + 3 from by rw [HK.out]; omega]; go_num, P3.out _ _ _⟩, by simp [intOf]; omega⟩
    · have hje : j = n := by omega
      subst hje
      go_wp2
      go_ret
      exact ⟨rfl, HU.out.1, HU.out.2⟩
set_option maxHeartbeats 4000000 in
set_option maxRecDepth 100000 in
theorem markInt64S_room (lo hi : Nat) (v : Value) (n k : Nat) (w : World) (hR : IR lo hi w v n) (hk : k ≤ 100000000000000) (hl : n ≤ 1048576) :
    Calls Tryz.prog 62 #[v, .int .i64 (k : Int)] w fun e w' => e = .returned (.int .i64 ((k + n : Nat) : Int)) ∧ UpdR lo hi w w' ∧ Kept w w' := by
  obtain ⟨a, cap, rfl, hlc, hcm, hx⟩ := hR
  have HX : Hid (0 < n → ∃ b off, a = some ⟨b, off, none⟩ ∧ lo ≤ b ∧ b < hi ∧ IRoom w b off n) := hx
  clear hx
  unfold maxLen at hcm
  go_enter Tryz.func62, Tryz.ntmps62
  go_wp2
  go_loopw [1, 5] (fun kv i wr => ∃ (j : Nat), j ≤ n ∧ i = .int .i64 j ∧ kv = .int .i64 ((k + j : Nat) : Int) ∧ Hid (UpdR lo hi w wr ∧ Kept w wr)) (fun _ i _ => n - (intOf i).toNat)
  case atStart => exact ⟨0, Nat.zero_le _, rfl, rfl, UpdR.refl _ _ _, Kept.refl _⟩
  case round =>
    obtain ⟨j, hj, rfl, rfl, HU⟩ := hrel
    by_cases hlt : j < n
    · obtain ⟨b, off, rfl, hb1, hb2, hr⟩ := HX.out (by omega)
      obtain ⟨kk, hkk⟩ : ∃ kk, kk = k + j := ⟨_, rfl⟩
      have hkb : kk ≤ 200000000000000 := by omega
      have HK : Hid (kk = k + j) := hkk
      rw [← hkk]
      clear hkk
      have HRR : Hid (IRoom wr b off n) := HU.out.2.ir hr
      clear hr
      obtain ⟨⟨u0, r0⟩, f0⟩ := HRR.out.2 j hlt
      have P3 : Hid (∀ x : Value, UpdR lo hi w (wr.setCell ⟨b, off + j, none⟩ x) ∧ Kept w (wr.setCell ⟨b, off + j, none⟩ x)) := fun x => ⟨HU.out.1.trans (UpdR.of ((Upd.refl b wr).setAt _ x) hb1 hb2), HU.out.2.set _ _ x⟩
      go_wp2
      exact ⟨⟨j + 1, by omega, by go_num, by rw [show k + (j + 1) = kk + 1 from by rw [HK.out]; omega]; go_num, P3.out _⟩, by simp [intOf]; omega⟩
    · have hje : j = n := by omega
      subst hje
      go_wp2
      go_ret
      exact ⟨rfl, HU.out.1, HU.out.2⟩
/-- The ledger in block g may be written, and its lists from there up to hi. -/
def LRoom (hi : Nat) (w : World) (g : Nat) (ms : List Ms) : Prop :=
  MRoom w g 0 ms.length ∧ ∀ (i : Nat) m, ms[i]? = some m → ∃ v u, w.cell? ⟨g, i * 7 + 5, none⟩ = some v ∧ w.cell? ⟨g, i * 7 + 6, none⟩ = some u ∧ CtR (g + 1) hi w v m.certs.length ∧ IR (g + 1) hi w u m.refs.length
theorem LRoom.of {w : World} {g : Nat} {ms : List Ms} (hr : MRoom w g 0 ms.length) (h : MsNew w g 0 ms) : LRoom w.heap.size w g ms := by
  refine ⟨hr, fun i m hm => ?_⟩
  obtain ⟨v, u, ⟨-, -, -, -, -, c5, c6⟩, h2, h3⟩ := h i m hm
  rw [Nat.zero_add] at c5 c6
  exact ⟨v, u, c5, c6, CtR.of h2, IR.of h3⟩
theorem CtR.ext {lo hi : Nat} {w w' : World} {v : Value} {n : Nat} (h : CtR lo hi w v n) (he : Ext w w') : CtR lo hi w' v n := by
  obtain ⟨a, cap, h1, h2, h3, h4⟩ := h
  refine ⟨a, cap, h1, h2, h3, fun h0 => ?_⟩
  obtain ⟨b, off, e, hB, hC, hr⟩ := h4 h0
  exact ⟨b, off, e, hB, hC, hr.ext he⟩
theorem IR.ext {lo hi : Nat} {w w' : World} {v : Value} {n : Nat} (h : IR lo hi w v n) (he : Ext w w') : IR lo hi w' v n := by
  obtain ⟨a, cap, h1, h2, h3, h4⟩ := h
  refine ⟨a, cap, h1, h2, h3, fun h0 => ?_⟩
  obtain ⟨b, off, e, hB, hC, hr⟩ := h4 h0
  exact ⟨b, off, e, hB, hC, iroom_ext hr he⟩
theorem LRoom.ext {hi : Nat} {w w' : World} {g : Nat} {ms : List Ms} (h : LRoom hi w g ms) (he : Ext w w') : LRoom hi w' g ms := by
  refine ⟨h.1.ext he, fun i m hm => ?_⟩
  obtain ⟨v, u, c5, c6, h2, h3⟩ := h.2 i m hm
  exact ⟨v, u, ((Ext.cell he).1 _ _ h.1.1).trans c5, ((Ext.cell he).1 _ _ h.1.1).trans c6, h2.ext he, h3.ext he⟩
theorem LRoom.in_ {hi : Nat} {w w' : World} {g : Nat} {ms : List Ms} (h : LRoom hi w g ms) (hu : UpdR (g + 1) hi w w') (hk : Kept w w') : LRoom hi w' g ms := by
  refine ⟨hk.mr h.1, fun i m hm => ?_⟩
  obtain ⟨v, u, c5, c6, h2, h3⟩ := h.2 i m hm
  exact ⟨v, u, (hu.at_ne _ _ (Or.inl (by omega)) h.1.1).1.trans c5, (hu.at_ne _ _ (Or.inl (by omega)) h.1.1).1.trans c6, h2.kept hk, h3.kept hk⟩
theorem LRoom.set {hi : Nat} {w : World} {g : Nat} {ms : List Ms} (h : LRoom hi w g ms) (j r : Nat) (x : Value) (hr : r < 5) : LRoom hi (w.setCell ⟨g, j * 7 + r, none⟩ x) g ms := by
  have hk : Kept w (w.setCell ⟨g, j * 7 + r, none⟩ x) := (Kept.refl w).set _ _ x
  refine ⟨hk.mr h.1, fun i m hm => ?_⟩
  obtain ⟨v, u, c5, c6, h2, h3⟩ := h.2 i m hm
  exact ⟨v, u, by rw [iset_ne _ _ _ _ _ _ (Or.inr (by omega))]; exact c5, by rw [iset_ne _ _ _ _ _ _ (Or.inr (by omega))]; exact c6, h2.kept hk, h3.kept hk⟩
def five (w : World) (g o : Nat) (a b c d e : Value) : World := ((((w.setCell ⟨g, o, none⟩ a).setCell ⟨g, o + 1, none⟩ b).setCell ⟨g, o + 2, none⟩ c).setCell ⟨g, o + 3, none⟩ d).setCell ⟨g, o + 4, none⟩ e
theorem LRoom.five {hi : Nat} {w : World} {g : Nat} {ms : List Ms} (h : LRoom hi w g ms) (j : Nat) (a b c d e : Value) : LRoom hi (five w g (j * 7) a b c d e) g ms :=
  (((((by have h0 := h.set j 0 a (by omega); rw [Nat.add_zero] at h0; exact h0 : LRoom hi (w.setCell ⟨g, j * 7, none⟩ a) g ms)).set j 1 b (by omega)).set j 2 c (by omega)).set j 3 d (by omega)).set j 4 e (by omega)
theorem five_upd (w : World) (g o : Nat) (a b c d e : Value) : Upd g w (five w g o a b c d e) := (((((Upd.refl g w).setAt _ a).setAt _ b).setAt _ c).setAt _ d).setAt _ e
set_option maxHeartbeats 8000000 in
set_option maxRecDepth 100000 in
theorem markMsgS_room (hi : Nat) (g : Nat) (ms : List Ms) (w : World) (hR : LRoom hi w g ms) (hg : g < hi) (hl : ms.length ≤ 1048576) (hsm : ∀ m ∈ ms, SmallM m) :
    Calls Tryz.prog 26 #[.slice (some ⟨g, 0, none⟩) ms.length ms.length, .int .i64 1] w fun e w' => ∃ k : Nat, e = .returned (.int .i64 (k : Int)) ∧ k ≤ 100000000000000 ∧ UpdR g hi w w' := by
  have HR : Hid (LRoom hi w g ms) := hR
  have HSm : Hid (∀ m ∈ ms, SmallM m) := hsm
  clear hR hsm
  go_enter Tryz.func26, Tryz.ntmps26
  go_wp2
  go_loopw [1, 5] (fun kv i wr => ∃ (j k : Nat), j ≤ ms.length ∧ i = .int .i64 j ∧ kv = .int .i64 (k : Int) ∧ k ≤ 1 + j * 4194309 ∧ Hid (LRoom hi wr g ms) ∧ Hid (UpdR g hi w wr)) (fun _ i _ => ms.length - (intOf i).toNat)
  case atStart => exact ⟨0, 1, Nat.zero_le _, rfl, rfl, by omega, HR.out, UpdR.refl _ _ _⟩
  case round =>
    obtain ⟨j, k, hj, rfl, rfl, hkj, HL, HU⟩ := hrel
    by_cases hlt : j < ms.length
    · obtain ⟨z, hzk⟩ : ∃ z, ms[j]? = some z := ⟨_, List.getElem?_eq_getElem hlt⟩
      obtain ⟨hs1, hs2⟩ := HSm.out z (List.mem_of_getElem? hzk)
      have hkb : k ≤ 10000000000000 := by omega
      have HKJ : Hid (k ≤ 1 + j * 4194309) := hkj
      clear hkj
      have HZ : Hid (ms[j]? = some z) := hzk
      clear hzk
      obtain ⟨⟨u0, r0⟩, f0⟩ := HL.out.1.2 (j * 7) (by omega)
      obtain ⟨⟨u1, r1⟩, f1⟩ := HL.out.1.2 (j * 7 + 1) (by omega)
      obtain ⟨⟨u2, r2⟩, f2⟩ := HL.out.1.2 (j * 7 + 2) (by omega)
      obtain ⟨⟨u3, r3⟩, f3⟩ := HL.out.1.2 (j * 7 + 3) (by omega)
      obtain ⟨⟨u4, r4⟩, f4⟩ := HL.out.1.2 (j * 7 + 4) (by omega)
      obtain ⟨v, u, c5, c6, hC, hI⟩ := HL.out.2 j z HZ.out
      obtain ⟨a, cap, rfl, -, -, -⟩ := id hC
      obtain ⟨a', cap', rfl, -, -, -⟩ := id hI
      rw [Nat.zero_add] at r0 r1 r2 r3 r4 f0 f1 f2 f3 f4
      clear hC hI
      have HC : Hid (∀ wx : World, LRoom hi wx g ms → wx.cell? ⟨g, j * 7 + 5, none⟩ = some (.slice a z.certs.length cap) → ∀ kk : Nat, kk ≤ 100000000000000 → Calls Tryz.prog 61 #[.slice a z.certs.length cap, .int .i64 (kk : Int)] wx fun e w' => e = .returned (.int .i64 ((kk + 3 * z.certs.length : Nat) : Int)) ∧ UpdR (g + 1) hi wx w' ∧ Kept wx w') := fun wx hx hc kk hk => by
        obtain ⟨v, u, d5, d6, h2, h3⟩ := hx.2 j z HZ.out
        rw [hc] at d5
        cases d5
        exact markCertS_room _ _ _ _ kk wx h2 hk hs1
      have HI : Hid (∀ wx : World, LRoom hi wx g ms → wx.cell? ⟨g, j * 7 + 6, none⟩ = some (.slice a' z.refs.length cap') → ∀ kk : Nat, kk ≤ 100000000000000 → Calls Tryz.prog 62 #[.slice a' z.refs.length cap', .int .i64 (kk : Int)] wx fun e w' => e = .returned (.int .i64 ((kk + z.refs.length : Nat) : Int)) ∧ UpdR (g + 1) hi wx w' ∧ Kept wx w') := fun wx hx hc kk hk => by
        obtain ⟨v, u, d5, d6, h2, h3⟩ := hx.2 j z HZ.out
        rw [hc] at d6
        cases d6
        exact markInt64S_room _ _ _ _ kk wx h3 hk hs2
      have HF : Hid (∀ x0 x1 x2 x3 x4 : Value, LRoom hi (five wr g (j * 7) x0 x1 x2 x3 x4) g ms ∧ UpdR g hi w (five wr g (j * 7) x0 x1 x2 x3 x4) ∧ (five wr g (j * 7) x0 x1 x2 x3 x4).cell? ⟨g, j * 7 + 5, none⟩ = some (.slice a z.certs.length cap)) := fun x0 x1 x2 x3 x4 => ⟨HL.out.five j x0 x1 x2 x3 x4, HU.out.trans (UpdR.of (five_upd _ _ _ _ _ _ _ _) (Nat.le_refl _) hg), by unfold five; rw [iset_ne _ _ _ _ _ _ (by omega), iset_ne _ _ _ _ _ _ (by omega), iset_ne _ _ _ _ _ _ (by omega), iset_ne _ _ _ _ _ _ (by omega), iset_ne _ _ _ _ _ _ (by omega)]; exact c5⟩
      have HF6 : Hid (∀ x0 x1 x2 x3 x4 : Value, (five wr g (j * 7) x0 x1 x2 x3 x4).cell? ⟨g, j * 7 + 6, none⟩ = some (.slice a' z.refs.length cap')) := fun x0 x1 x2 x3 x4 => by unfold five; rw [iset_ne _ _ _ _ _ _ (by omega), iset_ne _ _ _ _ _ _ (by omega), iset_ne _ _ _ _ _ _ (by omega), iset_ne _ _ _ _ _ _ (by omega), iset_ne _ _ _ _ _ _ (by omega)]; exact c6
      go_wp2_with fail
      rw [show ((k : Int) + 1 + 1 + 1 + 1 + 1) = ((k + 5 : Nat) : Int) from by omega]
      refine (HC.out (five wr g (j * 7) _ _ _ _ _) (HF.out _ _ _ _ _).1 (HF.out _ _ _ _ _).2.2 (k + 5) (by omega)).mono ?_
      rintro e w2 ⟨rfl, hu2, hk2⟩
      have HL2 : Hid (LRoom hi w2 g ms) := (HF.out _ _ _ _ _).1.in_ hu2 hk2
      have HU2 : Hid (UpdR g hi w w2) := (HF.out _ _ _ _ _).2.1.trans (hu2.mono (by omega))
      have d6 : w2.cell? ⟨g, j * 7 + 6, none⟩ = some (.slice a' z.refs.length cap') := (hu2.at_ne _ _ (Or.inl (by omega)) (HF.out _ _ _ _ _).1.1.1).1.trans (HF6.out _ _ _ _ _)
      clear hu2 hk2 r0 r1 r2 r3 r4 f0 f1 f2 f3 f4 c5 c6 HC HF HF6 HL HU
      go_wp2_with fail
      refine (HI.out _ HL2.out d6 (k + 5 + 3 * z.certs.length) (by omega)).mono ?_
      rintro e w3 ⟨rfl, hu3, hk3⟩
      have HL3 : Hid (LRoom hi w3 g ms) := HL2.out.in_ hu3 hk3
      have HU3 : Hid (UpdR g hi w w3) := HU2.out.trans (hu3.mono (by omega))
      clear hu3 hk3 d6 HI HL2 HU2
      have hk5 : k + 5 + 3 * z.certs.length + z.refs.length ≤ 1 + (j + 1) * 4194309 := by have := HKJ.out; omega
      generalize k + 5 + 3 * z.certs.length + z.refs.length = k5 at *
      go_wp2
      exact ⟨⟨j + 1, k5, by omega, by go_num, rfl, hk5, HL3.out, HU3.out⟩, by simp [intOf]; omega⟩
    · have hje : j = ms.length := by omega
      go_wp2
      go_ret
      exact ⟨k, rfl, by omega, HU.out⟩
end Led
end Go.Proofs.YtecgjdgfjgcmdaaGreat
