/- the laws' small functions over texts in slices. -/
import Derived.Test.YtihfgaanaffinaaDoorZ6
namespace Go.Proofs.YtihfgaanaffinaaDoor
open Go.RowKit

def TextsAt (w : World) (b off : Nat) (ts : List ByteArray) : Prop := ∀ (i : Nat) t, ts[i]? = some t → w.cell? ⟨b, off + i, none⟩ = some (.string t)
theorem TextsAt.ext {w w' : World} {b off : Nat} {ts : List ByteArray} (h : TextsAt w b off ts) (hb : b < w.heap.size) (he : Ext w w') : TextsAt w' b off ts :=
  fun i t ht => ((Ext.cell he).1 _ _ hb).trans (h i t ht)
theorem TextsAt.upd {w w' : World} {g off b : Nat} {ts : List ByteArray} (h : TextsAt w g off ts) (he : Upd b w w') (hne : g ≠ b) (hg : g < w.heap.size) : TextsAt w' g off ts :=
  fun i t ht => (he.at_ne _ _ hne hg).1.trans (h i t ht)
/-- The slice value v reads as the texts ts. -/
def TSlice (w : World) (v : Value) (ts : List ByteArray) : Prop :=
  ∃ a cap, v = .slice a ts.length cap ∧ ts.length ≤ cap ∧ cap ≤ maxLen ∧ (0 < ts.length → ∃ b off, a = some ⟨b, off, none⟩ ∧ b < w.heap.size ∧ TextsAt w b off ts)
theorem TSlice.ext {w w' : World} {v : Value} {ts : List ByteArray} (h : TSlice w v ts) (he : Ext w w') : TSlice w' v ts := by
  obtain ⟨a, cap, h1, h2, h3, h4⟩ := h
  refine ⟨a, cap, h1, h2, h3, fun h0 => ?_⟩
  obtain ⟨b, off, e, hb, hN⟩ := h4 h0
  exact ⟨b, off, e, Nat.lt_of_lt_of_le hb he.size, hN.ext hb he⟩
/-- Block g holds room for n texts from off on, and may be written there. -/
def TRoom (w : World) (g off n : Nat) : Prop := g < w.heap.size ∧ ∀ j, j < n → (∃ u, w.cell? ⟨g, off + j, none⟩ = some u) ∧ w.frozen? ⟨g, off + j, none⟩ = false
theorem TRoom.ext {w w' : World} {g off n : Nat} (h : TRoom w g off n) (he : Ext w w') : TRoom w' g off n := by
  obtain ⟨hc, hf⟩ := Ext.cell he
  exact ⟨Nat.lt_of_lt_of_le h.1 he.size, fun j hj => ⟨by rw [hc _ _ h.1]; exact (h.2 j hj).1, by rw [hf _ _ h.1]; exact (h.2 j hj).2⟩⟩
theorem TRoom.upd {w w' : World} {g off n b : Nat} (h : TRoom w g off n) (he : Upd b w w') (hne : g ≠ b) : TRoom w' g off n :=
  ⟨Nat.lt_of_lt_of_le h.1 he.2.1, fun j hj => ⟨by rw [(he.at_ne _ _ hne h.1).1]; exact (h.2 j hj).1, by rw [(he.at_ne _ _ hne h.1).2]; exact (h.2 j hj).2⟩⟩
theorem TRoom.put {w : World} {g off n k : Nat} (h : TRoom w g off n) (t : ByteArray) (_hk : k < n) : TRoom (w.setCell ⟨g, off + k, none⟩ (.string t)) g off n := by
  refine ⟨by simpa using h.1, fun j hj => ⟨?_, by simpa using (h.2 j hj).2⟩⟩
  by_cases hjk : j = k
  · subst hjk; exact ⟨_, set_eq _ _ _ _ (h.2 j hj).1⟩
  · rw [set_ne _ _ _ _ _ _ (by omega)]; exact (h.2 j hj).1
theorem TextsAt.put {w : World} {g off n k : Nat} {ts : List ByteArray} {t : ByteArray} (hr : TRoom w g off n) (hk : k < n) (hz : ts[k]? = some t) (h : TextsAt w g off (ts.take k)) : TextsAt (w.setCell ⟨g, off + k, none⟩ (.string t)) g off (ts.take (k + 1)) := by
  intro i t' hi
  rw [List.getElem?_take] at hi
  split at hi
  · by_cases hik : i = k
    · subst hik
      rw [hz] at hi
      cases hi
      exact set_eq _ _ _ _ (hr.2 i hk).1
    · rw [set_ne _ _ _ _ _ _ (by omega)]
      exact h i t' (by rw [List.getElem?_take, if_pos (by omega)]; exact hi)
  · cases hi
def TOwn (w : World) (v : Value) (g : Nat) (ts : List ByteArray) : Prop :=
  ∃ a cap, v = .slice a ts.length cap ∧ ts.length ≤ cap ∧ cap ≤ maxLen ∧ (0 < ts.length → ∃ off, a = some ⟨g, off, none⟩ ∧ TRoom w g off ts.length ∧ TextsAt w g off ts)
theorem TOwn.slice {w : World} {v : Value} {g : Nat} {ts : List ByteArray} (h : TOwn w v g ts) : TSlice w v ts := by
  obtain ⟨a, cap, h1, h2, h3, h4⟩ := h
  refine ⟨a, cap, h1, h2, h3, fun h0 => ?_⟩
  obtain ⟨off, e, hr, hN⟩ := h4 h0
  exact ⟨g, off, e, hr.1, hN⟩
theorem TOwn.ext {w w' : World} {v : Value} {g : Nat} {ts : List ByteArray} (h : TOwn w v g ts) (he : Ext w w') : TOwn w' v g ts := by
  obtain ⟨a, cap, h1, h2, h3, h4⟩ := h
  refine ⟨a, cap, h1, h2, h3, fun h0 => ?_⟩
  obtain ⟨off, e, hr, hN⟩ := h4 h0
  exact ⟨off, e, hr.ext he, hN.ext hr.1 he⟩
theorem TOwn.lt {w : World} {v : Value} {g : Nat} {ts : List ByteArray} (h : TOwn w v g ts) (h0 : 0 < ts.length) : g < w.heap.size := by
  obtain ⟨a, cap, -, -, -, h4⟩ := h
  obtain ⟨off, -, hr, -⟩ := h4 h0
  exact hr.1
theorem TOwn.nil {w w' : World} {v : Value} {g g' : Nat} {ts : List ByteArray} (h : TOwn w v g ts) (h0 : ¬ 0 < ts.length) : TOwn w' v g' ts := by
  obtain ⟨a, cap, h1, h2, h3, -⟩ := h
  exact ⟨a, cap, h1, h2, h3, fun h => absurd h h0⟩
theorem TOwn.upd' {w w' : World} {v : Value} {g b : Nat} {ts : List ByteArray} (h : TOwn w v g ts) (he : Upd b w w') (hne : 0 < ts.length → g ≠ b) : TOwn w' v g ts := by
  by_cases h0 : 0 < ts.length
  · obtain ⟨a, cap, h1, h2, h3, h4⟩ := h
    refine ⟨a, cap, h1, h2, h3, fun _ => ?_⟩
    obtain ⟨off, e, hr, hN⟩ := h4 h0
    exact ⟨off, e, hr.upd he (hne h0), hN.upd he (hne h0) hr.1⟩
  · exact h.nil h0
theorem TOwn.pick {w : World} {v : Value} {g : Nat} {ts : List ByteArray} (h : TOwn w v g ts) : ∃ g', g' ≤ w.heap.size ∧ TOwn w v g' ts ∧ (g' = w.heap.size ∧ ¬ 0 < ts.length ∨ (g' = g ∧ g < w.heap.size ∧ 0 < ts.length)) := by
  by_cases h0 : 0 < ts.length
  · exact ⟨g, Nat.le_of_lt (h.lt h0), h, Or.inr ⟨rfl, h.lt h0, h0⟩⟩
  · exact ⟨_, Nat.le_refl _, h.nil h0, Or.inl ⟨rfl, h0⟩⟩

set_option maxHeartbeats 1000000 in
set_option maxRecDepth 100000 in
theorem eqStringS_same (v v' : Value) (ts : List ByteArray) (w : World) (hS : TSlice w v ts) (hS' : TSlice w v' ts) :
    Calls Tryd.prog 102 #[v, v'] w fun e w' => e = .returned (.bool true) ∧ Ext w w' := by
  obtain ⟨a, cap, rfl, hlc, hcm, hx⟩ := hS
  obtain ⟨a', cap', rfl, hlc', hcm', hx'⟩ := hS'
  have HX : Hid (0 < ts.length → ∃ b off, a = some ⟨b, off, none⟩ ∧ b < w.heap.size ∧ TextsAt w b off ts) := hx
  have HX' : Hid (0 < ts.length → ∃ b off, a' = some ⟨b, off, none⟩ ∧ b < w.heap.size ∧ TextsAt w b off ts) := hx'
  clear hx hx'
  unfold maxLen at hcm
  go_enter Tryd.func102, Tryd.ntmps102
  go_wp2
  go_loopw [5] (fun i wr => ∃ (k : Nat), k ≤ ts.length ∧ i = .int .i64 k ∧ Hid (Ext w wr)) (fun i _ => ts.length - (intOf i).toNat)
  case atStart => exact ⟨0, Nat.zero_le _, rfl, Ext.refl _⟩
  case round =>
    obtain ⟨k, hk, rfl, HE⟩ := hrel
    by_cases hlt : k < ts.length
    · obtain ⟨t, htk⟩ : ∃ t, ts[k]? = some t := ⟨_, List.getElem?_eq_getElem hlt⟩
      obtain ⟨b, off, rfl, hb, hN⟩ := HX.out (by omega)
      obtain ⟨b', off', rfl, hb', hN'⟩ := HX'.out (by omega)
      have d0 := hN.ext hb HE.out k t htk
      have e0 := hN'.ext hb' HE.out k t htk
      clear htk hN hN'
      go_wp2
      go_region
      all_goals
        go_wp2
        exact ⟨⟨k + 1, by omega, by go_num, HE.out.drew⟩, by simp [intOf]; omega⟩
    · go_wp2
      go_ret
      exact ⟨rfl, HE.out⟩

def tmarks (k n : Nat) : List ByteArray := (List.range n).map fun i => mtext (k + i)
theorem tmarks_length (k n : Nat) : (tmarks k n).length = n := by simp [tmarks]
theorem tmarks_get (k n i : Nat) (h : i < n) : (tmarks k n)[i]? = some (mtext (k + i)) := by
  unfold tmarks
  rw [List.getElem?_map, List.getElem?_range h]; rfl

set_option maxHeartbeats 2000000 in
set_option maxRecDepth 100000 in
theorem markStringS_any (v : Value) (g : Nat) (ts : List ByteArray) (k : Nat) (w : World) (hO : TOwn w v g ts) (hk : k ≤ 100) (hl : ts.length ≤ 1048576) :
    Calls Tryd.prog 103 #[v, .int .i64 k] w fun e w' => e = .returned (.int .i64 (k + ts.length : Nat)) ∧ TOwn w' v g (tmarks k ts.length) ∧ Upd g w w' := by
  obtain ⟨a, cap, rfl, hlc, hcm, hx⟩ := hO
  have HX : Hid (0 < ts.length → ∃ off, a = some ⟨g, off, none⟩ ∧ TRoom w g off ts.length ∧ TextsAt w g off ts) := hx
  clear hx
  have hcm' : cap ≤ maxLen := hcm
  have HC : Hid (cap ≤ maxLen) := hcm'
  clear hcm'
  unfold maxLen at hcm
  go_enter Tryd.func103, Tryd.ntmps103
  go_wp2
  go_loopw [1, 5] (fun kv i wr => ∃ (j : Nat), j ≤ ts.length ∧ i = .int .i64 j ∧ kv = .int .i64 (k + j : Nat) ∧ Hid (∀ off, a = some ⟨g, off, none⟩ → 0 < ts.length → TRoom wr g off ts.length ∧ TextsAt wr g off ((tmarks k ts.length).take j)) ∧ Hid (Upd g w wr)) (fun _ i _ => ts.length - (intOf i).toNat)
  case atStart =>
    refine ⟨0, Nat.zero_le _, rfl, rfl, ?_, Upd.refl _ _⟩
    intro off ha h0
    obtain ⟨off', ha', hr, _⟩ := HX.out h0
    rw [ha] at ha'
    simp only [Option.some.injEq, Addr.mk.injEq, true_and, and_true] at ha'
    subst ha'
    exact ⟨hr, fun i z h => by simp at h⟩
  case round =>
    obtain ⟨j, hj, rfl, rfl, HR, HU⟩ := hrel
    by_cases hlt : j < ts.length
    · obtain ⟨off, rfl, _, _⟩ := HX.out (by omega)
      obtain ⟨hr, hN⟩ := HR.out off rfl (by omega)
      obtain ⟨kk, hkk⟩ : ∃ kk, kk = k + j := ⟨_, rfl⟩
      have hkb : kk ≤ 5242981 := by omega
      have HK : Hid (kk = k + j) := hkk
      rw [← hkk]
      clear hkk
      have hmt := markText_any kk wr (by omega)
      have HRR : Hid (TRoom wr g off ts.length) := hr
      have HNN : Hid (TextsAt wr g off ((tmarks k ts.length).take j)) := hN
      clear hr hN
      go_wp2_with fail
      refine hmt.mono ?_
      rintro e w2 ⟨rfl, hb2⟩
      clear hmt
      have HR2 : Hid (TRoom w2 g off ts.length) := HRR.out.ext hb2
      have HN2 : Hid (TextsAt w2 g off ((tmarks k ts.length).take j)) := HNN.out.ext HRR.out.1 hb2
      have HU2 : Hid (Upd g w w2) := HU.out.trans (Upd.ext hb2 (by have := HRR.out.1; omega))
      clear hb2
      obtain ⟨⟨u0, r0⟩, f0⟩ := HR2.out.2 j (by omega)
      have P1 : Hid (TRoom (w2.setCell ⟨g, off + j, none⟩ (.string (mtext kk))) g off ts.length) := HR2.out.put (mtext kk) hlt
      have P2 : Hid (TextsAt (w2.setCell ⟨g, off + j, none⟩ (.string (mtext kk))) g off ((tmarks k ts.length).take (j + 1))) := TextsAt.put HR2.out hlt (by rw [tmarks_get _ _ _ hlt, ← HK.out]) HN2.out
      have P3 : Hid (Upd g w (w2.setCell ⟨g, off + j, none⟩ (.string (mtext kk)))) := HU2.out.setAt _ _
      go_wp2
      refine ⟨⟨j + 1, by omega, by go_num, by rw [show k + (j + 1) = kk + 1 from by rw [HK.out]; omega]; go_num, ?_, P3.out⟩, by simp [intOf]; omega⟩
      intro off' ho _
      simp only [Option.some.injEq, Addr.mk.injEq, true_and, and_true] at ho
      subst ho
      exact ⟨P1.out, P2.out⟩
    · have hje : j = ts.length := by omega
      subst hje
      go_wp2
      go_ret
      refine ⟨rfl, ⟨_, cap, by rw [tmarks_length], by rw [tmarks_length]; exact hlc, HC.out, fun h0 => ?_⟩, HU.out⟩
      rw [tmarks_length] at h0
      obtain ⟨off, rfl, _, _⟩ := HX.out h0
      obtain ⟨hr, hN⟩ := HR.out off rfl h0
      rw [List.take_of_length_le (by rw [tmarks_length]; omega)] at hN
      exact ⟨off, rfl, by rw [tmarks_length]; exact hr, hN⟩

set_option maxHeartbeats 2000000 in
set_option maxRecDepth 100000 in
theorem heldStringS_any (v : Value) (n k : Nat) (w : World) (hO : TSlice w v (tmarks k n)) (hk : k ≤ 100) (hl : n ≤ 1048576) :
    Calls Tryd.prog 104 #[v, .int .i64 k] w fun e w' => e = .returned (.int .i64 (k + n : Nat)) ∧ Ext w w' := by
  obtain ⟨a, cap, rfl, hlc, hcm, hx⟩ := hO
  have HX : Hid (0 < (tmarks k n).length → ∃ b off, a = some ⟨b, off, none⟩ ∧ b < w.heap.size ∧ TextsAt w b off (tmarks k n)) := hx
  clear hx
  unfold maxLen at hcm
  rw [tmarks_length] at hlc ⊢
  go_enter Tryd.func104, Tryd.ntmps104
  go_wp2
  go_loopw [1, 5] (fun kv i wr => ∃ (j : Nat), j ≤ n ∧ i = .int .i64 j ∧ kv = .int .i64 (k + j : Nat) ∧ Hid (Ext w wr)) (fun _ i _ => n - (intOf i).toNat)
  case atStart => exact ⟨0, Nat.zero_le _, rfl, rfl, Ext.refl _⟩
  case round =>
    obtain ⟨j, hj, rfl, rfl, HE⟩ := hrel
    by_cases hlt : j < n
    · obtain ⟨b, off, rfl, hb, hN⟩ := HX.out (by rw [tmarks_length]; omega)
      have d0 := hN.ext hb HE.out j _ (tmarks_get k n j hlt)
      obtain ⟨kk, hkk⟩ : ∃ kk, kk = k + j := ⟨_, rfl⟩
      have hkb : kk ≤ 5242981 := by omega
      have HK : Hid (kk = k + j) := hkk
      rw [← hkk] at d0 ⊢
      have hbr : b < wr.heap.size := Nat.lt_of_lt_of_le hb HE.out.size
      clear hkk hN
      have HT : Hid (∀ wx : World, Calls Tryd.prog 98 #[.int .i64 kk] wx fun e w' => e = .returned (.string (mtext kk)) ∧ Ext wx w') := fun wx => markText_any kk wx (by omega)
      have HC : Hid (∀ wx : World, Ext wr.drew wx → wx.cell? ⟨b, off + j, none⟩ = some (.string (mtext kk))) := by
        intro wx hx
        exact ((Ext.cell hx).1 _ _ hbr).trans d0
      generalize mtext kk = mt at *
      go_wp2
      go_region_with (go_at_call 98; refine (HT.out _).mono ?_; rintro e w2 ⟨rfl, hb2⟩; have c0 := HC.out _ hb2)
      all_goals
        go_wp2
        exact ⟨⟨j + 1, by omega, by go_num, by rw [show k + (j + 1) = kk + 1 from by rw [HK.out]; omega]; go_num, HE.out.trans (((Ext.refl _).drew).trans hb2)⟩, by simp [intOf]; omega⟩
    · have hje : j = n := by omega
      subst hje
      go_wp2
      go_ret
      exact ⟨rfl, HE.out⟩

/-- A TextsResult as a value. -/
def xr (c : Int) (v : Value) : Value := .agg #[.int .i64 c, v]

set_option maxHeartbeats 1000000 in
theorem eqTextsResult_same (c : Int) (v v' : Value) (ts : List ByteArray) (w : World) (h : TSlice w v ts) (h' : TSlice w v' ts) :
    Calls Tryd.prog 54 #[xr c v, xr c v'] w fun e w' => e = .returned (.bool true) ∧ Ext w w' := by
  have HS : Hid (TSlice w v ts) := h
  have HS' : Hid (TSlice w v' ts) := h'
  obtain ⟨a, cap, rfl, _⟩ := h
  obtain ⟨a', cap', rfl, _⟩ := h'
  unfold xr
  go_enter Tryd.func54, Tryd.ntmps54
  go_wp2_with fail
  refine (eqStringS_same _ _ ts _ (by exact HS.out.ext (((Ext.refl _).alloc _).alloc _)) (by exact HS'.out.ext (((Ext.refl _).alloc _).alloc _))).mono ?_
  rintro e w2 ⟨rfl, hb⟩
  go_wp2
  go_ret
  exact ⟨rfl, (((Ext.refl _).alloc _).alloc _).trans hb⟩

set_option maxHeartbeats 1000000 in
theorem markTextsResult_any (c : Int) (v : Value) (g : Nat) (ts : List ByteArray) (k : Nat) (w : World) (hO : TOwn w v g ts) (hg : g ≤ w.heap.size) (hk : k ≤ 100) (hl : ts.length ≤ 1048576) :
    Calls Tryd.prog 55 #[xr c v, .int .i64 k] w fun e w' => e = .returned (.int .i64 (k + ts.length : Nat)) ∧ TOwn w' v g (tmarks k ts.length) ∧ Upd g w w' := by
  have HO : Hid (TOwn w v g ts) := hO
  obtain ⟨a, cap, rfl, _⟩ := hO
  unfold xr
  go_enter Tryd.func55, Tryd.ntmps55
  go_wp2_with fail
  refine (markStringS_any _ g ts k _ (by exact HO.out.ext ((Ext.refl _).alloc _)) hk hl).mono ?_
  rintro e w2 ⟨rfl, hO2, hU⟩
  have HO2 : Hid (TOwn w2 (.slice a ts.length cap) g (tmarks k ts.length)) := hO2
  have HU : Hid (Upd g w w2) := (Upd.alloc _ _ hg).trans hU
  clear hO2 hU
  go_wp2
  go_ret
  exact ⟨rfl, HO2.out, HU.out⟩

set_option maxHeartbeats 1000000 in
theorem heldTextsResult_any (c : Int) (v : Value) (n k : Nat) (w : World) (hO : TSlice w v (tmarks k n)) (hk : k ≤ 100) (hl : n ≤ 1048576) :
    Calls Tryd.prog 56 #[xr c v, .int .i64 k] w fun e w' => e = .returned (.int .i64 (k + n : Nat)) ∧ Ext w w' := by
  have HO : Hid (TSlice w v (tmarks k n)) := hO
  obtain ⟨a, cap, rfl, _⟩ := hO
  unfold xr
  go_enter Tryd.func56, Tryd.ntmps56
  go_wp2_with fail
  refine (heldStringS_any _ n k _ (by exact HO.out.ext ((Ext.refl _).alloc _)) hk hl).mono ?_
  rintro e w2 ⟨rfl, hb⟩
  obtain ⟨m, hm⟩ : ∃ m, m = k + n := ⟨_, rfl⟩
  rw [← hm]
  have HM : Hid (m = k + n) := hm
  clear hm
  go_wp2
  go_ret
  exact ⟨ret_int (by rw [HM.out]), ((Ext.refl _).alloc _).trans hb⟩
end Go.Proofs.YtihfgaanaffinaaDoor
