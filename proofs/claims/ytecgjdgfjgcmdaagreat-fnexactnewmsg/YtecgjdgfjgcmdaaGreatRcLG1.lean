/- ledgers: slices of messages, the laws' functions over them. -/
import Derived.Test.YtecgjdgfjgcmdaaGreatRcH2
import Derived.Deep.RegionHeld3
namespace Go.Proofs.YtecgjdgfjgcmdaaGreat
open Go.RowKit
theorem iroom_ext {w w' : World} {g off n : Nat} (h : IRoom w g off n) (he : Ext w w') : IRoom w' g off n := by
  obtain ⟨hc, hf⟩ := Ext.cell he
  exact ⟨Nat.lt_of_lt_of_le h.1 he.size, fun j hj => ⟨by rw [hc _ _ h.1]; exact (h.2 j hj).1, by rw [hf _ _ h.1]; exact (h.2 j hj).2⟩⟩
theorem iroom_upd {w w' : World} {g off n b : Nat} (h : IRoom w g off n) (he : Upd b w w') (hne : g ≠ b) : IRoom w' g off n :=
  ⟨Nat.lt_of_lt_of_le h.1 he.2.1, fun j hj => ⟨by rw [(he.at_ne _ _ hne h.1).1]; exact (h.2 j hj).1, by rw [(he.at_ne _ _ hne h.1).2]; exact (h.2 j hj).2⟩⟩
theorem numsAt_upd {w w' : World} {g off b : Nat} {ts : List Int} (h : NumsAt w g off ts) (he : Upd b w w') (hne : g ≠ b) (hg : g < w.heap.size) : NumsAt w' g off ts :=
  fun i t ht => (he.at_ne _ _ hne hg).1.trans (h i t ht)
/-- The certificates lie in memory that came behind B, and may be written there. -/
def CtNew (B : Nat) (w : World) (v : Value) (zs : List Ct) : Prop :=
  ∃ a cap, v = .slice a zs.length cap ∧ zs.length ≤ cap ∧ cap ≤ maxLen ∧ (0 < zs.length → ∃ b off, a = some ⟨b, off, none⟩ ∧ B ≤ b ∧ CtRoom w b off zs.length ∧ CtsAt w b off zs)
def INew (B : Nat) (w : World) (v : Value) (l : List Int) : Prop :=
  ∃ a cap, v = .slice a l.length cap ∧ l.length ≤ cap ∧ cap ≤ maxLen ∧ (0 < l.length → ∃ b off, a = some ⟨b, off, none⟩ ∧ B ≤ b ∧ IRoom w b off l.length ∧ NumsAt w b off l)
theorem CtNew.ext {B : Nat} {w w' : World} {v : Value} {zs : List Ct} (h : CtNew B w v zs) (he : Ext w w') : CtNew B w' v zs := by
  obtain ⟨a, cap, h1, h2, h3, h4⟩ := h
  refine ⟨a, cap, h1, h2, h3, fun h0 => ?_⟩
  obtain ⟨b, off, e, hB, hr, hN⟩ := h4 h0
  exact ⟨b, off, e, hB, hr.ext he, hN.ext hr.1 he⟩
theorem INew.ext {B : Nat} {w w' : World} {v : Value} {zs : List Int} (h : INew B w v zs) (he : Ext w w') : INew B w' v zs := by
  obtain ⟨a, cap, h1, h2, h3, h4⟩ := h
  refine ⟨a, cap, h1, h2, h3, fun h0 => ?_⟩
  obtain ⟨b, off, e, hB, hr, hN⟩ := h4 h0
  exact ⟨b, off, e, hB, iroom_ext hr he, hN.ext hr.1 he⟩
theorem CtNew.upd {B g : Nat} {w w' : World} {v : Value} {zs : List Ct} (h : CtNew B w v zs) (he : Upd g w w') (hg : g < B) : CtNew B w' v zs := by
  obtain ⟨a, cap, h1, h2, h3, h4⟩ := h
  refine ⟨a, cap, h1, h2, h3, fun h0 => ?_⟩
  obtain ⟨b, off, e, hB, hr, hN⟩ := h4 h0
  exact ⟨b, off, e, hB, hr.upd he (by omega), hN.upd he (by omega) hr.1⟩
theorem INew.upd {B g : Nat} {w w' : World} {v : Value} {zs : List Int} (h : INew B w v zs) (he : Upd g w w') (hg : g < B) : INew B w' v zs := by
  obtain ⟨a, cap, h1, h2, h3, h4⟩ := h
  refine ⟨a, cap, h1, h2, h3, fun h0 => ?_⟩
  obtain ⟨b, off, e, hB, hr, hN⟩ := h4 h0
  exact ⟨b, off, e, hB, iroom_upd hr he (by omega), numsAt_upd hN he (by omega) hr.1⟩
theorem CtNew.mono {B B' : Nat} {w : World} {v : Value} {zs : List Ct} (h : CtNew B w v zs) (hB : B' ≤ B) : CtNew B' w v zs := by
  obtain ⟨a, cap, h1, h2, h3, h4⟩ := h
  refine ⟨a, cap, h1, h2, h3, fun h0 => ?_⟩
  obtain ⟨b, off, e, hB2, hr, hN⟩ := h4 h0
  exact ⟨b, off, e, by omega, hr, hN⟩
theorem INew.mono {B B' : Nat} {w : World} {v : Value} {zs : List Int} (h : INew B w v zs) (hB : B' ≤ B) : INew B' w v zs := by
  obtain ⟨a, cap, h1, h2, h3, h4⟩ := h
  refine ⟨a, cap, h1, h2, h3, fun h0 => ?_⟩
  obtain ⟨b, off, e, hB2, hr, hN⟩ := h4 h0
  exact ⟨b, off, e, by omega, hr, hN⟩
theorem CtNew.slice {B : Nat} {w : World} {v : Value} {zs : List Ct} (h : CtNew B w v zs) : CtSlice w v zs := by
  obtain ⟨a, cap, h1, h2, h3, h4⟩ := h
  refine ⟨a, cap, h1, h2, h3, fun h0 => ?_⟩
  obtain ⟨b, off, e, hB2, hr, hN⟩ := h4 h0
  exact ⟨b, off, e, hr.1, hN⟩
theorem INew.slice {B : Nat} {w : World} {v : Value} {zs : List Int} (h : INew B w v zs) : ISlice w v zs := by
  obtain ⟨a, cap, h1, h2, h3, h4⟩ := h
  refine ⟨a, cap, h1, h2, h3, fun h0 => ?_⟩
  obtain ⟨b, off, e, hB2, hr, hN⟩ := h4 h0
  exact ⟨b, off, e, hr.1, hN⟩

set_option maxHeartbeats 2000000 in
set_option maxRecDepth 100000 in
theorem toMsg_new (m : Ms) (v u : Value) (w : World) (hS : MLs w v u m) (hl : m.certs.length ≤ 1048576) (hl2 : m.refs.length ≤ 1048576) :
    Calls Tryz.prog 44 #[magg m v u] w fun e w' => ∃ x y, e = .returned (magg m (.slice x m.certs.length m.certs.length) (.slice y m.refs.length m.refs.length)) ∧ CtNew w.heap.size w' (.slice x m.certs.length m.certs.length) m.certs ∧ INew w.heap.size w' (.slice y m.refs.length m.refs.length) m.refs ∧ Ext w w' := by
  have HC : Hid (∀ wx : World, Ext w wx → Calls Tryz.prog 95 #[v] wx fun e w' => e = .returned (.slice (some ⟨wx.heap.size, 0, none⟩) m.certs.length m.certs.length) ∧ CtRoom w' wx.heap.size 0 m.certs.length ∧ CtsAt w' wx.heap.size 0 m.certs ∧ Ext wx w') := fun wx he => toCertS_at v m.certs wx (hS.1.ext he) hl
  have HI : Hid (∀ wx : World, Ext w wx → Calls Tryz.prog 96 #[u] wx fun e w' => e = .returned (.slice (some ⟨wx.heap.size, 0, none⟩) m.refs.length m.refs.length) ∧ IRoom w' wx.heap.size 0 m.refs.length ∧ NumsAt w' wx.heap.size 0 m.refs ∧ Ext wx w') := fun wx he => toInt64S_at u m.refs wx (hS.2.ext he) hl2
  obtain ⟨a, c, a', c', rfl, rfl, -, -, -, -⟩ := hS.form
  clear hS
  unfold magg
  go_enter Tryz.func44, Tryz.ntmps44
  go_wp2_with fail
  refine (HC.out _ ((((Ext.refl _).alloc _).alloc _).alloc _)).mono ?_
  rintro e w1 ⟨rfl, hr1, hs1, hb⟩
  have HB : Hid (Ext w w1) := ((((Ext.refl _).alloc _).alloc _).alloc _).trans hb
  have A1 : Hid (MBoxAt w1 w.heap.size m (.slice a m.certs.length c) (.slice a' m.refs.length c')) := (((mbox_new w m _ _ _).ext ((Ext.refl _).alloc _)).ext ((Ext.refl _).alloc _)).ext hb
  have R1 : Hid (MBoxAt w1 (w.heap.size + 1) ⟨0, 0, 0, 0, 0, [], []⟩ (.slice none 0 0) (.slice none 0 0)) := by have h := ((mbox_new (w.alloc _) ⟨0, 0, 0, 0, 0, [], []⟩ (.slice none 0 0) (.slice none 0 0) _).ext ((Ext.refl _).alloc _)).ext hb; simp only [World.size_alloc] at h; exact h
  have O1 : Hid (MBoxAt w1 (w.heap.size + 1 + 1) m (.slice none 0 0) (.slice none 0 0)) := by have h := (mbox_new _ m (.slice none 0 0) (.slice none 0 0) _).ext hb; simp only [World.size_alloc] at h; exact h
  simp only [World.size_alloc] at hr1 hs1
  have HN : Hid (CtRoom w1 (w.heap.size + 1 + 1 + 1) 0 m.certs.length ∧ CtsAt w1 (w.heap.size + 1 + 1 + 1) 0 m.certs) := ⟨hr1, hs1⟩
  clear hb hr1 hs1
  simp only [World.size_alloc]
  obtain ⟨-, ⟨p0, p1, p2, p3, p4, p5, p6⟩, -⟩ := A1.out
  obtain ⟨-, ⟨o0, o1, o2, o3, o4, o5, o6⟩, k0, k1, k2, k3, k4, k5, k6⟩ := O1.out
  have hw1 : w.heap.size + 1 + 1 + 1 < w1.heap.size := HN.out.1.1
  go_wp2_with fail
  refine (HI.out _ (HB.out.setCell (by show w.heap.size ≤ w.heap.size + 1 + 1; omega) _)).mono ?_
  rintro e w2 ⟨rfl, hr2, hs2, hb2⟩
  clear p0 p1 p2 p3 p4 p5 p6 o0 o1 o2 o3 o4 o5 o6 k0 k1 k2 k3 k4 k5 k6
  have HB2 : Hid (Ext w w2) := (HB.out.setCell (by show w.heap.size ≤ w.heap.size + 1 + 1; omega) _).trans hb2
  obtain ⟨-, ⟨o0, o1, o2, o3, o4, o5, o6⟩, k0, k1, k2, k3, k4, k5, k6⟩ := O1.out.set5.ext hb2
  obtain ⟨-, ⟨r0, r1, r2, r3, r4, r5, r6⟩, j0, j1, j2, j3, j4, j5, j6⟩ := (R1.out.set_ne (by omega)).ext hb2
  simp only [World.size_setCell] at hr2 hs2
  have hw2 : w1.heap.size < w2.heap.size := hr2.1
  have HN2 : Hid (CtRoom w2 (w.heap.size + 1 + 1 + 1) 0 m.certs.length ∧ CtsAt w2 (w.heap.size + 1 + 1 + 1) 0 m.certs ∧ IRoom w2 w1.heap.size 0 m.refs.length ∧ NumsAt w2 w1.heap.size 0 m.refs) := ⟨(HN.out.1.upd ((Upd.refl _ _).setAt _ _) (by omega)).ext hb2, (HN.out.2.set_ne (by omega)).ext (by simpa using hw1) hb2, hr2, hs2⟩
  clear hb2 hr2 hs2 A1 R1 O1 HN HB
  simp only [World.size_setCell]
  go_wp2
  refine bodyPost_ret (v := magg m (.slice (some ⟨w.heap.size + 1 + 1 + 1, 0, none⟩) m.certs.length m.certs.length) (.slice (some ⟨w1.heap.size, 0, none⟩) m.refs.length m.refs.length)) (by simp [results, Tryz.results44, go_sem, magg, *]) rfl ⟨_, _, rfl, ⟨_, _, rfl, Nat.le_refl _, by unfold maxLen; omega, fun _ => ⟨_, _, rfl, by omega, ?_, ?_⟩⟩, ⟨_, _, rfl, Nat.le_refl _, by unfold maxLen; omega, fun _ => ⟨_, _, rfl, by omega, ?_, ?_⟩⟩, ?_⟩
  · have h := HN2.out.1; iterate 8 (refine CtRoom.upd ?_ ((Upd.refl _ _).setAt _ _) (by omega))
    exact h
  · have h := HN2.out.2.1; iterate 8 (apply CtsAt.set_ne _ (by omega))
    exact h
  · have h := HN2.out.2.2.1; iterate 8 (refine iroom_upd ?_ ((Upd.refl _ _).setAt _ _) (by omega))
    exact h
  · have h := HN2.out.2.2.2; iterate 8 (apply NumsAt.set_ne _ (by omega))
    exact h
  · iterate 8 (refine Ext.setCell ?_ (by simp <;> omega) _)
    exact HB2.out

/-- The message m lies in block b from o on, its lists anywhere. -/
def MAt (w : World) (b o : Nat) (m : Ms) : Prop := ∃ v u, MCs w b o m v u ∧ MLs w v u m
theorem MAt.ext {w w' : World} {b o : Nat} {m : Ms} (h : MAt w b o m) (hb : b < w.heap.size) (he : Ext w w') : MAt w' b o m := by
  obtain ⟨v, u, h1, h2⟩ := h
  exact ⟨v, u, h1.ext hb he, h2.ext he⟩
def MsAt (w : World) (b off : Nat) (ms : List Ms) : Prop := ∀ (i : Nat) m, ms[i]? = some m → MAt w b (off + i * 7) m
theorem MsAt.ext {w w' : World} {b off : Nat} {ms : List Ms} (h : MsAt w b off ms) (hb : b < w.heap.size) (he : Ext w w') : MsAt w' b off ms := fun i m hm => (h i m hm).ext hb he
/-- The slice value v reads as the messages ms. -/
def MSlice (w : World) (v : Value) (ms : List Ms) : Prop :=
  ∃ a cap, v = .slice a ms.length cap ∧ ms.length ≤ cap ∧ cap ≤ maxLen ∧ (0 < ms.length → ∃ b off, a = some ⟨b, off, none⟩ ∧ b < w.heap.size ∧ MsAt w b off ms)
theorem MSlice.ext {w w' : World} {v : Value} {ms : List Ms} (h : MSlice w v ms) (he : Ext w w') : MSlice w' v ms := by
  obtain ⟨a, cap, h1, h2, h3, h4⟩ := h
  refine ⟨a, cap, h1, h2, h3, fun h0 => ?_⟩
  obtain ⟨b, off, e, hb, hN⟩ := h4 h0
  exact ⟨b, off, e, Nat.lt_of_lt_of_le hb he.size, hN.ext hb he⟩
def SmallM (m : Ms) : Prop := m.certs.length ≤ 1048576 ∧ m.refs.length ≤ 1048576

set_option maxHeartbeats 2000000 in
set_option maxRecDepth 100000 in
theorem szMsgS_le (v : Value) (zs : List Ms) (n : Int) (w : World) (h0 : 0 ≤ n) (h1 : n ≤ 1048576) (hS : MSlice w v zs) :
    Calls Tryz.prog 11 #[v, .int .i64 n] w fun e w' => ∃ r : Int, e = .returned (.int .i64 r) ∧ -1 ≤ r ∧ r ≤ 1048576 ∧ (0 ≤ r → zs.length ≤ 1048576 ∧ ∀ m ∈ zs, SmallM m) ∧ Ext w w' := by
  obtain ⟨a, cap, rfl, hlc, hcm, hx⟩ := hS
  have HX : Hid (0 < zs.length → ∃ b off, a = some ⟨b, off, none⟩ ∧ b < w.heap.size ∧ MsAt w b off zs) := hx
  clear hx
  unfold maxLen at hcm
  by_cases hn : n < zs.length
  · go_enter Tryz.func11, Tryz.ntmps11
    go_wp2
    go_ret
    exact ⟨_, rfl, by omega, by omega, fun h => by omega, Ext.refl _⟩
  · go_enter Tryz.func11, Tryz.ntmps11
    go_wp2
    go_loopw [1, 5] (fun lv i wr => ∃ (k : Nat) (m : Int), k ≤ zs.length ∧ i = .int .i64 k ∧ lv = .int .i64 m ∧ 0 ≤ m ∧ m ≤ 1048576 ∧ Hid (∀ (j : Nat) z, j < k → zs[j]? = some z → SmallM z) ∧ Hid (Ext w wr)) (fun _ i _ => zs.length - (intOf i).toNat)
    case atStart => exact ⟨0, _, Nat.zero_le _, rfl, rfl, by omega, by omega, fun j z h => by omega, Ext.refl _⟩
    case round =>
      obtain ⟨k, m, hk, rfl, rfl, hm0, hm1, HA, HE⟩ := hrel
      by_cases hlt : k < zs.length
      · obtain ⟨z, hzk⟩ : ∃ z, zs[k]? = some z := ⟨_, List.getElem?_eq_getElem hlt⟩
        obtain ⟨b, off, rfl, hb, hN⟩ := HX.out (by omega)
        obtain ⟨vz, uz, ⟨d0, d1, d2, d3, d4, d5, d6⟩, hLs⟩ := hN.ext hb HE.out k z hzk
        have HSz : Hid (Calls Tryz.prog 42 #[magg z vz uz, .int .i64 m] wr fun e w' => ∃ q : Int, e = .returned (.int .i64 q) ∧ -1 ≤ q ∧ q ≤ 1048576 ∧ (0 ≤ q → z.certs.length ≤ 1048576 ∧ z.refs.length ≤ 1048576) ∧ Ext wr w') := szMsg_le z vz uz m wr hm0 hm1 hLs
        obtain ⟨y0, y1, y2, y3, rfl, rfl, -, -, -, -⟩ := hLs.form
        have HZ : Hid (zs[k]? = some z) := hzk
        clear hzk hN hLs
        unfold magg at HSz
        go_wp2_with fail
        refine (HSz.out).mono ?_
        rintro e w2 ⟨q, rfl, hq0, hq1, hq2, hb2⟩
        have HQ : Hid (0 ≤ q → z.certs.length ≤ 1048576 ∧ z.refs.length ≤ 1048576) := hq2
        have HE2 : Hid (Ext w w2) := HE.out.trans hb2
        clear hb2 HSz hq2
        by_cases hneg : q < 0
        · go_wp2
          go_ret
          exact ⟨_, rfl, by omega, by omega, fun h => by omega, HE2.out⟩
        · have HA2 : Hid (∀ (j : Nat) z, j < k + 1 → zs[j]? = some z → SmallM z) := by
            intro j z' hj hz'
            by_cases hjk : j = k
            · subst hjk; rw [HZ.out] at hz'; cases hz'; exact HQ.out (by omega)
            · exact HA.out j z' (by omega) hz'
          go_wp2
          exact ⟨⟨k + 1, _, by omega, by go_num, rfl, by omega, by omega, HA2, HE2⟩, by simp [intOf]; omega⟩
      · go_wp2
        go_ret
        exact ⟨m, rfl, by omega, hm1, fun _ => ⟨by omega, fun z hz => by
          obtain ⟨j, hj⟩ := List.getElem?_of_mem hz
          exact HA.out j z (by have := (List.getElem?_eq_some_iff.1 hj).1; omega) hj⟩, HE.out⟩

set_option maxHeartbeats 2000000 in
set_option maxRecDepth 100000 in
theorem eqMsgS_same (v v' : Value) (zs : List Ms) (w : World) (hS : MSlice w v zs) (hS' : MSlice w v' zs) :
    Calls Tryz.prog 16 #[v, v'] w fun e w' => e = .returned (.bool true) ∧ Ext w w' := by
  obtain ⟨a, cap, rfl, hlc, hcm, hx⟩ := hS
  obtain ⟨a', cap', rfl, hlc', hcm', hx'⟩ := hS'
  have HX : Hid (0 < zs.length → ∃ b off, a = some ⟨b, off, none⟩ ∧ b < w.heap.size ∧ MsAt w b off zs) := hx
  have HX' : Hid (0 < zs.length → ∃ b off, a' = some ⟨b, off, none⟩ ∧ b < w.heap.size ∧ MsAt w b off zs) := hx'
  clear hx hx'
  unfold maxLen at hcm
  go_enter Tryz.func16, Tryz.ntmps16
  go_wp2
  go_loopw [5] (fun i wr => ∃ (k : Nat), k ≤ zs.length ∧ i = .int .i64 k ∧ Hid (Ext w wr)) (fun i _ => zs.length - (intOf i).toNat)
  case atStart => exact ⟨0, Nat.zero_le _, rfl, Ext.refl _⟩
  case round =>
    obtain ⟨k, hk, rfl, HE⟩ := hrel
    by_cases hlt : k < zs.length
    · obtain ⟨z, hzk⟩ : ∃ z, zs[k]? = some z := ⟨_, List.getElem?_eq_getElem hlt⟩
      obtain ⟨b, off, rfl, hb, hN⟩ := HX.out (by omega)
      obtain ⟨b', off', rfl, hb', hN'⟩ := HX'.out (by omega)
      obtain ⟨vz, uz, ⟨d0, d1, d2, d3, d4, d5, d6⟩, hLs⟩ := hN.ext hb HE.out k z hzk
      obtain ⟨vy, uy, ⟨e0, e1, e2, e3, e4, e5, e6⟩, hLs'⟩ := hN'.ext hb' HE.out k z hzk
      have HQ : Hid (∀ wx : World, Ext wr wx → Calls Tryz.prog 47 #[magg z vz uz, magg z vy uy] wx fun e w' => e = .returned (.bool true) ∧ Ext wx w') := fun wx he => eqMsg_same z vz vy uz uy wx (hLs.ext he) (hLs'.ext he)
      obtain ⟨y0, y1, y2, y3, rfl, rfl, -, -, -, -⟩ := hLs.form
      obtain ⟨x0, x1, x2, x3, rfl, rfl, -, -, -, -⟩ := hLs'.form
      clear hzk hN hN' hLs hLs'
      unfold magg at HQ
      go_wp2
      go_region_held3 (fun W => W.cell? ⟨b, off + k * 7, none⟩ = some (.int .i64 z.kind) ∧ W.cell? ⟨b, off + k * 7 + 1, none⟩ = some (.int .i64 z.view) ∧ W.cell? ⟨b, off + k * 7 + 2, none⟩ = some (.int .i64 z.from_) ∧ W.cell? ⟨b, off + k * 7 + 3, none⟩ = some (.int .i64 z.slot) ∧ W.cell? ⟨b, off + k * 7 + 4, none⟩ = some (.int .i64 z.value) ∧ W.cell? ⟨b, off + k * 7 + 5, none⟩ = some (.slice y0 z.certs.length y1) ∧ W.cell? ⟨b, off + k * 7 + 6, none⟩ = some (.slice y2 z.refs.length y3) ∧ W.cell? ⟨b', off' + k * 7, none⟩ = some (.int .i64 z.kind) ∧ W.cell? ⟨b', off' + k * 7 + 1, none⟩ = some (.int .i64 z.view) ∧ W.cell? ⟨b', off' + k * 7 + 2, none⟩ = some (.int .i64 z.from_) ∧ W.cell? ⟨b', off' + k * 7 + 3, none⟩ = some (.int .i64 z.slot) ∧ W.cell? ⟨b', off' + k * 7 + 4, none⟩ = some (.int .i64 z.value) ∧ W.cell? ⟨b', off' + k * 7 + 5, none⟩ = some (.slice x0 z.certs.length x1) ∧ W.cell? ⟨b', off' + k * 7 + 6, none⟩ = some (.slice x2 z.refs.length x3)) (first | exact ⟨d0, d1, d2, d3, d4, d5, d6, e0, e1, e2, e3, e4, e5, e6⟩ | exact ⟨t0, t1, t2, t3, t4, t5, t6, s0, s1, s2, s3, s4, s5, s6⟩ | go_keep) (first | (go_at_call 47; refine (HQ.out _ (by first | exact (Ext.refl _).drew | exact Ext.refl _)).mono ?_; rintro e w2 ⟨rfl, hb2⟩; have HE2 : Hid (Ext wr w2) := (by first | exact ((Ext.refl _).drew).trans hb2 | exact hb2); have hbx := World.block_lt_of_cell? wr _ d0; have hby := World.block_lt_of_cell? wr _ e0; have t0 := ((Ext.cell HE2.out).1 _ _ hbx).trans d0; have t1 := ((Ext.cell HE2.out).1 _ _ hbx).trans d1; have t2 := ((Ext.cell HE2.out).1 _ _ hbx).trans d2; have t3 := ((Ext.cell HE2.out).1 _ _ hbx).trans d3; have t4 := ((Ext.cell HE2.out).1 _ _ hbx).trans d4; have t5 := ((Ext.cell HE2.out).1 _ _ hbx).trans d5; have t6 := ((Ext.cell HE2.out).1 _ _ hbx).trans d6; have s0 := ((Ext.cell HE2.out).1 _ _ hby).trans e0; have s1 := ((Ext.cell HE2.out).1 _ _ hby).trans e1; have s2 := ((Ext.cell HE2.out).1 _ _ hby).trans e2; have s3 := ((Ext.cell HE2.out).1 _ _ hby).trans e3; have s4 := ((Ext.cell HE2.out).1 _ _ hby).trans e4; have s5 := ((Ext.cell HE2.out).1 _ _ hby).trans e5; have s6 := ((Ext.cell HE2.out).1 _ _ hby).trans e6; clear hbx hby hb2))
      all_goals
        go_wp2
        exact ⟨⟨k + 1, by omega, by go_num, HE.out.trans HE2.out⟩, by simp [intOf]; omega⟩
    · go_wp2
      go_ret
      exact ⟨rfl, HE.out⟩

/-! ### Messages that are stored -/
def MRoom (w : World) (g off n : Nat) : Prop := g < w.heap.size ∧ ∀ j, j < n * 7 → (∃ u, w.cell? ⟨g, off + j, none⟩ = some u) ∧ w.frozen? ⟨g, off + j, none⟩ = false
def putM (w : World) (g o : Nat) (m : Ms) (v u : Value) : World := (((((((w.setCell ⟨g, o, none⟩ (.int .i64 m.kind)).setCell ⟨g, o + 1, none⟩ (.int .i64 m.view)).setCell ⟨g, o + 2, none⟩ (.int .i64 m.from_)).setCell ⟨g, o + 3, none⟩ (.int .i64 m.slot)).setCell ⟨g, o + 4, none⟩ (.int .i64 m.value)).setCell ⟨g, o + 5, none⟩ v).setCell ⟨g, o + 6, none⟩ u)
theorem putM_ne (w : World) (g o b k : Nat) (m : Ms) (v u : Value) (h : g ≠ b ∨ k < o ∨ o + 7 ≤ k) : (putM w g o m v u).cell? ⟨b, k, none⟩ = w.cell? ⟨b, k, none⟩ := by
  unfold putM
  rw [iset_ne _ _ _ _ _ _ (by omega), iset_ne _ _ _ _ _ _ (by omega), iset_ne _ _ _ _ _ _ (by omega), iset_ne _ _ _ _ _ _ (by omega), iset_ne _ _ _ _ _ _ (by omega), iset_ne _ _ _ _ _ _ (by omega), iset_ne _ _ _ _ _ _ (by omega)]
theorem putM_eq (w : World) (g o : Nat) (m : Ms) (v u : Value) (h : ∀ j, j < 7 → ∃ u, w.cell? ⟨g, o + j, none⟩ = some u) : MCs (putM w g o m v u) g o m v u := by
  unfold putM
  refine ⟨?_, ?_, ?_, ?_, ?_, ?_, ?_⟩
  · rw [iset_ne _ _ _ _ _ _ (by omega), iset_ne _ _ _ _ _ _ (by omega), iset_ne _ _ _ _ _ _ (by omega), iset_ne _ _ _ _ _ _ (by omega), iset_ne _ _ _ _ _ _ (by omega), iset_ne _ _ _ _ _ _ (by omega)]; apply iset_eq; exact h 0 (by omega)
  · rw [iset_ne _ _ _ _ _ _ (by omega), iset_ne _ _ _ _ _ _ (by omega), iset_ne _ _ _ _ _ _ (by omega), iset_ne _ _ _ _ _ _ (by omega), iset_ne _ _ _ _ _ _ (by omega)]; apply iset_eq; rw [iset_ne _ _ _ _ _ _ (by omega)]; exact h 1 (by omega)
  · rw [iset_ne _ _ _ _ _ _ (by omega), iset_ne _ _ _ _ _ _ (by omega), iset_ne _ _ _ _ _ _ (by omega), iset_ne _ _ _ _ _ _ (by omega)]; apply iset_eq; rw [iset_ne _ _ _ _ _ _ (by omega), iset_ne _ _ _ _ _ _ (by omega)]; exact h 2 (by omega)
  · rw [iset_ne _ _ _ _ _ _ (by omega), iset_ne _ _ _ _ _ _ (by omega), iset_ne _ _ _ _ _ _ (by omega)]; apply iset_eq; rw [iset_ne _ _ _ _ _ _ (by omega), iset_ne _ _ _ _ _ _ (by omega), iset_ne _ _ _ _ _ _ (by omega)]; exact h 3 (by omega)
  · rw [iset_ne _ _ _ _ _ _ (by omega), iset_ne _ _ _ _ _ _ (by omega)]; apply iset_eq; rw [iset_ne _ _ _ _ _ _ (by omega), iset_ne _ _ _ _ _ _ (by omega), iset_ne _ _ _ _ _ _ (by omega), iset_ne _ _ _ _ _ _ (by omega)]; exact h 4 (by omega)
  · rw [iset_ne _ _ _ _ _ _ (by omega)]; apply iset_eq; rw [iset_ne _ _ _ _ _ _ (by omega), iset_ne _ _ _ _ _ _ (by omega), iset_ne _ _ _ _ _ _ (by omega), iset_ne _ _ _ _ _ _ (by omega), iset_ne _ _ _ _ _ _ (by omega)]; exact h 5 (by omega)
  · apply iset_eq; rw [iset_ne _ _ _ _ _ _ (by omega), iset_ne _ _ _ _ _ _ (by omega), iset_ne _ _ _ _ _ _ (by omega), iset_ne _ _ _ _ _ _ (by omega), iset_ne _ _ _ _ _ _ (by omega), iset_ne _ _ _ _ _ _ (by omega)]; exact h 6 (by omega)
theorem putM_size (w : World) (g o : Nat) (m : Ms) (v u : Value) : (putM w g o m v u).heap.size = w.heap.size := by simp [putM]
theorem putM_frozen (w : World) (g o : Nat) (m : Ms) (v u : Value) (a : Addr) : (putM w g o m v u).frozen? a = w.frozen? a := by simp [putM]
theorem putM_upd (w : World) (g o : Nat) (m : Ms) (v u : Value) : Upd g w (putM w g o m v u) := (((((((Upd.refl _ _).setAt _ _).setAt _ _).setAt _ _).setAt _ _).setAt _ _).setAt _ _).setAt _ _
theorem MRoom.put {w : World} {g off n k : Nat} (h : MRoom w g off n) (m : Ms) (v u : Value) (hk : k < n) : MRoom (putM w g (off + k * 7) m v u) g off n := by
  refine ⟨by rw [putM_size]; exact h.1, fun j hj => ⟨?_, by rw [putM_frozen]; exact (h.2 j hj).2⟩⟩
  obtain ⟨q0, q1, q2, q3, q4, q5, q6⟩ := putM_eq w g (off + k * 7) m v u (fun i hi => by rw [Nat.add_assoc]; exact (h.2 (k * 7 + i) (by omega)).1)
  by_cases hh : off + j < off + k * 7 ∨ off + k * 7 + 7 ≤ off + j
  · rw [putM_ne _ _ _ _ _ _ _ _ (Or.inr hh)]; exact (h.2 j hj).1
  · have hj5 : j = k * 7 ∨ j = k * 7 + 1 ∨ j = k * 7 + 2 ∨ j = k * 7 + 3 ∨ j = k * 7 + 4 ∨ j = k * 7 + 5 ∨ j = k * 7 + 6 := by omega
    rcases hj5 with e | e | e | e | e | e | e <;> subst e
    · exact ⟨_, q0⟩
    · exact ⟨_, q1⟩
    · exact ⟨_, q2⟩
    · exact ⟨_, q3⟩
    · exact ⟨_, q4⟩
    · exact ⟨_, q5⟩
    · exact ⟨_, q6⟩
theorem MRoom.ext {w w' : World} {g off n : Nat} (h : MRoom w g off n) (he : Ext w w') : MRoom w' g off n := by
  obtain ⟨hc, hf⟩ := Ext.cell he
  exact ⟨Nat.lt_of_lt_of_le h.1 he.size, fun j hj => ⟨by rw [hc _ _ h.1]; exact (h.2 j hj).1, by rw [hf _ _ h.1]; exact (h.2 j hj).2⟩⟩
/-- The messages lie in block g from off on, their lists in memory that came behind it. -/
def MsNew (w : World) (g off : Nat) (ms : List Ms) : Prop := ∀ (i : Nat) m, ms[i]? = some m → ∃ v u, MCs w g (off + i * 7) m v u ∧ CtNew (g + 1) w v m.certs ∧ INew (g + 1) w u m.refs
theorem MsNew.ext {w w' : World} {g off : Nat} {ms : List Ms} (h : MsNew w g off ms) (hg : g < w.heap.size) (he : Ext w w') : MsNew w' g off ms := fun i m hm => by
  obtain ⟨v, u, h1, h2, h3⟩ := h i m hm
  exact ⟨v, u, h1.ext hg he, h2.ext he, h3.ext he⟩
theorem MsNew.at {w : World} {g off : Nat} {ms : List Ms} (h : MsNew w g off ms) : MsAt w g off ms := fun i m hm => by
  obtain ⟨v, u, h1, h2, h3⟩ := h i m hm
  exact ⟨v, u, h1, h2.slice, h3.slice⟩
theorem MsNew.put {w : World} {g off n k : Nat} {ms : List Ms} {m : Ms} {v u : Value} (hr : MRoom w g off n) (hk : k < n) (hm : ms[k]? = some m) (hv : CtNew (g + 1) w v m.certs) (hu : INew (g + 1) w u m.refs) (h : MsNew w g off (ms.take k)) : MsNew (putM w g (off + k * 7) m v u) g off (ms.take (k + 1)) := by
  intro i z hi
  rw [List.getElem?_take] at hi
  split at hi
  · by_cases hik : i = k
    · subst hik
      rw [hm] at hi
      cases hi
      exact ⟨v, u, putM_eq w g (off + i * 7) m v u (fun j hj => by rw [Nat.add_assoc]; exact (hr.2 (i * 7 + j) (by omega)).1), hv.upd (putM_upd _ _ _ _ _ _) (by omega), hu.upd (putM_upd _ _ _ _ _ _) (by omega)⟩
    · obtain ⟨x, y, ⟨c0, c1, c2, c3, c4, c5, c6⟩, h2, h3⟩ := h i z (by rw [List.getElem?_take, if_pos (by omega)]; exact hi)
      exact ⟨x, y, ⟨by rw [putM_ne _ _ _ _ _ _ _ _ (by omega)]; exact c0, by rw [putM_ne _ _ _ _ _ _ _ _ (by omega)]; exact c1, by rw [putM_ne _ _ _ _ _ _ _ _ (by omega)]; exact c2, by rw [putM_ne _ _ _ _ _ _ _ _ (by omega)]; exact c3, by rw [putM_ne _ _ _ _ _ _ _ _ (by omega)]; exact c4, by rw [putM_ne _ _ _ _ _ _ _ _ (by omega)]; exact c5, by rw [putM_ne _ _ _ _ _ _ _ _ (by omega)]; exact c6⟩, h2.upd (putM_upd _ _ _ _ _ _) (by omega), h3.upd (putM_upd _ _ _ _ _ _) (by omega)⟩
  · cases hi
theorem ext_putM {w w' : World} (h : Ext w w') (g o : Nat) (hg : w.heap.size ≤ g) (m : Ms) (v u : Value) : Ext w (putM w' g o m v u) :=
  (((((((h.setCell (p := ⟨g, o, none⟩) hg _).setCell (p := ⟨g, o + 1, none⟩) hg _).setCell (p := ⟨g, o + 2, none⟩) hg _).setCell (p := ⟨g, o + 3, none⟩) hg _).setCell (p := ⟨g, o + 4, none⟩) hg _).setCell (p := ⟨g, o + 5, none⟩) hg _).setCell (p := ⟨g, o + 6, none⟩) hg _)

set_option maxHeartbeats 4000000 in
set_option maxRecDepth 100000 in
theorem toMsgS_at (v : Value) (zs : List Ms) (w : World) (hS : MSlice w v zs) (hl : zs.length ≤ 1048576) (hsm : ∀ m ∈ zs, SmallM m) :
    Calls Tryz.prog 13 #[v] w fun e w' => e = .returned (.slice (some ⟨w.heap.size, 0, none⟩) zs.length zs.length) ∧ MRoom w' w.heap.size 0 zs.length ∧ MsNew w' w.heap.size 0 zs ∧ Ext w w' := by
  obtain ⟨a, cap, rfl, hlc, hcm, hx⟩ := hS
  have HX : Hid (0 < zs.length → ∃ b off, a = some ⟨b, off, none⟩ ∧ b < w.heap.size ∧ MsAt w b off zs) := hx
  have HSm : Hid (∀ m ∈ zs, SmallM m) := hsm
  clear hx hsm
  unfold maxLen at hcm
  have hi9 : (Tryz.prog.info? 40).map (fun i => (i.zero, i.size, i.bytes)) = some (some (.agg #[.int .i64 0, .int .i64 0, .int .i64 0, .int .i64 0, .int .i64 0, .slice none 0 0, .slice none 0 0]), 7, 88) := by kernel_rfl
  obtain ⟨i0, hi, hxx⟩ := Option.map_eq_some_iff.1 hi9
  simp only [Prod.mk.injEq] at hxx
  obtain ⟨hz0, hz1, hz2⟩ := hxx
  clear hi9
  obtain ⟨M, hM⟩ : ∃ M, M = madeCells (Value.agg #[.int .i64 0, .int .i64 0, .int .i64 0, .int .i64 0, .int .i64 0, .slice none 0 0, .slice none 0 0]).cells (((zs.length : Nat) : Int).toNat * i0.size) := ⟨_, rfl⟩
  have hMs : M.size = zs.length * 7 := by rw [hM, size_madeCells, hz1]; simp
  have hmk : ∀ W : World, (Instr.makeSlice 27 (.int .i64 (zs.length : Int)) (.int .i64 (zs.length : Int))).run Tryz.prog W = .ok (.slice (some ⟨W.heap.size, 0, none⟩) zs.length zs.length) (W.alloc (.cells M 40)) := fun W => by
    have h := run_make (P := Tryz.prog) W 27 40 i0 _ Tryz.underlying27 hi hz0 .i64 .i64 (zs.length : Int) (zs.length : Int) (by omega) (by omega) (by rw [hz2]; omega) (by omega)
    rw [← hM] at h
    simpa using h
  have HR : Hid (MRoom (w.alloc (.cells M 40)) w.heap.size 0 zs.length) := by
    refine ⟨by simp, fun j hj => ⟨⟨M[j]'(by omega), ?_⟩, by simp⟩⟩
    rw [Nat.zero_add, World.cell?_alloc_at _ _ _ _ rfl]
    simp [hMs, hj]
  clear hM hMs hi hz0 hz1 hz2
  go_enter Tryz.func13, Tryz.ntmps13
  go_wp2
  go_loopw [4] (fun i wr => ∃ (k : Nat), k ≤ zs.length ∧ i = .int .i64 k ∧ Hid (MRoom wr w.heap.size 0 zs.length) ∧ Hid (MsNew wr w.heap.size 0 (zs.take k)) ∧ Hid (Ext w wr)) (fun i _ => zs.length - (intOf i).toNat)
  case atStart => exact ⟨0, Nat.zero_le _, rfl, HR, fun i z h => by simp at h, (Ext.refl _).alloc _⟩
  case round =>
    obtain ⟨k, hk, rfl, HR1, HN1, HE⟩ := hrel
    by_cases hlt : k < zs.length
    · obtain ⟨z, hzk⟩ : ∃ z, zs[k]? = some z := ⟨_, List.getElem?_eq_getElem hlt⟩
      obtain ⟨b, off, rfl, hb, hN⟩ := HX.out (by omega)
      obtain ⟨vz, uz, ⟨d0, d1, d2, d3, d4, d5, d6⟩, hLs⟩ := hN.ext hb HE.out k z hzk
      have HZ : Hid (zs[k]? = some z) := hzk
      have HTo : Hid (Calls Tryz.prog 44 #[magg z vz uz] wr fun e w' => ∃ x y, e = .returned (magg z (.slice x z.certs.length z.certs.length) (.slice y z.refs.length z.refs.length)) ∧ CtNew wr.heap.size w' (.slice x z.certs.length z.certs.length) z.certs ∧ INew wr.heap.size w' (.slice y z.refs.length z.refs.length) z.refs ∧ Ext wr w') := toMsg_new z vz uz wr hLs (HSm.out z (List.mem_of_getElem? hzk)).1 (HSm.out z (List.mem_of_getElem? hzk)).2
      obtain ⟨y0, y1, y2, y3, rfl, rfl, -, -, -, -⟩ := hLs.form
      clear hzk hN hLs
      unfold magg at HTo
      go_wp2_with fail
      refine (HTo.out).mono ?_
      rintro e w2 ⟨a5, a6, rfl, hC, hI, hb2⟩
      have hgw : w.heap.size < wr.heap.size := HR1.out.1
      have HC : Hid (CtNew (w.heap.size + 1) w2 (.slice a5 z.certs.length z.certs.length) z.certs ∧ INew (w.heap.size + 1) w2 (.slice a6 z.refs.length z.refs.length) z.refs) := ⟨hC.mono (by omega), hI.mono (by omega)⟩
      clear hC hI HTo d0 d1 d2 d3 d4 d5 d6
      have HR2 : Hid (MRoom w2 w.heap.size 0 zs.length) := HR1.out.ext hb2
      have HN2 : Hid (MsNew w2 w.heap.size 0 (zs.take k)) := HN1.out.ext HR1.out.1 hb2
      have HE2 : Hid (Ext w w2) := HE.out.trans hb2
      clear hb2
      obtain ⟨⟨u0, r0⟩, f0⟩ := HR2.out.2 (k * 7) (by omega)
      obtain ⟨⟨u1, r1⟩, f1⟩ := HR2.out.2 (k * 7 + 1) (by omega)
      obtain ⟨⟨u2, r2⟩, f2⟩ := HR2.out.2 (k * 7 + 2) (by omega)
      obtain ⟨⟨u3, r3⟩, f3⟩ := HR2.out.2 (k * 7 + 3) (by omega)
      obtain ⟨⟨u4, r4⟩, f4⟩ := HR2.out.2 (k * 7 + 4) (by omega)
      obtain ⟨⟨u5, r5⟩, f5⟩ := HR2.out.2 (k * 7 + 5) (by omega)
      obtain ⟨⟨u6, r6⟩, f6⟩ := HR2.out.2 (k * 7 + 6) (by omega)
      rw [Nat.zero_add] at r0 r1 r2 r3 r4 r5 r6 f0 f1 f2 f3 f4 f5 f6
      have p1 := HR2.out.put z (.slice a5 z.certs.length z.certs.length) (.slice a6 z.refs.length z.refs.length) hlt
      have p2 := MsNew.put HR2.out hlt HZ.out HC.out.1 HC.out.2 HN2.out
      have p3 := ext_putM HE2.out w.heap.size (0 + k * 7) (Nat.le_refl _) z (.slice a5 z.certs.length z.certs.length) (.slice a6 z.refs.length z.refs.length)
      rw [Nat.zero_add] at p1 p2 p3
      have P1 : Hid _ := p1
      have P2 : Hid _ := p2
      have P3 : Hid _ := p3
      clear p1 p2 p3
      go_wp2
      exact ⟨⟨k + 1, by omega, by go_num, P1.out, P2.out, P3.out⟩, by simp [intOf]; omega⟩
    · have hke : k = zs.length := by omega
      subst hke
      go_wp2
      go_ret
      exact ⟨rfl, HR1.out, by have := HN1.out; rw [List.take_length] at this; exact this, HE.out⟩
theorem MSlice.of {w : World} {g off cap : Nat} {ms : List Ms} (hg : g < w.heap.size) (h : MsAt w g off ms) (h1 : ms.length ≤ cap) (h2 : cap ≤ maxLen) : MSlice w (.slice (some ⟨g, off, none⟩) ms.length cap) ms :=
  ⟨_, _, rfl, h1, h2, fun _ => ⟨g, off, rfl, hg, h⟩⟩
end Go.Proofs.YtecgjdgfjgcmdaaGreat
