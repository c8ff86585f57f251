/- laws.FnExactPickOf answers true at every argument. -/
import Derived.Test.YtflojfkalnojbaaQV7
import Derived.Test.YtflojfkalnojbaaQV7s
namespace Go.Proofs.Ytflojfkalnojbaa
open Go.RowKit
set_option maxHeartbeats 8000000 in
set_option maxRecDepth 100000 in
theorem lawPickOf (f : Int) (v : Value) (ms : List Ms) (u : Value) (ps : List Int) (w : World) (hm : MSlice w v ms) (hps : ISlice w u ps) :
    Calls Try.prog 11 #[.int .i64 f, v, u] w fun e w' => e = .returned (.bool true) ∧ Ext w w' := by
  have HM : Hid (MSlice w v ms) := hm
  have HTi0 : Hid (ps.length ≤ 1048576 → ∀ wx : World, Ext w wx → Calls Try.prog 52 #[u] wx fun e w' => ∃ g, e = .returned (.slice (some ⟨g, 0, none⟩) ps.length ps.length) ∧ g = wx.heap.size ∧ Led.IOwn w' (.slice (some ⟨g, 0, none⟩) ps.length ps.length) g ps ∧ Ext wx w') := fun hl wx he => (toInt64S_at u ps wx (hps.ext he) hl).mono fun e w' h => ⟨_, h.1, rfl, ⟨_, _, rfl, Nat.le_refl _, by unfold maxLen; omega, fun _ => ⟨0, rfl, h.2.1, h.2.2.1⟩⟩, h.2.2.2⟩
  have HMj0 : Hid (ps.length ≤ 1048576 → ∀ (gi k : Nat) (wx : World), Led.IOwn wx (.slice (some ⟨gi, 0, none⟩) ps.length ps.length) gi ps → k ≤ 100000000000000 → Calls Try.prog 54 #[.slice (some ⟨gi, 0, none⟩) ps.length ps.length, .int .i64 (k : Int)] wx fun e w' => ∃ kk : Nat, e = .returned (.int .i64 (kk : Int)) ∧ Led.UpdR gi (gi + 1) wx w' ∧ (¬ 0 < ps.length → w' = wx)) := fun hl gi k wx h hk => by
    by_cases h0 : 0 < ps.length
    · obtain ⟨a9, c9, e9, -, -, h9⟩ := h
      injection e9 with q1 q2 q3
      obtain ⟨off, e8, hr, -⟩ := h9 h0
      rw [← q1] at e8
      refine (Led.markInt64S_room gi (gi + 1) _ ps.length k wx ⟨_, _, rfl, Nat.le_refl _, by unfold maxLen; omega, fun _ => ⟨gi, off, e8, Nat.le_refl _, Nat.lt_succ_self _, hr⟩⟩ hk hl).mono fun e w' h => ⟨_, h.1, h.2.1, fun hn => absurd h0 hn⟩
    · have hn0 : ps.length = 0 := by omega
      rw [hn0]
      go_enter Try.func54, Try.ntmps54
      go_wp2
      go_loopw [1, 5] (fun kv i wr => kv = .int .i64 (k : Int) ∧ i = .int .i64 0 ∧ Hid (wr = wx)) (fun _ _ _ => 0)
      case atStart => exact ⟨rfl, rfl, rfl⟩
      case round =>
        obtain ⟨rfl, rfl, HW⟩ := hrel
        obtain rfl : wr = wx := HW.out
        go_wp2
        go_ret
        refine ⟨⟨k, ?_⟩, Led.UpdR.refl _ _ _, rfl⟩
        rfl
  have HEi : Hid (∀ (x y : Value) (wx : World), ISlice wx x ps → ISlice wx y ps → Calls Try.prog 53 #[x, y] wx fun e w' => e = .returned (.bool true) ∧ Ext wx w') := fun x y wx h1 h2 => eqInt64S_same x y ps wx h1 h2
  have HSz : Hid (∀ wx : World, Ext w wx → Calls Try.prog 33 #[v, .int .i64 1048576] wx fun e w' => ∃ r : Int, e = .returned (.int .i64 r) ∧ -1 ≤ r ∧ r ≤ 1048576 ∧ (0 ≤ r → ms.length ≤ 1048576 ∧ ∀ m ∈ ms, SmallM m) ∧ Ext wx w') := fun wx he => szMsgS_le v ms 1048576 wx (by omega) (by omega) (HM.out.ext he)
  have HT : Hid (ms.length ≤ 1048576 ∧ (∀ m ∈ ms, SmallM m) → ∀ wx : World, Ext w wx → Calls Try.prog 36 #[v] wx fun e w' => ∃ g, e = .returned (.slice (some ⟨g, 0, none⟩) ms.length ms.length) ∧ g = wx.heap.size ∧ MSlice w' (.slice (some ⟨g, 0, none⟩) ms.length ms.length) ms ∧ Led.LRoom w'.heap.size w' g ms ∧ Ext wx w') := fun hs wx he => (toMsgS_at v ms wx (HM.out.ext he) hs.1 hs.2).mono fun e w' h => ⟨_, h.1, rfl, MSlice.of h.2.1.1 h.2.2.1.at (Nat.le_refl _) (by have := hs.1; unfold maxLen; omega), Led.LRoom.of h.2.1 h.2.2.1, h.2.2.2⟩
  have HMk0 : Hid (ms.length ≤ 1048576 ∧ (∀ m ∈ ms, SmallM m) → ∀ (gx hi : Nat) (wx : World), Led.LRoom hi wx gx ms → gx < hi → Calls Try.prog 42 #[.slice (some ⟨gx, 0, none⟩) ms.length ms.length, .int .i64 1] wx fun e w' => ∃ k : Nat, e = .returned (.int .i64 (k : Int)) ∧ k ≤ 100000000000000 ∧ Led.UpdR gx hi wx w') := fun hs gx hi wx hl hg => Led.markMsgS_room hi gx ms wx hl hg hs.1 hs.2
  have hrs := Msg.pickV_len f ms ps
  obtain ⟨c, hc⟩ : ∃ c, c = (Msg.pickV f ms ps).1 := ⟨_, rfl⟩
  obtain ⟨rs, hr⟩ : ∃ rs, rs = (Msg.pickV f ms ps).2 := ⟨_, rfl⟩
  have HSp : Hid (∀ (yv uv : Value) (wx : World), MSlice wx yv ms → ISlice wx uv ps → Calls Try.prog 26 #[.int .i64 f, yv, uv] wx (Led.JRet wx c rs)) := by rw [hc, hr]; exact fun y uv wx h h2 => specPickOf_any f uv ps y ms wx h h2
  have HIm : Hid (∀ (yv uv : Value) (wx : World), MSlice wx yv ms → ISlice wx uv ps → Calls Try.prog 25 #[.int .i64 f, yv, uv] wx (Led.JRet wx c rs)) := by rw [hc, hr]; exact fun y uv wx h h2 => implPickOf_any f uv ps y ms wx h h2
  rw [← hr] at hrs
  clear hc hr
  have HEq : Hid (∀ (x y : Value) (wx : World), ISlice wx x rs → ISlice wx y rs → Calls Try.prog 49 #[Led.jr c x, Led.jr c y] wx fun e w' => e = .returned (.bool true) ∧ Ext wx w') := fun x y wx h1 h2 => Led.eqIntsResult_same c x y rs wx h1 h2
  have HEm : Hid (∀ (x y : Value) (wx : World), MSlice wx x ms → MSlice wx y ms → Calls Try.prog 40 #[x, y] wx fun e w' => e = .returned (.bool true) ∧ Ext wx w') := fun x y wx h1 h2 => eqMsgS_same x y ms wx h1 h2
  have HMi : Hid (∀ (x : Value) (g : Nat) (wx : World), Led.IOwn wx x g rs → g ≤ wx.heap.size → Calls Try.prog 50 #[Led.jr c x, .int .i64 ((1 : Nat) : Int)] wx fun e w' => e = .returned (.int .i64 (1 + rs.length : Nat)) ∧ Led.IOwn w' x g (Led.imarks 1 rs.length) ∧ Upd g wx w') := fun x g wx h1 h2 => Led.markIntsResult_any c x g rs 1 wx h1 h2 (by omega) hrs
  have HHe : Hid (∀ (x : Value) (wx : World), ISlice wx x (Led.imarks 1 rs.length) → Calls Try.prog 51 #[Led.jr c x, .int .i64 ((1 : Nat) : Int)] wx fun e w' => e = .returned (.int .i64 (1 + rs.length : Nat)) ∧ Ext wx w') := fun x wx h1 => Led.heldIntsResult_any c x rs.length 1 wx h1 (by omega) hrs
  unfold Led.jr at HEq HMi HHe
  obtain ⟨a, cap, rfl, -, -, -⟩ := hm
  obtain ⟨ap, capp, rfl, hpc, hpm, -⟩ := hps
  unfold maxLen at hpm
  by_cases hpl : 1048576 < ps.length
  · clear HTi0 HMj0
    go_enter Try.func11, Try.ntmps11
    go_wp2
    go_ret
    exact ⟨rfl, Ext.refl _⟩
  have HTi : Hid (∀ wx : World, Ext w wx → Calls Try.prog 52 #[.slice ap ps.length capp] wx fun e w' => ∃ g, e = .returned (.slice (some ⟨g, 0, none⟩) ps.length ps.length) ∧ g = wx.heap.size ∧ Led.IOwn w' (.slice (some ⟨g, 0, none⟩) ps.length ps.length) g ps ∧ Ext wx w') := HTi0.out (by omega)
  have HMj : Hid (∀ (gi k : Nat) (wx : World), Led.IOwn wx (.slice (some ⟨gi, 0, none⟩) ps.length ps.length) gi ps → k ≤ 100000000000000 → Calls Try.prog 54 #[.slice (some ⟨gi, 0, none⟩) ps.length ps.length, .int .i64 (k : Int)] wx fun e w' => ∃ kk : Nat, e = .returned (.int .i64 (kk : Int)) ∧ Led.UpdR gi (gi + 1) wx w' ∧ (¬ 0 < ps.length → w' = wx)) := HMj0.out (by omega)
  clear HTi0 HMj0
  go_enter Try.func11, Try.ntmps11
  go_wp2_with fail
  refine (HSz.out _ (Ext.refl _)).mono ?_
  rintro e w1 ⟨r, rfl, hr0, hr1, hr2, hb⟩
  have E1 : Hid (Ext w w1) := hb
  have HR : Hid (0 ≤ r → ms.length ≤ 1048576 ∧ ∀ m ∈ ms, SmallM m) := hr2
  clear hb hr2
  by_cases hn : r < 0
  · go_wp2
    go_ret
    exact ⟨rfl, E1.out⟩
  · have HT2 : Hid (∀ wx : World, Ext w wx → Calls Try.prog 36 #[.slice a ms.length cap] wx fun e w' => ∃ g, e = .returned (.slice (some ⟨g, 0, none⟩) ms.length ms.length) ∧ g = wx.heap.size ∧ MSlice w' (.slice (some ⟨g, 0, none⟩) ms.length ms.length) ms ∧ Led.LRoom w'.heap.size w' g ms ∧ Ext wx w') := HT.out (HR.out (by omega))
    have HMk : Hid (∀ {gx hi : Nat} (wx : World), Led.LRoom hi wx gx ms → gx < hi → Calls Try.prog 42 #[.slice (some ⟨gx, 0, none⟩) ms.length ms.length, .int .i64 1] wx fun e w' => ∃ k : Nat, e = .returned (.int .i64 (k : Int)) ∧ k ≤ 100000000000000 ∧ Led.UpdR gx hi wx w') := fun {gx hi} wx => HMk0.out (HR.out (by omega)) gx hi wx
    have hmx : ms.length ≤ 1048576 := (HR.out (by omega)).1
    clear HT HR HMk0
    go_wp2_with fail
    refine (HT2.out _ (by exact E1.out)).mono ?_
    rintro e w2 ⟨g2, rfl, -, hM, -, hb⟩
    have M2 : Hid (MSlice w2 (.slice (some ⟨g2, 0, none⟩) ms.length ms.length) ms) := hM
    clear hM
    have E2 : Hid (Ext w w2) := E1.out.trans hb
    clear E1
    clear hb
    go_wp2_with fail
    refine (HTi.out _ (by exact E2.out)).mono ?_
    rintro e w21 ⟨gj, rfl, -, hI, hb⟩
    have J21 : Hid (Led.IOwn w21 (.slice (some ⟨gj, 0, none⟩) ps.length ps.length) gj ps) := hI
    clear hI
    have E21 : Hid (Ext w w21) := E2.out.trans hb
    have M21 : Hid (MSlice w21 (.slice (some ⟨g2, 0, none⟩) ms.length ms.length) ms) := M2.out.ext hb
    clear E2 M2
    clear hb
    go_wp2_with fail
    refine (HSp.out _ _ _ M21.out J21.out.slice).mono ?_
    rintro e w3 ⟨v3, g3, rfl, hg3, hO, hb⟩
    obtain ⟨a3, cap3, rfl, -⟩ := id hO
    have O3 : Hid (Led.IOwn w3 (.slice a3 rs.length cap3) g3 rs) := hO
    have L3 : Hid (0 < rs.length → g3 < w3.heap.size) := hO.lt
    clear hO hg3 M21 J21
    have E3 : Hid (Ext w w3) := E21.out.trans hb
    clear E21
    clear hb
    unfold Led.jr
    go_wp2_with fail
    refine (HT2.out _ (by exact E3.out.alloc _)).mono ?_
    rintro e w5 ⟨gx, rfl, hgx, hM, hL, hb⟩
    simp only [World.size_alloc] at hgx
    have B0 := (Led.jbox_new w3 c (.slice a3 rs.length cap3) _).ext hb
    have A5 : Hid (Led.JBoxAt w5 w3.heap.size c (.slice a3 rs.length cap3)) := B0
    clear B0
    have G5 : Hid (gx = w3.heap.size + 1 ∧ w.heap.size ≤ w3.heap.size ∧ gx < w5.heap.size) := ⟨hgx, E3.out.size, hL.1.1⟩
    have X5 : Hid (MSlice w5 (.slice (some ⟨gx, 0, none⟩) ms.length ms.length) ms) := hM
    have Y5 : Hid (Led.LRoom w5.heap.size w5 gx ms) := hL
    have hb := ((Ext.refl w3).alloc _).trans hb
    obtain ⟨hi, hhi⟩ : ∃ hi, hi = w5.heap.size := ⟨_, rfl⟩
    rw [← hhi] at Y5 G5
    have HHI : Hid (hi = w5.heap.size) := hhi
    clear hM hL hgx hhi
    have E5 : Hid (Ext w w5) := E3.out.trans hb
    have O5 : Hid (Led.IOwn w5 (.slice a3 rs.length cap3) g3 rs) := O3.out.ext hb
    clear E3 O3
    clear hb
    go_wp2_with fail
    refine (HTi.out _ (by exact E5.out)).mono ?_
    rintro e w51 ⟨gi, rfl, hgi, hI, hb⟩
    have I51 : Hid (Led.IOwn w51 (.slice (some ⟨gi, 0, none⟩) ps.length ps.length) gi ps) := hI
    have GI : Hid (gi = hi ∧ (0 < ps.length → hi < w51.heap.size)) := ⟨by rw [HHI.out]; exact hgi, fun h => by have := hI.lt h; rw [HHI.out]; omega⟩
    have hs51 : hi ≤ w51.heap.size := by rw [HHI.out]; exact hb.size
    have HS51 : Hid (hi ≤ w51.heap.size ∧ w3.heap.size < hi) := ⟨hs51, by rw [HHI.out]; exact A5.out.1⟩
    clear hI hgi hs51
    have E51 : Hid (Ext w w51) := E5.out.trans hb
    have O51 : Hid (Led.IOwn w51 (.slice a3 rs.length cap3) g3 rs) := O5.out.ext hb
    have A51 : Hid (Led.JBoxAt w51 w3.heap.size c (.slice a3 rs.length cap3)) := A5.out.ext hb
    have X51 : Hid (MSlice w51 (.slice (some ⟨gx, 0, none⟩) ms.length ms.length) ms) := X5.out.ext hb
    have Y51 : Hid (Led.LRoom hi w51 gx ms) := Y5.out.ext hb
    clear E5 O5 A5 X5 Y5
    clear hb
    go_wp2_with fail
    refine (HIm.out _ _ _ X51.out I51.out.slice).mono ?_
    rintro e w6 ⟨v6, g6, rfl, hg6, hO, hb⟩
    obtain ⟨a6, cap6, rfl, -⟩ := id hO
    have R6 : Hid (Led.IOwn w6 (.slice a6 rs.length cap6) g6 rs) := hO
    have N6 : Hid (0 < rs.length → g6 < w6.heap.size) := hO.lt
    have M5 : Hid (hi ≤ g6 ∧ hi ≤ w6.heap.size ∧ w3.heap.size < hi ∧ (0 < ps.length → hi < g6 ∧ hi < w6.heap.size)) := ⟨Nat.le_trans HS51.out.1 hg6, Nat.le_trans HS51.out.1 hb.size, HS51.out.2, fun h => ⟨Nat.lt_of_lt_of_le (GI.out.2 h) hg6, Nat.lt_of_lt_of_le (GI.out.2 h) hb.size⟩⟩
    clear hO hg6
    have E6 : Hid (Ext w w6) := E51.out.trans hb
    have O6 : Hid (Led.IOwn w6 (.slice a3 rs.length cap3) g3 rs) := O51.out.ext hb
    have A6 : Hid (Led.JBoxAt w6 w3.heap.size c (.slice a3 rs.length cap3)) := A51.out.ext hb
    have X6 : Hid (MSlice w6 (.slice (some ⟨gx, 0, none⟩) ms.length ms.length) ms) := X51.out.ext hb
    have Y6 : Hid (Led.LRoom hi w6 gx ms) := Y51.out.ext hb
    have I6 : Hid (Led.IOwn w6 (.slice (some ⟨gi, 0, none⟩) ps.length ps.length) gi ps) := I51.out.ext hb
    clear E51 O51 A51 X51 Y51 I51
    clear hb
    unfold Led.jr
    obtain ⟨c0, c1⟩ := A6.out.2
    have hlt := A6.out.1
    go_wp2_with fail
    refine (HEq.out _ _ _ (by exact R6.out.slice.ext ((Ext.refl _).alloc _)) (by exact O6.out.slice.ext ((Ext.refl _).alloc _))).mono ?_
    rintro e w7 ⟨rfl, hb⟩
    clear c0 c1 hlt
    have B7 : Hid (Led.JBoxAt w7 w6.heap.size c (.slice a6 rs.length cap6)) := (Led.jbox_new w6 c _ _).ext hb
    have hb := ((Ext.refl w6).alloc _).trans hb
    have E7 : Hid (Ext w w7) := E6.out.trans hb
    have O7 : Hid (Led.IOwn w7 (.slice a3 rs.length cap3) g3 rs) := O6.out.ext hb
    have A7 : Hid (Led.JBoxAt w7 w3.heap.size c (.slice a3 rs.length cap3)) := A6.out.ext hb
    have X7 : Hid (MSlice w7 (.slice (some ⟨gx, 0, none⟩) ms.length ms.length) ms) := X6.out.ext hb
    have Y7 : Hid (Led.LRoom hi w7 gx ms) := Y6.out.ext hb
    have I7 : Hid (Led.IOwn w7 (.slice (some ⟨gi, 0, none⟩) ps.length ps.length) gi ps) := I6.out.ext hb
    have R7 : Hid (Led.IOwn w7 (.slice a6 rs.length cap6) g6 rs) := R6.out.ext hb
    clear E6 O6 A6 X6 Y6 I6 R6
    clear hb
    go_wp2_with fail
    refine (HT2.out _ (by exact E7.out)).mono ?_
    rintro e w8 ⟨g8, rfl, -, hM, -, hb⟩
    have M8 : Hid (MSlice w8 (.slice (some ⟨g8, 0, none⟩) ms.length ms.length) ms) := hM
    clear hM
    have E8 : Hid (Ext w w8) := E7.out.trans hb
    have O8 : Hid (Led.IOwn w8 (.slice a3 rs.length cap3) g3 rs) := O7.out.ext hb
    have A8 : Hid (Led.JBoxAt w8 w3.heap.size c (.slice a3 rs.length cap3)) := A7.out.ext hb
    have X8 : Hid (MSlice w8 (.slice (some ⟨gx, 0, none⟩) ms.length ms.length) ms) := X7.out.ext hb
    have Y8 : Hid (Led.LRoom hi w8 gx ms) := Y7.out.ext hb
    have I8 : Hid (Led.IOwn w8 (.slice (some ⟨gi, 0, none⟩) ps.length ps.length) gi ps) := I7.out.ext hb
    have R8 : Hid (Led.IOwn w8 (.slice a6 rs.length cap6) g6 rs) := R7.out.ext hb
    have B8 : Hid (Led.JBoxAt w8 w6.heap.size c (.slice a6 rs.length cap6)) := B7.out.ext hb
    clear E7 O7 A7 X7 Y7 I7 R7 B7
    clear hb
    go_wp2_with fail
    refine (HEm.out _ _ _ X8.out M8.out).mono ?_
    rintro e w9 ⟨rfl, hb⟩
    clear M8
    have E9 : Hid (Ext w w9) := E8.out.trans hb
    have O9 : Hid (Led.IOwn w9 (.slice a3 rs.length cap3) g3 rs) := O8.out.ext hb
    have A9 : Hid (Led.JBoxAt w9 w3.heap.size c (.slice a3 rs.length cap3)) := A8.out.ext hb
    have X9 : Hid (MSlice w9 (.slice (some ⟨gx, 0, none⟩) ms.length ms.length) ms) := X8.out.ext hb
    have Y9 : Hid (Led.LRoom hi w9 gx ms) := Y8.out.ext hb
    have I9 : Hid (Led.IOwn w9 (.slice (some ⟨gi, 0, none⟩) ps.length ps.length) gi ps) := I8.out.ext hb
    have R9 : Hid (Led.IOwn w9 (.slice a6 rs.length cap6) g6 rs) := R8.out.ext hb
    have B9 : Hid (Led.JBoxAt w9 w6.heap.size c (.slice a6 rs.length cap6)) := B8.out.ext hb
    clear E8 O8 A8 X8 Y8 I8 R8 B8
    clear hb
    go_wp2_with fail
    refine (HTi.out _ (by exact E9.out)).mono ?_
    rintro e w91 ⟨gk, rfl, -, hI, hb⟩
    have J91 : Hid (Led.IOwn w91 (.slice (some ⟨gk, 0, none⟩) ps.length ps.length) gk ps) := hI
    clear hI
    have E91 : Hid (Ext w w91) := E9.out.trans hb
    have O91 : Hid (Led.IOwn w91 (.slice a3 rs.length cap3) g3 rs) := O9.out.ext hb
    have A91 : Hid (Led.JBoxAt w91 w3.heap.size c (.slice a3 rs.length cap3)) := A9.out.ext hb
    have X91 : Hid (MSlice w91 (.slice (some ⟨gx, 0, none⟩) ms.length ms.length) ms) := X9.out.ext hb
    have Y91 : Hid (Led.LRoom hi w91 gx ms) := Y9.out.ext hb
    have I91 : Hid (Led.IOwn w91 (.slice (some ⟨gi, 0, none⟩) ps.length ps.length) gi ps) := I9.out.ext hb
    have R91 : Hid (Led.IOwn w91 (.slice a6 rs.length cap6) g6 rs) := R9.out.ext hb
    have B91 : Hid (Led.JBoxAt w91 w6.heap.size c (.slice a6 rs.length cap6)) := B9.out.ext hb
    clear E9 O9 A9 X9 Y9 I9 R9 B9
    clear hb
    go_wp2_with fail
    refine (HEi.out _ _ _ I91.out.slice J91.out.slice).mono ?_
    rintro e w92 ⟨rfl, hb⟩
    clear J91
    have E92 : Hid (Ext w w92) := E91.out.trans hb
    have O92 : Hid (Led.IOwn w92 (.slice a3 rs.length cap3) g3 rs) := O91.out.ext hb
    have A92 : Hid (Led.JBoxAt w92 w3.heap.size c (.slice a3 rs.length cap3)) := A91.out.ext hb
    have X92 : Hid (MSlice w92 (.slice (some ⟨gx, 0, none⟩) ms.length ms.length) ms) := X91.out.ext hb
    have Y92 : Hid (Led.LRoom hi w92 gx ms) := Y91.out.ext hb
    have I92 : Hid (Led.IOwn w92 (.slice (some ⟨gi, 0, none⟩) ps.length ps.length) gi ps) := I91.out.ext hb
    have R92 : Hid (Led.IOwn w92 (.slice a6 rs.length cap6) g6 rs) := R91.out.ext hb
    have B92 : Hid (Led.JBoxAt w92 w6.heap.size c (.slice a6 rs.length cap6)) := B91.out.ext hb
    clear E91 O91 A91 X91 Y91 I91 R91 B91
    clear hb
    go_wp2_with fail
    refine (HMk.out _ Y92.out (by have := G5.out; omega)).mono ?_
    rintro e w10 ⟨k10, rfl, hk10, hu⟩
    have E10 : Hid (Ext w w10) := hu.to_ext E92.out (by have := G5.out; omega)
    have A10 : Hid (Led.JBoxAt w10 w3.heap.size c (.slice a3 rs.length cap3)) := A92.out.updR hu (by have := G5.out; omega)
    have B10 : Hid (Led.JBoxAt w10 w6.heap.size c (.slice a6 rs.length cap6)) := B92.out.updR hu (by have := M5.out; omega)
    have O10 : Hid (Led.IOwn w10 (.slice a3 rs.length cap3) g3 rs) := O92.out.updR hu (fun h => by have := G5.out; have := L3.out h; omega)
    have R10 : Hid (Led.IOwn w10 (.slice a6 rs.length cap6) g6 rs) := R92.out.updR hu (fun h => by have := M5.out; omega)
    have I10 : Hid (Led.IOwn w10 (.slice (some ⟨gi, 0, none⟩) ps.length ps.length) gi ps) := I92.out.updR hu (fun h => by have := GI.out; omega)
    clear hu E92 A92 B92 O92 R92 X92 Y92 I92
    go_wp2_with fail
    refine (HMj.out _ _ _ I10.out hk10).mono ?_
    rintro e w101 ⟨kk, rfl, hu⟩
    have E101 : Hid (Ext w w101) := hu.1.to_ext E10.out (by have := GI.out; have := G5.out; have := HS51.out; omega)
    have HB101 : Hid (Led.JBoxAt w101 w6.heap.size c (.slice a6 rs.length cap6)) := by
      by_cases hp0 : 0 < ps.length
      · exact B10.out.updR hu.1 (by have := GI.out; have := M5.out.2.2.2 hp0; omega)
      · rw [hu.2 hp0]; exact B10.out
    have HR101 : Hid (Led.IOwn w101 (.slice a6 rs.length cap6) g6 rs) := by
      by_cases hp0 : 0 < ps.length
      · exact R10.out.updR hu.1 (fun h => by have := GI.out; have := M5.out.2.2.2 hp0; omega)
      · rw [hu.2 hp0]; exact R10.out
    have A101 : Hid (Led.JBoxAt w101 w3.heap.size c (.slice a3 rs.length cap3)) := A10.out.updR hu.1 (by have := GI.out; have := HS51.out; omega)
    have B101 : Hid (Led.JBoxAt w101 w6.heap.size c (.slice a6 rs.length cap6)) := HB101
    have O101 : Hid (Led.IOwn w101 (.slice a3 rs.length cap3) g3 rs) := O10.out.updR hu.1 (fun h => by have := GI.out; have := HS51.out; have := G5.out; have := L3.out h; omega)
    have R101 : Hid (Led.IOwn w101 (.slice a6 rs.length cap6) g6 rs) := HR101
    clear hu E10 A10 B10 O10 R10 I10
    obtain ⟨c0, c1⟩ := A101.out.2
    have hlt := A101.out.1
    obtain ⟨d0, d1⟩ := B101.out.2
    have hlu := B101.out.1
    go_wp2_with fail
    refine (HEq.out _ _ _ (by exact R101.out.slice) (by exact O101.out.slice)).mono ?_
    rintro e w11 ⟨rfl, hb⟩
    clear c0 c1 hlt d0 d1 hlu
    have E11 : Hid (Ext w w11) := E101.out.trans hb
    have O11 : Hid (Led.IOwn w11 (.slice a3 rs.length cap3) g3 rs) := O101.out.ext hb
    have A11 : Hid (Led.JBoxAt w11 w3.heap.size c (.slice a3 rs.length cap3)) := A101.out.ext hb
    have R11 : Hid (Led.IOwn w11 (.slice a6 rs.length cap6) g6 rs) := R101.out.ext hb
    have B11 : Hid (Led.JBoxAt w11 w6.heap.size c (.slice a6 rs.length cap6)) := B101.out.ext hb
    clear E101 O101 A101 R101 B101
    clear hb
    obtain ⟨gz, hgz, hRz, hcase⟩ := R11.out.pick
    have RZ : Hid (Led.IOwn w11 (.slice a6 rs.length cap6) gz rs) := hRz
    have CZ : Hid (gz ≤ w11.heap.size ∧ (gz = w11.heap.size ∧ ¬ 0 < rs.length ∨ (gz = g6 ∧ g6 < w11.heap.size ∧ 0 < rs.length))) := ⟨hgz, hcase⟩
    clear hRz hcase R11 hgz
    obtain ⟨c0, c1⟩ := A11.out.2
    have hlt := A11.out.1
    obtain ⟨d0, d1⟩ := B11.out.2
    have hlu := B11.out.1
    go_wp2_with fail
    refine (HMi.out _ _ _ RZ.out CZ.out.1).mono ?_
    rintro e w12 ⟨rfl, hQ, hu⟩
    clear c0 c1 hlt d0 d1 hlu
    have E12 : Hid (Ext w w12) := hu.to_ext E11.out (by have := CZ.out; have := M5.out; have := G5.out; have := E11.out.size; omega)
    have A12 : Hid (Led.JBoxAt w12 w3.heap.size c (.slice a3 rs.length cap3)) := A11.out.upd hu (by have := CZ.out; have := M5.out; have := A11.out.1; omega)
    have B12 : Hid (Led.JBoxAt w12 w6.heap.size c (.slice a6 rs.length cap6)) := B11.out.upd hu (by have := CZ.out; have := M5.out; have := B11.out.1; have := N6.out; omega)
    have O12 : Hid (Led.IOwn w12 (.slice a3 rs.length cap3) g3 rs) := O11.out.upd' hu (fun h => by have := CZ.out; have := M5.out; have := L3.out h; omega)
    have Q12 : Hid (ISlice w12 (.slice a6 rs.length cap6) (Led.imarks 1 rs.length)) := hQ.slice
    clear hu hQ RZ E11 A11 B11 O11
    obtain ⟨c0, c1⟩ := A12.out.2
    have hlt := A12.out.1
    obtain ⟨d0, d1⟩ := B12.out.2
    have hlu := B12.out.1
    go_wp2_with fail
    refine (HHe.out _ _ Q12.out).mono ?_
    rintro e w13 ⟨rfl, hb⟩
    clear c0 c1 hlt d0 d1 hlu
    have E13 : Hid (Ext w w13) := E12.out.trans hb
    have O13 : Hid (Led.IOwn w13 (.slice a3 rs.length cap3) g3 rs) := O12.out.ext hb
    have A13 : Hid (Led.JBoxAt w13 w3.heap.size c (.slice a3 rs.length cap3)) := A12.out.ext hb
    have B13 : Hid (Led.JBoxAt w13 w6.heap.size c (.slice a6 rs.length cap6)) := B12.out.ext hb
    have Q13 : Hid (ISlice w13 (.slice a6 rs.length cap6) (Led.imarks 1 rs.length)) := Q12.out.ext hb
    clear E12 O12 A12 B12 Q12
    clear hb
    go_wp2_with fail
    refine (HT2.out _ (by exact E13.out)).mono ?_
    rintro e w14 ⟨g14, rfl, -, hM, -, hb⟩
    have M14 : Hid (MSlice w14 (.slice (some ⟨g14, 0, none⟩) ms.length ms.length) ms) := hM
    clear hM
    have E14 : Hid (Ext w w14) := E13.out.trans hb
    have O14 : Hid (Led.IOwn w14 (.slice a3 rs.length cap3) g3 rs) := O13.out.ext hb
    have A14 : Hid (Led.JBoxAt w14 w3.heap.size c (.slice a3 rs.length cap3)) := A13.out.ext hb
    have B14 : Hid (Led.JBoxAt w14 w6.heap.size c (.slice a6 rs.length cap6)) := B13.out.ext hb
    have Q14 : Hid (ISlice w14 (.slice a6 rs.length cap6) (Led.imarks 1 rs.length)) := Q13.out.ext hb
    clear E13 O13 A13 B13 Q13
    clear hb
    go_wp2_with fail
    refine (HTi.out _ (by exact E14.out)).mono ?_
    rintro e w141 ⟨gq, rfl, -, hI, hb⟩
    have J141 : Hid (Led.IOwn w141 (.slice (some ⟨gq, 0, none⟩) ps.length ps.length) gq ps) := hI
    clear hI
    have E141 : Hid (Ext w w141) := E14.out.trans hb
    have O141 : Hid (Led.IOwn w141 (.slice a3 rs.length cap3) g3 rs) := O14.out.ext hb
    have A141 : Hid (Led.JBoxAt w141 w3.heap.size c (.slice a3 rs.length cap3)) := A14.out.ext hb
    have B141 : Hid (Led.JBoxAt w141 w6.heap.size c (.slice a6 rs.length cap6)) := B14.out.ext hb
    have Q141 : Hid (ISlice w141 (.slice a6 rs.length cap6) (Led.imarks 1 rs.length)) := Q14.out.ext hb
    have M141 : Hid (MSlice w141 (.slice (some ⟨g14, 0, none⟩) ms.length ms.length) ms) := M14.out.ext hb
    clear E14 O14 A14 B14 Q14 M14
    clear hb
    go_wp2_with fail
    refine (HIm.out _ _ _ M141.out J141.out.slice).mono ?_
    rintro e w15 ⟨v15, g15, rfl, -, hO, hb⟩
    obtain ⟨a15, cap15, rfl, -⟩ := id hO
    have R15 : Hid (Led.IOwn w15 (.slice a15 rs.length cap15) g15 rs) := hO
    clear hO M141 J141
    have E15 : Hid (Ext w w15) := E141.out.trans hb
    have O15 : Hid (Led.IOwn w15 (.slice a3 rs.length cap3) g3 rs) := O141.out.ext hb
    have A15 : Hid (Led.JBoxAt w15 w3.heap.size c (.slice a3 rs.length cap3)) := A141.out.ext hb
    have B15 : Hid (Led.JBoxAt w15 w6.heap.size c (.slice a6 rs.length cap6)) := B141.out.ext hb
    have Q15 : Hid (ISlice w15 (.slice a6 rs.length cap6) (Led.imarks 1 rs.length)) := Q141.out.ext hb
    clear E141 O141 A141 B141 Q141
    clear hb
    unfold Led.jr
    obtain ⟨c0, c1⟩ := A15.out.2
    have hlt := A15.out.1
    obtain ⟨d0, d1⟩ := B15.out.2
    have hlu := B15.out.1
    go_wp2_with fail
    refine (HEq.out _ _ _ (by exact R15.out.slice.ext ((Ext.refl _).alloc _)) (by exact O15.out.slice.ext ((Ext.refl _).alloc _))).mono ?_
    rintro e w16 ⟨rfl, hb⟩
    clear c0 c1 hlt d0 d1 hlu
    have hb := ((Ext.refl w15).alloc _).trans hb
    clear R15
    have E16 : Hid (Ext w w16) := E15.out.trans hb
    have O16 : Hid (Led.IOwn w16 (.slice a3 rs.length cap3) g3 rs) := O15.out.ext hb
    have A16 : Hid (Led.JBoxAt w16 w3.heap.size c (.slice a3 rs.length cap3)) := A15.out.ext hb
    have B16 : Hid (Led.JBoxAt w16 w6.heap.size c (.slice a6 rs.length cap6)) := B15.out.ext hb
    have Q16 : Hid (ISlice w16 (.slice a6 rs.length cap6) (Led.imarks 1 rs.length)) := Q15.out.ext hb
    clear E15 O15 A15 B15 Q15
    clear hb
    obtain ⟨c0, c1⟩ := A16.out.2
    have hlt := A16.out.1
    obtain ⟨d0, d1⟩ := B16.out.2
    have hlu := B16.out.1
    go_wp2_with fail
    refine (HHe.out _ _ Q16.out).mono ?_
    rintro e w17 ⟨rfl, hb⟩
    clear c0 c1 hlt d0 d1 hlu
    have E17 : Hid (Ext w w17) := E16.out.trans hb
    clear hb
    go_wp2
    go_ret
    exact ⟨rfl, E17.out⟩
end Go.Proofs.Ytflojfkalnojbaa
