/- laws.FnExactLogOf answers true at every argument. -/
import Derived.Test.YtecgjdgfjgcmdaaQS8
namespace Go.Proofs.Ytecgjdgfjgcmdaa
open Go.RowKit
set_option maxHeartbeats 8000000 in
set_option maxRecDepth 100000 in
theorem lawLogOf (f : Int) (v : Value) (ms : List Ms)  (w : World) (hm : MSlice w v ms) :
    Calls Try.prog 3 #[.int .i64 f, v] w fun e w' => e = .returned (.bool true) ∧ Ext w w' := by
  have HM : Hid (MSlice w v ms) := hm
  have HSz : Hid (∀ wx : World, Ext w wx → Calls Try.prog 7 #[v, .int .i64 1048576] wx fun e w' => ∃ r : Int, e = .returned (.int .i64 r) ∧ -1 ≤ r ∧ r ≤ 1048576 ∧ (0 ≤ r → ms.length ≤ 1048576 ∧ ∀ m ∈ ms, SmallM m) ∧ Ext wx w') := fun wx he => szMsgS_le v ms 1048576 wx (by omega) (by omega) (HM.out.ext he)
  have HT : Hid (ms.length ≤ 1048576 ∧ (∀ m ∈ ms, SmallM m) → ∀ wx : World, Ext w wx → Calls Try.prog 9 #[v] wx fun e w' => ∃ g, e = .returned (.slice (some ⟨g, 0, none⟩) ms.length ms.length) ∧ g = wx.heap.size ∧ MSlice w' (.slice (some ⟨g, 0, none⟩) ms.length ms.length) ms ∧ Led.LRoom w'.heap.size w' g ms ∧ Ext wx w') := fun hs wx he => (toMsgS_at v ms wx (HM.out.ext he) hs.1 hs.2).mono fun e w' h => ⟨_, h.1, rfl, MSlice.of h.2.1.1 h.2.2.1.at (Nat.le_refl _) (by have := hs.1; unfold maxLen; omega), Led.LRoom.of h.2.1 h.2.2.1, h.2.2.2⟩
  have HMk0 : Hid (ms.length ≤ 1048576 ∧ (∀ m ∈ ms, SmallM m) → ∀ (gx hi : Nat) (wx : World), Led.LRoom hi wx gx ms → gx < hi → Calls Try.prog 13 #[.slice (some ⟨gx, 0, none⟩) ms.length ms.length, .int .i64 1] wx fun e w' => ∃ k : Nat, e = .returned (.int .i64 (k : Int)) ∧ k ≤ 100000000000000 ∧ Led.UpdR gx hi wx w') := fun hs gx hi wx hl hg => Led.markMsgS_room hi gx ms wx hl hg hs.1 hs.2
  have hrs := Msg.logV_len f ms
  obtain ⟨c, hc⟩ : ∃ c, c = (Msg.logV f ms).1 := ⟨_, rfl⟩
  obtain ⟨rs, hr⟩ : ∃ rs, rs = (Msg.logV f ms).2 := ⟨_, rfl⟩
  have HSp : Hid (∀ (yv : Value) (wx : World), MSlice wx yv ms → Calls Try.prog 8 #[.int .i64 f, yv] wx (Led.JRet wx c rs)) := by rw [hc, hr]; exact fun y wx h => specLogOf_any f y ms wx h
  have HIm : Hid (∀ (yv : Value) (wx : World), MSlice wx yv ms → Calls Try.prog 10 #[.int .i64 f, yv] wx (Led.JRet wx c rs)) := by rw [hc, hr]; exact fun y wx h => implLogOf_any f y ms wx h
  rw [← hr] at hrs
  clear hc hr
  have HEq : Hid (∀ (x y : Value) (wx : World), ISlice wx x rs → ISlice wx y rs → Calls Try.prog 11 #[Led.jr c x, Led.jr c y] wx fun e w' => e = .returned (.bool true) ∧ Ext wx w') := fun x y wx h1 h2 => Led.eqIntsResult_same c x y rs wx h1 h2
  have HEm : Hid (∀ (x y : Value) (wx : World), MSlice wx x ms → MSlice wx y ms → Calls Try.prog 12 #[x, y] wx fun e w' => e = .returned (.bool true) ∧ Ext wx w') := fun x y wx h1 h2 => eqMsgS_same x y ms wx h1 h2
  have HMi : Hid (∀ (x : Value) (g : Nat) (wx : World), Led.IOwn wx x g rs → g ≤ wx.heap.size → Calls Try.prog 14 #[Led.jr c x, .int .i64 ((1 : Nat) : Int)] wx fun e w' => e = .returned (.int .i64 (1 + rs.length : Nat)) ∧ Led.IOwn w' x g (Led.imarks 1 rs.length) ∧ Upd g wx w') := fun x g wx h1 h2 => Led.markIntsResult_any c x g rs 1 wx h1 h2 (by omega) hrs
  have HHe : Hid (∀ (x : Value) (wx : World), ISlice wx x (Led.imarks 1 rs.length) → Calls Try.prog 15 #[Led.jr c x, .int .i64 ((1 : Nat) : Int)] wx fun e w' => e = .returned (.int .i64 (1 + rs.length : Nat)) ∧ Ext wx w') := fun x wx h1 => Led.heldIntsResult_any c x rs.length 1 wx h1 (by omega) hrs
  unfold Led.jr at HEq HMi HHe
  obtain ⟨a, cap, rfl, -, -, -⟩ := hm
  go_enter Try.func3, Try.ntmps3
  go_wp2_with fail
  refine (HSz.out _ (Ext.refl _)).mono ?_
  rintro e w1 ⟨r, rfl, hr0, hr1, hr2, hb⟩
  have E1 : Hid (Ext w w1) := hb
  have HR : Hid (0 ≤ r → ms.length ≤ 1048576 ∧ ∀ m ∈ ms, SmallM m) := hr2
  clear hb hr2
  by_cases hn : r < 0
  · go_wp2
    go_ret
    exact ⟨rfl, E1.out⟩
  · have HT2 : Hid (∀ wx : World, Ext w wx → Calls Try.prog 9 #[.slice a ms.length cap] wx fun e w' => ∃ g, e = .returned (.slice (some ⟨g, 0, none⟩) ms.length ms.length) ∧ g = wx.heap.size ∧ MSlice w' (.slice (some ⟨g, 0, none⟩) ms.length ms.length) ms ∧ Led.LRoom w'.heap.size w' g ms ∧ Ext wx w') := HT.out (HR.out (by omega))
    have HMk : Hid (∀ {gx hi : Nat} (wx : World), Led.LRoom hi wx gx ms → gx < hi → Calls Try.prog 13 #[.slice (some ⟨gx, 0, none⟩) ms.length ms.length, .int .i64 1] wx fun e w' => ∃ k : Nat, e = .returned (.int .i64 (k : Int)) ∧ k ≤ 100000000000000 ∧ Led.UpdR gx hi wx w') := fun {gx hi} wx => HMk0.out (HR.out (by omega)) gx hi wx
    have hmx : ms.length ≤ 1048576 := (HR.out (by omega)).1
    clear HT HR HMk0
    go_wp2_with fail
    refine (HT2.out _ (by exact E1.out)).mono ?_
    rintro e w2 ⟨g2, rfl, -, hM, -, hb⟩
    have M2 : Hid (MSlice w2 (.slice (some ⟨g2, 0, none⟩) ms.length ms.length) ms) := hM
    clear hM
    have E2 : Hid (Ext w w2) := E1.out.trans hb
    clear E1
    clear hb
    go_wp2_with fail
    refine (HSp.out _ _ M2.out).mono ?_
    rintro e w3 ⟨v3, g3, rfl, hg3, hO, hb⟩
    obtain ⟨a3, cap3, rfl, -⟩ := id hO
    have O3 : Hid (Led.IOwn w3 (.slice a3 rs.length cap3) g3 rs) := hO
    have L3 : Hid (0 < rs.length → g3 < w3.heap.size) := hO.lt
    clear hO hg3 M2
    have E3 : Hid (Ext w w3) := E2.out.trans hb
    clear E2
    clear hb
    unfold Led.jr
    go_wp2_with fail
    refine (HT2.out _ (by exact E3.out.alloc _)).mono ?_
    rintro e w5 ⟨gx, rfl, hgx, hM, hL, hb⟩
    simp only [World.size_alloc] at hgx
    have B0 := (Led.jbox_new w3 c (.slice a3 rs.length cap3) _).ext hb
    have A5 : Hid (Led.JBoxAt w5 w3.heap.size c (.slice a3 rs.length cap3)) := B0
    clear B0
    have G5 : Hid (gx = w3.heap.size + 1 ∧ w.heap.size ≤ w3.heap.size ∧ gx < w5.heap.size) := ⟨hgx, E3.out.size, hL.1.1⟩
    have X5 : Hid (MSlice w5 (.slice (some ⟨gx, 0, none⟩) ms.length ms.length) ms) := hM
    have Y5 : Hid (Led.LRoom w5.heap.size w5 gx ms) := hL
    have hb := ((Ext.refl w3).alloc _).trans hb
    obtain ⟨hi, hhi⟩ : ∃ hi, hi = w5.heap.size := ⟨_, rfl⟩
    rw [← hhi] at Y5 G5
    have HHI : Hid (hi = w5.heap.size) := hhi
    clear hM hL hgx hhi
    have E5 : Hid (Ext w w5) := E3.out.trans hb
    have O5 : Hid (Led.IOwn w5 (.slice a3 rs.length cap3) g3 rs) := O3.out.ext hb
    clear E3 O3
    clear hb
    go_wp2_with fail
    refine (HIm.out _ _ X5.out).mono ?_
    rintro e w6 ⟨v6, g6, rfl, hg6, hO, hb⟩
    obtain ⟨a6, cap6, rfl, -⟩ := id hO
    have R6 : Hid (Led.IOwn w6 (.slice a6 rs.length cap6) g6 rs) := hO
    have N6 : Hid (0 < rs.length → g6 < w6.heap.size) := hO.lt
    have M5 : Hid (hi ≤ g6 ∧ hi ≤ w6.heap.size ∧ w3.heap.size < hi) := ⟨by rw [HHI.out]; exact hg6, by rw [HHI.out]; exact hb.size, by rw [HHI.out]; exact A5.out.1⟩
    clear hO hg6
    have E6 : Hid (Ext w w6) := E5.out.trans hb
    have O6 : Hid (Led.IOwn w6 (.slice a3 rs.length cap3) g3 rs) := O5.out.ext hb
    have A6 : Hid (Led.JBoxAt w6 w3.heap.size c (.slice a3 rs.length cap3)) := A5.out.ext hb
    have X6 : Hid (MSlice w6 (.slice (some ⟨gx, 0, none⟩) ms.length ms.length) ms) := X5.out.ext hb
    have Y6 : Hid (Led.LRoom hi w6 gx ms) := Y5.out.ext hb
    clear E5 O5 A5 X5 Y5
    clear hb
    unfold Led.jr
    obtain ⟨c0, c1⟩ := A6.out.2
    have hlt := A6.out.1
    go_wp2_with fail
    refine (HEq.out _ _ _ (by exact R6.out.slice.ext ((Ext.refl _).alloc _)) (by exact O6.out.slice.ext ((Ext.refl _).alloc _))).mono ?_
    rintro e w7 ⟨rfl, hb⟩
    clear c0 c1 hlt
    have B7 : Hid (Led.JBoxAt w7 w6.heap.size c (.slice a6 rs.length cap6)) := (Led.jbox_new w6 c _ _).ext hb
    have hb := ((Ext.refl w6).alloc _).trans hb
    have E7 : Hid (Ext w w7) := E6.out.trans hb
    have O7 : Hid (Led.IOwn w7 (.slice a3 rs.length cap3) g3 rs) := O6.out.ext hb
    have A7 : Hid (Led.JBoxAt w7 w3.heap.size c (.slice a3 rs.length cap3)) := A6.out.ext hb
    have X7 : Hid (MSlice w7 (.slice (some ⟨gx, 0, none⟩) ms.length ms.length) ms) := X6.out.ext hb
    have Y7 : Hid (Led.LRoom hi w7 gx ms) := Y6.out.ext hb
    have R7 : Hid (Led.IOwn w7 (.slice a6 rs.length cap6) g6 rs) := R6.out.ext hb
    clear E6 O6 A6 X6 Y6 R6
    clear hb
    go_wp2_with fail
    refine (HT2.out _ (by exact E7.out)).mono ?_
    rintro e w8 ⟨g8, rfl, -, hM, -, hb⟩
    have M8 : Hid (MSlice w8 (.slice (some ⟨g8, 0, none⟩) ms.length ms.length) ms) := hM
    clear hM
    have E8 : Hid (Ext w w8) := E7.out.trans hb
    have O8 : Hid (Led.IOwn w8 (.slice a3 rs.length cap3) g3 rs) := O7.out.ext hb
    have A8 : Hid (Led.JBoxAt w8 w3.heap.size c (.slice a3 rs.length cap3)) := A7.out.ext hb
    have X8 : Hid (MSlice w8 (.slice (some ⟨gx, 0, none⟩) ms.length ms.length) ms) := X7.out.ext hb
    have Y8 : Hid (Led.LRoom hi w8 gx ms) := Y7.out.ext hb
    have R8 : Hid (Led.IOwn w8 (.slice a6 rs.length cap6) g6 rs) := R7.out.ext hb
    have B8 : Hid (Led.JBoxAt w8 w6.heap.size c (.slice a6 rs.length cap6)) := B7.out.ext hb
    clear E7 O7 A7 X7 Y7 R7 B7
    clear hb
    go_wp2_with fail
    refine (HEm.out _ _ _ X8.out M8.out).mono ?_
    rintro e w9 ⟨rfl, hb⟩
    clear M8
    have E9 : Hid (Ext w w9) := E8.out.trans hb
    have O9 : Hid (Led.IOwn w9 (.slice a3 rs.length cap3) g3 rs) := O8.out.ext hb
    have A9 : Hid (Led.JBoxAt w9 w3.heap.size c (.slice a3 rs.length cap3)) := A8.out.ext hb
    have X9 : Hid (MSlice w9 (.slice (some ⟨gx, 0, none⟩) ms.length ms.length) ms) := X8.out.ext hb
    have Y9 : Hid (Led.LRoom hi w9 gx ms) := Y8.out.ext hb
    have R9 : Hid (Led.IOwn w9 (.slice a6 rs.length cap6) g6 rs) := R8.out.ext hb
    have B9 : Hid (Led.JBoxAt w9 w6.heap.size c (.slice a6 rs.length cap6)) := B8.out.ext hb
    clear E8 O8 A8 X8 Y8 R8 B8
    clear hb
    go_wp2_with fail
    refine (HMk.out _ Y9.out (by have := G5.out; omega)).mono ?_
    rintro e w10 ⟨k10, rfl, hk10, hu⟩
    have E10 : Hid (Ext w w10) := hu.to_ext E9.out (by have := G5.out; omega)
    have A10 : Hid (Led.JBoxAt w10 w3.heap.size c (.slice a3 rs.length cap3)) := A9.out.updR hu (by have := G5.out; omega)
    have B10 : Hid (Led.JBoxAt w10 w6.heap.size c (.slice a6 rs.length cap6)) := B9.out.updR hu (by have := M5.out; omega)
    have O10 : Hid (Led.IOwn w10 (.slice a3 rs.length cap3) g3 rs) := O9.out.updR hu (fun h => by have := G5.out; have := L3.out h; omega)
    have R10 : Hid (Led.IOwn w10 (.slice a6 rs.length cap6) g6 rs) := R9.out.updR hu (fun h => by have := M5.out; omega)
    clear hu E9 A9 B9 O9 R9 X9 Y9
    obtain ⟨c0, c1⟩ := A10.out.2
    have hlt := A10.out.1
    obtain ⟨d0, d1⟩ := B10.out.2
    have hlu := B10.out.1
    go_wp2_with fail
    refine (HEq.out _ _ _ (by exact R10.out.slice) (by exact O10.out.slice)).mono ?_
    rintro e w11 ⟨rfl, hb⟩
    clear c0 c1 hlt d0 d1 hlu
    have E11 : Hid (Ext w w11) := E10.out.trans hb
    have O11 : Hid (Led.IOwn w11 (.slice a3 rs.length cap3) g3 rs) := O10.out.ext hb
    have A11 : Hid (Led.JBoxAt w11 w3.heap.size c (.slice a3 rs.length cap3)) := A10.out.ext hb
    have R11 : Hid (Led.IOwn w11 (.slice a6 rs.length cap6) g6 rs) := R10.out.ext hb
    have B11 : Hid (Led.JBoxAt w11 w6.heap.size c (.slice a6 rs.length cap6)) := B10.out.ext hb
    clear E10 O10 A10 R10 B10
    clear hb
    obtain ⟨gz, hgz, hRz, hcase⟩ := R11.out.pick
    have RZ : Hid (Led.IOwn w11 (.slice a6 rs.length cap6) gz rs) := hRz
    have CZ : Hid (gz ≤ w11.heap.size ∧ (gz = w11.heap.size ∧ ¬ 0 < rs.length ∨ (gz = g6 ∧ g6 < w11.heap.size ∧ 0 < rs.length))) := ⟨hgz, hcase⟩
    clear hRz hcase R11 hgz
    obtain ⟨c0, c1⟩ := A11.out.2
    have hlt := A11.out.1
    obtain ⟨d0, d1⟩ := B11.out.2
    have hlu := B11.out.1
    go_wp2_with fail
    refine (HMi.out _ _ _ RZ.out CZ.out.1).mono ?_
    rintro e w12 ⟨rfl, hQ, hu⟩
    clear c0 c1 hlt d0 d1 hlu
    have E12 : Hid (Ext w w12) := hu.to_ext E11.out (by have := CZ.out; have := M5.out; have := G5.out; have := E11.out.size; omega)
    have A12 : Hid (Led.JBoxAt w12 w3.heap.size c (.slice a3 rs.length cap3)) := A11.out.upd hu (by have := CZ.out; have := M5.out; have := A11.out.1; omega)
    have B12 : Hid (Led.JBoxAt w12 w6.heap.size c (.slice a6 rs.length cap6)) := B11.out.upd hu (by have := CZ.out; have := M5.out; have := B11.out.1; have := N6.out; omega)
    have O12 : Hid (Led.IOwn w12 (.slice a3 rs.length cap3) g3 rs) := O11.out.upd' hu (fun h => by have := CZ.out; have := M5.out; have := L3.out h; omega)
    have Q12 : Hid (ISlice w12 (.slice a6 rs.length cap6) (Led.imarks 1 rs.length)) := hQ.slice
    clear hu hQ RZ E11 A11 B11 O11
    obtain ⟨c0, c1⟩ := A12.out.2
    have hlt := A12.out.1
    obtain ⟨d0, d1⟩ := B12.out.2
    have hlu := B12.out.1
    go_wp2_with fail
    refine (HHe.out _ _ Q12.out).mono ?_
    rintro e w13 ⟨rfl, hb⟩
    clear c0 c1 hlt d0 d1 hlu
    have E13 : Hid (Ext w w13) := E12.out.trans hb
    have O13 : Hid (Led.IOwn w13 (.slice a3 rs.length cap3) g3 rs) := O12.out.ext hb
    have A13 : Hid (Led.JBoxAt w13 w3.heap.size c (.slice a3 rs.length cap3)) := A12.out.ext hb
    have B13 : Hid (Led.JBoxAt w13 w6.heap.size c (.slice a6 rs.length cap6)) := B12.out.ext hb
    have Q13 : Hid (ISlice w13 (.slice a6 rs.length cap6) (Led.imarks 1 rs.length)) := Q12.out.ext hb
    clear E12 O12 A12 B12 Q12
    clear hb
    go_wp2_with fail
    refine (HT2.out _ (by exact E13.out)).mono ?_
    rintro e w14 ⟨g14, rfl, -, hM, -, hb⟩
    have M14 : Hid (MSlice w14 (.slice (some ⟨g14, 0, none⟩) ms.length ms.length) ms) := hM
    clear hM
    have E14 : Hid (Ext w w14) := E13.out.trans hb
    have O14 : Hid (Led.IOwn w14 (.slice a3 rs.length cap3) g3 rs) := O13.out.ext hb
    have A14 : Hid (Led.JBoxAt w14 w3.heap.size c (.slice a3 rs.length cap3)) := A13.out.ext hb
    have B14 : Hid (Led.JBoxAt w14 w6.heap.size c (.slice a6 rs.length cap6)) := B13.out.ext hb
    have Q14 : Hid (ISlice w14 (.slice a6 rs.length cap6) (Led.imarks 1 rs.length)) := Q13.out.ext hb
    clear E13 O13 A13 B13 Q13
    clear hb
    go_wp2_with fail
    refine (HIm.out _ _ M14.out).mono ?_
    rintro e w15 ⟨v15, g15, rfl, -, hO, hb⟩
    obtain ⟨a15, cap15, rfl, -⟩ := id hO
    have R15 : Hid (Led.IOwn w15 (.slice a15 rs.length cap15) g15 rs) := hO
    clear hO M14
    have E15 : Hid (Ext w w15) := E14.out.trans hb
    have O15 : Hid (Led.IOwn w15 (.slice a3 rs.length cap3) g3 rs) := O14.out.ext hb
    have A15 : Hid (Led.JBoxAt w15 w3.heap.size c (.slice a3 rs.length cap3)) := A14.out.ext hb
    have B15 : Hid (Led.JBoxAt w15 w6.heap.size c (.slice a6 rs.length cap6)) := B14.out.ext hb
    have Q15 : Hid (ISlice w15 (.slice a6 rs.length cap6) (Led.imarks 1 rs.length)) := Q14.out.ext hb
    clear E14 O14 A14 B14 Q14
    clear hb
    unfold Led.jr
    obtain ⟨c0, c1⟩ := A15.out.2
    have hlt := A15.out.1
    obtain ⟨d0, d1⟩ := B15.out.2
    have hlu := B15.out.1
    go_wp2_with fail
    refine (HEq.out _ _ _ (by exact R15.out.slice.ext ((Ext.refl _).alloc _)) (by exact O15.out.slice.ext ((Ext.refl _).alloc _))).mono ?_
    rintro e w16 ⟨rfl, hb⟩
    clear c0 c1 hlt d0 d1 hlu
    have hb := ((Ext.refl w15).alloc _).trans hb
    clear R15
    have E16 : Hid (Ext w w16) := E15.out.trans hb
    have O16 : Hid (Led.IOwn w16 (.slice a3 rs.length cap3) g3 rs) := O15.out.ext hb
    have A16 : Hid (Led.JBoxAt w16 w3.heap.size c (.slice a3 rs.length cap3)) := A15.out.ext hb
    have B16 : Hid (Led.JBoxAt w16 w6.heap.size c (.slice a6 rs.length cap6)) := B15.out.ext hb
    have Q16 : Hid (ISlice w16 (.slice a6 rs.length cap6) (Led.imarks 1 rs.length)) := Q15.out.ext hb
    clear E15 O15 A15 B15 Q15
    clear hb
    obtain ⟨c0, c1⟩ := A16.out.2
    have hlt := A16.out.1
    obtain ⟨d0, d1⟩ := B16.out.2
    have hlu := B16.out.1
    go_wp2_with fail
    refine (HHe.out _ _ Q16.out).mono ?_
    rintro e w17 ⟨rfl, hb⟩
    clear c0 c1 hlt d0 d1 hlu
    have E17 : Hid (Ext w w17) := E16.out.trans hb
    clear hb
    go_wp2
    go_ret
    exact ⟨rfl, E17.out⟩
end Go.Proofs.Ytecgjdgfjgcmdaa
