/- laws.FnExactVotersFor answers true at every f, every list of votes and every reply. -/
import Derived.Test.YtfgjodnjahhanaaVfVT5
import Derived.Test.YtfgjodnjahhanaaVfVT6
import Derived.Test.YtfgjodnjahhanaaVfLV0
import Derived.Deep.RegionHeld3
import Derived.Test.YtfgjodnjahhanaaVfTk
namespace Go.Proofs.Ytfgjodnjahhanaa
open Go.RowKit
set_option maxHeartbeats 16000000 in
set_option maxRecDepth 100000 in
theorem lawVotersFor (f : Int) (v : Value) (zs : List Vt) (cy ry : Int) (py : ByteArray) (w : World) (hS : VtSlice w v zs) (hz : ∀ z ∈ zs, z.path.size ≤ maxLen) (hp : py.size ≤ maxLen) :
    Calls Try.prog 4 #[.int .i64 f, v, yagg cy ry py] w fun e w' => e = .returned (.bool true) ∧ Ext w w' := by
  have HSz : Hid (∀ wx, Ext w wx → Calls Try.prog 6 #[v, .int .i64 1048576] wx fun e w' => ∃ r : Int, e = .returned (.int .i64 r) ∧ -1 ≤ r ∧ r ≤ 1048576 ∧ (0 ≤ r → zs.length ≤ 1048576 ∧ ∀ z ∈ zs, z.path.size ≤ 1048576) ∧ Ext wx w') := fun wx he => szVoteS_le v zs 1048576 wx (by omega) (by omega) (hS.ext he) hz
  have HSm : Hid (∀ (r : Int) wx, 0 ≤ r → r ≤ 1048576 → Calls Try.prog 11 #[yagg cy ry py, .int .i64 r] wx fun e w' => ∃ p : Int, e = .returned (.int .i64 p) ∧ Ext wx w') := fun r wx h0 h1 => (szReply_any cy ry py r wx h0 h1 hp).mono fun e w' h => ⟨_, h.1, h.2⟩
  have HT0 : Hid (zs.length ≤ 1048576 → ∀ wx, Ext w wx → Calls Try.prog 8 #[v] wx fun e w' => ∃ g, e = .returned (.slice (some ⟨g, 0, none⟩) zs.length zs.length) ∧ g = wx.heap.size ∧ VtSlice w' (.slice (some ⟨g, 0, none⟩) zs.length zs.length) zs ∧ VtRoom w' g 0 zs.length ∧ Ext wx w') := fun hl wx he => (toVoteS_at v zs wx (hS.ext he) hl).mono fun e w' h => ⟨_, h.1, rfl, VtSlice.of h.2.1.1 h.2.2.1 (Nat.le_refl _) (by unfold maxLen; omega), h.2.1, h.2.2.2⟩
  have TM : Hid (∀ wx, Calls Try.prog 13 #[yagg cy ry py] wx fun e w' => e = .returned (yagg cy ry py) ∧ Ext wx w') := fun wx => toReply_any cy ry py wx
  have HMk0 : Hid (zs.length ≤ 1048576 → ∀ (g : Nat) wx, VtRoom wx g 0 zs.length → Calls Try.prog 16 #[.slice (some ⟨g, 0, none⟩) zs.length zs.length, .int .i64 1] wx fun e w' => ∃ k : Nat, e = .returned (.int .i64 (k : Int)) ∧ k ≤ 10000000 ∧ Upd g wx w') := fun hl g wx h => markVoteS_any g zs.length wx h hl
  have hrs : (Vot.votersV f zs cy ry py).2.length ≤ 1048576 := by have := Vot.votersV_len f zs cy ry py; omega
  obtain ⟨c, hc⟩ : ∃ c, c = (Vot.votersV f zs cy ry py).1 := ⟨_, rfl⟩
  obtain ⟨rs, hr⟩ : ∃ rs, rs = (Vot.votersV f zs cy ry py).2 := ⟨_, rfl⟩
  have HSp : Hid (∀ (yv : Value) (wx : World), VtSlice wx yv zs → Calls Try.prog 12 #[.int .i64 f, yv, yagg cy ry py] wx (Led.JRet wx c rs)) := by rw [hc, hr]; exact fun yv wx h1 => Vot.specVotersFor_any f cy ry py yv zs wx h1 hz
  have HIm : Hid (∀ (yv : Value) (wx : World), VtSlice wx yv zs → Calls Try.prog 14 #[.int .i64 f, yv, yagg cy ry py] wx (Led.JRet wx c rs)) := by rw [hc, hr]; exact fun yv wx h1 => Vot.implVotersFor_any f cy ry py yv zs wx h1 hz
  rw [← hr] at hrs
  clear hc hr
  have HEq : Hid (∀ (x y : Value) (wx : World), ISlice wx x rs → ISlice wx y rs → Calls Try.prog 15 #[Led.jr c x, Led.jr c y] wx fun e w' => e = .returned (.bool true) ∧ Ext wx w') := fun x y wx h1 h2 => Led.eqIntsResult_same c x y rs wx h1 h2
  have HMi : Hid (∀ (x : Value) (g : Nat) (wx : World), Led.IOwn wx x g rs → g ≤ wx.heap.size → Calls Try.prog 17 #[Led.jr c x, .int .i64 ((1 : Nat) : Int)] wx fun e w' => e = .returned (.int .i64 (1 + rs.length : Nat)) ∧ Led.IOwn w' x g (Led.imarks 1 rs.length) ∧ Upd g wx w') := fun x g wx h1 h2 => Led.markIntsResult_any c x g rs 1 wx h1 h2 (by omega) hrs
  have HHe : Hid (∀ (x : Value) (wx : World), ISlice wx x (Led.imarks 1 rs.length) → Calls Try.prog 18 #[Led.jr c x, .int .i64 ((1 : Nat) : Int)] wx fun e w' => e = .returned (.int .i64 (1 + rs.length : Nat)) ∧ Ext wx w') := fun x wx h1 => Led.heldIntsResult_any c x rs.length 1 wx h1 (by omega) hrs
  unfold Led.jr at HEq HMi HHe
  have HEm : Hid (∀ (x y : Value) (wx : World), VtSlice wx x zs → VtSlice wx y zs → Calls Try.prog 10 #[x, y] wx fun e w' => e = .returned (.bool true) ∧ Ext wx w') := fun x y wx h1 h2 => eqVoteS_same x y zs wx h1 h2
  obtain ⟨a, cap, rfl, -, -, -⟩ := hS
  clear hz hp
  unfold yagg at *
  go_enter Try.func4, Try.ntmps4
  go_wp2_with fail
  refine (HSz.out _ ((Ext.refl _).alloc _)).mono ?_
  rintro e w1 ⟨r, rfl, hr0, hr1, hr2, hb⟩
  have E1 : Hid (Ext w w1) := ((Ext.refl _).alloc _).trans hb
  have A1 : Hid (RyAt w1 w.heap.size (.int .i64 cy) (.int .i64 ry) (.string py)) := (ry_new w _ _ _ _).ext hb
  have HR : Hid (0 ≤ r → zs.length ≤ 1048576 ∧ ∀ z ∈ zs, z.path.size ≤ 1048576) := hr2
  clear hb hr2
  by_cases hn : r < 0
  · go_wp2
    go_ret
    exact ⟨rfl, E1.out⟩
  have hr0' : 0 ≤ r := by omega
  obtain ⟨kal, ⟨ka0, ka1, ka2⟩, -⟩ := A1.out
  go_wp2_with fail
  refine (HSm.out _ _ hr0' hr1).mono ?_
  rintro e w2 ⟨p, rfl, hb⟩
  have E2 : Hid (Ext w w2) := E1.out.trans hb
  have A2 : Hid (RyAt w2 w.heap.size (.int .i64 cy) (.int .i64 ry) (.string py)) := A1.out.ext hb
  clear hb E1 A1 kal ka0 ka1 ka2
  by_cases hn2 : p < 0
  · go_wp2
    go_ret
    exact ⟨rfl, E2.out⟩
  have T2 : Hid _ := HT0.out (HR.out (by omega)).1
  have HMk : Hid _ := HMk0.out (HR.out (by omega)).1
  clear HT0 HR HMk0 HSm HSz
  have HS : Hid (∀ W', Ext w2 W' → (fun W' : World => W'.cell? ⟨w.heap.size, 0, none⟩ = some (.int .i64 cy) ∧ W'.cell? ⟨w.heap.size, 1, none⟩ = some (.int .i64 ry) ∧ W'.cell? ⟨w.heap.size, 2, none⟩ = some (.string py)) W') := fun W' he => (A2.out.ext he).2.1
  go_wp2
  obtain ⟨Q9, HQ9⟩ : ∃ Q9 : Exit → Act → World → Prop, Hid (Q9 = OnlyZ fun fr9 W => ∃ (bw g3 cap3 : Nat) (a3 : Option Addr) (px27 : Value), fr9 = { tmps := #[.int .i64 f, .slice a zs.length cap, .agg #[.int .i64 cy, .int .i64 ry, .string py], undef, undef, .pointer (some ⟨w.heap.size, 0, none⟩), .bool false, .int .i64 p, .pointer (some ⟨bw, 0, none⟩), undef, undef, undef, undef, undef, undef, .slice a zs.length cap, .int .i64 1048576, .int .i64 r, .int .i64 r, .bool (decide (r < 0)), .agg #[.int .i64 cy, .int .i64 ry, .string py], .int .i64 r, .int .i64 p, .int .i64 p, .bool (decide (p < 0)), .int .i64 f, .slice a zs.length cap, px27, .agg #[.int .i64 cy, .int .i64 ry, .string py], .agg #[.int .i64 cy, .int .i64 ry, .string py], .agg #[.int .i64 c, .slice a3 rs.length cap3], undef, undef, undef, undef, undef, undef, undef, undef, undef, undef, undef, undef, undef, undef, undef, undef, undef, undef, undef, undef, undef, undef, undef, undef, undef, undef, undef, undef, undef, undef, undef, undef, undef, undef, undef, undef, undef, undef, undef, undef, undef, undef, undef, undef, undef, undef, undef, undef, undef, undef, undef, undef, undef, undef, undef, undef], defers := [] } ∧ Led.Got w2 c rs W bw g3 (.slice a3 rs.length cap3)) := ⟨_, rfl⟩
  have HPQ : Hid (∀ x a a' w, Q9 (Exit.panic x) a w → Q9 (Exit.panic x) a' w) := by rw [HQ9.out]; exact fun x a a' w h => (h : False).elim
  refine Code.wp_mono (Q := Q9) ?_ ?_
  rotate_left
  · refine wp_region_held_drew (S := (fun W' : World => W'.cell? ⟨w.heap.size, 0, none⟩ = some (.int .i64 cy) ∧ W'.cell? ⟨w.heap.size, 1, none⟩ = some (.int .i64 ry) ∧ W'.cell? ⟨w.heap.size, 2, none⟩ = some (.string py))) (by kernel_rfl) (HS.out _ ((Ext.refl _).drew)) (fun hHeld => ?_)
    have F0 : Hid (Ext w2 w2.drew) := (Ext.refl _).drew
    refine wpAnyH_take (i := 0) (oi := { dst := some 25, op := Op.move (.tmp 0), type := 2, pos := "exact.go:4905", after := #[], guard := none }) (v := ?_) rfl (by kernel_rfl) (by kernel_rfl) (by kernel_rfl) (fun _ _ _ h => HPQ.out _ _ _ _ h) (Or.inl ⟨by rfl, ?_⟩) (by assumption) ?_
    rotate_left
    · intro w' hSw; (try dsimp only at hSw); go_simp; try with_reducible rfl
    (try simp only [Act.put, List.setIfInBounds_toArray, List.set_cons_zero, List.set_cons_succ])
    refine wpAnyH_take (i := 1) (oi := { dst := some 26, op := Op.move (.tmp 1), type := 22, pos := "exact.go:4905", after := #[], guard := none }) (v := ?_) rfl (by kernel_rfl) (by kernel_rfl) (by kernel_rfl) (fun _ _ _ h => HPQ.out _ _ _ _ h) (Or.inl ⟨by rfl, ?_⟩) (by assumption) ?_
    rotate_left
    · intro w' hSw; (try dsimp only at hSw); go_simp; try with_reducible rfl
    (try simp only [Act.put, List.setIfInBounds_toArray, List.set_cons_zero, List.set_cons_succ])
    refine wpAnyH_take (i := 3) (oi := { dst := some 28, op := Op.load 30 (.tmp 5), type := 30, pos := "exact.go:4905", after := #[], guard := none }) (v := ?_) rfl (by kernel_rfl) (by kernel_rfl) (by kernel_rfl) (fun _ _ _ h => HPQ.out _ _ _ _ h) (Or.inl ⟨by rfl, ?_⟩) (by assumption) ?_
    rotate_left
    · intro w' hSw; (try dsimp only at hSw); go_simp; try with_reducible rfl
    (try simp only [Act.put, List.setIfInBounds_toArray, List.set_cons_zero, List.set_cons_succ])
    refine wpAnyH_ready (rs := [2, 6]) (by kernel_rfl) (by simp) (AllReadyH.cons rfl (fun K hK => ?_) (AllReadyH.cons rfl (fun K hK => ?_) AllReadyH.nil))
    · go_simp
      refine (T2.out _ (E2.out.trans F0.out)).mono ?_
      rintro e yp1 ⟨gq, rfl, -, hM, -, hb⟩
      have MAp1 : Hid (VtSlice yp1 (.slice (some ⟨gq, 0, none⟩) zs.length zs.length) zs) := hM
      clear hM
      have Fp1 : Hid (Ext w2 yp1) := F0.out.trans hb
      clear hb
      refine hK.out _ _ (HS.out _ Fp1.out) (fun hHeldp1 => ?_)
      clear hK K
      refine wpAnyH_ready (rs := [4, 6]) (by kernel_rfl) (by simp) (AllReadyH.cons rfl (fun K hK => ?_) (AllReadyH.cons rfl (fun K hK => ?_) AllReadyH.nil))
      · go_simp
        refine (TM.out _).mono ?_
        rintro e yp3 ⟨rfl, hb⟩
        have MAp3 : Hid (VtSlice yp3 (.slice (some ⟨gq, 0, none⟩) zs.length zs.length) zs) := MAp1.out.ext hb
        have Fp3 : Hid (Ext w2 yp3) := Fp1.out.trans hb
        clear hb
        refine hK.out _ _ (HS.out _ Fp3.out) (fun hHeldp3 => ?_)
        clear hK K
        refine wpAnyH_ready (rs := [5, 6]) (by kernel_rfl) (by simp) (AllReadyH.cons rfl (fun K hK => ?_) (AllReadyH.cons rfl (fun K hK => ?_) AllReadyH.nil))
        · go_simp
          refine (HSp.out _ _ MAp3.out).mono ?_
          rintro e yp5 ⟨v3, g3, rfl, hg, hO, hb⟩
          obtain ⟨a3, cap3, rfl, -⟩ := id hO
          have HGQ : Hid (w2.heap.size ≤ g3) := Nat.le_trans Fp3.out.size hg
          unfold Led.jr
          have Op5 : Hid (Led.IOwn yp5 (.slice a3 rs.length cap3) g3 rs) := hO
          clear hO hg
          have Fp5 : Hid (Ext w2 yp5) := Fp3.out.trans hb
          clear hb
          refine hK.out _ _ (HS.out _ Fp5.out) (fun hHeldp5 => ?_)
          clear hK K
          refine wpAnyH_ready (rs := [6]) (by kernel_rfl) (by simp) (AllReadyH.cons rfl (fun K hK => ?_) AllReadyH.nil)
          go_simp
          have Bp7 : Hid (Led.JZ (yp5.alloc (.cells #[.int .i64 0, .slice none 0 0] 34)) yp5.heap.size) := Led.jz_new yp5 34
          have Fp7 : Hid (Ext w2 (yp5.alloc (.cells #[.int .i64 0, .slice none 0 0] 34))) := Fp5.out.alloc _
          have Lp7 : Hid (w2.heap.size ≤ yp5.heap.size) := Fp5.out.size
          have Op7 : Hid (Led.IOwn (yp5.alloc (.cells #[.int .i64 0, .slice none 0 0] 34)) (.slice a3 rs.length cap3) g3 rs ∧ (0 < rs.length → g3 ≠ yp5.heap.size)) := ⟨Op5.out.ext ((Ext.refl _).alloc _), fun h => Nat.ne_of_lt (Op5.out.lt h)⟩
          refine hK.out _ _ (HS.out _ Fp7.out) (fun hHeldp7 => ?_)
          clear hK K
          generalize (yp5.alloc (.cells #[.int .i64 0, .slice none 0 0] 34)) = yp7 at *
          refine wpAnyH_ready (rs := [7]) (by kernel_rfl) (by simp) (AllReadyH.cons rfl (fun K hK => ?_) AllReadyH.nil)
          obtain ⟨bl, b0, b1, bf0, bf1⟩ := Bp7.out
          go_simp
          have Gp8 : Hid (Led.Got w2 c rs ((yp7.setCell ⟨yp5.heap.size, 0, none⟩ (.int .i64 c)).setCell ⟨yp5.heap.size, 1, none⟩ (.slice a3 rs.length cap3)) yp5.heap.size g3 (.slice a3 rs.length cap3)) := Led.Got.set Fp7.out Lp7.out Bp7.out Op7.out.1 Op7.out.2 HGQ.out
          refine hK.out _ _ (HS.out _ Gp8.out.1) (fun hHeldp8 => ?_)
          clear hK K
          refine wpAnyH_done (by kernel_rfl) ?_ _
          rw [HQ9.out]
          exact ⟨yp5.heap.size, g3, cap3, a3, _, rfl, Gp8.out⟩
        · go_simp
          have Bp6 : Hid (Led.JZ (yp3.alloc (.cells #[.int .i64 0, .slice none 0 0] 34)) yp3.heap.size) := Led.jz_new yp3 34
          have Fp6 : Hid (Ext w2 (yp3.alloc (.cells #[.int .i64 0, .slice none 0 0] 34))) := Fp3.out.alloc _
          have Lp6 : Hid (w2.heap.size ≤ yp3.heap.size) := Fp3.out.size
          have MAp6 : Hid (VtSlice (yp3.alloc (.cells #[.int .i64 0, .slice none 0 0] 34)) (.slice (some ⟨gq, 0, none⟩) zs.length zs.length) zs) := MAp3.out.ext ((Ext.refl _).alloc _)
          refine hK.out _ _ (HS.out _ Fp6.out) (fun hHeldp6 => ?_)
          clear hK K
          generalize (yp3.alloc (.cells #[.int .i64 0, .slice none 0 0] 34)) = yp6 at *
          refine wpAnyH_ready (rs := [5]) (by kernel_rfl) (by simp) (AllReadyH.cons rfl (fun K hK => ?_) AllReadyH.nil)
          go_simp
          refine (HSp.out _ _ MAp6.out).mono ?_
          rintro e yp9 ⟨v3, g3, rfl, hg, hO, hb⟩
          obtain ⟨a3, cap3, rfl, -⟩ := id hO
          have HGQ : Hid (w2.heap.size ≤ g3) := Nat.le_trans Fp6.out.size hg
          unfold Led.jr
          have Op9 : Hid (Led.IOwn yp9 (.slice a3 rs.length cap3) g3 rs ∧ (0 < rs.length → g3 ≠ yp3.heap.size)) := ⟨hO, fun _ => Nat.ne_of_gt (Nat.lt_of_lt_of_le Bp6.out.1 hg)⟩
          clear hO hg
          have Fp9 : Hid (Ext w2 yp9) := Fp6.out.trans hb
          have Bp9 : Hid (Led.JZ yp9 yp3.heap.size) := Bp6.out.ext hb
          clear hb
          refine hK.out _ _ (HS.out _ Fp9.out) (fun hHeldp9 => ?_)
          clear hK K
          refine wpAnyH_ready (rs := [7]) (by kernel_rfl) (by simp) (AllReadyH.cons rfl (fun K hK => ?_) AllReadyH.nil)
          obtain ⟨bl, b0, b1, bf0, bf1⟩ := Bp9.out
          go_simp
          have Gp10 : Hid (Led.Got w2 c rs ((yp9.setCell ⟨yp3.heap.size, 0, none⟩ (.int .i64 c)).setCell ⟨yp3.heap.size, 1, none⟩ (.slice a3 rs.length cap3)) yp3.heap.size g3 (.slice a3 rs.length cap3)) := Led.Got.set Fp9.out Lp6.out Bp9.out Op9.out.1 Op9.out.2 HGQ.out
          refine hK.out _ _ (HS.out _ Gp10.out.1) (fun hHeldp10 => ?_)
          clear hK K
          refine wpAnyH_done (by kernel_rfl) ?_ _
          rw [HQ9.out]
          exact ⟨yp3.heap.size, g3, cap3, a3, _, rfl, Gp10.out⟩
      · go_simp
        have Bp4 : Hid (Led.JZ (yp1.alloc (.cells #[.int .i64 0, .slice none 0 0] 34)) yp1.heap.size) := Led.jz_new yp1 34
        have Fp4 : Hid (Ext w2 (yp1.alloc (.cells #[.int .i64 0, .slice none 0 0] 34))) := Fp1.out.alloc _
        have Lp4 : Hid (w2.heap.size ≤ yp1.heap.size) := Fp1.out.size
        have MAp4 : Hid (VtSlice (yp1.alloc (.cells #[.int .i64 0, .slice none 0 0] 34)) (.slice (some ⟨gq, 0, none⟩) zs.length zs.length) zs) := MAp1.out.ext ((Ext.refl _).alloc _)
        refine hK.out _ _ (HS.out _ Fp4.out) (fun hHeldp4 => ?_)
        clear hK K
        generalize (yp1.alloc (.cells #[.int .i64 0, .slice none 0 0] 34)) = yp4 at *
        refine wpAnyH_ready (rs := [4]) (by kernel_rfl) (by simp) (AllReadyH.cons rfl (fun K hK => ?_) AllReadyH.nil)
        go_simp
        refine (TM.out _).mono ?_
        rintro e yp11 ⟨rfl, hb⟩
        have MAp11 : Hid (VtSlice yp11 (.slice (some ⟨gq, 0, none⟩) zs.length zs.length) zs) := MAp4.out.ext hb
        have Fp11 : Hid (Ext w2 yp11) := Fp4.out.trans hb
        have Bp11 : Hid (Led.JZ yp11 yp1.heap.size) := Bp4.out.ext hb
        clear hb
        refine hK.out _ _ (HS.out _ Fp11.out) (fun hHeldp11 => ?_)
        clear hK K
        refine wpAnyH_ready (rs := [5]) (by kernel_rfl) (by simp) (AllReadyH.cons rfl (fun K hK => ?_) AllReadyH.nil)
        go_simp
        refine (HSp.out _ _ MAp11.out).mono ?_
        rintro e yp12 ⟨v3, g3, rfl, hg, hO, hb⟩
        obtain ⟨a3, cap3, rfl, -⟩ := id hO
        have HGQ : Hid (w2.heap.size ≤ g3) := Nat.le_trans Fp11.out.size hg
        unfold Led.jr
        have Op12 : Hid (Led.IOwn yp12 (.slice a3 rs.length cap3) g3 rs ∧ (0 < rs.length → g3 ≠ yp1.heap.size)) := ⟨hO, fun _ => Nat.ne_of_gt (Nat.lt_of_lt_of_le Bp11.out.1 hg)⟩
        clear hO hg
        have Fp12 : Hid (Ext w2 yp12) := Fp11.out.trans hb
        have Bp12 : Hid (Led.JZ yp12 yp1.heap.size) := Bp11.out.ext hb
        clear hb
        refine hK.out _ _ (HS.out _ Fp12.out) (fun hHeldp12 => ?_)
        clear hK K
        refine wpAnyH_ready (rs := [7]) (by kernel_rfl) (by simp) (AllReadyH.cons rfl (fun K hK => ?_) AllReadyH.nil)
        obtain ⟨bl, b0, b1, bf0, bf1⟩ := Bp12.out
        go_simp
        have Gp13 : Hid (Led.Got w2 c rs ((yp12.setCell ⟨yp1.heap.size, 0, none⟩ (.int .i64 c)).setCell ⟨yp1.heap.size, 1, none⟩ (.slice a3 rs.length cap3)) yp1.heap.size g3 (.slice a3 rs.length cap3)) := Led.Got.set Fp12.out Lp4.out Bp12.out Op12.out.1 Op12.out.2 HGQ.out
        refine hK.out _ _ (HS.out _ Gp13.out.1) (fun hHeldp13 => ?_)
        clear hK K
        refine wpAnyH_done (by kernel_rfl) ?_ _
        rw [HQ9.out]
        exact ⟨yp1.heap.size, g3, cap3, a3, _, rfl, Gp13.out⟩
    · go_simp
      have Bp2 : Hid (Led.JZ (w2.alloc (.cells #[.int .i64 0, .slice none 0 0] 34)).drew w2.heap.size) := Led.jz_new w2.drew 34
      have Fp2 : Hid (Ext w2 (w2.alloc (.cells #[.int .i64 0, .slice none 0 0] 34)).drew) := F0.out.alloc _
      have Lp2 : Hid (w2.heap.size ≤ w2.heap.size) := F0.out.size
      refine hK.out _ _ (HS.out _ Fp2.out) (fun hHeldp2 => ?_)
      clear hK K
      generalize (w2.alloc (.cells #[.int .i64 0, .slice none 0 0] 34)).drew = yp2 at *
      refine wpAnyH_ready (rs := [2]) (by kernel_rfl) (by simp) (AllReadyH.cons rfl (fun K hK => ?_) AllReadyH.nil)
      go_simp
      refine (T2.out _ (E2.out.trans Fp2.out)).mono ?_
      rintro e yp14 ⟨gq, rfl, -, hM, -, hb⟩
      have MAp14 : Hid (VtSlice yp14 (.slice (some ⟨gq, 0, none⟩) zs.length zs.length) zs) := hM
      clear hM
      have Fp14 : Hid (Ext w2 yp14) := Fp2.out.trans hb
      have Bp14 : Hid (Led.JZ yp14 w2.heap.size) := Bp2.out.ext hb
      clear hb
      refine hK.out _ _ (HS.out _ Fp14.out) (fun hHeldp14 => ?_)
      clear hK K
      refine wpAnyH_ready (rs := [4]) (by kernel_rfl) (by simp) (AllReadyH.cons rfl (fun K hK => ?_) AllReadyH.nil)
      go_simp
      refine (TM.out _).mono ?_
      rintro e yp15 ⟨rfl, hb⟩
      have MAp15 : Hid (VtSlice yp15 (.slice (some ⟨gq, 0, none⟩) zs.length zs.length) zs) := MAp14.out.ext hb
      have Fp15 : Hid (Ext w2 yp15) := Fp14.out.trans hb
      have Bp15 : Hid (Led.JZ yp15 w2.heap.size) := Bp14.out.ext hb
      clear hb
      refine hK.out _ _ (HS.out _ Fp15.out) (fun hHeldp15 => ?_)
      clear hK K
      refine wpAnyH_ready (rs := [5]) (by kernel_rfl) (by simp) (AllReadyH.cons rfl (fun K hK => ?_) AllReadyH.nil)
      go_simp
      refine (HSp.out _ _ MAp15.out).mono ?_
      rintro e yp16 ⟨v3, g3, rfl, hg, hO, hb⟩
      obtain ⟨a3, cap3, rfl, -⟩ := id hO
      have HGQ : Hid (w2.heap.size ≤ g3) := Nat.le_trans Fp15.out.size hg
      unfold Led.jr
      have Op16 : Hid (Led.IOwn yp16 (.slice a3 rs.length cap3) g3 rs ∧ (0 < rs.length → g3 ≠ w2.heap.size)) := ⟨hO, fun _ => Nat.ne_of_gt (Nat.lt_of_lt_of_le Bp15.out.1 hg)⟩
      clear hO hg
      have Fp16 : Hid (Ext w2 yp16) := Fp15.out.trans hb
      have Bp16 : Hid (Led.JZ yp16 w2.heap.size) := Bp15.out.ext hb
      clear hb
      refine hK.out _ _ (HS.out _ Fp16.out) (fun hHeldp16 => ?_)
      clear hK K
      refine wpAnyH_ready (rs := [7]) (by kernel_rfl) (by simp) (AllReadyH.cons rfl (fun K hK => ?_) AllReadyH.nil)
      obtain ⟨bl, b0, b1, bf0, bf1⟩ := Bp16.out
      go_simp
      have Gp17 : Hid (Led.Got w2 c rs ((yp16.setCell ⟨w2.heap.size, 0, none⟩ (.int .i64 c)).setCell ⟨w2.heap.size, 1, none⟩ (.slice a3 rs.length cap3)) w2.heap.size g3 (.slice a3 rs.length cap3)) := Led.Got.set Fp16.out Lp2.out Bp16.out Op16.out.1 Op16.out.2 HGQ.out
      refine hK.out _ _ (HS.out _ Gp17.out.1) (fun hHeldp17 => ?_)
      clear hK K
      refine wpAnyH_done (by kernel_rfl) ?_ _
      rw [HQ9.out]
      exact ⟨w2.heap.size, g3, cap3, a3, _, rfl, Gp17.out⟩
  rintro e fr W hN
  rw [HQ9.out] at hN
  clear HQ9 HPQ
  obtain ⟨rfl, hN⟩ := hN.out
  obtain ⟨bw, gw, capw, aw, px27, rfl, hFX⟩ := hN
  clear HS
  have E3 : Hid (Ext w W) := E2.out.trans hFX.1
  have A3 : Hid (RyAt W w.heap.size (.int .i64 cy) (.int .i64 ry) (.string py)) := A2.out.ext hFX.1
  have G3 : Hid (w.heap.size < w2.heap.size ∧ w2.heap.size ≤ bw ∧ bw < W.heap.size ∧ w2.heap.size ≤ gw) := ⟨A2.out.1, hFX.2.1, hFX.2.2.1.1, hFX.2.2.2.2⟩
  have B3 : Hid (Led.JBoxAt W bw c (.slice aw rs.length capw)) := hFX.2.2.1
  have O3 : Hid (Led.IOwn W (.slice aw rs.length capw) gw rs) := hFX.2.2.2.1
  have L3 : Hid (0 < rs.length → gw < W.heap.size) := O3.out.lt
  clear hFX E2 A2
  obtain ⟨w3, hw3⟩ : ∃ w3, w3 = W := ⟨_, rfl⟩
  subst hw3
  go_wp2_with fail
  refine (T2.out _ E3.out).mono ?_
  rintro e w4 ⟨gx, rfl, hgx, hM, hL, hb⟩
  have X4 : Hid (VtSlice w4 (.slice (some ⟨gx, 0, none⟩) zs.length zs.length) zs) := hM
  have Y4 : Hid (VtRoom w4 gx 0 zs.length) := hL
  have G4 : Hid (gx = w3.heap.size ∧ w3.heap.size < w4.heap.size) := ⟨hgx, by have := hL.1; omega⟩
  clear hM hL hgx
  have E4 : Hid (Ext w w4) := E3.out.trans hb
  have A4 : Hid (RyAt w4 w.heap.size (.int .i64 cy) (.int .i64 ry) (.string py)) := A3.out.ext hb
  have B4 : Hid (Led.JBoxAt w4 bw c (.slice aw rs.length capw)) := B3.out.ext hb
  have O4 : Hid (Led.IOwn w4 (.slice aw rs.length capw) gw rs) := O3.out.ext hb
  clear E3 A3 B3 O3
  clear hb
  obtain ⟨kal, ⟨ka0, ka1, ka2⟩, -⟩ := A4.out
  go_wp2_with fail
  refine (TM.out _).mono ?_
  rintro e w5 ⟨rfl, hb⟩
  clear kal ka0 ka1 ka2
  have E5 : Hid (Ext w w5) := E4.out.trans hb
  have A5 : Hid (RyAt w5 w.heap.size (.int .i64 cy) (.int .i64 ry) (.string py)) := A4.out.ext hb
  have B5 : Hid (Led.JBoxAt w5 bw c (.slice aw rs.length capw)) := B4.out.ext hb
  have O5 : Hid (Led.IOwn w5 (.slice aw rs.length capw) gw rs) := O4.out.ext hb
  have X5 : Hid (VtSlice w5 (.slice (some ⟨gx, 0, none⟩) zs.length zs.length) zs) := X4.out.ext hb
  have Y5 : Hid (VtRoom w5 gx 0 zs.length) := Y4.out.ext hb
  clear E4 A4 B4 O4 X4 Y4
  clear hb
  go_wp2_with fail
  refine (HIm.out _ _ X5.out).mono ?_
  rintro e w6 ⟨v6, g6, rfl, hg6, hO, hb⟩
  obtain ⟨a6, cap6, rfl, -⟩ := id hO
  have R6 : Hid (Led.IOwn w6 (.slice a6 rs.length cap6) g6 rs) := hO
  have G6 : Hid (gx < g6 ∧ gx < w6.heap.size) := by have h := hb.size; have := Y5.out.1; exact ⟨by omega, by omega⟩
  have N6 : Hid (0 < rs.length → g6 < w6.heap.size) := hO.lt
  clear hO hg6
  have E6 : Hid (Ext w w6) := E5.out.trans hb
  have A6 : Hid (RyAt w6 w.heap.size (.int .i64 cy) (.int .i64 ry) (.string py)) := A5.out.ext hb
  have B6 : Hid (Led.JBoxAt w6 bw c (.slice aw rs.length capw)) := B5.out.ext hb
  have O6 : Hid (Led.IOwn w6 (.slice aw rs.length capw) gw rs) := O5.out.ext hb
  have X6 : Hid (VtSlice w6 (.slice (some ⟨gx, 0, none⟩) zs.length zs.length) zs) := X5.out.ext hb
  have Y6 : Hid (VtRoom w6 gx 0 zs.length) := Y5.out.ext hb
  clear E5 A5 B5 O5 X5 Y5
  clear hb
  unfold Led.jr
  obtain ⟨kbl, kb0, kb1⟩ := B6.out
  have hal := alloc_cell
  go_wp2_with fail
  refine (HEq.out _ _ _ (R6.out.slice.ext ((Ext.refl _).alloc _)) (O6.out.slice.ext ((Ext.refl _).alloc _))).mono ?_
  rintro e w7 ⟨rfl, hb⟩
  clear kbl kb0 kb1 hal
  have D7 : Hid (Led.JBoxAt w7 w6.heap.size c (.slice a6 rs.length cap6)) := (Led.jbox_new w6 c _ _).ext hb
  have hb := ((Ext.refl w6).alloc _).trans hb
  have E7 : Hid (Ext w w7) := E6.out.trans hb
  have A7 : Hid (RyAt w7 w.heap.size (.int .i64 cy) (.int .i64 ry) (.string py)) := A6.out.ext hb
  have B7 : Hid (Led.JBoxAt w7 bw c (.slice aw rs.length capw)) := B6.out.ext hb
  have O7 : Hid (Led.IOwn w7 (.slice aw rs.length capw) gw rs) := O6.out.ext hb
  have X7 : Hid (VtSlice w7 (.slice (some ⟨gx, 0, none⟩) zs.length zs.length) zs) := X6.out.ext hb
  have Y7 : Hid (VtRoom w7 gx 0 zs.length) := Y6.out.ext hb
  have R7 : Hid (Led.IOwn w7 (.slice a6 rs.length cap6) g6 rs) := R6.out.ext hb
  clear E6 A6 B6 O6 X6 Y6 R6
  clear hb
  obtain ⟨bd, hbd⟩ : ∃ bd, bd = w6.heap.size := ⟨_, rfl⟩
  rw [← hbd] at D7 G6 N6 ⊢
  clear hbd
  go_wp2_with fail
  refine (T2.out _ E7.out).mono ?_
  rintro e w8 ⟨g8, rfl, -, hM, -, hb⟩
  have M8 : Hid (VtSlice w8 (.slice (some ⟨g8, 0, none⟩) zs.length zs.length) zs) := hM
  clear hM
  have E8 : Hid (Ext w w8) := E7.out.trans hb
  have A8 : Hid (RyAt w8 w.heap.size (.int .i64 cy) (.int .i64 ry) (.string py)) := A7.out.ext hb
  have B8 : Hid (Led.JBoxAt w8 bw c (.slice aw rs.length capw)) := B7.out.ext hb
  have O8 : Hid (Led.IOwn w8 (.slice aw rs.length capw) gw rs) := O7.out.ext hb
  have X8 : Hid (VtSlice w8 (.slice (some ⟨gx, 0, none⟩) zs.length zs.length) zs) := X7.out.ext hb
  have Y8 : Hid (VtRoom w8 gx 0 zs.length) := Y7.out.ext hb
  have R8 : Hid (Led.IOwn w8 (.slice a6 rs.length cap6) g6 rs) := R7.out.ext hb
  have D8 : Hid (Led.JBoxAt w8 bd c (.slice a6 rs.length cap6)) := D7.out.ext hb
  clear E7 A7 B7 O7 X7 Y7 R7 D7
  clear hb
  go_wp2_with fail
  refine (HEm.out _ _ _ X8.out M8.out).mono ?_
  rintro e w9 ⟨rfl, hb⟩
  clear M8
  have E9 : Hid (Ext w w9) := E8.out.trans hb
  have A9 : Hid (RyAt w9 w.heap.size (.int .i64 cy) (.int .i64 ry) (.string py)) := A8.out.ext hb
  have B9 : Hid (Led.JBoxAt w9 bw c (.slice aw rs.length capw)) := B8.out.ext hb
  have O9 : Hid (Led.IOwn w9 (.slice aw rs.length capw) gw rs) := O8.out.ext hb
  have Y9 : Hid (VtRoom w9 gx 0 zs.length) := Y8.out.ext hb
  have R9 : Hid (Led.IOwn w9 (.slice a6 rs.length cap6) g6 rs) := R8.out.ext hb
  have D9 : Hid (Led.JBoxAt w9 bd c (.slice a6 rs.length cap6)) := D8.out.ext hb
  clear E8 A8 B8 O8 X8 Y8 R8 D8
  clear hb
  go_wp2_with fail
  refine (HMk.out _ _ Y9.out).mono ?_
  rintro e w12 ⟨kk, rfl, hkk, hu⟩
  have E12 : Hid (Ext w w12) := hu.to_ext E9.out (by have := G3.out; have := G4.out; have := G6.out; omega)
  have A12 : Hid (RyAt w12 w.heap.size (.int .i64 cy) (.int .i64 ry) (.string py)) := Vot.ry_upd A9.out hu (by have := G3.out; have := G4.out; have := G6.out; omega)
  have B12 : Hid (Led.JBoxAt w12 bw c (.slice aw rs.length capw)) := B9.out.upd hu (by have := G3.out; have := G4.out; have := G6.out; omega)
  have O12 : Hid (Led.IOwn w12 (.slice aw rs.length capw) gw rs) := O9.out.upd' hu (fun h => by have := L3.out h; have := G3.out; have := G4.out; have := G6.out; omega)
  have R12 : Hid (Led.IOwn w12 (.slice a6 rs.length cap6) g6 rs) := R9.out.upd' hu (fun h => by have := G3.out; have := G4.out; have := G6.out; omega)
  have D12 : Hid (Led.JBoxAt w12 bd c (.slice a6 rs.length cap6)) := D9.out.upd hu (by have := G3.out; have := G4.out; have := G6.out; omega)
  clear hu E9 A9 B9 O9 Y9 R9 D9
  obtain ⟨kbl, kb0, kb1⟩ := B12.out
  obtain ⟨kdl, kd0, kd1⟩ := D12.out
  go_wp2_with fail
  refine (HEq.out _ _ _ R12.out.slice O12.out.slice).mono ?_
  rintro e w14 ⟨rfl, hb⟩
  clear kbl kb0 kb1 kdl kd0 kd1
  have E14 : Hid (Ext w w14) := E12.out.trans hb
  have A14 : Hid (RyAt w14 w.heap.size (.int .i64 cy) (.int .i64 ry) (.string py)) := A12.out.ext hb
  have B14 : Hid (Led.JBoxAt w14 bw c (.slice aw rs.length capw)) := B12.out.ext hb
  have O14 : Hid (Led.IOwn w14 (.slice aw rs.length capw) gw rs) := O12.out.ext hb
  have R14 : Hid (Led.IOwn w14 (.slice a6 rs.length cap6) g6 rs) := R12.out.ext hb
  have D14 : Hid (Led.JBoxAt w14 bd c (.slice a6 rs.length cap6)) := D12.out.ext hb
  clear E12 A12 B12 O12 R12 D12
  clear hb
  obtain ⟨gz, hgz, hRz, hcase⟩ := R14.out.pick
  have RZ : Hid (Led.IOwn w14 (.slice a6 rs.length cap6) gz rs) := hRz
  have CZ : Hid (gz ≤ w14.heap.size ∧ (gz = w14.heap.size ∧ ¬ 0 < rs.length ∨ (gz = g6 ∧ g6 < w14.heap.size ∧ 0 < rs.length))) := ⟨hgz, hcase⟩
  clear hRz hcase R14 hgz
  obtain ⟨kdl, kd0, kd1⟩ := D14.out
  go_wp2_with fail
  refine (HMi.out _ _ _ RZ.out CZ.out.1).mono ?_
  rintro e w15 ⟨rfl, hQ, hu⟩
  clear kdl kd0 kd1
  have E15 : Hid (Ext w w15) := hu.to_ext E14.out (by have := CZ.out; have := G3.out; have := G4.out; have := G6.out; have := E14.out.size; omega)
  have A15 : Hid (RyAt w15 w.heap.size (.int .i64 cy) (.int .i64 ry) (.string py)) := Vot.ry_upd A14.out hu (by have := CZ.out; have := G3.out; have := G4.out; have := G6.out; have := A14.out.1; have := N6.out; omega)
  have B15 : Hid (Led.JBoxAt w15 bw c (.slice aw rs.length capw)) := B14.out.upd hu (by have := CZ.out; have := G3.out; have := G4.out; have := G6.out; have := B14.out.1; have := N6.out; omega)
  have D15 : Hid (Led.JBoxAt w15 bd c (.slice a6 rs.length cap6)) := D14.out.upd hu (by have := CZ.out; have := G3.out; have := G4.out; have := G6.out; have := D14.out.1; have := N6.out; omega)
  have O15 : Hid (Led.IOwn w15 (.slice aw rs.length capw) gw rs) := O14.out.upd' hu (fun h => by have := CZ.out; have := G3.out; have := G4.out; have := G6.out; have := L3.out h; omega)
  have T15 : Hid (ISlice w15 (.slice a6 rs.length cap6) (Led.imarks 1 rs.length)) := hQ.slice
  clear hu hQ RZ E14 A14 B14 O14 D14
  obtain ⟨kdl, kd0, kd1⟩ := D15.out
  go_wp2_with fail
  refine (HHe.out _ _ T15.out).mono ?_
  rintro e w16 ⟨rfl, hb⟩
  clear kdl kd0 kd1
  have E16 : Hid (Ext w w16) := E15.out.trans hb
  have A16 : Hid (RyAt w16 w.heap.size (.int .i64 cy) (.int .i64 ry) (.string py)) := A15.out.ext hb
  have B16 : Hid (Led.JBoxAt w16 bw c (.slice aw rs.length capw)) := B15.out.ext hb
  have O16 : Hid (Led.IOwn w16 (.slice aw rs.length capw) gw rs) := O15.out.ext hb
  have D16 : Hid (Led.JBoxAt w16 bd c (.slice a6 rs.length cap6)) := D15.out.ext hb
  have T16 : Hid (ISlice w16 (.slice a6 rs.length cap6) (Led.imarks 1 rs.length)) := T15.out.ext hb
  clear E15 A15 B15 O15 D15 T15
  clear hb
  clear G3 G4 G6
  have HS : Hid (∀ W', Ext w16 W' → (fun W' : World => W'.cell? ⟨w.heap.size, 0, none⟩ = some (.int .i64 cy) ∧ W'.cell? ⟨w.heap.size, 1, none⟩ = some (.int .i64 ry) ∧ W'.cell? ⟨w.heap.size, 2, none⟩ = some (.string py)) W') := fun W' he => (A16.out.ext he).2.1
  go_wp2
  refine wp_region_held_drew (S := (fun W' : World => W'.cell? ⟨w.heap.size, 0, none⟩ = some (.int .i64 cy) ∧ W'.cell? ⟨w.heap.size, 1, none⟩ = some (.int .i64 ry) ∧ W'.cell? ⟨w.heap.size, 2, none⟩ = some (.string py))) (by kernel_rfl) (HS.out _ ((Ext.refl _).drew)) (fun hHeld => ?_)
  have F0 : Hid (Ext w16 w16.drew) := (Ext.refl _).drew
  refine tk 0 { dst := some 69, op := Op.move (.tmp 0), type := 2, pos := "exact.go:4929", after := #[], guard := none } ?_
  refine tk 1 { dst := some 70, op := Op.move (.tmp 1), type := 22, pos := "exact.go:4929", after := #[], guard := none } ?_
  refine tk 3 { dst := some 72, op := Op.load 30 (.tmp 5), type := 30, pos := "exact.go:4929", after := #[], guard := none } ?_
  refine wpAnyH_ready (rs := [2, 6]) (by kernel_rfl) (by simp) (AllReadyH.cons rfl (fun K hK => ?_) (AllReadyH.cons rfl (fun K hK => ?_) AllReadyH.nil))
  · go_simp
    refine (T2.out _ (E16.out.trans F0.out)).mono ?_
    rintro e yz1 ⟨gq, rfl, -, hM, -, hb⟩
    have MAz1 : Hid (VtSlice yz1 (.slice (some ⟨gq, 0, none⟩) zs.length zs.length) zs) := hM
    clear hM
    have Fz1 : Hid (Ext w16 yz1) := F0.out.trans hb
    clear hb
    refine hK.out _ _ (HS.out _ Fz1.out) (fun hHeldz1 => ?_)
    clear hK K
    refine wpAnyH_ready (rs := [4, 6]) (by kernel_rfl) (by simp) (AllReadyH.cons rfl (fun K hK => ?_) (AllReadyH.cons rfl (fun K hK => ?_) AllReadyH.nil))
    · go_simp
      refine (TM.out _).mono ?_
      rintro e yz3 ⟨rfl, hb⟩
      have MAz3 : Hid (VtSlice yz3 (.slice (some ⟨gq, 0, none⟩) zs.length zs.length) zs) := MAz1.out.ext hb
      have Fz3 : Hid (Ext w16 yz3) := Fz1.out.trans hb
      clear hb
      refine hK.out _ _ (HS.out _ Fz3.out) (fun hHeldz3 => ?_)
      clear hK K
      refine wpAnyH_ready (rs := [5, 6]) (by kernel_rfl) (by simp) (AllReadyH.cons rfl (fun K hK => ?_) (AllReadyH.cons rfl (fun K hK => ?_) AllReadyH.nil))
      · go_simp
        refine (HIm.out _ _ MAz3.out).mono ?_
        rintro e yz5 ⟨v3, g3, rfl, hg, hO, hb⟩
        obtain ⟨a3, cap3, rfl, -⟩ := id hO
        have HGQ : Hid (w16.heap.size ≤ g3) := Nat.le_trans Fz3.out.size hg
        unfold Led.jr
        have Oz5 : Hid (Led.IOwn yz5 (.slice a3 rs.length cap3) g3 rs) := hO
        clear hO hg
        have Fz5 : Hid (Ext w16 yz5) := Fz3.out.trans hb
        clear hb
        refine hK.out _ _ (HS.out _ Fz5.out) (fun hHeldz5 => ?_)
        clear hK K
        refine wpAnyH_ready (rs := [6]) (by kernel_rfl) (by simp) (AllReadyH.cons rfl (fun K hK => ?_) AllReadyH.nil)
        go_simp
        have Bz7 : Hid (Led.JZ (yz5.alloc (.cells #[.int .i64 0, .slice none 0 0] 34)) yz5.heap.size) := Led.jz_new yz5 34
        have Fz7 : Hid (Ext w16 (yz5.alloc (.cells #[.int .i64 0, .slice none 0 0] 34))) := Fz5.out.alloc _
        have Lz7 : Hid (w16.heap.size ≤ yz5.heap.size) := Fz5.out.size
        have Oz7 : Hid (Led.IOwn (yz5.alloc (.cells #[.int .i64 0, .slice none 0 0] 34)) (.slice a3 rs.length cap3) g3 rs ∧ (0 < rs.length → g3 ≠ yz5.heap.size)) := ⟨Oz5.out.ext ((Ext.refl _).alloc _), fun h => Nat.ne_of_lt (Oz5.out.lt h)⟩
        refine hK.out _ _ (HS.out _ Fz7.out) (fun hHeldz7 => ?_)
        clear hK K
        generalize (yz5.alloc (.cells #[.int .i64 0, .slice none 0 0] 34)) = yz7 at *
        refine wpAnyH_ready (rs := [7]) (by kernel_rfl) (by simp) (AllReadyH.cons rfl (fun K hK => ?_) AllReadyH.nil)
        obtain ⟨bl, b0, b1, bf0, bf1⟩ := Bz7.out
        go_simp
        have Gz8 : Hid (Led.Got w16 c rs ((yz7.setCell ⟨yz5.heap.size, 0, none⟩ (.int .i64 c)).setCell ⟨yz5.heap.size, 1, none⟩ (.slice a3 rs.length cap3)) yz5.heap.size g3 (.slice a3 rs.length cap3)) := Led.Got.set Fz7.out Lz7.out Bz7.out Oz7.out.1 Oz7.out.2 HGQ.out
        refine hK.out _ _ (HS.out _ Gz8.out.1) (fun hHeldz8 => ?_)
        clear hK K
        refine wpAnyH_done (by kernel_rfl) ?_ _
        have hFX := Gz8.out
        generalize (yz7.setCell ⟨yz5.heap.size, 0, none⟩ (.int .i64 c)).setCell ⟨yz5.heap.size, 1, none⟩ (.slice a3 rs.length cap3) = W at hFX ⊢
        have Az : Hid (RyAt W w.heap.size (.int .i64 cy) (.int .i64 ry) (.string py)) := A16.out.ext hFX.1
        have Bz : Hid (Led.JBoxAt W bw c (.slice aw rs.length capw)) := B16.out.ext hFX.1
        have Oz : Hid (Led.IOwn W (.slice aw rs.length capw) gw rs) := O16.out.ext hFX.1
        have Dz : Hid (Led.JBoxAt W bd c (.slice a6 rs.length cap6)) := D16.out.ext hFX.1
        have Tz : Hid (ISlice W (.slice a6 rs.length cap6) (Led.imarks 1 rs.length)) := T16.out.ext hFX.1
        have Ez : Hid (Ext w W) := E16.out.trans hFX.1
        have Hz : Hid (Led.JBoxAt W yz5.heap.size c (.slice a3 rs.length cap3)) := hFX.2.2.1
        have Uz : Hid (Led.IOwn W (.slice a3 rs.length cap3) g3 rs) := hFX.2.2.2.1
        clear hFX E16 A16 B16 O16 D16 T16
        obtain ⟨bl9, b09, b19⟩ := Bz.out
        obtain ⟨hl9, h09, h19⟩ := Hz.out
        go_wp2_with fail
        refine (HEq.out _ _ _ Uz.out.slice Oz.out.slice).mono ?_
        rintro e w18 ⟨rfl, hb⟩
        clear bl9 b09 b19 hl9 h09 h19 Hz Uz
        have D18 : Hid (Led.JBoxAt w18 bd c (.slice a6 rs.length cap6)) := Dz.out.ext hb
        have T18 : Hid (ISlice w18 (.slice a6 rs.length cap6) (Led.imarks 1 rs.length)) := Tz.out.ext hb
        have E18 : Hid (Ext w w18) := Ez.out.trans hb
        clear hb Ez Az Bz Oz Dz Tz
        obtain ⟨dl9, d09, d19⟩ := D18.out
        go_wp2_with fail
        refine (HHe.out _ _ T18.out).mono ?_
        rintro e w19 ⟨rfl, hb⟩
        clear dl9 d09 d19
        have E19 : Hid (Ext w w19) := E18.out.trans hb
        clear hb
        go_wp2
        go_ret
        exact ⟨rfl, E19.out⟩
      · go_simp
        have Bz6 : Hid (Led.JZ (yz3.alloc (.cells #[.int .i64 0, .slice none 0 0] 34)) yz3.heap.size) := Led.jz_new yz3 34
        have Fz6 : Hid (Ext w16 (yz3.alloc (.cells #[.int .i64 0, .slice none 0 0] 34))) := Fz3.out.alloc _
        have Lz6 : Hid (w16.heap.size ≤ yz3.heap.size) := Fz3.out.size
        have MAz6 : Hid (VtSlice (yz3.alloc (.cells #[.int .i64 0, .slice none 0 0] 34)) (.slice (some ⟨gq, 0, none⟩) zs.length zs.length) zs) := MAz3.out.ext ((Ext.refl _).alloc _)
        refine hK.out _ _ (HS.out _ Fz6.out) (fun hHeldz6 => ?_)
        clear hK K
        generalize (yz3.alloc (.cells #[.int .i64 0, .slice none 0 0] 34)) = yz6 at *
        refine wpAnyH_ready (rs := [5]) (by kernel_rfl) (by simp) (AllReadyH.cons rfl (fun K hK => ?_) AllReadyH.nil)
        go_simp
        refine (HIm.out _ _ MAz6.out).mono ?_
        rintro e yz9 ⟨v3, g3, rfl, hg, hO, hb⟩
        obtain ⟨a3, cap3, rfl, -⟩ := id hO
        have HGQ : Hid (w16.heap.size ≤ g3) := Nat.le_trans Fz6.out.size hg
        unfold Led.jr
        have Oz9 : Hid (Led.IOwn yz9 (.slice a3 rs.length cap3) g3 rs ∧ (0 < rs.length → g3 ≠ yz3.heap.size)) := ⟨hO, fun _ => Nat.ne_of_gt (Nat.lt_of_lt_of_le Bz6.out.1 hg)⟩
        clear hO hg
        have Fz9 : Hid (Ext w16 yz9) := Fz6.out.trans hb
        have Bz9 : Hid (Led.JZ yz9 yz3.heap.size) := Bz6.out.ext hb
        clear hb
        refine hK.out _ _ (HS.out _ Fz9.out) (fun hHeldz9 => ?_)
        clear hK K
        refine wpAnyH_ready (rs := [7]) (by kernel_rfl) (by simp) (AllReadyH.cons rfl (fun K hK => ?_) AllReadyH.nil)
        obtain ⟨bl, b0, b1, bf0, bf1⟩ := Bz9.out
        go_simp
        have Gz10 : Hid (Led.Got w16 c rs ((yz9.setCell ⟨yz3.heap.size, 0, none⟩ (.int .i64 c)).setCell ⟨yz3.heap.size, 1, none⟩ (.slice a3 rs.length cap3)) yz3.heap.size g3 (.slice a3 rs.length cap3)) := Led.Got.set Fz9.out Lz6.out Bz9.out Oz9.out.1 Oz9.out.2 HGQ.out
        refine hK.out _ _ (HS.out _ Gz10.out.1) (fun hHeldz10 => ?_)
        clear hK K
        refine wpAnyH_done (by kernel_rfl) ?_ _
        have hFX := Gz10.out
        generalize (yz9.setCell ⟨yz3.heap.size, 0, none⟩ (.int .i64 c)).setCell ⟨yz3.heap.size, 1, none⟩ (.slice a3 rs.length cap3) = W at hFX ⊢
        have Az : Hid (RyAt W w.heap.size (.int .i64 cy) (.int .i64 ry) (.string py)) := A16.out.ext hFX.1
        have Bz : Hid (Led.JBoxAt W bw c (.slice aw rs.length capw)) := B16.out.ext hFX.1
        have Oz : Hid (Led.IOwn W (.slice aw rs.length capw) gw rs) := O16.out.ext hFX.1
        have Dz : Hid (Led.JBoxAt W bd c (.slice a6 rs.length cap6)) := D16.out.ext hFX.1
        have Tz : Hid (ISlice W (.slice a6 rs.length cap6) (Led.imarks 1 rs.length)) := T16.out.ext hFX.1
        have Ez : Hid (Ext w W) := E16.out.trans hFX.1
        have Hz : Hid (Led.JBoxAt W yz3.heap.size c (.slice a3 rs.length cap3)) := hFX.2.2.1
        have Uz : Hid (Led.IOwn W (.slice a3 rs.length cap3) g3 rs) := hFX.2.2.2.1
        clear hFX E16 A16 B16 O16 D16 T16
        obtain ⟨bl9, b09, b19⟩ := Bz.out
        obtain ⟨hl9, h09, h19⟩ := Hz.out
        go_wp2_with fail
        refine (HEq.out _ _ _ Uz.out.slice Oz.out.slice).mono ?_
        rintro e w18 ⟨rfl, hb⟩
        clear bl9 b09 b19 hl9 h09 h19 Hz Uz
        have D18 : Hid (Led.JBoxAt w18 bd c (.slice a6 rs.length cap6)) := Dz.out.ext hb
        have T18 : Hid (ISlice w18 (.slice a6 rs.length cap6) (Led.imarks 1 rs.length)) := Tz.out.ext hb
        have E18 : Hid (Ext w w18) := Ez.out.trans hb
        clear hb Ez Az Bz Oz Dz Tz
        obtain ⟨dl9, d09, d19⟩ := D18.out
        go_wp2_with fail
        refine (HHe.out _ _ T18.out).mono ?_
        rintro e w19 ⟨rfl, hb⟩
        clear dl9 d09 d19
        have E19 : Hid (Ext w w19) := E18.out.trans hb
        clear hb
        go_wp2
        go_ret
        exact ⟨rfl, E19.out⟩
    · go_simp
      have Bz4 : Hid (Led.JZ (yz1.alloc (.cells #[.int .i64 0, .slice none 0 0] 34)) yz1.heap.size) := Led.jz_new yz1 34
      have Fz4 : Hid (Ext w16 (yz1.alloc (.cells #[.int .i64 0, .slice none 0 0] 34))) := Fz1.out.alloc _
      have Lz4 : Hid (w16.heap.size ≤ yz1.heap.size) := Fz1.out.size
      have MAz4 : Hid (VtSlice (yz1.alloc (.cells #[.int .i64 0, .slice none 0 0] 34)) (.slice (some ⟨gq, 0, none⟩) zs.length zs.length) zs) := MAz1.out.ext ((Ext.refl _).alloc _)
      refine hK.out _ _ (HS.out _ Fz4.out) (fun hHeldz4 => ?_)
      clear hK K
      generalize (yz1.alloc (.cells #[.int .i64 0, .slice none 0 0] 34)) = yz4 at *
      refine wpAnyH_ready (rs := [4]) (by kernel_rfl) (by simp) (AllReadyH.cons rfl (fun K hK => ?_) AllReadyH.nil)
      go_simp
      refine (TM.out _).mono ?_
      rintro e yz11 ⟨rfl, hb⟩
      have MAz11 : Hid (VtSlice yz11 (.slice (some ⟨gq, 0, none⟩) zs.length zs.length) zs) := MAz4.out.ext hb
      have Fz11 : Hid (Ext w16 yz11) := Fz4.out.trans hb
      have Bz11 : Hid (Led.JZ yz11 yz1.heap.size) := Bz4.out.ext hb
      clear hb
      refine hK.out _ _ (HS.out _ Fz11.out) (fun hHeldz11 => ?_)
      clear hK K
      refine wpAnyH_ready (rs := [5]) (by kernel_rfl) (by simp) (AllReadyH.cons rfl (fun K hK => ?_) AllReadyH.nil)
      go_simp
      refine (HIm.out _ _ MAz11.out).mono ?_
      rintro e yz12 ⟨v3, g3, rfl, hg, hO, hb⟩
      obtain ⟨a3, cap3, rfl, -⟩ := id hO
      have HGQ : Hid (w16.heap.size ≤ g3) := Nat.le_trans Fz11.out.size hg
      unfold Led.jr
      have Oz12 : Hid (Led.IOwn yz12 (.slice a3 rs.length cap3) g3 rs ∧ (0 < rs.length → g3 ≠ yz1.heap.size)) := ⟨hO, fun _ => Nat.ne_of_gt (Nat.lt_of_lt_of_le Bz11.out.1 hg)⟩
      clear hO hg
      have Fz12 : Hid (Ext w16 yz12) := Fz11.out.trans hb
      have Bz12 : Hid (Led.JZ yz12 yz1.heap.size) := Bz11.out.ext hb
      clear hb
      refine hK.out _ _ (HS.out _ Fz12.out) (fun hHeldz12 => ?_)
      clear hK K
      refine wpAnyH_ready (rs := [7]) (by kernel_rfl) (by simp) (AllReadyH.cons rfl (fun K hK => ?_) AllReadyH.nil)
      obtain ⟨bl, b0, b1, bf0, bf1⟩ := Bz12.out
      go_simp
      have Gz13 : Hid (Led.Got w16 c rs ((yz12.setCell ⟨yz1.heap.size, 0, none⟩ (.int .i64 c)).setCell ⟨yz1.heap.size, 1, none⟩ (.slice a3 rs.length cap3)) yz1.heap.size g3 (.slice a3 rs.length cap3)) := Led.Got.set Fz12.out Lz4.out Bz12.out Oz12.out.1 Oz12.out.2 HGQ.out
      refine hK.out _ _ (HS.out _ Gz13.out.1) (fun hHeldz13 => ?_)
      clear hK K
      refine wpAnyH_done (by kernel_rfl) ?_ _
      have hFX := Gz13.out
      generalize (yz12.setCell ⟨yz1.heap.size, 0, none⟩ (.int .i64 c)).setCell ⟨yz1.heap.size, 1, none⟩ (.slice a3 rs.length cap3) = W at hFX ⊢
      have Az : Hid (RyAt W w.heap.size (.int .i64 cy) (.int .i64 ry) (.string py)) := A16.out.ext hFX.1
      have Bz : Hid (Led.JBoxAt W bw c (.slice aw rs.length capw)) := B16.out.ext hFX.1
      have Oz : Hid (Led.IOwn W (.slice aw rs.length capw) gw rs) := O16.out.ext hFX.1
      have Dz : Hid (Led.JBoxAt W bd c (.slice a6 rs.length cap6)) := D16.out.ext hFX.1
      have Tz : Hid (ISlice W (.slice a6 rs.length cap6) (Led.imarks 1 rs.length)) := T16.out.ext hFX.1
      have Ez : Hid (Ext w W) := E16.out.trans hFX.1
      have Hz : Hid (Led.JBoxAt W yz1.heap.size c (.slice a3 rs.length cap3)) := hFX.2.2.1
      have Uz : Hid (Led.IOwn W (.slice a3 rs.length cap3) g3 rs) := hFX.2.2.2.1
      clear hFX E16 A16 B16 O16 D16 T16
      obtain ⟨bl9, b09, b19⟩ := Bz.out
      obtain ⟨hl9, h09, h19⟩ := Hz.out
      go_wp2_with fail
      refine (HEq.out _ _ _ Uz.out.slice Oz.out.slice).mono ?_
      rintro e w18 ⟨rfl, hb⟩
      clear bl9 b09 b19 hl9 h09 h19 Hz Uz
      have D18 : Hid (Led.JBoxAt w18 bd c (.slice a6 rs.length cap6)) := Dz.out.ext hb
      have T18 : Hid (ISlice w18 (.slice a6 rs.length cap6) (Led.imarks 1 rs.length)) := Tz.out.ext hb
      have E18 : Hid (Ext w w18) := Ez.out.trans hb
      clear hb Ez Az Bz Oz Dz Tz
      obtain ⟨dl9, d09, d19⟩ := D18.out
      go_wp2_with fail
      refine (HHe.out _ _ T18.out).mono ?_
      rintro e w19 ⟨rfl, hb⟩
      clear dl9 d09 d19
      have E19 : Hid (Ext w w19) := E18.out.trans hb
      clear hb
      go_wp2
      go_ret
      exact ⟨rfl, E19.out⟩
  · go_simp
    have Bz2 : Hid (Led.JZ (w16.alloc (.cells #[.int .i64 0, .slice none 0 0] 34)).drew w16.heap.size) := Led.jz_new w16.drew 34
    have Fz2 : Hid (Ext w16 (w16.alloc (.cells #[.int .i64 0, .slice none 0 0] 34)).drew) := F0.out.alloc _
    have Lz2 : Hid (w16.heap.size ≤ w16.heap.size) := F0.out.size
    refine hK.out _ _ (HS.out _ Fz2.out) (fun hHeldz2 => ?_)
    clear hK K
    generalize (w16.alloc (.cells #[.int .i64 0, .slice none 0 0] 34)).drew = yz2 at *
    refine wpAnyH_ready (rs := [2]) (by kernel_rfl) (by simp) (AllReadyH.cons rfl (fun K hK => ?_) AllReadyH.nil)
    go_simp
    refine (T2.out _ (E16.out.trans Fz2.out)).mono ?_
    rintro e yz14 ⟨gq, rfl, -, hM, -, hb⟩
    have MAz14 : Hid (VtSlice yz14 (.slice (some ⟨gq, 0, none⟩) zs.length zs.length) zs) := hM
    clear hM
    have Fz14 : Hid (Ext w16 yz14) := Fz2.out.trans hb
    have Bz14 : Hid (Led.JZ yz14 w16.heap.size) := Bz2.out.ext hb
    clear hb
    refine hK.out _ _ (HS.out _ Fz14.out) (fun hHeldz14 => ?_)
    clear hK K
    refine wpAnyH_ready (rs := [4]) (by kernel_rfl) (by simp) (AllReadyH.cons rfl (fun K hK => ?_) AllReadyH.nil)
    go_simp
    refine (TM.out _).mono ?_
    rintro e yz15 ⟨rfl, hb⟩
    have MAz15 : Hid (VtSlice yz15 (.slice (some ⟨gq, 0, none⟩) zs.length zs.length) zs) := MAz14.out.ext hb
    have Fz15 : Hid (Ext w16 yz15) := Fz14.out.trans hb
    have Bz15 : Hid (Led.JZ yz15 w16.heap.size) := Bz14.out.ext hb
    clear hb
    refine hK.out _ _ (HS.out _ Fz15.out) (fun hHeldz15 => ?_)
    clear hK K
    refine wpAnyH_ready (rs := [5]) (by kernel_rfl) (by simp) (AllReadyH.cons rfl (fun K hK => ?_) AllReadyH.nil)
    go_simp
    refine (HIm.out _ _ MAz15.out).mono ?_
    rintro e yz16 ⟨v3, g3, rfl, hg, hO, hb⟩
    obtain ⟨a3, cap3, rfl, -⟩ := id hO
    have HGQ : Hid (w16.heap.size ≤ g3) := Nat.le_trans Fz15.out.size hg
    unfold Led.jr
    have Oz16 : Hid (Led.IOwn yz16 (.slice a3 rs.length cap3) g3 rs ∧ (0 < rs.length → g3 ≠ w16.heap.size)) := ⟨hO, fun _ => Nat.ne_of_gt (Nat.lt_of_lt_of_le Bz15.out.1 hg)⟩
    clear hO hg
    have Fz16 : Hid (Ext w16 yz16) := Fz15.out.trans hb
    have Bz16 : Hid (Led.JZ yz16 w16.heap.size) := Bz15.out.ext hb
    clear hb
    refine hK.out _ _ (HS.out _ Fz16.out) (fun hHeldz16 => ?_)
    clear hK K
    refine wpAnyH_ready (rs := [7]) (by kernel_rfl) (by simp) (AllReadyH.cons rfl (fun K hK => ?_) AllReadyH.nil)
    obtain ⟨bl, b0, b1, bf0, bf1⟩ := Bz16.out
    go_simp
    have Gz17 : Hid (Led.Got w16 c rs ((yz16.setCell ⟨w16.heap.size, 0, none⟩ (.int .i64 c)).setCell ⟨w16.heap.size, 1, none⟩ (.slice a3 rs.length cap3)) w16.heap.size g3 (.slice a3 rs.length cap3)) := Led.Got.set Fz16.out Lz2.out Bz16.out Oz16.out.1 Oz16.out.2 HGQ.out
    refine hK.out _ _ (HS.out _ Gz17.out.1) (fun hHeldz17 => ?_)
    clear hK K
    refine wpAnyH_done (by kernel_rfl) ?_ _
    have hFX := Gz17.out
    generalize (yz16.setCell ⟨w16.heap.size, 0, none⟩ (.int .i64 c)).setCell ⟨w16.heap.size, 1, none⟩ (.slice a3 rs.length cap3) = W at hFX ⊢
    have Az : Hid (RyAt W w.heap.size (.int .i64 cy) (.int .i64 ry) (.string py)) := A16.out.ext hFX.1
    have Bz : Hid (Led.JBoxAt W bw c (.slice aw rs.length capw)) := B16.out.ext hFX.1
    have Oz : Hid (Led.IOwn W (.slice aw rs.length capw) gw rs) := O16.out.ext hFX.1
    have Dz : Hid (Led.JBoxAt W bd c (.slice a6 rs.length cap6)) := D16.out.ext hFX.1
    have Tz : Hid (ISlice W (.slice a6 rs.length cap6) (Led.imarks 1 rs.length)) := T16.out.ext hFX.1
    have Ez : Hid (Ext w W) := E16.out.trans hFX.1
    have Hz : Hid (Led.JBoxAt W w16.heap.size c (.slice a3 rs.length cap3)) := hFX.2.2.1
    have Uz : Hid (Led.IOwn W (.slice a3 rs.length cap3) g3 rs) := hFX.2.2.2.1
    clear hFX E16 A16 B16 O16 D16 T16
    obtain ⟨bl9, b09, b19⟩ := Bz.out
    obtain ⟨hl9, h09, h19⟩ := Hz.out
    go_wp2_with fail
    refine (HEq.out _ _ _ Uz.out.slice Oz.out.slice).mono ?_
    rintro e w18 ⟨rfl, hb⟩
    clear bl9 b09 b19 hl9 h09 h19 Hz Uz
    have D18 : Hid (Led.JBoxAt w18 bd c (.slice a6 rs.length cap6)) := Dz.out.ext hb
    have T18 : Hid (ISlice w18 (.slice a6 rs.length cap6) (Led.imarks 1 rs.length)) := Tz.out.ext hb
    have E18 : Hid (Ext w w18) := Ez.out.trans hb
    clear hb Ez Az Bz Oz Dz Tz
    obtain ⟨dl9, d09, d19⟩ := D18.out
    go_wp2_with fail
    refine (HHe.out _ _ T18.out).mono ?_
    rintro e w19 ⟨rfl, hb⟩
    clear dl9 d09 d19
    have E19 : Hid (Ext w w19) := E18.out.trans hb
    clear hb
    go_wp2
    go_ret
    exact ⟨rfl, E19.out⟩
end Go.Proofs.Ytfgjodnjahhanaa
