/- laws.FnExactPutMsg answers true at every f, every ledger and every message. -/
import Derived.Test.YtflojfkalnojbaaPwPM7
import Derived.Deep.RegionHeld3
namespace Go.Proofs.Ytflojfkalnojbaa
open Go.RowKit
set_option maxHeartbeats 16000000 in
set_option maxRecDepth 100000 in
theorem lawPutMsg (f : Int) (v : Value) (ms : List Ms) (m : Ms) (vc uc : Value) (w : World) (hm : MSlice w v ms) (hl : MLs w vc uc m) :
    Calls Try.prog 6 #[.int .i64 f, v, magg m vc uc] w fun e w' => e = .returned (.bool true) ∧ Ext w w' := by
  have HM : Hid (MSlice w v ms) := hm
  have HL : Hid (MLs w vc uc m) := hl
  have HSz : Hid (∀ wx : World, Ext w wx → Calls Try.prog 33 #[v, .int .i64 1048576] wx fun e w' => ∃ r : Int, e = .returned (.int .i64 r) ∧ -1 ≤ r ∧ r ≤ 1048576 ∧ (0 ≤ r → ms.length ≤ 1048576 ∧ ∀ m ∈ ms, SmallM m) ∧ Ext wx w') := fun wx he => szMsgS_le v ms 1048576 wx (by omega) (by omega) (HM.out.ext he)
  have HSm : Hid (∀ (p : Int) (wx : World), 0 ≤ p → p ≤ 1048576 → Ext w wx → Calls Try.prog 34 #[magg m vc uc, .int .i64 p] wx fun e w' => ∃ q : Int, e = .returned (.int .i64 q) ∧ -1 ≤ q ∧ q ≤ 1048576 ∧ (0 ≤ q → m.certs.length ≤ 1048576 ∧ m.refs.length ≤ 1048576) ∧ Ext wx w') := fun p wx h0 h1 he => szMsg_le m vc uc p wx h0 h1 (HL.out.ext he)
  have HT : Hid (ms.length ≤ 1048576 ∧ (∀ m ∈ ms, SmallM m) → ∀ wx : World, Ext w wx → Calls Try.prog 36 #[v] wx fun e w' => ∃ g, e = .returned (.slice (some ⟨g, 0, none⟩) ms.length ms.length) ∧ g = wx.heap.size ∧ MSlice w' (.slice (some ⟨g, 0, none⟩) ms.length ms.length) ms ∧ Led.LRoom w'.heap.size w' g ms ∧ Ext wx w') := fun hs wx he => (toMsgS_at v ms wx (HM.out.ext he) hs.1 hs.2).mono fun e w' h => ⟨_, h.1, rfl, MSlice.of h.2.1.1 h.2.2.1.at (Nat.le_refl _) (by have := hs.1; unfold maxLen; omega), Led.LRoom.of h.2.1 h.2.2.1, h.2.2.2⟩
  have HTM : Hid (m.certs.length ≤ 1048576 ∧ m.refs.length ≤ 1048576 → ∀ wx : World, Ext w wx → Calls Try.prog 37 #[magg m vc uc] wx fun e w' => ∃ x y, e = .returned (magg m (.slice x m.certs.length m.certs.length) (.slice y m.refs.length m.refs.length)) ∧ CtNew wx.heap.size w' (.slice x m.certs.length m.certs.length) m.certs ∧ INew wx.heap.size w' (.slice y m.refs.length m.refs.length) m.refs ∧ Ext wx w') := fun hs wx he => toMsg_new m vc uc wx (HL.out.ext he) hs.1 hs.2
  have HMk0 : Hid (ms.length ≤ 1048576 ∧ (∀ m ∈ ms, SmallM m) → ∀ (gx hi : Nat) (wx : World), Led.LRoom hi wx gx ms → gx < hi → Calls Try.prog 42 #[.slice (some ⟨gx, 0, none⟩) ms.length ms.length, .int .i64 1] wx fun e w' => ∃ k : Nat, e = .returned (.int .i64 (k : Int)) ∧ k ≤ 10000000000000 ∧ Led.UpdR gx hi wx w') := fun hs gx hi wx hl hg => Led.markMsgS_room2 hi gx ms wx hl hg hs.1 hs.2
  have HMm0 : Hid (SmallM m → ∀ (lo hi k : Nat) (x y : Value) (wx : World), Led.CtR lo hi wx x m.certs.length → Led.IR lo hi wx y m.refs.length → lo ≤ hi → hi ≤ wx.heap.size → k ≤ 10000000000000 → Calls Try.prog 43 #[magg m x y, .int .i64 (k : Int)] wx fun e w' => ∃ k' : Nat, e = .returned (.int .i64 (k' : Int)) ∧ k' ≤ 100000000000000 ∧ Led.UpdR lo hi wx w') := fun hs lo hi k x y wx hC hI h1 h2 hk => Led.markMsg_room lo hi m x y k wx hC hI h1 h2 (by omega) hs (by omega)
  have hrs := Msg.putV_small f ms m
  obtain ⟨c, hc⟩ : ∃ c, c = (Msg.putV f ms m).1 := ⟨_, rfl⟩
  obtain ⟨rs, hr⟩ : ∃ rs, rs = (Msg.putV f ms m).2 := ⟨_, rfl⟩
  have HSp : Hid (∀ (yv x y : Value) (wx : World), MSlice wx yv ms → MLs wx x y m → Calls Try.prog 35 #[.int .i64 f, yv, magg m x y] wx (Led.LRetB wx c rs)) := by rw [hc, hr]; exact fun yv x y wx h1 h2 => (specPutMsg_any f yv ms m x y wx h1 h2).mono fun _ _ h => Led.LRetB.of h
  have HIm : Hid (∀ (yv x y : Value) (wx : World), MSlice wx yv ms → MLs wx x y m → Calls Try.prog 38 #[.int .i64 f, yv, magg m x y] wx (Led.LRetB wx c rs)) := by rw [hc, hr]; exact fun yv x y wx h1 h2 => (implPutMsg_any f yv ms m x y wx h1 h2).mono fun _ _ h => Led.LRetB.of h
  rw [← hr] at hrs
  clear hc hr
  have HEq : Hid (∀ (x y : Value) (wx : World), MSlice wx x rs → MSlice wx y rs → Calls Try.prog 39 #[Led.jr c x, Led.jr c y] wx fun e w' => e = .returned (.bool true) ∧ Ext wx w') := fun x y wx h1 h2 => Led.eqLedgerResult_same c x y rs wx h1 h2
  have HMi : Hid (∀ (x : Value) (g : Nat × Nat) (wx : World), Led.LOwn wx x g rs → g.1 ≤ wx.heap.size → Calls Try.prog 44 #[Led.jr c x, .int .i64 ((1 : Nat) : Int)] wx fun e w' => ∃ q : Nat, e = .returned (.int .i64 (q : Nat)) ∧ Led.LHeld w' x q rs.length ∧ Led.UpdR g.1 g.2 wx w') := fun x g wx h1 h2 => Led.markL c x g rs wx h1 hrs.1 hrs.2 h2
  have HHe : Hid (∀ (x : Value) (q : Nat) (wx : World), Led.LHeld wx x q rs.length → Calls Try.prog 45 #[Led.jr c x, .int .i64 ((1 : Nat) : Int)] wx fun e w' => e = .returned (.int .i64 (q : Nat)) ∧ Ext wx w') := fun x q wx h1 => Led.heldL c x q rs.length wx h1
  clear hrs
  unfold Led.jr at HEq HMi HHe
  have HEm : Hid (∀ (x y : Value) (wx : World), MSlice wx x ms → MSlice wx y ms → Calls Try.prog 40 #[x, y] wx fun e w' => e = .returned (.bool true) ∧ Ext wx w') := fun x y wx h1 h2 => eqMsgS_same x y ms wx h1 h2
  have HE1 : Hid (∀ (v1 u1 v2 u2 : Value) (wx : World), MLs wx v1 u1 m → MLs wx v2 u2 m → Calls Try.prog 41 #[magg m v1 u1, magg m v2 u2] wx fun e w' => e = .returned (.bool true) ∧ Ext wx w') := fun v1 u1 v2 u2 wx h1 h2 => eqMsg_same m v1 v2 u1 u2 wx h1 h2
  obtain ⟨a, cap, rfl, -, -, -⟩ := hm
  obtain ⟨a1, k1, a2, k2, rfl, rfl, -, -, -, -⟩ := hl.form
  clear hl
  unfold magg at *
  go_enter Try.func6, Try.ntmps6
  go_wp2_with fail
  refine (HSz.out _ ((Ext.refl _).alloc _)).mono ?_
  rintro e w1 ⟨r, rfl, hr0, hr1, hr2, hb⟩
  have E1 : Hid (Ext w w1) := ((Ext.refl _).alloc _).trans hb
  have A1 : Hid (MBoxAt w1 w.heap.size m (.slice a1 m.certs.length k1) (.slice a2 m.refs.length k2)) := (mbox_new w m _ _ _).ext hb
  have HR : Hid (0 ≤ r → ms.length ≤ 1048576 ∧ ∀ m ∈ ms, SmallM m) := hr2
  clear hb hr2
  by_cases hn : r < 0
  · go_wp2
    go_ret
    exact ⟨rfl, E1.out⟩
  have hr0' : 0 ≤ r := by omega
  obtain ⟨-, ⟨c0, c1, c2, c3, c4, c5, c6⟩, -⟩ := A1.out
  go_wp2_with fail
  refine (HSm.out _ _ hr0' hr1 E1.out).mono ?_
  rintro e w2 ⟨p, rfl, hp0, hp1, hp2, hb⟩
  have E2 : Hid (Ext w w2) := E1.out.trans hb
  have A2 : Hid (MBoxAt w2 w.heap.size m (.slice a1 m.certs.length k1) (.slice a2 m.refs.length k2)) := A1.out.ext hb
  have HP : Hid (0 ≤ p → m.certs.length ≤ 1048576 ∧ m.refs.length ≤ 1048576) := hp2
  clear hb hp2 E1 A1 c0 c1 c2 c3 c4 c5 c6
  by_cases hn2 : p < 0
  · go_wp2
    go_ret
    exact ⟨rfl, E2.out⟩
  have T2 : Hid (∀ wx : World, Ext w wx → Calls Try.prog 36 #[.slice a ms.length cap] wx fun e w' => ∃ g, e = .returned (.slice (some ⟨g, 0, none⟩) ms.length ms.length) ∧ g = wx.heap.size ∧ MSlice w' (.slice (some ⟨g, 0, none⟩) ms.length ms.length) ms ∧ Led.LRoom w'.heap.size w' g ms ∧ Ext wx w') := HT.out (HR.out (by omega))
  have TM : Hid _ := HTM.out (HP.out (by omega))
  have HMk : Hid (∀ {gx hi : Nat} (wx : World), Led.LRoom hi wx gx ms → gx < hi → Calls Try.prog 42 #[.slice (some ⟨gx, 0, none⟩) ms.length ms.length, .int .i64 1] wx fun e w' => ∃ k : Nat, e = .returned (.int .i64 (k : Int)) ∧ k ≤ 10000000000000 ∧ Led.UpdR gx hi wx w') := fun {gx hi} wx => HMk0.out (HR.out (by omega)) gx hi wx
  have HMm : Hid _ := HMm0.out (HP.out (by omega))
  have hmx : ms.length ≤ 1048576 := (HR.out (by omega)).1
  clear HT HTM HR HP HMk0 HMm0
  have HS : Hid (∀ W', Ext w2 W' → (fun W' : World => W'.cell? ⟨w.heap.size, 0, none⟩ = some (.int .i64 m.kind) ∧ W'.cell? ⟨w.heap.size, 1, none⟩ = some (.int .i64 m.view) ∧ W'.cell? ⟨w.heap.size, 2, none⟩ = some (.int .i64 m.from_) ∧ W'.cell? ⟨w.heap.size, 3, none⟩ = some (.int .i64 m.slot) ∧ W'.cell? ⟨w.heap.size, 4, none⟩ = some (.int .i64 m.value) ∧ W'.cell? ⟨w.heap.size, 5, none⟩ = some (.slice a1 m.certs.length k1) ∧ W'.cell? ⟨w.heap.size, 6, none⟩ = some (.slice a2 m.refs.length k2)) W') := fun W' he => (A2.out.ext he).2.1
  go_wp2
  obtain ⟨Q9, HQ9⟩ : ∃ Q9 : Exit → Act → World → Prop, Hid (Q9 = OnlyZ fun fr9 W => ∃ (bw : Nat) (g3 : Nat × Nat) (cap3 : Nat) (a3 : Option Addr) (px28 px30 : Value), fr9 = { tmps := #[.int .i64 f, .slice a ms.length cap, .agg #[.int .i64 m.kind, .int .i64 m.view, .int .i64 m.from_, .int .i64 m.slot, .int .i64 m.value, (.slice a1 m.certs.length k1), (.slice a2 m.refs.length k2)], undef, undef, .pointer (some ⟨w.heap.size, 0, none⟩), .bool false, .int .i64 p, .pointer (some ⟨bw, 0, none⟩), undef, undef, undef, undef, undef, undef, undef, .slice a ms.length cap, .int .i64 1048576, .int .i64 r, .int .i64 r, .bool (decide (r < 0)), .agg #[.int .i64 m.kind, .int .i64 m.view, .int .i64 m.from_, .int .i64 m.slot, .int .i64 m.value, (.slice a1 m.certs.length k1), (.slice a2 m.refs.length k2)], .int .i64 r, .int .i64 p, .int .i64 p, .bool (decide (p < 0)), .int .i64 f, .slice a ms.length cap, px28, .agg #[.int .i64 m.kind, .int .i64 m.view, .int .i64 m.from_, .int .i64 m.slot, .int .i64 m.value, (.slice a1 m.certs.length k1), (.slice a2 m.refs.length k2)], px30, .agg #[.int .i64 c, .slice a3 rs.length cap3], undef, undef, undef, undef, undef, undef, undef, undef, undef, undef, undef, undef, undef, undef, undef, undef, undef, undef, undef, undef, undef, undef, undef, undef, undef, undef, undef, undef, undef, undef, undef, undef, undef, undef, undef, undef, undef, undef, undef, undef, undef, undef, undef, undef, undef, undef, undef, undef, undef, undef, undef, undef, undef, undef, undef, undef, undef, undef, undef, undef, undef, undef, undef, undef, undef], defers := [] } ∧ Led.GotL w2 c rs W bw g3 (.slice a3 rs.length cap3)) := ⟨_, rfl⟩
  have HPQ : Hid (∀ x a a' w, Q9 (Exit.panic x) a w → Q9 (Exit.panic x) a' w) := by rw [HQ9.out]; exact fun x a a' w h => (h : False).elim
  refine Code.wp_mono (Q := Q9) ?_ ?_
  rotate_left
  · refine wp_region_held_drew (S := (fun W' : World => W'.cell? ⟨w.heap.size, 0, none⟩ = some (.int .i64 m.kind) ∧ W'.cell? ⟨w.heap.size, 1, none⟩ = some (.int .i64 m.view) ∧ W'.cell? ⟨w.heap.size, 2, none⟩ = some (.int .i64 m.from_) ∧ W'.cell? ⟨w.heap.size, 3, none⟩ = some (.int .i64 m.slot) ∧ W'.cell? ⟨w.heap.size, 4, none⟩ = some (.int .i64 m.value) ∧ W'.cell? ⟨w.heap.size, 5, none⟩ = some (.slice a1 m.certs.length k1) ∧ W'.cell? ⟨w.heap.size, 6, none⟩ = some (.slice a2 m.refs.length k2))) (by kernel_rfl) (HS.out _ ((Ext.refl _).drew)) (fun hHeld => ?_)
    have F0 : Hid (Ext w2 w2.drew) := (Ext.refl _).drew
    refine wpAnyH_take (i := 0) (oi := { dst := some 26, op := Op.move (.tmp 0), type := 2, pos := "exact.go:3511", after := #[], guard := none }) (v := ?_) rfl (by kernel_rfl) (by kernel_rfl) (by kernel_rfl) (fun _ _ _ h => HPQ.out _ _ _ _ h) (Or.inl ⟨by rfl, ?_⟩) (by assumption) ?_
    rotate_left
    · intro w' hSw; (try dsimp only at hSw); go_simp; try with_reducible rfl
    (try simp only [Act.put, List.setIfInBounds_toArray, List.set_cons_zero, List.set_cons_succ])
    refine wpAnyH_take (i := 1) (oi := { dst := some 27, op := Op.move (.tmp 1), type := 50, pos := "exact.go:3511", after := #[], guard := none }) (v := ?_) rfl (by kernel_rfl) (by kernel_rfl) (by kernel_rfl) (fun _ _ _ h => HPQ.out _ _ _ _ h) (Or.inl ⟨by rfl, ?_⟩) (by assumption) ?_
    rotate_left
    · intro w' hSw; (try dsimp only at hSw); go_simp; try with_reducible rfl
    (try simp only [Act.put, List.setIfInBounds_toArray, List.set_cons_zero, List.set_cons_succ])
    refine wpAnyH_take (i := 3) (oi := { dst := some 29, op := Op.load 53 (.tmp 5), type := 53, pos := "exact.go:3511", after := #[], guard := none }) (v := ?_) rfl (by kernel_rfl) (by kernel_rfl) (by kernel_rfl) (fun _ _ _ h => HPQ.out _ _ _ _ h) (Or.inl ⟨by rfl, ?_⟩) (by assumption) ?_
    rotate_left
    · intro w' hSw; (try dsimp only at hSw); go_simp; try with_reducible rfl
    (try simp only [Act.put, List.setIfInBounds_toArray, List.set_cons_zero, List.set_cons_succ])
    refine wpAnyH_ready (rs := [2, 6]) (by kernel_rfl) (by simp) (AllReadyH.cons rfl (fun K hK => ?_) (AllReadyH.cons rfl (fun K hK => ?_) AllReadyH.nil))
    · go_simp
      refine (T2.out _ (E2.out.trans F0.out)).mono ?_
      rintro e yp1 ⟨gq, rfl, -, hM, -, hb⟩
      have MAp1 : Hid (MSlice yp1 (.slice (some ⟨gq, 0, none⟩) ms.length ms.length) ms) := hM
      clear hM
      have Fp1 : Hid (Ext w2 yp1) := F0.out.trans hb
      clear hb
      refine hK.out _ _ (HS.out _ Fp1.out) (fun hHeldp1 => ?_)
      clear hK K
      refine wpAnyH_ready (rs := [4, 6]) (by kernel_rfl) (by simp) (AllReadyH.cons rfl (fun K hK => ?_) (AllReadyH.cons rfl (fun K hK => ?_) AllReadyH.nil))
      · go_simp
        refine (TM.out _ (E2.out.trans Fp1.out)).mono ?_
        rintro e yp3 ⟨xq, yq, rfl, hC, hI, hb⟩
        have MBp3 : Hid (MSlice yp3 (.slice (some ⟨gq, 0, none⟩) ms.length ms.length) ms ∧ MLs yp3 (.slice xq m.certs.length m.certs.length) (.slice yq m.refs.length m.refs.length) m) := ⟨MAp1.out.ext hb, hC.slice, hI.slice⟩
        clear hC hI
        have Fp3 : Hid (Ext w2 yp3) := Fp1.out.trans hb
        clear hb
        refine hK.out _ _ (HS.out _ Fp3.out) (fun hHeldp3 => ?_)
        clear hK K
        refine wpAnyH_ready (rs := [5, 6]) (by kernel_rfl) (by simp) (AllReadyH.cons rfl (fun K hK => ?_) (AllReadyH.cons rfl (fun K hK => ?_) AllReadyH.nil))
        · go_simp
          refine (HSp.out _ _ _ _ MBp3.out.1 MBp3.out.2).mono ?_
          rintro e yp5 ⟨v3, g3, rfl, hg, hO, hb⟩
          obtain ⟨a3, cap3, rfl, -⟩ := id hO
          have HGQ : Hid (w2.heap.size ≤ g3.1) := Nat.le_trans Fp3.out.size hg
          unfold Led.jr
          have Op5 : Hid (Led.LOwn yp5 (.slice a3 rs.length cap3) g3 rs) := hO
          clear hO hg
          have Fp5 : Hid (Ext w2 yp5) := Fp3.out.trans hb
          clear hb
          refine hK.out _ _ (HS.out _ Fp5.out) (fun hHeldp5 => ?_)
          clear hK K
          refine wpAnyH_ready (rs := [6]) (by kernel_rfl) (by simp) (AllReadyH.cons rfl (fun K hK => ?_) AllReadyH.nil)
          go_simp
          have Bp7 : Hid (Led.JZ (yp5.alloc (.cells #[.int .i64 0, .slice none 0 0] 57)) yp5.heap.size) := Led.jz_new yp5 57
          have Fp7 : Hid (Ext w2 (yp5.alloc (.cells #[.int .i64 0, .slice none 0 0] 57))) := Fp5.out.alloc _
          have Lp7 : Hid (w2.heap.size ≤ yp5.heap.size) := Fp5.out.size
          have Op7 : Hid (Led.LOwn (yp5.alloc (.cells #[.int .i64 0, .slice none 0 0] 57)) (.slice a3 rs.length cap3) g3 rs ∧ (g3.2 ≤ yp5.heap.size ∨ yp5.heap.size + 1 ≤ g3.1)) := ⟨Op5.out.ext ((Ext.refl _).alloc _), Or.inl Op5.out.hi⟩
          refine hK.out _ _ (HS.out _ Fp7.out) (fun hHeldp7 => ?_)
          clear hK K
          generalize (yp5.alloc (.cells #[.int .i64 0, .slice none 0 0] 57)) = yp7 at *
          refine wpAnyH_ready (rs := [7]) (by kernel_rfl) (by simp) (AllReadyH.cons rfl (fun K hK => ?_) AllReadyH.nil)
          obtain ⟨bl, b0, b1, bf0, bf1⟩ := Bp7.out
          go_simp
          have Gp8 : Hid (Led.GotL w2 c rs ((yp7.setCell ⟨yp5.heap.size, 0, none⟩ (.int .i64 c)).setCell ⟨yp5.heap.size, 1, none⟩ (.slice a3 rs.length cap3)) yp5.heap.size g3 (.slice a3 rs.length cap3)) := Led.GotL.set Fp7.out Lp7.out Bp7.out Op7.out.1 Op7.out.2 HGQ.out
          refine hK.out _ _ (HS.out _ Gp8.out.1) (fun hHeldp8 => ?_)
          clear hK K
          refine wpAnyH_done (by kernel_rfl) ?_ _
          rw [HQ9.out]
          exact ⟨yp5.heap.size, g3, cap3, a3, _, _, rfl, Gp8.out⟩
        · go_simp
          have Bp6 : Hid (Led.JZ (yp3.alloc (.cells #[.int .i64 0, .slice none 0 0] 57)) yp3.heap.size) := Led.jz_new yp3 57
          have Fp6 : Hid (Ext w2 (yp3.alloc (.cells #[.int .i64 0, .slice none 0 0] 57))) := Fp3.out.alloc _
          have Lp6 : Hid (w2.heap.size ≤ yp3.heap.size) := Fp3.out.size
          have MBp6 : Hid (MSlice (yp3.alloc (.cells #[.int .i64 0, .slice none 0 0] 57)) (.slice (some ⟨gq, 0, none⟩) ms.length ms.length) ms ∧ MLs (yp3.alloc (.cells #[.int .i64 0, .slice none 0 0] 57)) (.slice xq m.certs.length m.certs.length) (.slice yq m.refs.length m.refs.length) m) := ⟨MBp3.out.1.ext ((Ext.refl _).alloc _), MBp3.out.2.ext ((Ext.refl _).alloc _)⟩
          refine hK.out _ _ (HS.out _ Fp6.out) (fun hHeldp6 => ?_)
          clear hK K
          generalize (yp3.alloc (.cells #[.int .i64 0, .slice none 0 0] 57)) = yp6 at *
          refine wpAnyH_ready (rs := [5]) (by kernel_rfl) (by simp) (AllReadyH.cons rfl (fun K hK => ?_) AllReadyH.nil)
          go_simp
          refine (HSp.out _ _ _ _ MBp6.out.1 MBp6.out.2).mono ?_
          rintro e yp9 ⟨v3, g3, rfl, hg, hO, hb⟩
          obtain ⟨a3, cap3, rfl, -⟩ := id hO
          have HGQ : Hid (w2.heap.size ≤ g3.1) := Nat.le_trans Fp6.out.size hg
          unfold Led.jr
          have Op9 : Hid (Led.LOwn yp9 (.slice a3 rs.length cap3) g3 rs ∧ (g3.2 ≤ yp3.heap.size ∨ yp3.heap.size + 1 ≤ g3.1)) := ⟨hO, Or.inr (Nat.lt_of_lt_of_le Bp6.out.1 hg)⟩
          clear hO hg
          have Fp9 : Hid (Ext w2 yp9) := Fp6.out.trans hb
          have Bp9 : Hid (Led.JZ yp9 yp3.heap.size) := Bp6.out.ext hb
          clear hb
          refine hK.out _ _ (HS.out _ Fp9.out) (fun hHeldp9 => ?_)
          clear hK K
          refine wpAnyH_ready (rs := [7]) (by kernel_rfl) (by simp) (AllReadyH.cons rfl (fun K hK => ?_) AllReadyH.nil)
          obtain ⟨bl, b0, b1, bf0, bf1⟩ := Bp9.out
          go_simp
          have Gp10 : Hid (Led.GotL w2 c rs ((yp9.setCell ⟨yp3.heap.size, 0, none⟩ (.int .i64 c)).setCell ⟨yp3.heap.size, 1, none⟩ (.slice a3 rs.length cap3)) yp3.heap.size g3 (.slice a3 rs.length cap3)) := Led.GotL.set Fp9.out Lp6.out Bp9.out Op9.out.1 Op9.out.2 HGQ.out
          refine hK.out _ _ (HS.out _ Gp10.out.1) (fun hHeldp10 => ?_)
          clear hK K
          refine wpAnyH_done (by kernel_rfl) ?_ _
          rw [HQ9.out]
          exact ⟨yp3.heap.size, g3, cap3, a3, _, _, rfl, Gp10.out⟩
      · go_simp
        have Bp4 : Hid (Led.JZ (yp1.alloc (.cells #[.int .i64 0, .slice none 0 0] 57)) yp1.heap.size) := Led.jz_new yp1 57
        have Fp4 : Hid (Ext w2 (yp1.alloc (.cells #[.int .i64 0, .slice none 0 0] 57))) := Fp1.out.alloc _
        have Lp4 : Hid (w2.heap.size ≤ yp1.heap.size) := Fp1.out.size
        have MAp4 : Hid (MSlice (yp1.alloc (.cells #[.int .i64 0, .slice none 0 0] 57)) (.slice (some ⟨gq, 0, none⟩) ms.length ms.length) ms) := MAp1.out.ext ((Ext.refl _).alloc _)
        refine hK.out _ _ (HS.out _ Fp4.out) (fun hHeldp4 => ?_)
        clear hK K
        generalize (yp1.alloc (.cells #[.int .i64 0, .slice none 0 0] 57)) = yp4 at *
        refine wpAnyH_ready (rs := [4]) (by kernel_rfl) (by simp) (AllReadyH.cons rfl (fun K hK => ?_) AllReadyH.nil)
        go_simp
        refine (TM.out _ (E2.out.trans Fp4.out)).mono ?_
        rintro e yp11 ⟨xq, yq, rfl, hC, hI, hb⟩
        have MBp11 : Hid (MSlice yp11 (.slice (some ⟨gq, 0, none⟩) ms.length ms.length) ms ∧ MLs yp11 (.slice xq m.certs.length m.certs.length) (.slice yq m.refs.length m.refs.length) m) := ⟨MAp4.out.ext hb, hC.slice, hI.slice⟩
        clear hC hI
        have Fp11 : Hid (Ext w2 yp11) := Fp4.out.trans hb
        have Bp11 : Hid (Led.JZ yp11 yp1.heap.size) := Bp4.out.ext hb
        clear hb
        refine hK.out _ _ (HS.out _ Fp11.out) (fun hHeldp11 => ?_)
        clear hK K
        refine wpAnyH_ready (rs := [5]) (by kernel_rfl) (by simp) (AllReadyH.cons rfl (fun K hK => ?_) AllReadyH.nil)
        go_simp
        refine (HSp.out _ _ _ _ MBp11.out.1 MBp11.out.2).mono ?_
        rintro e yp12 ⟨v3, g3, rfl, hg, hO, hb⟩
        obtain ⟨a3, cap3, rfl, -⟩ := id hO
        have HGQ : Hid (w2.heap.size ≤ g3.1) := Nat.le_trans Fp11.out.size hg
        unfold Led.jr
        have Op12 : Hid (Led.LOwn yp12 (.slice a3 rs.length cap3) g3 rs ∧ (g3.2 ≤ yp1.heap.size ∨ yp1.heap.size + 1 ≤ g3.1)) := ⟨hO, Or.inr (Nat.lt_of_lt_of_le Bp11.out.1 hg)⟩
        clear hO hg
        have Fp12 : Hid (Ext w2 yp12) := Fp11.out.trans hb
        have Bp12 : Hid (Led.JZ yp12 yp1.heap.size) := Bp11.out.ext hb
        clear hb
        refine hK.out _ _ (HS.out _ Fp12.out) (fun hHeldp12 => ?_)
        clear hK K
        refine wpAnyH_ready (rs := [7]) (by kernel_rfl) (by simp) (AllReadyH.cons rfl (fun K hK => ?_) AllReadyH.nil)
        obtain ⟨bl, b0, b1, bf0, bf1⟩ := Bp12.out
        go_simp
        have Gp13 : Hid (Led.GotL w2 c rs ((yp12.setCell ⟨yp1.heap.size, 0, none⟩ (.int .i64 c)).setCell ⟨yp1.heap.size, 1, none⟩ (.slice a3 rs.length cap3)) yp1.heap.size g3 (.slice a3 rs.length cap3)) := Led.GotL.set Fp12.out Lp4.out Bp12.out Op12.out.1 Op12.out.2 HGQ.out
        refine hK.out _ _ (HS.out _ Gp13.out.1) (fun hHeldp13 => ?_)
        clear hK K
        refine wpAnyH_done (by kernel_rfl) ?_ _
        rw [HQ9.out]
        exact ⟨yp1.heap.size, g3, cap3, a3, _, _, rfl, Gp13.out⟩
    · go_simp
      have Bp2 : Hid (Led.JZ (w2.alloc (.cells #[.int .i64 0, .slice none 0 0] 57)).drew w2.heap.size) := Led.jz_new w2.drew 57
      have Fp2 : Hid (Ext w2 (w2.alloc (.cells #[.int .i64 0, .slice none 0 0] 57)).drew) := F0.out.alloc _
      have Lp2 : Hid (w2.heap.size ≤ w2.heap.size) := F0.out.size
      refine hK.out _ _ (HS.out _ Fp2.out) (fun hHeldp2 => ?_)
      clear hK K
      generalize (w2.alloc (.cells #[.int .i64 0, .slice none 0 0] 57)).drew = yp2 at *
      refine wpAnyH_ready (rs := [2]) (by kernel_rfl) (by simp) (AllReadyH.cons rfl (fun K hK => ?_) AllReadyH.nil)
      go_simp
      refine (T2.out _ (E2.out.trans Fp2.out)).mono ?_
      rintro e yp14 ⟨gq, rfl, -, hM, -, hb⟩
      have MAp14 : Hid (MSlice yp14 (.slice (some ⟨gq, 0, none⟩) ms.length ms.length) ms) := hM
      clear hM
      have Fp14 : Hid (Ext w2 yp14) := Fp2.out.trans hb
      have Bp14 : Hid (Led.JZ yp14 w2.heap.size) := Bp2.out.ext hb
      clear hb
      refine hK.out _ _ (HS.out _ Fp14.out) (fun hHeldp14 => ?_)
      clear hK K
      refine wpAnyH_ready (rs := [4]) (by kernel_rfl) (by simp) (AllReadyH.cons rfl (fun K hK => ?_) AllReadyH.nil)
      go_simp
      refine (TM.out _ (E2.out.trans Fp14.out)).mono ?_
      rintro e yp15 ⟨xq, yq, rfl, hC, hI, hb⟩
      have MBp15 : Hid (MSlice yp15 (.slice (some ⟨gq, 0, none⟩) ms.length ms.length) ms ∧ MLs yp15 (.slice xq m.certs.length m.certs.length) (.slice yq m.refs.length m.refs.length) m) := ⟨MAp14.out.ext hb, hC.slice, hI.slice⟩
      clear hC hI
      have Fp15 : Hid (Ext w2 yp15) := Fp14.out.trans hb
      have Bp15 : Hid (Led.JZ yp15 w2.heap.size) := Bp14.out.ext hb
      clear hb
      refine hK.out _ _ (HS.out _ Fp15.out) (fun hHeldp15 => ?_)
      clear hK K
      refine wpAnyH_ready (rs := [5]) (by kernel_rfl) (by simp) (AllReadyH.cons rfl (fun K hK => ?_) AllReadyH.nil)
      go_simp
      refine (HSp.out _ _ _ _ MBp15.out.1 MBp15.out.2).mono ?_
      rintro e yp16 ⟨v3, g3, rfl, hg, hO, hb⟩
      obtain ⟨a3, cap3, rfl, -⟩ := id hO
      have HGQ : Hid (w2.heap.size ≤ g3.1) := Nat.le_trans Fp15.out.size hg
      unfold Led.jr
      have Op16 : Hid (Led.LOwn yp16 (.slice a3 rs.length cap3) g3 rs ∧ (g3.2 ≤ w2.heap.size ∨ w2.heap.size + 1 ≤ g3.1)) := ⟨hO, Or.inr (Nat.lt_of_lt_of_le Bp15.out.1 hg)⟩
      clear hO hg
      have Fp16 : Hid (Ext w2 yp16) := Fp15.out.trans hb
      have Bp16 : Hid (Led.JZ yp16 w2.heap.size) := Bp15.out.ext hb
      clear hb
      refine hK.out _ _ (HS.out _ Fp16.out) (fun hHeldp16 => ?_)
      clear hK K
      refine wpAnyH_ready (rs := [7]) (by kernel_rfl) (by simp) (AllReadyH.cons rfl (fun K hK => ?_) AllReadyH.nil)
      obtain ⟨bl, b0, b1, bf0, bf1⟩ := Bp16.out
      go_simp
      have Gp17 : Hid (Led.GotL w2 c rs ((yp16.setCell ⟨w2.heap.size, 0, none⟩ (.int .i64 c)).setCell ⟨w2.heap.size, 1, none⟩ (.slice a3 rs.length cap3)) w2.heap.size g3 (.slice a3 rs.length cap3)) := Led.GotL.set Fp16.out Lp2.out Bp16.out Op16.out.1 Op16.out.2 HGQ.out
      refine hK.out _ _ (HS.out _ Gp17.out.1) (fun hHeldp17 => ?_)
      clear hK K
      refine wpAnyH_done (by kernel_rfl) ?_ _
      rw [HQ9.out]
      exact ⟨w2.heap.size, g3, cap3, a3, _, _, rfl, Gp17.out⟩
  rintro e fr W hN
  rw [HQ9.out] at hN
  clear HQ9 HPQ
  obtain ⟨rfl, hN⟩ := hN.out
  obtain ⟨bw, gw, capw, aw, px28, px30, rfl, hFX⟩ := hN
  clear HS
  have E3 : Hid (Ext w W) := E2.out.trans hFX.1
  have A3 : Hid (MBoxAt W w.heap.size m (.slice a1 m.certs.length k1) (.slice a2 m.refs.length k2)) := A2.out.ext hFX.1
  have G3 : Hid (w.heap.size < w2.heap.size ∧ w2.heap.size ≤ bw ∧ bw < W.heap.size ∧ w2.heap.size ≤ gw.1) := ⟨A2.out.1, hFX.2.1, hFX.2.2.1.1, hFX.2.2.2.2⟩
  have B3 : Hid (Led.JBoxAt W bw c (.slice aw rs.length capw)) := hFX.2.2.1
  have O3 : Hid (Led.LOwn W (.slice aw rs.length capw) gw rs) := hFX.2.2.2.1
  have L3 : Hid (gw.2 ≤ W.heap.size) := O3.out.hi
  clear hFX E2 A2
  obtain ⟨w3, hw3⟩ : ∃ w3, w3 = W := ⟨_, rfl⟩
  subst hw3
  go_wp2_with fail
  refine (T2.out _ E3.out).mono ?_
  rintro e w4 ⟨gx, rfl, hgx, hM, hL, hb⟩
  have X4 : Hid (MSlice w4 (.slice (some ⟨gx, 0, none⟩) ms.length ms.length) ms) := hM
  have Y4 : Hid (Led.LRoom w4.heap.size w4 gx ms) := hL
  have G4 : Hid (gx = w3.heap.size ∧ w3.heap.size < w4.heap.size) := ⟨hgx, by have := hL.1.1; omega⟩
  clear hM hL hgx
  have E4 : Hid (Ext w w4) := E3.out.trans hb
  have A4 : Hid (MBoxAt w4 w.heap.size m (.slice a1 m.certs.length k1) (.slice a2 m.refs.length k2)) := A3.out.ext hb
  have B4 : Hid (Led.JBoxAt w4 bw c (.slice aw rs.length capw)) := B3.out.ext hb
  have O4 : Hid (Led.LOwn w4 (.slice aw rs.length capw) gw rs) := O3.out.ext hb
  clear E3 A3 B3 O3
  clear hb
  obtain ⟨h1, hh1⟩ : ∃ h1, h1 = w4.heap.size := ⟨_, rfl⟩
  rw [← hh1] at Y4 G4
  have HH1 : Hid (h1 = w4.heap.size) := hh1
  clear hh1
  obtain ⟨-, ⟨ka0, ka1, ka2, ka3, ka4, ka5, ka6⟩, -⟩ := A4.out
  go_wp2_with fail
  refine (TM.out _ E4.out).mono ?_
  rintro e w5 ⟨x5, y5, rfl, hC, hI, hb⟩
  clear ka0 ka1 ka2 ka3 ka4 ka5 ka6
  have Z5 : Hid (MLs w5 (.slice x5 m.certs.length m.certs.length) (.slice y5 m.refs.length m.refs.length) m) := ⟨hC.slice, hI.slice⟩
  have V5 : Hid (Led.CtR h1 w5.heap.size w5 (.slice x5 m.certs.length m.certs.length) m.certs.length ∧ Led.IR h1 w5.heap.size w5 (.slice y5 m.refs.length m.refs.length) m.refs.length) := ⟨by rw [HH1.out]; exact Led.CtR.of hC, by rw [HH1.out]; exact Led.IR.of hI⟩
  have G5 : Hid (h1 ≤ w5.heap.size) := by rw [HH1.out]; exact hb.size
  clear hC hI
  have E5 : Hid (Ext w w5) := E4.out.trans hb
  have A5 : Hid (MBoxAt w5 w.heap.size m (.slice a1 m.certs.length k1) (.slice a2 m.refs.length k2)) := A4.out.ext hb
  have B5 : Hid (Led.JBoxAt w5 bw c (.slice aw rs.length capw)) := B4.out.ext hb
  have O5 : Hid (Led.LOwn w5 (.slice aw rs.length capw) gw rs) := O4.out.ext hb
  have X5 : Hid (MSlice w5 (.slice (some ⟨gx, 0, none⟩) ms.length ms.length) ms) := X4.out.ext hb
  have Y5 : Hid (Led.LRoom h1 w5 gx ms) := Y4.out.ext hb
  clear E4 A4 B4 O4 X4 Y4
  clear hb
  obtain ⟨h2, hh2⟩ : ∃ h2, h2 = w5.heap.size := ⟨_, rfl⟩
  rw [← hh2] at V5 G5
  have HH2 : Hid (h2 = w5.heap.size) := hh2
  clear hh2
  have P5 : Hid (Led.CtR h1 h2 w5 (.slice x5 m.certs.length m.certs.length) m.certs.length) := V5.out.1
  have Q5 : Hid (Led.IR h1 h2 w5 (.slice y5 m.refs.length m.refs.length) m.refs.length) := V5.out.2
  clear V5
  (try unfold magg)
  go_wp2_with fail
  refine (HIm.out _ _ _ _ (X5.out.ext ((Ext.refl _).alloc _)) (Z5.out.ext ((Ext.refl _).alloc _))).mono ?_
  rintro e w6 ⟨v6, g6, rfl, hg6, hO, hb⟩
  obtain ⟨a6, cap6, rfl, -⟩ := id hO
  simp only [World.size_alloc] at hg6
  have C6 : Hid (MBoxAt w6 w5.heap.size m (.slice x5 m.certs.length m.certs.length) (.slice y5 m.refs.length m.refs.length)) := (mbox_new w5 m _ _ _).ext hb
  have R6 : Hid (Led.LOwn w6 (.slice a6 rs.length cap6) g6 rs) := hO
  have G6 : Hid (h2 < g6.1 ∧ h2 < w6.heap.size) := by have h := hb.size; simp at h; have := HH2.out; exact ⟨by omega, by omega⟩
  have N6 : Hid (g6.2 ≤ w6.heap.size) := hO.hi
  have hb := ((Ext.refl w5).alloc _).trans hb
  clear hO hg6
  have E6 : Hid (Ext w w6) := E5.out.trans hb
  have A6 : Hid (MBoxAt w6 w.heap.size m (.slice a1 m.certs.length k1) (.slice a2 m.refs.length k2)) := A5.out.ext hb
  have B6 : Hid (Led.JBoxAt w6 bw c (.slice aw rs.length capw)) := B5.out.ext hb
  have O6 : Hid (Led.LOwn w6 (.slice aw rs.length capw) gw rs) := O5.out.ext hb
  have X6 : Hid (MSlice w6 (.slice (some ⟨gx, 0, none⟩) ms.length ms.length) ms) := X5.out.ext hb
  have Y6 : Hid (Led.LRoom h1 w6 gx ms) := Y5.out.ext hb
  have Z6 : Hid (MLs w6 (.slice x5 m.certs.length m.certs.length) (.slice y5 m.refs.length m.refs.length) m) := Z5.out.ext hb
  have P6 : Hid (Led.CtR h1 h2 w6 (.slice x5 m.certs.length m.certs.length) m.certs.length) := P5.out.ext hb
  have Q6 : Hid (Led.IR h1 h2 w6 (.slice y5 m.refs.length m.refs.length) m.refs.length) := Q5.out.ext hb
  clear E5 A5 B5 O5 X5 Y5 Z5 P5 Q5
  clear hb
  rw [← HH2.out] at C6 ⊢
  unfold Led.jr
  obtain ⟨kbl, kb0, kb1⟩ := B6.out
  have hal := alloc_cell
  go_wp2_with fail
  refine (HEq.out _ _ _ (R6.out.slice.ext ((Ext.refl _).alloc _)) (O6.out.slice.ext ((Ext.refl _).alloc _))).mono ?_
  rintro e w7 ⟨rfl, hb⟩
  clear kbl kb0 kb1 hal
  have D7 : Hid (Led.JBoxAt w7 w6.heap.size c (.slice a6 rs.length cap6)) := (Led.jbox_new w6 c _ _).ext hb
  have hb := ((Ext.refl w6).alloc _).trans hb
  have E7 : Hid (Ext w w7) := E6.out.trans hb
  have A7 : Hid (MBoxAt w7 w.heap.size m (.slice a1 m.certs.length k1) (.slice a2 m.refs.length k2)) := A6.out.ext hb
  have B7 : Hid (Led.JBoxAt w7 bw c (.slice aw rs.length capw)) := B6.out.ext hb
  have O7 : Hid (Led.LOwn w7 (.slice aw rs.length capw) gw rs) := O6.out.ext hb
  have X7 : Hid (MSlice w7 (.slice (some ⟨gx, 0, none⟩) ms.length ms.length) ms) := X6.out.ext hb
  have Y7 : Hid (Led.LRoom h1 w7 gx ms) := Y6.out.ext hb
  have Z7 : Hid (MLs w7 (.slice x5 m.certs.length m.certs.length) (.slice y5 m.refs.length m.refs.length) m) := Z6.out.ext hb
  have P7 : Hid (Led.CtR h1 h2 w7 (.slice x5 m.certs.length m.certs.length) m.certs.length) := P6.out.ext hb
  have Q7 : Hid (Led.IR h1 h2 w7 (.slice y5 m.refs.length m.refs.length) m.refs.length) := Q6.out.ext hb
  have C7 : Hid (MBoxAt w7 h2 m (.slice x5 m.certs.length m.certs.length) (.slice y5 m.refs.length m.refs.length)) := C6.out.ext hb
  have R7 : Hid (Led.LOwn w7 (.slice a6 rs.length cap6) g6 rs) := R6.out.ext hb
  clear E6 A6 B6 O6 X6 Y6 Z6 P6 Q6 C6 R6
  clear hb
  obtain ⟨bd, hbd⟩ : ∃ bd, bd = w6.heap.size := ⟨_, rfl⟩
  rw [← hbd] at D7 G6 N6 ⊢
  clear hbd
  go_wp2_with fail
  refine (T2.out _ E7.out).mono ?_
  rintro e w8 ⟨g8, rfl, -, hM, -, hb⟩
  have M8 : Hid (MSlice w8 (.slice (some ⟨g8, 0, none⟩) ms.length ms.length) ms) := hM
  clear hM
  have E8 : Hid (Ext w w8) := E7.out.trans hb
  have A8 : Hid (MBoxAt w8 w.heap.size m (.slice a1 m.certs.length k1) (.slice a2 m.refs.length k2)) := A7.out.ext hb
  have B8 : Hid (Led.JBoxAt w8 bw c (.slice aw rs.length capw)) := B7.out.ext hb
  have O8 : Hid (Led.LOwn w8 (.slice aw rs.length capw) gw rs) := O7.out.ext hb
  have X8 : Hid (MSlice w8 (.slice (some ⟨gx, 0, none⟩) ms.length ms.length) ms) := X7.out.ext hb
  have Y8 : Hid (Led.LRoom h1 w8 gx ms) := Y7.out.ext hb
  have Z8 : Hid (MLs w8 (.slice x5 m.certs.length m.certs.length) (.slice y5 m.refs.length m.refs.length) m) := Z7.out.ext hb
  have P8 : Hid (Led.CtR h1 h2 w8 (.slice x5 m.certs.length m.certs.length) m.certs.length) := P7.out.ext hb
  have Q8 : Hid (Led.IR h1 h2 w8 (.slice y5 m.refs.length m.refs.length) m.refs.length) := Q7.out.ext hb
  have C8 : Hid (MBoxAt w8 h2 m (.slice x5 m.certs.length m.certs.length) (.slice y5 m.refs.length m.refs.length)) := C7.out.ext hb
  have R8 : Hid (Led.LOwn w8 (.slice a6 rs.length cap6) g6 rs) := R7.out.ext hb
  have D8 : Hid (Led.JBoxAt w8 bd c (.slice a6 rs.length cap6)) := D7.out.ext hb
  clear E7 A7 B7 O7 X7 Y7 Z7 P7 Q7 C7 R7 D7
  clear hb
  go_wp2_with fail
  refine (HEm.out _ _ _ X8.out M8.out).mono ?_
  rintro e w9 ⟨rfl, hb⟩
  clear M8
  have E9 : Hid (Ext w w9) := E8.out.trans hb
  have A9 : Hid (MBoxAt w9 w.heap.size m (.slice a1 m.certs.length k1) (.slice a2 m.refs.length k2)) := A8.out.ext hb
  have B9 : Hid (Led.JBoxAt w9 bw c (.slice aw rs.length capw)) := B8.out.ext hb
  have O9 : Hid (Led.LOwn w9 (.slice aw rs.length capw) gw rs) := O8.out.ext hb
  have X9 : Hid (MSlice w9 (.slice (some ⟨gx, 0, none⟩) ms.length ms.length) ms) := X8.out.ext hb
  have Y9 : Hid (Led.LRoom h1 w9 gx ms) := Y8.out.ext hb
  have Z9 : Hid (MLs w9 (.slice x5 m.certs.length m.certs.length) (.slice y5 m.refs.length m.refs.length) m) := Z8.out.ext hb
  have P9 : Hid (Led.CtR h1 h2 w9 (.slice x5 m.certs.length m.certs.length) m.certs.length) := P8.out.ext hb
  have Q9 : Hid (Led.IR h1 h2 w9 (.slice y5 m.refs.length m.refs.length) m.refs.length) := Q8.out.ext hb
  have C9 : Hid (MBoxAt w9 h2 m (.slice x5 m.certs.length m.certs.length) (.slice y5 m.refs.length m.refs.length)) := C8.out.ext hb
  have R9 : Hid (Led.LOwn w9 (.slice a6 rs.length cap6) g6 rs) := R8.out.ext hb
  have D9 : Hid (Led.JBoxAt w9 bd c (.slice a6 rs.length cap6)) := D8.out.ext hb
  clear E8 A8 B8 O8 X8 Y8 Z8 P8 Q8 C8 R8 D8
  clear hb
  obtain ⟨-, ⟨ka0, ka1, ka2, ka3, ka4, ka5, ka6⟩, -⟩ := A9.out
  obtain ⟨-, ⟨kc0, kc1, kc2, kc3, kc4, kc5, kc6⟩, -⟩ := C9.out
  have tka := E9
  go_wp2
  go_region_held3 (fun W => W.cell? ⟨w.heap.size, 0, none⟩ = some (.int .i64 m.kind) ∧ W.cell? ⟨w.heap.size, 1, none⟩ = some (.int .i64 m.view) ∧ W.cell? ⟨w.heap.size, 2, none⟩ = some (.int .i64 m.from_) ∧ W.cell? ⟨w.heap.size, 3, none⟩ = some (.int .i64 m.slot) ∧ W.cell? ⟨w.heap.size, 4, none⟩ = some (.int .i64 m.value) ∧ W.cell? ⟨w.heap.size, 5, none⟩ = some (.slice a1 m.certs.length k1) ∧ W.cell? ⟨w.heap.size, 6, none⟩ = some (.slice a2 m.refs.length k2) ∧ W.cell? ⟨h2, 0, none⟩ = some (.int .i64 m.kind) ∧ W.cell? ⟨h2, 1, none⟩ = some (.int .i64 m.view) ∧ W.cell? ⟨h2, 2, none⟩ = some (.int .i64 m.from_) ∧ W.cell? ⟨h2, 3, none⟩ = some (.int .i64 m.slot) ∧ W.cell? ⟨h2, 4, none⟩ = some (.int .i64 m.value) ∧ W.cell? ⟨h2, 5, none⟩ = some (.slice x5 m.certs.length m.certs.length) ∧ W.cell? ⟨h2, 6, none⟩ = some (.slice y5 m.refs.length m.refs.length)) (first | exact ⟨ka0, ka1, ka2, ka3, ka4, ka5, ka6, kc0, kc1, kc2, kc3, kc4, kc5, kc6⟩ | exact ⟨s0, s1, s2, s3, s4, s5, s6, s7, s8, s9, s10, s11, s12, s13⟩ | exact ⟨t0, t1, t2, t3, t4, t5, t6, t7, t8, t9, t10, t11, t12, t13⟩ | go_keep) (first | (have tk := tka; clear tk; go_at_call 37; refine (TM.out _ (by first | exact E9.out.drew | exact E9.out)).mono ?_; rintro e q1 ⟨xt, yt, rfl, hC, hI, hb⟩; have Xq1 : Hid (Ext w9 q1) := (by first | exact ((Ext.refl _).drew).trans hb | exact hb); have MT : Hid (MLs q1 (.slice xt m.certs.length m.certs.length) (.slice yt m.refs.length m.refs.length) m) := ⟨hC.slice, hI.slice⟩; clear hC hI; have tkb := MT; (try unfold magg); have lba := World.block_lt_of_cell? w9 _ ka0; have lbc := World.block_lt_of_cell? w9 _ kc0; have s0 := ((Ext.cell Xq1.out).1 _ _ lba).trans ka0; have s1 := ((Ext.cell Xq1.out).1 _ _ lba).trans ka1; have s2 := ((Ext.cell Xq1.out).1 _ _ lba).trans ka2; have s3 := ((Ext.cell Xq1.out).1 _ _ lba).trans ka3; have s4 := ((Ext.cell Xq1.out).1 _ _ lba).trans ka4; have s5 := ((Ext.cell Xq1.out).1 _ _ lba).trans ka5; have s6 := ((Ext.cell Xq1.out).1 _ _ lba).trans ka6; have s7 := ((Ext.cell Xq1.out).1 _ _ lbc).trans kc0; have s8 := ((Ext.cell Xq1.out).1 _ _ lbc).trans kc1; have s9 := ((Ext.cell Xq1.out).1 _ _ lbc).trans kc2; have s10 := ((Ext.cell Xq1.out).1 _ _ lbc).trans kc3; have s11 := ((Ext.cell Xq1.out).1 _ _ lbc).trans kc4; have s12 := ((Ext.cell Xq1.out).1 _ _ lbc).trans kc5; have s13 := ((Ext.cell Xq1.out).1 _ _ lbc).trans kc6; clear hb lba lbc tka ka0 ka1 ka2 ka3 ka4 ka5 ka6 kc0 kc1 kc2 kc3 kc4 kc5 kc6) | (have tk := tkb; clear tk; go_at_call 41; refine (HE1.out _ _ _ _ _ (Z9.out.ext (by first | exact (Xq1.out).drew | exact Xq1.out)) (MT.out.ext (by first | exact (Ext.refl _).drew | exact Ext.refl _))).mono ?_; rintro e q2 ⟨rfl, hb⟩; have Xq2 : Hid (Ext q1 q2) := (by first | exact ((Ext.refl _).drew).trans hb | exact hb); have lba := World.block_lt_of_cell? q1 _ s0; have lbc := World.block_lt_of_cell? q1 _ s7; have t0 := ((Ext.cell Xq2.out).1 _ _ lba).trans s0; have t1 := ((Ext.cell Xq2.out).1 _ _ lba).trans s1; have t2 := ((Ext.cell Xq2.out).1 _ _ lba).trans s2; have t3 := ((Ext.cell Xq2.out).1 _ _ lba).trans s3; have t4 := ((Ext.cell Xq2.out).1 _ _ lba).trans s4; have t5 := ((Ext.cell Xq2.out).1 _ _ lba).trans s5; have t6 := ((Ext.cell Xq2.out).1 _ _ lba).trans s6; have t7 := ((Ext.cell Xq2.out).1 _ _ lbc).trans s7; have t8 := ((Ext.cell Xq2.out).1 _ _ lbc).trans s8; have t9 := ((Ext.cell Xq2.out).1 _ _ lbc).trans s9; have t10 := ((Ext.cell Xq2.out).1 _ _ lbc).trans s10; have t11 := ((Ext.cell Xq2.out).1 _ _ lbc).trans s11; have t12 := ((Ext.cell Xq2.out).1 _ _ lbc).trans s12; have t13 := ((Ext.cell Xq2.out).1 _ _ lbc).trans s13; clear hb lba lbc tkb s0 s1 s2 s3 s4 s5 s6 s7 s8 s9 s10 s11 s12 s13))
  have hb := Xq1.out.trans Xq2.out
  clear Xq1 Xq2 MT t0 t1 t2 t3 t4 t5 t6 t7 t8 t9 t10 t11 t12 t13
  obtain ⟨w11, hw11⟩ : ∃ w11, w11 = q2 := ⟨_, rfl⟩
  subst hw11
  have E11 : Hid (Ext w w11) := E9.out.trans hb
  have A11 : Hid (MBoxAt w11 w.heap.size m (.slice a1 m.certs.length k1) (.slice a2 m.refs.length k2)) := A9.out.ext hb
  have B11 : Hid (Led.JBoxAt w11 bw c (.slice aw rs.length capw)) := B9.out.ext hb
  have O11 : Hid (Led.LOwn w11 (.slice aw rs.length capw) gw rs) := O9.out.ext hb
  have X11 : Hid (MSlice w11 (.slice (some ⟨gx, 0, none⟩) ms.length ms.length) ms) := X9.out.ext hb
  have Y11 : Hid (Led.LRoom h1 w11 gx ms) := Y9.out.ext hb
  have Z11 : Hid (MLs w11 (.slice x5 m.certs.length m.certs.length) (.slice y5 m.refs.length m.refs.length) m) := Z9.out.ext hb
  have P11 : Hid (Led.CtR h1 h2 w11 (.slice x5 m.certs.length m.certs.length) m.certs.length) := P9.out.ext hb
  have Q11 : Hid (Led.IR h1 h2 w11 (.slice y5 m.refs.length m.refs.length) m.refs.length) := Q9.out.ext hb
  have C11 : Hid (MBoxAt w11 h2 m (.slice x5 m.certs.length m.certs.length) (.slice y5 m.refs.length m.refs.length)) := C9.out.ext hb
  have R11 : Hid (Led.LOwn w11 (.slice a6 rs.length cap6) g6 rs) := R9.out.ext hb
  have D11 : Hid (Led.JBoxAt w11 bd c (.slice a6 rs.length cap6)) := D9.out.ext hb
  clear E9 A9 B9 O9 X9 Y9 Z9 P9 Q9 C9 R9 D9
  clear hb
  go_wp2_with fail
  refine (HMk.out _ Y11.out (by have := G4.out; omega)).mono ?_
  rintro e w12 ⟨kk, rfl, hkk, hu⟩
  have E12 : Hid (Ext w w12) := hu.to_ext E11.out (by have := G3.out; have := G4.out; have := G5.out; have := G6.out; omega)
  have A12 : Hid (MBoxAt w12 w.heap.size m (.slice a1 m.certs.length k1) (.slice a2 m.refs.length k2)) := A11.out.updR hu (by have := G3.out; have := G4.out; have := G5.out; have := G6.out; omega)
  have B12 : Hid (Led.JBoxAt w12 bw c (.slice aw rs.length capw)) := B11.out.updR hu (by have := G3.out; have := G4.out; have := G5.out; have := G6.out; omega)
  have O12 : Hid (Led.LOwn w12 (.slice aw rs.length capw) gw rs) := O11.out.updR hu (by have := L3.out; have := G3.out; have := G4.out; have := G5.out; have := G6.out; omega)
  have P12 : Hid (Led.CtR h1 h2 w12 (.slice x5 m.certs.length m.certs.length) m.certs.length) := P11.out.updR hu (by have := G3.out; have := G4.out; have := G5.out; have := G6.out; omega)
  have Q12 : Hid (Led.IR h1 h2 w12 (.slice y5 m.refs.length m.refs.length) m.refs.length) := Q11.out.updR hu (by have := G3.out; have := G4.out; have := G5.out; have := G6.out; omega)
  have C12 : Hid (MBoxAt w12 h2 m (.slice x5 m.certs.length m.certs.length) (.slice y5 m.refs.length m.refs.length)) := C11.out.updR hu (by have := G3.out; have := G4.out; have := G5.out; have := G6.out; omega)
  have R12 : Hid (Led.LOwn w12 (.slice a6 rs.length cap6) g6 rs) := R11.out.updR hu (by have := G3.out; have := G4.out; have := G5.out; have := G6.out; omega)
  have D12 : Hid (Led.JBoxAt w12 bd c (.slice a6 rs.length cap6)) := D11.out.updR hu (by have := G3.out; have := G4.out; have := G5.out; have := G6.out; omega)
  clear hu E11 A11 B11 O11 X11 Y11 Z11 P11 Q11 C11 R11 D11
  have HS12 : Hid (h2 ≤ w12.heap.size) := Nat.le_of_lt C12.out.1
  obtain ⟨-, ⟨kc0, kc1, kc2, kc3, kc4, kc5, kc6⟩, -⟩ := C12.out
  go_wp2_with fail
  refine (HMm.out _ _ _ _ _ _ P12.out Q12.out G5.out HS12.out (by omega)).mono ?_
  rintro e w13 ⟨k3, rfl, hk3, hu⟩
  clear kc0 kc1 kc2 kc3 kc4 kc5 kc6
  have E13 : Hid (Ext w w13) := hu.to_ext E12.out (by have := G3.out; have := G4.out; have := G5.out; have := G6.out; omega)
  have A13 : Hid (MBoxAt w13 w.heap.size m (.slice a1 m.certs.length k1) (.slice a2 m.refs.length k2)) := A12.out.updR hu (by have := G3.out; have := G4.out; have := G5.out; have := G6.out; omega)
  have B13 : Hid (Led.JBoxAt w13 bw c (.slice aw rs.length capw)) := B12.out.updR hu (by have := G3.out; have := G4.out; have := G5.out; have := G6.out; omega)
  have O13 : Hid (Led.LOwn w13 (.slice aw rs.length capw) gw rs) := O12.out.updR hu (by have := L3.out; have := G3.out; have := G4.out; have := G5.out; have := G6.out; omega)
  have C13 : Hid (MBoxAt w13 h2 m (.slice x5 m.certs.length m.certs.length) (.slice y5 m.refs.length m.refs.length)) := C12.out.updR hu (by have := G3.out; have := G4.out; have := G5.out; have := G6.out; omega)
  have R13 : Hid (Led.LOwn w13 (.slice a6 rs.length cap6) g6 rs) := R12.out.updR hu (by have := G3.out; have := G4.out; have := G5.out; have := G6.out; omega)
  have D13 : Hid (Led.JBoxAt w13 bd c (.slice a6 rs.length cap6)) := D12.out.updR hu (by have := G3.out; have := G4.out; have := G5.out; have := G6.out; omega)
  clear hu E12 A12 B12 O12 P12 Q12 C12 R12 D12
  obtain ⟨kbl, kb0, kb1⟩ := B13.out
  obtain ⟨kdl, kd0, kd1⟩ := D13.out
  go_wp2_with fail
  refine (HEq.out _ _ _ R13.out.slice O13.out.slice).mono ?_
  rintro e w14 ⟨rfl, hb⟩
  clear kbl kb0 kb1 kdl kd0 kd1
  have E14 : Hid (Ext w w14) := E13.out.trans hb
  have A14 : Hid (MBoxAt w14 w.heap.size m (.slice a1 m.certs.length k1) (.slice a2 m.refs.length k2)) := A13.out.ext hb
  have B14 : Hid (Led.JBoxAt w14 bw c (.slice aw rs.length capw)) := B13.out.ext hb
  have O14 : Hid (Led.LOwn w14 (.slice aw rs.length capw) gw rs) := O13.out.ext hb
  have R14 : Hid (Led.LOwn w14 (.slice a6 rs.length cap6) g6 rs) := R13.out.ext hb
  have D14 : Hid (Led.JBoxAt w14 bd c (.slice a6 rs.length cap6)) := D13.out.ext hb
  clear E13 A13 B13 O13 C13 R13 D13
  clear hb
  have HG1 : Hid (g6.1 ≤ w14.heap.size) := R14.out.lo
  obtain ⟨kdl, kd0, kd1⟩ := D14.out
  go_wp2_with fail
  refine (HMi.out _ _ _ R14.out HG1.out).mono ?_
  rintro e w15 ⟨q, rfl, hQ, hu⟩
  clear kdl kd0 kd1
  have E15 : Hid (Ext w w15) := hu.to_ext E14.out (by have := G3.out; have := G4.out; have := G5.out; have := G6.out; have := N6.out; omega)
  have A15 : Hid (MBoxAt w15 w.heap.size m (.slice a1 m.certs.length k1) (.slice a2 m.refs.length k2)) := A14.out.updR hu (by have := G3.out; have := G4.out; have := G5.out; have := G6.out; have := N6.out; omega)
  have B15 : Hid (Led.JBoxAt w15 bw c (.slice aw rs.length capw)) := B14.out.updR hu (by have := G3.out; have := G4.out; have := G5.out; have := G6.out; have := N6.out; omega)
  have D15 : Hid (Led.JBoxAt w15 bd c (.slice a6 rs.length cap6)) := D14.out.updR hu (by have := G3.out; have := G4.out; have := G5.out; have := G6.out; have := N6.out; omega)
  have O15 : Hid (Led.LOwn w15 (.slice aw rs.length capw) gw rs) := O14.out.updR hu (by have := L3.out; have := G3.out; have := G4.out; have := G5.out; have := G6.out; have := N6.out; omega)
  have T15 : Hid (Led.LHeld w15 (.slice a6 rs.length cap6) q rs.length) := hQ
  clear hu hQ E14 A14 B14 O14 R14 D14
  obtain ⟨kdl, kd0, kd1⟩ := D15.out
  go_wp2_with fail
  refine (HHe.out _ _ _ T15.out).mono ?_
  rintro e w16 ⟨rfl, hb⟩
  clear kdl kd0 kd1
  have E16 : Hid (Ext w w16) := E15.out.trans hb
  have A16 : Hid (MBoxAt w16 w.heap.size m (.slice a1 m.certs.length k1) (.slice a2 m.refs.length k2)) := A15.out.ext hb
  have B16 : Hid (Led.JBoxAt w16 bw c (.slice aw rs.length capw)) := B15.out.ext hb
  have O16 : Hid (Led.LOwn w16 (.slice aw rs.length capw) gw rs) := O15.out.ext hb
  have D16 : Hid (Led.JBoxAt w16 bd c (.slice a6 rs.length cap6)) := D15.out.ext hb
  have T16 : Hid (Led.LHeld w16 (.slice a6 rs.length cap6) q rs.length) := T15.out.ext hb
  clear E15 A15 B15 O15 D15 T15
  clear hb
  clear G3 G4 G5 G6
  have HS : Hid (∀ W', Ext w16 W' → (fun W' : World => W'.cell? ⟨w.heap.size, 0, none⟩ = some (.int .i64 m.kind) ∧ W'.cell? ⟨w.heap.size, 1, none⟩ = some (.int .i64 m.view) ∧ W'.cell? ⟨w.heap.size, 2, none⟩ = some (.int .i64 m.from_) ∧ W'.cell? ⟨w.heap.size, 3, none⟩ = some (.int .i64 m.slot) ∧ W'.cell? ⟨w.heap.size, 4, none⟩ = some (.int .i64 m.value) ∧ W'.cell? ⟨w.heap.size, 5, none⟩ = some (.slice a1 m.certs.length k1) ∧ W'.cell? ⟨w.heap.size, 6, none⟩ = some (.slice a2 m.refs.length k2)) W') := fun W' he => (A16.out.ext he).2.1
  go_wp2
  refine wp_region_held_drew (S := (fun W' : World => W'.cell? ⟨w.heap.size, 0, none⟩ = some (.int .i64 m.kind) ∧ W'.cell? ⟨w.heap.size, 1, none⟩ = some (.int .i64 m.view) ∧ W'.cell? ⟨w.heap.size, 2, none⟩ = some (.int .i64 m.from_) ∧ W'.cell? ⟨w.heap.size, 3, none⟩ = some (.int .i64 m.slot) ∧ W'.cell? ⟨w.heap.size, 4, none⟩ = some (.int .i64 m.value) ∧ W'.cell? ⟨w.heap.size, 5, none⟩ = some (.slice a1 m.certs.length k1) ∧ W'.cell? ⟨w.heap.size, 6, none⟩ = some (.slice a2 m.refs.length k2))) (by kernel_rfl) (HS.out _ ((Ext.refl _).drew)) (fun hHeld => ?_)
  have F0 : Hid (Ext w16 w16.drew) := (Ext.refl _).drew
  refine wpAnyH_take (i := 0) (oi := { dst := some 79, op := Op.move (.tmp 0), type := 2, pos := "exact.go:3540", after := #[], guard := none }) (v := ?_) rfl (by kernel_rfl) (by kernel_rfl) (by kernel_rfl) (fun _ _ _ h => h) (Or.inl ⟨by rfl, ?_⟩) (by assumption) ?_
  rotate_left
  · intro w' hSw; (try dsimp only at hSw); go_simp; try with_reducible rfl
  (try simp only [Act.put, List.setIfInBounds_toArray, List.set_cons_zero, List.set_cons_succ])
  refine wpAnyH_take (i := 1) (oi := { dst := some 80, op := Op.move (.tmp 1), type := 50, pos := "exact.go:3540", after := #[], guard := none }) (v := ?_) rfl (by kernel_rfl) (by kernel_rfl) (by kernel_rfl) (fun _ _ _ h => h) (Or.inl ⟨by rfl, ?_⟩) (by assumption) ?_
  rotate_left
  · intro w' hSw; (try dsimp only at hSw); go_simp; try with_reducible rfl
  (try simp only [Act.put, List.setIfInBounds_toArray, List.set_cons_zero, List.set_cons_succ])
  refine wpAnyH_take (i := 3) (oi := { dst := some 82, op := Op.load 53 (.tmp 5), type := 53, pos := "exact.go:3540", after := #[], guard := none }) (v := ?_) rfl (by kernel_rfl) (by kernel_rfl) (by kernel_rfl) (fun _ _ _ h => h) (Or.inl ⟨by rfl, ?_⟩) (by assumption) ?_
  rotate_left
  · intro w' hSw; (try dsimp only at hSw); go_simp; try with_reducible rfl
  (try simp only [Act.put, List.setIfInBounds_toArray, List.set_cons_zero, List.set_cons_succ])
  refine wpAnyH_ready (rs := [2, 6]) (by kernel_rfl) (by simp) (AllReadyH.cons rfl (fun K hK => ?_) (AllReadyH.cons rfl (fun K hK => ?_) AllReadyH.nil))
  · go_simp
    refine (T2.out _ (E16.out.trans F0.out)).mono ?_
    rintro e yz1 ⟨gq, rfl, -, hM, -, hb⟩
    have MAz1 : Hid (MSlice yz1 (.slice (some ⟨gq, 0, none⟩) ms.length ms.length) ms) := hM
    clear hM
    have Fz1 : Hid (Ext w16 yz1) := F0.out.trans hb
    clear hb
    refine hK.out _ _ (HS.out _ Fz1.out) (fun hHeldz1 => ?_)
    clear hK K
    refine wpAnyH_ready (rs := [4, 6]) (by kernel_rfl) (by simp) (AllReadyH.cons rfl (fun K hK => ?_) (AllReadyH.cons rfl (fun K hK => ?_) AllReadyH.nil))
    · go_simp
      refine (TM.out _ (E16.out.trans Fz1.out)).mono ?_
      rintro e yz3 ⟨xq, yq, rfl, hC, hI, hb⟩
      have MBz3 : Hid (MSlice yz3 (.slice (some ⟨gq, 0, none⟩) ms.length ms.length) ms ∧ MLs yz3 (.slice xq m.certs.length m.certs.length) (.slice yq m.refs.length m.refs.length) m) := ⟨MAz1.out.ext hb, hC.slice, hI.slice⟩
      clear hC hI
      have Fz3 : Hid (Ext w16 yz3) := Fz1.out.trans hb
      clear hb
      refine hK.out _ _ (HS.out _ Fz3.out) (fun hHeldz3 => ?_)
      clear hK K
      refine wpAnyH_ready (rs := [5, 6]) (by kernel_rfl) (by simp) (AllReadyH.cons rfl (fun K hK => ?_) (AllReadyH.cons rfl (fun K hK => ?_) AllReadyH.nil))
      · go_simp
        refine (HIm.out _ _ _ _ MBz3.out.1 MBz3.out.2).mono ?_
        rintro e yz5 ⟨v3, g3, rfl, hg, hO, hb⟩
        obtain ⟨a3, cap3, rfl, -⟩ := id hO
        have HGQ : Hid (w16.heap.size ≤ g3.1) := Nat.le_trans Fz3.out.size hg
        unfold Led.jr
        have Oz5 : Hid (Led.LOwn yz5 (.slice a3 rs.length cap3) g3 rs) := hO
        clear hO hg
        have Fz5 : Hid (Ext w16 yz5) := Fz3.out.trans hb
        clear hb
        refine hK.out _ _ (HS.out _ Fz5.out) (fun hHeldz5 => ?_)
        clear hK K
        refine wpAnyH_ready (rs := [6]) (by kernel_rfl) (by simp) (AllReadyH.cons rfl (fun K hK => ?_) AllReadyH.nil)
        go_simp
        have Bz7 : Hid (Led.JZ (yz5.alloc (.cells #[.int .i64 0, .slice none 0 0] 57)) yz5.heap.size) := Led.jz_new yz5 57
        have Fz7 : Hid (Ext w16 (yz5.alloc (.cells #[.int .i64 0, .slice none 0 0] 57))) := Fz5.out.alloc _
        have Lz7 : Hid (w16.heap.size ≤ yz5.heap.size) := Fz5.out.size
        have Oz7 : Hid (Led.LOwn (yz5.alloc (.cells #[.int .i64 0, .slice none 0 0] 57)) (.slice a3 rs.length cap3) g3 rs ∧ (g3.2 ≤ yz5.heap.size ∨ yz5.heap.size + 1 ≤ g3.1)) := ⟨Oz5.out.ext ((Ext.refl _).alloc _), Or.inl Oz5.out.hi⟩
        refine hK.out _ _ (HS.out _ Fz7.out) (fun hHeldz7 => ?_)
        clear hK K
        generalize (yz5.alloc (.cells #[.int .i64 0, .slice none 0 0] 57)) = yz7 at *
        refine wpAnyH_ready (rs := [7]) (by kernel_rfl) (by simp) (AllReadyH.cons rfl (fun K hK => ?_) AllReadyH.nil)
        obtain ⟨bl, b0, b1, bf0, bf1⟩ := Bz7.out
        go_simp
        have Gz8 : Hid (Led.GotL w16 c rs ((yz7.setCell ⟨yz5.heap.size, 0, none⟩ (.int .i64 c)).setCell ⟨yz5.heap.size, 1, none⟩ (.slice a3 rs.length cap3)) yz5.heap.size g3 (.slice a3 rs.length cap3)) := Led.GotL.set Fz7.out Lz7.out Bz7.out Oz7.out.1 Oz7.out.2 HGQ.out
        refine hK.out _ _ (HS.out _ Gz8.out.1) (fun hHeldz8 => ?_)
        clear hK K
        refine wpAnyH_done (by kernel_rfl) ?_ _
        have hFX := Gz8.out
        generalize (yz7.setCell ⟨yz5.heap.size, 0, none⟩ (.int .i64 c)).setCell ⟨yz5.heap.size, 1, none⟩ (.slice a3 rs.length cap3) = W at hFX ⊢
        have Az : Hid (MBoxAt W w.heap.size m (.slice a1 m.certs.length k1) (.slice a2 m.refs.length k2)) := A16.out.ext hFX.1
        have Bz : Hid (Led.JBoxAt W bw c (.slice aw rs.length capw)) := B16.out.ext hFX.1
        have Oz : Hid (Led.LOwn W (.slice aw rs.length capw) gw rs) := O16.out.ext hFX.1
        have Dz : Hid (Led.JBoxAt W bd c (.slice a6 rs.length cap6)) := D16.out.ext hFX.1
        have Tz : Hid (Led.LHeld W (.slice a6 rs.length cap6) q rs.length) := T16.out.ext hFX.1
        have Ez : Hid (Ext w W) := E16.out.trans hFX.1
        have Hz : Hid (Led.JBoxAt W yz5.heap.size c (.slice a3 rs.length cap3)) := hFX.2.2.1
        have Uz : Hid (Led.LOwn W (.slice a3 rs.length cap3) g3 rs) := hFX.2.2.2.1
        clear hFX E16 A16 B16 O16 D16 T16
        obtain ⟨bl9, b09, b19⟩ := Bz.out
        obtain ⟨hl9, h09, h19⟩ := Hz.out
        go_wp2_with fail
        refine (HEq.out _ _ _ Uz.out.slice Oz.out.slice).mono ?_
        rintro e w18 ⟨rfl, hb⟩
        clear bl9 b09 b19 hl9 h09 h19 Hz Uz
        have D18 : Hid (Led.JBoxAt w18 bd c (.slice a6 rs.length cap6)) := Dz.out.ext hb
        have T18 : Hid (Led.LHeld w18 (.slice a6 rs.length cap6) q rs.length) := Tz.out.ext hb
        have E18 : Hid (Ext w w18) := Ez.out.trans hb
        clear hb Ez Az Bz Oz Dz Tz
        obtain ⟨dl9, d09, d19⟩ := D18.out
        go_wp2_with fail
        refine (HHe.out _ _ _ T18.out).mono ?_
        rintro e w19 ⟨rfl, hb⟩
        clear dl9 d09 d19
        have E19 : Hid (Ext w w19) := E18.out.trans hb
        clear hb
        go_wp2
        go_ret
        exact ⟨rfl, E19.out⟩
      · go_simp
        have Bz6 : Hid (Led.JZ (yz3.alloc (.cells #[.int .i64 0, .slice none 0 0] 57)) yz3.heap.size) := Led.jz_new yz3 57
        have Fz6 : Hid (Ext w16 (yz3.alloc (.cells #[.int .i64 0, .slice none 0 0] 57))) := Fz3.out.alloc _
        have Lz6 : Hid (w16.heap.size ≤ yz3.heap.size) := Fz3.out.size
        have MBz6 : Hid (MSlice (yz3.alloc (.cells #[.int .i64 0, .slice none 0 0] 57)) (.slice (some ⟨gq, 0, none⟩) ms.length ms.length) ms ∧ MLs (yz3.alloc (.cells #[.int .i64 0, .slice none 0 0] 57)) (.slice xq m.certs.length m.certs.length) (.slice yq m.refs.length m.refs.length) m) := ⟨MBz3.out.1.ext ((Ext.refl _).alloc _), MBz3.out.2.ext ((Ext.refl _).alloc _)⟩
        refine hK.out _ _ (HS.out _ Fz6.out) (fun hHeldz6 => ?_)
        clear hK K
        generalize (yz3.alloc (.cells #[.int .i64 0, .slice none 0 0] 57)) = yz6 at *
        refine wpAnyH_ready (rs := [5]) (by kernel_rfl) (by simp) (AllReadyH.cons rfl (fun K hK => ?_) AllReadyH.nil)
        go_simp
        refine (HIm.out _ _ _ _ MBz6.out.1 MBz6.out.2).mono ?_
        rintro e yz9 ⟨v3, g3, rfl, hg, hO, hb⟩
        obtain ⟨a3, cap3, rfl, -⟩ := id hO
        have HGQ : Hid (w16.heap.size ≤ g3.1) := Nat.le_trans Fz6.out.size hg
        unfold Led.jr
        have Oz9 : Hid (Led.LOwn yz9 (.slice a3 rs.length cap3) g3 rs ∧ (g3.2 ≤ yz3.heap.size ∨ yz3.heap.size + 1 ≤ g3.1)) := ⟨hO, Or.inr (Nat.lt_of_lt_of_le Bz6.out.1 hg)⟩
        clear hO hg
        have Fz9 : Hid (Ext w16 yz9) := Fz6.out.trans hb
        have Bz9 : Hid (Led.JZ yz9 yz3.heap.size) := Bz6.out.ext hb
        clear hb
        refine hK.out _ _ (HS.out _ Fz9.out) (fun hHeldz9 => ?_)
        clear hK K
        refine wpAnyH_ready (rs := [7]) (by kernel_rfl) (by simp) (AllReadyH.cons rfl (fun K hK => ?_) AllReadyH.nil)
        obtain ⟨bl, b0, b1, bf0, bf1⟩ := Bz9.out
        go_simp
        have Gz10 : Hid (Led.GotL w16 c rs ((yz9.setCell ⟨yz3.heap.size, 0, none⟩ (.int .i64 c)).setCell ⟨yz3.heap.size, 1, none⟩ (.slice a3 rs.length cap3)) yz3.heap.size g3 (.slice a3 rs.length cap3)) := Led.GotL.set Fz9.out Lz6.out Bz9.out Oz9.out.1 Oz9.out.2 HGQ.out
        refine hK.out _ _ (HS.out _ Gz10.out.1) (fun hHeldz10 => ?_)
        clear hK K
        refine wpAnyH_done (by kernel_rfl) ?_ _
        have hFX := Gz10.out
        generalize (yz9.setCell ⟨yz3.heap.size, 0, none⟩ (.int .i64 c)).setCell ⟨yz3.heap.size, 1, none⟩ (.slice a3 rs.length cap3) = W at hFX ⊢
        have Az : Hid (MBoxAt W w.heap.size m (.slice a1 m.certs.length k1) (.slice a2 m.refs.length k2)) := A16.out.ext hFX.1
        have Bz : Hid (Led.JBoxAt W bw c (.slice aw rs.length capw)) := B16.out.ext hFX.1
        have Oz : Hid (Led.LOwn W (.slice aw rs.length capw) gw rs) := O16.out.ext hFX.1
        have Dz : Hid (Led.JBoxAt W bd c (.slice a6 rs.length cap6)) := D16.out.ext hFX.1
        have Tz : Hid (Led.LHeld W (.slice a6 rs.length cap6) q rs.length) := T16.out.ext hFX.1
        have Ez : Hid (Ext w W) := E16.out.trans hFX.1
        have Hz : Hid (Led.JBoxAt W yz3.heap.size c (.slice a3 rs.length cap3)) := hFX.2.2.1
        have Uz : Hid (Led.LOwn W (.slice a3 rs.length cap3) g3 rs) := hFX.2.2.2.1
        clear hFX E16 A16 B16 O16 D16 T16
        obtain ⟨bl9, b09, b19⟩ := Bz.out
        obtain ⟨hl9, h09, h19⟩ := Hz.out
        go_wp2_with fail
        refine (HEq.out _ _ _ Uz.out.slice Oz.out.slice).mono ?_
        rintro e w18 ⟨rfl, hb⟩
        clear bl9 b09 b19 hl9 h09 h19 Hz Uz
        have D18 : Hid (Led.JBoxAt w18 bd c (.slice a6 rs.length cap6)) := Dz.out.ext hb
        have T18 : Hid (Led.LHeld w18 (.slice a6 rs.length cap6) q rs.length) := Tz.out.ext hb
        have E18 : Hid (Ext w w18) := Ez.out.trans hb
        clear hb Ez Az Bz Oz Dz Tz
        obtain ⟨dl9, d09, d19⟩ := D18.out
        go_wp2_with fail
        refine (HHe.out _ _ _ T18.out).mono ?_
        rintro e w19 ⟨rfl, hb⟩
        clear dl9 d09 d19
        have E19 : Hid (Ext w w19) := E18.out.trans hb
        clear hb
        go_wp2
        go_ret
        exact ⟨rfl, E19.out⟩
    · go_simp
      have Bz4 : Hid (Led.JZ (yz1.alloc (.cells #[.int .i64 0, .slice none 0 0] 57)) yz1.heap.size) := Led.jz_new yz1 57
      have Fz4 : Hid (Ext w16 (yz1.alloc (.cells #[.int .i64 0, .slice none 0 0] 57))) := Fz1.out.alloc _
      have Lz4 : Hid (w16.heap.size ≤ yz1.heap.size) := Fz1.out.size
      have MAz4 : Hid (MSlice (yz1.alloc (.cells #[.int .i64 0, .slice none 0 0] 57)) (.slice (some ⟨gq, 0, none⟩) ms.length ms.length) ms) := MAz1.out.ext ((Ext.refl _).alloc _)
      refine hK.out _ _ (HS.out _ Fz4.out) (fun hHeldz4 => ?_)
      clear hK K
      generalize (yz1.alloc (.cells #[.int .i64 0, .slice none 0 0] 57)) = yz4 at *
      refine wpAnyH_ready (rs := [4]) (by kernel_rfl) (by simp) (AllReadyH.cons rfl (fun K hK => ?_) AllReadyH.nil)
      go_simp
      refine (TM.out _ (E16.out.trans Fz4.out)).mono ?_
      rintro e yz11 ⟨xq, yq, rfl, hC, hI, hb⟩
      have MBz11 : Hid (MSlice yz11 (.slice (some ⟨gq, 0, none⟩) ms.length ms.length) ms ∧ MLs yz11 (.slice xq m.certs.length m.certs.length) (.slice yq m.refs.length m.refs.length) m) := ⟨MAz4.out.ext hb, hC.slice, hI.slice⟩
      clear hC hI
      have Fz11 : Hid (Ext w16 yz11) := Fz4.out.trans hb
      have Bz11 : Hid (Led.JZ yz11 yz1.heap.size) := Bz4.out.ext hb
      clear hb
      refine hK.out _ _ (HS.out _ Fz11.out) (fun hHeldz11 => ?_)
      clear hK K
      refine wpAnyH_ready (rs := [5]) (by kernel_rfl) (by simp) (AllReadyH.cons rfl (fun K hK => ?_) AllReadyH.nil)
      go_simp
      refine (HIm.out _ _ _ _ MBz11.out.1 MBz11.out.2).mono ?_
      rintro e yz12 ⟨v3, g3, rfl, hg, hO, hb⟩
      obtain ⟨a3, cap3, rfl, -⟩ := id hO
      have HGQ : Hid (w16.heap.size ≤ g3.1) := Nat.le_trans Fz11.out.size hg
      unfold Led.jr
      have Oz12 : Hid (Led.LOwn yz12 (.slice a3 rs.length cap3) g3 rs ∧ (g3.2 ≤ yz1.heap.size ∨ yz1.heap.size + 1 ≤ g3.1)) := ⟨hO, Or.inr (Nat.lt_of_lt_of_le Bz11.out.1 hg)⟩
      clear hO hg
      have Fz12 : Hid (Ext w16 yz12) := Fz11.out.trans hb
      have Bz12 : Hid (Led.JZ yz12 yz1.heap.size) := Bz11.out.ext hb
      clear hb
      refine hK.out _ _ (HS.out _ Fz12.out) (fun hHeldz12 => ?_)
      clear hK K
      refine wpAnyH_ready (rs := [7]) (by kernel_rfl) (by simp) (AllReadyH.cons rfl (fun K hK => ?_) AllReadyH.nil)
      obtain ⟨bl, b0, b1, bf0, bf1⟩ := Bz12.out
      go_simp
      have Gz13 : Hid (Led.GotL w16 c rs ((yz12.setCell ⟨yz1.heap.size, 0, none⟩ (.int .i64 c)).setCell ⟨yz1.heap.size, 1, none⟩ (.slice a3 rs.length cap3)) yz1.heap.size g3 (.slice a3 rs.length cap3)) := Led.GotL.set Fz12.out Lz4.out Bz12.out Oz12.out.1 Oz12.out.2 HGQ.out
      refine hK.out _ _ (HS.out _ Gz13.out.1) (fun hHeldz13 => ?_)
      clear hK K
      refine wpAnyH_done (by kernel_rfl) ?_ _
      have hFX := Gz13.out
      generalize (yz12.setCell ⟨yz1.heap.size, 0, none⟩ (.int .i64 c)).setCell ⟨yz1.heap.size, 1, none⟩ (.slice a3 rs.length cap3) = W at hFX ⊢
      have Az : Hid (MBoxAt W w.heap.size m (.slice a1 m.certs.length k1) (.slice a2 m.refs.length k2)) := A16.out.ext hFX.1
      have Bz : Hid (Led.JBoxAt W bw c (.slice aw rs.length capw)) := B16.out.ext hFX.1
      have Oz : Hid (Led.LOwn W (.slice aw rs.length capw) gw rs) := O16.out.ext hFX.1
      have Dz : Hid (Led.JBoxAt W bd c (.slice a6 rs.length cap6)) := D16.out.ext hFX.1
      have Tz : Hid (Led.LHeld W (.slice a6 rs.length cap6) q rs.length) := T16.out.ext hFX.1
      have Ez : Hid (Ext w W) := E16.out.trans hFX.1
      have Hz : Hid (Led.JBoxAt W yz1.heap.size c (.slice a3 rs.length cap3)) := hFX.2.2.1
      have Uz : Hid (Led.LOwn W (.slice a3 rs.length cap3) g3 rs) := hFX.2.2.2.1
      clear hFX E16 A16 B16 O16 D16 T16
      obtain ⟨bl9, b09, b19⟩ := Bz.out
      obtain ⟨hl9, h09, h19⟩ := Hz.out
      go_wp2_with fail
      refine (HEq.out _ _ _ Uz.out.slice Oz.out.slice).mono ?_
      rintro e w18 ⟨rfl, hb⟩
      clear bl9 b09 b19 hl9 h09 h19 Hz Uz
      have D18 : Hid (Led.JBoxAt w18 bd c (.slice a6 rs.length cap6)) := Dz.out.ext hb
      have T18 : Hid (Led.LHeld w18 (.slice a6 rs.length cap6) q rs.length) := Tz.out.ext hb
      have E18 : Hid (Ext w w18) := Ez.out.trans hb
      clear hb Ez Az Bz Oz Dz Tz
      obtain ⟨dl9, d09, d19⟩ := D18.out
      go_wp2_with fail
      refine (HHe.out _ _ _ T18.out).mono ?_
      rintro e w19 ⟨rfl, hb⟩
      clear dl9 d09 d19
      have E19 : Hid (Ext w w19) := E18.out.trans hb
      clear hb
      go_wp2
      go_ret
      exact ⟨rfl, E19.out⟩
  · go_simp
    have Bz2 : Hid (Led.JZ (w16.alloc (.cells #[.int .i64 0, .slice none 0 0] 57)).drew w16.heap.size) := Led.jz_new w16.drew 57
    have Fz2 : Hid (Ext w16 (w16.alloc (.cells #[.int .i64 0, .slice none 0 0] 57)).drew) := F0.out.alloc _
    have Lz2 : Hid (w16.heap.size ≤ w16.heap.size) := F0.out.size
    refine hK.out _ _ (HS.out _ Fz2.out) (fun hHeldz2 => ?_)
    clear hK K
    generalize (w16.alloc (.cells #[.int .i64 0, .slice none 0 0] 57)).drew = yz2 at *
    refine wpAnyH_ready (rs := [2]) (by kernel_rfl) (by simp) (AllReadyH.cons rfl (fun K hK => ?_) AllReadyH.nil)
    go_simp
    refine (T2.out _ (E16.out.trans Fz2.out)).mono ?_
    rintro e yz14 ⟨gq, rfl, -, hM, -, hb⟩
    have MAz14 : Hid (MSlice yz14 (.slice (some ⟨gq, 0, none⟩) ms.length ms.length) ms) := hM
    clear hM
    have Fz14 : Hid (Ext w16 yz14) := Fz2.out.trans hb
    have Bz14 : Hid (Led.JZ yz14 w16.heap.size) := Bz2.out.ext hb
    clear hb
    refine hK.out _ _ (HS.out _ Fz14.out) (fun hHeldz14 => ?_)
    clear hK K
    refine wpAnyH_ready (rs := [4]) (by kernel_rfl) (by simp) (AllReadyH.cons rfl (fun K hK => ?_) AllReadyH.nil)
    go_simp
    refine (TM.out _ (E16.out.trans Fz14.out)).mono ?_
    rintro e yz15 ⟨xq, yq, rfl, hC, hI, hb⟩
    have MBz15 : Hid (MSlice yz15 (.slice (some ⟨gq, 0, none⟩) ms.length ms.length) ms ∧ MLs yz15 (.slice xq m.certs.length m.certs.length) (.slice yq m.refs.length m.refs.length) m) := ⟨MAz14.out.ext hb, hC.slice, hI.slice⟩
    clear hC hI
    have Fz15 : Hid (Ext w16 yz15) := Fz14.out.trans hb
    have Bz15 : Hid (Led.JZ yz15 w16.heap.size) := Bz14.out.ext hb
    clear hb
    refine hK.out _ _ (HS.out _ Fz15.out) (fun hHeldz15 => ?_)
    clear hK K
    refine wpAnyH_ready (rs := [5]) (by kernel_rfl) (by simp) (AllReadyH.cons rfl (fun K hK => ?_) AllReadyH.nil)
    go_simp
    refine (HIm.out _ _ _ _ MBz15.out.1 MBz15.out.2).mono ?_
    rintro e yz16 ⟨v3, g3, rfl, hg, hO, hb⟩
    obtain ⟨a3, cap3, rfl, -⟩ := id hO
    have HGQ : Hid (w16.heap.size ≤ g3.1) := Nat.le_trans Fz15.out.size hg
    unfold Led.jr
    have Oz16 : Hid (Led.LOwn yz16 (.slice a3 rs.length cap3) g3 rs ∧ (g3.2 ≤ w16.heap.size ∨ w16.heap.size + 1 ≤ g3.1)) := ⟨hO, Or.inr (Nat.lt_of_lt_of_le Bz15.out.1 hg)⟩
    clear hO hg
    have Fz16 : Hid (Ext w16 yz16) := Fz15.out.trans hb
    have Bz16 : Hid (Led.JZ yz16 w16.heap.size) := Bz15.out.ext hb
    clear hb
    refine hK.out _ _ (HS.out _ Fz16.out) (fun hHeldz16 => ?_)
    clear hK K
    refine wpAnyH_ready (rs := [7]) (by kernel_rfl) (by simp) (AllReadyH.cons rfl (fun K hK => ?_) AllReadyH.nil)
    obtain ⟨bl, b0, b1, bf0, bf1⟩ := Bz16.out
    go_simp
    have Gz17 : Hid (Led.GotL w16 c rs ((yz16.setCell ⟨w16.heap.size, 0, none⟩ (.int .i64 c)).setCell ⟨w16.heap.size, 1, none⟩ (.slice a3 rs.length cap3)) w16.heap.size g3 (.slice a3 rs.length cap3)) := Led.GotL.set Fz16.out Lz2.out Bz16.out Oz16.out.1 Oz16.out.2 HGQ.out
    refine hK.out _ _ (HS.out _ Gz17.out.1) (fun hHeldz17 => ?_)
    clear hK K
    refine wpAnyH_done (by kernel_rfl) ?_ _
    have hFX := Gz17.out
    generalize (yz16.setCell ⟨w16.heap.size, 0, none⟩ (.int .i64 c)).setCell ⟨w16.heap.size, 1, none⟩ (.slice a3 rs.length cap3) = W at hFX ⊢
    have Az : Hid (MBoxAt W w.heap.size m (.slice a1 m.certs.length k1) (.slice a2 m.refs.length k2)) := A16.out.ext hFX.1
    have Bz : Hid (Led.JBoxAt W bw c (.slice aw rs.length capw)) := B16.out.ext hFX.1
    have Oz : Hid (Led.LOwn W (.slice aw rs.length capw) gw rs) := O16.out.ext hFX.1
    have Dz : Hid (Led.JBoxAt W bd c (.slice a6 rs.length cap6)) := D16.out.ext hFX.1
    have Tz : Hid (Led.LHeld W (.slice a6 rs.length cap6) q rs.length) := T16.out.ext hFX.1
    have Ez : Hid (Ext w W) := E16.out.trans hFX.1
    have Hz : Hid (Led.JBoxAt W w16.heap.size c (.slice a3 rs.length cap3)) := hFX.2.2.1
    have Uz : Hid (Led.LOwn W (.slice a3 rs.length cap3) g3 rs) := hFX.2.2.2.1
    clear hFX E16 A16 B16 O16 D16 T16
    obtain ⟨bl9, b09, b19⟩ := Bz.out
    obtain ⟨hl9, h09, h19⟩ := Hz.out
    go_wp2_with fail
    refine (HEq.out _ _ _ Uz.out.slice Oz.out.slice).mono ?_
    rintro e w18 ⟨rfl, hb⟩
    clear bl9 b09 b19 hl9 h09 h19 Hz Uz
    have D18 : Hid (Led.JBoxAt w18 bd c (.slice a6 rs.length cap6)) := Dz.out.ext hb
    have T18 : Hid (Led.LHeld w18 (.slice a6 rs.length cap6) q rs.length) := Tz.out.ext hb
    have E18 : Hid (Ext w w18) := Ez.out.trans hb
    clear hb Ez Az Bz Oz Dz Tz
    obtain ⟨dl9, d09, d19⟩ := D18.out
    go_wp2_with fail
    refine (HHe.out _ _ _ T18.out).mono ?_
    rintro e w19 ⟨rfl, hb⟩
    clear dl9 d09 d19
    have E19 : Hid (Ext w w19) := E18.out.trans hb
    clear hb
    go_wp2
    go_ret
    exact ⟨rfl, E19.out⟩
end Go.Proofs.Ytflojfkalnojbaa
