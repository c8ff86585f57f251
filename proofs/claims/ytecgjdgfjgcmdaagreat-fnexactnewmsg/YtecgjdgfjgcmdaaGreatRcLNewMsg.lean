/- laws.FnExactNewMsg answers true at every f, every ledger, every replica. -/
import Derived.Test.YtecgjdgfjgcmdaaGreatRcGM
import Derived.Test.YtecgjdgfjgcmdaaGreatRcRP8n
import Derived.Deep.RegionHeld3
import Derived.Test.YtecgjdgfjgcmdaaGreatRcTk
namespace Go.Proofs.YtecgjdgfjgcmdaaGreat
open Go.RowKit
theorem nwm_len (f : Int) (ms : List Ms) (r : Rp) : (ansM (Msg.askC f ms r (Msg.newC f ms r)) (Msg.nwM f ms r)).certs.length ≤ 1048576 ∧ (ansM (Msg.askC f ms r (Msg.newC f ms r)) (Msg.nwM f ms r)).refs.length ≤ 1048576 := by
  unfold ansM
  split
  · rename_i h
    have hl := Msg.repC_led (Msg.askC_zero h).1
    obtain ⟨hf0, hf1, -⟩ := Msg.ledger_zero hl
    exact ⟨by simp [Msg.nwM], by have := Msg.refsN_len (f := f) (ms := ms) (r := r) hf0; show (Msg.refsN f ms r).length ≤ _; omega⟩
  · simp [zeroM]
set_option linter.unusedSimpArgs false in
set_option maxHeartbeats 16000000 in
set_option maxRecDepth 100000 in
theorem lawNewMsg (f : Int) (v : Value) (ms : List Ms) (rp : Rp) (w : World) (hm : MSlice w v ms) :
    Calls Tryz.prog 8 #[.int .i64 f, v, ragg rp] w fun e w' => e = .returned (.bool true) ∧ Ext w w' := by
  have HM : Hid (MSlice w v ms) := hm
  have HSz : Hid (∀ wx : World, Ext w wx → Calls Tryz.prog 11 #[v, .int .i64 1048576] wx fun e w' => ∃ r : Int, e = .returned (.int .i64 r) ∧ -1 ≤ r ∧ r ≤ 1048576 ∧ (0 ≤ r → ms.length ≤ 1048576 ∧ ∀ m ∈ ms, SmallM m) ∧ Ext wx w') := fun wx he => szMsgS_le v ms 1048576 wx (by omega) (by omega) (HM.out.ext he)
  have HT : Hid (ms.length ≤ 1048576 ∧ (∀ m ∈ ms, SmallM m) → ∀ wx : World, Ext w wx → Calls Tryz.prog 13 #[v] wx fun e w' => ∃ g, e = .returned (.slice (some ⟨g, 0, none⟩) ms.length ms.length) ∧ g = wx.heap.size ∧ MSlice w' (.slice (some ⟨g, 0, none⟩) ms.length ms.length) ms ∧ Led.LRoom w'.heap.size w' g ms ∧ Ext wx w') := fun hs wx he => (toMsgS_at v ms wx (HM.out.ext he) hs.1 hs.2).mono fun e w' h => ⟨_, h.1, rfl, MSlice.of h.2.1.1 h.2.2.1.at (Nat.le_refl _) (by have := hs.1; unfold maxLen; omega), Led.LRoom.of h.2.1 h.2.2.1, h.2.2.2⟩
  have HMk0 : Hid (ms.length ≤ 1048576 ∧ (∀ m ∈ ms, SmallM m) → ∀ (gx hi : Nat) (wx : World), Led.LRoom hi wx gx ms → gx < hi → Calls Tryz.prog 26 #[.slice (some ⟨gx, 0, none⟩) ms.length ms.length, .int .i64 1] wx fun e w' => ∃ k : Nat, e = .returned (.int .i64 (k : Int)) ∧ k ≤ 100000000000000 ∧ Led.UpdR gx hi wx w') := fun hs gx hi wx hl hg => Led.markMsgS_room hi gx ms wx hl hg hs.1 hs.2
  have HTc : Hid (∀ wx : World, Calls Tryz.prog 14 #[ragg rp] wx fun e w' => e = .returned (ragg rp) ∧ Ext wx w') := fun wx => toReplica_any rp wx
  have hml : (ansM (Msg.askC f ms rp (Msg.newC f ms rp)) (Msg.nwM f ms rp)).certs.length ≤ 1048576 ∧ (ansM (Msg.askC f ms rp (Msg.newC f ms rp)) (Msg.nwM f ms rp)).refs.length ≤ 1048576 := nwm_len f ms rp
  have HSp : Hid (∀ (x : Value) (wx : World), MSlice wx x ms → Calls Tryz.prog 29 #[.int .i64 f, x, ragg rp] wx (MgRet wx (Msg.askC f ms rp (Msg.newC f ms rp)) (ansM (Msg.askC f ms rp (Msg.newC f ms rp)) (Msg.nwM f ms rp)))) := fun x wx h => specNewMsg_any f x ms rp  wx h
  have HIm : Hid (∀ (x : Value) (wx : World), MSlice wx x ms → Calls Tryz.prog 30 #[.int .i64 f, x, ragg rp] wx (MgRet wx (Msg.askC f ms rp (Msg.newC f ms rp)) (ansM (Msg.askC f ms rp (Msg.newC f ms rp)) (Msg.nwM f ms rp)))) := fun x wx h => implNewMsg_any f x ms rp  wx h
  generalize ansM (Msg.askC f ms rp (Msg.newC f ms rp)) (Msg.nwM f ms rp) = m at *
  generalize Msg.askC f ms rp (Msg.newC f ms rp) = cc at *
  have HEm : Hid (∀ (x y : Value) (wx : World), MSlice wx x ms → MSlice wx y ms → Calls Tryz.prog 16 #[x, y] wx fun e w' => e = .returned (.bool true) ∧ Ext wx w') := fun x y wx h1 h2 => eqMsgS_same x y ms wx h1 h2
  have HEq : Hid (∀ (x y x' y' : Value) (wx : World), MLs wx x y m → MLs wx x' y' m → Calls Tryz.prog 25 #[mres cc m x y, mres cc m x' y'] wx fun e w' => e = .returned (.bool true) ∧ Ext wx w') := fun x y x' y' wx h1 h2 => eqMsgResult_same cc m x y x' y' wx h1 h2
  obtain ⟨K, hK9⟩ : ∃ K, K = markE m := ⟨_, rfl⟩
  have HMi : Hid (∀ (lo hi : Nat) (x y : Value) (wx : World), MgAt lo hi wx x y m → lo ≤ hi → hi ≤ wx.heap.size → Calls Tryz.prog 27 #[mres cc m x y, .int .i64 ((1 : Nat) : Int)] wx fun e w' => e = .returned (.int .i64 (K : Nat)) ∧ MLs w' x y (mmarks m) ∧ Led.UpdR lo hi wx w') := by rw [hK9]; exact fun lo hi x y wx h1 h2 h3 => markMsgResult_at lo hi cc m x y wx h1 h2 h3 hml.1 hml.2
  have HHe : Hid (∀ (x y : Value) (wx : World), MLs wx x y (mmarks m) → Calls Tryz.prog 28 #[mres cc m x y, .int .i64 ((1 : Nat) : Int)] wx fun e w' => e = .returned (.int .i64 (K : Nat)) ∧ Ext wx w') := by rw [hK9]; exact fun x y wx h1 => heldMsgResult_at cc m x y wx h1 hml.1 hml.2
  clear hK9 hml
  obtain ⟨a, cap, rfl, -, -, -⟩ := hm
  unfold ragg at *
  unfold mres at HEq HMi HHe
  go_enter Tryz.func8, Tryz.ntmps8
  go_wp2_with fail
  refine (HSz.out _ ((Ext.refl _).alloc _)).mono ?_
  rintro e w1 ⟨r, rfl, hr0, hr1, hr2, hb⟩
  have E1 : Hid (Ext w w1) := ((Ext.refl _).alloc _).trans hb
  have A1 : Hid (QBoxAt w1 w.heap.size rp) := (qbox_new w rp _).ext hb
  have HR : Hid (0 ≤ r → ms.length ≤ 1048576 ∧ ∀ m ∈ ms, SmallM m) := hr2
  clear hb hr2
  by_cases hn : r < 0
  · go_wp2
    go_ret
    exact ⟨rfl, E1.out⟩
  have T2 : Hid (∀ wx : World, Ext w wx → Calls Tryz.prog 13 #[.slice a ms.length cap] wx fun e w' => ∃ g, e = .returned (.slice (some ⟨g, 0, none⟩) ms.length ms.length) ∧ g = wx.heap.size ∧ MSlice w' (.slice (some ⟨g, 0, none⟩) ms.length ms.length) ms ∧ Led.LRoom w'.heap.size w' g ms ∧ Ext wx w') := HT.out (HR.out (by omega))
  have HMk : Hid (∀ {gx hi : Nat} (wx : World), Led.LRoom hi wx gx ms → gx < hi → Calls Tryz.prog 26 #[.slice (some ⟨gx, 0, none⟩) ms.length ms.length, .int .i64 1] wx fun e w' => ∃ k : Nat, e = .returned (.int .i64 (k : Int)) ∧ k ≤ 100000000000000 ∧ Led.UpdR gx hi wx w') := fun {gx hi} wx => HMk0.out (HR.out (by omega)) gx hi wx
  have hmx : ms.length ≤ 1048576 := (HR.out (by omega)).1
  clear HT HR HMk0
  have HS : Hid (∀ W', Ext w1 W' → (fun W' : World => W'.cell? ⟨w.heap.size, 0, none⟩ = some (.int .i64 rp.id) ∧ W'.cell? ⟨w.heap.size, 1, none⟩ = some (.int .i64 rp.view) ∧ W'.cell? ⟨w.heap.size, 2, none⟩ = some (.int .i64 rp.start) ∧ W'.cell? ⟨w.heap.size, 3, none⟩ = some (.int .i64 rp.done)) W') := fun W' he => (A1.out.ext he).2
  go_wp2
  obtain ⟨Q9, HQ9⟩ : ∃ Q9 : Exit → Act → World → Prop, Hid (Q9 = OnlyY fun fr9 W => ∃ (bw cp dp : Nat) (ap bp : Option Addr) (u24 : Value), fr9 = { tmps := #[.int .i64 f, .slice a ms.length cap, .agg #[.int .i64 rp.id, .int .i64 rp.view, .int .i64 rp.start, .int .i64 rp.done], undef, undef, .pointer (some ⟨w.heap.size, 0, none⟩), .bool false, .int .i64 r, .pointer (some ⟨bw, 0, none⟩), undef, undef, undef, undef, undef, undef, .slice a ms.length cap, .int .i64 1048576, .int .i64 r, .int .i64 r, .bool (decide (r < 0)), .int .i64 f, .slice a ms.length cap, u24, .agg #[.int .i64 rp.id, .int .i64 rp.view, .int .i64 rp.start, .int .i64 rp.done], .agg #[.int .i64 rp.id, .int .i64 rp.view, .int .i64 rp.start, .int .i64 rp.done], .agg #[.int .i64 cc, .int .i64 m.kind, .int .i64 m.view, .int .i64 m.from_, .int .i64 m.slot, .int .i64 m.value, (.slice ap m.certs.length cp), (.slice bp m.refs.length dp)], undef, undef, undef, undef, undef, undef, undef, undef, undef, undef, undef, undef, undef, undef, undef, undef, undef, undef, undef, undef, undef, undef, undef, undef, undef, undef, undef, undef, undef, undef, undef, undef, undef, undef, undef, undef, undef, undef, undef, undef, undef, undef, undef, undef, undef, undef, undef, undef, undef, undef, undef, undef, undef, undef, undef, undef], defers := [] } ∧ GotM w1 cc m W bw (.slice ap m.certs.length cp) (.slice bp m.refs.length dp)) := ⟨_, rfl⟩
  have HPQ : Hid (∀ x a a' w, Q9 (Exit.panic x) a w → Q9 (Exit.panic x) a' w) := by rw [HQ9.out]; exact fun x a a' w h => (h : False).elim
  refine Code.wp_mono (Q := Q9) ?_ ?_
  rotate_left
  · refine wp_region_held_drew (S := (fun W' : World => W'.cell? ⟨w.heap.size, 0, none⟩ = some (.int .i64 rp.id) ∧ W'.cell? ⟨w.heap.size, 1, none⟩ = some (.int .i64 rp.view) ∧ W'.cell? ⟨w.heap.size, 2, none⟩ = some (.int .i64 rp.start) ∧ W'.cell? ⟨w.heap.size, 3, none⟩ = some (.int .i64 rp.done))) (by kernel_rfl) (HS.out _ ((Ext.refl _).drew)) (fun hHeld => ?_)
    have F0 : Hid (Ext w1 w1.drew) := (Ext.refl _).drew
    refine wpAnyH_take (i := 0) (oi := { dst := some 20, op := Op.move (.tmp 0), type := 2, pos := "exact.go:4165", after := #[], guard := none }) (v := ?_) rfl (by kernel_rfl) (by kernel_rfl) (by kernel_rfl) (fun _ _ _ h => HPQ.out _ _ _ _ h) (Or.inl ⟨by rfl, ?_⟩) (by assumption) ?_
    rotate_left
    · intro w' hSw; (try dsimp only at hSw); go_simp; try with_reducible rfl
    (try simp only [Act.put, List.setIfInBounds_toArray, List.set_cons_zero, List.set_cons_succ])
    refine wpAnyH_take (i := 1) (oi := { dst := some 21, op := Op.move (.tmp 1), type := 22, pos := "exact.go:4165", after := #[], guard := none }) (v := ?_) rfl (by kernel_rfl) (by kernel_rfl) (by kernel_rfl) (fun _ _ _ h => HPQ.out _ _ _ _ h) (Or.inl ⟨by rfl, ?_⟩) (by assumption) ?_
    rotate_left
    · intro w' hSw; (try dsimp only at hSw); go_simp; try with_reducible rfl
    (try simp only [Act.put, List.setIfInBounds_toArray, List.set_cons_zero, List.set_cons_succ])
    refine wpAnyH_take (i := 3) (oi := { dst := some 23, op := Op.load 24 (.tmp 5), type := 24, pos := "exact.go:4165", after := #[], guard := none }) (v := ?_) rfl (by kernel_rfl) (by kernel_rfl) (by kernel_rfl) (fun _ _ _ h => HPQ.out _ _ _ _ h) (Or.inl ⟨by rfl, ?_⟩) (by assumption) ?_
    rotate_left
    · intro w' hSw; (try dsimp only at hSw); go_simp; try with_reducible rfl
    (try simp only [Act.put, List.setIfInBounds_toArray, List.set_cons_zero, List.set_cons_succ])
    refine wpAnyH_ready (rs := [2, 6]) (by kernel_rfl) (by simp) (AllReadyH.cons rfl (fun K hK => ?_) (AllReadyH.cons rfl (fun K hK => ?_) AllReadyH.nil))
    · go_simp
      refine (T2.out _ (E1.out.trans F0.out)).mono ?_
      rintro e yp1 ⟨gq, rfl, -, hM, -, hb⟩
      have MAp1 : Hid (MSlice yp1 (.slice (some ⟨gq, 0, none⟩) ms.length ms.length) ms) := hM
      clear hM
      have Fp1 : Hid (Ext w1 yp1) := F0.out.trans hb
      clear hb
      refine hK.out _ _ (HS.out _ Fp1.out) (fun hHeldp1 => ?_)
      clear hK K
      refine wpAnyH_ready (rs := [4, 6]) (by kernel_rfl) (by simp) (AllReadyH.cons rfl (fun K hK => ?_) (AllReadyH.cons rfl (fun K hK => ?_) AllReadyH.nil))
      · go_simp
        refine (HTc.out _).mono ?_
        rintro e yp3 ⟨rfl, hb⟩
        have MAp3 : Hid (MSlice yp3 (.slice (some ⟨gq, 0, none⟩) ms.length ms.length) ms) := MAp1.out.ext hb
        have Fp3 : Hid (Ext w1 yp3) := Fp1.out.trans hb
        clear hb
        refine hK.out _ _ (HS.out _ Fp3.out) (fun hHeldp3 => ?_)
        clear hK K
        refine wpAnyH_ready (rs := [5, 6]) (by kernel_rfl) (by simp) (AllReadyH.cons rfl (fun K hK => ?_) (AllReadyH.cons rfl (fun K hK => ?_) AllReadyH.nil))
        · go_simp
          refine (HSp.out _ _ MAp3.out).mono ?_
          rintro e yp5 ⟨x3, y3, rfl, hk, hb⟩
          obtain ⟨g1, g2, -, -, -, k1, k2⟩ := id hk
          obtain ⟨ap, cp, rfl, -⟩ := id k1
          obtain ⟨bp, dp, rfl, -⟩ := id k2
          unfold mres
          have Kp5 : Hid (KM m yp3 yp5 (.slice ap m.certs.length cp) (.slice bp m.refs.length dp)) := hk
          clear hk k1 k2
          have Fp5 : Hid (Ext w1 yp5) := Fp3.out.trans hb
          clear hb
          refine hK.out _ _ (HS.out _ Fp5.out) (fun hHeldp5 => ?_)
          clear hK K
          refine wpAnyH_ready (rs := [6]) (by kernel_rfl) (by simp) (AllReadyH.cons rfl (fun K hK => ?_) AllReadyH.nil)
          go_simp
          have Bp7 : Hid (ZBox (yp5.alloc (.cells #[.int .i64 0, .int .i64 0, .int .i64 0, .int .i64 0, .int .i64 0, .int .i64 0, .slice none 0 0, .slice none 0 0] 42)) yp5.heap.size [.int .i64 0, .int .i64 0, .int .i64 0, .int .i64 0, .int .i64 0, .int .i64 0, .slice none 0 0, .slice none 0 0]) := zbox8 yp5 42
          have Fp7 : Hid (Ext w1 (yp5.alloc (.cells #[.int .i64 0, .int .i64 0, .int .i64 0, .int .i64 0, .int .i64 0, .int .i64 0, .slice none 0 0, .slice none 0 0] 42))) := Fp5.out.alloc _
          have Lp7 : Hid (w1.heap.size ≤ yp5.heap.size) := Fp5.out.size
          have Op7 : Hid (MgN yp5.heap.size (yp5.alloc (.cells #[.int .i64 0, .int .i64 0, .int .i64 0, .int .i64 0, .int .i64 0, .int .i64 0, .slice none 0 0, .slice none 0 0] 42)) (.slice ap m.certs.length cp) (.slice bp m.refs.length dp) m) := MgN.old Kp5.out (Nat.le_refl _) ((Ext.refl _).alloc _)
          refine hK.out _ _ (HS.out _ Fp7.out) (fun hHeldp7 => ?_)
          clear hK K
          generalize (yp5.alloc (.cells #[.int .i64 0, .int .i64 0, .int .i64 0, .int .i64 0, .int .i64 0, .int .i64 0, .slice none 0 0, .slice none 0 0] 42)) = yp7 at *
          refine wpAnyH_ready (rs := [7]) (by kernel_rfl) (by simp) (AllReadyH.cons rfl (fun K hK => ?_) AllReadyH.nil)
          obtain ⟨z0, n0⟩ := Bp7.out.2 0 _ rfl
          obtain ⟨z1, n1⟩ := Bp7.out.2 1 _ rfl
          obtain ⟨z2, n2⟩ := Bp7.out.2 2 _ rfl
          obtain ⟨z3, n3⟩ := Bp7.out.2 3 _ rfl
          obtain ⟨z4, n4⟩ := Bp7.out.2 4 _ rfl
          obtain ⟨z5, n5⟩ := Bp7.out.2 5 _ rfl
          obtain ⟨z6, n6⟩ := Bp7.out.2 6 _ rfl
          obtain ⟨z7, n7⟩ := Bp7.out.2 7 _ rfl
          go_simp
          have Gp8 : Hid (GotM w1 cc m (((((((((yp7.setCell ⟨yp5.heap.size, 0, none⟩ (.int .i64 cc)).setCell ⟨yp5.heap.size, 1, none⟩ (.int .i64 m.kind)).setCell ⟨yp5.heap.size, 2, none⟩ (.int .i64 m.view)).setCell ⟨yp5.heap.size, 3, none⟩ (.int .i64 m.from_)).setCell ⟨yp5.heap.size, 4, none⟩ (.int .i64 m.slot)).setCell ⟨yp5.heap.size, 5, none⟩ (.int .i64 m.value)).setCell ⟨yp5.heap.size, 6, none⟩ (.slice ap m.certs.length cp)).setCell ⟨yp5.heap.size, 7, none⟩ (.slice bp m.refs.length dp))) yp5.heap.size (.slice ap m.certs.length cp) (.slice bp m.refs.length dp)) := GotM.set Fp7.out Lp7.out Bp7.out Op7.out
          refine hK.out _ _ (HS.out _ Gp8.out.1) (fun hHeldp8 => ?_)
          clear hK K
          refine wpAnyH_done (by kernel_rfl) ?_ _
          rw [HQ9.out]
          exact ⟨yp5.heap.size, cp, dp, ap, bp, _, rfl, Gp8.out⟩
        · go_simp
          have Bp6 : Hid (ZBox (yp3.alloc (.cells #[.int .i64 0, .int .i64 0, .int .i64 0, .int .i64 0, .int .i64 0, .int .i64 0, .slice none 0 0, .slice none 0 0] 42)) yp3.heap.size [.int .i64 0, .int .i64 0, .int .i64 0, .int .i64 0, .int .i64 0, .int .i64 0, .slice none 0 0, .slice none 0 0]) := zbox8 yp3 42
          have Fp6 : Hid (Ext w1 (yp3.alloc (.cells #[.int .i64 0, .int .i64 0, .int .i64 0, .int .i64 0, .int .i64 0, .int .i64 0, .slice none 0 0, .slice none 0 0] 42))) := Fp3.out.alloc _
          have Lp6 : Hid (w1.heap.size ≤ yp3.heap.size) := Fp3.out.size
          have MAp6 : Hid (MSlice (yp3.alloc (.cells #[.int .i64 0, .int .i64 0, .int .i64 0, .int .i64 0, .int .i64 0, .int .i64 0, .slice none 0 0, .slice none 0 0] 42)) (.slice (some ⟨gq, 0, none⟩) ms.length ms.length) ms) := MAp3.out.ext ((Ext.refl _).alloc _)
          refine hK.out _ _ (HS.out _ Fp6.out) (fun hHeldp6 => ?_)
          clear hK K
          generalize (yp3.alloc (.cells #[.int .i64 0, .int .i64 0, .int .i64 0, .int .i64 0, .int .i64 0, .int .i64 0, .slice none 0 0, .slice none 0 0] 42)) = yp6 at *
          refine wpAnyH_ready (rs := [5]) (by kernel_rfl) (by simp) (AllReadyH.cons rfl (fun K hK => ?_) AllReadyH.nil)
          go_simp
          refine (HSp.out _ _ MAp6.out).mono ?_
          rintro e yp9 ⟨x3, y3, rfl, hk, hb⟩
          obtain ⟨g1, g2, -, -, -, k1, k2⟩ := id hk
          obtain ⟨ap, cp, rfl, -⟩ := id k1
          obtain ⟨bp, dp, rfl, -⟩ := id k2
          unfold mres
          have Op9 : Hid (MgN yp3.heap.size yp9 (.slice ap m.certs.length cp) (.slice bp m.refs.length dp) m) := MgN.new hk Bp6.out.1
          clear hk k1 k2
          have Fp9 : Hid (Ext w1 yp9) := Fp6.out.trans hb
          have Bp9 : Hid (ZBox yp9 yp3.heap.size [.int .i64 0, .int .i64 0, .int .i64 0, .int .i64 0, .int .i64 0, .int .i64 0, .slice none 0 0, .slice none 0 0]) := Bp6.out.ext hb
          clear hb
          refine hK.out _ _ (HS.out _ Fp9.out) (fun hHeldp9 => ?_)
          clear hK K
          refine wpAnyH_ready (rs := [7]) (by kernel_rfl) (by simp) (AllReadyH.cons rfl (fun K hK => ?_) AllReadyH.nil)
          obtain ⟨z0, n0⟩ := Bp9.out.2 0 _ rfl
          obtain ⟨z1, n1⟩ := Bp9.out.2 1 _ rfl
          obtain ⟨z2, n2⟩ := Bp9.out.2 2 _ rfl
          obtain ⟨z3, n3⟩ := Bp9.out.2 3 _ rfl
          obtain ⟨z4, n4⟩ := Bp9.out.2 4 _ rfl
          obtain ⟨z5, n5⟩ := Bp9.out.2 5 _ rfl
          obtain ⟨z6, n6⟩ := Bp9.out.2 6 _ rfl
          obtain ⟨z7, n7⟩ := Bp9.out.2 7 _ rfl
          go_simp
          have Gp10 : Hid (GotM w1 cc m (((((((((yp9.setCell ⟨yp3.heap.size, 0, none⟩ (.int .i64 cc)).setCell ⟨yp3.heap.size, 1, none⟩ (.int .i64 m.kind)).setCell ⟨yp3.heap.size, 2, none⟩ (.int .i64 m.view)).setCell ⟨yp3.heap.size, 3, none⟩ (.int .i64 m.from_)).setCell ⟨yp3.heap.size, 4, none⟩ (.int .i64 m.slot)).setCell ⟨yp3.heap.size, 5, none⟩ (.int .i64 m.value)).setCell ⟨yp3.heap.size, 6, none⟩ (.slice ap m.certs.length cp)).setCell ⟨yp3.heap.size, 7, none⟩ (.slice bp m.refs.length dp))) yp3.heap.size (.slice ap m.certs.length cp) (.slice bp m.refs.length dp)) := GotM.set Fp9.out Lp6.out Bp9.out Op9.out
          refine hK.out _ _ (HS.out _ Gp10.out.1) (fun hHeldp10 => ?_)
          clear hK K
          refine wpAnyH_done (by kernel_rfl) ?_ _
          rw [HQ9.out]
          exact ⟨yp3.heap.size, cp, dp, ap, bp, _, rfl, Gp10.out⟩
      · go_simp
        have Bp4 : Hid (ZBox (yp1.alloc (.cells #[.int .i64 0, .int .i64 0, .int .i64 0, .int .i64 0, .int .i64 0, .int .i64 0, .slice none 0 0, .slice none 0 0] 42)) yp1.heap.size [.int .i64 0, .int .i64 0, .int .i64 0, .int .i64 0, .int .i64 0, .int .i64 0, .slice none 0 0, .slice none 0 0]) := zbox8 yp1 42
        have Fp4 : Hid (Ext w1 (yp1.alloc (.cells #[.int .i64 0, .int .i64 0, .int .i64 0, .int .i64 0, .int .i64 0, .int .i64 0, .slice none 0 0, .slice none 0 0] 42))) := Fp1.out.alloc _
        have Lp4 : Hid (w1.heap.size ≤ yp1.heap.size) := Fp1.out.size
        have MAp4 : Hid (MSlice (yp1.alloc (.cells #[.int .i64 0, .int .i64 0, .int .i64 0, .int .i64 0, .int .i64 0, .int .i64 0, .slice none 0 0, .slice none 0 0] 42)) (.slice (some ⟨gq, 0, none⟩) ms.length ms.length) ms) := MAp1.out.ext ((Ext.refl _).alloc _)
        refine hK.out _ _ (HS.out _ Fp4.out) (fun hHeldp4 => ?_)
        clear hK K
        generalize (yp1.alloc (.cells #[.int .i64 0, .int .i64 0, .int .i64 0, .int .i64 0, .int .i64 0, .int .i64 0, .slice none 0 0, .slice none 0 0] 42)) = yp4 at *
        refine wpAnyH_ready (rs := [4]) (by kernel_rfl) (by simp) (AllReadyH.cons rfl (fun K hK => ?_) AllReadyH.nil)
        go_simp
        refine (HTc.out _).mono ?_
        rintro e yp11 ⟨rfl, hb⟩
        have MAp11 : Hid (MSlice yp11 (.slice (some ⟨gq, 0, none⟩) ms.length ms.length) ms) := MAp4.out.ext hb
        have Fp11 : Hid (Ext w1 yp11) := Fp4.out.trans hb
        have Bp11 : Hid (ZBox yp11 yp1.heap.size [.int .i64 0, .int .i64 0, .int .i64 0, .int .i64 0, .int .i64 0, .int .i64 0, .slice none 0 0, .slice none 0 0]) := Bp4.out.ext hb
        clear hb
        refine hK.out _ _ (HS.out _ Fp11.out) (fun hHeldp11 => ?_)
        clear hK K
        refine wpAnyH_ready (rs := [5]) (by kernel_rfl) (by simp) (AllReadyH.cons rfl (fun K hK => ?_) AllReadyH.nil)
        go_simp
        refine (HSp.out _ _ MAp11.out).mono ?_
        rintro e yp12 ⟨x3, y3, rfl, hk, hb⟩
        obtain ⟨g1, g2, -, -, -, k1, k2⟩ := id hk
        obtain ⟨ap, cp, rfl, -⟩ := id k1
        obtain ⟨bp, dp, rfl, -⟩ := id k2
        unfold mres
        have Op12 : Hid (MgN yp1.heap.size yp12 (.slice ap m.certs.length cp) (.slice bp m.refs.length dp) m) := MgN.new hk Bp11.out.1
        clear hk k1 k2
        have Fp12 : Hid (Ext w1 yp12) := Fp11.out.trans hb
        have Bp12 : Hid (ZBox yp12 yp1.heap.size [.int .i64 0, .int .i64 0, .int .i64 0, .int .i64 0, .int .i64 0, .int .i64 0, .slice none 0 0, .slice none 0 0]) := Bp11.out.ext hb
        clear hb
        refine hK.out _ _ (HS.out _ Fp12.out) (fun hHeldp12 => ?_)
        clear hK K
        refine wpAnyH_ready (rs := [7]) (by kernel_rfl) (by simp) (AllReadyH.cons rfl (fun K hK => ?_) AllReadyH.nil)
        obtain ⟨z0, n0⟩ := Bp12.out.2 0 _ rfl
        obtain ⟨z1, n1⟩ := Bp12.out.2 1 _ rfl
        obtain ⟨z2, n2⟩ := Bp12.out.2 2 _ rfl
        obtain ⟨z3, n3⟩ := Bp12.out.2 3 _ rfl
        obtain ⟨z4, n4⟩ := Bp12.out.2 4 _ rfl
        obtain ⟨z5, n5⟩ := Bp12.out.2 5 _ rfl
        obtain ⟨z6, n6⟩ := Bp12.out.2 6 _ rfl
        obtain ⟨z7, n7⟩ := Bp12.out.2 7 _ rfl
        go_simp
        have Gp13 : Hid (GotM w1 cc m (((((((((yp12.setCell ⟨yp1.heap.size, 0, none⟩ (.int .i64 cc)).setCell ⟨yp1.heap.size, 1, none⟩ (.int .i64 m.kind)).setCell ⟨yp1.heap.size, 2, none⟩ (.int .i64 m.view)).setCell ⟨yp1.heap.size, 3, none⟩ (.int .i64 m.from_)).setCell ⟨yp1.heap.size, 4, none⟩ (.int .i64 m.slot)).setCell ⟨yp1.heap.size, 5, none⟩ (.int .i64 m.value)).setCell ⟨yp1.heap.size, 6, none⟩ (.slice ap m.certs.length cp)).setCell ⟨yp1.heap.size, 7, none⟩ (.slice bp m.refs.length dp))) yp1.heap.size (.slice ap m.certs.length cp) (.slice bp m.refs.length dp)) := GotM.set Fp12.out Lp4.out Bp12.out Op12.out
        refine hK.out _ _ (HS.out _ Gp13.out.1) (fun hHeldp13 => ?_)
        clear hK K
        refine wpAnyH_done (by kernel_rfl) ?_ _
        rw [HQ9.out]
        exact ⟨yp1.heap.size, cp, dp, ap, bp, _, rfl, Gp13.out⟩
    · go_simp
      have Bp2 : Hid (ZBox (w1.alloc (.cells #[.int .i64 0, .int .i64 0, .int .i64 0, .int .i64 0, .int .i64 0, .int .i64 0, .slice none 0 0, .slice none 0 0] 42)).drew w1.heap.size [.int .i64 0, .int .i64 0, .int .i64 0, .int .i64 0, .int .i64 0, .int .i64 0, .slice none 0 0, .slice none 0 0]) := zbox8 w1.drew 42
      have Fp2 : Hid (Ext w1 (w1.alloc (.cells #[.int .i64 0, .int .i64 0, .int .i64 0, .int .i64 0, .int .i64 0, .int .i64 0, .slice none 0 0, .slice none 0 0] 42)).drew) := F0.out.alloc _
      have Lp2 : Hid (w1.heap.size ≤ w1.heap.size) := F0.out.size
      refine hK.out _ _ (HS.out _ Fp2.out) (fun hHeldp2 => ?_)
      clear hK K
      generalize (w1.alloc (.cells #[.int .i64 0, .int .i64 0, .int .i64 0, .int .i64 0, .int .i64 0, .int .i64 0, .slice none 0 0, .slice none 0 0] 42)).drew = yp2 at *
      refine wpAnyH_ready (rs := [2]) (by kernel_rfl) (by simp) (AllReadyH.cons rfl (fun K hK => ?_) AllReadyH.nil)
      go_simp
      refine (T2.out _ (E1.out.trans Fp2.out)).mono ?_
      rintro e yp14 ⟨gq, rfl, -, hM, -, hb⟩
      have MAp14 : Hid (MSlice yp14 (.slice (some ⟨gq, 0, none⟩) ms.length ms.length) ms) := hM
      clear hM
      have Fp14 : Hid (Ext w1 yp14) := Fp2.out.trans hb
      have Bp14 : Hid (ZBox yp14 w1.heap.size [.int .i64 0, .int .i64 0, .int .i64 0, .int .i64 0, .int .i64 0, .int .i64 0, .slice none 0 0, .slice none 0 0]) := Bp2.out.ext hb
      clear hb
      refine hK.out _ _ (HS.out _ Fp14.out) (fun hHeldp14 => ?_)
      clear hK K
      refine wpAnyH_ready (rs := [4]) (by kernel_rfl) (by simp) (AllReadyH.cons rfl (fun K hK => ?_) AllReadyH.nil)
      go_simp
      refine (HTc.out _).mono ?_
      rintro e yp15 ⟨rfl, hb⟩
      have MAp15 : Hid (MSlice yp15 (.slice (some ⟨gq, 0, none⟩) ms.length ms.length) ms) := MAp14.out.ext hb
      have Fp15 : Hid (Ext w1 yp15) := Fp14.out.trans hb
      have Bp15 : Hid (ZBox yp15 w1.heap.size [.int .i64 0, .int .i64 0, .int .i64 0, .int .i64 0, .int .i64 0, .int .i64 0, .slice none 0 0, .slice none 0 0]) := Bp14.out.ext hb
      clear hb
      refine hK.out _ _ (HS.out _ Fp15.out) (fun hHeldp15 => ?_)
      clear hK K
      refine wpAnyH_ready (rs := [5]) (by kernel_rfl) (by simp) (AllReadyH.cons rfl (fun K hK => ?_) AllReadyH.nil)
      go_simp
      refine (HSp.out _ _ MAp15.out).mono ?_
      rintro e yp16 ⟨x3, y3, rfl, hk, hb⟩
      obtain ⟨g1, g2, -, -, -, k1, k2⟩ := id hk
      obtain ⟨ap, cp, rfl, -⟩ := id k1
      obtain ⟨bp, dp, rfl, -⟩ := id k2
      unfold mres
      have Op16 : Hid (MgN w1.heap.size yp16 (.slice ap m.certs.length cp) (.slice bp m.refs.length dp) m) := MgN.new hk Bp15.out.1
      clear hk k1 k2
      have Fp16 : Hid (Ext w1 yp16) := Fp15.out.trans hb
      have Bp16 : Hid (ZBox yp16 w1.heap.size [.int .i64 0, .int .i64 0, .int .i64 0, .int .i64 0, .int .i64 0, .int .i64 0, .slice none 0 0, .slice none 0 0]) := Bp15.out.ext hb
      clear hb
      refine hK.out _ _ (HS.out _ Fp16.out) (fun hHeldp16 => ?_)
      clear hK K
      refine wpAnyH_ready (rs := [7]) (by kernel_rfl) (by simp) (AllReadyH.cons rfl (fun K hK => ?_) AllReadyH.nil)
      obtain ⟨z0, n0⟩ := Bp16.out.2 0 _ rfl
      obtain ⟨z1, n1⟩ := Bp16.out.2 1 _ rfl
      obtain ⟨z2, n2⟩ := Bp16.out.2 2 _ rfl
      obtain ⟨z3, n3⟩ := Bp16.out.2 3 _ rfl
      obtain ⟨z4, n4⟩ := Bp16.out.2 4 _ rfl
      obtain ⟨z5, n5⟩ := Bp16.out.2 5 _ rfl
      obtain ⟨z6, n6⟩ := Bp16.out.2 6 _ rfl
      obtain ⟨z7, n7⟩ := Bp16.out.2 7 _ rfl
      go_simp
      have Gp17 : Hid (GotM w1 cc m (((((((((yp16.setCell ⟨w1.heap.size, 0, none⟩ (.int .i64 cc)).setCell ⟨w1.heap.size, 1, none⟩ (.int .i64 m.kind)).setCell ⟨w1.heap.size, 2, none⟩ (.int .i64 m.view)).setCell ⟨w1.heap.size, 3, none⟩ (.int .i64 m.from_)).setCell ⟨w1.heap.size, 4, none⟩ (.int .i64 m.slot)).setCell ⟨w1.heap.size, 5, none⟩ (.int .i64 m.value)).setCell ⟨w1.heap.size, 6, none⟩ (.slice ap m.certs.length cp)).setCell ⟨w1.heap.size, 7, none⟩ (.slice bp m.refs.length dp))) w1.heap.size (.slice ap m.certs.length cp) (.slice bp m.refs.length dp)) := GotM.set Fp16.out Lp2.out Bp16.out Op16.out
      refine hK.out _ _ (HS.out _ Gp17.out.1) (fun hHeldp17 => ?_)
      clear hK K
      refine wpAnyH_done (by kernel_rfl) ?_ _
      rw [HQ9.out]
      exact ⟨w1.heap.size, cp, dp, ap, bp, _, rfl, Gp17.out⟩
  rintro e fr W hN
  rw [HQ9.out] at hN
  clear HQ9 HPQ
  obtain ⟨rfl, hN⟩ := hN.out
  obtain ⟨bw, cp, dp, ap, bp, u24, rfl, hFX⟩ := hN
  clear HS
  have E3 : Hid (Ext w W) := E1.out.trans hFX.1
  have A3 : Hid (QBoxAt W w.heap.size rp) := A1.out.ext hFX.1
  have G3 : Hid (w.heap.size < w1.heap.size ∧ w1.heap.size ≤ bw ∧ bw < W.heap.size) := ⟨A1.out.1, hFX.2.1, hFX.2.2.1.1⟩
  obtain ⟨w3, hw3⟩ : ∃ w3, w3 = W := ⟨_, rfl⟩
  subst hw3
  obtain ⟨h3, hh3⟩ : ∃ h3, h3 = w3.heap.size := ⟨_, rfl⟩
  have B3 : Hid (MrBox w3 bw cc m (.slice ap m.certs.length cp) (.slice bp m.refs.length dp)) := hFX.2.2.1
  have O3 : Hid (MgAt 0 h3 w3 (.slice ap m.certs.length cp) (.slice bp m.refs.length dp) m) := by rw [hh3]; exact hFX.2.2.2
  rw [← hh3] at G3
  have HH3 : Hid (h3 = w3.heap.size) := hh3
  clear hFX E1 A1 hh3
  go_wp2_with fail
  refine (T2.out _ E3.out).mono ?_
  rintro e w5 ⟨gx, rfl, hgx, hM, hL, hb⟩
  obtain ⟨h5, hh5⟩ : ∃ h5, h5 = w5.heap.size := ⟨_, rfl⟩
  have X5 : Hid (MSlice w5 (.slice (some ⟨gx, 0, none⟩) ms.length ms.length) ms) := hM
  have Y5 : Hid (Led.LRoom h5 w5 gx ms) := by rw [hh5]; exact hL
  have G5 : Hid (gx = h3 ∧ h3 < h5) := ⟨by rw [HH3.out]; exact hgx, by have := hL.1.1; rw [hh5, HH3.out]; omega⟩
  have HH5 : Hid (h5 = w5.heap.size) := hh5
  clear hM hL hgx hh5
  have E5 : Hid (Ext w w5) := E3.out.trans hb
  have A5 : Hid (QBoxAt w5 w.heap.size rp) := A3.out.ext hb
  have B5 : Hid (MrBox w5 bw cc m (.slice ap m.certs.length cp) (.slice bp m.refs.length dp)) := B3.out.ext hb
  have O5 : Hid (MgAt 0 h3 w5 (.slice ap m.certs.length cp) (.slice bp m.refs.length dp) m) := O3.out.ext hb
  clear hb E3 A3 B3 O3
  obtain ⟨kal, ka0, ka1, ka2, ka3⟩ := A5.out
  go_wp2_with fail
  refine (HTc.out _).mono ?_
  rintro e w6 ⟨rfl, hb⟩
  clear kal ka0 ka1 ka2 ka3
  have G6 : Hid (h5 ≤ w6.heap.size) := by rw [HH5.out]; exact hb.size
  have E6 : Hid (Ext w w6) := E5.out.trans hb
  have A6 : Hid (QBoxAt w6 w.heap.size rp) := A5.out.ext hb
  have B6 : Hid (MrBox w6 bw cc m (.slice ap m.certs.length cp) (.slice bp m.refs.length dp)) := B5.out.ext hb
  have O6 : Hid (MgAt 0 h3 w6 (.slice ap m.certs.length cp) (.slice bp m.refs.length dp) m) := O5.out.ext hb
  have X6 : Hid (MSlice w6 (.slice (some ⟨gx, 0, none⟩) ms.length ms.length) ms) := X5.out.ext hb
  have Y6 : Hid (Led.LRoom h5 w6 gx ms) := Y5.out.ext hb
  clear hb E5 A5 B5 O5 X5 Y5
  go_wp2_with fail
  refine (HIm.out _ _ X6.out).mono ?_
  rintro e w7 ⟨x7, y7, rfl, hk, hb⟩
  obtain ⟨g1, g2, -, -, -, k1, k2⟩ := id hk
  obtain ⟨ag, cg, rfl, -⟩ := id k1
  obtain ⟨bg, dg, rfl, -⟩ := id k2
  obtain ⟨h6, hh6⟩ : ∃ h6, h6 = w6.heap.size := ⟨_, rfl⟩
  obtain ⟨h7, hh7⟩ : ∃ h7, h7 = w7.heap.size := ⟨_, rfl⟩
  have R7 : Hid (MgAt h6 h7 w7 (.slice ag m.certs.length cg) (.slice bg m.refs.length dg) m) := by rw [hh6, hh7]; exact MgAt.of hk
  have G7 : Hid (h5 ≤ h6 ∧ h6 ≤ h7) := ⟨by rw [hh6]; exact G6.out, by rw [hh6, hh7]; exact hb.size⟩
  clear hk k1 k2 G6 hh6
  have E7 : Hid (Ext w w7) := E6.out.trans hb
  have A7 : Hid (QBoxAt w7 w.heap.size rp) := A6.out.ext hb
  have B7 : Hid (MrBox w7 bw cc m (.slice ap m.certs.length cp) (.slice bp m.refs.length dp)) := B6.out.ext hb
  have O7 : Hid (MgAt 0 h3 w7 (.slice ap m.certs.length cp) (.slice bp m.refs.length dp) m) := O6.out.ext hb
  have X7 : Hid (MSlice w7 (.slice (some ⟨gx, 0, none⟩) ms.length ms.length) ms) := X6.out.ext hb
  have Y7 : Hid (Led.LRoom h5 w7 gx ms) := Y6.out.ext hb
  clear hb E6 A6 B6 O6 X6 Y6
  unfold mres
  have HH7 : Hid (h7 = w7.heap.size) := hh7
  clear hh7
  obtain ⟨kbl, kb0, kb1, kb2, kb3, kb4, kb5, kb6, kb7⟩ := B7.out
  go_wp2_with fail
  refine (HEq.out _ _ _ _ _ (R7.out.slice.ext ((Ext.refl _).alloc _)) (O7.out.slice.ext ((Ext.refl _).alloc _))).mono ?_
  rintro e w8 ⟨rfl, hb⟩
  clear kbl kb0 kb1 kb2 kb3 kb4 kb5 kb6 kb7
  have D8 : Hid (MrBox w8 w7.heap.size cc m (.slice ag m.certs.length cg) (.slice bg m.refs.length dg)) := (mrbox_new w7 cc m _ _ _).ext hb
  have hb := ((Ext.refl w7).alloc _).trans hb
  have S8 : Hid (h7 ≤ w8.heap.size) := by rw [HH7.out]; exact hb.size
  rw [← HH7.out] at D8 ⊢
  have E8 : Hid (Ext w w8) := E7.out.trans hb
  have A8 : Hid (QBoxAt w8 w.heap.size rp) := A7.out.ext hb
  have B8 : Hid (MrBox w8 bw cc m (.slice ap m.certs.length cp) (.slice bp m.refs.length dp)) := B7.out.ext hb
  have O8 : Hid (MgAt 0 h3 w8 (.slice ap m.certs.length cp) (.slice bp m.refs.length dp) m) := O7.out.ext hb
  have X8 : Hid (MSlice w8 (.slice (some ⟨gx, 0, none⟩) ms.length ms.length) ms) := X7.out.ext hb
  have Y8 : Hid (Led.LRoom h5 w8 gx ms) := Y7.out.ext hb
  have R8 : Hid (MgAt h6 h7 w8 (.slice ag m.certs.length cg) (.slice bg m.refs.length dg) m) := R7.out.ext hb
  clear hb E7 A7 B7 O7 X7 Y7 R7
  clear HH3 HH5 HH7 S8
  go_wp2_with fail
  refine (T2.out _ E8.out).mono ?_
  rintro e w9 ⟨g9, rfl, -, hM, -, hb⟩
  have M9 : Hid (MSlice w9 (.slice (some ⟨g9, 0, none⟩) ms.length ms.length) ms) := hM
  clear hM
  have E9 : Hid (Ext w w9) := E8.out.trans hb
  have A9 : Hid (QBoxAt w9 w.heap.size rp) := A8.out.ext hb
  have B9 : Hid (MrBox w9 bw cc m (.slice ap m.certs.length cp) (.slice bp m.refs.length dp)) := B8.out.ext hb
  have O9 : Hid (MgAt 0 h3 w9 (.slice ap m.certs.length cp) (.slice bp m.refs.length dp) m) := O8.out.ext hb
  have X9 : Hid (MSlice w9 (.slice (some ⟨gx, 0, none⟩) ms.length ms.length) ms) := X8.out.ext hb
  have Y9 : Hid (Led.LRoom h5 w9 gx ms) := Y8.out.ext hb
  have R9 : Hid (MgAt h6 h7 w9 (.slice ag m.certs.length cg) (.slice bg m.refs.length dg) m) := R8.out.ext hb
  have D9 : Hid (MrBox w9 h7 cc m (.slice ag m.certs.length cg) (.slice bg m.refs.length dg)) := D8.out.ext hb
  clear hb E8 A8 B8 O8 X8 Y8 R8 D8
  go_wp2_with fail
  refine (HEm.out _ _ _ X9.out M9.out).mono ?_
  rintro e w10 ⟨rfl, hb⟩
  clear M9
  have E10 : Hid (Ext w w10) := E9.out.trans hb
  have A10 : Hid (QBoxAt w10 w.heap.size rp) := A9.out.ext hb
  have B10 : Hid (MrBox w10 bw cc m (.slice ap m.certs.length cp) (.slice bp m.refs.length dp)) := B9.out.ext hb
  have O10 : Hid (MgAt 0 h3 w10 (.slice ap m.certs.length cp) (.slice bp m.refs.length dp) m) := O9.out.ext hb
  have X10 : Hid (MSlice w10 (.slice (some ⟨gx, 0, none⟩) ms.length ms.length) ms) := X9.out.ext hb
  have Y10 : Hid (Led.LRoom h5 w10 gx ms) := Y9.out.ext hb
  have R10 : Hid (MgAt h6 h7 w10 (.slice ag m.certs.length cg) (.slice bg m.refs.length dg) m) := R9.out.ext hb
  have D10 : Hid (MrBox w10 h7 cc m (.slice ag m.certs.length cg) (.slice bg m.refs.length dg)) := D9.out.ext hb
  clear hb E9 A9 B9 O9 X9 Y9 R9 D9
  go_wp2_with fail
  refine (HMk.out _ Y10.out (by have := G5.out; omega)).mono ?_
  rintro e w11 ⟨kk, rfl, hkk, hu⟩
  have E11 : Hid (Ext w w11) := hu.to_ext E10.out (by have := G3.out; have := G5.out; have := G7.out; omega)
  have A11 : Hid (QBoxAt w11 w.heap.size rp) := A10.out.updR hu (by have := G3.out; have := G5.out; have := G7.out; omega)
  have B11 : Hid (MrBox w11 bw cc m (.slice ap m.certs.length cp) (.slice bp m.refs.length dp)) := B10.out.updR hu (by have := G3.out; have := G5.out; have := G7.out; omega)
  have O11 : Hid (MgAt 0 h3 w11 (.slice ap m.certs.length cp) (.slice bp m.refs.length dp) m) := O10.out.updR hu (by have := G3.out; have := G5.out; have := G7.out; omega)
  have R11 : Hid (MgAt h6 h7 w11 (.slice ag m.certs.length cg) (.slice bg m.refs.length dg) m) := R10.out.updR hu (by have := G3.out; have := G5.out; have := G7.out; omega)
  have D11 : Hid (MrBox w11 h7 cc m (.slice ag m.certs.length cg) (.slice bg m.refs.length dg)) := D10.out.updR hu (by have := G3.out; have := G5.out; have := G7.out; omega)
  clear hu E10 A10 B10 O10 X10 Y10 R10 D10
  obtain ⟨kbl, kb0, kb1, kb2, kb3, kb4, kb5, kb6, kb7⟩ := B11.out
  obtain ⟨kdl, kd0, kd1, kd2, kd3, kd4, kd5, kd6, kd7⟩ := D11.out
  go_wp2_with fail
  refine (HEq.out _ _ _ _ _ R11.out.slice O11.out.slice).mono ?_
  rintro e w12 ⟨rfl, hb⟩
  clear kbl kb0 kb1 kb2 kb3 kb4 kb5 kb6 kb7 kdl kd0 kd1 kd2 kd3 kd4 kd5 kd6 kd7
  have E12 : Hid (Ext w w12) := E11.out.trans hb
  have A12 : Hid (QBoxAt w12 w.heap.size rp) := A11.out.ext hb
  have B12 : Hid (MrBox w12 bw cc m (.slice ap m.certs.length cp) (.slice bp m.refs.length dp)) := B11.out.ext hb
  have O12 : Hid (MgAt 0 h3 w12 (.slice ap m.certs.length cp) (.slice bp m.refs.length dp) m) := O11.out.ext hb
  have R12 : Hid (MgAt h6 h7 w12 (.slice ag m.certs.length cg) (.slice bg m.refs.length dg) m) := R11.out.ext hb
  have D12 : Hid (MrBox w12 h7 cc m (.slice ag m.certs.length cg) (.slice bg m.refs.length dg)) := D11.out.ext hb
  clear hb E11 A11 B11 O11 R11 D11
  obtain ⟨kdl, kd0, kd1, kd2, kd3, kd4, kd5, kd6, kd7⟩ := D12.out
  go_wp2_with fail
  refine (HMi.out _ _ _ _ _ R12.out G7.out.2 (by have := D12.out.1; omega)).mono ?_
  rintro e w13 ⟨rfl, hT, hu⟩
  clear kdl kd0 kd1 kd2 kd3 kd4 kd5 kd6 kd7
  have T13 : Hid (MLs w13 (.slice ag m.certs.length cg) (.slice bg m.refs.length dg) (mmarks m)) := hT
  clear hT
  have E13 : Hid (Ext w w13) := hu.to_ext E12.out (by have := G3.out; have := G5.out; have := G7.out; omega)
  have A13 : Hid (QBoxAt w13 w.heap.size rp) := A12.out.updR hu (by have := G3.out; have := G5.out; have := G7.out; omega)
  have B13 : Hid (MrBox w13 bw cc m (.slice ap m.certs.length cp) (.slice bp m.refs.length dp)) := B12.out.updR hu (by have := G3.out; have := G5.out; have := G7.out; omega)
  have O13 : Hid (MgAt 0 h3 w13 (.slice ap m.certs.length cp) (.slice bp m.refs.length dp) m) := O12.out.updR hu (by have := G3.out; have := G5.out; have := G7.out; omega)
  have D13 : Hid (MrBox w13 h7 cc m (.slice ag m.certs.length cg) (.slice bg m.refs.length dg)) := D12.out.updR hu (by have := G3.out; have := G5.out; have := G7.out; omega)
  clear hu E12 A12 B12 O12 R12 D12
  obtain ⟨kdl, kd0, kd1, kd2, kd3, kd4, kd5, kd6, kd7⟩ := D13.out
  go_wp2_with fail
  refine (HHe.out _ _ _ T13.out).mono ?_
  rintro e w14 ⟨rfl, hb⟩
  clear kdl kd0 kd1 kd2 kd3 kd4 kd5 kd6 kd7
  have E14 : Hid (Ext w w14) := E13.out.trans hb
  have A14 : Hid (QBoxAt w14 w.heap.size rp) := A13.out.ext hb
  have B14 : Hid (MrBox w14 bw cc m (.slice ap m.certs.length cp) (.slice bp m.refs.length dp)) := B13.out.ext hb
  have O14 : Hid (MgAt 0 h3 w14 (.slice ap m.certs.length cp) (.slice bp m.refs.length dp) m) := O13.out.ext hb
  have D14 : Hid (MrBox w14 h7 cc m (.slice ag m.certs.length cg) (.slice bg m.refs.length dg)) := D13.out.ext hb
  have T14 : Hid (MLs w14 (.slice ag m.certs.length cg) (.slice bg m.refs.length dg) (mmarks m)) := T13.out.ext hb
  clear hb E13 A13 B13 O13 D13 T13
  clear G3 G5 G7
  have hkn : (K != K) = false := by simp
  have HS : Hid (∀ W', Ext w14 W' → (fun W' : World => W'.cell? ⟨w.heap.size, 0, none⟩ = some (.int .i64 rp.id) ∧ W'.cell? ⟨w.heap.size, 1, none⟩ = some (.int .i64 rp.view) ∧ W'.cell? ⟨w.heap.size, 2, none⟩ = some (.int .i64 rp.start) ∧ W'.cell? ⟨w.heap.size, 3, none⟩ = some (.int .i64 rp.done)) W') := fun W' he => (A14.out.ext he).2
  go_wp2
  refine wp_region_held_drew (S := (fun W' : World => W'.cell? ⟨w.heap.size, 0, none⟩ = some (.int .i64 rp.id) ∧ W'.cell? ⟨w.heap.size, 1, none⟩ = some (.int .i64 rp.view) ∧ W'.cell? ⟨w.heap.size, 2, none⟩ = some (.int .i64 rp.start) ∧ W'.cell? ⟨w.heap.size, 3, none⟩ = some (.int .i64 rp.done))) (by kernel_rfl) (HS.out _ ((Ext.refl _).drew)) (fun hHeld => ?_)
  have F0 : Hid (Ext w14 w14.drew) := (Ext.refl _).drew
  refine tk 0 { dst := some 64, op := Op.move (.tmp 0), type := 2, pos := "exact.go:4189", after := #[], guard := none } ?_
  refine tk 1 { dst := some 65, op := Op.move (.tmp 1), type := 22, pos := "exact.go:4189", after := #[], guard := none } ?_
  refine tk 3 { dst := some 67, op := Op.load 24 (.tmp 5), type := 24, pos := "exact.go:4189", after := #[], guard := none } ?_
  refine wpAnyH_ready (rs := [2, 6]) (by kernel_rfl) (by simp) (AllReadyH.cons rfl (fun K hK => ?_) (AllReadyH.cons rfl (fun K hK => ?_) AllReadyH.nil))
  · go_simp
    refine (T2.out _ (E14.out.trans F0.out)).mono ?_
    rintro e yz1 ⟨gq, rfl, -, hM, -, hb⟩
    have MAz1 : Hid (MSlice yz1 (.slice (some ⟨gq, 0, none⟩) ms.length ms.length) ms) := hM
    clear hM
    have Fz1 : Hid (Ext w14 yz1) := F0.out.trans hb
    clear hb
    refine hK.out _ _ (HS.out _ Fz1.out) (fun hHeldz1 => ?_)
    clear hK K
    refine wpAnyH_ready (rs := [4, 6]) (by kernel_rfl) (by simp) (AllReadyH.cons rfl (fun K hK => ?_) (AllReadyH.cons rfl (fun K hK => ?_) AllReadyH.nil))
    · go_simp
      refine (HTc.out _).mono ?_
      rintro e yz3 ⟨rfl, hb⟩
      have MAz3 : Hid (MSlice yz3 (.slice (some ⟨gq, 0, none⟩) ms.length ms.length) ms) := MAz1.out.ext hb
      have Fz3 : Hid (Ext w14 yz3) := Fz1.out.trans hb
      clear hb
      refine hK.out _ _ (HS.out _ Fz3.out) (fun hHeldz3 => ?_)
      clear hK K
      refine wpAnyH_ready (rs := [5, 6]) (by kernel_rfl) (by simp) (AllReadyH.cons rfl (fun K hK => ?_) (AllReadyH.cons rfl (fun K hK => ?_) AllReadyH.nil))
      · go_simp
        refine (HIm.out _ _ MAz3.out).mono ?_
        rintro e yz5 ⟨x3, y3, rfl, hk, hb⟩
        obtain ⟨g1, g2, -, -, -, k1, k2⟩ := id hk
        obtain ⟨az, cz, rfl, -⟩ := id k1
        obtain ⟨bz, dz, rfl, -⟩ := id k2
        unfold mres
        have Kz5 : Hid (KM m yz3 yz5 (.slice az m.certs.length cz) (.slice bz m.refs.length dz)) := hk
        clear hk k1 k2
        have Fz5 : Hid (Ext w14 yz5) := Fz3.out.trans hb
        clear hb
        refine hK.out _ _ (HS.out _ Fz5.out) (fun hHeldz5 => ?_)
        clear hK K
        refine wpAnyH_ready (rs := [6]) (by kernel_rfl) (by simp) (AllReadyH.cons rfl (fun K hK => ?_) AllReadyH.nil)
        go_simp
        have Bz7 : Hid (ZBox (yz5.alloc (.cells #[.int .i64 0, .int .i64 0, .int .i64 0, .int .i64 0, .int .i64 0, .int .i64 0, .slice none 0 0, .slice none 0 0] 42)) yz5.heap.size [.int .i64 0, .int .i64 0, .int .i64 0, .int .i64 0, .int .i64 0, .int .i64 0, .slice none 0 0, .slice none 0 0]) := zbox8 yz5 42
        have Fz7 : Hid (Ext w14 (yz5.alloc (.cells #[.int .i64 0, .int .i64 0, .int .i64 0, .int .i64 0, .int .i64 0, .int .i64 0, .slice none 0 0, .slice none 0 0] 42))) := Fz5.out.alloc _
        have Lz7 : Hid (w14.heap.size ≤ yz5.heap.size) := Fz5.out.size
        have Oz7 : Hid (MgN yz5.heap.size (yz5.alloc (.cells #[.int .i64 0, .int .i64 0, .int .i64 0, .int .i64 0, .int .i64 0, .int .i64 0, .slice none 0 0, .slice none 0 0] 42)) (.slice az m.certs.length cz) (.slice bz m.refs.length dz) m) := MgN.old Kz5.out (Nat.le_refl _) ((Ext.refl _).alloc _)
        refine hK.out _ _ (HS.out _ Fz7.out) (fun hHeldz7 => ?_)
        clear hK K
        generalize (yz5.alloc (.cells #[.int .i64 0, .int .i64 0, .int .i64 0, .int .i64 0, .int .i64 0, .int .i64 0, .slice none 0 0, .slice none 0 0] 42)) = yz7 at *
        refine wpAnyH_ready (rs := [7]) (by kernel_rfl) (by simp) (AllReadyH.cons rfl (fun K hK => ?_) AllReadyH.nil)
        obtain ⟨z0, n0⟩ := Bz7.out.2 0 _ rfl
        obtain ⟨z1, n1⟩ := Bz7.out.2 1 _ rfl
        obtain ⟨z2, n2⟩ := Bz7.out.2 2 _ rfl
        obtain ⟨z3, n3⟩ := Bz7.out.2 3 _ rfl
        obtain ⟨z4, n4⟩ := Bz7.out.2 4 _ rfl
        obtain ⟨z5, n5⟩ := Bz7.out.2 5 _ rfl
        obtain ⟨z6, n6⟩ := Bz7.out.2 6 _ rfl
        obtain ⟨z7, n7⟩ := Bz7.out.2 7 _ rfl
        go_simp
        have Gz8 : Hid (GotM w14 cc m (((((((((yz7.setCell ⟨yz5.heap.size, 0, none⟩ (.int .i64 cc)).setCell ⟨yz5.heap.size, 1, none⟩ (.int .i64 m.kind)).setCell ⟨yz5.heap.size, 2, none⟩ (.int .i64 m.view)).setCell ⟨yz5.heap.size, 3, none⟩ (.int .i64 m.from_)).setCell ⟨yz5.heap.size, 4, none⟩ (.int .i64 m.slot)).setCell ⟨yz5.heap.size, 5, none⟩ (.int .i64 m.value)).setCell ⟨yz5.heap.size, 6, none⟩ (.slice az m.certs.length cz)).setCell ⟨yz5.heap.size, 7, none⟩ (.slice bz m.refs.length dz))) yz5.heap.size (.slice az m.certs.length cz) (.slice bz m.refs.length dz)) := GotM.set Fz7.out Lz7.out Bz7.out Oz7.out
        refine hK.out _ _ (HS.out _ Gz8.out.1) (fun hHeldz8 => ?_)
        clear hK K
        refine wpAnyH_done (by kernel_rfl) ?_ _
        have hFX := Gz8.out
        generalize ((((((((yz7.setCell ⟨yz5.heap.size, 0, none⟩ (.int .i64 cc)).setCell ⟨yz5.heap.size, 1, none⟩ (.int .i64 m.kind)).setCell ⟨yz5.heap.size, 2, none⟩ (.int .i64 m.view)).setCell ⟨yz5.heap.size, 3, none⟩ (.int .i64 m.from_)).setCell ⟨yz5.heap.size, 4, none⟩ (.int .i64 m.slot)).setCell ⟨yz5.heap.size, 5, none⟩ (.int .i64 m.value)).setCell ⟨yz5.heap.size, 6, none⟩ (.slice az m.certs.length cz)).setCell ⟨yz5.heap.size, 7, none⟩ (.slice bz m.refs.length dz)) = W at hFX ⊢
        have Ez : Hid (Ext w W) := E14.out.trans hFX.1
        have Az : Hid (QBoxAt W w.heap.size rp) := A14.out.ext hFX.1
        have Bz : Hid (MrBox W bw cc m (.slice ap m.certs.length cp) (.slice bp m.refs.length dp)) := B14.out.ext hFX.1
        have Oz : Hid (MgAt 0 h3 W (.slice ap m.certs.length cp) (.slice bp m.refs.length dp) m) := O14.out.ext hFX.1
        have Dz : Hid (MrBox W h7 cc m (.slice ag m.certs.length cg) (.slice bg m.refs.length dg)) := D14.out.ext hFX.1
        have Tz : Hid (MLs W (.slice ag m.certs.length cg) (.slice bg m.refs.length dg) (mmarks m)) := T14.out.ext hFX.1
        have Hz : Hid (MrBox W yz5.heap.size cc m (.slice az m.certs.length cz) (.slice bz m.refs.length dz)) := hFX.2.2.1
        have Uz : Hid (MLs W (.slice az m.certs.length cz) (.slice bz m.refs.length dz) m) := hFX.2.2.2.slice
        clear hFX E14 A14 B14 O14 D14 T14
        obtain ⟨l1, p0, p1, p2, p3, p4, p5, p6, p7⟩ := Bz.out
        obtain ⟨l2, s0, s1, s2, s3, s4, s5, s6, s7⟩ := Hz.out
        go_wp2_with fail
        refine (HEq.out _ _ _ _ _ Uz.out Oz.out.slice).mono ?_
        rintro e w18 ⟨rfl, hb⟩
        clear l1 p0 p1 p2 p3 p4 p5 p6 p7 l2 s0 s1 s2 s3 s4 s5 s6 s7 Hz Uz
        have D18 : Hid (MrBox w18 h7 cc m (.slice ag m.certs.length cg) (.slice bg m.refs.length dg)) := Dz.out.ext hb
        have T18 : Hid (MLs w18 (.slice ag m.certs.length cg) (.slice bg m.refs.length dg) (mmarks m)) := Tz.out.ext hb
        have E18 : Hid (Ext w w18) := Ez.out.trans hb
        clear hb Ez Az Bz Oz Dz Tz
        obtain ⟨l1, p0, p1, p2, p3, p4, p5, p6, p7⟩ := D18.out
        go_wp2_with fail
        refine (HHe.out _ _ _ T18.out).mono ?_
        rintro e w19 ⟨rfl, hb⟩
        have E19 : Hid (Ext w w19) := E18.out.trans hb
        clear hb l1 p0 p1 p2 p3 p4 p5 p6 p7
        go_wp2
        go_ret
        exact ⟨rfl, E19.out⟩
      · go_simp
        have Bz6 : Hid (ZBox (yz3.alloc (.cells #[.int .i64 0, .int .i64 0, .int .i64 0, .int .i64 0, .int .i64 0, .int .i64 0, .slice none 0 0, .slice none 0 0] 42)) yz3.heap.size [.int .i64 0, .int .i64 0, .int .i64 0, .int .i64 0, .int .i64 0, .int .i64 0, .slice none 0 0, .slice none 0 0]) := zbox8 yz3 42
        have Fz6 : Hid (Ext w14 (yz3.alloc (.cells #[.int .i64 0, .int .i64 0, .int .i64 0, .int .i64 0, .int .i64 0, .int .i64 0, .slice none 0 0, .slice none 0 0] 42))) := Fz3.out.alloc _
        have Lz6 : Hid (w14.heap.size ≤ yz3.heap.size) := Fz3.out.size
        have MAz6 : Hid (MSlice (yz3.alloc (.cells #[.int .i64 0, .int .i64 0, .int .i64 0, .int .i64 0, .int .i64 0, .int .i64 0, .slice none 0 0, .slice none 0 0] 42)) (.slice (some ⟨gq, 0, none⟩) ms.length ms.length) ms) := MAz3.out.ext ((Ext.refl _).alloc _)
        refine hK.out _ _ (HS.out _ Fz6.out) (fun hHeldz6 => ?_)
        clear hK K
        generalize (yz3.alloc (.cells #[.int .i64 0, .int .i64 0, .int .i64 0, .int .i64 0, .int .i64 0, .int .i64 0, .slice none 0 0, .slice none 0 0] 42)) = yz6 at *
        refine wpAnyH_ready (rs := [5]) (by kernel_rfl) (by simp) (AllReadyH.cons rfl (fun K hK => ?_) AllReadyH.nil)
        go_simp
        refine (HIm.out _ _ MAz6.out).mono ?_
        rintro e yz9 ⟨x3, y3, rfl, hk, hb⟩
        obtain ⟨g1, g2, -, -, -, k1, k2⟩ := id hk
        obtain ⟨az, cz, rfl, -⟩ := id k1
        obtain ⟨bz, dz, rfl, -⟩ := id k2
        unfold mres
        have Oz9 : Hid (MgN yz3.heap.size yz9 (.slice az m.certs.length cz) (.slice bz m.refs.length dz) m) := MgN.new hk Bz6.out.1
        clear hk k1 k2
        have Fz9 : Hid (Ext w14 yz9) := Fz6.out.trans hb
        have Bz9 : Hid (ZBox yz9 yz3.heap.size [.int .i64 0, .int .i64 0, .int .i64 0, .int .i64 0, .int .i64 0, .int .i64 0, .slice none 0 0, .slice none 0 0]) := Bz6.out.ext hb
        clear hb
        refine hK.out _ _ (HS.out _ Fz9.out) (fun hHeldz9 => ?_)
        clear hK K
        refine wpAnyH_ready (rs := [7]) (by kernel_rfl) (by simp) (AllReadyH.cons rfl (fun K hK => ?_) AllReadyH.nil)
        obtain ⟨z0, n0⟩ := Bz9.out.2 0 _ rfl
        obtain ⟨z1, n1⟩ := Bz9.out.2 1 _ rfl
        obtain ⟨z2, n2⟩ := Bz9.out.2 2 _ rfl
        obtain ⟨z3, n3⟩ := Bz9.out.2 3 _ rfl
        obtain ⟨z4, n4⟩ := Bz9.out.2 4 _ rfl
        obtain ⟨z5, n5⟩ := Bz9.out.2 5 _ rfl
        obtain ⟨z6, n6⟩ := Bz9.out.2 6 _ rfl
        obtain ⟨z7, n7⟩ := Bz9.out.2 7 _ rfl
        go_simp
        have Gz10 : Hid (GotM w14 cc m (((((((((yz9.setCell ⟨yz3.heap.size, 0, none⟩ (.int .i64 cc)).setCell ⟨yz3.heap.size, 1, none⟩ (.int .i64 m.kind)).setCell ⟨yz3.heap.size, 2, none⟩ (.int .i64 m.view)).setCell ⟨yz3.heap.size, 3, none⟩ (.int .i64 m.from_)).setCell ⟨yz3.heap.size, 4, none⟩ (.int .i64 m.slot)).setCell ⟨yz3.heap.size, 5, none⟩ (.int .i64 m.value)).setCell ⟨yz3.heap.size, 6, none⟩ (.slice az m.certs.length cz)).setCell ⟨yz3.heap.size, 7, none⟩ (.slice bz m.refs.length dz))) yz3.heap.size (.slice az m.certs.length cz) (.slice bz m.refs.length dz)) := GotM.set Fz9.out Lz6.out Bz9.out Oz9.out
        refine hK.out _ _ (HS.out _ Gz10.out.1) (fun hHeldz10 => ?_)
        clear hK K
        refine wpAnyH_done (by kernel_rfl) ?_ _
        have hFX := Gz10.out
        generalize ((((((((yz9.setCell ⟨yz3.heap.size, 0, none⟩ (.int .i64 cc)).setCell ⟨yz3.heap.size, 1, none⟩ (.int .i64 m.kind)).setCell ⟨yz3.heap.size, 2, none⟩ (.int .i64 m.view)).setCell ⟨yz3.heap.size, 3, none⟩ (.int .i64 m.from_)).setCell ⟨yz3.heap.size, 4, none⟩ (.int .i64 m.slot)).setCell ⟨yz3.heap.size, 5, none⟩ (.int .i64 m.value)).setCell ⟨yz3.heap.size, 6, none⟩ (.slice az m.certs.length cz)).setCell ⟨yz3.heap.size, 7, none⟩ (.slice bz m.refs.length dz)) = W at hFX ⊢
        have Ez : Hid (Ext w W) := E14.out.trans hFX.1
        have Az : Hid (QBoxAt W w.heap.size rp) := A14.out.ext hFX.1
        have Bz : Hid (MrBox W bw cc m (.slice ap m.certs.length cp) (.slice bp m.refs.length dp)) := B14.out.ext hFX.1
        have Oz : Hid (MgAt 0 h3 W (.slice ap m.certs.length cp) (.slice bp m.refs.length dp) m) := O14.out.ext hFX.1
        have Dz : Hid (MrBox W h7 cc m (.slice ag m.certs.length cg) (.slice bg m.refs.length dg)) := D14.out.ext hFX.1
        have Tz : Hid (MLs W (.slice ag m.certs.length cg) (.slice bg m.refs.length dg) (mmarks m)) := T14.out.ext hFX.1
        have Hz : Hid (MrBox W yz3.heap.size cc m (.slice az m.certs.length cz) (.slice bz m.refs.length dz)) := hFX.2.2.1
        have Uz : Hid (MLs W (.slice az m.certs.length cz) (.slice bz m.refs.length dz) m) := hFX.2.2.2.slice
        clear hFX E14 A14 B14 O14 D14 T14
        obtain ⟨l1, p0, p1, p2, p3, p4, p5, p6, p7⟩ := Bz.out
        obtain ⟨l2, s0, s1, s2, s3, s4, s5, s6, s7⟩ := Hz.out
        go_wp2_with fail
        refine (HEq.out _ _ _ _ _ Uz.out Oz.out.slice).mono ?_
        rintro e w18 ⟨rfl, hb⟩
        clear l1 p0 p1 p2 p3 p4 p5 p6 p7 l2 s0 s1 s2 s3 s4 s5 s6 s7 Hz Uz
        have D18 : Hid (MrBox w18 h7 cc m (.slice ag m.certs.length cg) (.slice bg m.refs.length dg)) := Dz.out.ext hb
        have T18 : Hid (MLs w18 (.slice ag m.certs.length cg) (.slice bg m.refs.length dg) (mmarks m)) := Tz.out.ext hb
        have E18 : Hid (Ext w w18) := Ez.out.trans hb
        clear hb Ez Az Bz Oz Dz Tz
        obtain ⟨l1, p0, p1, p2, p3, p4, p5, p6, p7⟩ := D18.out
        go_wp2_with fail
        refine (HHe.out _ _ _ T18.out).mono ?_
        rintro e w19 ⟨rfl, hb⟩
        have E19 : Hid (Ext w w19) := E18.out.trans hb
        clear hb l1 p0 p1 p2 p3 p4 p5 p6 p7
        go_wp2
        go_ret
        exact ⟨rfl, E19.out⟩
    · go_simp
      have Bz4 : Hid (ZBox (yz1.alloc (.cells #[.int .i64 0, .int .i64 0, .int .i64 0, .int .i64 0, .int .i64 0, .int .i64 0, .slice none 0 0, .slice none 0 0] 42)) yz1.heap.size [.int .i64 0, .int .i64 0, .int .i64 0, .int .i64 0, .int .i64 0, .int .i64 0, .slice none 0 0, .slice none 0 0]) := zbox8 yz1 42
      have Fz4 : Hid (Ext w14 (yz1.alloc (.cells #[.int .i64 0, .int .i64 0, .int .i64 0, .int .i64 0, .int .i64 0, .int .i64 0, .slice none 0 0, .slice none 0 0] 42))) := Fz1.out.alloc _
      have Lz4 : Hid (w14.heap.size ≤ yz1.heap.size) := Fz1.out.size
      have MAz4 : Hid (MSlice (yz1.alloc (.cells #[.int .i64 0, .int .i64 0, .int .i64 0, .int .i64 0, .int .i64 0, .int .i64 0, .slice none 0 0, .slice none 0 0] 42)) (.slice (some ⟨gq, 0, none⟩) ms.length ms.length) ms) := MAz1.out.ext ((Ext.refl _).alloc _)
      refine hK.out _ _ (HS.out _ Fz4.out) (fun hHeldz4 => ?_)
      clear hK K
      generalize (yz1.alloc (.cells #[.int .i64 0, .int .i64 0, .int .i64 0, .int .i64 0, .int .i64 0, .int .i64 0, .slice none 0 0, .slice none 0 0] 42)) = yz4 at *
      refine wpAnyH_ready (rs := [4]) (by kernel_rfl) (by simp) (AllReadyH.cons rfl (fun K hK => ?_) AllReadyH.nil)
      go_simp
      refine (HTc.out _).mono ?_
      rintro e yz11 ⟨rfl, hb⟩
      have MAz11 : Hid (MSlice yz11 (.slice (some ⟨gq, 0, none⟩) ms.length ms.length) ms) := MAz4.out.ext hb
      have Fz11 : Hid (Ext w14 yz11) := Fz4.out.trans hb
      have Bz11 : Hid (ZBox yz11 yz1.heap.size [.int .i64 0, .int .i64 0, .int .i64 0, .int .i64 0, .int .i64 0, .int .i64 0, .slice none 0 0, .slice none 0 0]) := Bz4.out.ext hb
      clear hb
      refine hK.out _ _ (HS.out _ Fz11.out) (fun hHeldz11 => ?_)
      clear hK K
      refine wpAnyH_ready (rs := [5]) (by kernel_rfl) (by simp) (AllReadyH.cons rfl (fun K hK => ?_) AllReadyH.nil)
      go_simp
      refine (HIm.out _ _ MAz11.out).mono ?_
      rintro e yz12 ⟨x3, y3, rfl, hk, hb⟩
      obtain ⟨g1, g2, -, -, -, k1, k2⟩ := id hk
      obtain ⟨az, cz, rfl, -⟩ := id k1
      obtain ⟨bz, dz, rfl, -⟩ := id k2
      unfold mres
      have Oz12 : Hid (MgN yz1.heap.size yz12 (.slice az m.certs.length cz) (.slice bz m.refs.length dz) m) := MgN.new hk Bz11.out.1
      clear hk k1 k2
      have Fz12 : Hid (Ext w14 yz12) := Fz11.out.trans hb
      have Bz12 : Hid (ZBox yz12 yz1.heap.size [.int .i64 0, .int .i64 0, .int .i64 0, .int .i64 0, .int .i64 0, .int .i64 0, .slice none 0 0, .slice none 0 0]) := Bz11.out.ext hb
      clear hb
      refine hK.out _ _ (HS.out _ Fz12.out) (fun hHeldz12 => ?_)
      clear hK K
      refine wpAnyH_ready (rs := [7]) (by kernel_rfl) (by simp) (AllReadyH.cons rfl (fun K hK => ?_) AllReadyH.nil)
      obtain ⟨z0, n0⟩ := Bz12.out.2 0 _ rfl
      obtain ⟨z1, n1⟩ := Bz12.out.2 1 _ rfl
      obtain ⟨z2, n2⟩ := Bz12.out.2 2 _ rfl
      obtain ⟨z3, n3⟩ := Bz12.out.2 3 _ rfl
      obtain ⟨z4, n4⟩ := Bz12.out.2 4 _ rfl
      obtain ⟨z5, n5⟩ := Bz12.out.2 5 _ rfl
      obtain ⟨z6, n6⟩ := Bz12.out.2 6 _ rfl
      obtain ⟨z7, n7⟩ := Bz12.out.2 7 _ rfl
      go_simp
      have Gz13 : Hid (GotM w14 cc m (((((((((yz12.setCell ⟨yz1.heap.size, 0, none⟩ (.int .i64 cc)).setCell ⟨yz1.heap.size, 1, none⟩ (.int .i64 m.kind)).setCell ⟨yz1.heap.size, 2, none⟩ (.int .i64 m.view)).setCell ⟨yz1.heap.size, 3, none⟩ (.int .i64 m.from_)).setCell ⟨yz1.heap.size, 4, none⟩ (.int .i64 m.slot)).setCell ⟨yz1.heap.size, 5, none⟩ (.int .i64 m.value)).setCell ⟨yz1.heap.size, 6, none⟩ (.slice az m.certs.length cz)).setCell ⟨yz1.heap.size, 7, none⟩ (.slice bz m.refs.length dz))) yz1.heap.size (.slice az m.certs.length cz) (.slice bz m.refs.length dz)) := GotM.set Fz12.out Lz4.out Bz12.out Oz12.out
      refine hK.out _ _ (HS.out _ Gz13.out.1) (fun hHeldz13 => ?_)
      clear hK K
      refine wpAnyH_done (by kernel_rfl) ?_ _
      have hFX := Gz13.out
      generalize ((((((((yz12.setCell ⟨yz1.heap.size, 0, none⟩ (.int .i64 cc)).setCell ⟨yz1.heap.size, 1, none⟩ (.int .i64 m.kind)).setCell ⟨yz1.heap.size, 2, none⟩ (.int .i64 m.view)).setCell ⟨yz1.heap.size, 3, none⟩ (.int .i64 m.from_)).setCell ⟨yz1.heap.size, 4, none⟩ (.int .i64 m.slot)).setCell ⟨yz1.heap.size, 5, none⟩ (.int .i64 m.value)).setCell ⟨yz1.heap.size, 6, none⟩ (.slice az m.certs.length cz)).setCell ⟨yz1.heap.size, 7, none⟩ (.slice bz m.refs.length dz)) = W at hFX ⊢
      have Ez : Hid (Ext w W) := E14.out.trans hFX.1
      have Az : Hid (QBoxAt W w.heap.size rp) := A14.out.ext hFX.1
      have Bz : Hid (MrBox W bw cc m (.slice ap m.certs.length cp) (.slice bp m.refs.length dp)) := B14.out.ext hFX.1
      have Oz : Hid (MgAt 0 h3 W (.slice ap m.certs.length cp) (.slice bp m.refs.length dp) m) := O14.out.ext hFX.1
      have Dz : Hid (MrBox W h7 cc m (.slice ag m.certs.length cg) (.slice bg m.refs.length dg)) := D14.out.ext hFX.1
      have Tz : Hid (MLs W (.slice ag m.certs.length cg) (.slice bg m.refs.length dg) (mmarks m)) := T14.out.ext hFX.1
      have Hz : Hid (MrBox W yz1.heap.size cc m (.slice az m.certs.length cz) (.slice bz m.refs.length dz)) := hFX.2.2.1
      have Uz : Hid (MLs W (.slice az m.certs.length cz) (.slice bz m.refs.length dz) m) := hFX.2.2.2.slice
      clear hFX E14 A14 B14 O14 D14 T14
      obtain ⟨l1, p0, p1, p2, p3, p4, p5, p6, p7⟩ := Bz.out
      obtain ⟨l2, s0, s1, s2, s3, s4, s5, s6, s7⟩ := Hz.out
      go_wp2_with fail
      refine (HEq.out _ _ _ _ _ Uz.out Oz.out.slice).mono ?_
      rintro e w18 ⟨rfl, hb⟩
      clear l1 p0 p1 p2 p3 p4 p5 p6 p7 l2 s0 s1 s2 s3 s4 s5 s6 s7 Hz Uz
      have D18 : Hid (MrBox w18 h7 cc m (.slice ag m.certs.length cg) (.slice bg m.refs.length dg)) := Dz.out.ext hb
      have T18 : Hid (MLs w18 (.slice ag m.certs.length cg) (.slice bg m.refs.length dg) (mmarks m)) := Tz.out.ext hb
      have E18 : Hid (Ext w w18) := Ez.out.trans hb
      clear hb Ez Az Bz Oz Dz Tz
      obtain ⟨l1, p0, p1, p2, p3, p4, p5, p6, p7⟩ := D18.out
      go_wp2_with fail
      refine (HHe.out _ _ _ T18.out).mono ?_
      rintro e w19 ⟨rfl, hb⟩
      have E19 : Hid (Ext w w19) := E18.out.trans hb
      clear hb l1 p0 p1 p2 p3 p4 p5 p6 p7
      go_wp2
      go_ret
      exact ⟨rfl, E19.out⟩
  · go_simp
    have Bz2 : Hid (ZBox (w14.alloc (.cells #[.int .i64 0, .int .i64 0, .int .i64 0, .int .i64 0, .int .i64 0, .int .i64 0, .slice none 0 0, .slice none 0 0] 42)).drew w14.heap.size [.int .i64 0, .int .i64 0, .int .i64 0, .int .i64 0, .int .i64 0, .int .i64 0, .slice none 0 0, .slice none 0 0]) := zbox8 w14.drew 42
    have Fz2 : Hid (Ext w14 (w14.alloc (.cells #[.int .i64 0, .int .i64 0, .int .i64 0, .int .i64 0, .int .i64 0, .int .i64 0, .slice none 0 0, .slice none 0 0] 42)).drew) := F0.out.alloc _
    have Lz2 : Hid (w14.heap.size ≤ w14.heap.size) := F0.out.size
    refine hK.out _ _ (HS.out _ Fz2.out) (fun hHeldz2 => ?_)
    clear hK K
    generalize (w14.alloc (.cells #[.int .i64 0, .int .i64 0, .int .i64 0, .int .i64 0, .int .i64 0, .int .i64 0, .slice none 0 0, .slice none 0 0] 42)).drew = yz2 at *
    refine wpAnyH_ready (rs := [2]) (by kernel_rfl) (by simp) (AllReadyH.cons rfl (fun K hK => ?_) AllReadyH.nil)
    go_simp
    refine (T2.out _ (E14.out.trans Fz2.out)).mono ?_
    rintro e yz14 ⟨gq, rfl, -, hM, -, hb⟩
    have MAz14 : Hid (MSlice yz14 (.slice (some ⟨gq, 0, none⟩) ms.length ms.length) ms) := hM
    clear hM
    have Fz14 : Hid (Ext w14 yz14) := Fz2.out.trans hb
    have Bz14 : Hid (ZBox yz14 w14.heap.size [.int .i64 0, .int .i64 0, .int .i64 0, .int .i64 0, .int .i64 0, .int .i64 0, .slice none 0 0, .slice none 0 0]) := Bz2.out.ext hb
    clear hb
    refine hK.out _ _ (HS.out _ Fz14.out) (fun hHeldz14 => ?_)
    clear hK K
    refine wpAnyH_ready (rs := [4]) (by kernel_rfl) (by simp) (AllReadyH.cons rfl (fun K hK => ?_) AllReadyH.nil)
    go_simp
    refine (HTc.out _).mono ?_
    rintro e yz15 ⟨rfl, hb⟩
    have MAz15 : Hid (MSlice yz15 (.slice (some ⟨gq, 0, none⟩) ms.length ms.length) ms) := MAz14.out.ext hb
    have Fz15 : Hid (Ext w14 yz15) := Fz14.out.trans hb
    have Bz15 : Hid (ZBox yz15 w14.heap.size [.int .i64 0, .int .i64 0, .int .i64 0, .int .i64 0, .int .i64 0, .int .i64 0, .slice none 0 0, .slice none 0 0]) := Bz14.out.ext hb
    clear hb
    refine hK.out _ _ (HS.out _ Fz15.out) (fun hHeldz15 => ?_)
    clear hK K
    refine wpAnyH_ready (rs := [5]) (by kernel_rfl) (by simp) (AllReadyH.cons rfl (fun K hK => ?_) AllReadyH.nil)
    go_simp
    refine (HIm.out _ _ MAz15.out).mono ?_
    rintro e yz16 ⟨x3, y3, rfl, hk, hb⟩
    obtain ⟨g1, g2, -, -, -, k1, k2⟩ := id hk
    obtain ⟨az, cz, rfl, -⟩ := id k1
    obtain ⟨bz, dz, rfl, -⟩ := id k2
    unfold mres
    have Oz16 : Hid (MgN w14.heap.size yz16 (.slice az m.certs.length cz) (.slice bz m.refs.length dz) m) := MgN.new hk Bz15.out.1
    clear hk k1 k2
    have Fz16 : Hid (Ext w14 yz16) := Fz15.out.trans hb
    have Bz16 : Hid (ZBox yz16 w14.heap.size [.int .i64 0, .int .i64 0, .int .i64 0, .int .i64 0, .int .i64 0, .int .i64 0, .slice none 0 0, .slice none 0 0]) := Bz15.out.ext hb
    clear hb
    refine hK.out _ _ (HS.out _ Fz16.out) (fun hHeldz16 => ?_)
    clear hK K
    refine wpAnyH_ready (rs := [7]) (by kernel_rfl) (by simp) (AllReadyH.cons rfl (fun K hK => ?_) AllReadyH.nil)
    obtain ⟨z0, n0⟩ := Bz16.out.2 0 _ rfl
    obtain ⟨z1, n1⟩ := Bz16.out.2 1 _ rfl
    obtain ⟨z2, n2⟩ := Bz16.out.2 2 _ rfl
    obtain ⟨z3, n3⟩ := Bz16.out.2 3 _ rfl
    obtain ⟨z4, n4⟩ := Bz16.out.2 4 _ rfl
    obtain ⟨z5, n5⟩ := Bz16.out.2 5 _ rfl
    obtain ⟨z6, n6⟩ := Bz16.out.2 6 _ rfl
    obtain ⟨z7, n7⟩ := Bz16.out.2 7 _ rfl
    go_simp
    have Gz17 : Hid (GotM w14 cc m (((((((((yz16.setCell ⟨w14.heap.size, 0, none⟩ (.int .i64 cc)).setCell ⟨w14.heap.size, 1, none⟩ (.int .i64 m.kind)).setCell ⟨w14.heap.size, 2, none⟩ (.int .i64 m.view)).setCell ⟨w14.heap.size, 3, none⟩ (.int .i64 m.from_)).setCell ⟨w14.heap.size, 4, none⟩ (.int .i64 m.slot)).setCell ⟨w14.heap.size, 5, none⟩ (.int .i64 m.value)).setCell ⟨w14.heap.size, 6, none⟩ (.slice az m.certs.length cz)).setCell ⟨w14.heap.size, 7, none⟩ (.slice bz m.refs.length dz))) w14.heap.size (.slice az m.certs.length cz) (.slice bz m.refs.length dz)) := GotM.set Fz16.out Lz2.out Bz16.out Oz16.out
    refine hK.out _ _ (HS.out _ Gz17.out.1) (fun hHeldz17 => ?_)
    clear hK K
    refine wpAnyH_done (by kernel_rfl) ?_ _
    have hFX := Gz17.out
    generalize ((((((((yz16.setCell ⟨w14.heap.size, 0, none⟩ (.int .i64 cc)).setCell ⟨w14.heap.size, 1, none⟩ (.int .i64 m.kind)).setCell ⟨w14.heap.size, 2, none⟩ (.int .i64 m.view)).setCell ⟨w14.heap.size, 3, none⟩ (.int .i64 m.from_)).setCell ⟨w14.heap.size, 4, none⟩ (.int .i64 m.slot)).setCell ⟨w14.heap.size, 5, none⟩ (.int .i64 m.value)).setCell ⟨w14.heap.size, 6, none⟩ (.slice az m.certs.length cz)).setCell ⟨w14.heap.size, 7, none⟩ (.slice bz m.refs.length dz)) = W at hFX ⊢
    have Ez : Hid (Ext w W) := E14.out.trans hFX.1
    have Az : Hid (QBoxAt W w.heap.size rp) := A14.out.ext hFX.1
    have Bz : Hid (MrBox W bw cc m (.slice ap m.certs.length cp) (.slice bp m.refs.length dp)) := B14.out.ext hFX.1
    have Oz : Hid (MgAt 0 h3 W (.slice ap m.certs.length cp) (.slice bp m.refs.length dp) m) := O14.out.ext hFX.1
    have Dz : Hid (MrBox W h7 cc m (.slice ag m.certs.length cg) (.slice bg m.refs.length dg)) := D14.out.ext hFX.1
    have Tz : Hid (MLs W (.slice ag m.certs.length cg) (.slice bg m.refs.length dg) (mmarks m)) := T14.out.ext hFX.1
    have Hz : Hid (MrBox W w14.heap.size cc m (.slice az m.certs.length cz) (.slice bz m.refs.length dz)) := hFX.2.2.1
    have Uz : Hid (MLs W (.slice az m.certs.length cz) (.slice bz m.refs.length dz) m) := hFX.2.2.2.slice
    clear hFX E14 A14 B14 O14 D14 T14
    obtain ⟨l1, p0, p1, p2, p3, p4, p5, p6, p7⟩ := Bz.out
    obtain ⟨l2, s0, s1, s2, s3, s4, s5, s6, s7⟩ := Hz.out
    go_wp2_with fail
    refine (HEq.out _ _ _ _ _ Uz.out Oz.out.slice).mono ?_
    rintro e w18 ⟨rfl, hb⟩
    clear l1 p0 p1 p2 p3 p4 p5 p6 p7 l2 s0 s1 s2 s3 s4 s5 s6 s7 Hz Uz
    have D18 : Hid (MrBox w18 h7 cc m (.slice ag m.certs.length cg) (.slice bg m.refs.length dg)) := Dz.out.ext hb
    have T18 : Hid (MLs w18 (.slice ag m.certs.length cg) (.slice bg m.refs.length dg) (mmarks m)) := Tz.out.ext hb
    have E18 : Hid (Ext w w18) := Ez.out.trans hb
    clear hb Ez Az Bz Oz Dz Tz
    obtain ⟨l1, p0, p1, p2, p3, p4, p5, p6, p7⟩ := D18.out
    go_wp2_with fail
    refine (HHe.out _ _ _ T18.out).mono ?_
    rintro e w19 ⟨rfl, hb⟩
    have E19 : Hid (Ext w w19) := E18.out.trans hb
    clear hb l1 p0 p1 p2 p3 p4 p5 p6 p7
    go_wp2
    go_ret
    exact ⟨rfl, E19.out⟩
end Go.Proofs.YtecgjdgfjgcmdaaGreat
