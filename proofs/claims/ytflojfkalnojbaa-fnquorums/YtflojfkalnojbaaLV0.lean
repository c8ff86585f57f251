/- what laws over (f, ledger, message) lean on. -/
import Derived.Test.YtflojfkalnojbaaLG5
namespace Go.Proofs.Ytflojfkalnojbaa
open Go.RowKit

theorem keepAl {w : World} {ob : Obj} {c o : Nat} {v : Value} (hv : w.cell? ⟨c, o, none⟩ = some v) : (w.alloc ob).cell? ⟨c, o, none⟩ = some v :=
  (World.cell?_alloc_lt _ _ _ (World.block_lt_of_cell? w _ hv)).trans hv
def OnlyZ (R : Act → World → Prop) : Exit → Act → World → Prop
  | .normal, a, w => R a w
  | _, _, _ => False
theorem OnlyZ.out {R : Act → World → Prop} {e : Exit} {a : Act} {w : World} (h : OnlyZ R e a w) : e = .normal ∧ R a w := by
  cases e <;> first | exact ⟨rfl, h⟩ | exact (h : False).elim
/-- An IntsResult was made and boxed in bw; w0 is as it was. -/
def Led.Got (w0 : World) (c : Int) (rs : List Int) (W : World) (bw g3 : Nat) (v : Value) : Prop :=
  Ext w0 W ∧ w0.heap.size ≤ bw ∧ Led.JBoxAt W bw c v ∧ Led.IOwn W v g3 rs ∧ w0.heap.size ≤ g3
theorem Led.Got.new {w0 n : World} {c : Int} {rs : List Int} {g3 : Nat} {v : Value} {t : TypeId} (X : Ext w0 n) (hO : Led.IOwn n v g3 rs) (hg : w0.heap.size ≤ g3) : Led.Got w0 c rs (n.alloc (.cells #[.int .i64 c, v] t)) n.heap.size g3 v :=
  ⟨X.alloc _, X.size, Led.jbox_new n c v t, hO.ext ((Ext.refl _).alloc _), hg⟩
theorem Led.jz_put {n : World} {b : Nat} {c : Int} {v : Value} (B : Led.JZ n b) : Led.JBoxAt ((n.setCell ⟨b, 0, none⟩ (.int .i64 c)).setCell ⟨b, 1, none⟩ v) b c v := by
  obtain ⟨h0, h1, h2, -, -⟩ := B
  refine ⟨by simpa using h0, ?_, ?_⟩
  · rw [iset_ne _ _ _ _ _ _ (by omega)]; exact iset_eq _ _ _ _ ⟨_, h1⟩
  · apply iset_eq; rw [iset_ne _ _ _ _ _ _ (by omega)]; exact ⟨_, h2⟩
theorem Led.Got.set {w0 n : World} {c : Int} {rs : List Int} {g3 b : Nat} {v : Value} (X : Ext w0 n) (hb : w0.heap.size ≤ b) (B : Led.JZ n b) (hO : Led.IOwn n v g3 rs) (hbg : 0 < rs.length → g3 ≠ b) (hg : w0.heap.size ≤ g3) : Led.Got w0 c rs ((n.setCell ⟨b, 0, none⟩ (.int .i64 c)).setCell ⟨b, 1, none⟩ v) b g3 v :=
  ⟨(X.setCell (p := ⟨b, 0, none⟩) hb _).setCell (p := ⟨b, 1, none⟩) hb _, hb, Led.jz_put B, hO.upd' (((Upd.refl b n).setAt _ _).setAt _ _) hbg, hg⟩
theorem Led.UpdR.alloc' {lo hi : Nat} {w : World} (o : Obj) (h : lo ≤ w.heap.size) : Led.UpdR lo hi w (w.alloc o) :=
  ⟨(Below.refl _ _).alloc h _, by simp, fun c k _ hl => ⟨World.cell?_alloc_lt _ _ _ hl, World.frozen?_alloc_old _ _ _ (Nat.ne_of_lt hl)⟩⟩
theorem Led.CtR.updR {lo hi lo2 hi2 : Nat} {w w' : World} {v : Value} {n : Nat} (h : Led.CtR lo2 hi2 w v n) (hu : Led.UpdR lo hi w w') (hle : hi ≤ lo2) : Led.CtR lo2 hi2 w' v n := by
  obtain ⟨a, cap, h1, h2, h3, h4⟩ := h
  refine ⟨a, cap, h1, h2, h3, fun h0 => ?_⟩
  obtain ⟨b, off, e, hB, hC, hr⟩ := h4 h0
  exact ⟨b, off, e, hB, hC, Nat.lt_of_lt_of_le hr.1 hu.2.1, fun j hj => ⟨by rw [(hu.at_ne _ _ (Or.inr (by omega)) hr.1).1]; exact (hr.2 j hj).1, by rw [(hu.at_ne _ _ (Or.inr (by omega)) hr.1).2]; exact (hr.2 j hj).2⟩⟩
theorem Led.IR.updR {lo hi lo2 hi2 : Nat} {w w' : World} {v : Value} {n : Nat} (h : Led.IR lo2 hi2 w v n) (hu : Led.UpdR lo hi w w') (hle : hi ≤ lo2) : Led.IR lo2 hi2 w' v n := by
  obtain ⟨a, cap, h1, h2, h3, h4⟩ := h
  refine ⟨a, cap, h1, h2, h3, fun h0 => ?_⟩
  obtain ⟨b, off, e, hB, hC, hr⟩ := h4 h0
  exact ⟨b, off, e, hB, hC, Nat.lt_of_lt_of_le hr.1 hu.2.1, fun j hj => ⟨by rw [(hu.at_ne _ _ (Or.inr (by omega)) hr.1).1]; exact (hr.2 j hj).1, by rw [(hu.at_ne _ _ (Or.inr (by omega)) hr.1).2]; exact (hr.2 j hj).2⟩⟩
theorem MBoxAt.updR {lo hi : Nat} {w w' : World} {b : Nat} {m : Ms} {v u : Value} (h : MBoxAt w b m v u) (hu : Led.UpdR lo hi w w') (hne : b < lo ∨ hi ≤ b) : MBoxAt w' b m v u := by
  obtain ⟨hb, ⟨c0, c1, c2, c3, c4, c5, c6⟩, f0, f1, f2, f3, f4, f5, f6⟩ := h
  have hc := fun k => (hu.at_ne b k hne hb).1
  have hf := fun k => (hu.at_ne b k hne hb).2
  exact ⟨Nat.lt_of_lt_of_le hb hu.2.1, ⟨(hc _).trans c0, (hc _).trans c1, (hc _).trans c2, (hc _).trans c3, (hc _).trans c4, (hc _).trans c5, (hc _).trans c6⟩, (hf _).trans f0, (hf _).trans f1, (hf _).trans f2, (hf _).trans f3, (hf _).trans f4, (hf _).trans f5, (hf _).trans f6⟩
set_option maxHeartbeats 4000000 in
set_option maxRecDepth 100000 in
theorem Led.markMsg_room (lo hi : Nat) (m : Ms) (v u : Value) (k : Nat) (w : World) (hC : Led.CtR lo hi w v m.certs.length) (hI : Led.IR lo hi w u m.refs.length) (hlo : lo ≤ hi) (hhi : hi ≤ w.heap.size) (hk : k ≤ 100000000000000) (hl : SmallM m) (hk2 : k ≤ 90000000000000) :
    Calls Try.prog 43 #[magg m v u, .int .i64 (k : Int)] w fun e w' => ∃ k' : Nat, e = .returned (.int .i64 (k' : Int)) ∧ k' ≤ 100000000000000 ∧ Led.UpdR lo hi w w' := by
  have hsc := hl.1
  have hsr := hl.2
  have HC : Hid (∀ wx, Led.CtR lo hi wx v m.certs.length → Calls Try.prog 108 #[v, .int .i64 (k : Int)] wx fun e w' => e = .returned (.int .i64 ((k + 3 * m.certs.length : Nat) : Int)) ∧ Led.UpdR lo hi wx w' ∧ Led.Kept wx w') := fun wx h => Led.markCertS_room lo hi v _ k wx h hk hsc
  have HI : Hid (∀ (wx : World) (j : Nat), Led.IR lo hi wx u m.refs.length → j ≤ 100000000000000 → Calls Try.prog 54 #[u, .int .i64 (j : Int)] wx fun e w' => e = .returned (.int .i64 ((j + m.refs.length : Nat) : Int)) ∧ Led.UpdR lo hi wx w' ∧ Led.Kept wx w') := fun wx j h hj => Led.markInt64S_room lo hi u _ j wx h hj hsr
  have HC0 : Hid (Led.CtR lo hi w v m.certs.length) := hC
  have HI0 : Hid (Led.IR lo hi w u m.refs.length) := hI
  obtain ⟨a, c, rfl, -⟩ := id hC
  obtain ⟨a', c', rfl, -⟩ := id hI
  clear hC hI
  unfold magg
  go_enter Try.func43, Try.ntmps43
  go_wp2_with fail
  refine (HC.out _ (HC0.out.ext ((Ext.refl _).alloc _))).mono ?_
  rintro e w2 ⟨rfl, hu, hkp⟩
  obtain ⟨-, ⟨p0, p1, p2, p3, p4, p5, p6⟩, -⟩ := (mbox_new w m (.slice a m.certs.length c) (.slice a' m.refs.length c') 28).updR hu (Or.inr hhi)
  have HU2 : Hid (Led.UpdR lo hi w w2) := (Led.UpdR.alloc' _ (by omega)).trans hu
  have HI2 : Hid (Led.IR lo hi w2 (.slice a' m.refs.length c') m.refs.length) := (HI0.out.ext ((Ext.refl _).alloc _)).kept hkp
  clear hu hkp
  go_wp2_with fail
  refine (HI.out _ (k + 3 * m.certs.length) HI2.out (by omega)).mono ?_
  rintro e w3 ⟨rfl, hu, -⟩
  have HU3 : Hid (Led.UpdR lo hi w w3) := HU2.out.trans hu
  clear hu
  have hk5 : k + 3 * m.certs.length + m.refs.length ≤ 100000000000000 := by omega
  generalize k + 3 * m.certs.length + m.refs.length = k5 at *
  go_wp2
  go_ret
  exact ⟨k5, rfl, hk5, HU3.out⟩
namespace Led
set_option maxHeartbeats 8000000 in
set_option maxRecDepth 100000 in
theorem markMsgS_room2 (hi : Nat) (g : Nat) (ms : List Ms) (w : World) (hR : LRoom hi w g ms) (hg : g < hi) (hl : ms.length ≤ 1048576) (hsm : ∀ m ∈ ms, SmallM m) :
    Calls Try.prog 42 #[.slice (some ⟨g, 0, none⟩) ms.length ms.length, .int .i64 1] w fun e w' => ∃ k : Nat, e = .returned (.int .i64 (k : Int)) ∧ k ≤ 10000000000000 ∧ UpdR g hi w w' := by
  have HR : Hid (LRoom hi w g ms) := hR
  have HSm : Hid (∀ m ∈ ms, SmallM m) := hsm
  clear hR hsm
  go_enter Try.func42, Try.ntmps42
  go_wp2
  go_loopw [1, 5] (fun kv i wr => ∃ (j k : Nat), j ≤ ms.length ∧ i = .int .i64 j ∧ kv = .int .i64 (k : Int) ∧ k ≤ 1 + j * 4194309 ∧ Hid (LRoom hi wr g ms) ∧ Hid (UpdR g hi w wr)) (fun _ i _ => ms.length - (intOf i).toNat)
  case atStart => exact ⟨0, 1, Nat.zero_le _, rfl, rfl, by omega, HR.out, UpdR.refl _ _ _⟩
  case round =>
    obtain ⟨j, k, hj, rfl, rfl, hkj, HL, HU⟩ := hrel
    by_cases hlt : j < ms.length
    · obtain ⟨z, hzk⟩ : ∃ z, ms[j]? = some z := ⟨_, List.getElem?_eq_getElem hlt⟩
      obtain ⟨hs1, hs2⟩ := HSm.out z (List.mem_of_getElem? hzk)
      have hkb : k ≤ 10000000000000 := by omega
      have HKJ : Hid (k ≤ 1 + j * 4194309) := hkj
      clear hkj
      have HZ : Hid (ms[j]? = some z) := hzk
      clear hzk
      obtain ⟨⟨u0, r0⟩, f0⟩ := HL.out.1.2 (j * 7) (by omega)
      obtain ⟨⟨u1, r1⟩, f1⟩ := HL.out.1.2 (j * 7 + 1) (by omega)
      obtain ⟨⟨u2, r2⟩, f2⟩ := HL.out.1.2 (j * 7 + 2) (by omega)
      obtain ⟨⟨u3, r3⟩, f3⟩ := HL.out.1.2 (j * 7 + 3) (by omega)
      obtain ⟨⟨u4, r4⟩, f4⟩ := HL.out.1.2 (j * 7 + 4) (by omega)
      obtain ⟨v, u, c5, c6, hC, hI⟩ := HL.out.2 j z HZ.out
      obtain ⟨a, cap, rfl, -, -, -⟩ := id hC
      obtain ⟨a', cap', rfl, -, -, -⟩ := id hI
      rw [Nat.zero_add] at r0 r1 r2 r3 r4 f0 f1 f2 f3 f4
      clear hC hI
      have HC : Hid (∀ wx : World, LRoom hi wx g ms → wx.cell? ⟨g, j * 7 + 5, none⟩ = some (.slice a z.certs.length cap) → ∀ kk : Nat, kk ≤ 100000000000000 → Calls Try.prog 108 #[.slice a z.certs.length cap, .int .i64 (kk : Int)] wx fun e w' => e = .returned (.int .i64 ((kk + 3 * z.certs.length : Nat) : Int)) ∧ UpdR (g + 1) hi wx w' ∧ Kept wx w') := fun wx hx hc kk hk => by
        obtain ⟨v, u, d5, d6, h2, h3⟩ := hx.2 j z HZ.out
        rw [hc] at d5
        cases d5
        exact markCertS_room _ _ _ _ kk wx h2 hk hs1
      have HI : Hid (∀ wx : World, LRoom hi wx g ms → wx.cell? ⟨g, j * 7 + 6, none⟩ = some (.slice a' z.refs.length cap') → ∀ kk : Nat, kk ≤ 100000000000000 → Calls Try.prog 54 #[.slice a' z.refs.length cap', .int .i64 (kk : Int)] wx fun e w' => e = .returned (.int .i64 ((kk + z.refs.length : Nat) : Int)) ∧ UpdR (g + 1) hi wx w' ∧ Kept wx w') := fun wx hx hc kk hk => by
        obtain ⟨v, u, d5, d6, h2, h3⟩ := hx.2 j z HZ.out
        rw [hc] at d6
        cases d6
        exact markInt64S_room _ _ _ _ kk wx h3 hk hs2
      have HF : Hid (∀ x0 x1 x2 x3 x4 : Value, LRoom hi (five wr g (j * 7) x0 x1 x2 x3 x4) g ms ∧ UpdR g hi w (five wr g (j * 7) x0 x1 x2 x3 x4) ∧ (five wr g (j * 7) x0 x1 x2 x3 x4).cell? ⟨g, j * 7 + 5, none⟩ = some (.slice a z.certs.length cap)) := fun x0 x1 x2 x3 x4 => ⟨HL.out.five j x0 x1 x2 x3 x4, HU.out.trans (UpdR.of (five_upd _ _ _ _ _ _ _ _) (Nat.le_refl _) hg), by unfold five; rw [iset_ne _ _ _ _ _ _ (by omega), iset_ne _ _ _ _ _ _ (by omega), iset_ne _ _ _ _ _ _ (by omega), iset_ne _ _ _ _ _ _ (by omega), iset_ne _ _ _ _ _ _ (by omega)]; exact c5⟩
      have HF6 : Hid (∀ x0 x1 x2 x3 x4 : Value, (five wr g (j * 7) x0 x1 x2 x3 x4).cell? ⟨g, j * 7 + 6, none⟩ = some (.slice a' z.refs.length cap')) := fun x0 x1 x2 x3 x4 => by unfold five; rw [iset_ne _ _ _ _ _ _ (by omega), iset_ne _ _ _ _ _ _ (by omega), iset_ne _ _ _ _ _ _ (by omega), iset_ne _ _ _ _ _ _ (by omega), iset_ne _ _ _ _ _ _ (by omega)]; exact c6
      go_wp2_with fail
      rw [show ((k : Int) + 1 + 1 + 1 + 1 + 1) = ((k + 5 : Nat) : Int) from by omega]
      refine (HC.out (five wr g (j * 7) _ _ _ _ _) (HF.out _ _ _ _ _).1 (HF.out _ _ _ _ _).2.2 (k + 5) (by omega)).mono ?_
      rintro e w2 ⟨rfl, hu2, hk2⟩
      have HL2 : Hid (LRoom hi w2 g ms) := (HF.out _ _ _ _ _).1.in_ hu2 hk2
      have HU2 : Hid (UpdR g hi w w2) := (HF.out _ _ _ _ _).2.1.trans (hu2.mono (by omega))
      have d6 : w2.cell? ⟨g, j * 7 + 6, none⟩ = some (.slice a' z.refs.length cap') := (hu2.at_ne _ _ (Or.inl (by omega)) (HF.out _ _ _ _ _).1.1.1).1.trans (HF6.out _ _ _ _ _)
      clear hu2 hk2 r0 r1 r2 r3 r4 f0 f1 f2 f3 f4 c5 c6 HC HF HF6 HL HU
      go_wp2_with fail
      refine (HI.out _ HL2.out d6 (k + 5 + 3 * z.certs.length) (by omega)).mono ?_
      rintro e w3 ⟨rfl, hu3, hk3⟩
      have HL3 : Hid (LRoom hi w3 g ms) := HL2.out.in_ hu3 hk3
      have HU3 : Hid (UpdR g hi w w3) := HU2.out.trans (hu3.mono (by omega))
      clear hu3 hk3 d6 HI HL2 HU2
      have hk5 : k + 5 + 3 * z.certs.length + z.refs.length ≤ 1 + (j + 1) * 4194309 := by have := HKJ.out; omega
      generalize k + 5 + 3 * z.certs.length + z.refs.length = k5 at *
      go_wp2
      exact ⟨⟨j + 1, k5, by omega, by go_num, rfl, hk5, HL3.out, HU3.out⟩, by simp [intOf]; omega⟩
    · have hje : j = ms.length := by omega
      go_wp2
      go_ret
      exact ⟨k, rfl, by omega, HU.out⟩
end Led
end Go.Proofs.Ytflojfkalnojbaa
