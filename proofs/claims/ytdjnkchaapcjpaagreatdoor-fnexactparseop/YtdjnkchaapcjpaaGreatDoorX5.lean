/- the program's ParseOp. -/
import Derived.Test.YtdjnkchaapcjpaaGreatDoorX4
import Derived.Test.YtdjnkchaapcjpaaGreatDoorClone
namespace Go.Proofs.YtdjnkchaapcjpaaGreatDoor
open Go.RowKit
/-- What a text is parsed to: the one operation without fault whose text it is. -/
def Opr.Parsed (s : ByteArray) (c : Int) (o : Opn) : Prop :=
  (c = 0 ∧ Opr.fault o = 0 ∧ s.data.toList = Opr.text o) ∨ (c = 5 ∧ o = ⟨0, ⟨#[]⟩, 0, 0, false, false⟩ ∧ ∀ z, Opr.fault z = 0 → s.data.toList ≠ Opr.text z)
def opr (c : Int) (z : Opn) : Value := .agg #[.int .i64 c, .int .i64 z.kind, .string z.path, .int .i64 z.data, .int .i64 z.version, .bool z.seq, .bool z.own]
/-- An answer's box of seven cells that may be written. -/
def RRes (w : World) (b : Nat) : Prop := b < w.heap.size ∧ ∀ k, k < 7 → (∃ u, w.cell? ⟨b, k, none⟩ = some u) ∧ w.frozen? ⟨b, k, none⟩ = false
theorem RRes.ext {w w' : World} {b : Nat} (h : RRes w b) (he : Ext w w') : RRes w' b := by
  obtain ⟨hc, hf⟩ := Ext.cell he
  exact ⟨Nat.lt_of_lt_of_le h.1 he.size, fun k hk => ⟨by rw [hc _ _ h.1]; exact (h.2 k hk).1, by rw [hf _ _ h.1]; exact (h.2 k hk).2⟩⟩
theorem rres_new (w : World) (t : TypeId) : RRes (w.alloc (.cells #[.int .i64 0, .int .i64 0, .string ⟨#[]⟩, .int .i64 0, .int .i64 0, .bool false, .bool false] t)) w.heap.size := by
  refine ⟨by simp, fun k hk => ⟨?_, by simp⟩⟩
  have : k = 0 ∨ k = 1 ∨ k = 2 ∨ k = 3 ∨ k = 4 ∨ k = 5 ∨ k = 6 := by omega
  rcases this with rfl | rfl | rfl | rfl | rfl | rfl | rfl
  all_goals exact ⟨_, by simp; rfl⟩
def put7 (W : World) (b : Nat) (c : Int) (z : Opn) : World := (((((((W.setCell ⟨b, 0, none⟩ (.int .i64 c)).setCell ⟨b, 1, none⟩ (.int .i64 z.kind)).setCell ⟨b, 2, none⟩ (.string z.path)).setCell ⟨b, 3, none⟩ (.int .i64 z.data)).setCell ⟨b, 4, none⟩ (.int .i64 z.version)).setCell ⟨b, 5, none⟩ (.bool z.seq)).setCell ⟨b, 6, none⟩ (.bool z.own))
theorem put7_ext {w W : World} {b : Nat} (c : Int) (z : Opn) (h : Ext w W) (hb : w.heap.size ≤ b) : Ext w (put7 W b c z) :=
  (((((((h.setCell (p := ⟨b, 0, none⟩) hb _).setCell (p := ⟨b, 1, none⟩) hb _).setCell (p := ⟨b, 2, none⟩) hb _).setCell (p := ⟨b, 3, none⟩) hb _).setCell (p := ⟨b, 4, none⟩) hb _).setCell (p := ⟨b, 5, none⟩) hb _).setCell (p := ⟨b, 6, none⟩) hb _)
set_option maxHeartbeats 4000000 in
set_option maxRecDepth 100000 in
theorem implParseOp_any (s : ByteArray) (w : World) (hs : s.size ≤ 1048576) (hE : Es w) (hg : Gd w) (ht : Tb w) : Calls Tryz.prog 21 #[.string s] w fun e w' => ∃ (c : Int) (o : Opn), e = .returned (opr c o) ∧ Opr.Parsed s c o ∧ (∀ z, c = 0 → Opr.fault z = 0 → s.data.toList = Opr.text z → z = o) ∧ Ext w w' := by
  have HG : Hid (∀ wx : World, Ext w wx → Calls Tryz.prog 60 #[.string s] wx fun e w' => ∃ o : Opn, e = .returned (oagg o) ∧ o.path.size ≤ 1048576 ∧ (∀ z, Opr.fault z = 0 → s.data.toList = Opr.text z → o = z) ∧ Ext wx w') := fun wx h => guessOp_any s wx hs (hE.ext h)
  have HT : Hid (∀ (z : Opn) (wx : World), Ext w wx → Calls Tryz.prog 25 #[oagg z] wx fun e w' => e = .returned (tr (Opr.textV z)) ∧ Ext wx w') := fun z wx h => implOpText_any z wx (hg.ext h) (ht.ext h)
  clear hs hE hg ht
  go_enter Tryz.func21, Tryz.ntmps21
  go_wp2_with fail
  refine (HG.out _ ((Ext.refl _).alloc _)).mono ?_
  rintro e w1 ⟨o, rfl, ho, hz, hb⟩
  have HZ : Hid (∀ z, Opr.fault z = 0 → s.data.toList = Opr.text z → o = z) := hz
  have E1 : Hid (Ext w w1) := ((Ext.refl _).alloc _).trans hb
  have G1 : Hid (RRes w1 w.heap.size) := (rres_new w _).ext hb
  clear hb hz HG
  unfold oagg
  go_wp2_with fail
  refine (HT.out o _ (E1.out.alloc _)).mono ?_
  rintro e w2 ⟨rfl, hb⟩
  have E2 : Hid (Ext w w2) := (E1.out.alloc _).trans hb
  have O2 : Hid (OWr w2 w1.heap.size o) := (owr_new w1 o _).ext hb
  have G2 : Hid (RRes w2 w.heap.size) := (G1.out.ext ((Ext.refl _).alloc _)).ext hb
  have hl : w.heap.size ≠ w1.heap.size := by have := G1.out.1; omega
  have hl1 : w.heap.size ≤ w1.heap.size := by have := G1.out.1; omega
  clear hb HT
  generalize w1.heap.size = ob at *
  by_cases hf : Opr.fault o = 0
  · rw [Opr.textV_ok hf]
    by_cases hx : mkB (Opr.text o) = s
    · have HX : Hid (s.data.toList = Opr.text o) := by rw [← hx, mkB_list]; exact rfl
      have HF : Hid (Opr.fault o = 0) := hf
      rw [show tr (0, Opr.text o) = .agg #[.int .i64 0, .string s] from by unfold tr; rw [hx]]
      clear hx hf
      obtain ⟨⟨ol, o0, o1, o2, o3, o4, o5⟩, of⟩ := O2.out
      have f1 := of 1 (by omega)
      have HC : Hid (∀ wx : World, Calls Tryz.prog 61 #[.string o.path] wx fun e w' => e = .returned (.string o.path) ∧ Ext wx w') := fun wx => clone_any o.path wx ho
      clear of ho
      obtain ⟨gl, gg⟩ := G2.out
      obtain ⟨⟨u0, g0⟩, k0⟩ := gg 0 (by omega)
      obtain ⟨⟨u1, g1⟩, k1⟩ := gg 1 (by omega)
      obtain ⟨⟨u2, g2⟩, k2⟩ := gg 2 (by omega)
      obtain ⟨⟨u3, g3⟩, k3⟩ := gg 3 (by omega)
      obtain ⟨⟨u4, g4⟩, k4⟩ := gg 4 (by omega)
      obtain ⟨⟨u5, g5⟩, k5⟩ := gg 5 (by omega)
      obtain ⟨⟨u6, g6⟩, k6⟩ := gg 6 (by omega)
      clear gg
      have hq : (s.toList == s.toList) = true := by rw [beq_val]; simp
      go_wp2_with fail
      have ha2 : Ext w2 (w2.alloc (Obj.cells #[.int .i64 0, .string s] 59)) := (Ext.refl _).alloc _
      refine (HC.out _).mono ?_
      rintro e w3 ⟨rfl, hb⟩
      have E3 : Hid (Ext w w3) := (E2.out.trans ha2).trans hb
      have O3 : Hid (OWr w3 ob o) := (O2.out.ext ha2).ext hb
      have G3 : Hid (RRes w3 w.heap.size) := (G2.out.ext ha2).ext hb
      clear hb ha2 HC ol o0 o1 o2 o3 o4 o5 f1 gl g0 g1 g2 g3 g4 g5 g6 k0 k1 k2 k3 k4 k5 k6 u0 u1 u2 u3 u4 u5 u6
      obtain ⟨⟨ol, o0, o1, o2, o3, o4, o5⟩, of⟩ := O3.out
      have f1 := of 1 (by omega)
      clear of
      obtain ⟨gl, gg⟩ := G3.out
      obtain ⟨⟨u0, g0⟩, k0⟩ := gg 0 (by omega)
      obtain ⟨⟨u1, g1⟩, k1⟩ := gg 1 (by omega)
      obtain ⟨⟨u2, g2⟩, k2⟩ := gg 2 (by omega)
      obtain ⟨⟨u3, g3⟩, k3⟩ := gg 3 (by omega)
      obtain ⟨⟨u4, g4⟩, k4⟩ := gg 4 (by omega)
      obtain ⟨⟨u5, g5⟩, k5⟩ := gg 5 (by omega)
      obtain ⟨⟨u6, g6⟩, k6⟩ := gg 6 (by omega)
      clear gg
      go_wp2
      exact bodyPost_ret (v := opr 0 o) (by simp [results, Tryz.results21, go_sem, opr, *]) rfl ⟨0, o, rfl, Or.inl ⟨rfl, HF.out, HX.out⟩, fun z _ h1 h2 => (HZ.out z h1 h2).symm, put7_ext 0 o (E3.out.setCell (p := ⟨ob, 1, none⟩) hl1 (.string o.path)) (Nat.le_refl _)⟩
    · have HX : Hid (∀ z, Opr.fault z = 0 → s.data.toList ≠ Opr.text z) := fun z h1 h2 => hx (ba_eq (by rw [mkB_list, HZ.out z h1 h2, h2]))
      have hne : ((mkB (Opr.text o)).toList == s.toList) = false := by rw [beq_val]; simpa using fun h => hx (ba_eq h)
      generalize Opr.text o = TX at *
      unfold tr
      clear hf
      obtain ⟨⟨ol, o0, o1, o2, o3, o4, o5⟩, of⟩ := O2.out
      have f1 := of 1 (by omega)
      clear of
      obtain ⟨gl, gg⟩ := G2.out
      obtain ⟨⟨u0, g0⟩, k0⟩ := gg 0 (by omega)
      obtain ⟨⟨u1, g1⟩, k1⟩ := gg 1 (by omega)
      obtain ⟨⟨u2, g2⟩, k2⟩ := gg 2 (by omega)
      obtain ⟨⟨u3, g3⟩, k3⟩ := gg 3 (by omega)
      obtain ⟨⟨u4, g4⟩, k4⟩ := gg 4 (by omega)
      obtain ⟨⟨u5, g5⟩, k5⟩ := gg 5 (by omega)
      obtain ⟨⟨u6, g6⟩, k6⟩ := gg 6 (by omega)
      clear gg
      go_wp2
      exact bodyPost_ret (v := opr 5 ⟨0, ⟨#[]⟩, 0, 0, false, false⟩) (by simp [results, Tryz.results21, go_sem, opr, *]) rfl ⟨5, ⟨0, ⟨#[]⟩, 0, 0, false, false⟩, rfl, Or.inr ⟨rfl, rfl, HX.out⟩, fun z h => absurd h (by decide), (put7_ext 5 ⟨0, ⟨#[]⟩, 0, 0, false, false⟩ E2.out (Nat.le_refl _)).alloc _⟩
  · have HX : Hid (∀ z, Opr.fault z = 0 → s.data.toList ≠ Opr.text z) := fun z h1 h2 => hf (by rw [HZ.out z h1 h2]; exact h1)
    rw [Opr.textV_bad rfl hf]
    generalize Opr.fault o = c at *
    have hcb : (c != 0) = true := by simpa using hf
    unfold tr
    clear hf
    obtain ⟨⟨ol, o0, o1, o2, o3, o4, o5⟩, of⟩ := O2.out
    have f1 := of 1 (by omega)
    clear of
    obtain ⟨gl, gg⟩ := G2.out
    obtain ⟨⟨u0, g0⟩, k0⟩ := gg 0 (by omega)
    obtain ⟨⟨u1, g1⟩, k1⟩ := gg 1 (by omega)
    obtain ⟨⟨u2, g2⟩, k2⟩ := gg 2 (by omega)
    obtain ⟨⟨u3, g3⟩, k3⟩ := gg 3 (by omega)
    obtain ⟨⟨u4, g4⟩, k4⟩ := gg 4 (by omega)
    obtain ⟨⟨u5, g5⟩, k5⟩ := gg 5 (by omega)
    obtain ⟨⟨u6, g6⟩, k6⟩ := gg 6 (by omega)
    clear gg
    go_wp2
    exact bodyPost_ret (v := opr 5 ⟨0, ⟨#[]⟩, 0, 0, false, false⟩) (by simp [results, Tryz.results21, go_sem, opr, *]) rfl ⟨5, ⟨0, ⟨#[]⟩, 0, 0, false, false⟩, rfl, Or.inr ⟨rfl, rfl, HX.out⟩, fun z h => absurd h (by decide), (put7_ext 5 ⟨0, ⟨#[]⟩, 0, 0, false, false⟩ E2.out (Nat.le_refl _)).alloc _⟩
end Go.Proofs.YtdjnkchaapcjpaaGreatDoor
