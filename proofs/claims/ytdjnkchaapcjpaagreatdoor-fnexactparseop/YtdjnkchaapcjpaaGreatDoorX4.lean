/- the program's guessOp. -/
import Derived.Test.YtdjnkchaapcjpaaGreatDoorX2
import Derived.Test.YtdjnkchaapcjpaaGreatDoorX3
import Derived.Deep.RegionHeld3
namespace Go.Proofs.YtdjnkchaapcjpaaGreatDoor
open Go.RowKit
theorem splitB_small (sep : ByteArray) : ∀ (k : Nat) (s x : ByteArray), x ∈ Lib.splitB sep 0 k s → x.size ≤ s.size := by
  intro k
  induction k with
  | zero => intro s x hx; rw [Lib.splitB_zero] at hx; simp only [List.mem_singleton] at hx; rw [hx]; exact Nat.le_refl _
  | succ k ih =>
    intro s x hx
    unfold Lib.splitB at hx
    split at hx
    · simp only [List.mem_singleton] at hx; rw [hx]; exact Nat.le_refl _
    · rcases List.mem_cons.1 hx with hx | hx
      · rw [hx, ByteArray.size_extract]; omega
      · have := ih _ _ hx; rw [ByteArray.size_extract] at this; omega
theorem getD_small {ps : List ByteArray} {n : Nat} (h : ∀ x ∈ ps, x.size ≤ n) (i : Nat) : (ps.getD i ⟨#[]⟩).size ≤ n := by
  rw [List.getD]
  cases hi : ps[i]? with
  | none => exact Nat.zero_le _
  | some x => exact h x (List.mem_of_getElem? hi)
/-- An operation in a box that may be written. -/
def OWr (w : World) (b : Nat) (z : Opn) : Prop := OBoxAt w b z ∧ ∀ k, k < 6 → w.frozen? ⟨b, k, none⟩ = false
theorem OWr.ext {w w' : World} {b : Nat} {z : Opn} (h : OWr w b z) (he : Ext w w') : OWr w' b z :=
  ⟨h.1.ext he, fun k hk => ((Ext.cell he).2 _ _ h.1.1).trans (h.2 k hk)⟩
theorem owr_new (w : World) (z : Opn) (t : TypeId) : OWr (w.alloc (.cells #[.int .i64 z.kind, .string z.path, .int .i64 z.data, .int .i64 z.version, .bool z.seq, .bool z.own] t)) w.heap.size z := ⟨obox_new w z t, fun k _ => by simp⟩
def put6 (W : World) (b : Nat) (z : Opn) : World := ((((((W.setCell ⟨b, 0, none⟩ (.int .i64 z.kind)).setCell ⟨b, 1, none⟩ (.string z.path)).setCell ⟨b, 2, none⟩ (.int .i64 z.data)).setCell ⟨b, 3, none⟩ (.int .i64 z.version)).setCell ⟨b, 4, none⟩ (.bool z.seq)).setCell ⟨b, 5, none⟩ (.bool z.own))
theorem put6_size (W : World) (b : Nat) (z : Opn) : (put6 W b z).heap.size = W.heap.size := by simp [put6]
theorem put6_frozen (W : World) (b : Nat) (z : Opn) (a : Addr) : (put6 W b z).frozen? a = W.frozen? a := by simp [put6]
theorem put6_ne (W : World) (b c k : Nat) (z : Opn) (h : c ≠ b) : (put6 W b z).cell? ⟨c, k, none⟩ = W.cell? ⟨c, k, none⟩ := by
  unfold put6
  rw [iset_ne _ _ _ _ _ _ (Or.inl (Ne.symm h)), iset_ne _ _ _ _ _ _ (Or.inl (Ne.symm h)), iset_ne _ _ _ _ _ _ (Or.inl (Ne.symm h)), iset_ne _ _ _ _ _ _ (Or.inl (Ne.symm h)), iset_ne _ _ _ _ _ _ (Or.inl (Ne.symm h)), iset_ne _ _ _ _ _ _ (Or.inl (Ne.symm h))]
theorem put6_ext {w W : World} {b : Nat} (z : Opn) (h : Ext w W) (hb : w.heap.size ≤ b) : Ext w (put6 W b z) :=
  ((((((h.setCell (p := ⟨b, 0, none⟩) hb _).setCell (p := ⟨b, 1, none⟩) hb _).setCell (p := ⟨b, 2, none⟩) hb _).setCell (p := ⟨b, 3, none⟩) hb _).setCell (p := ⟨b, 4, none⟩) hb _).setCell (p := ⟨b, 5, none⟩) hb _)
theorem put6_owr {W : World} {b : Nat} {y : Opn} (z : Opn) (h : OWr W b y) : OWr (put6 W b z) b z := by
  obtain ⟨⟨hb, c0, c1, c2, c3, c4, c5⟩, hf⟩ := h
  refine ⟨⟨by rw [put6_size]; exact hb, ?_, ?_, ?_, ?_, ?_, ?_⟩, fun k hk => by rw [put6_frozen]; exact hf k hk⟩
  · unfold put6; rw [iset_ne _ _ _ _ _ _ (by omega), iset_ne _ _ _ _ _ _ (by omega), iset_ne _ _ _ _ _ _ (by omega), iset_ne _ _ _ _ _ _ (by omega), iset_ne _ _ _ _ _ _ (by omega)]; apply iset_eq; exact ⟨_, c0⟩
  · unfold put6; rw [iset_ne _ _ _ _ _ _ (by omega), iset_ne _ _ _ _ _ _ (by omega), iset_ne _ _ _ _ _ _ (by omega), iset_ne _ _ _ _ _ _ (by omega)]; apply iset_eq; rw [iset_ne _ _ _ _ _ _ (by omega)]; exact ⟨_, c1⟩
  · unfold put6; rw [iset_ne _ _ _ _ _ _ (by omega), iset_ne _ _ _ _ _ _ (by omega), iset_ne _ _ _ _ _ _ (by omega)]; apply iset_eq; rw [iset_ne _ _ _ _ _ _ (by omega), iset_ne _ _ _ _ _ _ (by omega)]; exact ⟨_, c2⟩
  · unfold put6; rw [iset_ne _ _ _ _ _ _ (by omega), iset_ne _ _ _ _ _ _ (by omega)]; apply iset_eq; rw [iset_ne _ _ _ _ _ _ (by omega), iset_ne _ _ _ _ _ _ (by omega), iset_ne _ _ _ _ _ _ (by omega)]; exact ⟨_, c3⟩
  · unfold put6; rw [iset_ne _ _ _ _ _ _ (by omega)]; apply iset_eq; rw [iset_ne _ _ _ _ _ _ (by omega), iset_ne _ _ _ _ _ _ (by omega), iset_ne _ _ _ _ _ _ (by omega), iset_ne _ _ _ _ _ _ (by omega)]; exact ⟨_, c4⟩
  · unfold put6; apply iset_eq; rw [iset_ne _ _ _ _ _ _ (by omega), iset_ne _ _ _ _ _ _ (by omega), iset_ne _ _ _ _ _ _ (by omega), iset_ne _ _ _ _ _ _ (by omega), iset_ne _ _ _ _ _ _ (by omega)]; exact ⟨_, c5⟩
theorem WArr.put6 {W : World} {b d : Nat} {p0 p1 p2 p3 p4 : ByteArray} (z : Opn) (h : WArr W b p0 p1 p2 p3 p4) (hne : b ≠ d) : WArr (Go.Proofs.YtdjnkchaapcjpaaGreatDoor.put6 W d z) b p0 p1 p2 p3 p4 := by
  obtain ⟨hb, ⟨c0, c1, c2, c3, c4⟩, f0, f1, f2, f3, f4⟩ := h
  refine ⟨by rw [put6_size]; exact hb, ⟨?_, ?_, ?_, ?_, ?_⟩, ?_, ?_, ?_, ?_, ?_⟩
  all_goals first | (rw [put6_ne _ _ _ _ _ hne]; assumption) | (rw [put6_frozen]; assumption)
theorem put6_tail {w W : World} {wb ob : Nat} {y : Opn} {p0 p1 p2 p3 p4 : ByteArray} (z : Opn) (h1 : w.heap.size ≤ ob) (h2 : ob ≠ wb) (h3 : ob ≠ w.heap.size) (E : Ext w W) (F : WArr W wb p0 p1 p2 p3 p4) (G : ORes W w.heap.size) (B : OWr W ob y) : w.heap.size ≤ ob ∧ ob ≠ wb ∧ ob ≠ w.heap.size ∧ Ext w (put6 W ob z) ∧ WArr (put6 W ob z) wb p0 p1 p2 p3 p4 ∧ ORes (put6 W ob z) w.heap.size ∧ OWr (put6 W ob z) ob z :=
  ⟨h1, h2, h3, put6_ext z E h1, F.put6 z h2.symm, G.other h3.symm (fun c k hc => put6_ne W ob c k z hc) (fun _ _ => put6_frozen W ob z _) (put6_size W ob z), put6_owr z B⟩
theorem Opr.kindW_range (l : List UInt8) : 0 ≤ Opr.kindW l ∧ Opr.kindW l ≤ 8 := by
  unfold Opr.kindW
  split <;> (try split) <;> (try split) <;> (try split) <;> (try split) <;> (try split) <;> (try split) <;> (try split) <;> decide
theorem Opr.zeros {z : Opn} (hf : Opr.fault z = 0) : (Opr.hasPath z.kind = false → z.path = ⟨#[]⟩) ∧ (Opr.hasData z.kind = false → z.data = 0) ∧ (Opr.hasVer z.kind = false → z.version = 0) := by
  have h1 := (Opr.fault_zero hf).1
  unfold Opr.extra at h1
  simp only [Bool.or_eq_false_iff] at h1
  obtain ⟨a, b, c, -⟩ := h1
  refine ⟨fun h => ?_, fun h => ?_, fun h => ?_⟩
  · rw [h] at a; simpa using a
  · rw [h] at b; simpa using b
  · rw [h] at c; simpa using c
theorem Opr.back_kind {z : Opn} {p0 : ByteArray} {kd : Int} (hf : Opr.fault z = 0) (h0 : p0.data.toList = (Opr.words z).getD 0 []) (hk : kd = Opr.kindW p0.data.toList) : z.kind = kd := by
  have h := Opr.fault_zero_kind hf
  rw [hk, h0, show (Opr.words z).getD 0 [] = Opr.word z.kind from rfl, Opr.kindW_word h.1 h.2]
theorem contains_mk (a b x : ByteArray) : Lib.containsS [a, b] x = (decide (a = x) || decide (b = x)) := by
  rw [Bool.eq_iff_iff, Lib.containsS_iff, List.mem_cons, List.mem_singleton, Bool.or_eq_true, decide_eq_true_eq, decide_eq_true_eq]
  exact ⟨fun h => h.elim (fun h => Or.inl h.symm) (fun h => Or.inr h.symm), fun h => h.elim (fun h => Or.inl h.symm) (fun h => Or.inr h.symm)⟩
theorem Opr.back_1 {z : Opn} {p1 : ByteArray} (hf : Opr.fault z = 0) (hk : z.kind = 1) (h1 : p1.data.toList = (Opr.words z).getD 1 []) : (⟨1, p1, 0, 0, false, false⟩ : Opn) = z := by
  obtain ⟨k, p, d, v, s, q⟩ := z
  simp only at hk
  subst hk
  obtain ⟨rfl, rfl⟩ := Opr.noExtra hf (by decide)
  obtain ⟨z1, z2, z3⟩ := Opr.zeros hf
  have e1 : p1 = p := ba_eq (h1.trans (by rw [show p = ⟨#[]⟩ from z1 rfl]; rfl))
  have e2 : d = 0 := z2 rfl
  have e3 : v = 0 := z3 rfl
  rw [e1, e2, e3]
theorem Opr.back_2 {z : Opn} {p1 : ByteArray} (hf : Opr.fault z = 0) (hk : z.kind = 2) (h1 : p1.data.toList = (Opr.words z).getD 1 []) : (⟨2, p1, 0, 0, false, false⟩ : Opn) = z := by
  obtain ⟨k, p, d, v, s, q⟩ := z
  simp only at hk
  subst hk
  obtain ⟨rfl, rfl⟩ := Opr.noExtra hf (by decide)
  obtain ⟨z1, z2, z3⟩ := Opr.zeros hf
  have e1 : p1 = p := ba_eq (h1.trans (by rw [show p = ⟨#[]⟩ from z1 rfl]; rfl))
  have e2 : d = 0 := z2 rfl
  have e3 : v = 0 := z3 rfl
  rw [e1, e2, e3]
theorem Opr.back_6 {z : Opn} {p1 : ByteArray} (hf : Opr.fault z = 0) (hk : z.kind = 6) (h1 : p1.data.toList = (Opr.words z).getD 1 []) : (⟨6, p1, 0, 0, false, false⟩ : Opn) = z := by
  obtain ⟨k, p, d, v, s, q⟩ := z
  simp only at hk
  subst hk
  obtain ⟨rfl, rfl⟩ := Opr.noExtra hf (by decide)
  obtain ⟨-, z2, z3⟩ := Opr.zeros hf
  have e1 : p1 = p := ba_eq h1
  have e2 : d = 0 := z2 rfl
  have e3 : v = 0 := z3 rfl
  rw [e1, e2, e3]
theorem Opr.back_7 {z : Opn} {p1 : ByteArray} (hf : Opr.fault z = 0) (hk : z.kind = 7) (h1 : p1.data.toList = (Opr.words z).getD 1 []) : (⟨7, p1, 0, 0, false, false⟩ : Opn) = z := by
  obtain ⟨k, p, d, v, s, q⟩ := z
  simp only at hk
  subst hk
  obtain ⟨rfl, rfl⟩ := Opr.noExtra hf (by decide)
  obtain ⟨-, z2, z3⟩ := Opr.zeros hf
  have e1 : p1 = p := ba_eq h1
  have e2 : d = 0 := z2 rfl
  have e3 : v = 0 := z3 rfl
  rw [e1, e2, e3]
theorem Opr.back_4 {z : Opn} {p1 p2 : ByteArray} {n : Int} (hf : Opr.fault z = 0) (hk : z.kind = 4) (h1 : p1.data.toList = (Opr.words z).getD 1 []) (h2 : p2.data.toList = (Opr.words z).getD 2 []) (hn : ∀ m : Int, -1 ≤ m → m ≤ 999 → p2.data.toList = Opr.verT m → n = m) : (⟨4, p1, 0, n, false, false⟩ : Opn) = z := by
  obtain ⟨k, p, d, v, s, q⟩ := z
  simp only at hk
  subst hk
  obtain ⟨rfl, rfl⟩ := Opr.noExtra hf (by decide)
  obtain ⟨-, z2, -⟩ := Opr.zeros hf
  have hb := Opr.bounds hf
  have e1 : p1 = p := ba_eq h1
  have e2 : d = 0 := z2 rfl
  have e3 : n = v := hn v hb.2.2.1 hb.2.2.2 h2
  rw [e1, e2, e3]
theorem Opr.back_8 {z : Opn} {p1 p2 : ByteArray} {n : Int} (hf : Opr.fault z = 0) (hk : z.kind = 8) (h1 : p1.data.toList = (Opr.words z).getD 1 []) (h2 : p2.data.toList = (Opr.words z).getD 2 []) (hn : ∀ m : Int, -1 ≤ m → m ≤ 999 → p2.data.toList = Opr.verT m → n = m) : (⟨8, p1, 0, n, false, false⟩ : Opn) = z := by
  obtain ⟨k, p, d, v, s, q⟩ := z
  simp only at hk
  subst hk
  obtain ⟨rfl, rfl⟩ := Opr.noExtra hf (by decide)
  obtain ⟨-, z2, -⟩ := Opr.zeros hf
  have hb := Opr.bounds hf
  have e1 : p1 = p := ba_eq h1
  have e2 : d = 0 := z2 rfl
  have e3 : n = v := hn v hb.2.2.1 hb.2.2.2 h2
  rw [e1, e2, e3]
theorem Opr.back_5 {z : Opn} {p1 p2 p3 : ByteArray} {m n : Int} (hf : Opr.fault z = 0) (hk : z.kind = 5) (h1 : p1.data.toList = (Opr.words z).getD 1 []) (h2 : p2.data.toList = (Opr.words z).getD 2 []) (h3 : p3.data.toList = (Opr.words z).getD 3 []) (hm : ∀ x : Int, 0 ≤ x → x ≤ 99999 → p2.data.toList = Lib.itoa x → m = x) (hn : ∀ x : Int, -1 ≤ x → x ≤ 999 → p3.data.toList = Opr.verT x → n = x) : (⟨5, p1, m, n, false, false⟩ : Opn) = z := by
  obtain ⟨k, p, d, v, s, q⟩ := z
  simp only at hk
  subst hk
  obtain ⟨rfl, rfl⟩ := Opr.noExtra hf (by decide)
  have hb := Opr.bounds hf
  simp only at hb
  have e1 : p1 = p := ba_eq h1
  have e2 : m = d := hm d hb.1 (by omega) h2
  have e3 : n = v := hn v hb.2.2.1 hb.2.2.2 h3
  rw [e1, e2, e3]
theorem Opr.back_3 {z : Opn} {p1 p2 p3 p4 : ByteArray} {m : Int} (hf : Opr.fault z = 0) (hk : z.kind = 3) (h1 : p1.data.toList = (Opr.words z).getD 1 []) (h2 : p2.data.toList = (Opr.words z).getD 2 []) (h3 : p3.data.toList = (Opr.words z).getD 3 []) (h4 : p4.data.toList = (Opr.words z).getD 4 []) (hm : ∀ x : Int, 0 ≤ x → x ≤ 99999 → p2.data.toList = Lib.itoa x → m = x) : (⟨3, p1, m, 0, Lib.containsS [p3, p4] (mkB Opr.seqW), Lib.containsS [p3, p4] (mkB Opr.ownW)⟩ : Opn) = z := by
  obtain ⟨k, p, d, v, s, q⟩ := z
  simp only at hk
  subst hk
  obtain ⟨-, -, z3⟩ := Opr.zeros hf
  have hb := Opr.bounds hf
  simp only at hb
  have e1 : p1 = p := ba_eq h1
  have e2 : m = d := hm d hb.1 (by omega) h2
  have e3 : v = 0 := z3 rfl
  have e4 : p3 = mkB ((Opr.words ⟨3, p, d, v, s, q⟩).getD 3 []) := ba_eq (h3.trans (mkB_list _).symm)
  have e5 : p4 = mkB ((Opr.words ⟨3, p, d, v, s, q⟩).getD 4 []) := ba_eq (h4.trans (mkB_list _).symm)
  rw [contains_mk, contains_mk, e1, e2, e3, e4, e5]
  cases s <;> cases q <;> rfl
theorem OWr.data {w : World} {b : Nat} {k : Int} {p : ByteArray} {d v : Int} {s q : Bool} (h : OWr w b ⟨k, p, d, v, s, q⟩) (m : Int) : OWr (w.setCell ⟨b, 2, none⟩ (.int .i64 m)) b ⟨k, p, m, v, s, q⟩ := by
  obtain ⟨⟨hb, c0, c1, c2, c3, c4, c5⟩, hf⟩ := h
  refine ⟨⟨by simpa using hb, ?_, ?_, ?_, ?_, ?_, ?_⟩, fun k hk => by simpa using hf k hk⟩
  · rw [iset_ne _ _ _ _ _ _ (by omega)]; exact c0
  · rw [iset_ne _ _ _ _ _ _ (by omega)]; exact c1
  · exact iset_eq _ _ _ _ ⟨_, c2⟩
  · rw [iset_ne _ _ _ _ _ _ (by omega)]; exact c3
  · rw [iset_ne _ _ _ _ _ _ (by omega)]; exact c4
  · rw [iset_ne _ _ _ _ _ _ (by omega)]; exact c5
theorem OWr.seqd {w : World} {b : Nat} {k : Int} {p : ByteArray} {d v : Int} {s q : Bool} (h : OWr w b ⟨k, p, d, v, s, q⟩) (m : Bool) : OWr (w.setCell ⟨b, 4, none⟩ (.bool m)) b ⟨k, p, d, v, m, q⟩ := by
  obtain ⟨⟨hb, c0, c1, c2, c3, c4, c5⟩, hf⟩ := h
  refine ⟨⟨by simpa using hb, ?_, ?_, ?_, ?_, ?_, ?_⟩, fun k hk => by simpa using hf k hk⟩
  · rw [iset_ne _ _ _ _ _ _ (by omega)]; exact c0
  · rw [iset_ne _ _ _ _ _ _ (by omega)]; exact c1
  · rw [iset_ne _ _ _ _ _ _ (by omega)]; exact c2
  · rw [iset_ne _ _ _ _ _ _ (by omega)]; exact c3
  · exact iset_eq _ _ _ _ ⟨_, c4⟩
  · rw [iset_ne _ _ _ _ _ _ (by omega)]; exact c5
theorem ORes.set {w : World} {b d o : Nat} {v : Value} (h : ORes w b) (hne : d ≠ b) : ORes (w.setCell ⟨d, o, none⟩ v) b :=
  ⟨by simpa using h.1, fun k hk => ⟨by rw [iset_ne _ _ _ _ _ _ (Or.inl hne)]; exact (h.2 k hk).1, by simpa using (h.2 k hk).2⟩⟩
theorem WArr.set {w : World} {b d o : Nat} {v : Value} {p0 p1 p2 p3 p4 : ByteArray} (h : WArr w b p0 p1 p2 p3 p4) (hne : d ≠ b) : WArr (w.setCell ⟨d, o, none⟩ v) b p0 p1 p2 p3 p4 := by
  obtain ⟨hb, ⟨c0, c1, c2, c3, c4⟩, f0, f1, f2, f3, f4⟩ := h
  refine ⟨by simpa using hb, ⟨?_, ?_, ?_, ?_, ?_⟩, by simpa using f0, by simpa using f1, by simpa using f2, by simpa using f3, by simpa using f4⟩
  all_goals (rw [iset_ne _ _ _ _ _ _ (Or.inl hne)]; assumption)
/-- A statement that goes on, and nothing else. -/
def OnlyN (R : Act → World → Prop) : Exit → Act → World → Prop
  | .normal, a, w => R a w
  | _, _, _ => False
theorem OnlyN.out {R : Act → World → Prop} {e : Exit} {a : Act} {w : World} (h : OnlyN R e a w) : e = .normal ∧ R a w := by
  cases e <;> first | exact ⟨rfl, h⟩ | exact (h : False).elim
set_option maxHeartbeats 16000000 in
set_option maxRecDepth 100000 in
theorem guessOp_any (s : ByteArray) (w : World) (hs : s.size ≤ 1048576) (hE : Es w) : Calls Tryz.prog 60 #[.string s] w fun e w' => ∃ o : Opn, e = .returned (oagg o) ∧ o.path.size ≤ 1048576 ∧ (∀ z, Opr.fault z = 0 → s.data.toList = Opr.text z → o = z) ∧ Ext w w' := by
  obtain ⟨ps, hps⟩ : ∃ ps, ps = Lib.splitB ⟨#[32]⟩ 0 (min 5 (s.size + 1) - 1) s := ⟨_, rfl⟩
  have hn : ps.length ≤ 5 := by have := Lib.splitB_length_le ⟨#[32]⟩ 0 (min 5 (s.size + 1) - 1) s; rw [hps]; omega
  have hsm : ∀ x ∈ ps, x.size ≤ 1048576 := fun x hx => Nat.le_trans (splitB_small _ _ _ x (by rw [← hps]; exact hx)) hs
  have HZ : Hid (∀ z, Opr.fault z = 0 → s.data.toList = Opr.text z → (ps.getD 0 ⟨#[]⟩).data.toList = (Opr.words z).getD 0 [] ∧ (ps.getD 1 ⟨#[]⟩).data.toList = (Opr.words z).getD 1 [] ∧ (ps.getD 2 ⟨#[]⟩).data.toList = (Opr.words z).getD 2 [] ∧ (ps.getD 3 ⟨#[]⟩).data.toList = (Opr.words z).getD 3 [] ∧ (ps.getD 4 ⟨#[]⟩).data.toList = (Opr.words z).getD 4 []) := fun z hf hz => by
    have h := Opr.split_text hf hz
    rw [← hps] at h
    have aux : ∀ i, (ps.getD i ⟨#[]⟩).data.toList = (Opr.words z).getD i [] := by
      intro i
      rw [← h, List.getD, List.getD, List.getElem?_map]
      cases ps[i]? <;> rfl
    exact ⟨aux 0, aux 1, aux 2, aux 3, aux 4⟩
  have HS : Hid (∀ wx : World, Calls Tryz.prog 123 #[.string s, .string ⟨#[32]⟩, .int .i64 5] wx fun e w' => ∃ cap, e = .returned (.slice (some ⟨wx.heap.size, 0, none⟩) ps.length cap) ∧ ps.length ≤ cap ∧ cap ≤ 5 ∧ (∀ (j : Nat) x, ps[j]? = some x → w'.cell? ⟨wx.heap.size, j, none⟩ = some (.string x)) ∧ Ext wx w') := by
    intro wx
    refine (splitN_any s wx hs).mono ?_
    rintro e w' ⟨he, hw⟩
    rw [← hps] at he hw
    subst hw
    refine ⟨_, he, ?_, Nat.min_le_left _ _, fun j x hx => ?_, (Ext.refl _).alloc _⟩
    · have := Lib.splitB_length_le ⟨#[32]⟩ 0 (min 5 (s.size + 1) - 1) s
      rw [← hps] at this; omega
    · rw [World.cell?_alloc_at _ _ _ _ rfl]
      have hj := (List.getElem?_eq_some_iff.1 hx).1
      simp only [Lib.cellsOf]
      rw [List.getElem?_toArray, List.getElem?_append_left (by simpa using hj), List.getElem?_map, hx]; rfl
  have z0 := getD_small hsm 0
  have z1 := getD_small hsm 1
  have z2 := getD_small hsm 2
  have z3 := getD_small hsm 3
  have HEs : Hid (Es w) := hE
  clear hps hsm hs hE
  go_enter Tryz.func60, Tryz.ntmps60
  go_wp2
  have E1 : Hid (Ext w ((w.alloc (.cells #[.int .i64 0, .string ⟨#[]⟩, .int .i64 0, .int .i64 0, .bool false, .bool false] 49)).alloc (.cells #[.string ⟨#[]⟩, .string ⟨#[]⟩, .string ⟨#[]⟩, .string ⟨#[]⟩, .string ⟨#[]⟩] 177))) := ((Ext.refl _).alloc _).alloc _
  have F1 : Hid (WArr ((w.alloc (.cells #[.int .i64 0, .string ⟨#[]⟩, .int .i64 0, .int .i64 0, .bool false, .bool false] 49)).alloc (.cells #[.string ⟨#[]⟩, .string ⟨#[]⟩, .string ⟨#[]⟩, .string ⟨#[]⟩, .string ⟨#[]⟩] 177)) (w.heap.size + 1) ⟨#[]⟩ ⟨#[]⟩ ⟨#[]⟩ ⟨#[]⟩ ⟨#[]⟩) := by
    have h := warr_new (w.alloc (.cells #[.int .i64 0, .string ⟨#[]⟩, .int .i64 0, .int .i64 0, .bool false, .bool false] 49)) ⟨#[]⟩ ⟨#[]⟩ ⟨#[]⟩ ⟨#[]⟩ ⟨#[]⟩ 177
    rw [World.size_alloc] at h
    exact h
  have G1 : Hid (ORes ((w.alloc (.cells #[.int .i64 0, .string ⟨#[]⟩, .int .i64 0, .int .i64 0, .bool false, .bool false] 49)).alloc (.cells #[.string ⟨#[]⟩, .string ⟨#[]⟩, .string ⟨#[]⟩, .string ⟨#[]⟩, .string ⟨#[]⟩] 177)) w.heap.size) := (ores_new w _).ext ((Ext.refl _).alloc _)
  generalize (w.alloc (.cells #[.int .i64 0, .string ⟨#[]⟩, .int .i64 0, .int .i64 0, .bool false, .bool false] 49)).alloc (.cells #[.string ⟨#[]⟩, .string ⟨#[]⟩, .string ⟨#[]⟩, .string ⟨#[]⟩, .string ⟨#[]⟩] 177) = w1 at *
  go_region_with (go_at_call 123; refine (HS.out _).mono ?_; rintro e w2 ⟨cap, rfl, hc3, hc5, hq, hb⟩; have X2 : Hid (Ext w1 w2) := (by first | exact (((Ext.refl _).drew).trans hb) | exact hb); have hcp := copyWords w2 (w.heap.size + 1) w1.heap.size cap ps hn (F1.out.ext X2.out) hq; obtain ⟨w3, hcopy, hW3, hX3, hC3, hF3, hS3⟩ := hcp; have E3 : Hid (Ext w w3) := hX3 w (by omega) (E1.out.trans X2.out); have F3 : Hid (WArr w3 (w.heap.size + 1) (ps.getD 0 ⟨#[]⟩) (ps.getD 1 ⟨#[]⟩) (ps.getD 2 ⟨#[]⟩) (ps.getD 3 ⟨#[]⟩) (ps.getD 4 ⟨#[]⟩)) := hW3; have G3 : Hid (ORes w3 w.heap.size) := (G1.out.ext X2.out).other (by omega) hC3 hF3 hS3; clear hb X2 hW3 hX3 hC3 hF3 hS3 hq)
  generalize ps.getD 0 ⟨#[]⟩ = p0 at *
  generalize ps.getD 1 ⟨#[]⟩ = p1 at *
  generalize ps.getD 2 ⟨#[]⟩ = p2 at *
  generalize ps.getD 3 ⟨#[]⟩ = p3 at *
  generalize ps.getD 4 ⟨#[]⟩ = p4 at *
  have HK : Hid (∀ wx : World, Calls Tryz.prog 124 #[.string p0] wx fun e w' => e = .returned (.int .i64 (Opr.kindW p0.data.toList)) ∧ Ext wx w') := kindOfWord_any p0
  clear hcopy HS E1 F1 G1 hc3 hc5
  obtain ⟨b3, ⟨a0, a1, a2, a3, a4⟩, -, -, -, -, -⟩ := F3.out
  go_wp2
  obtain ⟨kd, hkd⟩ : ∃ kd, kd = Opr.kindW p0.data.toList := ⟨_, rfl⟩
  have HKd : Hid (kd = Opr.kindW p0.data.toList) := hkd
  rw [← hkd] at HK
  clear hkd
  obtain ⟨wb, hwb⟩ : ∃ wb, wb = w.heap.size + 1 := ⟨_, rfl⟩
  have HWb : Hid (wb = w.heap.size + 1) := hwb
  rw [← hwb] at b3 a0 a1 a2 a3 a4 F3 ⊢
  clear hwb
  have hwbn : w.heap.size ≤ wb := by have := HWb.out; omega
  have hwlt : w.heap.size ≤ w3.heap.size := E3.out.size
  have hal := alloc_cell
  refine Code.wp_mono (Q := OnlyN fun a W => ∃ ob : Nat, a = { tmps := #[.string s, undef, .pointer (some ⟨w.heap.size, 0, none⟩), .pointer (some ⟨wb, 0, none⟩), .pointer (some ⟨ob, 0, none⟩), .slice (some ⟨wb, 0, none⟩) 5 5, .string s, .slice (some ⟨w1.heap.size, 0, none⟩) ps.length cap, .int .i64 ps.length, .pointer (some ⟨wb, 0, none⟩), .string p0, .int .i64 kd, .pointer (some ⟨wb, 1, none⟩), .string p1, .agg #[.int .i64 kd, .string p1, .int .i64 0, .int .i64 0, .bool false, .bool false], undef, undef, undef, undef, undef, undef, undef, undef, undef, undef, undef, undef, undef, undef, undef, undef, undef, undef, undef, undef, undef, undef, undef, undef, undef, undef, undef, undef, undef, undef, undef, undef], defers := [] } ∧ w.heap.size ≤ ob ∧ ob ≠ wb ∧ ob ≠ w.heap.size ∧ Ext w W ∧ WArr W wb p0 p1 p2 p3 p4 ∧ ORes W w.heap.size ∧ OWr W ob ⟨kd, p1, 0, 0, false, false⟩) ?_ ?_
  rotate_left
  · go_region_with (go_at_call 124; refine (HK.out _).mono ?_; rintro e w4 ⟨rfl, hb⟩; have X4 : Hid (Ext w3 w4) := (by first | exact (((Ext.refl _).drew).trans hb) | exact hb | exact ((((Ext.refl _).drew).alloc _).trans hb) | exact (((Ext.refl _).alloc _).trans hb)); (first | (have B4 : Hid (OWr w4 w3.heap.size ⟨0, ⟨#[]⟩, 0, 0, false, false⟩) := (owr_new w3.drew ⟨0, ⟨#[]⟩, 0, 0, false, false⟩ _).ext hb) | (have B4 : Hid (OWr w4 w3.heap.size ⟨0, ⟨#[]⟩, 0, 0, false, false⟩) := (owr_new w3 ⟨0, ⟨#[]⟩, 0, 0, false, false⟩ _).ext hb) | (have B4 := trivial)); have e1 := (F3.out.ext X4.out).2.1.2.1; have b4 := (F3.out.ext X4.out).1; have x4 := X4.out.size; (first | (obtain ⟨⟨bq, q0, q1, q2, q3, q4, q5⟩, bf⟩ := B4.out; have g0 := bf 0 (by omega); have g1 := bf 1 (by omega); have g2 := bf 2 (by omega); have g3 := bf 3 (by omega); have g4 := bf 4 (by omega); have g5 := bf 5 (by omega); clear bf) | skip); clear hb)
    all_goals
      first
        | (have tB := B4.out.1.1; exact ⟨w3.heap.size, rfl, put6_tail (W := w4) (ob := w3.heap.size) ⟨kd, p1, 0, 0, false, false⟩ (by omega) (by have := b3; omega) (by have := G3.out.1; omega) (E3.out.trans X4.out) (F3.out.ext X4.out) (G3.out.ext X4.out) B4.out⟩)
        | exact ⟨_, rfl, by omega, by omega, by omega, (E3.out.trans X4.out).alloc _, (F3.out.ext X4.out).ext ((Ext.refl _).alloc _), (G3.out.ext X4.out).ext ((Ext.refl _).alloc _), owr_new w4 ⟨kd, p1, 0, 0, false, false⟩ _⟩
  rintro e fr W hN
  obtain ⟨rfl, hN⟩ := hN.out
  obtain ⟨ob, rfl, ho1, ho2, ho3, hE4, hF4, hG4, hO4⟩ := hN
  have E4 : Hid (Ext w W) := hE4
  have F4 : Hid (WArr W wb p0 p1 p2 p3 p4) := hF4
  have G4 : Hid (ORes W w.heap.size) := hG4
  have O4 : Hid (OWr W ob ⟨kd, p1, 0, 0, false, false⟩) := hO4
  clear hE4 hF4 hG4 hO4 F3 G3 E3 HK hal a0 a1 a2 a3 a4 b3
  have hkr : 0 ≤ kd ∧ kd ≤ 8 := by rw [HKd.out]; exact Opr.kindW_range _
  have hks : kd = 0 ∨ kd = 1 ∨ kd = 2 ∨ kd = 3 ∨ kd = 4 ∨ kd = 5 ∨ kd = 6 ∨ kd = 7 ∨ kd = 8 := by omega
  clear hkr
  have HZk : Hid (∀ z, Opr.fault z = 0 → s.data.toList = Opr.text z → z.kind = kd) := fun z hf hz => Opr.back_kind hf (HZ.out z hf hz).1 HKd.out
  have HRV : Hid (∀ wx : World, Ext w wx → Calls Tryz.prog 127 #[.string p2] wx fun e w' => ∃ n : Int, e = .returned (.int .i64 n) ∧ (∀ m : Int, -1 ≤ m → m ≤ 999 → p2.data.toList = Opr.verT m → n = m) ∧ Ext wx w') := fun wx he => readVersion_any p2 wx z2 (HEs.out.ext he)
  have HRN : Hid (∀ wx : World, Ext w wx → Calls Tryz.prog 125 #[.string p2] wx fun e w' => ∃ n : Int, e = .returned (.int .i64 n) ∧ (∀ m : Int, 0 ≤ m → m ≤ 99999 → p2.data.toList = Lib.itoa m → n = m) ∧ Ext wx w') := fun wx he => readNumber_any p2 wx z2 (HEs.out.ext he)
  have HRW : Hid (∀ wx : World, Ext w wx → Calls Tryz.prog 127 #[.string p3] wx fun e w' => ∃ n : Int, e = .returned (.int .i64 n) ∧ (∀ m : Int, -1 ≤ m → m ≤ 999 → p3.data.toList = Opr.verT m → n = m) ∧ Ext wx w') := fun wx he => readVersion_any p3 wx z3 (HEs.out.ext he)
  have HCs : Hid (∀ (wx : World) (x : ByteArray), WArr wx wb p0 p1 p2 p3 p4 → Calls Tryz.prog 126 #[.slice (some ⟨wb, 3, none⟩) 2 2, .string x] wx fun e w' => e = .returned (.bool (Lib.containsS [p3, p4] x)) ∧ w' = wx) := fun wx x h => by
    refine (slices_Contains_string wb 3 2 2 [p3, p4] x wx (by simp) (by decide) ?_).mono ?_
    · intro j hj
      have hj2 : j = 0 ∨ j = 1 := by simp only [List.length_cons, List.length_nil] at hj; omega
      rcases hj2 with rfl | rfl
      · exact h.2.1.2.2.2.1
      · exact h.2.1.2.2.2.2
    · rintro e w' ⟨he, hw⟩
      exact ⟨he, hw⟩
  clear HKd HEs
  rcases hks with rfl | rfl | rfl | rfl | rfl | rfl | rfl | rfl | rfl
  · obtain ⟨⟨ol, o0, o1, o2, o3, o4, o5⟩, of⟩ := O4.out
    obtain ⟨gl, gg⟩ := G4.out
    obtain ⟨⟨u0, g0⟩, k0⟩ := gg 0 (by omega)
    obtain ⟨⟨u1, g1⟩, k1⟩ := gg 1 (by omega)
    obtain ⟨⟨u2, g2⟩, k2⟩ := gg 2 (by omega)
    obtain ⟨⟨u3, g3⟩, k3⟩ := gg 3 (by omega)
    obtain ⟨⟨u4, g4⟩, k4⟩ := gg 4 (by omega)
    obtain ⟨⟨u5, g5⟩, k5⟩ := gg 5 (by omega)
    have f0 := of 0 (by omega)
    have f1 := of 1 (by omega)
    have f2 := of 2 (by omega)
    have f3 := of 3 (by omega)
    have f4 := of 4 (by omega)
    have f5 := of 5 (by omega)
    clear of gg
    go_wp2
    exact bodyPost_ret (v := oagg ⟨0, p1, 0, 0, false, false⟩) (by simp [results, Tryz.results60, go_sem, oagg, *]) rfl ⟨⟨0, p1, 0, 0, false, false⟩, rfl, z1, (fun z hf hz => absurd (HZk.out z hf hz) (by have := Opr.fault_zero_kind hf; omega)), put6_ext ⟨0, p1, 0, 0, false, false⟩ E4.out (Nat.le_refl _)⟩
  · obtain ⟨⟨ol, o0, o1, o2, o3, o4, o5⟩, of⟩ := O4.out
    obtain ⟨gl, gg⟩ := G4.out
    obtain ⟨⟨u0, g0⟩, k0⟩ := gg 0 (by omega)
    obtain ⟨⟨u1, g1⟩, k1⟩ := gg 1 (by omega)
    obtain ⟨⟨u2, g2⟩, k2⟩ := gg 2 (by omega)
    obtain ⟨⟨u3, g3⟩, k3⟩ := gg 3 (by omega)
    obtain ⟨⟨u4, g4⟩, k4⟩ := gg 4 (by omega)
    obtain ⟨⟨u5, g5⟩, k5⟩ := gg 5 (by omega)
    have f0 := of 0 (by omega)
    have f1 := of 1 (by omega)
    have f2 := of 2 (by omega)
    have f3 := of 3 (by omega)
    have f4 := of 4 (by omega)
    have f5 := of 5 (by omega)
    clear of gg
    go_wp2
    exact bodyPost_ret (v := oagg ⟨1, p1, 0, 0, false, false⟩) (by simp [results, Tryz.results60, go_sem, oagg, *]) rfl ⟨⟨1, p1, 0, 0, false, false⟩, rfl, z1, (fun z hf hz => Opr.back_1 hf (HZk.out z hf hz) (HZ.out z hf hz).2.1), put6_ext ⟨1, p1, 0, 0, false, false⟩ E4.out (Nat.le_refl _)⟩
  · obtain ⟨⟨ol, o0, o1, o2, o3, o4, o5⟩, of⟩ := O4.out
    obtain ⟨gl, gg⟩ := G4.out
    obtain ⟨⟨u0, g0⟩, k0⟩ := gg 0 (by omega)
    obtain ⟨⟨u1, g1⟩, k1⟩ := gg 1 (by omega)
    obtain ⟨⟨u2, g2⟩, k2⟩ := gg 2 (by omega)
    obtain ⟨⟨u3, g3⟩, k3⟩ := gg 3 (by omega)
    obtain ⟨⟨u4, g4⟩, k4⟩ := gg 4 (by omega)
    obtain ⟨⟨u5, g5⟩, k5⟩ := gg 5 (by omega)
    have f0 := of 0 (by omega)
    have f1 := of 1 (by omega)
    have f2 := of 2 (by omega)
    have f3 := of 3 (by omega)
    have f4 := of 4 (by omega)
    have f5 := of 5 (by omega)
    clear of gg
    go_wp2
    exact bodyPost_ret (v := oagg ⟨2, p1, 0, 0, false, false⟩) (by simp [results, Tryz.results60, go_sem, oagg, *]) rfl ⟨⟨2, p1, 0, 0, false, false⟩, rfl, z1, (fun z hf hz => Opr.back_2 hf (HZk.out z hf hz) (HZ.out z hf hz).2.1), put6_ext ⟨2, p1, 0, 0, false, false⟩ E4.out (Nat.le_refl _)⟩
  · obtain ⟨⟨ol, o0, o1, o2, o3, o4, o5⟩, of⟩ := O4.out
    obtain ⟨gl, gg⟩ := G4.out
    obtain ⟨⟨u0, g0⟩, k0⟩ := gg 0 (by omega)
    obtain ⟨⟨u1, g1⟩, k1⟩ := gg 1 (by omega)
    obtain ⟨⟨u2, g2⟩, k2⟩ := gg 2 (by omega)
    obtain ⟨⟨u3, g3⟩, k3⟩ := gg 3 (by omega)
    obtain ⟨⟨u4, g4⟩, k4⟩ := gg 4 (by omega)
    obtain ⟨⟨u5, g5⟩, k5⟩ := gg 5 (by omega)
    have f0 := of 0 (by omega)
    have f1 := of 1 (by omega)
    have f2 := of 2 (by omega)
    have f3 := of 3 (by omega)
    have f4 := of 4 (by omega)
    have f5 := of 5 (by omega)
    clear of gg
    obtain ⟨wl, ⟨a0, a1, a2, a3, a4⟩, -, -, -, -, -⟩ := F4.out
    go_wp2_with fail
    refine (HRN.out _ E4.out).mono ?_
    rintro e W5 ⟨m, rfl, hm, hb⟩
    have HM : Hid _ := hm
    have E5 : Hid (Ext w W5) := E4.out.trans hb
    have O5 : Hid (OWr W5 ob ⟨3, p1, 0, 0, false, false⟩) := O4.out.ext hb
    have G5 : Hid (ORes W5 w.heap.size) := G4.out.ext hb
    have F5 : Hid (WArr W5 wb p0 p1 p2 p3 p4) := F4.out.ext hb
    clear hb hm
    clear ol o0 o1 o2 o3 o4 o5 f0 f1 f2 f3 f4 f5 gl g0 g1 g2 g3 g4 g5 k0 k1 k2 k3 k4 k5 wl a0 a1 a2 a3 a4 u0 u1 u2 u3 u4 u5
    have E5' : Hid (Ext w (W5.setCell ⟨ob, 2, none⟩ (.int .i64 m))) := E5.out.setCell (p := ⟨ob, 2, none⟩) ho1 _
    have O5' : Hid (OWr (W5.setCell ⟨ob, 2, none⟩ (.int .i64 m)) ob ⟨3, p1, m, 0, false, false⟩) := O5.out.data m
    have G5' : Hid (ORes (W5.setCell ⟨ob, 2, none⟩ (.int .i64 m)) w.heap.size) := G5.out.set ho3
    have F5' : Hid (WArr (W5.setCell ⟨ob, 2, none⟩ (.int .i64 m)) wb p0 p1 p2 p3 p4) := F5.out.set ho2
    obtain ⟨wl, ⟨a0, a1, a2, a3, a4⟩, -, -, -, -, -⟩ := F5.out
    obtain ⟨⟨ol, o0, o1, o2, o3, o4, o5⟩, of⟩ := O5.out
    obtain ⟨gl, gg⟩ := G5.out
    obtain ⟨⟨u0, g0⟩, k0⟩ := gg 0 (by omega)
    obtain ⟨⟨u1, g1⟩, k1⟩ := gg 1 (by omega)
    obtain ⟨⟨u2, g2⟩, k2⟩ := gg 2 (by omega)
    obtain ⟨⟨u3, g3⟩, k3⟩ := gg 3 (by omega)
    obtain ⟨⟨u4, g4⟩, k4⟩ := gg 4 (by omega)
    obtain ⟨⟨u5, g5⟩, k5⟩ := gg 5 (by omega)
    have f0 := of 0 (by omega)
    have f1 := of 1 (by omega)
    have f2 := of 2 (by omega)
    have f3 := of 3 (by omega)
    have f4 := of 4 (by omega)
    have f5 := of 5 (by omega)
    clear of gg
    go_wp2_with fail
    generalize W5.setCell ⟨ob, 2, none⟩ (.int .i64 m) = W6 at *
    refine (HCs.out W6 (mkB Opr.seqW) F5'.out).mono ?_
    rintro e W7 ⟨rfl, rfl⟩
    clear ol o0 o1 o2 o3 o4 o5 f0 f1 f2 f3 f4 f5 gl g0 g1 g2 g3 g4 g5 k0 k1 k2 k3 k4 k5 wl a0 a1 a2 a3 a4 u0 u1 u2 u3 u4 u5
    have E6' : Hid (Ext w (W7.setCell ⟨ob, 4, none⟩ (.bool (Lib.containsS [p3, p4] (mkB Opr.seqW))))) := E5'.out.setCell (p := ⟨ob, 4, none⟩) ho1 _
    have O6' : Hid (OWr (W7.setCell ⟨ob, 4, none⟩ (.bool (Lib.containsS [p3, p4] (mkB Opr.seqW)))) ob ⟨3, p1, m, 0, Lib.containsS [p3, p4] (mkB Opr.seqW), false⟩) := O5'.out.seqd _
    have G6' : Hid (ORes (W7.setCell ⟨ob, 4, none⟩ (.bool (Lib.containsS [p3, p4] (mkB Opr.seqW)))) w.heap.size) := G5'.out.set ho3
    have F6' : Hid (WArr (W7.setCell ⟨ob, 4, none⟩ (.bool (Lib.containsS [p3, p4] (mkB Opr.seqW)))) wb p0 p1 p2 p3 p4) := F5'.out.set ho2
    obtain ⟨wl, ⟨a0, a1, a2, a3, a4⟩, -, -, -, -, -⟩ := F5'.out
    obtain ⟨⟨ol, o0, o1, o2, o3, o4, o5⟩, of⟩ := O5'.out
    obtain ⟨gl, gg⟩ := G5'.out
    obtain ⟨⟨u0, g0⟩, k0⟩ := gg 0 (by omega)
    obtain ⟨⟨u1, g1⟩, k1⟩ := gg 1 (by omega)
    obtain ⟨⟨u2, g2⟩, k2⟩ := gg 2 (by omega)
    obtain ⟨⟨u3, g3⟩, k3⟩ := gg 3 (by omega)
    obtain ⟨⟨u4, g4⟩, k4⟩ := gg 4 (by omega)
    obtain ⟨⟨u5, g5⟩, k5⟩ := gg 5 (by omega)
    have f0 := of 0 (by omega)
    have f1 := of 1 (by omega)
    have f2 := of 2 (by omega)
    have f3 := of 3 (by omega)
    have f4 := of 4 (by omega)
    have f5 := of 5 (by omega)
    clear of gg
    go_wp2_with fail
    generalize W7.setCell ⟨ob, 4, none⟩ (.bool (Lib.containsS [p3, p4] (mkB Opr.seqW))) = W8 at *
    refine (HCs.out W8 (mkB Opr.ownW) F6'.out).mono ?_
    rintro e W9 ⟨rfl, rfl⟩
    clear ol o0 o1 o2 o3 o4 o5 f0 f1 f2 f3 f4 f5 gl g0 g1 g2 g3 g4 g5 k0 k1 k2 k3 k4 k5 wl a0 a1 a2 a3 a4 u0 u1 u2 u3 u4 u5
    obtain ⟨⟨ol, o0, o1, o2, o3, o4, o5⟩, of⟩ := O6'.out
    obtain ⟨gl, gg⟩ := G6'.out
    obtain ⟨⟨u0, g0⟩, k0⟩ := gg 0 (by omega)
    obtain ⟨⟨u1, g1⟩, k1⟩ := gg 1 (by omega)
    obtain ⟨⟨u2, g2⟩, k2⟩ := gg 2 (by omega)
    obtain ⟨⟨u3, g3⟩, k3⟩ := gg 3 (by omega)
    obtain ⟨⟨u4, g4⟩, k4⟩ := gg 4 (by omega)
    obtain ⟨⟨u5, g5⟩, k5⟩ := gg 5 (by omega)
    have f0 := of 0 (by omega)
    have f1 := of 1 (by omega)
    have f2 := of 2 (by omega)
    have f3 := of 3 (by omega)
    have f4 := of 4 (by omega)
    have f5 := of 5 (by omega)
    clear of gg
    go_wp2
    exact bodyPost_ret (v := oagg ⟨3, p1, m, 0, Lib.containsS [p3, p4] (mkB Opr.seqW), Lib.containsS [p3, p4] (mkB Opr.ownW)⟩) (by simp [results, Tryz.results60, go_sem, oagg, *]) rfl ⟨⟨3, p1, m, 0, Lib.containsS [p3, p4] (mkB Opr.seqW), Lib.containsS [p3, p4] (mkB Opr.ownW)⟩, rfl, z1, (fun z hf hz => Opr.back_3 hf (HZk.out z hf hz) (HZ.out z hf hz).2.1 (HZ.out z hf hz).2.2.1 (HZ.out z hf hz).2.2.2.1 (HZ.out z hf hz).2.2.2.2 HM.out), put6_ext ⟨3, p1, m, 0, Lib.containsS [p3, p4] (mkB Opr.seqW), Lib.containsS [p3, p4] (mkB Opr.ownW)⟩ (E6'.out.setCell (p := ⟨ob, 5, none⟩) ho1 (.bool (Lib.containsS [p3, p4] (mkB Opr.ownW)))) (Nat.le_refl _)⟩
  · obtain ⟨⟨ol, o0, o1, o2, o3, o4, o5⟩, of⟩ := O4.out
    obtain ⟨gl, gg⟩ := G4.out
    obtain ⟨⟨u0, g0⟩, k0⟩ := gg 0 (by omega)
    obtain ⟨⟨u1, g1⟩, k1⟩ := gg 1 (by omega)
    obtain ⟨⟨u2, g2⟩, k2⟩ := gg 2 (by omega)
    obtain ⟨⟨u3, g3⟩, k3⟩ := gg 3 (by omega)
    obtain ⟨⟨u4, g4⟩, k4⟩ := gg 4 (by omega)
    obtain ⟨⟨u5, g5⟩, k5⟩ := gg 5 (by omega)
    have f0 := of 0 (by omega)
    have f1 := of 1 (by omega)
    have f2 := of 2 (by omega)
    have f3 := of 3 (by omega)
    have f4 := of 4 (by omega)
    have f5 := of 5 (by omega)
    clear of gg
    obtain ⟨wl, ⟨a0, a1, a2, a3, a4⟩, -, -, -, -, -⟩ := F4.out
    go_wp2_with fail
    refine (HRV.out _ E4.out).mono ?_
    rintro e W5 ⟨n, rfl, hn, hb⟩
    have HN : Hid _ := hn
    have E5 : Hid (Ext w W5) := E4.out.trans hb
    have O5 : Hid (OWr W5 ob ⟨4, p1, 0, 0, false, false⟩) := O4.out.ext hb
    have G5 : Hid (ORes W5 w.heap.size) := G4.out.ext hb
    clear hb hn ol o0 o1 o2 o3 o4 o5 f0 f1 f2 f3 f4 f5 gl g0 g1 g2 g3 g4 g5 k0 k1 k2 k3 k4 k5 wl a0 a1 a2 a3 a4 u0 u1 u2 u3 u4 u5
    obtain ⟨⟨ol, o0, o1, o2, o3, o4, o5⟩, of⟩ := O5.out
    obtain ⟨gl, gg⟩ := G5.out
    obtain ⟨⟨u0, g0⟩, k0⟩ := gg 0 (by omega)
    obtain ⟨⟨u1, g1⟩, k1⟩ := gg 1 (by omega)
    obtain ⟨⟨u2, g2⟩, k2⟩ := gg 2 (by omega)
    obtain ⟨⟨u3, g3⟩, k3⟩ := gg 3 (by omega)
    obtain ⟨⟨u4, g4⟩, k4⟩ := gg 4 (by omega)
    obtain ⟨⟨u5, g5⟩, k5⟩ := gg 5 (by omega)
    have f0 := of 0 (by omega)
    have f1 := of 1 (by omega)
    have f2 := of 2 (by omega)
    have f3 := of 3 (by omega)
    have f4 := of 4 (by omega)
    have f5 := of 5 (by omega)
    clear of gg
    go_wp2
    exact bodyPost_ret (v := oagg ⟨4, p1, 0, n, false, false⟩) (by simp [results, Tryz.results60, go_sem, oagg, *]) rfl ⟨⟨4, p1, 0, n, false, false⟩, rfl, z1, (fun z hf hz => Opr.back_4 hf (HZk.out z hf hz) (HZ.out z hf hz).2.1 (HZ.out z hf hz).2.2.1 HN.out), put6_ext ⟨4, p1, 0, n, false, false⟩ (E5.out.setCell (p := ⟨ob, 3, none⟩) ho1 (.int .i64 n)) (Nat.le_refl _)⟩
  · obtain ⟨⟨ol, o0, o1, o2, o3, o4, o5⟩, of⟩ := O4.out
    obtain ⟨gl, gg⟩ := G4.out
    obtain ⟨⟨u0, g0⟩, k0⟩ := gg 0 (by omega)
    obtain ⟨⟨u1, g1⟩, k1⟩ := gg 1 (by omega)
    obtain ⟨⟨u2, g2⟩, k2⟩ := gg 2 (by omega)
    obtain ⟨⟨u3, g3⟩, k3⟩ := gg 3 (by omega)
    obtain ⟨⟨u4, g4⟩, k4⟩ := gg 4 (by omega)
    obtain ⟨⟨u5, g5⟩, k5⟩ := gg 5 (by omega)
    have f0 := of 0 (by omega)
    have f1 := of 1 (by omega)
    have f2 := of 2 (by omega)
    have f3 := of 3 (by omega)
    have f4 := of 4 (by omega)
    have f5 := of 5 (by omega)
    clear of gg
    obtain ⟨wl, ⟨a0, a1, a2, a3, a4⟩, -, -, -, -, -⟩ := F4.out
    go_wp2_with fail
    refine (HRN.out _ E4.out).mono ?_
    rintro e W5 ⟨m, rfl, hm, hb⟩
    have HM : Hid _ := hm
    have E5 : Hid (Ext w W5) := E4.out.trans hb
    have O5 : Hid (OWr W5 ob ⟨5, p1, 0, 0, false, false⟩) := O4.out.ext hb
    have G5 : Hid (ORes W5 w.heap.size) := G4.out.ext hb
    have F5 : Hid (WArr W5 wb p0 p1 p2 p3 p4) := F4.out.ext hb
    clear hb hm ol o0 o1 o2 o3 o4 o5 f0 f1 f2 f3 f4 f5 gl g0 g1 g2 g3 g4 g5 k0 k1 k2 k3 k4 k5 wl a0 a1 a2 a3 a4 u0 u1 u2 u3 u4 u5
    have E5' : Hid (Ext w (W5.setCell ⟨ob, 2, none⟩ (.int .i64 m))) := E5.out.setCell (p := ⟨ob, 2, none⟩) ho1 _
    have O5' : Hid (OWr (W5.setCell ⟨ob, 2, none⟩ (.int .i64 m)) ob ⟨5, p1, m, 0, false, false⟩) := O5.out.data m
    have G5' : Hid (ORes (W5.setCell ⟨ob, 2, none⟩ (.int .i64 m)) w.heap.size) := G5.out.set ho3
    have F5' : Hid (WArr (W5.setCell ⟨ob, 2, none⟩ (.int .i64 m)) wb p0 p1 p2 p3 p4) := F5.out.set ho2
    obtain ⟨wl, ⟨a0, a1, a2, a3, a4⟩, -, -, -, -, -⟩ := F5.out
    obtain ⟨⟨ol, o0, o1, o2, o3, o4, o5⟩, of⟩ := O5.out
    obtain ⟨gl, gg⟩ := G5.out
    obtain ⟨⟨u0, g0⟩, k0⟩ := gg 0 (by omega)
    obtain ⟨⟨u1, g1⟩, k1⟩ := gg 1 (by omega)
    obtain ⟨⟨u2, g2⟩, k2⟩ := gg 2 (by omega)
    obtain ⟨⟨u3, g3⟩, k3⟩ := gg 3 (by omega)
    obtain ⟨⟨u4, g4⟩, k4⟩ := gg 4 (by omega)
    obtain ⟨⟨u5, g5⟩, k5⟩ := gg 5 (by omega)
    have f0 := of 0 (by omega)
    have f1 := of 1 (by omega)
    have f2 := of 2 (by omega)
    have f3 := of 3 (by omega)
    have f4 := of 4 (by omega)
    have f5 := of 5 (by omega)
    clear of gg
    go_wp2_with fail
    generalize W5.setCell ⟨ob, 2, none⟩ (.int .i64 m) = W6 at *
    refine (HRW.out _ E5'.out).mono ?_
    rintro e W7 ⟨n, rfl, hn, hb⟩
    have HN : Hid _ := hn
    have E7 : Hid (Ext w W7) := E5'.out.trans hb
    have O7 : Hid (OWr W7 ob ⟨5, p1, m, 0, false, false⟩) := O5'.out.ext hb
    have G7 : Hid (ORes W7 w.heap.size) := G5'.out.ext hb
    clear hb hn ol o0 o1 o2 o3 o4 o5 f0 f1 f2 f3 f4 f5 gl g0 g1 g2 g3 g4 g5 k0 k1 k2 k3 k4 k5 wl a0 a1 a2 a3 a4 u0 u1 u2 u3 u4 u5
    obtain ⟨⟨ol, o0, o1, o2, o3, o4, o5⟩, of⟩ := O7.out
    obtain ⟨gl, gg⟩ := G7.out
    obtain ⟨⟨u0, g0⟩, k0⟩ := gg 0 (by omega)
    obtain ⟨⟨u1, g1⟩, k1⟩ := gg 1 (by omega)
    obtain ⟨⟨u2, g2⟩, k2⟩ := gg 2 (by omega)
    obtain ⟨⟨u3, g3⟩, k3⟩ := gg 3 (by omega)
    obtain ⟨⟨u4, g4⟩, k4⟩ := gg 4 (by omega)
    obtain ⟨⟨u5, g5⟩, k5⟩ := gg 5 (by omega)
    have f0 := of 0 (by omega)
    have f1 := of 1 (by omega)
    have f2 := of 2 (by omega)
    have f3 := of 3 (by omega)
    have f4 := of 4 (by omega)
    have f5 := of 5 (by omega)
    clear of gg
    go_wp2
    exact bodyPost_ret (v := oagg ⟨5, p1, m, n, false, false⟩) (by simp [results, Tryz.results60, go_sem, oagg, *]) rfl ⟨⟨5, p1, m, n, false, false⟩, rfl, z1, (fun z hf hz => Opr.back_5 hf (HZk.out z hf hz) (HZ.out z hf hz).2.1 (HZ.out z hf hz).2.2.1 (HZ.out z hf hz).2.2.2.1 HM.out HN.out), put6_ext ⟨5, p1, m, n, false, false⟩ (E7.out.setCell (p := ⟨ob, 3, none⟩) ho1 (.int .i64 n)) (Nat.le_refl _)⟩
  · obtain ⟨⟨ol, o0, o1, o2, o3, o4, o5⟩, of⟩ := O4.out
    obtain ⟨gl, gg⟩ := G4.out
    obtain ⟨⟨u0, g0⟩, k0⟩ := gg 0 (by omega)
    obtain ⟨⟨u1, g1⟩, k1⟩ := gg 1 (by omega)
    obtain ⟨⟨u2, g2⟩, k2⟩ := gg 2 (by omega)
    obtain ⟨⟨u3, g3⟩, k3⟩ := gg 3 (by omega)
    obtain ⟨⟨u4, g4⟩, k4⟩ := gg 4 (by omega)
    obtain ⟨⟨u5, g5⟩, k5⟩ := gg 5 (by omega)
    have f0 := of 0 (by omega)
    have f1 := of 1 (by omega)
    have f2 := of 2 (by omega)
    have f3 := of 3 (by omega)
    have f4 := of 4 (by omega)
    have f5 := of 5 (by omega)
    clear of gg
    go_wp2
    exact bodyPost_ret (v := oagg ⟨6, p1, 0, 0, false, false⟩) (by simp [results, Tryz.results60, go_sem, oagg, *]) rfl ⟨⟨6, p1, 0, 0, false, false⟩, rfl, z1, (fun z hf hz => Opr.back_6 hf (HZk.out z hf hz) (HZ.out z hf hz).2.1), put6_ext ⟨6, p1, 0, 0, false, false⟩ E4.out (Nat.le_refl _)⟩
  · obtain ⟨⟨ol, o0, o1, o2, o3, o4, o5⟩, of⟩ := O4.out
    obtain ⟨gl, gg⟩ := G4.out
    obtain ⟨⟨u0, g0⟩, k0⟩ := gg 0 (by omega)
    obtain ⟨⟨u1, g1⟩, k1⟩ := gg 1 (by omega)
    obtain ⟨⟨u2, g2⟩, k2⟩ := gg 2 (by omega)
    obtain ⟨⟨u3, g3⟩, k3⟩ := gg 3 (by omega)
    obtain ⟨⟨u4, g4⟩, k4⟩ := gg 4 (by omega)
    obtain ⟨⟨u5, g5⟩, k5⟩ := gg 5 (by omega)
    have f0 := of 0 (by omega)
    have f1 := of 1 (by omega)
    have f2 := of 2 (by omega)
    have f3 := of 3 (by omega)
    have f4 := of 4 (by omega)
    have f5 := of 5 (by omega)
    clear of gg
    go_wp2
    exact bodyPost_ret (v := oagg ⟨7, p1, 0, 0, false, false⟩) (by simp [results, Tryz.results60, go_sem, oagg, *]) rfl ⟨⟨7, p1, 0, 0, false, false⟩, rfl, z1, (fun z hf hz => Opr.back_7 hf (HZk.out z hf hz) (HZ.out z hf hz).2.1), put6_ext ⟨7, p1, 0, 0, false, false⟩ E4.out (Nat.le_refl _)⟩
  · obtain ⟨⟨ol, o0, o1, o2, o3, o4, o5⟩, of⟩ := O4.out
    obtain ⟨gl, gg⟩ := G4.out
    obtain ⟨⟨u0, g0⟩, k0⟩ := gg 0 (by omega)
    obtain ⟨⟨u1, g1⟩, k1⟩ := gg 1 (by omega)
    obtain ⟨⟨u2, g2⟩, k2⟩ := gg 2 (by omega)
    obtain ⟨⟨u3, g3⟩, k3⟩ := gg 3 (by omega)
    obtain ⟨⟨u4, g4⟩, k4⟩ := gg 4 (by omega)
    obtain ⟨⟨u5, g5⟩, k5⟩ := gg 5 (by omega)
    have f0 := of 0 (by omega)
    have f1 := of 1 (by omega)
    have f2 := of 2 (by omega)
    have f3 := of 3 (by omega)
    have f4 := of 4 (by omega)
    have f5 := of 5 (by omega)
    clear of gg
    obtain ⟨wl, ⟨a0, a1, a2, a3, a4⟩, -, -, -, -, -⟩ := F4.out
    go_wp2_with fail
    refine (HRV.out _ E4.out).mono ?_
    rintro e W5 ⟨n, rfl, hn, hb⟩
    have HN : Hid _ := hn
    have E5 : Hid (Ext w W5) := E4.out.trans hb
    have O5 : Hid (OWr W5 ob ⟨8, p1, 0, 0, false, false⟩) := O4.out.ext hb
    have G5 : Hid (ORes W5 w.heap.size) := G4.out.ext hb
    clear hb hn ol o0 o1 o2 o3 o4 o5 f0 f1 f2 f3 f4 f5 gl g0 g1 g2 g3 g4 g5 k0 k1 k2 k3 k4 k5 wl a0 a1 a2 a3 a4 u0 u1 u2 u3 u4 u5
    obtain ⟨⟨ol, o0, o1, o2, o3, o4, o5⟩, of⟩ := O5.out
    obtain ⟨gl, gg⟩ := G5.out
    obtain ⟨⟨u0, g0⟩, k0⟩ := gg 0 (by omega)
    obtain ⟨⟨u1, g1⟩, k1⟩ := gg 1 (by omega)
    obtain ⟨⟨u2, g2⟩, k2⟩ := gg 2 (by omega)
    obtain ⟨⟨u3, g3⟩, k3⟩ := gg 3 (by omega)
    obtain ⟨⟨u4, g4⟩, k4⟩ := gg 4 (by omega)
    obtain ⟨⟨u5, g5⟩, k5⟩ := gg 5 (by omega)
    have f0 := of 0 (by omega)
    have f1 := of 1 (by omega)
    have f2 := of 2 (by omega)
    have f3 := of 3 (by omega)
    have f4 := of 4 (by omega)
    have f5 := of 5 (by omega)
    clear of gg
    go_wp2
    exact bodyPost_ret (v := oagg ⟨8, p1, 0, n, false, false⟩) (by simp [results, Tryz.results60, go_sem, oagg, *]) rfl ⟨⟨8, p1, 0, n, false, false⟩, rfl, z1, (fun z hf hz => Opr.back_8 hf (HZk.out z hf hz) (HZ.out z hf hz).2.1 (HZ.out z hf hz).2.2.1 HN.out), put6_ext ⟨8, p1, 0, n, false, false⟩ (E5.out.setCell (p := ⟨ob, 3, none⟩) ho1 (.int .i64 n)) (Nat.le_refl _)⟩
end Go.Proofs.YtdjnkchaapcjpaaGreatDoor
