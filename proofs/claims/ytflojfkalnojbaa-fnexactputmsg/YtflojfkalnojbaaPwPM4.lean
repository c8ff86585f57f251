/- a ledger in memory of its own, its blocks told: what a mark turns. -/
import Derived.Test.YtflojfkalnojbaaPwPM3
import Derived.Test.YtflojfkalnojbaaPwG2
namespace Go.Proofs.Ytflojfkalnojbaa
open Go.RowKit
namespace Led
/-- Messages M 0, .. lie in block G, the lists of the i-th in the blocks g i and h i. -/
def LAt (w : World) (G n : Nat) (X Y : Nat → Value) (g h : Nat → Nat) (M : Nat → Ms) : Prop :=
  (0 < n → MRoom w G 0 n) ∧ ∀ i, i < n → MCs w G (i * 7) (M i) (X i) (Y i) ∧ CtOwn w (X i) (g i) (M i).certs ∧ IOwn w (Y i) (h i) (M i).refs
/-- No two of these lie in one block; all lie from lo to hi. -/
def Apart (lo hi G n : Nat) (g h : Nat → Nat) (M : Nat → Ms) : Prop :=
  (0 < n → lo ≤ G ∧ G < hi) ∧ ∀ i, i < n → (0 < (M i).certs.length → lo ≤ g i ∧ g i < hi ∧ g i ≠ G ∧ ∀ j, j < n → (0 < (M j).refs.length → g i ≠ h j) ∧ (i ≠ j → 0 < (M j).certs.length → g i ≠ g j)) ∧ (0 < (M i).refs.length → lo ≤ h i ∧ h i < hi ∧ h i ≠ G ∧ ∀ j, j < n → i ≠ j → 0 < (M j).refs.length → h i ≠ h j)
theorem LAt.congr {w : World} {G n : Nat} {X Y : Nat → Value} {g h : Nat → Nat} {M M' : Nat → Ms} (hL : LAt w G n X Y g h M) (he : ∀ i, i < n → M i = M' i) : LAt w G n X Y g h M' := ⟨hL.1, fun i hi => by rw [← he i hi]; exact hL.2 i hi⟩
theorem LAt.ext {w w' : World} {G n : Nat} {X Y : Nat → Value} {g h : Nat → Nat} {M : Nat → Ms} (hL : LAt w G n X Y g h M) (he : Ext w w') : LAt w' G n X Y g h M :=
  ⟨fun h0 => (hL.1 h0).ext he, fun i hi => ⟨(hL.2 i hi).1.ext (hL.1 (by omega)).1 he, (hL.2 i hi).2.1.ext he, (hL.2 i hi).2.2.ext he⟩⟩
theorem mroom_upd {w w' : World} {G off n b : Nat} (h : MRoom w G off n) (he : Upd b w w') (hne : G ≠ b) : MRoom w' G off n :=
  ⟨Nat.lt_of_lt_of_le h.1 he.2.1, fun j hj => ⟨by rw [(he.at_ne _ _ hne h.1).1]; exact (h.2 j hj).1, by rw [(he.at_ne _ _ hne h.1).2]; exact (h.2 j hj).2⟩⟩
theorem mcs_upd {w w' : World} {G o b : Nat} {m : Ms} {x y : Value} (h : MCs w G o m x y) (he : Upd b w w') (hne : G ≠ b) (hl : G < w.heap.size) : MCs w' G o m x y := by
  obtain ⟨c0, c1, c2, c3, c4, c5, c6⟩ := h
  have e := fun k => (he.at_ne G k hne hl).1
  exact ⟨(e _).trans c0, (e _).trans c1, (e _).trans c2, (e _).trans c3, (e _).trans c4, (e _).trans c5, (e _).trans c6⟩
theorem LAt.updR {lo hi : Nat} {w w' : World} {G n : Nat} {X Y : Nat → Value} {g h : Nat → Nat} {M : Nat → Ms} {lo' hi' : Nat} (hL : LAt w G n X Y g h M) (hA : Apart lo' hi' G n g h M) (he : UpdR lo hi w w') (hd : hi' ≤ lo ∨ hi ≤ lo') : LAt w' G n X Y g h M := by
  refine ⟨fun h0 => ?_, fun i hi0 => ?_⟩
  · have hr := hL.1 h0
    have hG := hA.1 h0
    have e := fun k => he.at_ne G k (by omega) hr.1
    exact ⟨Nat.lt_of_lt_of_le hr.1 he.2.1, fun j hj => ⟨by rw [(e _).1]; exact (hr.2 j hj).1, by rw [(e _).2]; exact (hr.2 j hj).2⟩⟩
  · have hr := hL.1 (by omega)
    have hG := hA.1 (by omega)
    obtain ⟨⟨c0, c1, c2, c3, c4, c5, c6⟩, hC, hI⟩ := hL.2 i hi0
    have e := fun k => (he.at_ne G k (by omega) hr.1).1
    exact ⟨⟨(e _).trans c0, (e _).trans c1, (e _).trans c2, (e _).trans c3, (e _).trans c4, (e _).trans c5, (e _).trans c6⟩, hC.updR he (fun h0 => by have := (hA.2 i hi0).1 h0; omega), hI.updR he (fun h0 => by have := (hA.2 i hi0).2 h0; omega)⟩
def put5 (m : Ms) (k : Nat) : Ms := ⟨(k : Int), (k : Int) + 1, (k : Int) + 1 + 1, (k : Int) + 1 + 1 + 1, (k : Int) + 1 + 1 + 1 + 1, m.certs, m.refs⟩
def mk5 (w : World) (G o k : Nat) : World := five w G o (.int .i64 (k : Int)) (.int .i64 ((k : Int) + 1)) (.int .i64 ((k : Int) + 1 + 1)) (.int .i64 ((k : Int) + 1 + 1 + 1)) (.int .i64 ((k : Int) + 1 + 1 + 1 + 1))
theorem five_ne (w : World) (G o b q : Nat) (x0 x1 x2 x3 x4 : Value) (h : G ≠ b ∨ q < o ∨ o + 5 ≤ q) : (five w G o x0 x1 x2 x3 x4).cell? ⟨b, q, none⟩ = w.cell? ⟨b, q, none⟩ := by
  unfold five
  rw [iset_ne _ _ _ _ _ _ (by omega), iset_ne _ _ _ _ _ _ (by omega), iset_ne _ _ _ _ _ _ (by omega), iset_ne _ _ _ _ _ _ (by omega), iset_ne _ _ _ _ _ _ (by omega)]
theorem five_eq (w : World) (G o : Nat) (x0 x1 x2 x3 x4 : Value) (h : ∀ j, j < 5 → ∃ u, w.cell? ⟨G, o + j, none⟩ = some u) : (five w G o x0 x1 x2 x3 x4).cell? ⟨G, o, none⟩ = some x0 ∧ (five w G o x0 x1 x2 x3 x4).cell? ⟨G, o + 1, none⟩ = some x1 ∧ (five w G o x0 x1 x2 x3 x4).cell? ⟨G, o + 2, none⟩ = some x2 ∧ (five w G o x0 x1 x2 x3 x4).cell? ⟨G, o + 3, none⟩ = some x3 ∧ (five w G o x0 x1 x2 x3 x4).cell? ⟨G, o + 4, none⟩ = some x4 := by
  have h0 : ∃ u, w.cell? ⟨G, o, none⟩ = some u := h 0 (by omega)
  have h1 := h 1 (by omega)
  have h2 := h 2 (by omega)
  have h3 := h 3 (by omega)
  have h4 := h 4 (by omega)
  unfold five
  refine ⟨?_, ?_, ?_, ?_, ?_⟩
  · rw [iset_ne _ _ _ _ _ _ (by omega), iset_ne _ _ _ _ _ _ (by omega), iset_ne _ _ _ _ _ _ (by omega), iset_ne _ _ _ _ _ _ (by omega)]; exact iset_eq _ _ _ _ h0
  · rw [iset_ne _ _ _ _ _ _ (by omega), iset_ne _ _ _ _ _ _ (by omega), iset_ne _ _ _ _ _ _ (by omega)]; exact iset_eq _ _ _ _ (by rw [iset_ne _ _ _ _ _ _ (by omega)]; exact h1)
  · rw [iset_ne _ _ _ _ _ _ (by omega), iset_ne _ _ _ _ _ _ (by omega)]; exact iset_eq _ _ _ _ (by rw [iset_ne _ _ _ _ _ _ (by omega), iset_ne _ _ _ _ _ _ (by omega)]; exact h2)
  · rw [iset_ne _ _ _ _ _ _ (by omega)]; exact iset_eq _ _ _ _ (by rw [iset_ne _ _ _ _ _ _ (by omega), iset_ne _ _ _ _ _ _ (by omega), iset_ne _ _ _ _ _ _ (by omega)]; exact h3)
  · exact iset_eq _ _ _ _ (by rw [iset_ne _ _ _ _ _ _ (by omega), iset_ne _ _ _ _ _ _ (by omega), iset_ne _ _ _ _ _ _ (by omega), iset_ne _ _ _ _ _ _ (by omega)]; exact h4)
theorem five_frozen (w : World) (G o : Nat) (x0 x1 x2 x3 x4 : Value) (a : Addr) : (five w G o x0 x1 x2 x3 x4).frozen? a = w.frozen? a := by unfold five; simp
theorem five_size (w : World) (G o : Nat) (x0 x1 x2 x3 x4 : Value) : (five w G o x0 x1 x2 x3 x4).heap.size = w.heap.size := by unfold five; simp
def setM (M : Nat → Ms) (j : Nat) (m : Ms) : Nat → Ms := fun i => if i = j then m else M i
theorem setM_eq (M : Nat → Ms) (j : Nat) (m : Ms) : setM M j m j = m := if_pos rfl
theorem setM_ne {M : Nat → Ms} {i j : Nat} {m : Ms} (h : i ≠ j) : setM M j m i = M i := if_neg h
/-- The five numbers of the j-th are marked. -/
theorem LAt.mk5 {lo hi : Nat} {w : World} {G n : Nat} {X Y : Nat → Value} {g h : Nat → Nat} {M : Nat → Ms} (hL : LAt w G n X Y g h M) (hA : Apart lo hi G n g h M) (j k : Nat) (hj : j < n) : LAt (mk5 w G (j * 7) k) G n X Y g h (setM M j (put5 (M j) k)) := by
  have hr := hL.1 (by omega)
  have hu : Upd G w (Led.mk5 w G (j * 7) k) := five_upd _ _ _ _ _ _ _ _
  refine ⟨fun _ => ⟨by unfold Led.mk5; rw [five_size]; exact hr.1, fun q hq => ⟨?_, by unfold Led.mk5; rw [five_frozen]; exact (hr.2 q hq).2⟩⟩, fun i hi => ?_⟩
  · have h5 := five_eq w G (j * 7) (.int .i64 (k : Int)) (.int .i64 ((k : Int) + 1)) (.int .i64 ((k : Int) + 1 + 1)) (.int .i64 ((k : Int) + 1 + 1 + 1)) (.int .i64 ((k : Int) + 1 + 1 + 1 + 1)) (fun t ht => by have := (hr.2 (j * 7 + t) (by omega)).1; rw [Nat.zero_add] at this; exact this)
    rw [Nat.zero_add]
    by_cases hin : q < j * 7 ∨ j * 7 + 5 ≤ q
    · unfold Led.mk5
      rw [five_ne _ _ _ _ _ _ _ _ _ _ (Or.inr hin)]
      have := (hr.2 q hq).1
      rw [Nat.zero_add] at this
      exact this
    · obtain ⟨t, rfl⟩ : ∃ t, q = j * 7 + t := ⟨q - j * 7, by omega⟩
      have ht : t = 0 ∨ t = 1 ∨ t = 2 ∨ t = 3 ∨ t = 4 := by omega
      rcases ht with rfl | rfl | rfl | rfl | rfl
      · exact ⟨_, h5.1⟩
      · exact ⟨_, h5.2.1⟩
      · exact ⟨_, h5.2.2.1⟩
      · exact ⟨_, h5.2.2.2.1⟩
      · exact ⟨_, h5.2.2.2.2⟩
  · obtain ⟨⟨c0, c1, c2, c3, c4, c5, c6⟩, hC, hI⟩ := hL.2 i hi
    by_cases hij : i = j
    · subst hij
      rw [setM_eq]
      have h5 := five_eq w G (i * 7) (.int .i64 (k : Int)) (.int .i64 ((k : Int) + 1)) (.int .i64 ((k : Int) + 1 + 1)) (.int .i64 ((k : Int) + 1 + 1 + 1)) (.int .i64 ((k : Int) + 1 + 1 + 1 + 1)) (fun t ht => by have := (hr.2 (i * 7 + t) (by omega)).1; rw [Nat.zero_add] at this; exact this)
      exact ⟨⟨h5.1, h5.2.1, h5.2.2.1, h5.2.2.2.1, h5.2.2.2.2, (five_ne _ _ _ _ _ _ _ _ _ _ (by omega)).trans c5, (five_ne _ _ _ _ _ _ _ _ _ _ (by omega)).trans c6⟩, hC.upd' hu (fun h0 => ((hA.2 i hi).1 h0).2.2.1), hI.upd' hu (fun h0 => ((hA.2 i hi).2 h0).2.2.1)⟩
    · rw [setM_ne hij]
      have e := fun q (hq : q < 7) => (five_ne w G (j * 7) G (i * 7 + q) (.int .i64 (k : Int)) (.int .i64 ((k : Int) + 1)) (.int .i64 ((k : Int) + 1 + 1)) (.int .i64 ((k : Int) + 1 + 1 + 1)) (.int .i64 ((k : Int) + 1 + 1 + 1 + 1)) (by omega))
      exact ⟨⟨(e 0 (by omega)).trans c0, (e 1 (by omega)).trans c1, (e 2 (by omega)).trans c2, (e 3 (by omega)).trans c3, (e 4 (by omega)).trans c4, (e 5 (by omega)).trans c5, (e 6 (by omega)).trans c6⟩, hC.upd' hu (fun h0 => ((hA.2 i hi).1 h0).2.2.1), hI.upd' hu (fun h0 => ((hA.2 i hi).2 h0).2.2.1)⟩
/-- The certificates of the j-th have turned, nothing else. -/
theorem LAt.certs {lo hi : Nat} {w w' : World} {G n : Nat} {X Y : Nat → Value} {g h : Nat → Nat} {M : Nat → Ms} {j b : Nat} {cs : List Ct} (hL : LAt w G n X Y g h M) (hA : Apart lo hi G n g h M) (hj : j < n) (hu : Upd b w w') (hb : 0 < (M j).certs.length ∧ b = g j ∨ ¬ 0 < (M j).certs.length ∧ w.heap.size ≤ b) (hC : CtOwn w' (X j) b cs) (hl : cs.length = (M j).certs.length) : LAt w' G n X Y g h (setM M j { M j with certs := cs }) := by
  have hr := hL.1 (by omega)
  have hG : G ≠ b := by
    rcases hb with ⟨h0, rfl⟩ | ⟨_, h1⟩
    · exact Ne.symm ((hA.2 j hj).1 h0).2.2.1
    · have := hr.1; omega
  refine ⟨fun _ => mroom_upd hr hu hG, fun i hi => ?_⟩
  obtain ⟨hm, hCi, hIi⟩ := hL.2 i hi
  have hI' : IOwn w' (Y i) (h i) (M i).refs := hIi.upd' hu (fun h0 => by
    rcases hb with ⟨h1, rfl⟩ | ⟨_, h1⟩
    · exact Ne.symm ((((hA.2 j hj).1 h1).2.2.2 i hi).1 h0)
    · have := hIi.lt h0; omega)
  by_cases hij : i = j
  · subst hij
    rw [setM_eq]
    refine ⟨mcs_upd hm hu hG hr.1, ?_, hI'⟩
    by_cases h0 : 0 < (M i).certs.length
    · rcases hb with ⟨_, rfl⟩ | ⟨h1, _⟩
      · exact hC
      · exact absurd h0 h1
    · exact hC.nil (by omega)
  · rw [setM_ne hij]
    refine ⟨mcs_upd hm hu hG hr.1, hCi.upd' hu (fun h0 => ?_), hI'⟩
    rcases hb with ⟨h1, rfl⟩ | ⟨_, h1⟩
    · exact Ne.symm ((((hA.2 j hj).1 h1).2.2.2 i hi).2 (Ne.symm hij) h0)
    · have := hCi.lt h0; omega
/-- The numbers of the j-th have turned, nothing else. -/
theorem LAt.refs {lo hi : Nat} {w w' : World} {G n : Nat} {X Y : Nat → Value} {g h : Nat → Nat} {M : Nat → Ms} {j b : Nat} {rs : List Int} (hL : LAt w G n X Y g h M) (hA : Apart lo hi G n g h M) (hj : j < n) (hu : Upd b w w') (hb : 0 < (M j).refs.length ∧ b = h j ∨ ¬ 0 < (M j).refs.length ∧ w.heap.size ≤ b) (hI : IOwn w' (Y j) b rs) (hl : rs.length = (M j).refs.length) : LAt w' G n X Y g h (setM M j { M j with refs := rs }) := by
  have hr := hL.1 (by omega)
  have hG : G ≠ b := by
    rcases hb with ⟨h0, rfl⟩ | ⟨_, h1⟩
    · exact Ne.symm ((hA.2 j hj).2 h0).2.2.1
    · have := hr.1; omega
  refine ⟨fun _ => mroom_upd hr hu hG, fun i hi => ?_⟩
  obtain ⟨hm, hCi, hIi⟩ := hL.2 i hi
  have hC' : CtOwn w' (X i) (g i) (M i).certs := hCi.upd' hu (fun h0 => by
    rcases hb with ⟨h1, rfl⟩ | ⟨_, h1⟩
    · exact (((hA.2 i hi).1 h0).2.2.2 j hj).1 h1
    · have := hCi.lt h0; omega)
  by_cases hij : i = j
  · subst hij
    rw [setM_eq]
    refine ⟨mcs_upd hm hu hG hr.1, hC', ?_⟩
    by_cases h0 : 0 < (M i).refs.length
    · rcases hb with ⟨_, rfl⟩ | ⟨h1, _⟩
      · exact hI
      · exact absurd h0 h1
    · exact hI.nil (by omega)
  · rw [setM_ne hij]
    refine ⟨mcs_upd hm hu hG hr.1, hC', hIi.upd' hu (fun h0 => ?_)⟩
    rcases hb with ⟨h1, rfl⟩ | ⟨_, h1⟩
    · exact Ne.symm (((hA.2 j hj).2 h1).2.2.2 i hi (Ne.symm hij) h0)
    · have := hIi.lt h0; omega
theorem Apart.same {lo hi G n : Nat} {g h : Nat → Nat} {M M' : Nat → Ms} (hA : Apart lo hi G n g h M) (he : ∀ i, i < n → (M' i).certs.length = (M i).certs.length ∧ (M' i).refs.length = (M i).refs.length) : Apart lo hi G n g h M' := by
  refine ⟨hA.1, fun i hi => ?_⟩
  rw [(he i hi).1, (he i hi).2]
  refine ⟨fun h0 => ?_, fun h0 => ?_⟩
  · obtain ⟨a1, a2, a3, a4⟩ := (hA.2 i hi).1 h0
    exact ⟨a1, a2, a3, fun j hj => ⟨fun h1 => (a4 j hj).1 (by rw [← (he j hj).2]; exact h1), fun hn h1 => (a4 j hj).2 hn (by rw [← (he j hj).1]; exact h1)⟩⟩
  · obtain ⟨a1, a2, a3, a4⟩ := (hA.2 i hi).2 h0
    exact ⟨a1, a2, a3, fun j hj hn h1 => a4 j hj hn (by rw [← (he j hj).2]; exact h1)⟩
theorem UpdR.big {lo hi b : Nat} {w w' : World} (h : Upd b w w') (hb : w.heap.size ≤ b) (hlo : lo ≤ w.heap.size) : UpdR lo hi w w' :=
  ⟨Below.mono h.1 (by omega), h.2.1, fun c o hc hl => by have e := h.at_ne c o (by omega) hl; exact e⟩
end Led
end Go.Proofs.Ytflojfkalnojbaa
