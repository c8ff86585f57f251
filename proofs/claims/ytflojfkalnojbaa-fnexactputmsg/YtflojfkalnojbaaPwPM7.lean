/- a LedgerResult in memory of its own: what its law leans on. -/
import Derived.Test.YtflojfkalnojbaaPwPM6
import Derived.Test.YtflojfkalnojbaaPwG2
namespace Go.Proofs.Ytflojfkalnojbaa
open Go.RowKit
namespace Led
/-- The slice v reads as the messages rs, in memory of its own: blocks from g.1 to g.2. -/
def LOwn (W : World) (v : Value) (g : Nat × Nat) (rs : List Ms) : Prop :=
  ∃ a cap, v = .slice a rs.length cap ∧ rs.length ≤ cap ∧ cap ≤ maxLen ∧ (g.1 ≤ g.2 ∧ g.2 ≤ W.heap.size) ∧ ∃ G X Y gs hs M, (0 < rs.length → a = some ⟨G, 0, none⟩) ∧ LAt W G rs.length X Y gs hs M ∧ Apart g.1 g.2 G rs.length gs hs M ∧ ∀ (i : Nat) m, rs[i]? = some m → M i = m
theorem LOwn.hi {W : World} {v : Value} {g : Nat × Nat} {rs : List Ms} (h : LOwn W v g rs) : g.2 ≤ W.heap.size := by
  obtain ⟨a, cap, -, -, -, h4, -⟩ := h
  exact h4.2
theorem LOwn.lo {W : World} {v : Value} {g : Nat × Nat} {rs : List Ms} (h : LOwn W v g rs) : g.1 ≤ W.heap.size := by
  obtain ⟨a, cap, -, -, -, h4, -⟩ := h
  omega
theorem LOwn.ext {W W' : World} {v : Value} {g : Nat × Nat} {rs : List Ms} (h : LOwn W v g rs) (he : Ext W W') : LOwn W' v g rs := by
  obtain ⟨a, cap, h1, h2, h3, h4, G, X, Y, gs, hs, M, h5, h6, h7, h8⟩ := h
  exact ⟨a, cap, h1, h2, h3, ⟨h4.1, Nat.le_trans h4.2 he.size⟩, G, X, Y, gs, hs, M, h5, h6.ext he, h7, h8⟩
theorem LOwn.updR {lo hi : Nat} {W W' : World} {v : Value} {g : Nat × Nat} {rs : List Ms} (h : LOwn W v g rs) (he : UpdR lo hi W W') (hd : g.2 ≤ lo ∨ hi ≤ g.1) : LOwn W' v g rs := by
  obtain ⟨a, cap, h1, h2, h3, h4, G, X, Y, gs, hs, M, h5, h6, h7, h8⟩ := h
  exact ⟨a, cap, h1, h2, h3, ⟨h4.1, Nat.le_trans h4.2 he.2.1⟩, G, X, Y, gs, hs, M, h5, h6.updR h7 he hd, h7, h8⟩
theorem LOwn.slice {W : World} {v : Value} {g : Nat × Nat} {rs : List Ms} (h : LOwn W v g rs) : MSlice W v rs := by
  obtain ⟨a, cap, h1, h2, h3, h4, G, X, Y, gs, hs, M, h5, h6, h7, h8⟩ := h
  refine ⟨a, cap, h1, h2, h3, fun h0 => ⟨G, 0, h5 h0, (h6.1 h0).1, fun i m hi => ?_⟩⟩
  have hl := (List.getElem?_eq_some_iff.1 hi).1
  obtain ⟨c, hC, hI⟩ := h6.2 i hl
  rw [h8 i m hi] at c hC hI
  rw [Nat.zero_add]
  exact ⟨_, _, c, hC.slice, hI.slice⟩
/-- What PutMsg leaves, with the bounds of its memory. -/
def LRetB (w : World) (c : Int) (rs : List Ms) (e : Ending) (w' : World) : Prop := ∃ v g, e = .returned (jr c v) ∧ w.heap.size ≤ g.1 ∧ LOwn w' v g rs ∧ Ext w w'
theorem LRetB.of {w w' : World} {c : Int} {rs : List Ms} {e : Ending} (h : LRet w c rs e w') : LRetB w c rs e w' := by
  obtain ⟨vo, ps, h1, h2, h3, h4, h5⟩ := h
  obtain ⟨a, cap, G, X, Y, gs, hs, M, k1, k2, k3, k4, k5, k6, k7⟩ := LAt.of h2 h3
  have hl : rs.length = ps.length := by rw [← h4, List.length_map]
  refine ⟨vo, (w.heap.size, w'.heap.size), h1, Nat.le_refl _, ⟨a, cap, by rw [hl]; exact k1, by rw [hl]; exact k2, k3, ⟨h5.size, Nat.le_refl _⟩, G, X, Y, gs, hs, M, by rw [hl]; exact k4, by rw [hl]; exact k5, by rw [hl]; exact k6, fun i m hi => ?_⟩, h5⟩
  rw [← h4, List.getElem?_map] at hi
  obtain ⟨p, hp, rfl⟩ := Option.map_eq_some_iff.1 hi
  exact k7 i p hp
/-- The marks from 1 to q are held. -/
def LHeld (W : World) (v : Value) (q n : Nat) : Prop :=
  ∃ a cap, v = .slice a n cap ∧ n ≤ cap ∧ cap ≤ maxLen ∧ n ≤ 1000 ∧ ∃ G X Y gs hs M, (0 < n → a = some ⟨G, 0, none⟩) ∧ LAt W G n X Y gs hs (marked 1 M n) ∧ (∀ i, i < n → (M i).certs.length ≤ 30 ∧ (M i).refs.length ≤ 7) ∧ kAt 1 M n = q
theorem LHeld.ext {W W' : World} {v : Value} {q n : Nat} (h : LHeld W v q n) (he : Ext W W') : LHeld W' v q n := by
  obtain ⟨a, cap, h1, h2, h3, h4, G, X, Y, gs, hs, M, h5, h6, h7, h8⟩ := h
  exact ⟨a, cap, h1, h2, h3, h4, G, X, Y, gs, hs, M, h5, h6.ext he, h7, h8⟩
theorem markL (c : Int) (v : Value) (g : Nat × Nat) (rs : List Ms) (w : World) (hO : LOwn w v g rs) (hn : rs.length ≤ 1000) (hsz : ∀ m ∈ rs, m.certs.length ≤ 30 ∧ m.refs.length ≤ 7) (hg : g.1 ≤ w.heap.size) :
    Calls Try.prog 44 #[jr c v, .int .i64 ((1 : Nat) : Int)] w fun e w' => ∃ q : Nat, e = .returned (.int .i64 (q : Nat)) ∧ LHeld w' v q rs.length ∧ UpdR g.1 g.2 w w' := by
  obtain ⟨a, cap, rfl, h2, h3, h4, G, X, Y, gs, hs, M, h5, h6, h7, h8⟩ := hO
  have hs : ∀ i, i < rs.length → (M i).certs.length ≤ 30 ∧ (M i).refs.length ≤ 7 := fun i hi => by
    rw [h8 i (rs[i]'hi) (List.getElem?_eq_getElem hi)]
    exact hsz _ (List.getElem_mem hi)
  exact (markLedgerResult_any c a cap rs.length G X Y gs _ M 1 g.1 g.2 w h5 h6 h7 h2 h3 hn (by omega) hs hg).mono fun e w' h => ⟨_, h.1, ⟨a, cap, rfl, h2, h3, hn, G, X, Y, gs, _, M, h5, h.2.1, hs, rfl⟩, h.2.2⟩
theorem heldL (c : Int) (v : Value) (q n : Nat) (w : World) (hO : LHeld w v q n) :
    Calls Try.prog 45 #[jr c v, .int .i64 ((1 : Nat) : Int)] w fun e w' => e = .returned (.int .i64 (q : Nat)) ∧ Ext w w' := by
  obtain ⟨a, cap, rfl, h2, h3, h4, G, X, Y, gs, hs, M, h5, h6, h7, rfl⟩ := hO
  exact heldLedgerResult_any c a cap n G X Y gs hs M 1 w h5 h6 h2 h3 h4 (by omega) h7
/-- A LedgerResult was made and boxed in bw; w0 is as it was. -/
def GotL (w0 : World) (c : Int) (rs : List Ms) (W : World) (bw : Nat) (g3 : Nat × Nat) (v : Value) : Prop :=
  Ext w0 W ∧ w0.heap.size ≤ bw ∧ JBoxAt W bw c v ∧ LOwn W v g3 rs ∧ w0.heap.size ≤ g3.1
theorem GotL.set {w0 n : World} {c : Int} {rs : List Ms} {g3 : Nat × Nat} {b : Nat} {v : Value} (X : Ext w0 n) (hb : w0.heap.size ≤ b) (B : JZ n b) (hO : LOwn n v g3 rs) (hbg : g3.2 ≤ b ∨ b + 1 ≤ g3.1) (hg : w0.heap.size ≤ g3.1) : GotL w0 c rs ((n.setCell ⟨b, 0, none⟩ (.int .i64 c)).setCell ⟨b, 1, none⟩ v) b g3 v :=
  ⟨(X.setCell (p := ⟨b, 0, none⟩) hb _).setCell (p := ⟨b, 1, none⟩) hb _, hb, jz_put B, hO.updR (UpdR.of (((Upd.refl b n).setAt _ _).setAt _ _) (Nat.le_refl _) (Nat.lt_succ_self _)) hbg, hg⟩
end Led
theorem Msg.putV_small (f : Int) (ms : List Ms) (m : Ms) : (Msg.putV f ms m).2.length ≤ 1000 ∧ ∀ z ∈ (Msg.putV f ms m).2, z.certs.length ≤ 30 ∧ z.refs.length ≤ 7 := by
  by_cases h : Msg.ledger f ms = 0
  · obtain ⟨hf0, hf1, hml⟩ := Msg.ledger_zero h
    have hz : ∀ z, Msg.faultM f z = 0 → z.certs.length ≤ 30 ∧ z.refs.length ≤ 7 := fun z h => by
      obtain ⟨a, b, -⟩ := Msg.lists_zero h
      exact ⟨a, by omega⟩
    by_cases h2 : Msg.faultM f m = 0
    · cases h3 : Msg.refsB m ms.length with
      | false => rw [Msg.putV_refs h h2 h3]; exact ⟨by simp, fun z hz => by cases hz⟩
      | true =>
        rw [Msg.putV_ok h h2 h3]
        by_cases h4 : 0 ≤ Msg.place ms m
        · rw [Msg.putM_there h4]; exact ⟨by show ms.length ≤ 1000; omega, fun z hz' => hz z (Msg.ledger_all h z hz')⟩
        · by_cases h5 : 240 ≤ ms.length
          · rw [Msg.putM_many h4 h5]; exact ⟨by simp, fun z hz => by cases hz⟩
          · rw [Msg.putM_new h4 h5]
            refine ⟨by show (ms ++ [m]).length ≤ 1000; rw [List.length_append]; simp; omega, fun z hz' => ?_⟩
            have hz' : z ∈ ms ++ [m] := hz'
            rw [List.mem_append, List.mem_singleton] at hz'
            rcases hz' with hz' | rfl
            · exact hz z (Msg.ledger_all h z hz')
            · exact hz _ h2
    · rw [Msg.putV_msg h h2]; exact ⟨by simp, fun z hz => by cases hz⟩
  · rw [Msg.putV_bad h]; exact ⟨by simp, fun z hz => by cases hz⟩
end Go.Proofs.Ytflojfkalnojbaa
