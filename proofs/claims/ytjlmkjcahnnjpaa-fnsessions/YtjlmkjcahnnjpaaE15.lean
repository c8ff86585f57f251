/- the draws of sessions: l4Right, l4Bent, DrawOpenSession. -/
import Derived.Test.YtjlmkjcahnnjpaaE11
import Derived.Test.YtjlmkjcahnnjpaaLOpenSession
import Derived.Test.YtjlmkjcahnnjpaaV3
namespace Go.Proofs.Ytjlmkjcahnnjpaa
open Go.RowKit

theorem opened_ok {l : List Se} {i n : Int} (h : (Ses.opened l i n).1 = 0) : (Ses.opened l i n).2 = putSe ⟨i, n + 10⟩ l ∧ l.length < 6 := by
  unfold Ses.opened at h ⊢
  by_cases h1 : hasE l i = true
  · rw [if_pos h1] at h; cases h
  · rw [if_neg h1] at h ⊢
    by_cases h2 : 6 ≤ l.length
    · rw [if_pos h2] at h; cases h
    · rw [if_neg h2]; exact ⟨rfl, by omega⟩
theorem putSe_pos (s : Se) (l : List Se) : 0 < (putSe s l).length := by unfold putSe; rw [List.length_append, List.length_cons]; omega
theorem EOwn.some {w : World} {v : Value} {g : Nat} {l : List Se} (h : EOwn w v g l) (h0 : 0 < l.length) : SomeS v := by
  obtain ⟨a, cap, rfl, -, -, hx⟩ := h
  obtain ⟨off, rfl, -⟩ := hx h0
  exact ⟨_, _, _, _, rfl⟩
theorem own_ses {w w' : World} {base : Nat} {e : TypeId} {size : Nat} {v : Value} {n : Nat} {xs : List Value} (h : w.ownsRow base e size v n xs) (he : Ext w w') : w'.ownsRow base e size v n xs := by
  refine ⟨h.1, ?_⟩
  rcases h.2 with hn | ⟨g, cap, cur, rfl, hb, hgg, rest⟩
  · exact .inl hn
  · exact .inr ⟨g, cap, cur, rfl, hb, (he.block g (Array.getElem?_eq_some_iff.1 hgg).1).trans hgg, rest⟩
/-- How a draw of sessions stands: the source, the sessions, nothing else turned. -/
def DSt (w : World) (b a k : Nat) (cv v : Value) (l : List Se) (wx : World) : Prop :=
  ∃ a', SomeS v ∧ wx.ownsRow (b + 1) 58 2 v l.length (cellsE l) ∧ l.length ≤ 7 ∧ SrcAt wx b a' cv ∧ a' ≤ a + k ∧ Below b w wx
theorem DSt.ext {w wx wy : World} {b a k : Nat} {cv v : Value} {l : List Se} (h : DSt w b a k cv v l wx) (he : Ext wx wy) : DSt w b a k cv v l wy := by
  obtain ⟨a', q1, q2, q6, q7, q8, q9⟩ := h
  exact ⟨a', q1, own_ses q2 he, q6, q7.ext he, q8, q9.trans (Below.mono he (Nat.le_of_lt q7.lt))⟩
theorem DSt.more {w wx : World} {b a k k' : Nat} {cv v : Value} {l : List Se} (h : DSt w b a k cv v l wx) (hk : k ≤ k') : DSt w b a k' cv v l wx := by
  obtain ⟨a', q1, q2, q6, q7, q8, q9⟩ := h
  exact ⟨a', q1, q2, q6, q7, by omega, q9⟩
theorem DSt.slice {w wx : World} {b a k : Nat} {cv v : Value} {l : List Se} (h : DSt w b a k cv v l wx) : ESlice wx v l := by
  obtain ⟨a', q1, q2, -⟩ := h
  obtain ⟨g, -, hO⟩ := eown_of_owns q2
  exact hO.slice
theorem DSt.form {w wx : World} {b a k : Nat} {cv v : Value} {l : List Se} (h : DSt w b a k cv v l wx) : ∃ bb off cap, v = .slice (some ⟨bb, off, none⟩) l.length cap := by
  have hs := h.slice
  obtain ⟨a', ⟨bb, off, m, cap, rfl⟩, -⟩ := h
  obtain ⟨a9, cap9, he, -⟩ := hs
  injection he with e1 e2 e3
  exact ⟨bb, off, cap, by rw [e2]⟩
theorem DSt.next {w wx : World} {b a k : Nat} {cv v : Value} {l : List Se} (h : DSt w b a k cv v l wx) (n : Int) (h1 : 1 ≤ n) (h2 : n ≤ 200) (ha : a + k ≤ 1000) :
    Calls Try.prog 55 #[.pointer (some ⟨b, 0, none⟩), .int .i64 n] wx fun e w' => ∃ r : Int, e = .returned (.int .i64 r) ∧ 0 ≤ r ∧ r < n ∧ DSt w b a (k + 1) cv v l w' := by
  obtain ⟨a', q1, q2, q6, q7, q8, q9⟩ := h
  refine (next_any b a' cv n wx q7 h1 h2 (by omega)).mono ?_
  rintro e w' ⟨r, q, rfl, r0, r1, rfl⟩
  exact ⟨r, rfl, r0, r1, a' + 1, q1, owns_place q2 (Nat.lt_succ_self _) _ _, q6, q7.place (a' + 1) q, by omega, q9.trans (Upd.place _ _ _).1⟩
theorem DSt.pick {w wx : World} {b a k : Nat} {cv v : Value} {l : List Se} (h : DSt w b a k cv v l wx) (g cap : Nat) (ns : List Int) (hg : b < g) (hN : NumsAt wx g 0 ns) (h1 : 1 ≤ ns.length) (h2 : ns.length ≤ 200) (ha : a + k ≤ 1000) :
    Calls Try.prog 54 #[.pointer (some ⟨b, 0, none⟩), .slice (some ⟨g, 0, none⟩) ns.length cap] wx fun e w' => ∃ x : Int, e = .returned (.int .i64 x) ∧ DSt w b a (k + 1) cv v l w' := by
  obtain ⟨a', q1, q2, q6, q7, q8, q9⟩ := h
  refine (pick_any b a' g 0 cap cv ns wx q7 (by omega) hN h1 h2 (by omega)).mono ?_
  rintro e w' ⟨x, q, rfl, rfl⟩
  exact ⟨x, rfl, a' + 1, q1, owns_place q2 (Nat.lt_succ_self _) _ _, q6, q7.place (a' + 1) q, by omega, q9.trans (Upd.place _ _ _).1⟩
theorem DSt.open {w wx : World} {b a k : Nat} {cv v : Value} {l : List Se} (h : DSt w b a k cv v l wx) (hr : Rises l) (i n : Int) (hn : -100000 ≤ n ∧ n ≤ 100000) :
    Calls Try.prog 38 #[v, .int .i64 i, .int .i64 n] wx fun e w' => ∃ c rs a9 cap9, e = .returned (er c (.slice a9 (List.length rs) cap9)) ∧ (c = 0 → DSt w b a k cv (.slice a9 rs.length cap9) rs w' ∧ Rises rs ∧ rs.length ≤ l.length + 1) ∧ DSt w b a k cv v l w' := by
  have hD := h
  have hS := h.slice
  obtain ⟨bb, off, cap, rfl⟩ := h.form
  obtain ⟨a', q1, q2, q6, q7, q8, q9⟩ := h
  refine (l4Open_own bb off cap l i n wx hS hr (by omega) hn).mono ?_
  rintro e w' ⟨v', rfl, hO, he⟩
  obtain ⟨g', hg', hE⟩ := eown_of_owns hO
  obtain ⟨a9, cap9, rfl, -⟩ := id hE
  refine ⟨_, _, a9, cap9, rfl, fun hc => ?_, hD.ext he⟩
  obtain ⟨h1, h2⟩ := opened_ok hc
  have hp : 0 < (Ses.opened l i n).2.length := by rw [h1]; exact putSe_pos _ _
  refine ⟨⟨a', hE.some hp, hO.mono (by have := q7.lt; omega), by rw [h1]; have := putSe_len ⟨i, n + 10⟩ l; omega, q7.ext he, q8, q9.trans (Below.mono he (Nat.le_of_lt q7.lt))⟩, by rw [h1]; exact hr.put _, by rw [h1]; exact putSe_len _ _⟩

set_option maxHeartbeats 2000000 in
set_option maxRecDepth 100000 in
theorem l4Right_any (b a : Nat) (cv : Value) (w : World) (h : SrcAt w b a cv) (ha : a ≤ 900) :
    Calls Try.prog 62 #[.pointer (some ⟨b, 0, none⟩)] w fun e w' => ∃ v l, e = .returned v ∧ l.length ≤ 6 ∧ DSt w b a 11 cv v l w' := by
  have HS : Hid (SrcAt w b a cv) := h
  have hbs := h.lt
  clear h
  go_enter Try.func62, Try.ntmps62
  go_wp2_with fail
  refine (next_any b a cv 5 _ (HS.out.alloc _) (by omega) (by omega) (by omega)).mono ?_
  rintro e w1 ⟨r, q, rfl, hr0, hr1, hw⟩
  have HD1 : Hid (DSt w b a 1 cv (.slice (some ⟨w.heap.size, 0, none⟩) 0 0) [] w1) := by
    refine ⟨a + 1, ⟨_, _, _, _, rfl⟩, ?_, by simp, ?_, by omega, ?_⟩
    · rw [hw]; exact owns_place (World.ownsRow_made w #[] 0 (by omega) (by unfold maxLen; omega) rfl) (Nat.lt_succ_self _) _ _
    · rw [hw]; exact (HS.out.alloc _).place (a + 1) q
    · rw [hw]; exact ((Upd.alloc _ _ (Nat.le_of_lt HS.out.lt)).trans (Upd.place _ _ _)).1
  clear hw
  go_wp2
  go_loopw [3, 4] (fun ov kv wr => ∃ (k : Nat) (l : List Se), k ≤ 4 ∧ kv = .int .i64 k ∧ Hid (Rises l ∧ l.length + k ≤ 6) ∧ Hid (DSt w b a (11 - 2 * k) cv ov l wr)) (fun _ kv _ => (intOf kv).toNat)
  case atStart =>
    obtain ⟨k, rfl⟩ := Int.eq_ofNat_of_zero_le hr0
    exact ⟨k, [], by omega, rfl, ⟨List.Pairwise.nil, by simp; omega⟩, HD1.out.more (by omega)⟩
  case round =>
    obtain ⟨k, l, hk, rfl, HRi, HD⟩ := hrel
    by_cases hk0 : 0 < k
    · obtain ⟨bb, off, cap0, hv0⟩ := HD.out.form
      subst hv0
      generalize (some (⟨bb, off, none⟩ : Addr)) = a0 at *
      go_wp2_with fail
      refine (HD.out.next 4 (by omega) (by omega) (by omega)).mono ?_
      rintro e w1 ⟨r1, rfl, p0, p1, hD1⟩
      have HD1 : Hid (DSt w b a (11 - 2 * k + 1) cv (.slice a0 l.length cap0) l w1) := hD1
      clear hD1
      go_wp2_with fail
      refine (HD1.out.next 20 (by omega) (by omega) (by omega)).mono ?_
      rintro e w2 ⟨r2, rfl, p2, p3, hD2⟩
      have HD2 : Hid (DSt w b a (11 - 2 * k + 1 + 1) cv (.slice a0 l.length cap0) l w2) := hD2
      clear hD2
      go_wp2_with fail
      refine (HD2.out.open HRi.out.1 (1 + r1) r2 (by omega)).mono ?_
      rintro e w3 ⟨c, rs, a9, cap9, rfl, hD3, hD4⟩
      have HD3 : Hid (c = 0 → DSt w b a (11 - 2 * k + 1 + 1) cv (.slice a9 rs.length cap9) rs w3 ∧ Rises rs ∧ rs.length ≤ l.length + 1) := fun h => hD3 h
      have HD4 : Hid (DSt w b a (11 - 2 * k + 1 + 1) cv (.slice a0 l.length cap0) l w3) := hD4
      clear hD3 hD4
      unfold er
      obtain ⟨j, rfl⟩ : ∃ j, k = j + 1 := ⟨k - 1, by omega⟩
      have hj2 : 11 - 2 * (j + 1) + 1 + 1 = 11 - 2 * j := by omega
      by_cases hc : c = 0
      · subst hc
        have HD5 : Hid (DSt w b a (11 - 2 * j) cv (.slice a9 rs.length cap9) rs w3) := by rw [← hj2]; exact (HD3.out rfl).1
        have HR5 : Hid (Rises rs ∧ rs.length + j ≤ 6) := ⟨(HD3.out rfl).2.1, by have := (HD3.out rfl).2.2; have := HRi.out.2; omega⟩
        go_wp2
        exact ⟨⟨j, rs, by omega, by go_num, HR5, HD5.out.ext ((Ext.refl _).alloc _)⟩, by simp [intOf]⟩
      · have HD5 : Hid (DSt w b a (11 - 2 * j) cv (.slice a0 l.length cap0) l w3) := by rw [← hj2]; exact HD4.out
        go_wp2
        exact ⟨⟨j, l, by omega, by go_num, ⟨HRi.out.1, by have := HRi.out.2; omega⟩, HD5.out.ext ((Ext.refl _).alloc _)⟩, by simp [intOf]⟩
    · have hk1 : k = 0 := by omega
      subst hk1
      go_wp2
      go_ret
      exact ⟨_, l, rfl, by have := HRi.out.2; omega, HD.out⟩
end Go.Proofs.Ytjlmkjcahnnjpaa
