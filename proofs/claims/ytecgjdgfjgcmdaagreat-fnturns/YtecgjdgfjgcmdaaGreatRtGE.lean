/- RD0, RD1, RD2, RD3, in one text. -/
import Derived.Test.YtecgjdgfjgcmdaaGreatRtG9
import Derived.Test.YtecgjdgfjgcmdaaGreatRtRP4
import Derived.Test.YtecgjdgfjgcmdaaGreatRtTk
namespace Go.Proofs.YtecgjdgfjgcmdaaGreat
open Go.RowKit
theorem ZBox.kp {b : Nat} {W W' : World} {R : Nat} {l : List Value} (h : ZBox W R l) (hk : Dr.Kp b W W') (hne : R ≠ b) : ZBox W' R l :=
 ⟨Nat.lt_of_lt_of_le h.1 hk.1, fun j u hj => ⟨(hk.cell h.1 hne j).1.trans (h.2 j u hj).1, (hk.cell h.1 hne j).2.trans (h.2 j u hj).2⟩⟩
theorem ZBox.set_ne {W : World} {R g o : Nat} {l : List Value} {x : Value} (h : ZBox W R l) (hne : g ≠ R) : ZBox (W.setCell ⟨g, o, none⟩ x) R l :=
 ⟨by simpa using h.1, fun j u hj => ⟨by rw [iset_ne _ _ _ _ _ _ (Or.inl hne)]; exact (h.2 j u hj).1, by simpa using (h.2 j u hj).2⟩⟩
theorem ZBox.put {W : World} {R : Nat} {l : List Value} (h : ZBox W R l) (k : Nat) (x : Value) : ZBox (W.setCell ⟨R, k, none⟩ x) R (l.set k x) := by
 refine ⟨by simpa using h.1, fun j u hj => ⟨?_, ?_⟩⟩
 ·by_cases hjk : k = j
  ·subst hjk
   rw [List.getElem?_set] at hj
   simp only [if_true] at hj
   split at hj
   ·rename_i hl
    cases hj
    exact iset_eq _ _ _ _ ⟨_, (h.2 k _ (List.getElem?_eq_getElem hl)).1⟩
   ·cases hj
  ·rw [iset_ne _ _ _ _ _ _ (Or.inr hjk)]
   rw [List.getElem?_set_ne hjk] at hj
   exact (h.2 j u hj).1
 ·have hl : j < l.length := by have := (List.getElem?_eq_some_iff.1 hj).1; simpa using this
  have := (h.2 j _ (List.getElem?_eq_getElem hl)).2
  simpa using this
set_option linter.unusedSimpArgs false in
set_option maxHeartbeats 8000000 in
set_option maxRecDepth 100000 in
theorem l11Draw_any (b a base : Nat) (cv v : Value) (ms : List Ms) (w : World) (h : SrcAt w b a cv) (hM : ∀ W', Dr.Kb base w W' → MSlice W' v ms) (hbb : b < base) (hml : ms.length ≤ 241) (ha : a ≤ 900) :
  Calls Tryz.prog 126 #[.pointer (some ⟨b, 0, none⟩), v] w fun e w' => ∃ (rp : Rp) (a' : Nat), e = .returned (ragg rp) ∧ a' ≤ a + 10 ∧ Dr.Tick b a' cv w w' := by
 have HS : Hid (SrcAt w b a cv) := h
 have HM : Hid (∀ W', Dr.Kb base w W' → MSlice W' v ms) := hM
 have hbl : b < w.heap.size := h.lt
 have NX : Hid (∀ (a : Nat) (k : Int) (wx : World), SrcAt wx b a cv → 1 ≤ k → k ≤ 200 → a ≤ 1000 → Calls Tryz.prog 82 #[.pointer (some ⟨b, 0, none⟩), .int .i64 k] wx fun e w' => ∃ r : Int, e = .returned (.int .i64 r) ∧ 0 ≤ r ∧ r < k ∧ Dr.Tick b (a + 1) cv wx w') := fun a k wx h1 h2 h3 h4 => Dr.next b a cv k wx h1 h2 h3 h4
 have CH : Hid (∀ (a : Nat) (k : Int) (wx : World), SrcAt wx b a cv → 1 ≤ k → k ≤ 200 → a ≤ 1000 → Calls Tryz.prog 80 #[.pointer (some ⟨b, 0, none⟩), .int .i64 k] wx fun e w' => ∃ r : Bool, e = .returned (.bool r) ∧ Dr.Tick b (a + 1) cv wx w') := fun a k wx h1 h2 h3 h4 => Dr.chance b a cv k wx h1 h2 h3 h4
 have PF : Hid (∀ (a g : Nat) (wx : World), g = wx.heap.size → SrcAt wx b a cv → a ≤ 1000 → Calls Tryz.prog 73 #[.pointer (some ⟨b, 0, none⟩), .slice (some ⟨g, 0, none⟩) 5 5] (wx.alloc (.cells #[.int .i64 0, .int .i64 0, .int .i64 0, .int .i64 1, .int .i64 30] 2)) fun e w' => ∃ x : Int, e = .returned (.int .i64 x) ∧ Dr.Tick b (a + 1) cv wx w') := fun a g wx hg h1 h2 => by subst hg; exact Dr.pick b a cv [0, 0, 0, 1, 30] wx 2 h1 (by decide) (by decide) h2
 have PA : Hid (∀ (a g : Nat) (wx : World), g = wx.heap.size → SrcAt wx b a cv → a ≤ 1000 → Calls Tryz.prog 73 #[.pointer (some ⟨b, 0, none⟩), .slice (some ⟨g, 0, none⟩) 3 3] (wx.alloc (.cells #[.int .i64 0, .int .i64 8, .int .i64 2] 2)) fun e w' => ∃ x : Int, e = .returned (.int .i64 x) ∧ Dr.Tick b (a + 1) cv wx w') := fun a g wx hg h1 h2 => by subst hg; exact Dr.pick b a cv [0, 8, 2] wx 2 h1 (by decide) (by decide) h2
 have PB : Hid (∀ (a g : Nat) (wx : World), g = wx.heap.size → SrcAt wx b a cv → a ≤ 1000 → Calls Tryz.prog 73 #[.pointer (some ⟨b, 0, none⟩), .slice (some ⟨g, 0, none⟩) 3 3] (wx.alloc (.cells #[.int .i64 (-1), .int .i64 21, .int .i64 2] 2)) fun e w' => ∃ x : Int, e = .returned (.int .i64 x) ∧ Dr.Tick b (a + 1) cv wx w') := fun a g wx hg h1 h2 => by subst hg; exact Dr.pick b a cv [-1, 21, 2] wx 2 h1 (by decide) (by decide) h2
 have PC : Hid (∀ (a g : Nat) (wx : World), g = wx.heap.size → SrcAt wx b a cv → a ≤ 1000 → Calls Tryz.prog 73 #[.pointer (some ⟨b, 0, none⟩), .slice (some ⟨g, 0, none⟩) 2 2] (wx.alloc (.cells #[.int .i64 0, .int .i64 3] 2)) fun e w' => ∃ x : Int, e = .returned (.int .i64 x) ∧ Dr.Tick b (a + 1) cv wx w') := fun a g wx hg h1 h2 => by subst hg; exact Dr.pick b a cv [0, 3] wx 2 h1 (by decide) (by decide) h2
 have PL : Hid (∀ (a : Nat) (wx : World), SrcAt wx b a cv → MSlice wx v ms → a ≤ 990 → Calls Tryz.prog 72 #[.pointer (some ⟨b, 0, none⟩), v, .int .i64 5] wx (Dr.One wx b a cv)) := fun a wx h1 h2 h3 => l10Place_any b a cv v ms 5 wx h1 h2 hml h3
 obtain ⟨av9, cv9, hv9, -⟩ := hM _ (Dr.Kb.refl _ _)
 subst hv9
 clear h hM
 go_enter Tryz.func126, Tryz.ntmps126
 go_wp2_with fail
 refine (NX.out a 4 _ (HS.out.ext ((Ext.refl _).alloc _)) (by omega) (by omega) (by omega)).mono ?_
 rintro e w1 ⟨x1, rfl, h10, h11, ht⟩
 have HTw1 : Hid (Dr.Tick b (a + 1) cv w w1) := ((Dr.Tick.start HS.out).ext ((Ext.refl _).alloc _)).trans ht
 have HZw1 : Hid (ZBox w1 w.heap.size [.int .i64 0, .int .i64 0, .int .i64 0, .int .i64 0]) := (zbox_new w [.int .i64 0, .int .i64 0, .int .i64 0, .int .i64 0] 29).kp ht.2.2 (by omega)
 clear ht
 have hwr : IntKind.i64.wrap (1 + x1) = 1 + x1 := by rw [IntKind.wrap_i64]; omega
 go_wp2_with fail
 refine (NX.out (a + 1) 2 _ HTw1.out.1 (by omega) (by omega) (by omega)).mono ?_
 rintro e w2 ⟨x2, rfl, h20, h21, ht⟩
 have HTw2 : Hid (Dr.Tick b (a + 1 + 1) cv w w2) := HTw1.out.trans ht
 have HZw2 : Hid (ZBox w2 w.heap.size [.int .i64 0, .int .i64 0, .int .i64 0, .int .i64 0]) := HZw1.out.kp ht.2.2 (by omega)
 clear ht
 go_wp2_with fail
 refine (PF.out (a + 1 + 1) _ _ rfl HTw2.out.1 (by omega)).mono ?_
 rintro e w3 ⟨x3, rfl, ht⟩
 have HTw3 : Hid (Dr.Tick b (a + 1 + 1 + 1) cv w w3) := HTw2.out.trans ht
 have HZw3 : Hid (ZBox w3 w.heap.size [.int .i64 0, .int .i64 0, .int .i64 0, .int .i64 0]) := HZw2.out.kp ht.2.2 (by omega)
 clear ht
 have HTq : Hid (Dr.Tick b (a + 1 + 1 + 1) cv w (w3.alloc (.cells #[.int .i64 (1 + x1), .int .i64 x2, .int .i64 (-1), .int .i64 x3] 29))) := HTw3.out.ext ((Ext.refl _).alloc _)
 have HZq : Hid (ZBox (w3.alloc (.cells #[.int .i64 (1 + x1), .int .i64 x2, .int .i64 (-1), .int .i64 x3] 29)) w.heap.size [.int .i64 0, .int .i64 0, .int .i64 0, .int .i64 0]) := HZw3.out.ext ((Ext.refl _).alloc _)
 have HRq : Hid (ZBox (w3.alloc (.cells #[.int .i64 (1 + x1), .int .i64 x2, .int .i64 (-1), .int .i64 x3] 29)) w3.heap.size [.int .i64 (1 + x1), .int .i64 x2, .int .i64 (-1), .int .i64 x3]) := zbox_new w3 [.int .i64 (1 + x1), .int .i64 x2, .int .i64 (-1), .int .i64 x3] 29
 have hRl : w.heap.size < w3.heap.size := HZw3.out.1
 obtain ⟨R, hR⟩ : ∃ R, R = w3.heap.size := ⟨_, rfl⟩
 by_cases hx2 : 0 < x2
 ·go_wp2_with fail
  refine (CH.out (a + 1 + 1 + 1) 4 _ HTq.out.1 (by omega) (by omega) (by omega)).mono ?_
  rintro e w4 ⟨ch, rfl, ht⟩
  rw [← hR] at HRq hRl ⊢
  have HRl : Hid (w.heap.size < R) := hRl
  have HTw4 : Hid (Dr.Tick b (a + 1 + 1 + 1 + 1) cv w w4) := HTq.out.trans ht
  have HZw4 : Hid (ZBox w4 w.heap.size [.int .i64 0, .int .i64 0, .int .i64 0, .int .i64 0]) := HZq.out.kp ht.2.2 (by omega)
  have HRw4 : Hid (ZBox w4 R [.int .i64 (1 + x1), .int .i64 x2, .int .i64 (-1), .int .i64 x3]) := HRq.out.kp ht.2.2 (by have := HRl.out; omega)
  clear ht
  clear HTq HZq HRq HTw3 HZw3 hR hRl
  cases ch with
  | true =>
   go_wp2_with fail
   refine (NX.out (a + 1 + 1 + 1 + 1) 14 _ HTw4.out.1 (by omega) (by omega) (by omega)).mono ?_
   rintro e v4 ⟨x9, rfl, h90, h91, ht⟩
   have HTv4 : Hid (Dr.Tick b (a + 1 + 1 + 1 + 1 + 1) cv w v4) := HTw4.out.trans ht
   have HZv4 : Hid (ZBox v4 w.heap.size [.int .i64 0, .int .i64 0, .int .i64 0, .int .i64 0]) := HZw4.out.kp ht.2.2 (by omega)
   have HRv4 : Hid (ZBox v4 R [.int .i64 (1 + x1), .int .i64 x2, .int .i64 (-1), .int .i64 x3]) := HRw4.out.kp ht.2.2 (by have := HRl.out; omega)
   clear ht
   by_cases g0 : x9 = 0
   ·subst g0
    go_wp2_with fail
    refine (PA.out (a + 1 + 1 + 1 + 1 + 1) _ _ rfl HTv4.out.1 (by omega)).mono ?_
    rintro e v5 ⟨x5, rfl, ht⟩
    have HTv5 : Hid (Dr.Tick b (a + 1 + 1 + 1 + 1 + 1 + 1) cv w v5) := HTv4.out.trans ht
    have HZv5 : Hid (ZBox v5 w.heap.size [.int .i64 0, .int .i64 0, .int .i64 0, .int .i64 0]) := HZv4.out.kp ht.2.2 (by omega)
    have HRv5 : Hid (ZBox v5 R [.int .i64 (1 + x1), .int .i64 x2, .int .i64 (-1), .int .i64 x3]) := HRv4.out.kp ht.2.2 (by have := HRl.out; omega)
    clear ht
    have HT9 : Hid (∀ x, Dr.Tick b (a + 1 + 1 + 1 + 1 + 1 + 1) cv w (v5.setCell ⟨R, 0, none⟩ x)) := fun x => HTv5.out.set hbl _ _ (by have := HRl.out; omega) _
    have HZ9 : Hid (∀ x, ZBox (v5.setCell ⟨R, 0, none⟩ x) w.heap.size [.int .i64 0, .int .i64 0, .int .i64 0, .int .i64 0]) := fun x => HZv5.out.set_ne (by have := HRl.out; omega)
    have HR9 : Hid (ZBox (v5.setCell ⟨R, 0, none⟩ (.int .i64 x5)) R [.int .i64 x5, .int .i64 x2, .int .i64 (-1), .int .i64 x3]) := HRv5.out.put 0 (.int .i64 x5)
    obtain ⟨r0, s0⟩ := HRv5.out.2 0 _ rfl
    obtain ⟨r1, s1⟩ := HRv5.out.2 1 _ rfl
    obtain ⟨r2, s2⟩ := HRv5.out.2 2 _ rfl
    obtain ⟨r3, s3⟩ := HRv5.out.2 3 _ rfl
    obtain ⟨z0, n0⟩ := HZv5.out.2 0 _ rfl
    obtain ⟨z1, n1⟩ := HZv5.out.2 1 _ rfl
    obtain ⟨z2, n2⟩ := HZv5.out.2 2 _ rfl
    obtain ⟨z3, n3⟩ := HZv5.out.2 3 _ rfl
    have hn1 : ¬ R = w.heap.size := by have := HRl.out; omega
    have hn2 : ¬ w.heap.size = R := by have := HRl.out; omega
    go_wp2
    refine bodyPost_ret (v := ragg ⟨x5, x2, (-1), x3⟩) (by simp [results, Tryz.results126, go_sem, ragg, z0, z1, z2, z3, hn1, hn2]) rfl ?_
    exact ⟨⟨x5, x2, (-1), x3⟩, a + 1 + 1 + 1 + 1 + 1 + 1, rfl, by omega, ((((HT9.out _).set hbl _ _ (Nat.le_refl _) _).set hbl _ _ (Nat.le_refl _) _).set hbl _ _ (Nat.le_refl _) _).set hbl _ _ (Nat.le_refl _) _⟩
   ·have e0 : (x9 == 0) = false := by simpa using g0
    by_cases g1 : x9 = 1
    ·subst g1
     go_wp2_with fail
     refine (PB.out (a + 1 + 1 + 1 + 1 + 1) _ _ rfl HTv4.out.1 (by omega)).mono ?_
     rintro e v5 ⟨x5, rfl, ht⟩
     have HTv5 : Hid (Dr.Tick b (a + 1 + 1 + 1 + 1 + 1 + 1) cv w v5) := HTv4.out.trans ht
     have HZv5 : Hid (ZBox v5 w.heap.size [.int .i64 0, .int .i64 0, .int .i64 0, .int .i64 0]) := HZv4.out.kp ht.2.2 (by omega)
     have HRv5 : Hid (ZBox v5 R [.int .i64 (1 + x1), .int .i64 x2, .int .i64 (-1), .int .i64 x3]) := HRv4.out.kp ht.2.2 (by have := HRl.out; omega)
     clear ht
     have HT9 : Hid (∀ x, Dr.Tick b (a + 1 + 1 + 1 + 1 + 1 + 1) cv w (v5.setCell ⟨R, 1, none⟩ x)) := fun x => HTv5.out.set hbl _ _ (by have := HRl.out; omega) _
     have HZ9 : Hid (∀ x, ZBox (v5.setCell ⟨R, 1, none⟩ x) w.heap.size [.int .i64 0, .int .i64 0, .int .i64 0, .int .i64 0]) := fun x => HZv5.out.set_ne (by have := HRl.out; omega)
     have HR9 : Hid (ZBox (v5.setCell ⟨R, 1, none⟩ (.int .i64 x5)) R [.int .i64 (1 + x1), .int .i64 x5, .int .i64 (-1), .int .i64 x3]) := HRv5.out.put 1 (.int .i64 x5)
     obtain ⟨r0, s0⟩ := HRv5.out.2 0 _ rfl
     obtain ⟨r1, s1⟩ := HRv5.out.2 1 _ rfl
     obtain ⟨r2, s2⟩ := HRv5.out.2 2 _ rfl
     obtain ⟨r3, s3⟩ := HRv5.out.2 3 _ rfl
     obtain ⟨z0, n0⟩ := HZv5.out.2 0 _ rfl
     obtain ⟨z1, n1⟩ := HZv5.out.2 1 _ rfl
     obtain ⟨z2, n2⟩ := HZv5.out.2 2 _ rfl
     obtain ⟨z3, n3⟩ := HZv5.out.2 3 _ rfl
     have hn1 : ¬ R = w.heap.size := by have := HRl.out; omega
     have hn2 : ¬ w.heap.size = R := by have := HRl.out; omega
     go_wp2
     refine bodyPost_ret (v := ragg ⟨(1 + x1), x5, (-1), x3⟩) (by simp [results, Tryz.results126, go_sem, ragg, z0, z1, z2, z3, hn1, hn2]) rfl ?_
     exact ⟨⟨(1 + x1), x5, (-1), x3⟩, a + 1 + 1 + 1 + 1 + 1 + 1, rfl, by omega, ((((HT9.out _).set hbl _ _ (Nat.le_refl _) _).set hbl _ _ (Nat.le_refl _) _).set hbl _ _ (Nat.le_refl _) _).set hbl _ _ (Nat.le_refl _) _⟩
    ·have e1 : (x9 == 1) = false := by simpa using g1
     by_cases g2 : x9 = 2
     ·subst g2
      go_wp2_with fail
      refine (PC.out (a + 1 + 1 + 1 + 1 + 1) _ _ rfl HTv4.out.1 (by omega)).mono ?_
      rintro e v5 ⟨x5, rfl, ht⟩
      have HTv5 : Hid (Dr.Tick b (a + 1 + 1 + 1 + 1 + 1 + 1) cv w v5) := HTv4.out.trans ht
      have HZv5 : Hid (ZBox v5 w.heap.size [.int .i64 0, .int .i64 0, .int .i64 0, .int .i64 0]) := HZv4.out.kp ht.2.2 (by omega)
      have HRv5 : Hid (ZBox v5 R [.int .i64 (1 + x1), .int .i64 x2, .int .i64 (-1), .int .i64 x3]) := HRv4.out.kp ht.2.2 (by have := HRl.out; omega)
      clear ht
      have HT9 : Hid (∀ x, Dr.Tick b (a + 1 + 1 + 1 + 1 + 1 + 1) cv w (v5.setCell ⟨R, 2, none⟩ x)) := fun x => HTv5.out.set hbl _ _ (by have := HRl.out; omega) _
      have HZ9 : Hid (∀ x, ZBox (v5.setCell ⟨R, 2, none⟩ x) w.heap.size [.int .i64 0, .int .i64 0, .int .i64 0, .int .i64 0]) := fun x => HZv5.out.set_ne (by have := HRl.out; omega)
      have HR9 : Hid (ZBox (v5.setCell ⟨R, 2, none⟩ (.int .i64 x5)) R [.int .i64 (1 + x1), .int .i64 x2, .int .i64 x5, .int .i64 x3]) := HRv5.out.put 2 (.int .i64 x5)
      obtain ⟨r0, s0⟩ := HRv5.out.2 0 _ rfl
      obtain ⟨r1, s1⟩ := HRv5.out.2 1 _ rfl
      obtain ⟨r2, s2⟩ := HRv5.out.2 2 _ rfl
      obtain ⟨r3, s3⟩ := HRv5.out.2 3 _ rfl
      obtain ⟨z0, n0⟩ := HZv5.out.2 0 _ rfl
      obtain ⟨z1, n1⟩ := HZv5.out.2 1 _ rfl
      obtain ⟨z2, n2⟩ := HZv5.out.2 2 _ rfl
      obtain ⟨z3, n3⟩ := HZv5.out.2 3 _ rfl
      have hn1 : ¬ R = w.heap.size := by have := HRl.out; omega
      have hn2 : ¬ w.heap.size = R := by have := HRl.out; omega
      go_wp2
      refine bodyPost_ret (v := ragg ⟨(1 + x1), x2, x5, x3⟩) (by simp [results, Tryz.results126, go_sem, ragg, z0, z1, z2, z3, hn1, hn2]) rfl ?_
      exact ⟨⟨(1 + x1), x2, x5, x3⟩, a + 1 + 1 + 1 + 1 + 1 + 1, rfl, by omega, ((((HT9.out _).set hbl _ _ (Nat.le_refl _) _).set hbl _ _ (Nat.le_refl _) _).set hbl _ _ (Nat.le_refl _) _).set hbl _ _ (Nat.le_refl _) _⟩
     ·have e2 : (x9 == 2) = false := by simpa using g2
      obtain ⟨r0, s0⟩ := HRv4.out.2 0 _ rfl
      obtain ⟨r1, s1⟩ := HRv4.out.2 1 _ rfl
      obtain ⟨r2, s2⟩ := HRv4.out.2 2 _ rfl
      obtain ⟨r3, s3⟩ := HRv4.out.2 3 _ rfl
      obtain ⟨z0, n0⟩ := HZv4.out.2 0 _ rfl
      obtain ⟨z1, n1⟩ := HZv4.out.2 1 _ rfl
      obtain ⟨z2, n2⟩ := HZv4.out.2 2 _ rfl
      obtain ⟨z3, n3⟩ := HZv4.out.2 3 _ rfl
      go_wp2
      refine bodyPost_ret (v := ragg ⟨(1 + x1), x2, (-1), x3⟩) (by simp [results, Tryz.results126, go_sem, ragg, z0, z1, z2, z3]) rfl ?_
      exact ⟨⟨(1 + x1), x2, (-1), x3⟩, a + 1 + 1 + 1 + 1 + 1, rfl, by omega, (((HTv4.out.set hbl _ _ (Nat.le_refl _) _).set hbl _ _ (Nat.le_refl _) _).set hbl _ _ (Nat.le_refl _) _).set hbl _ _ (Nat.le_refl _) _⟩
  | false =>
   have HMq : Hid (MSlice w4 (.slice av9 ms.length cv9) ms) := HM.out _ (Dr.Kb.of_kp HTw4.out.2.2 hbb)
   go_wp2_with fail
   refine (PL.out (a + 1 + 1 + 1 + 1) _ HTw4.out.1 HMq.out (by omega)).mono ?_
   rintro e w5 ⟨x5, a5, rfl, ha5, ht⟩
   have HTw5 : Hid (Dr.Tick b (a5) cv w w5) := HTw4.out.trans ht
   have HZw5 : Hid (ZBox w5 w.heap.size [.int .i64 0, .int .i64 0, .int .i64 0, .int .i64 0]) := HZw4.out.kp ht.2.2 (by omega)
   have HRw5 : Hid (ZBox w5 R [.int .i64 (1 + x1), .int .i64 x2, .int .i64 (-1), .int .i64 x3]) := HRw4.out.kp ht.2.2 (by have := HRl.out; omega)
   clear ht
   obtain ⟨r0, s0⟩ := HRw5.out.2 0 _ rfl
   obtain ⟨r1, s1⟩ := HRw5.out.2 1 _ rfl
   obtain ⟨r2, s2⟩ := HRw5.out.2 2 _ rfl
   obtain ⟨r3, s3⟩ := HRw5.out.2 3 _ rfl
   have HTw6 : Hid (Dr.Tick b a5 cv w (w5.setCell ⟨R, 2, none⟩ (.int .i64 x5))) := HTw5.out.set hbl _ _ (by have := HRl.out; omega) _
   have HZw6 : Hid (ZBox (w5.setCell ⟨R, 2, none⟩ (.int .i64 x5)) w.heap.size [.int .i64 0, .int .i64 0, .int .i64 0, .int .i64 0]) := HZw5.out.set_ne (by have := HRl.out; omega)
   have HRw6 : Hid (ZBox (w5.setCell ⟨R, 2, none⟩ (.int .i64 x5)) R [.int .i64 (1 + x1), .int .i64 x2, .int .i64 x5, .int .i64 x3]) := HRw5.out.put 2 (.int .i64 x5)
   clear HTw5 HZw5 HRw5 HTw4 HZw4 HRw4
   go_wp2_with fail
   clear r0 r1 r3 s0 s1 s3 s2 r2
   refine (NX.out (a5) 14 _ HTw6.out.1 (by omega) (by omega) (by omega)).mono ?_
   rintro e v4 ⟨x9, rfl, h90, h91, ht⟩
   have HTv4 : Hid (Dr.Tick b (a5 + 1) cv w v4) := HTw6.out.trans ht
   have HZv4 : Hid (ZBox v4 w.heap.size [.int .i64 0, .int .i64 0, .int .i64 0, .int .i64 0]) := HZw6.out.kp ht.2.2 (by omega)
   have HRv4 : Hid (ZBox v4 R [.int .i64 (1 + x1), .int .i64 x2, .int .i64 x5, .int .i64 x3]) := HRw6.out.kp ht.2.2 (by have := HRl.out; omega)
   clear ht
   by_cases g0 : x9 = 0
   ·subst g0
    go_wp2_with fail
    refine (PA.out (a5 + 1) _ _ rfl HTv4.out.1 (by omega)).mono ?_
    rintro e v5 ⟨xq, rfl, ht⟩
    have HTv5 : Hid (Dr.Tick b (a5 + 1 + 1) cv w v5) := HTv4.out.trans ht
    have HZv5 : Hid (ZBox v5 w.heap.size [.int .i64 0, .int .i64 0, .int .i64 0, .int .i64 0]) := HZv4.out.kp ht.2.2 (by omega)
    have HRv5 : Hid (ZBox v5 R [.int .i64 (1 + x1), .int .i64 x2, .int .i64 x5, .int .i64 x3]) := HRv4.out.kp ht.2.2 (by have := HRl.out; omega)
    clear ht
    have HT9 : Hid (∀ x, Dr.Tick b (a5 + 1 + 1) cv w (v5.setCell ⟨R, 0, none⟩ x)) := fun x => HTv5.out.set hbl _ _ (by have := HRl.out; omega) _
    have HZ9 : Hid (∀ x, ZBox (v5.setCell ⟨R, 0, none⟩ x) w.heap.size [.int .i64 0, .int .i64 0, .int .i64 0, .int .i64 0]) := fun x => HZv5.out.set_ne (by have := HRl.out; omega)
    have HR9 : Hid (ZBox (v5.setCell ⟨R, 0, none⟩ (.int .i64 xq)) R [.int .i64 xq, .int .i64 x2, .int .i64 x5, .int .i64 x3]) := HRv5.out.put 0 (.int .i64 xq)
    obtain ⟨r0, s0⟩ := HRv5.out.2 0 _ rfl
    obtain ⟨r1, s1⟩ := HRv5.out.2 1 _ rfl
    obtain ⟨r2, s2⟩ := HRv5.out.2 2 _ rfl
    obtain ⟨r3, s3⟩ := HRv5.out.2 3 _ rfl
    obtain ⟨z0, n0⟩ := HZv5.out.2 0 _ rfl
    obtain ⟨z1, n1⟩ := HZv5.out.2 1 _ rfl
    obtain ⟨z2, n2⟩ := HZv5.out.2 2 _ rfl
    obtain ⟨z3, n3⟩ := HZv5.out.2 3 _ rfl
    have hn1 : ¬ R = w.heap.size := by have := HRl.out; omega
    have hn2 : ¬ w.heap.size = R := by have := HRl.out; omega
    go_wp2
    refine bodyPost_ret (v := ragg ⟨xq, x2, x5, x3⟩) (by simp [results, Tryz.results126, go_sem, ragg, z0, z1, z2, z3, hn1, hn2]) rfl ?_
    exact ⟨⟨xq, x2, x5, x3⟩, a5 + 1 + 1, rfl, by omega, ((((HT9.out _).set hbl _ _ (Nat.le_refl _) _).set hbl _ _ (Nat.le_refl _) _).set hbl _ _ (Nat.le_refl _) _).set hbl _ _ (Nat.le_refl _) _⟩
   ·have e0 : (x9 == 0) = false := by simpa using g0
    by_cases g1 : x9 = 1
    ·subst g1
     go_wp2_with fail
     refine (PB.out (a5 + 1) _ _ rfl HTv4.out.1 (by omega)).mono ?_
     rintro e v5 ⟨xq, rfl, ht⟩
     have HTv5 : Hid (Dr.Tick b (a5 + 1 + 1) cv w v5) := HTv4.out.trans ht
     have HZv5 : Hid (ZBox v5 w.heap.size [.int .i64 0, .int .i64 0, .int .i64 0, .int .i64 0]) := HZv4.out.kp ht.2.2 (by omega)
     have HRv5 : Hid (ZBox v5 R [.int .i64 (1 + x1), .int .i64 x2, .int .i64 x5, .int .i64 x3]) := HRv4.out.kp ht.2.2 (by have := HRl.out; omega)
     clear ht
     have HT9 : Hid (∀ x, Dr.Tick b (a5 + 1 + 1) cv w (v5.setCell ⟨R, 1, none⟩ x)) := fun x => HTv5.out.set hbl _ _ (by have := HRl.out; omega) _
     have HZ9 : Hid (∀ x, ZBox (v5.setCell ⟨R, 1, none⟩ x) w.heap.size [.int .i64 0, .int .i64 0, .int .i64 0, .int .i64 0]) := fun x => HZv5.out.set_ne (by have := HRl.out; omega)
     have HR9 : Hid (ZBox (v5.setCell ⟨R, 1, none⟩ (.int .i64 xq)) R [.int .i64 (1 + x1), .int .i64 xq, .int .i64 x5, .int .i64 x3]) := HRv5.out.put 1 (.int .i64 xq)
     obtain ⟨r0, s0⟩ := HRv5.out.2 0 _ rfl
     obtain ⟨r1, s1⟩ := HRv5.out.2 1 _ rfl
     obtain ⟨r2, s2⟩ := HRv5.out.2 2 _ rfl
     obtain ⟨r3, s3⟩ := HRv5.out.2 3 _ rfl
     obtain ⟨z0, n0⟩ := HZv5.out.2 0 _ rfl
     obtain ⟨z1, n1⟩ := HZv5.out.2 1 _ rfl
     obtain ⟨z2, n2⟩ := HZv5.out.2 2 _ rfl
     obtain ⟨z3, n3⟩ := HZv5.out.2 3 _ rfl
     have hn1 : ¬ R = w.heap.size := by have := HRl.out; omega
     have hn2 : ¬ w.heap.size = R := by have := HRl.out; omega
     go_wp2
     refine bodyPost_ret (v := ragg ⟨(1 + x1), xq, x5, x3⟩) (by simp [results, Tryz.results126, go_sem, ragg, z0, z1, z2, z3, hn1, hn2]) rfl ?_
     exact ⟨⟨(1 + x1), xq, x5, x3⟩, a5 + 1 + 1, rfl, by omega, ((((HT9.out _).set hbl _ _ (Nat.le_refl _) _).set hbl _ _ (Nat.le_refl _) _).set hbl _ _ (Nat.le_refl _) _).set hbl _ _ (Nat.le_refl _) _⟩
    ·have e1 : (x9 == 1) = false := by simpa using g1
     by_cases g2 : x9 = 2
     ·subst g2
      go_wp2_with fail
      refine (PC.out (a5 + 1) _ _ rfl HTv4.out.1 (by omega)).mono ?_
      rintro e v5 ⟨xq, rfl, ht⟩
      have HTv5 : Hid (Dr.Tick b (a5 + 1 + 1) cv w v5) := HTv4.out.trans ht
      have HZv5 : Hid (ZBox v5 w.heap.size [.int .i64 0, .int .i64 0, .int .i64 0, .int .i64 0]) := HZv4.out.kp ht.2.2 (by omega)
      have HRv5 : Hid (ZBox v5 R [.int .i64 (1 + x1), .int .i64 x2, .int .i64 x5, .int .i64 x3]) := HRv4.out.kp ht.2.2 (by have := HRl.out; omega)
      clear ht
      have HT9 : Hid (∀ x, Dr.Tick b (a5 + 1 + 1) cv w (v5.setCell ⟨R, 2, none⟩ x)) := fun x => HTv5.out.set hbl _ _ (by have := HRl.out; omega) _
      have HZ9 : Hid (∀ x, ZBox (v5.setCell ⟨R, 2, none⟩ x) w.heap.size [.int .i64 0, .int .i64 0, .int .i64 0, .int .i64 0]) := fun x => HZv5.out.set_ne (by have := HRl.out; omega)
      have HR9 : Hid (ZBox (v5.setCell ⟨R, 2, none⟩ (.int .i64 xq)) R [.int .i64 (1 + x1), .int .i64 x2, .int .i64 xq, .int .i64 x3]) := HRv5.out.put 2 (.int .i64 xq)
      obtain ⟨r0, s0⟩ := HRv5.out.2 0 _ rfl
      obtain ⟨r1, s1⟩ := HRv5.out.2 1 _ rfl
      obtain ⟨r2, s2⟩ := HRv5.out.2 2 _ rfl
      obtain ⟨r3, s3⟩ := HRv5.out.2 3 _ rfl
      obtain ⟨z0, n0⟩ := HZv5.out.2 0 _ rfl
      obtain ⟨z1, n1⟩ := HZv5.out.2 1 _ rfl
      obtain ⟨z2, n2⟩ := HZv5.out.2 2 _ rfl
      obtain ⟨z3, n3⟩ := HZv5.out.2 3 _ rfl
      have hn1 : ¬ R = w.heap.size := by have := HRl.out; omega
      have hn2 : ¬ w.heap.size = R := by have := HRl.out; omega
      go_wp2
      refine bodyPost_ret (v := ragg ⟨(1 + x1), x2, xq, x3⟩) (by simp [results, Tryz.results126, go_sem, ragg, z0, z1, z2, z3, hn1, hn2]) rfl ?_
      exact ⟨⟨(1 + x1), x2, xq, x3⟩, a5 + 1 + 1, rfl, by omega, ((((HT9.out _).set hbl _ _ (Nat.le_refl _) _).set hbl _ _ (Nat.le_refl _) _).set hbl _ _ (Nat.le_refl _) _).set hbl _ _ (Nat.le_refl _) _⟩
     ·have e2 : (x9 == 2) = false := by simpa using g2
      obtain ⟨r0, s0⟩ := HRv4.out.2 0 _ rfl
      obtain ⟨r1, s1⟩ := HRv4.out.2 1 _ rfl
      obtain ⟨r2, s2⟩ := HRv4.out.2 2 _ rfl
      obtain ⟨r3, s3⟩ := HRv4.out.2 3 _ rfl
      obtain ⟨z0, n0⟩ := HZv4.out.2 0 _ rfl
      obtain ⟨z1, n1⟩ := HZv4.out.2 1 _ rfl
      obtain ⟨z2, n2⟩ := HZv4.out.2 2 _ rfl
      obtain ⟨z3, n3⟩ := HZv4.out.2 3 _ rfl
      go_wp2
      refine bodyPost_ret (v := ragg ⟨(1 + x1), x2, x5, x3⟩) (by simp [results, Tryz.results126, go_sem, ragg, z0, z1, z2, z3]) rfl ?_
      exact ⟨⟨(1 + x1), x2, x5, x3⟩, a5 + 1, rfl, by omega, (((HTv4.out.set hbl _ _ (Nat.le_refl _) _).set hbl _ _ (Nat.le_refl _) _).set hbl _ _ (Nat.le_refl _) _).set hbl _ _ (Nat.le_refl _) _⟩
 ·rw [← hR] at HRq hRl
  have HRl : Hid (w.heap.size < R) := hRl
  have HTz : Hid (∃ W, W = w3.alloc (.cells #[.int .i64 (1 + x1), .int .i64 x2, .int .i64 (-1), .int .i64 x3] 29) ∧ True) := ⟨_, rfl, trivial⟩
  go_wp2_with fail
  refine (NX.out (a + 1 + 1 + 1) 14 _ HTq.out.1 (by omega) (by omega) (by omega)).mono ?_
  rintro e v4 ⟨x9, rfl, h90, h91, ht⟩
  rw [← hR]
  clear hR hRl HTz
  have HTv4 : Hid (Dr.Tick b (a + 1 + 1 + 1 + 1) cv w v4) := HTq.out.trans ht
  have HZv4 : Hid (ZBox v4 w.heap.size [.int .i64 0, .int .i64 0, .int .i64 0, .int .i64 0]) := HZq.out.kp ht.2.2 (by omega)
  have HRv4 : Hid (ZBox v4 R [.int .i64 (1 + x1), .int .i64 x2, .int .i64 (-1), .int .i64 x3]) := HRq.out.kp ht.2.2 (by have := HRl.out; omega)
  clear ht
  by_cases g0 : x9 = 0
  ·subst g0
   go_wp2_with fail
   refine (PA.out (a + 1 + 1 + 1 + 1) _ _ rfl HTv4.out.1 (by omega)).mono ?_
   rintro e v5 ⟨x5, rfl, ht⟩
   have HTv5 : Hid (Dr.Tick b (a + 1 + 1 + 1 + 1 + 1) cv w v5) := HTv4.out.trans ht
   have HZv5 : Hid (ZBox v5 w.heap.size [.int .i64 0, .int .i64 0, .int .i64 0, .int .i64 0]) := HZv4.out.kp ht.2.2 (by omega)
   have HRv5 : Hid (ZBox v5 R [.int .i64 (1 + x1), .int .i64 x2, .int .i64 (-1), .int .i64 x3]) := HRv4.out.kp ht.2.2 (by have := HRl.out; omega)
   clear ht
   have HT9 : Hid (∀ x, Dr.Tick b (a + 1 + 1 + 1 + 1 + 1) cv w (v5.setCell ⟨R, 0, none⟩ x)) := fun x => HTv5.out.set hbl _ _ (by have := HRl.out; omega) _
   have HZ9 : Hid (∀ x, ZBox (v5.setCell ⟨R, 0, none⟩ x) w.heap.size [.int .i64 0, .int .i64 0, .int .i64 0, .int .i64 0]) := fun x => HZv5.out.set_ne (by have := HRl.out; omega)
   have HR9 : Hid (ZBox (v5.setCell ⟨R, 0, none⟩ (.int .i64 x5)) R [.int .i64 x5, .int .i64 x2, .int .i64 (-1), .int .i64 x3]) := HRv5.out.put 0 (.int .i64 x5)
   obtain ⟨r0, s0⟩ := HRv5.out.2 0 _ rfl
   obtain ⟨r1, s1⟩ := HRv5.out.2 1 _ rfl
   obtain ⟨r2, s2⟩ := HRv5.out.2 2 _ rfl
   obtain ⟨r3, s3⟩ := HRv5.out.2 3 _ rfl
   obtain ⟨z0, n0⟩ := HZv5.out.2 0 _ rfl
   obtain ⟨z1, n1⟩ := HZv5.out.2 1 _ rfl
   obtain ⟨z2, n2⟩ := HZv5.out.2 2 _ rfl
   obtain ⟨z3, n3⟩ := HZv5.out.2 3 _ rfl
   have hn1 : ¬ R = w.heap.size := by have := HRl.out; omega
   have hn2 : ¬ w.heap.size = R := by have := HRl.out; omega
   go_wp2
   refine bodyPost_ret (v := ragg ⟨x5, x2, (-1), x3⟩) (by simp [results, Tryz.results126, go_sem, ragg, z0, z1, z2, z3, hn1, hn2]) rfl ?_
   exact ⟨⟨x5, x2, (-1), x3⟩, a + 1 + 1 + 1 + 1 + 1, rfl, by omega, ((((HT9.out _).set hbl _ _ (Nat.le_refl _) _).set hbl _ _ (Nat.le_refl _) _).set hbl _ _ (Nat.le_refl _) _).set hbl _ _ (Nat.le_refl _) _⟩
  ·have e0 : (x9 == 0) = false := by simpa using g0
   by_cases g1 : x9 = 1
   ·subst g1
    go_wp2_with fail
    refine (PB.out (a + 1 + 1 + 1 + 1) _ _ rfl HTv4.out.1 (by omega)).mono ?_
    rintro e v5 ⟨x5, rfl, ht⟩
    have HTv5 : Hid (Dr.Tick b (a + 1 + 1 + 1 + 1 + 1) cv w v5) := HTv4.out.trans ht
    have HZv5 : Hid (ZBox v5 w.heap.size [.int .i64 0, .int .i64 0, .int .i64 0, .int .i64 0]) := HZv4.out.kp ht.2.2 (by omega)
    have HRv5 : Hid (ZBox v5 R [.int .i64 (1 + x1), .int .i64 x2, .int .i64 (-1), .int .i64 x3]) := HRv4.out.kp ht.2.2 (by have := HRl.out; omega)
    clear ht
    have HT9 : Hid (∀ x, Dr.Tick b (a + 1 + 1 + 1 + 1 + 1) cv w (v5.setCell ⟨R, 1, none⟩ x)) := fun x => HTv5.out.set hbl _ _ (by have := HRl.out; omega) _
    have HZ9 : Hid (∀ x, ZBox (v5.setCell ⟨R, 1, none⟩ x) w.heap.size [.int .i64 0, .int .i64 0, .int .i64 0, .int .i64 0]) := fun x => HZv5.out.set_ne (by have := HRl.out; omega)
    have HR9 : Hid (ZBox (v5.setCell ⟨R, 1, none⟩ (.int .i64 x5)) R [.int .i64 (1 + x1), .int .i64 x5, .int .i64 (-1), .int .i64 x3]) := HRv5.out.put 1 (.int .i64 x5)
    obtain ⟨r0, s0⟩ := HRv5.out.2 0 _ rfl
    obtain ⟨r1, s1⟩ := HRv5.out.2 1 _ rfl
    obtain ⟨r2, s2⟩ := HRv5.out.2 2 _ rfl
    obtain ⟨r3, s3⟩ := HRv5.out.2 3 _ rfl
    obtain ⟨z0, n0⟩ := HZv5.out.2 0 _ rfl
    obtain ⟨z1, n1⟩ := HZv5.out.2 1 _ rfl
    obtain ⟨z2, n2⟩ := HZv5.out.2 2 _ rfl
    obtain ⟨z3, n3⟩ := HZv5.out.2 3 _ rfl
    have hn1 : ¬ R = w.heap.size := by have := HRl.out; omega
    have hn2 : ¬ w.heap.size = R := by have := HRl.out; omega
    go_wp2
    refine bodyPost_ret (v := ragg ⟨(1 + x1), x5, (-1), x3⟩) (by simp [results, Tryz.results126, go_sem, ragg, z0, z1, z2, z3, hn1, hn2]) rfl ?_
    exact ⟨⟨(1 + x1), x5, (-1), x3⟩, a + 1 + 1 + 1 + 1 + 1, rfl, by omega, ((((HT9.out _).set hbl _ _ (Nat.le_refl _) _).set hbl _ _ (Nat.le_refl _) _).set hbl _ _ (Nat.le_refl _) _).set hbl _ _ (Nat.le_refl _) _⟩
   ·have e1 : (x9 == 1) = false := by simpa using g1
    by_cases g2 : x9 = 2
    ·subst g2
     go_wp2_with fail
     refine (PC.out (a + 1 + 1 + 1 + 1) _ _ rfl HTv4.out.1 (by omega)).mono ?_
     rintro e v5 ⟨x5, rfl, ht⟩
     have HTv5 : Hid (Dr.Tick b (a + 1 + 1 + 1 + 1 + 1) cv w v5) := HTv4.out.trans ht
     have HZv5 : Hid (ZBox v5 w.heap.size [.int .i64 0, .int .i64 0, .int .i64 0, .int .i64 0]) := HZv4.out.kp ht.2.2 (by omega)
     have HRv5 : Hid (ZBox v5 R [.int .i64 (1 + x1), .int .i64 x2, .int .i64 (-1), .int .i64 x3]) := HRv4.out.kp ht.2.2 (by have := HRl.out; omega)
     clear ht
     have HT9 : Hid (∀ x, Dr.Tick b (a + 1 + 1 + 1 + 1 + 1) cv w (v5.setCell ⟨R, 2, none⟩ x)) := fun x => HTv5.out.set hbl _ _ (by have := HRl.out; omega) _
     have HZ9 : Hid (∀ x, ZBox (v5.setCell ⟨R, 2, none⟩ x) w.heap.size [.int .i64 0, .int .i64 0, .int .i64 0, .int .i64 0]) := fun x => HZv5.out.set_ne (by have := HRl.out; omega)
     have HR9 : Hid (ZBox (v5.setCell ⟨R, 2, none⟩ (.int .i64 x5)) R [.int .i64 (1 + x1), .int .i64 x2, .int .i64 x5, .int .i64 x3]) := HRv5.out.put 2 (.int .i64 x5)
     obtain ⟨r0, s0⟩ := HRv5.out.2 0 _ rfl
     obtain ⟨r1, s1⟩ := HRv5.out.2 1 _ rfl
     obtain ⟨r2, s2⟩ := HRv5.out.2 2 _ rfl
     obtain ⟨r3, s3⟩ := HRv5.out.2 3 _ rfl
     obtain ⟨z0, n0⟩ := HZv5.out.2 0 _ rfl
     obtain ⟨z1, n1⟩ := HZv5.out.2 1 _ rfl
     obtain ⟨z2, n2⟩ := HZv5.out.2 2 _ rfl
     obtain ⟨z3, n3⟩ := HZv5.out.2 3 _ rfl
     have hn1 : ¬ R = w.heap.size := by have := HRl.out; omega
     have hn2 : ¬ w.heap.size = R := by have := HRl.out; omega
     go_wp2
     refine bodyPost_ret (v := ragg ⟨(1 + x1), x2, x5, x3⟩) (by simp [results, Tryz.results126, go_sem, ragg, z0, z1, z2, z3, hn1, hn2]) rfl ?_
     exact ⟨⟨(1 + x1), x2, x5, x3⟩, a + 1 + 1 + 1 + 1 + 1, rfl, by omega, ((((HT9.out _).set hbl _ _ (Nat.le_refl _) _).set hbl _ _ (Nat.le_refl _) _).set hbl _ _ (Nat.le_refl _) _).set hbl _ _ (Nat.le_refl _) _⟩
    ·have e2 : (x9 == 2) = false := by simpa using g2
     obtain ⟨r0, s0⟩ := HRv4.out.2 0 _ rfl
     obtain ⟨r1, s1⟩ := HRv4.out.2 1 _ rfl
     obtain ⟨r2, s2⟩ := HRv4.out.2 2 _ rfl
     obtain ⟨r3, s3⟩ := HRv4.out.2 3 _ rfl
     obtain ⟨z0, n0⟩ := HZv4.out.2 0 _ rfl
     obtain ⟨z1, n1⟩ := HZv4.out.2 1 _ rfl
     obtain ⟨z2, n2⟩ := HZv4.out.2 2 _ rfl
     obtain ⟨z3, n3⟩ := HZv4.out.2 3 _ rfl
     go_wp2
     refine bodyPost_ret (v := ragg ⟨(1 + x1), x2, (-1), x3⟩) (by simp [results, Tryz.results126, go_sem, ragg, z0, z1, z2, z3]) rfl ?_
     exact ⟨⟨(1 + x1), x2, (-1), x3⟩, a + 1 + 1 + 1 + 1, rfl, by omega, (((HTv4.out.set hbl _ _ (Nat.le_refl _) _).set hbl _ _ (Nat.le_refl _) _).set hbl _ _ (Nat.le_refl _) _).set hbl _ _ (Nat.le_refl _) _⟩
end Go.Proofs.YtecgjdgfjgcmdaaGreat
namespace Go.Proofs.YtecgjdgfjgcmdaaGreat
open Go.RowKit
theorem kb_set' {base : Nat} {W W' : World} {R : Nat} (h : Dr.Kb base W W') (hR : R < base) (o : Nat) (x : Value) : Dr.Kb base W (W'.setCell ⟨R, o, none⟩ x) :=
 ⟨by simpa using h.1, fun g h1 h2 => by rw [Dr.heap_set _ (by omega)]; exact h.2 g h1 h2⟩

/-- f, a ledger and a replica were drawn. -/
def Dr.R3 (w : World) (e : Ending) (w' : World) : Prop := ∃ (f : Int) (ov : Value) (ms : List Ms) (rp : Rp), e = .returned (.tuple #[.int .i64 f, ov, ragg rp]) ∧ (∀ W', Dr.Kb w.heap.size w' W' → MSlice W' ov ms) ∧ ms.length ≤ 241 ∧ (∀ m ∈ ms, SmallM m) ∧ Ext w w'
theorem CodeOk.later {w w' : World} {cv : Value} (h : CodeOk w w.heap.size cv) (he : Ext w w') : CodeOk w' w'.heap.size cv := h.rise he he.size
set_option linter.unusedSimpArgs false in
set_option maxHeartbeats 8000000 in
set_option maxRecDepth 100000 in
theorem l11With_any (cv : Value) (w : World) (hc : CodeOk w w.heap.size cv) :
  Calls Tryz.prog 70 #[cv] w (Dr.R3 w) := by
 have hcz : CodeOk (w.alloc (.cells #[.int .i64 0, .int .i64 0, .int .i64 0, .int .i64 0] 29)) (w.alloc (.cells #[.int .i64 0, .int .i64 0, .int .i64 0, .int .i64 0] 29)).heap.size cv := hc.later ((Ext.refl _).alloc _)
 have HS : Hid (SrcAt ((w.alloc (.cells #[.int .i64 0, .int .i64 0, .int .i64 0, .int .i64 0] 29)).alloc (.cells #[cv, .int .i64 0] 140)) (w.alloc (.cells #[.int .i64 0, .int .i64 0, .int .i64 0, .int .i64 0] 29)).heap.size 0 cv) := src_new hcz
 have hbz : (w.alloc (.cells #[.int .i64 0, .int .i64 0, .int .i64 0, .int .i64 0] 29)).heap.size = w.heap.size + 1 := by simp
 have HR0 : Hid (ZBox ((w.alloc (.cells #[.int .i64 0, .int .i64 0, .int .i64 0, .int .i64 0] 29)).alloc (.cells #[cv, .int .i64 0] 140)) w.heap.size [.int .i64 0, .int .i64 0, .int .i64 0, .int .i64 0]) := (zbox_new w [.int .i64 0, .int .i64 0, .int .i64 0, .int .i64 0] 29).ext ((Ext.refl _).alloc _)
 have DF : Hid (∀ (a : Nat) (wx : World), SrcAt wx (w.heap.size + 1) a cv → a ≤ 900 → Calls Tryz.prog 124 #[.pointer (some ⟨w.heap.size + 1, 0, none⟩)] wx fun e w' => ∃ x : Int, e = .returned (.int .i64 x) ∧ Dr.Tick (w.heap.size + 1) (a + 1) cv wx w') := fun a wx h1 h2 => l8DrawF_any (w.heap.size + 1) a cv wx h1 h2
 have PX : Hid (∀ (y : Int) (a g : Nat) (wx : World), g = wx.heap.size → SrcAt wx (w.heap.size + 1) a cv → a ≤ 1000 → Calls Tryz.prog 73 #[.pointer (some ⟨w.heap.size + 1, 0, none⟩), .slice (some ⟨g, 0, none⟩) 7 7] (wx.alloc (.cells #[.int .i64 1, .int .i64 1, .int .i64 1, .int .i64 1, .int .i64 1, .int .i64 1, .int .i64 y] 2)) fun e w' => ∃ x : Int, e = .returned (.int .i64 x) ∧ Dr.Tick (w.heap.size + 1) (a + 1) cv wx w') := fun y a g wx hg h1 h2 => by subst hg; exact Dr.pick (w.heap.size + 1) a cv [1, 1, 1, 1, 1, 1, y] wx 2 h1 (by simp) (by simp) h2
 have WO : Hid (∀ (a : Nat) (wx : World), SrcAt wx (w.heap.size + 1) a cv → a ≤ 90 → Calls Tryz.prog 125 #[.pointer (some ⟨w.heap.size + 1, 0, none⟩)] wx (Dr.Ledger 451 wx (w.heap.size + 1) a cv)) := fun a wx h1 h2 => l10Wrong_any (w.heap.size + 1) a cv wx h1 h2
 have LD : Hid (∀ (a base : Nat) (v : Value) (ms : List Ms) (wx : World), SrcAt wx (w.heap.size + 1) a cv → (∀ W', Dr.Kb base wx W' → MSlice W' v ms) → (w.heap.size + 1) < base → ms.length ≤ 241 → a ≤ 900 → Calls Tryz.prog 126 #[.pointer (some ⟨w.heap.size + 1, 0, none⟩), v] wx fun e w' => ∃ (rp : Rp) (a' : Nat), e = .returned (ragg rp) ∧ a' ≤ a + 10 ∧ Dr.Tick (w.heap.size + 1) a' cv wx w') := fun a base v ms wx h1 h2 h3 h4 h5 => l11Draw_any (w.heap.size + 1) a base cv v ms wx h1 h2 h3 h4 h5
 obtain ⟨ad, len, cap, hcv, -⟩ := hc
 have HC := source_any cv (w.alloc (.cells #[.int .i64 0, .int .i64 0, .int .i64 0, .int .i64 0] 29)) ad len cap hcv
 rw [hbz] at HS HC
 clear hcv hcz hbz
 go_enter Tryz.func70, Tryz.ntmps70
 go_wp2_with fail
 refine HC.mono ?_
 rintro e w1 ⟨rfl, hw⟩
 have HS1 : Hid (SrcAt w1 (w.heap.size + 1) 0 cv) := by rw [hw]; exact HS.out
 have HZ1 : Hid (ZBox w1 w.heap.size [.int .i64 0, .int .i64 0, .int .i64 0, .int .i64 0]) := by rw [hw]; exact HR0.out
 have HE1 : Hid (Ext w w1) := by rw [hw]; exact ((Ext.refl _).alloc _).alloc _
 have hsz1 : w1.heap.size = w.heap.size + 2 := by rw [hw]; simp
 clear HC HS HR0 hw
 go_wp2_with fail
 refine (DF.out 0 _ HS1.out (by omega)).mono ?_
 rintro e w2 ⟨y2, rfl, ht⟩
 have HT2 : Hid (Dr.Tick (w.heap.size + 1) (0 + 1) cv w1 w2) := ht
 clear ht HS1
 go_wp2_with fail
 refine (PX.out y2 (0 + 1) _ _ rfl HT2.out.1 (by omega)).mono ?_
 rintro e w3 ⟨f, rfl, ht⟩
 have HT3 : Hid (Dr.Tick (w.heap.size + 1) (0 + 1 + 1) cv w1 w3) := HT2.out.trans ht
 have hsz3 : w.heap.size + 2 ≤ w3.heap.size := by rw [← hsz1]; exact HT3.out.2.2.1
 clear ht HT2
 go_wp2_with fail
 refine (WO.out (0 + 1 + 1) _ HT3.out.1 (by omega)).mono ?_
 rintro e w4 ⟨ov, ms, a4, rfl, hM, ⟨hml, hsm⟩, ha4, ht⟩
 obtain ⟨ad9, cp9, rfl, -⟩ := hM _ (Dr.Kb.refl _ _)
 have HM : Hid (∀ W', Dr.Kb w3.heap.size w4 W' → MSlice W' (.slice ad9 ms.length cp9) ms) := hM
 have HSm : Hid (∀ m ∈ ms, SmallM m) := hsm
 have HT4 : Hid (Dr.Tick (w.heap.size + 1) a4 cv w1 w4) := HT3.out.trans ht
 clear ht hM hsm HT3
 go_wp2_with fail
 refine (LD.out a4 w3.heap.size _ ms _ HT4.out.1 HM.out (by omega) hml (by omega)).mono ?_
 rintro e w5 ⟨rp, a5, rfl, ha5, ht⟩
 have HT5 : Hid (Dr.Tick (w.heap.size + 1) a5 cv w1 w5) := HT4.out.trans ht
 have HK5 : Hid (Dr.Kb w3.heap.size w4 w5) := Dr.Kb.of_kp ht.2.2 (by omega)
 have HZ5 : Hid (ZBox w5 w.heap.size [.int .i64 0, .int .i64 0, .int .i64 0, .int .i64 0]) := HZ1.out.kp HT5.out.2.2 (by omega)
 have HE5 : Hid (Ext w w5) := Below.trans HE1.out (Below.mono HT5.out.2.1 (by omega))
 have HM5 : Hid (∀ x0 x1 x2 x3 W', Dr.Kb w.heap.size ((((w5.setCell ⟨w.heap.size, 0, none⟩ x0).setCell ⟨w.heap.size, 1, none⟩ x1).setCell ⟨w.heap.size, 2, none⟩ x2).setCell ⟨w.heap.size, 3, none⟩ x3) W' → MSlice W' (.slice ad9 ms.length cp9) ms) := fun x0 x1 x2 x3 W' hk => HM.out _ ((kb_set' (kb_set' (kb_set' (kb_set' HK5.out (by omega) _ _) (by omega) _ _) (by omega) _ _) (by omega) _ _).trans (hk.mono (by omega)))
 clear ht HT4 HT5 HK5 HM
 obtain ⟨z0, n0⟩ := HZ5.out.2 0 _ rfl
 obtain ⟨z1, n1⟩ := HZ5.out.2 1 _ rfl
 obtain ⟨z2, n2⟩ := HZ5.out.2 2 _ rfl
 obtain ⟨z3, n3⟩ := HZ5.out.2 3 _ rfl
 unfold ragg
 go_wp2
 refine bodyPost_ret (v := .tuple #[.int .i64 f, .slice ad9 ms.length cp9, ragg rp]) (by simp [results, Tryz.results70, go_sem, ragg, z0, z1, z2, z3]) rfl ?_
 exact ⟨f, _, ms, rp, rfl, HM5.out _ _ _ _, hml, HSm.out, (((HE5.out.setCell (p := ⟨w.heap.size, 0, none⟩) (Nat.le_refl _) _).setCell (p := ⟨w.heap.size, 1, none⟩) (Nat.le_refl _) _).setCell (p := ⟨w.heap.size, 2, none⟩) (Nat.le_refl _) _).setCell (p := ⟨w.heap.size, 3, none⟩) (Nat.le_refl _) _⟩
end Go.Proofs.YtecgjdgfjgcmdaaGreat
namespace Go.Proofs.YtecgjdgfjgcmdaaGreat
open Go.RowKit
set_option maxHeartbeats 400000 in
theorem laterR_any (cv : Value) (n : Nat) (w : World) (ad : Option Addr) (len cap : Nat) (hcv : cv = .slice ad len cap) (hn : n ≤ 20) :
  Calls Tryz.prog 71 #[cv, .int .i64 n] w fun e w' => e = .returned (.pointer (some ⟨w.heap.size, 0, none⟩)) ∧ w' = w.alloc (.cells #[cv, .int .i64 (5 + 7 * n : Nat)] 140) := by
 subst hcv
 have k1 : IntKind.i64.wrap (7 * (n : Int)) = 7 * n := by rw [IntKind.wrap_i64]; omega
 have k2 : IntKind.i64.wrap (5 + 7 * (n : Int)) = 5 + 7 * n := by rw [IntKind.wrap_i64]; omega
 go_enter Tryz.func71, Tryz.ntmps71
 go_wp2
 go_ret
 exact ⟨rfl, by simp⟩
theorem src_newR {w : World} {cv : Value} (n : Nat) (h : CodeOk w w.heap.size cv) : SrcAt (w.alloc (.cells #[cv, .int .i64 (n : Nat)] 140)) w.heap.size n cv :=
 ⟨by simp, by simp, by simp, by simp, h.below ((Below.refl _ _).alloc (Nat.le_refl _) _)⟩
theorem Dr.pickAt (b a g : Nat) (cv : Value) (l : List Int) (w : World) (h : SrcAt w b a cv) (hg : b < g) (hN : NumsAt w g 0 l) (h1 : 1 ≤ l.length) (h2 : l.length ≤ 200) (ha : a ≤ 1000) :
  Calls Tryz.prog 73 #[.pointer (some ⟨b, 0, none⟩), .slice (some ⟨g, 0, none⟩) l.length l.length] w fun e w' => ∃ x : Int, e = .returned (.int .i64 x) ∧ Dr.Tick b (a + 1) cv w w' :=
 (pick_any b a g 0 _ cv l _ h (Nat.ne_of_gt hg) hN h1 h2 ha).mono fun _ _ ⟨x, _, h1, h4⟩ => ⟨x, h1, Dr.tick_of h h4⟩
def Dr.R3m (w : World) (e : Ending) (w' : World) : Prop := ∃ (f : Int) (ov : Value) (ms : List Ms) (rp : Rp), e = .returned (.tuple #[.int .i64 f, ov, ragg rp]) ∧ MSlice w' ov ms ∧ ms.length ≤ 241 ∧ Ext w w'
def Dr.R4 (w : World) (e : Ending) (w' : World) : Prop := ∃ (f : Int) (ov : Value) (ms : List Ms) (rp : Rp) (x : Int), e = .returned (.tuple #[.int .i64 f, ov, ragg rp, .int .i64 x]) ∧ MSlice w' ov ms ∧ ms.length ≤ 241 ∧ Ext w w'
def Dr.R5 (w : World) (e : Ending) (w' : World) : Prop := ∃ (f : Int) (ov : Value) (ms : List Ms) (rp : Rp) (x y : Int), e = .returned (.tuple #[.int .i64 f, ov, ragg rp, .int .i64 x, .int .i64 y]) ∧ MSlice w' ov ms ∧ ms.length ≤ 241 ∧ Ext w w'
set_option linter.unusedSimpArgs false in
set_option maxHeartbeats 8000000 in
set_option maxRecDepth 100000 in
theorem drawChangeMsg_any (cv : Value) (w : World) (hc : CodeOk w w.heap.size cv) :
  Calls Tryz.prog 37 #[cv] w (Dr.R4 w) := by
 have HWi : Hid (∀ wx, Ext w wx → Calls Tryz.prog 70 #[cv] wx (Dr.R3 wx)) := fun wx he => l11With_any cv wx (hc.later he)
 have HCo : Hid (∀ wx, Ext w wx → CodeOk wx wx.heap.size cv) := fun wx he => hc.later he
 obtain ⟨ad, len, cap, hcv, -⟩ := hc
 have HLa : Hid (∀ wx : World, Calls Tryz.prog 71 #[cv, .int .i64 3] wx fun e w' => e = .returned (.pointer (some ⟨wx.heap.size, 0, none⟩)) ∧ w' = wx.alloc (.cells #[cv, .int .i64 (5 + 7 * 3 : Nat)] 140)) := fun wx => laterR_any cv 3 wx ad len cap hcv (by omega)
 clear hcv
 go_enter Tryz.func37, Tryz.ntmps37
 go_wp2_with fail
 refine (HWi.out _ ((Ext.refl _).alloc _)).mono ?_
 rintro e w1 ⟨f, ov, ms, rp, rfl, hM, hml, -, hb⟩
 obtain ⟨ad9, cp9, rfl, -⟩ := hM _ (Dr.Kb.refl _ _)
 have HM1 : Hid (∀ W', Dr.Kb (w.heap.size + 1) w1 W' → MSlice W' (.slice ad9 ms.length cp9) ms) := by have h9 := hM; rw [World.size_alloc] at h9; exact h9
 have HE1 : Hid (Ext w w1) := ((Ext.refl _).alloc _).trans hb
 have HZ1 : Hid (ZBox w1 w.heap.size [.int .i64 0, .int .i64 0, .int .i64 0, .int .i64 0]) := (zbox_new w [.int .i64 0, .int .i64 0, .int .i64 0, .int .i64 0] 29).ext hb
 clear hb hM
 unfold ragg
 go_wp2_with fail
 refine (HLa.out _).mono ?_
 rintro e v4 ⟨rfl, hw⟩
 have HXv : Hid (Ext w1 v4) := by rw [hw]; exact ((Ext.refl _).alloc _).alloc _
 have HR4 : Hid (ZBox v4 w1.heap.size [.int .i64 rp.id, .int .i64 rp.view, .int .i64 rp.start, .int .i64 rp.done]) := by rw [hw]; exact (zbox_new w1 [.int .i64 rp.id, .int .i64 rp.view, .int .i64 rp.start, .int .i64 rp.done] 29).ext ((Ext.refl _).alloc _)
 have HZ4 : Hid (ZBox v4 w.heap.size [.int .i64 0, .int .i64 0, .int .i64 0, .int .i64 0]) := HZ1.out.ext HXv.out
 have HS3 : Hid (SrcAt v4 (w1.heap.size + 1) 26 cv) := by
  have h9 := src_newR (w := w1.alloc (.cells #[.int .i64 rp.id, .int .i64 rp.view, .int .i64 rp.start, .int .i64 rp.done] 29)) 26 (HCo.out _ (HE1.out.alloc _))
  rw [World.size_alloc] at h9
  rw [hw]; exact h9
 (try rw [World.size_alloc])
 clear hw HLa HWi HCo
 obtain ⟨R, hR⟩ : ∃ R, R = w1.heap.size := ⟨_, rfl⟩
 obtain ⟨b, hbq⟩ : ∃ b, b = w1.heap.size + 1 := ⟨_, rfl⟩
 obtain ⟨A0, hA0⟩ : ∃ A0 : Nat, A0 = 26 := ⟨_, rfl⟩
 have hA1 : A0 ≤ 40 := by omega
 have HS4 : Hid (SrcAt v4 b A0 cv) := by rw [hbq, hA0]; exact HS3.out
 rw [← hbq, ← hR]
 rw [← hR] at HR4
 have HRb : Hid (R + 1 = b ∧ w.heap.size < R ∧ R = w1.heap.size) := ⟨by omega, by have := HZ1.out.1; omega, hR⟩
 clear HS3 hbq hA0 hR
 have NX : Hid (∀ (a : Nat) (k : Int) (wx : World), SrcAt wx b a cv → 1 ≤ k → k ≤ 200 → a ≤ 1000 → Calls Tryz.prog 82 #[.pointer (some ⟨b, 0, none⟩), .int .i64 k] wx fun e w' => ∃ r : Int, e = .returned (.int .i64 r) ∧ 0 ≤ r ∧ r < k ∧ Dr.Tick b (a + 1) cv wx w') := fun a k wx h1 h2 h3 h4 => Dr.next b a cv k wx h1 h2 h3 h4
 have CH : Hid (∀ (a : Nat) (k : Int) (wx : World), SrcAt wx b a cv → 1 ≤ k → k ≤ 200 → a ≤ 1000 → Calls Tryz.prog 80 #[.pointer (some ⟨b, 0, none⟩), .int .i64 k] wx fun e w' => ∃ r : Bool, e = .returned (.bool r) ∧ Dr.Tick b (a + 1) cv wx w') := fun a k wx h1 h2 h3 h4 => Dr.chance b a cv k wx h1 h2 h3 h4
 have PN : Hid (∀ (a g : Nat) (l : List Int) (wx : World), SrcAt wx b a cv → b < g → NumsAt wx g 0 l → 1 ≤ l.length → l.length ≤ 200 → a ≤ 1000 → Calls Tryz.prog 73 #[.pointer (some ⟨b, 0, none⟩), .slice (some ⟨g, 0, none⟩) l.length l.length] wx fun e w' => ∃ x : Int, e = .returned (.int .i64 x) ∧ Dr.Tick b (a + 1) cv wx w') := fun a g l wx h1 h2 h3 h4 h5 h6 => Dr.pickAt b a g cv l wx h1 h2 h3 h4 h5 h6
 have PL : Hid (∀ (a : Nat) (wx : World), SrcAt wx b a cv → MSlice wx (.slice ad9 ms.length cp9) ms → a ≤ 990 → Calls Tryz.prog 72 #[.pointer (some ⟨b, 0, none⟩), .slice ad9 ms.length cp9, .int .i64 1] wx (Dr.One wx b a cv)) := fun a wx h1 h2 h3 => l10Place_any b a cv _ ms 1 wx h1 h2 hml h3
 have HS : Hid (∀ W', Below b v4 W' ∧ Dr.Kp b v4 W' → W'.cell? ⟨R, 0, none⟩ = some (.int .i64 rp.id) ∧ W'.cell? ⟨R, 1, none⟩ = some (.int .i64 rp.view) ∧ W'.cell? ⟨R, 2, none⟩ = some (.int .i64 rp.start) ∧ W'.cell? ⟨R, 3, none⟩ = some (.int .i64 rp.done)) := fun W' h => by
  have hz := HR4.out.kp h.2 (by have := HRb.out; omega)
  exact ⟨(hz.2 0 _ rfl).1, (hz.2 1 _ rfl).1, (hz.2 2 _ rfl).1, (hz.2 3 _ rfl).1⟩
 have HSs : Hid (∀ x0 x1 x2 x3 W, Below b v4 W ∧ Dr.Kp b v4 W → ((((W.setCell ⟨w.heap.size, 0, none⟩ x0).setCell ⟨w.heap.size, 1, none⟩ x1).setCell ⟨w.heap.size, 2, none⟩ x2).setCell ⟨w.heap.size, 3, none⟩ x3).cell? ⟨R, 0, none⟩ = some (.int .i64 rp.id) ∧ ((((W.setCell ⟨w.heap.size, 0, none⟩ x0).setCell ⟨w.heap.size, 1, none⟩ x1).setCell ⟨w.heap.size, 2, none⟩ x2).setCell ⟨w.heap.size, 3, none⟩ x3).cell? ⟨R, 1, none⟩ = some (.int .i64 rp.view) ∧ ((((W.setCell ⟨w.heap.size, 0, none⟩ x0).setCell ⟨w.heap.size, 1, none⟩ x1).setCell ⟨w.heap.size, 2, none⟩ x2).setCell ⟨w.heap.size, 3, none⟩ x3).cell? ⟨R, 2, none⟩ = some (.int .i64 rp.start) ∧ ((((W.setCell ⟨w.heap.size, 0, none⟩ x0).setCell ⟨w.heap.size, 1, none⟩ x1).setCell ⟨w.heap.size, 2, none⟩ x2).setCell ⟨w.heap.size, 3, none⟩ x3).cell? ⟨R, 3, none⟩ = some (.int .i64 rp.done)) := fun x0 x1 x2 x3 W h => by
  have hz := ((((HR4.out.kp h.2 (by have := HRb.out; omega)).set_ne (g := w.heap.size) (o := 0) (x := x0) (by have := HRb.out; omega)).set_ne (g := w.heap.size) (o := 1) (x := x1) (by have := HRb.out; omega)).set_ne (g := w.heap.size) (o := 2) (x := x2) (by have := HRb.out; omega)).set_ne (g := w.heap.size) (o := 3) (x := x3) (by have := HRb.out; omega)
  exact ⟨(hz.2 0 _ rfl).1, (hz.2 1 _ rfl).1, (hz.2 2 _ rfl).1, (hz.2 3 _ rfl).1⟩
 have HX4 : Hid (∀ W, Below b v4 W ∧ Dr.Kp b v4 W → Ext w1 W) := fun W h => Below.trans HXv.out (Below.mono h.1 (by have := HRb.out; omega))
 have HM4 : Hid (∀ W, Below b v4 W ∧ Dr.Kp b v4 W → MSlice W (.slice ad9 ms.length cp9) ms) := fun W h => HM1.out _ (Dr.Kb.of_ext (HX4.out W h))
 have HMs : Hid (∀ x0 x1 x2 x3 W, Below b v4 W ∧ Dr.Kp b v4 W → MSlice ((((W.setCell ⟨w.heap.size, 0, none⟩ x0).setCell ⟨w.heap.size, 1, none⟩ x1).setCell ⟨w.heap.size, 2, none⟩ x2).setCell ⟨w.heap.size, 3, none⟩ x3) (.slice ad9 ms.length cp9) ms) := fun x0 x1 x2 x3 W h => HM1.out _ (kb_set' (kb_set' (kb_set' (kb_set' (Dr.Kb.of_ext (HX4.out W h)) (by omega) _ _) (by omega) _ _) (by omega) _ _) (by omega) _ _)
 have HEs : Hid (∀ x0 x1 x2 x3 W, Below b v4 W ∧ Dr.Kp b v4 W → Ext w ((((W.setCell ⟨w.heap.size, 0, none⟩ x0).setCell ⟨w.heap.size, 1, none⟩ x1).setCell ⟨w.heap.size, 2, none⟩ x2).setCell ⟨w.heap.size, 3, none⟩ x3)) := fun x0 x1 x2 x3 W h => ((((HE1.out.trans (HX4.out W h)).setCell (p := ⟨w.heap.size, 0, none⟩) (Nat.le_refl _) _).setCell (p := ⟨w.heap.size, 1, none⟩) (Nat.le_refl _) _).setCell (p := ⟨w.heap.size, 2, none⟩) (Nat.le_refl _) _).setCell (p := ⟨w.heap.size, 3, none⟩) (Nat.le_refl _) _
 have HBv : Hid (w.heap.size < b ∧ b < v4.heap.size) := ⟨by have := HRb.out; omega, HS4.out.lt⟩
 go_wp2
 refine wp_region_held_drew (S := (fun W' : World => W'.cell? ⟨R, 0, none⟩ = some (.int .i64 rp.id) ∧ W'.cell? ⟨R, 1, none⟩ = some (.int .i64 rp.view) ∧ W'.cell? ⟨R, 2, none⟩ = some (.int .i64 rp.start) ∧ W'.cell? ⟨R, 3, none⟩ = some (.int .i64 rp.done))) (by kernel_rfl) (HS.out _ ⟨(Below.refl _ _).drew, Dr.Kp.ext ((Ext.refl _).drew)⟩) (fun hHeld => ?_)
 have T0 : Hid (Dr.Tick b A0 cv v4 v4.drew) := (Dr.Tick.start HS4.out).ext ((Ext.refl _).drew)
 refine tk 0 ⟨some 18, .move (.tmp 6), 2, oz57, #[], none⟩ ?_
 refine tk 1 ⟨some 19, .move (.tmp 7), 27, oz57, #[{ on := 6, ground := Ground.gcOnly Departure.lateStores }], none⟩ ?_
 refine tk 2 ⟨some 20, .load 29 (.tmp 8), 29, oz57, #[{ on := 7, ground := Ground.gcOnly Departure.lateStores }], none⟩ ?_
 refine tk 3 ⟨some 21, .move (.tmp 9), 92, oz57, #[], none⟩ ?_
 refine wpAnyH_ready (rs := [4]) (by kernel_rfl) (by simp) (AllReadyH.cons rfl (fun K hK => ?_) AllReadyH.nil)
 go_simp
 have Tq1 : Hid (Dr.Tick b (A0) cv v4 (v4.alloc (.cells #[.int .i64 1, .int .i64 2, .int .i64 3, .int .i64 0, .int .i64 21] 2)).drew) := T0.out.ext ((Ext.refl _).alloc _)
 have Nq1 : Hid (NumsAt (v4.alloc (.cells #[.int .i64 1, .int .i64 2, .int .i64 3, .int .i64 0, .int .i64 21] 2)).drew v4.heap.size 0 [1, 2, 3, 0, 21] ∧ v4.heap.size < (v4.alloc (.cells #[.int .i64 1, .int .i64 2, .int .i64 3, .int .i64 0, .int .i64 21] 2)).drew.heap.size ∧ b < v4.heap.size) := ⟨Dr.nums_new v4.drew [1, 2, 3, 0, 21] 2, by simp, by have := T0.out.2.2.1; have := HBv.out; (try simp only [World.size_drew] at *); omega⟩
 refine hK.out _ _ (by exact HS.out _ Tq1.out.2) (fun hHeldq1 => ?_)
 clear hK K
 generalize (v4.alloc (.cells #[.int .i64 1, .int .i64 2, .int .i64 3, .int .i64 0, .int .i64 21] 2)).drew = yq1 at *
 refine wpAnyH_ready (rs := [5]) (by kernel_rfl) (by simp) (AllReadyH.cons rfl (fun K hK => ?_) AllReadyH.nil)
 go_simp
 refine (PN.out (A0) v4.heap.size [1, 2, 3, 0, 21] _ Tq1.out.1 Nq1.out.2.2 Nq1.out.1 (by simp) (by simp) (by omega)).mono ?_
 rintro e yq2 ⟨xa, rfl, ht⟩
 have Tq2 : Hid (Dr.Tick b (A0 + 1) cv v4 yq2) := Tq1.out.trans ht
 clear ht
 refine hK.out _ _ (by exact HS.out _ Tq2.out.2) (fun hHeldq2 => ?_)
 clear hK K
 refine tk 6 ⟨some 2, .assign (.tmp 18), 2, oz57, #[⟨0, .data⟩, ⟨5, .chain⟩, ⟨0, .phase⟩, { on := 1, ground := Ground.textOnly Departure.lateStores }, { on := 2, ground := Ground.textOnly Departure.lateStores }, { on := 3, ground := Ground.textOnly Departure.lateStores }, { on := 4, ground := Ground.textOnly Departure.lateStores }, { on := 5, ground := Ground.textOnly Departure.lateStoresUnsure }], none⟩ ?_
 refine tk 7 ⟨some 3, .assign (.tmp 19), 27, oz57, #[⟨1, .data⟩, ⟨6, .chain⟩, ⟨0, .phase⟩, ⟨1, .phase⟩, { on := 2, ground := Ground.textOnly Departure.lateStores }, { on := 3, ground := Ground.textOnly Departure.lateStores }, { on := 4, ground := Ground.textOnly Departure.lateStores }, { on := 5, ground := Ground.textOnly Departure.lateStoresUnsure }, ⟨6, .phase⟩], none⟩ ?_
 refine wpAnyH_ready (rs := [8]) (by kernel_rfl) (by simp) (AllReadyH.cons rfl (fun K hK => ?_) AllReadyH.nil)
 have ZBq3 : Hid (ZBox yq2 w.heap.size [.int .i64 0, .int .i64 0, .int .i64 0, .int .i64 0]) := HZ4.out.kp Tq2.out.2.2 (by have := HBv.out; omega)
 obtain ⟨z0, n0⟩ := ZBq3.out.2 0 _ rfl
 obtain ⟨z1, n1⟩ := ZBq3.out.2 1 _ rfl
 obtain ⟨z2, n2⟩ := ZBq3.out.2 2 _ rfl
 obtain ⟨z3, n3⟩ := ZBq3.out.2 3 _ rfl
 go_simp
 refine hK.out _ _ (by exact HSs.out _ _ _ _ _ Tq2.out.2) (fun hHeldq3 => ?_)
 clear hK K
 refine tk 9 ⟨some 5, .assign (.tmp 23), 2, oz57, #[⟨5, .data⟩, ⟨8, .chain⟩, ⟨0, .phase⟩, ⟨1, .phase⟩, ⟨2, .phase⟩, ⟨3, .phase⟩, ⟨4, .phase⟩, ⟨5, .phase⟩, ⟨6, .phase⟩, ⟨7, .phase⟩, ⟨8, .phase⟩], none⟩ ?_
 refine wpAnyH_done (by kernel_rfl) ?_ _
 go_wp2
 refine bodyPost_ret (v := .tuple #[.int .i64 f, .slice ad9 ms.length cp9, ragg rp, .int .i64 xa]) (by simp [results, Tryz.results37, go_sem, ragg, z0, z1, z2, z3]) rfl ?_
 exact ⟨f, _, ms, rp, xa, rfl, HMs.out _ _ _ _ _ Tq2.out.2, hml, HEs.out _ _ _ _ _ Tq2.out.2⟩
end Go.Proofs.YtecgjdgfjgcmdaaGreat
namespace Go.Proofs.YtecgjdgfjgcmdaaGreat
open Go.RowKit
theorem src_put4 {W : World} {b a R : Nat} {cv x0 x1 x2 x3 : Value} (h : SrcAt W b a cv) (hne : R ≠ b) (hc : CodeOk ((((W.setCell ⟨R, 0, none⟩ x0).setCell ⟨R, 1, none⟩ x1).setCell ⟨R, 2, none⟩ x2).setCell ⟨R, 3, none⟩ x3) b cv) : SrcAt ((((W.setCell ⟨R, 0, none⟩ x0).setCell ⟨R, 1, none⟩ x1).setCell ⟨R, 2, none⟩ x2).setCell ⟨R, 3, none⟩ x3) b a cv := by
 obtain ⟨h1, h2, h3, h4, -⟩ := h
 have hi := Or.inl (b := (0 : Nat) ≠ 0) hne
 exact ⟨by rw [iset_ne _ _ _ _ _ _ (Or.inl hne), iset_ne _ _ _ _ _ _ (Or.inl hne), iset_ne _ _ _ _ _ _ (Or.inl hne), iset_ne _ _ _ _ _ _ (Or.inl hne)]; exact h1, by rw [iset_ne _ _ _ _ _ _ (Or.inl hne), iset_ne _ _ _ _ _ _ (Or.inl hne), iset_ne _ _ _ _ _ _ (Or.inl hne), iset_ne _ _ _ _ _ _ (Or.inl hne)]; exact h2, by simpa using h3, by simpa using h4, hc⟩
set_option linter.unusedSimpArgs false in
set_option maxHeartbeats 8000000 in
set_option maxRecDepth 100000 in
theorem drawNewMsg_any (cv : Value) (w : World) (hc : CodeOk w w.heap.size cv) :
  Calls Tryz.prog 39 #[cv] w (Dr.R3m w) := by
 have HWi : Hid (∀ wx, Ext w wx → Calls Tryz.prog 70 #[cv] wx (Dr.R3 wx)) := fun wx he => l11With_any cv wx (hc.later he)
 have HCr : Hid (∀ (wx : World) (n : Nat), Ext w wx → w.heap.size ≤ n → CodeOk wx n cv) := fun wx n he hn => hc.rise he hn
 have HCo : Hid (∀ wx, Ext w wx → CodeOk wx wx.heap.size cv) := fun wx he => hc.later he
 obtain ⟨ad, len, cap, hcv, -⟩ := hc
 have HLa : Hid (∀ wx : World, Calls Tryz.prog 71 #[cv, .int .i64 3] wx fun e w' => e = .returned (.pointer (some ⟨wx.heap.size, 0, none⟩)) ∧ w' = wx.alloc (.cells #[cv, .int .i64 (5 + 7 * 3 : Nat)] 140)) := fun wx => laterR_any cv 3 wx ad len cap hcv (by omega)
 clear hcv
 go_enter Tryz.func39, Tryz.ntmps39
 go_wp2_with fail
 refine (HWi.out _ ((Ext.refl _).alloc _)).mono ?_
 rintro e w1 ⟨f, ov, ms, rp, rfl, hM, hml, -, hb⟩
 obtain ⟨ad9, cp9, rfl, -⟩ := hM _ (Dr.Kb.refl _ _)
 have HM1 : Hid (∀ W', Dr.Kb (w.heap.size + 1) w1 W' → MSlice W' (.slice ad9 ms.length cp9) ms) := by have h9 := hM; rw [World.size_alloc] at h9; exact h9
 have HE1 : Hid (Ext w w1) := ((Ext.refl _).alloc _).trans hb
 have HZ1 : Hid (ZBox w1 w.heap.size [.int .i64 0, .int .i64 0, .int .i64 0, .int .i64 0]) := (zbox_new w [.int .i64 0, .int .i64 0, .int .i64 0, .int .i64 0] 29).ext hb
 clear hb hM
 unfold ragg
 go_wp2_with fail
 refine (HLa.out _).mono ?_
 rintro e v4 ⟨rfl, hw⟩
 have HXv : Hid (Ext w1 v4) := by rw [hw]; exact ((Ext.refl _).alloc _).alloc _
 have HR4 : Hid (ZBox v4 w1.heap.size [.int .i64 rp.id, .int .i64 rp.view, .int .i64 rp.start, .int .i64 rp.done]) := by rw [hw]; exact (zbox_new w1 [.int .i64 rp.id, .int .i64 rp.view, .int .i64 rp.start, .int .i64 rp.done] 29).ext ((Ext.refl _).alloc _)
 have HZ4 : Hid (ZBox v4 w.heap.size [.int .i64 0, .int .i64 0, .int .i64 0, .int .i64 0]) := HZ1.out.ext HXv.out
 have HS3 : Hid (SrcAt v4 (w1.heap.size + 1) 26 cv) := by
  have h9 := src_newR (w := w1.alloc (.cells #[.int .i64 rp.id, .int .i64 rp.view, .int .i64 rp.start, .int .i64 rp.done] 29)) 26 (HCo.out _ (HE1.out.alloc _))
  rw [World.size_alloc] at h9
  rw [hw]; exact h9
 (try rw [World.size_alloc])
 clear hw HLa HWi HCo
 obtain ⟨R, hR⟩ : ∃ R, R = w1.heap.size := ⟨_, rfl⟩
 obtain ⟨b, hbq⟩ : ∃ b, b = w1.heap.size + 1 := ⟨_, rfl⟩
 obtain ⟨A0, hA0⟩ : ∃ A0 : Nat, A0 = 26 := ⟨_, rfl⟩
 have hA1 : A0 ≤ 40 := by omega
 have HS4 : Hid (SrcAt v4 b A0 cv) := by rw [hbq, hA0]; exact HS3.out
 rw [← hbq, ← hR]
 rw [← hR] at HR4
 have HRb : Hid (R + 1 = b ∧ w.heap.size < R ∧ R = w1.heap.size) := ⟨by omega, by have := HZ1.out.1; omega, hR⟩
 clear HS3 hbq hA0 hR
 have NX : Hid (∀ (a : Nat) (k : Int) (wx : World), SrcAt wx b a cv → 1 ≤ k → k ≤ 200 → a ≤ 1000 → Calls Tryz.prog 82 #[.pointer (some ⟨b, 0, none⟩), .int .i64 k] wx fun e w' => ∃ r : Int, e = .returned (.int .i64 r) ∧ 0 ≤ r ∧ r < k ∧ Dr.Tick b (a + 1) cv wx w') := fun a k wx h1 h2 h3 h4 => Dr.next b a cv k wx h1 h2 h3 h4
 have CH : Hid (∀ (a : Nat) (k : Int) (wx : World), SrcAt wx b a cv → 1 ≤ k → k ≤ 200 → a ≤ 1000 → Calls Tryz.prog 80 #[.pointer (some ⟨b, 0, none⟩), .int .i64 k] wx fun e w' => ∃ r : Bool, e = .returned (.bool r) ∧ Dr.Tick b (a + 1) cv wx w') := fun a k wx h1 h2 h3 h4 => Dr.chance b a cv k wx h1 h2 h3 h4
 have PN : Hid (∀ (a g : Nat) (l : List Int) (wx : World), SrcAt wx b a cv → b < g → NumsAt wx g 0 l → 1 ≤ l.length → l.length ≤ 200 → a ≤ 1000 → Calls Tryz.prog 73 #[.pointer (some ⟨b, 0, none⟩), .slice (some ⟨g, 0, none⟩) l.length l.length] wx fun e w' => ∃ x : Int, e = .returned (.int .i64 x) ∧ Dr.Tick b (a + 1) cv wx w') := fun a g l wx h1 h2 h3 h4 h5 h6 => Dr.pickAt b a g cv l wx h1 h2 h3 h4 h5 h6
 have PL : Hid (∀ (a : Nat) (wx : World), SrcAt wx b a cv → MSlice wx (.slice ad9 ms.length cp9) ms → a ≤ 990 → Calls Tryz.prog 72 #[.pointer (some ⟨b, 0, none⟩), .slice ad9 ms.length cp9, .int .i64 1] wx (Dr.One wx b a cv)) := fun a wx h1 h2 h3 => l10Place_any b a cv _ ms 1 wx h1 h2 hml h3
 go_wp2_with fail
 refine (CH.out A0 2 _ HS4.out (by omega) (by omega) (by omega)).mono ?_
 rintro e v5 ⟨ch, rfl, ht⟩
 have HS5 : Hid (SrcAt v5 b (A0 + 1) cv) := ht.1
 have HR5 : Hid (ZBox v5 R [.int .i64 rp.id, .int .i64 rp.view, .int .i64 rp.start, .int .i64 rp.done]) := HR4.out.kp ht.2.2 (by have := HRb.out; omega)
 have HZ5 : Hid (ZBox v5 w.heap.size [.int .i64 0, .int .i64 0, .int .i64 0, .int .i64 0]) := HZ4.out.kp ht.2.2 (by have := HRb.out; omega)
 have HXw : Hid (Ext w1 v5) := Below.trans HXv.out (Below.mono ht.2.1 (by have := HRb.out; omega))
 have hA2 : A0 + 1 ≤ 41 := by omega
 clear ht HS4 HR4 HZ4 HXv hA1
 generalize A0 + 1 = A1 at *
 cases ch with
 | false =>
  have HS : Hid (∀ W', Below b v5 W' ∧ Dr.Kp b v5 W' → W'.cell? ⟨R, 0, none⟩ = some (.int .i64 rp.id) ∧ W'.cell? ⟨R, 1, none⟩ = some (.int .i64 rp.view) ∧ W'.cell? ⟨R, 2, none⟩ = some (.int .i64 rp.start) ∧ W'.cell? ⟨R, 3, none⟩ = some (.int .i64 rp.done)) := fun W' h => by
   have hz := HR5.out.kp h.2 (by have := HRb.out; omega)
   exact ⟨(hz.2 0 _ rfl).1, (hz.2 1 _ rfl).1, (hz.2 2 _ rfl).1, (hz.2 3 _ rfl).1⟩
  have HSs : Hid (∀ x0 x1 x2 x3 W, Below b v5 W ∧ Dr.Kp b v5 W → ((((W.setCell ⟨w.heap.size, 0, none⟩ x0).setCell ⟨w.heap.size, 1, none⟩ x1).setCell ⟨w.heap.size, 2, none⟩ x2).setCell ⟨w.heap.size, 3, none⟩ x3).cell? ⟨R, 0, none⟩ = some (.int .i64 rp.id) ∧ ((((W.setCell ⟨w.heap.size, 0, none⟩ x0).setCell ⟨w.heap.size, 1, none⟩ x1).setCell ⟨w.heap.size, 2, none⟩ x2).setCell ⟨w.heap.size, 3, none⟩ x3).cell? ⟨R, 1, none⟩ = some (.int .i64 rp.view) ∧ ((((W.setCell ⟨w.heap.size, 0, none⟩ x0).setCell ⟨w.heap.size, 1, none⟩ x1).setCell ⟨w.heap.size, 2, none⟩ x2).setCell ⟨w.heap.size, 3, none⟩ x3).cell? ⟨R, 2, none⟩ = some (.int .i64 rp.start) ∧ ((((W.setCell ⟨w.heap.size, 0, none⟩ x0).setCell ⟨w.heap.size, 1, none⟩ x1).setCell ⟨w.heap.size, 2, none⟩ x2).setCell ⟨w.heap.size, 3, none⟩ x3).cell? ⟨R, 3, none⟩ = some (.int .i64 rp.done)) := fun x0 x1 x2 x3 W h => by
   have hz := ((((HR5.out.kp h.2 (by have := HRb.out; omega)).set_ne (g := w.heap.size) (o := 0) (x := x0) (by have := HRb.out; omega)).set_ne (g := w.heap.size) (o := 1) (x := x1) (by have := HRb.out; omega)).set_ne (g := w.heap.size) (o := 2) (x := x2) (by have := HRb.out; omega)).set_ne (g := w.heap.size) (o := 3) (x := x3) (by have := HRb.out; omega)
   exact ⟨(hz.2 0 _ rfl).1, (hz.2 1 _ rfl).1, (hz.2 2 _ rfl).1, (hz.2 3 _ rfl).1⟩
  have HX4 : Hid (∀ W, Below b v5 W ∧ Dr.Kp b v5 W → Ext w1 W) := fun W h => Below.trans HXw.out (Below.mono h.1 (by have := HRb.out; omega))
  have HM4 : Hid (∀ W, Below b v5 W ∧ Dr.Kp b v5 W → MSlice W (.slice ad9 ms.length cp9) ms) := fun W h => HM1.out _ (Dr.Kb.of_ext (HX4.out W h))
  have HMs : Hid (∀ x0 x1 x2 x3 W, Below b v5 W ∧ Dr.Kp b v5 W → MSlice ((((W.setCell ⟨w.heap.size, 0, none⟩ x0).setCell ⟨w.heap.size, 1, none⟩ x1).setCell ⟨w.heap.size, 2, none⟩ x2).setCell ⟨w.heap.size, 3, none⟩ x3) (.slice ad9 ms.length cp9) ms) := fun x0 x1 x2 x3 W h => HM1.out _ (kb_set' (kb_set' (kb_set' (kb_set' (Dr.Kb.of_ext (HX4.out W h)) (by omega) _ _) (by omega) _ _) (by omega) _ _) (by omega) _ _)
  have HEs : Hid (∀ x0 x1 x2 x3 W, Below b v5 W ∧ Dr.Kp b v5 W → Ext w ((((W.setCell ⟨w.heap.size, 0, none⟩ x0).setCell ⟨w.heap.size, 1, none⟩ x1).setCell ⟨w.heap.size, 2, none⟩ x2).setCell ⟨w.heap.size, 3, none⟩ x3)) := fun x0 x1 x2 x3 W h => ((((HE1.out.trans (HX4.out W h)).setCell (p := ⟨w.heap.size, 0, none⟩) (Nat.le_refl _) _).setCell (p := ⟨w.heap.size, 1, none⟩) (Nat.le_refl _) _).setCell (p := ⟨w.heap.size, 2, none⟩) (Nat.le_refl _) _).setCell (p := ⟨w.heap.size, 3, none⟩) (Nat.le_refl _) _
  have HSd : Hid (∀ x0 x1 x2 x3, (((((v5.setCell ⟨w.heap.size, 0, none⟩ x0).setCell ⟨w.heap.size, 1, none⟩ x1).setCell ⟨w.heap.size, 2, none⟩ x2).setCell ⟨w.heap.size, 3, none⟩ x3).drew).cell? ⟨R, 0, none⟩ = some (.int .i64 rp.id) ∧ (((((v5.setCell ⟨w.heap.size, 0, none⟩ x0).setCell ⟨w.heap.size, 1, none⟩ x1).setCell ⟨w.heap.size, 2, none⟩ x2).setCell ⟨w.heap.size, 3, none⟩ x3).drew).cell? ⟨R, 1, none⟩ = some (.int .i64 rp.view) ∧ (((((v5.setCell ⟨w.heap.size, 0, none⟩ x0).setCell ⟨w.heap.size, 1, none⟩ x1).setCell ⟨w.heap.size, 2, none⟩ x2).setCell ⟨w.heap.size, 3, none⟩ x3).drew).cell? ⟨R, 2, none⟩ = some (.int .i64 rp.start) ∧ (((((v5.setCell ⟨w.heap.size, 0, none⟩ x0).setCell ⟨w.heap.size, 1, none⟩ x1).setCell ⟨w.heap.size, 2, none⟩ x2).setCell ⟨w.heap.size, 3, none⟩ x3).drew).cell? ⟨R, 3, none⟩ = some (.int .i64 rp.done)) := fun x0 x1 x2 x3 => by have h := HSs.out x0 x1 x2 x3 v5 ⟨Below.refl _ _, Dr.Kp.refl _ _⟩; simpa using h
  have HMd : Hid (∀ x0 x1 x2 x3, MSlice (((((v5.setCell ⟨w.heap.size, 0, none⟩ x0).setCell ⟨w.heap.size, 1, none⟩ x1).setCell ⟨w.heap.size, 2, none⟩ x2).setCell ⟨w.heap.size, 3, none⟩ x3).drew) (.slice ad9 ms.length cp9) ms) := fun x0 x1 x2 x3 => (HMs.out x0 x1 x2 x3 v5 ⟨Below.refl _ _, Dr.Kp.refl _ _⟩).ext ((Ext.refl _).drew)
  have HEd : Hid (∀ x0 x1 x2 x3, Ext w (((((v5.setCell ⟨w.heap.size, 0, none⟩ x0).setCell ⟨w.heap.size, 1, none⟩ x1).setCell ⟨w.heap.size, 2, none⟩ x2).setCell ⟨w.heap.size, 3, none⟩ x3).drew)) := fun x0 x1 x2 x3 => (HEs.out x0 x1 x2 x3 v5 ⟨Below.refl _ _, Dr.Kp.refl _ _⟩).drew
  have HBv : Hid (w.heap.size < b ∧ b < v5.heap.size) := ⟨by have := HRb.out; omega, HS5.out.lt⟩
  go_wp2
  refine wp_region_held_drew (S := (fun W' : World => W'.cell? ⟨R, 0, none⟩ = some (.int .i64 rp.id) ∧ W'.cell? ⟨R, 1, none⟩ = some (.int .i64 rp.view) ∧ W'.cell? ⟨R, 2, none⟩ = some (.int .i64 rp.start) ∧ W'.cell? ⟨R, 3, none⟩ = some (.int .i64 rp.done))) (by kernel_rfl) (HS.out _ ⟨(Below.refl _ _).drew, Dr.Kp.ext ((Ext.refl _).drew)⟩) (fun hHeld => ?_)
  have T0 : Hid (Dr.Tick b A1 cv v5 v5.drew) := (Dr.Tick.start HS5.out).ext ((Ext.refl _).drew)
  refine tk 0 ⟨some 20, .move (.tmp 5), 2, oz58, #[], none⟩ ?_
  refine tk 1 ⟨some 21, .move (.tmp 6), 27, oz58, #[{ on := 3, ground := Ground.gcOnly Departure.lateStores }], none⟩ ?_
  refine tk 2 ⟨some 22, .load 29 (.tmp 7), 29, oz58, #[{ on := 4, ground := Ground.gcOnly Departure.lateStores }], none⟩ ?_
  refine tk 3 ⟨some 2, .assign (.tmp 20), 2, oz58, #[⟨0, .data⟩, ⟨0, .phase⟩, { on := 1, ground := Ground.textOnly Departure.lateStores }, { on := 2, ground := Ground.textOnly Departure.lateStores }], none⟩ ?_
  refine tk 4 ⟨some 3, .assign (.tmp 21), 27, oz58, #[⟨1, .data⟩, ⟨3, .chain⟩, ⟨0, .phase⟩, ⟨1, .phase⟩, { on := 2, ground := Ground.textOnly Departure.lateStores }, ⟨3, .phase⟩], none⟩ ?_
  refine wpAnyH_ready (rs := [5]) (by kernel_rfl) (by simp) (AllReadyH.cons rfl (fun K hK => ?_) AllReadyH.nil)
  have ZBq1 := HZ5
  obtain ⟨z0, n0⟩ := ZBq1.out.2 0 _ rfl
  obtain ⟨z1, n1⟩ := ZBq1.out.2 1 _ rfl
  obtain ⟨z2, n2⟩ := ZBq1.out.2 2 _ rfl
  obtain ⟨z3, n3⟩ := ZBq1.out.2 3 _ rfl
  go_simp
  refine hK.out _ _ (by exact HSd.out _ _ _ _) (fun hHeldq1 => ?_)
  clear hK K
  refine wpAnyH_done (by kernel_rfl) ?_ _
  go_wp2
  refine bodyPost_ret (v := .tuple #[.int .i64 f, .slice ad9 ms.length cp9, ragg rp]) (by simp [results, Tryz.results39, go_sem, ragg, z0, z1, z2, z3]) rfl ?_
  exact ⟨f, _, ms, rp, rfl, HMd.out _ _ _ _, hml, HEd.out _ _ _ _⟩
 | true =>
  obtain ⟨rq, hrq⟩ : ∃ rq : Rp, rq = ⟨2, 1, -1, 0⟩ := ⟨_, rfl⟩
  have HX6 : Hid (Ext w1 ((((v5.setCell ⟨R, 0, none⟩ (.int .i64 2)).setCell ⟨R, 1, none⟩ (.int .i64 1)).setCell ⟨R, 2, none⟩ (.int .i64 (-1))).setCell ⟨R, 3, none⟩ (.int .i64 0))) := ((((HXw.out.setCell (p := ⟨R, 0, none⟩) (by have := HRb.out; show _ ≤ R; omega) _).setCell (p := ⟨R, 1, none⟩) (by have := HRb.out; show _ ≤ R; omega) _).setCell (p := ⟨R, 2, none⟩) (by have := HRb.out; show _ ≤ R; omega) _).setCell (p := ⟨R, 3, none⟩) (by have := HRb.out; show _ ≤ R; omega) _)
  have HS6 : Hid (SrcAt ((((v5.setCell ⟨R, 0, none⟩ (.int .i64 2)).setCell ⟨R, 1, none⟩ (.int .i64 1)).setCell ⟨R, 2, none⟩ (.int .i64 (-1))).setCell ⟨R, 3, none⟩ (.int .i64 0)) b A1 cv) := src_put4 HS5.out (by have := HRb.out; omega) (HCr.out _ _ (HE1.out.trans ((((HXw.out.setCell (p := ⟨R, 0, none⟩) (by have := HRb.out; show _ ≤ R; omega) _).setCell (p := ⟨R, 1, none⟩) (by have := HRb.out; show _ ≤ R; omega) _).setCell (p := ⟨R, 2, none⟩) (by have := HRb.out; show _ ≤ R; omega) _).setCell (p := ⟨R, 3, none⟩) (by have := HRb.out; show _ ≤ R; omega) _)) (by have := HRb.out; omega))
  have HZ6 : Hid (ZBox ((((v5.setCell ⟨R, 0, none⟩ (.int .i64 2)).setCell ⟨R, 1, none⟩ (.int .i64 1)).setCell ⟨R, 2, none⟩ (.int .i64 (-1))).setCell ⟨R, 3, none⟩ (.int .i64 0)) w.heap.size [.int .i64 0, .int .i64 0, .int .i64 0, .int .i64 0]) := ((((HZ5.out.set_ne (by have := HRb.out; omega)).set_ne (by have := HRb.out; omega)).set_ne (by have := HRb.out; omega)).set_ne (by have := HRb.out; omega))
  have HR6 : Hid (ZBox ((((v5.setCell ⟨R, 0, none⟩ (.int .i64 2)).setCell ⟨R, 1, none⟩ (.int .i64 1)).setCell ⟨R, 2, none⟩ (.int .i64 (-1))).setCell ⟨R, 3, none⟩ (.int .i64 0)) R [.int .i64 rq.id, .int .i64 rq.view, .int .i64 rq.start, .int .i64 rq.done]) := by rw [hrq]; exact (((HR5.out.put 0 (.int .i64 2)).put 1 (.int .i64 1)).put 2 (.int .i64 (-1))).put 3 (.int .i64 0)
  clear hrq
  obtain ⟨r0, s0⟩ := HR5.out.2 0 _ rfl
  obtain ⟨r1, s1⟩ := HR5.out.2 1 _ rfl
  obtain ⟨r2, s2⟩ := HR5.out.2 2 _ rfl
  obtain ⟨r3, s3⟩ := HR5.out.2 3 _ rfl
  go_wp2
  clear r0 r1 r2 r3 s0 s1 s2 s3 HR5 HZ5 HS5 HXw
  generalize ((((v5.setCell ⟨R, 0, none⟩ (.int .i64 2)).setCell ⟨R, 1, none⟩ (.int .i64 1)).setCell ⟨R, 2, none⟩ (.int .i64 (-1))).setCell ⟨R, 3, none⟩ (.int .i64 0)) = v6 at *
  have HS : Hid (∀ W', Below b v6 W' ∧ Dr.Kp b v6 W' → W'.cell? ⟨R, 0, none⟩ = some (.int .i64 rq.id) ∧ W'.cell? ⟨R, 1, none⟩ = some (.int .i64 rq.view) ∧ W'.cell? ⟨R, 2, none⟩ = some (.int .i64 rq.start) ∧ W'.cell? ⟨R, 3, none⟩ = some (.int .i64 rq.done)) := fun W' h => by
   have hz := HR6.out.kp h.2 (by have := HRb.out; omega)
   exact ⟨(hz.2 0 _ rfl).1, (hz.2 1 _ rfl).1, (hz.2 2 _ rfl).1, (hz.2 3 _ rfl).1⟩
  have HSs : Hid (∀ x0 x1 x2 x3 W, Below b v6 W ∧ Dr.Kp b v6 W → ((((W.setCell ⟨w.heap.size, 0, none⟩ x0).setCell ⟨w.heap.size, 1, none⟩ x1).setCell ⟨w.heap.size, 2, none⟩ x2).setCell ⟨w.heap.size, 3, none⟩ x3).cell? ⟨R, 0, none⟩ = some (.int .i64 rq.id) ∧ ((((W.setCell ⟨w.heap.size, 0, none⟩ x0).setCell ⟨w.heap.size, 1, none⟩ x1).setCell ⟨w.heap.size, 2, none⟩ x2).setCell ⟨w.heap.size, 3, none⟩ x3).cell? ⟨R, 1, none⟩ = some (.int .i64 rq.view) ∧ ((((W.setCell ⟨w.heap.size, 0, none⟩ x0).setCell ⟨w.heap.size, 1, none⟩ x1).setCell ⟨w.heap.size, 2, none⟩ x2).setCell ⟨w.heap.size, 3, none⟩ x3).cell? ⟨R, 2, none⟩ = some (.int .i64 rq.start) ∧ ((((W.setCell ⟨w.heap.size, 0, none⟩ x0).setCell ⟨w.heap.size, 1, none⟩ x1).setCell ⟨w.heap.size, 2, none⟩ x2).setCell ⟨w.heap.size, 3, none⟩ x3).cell? ⟨R, 3, none⟩ = some (.int .i64 rq.done)) := fun x0 x1 x2 x3 W h => by
   have hz := ((((HR6.out.kp h.2 (by have := HRb.out; omega)).set_ne (g := w.heap.size) (o := 0) (x := x0) (by have := HRb.out; omega)).set_ne (g := w.heap.size) (o := 1) (x := x1) (by have := HRb.out; omega)).set_ne (g := w.heap.size) (o := 2) (x := x2) (by have := HRb.out; omega)).set_ne (g := w.heap.size) (o := 3) (x := x3) (by have := HRb.out; omega)
   exact ⟨(hz.2 0 _ rfl).1, (hz.2 1 _ rfl).1, (hz.2 2 _ rfl).1, (hz.2 3 _ rfl).1⟩
  have HX4 : Hid (∀ W, Below b v6 W ∧ Dr.Kp b v6 W → Ext w1 W) := fun W h => Below.trans HX6.out (Below.mono h.1 (by have := HRb.out; omega))
  have HM4 : Hid (∀ W, Below b v6 W ∧ Dr.Kp b v6 W → MSlice W (.slice ad9 ms.length cp9) ms) := fun W h => HM1.out _ (Dr.Kb.of_ext (HX4.out W h))
  have HMs : Hid (∀ x0 x1 x2 x3 W, Below b v6 W ∧ Dr.Kp b v6 W → MSlice ((((W.setCell ⟨w.heap.size, 0, none⟩ x0).setCell ⟨w.heap.size, 1, none⟩ x1).setCell ⟨w.heap.size, 2, none⟩ x2).setCell ⟨w.heap.size, 3, none⟩ x3) (.slice ad9 ms.length cp9) ms) := fun x0 x1 x2 x3 W h => HM1.out _ (kb_set' (kb_set' (kb_set' (kb_set' (Dr.Kb.of_ext (HX4.out W h)) (by omega) _ _) (by omega) _ _) (by omega) _ _) (by omega) _ _)
  have HEs : Hid (∀ x0 x1 x2 x3 W, Below b v6 W ∧ Dr.Kp b v6 W → Ext w ((((W.setCell ⟨w.heap.size, 0, none⟩ x0).setCell ⟨w.heap.size, 1, none⟩ x1).setCell ⟨w.heap.size, 2, none⟩ x2).setCell ⟨w.heap.size, 3, none⟩ x3)) := fun x0 x1 x2 x3 W h => ((((HE1.out.trans (HX4.out W h)).setCell (p := ⟨w.heap.size, 0, none⟩) (Nat.le_refl _) _).setCell (p := ⟨w.heap.size, 1, none⟩) (Nat.le_refl _) _).setCell (p := ⟨w.heap.size, 2, none⟩) (Nat.le_refl _) _).setCell (p := ⟨w.heap.size, 3, none⟩) (Nat.le_refl _) _
  have HSd : Hid (∀ x0 x1 x2 x3, (((((v6.setCell ⟨w.heap.size, 0, none⟩ x0).setCell ⟨w.heap.size, 1, none⟩ x1).setCell ⟨w.heap.size, 2, none⟩ x2).setCell ⟨w.heap.size, 3, none⟩ x3).drew).cell? ⟨R, 0, none⟩ = some (.int .i64 rq.id) ∧ (((((v6.setCell ⟨w.heap.size, 0, none⟩ x0).setCell ⟨w.heap.size, 1, none⟩ x1).setCell ⟨w.heap.size, 2, none⟩ x2).setCell ⟨w.heap.size, 3, none⟩ x3).drew).cell? ⟨R, 1, none⟩ = some (.int .i64 rq.view) ∧ (((((v6.setCell ⟨w.heap.size, 0, none⟩ x0).setCell ⟨w.heap.size, 1, none⟩ x1).setCell ⟨w.heap.size, 2, none⟩ x2).setCell ⟨w.heap.size, 3, none⟩ x3).drew).cell? ⟨R, 2, none⟩ = some (.int .i64 rq.start) ∧ (((((v6.setCell ⟨w.heap.size, 0, none⟩ x0).setCell ⟨w.heap.size, 1, none⟩ x1).setCell ⟨w.heap.size, 2, none⟩ x2).setCell ⟨w.heap.size, 3, none⟩ x3).drew).cell? ⟨R, 3, none⟩ = some (.int .i64 rq.done)) := fun x0 x1 x2 x3 => by have h := HSs.out x0 x1 x2 x3 v6 ⟨Below.refl _ _, Dr.Kp.refl _ _⟩; simpa using h
  have HMd : Hid (∀ x0 x1 x2 x3, MSlice (((((v6.setCell ⟨w.heap.size, 0, none⟩ x0).setCell ⟨w.heap.size, 1, none⟩ x1).setCell ⟨w.heap.size, 2, none⟩ x2).setCell ⟨w.heap.size, 3, none⟩ x3).drew) (.slice ad9 ms.length cp9) ms) := fun x0 x1 x2 x3 => (HMs.out x0 x1 x2 x3 v6 ⟨Below.refl _ _, Dr.Kp.refl _ _⟩).ext ((Ext.refl _).drew)
  have HEd : Hid (∀ x0 x1 x2 x3, Ext w (((((v6.setCell ⟨w.heap.size, 0, none⟩ x0).setCell ⟨w.heap.size, 1, none⟩ x1).setCell ⟨w.heap.size, 2, none⟩ x2).setCell ⟨w.heap.size, 3, none⟩ x3).drew)) := fun x0 x1 x2 x3 => (HEs.out x0 x1 x2 x3 v6 ⟨Below.refl _ _, Dr.Kp.refl _ _⟩).drew
  have HBv : Hid (w.heap.size < b ∧ b < v6.heap.size) := ⟨by have := HRb.out; omega, HS6.out.lt⟩
  refine wp_region_held_drew (S := (fun W' : World => W'.cell? ⟨R, 0, none⟩ = some (.int .i64 rq.id) ∧ W'.cell? ⟨R, 1, none⟩ = some (.int .i64 rq.view) ∧ W'.cell? ⟨R, 2, none⟩ = some (.int .i64 rq.start) ∧ W'.cell? ⟨R, 3, none⟩ = some (.int .i64 rq.done))) (by kernel_rfl) (HS.out _ ⟨(Below.refl _ _).drew, Dr.Kp.ext ((Ext.refl _).drew)⟩) (fun hHeld => ?_)
  have T0 : Hid (Dr.Tick b A1 cv v6 v6.drew) := (Dr.Tick.start HS6.out).ext ((Ext.refl _).drew)
  refine tk 0 ⟨some 20, .move (.tmp 5), 2, oz58, #[], none⟩ ?_
  refine tk 1 ⟨some 21, .move (.tmp 6), 27, oz58, #[{ on := 3, ground := Ground.gcOnly Departure.lateStores }], none⟩ ?_
  refine tk 2 ⟨some 22, .load 29 (.tmp 7), 29, oz58, #[{ on := 4, ground := Ground.gcOnly Departure.lateStores }], none⟩ ?_
  refine tk 3 ⟨some 2, .assign (.tmp 20), 2, oz58, #[⟨0, .data⟩, ⟨0, .phase⟩, { on := 1, ground := Ground.textOnly Departure.lateStores }, { on := 2, ground := Ground.textOnly Departure.lateStores }], none⟩ ?_
  refine tk 4 ⟨some 3, .assign (.tmp 21), 27, oz58, #[⟨1, .data⟩, ⟨3, .chain⟩, ⟨0, .phase⟩, ⟨1, .phase⟩, { on := 2, ground := Ground.textOnly Departure.lateStores }, ⟨3, .phase⟩], none⟩ ?_
  refine wpAnyH_ready (rs := [5]) (by kernel_rfl) (by simp) (AllReadyH.cons rfl (fun K hK => ?_) AllReadyH.nil)
  have ZBq1 := HZ6
  obtain ⟨z0, n0⟩ := ZBq1.out.2 0 _ rfl
  obtain ⟨z1, n1⟩ := ZBq1.out.2 1 _ rfl
  obtain ⟨z2, n2⟩ := ZBq1.out.2 2 _ rfl
  obtain ⟨z3, n3⟩ := ZBq1.out.2 3 _ rfl
  go_simp
  refine hK.out _ _ (by exact HSd.out _ _ _ _) (fun hHeldq1 => ?_)
  clear hK K
  refine wpAnyH_done (by kernel_rfl) ?_ _
  go_wp2
  refine bodyPost_ret (v := .tuple #[.int .i64 f, .slice ad9 ms.length cp9, ragg rq]) (by simp [results, Tryz.results39, go_sem, ragg, z0, z1, z2, z3]) rfl ?_
  exact ⟨f, _, ms, rq, rfl, HMd.out _ _ _ _, hml, HEd.out _ _ _ _⟩
end Go.Proofs.YtecgjdgfjgcmdaaGreat
