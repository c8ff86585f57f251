/- the specification's right changes. -/
import Derived.Test.YtecgjdgfjgcmdaaGreatRtGV
namespace Go.Proofs.YtecgjdgfjgcmdaaGreat
open Go.RowKit
set_option maxHeartbeats 2000000 in
theorem l10Is_any (v : Value) (ms : List Ms) (p kind : Int) (bb : Bool) (w : World) (hS : MSlice w v ms) (hbb : Msg.kindAt ms p kind = bb) :
  Calls Tryz.prog 156 #[v, .int .i64 p, .int .i64 kind] w fun e w' => e = .returned (.bool bb) ∧ w' = w := by
 by_cases hp : 0 ≤ p ∧ p < (ms.length : Int)
 ·obtain ⟨z, h2, h3⟩ := Msg.nth_at hp.1 hp.2
  obtain ⟨k, rfl⟩ : ∃ k : Nat, p = k := ⟨p.toNat, by omega⟩
  have h2 : ms[k]? = some z := h2
  rw [Msg.kindAt_some h3] at hbb
  obtain ⟨b, off, cap, rfl, hlt, hlm, hcm, hb, hm⟩ := hS.at2 h2
  obtain ⟨vz, uz, ⟨d0, -, -, -, -, -, -⟩, -⟩ := hm
  have e9 : IntKind.i64.wrap ((ms.length : Int) - 1) = (ms.length : Int) - 1 := by rw [IntKind.wrap_i64]; omega
  have HU : Hid (Calls Tryz.prog 57 #[.int .i64 (k : Int), .int .i64 0, .int .i64 ((ms.length : Int) - 1)] w fun e w' => e = .returned (.bool true) ∧ w' = w) := l1In_isM _ _ _ true w (by simp; omega)
  have hg : (z.kind == kind) = bb := by rw [← hbb]; by_cases h : z.kind = kind <;> simp [h]
  clear h2 h3 hp hb hbb hS
  go_enter Tryz.func156, Tryz.ntmps156
  go_wp2_with fail
  refine HU.out.mono ?_
  rintro e w9 ⟨rfl, hw⟩
  rw [hw]
  clear hw w9
  go_wp2
  go_ret
  exact ⟨rfl, rfl⟩
 ·rw [Msg.kindAt_none (Msg.nth_out hp)] at hbb
  subst hbb
  obtain ⟨a, cap, rfl, hlc, hcm, -⟩ := hS
  unfold maxLen at hcm
  have e9 : IntKind.i64.wrap ((ms.length : Int) - 1) = (ms.length : Int) - 1 := by rw [IntKind.wrap_i64]; omega
  have HU : Hid (Calls Tryz.prog 57 #[.int .i64 p, .int .i64 0, .int .i64 ((ms.length : Int) - 1)] w fun e w' => e = .returned (.bool false) ∧ w' = w) := l1In_isM _ _ _ false w (by rw [Bool.and_eq_false_iff]; simp; omega)
  clear hp
  go_enter Tryz.func156, Tryz.ntmps156
  go_wp2_with fail
  refine HU.out.mono ?_
  rintro e w9 ⟨rfl, hw⟩
  rw [hw]
  clear hw w9
  go_wp2
  go_ret
  exact ⟨rfl, rfl⟩

set_option maxHeartbeats 4000000 in
set_option maxRecDepth 100000 in
theorem l10Change_any (f : Int) (v : Value) (ms : List Ms) (p : Int) (w : World) (hS : MSlice w v ms) (hf0 : 1 ≤ f) (hf1 : f ≤ 2) :
  Calls Tryz.prog 120 #[.int .i64 f, v, .int .i64 p] w fun e w' => e = .returned (.bool (Msg.changeAt f ms p)) ∧ Ext w w' := by
 have HI : Hid (∀ bb, Msg.kindAt ms p 4 = bb → Calls Tryz.prog 156 #[v, .int .i64 p, .int .i64 4] w fun e w' => e = .returned (.bool bb) ∧ w' = w) := fun bb h => l10Is_any v ms p 4 bb w hS h
 have HQ : Hid (∀ (c : Ct) (wx : World), Ext w wx → Calls Tryz.prog 117 #[.int .i64 f, v, .int .i64 2, ctagg c] wx fun e w' => e = .returned (.bool (Msg.enough f ms 2 c)) ∧ Ext wx w') := fun c wx he => l9Enough_any f v ms 2 c wx (hS.ext he) hf0 hf1
 unfold ctagg at HQ
 cases hk : Msg.kindAt ms p 4 with
 | false =>
  have HI2 : Hid (Calls Tryz.prog 156 #[v, .int .i64 p, .int .i64 4] w fun e w' => e = .returned (.bool false) ∧ w' = w) := HI.out false hk
  have HZ : Msg.changeAt f ms p = false := by
   cases hn : Msg.nth ms p with
   | none => exact Msg.changeAt_none hn
   | some z =>
    rw [Msg.kindAt_some hn, decide_eq_false_iff_not] at hk
    rw [Msg.changeAt_some hn]
    exact Msg.changeB_no (fun h => hk h.1)
  rw [HZ]
  obtain ⟨a, cap, rfl, -, -, -⟩ := hS
  clear HZ hk HI HQ
  go_enter Tryz.func120, Tryz.ntmps120
  go_wp2_with fail
  refine HI2.out.mono ?_
  rintro e w9 ⟨rfl, hw⟩
  rw [hw]
  clear hw w9
  go_wp2
  go_ret
  exact ⟨rfl, Ext.refl _⟩
 | true =>
  have HI2 : Hid (Calls Tryz.prog 156 #[v, .int .i64 p, .int .i64 4] w fun e w' => e = .returned (.bool true) ∧ w' = w) := HI.out true hk
  cases hn : Msg.nth ms p with
  | none => rw [Msg.kindAt_none hn] at hk; cases hk
  | some z =>
   rw [Msg.kindAt_some hn, decide_eq_true_eq] at hk
   rw [Msg.changeAt_some hn]
   obtain ⟨h0, h1, h2⟩ := Msg.nth_some hn
   obtain ⟨q, rfl⟩ : ∃ k : Nat, p = k := ⟨p.toNat, by omega⟩
   have h2 : ms[q]? = some z := h2
   obtain ⟨b, off, cap, rfl, hlt, hlm, hcm, hb, hm⟩ := hS.at2 h2
   have HMz : Hid (MAt w b (off + q * 7) z ∧ b < w.heap.size) := ⟨hm, hb⟩
   clear h0 h1 h2 hn hS
   obtain ⟨vz, uz, ⟨d0, d1, d2, d3, d4, d5, d6⟩, hL⟩ := hm
   obtain ⟨⟨ac, cc, rfl, hlc, hccm, hcx⟩, -⟩ := hL
   have HX : Hid (0 < z.certs.length → ∃ b off, ac = some ⟨b, off, none⟩ ∧ b < w.heap.size ∧ CtsAt w b off z.certs) := hcx
   unfold maxLen at hccm
   clear hcx
   by_cases h1 : 1 ≤ z.view
   ·rw [Msg.changeB_is ⟨hk, h1⟩]
    have g2 : ¬ z.view < 1 := by omega
    have HD5 : Hid (∀ wx, Ext w wx → wx.cell? ⟨b, off + q * 7 + 5, none⟩ = some (.slice ac z.certs.length cc)) := fun wx he => ((Ext.cell he).1 _ _ hb).trans d5
    clear hk h1
    go_enter Tryz.func120, Tryz.ntmps120
    go_wp2_with fail
    refine HI2.out.mono ?_
    rintro e w9 ⟨rfl, hw⟩
    rw [hw]
    clear hw w9
    go_wp2
    clear d0 d1 d2 d3 d4 d5 d6
    go_loopw [7] (fun i wr => ∃ (k : Nat), k ≤ z.certs.length ∧ i = .int .i64 k ∧ Hid ((z.certs.take k).all (Msg.enough f ms 2) = true) ∧ Hid (Ext w wr)) (fun i _ => z.certs.length - (intOf i).toNat)
    case atStart => exact ⟨0, Nat.zero_le _, rfl, rfl, Ext.refl _⟩
    case round =>
     obtain ⟨k, hk, rfl, HA, HE⟩ := hrel
     have d5 := HD5.out _ HE.out
     by_cases hlt2 : k < z.certs.length
     ·obtain ⟨c, hck⟩ : ∃ c, z.certs[k]? = some c := ⟨_, List.getElem?_eq_getElem hlt2⟩
      obtain ⟨b1, off1, rfl, hb1, hN⟩ := HX.out (by omega)
      obtain ⟨c0, c1, c2⟩ := hN.ext hb1 HE.out k c hck
      have HZ : Hid (z.certs[k]? = some c) := hck
      clear hck hN
      go_wp2_with fail
      refine (HQ.out c _ HE.out).mono ?_
      rintro e w2 ⟨rfl, hb2⟩
      have HE2 : Hid (Ext w w2) := HE.out.trans hb2
      clear hb2 c0 c1 c2 d5
      cases hq : Msg.enough f ms 2 c with
      | true =>
       have HA2 : Hid ((z.certs.take (k + 1)).all (Msg.enough f ms 2) = true) := Msg.all_step HZ.out HA.out hq
       clear hq
       go_wp2
       exact ⟨⟨k + 1, by omega, by go_num, HA2, HE2⟩, by simp [intOf]; omega⟩
      | false =>
       have HA2 : Hid (z.certs.all (Msg.enough f ms 2) = false) := Msg.all_no HZ.out hq
       clear hq
       go_wp2
       go_ret
       exact ⟨ret_bool HA2.out.symm, HE2.out⟩
     ·have hke : k = z.certs.length := by omega
      have HA2 : Hid (z.certs.all (Msg.enough f ms 2) = true) := by have := HA.out; rw [hke, List.take_length] at this; exact this
      subst hke
      go_wp2
      go_ret
      exact ⟨ret_bool HA2.out.symm, HE.out⟩
   ·rw [Msg.changeB_no (fun h => h1 h.2)]
    have g2 : z.view < 1 := by omega
    clear hk h1
    go_enter Tryz.func120, Tryz.ntmps120
    go_wp2_with fail
    refine HI2.out.mono ?_
    rintro e w9 ⟨rfl, hw⟩
    rw [hw]
    clear hw w9
    go_wp2
    go_ret
    exact ⟨rfl, Ext.refl _⟩

set_option maxHeartbeats 4000000 in
set_option maxRecDepth 100000 in
theorem l10From_any (v : Value) (ms : List Ms) (u : Value) (l : List Int) (x : Int) (w : World) (hS : MSlice w v ms) (hI : ISlice w u l) (hin : ∀ p ∈ l, 0 ≤ p ∧ p < (ms.length : Int)) :
  Calls Tryz.prog 121 #[v, u, .int .i64 x] w fun e w' => e = .returned (.bool (Msg.fromIn ms l x)) ∧ w' = w := by
 have HS : Hid (MSlice w v ms) := hS
 obtain ⟨a, cap, rfl, -, -, -⟩ := hS
 obtain ⟨a2, cap2, rfl, hlc, hcm, hx⟩ := hI
 have HX : Hid (0 < l.length → ∃ b off, a2 = some ⟨b, off, none⟩ ∧ b < w.heap.size ∧ NumsAt w b off l) := hx
 have HIn : Hid (∀ p ∈ l, 0 ≤ p ∧ p < (ms.length : Int)) := hin
 clear hx hin
 unfold maxLen at hcm
 go_enter Tryz.func121, Tryz.ntmps121
 go_wp2
 go_loopw [7] (fun i wr => ∃ (k : Nat), k ≤ l.length ∧ i = .int .i64 k ∧ Hid (Msg.fromIn ms (l.take k) x = false) ∧ wr = w) (fun i _ => l.length - (intOf i).toNat)
 case atStart => exact ⟨0, Nat.zero_le _, rfl, rfl, rfl⟩
 case round =>
  obtain ⟨k, hk, rfl, HA, hw⟩ := hrel
  subst hw
  by_cases hlt : k < l.length
  ·obtain ⟨p, hpk⟩ : ∃ p, l[k]? = some p := ⟨_, List.getElem?_eq_getElem hlt⟩
   obtain ⟨b, off, rfl, hb, hN⟩ := HX.out (by omega)
   have d0 := hN k p hpk
   have hp := HIn.out p (List.mem_of_getElem? hpk)
   obtain ⟨z, h2, h3⟩ := Msg.nth_at hp.1 hp.2
   obtain ⟨q, rfl⟩ : ∃ k : Nat, p = k := ⟨p.toNat, by omega⟩
   have h2 : ms[q]? = some z := h2
   obtain ⟨b1, off1, cap1, e1, hlt1, hlm1, hcm1, hb1, hm⟩ := HS.out.at2 h2
   injection e1 with e1 e4 e5
   subst e1 e5
   obtain ⟨vz, uz, ⟨c0, c1, c2, -, -, -, -⟩, -⟩ := hm
   have HZ : Hid (l[k]? = some (q : Int)) := hpk
   have HF : Hid (Msg.fromAt ms (q : Int) = z.from_) := Msg.fromAt_some h3
   clear hpk hN h2 h3 hp c0 c1 e4
   by_cases hq : z.from_ = x
   ·have g : (z.from_ == x) = true := by simpa using hq
    have HA2 : Hid (Msg.fromIn ms l x = true) := Msg.fromIn_yes HZ.out (HF.out.trans hq)
    clear hq
    go_wp2
    go_ret
    exact ⟨ret_bool HA2.out.symm, rfl⟩
   ·have g : (z.from_ == x) = false := by simpa using hq
    have HA2 : Hid (Msg.fromIn ms (l.take (k + 1)) x = false) := by
     show _ = _
     rw [Msg.fromIn_take HZ.out, HA.out, HF.out, decide_eq_false hq]; rfl
    clear hq
    go_wp2
    exact ⟨⟨k + 1, by omega, by go_num, HA2, by first | rfl | trivial⟩, by simp [intOf]; omega⟩
  ·have hke : k = l.length := by omega
   have HA2 : Hid (Msg.fromIn ms l x = false) := by have := HA.out; rw [hke, List.take_length] at this; exact this
   subst hke
   go_wp2
   go_ret
   exact ⟨ret_bool HA2.out.symm, rfl⟩
end Go.Proofs.YtecgjdgfjgcmdaaGreat
