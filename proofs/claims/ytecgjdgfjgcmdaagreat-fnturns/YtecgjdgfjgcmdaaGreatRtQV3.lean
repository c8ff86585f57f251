/- right changes: the program's and the specification's. -/
import Derived.Test.YtecgjdgfjgcmdaaGreatRtGV
namespace Go.Proofs.YtecgjdgfjgcmdaaGreat
open Go.RowKit Go.Maps
namespace Nst
theorem map_has (l : List Int) (i : Int) : Maps.has (map l) (.int .i64 i) = decide (i ∈ l) := by
 show (l.map kv).any (fun p => p.1.sameKey (.int .i64 i)) = _
 rw [List.any_map, Bool.eq_iff_iff, List.any_eq_true, decide_eq_true_eq]
 constructor
 ·rintro ⟨t, ht, h⟩
  have h : ((kv t).1.sameKey (.int .i64 i)) = true := h
  rw [kv_same] at h
  have : t = i := by simpa using h
  rw [← this]; exact ht
 ·intro h
  exact ⟨i, h, by show ((kv i).1.sameKey (.int .i64 i)) = true; rw [kv_same]; simp⟩
theorem zeroU (w : World) : (zeroValue 178).run Tryz.prog w = .ok (.agg #[]) w := by kernel_rfl

set_option maxHeartbeats 1000000 in
theorem has_any (b n : Nat) (l : List Int) (x : Int) (bb : Bool) (w : World) (hM : SMap w b n l) (hx : -100000 ≤ x ∧ x ≤ 100000) (hbb : decide (x ∈ l) = bb) :
  Calls Tryz.prog 175 #[.map (some b), .int .i64 x] w fun e w' => e = .returned (.bool bb) ∧ Ext w w' := by
 have hkey := key64 hx
 have hhas : Maps.has (map l) (.int .i64 x) = bb := (map_has l x).trans hbb
 have HM : Hid (SMap w b n l) := hM
 clear hM hbb hx
 go_enter Tryz.func175, Tryz.ntmps175
 go_wp2_with (at_lookup; refine wpList_lookup_own_unit _ rfl _ _ 167 rfl 2 178 law64 Tryz.underlying167 (zeroU _) b n _ rfl HM.out _ _ rfl hkey ?_; rw [hhas])
 go_ret
 exact ⟨rfl, (Ext.refl _).alloc _⟩
end Nst
set_option maxHeartbeats 2000000 in
theorem hasPrepared_any (f : Int) (v : Value) (ms : List Ms) (c : Ct) (w : World) (hS : MSlice w v ms) (hled : Msg.ledger f ms = 0) :
  Calls Tryz.prog 79 #[.int .i64 f, v, ctagg c] w fun e w' => e = .returned (.bool (Msg.enough f ms 2 c)) ∧ Ext w w' := by
 have HQ : Hid (∀ wx, Ext w wx → Calls Tryz.prog 132 #[.int .i64 f, v, .agg #[.int .i64 2, .int .i64 c.view, .int .i64 0, .int .i64 c.slot, .int .i64 c.value, .slice none 0 0, .slice none 0 0]] wx fun e w' => e = .returned (.bool (Msg.enough f ms 2 c)) ∧ Ext wx w') := fun wx he => hasQuorum_any f v ms (Msg.vm 2 c 0) (.slice none 0 0) (.slice none 0 0) wx (hS.ext he) (Msg.no_lists wx) hled rfl rfl
 obtain ⟨a, cap, rfl, -, -, -⟩ := hS
 unfold ctagg
 clear hled
 generalize Msg.enough f ms 2 c = B at *
 go_enter Tryz.func79, Tryz.ntmps79
 go_wp2_with fail
 refine (HQ.out _ ((Ext.refl _).alloc _)).mono ?_
 rintro e w2 ⟨rfl, hb⟩
 have HE2 : Hid (Ext w w2) := ((Ext.refl _).alloc _).trans hb
 clear hb
 go_wp2
 go_ret
 exact ⟨rfl, HE2.out⟩

set_option maxHeartbeats 2000000 in
theorem findMsg_yes (v : Value) (ms : List Ms) (p kind : Int) (z : Ms) (w : World) (hS : MSlice w v ms) (hz : Msg.nth ms p = some z) (hk : z.kind = kind) :
  Calls Tryz.prog 75 #[v, .int .i64 p, .int .i64 kind] w fun e w' => ∃ b o, e = .returned (.pointer (some ⟨b, o, none⟩)) ∧ b < w.heap.size ∧ MAt w b o z ∧ w' = w := by
 obtain ⟨h0, h1, h2⟩ := Msg.nth_some hz
 obtain ⟨k, rfl⟩ : ∃ k : Nat, p = k := ⟨p.toNat, by omega⟩
 have h2 : ms[k]? = some z := h2
 obtain ⟨b, off, cap, rfl, hlt, hlm, hcm, hb, hm⟩ := hS.at2 h2
 have HA : Hid (b < w.heap.size ∧ MAt w b (off + k * 7) z) := ⟨hb, hm⟩
 obtain ⟨vz, uz, ⟨d0, -, -, -, -, -, -⟩, -⟩ := hm
 have e9 : IntKind.i64.wrap ((ms.length : Int) - 1) = (ms.length : Int) - 1 := by rw [IntKind.wrap_i64]; omega
 have HU : Hid (Calls Tryz.prog 84 #[.int .i64 (k : Int), .int .i64 ((ms.length : Int) - 1)] w fun e w' => e = .returned (.bool true) ∧ w' = w) := by
  have q : (decide (0 ≤ (k : Int)) && decide ((k : Int) ≤ (ms.length : Int) - 1)) = true := by simp; omega
  rw [← q]; exact isUpToM_any _ _ w
 have hg : (z.kind != kind) = false := by simpa using hk
 clear h0 h1 h2 hz hk hb hS
 go_enter Tryz.func75, Tryz.ntmps75
 go_wp2_with fail
 refine HU.out.mono ?_
 rintro e w9 ⟨rfl, hw⟩
 rw [hw]
 clear hw w9
 go_wp2
 go_ret
 exact ⟨b, _, rfl, HA.out.1, HA.out.2, rfl⟩

set_option maxHeartbeats 2000000 in
theorem findMsg_no (v : Value) (ms : List Ms) (p kind : Int) (w : World) (hS : MSlice w v ms) (hz : Msg.kindAt ms p kind = false) :
  Calls Tryz.prog 75 #[v, .int .i64 p, .int .i64 kind] w fun e w' => e = .returned (.pointer none) ∧ w' = w := by
 by_cases hp : 0 ≤ p ∧ p < (ms.length : Int)
 ·obtain ⟨z, h2, h3⟩ := Msg.nth_at hp.1 hp.2
  obtain ⟨k, rfl⟩ : ∃ k : Nat, p = k := ⟨p.toNat, by omega⟩
  have h2 : ms[k]? = some z := h2
  rw [Msg.kindAt_some h3, decide_eq_false_iff_not] at hz
  obtain ⟨b, off, cap, rfl, hlt, hlm, hcm, hb, hm⟩ := hS.at2 h2
  obtain ⟨vz, uz, ⟨d0, -, -, -, -, -, -⟩, -⟩ := hm
  have e9 : IntKind.i64.wrap ((ms.length : Int) - 1) = (ms.length : Int) - 1 := by rw [IntKind.wrap_i64]; omega
  have HU : Hid (Calls Tryz.prog 84 #[.int .i64 (k : Int), .int .i64 ((ms.length : Int) - 1)] w fun e w' => e = .returned (.bool true) ∧ w' = w) := by
   have q : (decide (0 ≤ (k : Int)) && decide ((k : Int) ≤ (ms.length : Int) - 1)) = true := by simp; omega
   rw [← q]; exact isUpToM_any _ _ w
  have hg : (z.kind != kind) = true := by simpa using hz
  clear h2 h3 hz hp hb hS
  go_enter Tryz.func75, Tryz.ntmps75
  go_wp2_with fail
  refine HU.out.mono ?_
  rintro e w9 ⟨rfl, hw⟩
  rw [hw]
  clear hw w9
  go_wp2
  go_ret
  exact ⟨rfl, rfl⟩
 ·obtain ⟨a, cap, rfl, hlc, hcm, -⟩ := hS
  unfold maxLen at hcm
  have e9 : IntKind.i64.wrap ((ms.length : Int) - 1) = (ms.length : Int) - 1 := by rw [IntKind.wrap_i64]; omega
  have HU : Hid (Calls Tryz.prog 84 #[.int .i64 p, .int .i64 ((ms.length : Int) - 1)] w fun e w' => e = .returned (.bool false) ∧ w' = w) := by
   have q : (decide (0 ≤ p) && decide (p ≤ (ms.length : Int) - 1)) = false := by rw [Bool.and_eq_false_iff]; simp; omega
   rw [← q]; exact isUpToM_any _ _ w
  clear hp hz
  go_enter Tryz.func75, Tryz.ntmps75
  go_wp2_with fail
  refine HU.out.mono ?_
  rintro e w9 ⟨rfl, hw⟩
  rw [hw]
  clear hw w9
  go_wp2
  go_ret
  exact ⟨rfl, rfl⟩

set_option maxHeartbeats 4000000 in
set_option maxRecDepth 100000 in
theorem isRightChange_any (f : Int) (v : Value) (ms : List Ms) (z : Ms) (b o : Nat) (w : World) (hS : MSlice w v ms) (hled : Msg.ledger f ms = 0) (hm : MAt w b o z) (hv : 0 ≤ z.view) :
  Calls Tryz.prog 176 #[.int .i64 f, v, .pointer (some ⟨b, o, none⟩)] w fun e w' => e = .returned (.bool (Msg.changeB f ms z)) ∧ Ext w w' := by
 have HQ : Hid (∀ (c : Ct) (wx : World), Ext w wx → Calls Tryz.prog 79 #[.int .i64 f, v, ctagg c] wx fun e w' => e = .returned (.bool (Msg.enough f ms 2 c)) ∧ Ext wx w') := fun c wx he => hasPrepared_any f v ms c wx (hS.ext he) hled
 obtain ⟨a, cap, rfl, -, -, -⟩ := hS
 clear hled
 obtain ⟨vz, uz, ⟨d0, d1, d2, d3, d4, d5, d6⟩, hL⟩ := hm
 obtain ⟨⟨ac, cc, rfl, hlc, hcm, hcx⟩, -⟩ := hL
 have HX : Hid (0 < z.certs.length → ∃ b off, ac = some ⟨b, off, none⟩ ∧ b < w.heap.size ∧ CtsAt w b off z.certs) := hcx
 unfold maxLen at hcm
 clear hcx
 unfold ctagg at HQ
 by_cases hk : z.kind = 4
 ·by_cases h1 : 1 ≤ z.view
  ·rw [Msg.changeB_is ⟨hk, h1⟩]
   have g1 : (z.kind != 4) = false := by simpa using hk
   have g2 : (z.view == 0) = false := by simp; omega
   clear hk h1 hv
   go_enter Tryz.func176, Tryz.ntmps176
   go_wp2
   clear d0 d1 d2 d3 d4 d5 d6
   go_loopw [26] (fun i wr => ∃ (k : Nat), k ≤ z.certs.length ∧ i = .int .i64 k ∧ Hid ((z.certs.take k).all (Msg.enough f ms 2) = true) ∧ Hid (Ext w wr)) (fun i _ => z.certs.length - (intOf i).toNat)
   case atStart => exact ⟨0, Nat.zero_le _, rfl, rfl, Ext.refl _⟩
   case round =>
    obtain ⟨k, hk, rfl, HA, HE⟩ := hrel
    by_cases hlt : k < z.certs.length
    ·obtain ⟨c, hck⟩ : ∃ c, z.certs[k]? = some c := ⟨_, List.getElem?_eq_getElem hlt⟩
     obtain ⟨b1, off, rfl, hb1, hN⟩ := HX.out (by omega)
     obtain ⟨c0, c1, c2⟩ := hN.ext hb1 HE.out k c hck
     have HZ : Hid (z.certs[k]? = some c) := hck
     clear hck hN
     go_wp2_with fail
     refine (HQ.out c _ (HE.out.alloc _)).mono ?_
     rintro e w2 ⟨rfl, hb2⟩
     have HE2 : Hid (Ext w w2) := (HE.out.alloc _).trans hb2
     clear hb2 c0 c1 c2
     cases hq : Msg.enough f ms 2 c with
     | true =>
      have HA2 : Hid ((z.certs.take (k + 1)).all (Msg.enough f ms 2) = true) := Msg.all_step HZ.out HA.out hq
      clear hq
      go_wp2
      exact ⟨⟨k + 1, by omega, by go_num, HA2, HE2⟩, by simp [intOf]; omega⟩
     | false =>
      have HA2 : Hid (z.certs.all (Msg.enough f ms 2) = false) := Msg.all_no HZ.out hq
      clear hq
      go_wp2
      go_ret
      exact ⟨ret_bool HA2.out.symm, HE2.out⟩
    ·have hke : k = z.certs.length := by omega
     have HA2 : Hid (z.certs.all (Msg.enough f ms 2) = true) := by have := HA.out; rw [hke, List.take_length] at this; exact this
     subst hke
     go_wp2
     go_ret
     exact ⟨ret_bool HA2.out.symm, HE.out⟩
  ·rw [Msg.changeB_no (fun h => h1 h.2)]
   have g1 : (z.kind != 4) = false := by simpa using hk
   have g2 : (z.view == 0) = true := by simp; omega
   clear hk h1 hv
   go_enter Tryz.func176, Tryz.ntmps176
   go_wp2
   go_ret
   exact ⟨rfl, Ext.refl _⟩
 ·rw [Msg.changeB_no (fun h => hk h.1)]
  have g1 : (z.kind != 4) = true := by simpa using hk
  clear hk hv
  go_enter Tryz.func176, Tryz.ntmps176
  go_wp2
  go_ret
  exact ⟨rfl, Ext.refl _⟩

end Go.Proofs.YtecgjdgfjgcmdaaGreat
