/- the specification's votes, what is decided, the log. -/
import Derived.Test.YtecgjdgfjgcmdaaGreatRtQS1
namespace Go.Proofs.YtecgjdgfjgcmdaaGreat
open Go.RowKit
theorem Led.own_ext {w w' : World} {base : Nat} {e : TypeId} {size : Nat} {v : Value} {n : Nat} {xs : List Value} (h : w.ownsRow base e size v n xs) (he : Ext w w') : w'.ownsRow base e size v n xs := by
 refine ⟨h.1, ?_⟩
 rcases h.2 with hn | ⟨g, cap, cur, rfl, hb, hgg, rest⟩
 ·exact .inl hn
 ·exact .inr ⟨g, cap, cur, rfl, hb, (he.block g (Array.getElem?_eq_some_iff.1 hgg).1).trans hgg, rest⟩
theorem Msg.no_lists (w : World) : MLs w (.slice none 0 0) (.slice none 0 0) ⟨0, 0, 0, 0, 0, [], []⟩ := ⟨⟨none, 0, rfl, Nat.le_refl _, by unfold maxLen; omega, fun h => by simp at h⟩, ⟨none, 0, rfl, Nat.le_refl _, by unfold maxLen; omega, fun h => by simp at h⟩⟩
theorem Msg.vm_at (w : World) (k id : Int) (c : Ct) (t : TypeId) : MAt (w.alloc (.cells #[.int .i64 k, .int .i64 c.view, .int .i64 id, .int .i64 c.slot, .int .i64 c.value, .slice none 0 0, .slice none 0 0] t)) w.heap.size 0 (Msg.vm k c id) :=
 ⟨_, _, (mbox_new w (Msg.vm k c id) (.slice none 0 0) (.slice none 0 0) t).cs, Msg.no_lists _⟩

set_option maxHeartbeats 4000000 in
set_option maxRecDepth 100000 in
theorem l9Votes_any (f : Int) (v : Value) (ms : List Ms) (kind : Int) (c : Ct) (w : World) (hS : MSlice w v ms) (hf0 : 1 ≤ f) (hf1 : f ≤ 2) :
  Calls Tryz.prog 157 #[.int .i64 f, v, .int .i64 kind, ctagg c] w fun e w' => ∃ vo g, e = .returned vo ∧ w.heap.size ≤ g ∧ Led.IOwn w' vo g (Msg.votes f ms kind c) ∧ Ext w w' := by
 have hi9 : (Tryz.prog.info? 2).map (fun i => (i.zero, i.size, i.bytes)) = some (some (.int .i64 0), 1, 8) := by kernel_rfl
 obtain ⟨ti, hti, hxx⟩ := Option.map_eq_some_iff.1 hi9
 simp only [Prod.mk.injEq] at hxx
 obtain ⟨hz0, hz1, hz2⟩ := hxx
 clear hi9
 have e1 : IntKind.i64.wrap (3 * f) = 3 * f := by rw [IntKind.wrap_i64]; omega
 have e2 : IntKind.i64.wrap (3 * f + 1) = 3 * f + 1 := by rw [IntKind.wrap_i64]; omega
 unfold Msg.votes
 obtain ⟨N, hN⟩ : ∃ N : Nat, N = (3 * f + 1).toNat := ⟨_, rfl⟩
 rw [← hN]
 have hNf : (N : Int) = 3 * f + 1 := by omega
 have hN7 : N ≤ 7 := by omega
 clear hN
 have HA : Hid (∀ (m : Ms) (b o : Nat) (wx : World), Ext w wx → b < wx.heap.size → MAt wx b o m → Calls Tryz.prog 170 #[v, .pointer (some ⟨b, o, none⟩)] wx fun e w' => e = .returned (.int .i64 (Msg.place ms m)) ∧ Ext wx w') := fun m b o wx he hb hm => l8At_any v ms m b o wx (hS.ext he) hb hm
 obtain ⟨a, cap, rfl, -, -, -⟩ := hS
 unfold ctagg
 go_enter Tryz.func157, Tryz.ntmps157
 go_wp2
 have HB0 : Hid (Ext (w.alloc (.cells #[.int .i64 c.slot, .int .i64 c.view, .int .i64 c.value] 57)) ((w.alloc (.cells #[.int .i64 c.slot, .int .i64 c.view, .int .i64 c.value] 57)).alloc (.cells #[] 2))) := (Ext.refl _).alloc _
 go_loopw [9, 10] (fun ov i wr => ∃ (k : Nat), k ≤ N ∧ i = .int .i64 (1 + (k : Int)) ∧ Hid (wr.ownsRow (w.heap.size + 1) 2 1 ov (Msg.votesK ms kind c k).length ((Msg.votesK ms kind c k).map (Value.int .i64))) ∧ Hid (Ext (w.alloc (.cells #[.int .i64 c.slot, .int .i64 c.view, .int .i64 c.value] 57)) wr)) (fun _ i _ => (N + 1) - (intOf i).toNat)
 case atStart =>
  have h0 := World.ownsRow_made (base := w.heap.size + 1) (e := 2) (size := 1) (w.alloc (.cells #[.int .i64 c.slot, .int .i64 c.view, .int .i64 c.value] 57)) #[] 0 (by simp) (by unfold maxLen; omega) rfl
  simp only [World.size_alloc] at h0
  exact ⟨0, Nat.zero_le _, rfl, h0, HB0⟩
 case round =>
  obtain ⟨k, hk, rfl, HO, HE⟩ := hrel
  by_cases hlt : k < N
  ·have hcc := fun j => (Ext.cell HE.out).1 w.heap.size j (by simp)
   have c0 := (hcc 0).trans (show _ = some (.int .i64 c.slot) by simp)
   have c1 := (hcc 1).trans (show _ = some (.int .i64 c.view) by simp)
   have c2 := (hcc 2).trans (show _ = some (.int .i64 c.value) by simp)
   clear hcc
   have hws : w.heap.size + 1 ≤ wr.heap.size := by have := HE.out.size; simpa using this
   have hkl : (Msg.votesK ms kind c k).length ≤ 7 := by have := Msg.votesK_len ms kind c k; omega
   have HAt : Hid (MAt (wr.alloc (.cells #[.int .i64 kind, .int .i64 c.view, .int .i64 (1 + (k : Int)), .int .i64 c.slot, .int .i64 c.value, .slice none 0 0, .slice none 0 0] 40)) wr.heap.size 0 (Msg.vm kind c (1 + k))) := Msg.vm_at wr kind (1 + k) c _
   have HEw : Hid (Ext w wr) := ((Ext.refl _).alloc _).trans HE.out
   have hle : 1 + (k : Int) ≤ 3 * f + 1 := by omega
   go_wp2_with fail
   refine (HA.out _ _ _ _ (HEw.out.alloc _) (by simp) HAt.out).mono ?_
   rintro e w2 ⟨rfl, hb2⟩
   have HE2 : Hid (Ext (w.alloc (.cells #[.int .i64 c.slot, .int .i64 c.view, .int .i64 c.value] 57)) w2) := (HE.out.alloc _).trans hb2
   have HO2 : Hid (w2.ownsRow (w.heap.size + 1) 2 1 u9 (Msg.votesK ms kind c k).length ((Msg.votesK ms kind c k).map (Value.int .i64))) := Led.own_ext (HO.out.alloc _) hb2
   have hws2 : w.heap.size + 1 ≤ w2.heap.size := by have := HE2.out.size; simpa using this
   clear hb2 HE HO HAt HEw hws c0 c1 c2
   have hpm := @Msg.place_mem ms (Msg.vm kind c (1 + k))
   by_cases hq : Msg.vm kind c (1 + k) ∈ ms
   ·have HK2 : Hid (Msg.votesK ms kind c (k + 1) = Msg.votesK ms kind c k ++ [1 + (k : Int)]) := Msg.votesK_yes hq
    have hp := hpm.2 hq
    clear hpm hq
    generalize Msg.place ms (Msg.vm kind c (1 + k)) = p at *
    go_wp2_with (at_builtin; go_must (refine wpList_append_own _ rfl _ _ 38 rfl (w.heap.size + 1) 2 ti (.int .i64 0) 1 8 Tryz.underlying38 hti hz0 hz1 hz2 rfl (by decide) _ _ _ rfl (HO2.out.alloc _) ⟨w2.heap.size, 0, none⟩ 1 1 [.int .i64 (1 + (k : Int))] rfl rfl (cellM_one _ _ _ _ rfl) (ints_oneCell .i64 [(1 + (k : Int))]) (by unfold maxLen; omega) (by omega) (by simp; omega) ?_; intro v6 w6 hown6 hgrow6 hnil6))
    refine ⟨⟨k + 1, by omega, by go_num, ?_, Below.grown (HE2.out.alloc _) hgrow6 (by simp; omega) (fun q hq => by have := (HO2.out.lt q hq).1; simpa using this)⟩, by simp [intOf]; omega⟩
    show w6.ownsRow _ _ _ _ _ _
    rw [HK2.out, List.map_append, List.length_append]
    exact hown6
   ·have HK2 : Hid (Msg.votesK ms kind c (k + 1) = Msg.votesK ms kind c k) := Msg.votesK_no hq
    have hp : ¬ 0 ≤ Msg.place ms (Msg.vm kind c (1 + k)) := fun h => hq (hpm.1 h)
    clear hpm hq
    generalize Msg.place ms (Msg.vm kind c (1 + k)) = p at *
    go_wp2
    refine ⟨⟨k + 1, by omega, by go_num, ?_, HE2.out⟩, by simp [intOf]; omega⟩
    show w2.ownsRow _ _ _ _ _ _
    rw [HK2.out]
    exact HO2.out
  ·have hke : k = N := by omega
   subst hke
   obtain ⟨g, hg1, hg2, hT⟩ := Led.iown_of_owns HO.out
   obtain ⟨a8, c8, rfl, -⟩ := id hT
   have HT : Hid (w.heap.size ≤ g ∧ Led.IOwn wr (.slice a8 (Msg.votesK ms kind c k).length c8) g (Msg.votesK ms kind c k)) := ⟨by omega, hT⟩
   have hgt : ¬ 1 + (k : Int) ≤ 3 * f + 1 := by omega
   clear hT hg1 hg2 hNf hN7
   go_wp2
   go_ret
   first | exact ⟨_, g, rfl, HT.out.1, HT.out.2, ((Ext.refl _).alloc _).trans HE.out⟩ | exact ⟨_, rfl, g, HT.out.1, HT.out.2, ((Ext.refl _).alloc _).trans HE.out⟩

set_option maxHeartbeats 1000000 in
theorem l9Need_any (f : Int) (w : World) (h0 : 1 ≤ f) (h1 : f ≤ 2) : Calls Tryz.prog 67 #[.int .i64 f] w fun e w' => e = .returned (.int .i64 (2 * f + 1)) ∧ w' = w := by
 have e1 : IntKind.i64.wrap (2 * f) = 2 * f := by rw [IntKind.wrap_i64]; omega
 have e2 : IntKind.i64.wrap (2 * f + 1) = 2 * f + 1 := by rw [IntKind.wrap_i64]; omega
 go_enter Tryz.func67, Tryz.ntmps67
 go_wp2
 go_ret
 exact ⟨rfl, rfl⟩

set_option maxHeartbeats 2000000 in
set_option maxRecDepth 100000 in
theorem l9Enough_any (f : Int) (v : Value) (ms : List Ms) (kind : Int) (c : Ct) (w : World) (hS : MSlice w v ms) (hf0 : 1 ≤ f) (hf1 : f ≤ 2) :
  Calls Tryz.prog 117 #[.int .i64 f, v, .int .i64 kind, ctagg c] w fun e w' => e = .returned (.bool (Msg.enough f ms kind c)) ∧ Ext w w' := by
 have HV : Hid (∀ wx, Ext w wx → Calls Tryz.prog 157 #[.int .i64 f, v, .int .i64 kind, ctagg c] wx fun e w' => ∃ vo g, e = .returned vo ∧ wx.heap.size ≤ g ∧ Led.IOwn w' vo g (Msg.votes f ms kind c) ∧ Ext wx w') := fun wx he => l9Votes_any f v ms kind c wx (hS.ext he) hf0 hf1
 have HQ : Hid (∀ wx, Calls Tryz.prog 67 #[.int .i64 f] wx fun e w' => e = .returned (.int .i64 (2 * f + 1)) ∧ w' = wx) := fun wx => l9Need_any f wx hf0 hf1
 obtain ⟨a, cap, rfl, -, -, -⟩ := hS
 unfold Msg.enough
 have hvl := @Msg.votes_len f ms kind c hf0 hf1
 generalize Msg.votes f ms kind c = l at *
 unfold ctagg at *
 by_cases hq : 2 * f + 1 ≤ (l.length : Int)
 all_goals
  go_enter Tryz.func117, Tryz.ntmps117
  go_wp2_with fail
  refine (HV.out _ ((Ext.refl _).alloc _)).mono ?_
  rintro e w2 ⟨vo, g, rfl, -, hO, hb⟩
  obtain ⟨a8, c8, rfl, -⟩ := id hO
  have HE : Hid (Ext w w2) := ((Ext.refl _).alloc _).trans hb
  clear hb hO
  go_wp2_with fail
  refine (HQ.out _).mono ?_
  rintro e w9 ⟨rfl, hw⟩
  rw [hw]
  clear hw w9
  go_wp2
  go_ret
  exact ⟨ret_bool (by simp [hq]), HE.out⟩

theorem Msg.dec_take {f : Int} {ms : List Ms} {slot v : Int} {j : Nat} {z : Ms} (h : ms[j]? = some z) : (ms.take (j + 1)).any (Msg.dec f ms slot v) = ((ms.take j).any (Msg.dec f ms slot v) || Msg.dec f ms slot v z) := by
 obtain ⟨hj, rfl⟩ := List.getElem?_eq_some_iff.1 h
 rw [List.take_succ_eq_append_getElem hj, List.any_append]
 simp
theorem Msg.dec_any {f : Int} {ms : List Ms} {slot v : Int} {j : Nat} (h : (ms.take j).any (Msg.dec f ms slot v) = true) : Msg.decB f ms slot v = true := by
 unfold Msg.decB
 rw [List.any_eq_true] at *
 obtain ⟨x, hx, h2⟩ := h
 exact ⟨x, List.mem_of_mem_take hx, h2⟩
theorem Msg.dec_no {f : Int} {ms : List Ms} {slot v : Int} {z : Ms} (h : ¬ (z.kind = 3 ∧ z.slot = slot ∧ z.value = v)) : Msg.dec f ms slot v z = false := by
 unfold Msg.dec; rw [decide_eq_false h]; rfl
theorem Msg.dec_is {f : Int} {ms : List Ms} {slot v : Int} {z : Ms} (h : z.kind = 3 ∧ z.slot = slot ∧ z.value = v) : Msg.dec f ms slot v z = Msg.enough f ms 3 ⟨slot, z.view, v⟩ := by
 unfold Msg.dec; rw [decide_eq_true h]; rfl

set_option maxHeartbeats 8000000 in
set_option maxRecDepth 100000 in
theorem l9Decided_any (f : Int) (v : Value) (ms : List Ms) (slot : Int) (w : World) (hS : MSlice w v ms) (hf0 : 1 ≤ f) (hf1 : f ≤ 2) (hlen : ms.length ≤ 240) :
  Calls Tryz.prog 172 #[.int .i64 f, v, .int .i64 slot] w fun e w' => ∃ vo g, e = .returned vo ∧ w.heap.size ≤ g ∧ Led.IOwn w' vo g (Msg.decided f ms slot) ∧ Ext w w' := by
 have hi9 : (Tryz.prog.info? 2).map (fun i => (i.zero, i.size, i.bytes)) = some (some (.int .i64 0), 1, 8) := by kernel_rfl
 obtain ⟨ti, hti, hxx⟩ := Option.map_eq_some_iff.1 hi9
 simp only [Prod.mk.injEq] at hxx
 obtain ⟨hz0, hz1, hz2⟩ := hxx
 clear hi9
 have HV : Hid (∀ (c : Ct) (wx : World), Ext w wx → Calls Tryz.prog 117 #[.int .i64 f, v, .int .i64 3, ctagg c] wx fun e w' => e = .returned (.bool (Msg.enough f ms 3 c)) ∧ Ext wx w') := fun c wx he => l9Enough_any f v ms 3 c wx (hS.ext he) hf0 hf1
 obtain ⟨a, cap, rfl, hlc, hcm, hx⟩ := hS
 have HX : Hid (0 < ms.length → ∃ b off, a = some ⟨b, off, none⟩ ∧ b < w.heap.size ∧ MsAt w b off ms) := hx
 clear hx
 unfold maxLen at hcm
 unfold Msg.decided
 unfold ctagg at HV
 go_enter Tryz.func172, Tryz.ntmps172
 go_wp2
 go_loopw [7, 8] (fun ov i wr => ∃ (k : Nat), k ≤ 13 ∧ i = .int .i64 (k : Int) ∧ Hid (wr.ownsRow w.heap.size 2 1 ov (Msg.decidedK f ms slot k).length ((Msg.decidedK f ms slot k).map (Value.int .i64))) ∧ Hid (Ext w wr)) (fun _ i _ => 13 - (intOf i).toNat)
 case atStart => exact ⟨0, Nat.zero_le _, rfl, World.ownsRow_made w #[] 0 (Nat.le_refl _) (by unfold maxLen; omega) rfl, (Ext.refl _).alloc _⟩
 case round =>
  obtain ⟨k, hk, rfl, HO, HE⟩ := hrel
  by_cases hlt : k < 13
  ·have hkk : (k : Int) ≤ 12 := by omega
   go_wp2
   go_loopw [9, 10] (fun gv jv wy => ∃ (j : Nat) (B : Bool), j ≤ ms.length ∧ jv = .int .i64 j ∧ gv = .bool B ∧ Hid ((ms.take j).any (Msg.dec f ms slot k) = B) ∧ Hid (wy.ownsRow w.heap.size 2 1 u7 (Msg.decidedK f ms slot k).length ((Msg.decidedK f ms slot k).map (Value.int .i64))) ∧ Hid (Ext w wy)) (fun _ jv _ => ms.length - (intOf jv).toNat)
   case atStart => exact ⟨0, false, Nat.zero_le _, rfl, rfl, rfl, HO, HE⟩
   case round =>
    obtain ⟨j, B, hj, rfl, rfl, HF, HOy, HEy⟩ := hrel
    have hkl : (Msg.decidedK f ms slot k).length ≤ 13 := by have := Msg.decidedK_len f ms slot k; omega
    have hws : w.heap.size ≤ wr.heap.size := HEy.out.size
    cases B with
    | true =>
     have HK2 : Hid (Msg.decidedK f ms slot (k + 1) = Msg.decidedK f ms slot k ++ [(k : Int)]) := Msg.decidedK_yes (Msg.dec_any HF.out)
     by_cases hjl : j < ms.length
     all_goals
      go_wp2_with (at_builtin; go_must (refine wpList_append_own _ rfl _ _ 38 rfl (w.heap.size) 2 ti (.int .i64 0) 1 8 Tryz.underlying38 hti hz0 hz1 hz2 rfl (by decide) _ _ _ rfl (HOy.out.alloc _) ⟨wr.heap.size, 0, none⟩ 1 1 [.int .i64 (k : Int)] rfl rfl (cellM_one _ _ _ _ rfl) (ints_oneCell .i64 [(k : Int)]) (by unfold maxLen; omega) (by omega) (by simp; omega) ?_; intro v6 w6 hown6 hgrow6 hnil6))
      refine ⟨⟨k + 1, by omega, by go_num, ?_, Below.grown (HEy.out.alloc _) hgrow6 (by simp; omega) (fun q hq => by have := (HOy.out.lt q hq).1; simpa using this)⟩, by simp [intOf]; omega⟩
      show w6.ownsRow _ _ _ _ _ _
      rw [HK2.out, List.map_append, List.length_append]
      exact hown6
    | false =>
     by_cases hjl : j < ms.length
     ·obtain ⟨z, hzk⟩ : ∃ z, ms[j]? = some z := ⟨_, List.getElem?_eq_getElem hjl⟩
      obtain ⟨b, off, rfl, hb, hN⟩ := HX.out (by omega)
      obtain ⟨vz, uz, ⟨d0, d1, d2, d3, d4, -, -⟩, -⟩ := hN.ext hb HEy.out j z hzk
      have HZ : Hid (ms[j]? = some z) := hzk
      clear hzk hN
      by_cases h1 : z.kind = 3
      ·by_cases h2 : z.slot = slot
       ·by_cases h3 : z.value = k
        ·have HD : Hid (Msg.dec f ms slot k z = Msg.enough f ms 3 ⟨slot, z.view, k⟩) := Msg.dec_is ⟨h1, h2, h3⟩
         have HCC : Hid (Calls Tryz.prog 117 #[.int .i64 f, .slice (some ⟨b, off, none⟩) ms.length cap, .int .i64 3, .agg #[.int .i64 slot, .int .i64 z.view, .int .i64 (k : Int)]] wr fun e w' => e = .returned (.bool (Msg.enough f ms 3 ⟨slot, z.view, k⟩)) ∧ Ext wr w') := HV.out ⟨slot, z.view, k⟩ wr HEy.out
         have g1 : (z.kind == 3) = true := by simpa using h1
         have g2 : (z.slot == slot) = true := by simpa using h2
         have g3 : (z.value == (k : Int)) = true := by simpa using h3
         clear h1 h2 h3
         go_wp2_with fail
         refine HCC.out.mono ?_
         rintro e w2 ⟨rfl, hb2⟩
         have HT2 : Hid ((ms.take (j + 1)).any (Msg.dec f ms slot k) = Msg.enough f ms 3 ⟨slot, z.view, k⟩) := by show _ = _; rw [Msg.dec_take HZ.out, HF.out, HD.out]; rfl
         have HO2 : Hid (w2.ownsRow w.heap.size 2 1 u7 (Msg.decidedK f ms slot k).length ((Msg.decidedK f ms slot k).map (Value.int .i64))) := Led.own_ext HOy.out hb2
         have HE2 : Hid (Ext w w2) := HEy.out.trans hb2
         clear hb2 d0 d1 d2 d3 d4 HD HCC
         generalize Msg.enough f ms 3 ⟨slot, z.view, k⟩ = B2 at *
         go_wp2
         exact ⟨⟨j + 1, B2, by omega, by go_num, rfl, HT2, HO2, HE2⟩, by simp [intOf]; omega⟩
        ·have HD : Hid (Msg.dec f ms slot k z = false) := Msg.dec_no (fun h => h3 h.2.2)
         have HT2 : Hid ((ms.take (j + 1)).any (Msg.dec f ms slot k) = false) := by show _ = _; rw [Msg.dec_take HZ.out, HF.out, HD.out]; rfl
         have g1 : (z.kind == 3) = true := by simpa using h1
         have g2 : (z.slot == slot) = true := by simpa using h2
         have g3 : (z.value == (k : Int)) = false := by simpa using h3
         clear h1 h2 h3 HD
         go_wp2
         exact ⟨⟨j + 1, false, by omega, by go_num, rfl, HT2, HOy, HEy⟩, by simp [intOf]; omega⟩
       ·have HD : Hid (Msg.dec f ms slot k z = false) := Msg.dec_no (fun h => h2 h.2.1)
        have HT2 : Hid ((ms.take (j + 1)).any (Msg.dec f ms slot k) = false) := by show _ = _; rw [Msg.dec_take HZ.out, HF.out, HD.out]; rfl
        have g1 : (z.kind == 3) = true := by simpa using h1
        have g2 : (z.slot == slot) = false := by simpa using h2
        clear h1 h2 HD
        go_wp2
        exact ⟨⟨j + 1, false, by omega, by go_num, rfl, HT2, HOy, HEy⟩, by simp [intOf]; omega⟩
      ·have HD : Hid (Msg.dec f ms slot k z = false) := Msg.dec_no (fun h => h1 h.1)
       have HT2 : Hid ((ms.take (j + 1)).any (Msg.dec f ms slot k) = false) := by show _ = _; rw [Msg.dec_take HZ.out, HF.out, HD.out]; rfl
       have g1 : (z.kind == 3) = false := by simpa using h1
       clear h1 HD
       go_wp2
       exact ⟨⟨j + 1, false, by omega, by go_num, rfl, HT2, HOy, HEy⟩, by simp [intOf]; omega⟩
     ·have hje : j = ms.length := by omega
      have HK2 : Hid (Msg.decidedK f ms slot (k + 1) = Msg.decidedK f ms slot k) := Msg.decidedK_no (by have h := HF.out; rw [hje, List.take_length] at h; exact h)
      go_wp2
      refine ⟨⟨k + 1, by omega, by go_num, ?_, HEy.out⟩, by simp [intOf]; omega⟩
      show wr.ownsRow _ _ _ _ _ _
      rw [HK2.out]
      exact HOy.out
  ·have hke : k = 13 := by omega
   subst hke
   obtain ⟨g, hg1, hg2, hT⟩ := Led.iown_of_owns HO.out
   obtain ⟨a8, c8, rfl, -⟩ := id hT
   have HT : Hid (w.heap.size ≤ g ∧ Led.IOwn wr (.slice a8 (Msg.decidedK f ms slot 13).length c8) g (Msg.decidedK f ms slot 13)) := ⟨by omega, hT⟩
   clear hT hg1 hg2
   go_wp2
   go_ret
   exact ⟨_, g, rfl, HT.out.1, HT.out.2, HE.out⟩

theorem Msg.head_at {w : World} {g : Nat} {a : Option Addr} {cap : Nat} {l : List Int} (h : Led.IOwn w (.slice a l.length cap) g l) (h0 : ¬ l = []) : ∃ off, a = some ⟨g, off, none⟩ ∧ w.cell? ⟨g, off, none⟩ = some (.int .i64 (l.headD 0)) ∧ 0 < l.length ∧ l.length ≤ cap := by
 have hl : 0 < l.length := List.length_pos_iff.2 h0
 obtain ⟨a1, c1, e, h1, h2, hx⟩ := h
 cases e
 obtain ⟨off, rfl, -, hN⟩ := hx hl
 refine ⟨off, rfl, ?_, hl, h1⟩
 have := hN 0 (l.headD 0) (by cases l with | nil => simp at hl | cons x r => rfl)
 simpa using this

set_option maxHeartbeats 4000000 in
set_option maxRecDepth 100000 in
theorem l9Log_any (f : Int) (v : Value) (ms : List Ms) (w : World) (hS : MSlice w v ms) (hf0 : 1 ≤ f) (hf1 : f ≤ 2) (hlen : ms.length ≤ 240) :
  Calls Tryz.prog 147 #[.int .i64 f, v] w fun e w' => ∃ vo g, e = .returned vo ∧ w.heap.size ≤ g ∧ Led.IOwn w' vo g (Msg.log f ms) ∧ Ext w w' := by
 have hi9 : (Tryz.prog.info? 2).map (fun i => (i.zero, i.size, i.bytes)) = some (some (.int .i64 0), 1, 8) := by kernel_rfl
 obtain ⟨ti, hti, hxx⟩ := Option.map_eq_some_iff.1 hi9
 simp only [Prod.mk.injEq] at hxx
 obtain ⟨hz0, hz1, hz2⟩ := hxx
 clear hi9
 have HV : Hid (∀ (s : Int) (wx : World), Ext w wx → Calls Tryz.prog 172 #[.int .i64 f, v, .int .i64 s] wx fun e w' => ∃ vo g, e = .returned vo ∧ wx.heap.size ≤ g ∧ Led.IOwn w' vo g (Msg.decided f ms s) ∧ Ext wx w') := fun s wx he => l9Decided_any f v ms s wx (hS.ext he) hf0 hf1 hlen
 obtain ⟨a, cap, rfl, -, -, -⟩ := hS
 go_enter Tryz.func147, Tryz.ntmps147
 go_wp2
 go_loopw [5, 6] (fun ov i wr => ∃ (k : Nat), k ≤ 30 ∧ i = .int .i64 ((k : Int) + 1) ∧ Hid (∀ j, j < k → ¬ Msg.decided f ms ((j : Int) + 1) = []) ∧ Hid (wr.ownsRow w.heap.size 2 1 ov k ((Msg.heads f ms k).map (Value.int .i64))) ∧ Hid (Ext w wr)) (fun _ i _ => 31 - (intOf i).toNat)
 case atStart => exact ⟨0, Nat.zero_le _, rfl, fun j h => by omega, World.ownsRow_made w #[] 0 (Nat.le_refl _) (by unfold maxLen; omega) rfl, (Ext.refl _).alloc _⟩
 case round =>
  obtain ⟨k, hk, rfl, HH, HO, HE⟩ := hrel
  by_cases hlt : k < 30
  ·have hkk : (k : Int) + 1 ≤ 30 := by omega
   go_wp2_with fail
   refine (HV.out _ _ HE.out).mono ?_
   rintro e w2 ⟨vo, g, rfl, hg, hO, hb⟩
   obtain ⟨a8, c8, rfl, -⟩ := id hO
   have HO2 : Hid (w2.ownsRow w.heap.size 2 1 u5 k ((Msg.heads f ms k).map (Value.int .i64))) := Led.own_ext HO.out hb
   have HE2 : Hid (Ext w w2) := HE.out.trans hb
   have hws2 : w.heap.size ≤ w2.heap.size := HE2.out.size
   clear hb HO HE
   by_cases hd : Msg.decided f ms ((k : Int) + 1) = []
   ·have HF : Hid (Msg.log f ms = Msg.heads f ms k) := Msg.log_stop HH.out hd (by omega)
    rw [hd]
    clear hO hd
    have hlk : Hid ((Msg.heads f ms k).length = k) := Msg.heads_len f ms k
    obtain ⟨g3, hg1, hg2, hT⟩ := Led.iown_of_owns (l := Msg.heads f ms k) (by rw [hlk]; exact HO2.out)
    obtain ⟨a9, c9, rfl, -⟩ := id hT
    have HT : Hid (w.heap.size ≤ g3 ∧ Led.IOwn w2 (.slice a9 (Msg.heads f ms k).length c9) g3 (Msg.heads f ms k)) := ⟨hg1, hT⟩
    clear hT hg1 hg2
    go_wp2
    go_ret
    exact ⟨_, g3, rfl, HT.out.1, by rw [HF.out]; exact HT.out.2, HE2.out⟩
   ·have HH2 : Hid (∀ j, j < k + 1 → ¬ Msg.decided f ms ((j : Int) + 1) = []) := fun j hj => by
     by_cases hjk : j = k
     ·subst hjk; exact hd
     ·exact HH.out j (by omega)
    obtain ⟨off, rfl, d0, hl0, hl1⟩ := Msg.head_at hO hd
    have HK2 : Hid (Msg.heads f ms (k + 1) = Msg.heads f ms k ++ [(Msg.decided f ms ((k : Int) + 1)).headD 0]) := rfl
    clear hO hd
    generalize (Msg.decided f ms ((k : Int) + 1)).headD 0 = x at *
    generalize (Msg.decided f ms ((k : Int) + 1)).length = n at *
    go_wp2_with (at_builtin; go_must (refine wpList_append_own _ rfl _ _ 38 rfl (w.heap.size) 2 ti (.int .i64 0) 1 8 Tryz.underlying38 hti hz0 hz1 hz2 rfl (by decide) _ _ _ rfl (HO2.out.alloc _) ⟨w2.heap.size, 0, none⟩ 1 1 [.int .i64 (x)] rfl rfl (cellM_one _ _ _ _ rfl) (ints_oneCell .i64 [(x)]) (by unfold maxLen; omega) (by omega) (by simp; omega) ?_; intro v6 w6 hown6 hgrow6 hnil6))
    refine ⟨⟨k + 1, by omega, by go_num, HH2, ?_, Below.grown (HE2.out.alloc _) hgrow6 (by simp; omega) (fun q hq => by have := (HO2.out.lt q hq).1; simpa using this)⟩, by simp [intOf]; omega⟩
    show w6.ownsRow _ _ _ _ _ _
    rw [HK2.out, List.map_append]
    exact hown6
  ·have hke : k = 30 := by omega
   subst hke
   have HF : Hid (Msg.log f ms = Msg.heads f ms 30) := Msg.log_full HH.out
   have hlk : Hid ((Msg.heads f ms 30).length = 30) := Msg.heads_len f ms 30
   obtain ⟨g3, hg1, hg2, hT⟩ := Led.iown_of_owns (l := Msg.heads f ms 30) (by rw [hlk.out]; exact HO.out)
   obtain ⟨a9, c9, rfl, -⟩ := id hT
   have HT : Hid (w.heap.size ≤ g3 ∧ Led.IOwn wr (.slice a9 (Msg.heads f ms 30).length c9) g3 (Msg.heads f ms 30)) := ⟨hg1, hT⟩
   clear hT hg1 hg2
   go_wp2
   go_ret
   exact ⟨_, g3, rfl, HT.out.1, by rw [HF.out]; exact HT.out.2, HE.out⟩
end Go.Proofs.YtecgjdgfjgcmdaaGreat
