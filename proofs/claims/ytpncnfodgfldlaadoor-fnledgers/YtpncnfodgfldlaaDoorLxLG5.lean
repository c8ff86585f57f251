/- both SentBys. -/
import Derived.Test.YtpncnfodgfldlaaDoorLxLG3
import Derived.Test.YtpncnfodgfldlaaDoorLxLG4
namespace Go.Proofs.YtpncnfodgfldlaaDoor
open Go.RowKit
namespace Msg
def sentK (ms : List Ms) (x : Int) : Nat → List Int
  | 0 => []
  | k + 1 => sentK ms x k ++ (match ms[k]? with
    | some m => if m.from_ = x then [(k : Int)] else []
    | none => [])
theorem sentK_yes {ms : List Ms} {x : Int} {k : Nat} {m : Ms} (h : ms[k]? = some m) (hx : m.from_ = x) : sentK ms x (k + 1) = sentK ms x k ++ [(k : Int)] := by
  show sentK ms x k ++ _ = _; rw [h]; simp [hx]
theorem sentK_no {ms : List Ms} {x : Int} {k : Nat} {m : Ms} (h : ms[k]? = some m) (hx : ¬ m.from_ = x) : sentK ms x (k + 1) = sentK ms x k := by
  show sentK ms x k ++ _ = _; rw [h]; simp [hx]
theorem sentK_len (ms : List Ms) (x : Int) (k : Nat) : (sentK ms x k).length ≤ k := by
  induction k with
  | zero => simp [sentK]
  | succ k ih =>
    show (sentK ms x k ++ _).length ≤ _
    rw [List.length_append]
    cases ms[k]? with
    | none => simp; omega
    | some m => simp only; split <;> simp <;> omega
def sentV (f : Int) (ms : List Ms) (x : Int) : Int × List Int := if ¬ ledger f ms = 0 then (ledger f ms, []) else if ¬ (1 ≤ x ∧ x ≤ 3 * f + 1) then (3, []) else (0, sentK ms x ms.length)
theorem sentV_bad {f : Int} {ms : List Ms} {x : Int} (h : ¬ ledger f ms = 0) : sentV f ms x = (ledger f ms, []) := by unfold sentV; rw [if_pos h]
theorem sentV_id {f : Int} {ms : List Ms} {x : Int} (h : ledger f ms = 0) (h2 : ¬ (1 ≤ x ∧ x ≤ 3 * f + 1)) : sentV f ms x = (3, []) := by unfold sentV; rw [if_neg (by omega), if_pos h2]
theorem sentV_ok {f : Int} {ms : List Ms} {x : Int} (h : ledger f ms = 0) (h2 : 1 ≤ x ∧ x ≤ 3 * f + 1) : sentV f ms x = (0, sentK ms x ms.length) := by unfold sentV; rw [if_neg (by omega), if_neg (by omega)]
theorem ledger_zero {f : Int} {ms : List Ms} (h : ledger f ms = 0) : 1 ≤ f ∧ f ≤ 2 ∧ ms.length ≤ 240 := by
  unfold ledger at h
  split at h
  · omega
  · rename_i h1
    have hf : fOk f = true := by simpa using h1
    unfold fOk at hf
    simp at hf
    unfold ledgerM at h
    split at h
    · omega
    · omega
end Msg
namespace Led
/-- Block r holds an IntsResult that nobody has written yet. -/
def JZ (w : World) (r : Nat) : Prop := r < w.heap.size ∧ w.cell? ⟨r, 0, none⟩ = some (.int .i64 0) ∧ w.cell? ⟨r, 1, none⟩ = some (.slice none 0 0) ∧ w.frozen? ⟨r, 0, none⟩ = false ∧ w.frozen? ⟨r, 1, none⟩ = false
theorem jz_new (w : World) (t : TypeId) : JZ (w.alloc (.cells #[.int .i64 0, .slice none 0 0] t)) w.heap.size := ⟨by simp, by simp, by simp, by simp, by simp⟩
theorem JZ.ext {w w' : World} {r : Nat} (h : JZ w r) (he : Ext w w') : JZ w' r := by
  obtain ⟨hc, hf⟩ := Ext.cell he
  exact ⟨Nat.lt_of_lt_of_le h.1 he.size, (hc _ _ h.1).trans h.2.1, (hc _ _ h.1).trans h.2.2.1, (hf _ _ h.1).trans h.2.2.2.1, (hf _ _ h.1).trans h.2.2.2.2⟩
theorem jret_box {w w2 : World} (c : Int) {v : Value} {g : Nat} {rs : List Int} (hE : Ext w w2) (hO : IOwn w2 v g rs) (hg : w.heap.size < g) :
    JRet w c rs (.returned (jr c v)) ((w2.setCell ⟨w.heap.size, 0, none⟩ (.int .i64 c)).setCell ⟨w.heap.size, 1, none⟩ v) :=
  ⟨v, g, rfl, Nat.le_of_lt hg, hO.upd' (((Upd.refl w.heap.size w2).setAt _ _).setAt _ _) (fun _ => by omega), hE.two _ _⟩
theorem jret_bad {w w2 : World} (c : Int) (hE : Ext w w2) :
    JRet w c [] (.returned (jr c (.slice none 0 0))) ((w2.setCell ⟨w.heap.size, 0, none⟩ (.int .i64 c)).setCell ⟨w.heap.size, 1, none⟩ (.slice none 0 0)) :=
  jret_box (g := w.heap.size + 1) c hE ⟨none, 0, rfl, Nat.le_refl _, by unfold maxLen; omega, fun h => by simp at h⟩ (by omega)
theorem owns_form {w : World} {B : Nat} {e : TypeId} {s : Nat} {v : Value} {n : Nat} {xs : List Value} (h : w.ownsRow B e s v n xs) : ∃ a c, v = .slice a n c := by
  rcases h.2 with ⟨hv, h0⟩ | ⟨g, cap, cur, hv, -⟩
  · exact ⟨none, 0, by rw [hv, h0]⟩
  · exact ⟨_, cap, hv⟩
theorem owns_set {w : World} {B : Nat} {e : TypeId} {s : Nat} {v : Value} {n : Nat} {xs : List Value} (h : w.ownsRow B e s v n xs) {b o : Nat} (hb : b < B) (u : Value) : (w.setCell ⟨b, o, none⟩ u).ownsRow B e s v n xs := ownsRow_setCell_below h (a := ⟨b, o, none⟩) hb u
/-- The result's box rb is empty, the box bo holds what has been found. -/
def SB (rb bo : Nat) (W : World) (ov : Value) : Prop := W.cell? ⟨rb, 0, none⟩ = some (.int .i64 0) ∧ W.cell? ⟨rb, 1, none⟩ = some (.slice none 0 0) ∧ W.frozen? ⟨rb, 0, none⟩ = false ∧ W.frozen? ⟨rb, 1, none⟩ = false ∧ W.cell? ⟨bo, 0, none⟩ = some (.int .i64 0) ∧ W.cell? ⟨bo, 1, none⟩ = some ov ∧ W.frozen? ⟨bo, 0, none⟩ = false ∧ W.frozen? ⟨bo, 1, none⟩ = false
theorem SB.start {w : World} {rb : Nat} {t : TypeId} (h : JZ w rb) : SB rb w.heap.size (w.alloc (.cells #[.int .i64 0, .slice none 0 0] t)) (.slice none 0 0) := by
  obtain ⟨-, x1, x2, x3, x4⟩ := h.ext ((Ext.refl w).alloc (.cells #[.int .i64 0, .slice none 0 0] t))
  exact ⟨x1, x2, x3, x4, by simp, by simp, by simp, by simp⟩
theorem SB.below {rb bo B : Nat} {W W' : World} {ov : Value} (h : SB rb bo W ov) (hb : Below B W W') (h1 : rb < B) (h2 : bo < B) : SB rb bo W' ov := by
  obtain ⟨x0, x1, x2, x3, x4, x5, x6, x7⟩ := h
  exact ⟨(hb.cell (p := ⟨rb, 0, none⟩) h1).trans x0, (hb.cell (p := ⟨rb, 1, none⟩) h1).trans x1, (hb.frozen (p := ⟨rb, 0, none⟩) h1).trans x2, (hb.frozen (p := ⟨rb, 1, none⟩) h1).trans x3, (hb.cell (p := ⟨bo, 0, none⟩) h2).trans x4, (hb.cell (p := ⟨bo, 1, none⟩) h2).trans x5, (hb.frozen (p := ⟨bo, 0, none⟩) h2).trans x6, (hb.frozen (p := ⟨bo, 1, none⟩) h2).trans x7⟩
theorem SB.set {rb bo : Nat} {W : World} {ov : Value} (h : SB rb bo W ov) (hne : bo ≠ rb) (x : Value) : SB rb bo (W.setCell ⟨bo, 1, none⟩ x) x := by
  obtain ⟨x0, x1, x2, x3, x4, x5, x6, x7⟩ := h
  exact ⟨by rw [iset_ne _ _ _ _ _ _ (Or.inl hne)]; exact x0, by rw [iset_ne _ _ _ _ _ _ (Or.inl hne)]; exact x1, by simpa using x2, by simpa using x3, by rw [iset_ne _ _ _ _ _ _ (by omega)]; exact x4, iset_eq _ _ _ _ ⟨_, x5⟩, by simpa using x6, by simpa using x7⟩
end Led
set_option maxHeartbeats 8000000 in
set_option maxRecDepth 100000 in
theorem implSentBy_any (f x : Int) (v : Value) (ms : List Ms) (w : World) (hS : MSlice w v ms) :
    Calls Tryd.prog 9 #[.int .i64 f, v, .int .i64 x] w (Led.JRet w (Msg.sentV f ms x).1 (Msg.sentV f ms x).2) := by
  have hi9 : (Tryd.prog.info? 2).map (fun i => (i.zero, i.size, i.bytes)) = some (some (.int .i64 0), 1, 8) := by kernel_rfl
  obtain ⟨ti, hti, hxx⟩ := Option.map_eq_some_iff.1 hi9
  simp only [Prod.mk.injEq] at hxx
  obtain ⟨hz0, hz1, hz2⟩ := hxx
  clear hi9
  have HF : Hid (∀ wx, Ext w wx → Calls Tryd.prog 11 #[.int .i64 f, v] wx fun e w' => e = .returned (.int .i64 (Msg.ledger f ms)) ∧ Ext wx w') := fun wx he => implLedgerFault_any f v ms wx (hS.ext he)
  obtain ⟨a, cap, rfl, hlc, hcm, hx⟩ := hS
  have HX : Hid (0 < ms.length → ∃ b off, a = some ⟨b, off, none⟩ ∧ b < w.heap.size ∧ MsAt w b off ms) := hx
  clear hx
  unfold maxLen at hcm
  by_cases hc : Msg.ledger f ms = 0
  · obtain ⟨hf0, hf1, hlen⟩ := Msg.ledger_zero hc
    rw [hc] at HF
    by_cases hid : 1 ≤ x ∧ x ≤ 3 * f + 1
    · rw [Msg.sentV_ok hc hid]
      clear hc
      have HI : Hid (∀ wx, Calls Tryd.prog 28 #[.int .i64 f, .int .i64 x] wx fun e w' => e = .returned (.bool true) ∧ w' = wx) := fun wx => by
        have q : (decide (1 ≤ x) && decide (x ≤ 3 * f + 1)) = true := by simp; omega
        have h := isReplica_any f x wx hf0 hf1; rw [q] at h; exact h
      go_enter Tryd.func9, Tryd.ntmps9
      go_wp2_with fail
      refine (HF.out _ ((Ext.refl _).alloc _)).mono ?_
      rintro e w2 ⟨rfl, hb⟩
      have HB : Hid (Ext (w.alloc (.cells #[.int .i64 0, .slice none 0 0] 36)) w2) := hb
      clear hb
      go_wp2_with fail
      refine (HI.out _).mono ?_
      rintro e w9 ⟨rfl, hw⟩
      rw [hw]
      clear hw w9
      go_wp2
      go_loopw [8, 24] (fun ov i wr => ∃ (k : Nat), k ≤ ms.length ∧ i = .int .i64 k ∧ Hid (wr.ownsRow (w.heap.size + 1) 2 1 ov (Msg.sentK ms x k).length ((Msg.sentK ms x k).map (Value.int .i64))) ∧ Hid (Ext (w.alloc (.cells #[.int .i64 0, .slice none 0 0] 36)) wr)) (fun _ i _ => ms.length - (intOf i).toNat)
      case atStart => exact ⟨0, Nat.zero_le _, rfl, World.ownsRow_nil _ _ _ _, HB.out⟩
      case round =>
        obtain ⟨k, hk, rfl, HO, HE⟩ := hrel
        by_cases hlt : k < ms.length
        · obtain ⟨z, hzk⟩ : ∃ z, ms[k]? = some z := ⟨_, List.getElem?_eq_getElem hlt⟩
          obtain ⟨b, off, rfl, hb, hN⟩ := HX.out (by omega)
          obtain ⟨vz, uz, ⟨-, -, d2, -, -, -, -⟩, -⟩ := hN.ext hb (((Ext.refl _).alloc _).trans HE.out) k z hzk
          have hkl : (Msg.sentK ms x k).length ≤ 1048576 := by have := Msg.sentK_len ms x k; omega
          have hws : w.heap.size + 1 ≤ wr.heap.size := by have := HE.out.size; simpa using this
          by_cases hq : z.from_ = x
          · have HK2 : Hid (Msg.sentK ms x (k + 1) = Msg.sentK ms x k ++ [(k : Int)]) := Msg.sentK_yes hzk hq
            have hqb : (z.from_ == x) = true := by simpa using hq
            clear hzk hN hq
            go_wp2_with (at_builtin; go_must (refine wpList_append_own _ rfl _ _ 26 rfl (w.heap.size + 1) 2 ti (.int .i64 0) 1 8 Tryd.underlying26 hti hz0 hz1 hz2 rfl (by decide) _ _ _ rfl (HO.out.alloc _) ⟨wr.heap.size, 0, none⟩ 1 1 [.int .i64 (k : Int)] rfl rfl (cellM_one _ _ _ _ rfl) (ints_oneCell .i64 [(k : Int)]) (by unfold maxLen; omega) (by omega) (by simp; omega) ?_; intro v6 w6 hown6 hgrow6 hnil6))
            refine ⟨⟨k + 1, by omega, by go_num, ?_, Below.grown (HE.out.alloc _) hgrow6 (by simp; omega) (fun q hq => by have := (HO.out.lt q hq).1; simpa using this)⟩, by simp [intOf]; omega⟩
            show w6.ownsRow _ _ _ _ _ _
            rw [HK2.out, List.map_append, List.length_append]
            exact hown6
          · have HK2 : Hid (Msg.sentK ms x (k + 1) = Msg.sentK ms x k) := Msg.sentK_no hzk hq
            have hqb : (z.from_ == x) = false := by simpa using hq
            clear hzk hN hq
            go_wp2
            refine ⟨⟨k + 1, by omega, by go_num, ?_, HE.out⟩, by simp [intOf]; omega⟩
            show wr.ownsRow _ _ _ _ _ _
            rw [HK2.out]
            exact HO.out
        · have hke : k = ms.length := by omega
          subst hke
          obtain ⟨g, hg1, hg2, hT⟩ := Led.iown_of_owns HO.out
          obtain ⟨x0, x1, x2, x3, x4⟩ := (Led.jz_new w _).ext HE.out
          obtain ⟨a8, c8, rfl, -⟩ := id hT
          have HT : Hid (w.heap.size < g ∧ Led.IOwn wr (.slice a8 (Msg.sentK ms x ms.length).length c8) g (Msg.sentK ms x ms.length)) := ⟨by omega, hT⟩
          clear hT hg1 hg2
          go_wp2
          exact bodyPost_ret (v := Led.jr 0 (.slice a8 (Msg.sentK ms x ms.length).length c8)) (by simp [results, Tryd.results9, go_sem, Led.jr, x1, x2]) rfl (Led.jret_box 0 (((Ext.refl _).alloc _).trans HE.out) HT.out.2 HT.out.1)
    · rw [Msg.sentV_id hc hid]
      clear hc
      have HI : Hid (∀ wx, Calls Tryd.prog 28 #[.int .i64 f, .int .i64 x] wx fun e w' => e = .returned (.bool false) ∧ w' = wx) := fun wx => by
        have q : (decide (1 ≤ x) && decide (x ≤ 3 * f + 1)) = false := by rw [Bool.and_eq_false_iff]; simp; omega
        have h := isReplica_any f x wx hf0 hf1; rw [q] at h; exact h
      go_enter Tryd.func9, Tryd.ntmps9
      go_wp2_with fail
      refine (HF.out _ ((Ext.refl _).alloc _)).mono ?_
      rintro e w2 ⟨rfl, hb⟩
      have HB : Hid (Ext (w.alloc (.cells #[.int .i64 0, .slice none 0 0] 36)) w2) := hb
      obtain ⟨x0, x1, x2, x3, x4⟩ := (Led.jz_new w _).ext hb
      clear hb
      go_wp2_with fail
      refine (HI.out _).mono ?_
      rintro e w9 ⟨rfl, hw⟩
      rw [hw]
      clear hw w9
      go_wp2
      exact bodyPost_ret (v := Led.jr 3 (.slice none 0 0)) (by simp [results, Tryd.results9, go_sem, Led.jr, x1, x2]) rfl (Led.jret_bad 3 (((Ext.refl _).alloc _).trans HB.out))
  · rw [Msg.sentV_bad hc]
    generalize Msg.ledger f ms = c at *
    go_enter Tryd.func9, Tryd.ntmps9
    go_wp2_with fail
    refine (HF.out _ ((Ext.refl _).alloc _)).mono ?_
    rintro e w2 ⟨rfl, hb⟩
    have HB : Hid (Ext (w.alloc (.cells #[.int .i64 0, .slice none 0 0] 36)) w2) := hb
    obtain ⟨x0, x1, x2, x3, x4⟩ := (Led.jz_new w _).ext hb
    clear hb
    have hcb : (c != 0) = true := by simpa using hc
    go_wp2
    exact bodyPost_ret (v := Led.jr c (.slice none 0 0)) (by simp [results, Tryd.results9, go_sem, Led.jr, x1, x2]) rfl (Led.jret_bad c (((Ext.refl _).alloc _).trans HB.out))

end Go.Proofs.YtpncnfodgfldlaaDoor
