/- the changes among some places; the specification's. -/
import Derived.Test.YtecgjdgfjgcmdaaGreatRcQV4
namespace Go.Proofs.YtecgjdgfjgcmdaaGreat
open Go.RowKit Go.Maps
set_option maxHeartbeats 8000000 in
set_option maxRecDepth 100000 in
theorem l10Changes_any (f : Int) (v : Value) (ms : List Ms) (view : Int) (w : World) (hS : MSlice w v ms) (hf0 : 1 ≤ f) (hf1 : f ≤ 2) (hml : ms.length ≤ 240) :
    Calls Tryz.prog 66 #[.int .i64 f, v, .int .i64 view] w fun e w' => ∃ vo g, e = .returned vo ∧ w.heap.size ≤ g ∧ Led.IOwn w' vo g ((Msg.among f ms view (Nst.upto 0 ms.length) ms.length).take (2 * f + 1).toNat) ∧ Ext w w' := by
  have hi9 : (Tryz.prog.info? 2).map (fun i => (i.zero, i.size, i.bytes)) = some (some (.int .i64 0), 1, 8) := by kernel_rfl
  obtain ⟨ti, hti, hxx⟩ := Option.map_eq_some_iff.1 hi9
  simp only [Prod.mk.injEq] at hxx
  obtain ⟨hz0, hz1, hz2⟩ := hxx
  clear hi9
  have HC : Hid (∀ (p : Int) (wx : World), Ext w wx → Calls Tryz.prog 120 #[.int .i64 f, v, .int .i64 p] wx fun e w' => e = .returned (.bool (Msg.changeAt f ms p)) ∧ Ext wx w') := fun p wx he => l10Change_any f v ms p wx (hS.ext he) hf0 hf1
  have HFm : Hid (∀ (u : Value) (l : List Int) (x : Int) (wx : World), Ext w wx → ISlice wx u l → (∀ p ∈ l, 0 ≤ p ∧ p < (ms.length : Int)) → Calls Tryz.prog 121 #[v, u, .int .i64 x] wx fun e w' => e = .returned (.bool (Msg.fromIn ms l x)) ∧ w' = wx) := fun u l x wx he hi hin => l10From_any v ms u l x wx (hS.ext he) hi hin
  have HQ : Hid (∀ wx, Calls Tryz.prog 67 #[.int .i64 f] wx fun e w' => e = .returned (.int .i64 (2 * f + 1)) ∧ w' = wx) := fun wx => l9Need_any f wx hf0 hf1
  have HS : Hid (MSlice w v ms) := hS
  obtain ⟨a, cap, rfl, -, -, -⟩ := hS
  go_enter Tryz.func66, Tryz.ntmps66
  go_wp2
  go_loopw [7, 8] (fun ov i wr => ∃ (k : Nat), k ≤ ms.length ∧ i = .int .i64 k ∧ ((Msg.among f ms view (Nst.upto 0 ms.length) k).length : Int) ≤ 2 * f + 1 ∧ Hid (wr.ownsRow w.heap.size 2 1 ov (Msg.among f ms view (Nst.upto 0 ms.length) k).length ((Msg.among f ms view (Nst.upto 0 ms.length) k).map (Value.int .i64))) ∧ Hid (Ext w wr)) (fun _ i _ => ms.length - (intOf i).toNat)
  case atStart => exact ⟨0, Nat.zero_le _, rfl, by simp [Msg.among]; omega, World.ownsRow_made w #[] 0 (Nat.le_refl _) (by unfold maxLen; omega) rfl, (Ext.refl _).alloc _⟩
  case round =>
    obtain ⟨k, hk, rfl, hl7, HO, HE⟩ := hrel
    obtain ⟨ar, cr, hrow⟩ := Led.owns_form HO.out
    subst hrow
    by_cases hlt : k < ms.length
    · by_cases hq : ((Msg.among f ms view (Nst.upto 0 ms.length) k).length : Int) < 2 * f + 1
      · obtain ⟨z, h2⟩ : ∃ z, ms[k]? = some z := ⟨_, List.getElem?_eq_getElem hlt⟩
        have HNt : Hid (Msg.nth ms (k : Int) = some z) := (Msg.nth_nat k).trans h2
        have HZ : Hid ((Nst.upto 0 ms.length)[k]? = some (k : Int)) := Msg.upto_at hlt
        obtain ⟨b1, off1, cap1, e1, hlt1, hlm1, hcm1, hb1, hm⟩ := (HS.out.ext HE.out).at2 h2
        injection e1 with e1 e4 e5
        subst e1 e5
        have HMz : Hid (MAt wr b1 (off1 + k * 7) z) := hm
        obtain ⟨vz, uz, ⟨c0, c1, c2, -, -, -, -⟩, -⟩ := hm
        have hws : w.heap.size ≤ wr.heap.size := HE.out.size
        clear h2 e4 c0
        go_wp2_with fail
        refine (HQ.out _).mono ?_
        rintro e w9 ⟨rfl, hw⟩
        rw [hw]
        clear hw w9
        by_cases hv : z.view = view
        · have g1 : (z.view == view) = true := by simpa using hv
          go_wp2_with fail
          refine (HC.out _ _ HE.out).mono ?_
          rintro e w3 ⟨rfl, hb3⟩
          rw [Msg.changeAt_some HNt.out]
          have HE3 : Hid (Ext w w3) := HE.out.trans hb3
          have HO3 : Hid (w3.ownsRow w.heap.size 2 1 (.slice ar (Msg.among f ms view (Nst.upto 0 ms.length) k).length cr) (Msg.among f ms view (Nst.upto 0 ms.length) k).length ((Msg.among f ms view (Nst.upto 0 ms.length) k).map (Value.int .i64))) := Led.own_ext HO.out hb3
          obtain ⟨vz4, uz4, ⟨-, -, d2, -, -, -, -⟩, -⟩ := HMz.out.ext hb1 hb3
          clear hb3 c1 c2 HO HE HMz
          cases hc : Msg.changeB f ms z with
          | false =>
            have HK2 : Hid (Msg.among f ms view (Nst.upto 0 ms.length) (k + 1) = Msg.among f ms view (Nst.upto 0 ms.length) k) := Msg.among_no HZ.out (by unfold Msg.okP; rw [Msg.changeAt_some HNt.out, hc]; simp)
            clear hc
            have HO9 : Hid (w3.ownsRow w.heap.size 2 1 (.slice ar (Msg.among f ms view (Nst.upto 0 ms.length) k).length cr) (Msg.among f ms view (Nst.upto 0 ms.length) (k + 1)).length ((Msg.among f ms view (Nst.upto 0 ms.length) (k + 1)).map (Value.int .i64))) := by show w3.ownsRow _ _ _ _ _ _; rw [HK2.out]; exact HO3.out
            have hl9 : (Msg.among f ms view (Nst.upto 0 ms.length) (k + 1)).length ≤ 7 := by rw [HK2.out]; omega
            have hl8 : ((Msg.among f ms view (Nst.upto 0 ms.length) (k + 1)).length : Int) ≤ 2 * f + 1 := by rw [HK2.out]; omega
            go_wp2
            exact ⟨⟨k + 1, by omega, by go_num, hl8, HO9, HE3⟩, by simp [intOf]; omega⟩
          | true =>
            have HI3 : Hid (ISlice w3 (.slice ar (Msg.among f ms view (Nst.upto 0 ms.length) k).length cr) (Msg.among f ms view (Nst.upto 0 ms.length) k)) := by
              obtain ⟨g, -, -, hT⟩ := Led.iown_of_owns HO3.out
              exact hT.slice
            go_wp2_with fail
            refine (HFm.out _ _ _ _ HE3.out HI3.out (fun p hp => by have := Nst.mem_upto.1 (Msg.among_mem k hp); omega)).mono ?_
            rintro e w9 ⟨rfl, hw⟩
            rw [hw]
            clear hw w9
            cases hfr : Msg.fromIn ms (Msg.among f ms view (Nst.upto 0 ms.length) k) z.from_ with
            | true =>
              have HK2 : Hid (Msg.among f ms view (Nst.upto 0 ms.length) (k + 1) = Msg.among f ms view (Nst.upto 0 ms.length) k) := Msg.among_no HZ.out (by unfold Msg.okP; rw [Msg.fromAt_some HNt.out, hfr]; simp)
              clear hc hfr
              have HO9 : Hid (w3.ownsRow w.heap.size 2 1 (.slice ar (Msg.among f ms view (Nst.upto 0 ms.length) k).length cr) (Msg.among f ms view (Nst.upto 0 ms.length) (k + 1)).length ((Msg.among f ms view (Nst.upto 0 ms.length) (k + 1)).map (Value.int .i64))) := by show w3.ownsRow _ _ _ _ _ _; rw [HK2.out]; exact HO3.out
              have hl9 : (Msg.among f ms view (Nst.upto 0 ms.length) (k + 1)).length ≤ 7 := by rw [HK2.out]; omega
              have hl8 : ((Msg.among f ms view (Nst.upto 0 ms.length) (k + 1)).length : Int) ≤ 2 * f + 1 := by rw [HK2.out]; omega
              go_wp2
              exact ⟨⟨k + 1, by omega, by go_num, hl8, HO9, HE3⟩, by simp [intOf]; omega⟩
            | false =>
              have HK2 : Hid (Msg.among f ms view (Nst.upto 0 ms.length) (k + 1) = Msg.among f ms view (Nst.upto 0 ms.length) k ++ [(k : Int)]) := Msg.among_yes HZ.out (by unfold Msg.okP; rw [Msg.changeAt_some HNt.out, hc, Msg.fromAt_some HNt.out, hfr, Msg.viewAt_some HNt.out, hv]; simp)
              have hl8 : ((Msg.among f ms view (Nst.upto 0 ms.length) (k + 1)).length : Int) ≤ 2 * f + 1 := by rw [HK2.out, List.length_append]; simp; omega
              have hws3 : w.heap.size ≤ w3.heap.size := HE3.out.size
              clear hc hfr HI3 d2
              go_wp2_with (at_builtin; go_must (refine wpList_append_own _ rfl _ _ 38 rfl (w.heap.size) 2 ti (.int .i64 0) 1 8 Tryz.underlying38 hti hz0 hz1 hz2 rfl (by decide) _ _ _ rfl (HO3.out.alloc _) ⟨w3.heap.size, 0, none⟩ 1 1 [.int .i64 (k : Int)] rfl rfl (cellM_one _ _ _ _ rfl) (ints_oneCell .i64 [(k : Int)]) (by unfold maxLen; omega) (by omega) (by simp; omega) ?_; intro v6 w6 hown6 hgrow6 hnil6))
              refine ⟨⟨k + 1, by omega, by go_num, hl8, ?_, Below.grown (HE3.out.alloc _) hgrow6 (by simp; omega) (fun q hq => (HO3.out.lt q hq).1)⟩, by simp [intOf]; omega⟩
              show w6.ownsRow _ _ _ _ _ _
              rw [HK2.out, List.map_append, List.length_append]
              exact hown6
        · have g1 : (z.view == view) = false := by simpa using hv
          have HK2 : Hid (Msg.among f ms view (Nst.upto 0 ms.length) (k + 1) = Msg.among f ms view (Nst.upto 0 ms.length) k) := Msg.among_no HZ.out (by unfold Msg.okP; rw [Msg.viewAt_some HNt.out, decide_eq_false hv]; rfl)
          clear hv
          have HO9 : Hid (wr.ownsRow w.heap.size 2 1 (.slice ar (Msg.among f ms view (Nst.upto 0 ms.length) k).length cr) (Msg.among f ms view (Nst.upto 0 ms.length) (k + 1)).length ((Msg.among f ms view (Nst.upto 0 ms.length) (k + 1)).map (Value.int .i64))) := by show wr.ownsRow _ _ _ _ _ _; rw [HK2.out]; exact HO.out
          have hl9 : (Msg.among f ms view (Nst.upto 0 ms.length) (k + 1)).length ≤ 7 := by rw [HK2.out]; omega
          have hl8 : ((Msg.among f ms view (Nst.upto 0 ms.length) (k + 1)).length : Int) ≤ 2 * f + 1 := by rw [HK2.out]; omega
          go_wp2
          exact ⟨⟨k + 1, by omega, by go_num, hl8, HO9, HE⟩, by simp [intOf]; omega⟩
      · have hFin : Hid ((Msg.among f ms view (Nst.upto 0 ms.length) ms.length).take (2 * f + 1).toNat = Msg.among f ms view (Nst.upto 0 ms.length) k) := Msg.among_take hk (by omega)
        obtain ⟨g, hg1, hg2, hT⟩ := Led.iown_of_owns HO.out
        have HT : Hid (w.heap.size ≤ g ∧ Led.IOwn wr (.slice ar (Msg.among f ms view (Nst.upto 0 ms.length) k).length cr) g (Msg.among f ms view (Nst.upto 0 ms.length) k)) := ⟨by omega, hT⟩
        clear hT hg1 hg2
        go_wp2_with fail
        refine (HQ.out _).mono ?_
        rintro e w9 ⟨rfl, hw⟩
        rw [hw]
        clear hw w9
        go_wp2
        go_ret
        exact ⟨_, g, rfl, HT.out.1, by rw [hFin.out]; exact HT.out.2, HE.out⟩
    · have hke : k = ms.length := by omega
      subst hke
      have hFin : Hid ((Msg.among f ms view (Nst.upto 0 ms.length) ms.length).take (2 * f + 1).toNat = Msg.among f ms view (Nst.upto 0 ms.length) ms.length) := List.take_of_length_le (by omega)
      obtain ⟨g, hg1, hg2, hT⟩ := Led.iown_of_owns HO.out
      have HT : Hid (w.heap.size ≤ g ∧ Led.IOwn wr (.slice ar (Msg.among f ms view (Nst.upto 0 ms.length) ms.length).length cr) g (Msg.among f ms view (Nst.upto 0 ms.length) ms.length)) := ⟨by omega, hT⟩
      clear hT hg1 hg2
      go_wp2
      go_ret
      exact ⟨_, g, rfl, HT.out.1, by rw [hFin.out]; exact HT.out.2, HE.out⟩

end Go.Proofs.YtecgjdgfjgcmdaaGreat
