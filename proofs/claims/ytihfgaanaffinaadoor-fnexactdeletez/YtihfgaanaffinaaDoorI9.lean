/- The program's kidNames, KidsZ. -/
import Derived.Test.YtihfgaanaffinaaDoorI7
import Derived.Test.YtihfgaanaffinaaDoorT5
namespace Go.Proofs.YtihfgaanaffinaaDoor
open Go.RowKit
namespace Tre
theorem nameV_ok {p : ByteArray} (h : Pth.faultI p.data.toList = 0) (ht : ¬ p.data.toList = [47]) : Pth.nameV p.data.toList = (0, (lastName p).data.toList) := by
  unfold Pth.nameV lastName; rw [h, if_neg (by simp), if_neg ht, extract_list, List.take_of_length_le (by simp)]
theorem parentV_top {p : ByteArray} (h : Pth.faultI p.data.toList = 0) (ht : p.data.toList = [47]) : Pth.parentV p.data.toList = (4, []) := by
  unfold Pth.parentV; rw [h, if_neg (by simp), if_pos ht]
end Tre

theorem owns_ext {B : Nat} {e : TypeId} {k : Nat} {v : Value} {n : Nat} {xs : List Value} {w w' : World} (h : w.ownsRow B e k v n xs) (hb : Ext w w') : w'.ownsRow B e k v n xs := by
  refine ⟨h.1, ?_⟩
  rcases h.2 with h0 | ⟨g, cap, cur, h1, h2, h3, h4⟩
  · exact .inl h0
  · exact .inr ⟨g, cap, cur, h1, h2, (Below.block hb g (Array.getElem?_eq_some_iff.1 h3).1).trans h3, h4⟩

set_option maxHeartbeats 2000000 in
set_option maxRecDepth 100000 in
theorem kidNames_any (v : Value) (zs : List Zn) (p : ByteArray) (w : World) (hg : Gd w) (hS : NSlice w v zs) (hl : zs.length ≤ 1048576) (hf : ∀ z ∈ zs, Pth.faultI z.path.data.toList = 0) :
    Calls Tryd.prog 96 #[v, .string p] w fun e w' => ∃ v' g, e = .returned v' ∧ w.heap.size ≤ g ∧ TOwn w' v' g (Tre.kids zs p) ∧ Ext w w' := by
  have hi9 : (Tryd.prog.info? 9).map (fun i => (i.zero, i.size, i.bytes)) = some (some (.string ByteArray.empty), 1, 16) := by kernel_rfl
  obtain ⟨i0, hi, hx⟩ := Option.map_eq_some_iff.1 hi9
  simp only [Prod.mk.injEq] at hx
  obtain ⟨hz0, hz1, hz2⟩ := hx
  clear hi9
  obtain ⟨a, cap, rfl, hlc, hcm, hx⟩ := hS
  have HX : Hid (0 < zs.length → ∃ b off, a = some ⟨b, off, none⟩ ∧ b < w.heap.size ∧ NodesAt w b off zs) := hx
  have HF : Hid (∀ z ∈ zs, Pth.faultI z.path.data.toList = 0) := hf
  have HG : Hid (Gd w) := hg
  clear hx hf hg
  unfold maxLen at hcm
  have hft := fieldT_text
  go_enter Tryd.func96, Tryd.ntmps96
  go_wp2
  go_loopw [5, 10] (fun v i wr => ∃ (k : Nat), k ≤ zs.length ∧ i = .int .i64 k ∧ Hid (wr.ownsRow w.heap.size 9 1 v (Tre.kids (zs.take k) p).length ((Tre.kids (zs.take k) p).map Value.string)) ∧ Hid (Ext w wr)) (fun _ i _ => zs.length - (intOf i).toNat)
  case atStart => exact ⟨0, by omega, rfl, World.ownsRow_nil _ _ _ _, Ext.refl _⟩
  case round =>
    obtain ⟨k, hk, rfl, HO, HE⟩ := hrel
    by_cases hlt : k < zs.length
    · obtain ⟨z, hzk⟩ : ∃ z, zs[k]? = some z := ⟨_, List.getElem?_eq_getElem hlt⟩
      obtain ⟨b, off, rfl, hb, hN⟩ := HX.out (by omega)
      have HD : Hid (∀ wx : World, Ext w wx → wx.cell? ⟨b, off + k * 5, none⟩ = some (.string z.path)) := fun wx h => (hN.ext hb h k z hzk).1
      have d0 := HD.out _ HE.out
      have hfz := HF.out z (List.mem_of_getElem? hzk)
      have HK : Hid (Tre.kids (zs.take (k + 1)) p = Tre.kids (zs.take k) p ++ (if Tre.isKid p z = true then [Tre.lastName z.path] else [])) := Tre.kids_snoc hzk
      have hkl : (Tre.kids (zs.take k) p).length ≤ k := by have := Tre.kids_le (zs.take k) p; rw [List.length_take] at this; omega
      have HP : Hid (Calls Tryd.prog 24 #[.string z.path] wr fun e w' => e = .returned (tr (Pth.parentV z.path.data.toList)) ∧ Ext wr w') := parentOf_any z.path wr (HG.out.ext HE.out)
      have HM : Hid (∀ wx : World, Ext w wx → Calls Tryd.prog 25 #[.string z.path] wx fun e w' => e = .returned (tr (Pth.nameV z.path.data.toList)) ∧ Ext wx w') := fun wx h => nameIn_any z.path wx (HG.out.ext h)
      clear hzk hN hb
      cases ht : (z.path.toList == [47]) with
      | true =>
        have HK2 : Hid (Tre.kids (zs.take (k + 1)) p = Tre.kids (zs.take k) p) := by
          show _ = _
          rw [HK.out, if_neg]; · simp
          unfold Tre.isKid; rw [ht]; simp
        have htt : z.path.data.toList = [47] := by rw [beq_top] at ht; simpa using ht
        rw [Tre.parentV_top hfz htt] at HP
        unfold tr at HP
        simp only at HP
        clear hfz htt ht
        go_wp2_with fail
        refine HP.out.mono ?_
        rintro e w3 ⟨rfl, hb⟩
        have HE3 : Hid (Ext wr w3) := hb
        clear hb
        go_wp2
        refine ⟨⟨k + 1, by omega, by go_num, ?_, ?_⟩, by simp [intOf]; omega⟩
        · show World.ownsRow _ _ _ _ _ _ _
          rw [HK2.out]
          exact (owns_ext HO.out HE3.out).alloc _
        · exact (HE.out.trans HE3.out).alloc _
      | false =>
        have htt : ¬ z.path.data.toList = [47] := by rw [beq_top] at ht; simpa using ht
        rw [Tre.parentV_ok hfz htt] at HP
        simp only [Tre.nameV_ok hfz htt] at HM
        unfold tr at HP HM
        simp only [Tre.mkB_data] at HP HM
        cases hp : ((Tre.par z.path).toList == p.toList) with
        | false =>
          have HK2 : Hid (Tre.kids (zs.take (k + 1)) p = Tre.kids (zs.take k) p) := by
            show _ = _
            rw [HK.out, if_neg]; · simp
            unfold Tre.isKid; rw [hp]; simp
          clear hfz htt ht
          generalize Tre.par z.path = pz at *
          go_wp2_with fail
          refine HP.out.mono ?_
          rintro e w3 ⟨rfl, hb⟩
          have HE3 : Hid (Ext wr w3) := hb
          clear hb
          go_wp2
          refine ⟨⟨k + 1, by omega, by go_num, ?_, ?_⟩, by simp [intOf]; omega⟩
          · show World.ownsRow _ _ _ _ _ _ _
            rw [HK2.out]
            exact (owns_ext HO.out HE3.out).alloc _
          · exact (HE.out.trans HE3.out).alloc _
        | true =>
          have HK2 : Hid (Tre.kids (zs.take (k + 1)) p = Tre.kids (zs.take k) p ++ [Tre.lastName z.path]) := by
            show _ = _
            rw [HK.out, if_pos]
            unfold Tre.isKid; rw [hp, ht]; simp
          clear hfz htt ht
          generalize Tre.par z.path = pz at *
          generalize Tre.lastName z.path = nz at *
          go_wp2_with fail
          refine HP.out.mono ?_
          rintro e w3 ⟨rfl, hb⟩
          have HE3 : Hid (Ext w (w3.alloc (.cells #[.int .i64 0, .string pz] 27))) := (HE.out.trans hb).alloc _
          have HO3 : Hid ((w3.alloc (.cells #[.int .i64 0, .string pz] 27)).ownsRow w.heap.size 9 1 u5 (Tre.kids (zs.take k) p).length ((Tre.kids (zs.take k) p).map Value.string)) := (owns_ext HO.out hb).alloc _
          have d3 := HD.out _ HE3.out
          clear hb d0
          go_wp2_with fail
          refine (HM.out _ HE3.out).mono ?_
          rintro e w5 ⟨rfl, hb⟩
          have HE5 : Hid (Ext w w5) := HE3.out.trans hb
          have HO5 : Hid (w5.ownsRow w.heap.size 9 1 u5 (Tre.kids (zs.take k) p).length ((Tre.kids (zs.take k) p).map Value.string)) := owns_ext HO3.out hb
          clear hb d3
          go_wp2_with (at_builtin; go_must (refine wpList_append_own _ rfl _ _ 62 rfl w.heap.size 9 i0 (.string ByteArray.empty) 1 16 Tryd.underlying62 hi hz0 hz1 hz2 rfl (by decide) _ _ _ rfl (HO5.out.alloc _) ⟨w5.heap.size, 0, none⟩ 1 1 [.string nz] rfl rfl (cell_one_new _ _ _) (fun x hx => by simp at hx; subst hx; rfl) (by unfold maxLen; omega) (by omega) (by have := HE5.out.size; simp; omega) ?_; intro v' w6 hown' hgrow3 hnil3))
          refine ⟨⟨k + 1, by omega, by go_num, ?_, Below.grown (HE5.out.alloc _) hgrow3 (by have := HE5.out.size; simp; omega) (fun q hq => (HO5.out.lt q hq).1)⟩, by simp [intOf]; omega⟩
          show w6.ownsRow _ _ _ _ _ _
          rw [HK2.out, List.map_append, List.length_append]
          exact hown'
    · have hke : k = zs.length := by omega
      subst hke
      obtain ⟨g, hg, hT⟩ := TOwn.of_row HO.out
      rw [List.take_length] at hT
      have HT : Hid (w.heap.size ≤ g ∧ TOwn wr u5 g (Tre.kids zs p)) := ⟨hg, hT⟩
      clear hg hT
      go_wp2
      go_ret
      exact ⟨_, g, rfl, HT.out.1, HT.out.2, HE.out⟩
end Go.Proofs.YtihfgaanaffinaaDoor
