/- I9, W6, W7, W8, W9, I14, I15, I16, I17, I18a, I18, I19, in one text. -/
import Derived.Test.YtmiffefnpendoaaGreatDoorI7
import Derived.Test.YtmiffefnpendoaaGreatDoorMC1
import Derived.Test.YtmiffefnpendoaaGreatDoorW5
import Derived.Laws.Externs
import Derived.Lib.Overlaps
import Derived.Lib.AppendZeros
import Derived.Lib.JoinLaws
import Derived.Deep.AppendSrc
import Derived.Laws.Append
import Derived.Lib.AppendZerosOnto
/- The program's kidNames, KidsZ. -/
namespace Go.Proofs.YtmiffefnpendoaaGreatDoor
open Go.RowKit
namespace Tre
theorem nameV_ok {p : ByteArray} (h : Pth.faultI p.data.toList = 0) (ht : ¬ p.data.toList = [47]) : Pth.nameV p.data.toList = (0, (lastName p).data.toList) := by
  unfold Pth.nameV lastName; rw [h, if_neg (by simp), if_neg ht, extract_list, List.take_of_length_le (by simp)]
theorem parentV_top {p : ByteArray} (h : Pth.faultI p.data.toList = 0) (ht : p.data.toList = [47]) : Pth.parentV p.data.toList = (4, []) := by
  unfold Pth.parentV; rw [h, if_neg (by simp), if_pos ht]
end Tre

theorem owns_ext {B : Nat} {e : TypeId} {k : Nat} {v : Value} {n : Nat} {xs : List Value} {w w' : World} (h : w.ownsRow B e k v n xs) (hb : Ext w w') : w'.ownsRow B e k v n xs := by
  refine ⟨h.1, ?_⟩
  rcases h.2 with h0 | ⟨g, cap, cur, h1, h2, h3, h4⟩
  · exact .inl h0
  · exact .inr ⟨g, cap, cur, h1, h2, (Below.block hb g (Array.getElem?_eq_some_iff.1 h3).1).trans h3, h4⟩

set_option maxHeartbeats 2000000 in
set_option maxRecDepth 100000 in
theorem kidNames_any (v : Value) (zs : List Zn) (p : ByteArray) (w : World) (hg : Gd w) (hS : NSlice w v zs) (hl : zs.length ≤ 1048576) (hf : ∀ z ∈ zs, Pth.faultI z.path.data.toList = 0) :
    Calls Tryz.prog 54 #[v, .string p] w fun e w' => ∃ v' g, e = .returned v' ∧ w.heap.size ≤ g ∧ TOwn w' v' g (Tre.kids zs p) ∧ Ext w w' := by
  have hi9 : (Tryz.prog.info? 9).map (fun i => (i.zero, i.size, i.bytes)) = some (some (.string ByteArray.empty), 1, 16) := by kernel_rfl
  obtain ⟨i0, hi, hx⟩ := Option.map_eq_some_iff.1 hi9
  simp only [Prod.mk.injEq] at hx
  obtain ⟨hz0, hz1, hz2⟩ := hx
  clear hi9
  obtain ⟨a, cap, rfl, hlc, hcm, hx⟩ := hS
  have HX : Hid (0 < zs.length → ∃ b off, a = some ⟨b, off, none⟩ ∧ b < w.heap.size ∧ NodesAt w b off zs) := hx
  have HF : Hid (∀ z ∈ zs, Pth.faultI z.path.data.toList = 0) := hf
  have HG : Hid (Gd w) := hg
  clear hx hf hg
  unfold maxLen at hcm
  have hft := fieldT_text
  go_enter Tryz.func54, Tryz.ntmps54
  go_wp2
  go_loopw [5, 10] (fun v i wr => ∃ (k : Nat), k ≤ zs.length ∧ i = .int .i64 k ∧ Hid (wr.ownsRow w.heap.size 9 1 v (Tre.kids (zs.take k) p).length ((Tre.kids (zs.take k) p).map Value.string)) ∧ Hid (Ext w wr)) (fun _ i _ => zs.length - (intOf i).toNat)
  case atStart => exact ⟨0, by omega, rfl, World.ownsRow_nil _ _ _ _, Ext.refl _⟩
  case round =>
    obtain ⟨k, hk, rfl, HO, HE⟩ := hrel
    by_cases hlt : k < zs.length
    · obtain ⟨z, hzk⟩ : ∃ z, zs[k]? = some z := ⟨_, List.getElem?_eq_getElem hlt⟩
      obtain ⟨b, off, rfl, hb, hN⟩ := HX.out (by omega)
      have HD : Hid (∀ wx : World, Ext w wx → wx.cell? ⟨b, off + k * 5, none⟩ = some (.string z.path)) := fun wx h => (hN.ext hb h k z hzk).1
      have d0 := HD.out _ HE.out
      have hfz := HF.out z (List.mem_of_getElem? hzk)
      have HK : Hid (Tre.kids (zs.take (k + 1)) p = Tre.kids (zs.take k) p ++ (if Tre.isKid p z = true then [Tre.lastName z.path] else [])) := Tre.kids_snoc hzk
      have hkl : (Tre.kids (zs.take k) p).length ≤ k := by have := Tre.kids_le (zs.take k) p; rw [List.length_take] at this; omega
      have HP : Hid (Calls Tryz.prog 12 #[.string z.path] wr fun e w' => e = .returned (tr (Pth.parentV z.path.data.toList)) ∧ Ext wr w') := parentOf_any z.path wr (HG.out.ext HE.out)
      have HM : Hid (∀ wx : World, Ext w wx → Calls Tryz.prog 98 #[.string z.path] wx fun e w' => e = .returned (tr (Pth.nameV z.path.data.toList)) ∧ Ext wx w') := fun wx h => nameIn_any z.path wx (HG.out.ext h)
      clear hzk hN hb
      cases ht : (z.path.toList == [47]) with
      | true =>
        have HK2 : Hid (Tre.kids (zs.take (k + 1)) p = Tre.kids (zs.take k) p) := by
          show _ = _
          rw [HK.out, if_neg]; · simp
          unfold Tre.isKid; rw [ht]; simp
        have htt : z.path.data.toList = [47] := by rw [beq_top] at ht; simpa using ht
        rw [Tre.parentV_top hfz htt] at HP
        unfold tr at HP
        simp only at HP
        clear hfz htt ht
        go_wp2_with fail
        refine HP.out.mono ?_
        rintro e w3 ⟨rfl, hb⟩
        have HE3 : Hid (Ext wr w3) := hb
        clear hb
        go_wp2
        refine ⟨⟨k + 1, by omega, by go_num, ?_, ?_⟩, by simp [intOf]; omega⟩
        · show World.ownsRow _ _ _ _ _ _ _
          rw [HK2.out]
          exact (owns_ext HO.out HE3.out).alloc _
        · exact (HE.out.trans HE3.out).alloc _
      | false =>
        have htt : ¬ z.path.data.toList = [47] := by rw [beq_top] at ht; simpa using ht
        rw [Tre.parentV_ok hfz htt] at HP
        simp only [Tre.nameV_ok hfz htt] at HM
        unfold tr at HP HM
        simp only [Tre.mkB_data] at HP HM
        cases hp : ((Tre.par z.path).toList == p.toList) with
        | false =>
          have HK2 : Hid (Tre.kids (zs.take (k + 1)) p = Tre.kids (zs.take k) p) := by
            show _ = _
            rw [HK.out, if_neg]; · simp
            unfold Tre.isKid; rw [hp]; simp
          clear hfz htt ht
          generalize Tre.par z.path = pz at *
          go_wp2_with fail
          refine HP.out.mono ?_
          rintro e w3 ⟨rfl, hb⟩
          have HE3 : Hid (Ext wr w3) := hb
          clear hb
          go_wp2
          refine ⟨⟨k + 1, by omega, by go_num, ?_, ?_⟩, by simp [intOf]; omega⟩
          · show World.ownsRow _ _ _ _ _ _ _
            rw [HK2.out]
            exact (owns_ext HO.out HE3.out).alloc _
          · exact (HE.out.trans HE3.out).alloc _
        | true =>
          have HK2 : Hid (Tre.kids (zs.take (k + 1)) p = Tre.kids (zs.take k) p ++ [Tre.lastName z.path]) := by
            show _ = _
            rw [HK.out, if_pos]
            unfold Tre.isKid; rw [hp, ht]; simp
          clear hfz htt ht
          generalize Tre.par z.path = pz at *
          generalize Tre.lastName z.path = nz at *
          go_wp2_with fail
          refine HP.out.mono ?_
          rintro e w3 ⟨rfl, hb⟩
          have HE3 : Hid (Ext w (w3.alloc (.cells #[.int .i64 0, .string pz] 36))) := (HE.out.trans hb).alloc _
          have HO3 : Hid ((w3.alloc (.cells #[.int .i64 0, .string pz] 36)).ownsRow w.heap.size 9 1 u5 (Tre.kids (zs.take k) p).length ((Tre.kids (zs.take k) p).map Value.string)) := (owns_ext HO.out hb).alloc _
          have d3 := HD.out _ HE3.out
          clear hb d0
          go_wp2_with fail
          refine (HM.out _ HE3.out).mono ?_
          rintro e w5 ⟨rfl, hb⟩
          have HE5 : Hid (Ext w w5) := HE3.out.trans hb
          have HO5 : Hid (w5.ownsRow w.heap.size 9 1 u5 (Tre.kids (zs.take k) p).length ((Tre.kids (zs.take k) p).map Value.string)) := owns_ext HO3.out hb
          clear hb d3
          go_wp2_with (at_builtin; go_must (refine wpList_append_own _ rfl _ _ 31 rfl w.heap.size 9 i0 (.string ByteArray.empty) 1 16 Tryz.underlying31 hi hz0 hz1 hz2 rfl (by decide) _ _ _ rfl (HO5.out.alloc _) ⟨w5.heap.size, 0, none⟩ 1 1 [.string nz] rfl rfl (cell_one_new _ _ _) (fun x hx => by simp at hx; subst hx; rfl) (by unfold maxLen; omega) (by omega) (by have := HE5.out.size; simp; omega) ?_; intro v' w6 hown' hgrow3 hnil3))
          refine ⟨⟨k + 1, by omega, by go_num, ?_, Below.grown (HE5.out.alloc _) hgrow3 (by have := HE5.out.size; simp; omega) (fun q hq => (HO5.out.lt q hq).1)⟩, by simp [intOf]; omega⟩
          show w6.ownsRow _ _ _ _ _ _
          rw [HK2.out, List.map_append, List.length_append]
          exact hown'
    · have hke : k = zs.length := by omega
      subst hke
      obtain ⟨g, hg, hT⟩ := TOwn.of_row HO.out
      rw [List.take_length] at hT
      have HT : Hid (w.heap.size ≤ g ∧ TOwn wr u5 g (Tre.kids zs p)) := ⟨hg, hT⟩
      clear hg hT
      go_wp2
      go_ret
      exact ⟨_, g, rfl, HT.out.1, HT.out.2, HE.out⟩
end Go.Proofs.YtmiffefnpendoaaGreatDoor

/- impl.isName, strings.HasPrefix, impl.IsUnder and the specification's l1Under, IsUnder: what they answer. -/
namespace Go.Proofs.YtmiffefnpendoaaGreatDoor
open Go.RowKit

set_option maxHeartbeats 1000000 in
theorem isName_any (s : ByteArray) (w : World) (hs : s.size ≤ 1048576) :
    Calls Tryz.prog 146 #[.string s] w fun e w' => e = .returned (.bool (Pth.okName s.data.toList)) ∧ Ext w w' := by
  rw [← Pth.isName_eq, ← slash_cat]
  obtain ⟨t, ht⟩ : ∃ t, (⟨#[47]⟩ : ByteArray) ++ s = t := ⟨_, rfl⟩
  rw [ht]
  cases hm : Pth.many t.data.toList
  · cases hr : Pth.rd t.data.toList with
    | none =>
      go_enter Tryz.func146, Tryz.ntmps146
      go_wp2_with fail
      refine (rp_none t _ hm hr).mono ?_
      rintro e w1 ⟨rfl, hb⟩
      have HB : Hid (Ext w w1) := hb
      clear hb
      unfold rpText
      go_wp2
      go_ret
      exact ⟨rfl, HB.out.alloc _⟩
    | some x =>
      obtain ⟨n, la⟩ := x
      have HV : Hid ((((n : Int) == 1) : Bool) = (!false && (Option.map (fun x : Nat × Nat => x.1) (some (n, la)) == some 1))) := by
        show _ = _
        rw [Bool.eq_iff_iff]; simp; omega
      go_enter Tryz.func146, Tryz.ntmps146
      go_wp2_with fail
      refine (rp_some t _ n la hm hr).mono ?_
      rintro e w1 ⟨rfl, hb⟩
      have HB : Hid (Ext w w1) := hb
      clear hb
      unfold rpShape
      go_wp2
      go_ret
      exact ⟨ret_bool HV.out, HB.out.alloc _⟩
  · go_enter Tryz.func146, Tryz.ntmps146
    go_wp2_with fail
    refine (rp_many t _ hm).mono ?_
    rintro e w1 ⟨rfl, hb⟩
    have HB : Hid (Ext w w1) := hb
    clear hb
    unfold rpMany
    go_wp2
    go_ret
    exact ⟨rfl, HB.out.alloc _⟩

theorem prefix_val (s p : ByteArray) : ((s.extract 0 p.size).toList == p.toList) = p.data.toList.isPrefixOf s.data.toList := by
  rw [Lib.toList_data, Lib.toList_data, extract_list, Bool.eq_iff_iff, List.isPrefixOf_iff_prefix, List.prefix_iff_eq_take, len_eq]
  simp
  exact eq_comm
theorem prefix_long (s p : ByteArray) (h : ¬ p.size ≤ s.size) : p.data.toList.isPrefixOf s.data.toList = false := by
  rw [← Bool.not_eq_true, List.isPrefixOf_iff_prefix]
  intro x
  have := x.length_le
  rw [len_eq, len_eq] at this
  exact h this

end Go.Proofs.YtmiffefnpendoaaGreatDoor

/- impl.JoinPath and the specification's: what they answer. -/
namespace Go.Proofs.YtmiffefnpendoaaGreatDoor
open Go.RowKit

theorem joined_top {p m : ByteArray} (h : p.data.toList = [47]) : ((⟨#[47]⟩ : ByteArray) ++ m).data.toList = Pth.joined p.data.toList m.data.toList := by
  have := join_list p m; rw [if_pos h] at this; exact this
theorem joined_not {p m : ByteArray} (h : ¬ p.data.toList = [47]) : (p ++ (⟨#[47]⟩ : ByteArray) ++ m).data.toList = Pth.joined p.data.toList m.data.toList := by
  have := join_list p m; rw [if_neg h] at this; exact this

set_option maxHeartbeats 2000000 in
theorem joinPath_top (p m : ByteArray) (w : World) (hg : Gd w) (hp24 : p.size ≤ 24) (hms : m.size ≤ 1048576) (la : Nat) (h1 : p.data.toList = [47]) (hm : Pth.many p.data.toList = false) (hr : Pth.rd p.data.toList = some (0, la)) (hf : Pth.faultI p.data.toList = 0) (hok : Pth.okName m.data.toList = true) :
    Calls Tryz.prog 99 #[.string p, .string m] w fun e w' => e = .returned (tr (Pth.joinV p.data.toList m.data.toList)) ∧ Ext w w' := by
  have HG : Hid (Gd w) := hg
  clear hg
  obtain ⟨J, hJ⟩ : ∃ J, (⟨#[47]⟩ : ByteArray) ++ m = J := ⟨_, rfl⟩
  have hJl : Pth.joined p.data.toList m.data.toList = J.data.toList := by rw [← hJ]; exact (joined_top h1).symm
  clear h1
  by_cases h0 : Pth.faultI J.data.toList = 0
  · rw [joinV_ok hf hok hJl h0]
    have HCJ : Hid (Pth.faultI J.data.toList = 0) := h0
    have HJM : Hid (J = mkB J.data.toList) := eq_mkB rfl
    clear h0 hJl hf
    go_enter Tryz.func99, Tryz.ntmps99
    go_wp2_with fail
    refine (rp_some p _ 0 la hm hr).mono ?_
    rintro e w1 ⟨rfl, hb⟩
    have hlt : w.heap.size < w1.heap.size := by have := hb.size; simp at this; omega
    have HB : Hid (Ext (w.alloc (.cells #[.int .i64 0, .string ByteArray.empty] 36)) w1) := hb
    clear hb hr hm
    unfold rpShape
    go_wp2_with fail
    refine (isName_any m _ hms).mono ?_
    rintro e w2 ⟨rfl, hb⟩
    rw [hok]
    have HB2 : Hid (Ext (w.alloc (.cells #[.int .i64 0, .string ByteArray.empty] 36)) w2) := (HB.out.alloc _).trans hb
    obtain ⟨hc, hf⟩ := Ext.cell hb
    have hlt2 : w1.heap.size < w2.heap.size := by have := hb.size; simp at this; omega
    clear hb hok
    go_wp2_with fail
    refine (pathFault_any J _ (by exact (HG.out.alloc _).ext HB2.out)).mono ?_
    rintro e w3 ⟨rfl, hb⟩
    rw [HCJ.out]
    have HB3 : Hid (Ext (w.alloc (.cells #[.int .i64 0, .string ByteArray.empty] 36)) w3) := HB2.out.trans hb
    clear hb hc hf
    obtain ⟨hc, hf⟩ := Ext.cell HB3.out
    go_wp2
    exact bodyPost_ret (v := .agg #[.int .i64 0, .string J]) (by simp [results, Tryz.results99, go_sem, hc]) rfl ⟨(by unfold tr; rw [← HJM.out]), ((((Ext.refl w).alloc _).trans HB3.out).setCell (Nat.le_refl _) _).setCell (Nat.le_refl _) _⟩
  · obtain ⟨c, hc0⟩ : ∃ c, Pth.faultI J.data.toList = c := ⟨_, rfl⟩
    rw [joinV_long hf hok hJl hc0 (by rw [← hc0]; exact h0)]
    have hcn : (c != 0) = true := by rw [bne_iff_ne, ← hc0]; exact h0
    have HCJ : Hid (Pth.faultI J.data.toList = c) := hc0
    clear h0 hJl hf hc0
    go_enter Tryz.func99, Tryz.ntmps99
    go_wp2_with fail
    refine (rp_some p _ 0 la hm hr).mono ?_
    rintro e w1 ⟨rfl, hb⟩
    have hlt : w.heap.size < w1.heap.size := by have := hb.size; simp at this; omega
    have HB : Hid (Ext (w.alloc (.cells #[.int .i64 0, .string ByteArray.empty] 36)) w1) := hb
    clear hb hr hm
    unfold rpShape
    go_wp2_with fail
    refine (isName_any m _ hms).mono ?_
    rintro e w2 ⟨rfl, hb⟩
    rw [hok]
    have HB2 : Hid (Ext (w.alloc (.cells #[.int .i64 0, .string ByteArray.empty] 36)) w2) := (HB.out.alloc _).trans hb
    obtain ⟨hc, hf⟩ := Ext.cell hb
    have hlt2 : w1.heap.size < w2.heap.size := by have := hb.size; simp at this; omega
    clear hb hok
    go_wp2_with fail
    refine (pathFault_any J _ (by exact (HG.out.alloc _).ext HB2.out)).mono ?_
    rintro e w3 ⟨rfl, hb⟩
    rw [HCJ.out]
    have HB3 : Hid (Ext (w.alloc (.cells #[.int .i64 0, .string ByteArray.empty] 36)) w3) := HB2.out.trans hb
    clear hb hc hf
    obtain ⟨hc, hf⟩ := Ext.cell HB3.out
    go_wp2
    exact bodyPost_ret (v := tr (c, [])) (by simp [results, Tryz.results99, go_sem, tr, hc, mkB]) rfl ⟨rfl, ((((Ext.refl w).alloc _).trans HB3.out).setCell (Nat.le_refl _) _).setCell (Nat.le_refl _) _⟩

set_option maxHeartbeats 2000000 in
theorem joinPath_sub (p m : ByteArray) (w : World) (hg : Gd w) (hp24 : p.size ≤ 24) (hms : m.size ≤ 1048576) (la : Nat) (h1 : ¬ p.data.toList = [47]) (n : Nat) (hn : 1 ≤ n) (hm : Pth.many p.data.toList = false) (hr : Pth.rd p.data.toList = some (n, la)) (hf : Pth.faultI p.data.toList = 0) (hok : Pth.okName m.data.toList = true) :
    Calls Tryz.prog 99 #[.string p, .string m] w fun e w' => e = .returned (tr (Pth.joinV p.data.toList m.data.toList)) ∧ Ext w w' := by
  have HG : Hid (Gd w) := hg
  clear hg
  obtain ⟨J, hJ⟩ : ∃ J, p ++ (⟨#[47]⟩ : ByteArray) ++ m = J := ⟨_, rfl⟩
  have hJl : Pth.joined p.data.toList m.data.toList = J.data.toList := by rw [← hJ]; exact (joined_not h1).symm
  have hn0 : ((n : Int) == 0) = false := by simp; omega
  clear h1
  by_cases h0 : Pth.faultI J.data.toList = 0
  · rw [joinV_ok hf hok hJl h0]
    have HCJ : Hid (Pth.faultI J.data.toList = 0) := h0
    have HJM : Hid (J = mkB J.data.toList) := eq_mkB rfl
    clear h0 hJl hf
    go_enter Tryz.func99, Tryz.ntmps99
    go_wp2_with fail
    refine (rp_some p _ n la hm hr).mono ?_
    rintro e w1 ⟨rfl, hb⟩
    have hlt : w.heap.size < w1.heap.size := by have := hb.size; simp at this; omega
    have HB : Hid (Ext (w.alloc (.cells #[.int .i64 0, .string ByteArray.empty] 36)) w1) := hb
    clear hb hr hm
    unfold rpShape
    go_wp2_with fail
    refine (isName_any m _ hms).mono ?_
    rintro e w2 ⟨rfl, hb⟩
    rw [hok]
    have HB2 : Hid (Ext (w.alloc (.cells #[.int .i64 0, .string ByteArray.empty] 36)) w2) := (HB.out.alloc _).trans hb
    obtain ⟨hc, hf⟩ := Ext.cell hb
    have hlt2 : w1.heap.size < w2.heap.size := by have := hb.size; simp at this; omega
    clear hb hok
    go_wp2_with fail
    refine (pathFault_any J _ (by exact (HG.out.alloc _).ext HB2.out)).mono ?_
    rintro e w3 ⟨rfl, hb⟩
    rw [HCJ.out]
    have HB3 : Hid (Ext (w.alloc (.cells #[.int .i64 0, .string ByteArray.empty] 36)) w3) := HB2.out.trans hb
    clear hb hc hf
    obtain ⟨hc, hf⟩ := Ext.cell HB3.out
    go_wp2
    exact bodyPost_ret (v := .agg #[.int .i64 0, .string J]) (by simp [results, Tryz.results99, go_sem, hc]) rfl ⟨(by unfold tr; rw [← HJM.out]), ((((Ext.refl w).alloc _).trans HB3.out).setCell (Nat.le_refl _) _).setCell (Nat.le_refl _) _⟩
  · obtain ⟨c, hc0⟩ : ∃ c, Pth.faultI J.data.toList = c := ⟨_, rfl⟩
    rw [joinV_long hf hok hJl hc0 (by rw [← hc0]; exact h0)]
    have hcn : (c != 0) = true := by rw [bne_iff_ne, ← hc0]; exact h0
    have HCJ : Hid (Pth.faultI J.data.toList = c) := hc0
    clear h0 hJl hf hc0
    go_enter Tryz.func99, Tryz.ntmps99
    go_wp2_with fail
    refine (rp_some p _ n la hm hr).mono ?_
    rintro e w1 ⟨rfl, hb⟩
    have hlt : w.heap.size < w1.heap.size := by have := hb.size; simp at this; omega
    have HB : Hid (Ext (w.alloc (.cells #[.int .i64 0, .string ByteArray.empty] 36)) w1) := hb
    clear hb hr hm
    unfold rpShape
    go_wp2_with fail
    refine (isName_any m _ hms).mono ?_
    rintro e w2 ⟨rfl, hb⟩
    rw [hok]
    have HB2 : Hid (Ext (w.alloc (.cells #[.int .i64 0, .string ByteArray.empty] 36)) w2) := (HB.out.alloc _).trans hb
    obtain ⟨hc, hf⟩ := Ext.cell hb
    have hlt2 : w1.heap.size < w2.heap.size := by have := hb.size; simp at this; omega
    clear hb hok
    go_wp2_with fail
    refine (pathFault_any J _ (by exact (HG.out.alloc _).ext HB2.out)).mono ?_
    rintro e w3 ⟨rfl, hb⟩
    rw [HCJ.out]
    have HB3 : Hid (Ext (w.alloc (.cells #[.int .i64 0, .string ByteArray.empty] 36)) w3) := HB2.out.trans hb
    clear hb hc hf
    obtain ⟨hc, hf⟩ := Ext.cell HB3.out
    go_wp2
    exact bodyPost_ret (v := tr (c, [])) (by simp [results, Tryz.results99, go_sem, tr, hc, mkB]) rfl ⟨rfl, ((((Ext.refl w).alloc _).trans HB3.out).setCell (Nat.le_refl _) _).setCell (Nat.le_refl _) _⟩

set_option maxHeartbeats 2000000 in
theorem joinPath_any (p m : ByteArray) (w : World) (hg : Gd w) (hms : m.size ≤ 1048576) :
    Calls Tryz.prog 99 #[.string p, .string m] w fun e w' => e = .returned (tr (Pth.joinV p.data.toList m.data.toList)) ∧ Ext w w' := by
  have HG : Hid (Gd w) := hg
  clear hg
  rcases Pth.fault_cases p.data.toList with ⟨hm, hf⟩ | ⟨hm, hr, hf⟩ | ⟨hm, hf, n, la, hr⟩
  · rw [joinV_bad hf (by decide)]
    clear hf
    go_enter Tryz.func99, Tryz.ntmps99
    go_wp2_with fail
    refine (rp_many p _ hm).mono ?_
    rintro e w1 ⟨rfl, hb⟩
    have hz : w.heap.size + 1 ≤ w1.heap.size := by have := hb.size; simpa using this
    have HB : Hid (Ext (w.alloc (.cells #[.int .i64 0, .string ByteArray.empty] 36)) w1) := hb
    clear hb
    unfold rpMany
    go_wp2_with fail
    refine (code_err 2 _ (by exact ((HG.out.alloc _).ext HB.out).alloc _)).mono ?_
    rintro e w2 ⟨rfl, hb⟩
    have HB2 : Hid (Ext (w.alloc (.cells #[.int .i64 0, .string ByteArray.empty] 36)) w2) := (HB.out.alloc _).trans hb
    clear hb
    obtain ⟨hc, hf⟩ := Ext.cell HB2.out
    go_wp2
    exact bodyPost_ret (v := tr (2, [])) (by simp [results, Tryz.results99, go_sem, tr, hc, mkB]) rfl ⟨rfl, ((((Ext.refl w).alloc _).trans HB2.out).setCell (Nat.le_refl _) _).setCell (Nat.le_refl _) _⟩
  · rw [joinV_bad hf (by decide)]
    clear hf
    go_enter Tryz.func99, Tryz.ntmps99
    go_wp2_with fail
    refine (rp_none p _ hm hr).mono ?_
    rintro e w1 ⟨rfl, hb⟩
    have hz : w.heap.size + 1 ≤ w1.heap.size := by have := hb.size; simpa using this
    have HB : Hid (Ext (w.alloc (.cells #[.int .i64 0, .string ByteArray.empty] 36)) w1) := hb
    clear hb
    unfold rpText
    go_wp2_with fail
    refine (code_err 5 _ (by exact ((HG.out.alloc _).ext HB.out).alloc _)).mono ?_
    rintro e w2 ⟨rfl, hb⟩
    have HB2 : Hid (Ext (w.alloc (.cells #[.int .i64 0, .string ByteArray.empty] 36)) w2) := (HB.out.alloc _).trans hb
    clear hb
    obtain ⟨hc, hf⟩ := Ext.cell HB2.out
    go_wp2
    exact bodyPost_ret (v := tr (5, [])) (by simp [results, Tryz.results99, go_sem, tr, hc, mkB]) rfl ⟨rfl, ((((Ext.refl w).alloc _).trans HB2.out).setCell (Nat.le_refl _) _).setCell (Nat.le_refl _) _⟩
  · cases hok : Pth.okName m.data.toList
    · rw [joinV_name hf hok]
      clear hf
      go_enter Tryz.func99, Tryz.ntmps99
      go_wp2_with fail
      refine (rp_some p _ n la hm hr).mono ?_
      rintro e w1 ⟨rfl, hb⟩
      have hlt : w.heap.size < w1.heap.size := by have := hb.size; simp at this; omega
      have HB : Hid (Ext (w.alloc (.cells #[.int .i64 0, .string ByteArray.empty] 36)) w1) := hb
      clear hb hr hm
      unfold rpShape
      go_wp2_with fail
      refine (isName_any m _ hms).mono ?_
      rintro e w2 ⟨rfl, hb⟩
      have HB2 : Hid (Ext (w.alloc (.cells #[.int .i64 0, .string ByteArray.empty] 36)) w2) := (HB.out.alloc _).trans hb
      obtain ⟨hc, hf⟩ := Ext.cell hb
      clear hb
      have HB3 : Hid (Ext (w.alloc (.cells #[.int .i64 0, .string ByteArray.empty] 36)) w2) := HB2
      clear hc hf
      obtain ⟨hc, hf⟩ := Ext.cell HB2.out
      go_wp2
      exact bodyPost_ret (v := tr (5, [])) (by simp [results, Tryz.results99, go_sem, tr, hc, mkB]) rfl ⟨rfl, ((((Ext.refl w).alloc _).trans HB2.out).setCell (Nat.le_refl _) _).setCell (Nat.le_refl _) _⟩
    · rcases Pth.rd_top _ _ _ hr with ⟨h1, h2, _⟩ | ⟨h1, h2, h3, _⟩
      · subst h2
        exact joinPath_top p m w HG.out (few_of_ok hf) hms la h1 hm hr hf hok
      · exact joinPath_sub p m w HG.out (few_of_ok hf) hms la h1 n h3 hm hr hf hok

end Go.Proofs.YtmiffefnpendoaaGreatDoor

/- impl.SeqName and the specification's: what they answer. -/
namespace Go.Proofs.YtmiffefnpendoaaGreatDoor
open Go.RowKit

set_option maxHeartbeats 1000000 in
theorem formatInt_digit (d : Int) (w : World) (h0 : 0 ≤ d) (h9 : d ≤ 9) :
    Calls Tryz.prog 142 #[.int .i64 d, .int .i64 10] w fun e w' => e = .returned (.string (dig d)) ∧ w' = w := by
  have hd : d = 0 ∨ d = 1 ∨ d = 2 ∨ d = 3 ∨ d = 4 ∨ d = 5 ∨ d = 6 ∨ d = 7 ∨ d = 8 ∨ d = 9 := by omega
  clear h0 h9
  rcases hd with rfl | rfl | rfl | rfl | rfl | rfl | rfl | rfl | rfl | rfl
  all_goals
    go_enter Tryz.func142, Tryz.ntmps142
    go_wp2
    go_ret
    exact ⟨rfl, rfl⟩

end Go.Proofs.YtmiffefnpendoaaGreatDoor

/- impl.SeqName and the specification's: what they answer. -/
namespace Go.Proofs.YtmiffefnpendoaaGreatDoor
open Go.RowKit

theorem seqV_name {l : List UInt8} {n : Int} (h : Pth.okName l = false) : Pth.seqV l n = (5, []) := by
  unfold Pth.seqV; rw [if_pos h]
theorem seqV_range {l : List UInt8} {n : Int} (h : Pth.okName l = true) (hr : n < 0 ∨ 99 < n) : Pth.seqV l n = (3, []) := by
  unfold Pth.seqV; rw [if_neg (by rw [h]; decide), if_pos hr]
theorem seqV_long {l j : List UInt8} {n : Int} (h : Pth.okName l = true) (hr : ¬ (n < 0 ∨ 99 < n)) (hj : Pth.seqd l n.toNat = j) (h2 : Pth.okName j = false) : Pth.seqV l n = (5, []) := by
  unfold Pth.seqV; rw [if_neg (by rw [h]; decide), if_neg hr, hj, if_pos h2]
theorem seqV_ok {l j : List UInt8} {n : Int} (h : Pth.okName l = true) (hr : ¬ (n < 0 ∨ 99 < n)) (hj : Pth.seqd l n.toNat = j) (h2 : Pth.okName j = true) : Pth.seqV l n = (0, j) := by
  unfold Pth.seqV; rw [if_neg (by rw [h]; decide), if_neg hr, hj, if_neg (by rw [h2]; decide)]
theorem l1In_is (v lo hi : Int) (b : Bool) (w : World) (h : (decide (lo ≤ v) && decide (v ≤ hi)) = b) :
    Calls Tryz.prog 124 #[.int .i64 v, .int .i64 lo, .int .i64 hi] w fun e w' => e = .returned (.bool b) ∧ w' = w := by
  rw [← h]; exact l1In_any v lo hi w
theorem okName_len {s : ByteArray} (h : Pth.okName s.data.toList = true) : s.size ≤ 8 := by
  unfold Pth.okName at h
  simp only [Bool.and_eq_true, decide_eq_true_eq, len_eq] at h
  exact h.2.2

set_option maxHeartbeats 2000000 in
theorem seqName_any (s : ByteArray) (n : Int) (w : World) (hs : s.size ≤ 1048576) :
    Calls Tryz.prog 97 #[.string s, .int .i64 n] w fun e w' => e = .returned (tr (Pth.seqV s.data.toList n)) ∧ Ext w w' := by
  cases hok : Pth.okName s.data.toList
  · rw [seqV_name hok]
    go_enter Tryz.func97, Tryz.ntmps97
    go_wp2_with fail
    refine (isName_any s _ hs).mono ?_
    rintro e w1 ⟨rfl, hb⟩
    rw [hok]
    have HB : Hid (Ext (w.alloc (.cells #[.int .i64 0, .string ByteArray.empty] 36)) w1) := hb
    clear hb hok
    obtain ⟨hc, hf⟩ := Ext.cell HB.out
    go_wp2
    exact bodyPost_ret (v := tr (5, [])) (by simp [results, Tryz.results97, go_sem, tr, hc, mkB]) rfl ⟨rfl, ((((Ext.refl w).alloc _).trans HB.out).setCell (Nat.le_refl _) _).setCell (Nat.le_refl _) _⟩
  · by_cases hr : n < 0 ∨ 99 < n
    · rw [seqV_range hok hr]
      rcases hr with hr | hr
      · go_enter Tryz.func97, Tryz.ntmps97
        go_wp2_with fail
        refine (isName_any s _ hs).mono ?_
        rintro e w1 ⟨rfl, hb⟩
        rw [hok]
        have HB : Hid (Ext (w.alloc (.cells #[.int .i64 0, .string ByteArray.empty] 36)) w1) := hb
        clear hb hok
        obtain ⟨hc, hf⟩ := Ext.cell HB.out
        go_wp2
        exact bodyPost_ret (v := tr (3, [])) (by simp [results, Tryz.results97, go_sem, tr, hc, mkB]) rfl ⟨rfl, ((((Ext.refl w).alloc _).trans HB.out).setCell (Nat.le_refl _) _).setCell (Nat.le_refl _) _⟩
      · go_enter Tryz.func97, Tryz.ntmps97
        go_wp2_with fail
        refine (isName_any s _ hs).mono ?_
        rintro e w1 ⟨rfl, hb⟩
        rw [hok]
        have HB : Hid (Ext (w.alloc (.cells #[.int .i64 0, .string ByteArray.empty] 36)) w1) := hb
        clear hb hok
        obtain ⟨hc, hf⟩ := Ext.cell HB.out
        go_wp2
        exact bodyPost_ret (v := tr (3, [])) (by simp [results, Tryz.results97, go_sem, tr, hc, mkB]) rfl ⟨rfl, ((((Ext.refl w).alloc _).trans HB.out).setCell (Nat.le_refl _) _).setCell (Nat.le_refl _) _⟩
    · have h0 : 0 ≤ n := by omega
      have h9 : n ≤ 99 := by omega
      obtain ⟨J, hJ⟩ : ∃ J, s ++ dig (n / 10) ++ dig (n % 10) = J := ⟨_, rfl⟩
      have hJl : Pth.seqd s.data.toList n.toNat = J.data.toList := by rw [← hJ]; exact (seq_list s n h0).symm
      have z1 := dig_size (n / 10)
      have z2 := dig_size (n % 10)
      have hJz : J.size = s.size + 1 + 1 := by rw [← hJ, ByteArray.size_append, ByteArray.size_append, z1, z2]
      have hs8 := okName_len hok
      have hJs : J.size ≤ 1048576 := by omega
      clear hJz
      cases hok2 : Pth.okName J.data.toList
      · rw [seqV_long hok hr hJl hok2]
        clear hJl hr
        go_enter Tryz.func97, Tryz.ntmps97
        go_wp2_with fail
        refine (isName_any s _ hs).mono ?_
        rintro e w1 ⟨rfl, hb⟩
        rw [hok]
        have HB : Hid (Ext (w.alloc (.cells #[.int .i64 0, .string ByteArray.empty] 36)) w1) := hb
        clear hb hok
        go_wp2_with fail
        refine (formatInt_digit (n / 10) _ (by omega) (by omega)).mono ?_
        rintro e w2 ⟨rfl, rfl⟩
        go_wp2_with fail
        refine (formatInt_digit (n % 10) _ (by omega) (by omega)).mono ?_
        rintro e w3 ⟨rfl, rfl⟩
        go_wp2_with fail
        refine (isName_any J _ hJs).mono ?_
        rintro e w4 ⟨rfl, hb⟩
        rw [hok2]
        have HB3 : Hid (Ext (w.alloc (.cells #[.int .i64 0, .string ByteArray.empty] 36)) w4) := HB.out.trans hb
        clear hb hok2
        obtain ⟨hc, hf⟩ := Ext.cell HB3.out
        go_wp2
        exact bodyPost_ret (v := tr (5, [])) (by simp [results, Tryz.results97, go_sem, tr, hc, mkB]) rfl ⟨rfl, ((((Ext.refl w).alloc _).trans HB3.out).setCell (Nat.le_refl _) _).setCell (Nat.le_refl _) _⟩
      · rw [seqV_ok hok hr hJl hok2]
        have HJM : Hid (J = mkB J.data.toList) := eq_mkB rfl
        clear hJl hr
        go_enter Tryz.func97, Tryz.ntmps97
        go_wp2_with fail
        refine (isName_any s _ hs).mono ?_
        rintro e w1 ⟨rfl, hb⟩
        rw [hok]
        have HB : Hid (Ext (w.alloc (.cells #[.int .i64 0, .string ByteArray.empty] 36)) w1) := hb
        clear hb hok
        go_wp2_with fail
        refine (formatInt_digit (n / 10) _ (by omega) (by omega)).mono ?_
        rintro e w2 ⟨rfl, rfl⟩
        go_wp2_with fail
        refine (formatInt_digit (n % 10) _ (by omega) (by omega)).mono ?_
        rintro e w3 ⟨rfl, rfl⟩
        go_wp2_with fail
        refine (isName_any J _ hJs).mono ?_
        rintro e w4 ⟨rfl, hb⟩
        rw [hok2]
        have HB3 : Hid (Ext (w.alloc (.cells #[.int .i64 0, .string ByteArray.empty] 36)) w4) := HB.out.trans hb
        clear hb hok2
        obtain ⟨hc, hf⟩ := Ext.cell HB3.out
        go_wp2
        exact bodyPost_ret (v := .agg #[.int .i64 0, .string J]) (by simp [results, Tryz.results97, go_sem, hc]) rfl ⟨(by unfold tr; rw [← HJM.out]), ((((Ext.refl w).alloc _).trans HB3.out).setCell (Nat.le_refl _) _).setCell (Nat.le_refl _) _⟩

end Go.Proofs.YtmiffefnpendoaaGreatDoor

/- Nodes in a block of their own with room behind them; a node laid between; the model's copy at nodes. -/
namespace Go.Proofs.YtmiffefnpendoaaGreatDoor
open Go.RowKit

/-- The slice of n nodes at ⟨g, off⟩, of capacity cap, reads as zs; all of its room may be written. -/
def Wide (w : World) (g off cap : Nat) (zs : List Zn) : Prop := zs.length ≤ cap ∧ cap ≤ maxLen ∧ 0 < zs.length ∧ Room w g off cap ∧ NodesAt w g off zs ∧ ∃ t c, w.shape? g = some (t, c) ∧ c ≠ 0
theorem Wide.slice {w : World} {g off cap : Nat} {zs : List Zn} (h : Wide w g off cap zs) : NSlice w (.slice (some ⟨g, off, none⟩) zs.length cap) zs := ⟨_, cap, rfl, h.1, h.2.1, fun _ => ⟨g, off, rfl, h.2.2.2.1.1, h.2.2.2.2.1⟩⟩
theorem shape_block {w w' : World} {g : Nat} (h : w'.heap[g]? = w.heap[g]?) : w'.shape? g = w.shape? g := by simp [World.shape?, h]
theorem Wide.ext {w w' : World} {g off cap : Nat} {zs : List Zn} (h : Wide w g off cap zs) (he : Ext w w') : Wide w' g off cap zs := by
  obtain ⟨h1, h2, h3, h4, h5, t, c, h6, h7⟩ := h
  exact ⟨h1, h2, h3, h4.ext he, h5.ext h4.1 he, t, c, (shape_block (Below.block he g h4.1)).trans h6, h7⟩
theorem shape_setCell (w : World) (g o : Nat) (v : Value) {t : TypeId} {c : Nat} (h : w.shape? g = some (t, c)) : (w.setCell ⟨g, o, none⟩ v).shape? g = some (t, c) := by
  rw [← h]
  unfold World.shape? World.setCell
  simp only [Array.getElem?_modify, if_true]
  cases w.heap[g]? with
  | none => rfl
  | some ob => cases ob <;> simp
/-- One field of one node is written. -/
theorem Wide.field {w : World} {g off cap k : Nat} {zs : List Zn} {z : Zn} (h : Wide w g off cap zs) (hz : zs[k]? = some z) (r : Nat) (hr : r < 5) (u : Value) (z' : Zn) (hz' : zcells z' = (zcells z).set r u) :
    Wide (w.setCell ⟨g, off + k * 5 + r, none⟩ u) g off cap (zs.set k z') := by
  obtain ⟨h1, h2, h3, h4, h5, t, c, h6, h7⟩ := h
  have hO : Own w (.slice (some ⟨g, off, none⟩) zs.length cap) g zs := ⟨_, cap, rfl, h1, h2, fun _ => ⟨off, rfl, h4.less h1, h5⟩⟩
  have hk := (List.getElem?_eq_some_iff.1 hz).1
  obtain ⟨a9, cap9, he, -, -, hx⟩ := hO.field hz r hr u z' hz'
  obtain ⟨off9, ho, hR9, hN9⟩ := hx (by rw [List.length_set]; omega)
  injection he with e1 e2 e3
  subst e1
  injection ho with ho
  injection ho with _ ho _
  subst ho
  refine ⟨by rw [List.length_set]; exact h1, h2, by rw [List.length_set]; exact h3, ⟨by simpa using h4.1, fun j hj => ⟨?_, by simpa using (h4.2 j hj).2⟩⟩, hN9, t, c, shape_setCell w g _ u h6, h7⟩
  by_cases hjk : j = k * 5 + r
  · subst hjk; rw [← Nat.add_assoc]; exact ⟨_, set_eq _ _ _ _ (by rw [Nat.add_assoc]; exact (h4.2 _ hj).1)⟩
  · rw [set_ne _ _ _ _ _ _ (by omega)]; exact (h4.2 j hj).1
theorem Wide.of_row {w : World} {base : Nat} {e : TypeId} {v : Value} {zs : List Zn} (h : w.ownsRow base e 5 v zs.length (cellsZ zs)) (hp : 0 < zs.length) : ∃ g cap, base ≤ g ∧ v = .slice (some ⟨g, 0, none⟩) zs.length cap ∧ Wide w g 0 cap zs := by
  rcases h.2 with ⟨hv, h0⟩ | ⟨g, cap, cur, hv, hb, hh, hn, hm, hs, ht⟩
  · omega
  · subst hv
    refine ⟨g, cap, hb, rfl, hn, hm, hp, ⟨(Array.getElem?_eq_some_iff.1 hh).1, fun j hj => ⟨⟨cur[j], ?_⟩, ?_⟩⟩, ?_, e, cur.size, by simp [World.shape?, hh], by omega⟩
    · simp [World.cell?, hh, show j < cur.size from by omega]
    · simp [World.frozen?, hh]
    · apply NodesAt.of_news
      intro j u hu
      have hj := (List.getElem?_eq_some_iff.1 hu).1
      rw [cellsZ_length] at hj
      rw [Nat.zero_add, h.cellAt j (by omega)]; exact hu

theorem copy_cells5 (w : World) (ty : TypeId) (b o dLen dCap : Nat) (a : Addr) (sLen sCap : Nat) (cs : List Value) (hn : cs.length = Nat.min sLen dLen * 5)
    (hsrc : ∀ j v, cs[j]? = some v → w.cell? (a.add j) = some v) (hc : ∀ j, j < cs.length → (w.cell? ⟨b, o + j, none⟩).isSome = true ∧ w.frozen? ⟨b, o + j, none⟩ = false) (h1 : ∀ v ∈ cs, v.oneCell' = true) :
    (Builtin.copy_ #[24, 24] ty #[.slice (some ⟨b, o, none⟩) dLen dCap, .slice (some a) sLen sCap]).run Tryz.prog w = .ok (goInt (Nat.min sLen dLen)) (w.setCells b o cs) := by
  have hs : (Tryz.prog.info? 39).map (·.size) = some 5 := by kernel_rfl
  have hl := run_loadCells_list (P := Tryz.prog) w a cs hsrc
  have hst := run_storeCells_cells (P := Tryz.prog) b o cs 0 w (by simpa using fun j hj => (hc j hj).1) (by simpa using fun j hj => (hc j hj).2) h1
  cases hq : Tryz.prog.info? 39 with
  | none => simp [hq] at hs
  | some i =>
    have hi : i.size = 5 := by simpa [hq] using hs
    simp [Builtin.copy_, run_underlying Tryz.underlying24, Builtin.lenOf, Builtin.firstCells, sizeOf, typeInfo, hq, hi, ← hn, hl, hst]

theorem cells_mid (zs : List Zn) (z : Zn) (k : Nat) : cellsZ (zs.take k ++ z :: zs.drop k) = cellsZ (zs.take k) ++ (zcells z ++ cellsZ (zs.drop k)) := by rw [cellsZ_append]; rfl
/-- A node laid between others: what stood from there on lies one place further. -/
theorem spread {W W2 : World} {G OFF k : Nat} {zs : List Zn} (z : Zn) (hk : k ≤ zs.length)
    (hT : ∀ j u, (cellsZ (zs.take k))[j]? = some u → W.cell? ⟨G, OFF + j, none⟩ = some u)
    (h1 : ∀ j, j < k * 5 → W2.cell? ⟨G, OFF + j, none⟩ = W.cell? ⟨G, OFF + j, none⟩)
    (h2 : ∀ j u, (zcells z)[j]? = some u → W2.cell? ⟨G, OFF + k * 5 + j, none⟩ = some u)
    (h3 : ∀ j u, (cellsZ (zs.drop k))[j]? = some u → W2.cell? ⟨G, OFF + (k + 1) * 5 + j, none⟩ = some u) : NodesAt W2 G OFF (zs.take k ++ z :: zs.drop k) := by
  have hlt : (cellsZ (zs.take k)).length = k * 5 := by rw [cellsZ_length, List.length_take]; omega
  apply NodesAt.of_news
  intro j u hu
  rw [cells_mid] at hu
  by_cases hj : j < k * 5
  · rw [List.getElem?_append_left (by omega)] at hu
    rw [h1 j hj]; exact hT j u hu
  · rw [List.getElem?_append_right (by omega), hlt] at hu
    have hz : (zcells z).length = 5 := rfl
    by_cases hj5 : j - k * 5 < 5
    · rw [List.getElem?_append_left (by omega)] at hu
      have := h2 _ u hu
      rw [show OFF + k * 5 + (j - k * 5) = OFF + j from by omega] at this
      exact this
    · rw [List.getElem?_append_right (by omega), hz] at hu
      have := h3 _ u hu
      rw [show OFF + (k + 1) * 5 + (j - k * 5 - 5) = OFF + j from by omega] at this
      exact this
end Go.Proofs.YtmiffefnpendoaaGreatDoor

/- The program's copyNodes: the same nodes in a block of their own, all of whose room may be written. -/
namespace Go.Proofs.YtmiffefnpendoaaGreatDoor
open Go.RowKit

set_option maxHeartbeats 1000000 in
set_option maxRecDepth 100000 in
theorem cloneZ_wide (v : Value) (zs : List Zn) (w : World) (hS : NSlice w v zs) (hl : zs.length ≤ 1048576) (hp : 0 < zs.length) :
    Calls Tryz.prog 95 #[v] w fun e w' => ∃ g off cap', e = .returned (.slice (some ⟨g, off, none⟩) zs.length cap') ∧ w.heap.size ≤ g ∧ Wide w' g off cap' zs ∧ Ext w w' := by
  have hi9 : (Tryz.prog.info? 39).map (fun i => (i.zero, i.size, i.bytes)) = some (some (.agg #[.string ByteArray.empty, .int .i64 0, .int .i64 0, .int .i64 0, .int .i64 0]), 5, 48) := by kernel_rfl
  obtain ⟨i0, hi, hx⟩ := Option.map_eq_some_iff.1 hi9
  simp only [Prod.mk.injEq] at hx
  obtain ⟨hz0, hz1, hz2⟩ := hx
  clear hi9
  obtain ⟨a, cap, rfl, hlc, hcm, hx⟩ := hS
  obtain ⟨b, off, rfl, hb, hN⟩ := hx hp
  have HN : Hid (NodesAt (w.alloc (.cells #[] 39)) b off zs) := hN.ext hb ((Ext.refl _).alloc _)
  clear hN hx
  unfold maxLen at hcm
  have HO : Hid ((w.alloc (.cells #[] 39)).ownsRow w.heap.size 39 5 (.slice (some ⟨w.heap.size, 0, none⟩) 0 0) 0 []) := World.ownsRow_made w #[] 0 (Nat.le_refl _) (by unfold maxLen; omega) rfl
  have q22 : ∀ (w : World) (a : Option Addr) (n c n' c' : Nat), (binOp .eql 24 (.slice a n c) (.slice none n' c')).run Tryz.prog w = .ok (.bool a.isNone) w := fun w a n c n' c' => Lib.run_eql_slice_nil w _ _ a n c n' c' Tryz.underlying24
  go_enter Tryz.func95, Tryz.ntmps95
  go_wp2_with (at_builtin; go_must (refine wpList_append_own _ rfl _ _ 24 rfl w.heap.size 39 i0 (.agg #[.string ByteArray.empty, .int .i64 0, .int .i64 0, .int .i64 0, .int .i64 0]) 5 48 Tryz.underlying24 hi hz0 hz1 hz2 rfl (by decide) _ 0 [] rfl HO.out ⟨b, off, none⟩ zs.length cap (cellsZ zs) rfl (cellsZ_length zs) HN.out.news (cellsZ_one zs) (by unfold maxLen; omega) (by omega) (by simp) ?_; intro v' w3 hown' hgrow3 hnil3))
  have hown2 : w3.ownsRow w.heap.size 39 5 v' zs.length (cellsZ zs) := by simpa using hown'
  obtain ⟨g, cap5, hg, rfl, hO⟩ := Wide.of_row hown2 hp
  have HE : Ext w w3 := ((Below.refl _ _).alloc (Nat.le_refl _) _).grown hgrow3 (by simp) (fun q hq => (HO.out.lt q hq).1)
  go_ret
  exact ⟨g, 0, cap5, rfl, hg, hO, HE⟩

set_option maxHeartbeats 1000000 in
set_option maxRecDepth 100000 in
theorem copyNodes_wide (v : Value) (zs : List Zn) (w : World) (hS : NSlice w v zs) (hl : zs.length ≤ 1048576) (hp : 0 < zs.length) (hz : ∀ z ∈ zs, z.path.size ≤ 1048576) :
    Calls Tryz.prog 44 #[v] w fun e w' => ∃ g off cap', e = .returned (.slice (some ⟨g, off, none⟩) zs.length cap') ∧ w.heap.size ≤ g ∧ Wide w' g off cap' zs ∧ Ext w w' := by
  have HL : Hid (∀ wx : World, Ext w wx → Calls Tryz.prog 95 #[v] wx fun e w' => ∃ g off cap', e = .returned (.slice (some ⟨g, off, none⟩) zs.length cap') ∧ wx.heap.size ≤ g ∧ Wide w' g off cap' zs ∧ Ext wx w') := fun wx h => cloneZ_wide v zs wx (hS.ext h) hl hp
  have HZ : Hid (∀ z ∈ zs, z.path.size ≤ 1048576) := hz
  clear hz
  obtain ⟨a, cap, rfl, -⟩ := hS
  go_enter Tryz.func44, Tryz.ntmps44
  go_wp2_with fail
  refine (HL.out _ (Ext.refl _)).mono ?_
  rintro e w2 ⟨g, off, cap2, rfl, hg, hO, hb⟩
  have hlc2 := hO.1
  have hcm2 := hO.2.1
  have HO : Hid (Wide w2 g off cap2 zs) := hO
  have HE : Hid (Ext w w2) := hb
  have HG : Hid (w.heap.size ≤ g) := hg
  clear hb hO hg
  unfold maxLen at hcm2
  go_wp2
  go_loopw [9] (fun i wr => ∃ (k : Nat), k ≤ zs.length ∧ i = .int .i64 k ∧ Hid (Wide wr g off cap2 zs) ∧ Hid (Ext w wr)) (fun i _ => zs.length - (intOf i).toNat)
  case atStart => exact ⟨0, Nat.zero_le _, rfl, HO.out, HE.out⟩
  case round =>
    clear HO HE
    obtain ⟨k, hk, rfl, HO, HE⟩ := hrel
    by_cases hlt : k < zs.length
    · obtain ⟨z, hzk⟩ : ∃ z, zs[k]? = some z := ⟨_, List.getElem?_eq_getElem hlt⟩
      have HK : Hid (zs[k]? = some z) := hzk
      obtain ⟨-, -, -, hR, hN, -⟩ := HO.out
      obtain ⟨d0, -, -, -, -⟩ := hN k z hzk
      have hf := (hR.2 (k * 5) (by omega)).2
      have HC : Hid (∀ wx : World, Calls Tryz.prog 46 #[.string z.path] wx fun e w' => e = .returned (.string z.path) ∧ Ext wx w') := fun wx => clone_any z.path wx (HZ.out z (List.mem_of_getElem? hzk))
      have HF : Hid (wr.frozen? ⟨g, off + k * 5, none⟩ = false) := hf
      have HLt : Hid (g < wr.heap.size) := hR.1
      clear hzk hR hN hf
      go_wp2_with fail
      refine (HC.out _).mono ?_
      rintro e w3 ⟨rfl, hb⟩
      have HO3 : Hid (Wide w3 g off cap2 zs) := HO.out.ext hb
      have HE3 : Hid (Ext w w3) := HE.out.trans hb
      have d3 := (Below.cell hb (p := ⟨g, off + k * 5, none⟩) HLt.out).trans d0
      have f3 := (Below.frozen hb (p := ⟨g, off + k * 5, none⟩) HLt.out).trans HF.out
      clear hb d0
      go_wp2
      have HO4 : Hid (Wide (w3.setCell ⟨g, off + k * 5, none⟩ (.string z.path)) g off cap2 zs) := by
        have h := HO3.out.field HK.out 0 (by omega) (.string z.path) z rfl
        rw [List.set_getElem?_self' HK.out] at h
        exact h
      exact ⟨⟨k + 1, by omega, by go_num, HO4, HE3.out.setCell (p := ⟨g, off + k * 5, none⟩) HG.out _⟩, by simp [intOf]; omega⟩
    · go_wp2
      go_ret
      exact ⟨g, off, cap2, rfl, HG.out, HO.out, HE.out⟩
end Go.Proofs.YtmiffefnpendoaaGreatDoor

/- slices.Insert of one node where there is room. -/
namespace Go.Proofs.YtmiffefnpendoaaGreatDoor
open Go.RowKit

theorem wpList_copy_run5 {P : Program} (w : World) {ops : Array Oper} {rest : List Oper} {o : Oper} {a : Act} {Q : Exit → Act → World → Prop} (hgd : o.guard = none) (d s : Operand) (t t' : TypeId)
    (ho : o.op = .call { callee := .builtin .copy, args := #[d, s], argTypes := #[t, t'] }) (v u : Value) (hd : a.eval d = v) (hs : a.eval s = u) {v' : Value} {w' : World}
    (hr : (Builtin.copy_ #[t, t'] o.type #[v, u]).run P w = .ok v' w') (h : wpList P ops Q rest (a.put o.dst v') w') : wpList P ops Q (o :: rest) a w :=
  wpList_plain hgd fun _ hK => by
    unfold Oper.wp execOp
    simp only [ho, resolve, invoke, builtin, Sem.run_bind, Sem.run_pure, Result.andThen_ok, List.map_toArray, List.map_cons, List.map_nil, hd, hs, hr]
    exact hK _ _ h
theorem step_copy_run5 {P : Program} {ops : Array Oper} {o : Oper} {a : Act} {w : World} {K : Act → World → Prop} {Q : Exit → Act → World → Prop} {E : Prop}
    (hg : o.guard = none) (d x : Operand) (dT sT : TypeId) (hop : o.op = Op.call { callee := Callee.builtin Builtin.copy, args := #[d, x], argTypes := #[dT, sT] })
    (v u : Value) (hd : a.eval d = v) (hx : a.eval x = u) {v' : Value} {w' : World} (hr : (Builtin.copy_ #[dT, sT] o.type #[v, u]).run P w = .ok v' w') (hK : K (a.put o.dst v') w') :
    if Region.wanted o (yielded ops a.tmps) = true then Oper.wp P o a w K Q else E := by
  have hw : Region.wanted o (yielded ops a.tmps) = true := by simp [Region.wanted, hg]
  rw [if_pos hw]
  unfold Oper.wp
  simp [execOp, hop, resolve, invoke, builtin, hd, hx, hr, Result.andThen]
  exact hK

set_option maxHeartbeats 4000000 in
set_option maxRecDepth 100000 in
theorem insert_shift (g off cap k vb : Nat) (zs : List Zn) (z : Zn) (w : World) (hW : Wide w g off cap zs) (hk : k < zs.length) (hroom : zs.length + 1 ≤ cap) (hvb : vb ≠ g)
    (hv : w.heap[vb]? = some (.cells (zcells z).toArray 39 (0, 0))) :
    Calls Tryz.prog 49 #[.slice (some ⟨g, off, none⟩) zs.length cap, .int .i64 k, .slice (some ⟨vb, 0, none⟩) 1 1] w fun e w' =>
      e = .returned (.slice (some ⟨g, off, none⟩) (zs.length + 1) cap) ∧ w' = (w.drew.setCells g (off + (k + 1) * 5) (cellsZ (zs.drop k))).setCells g (off + k * 5) (zcells z) := by
  obtain ⟨hnc, hcm, hp, hR, hN, tB, kB, hsb, hkB⟩ := hW
  unfold maxLen at hcm
  have hld : (cellsZ (zs.drop k)).length = (zs.length - k) * 5 := by rw [cellsZ_length, List.length_drop]
  have hz5 : (zcells z).length = 5 := rfl
  have hsa : w.shape? vb = some (39, 5) := by simp [World.shape?, hv, zcells]
  have hfr : ∀ j, w.frozen? ⟨vb, j, none⟩ = false := fun j => by simp [World.frozen?, hv]
  have hcv : ∀ j u, (zcells z)[j]? = some u → w.cell? ⟨vb, 0 + j, none⟩ = some u := fun j u hu => by
    rw [Nat.zero_add]; simp [World.cell?, hv]; simpa using hu
  have hov : ∀ lb cb, (callFunc 103 #[.slice (some ⟨vb, 0, none⟩) 1 1, .slice (some ⟨g, off + (k + 1) * 5, none⟩) lb cb]).run Tryz.prog w = .ok (.value (.bool false)) w := fun lb cb => by
    rw [run_callFunc_extern Tryz.func103 (by kernel_rfl) (by kernel_rfl) (by kernel_rfl) (e := Extern.SlicesOverlaps.overlaps #[24, 24] #[4]) (by kernel_rfl),
      Lib.run_overlaps_apart w 24 4 39 Tryz.underlying24 5 Tryz.sizeOf39 ⟨vb, 0, none⟩ ⟨g, off + (k + 1) * 5, none⟩ 1 1 lb cb hvb 39 tB 5 kB hsa hsb hkB (hfr 0) (hfr 5)]
    rfl
  have hRd : Room w.drew g off cap := hR
  have hNd : NodesAt w.drew g off zs := hN
  have s1 := hRd.some (off + (k + 1) * 5) (cellsZ (zs.drop k)).length (by omega) (by omega)
  have hR1 := hRd.setCells (off + (k + 1) * 5) (cellsZ (zs.drop k)) (fun j hj => (s1 j hj).1)
  have s2 := hR1.some (off + k * 5) 5 (by omega) (by omega)
  have hcp1 : ∀ ty dc sc, (Builtin.copy_ #[24, 24] ty #[.slice (some ⟨g, off + (k + 1) * 5, none⟩) (zs.length - k) dc, .slice (some ⟨g, off + k * 5, none⟩) (zs.length + 1 - k) sc]).run Tryz.prog w.drew = .ok (goInt (Nat.min (zs.length + 1 - k) (zs.length - k))) (w.drew.setCells g (off + (k + 1) * 5) (cellsZ (zs.drop k))) := fun ty dc sc =>
    copy_cells5 w.drew ty g (off + (k + 1) * 5) _ dc ⟨g, off + k * 5, none⟩ _ sc (cellsZ (zs.drop k)) (by rw [hld]; simp only [Nat.min_def]; split <;> omega) (hNd.drop k).news s1 (cellsZ_one _)
  obtain ⟨W1, hW1⟩ : ∃ W1, W1 = w.drew.setCells g (off + (k + 1) * 5) (cellsZ (zs.drop k)) := ⟨_, rfl⟩
  rw [← hW1] at s2
  have hcp2 : ∀ (W : World), (∀ x, W.cell? x = W1.cell? x) → (∀ x, W.frozen? x = W1.frozen? x) → ∀ ty dc, (Builtin.copy_ #[24, 24] ty #[.slice (some ⟨g, off + k * 5, none⟩) (zs.length + 1 - k) dc, .slice (some ⟨vb, 0, none⟩) 1 1]).run Tryz.prog W = .ok (goInt (Nat.min 1 (zs.length + 1 - k))) (W.setCells g (off + k * 5) (zcells z)) := fun W hWc hWf ty dc =>
    copy_cells5 W ty g (off + k * 5) _ dc ⟨vb, 0, none⟩ 1 1 (zcells z) (by rw [hz5]; simp only [Nat.min_def]; split <;> omega)
      (fun j u hj => by
        rw [Addr.add_lit, hWc, hW1, World.cell?_setCells_out g _ _ _ _ (fun h _ => absurd h hvb)]
        exact hcv j u hj)
      (fun j hj => by rw [hWc, hWf]; exact s2 j (by omega)) (by intro u hu; simp [zcells] at hu; rcases hu with rfl | rfl | rfl | rfl | rfl <;> rfl)
  rw [← hW1] at hcp1 ⊢
  have hkn : k ≤ zs.length := by omega
  have hz2 : ¬ ((k : Int) = (zs.length : Int)) := by omega
  have hw1 : IntKind.i64.wrap ((k : Int) + 1) = (k : Int) + 1 := by rw [IntKind.wrap_i64]; omega
  have hb1 : (0 : Int) ≤ (k : Int) + 1 := by omega
  have htn : ((k : Int) + 1).toNat = k + 1 := by omega
  have hb2 : ¬ (cap = k + 1) := by omega
  have hb3 : (k : Int) ≤ (zs.length : Int) + 1 := by omega
  have hb4 : ¬ (cap = k) := by omega
  have hb5 : ¬ ((cap : Int) < (zs.length : Int) + 1) := by omega
  have HW1 : Hid (W1 = w.drew.setCells g (off + (k + 1) * 5) (cellsZ (zs.drop k))) := hW1
  clear hR1 s1 s2 hR hN hRd hNd hld hW1 hcv
  go_enter Tryz.func49, Tryz.ntmps49
  go_wp2_with (simp only [hov])
  go_region_law (refine step_copy_run5 rfl _ _ 24 24 rfl _ _ (by simp [Act.eval, Act.put]) (by simp [Act.eval, Act.put]) (hcp1 _ _ _) ?_)
  go_wp2_with (at_builtin; refine wpList_copy_run5 _ rfl _ _ 24 24 rfl _ _ rfl rfl (hcp2 _ (fun _ => rfl) (fun _ => rfl) _ _) ?_)
  go_ret
  exact ⟨rfl, rfl⟩
end Go.Proofs.YtmiffefnpendoaaGreatDoor

/- slices.Insert of one node at the end, and where there is no room. -/
namespace Go.Proofs.YtmiffefnpendoaaGreatDoor
open Go.RowKit
theorem znInfo : ∃ i0, Tryz.prog.info? 39 = some i0 ∧ i0.zero = some (.agg #[.string ByteArray.empty, .int .i64 0, .int .i64 0, .int .i64 0, .int .i64 0]) ∧ i0.size = 5 ∧ i0.bytes = 48 := by
  have hi9 : (Tryz.prog.info? 39).map (fun i => (i.zero, i.size, i.bytes)) = some (some (.agg #[.string ByteArray.empty, .int .i64 0, .int .i64 0, .int .i64 0, .int .i64 0]), 5, 48) := by kernel_rfl
  obtain ⟨i0, hi, hx9⟩ := Option.map_eq_some_iff.1 hi9
  simp only [Prod.mk.injEq] at hx9
  exact ⟨i0, hi, hx9.1, hx9.2.1, hx9.2.2⟩
theorem zcells_one (z : Zn) : ∀ u ∈ zcells z, u.oneCell' = true := by intro u hu; simp [zcells] at hu; rcases hu with rfl | rfl | rfl | rfl | rfl <;> rfl

set_option maxHeartbeats 2000000 in
set_option maxRecDepth 100000 in
theorem insert_end_room (g off cap vb : Nat) (zs : List Zn) (z : Zn) (w : World) (hW : Wide w g off cap zs) (hroom : zs.length + 1 ≤ cap)
    (hv : w.heap[vb]? = some (.cells (zcells z).toArray 39 (0, 0))) :
    Calls Tryz.prog 49 #[.slice (some ⟨g, off, none⟩) zs.length cap, .int .i64 (zs.length : Int), .slice (some ⟨vb, 0, none⟩) 1 1] w fun e w' =>
      e = .returned (.slice (some ⟨g, off, none⟩) (zs.length + 1) cap) ∧ w' = w.setCells g (off + zs.length * 5) (zcells z) := by
  obtain ⟨hnc, hcm, hp, hR, hN, tB, kB, hsb, hkB⟩ := hW
  unfold maxLen at hcm
  obtain ⟨i0, hi, hz0, hz1, hz2⟩ := znInfo
  have hz5 : (zcells z).length = 5 := rfl
  have hcv : ∀ j u, (zcells z)[j]? = some u → w.cell? ((⟨vb, 0, none⟩ : Addr).add j) = some u := fun j u hu => by
    rw [Addr.add_lit, Nat.zero_add]; simp [World.cell?, hv]; simpa using hu
  have s1 := hR.some (off + zs.length * 5) 5 (by omega) (by omega)
  have hrun : ∀ ty, (Builtin.append_ #[24, 24] ty #[.slice (some ⟨g, off, none⟩) zs.length cap, .slice (some ⟨vb, 0, none⟩) 1 1]).run Tryz.prog w = .ok (.slice (some ⟨g, off, none⟩) (zs.length + 1) cap) (w.setCells g (off + zs.length * 5) (zcells z)) := fun ty => by
    have h := run_append_room_cells (P := Tryz.prog) w 24 ty 39 i0 Tryz.underlying24 hi g off zs.length cap ⟨vb, 0, none⟩ 1 1 (zcells z) (by rw [hz5, hz1]) hcv (zcells_one z) hroom (by rw [hz1, hz5]; exact fun j hj => (s1 j hj).1) (by rw [hz1, hz5]; exact fun j hj => (s1 j hj).2)
    rw [hz1] at h
    exact h
  clear hR hN s1 hcv
  go_enter Tryz.func49, Tryz.ntmps49
  go_wp2_with (at_builtin; refine Lib.wpList_append_run _ rfl _ _ _ _ rfl _ _ rfl rfl _ _ (hrun _) ?_)
  all_goals (go_ret; exact ⟨rfl, rfl⟩)

set_option maxHeartbeats 2000000 in
set_option maxRecDepth 100000 in
theorem insert_end_grow (g off cap vb : Nat) (zs : List Zn) (z : Zn) (w : World) (hW : Wide w g off cap zs) (hl : zs.length ≤ 1000) (hroom : cap < zs.length + 1)
    (hv : w.heap[vb]? = some (.cells (zcells z).toArray 39 (0, 0))) :
    Calls Tryz.prog 49 #[.slice (some ⟨g, off, none⟩) zs.length cap, .int .i64 (zs.length : Int), .slice (some ⟨vb, 0, none⟩) 1 1] w fun e w' =>
      e = .returned (.slice (some ⟨w.heap.size, 0, none⟩) (zs.length + 1) (grownCap w (zs.length + 1) cap 39)) ∧
      w' = w.drew.alloc (.cells ((cellsZ zs ++ zcells z).toArray ++ Builtin.zeroCells (Value.agg #[.string ByteArray.empty, .int .i64 0, .int .i64 0, .int .i64 0, .int .i64 0]).cells (grownCap w (zs.length + 1) cap 39 - (zs.length + 1))) 39) := by
  obtain ⟨hnc, hcm, hp, hR, hN, tB, kB, hsb, hkB⟩ := hW
  unfold maxLen at hcm
  obtain ⟨i0, hi, hz0, hz1, hz2⟩ := znInfo
  have hz5 : (zcells z).length = 5 := rfl
  have hcv : ∀ j u, (zcells z)[j]? = some u → w.cell? ((⟨vb, 0, none⟩ : Addr).add j) = some u := fun j u hu => by
    rw [Addr.add_lit, Nat.zero_add]; simp [World.cell?, hv]; simpa using hu
  have hsrc : Src Tryz.prog i0.size 24 (.slice (some ⟨vb, 0, none⟩) 1 1) 1 (zcells z) w := by
    rw [hz1]
    exact Src.ofSlice w Tryz.underlying24 ⟨vb, 0, none⟩ 1 1 (zcells z) (by omega) hcv (zcells_one z)
  have hold : (Builtin.firstCells i0.size zs.length (.slice (some ⟨g, off, none⟩) zs.length cap)).run Tryz.prog w.drew = .ok (cellsZ zs).toArray w.drew := by
    rw [hz1]
    exact run_firstCells_some w.drew 5 zs.length ⟨g, off, none⟩ zs.length cap (cellsZ zs) (by rw [cellsZ_length]) (NodesAt.news (w := w.drew) hN)
  have hrun : ∀ ty, (Builtin.append_ #[24, 24] ty #[.slice (some ⟨g, off, none⟩) zs.length cap, .slice (some ⟨vb, 0, none⟩) 1 1]).run Tryz.prog w = _ := fun ty =>
    run_append_grow_src w 24 24 ty 39 i0 _ Tryz.underlying24 hi hz0 (some ⟨g, off, none⟩) zs.length cap (cellsZ zs) hold _ 1 (zcells z) hsrc hroom (by omega) (by rw [hz2]; exact growslice_fits hroom (by omega))
  clear hR hN hcv hsrc hold
  go_enter Tryz.func49, Tryz.ntmps49
  go_wp2_with (at_builtin; refine Lib.wpList_append_run _ rfl _ _ _ _ rfl _ _ rfl rfl _ _ (hrun _) ?_)
  all_goals (go_ret; exact ⟨rfl, rfl⟩)
end Go.Proofs.YtmiffefnpendoaaGreatDoor

/- slices.Insert of one node between others where there is no room. -/
namespace Go.Proofs.YtmiffefnpendoaaGreatDoor
open Go.RowKit

set_option maxHeartbeats 400000 in
set_option maxRecDepth 100000 in
theorem grow_zeros (g off cap k : Nat) (zs : List Zn) (w : World) (hW : Wide w g off cap zs) (hl : zs.length ≤ 1000) (hk : k < zs.length) (hroom : cap < zs.length + 1) :
    ∃ (G : Nat) (ROW : Array Value), (∀ ty, (Builtin.append_ #[24, 3] ty #[.slice (some ⟨g, off, none⟩) k cap, .int .i64 ((zs.length : Int) + 1 - (k : Int))]).run Tryz.prog w =
      .ok (.slice (some ⟨w.heap.size, 0, none⟩) (zs.length + 1) G) (w.drew.alloc (.cells ROW 39))) ∧ zs.length + 1 ≤ G ∧ G ≤ 9223372036854775807 ∧ G ≤ maxLen ∧ (zs.length + 1) * 5 ≤ ROW.size ∧ (∀ (j : Nat) (u : Value), (cellsZ (zs.take k))[j]? = some u → ROW[j]? = some u) := by
  obtain ⟨hnc, hcm, hp, hR, hN, tB, kB, hsb, hkB⟩ := hW
  unfold maxLen at hcm
  obtain ⟨i0, hi, hz0, hz1, hz2⟩ := znInfo
  have hbw : g < w.heap.size := hR.1
  have hld : (cellsZ (zs.drop k)).length = (zs.length - k) * 5 := by rw [cellsZ_length, List.length_drop]
  have hlt : (cellsZ (zs.take k)).length = k * 5 := by rw [cellsZ_length, List.length_take]; omega
  have hkk : (zs.length : Int) + 1 - (k : Int) = ((zs.length + 1 - k : Nat) : Int) := by omega
  have hik : k + (zs.length + 1 - k) = zs.length + 1 := by omega
  have hold : (Builtin.firstCells i0.size k (.slice (some ⟨g, off, none⟩) k cap)).run Tryz.prog w.drew = .ok (cellsZ (zs.take k)).toArray w.drew := by
    rw [hz1]
    exact run_firstCells_some w.drew 5 k ⟨g, off, none⟩ k cap (cellsZ (zs.take k)) hlt (NodesAt.news (w := w.drew) (hN.take k))
  obtain ⟨G, hG⟩ : ∃ G, G = grownCap w (zs.length + 1) cap 39 := ⟨_, rfl⟩
  obtain ⟨ROW, hROW⟩ : ∃ ROW : Array Value, ROW = (cellsZ (zs.take k)).toArray ++ Builtin.zeroCells (Value.agg #[.string ByteArray.empty, .int .i64 0, .int .i64 0, .int .i64 0, .int .i64 0]).cells (zs.length + 1 - k) ++ Builtin.zeroCells (Value.agg #[.string ByteArray.empty, .int .i64 0, .int .i64 0, .int .i64 0, .int .i64 0]).cells (G - (zs.length + 1)) := ⟨_, rfl⟩
  have hrz : ∀ ty, (Builtin.append_ #[24, 3] ty #[.slice (some ⟨g, off, none⟩) k cap, .int .i64 ((zs.length : Int) + 1 - (k : Int))]).run Tryz.prog w =
      .ok (.slice (some ⟨w.heap.size, 0, none⟩) (zs.length + 1) G) (w.drew.alloc (.cells ROW 39)) := fun ty => by
    have h := Lib.run_append_grow_zeros w 24 3 ty 39 i0 _ .i64 .i64 Tryz.underlying24 Tryz.underlying3 hi hz0 (some ⟨g, off, none⟩) k cap (cellsZ (zs.take k)) hold (zs.length + 1 - k) (by omega) (by omega) (by omega) (by omega) (by rw [hz2]; omega) (by rw [hz2, hik]; exact growslice_fits hroom (by omega))
    rw [hik] at h
    rw [hkk, hROW, hG]
    exact h
  have hGn : zs.length + 1 ≤ G := by rw [hG]; exact grownCap_ge w _ _ _
  have hGm : G ≤ maxLen := by
    have := grownCap_le_maxLen w (zs.length + 1) cap 39 (by unfold maxLen; omega)
    rw [← hG] at this
    exact this
  have hG63 : G ≤ 9223372036854775807 := by
    unfold maxLen at hGm
    omega
  have hcells5 : (Value.agg #[.string ByteArray.empty, .int .i64 0, .int .i64 0, .int .i64 0, .int .i64 0]).cells.size = 5 := by kernel_rfl
  have hRl : (zs.length + 1) * 5 ≤ ROW.size := by
    rw [hROW]
    simp only [Array.size_append, List.size_toArray, hlt, Builtin.zeroCells, Array.size_map, Array.size_range, hcells5]
    omega
  have hRt : ∀ (j : Nat) (u : Value), (cellsZ (zs.take k))[j]? = some u → ROW[j]? = some u := fun j u hu => by
    have hj := (List.getElem?_eq_some_iff.1 hu).1
    rw [hROW, Array.append_assoc, Array.getElem?_append_left (by simpa using hj)]
    simpa using hu
  exact ⟨G, ROW, hrz, hGn, hG63, hGm, hRl, hRt⟩

set_option maxHeartbeats 400000 in
set_option maxRecDepth 100000 in
theorem grow_copies (g off cap k vb : Nat) (zs : List Zn) (z : Zn) (w W1 : World) (ROW : Array Value) (hW : Wide w g off cap zs) (hk : k < zs.length) (hvw : vb < w.heap.size)
    (hv : w.heap[vb]? = some (.cells (zcells z).toArray 39 (0, 0))) (hRl : (zs.length + 1) * 5 ≤ ROW.size) (hW1 : W1 = w.drew.alloc (.cells ROW 39)) :
    (∀ (W : World), (∀ x, W.cell? x = W1.cell? x) → (∀ x, W.frozen? x = W1.frozen? x) → ∀ ty dc, (Builtin.copy_ #[24, 24] ty #[.slice (some ⟨w.heap.size, k * 5, none⟩) (zs.length + 1 - k) dc, .slice (some ⟨vb, 0, none⟩) 1 1]).run Tryz.prog W = .ok (goInt (Nat.min 1 (zs.length + 1 - k))) (W.setCells w.heap.size (k * 5) (zcells z))) ∧
    (∀ (W : World), (∀ x, W.cell? x = (W1.setCells w.heap.size (k * 5) (zcells z)).cell? x) → (∀ x, W.frozen? x = (W1.setCells w.heap.size (k * 5) (zcells z)).frozen? x) → ∀ ty dc sc, (Builtin.copy_ #[24, 24] ty #[.slice (some ⟨w.heap.size, (k + 1) * 5, none⟩) (zs.length - k) dc, .slice (some ⟨g, off + k * 5, none⟩) (zs.length - k) sc]).run Tryz.prog W = .ok (goInt (Nat.min (zs.length - k) (zs.length - k))) (W.setCells w.heap.size ((k + 1) * 5) (cellsZ (zs.drop k)))) := by
  obtain ⟨hnc, hcm, hp, hR, hN, tB, kB, hsb, hkB⟩ := hW
  have hz5 : (zcells z).length = 5 := rfl
  have hbw : g < w.heap.size := hR.1
  have hld : (cellsZ (zs.drop k)).length = (zs.length - k) * 5 := by rw [cellsZ_length, List.length_drop]
  have hNr : Room W1 w.heap.size 0 (zs.length + 1) := ⟨by rw [hW1]; simp, fun j hj => ⟨⟨ROW[j]'(by omega), by rw [hW1, Nat.zero_add, World.cell?_alloc_at (w := w.drew) ROW _ w.heap.size j rfl, Array.getElem?_eq_getElem (by omega)]⟩, by rw [hW1, Nat.zero_add]; exact World.frozen?_alloc_at (w := w.drew) ROW _ w.heap.size j rfl⟩⟩
  have sA := hNr.some (k * 5) 5 (by omega) (by omega)
  have hNr2 := hNr.setCells (k * 5) (zcells z) (fun j hj => (sA j (by omega)).1)
  have sB := hNr2.some ((k + 1) * 5) (cellsZ (zs.drop k)).length (by omega) (by omega)
  have hE : Ext w W1 := by rw [hW1]; exact ((Ext.refl w).drew).alloc _
  have hOb : NodesAt W1 g off zs := hN.ext hbw hE
  have hOv : ∀ j u, (zcells z)[j]? = some u → W1.cell? ⟨vb, 0 + j, none⟩ = some u := fun j u hu => by
    rw [Nat.zero_add, (Ext.cell hE).1 _ _ hvw]; simp [World.cell?, hv]; simpa using hu
  have hcpA : ∀ (W : World), (∀ x, W.cell? x = W1.cell? x) → (∀ x, W.frozen? x = W1.frozen? x) → ∀ ty dc, (Builtin.copy_ #[24, 24] ty #[.slice (some ⟨w.heap.size, k * 5, none⟩) (zs.length + 1 - k) dc, .slice (some ⟨vb, 0, none⟩) 1 1]).run Tryz.prog W = .ok (goInt (Nat.min 1 (zs.length + 1 - k))) (W.setCells w.heap.size (k * 5) (zcells z)) := fun W hWc hWf ty dc =>
    copy_cells5 W ty w.heap.size (k * 5) _ dc ⟨vb, 0, none⟩ 1 1 (zcells z) (by rw [hz5]; simp only [Nat.min_def]; split <;> omega)
      (fun j u hj => by rw [Addr.add_lit, hWc]; exact hOv j u hj) (fun j hj => by rw [hWc, hWf]; exact sA j (by omega)) (zcells_one z)
  have hbN : g ≠ w.heap.size := by omega
  have hcpB : ∀ (W : World), (∀ x, W.cell? x = (W1.setCells w.heap.size (k * 5) (zcells z)).cell? x) → (∀ x, W.frozen? x = (W1.setCells w.heap.size (k * 5) (zcells z)).frozen? x) → ∀ ty dc sc, (Builtin.copy_ #[24, 24] ty #[.slice (some ⟨w.heap.size, (k + 1) * 5, none⟩) (zs.length - k) dc, .slice (some ⟨g, off + k * 5, none⟩) (zs.length - k) sc]).run Tryz.prog W = .ok (goInt (Nat.min (zs.length - k) (zs.length - k))) (W.setCells w.heap.size ((k + 1) * 5) (cellsZ (zs.drop k))) := fun W hWc hWf ty dc sc =>
    copy_cells5 W ty w.heap.size ((k + 1) * 5) _ dc ⟨g, off + k * 5, none⟩ _ sc (cellsZ (zs.drop k)) (by rw [hld]; simp only [Nat.min_def]; split <;> omega)
      (fun j u hj => by
        rw [Addr.add_lit, hWc, World.cell?_setCells_out _ _ _ _ _ (fun h _ => absurd h hbN)]
        exact (hOb.drop k).news' j u hj)
      (fun j hj => by rw [hWc, hWf]; exact sB j hj) (cellsZ_one _)
  exact ⟨hcpA, hcpB⟩
end Go.Proofs.YtmiffefnpendoaaGreatDoor

/- slices.Insert of one node between others where there is no room. -/
namespace Go.Proofs.YtmiffefnpendoaaGreatDoor
open Go.RowKit
theorem drew_alloc_cell (w : World) (o : Obj) (x : Addr) : ((w.alloc o).drew).cell? x = (w.drew.alloc o).cell? x := rfl
theorem drew_alloc_frozen (w : World) (o : Obj) (x : Addr) : ((w.alloc o).drew).frozen? x = (w.drew.alloc o).frozen? x := rfl
theorem drew_cell (w : World) (x : Addr) : w.drew.cell? x = w.cell? x := rfl
theorem drew_frozen (w : World) (x : Addr) : w.drew.frozen? x = w.frozen? x := rfl
theorem drew_alloc (w : World) (o : Obj) : (w.alloc o).drew = w.drew.alloc o := rfl

set_option maxHeartbeats 400000 in
set_option maxRecDepth 100000 in
theorem insert_grow (g off cap k vb : Nat) (zs : List Zn) (z : Zn) (w : World) (hW : Wide w g off cap zs) (hl : zs.length ≤ 1000) (hk : k < zs.length) (hroom : cap < zs.length + 1) (hvw : vb < w.heap.size)
    (hv : w.heap[vb]? = some (.cells (zcells z).toArray 39 (0, 0))) :
    Calls Tryz.prog 49 #[.slice (some ⟨g, off, none⟩) zs.length cap, .int .i64 k, .slice (some ⟨vb, 0, none⟩) 1 1] w fun e w' =>
      ∃ (G : Nat) (ROW : Array Value), e = .returned (.slice (some ⟨w.heap.size, 0, none⟩) (zs.length + 1) G) ∧ zs.length + 1 ≤ G ∧ G ≤ maxLen ∧ (zs.length + 1) * 5 ≤ ROW.size ∧ (∀ (j : Nat) (u : Value), (cellsZ (zs.take k))[j]? = some u → ROW[j]? = some u) ∧
      w' = (((w.alloc (.cells ROW 39)).drew.setCells w.heap.size (k * 5) (zcells z)).drew).setCells w.heap.size ((k + 1) * 5) (cellsZ (zs.drop k)) := by
  obtain ⟨G, ROW, hrz, hGn, hG63, hGm, hRl, hRt⟩ := grow_zeros g off cap k zs w hW hl hk hroom
  obtain ⟨hcpA, hcpB⟩ := grow_copies g off cap k vb zs z w _ ROW hW hk hvw hv hRl rfl
  obtain ⟨hnc, hcm, hp, -, -, tB, kB, hsb, hkB⟩ := hW
  unfold maxLen at hcm
  have hGi : ¬ (G = k) := by omega
  have hGim : ¬ (G = k + 1) := by omega
  have hci : ¬ (cap = k) := by omega
  have hkn : k ≤ zs.length := by omega
  have hz2' : ¬ ((k : Int) = (zs.length : Int)) := by omega
  have hz3 : (cap : Int) < (zs.length : Int) + 1 := by omega
  have hw1 : IntKind.i64.wrap ((k : Int) + 1) = (k : Int) + 1 := by rw [IntKind.wrap_i64]; omega
  have hb1 : (0 : Int) ≤ (k : Int) + 1 := by omega
  have htn : ((k : Int) + 1).toNat = k + 1 := by omega
  have hb3 : (k : Int) + 1 ≤ (zs.length : Int) + 1 := by omega
  have hsub : zs.length + 1 - (k + 1) = zs.length - k := by omega
  have HR : Hid (zs.length + 1 ≤ G ∧ G ≤ maxLen ∧ (zs.length + 1) * 5 ≤ ROW.size ∧ (∀ (j : Nat) (u : Value), (cellsZ (zs.take k))[j]? = some u → ROW[j]? = some u)) := ⟨hGn, hGm, hRl, hRt⟩
  have HA : Hid (∀ (W : World), (∀ x, W.cell? x = (w.drew.alloc (.cells ROW 39)).cell? x) → (∀ x, W.frozen? x = (w.drew.alloc (.cells ROW 39)).frozen? x) → ∀ ty dc, (Builtin.copy_ #[24, 24] ty #[.slice (some ⟨w.heap.size, k * 5, none⟩) (zs.length + 1 - k) dc, .slice (some ⟨vb, 0, none⟩) 1 1]).run Tryz.prog W = .ok (goInt (Nat.min 1 (zs.length + 1 - k))) (W.setCells w.heap.size (k * 5) (zcells z))) := hcpA
  have HB : Hid (∀ (W : World), (∀ x, W.cell? x = ((w.drew.alloc (.cells ROW 39)).setCells w.heap.size (k * 5) (zcells z)).cell? x) → (∀ x, W.frozen? x = ((w.drew.alloc (.cells ROW 39)).setCells w.heap.size (k * 5) (zcells z)).frozen? x) → ∀ ty dc sc, (Builtin.copy_ #[24, 24] ty #[.slice (some ⟨w.heap.size, (k + 1) * 5, none⟩) (zs.length - k) dc, .slice (some ⟨g, off + k * 5, none⟩) (zs.length - k) sc]).run Tryz.prog W = .ok (goInt (Nat.min (zs.length - k) (zs.length - k))) (W.setCells w.heap.size ((k + 1) * 5) (cellsZ (zs.drop k)))) := hcpB
  have HZ : Hid (∀ ty, (Builtin.append_ #[24, 3] ty #[.slice (some ⟨g, off, none⟩) k cap, .int .i64 ((zs.length : Int) + 1 - (k : Int))]).run Tryz.prog w = .ok (.slice (some ⟨w.heap.size, 0, none⟩) (zs.length + 1) G) (w.drew.alloc (.cells ROW 39))) := hrz
  clear hcpA hcpB hrz hGm hRl hRt
  go_enter Tryz.func49, Tryz.ntmps49
  go_wp2_with (at_builtin; refine Lib.wpList_append_run _ rfl _ _ _ _ rfl _ _ rfl rfl _ _ (HZ.out _) ?_)
  rw [HA.out _ (drew_alloc_cell w _) (drew_alloc_frozen w _) _ _]
  have hX : ∀ ty dc sc, (Builtin.copy_ #[24, 24] ty #[.slice (some ⟨w.heap.size, (k + 1) * 5, none⟩) (zs.length - k) dc, .slice (some ⟨g, off + k * 5, none⟩) (zs.length - k) sc]).run Tryz.prog ((w.alloc (.cells ROW 39)).drew.setCells w.heap.size (k * 5) (zcells z)).drew = .ok (goInt (Nat.min (zs.length - k) (zs.length - k))) (((w.alloc (.cells ROW 39)).drew.setCells w.heap.size (k * 5) (zcells z)).drew.setCells w.heap.size ((k + 1) * 5) (cellsZ (zs.drop k))) := fun ty dc sc => HB.out _ (fun x => by rw [drew_cell, drew_alloc]) (fun x => by rw [drew_frozen, drew_alloc]) ty dc sc
  go_wp2
  go_region_law (refine step_copy_run5 rfl _ _ 24 24 rfl _ _ (by simp [Act.eval, Act.put]) (by simp [Act.eval, Act.put]) (hX _ _ _) ?_)
  go_wp2
  go_ret
  exact ⟨G, ROW, rfl, HR.out.1, HR.out.2.1, HR.out.2.2.1, HR.out.2.2.2, rfl⟩
end Go.Proofs.YtmiffefnpendoaaGreatDoor

/- slices.Insert of one node: what is there behind it, on all four roads. -/
namespace Go.Proofs.YtmiffefnpendoaaGreatDoor
open Go.RowKit
theorem updSetCells {g : Nat} {w : World} : ∀ (vs : List Value) (o : Nat) (W : World), Upd g w W → Upd g w (W.setCells g o vs)
  | [], _, _, h => h
  | _ :: vs, o, _, h => updSetCells vs (o + 1) _ (h.setAt o _)
theorem upd_drew {g : Nat} {w : World} (hg : g ≤ w.heap.size) : Upd g w w.drew := Upd.ext ((Ext.refl _).drew) hg
theorem room_drew {w : World} {g off n : Nat} (h : Room w g off n) : Room w.drew g off n := h
/-- What Insert leaves: the nodes with z among them in one block, nothing else turned but block g. -/
def InsRet (w : World) (g k : Nat) (zs : List Zn) (z : Zn) (e : Ending) (w' : World) : Prop :=
  ∃ a cap g', e = .returned (.slice a (zs.length + 1) cap) ∧ g ≤ g' ∧ Own w' (.slice a (zs.length + 1) cap) g' (zs.take k ++ z :: zs.drop k) ∧ Upd g w w'
theorem ins_len (zs : List Zn) (z : Zn) {k : Nat} (hk : k ≤ zs.length) : (zs.take k ++ z :: zs.drop k).length = zs.length + 1 := by simp; omega
theorem own_ins {w' : World} {G OFF C : Nat} {zs : List Zn} {z : Zn} {k : Nat} (hk : k ≤ zs.length) (hC : zs.length + 1 ≤ C) (hm : C ≤ maxLen) (hR : Room w' G OFF (zs.length + 1)) (hN : NodesAt w' G OFF (zs.take k ++ z :: zs.drop k)) :
    Own w' (.slice (some ⟨G, OFF, none⟩) (zs.length + 1) C) G (zs.take k ++ z :: zs.drop k) := by
  have hl := ins_len zs z hk
  refine ⟨_, C, by rw [hl], by rw [hl]; exact hC, hm, fun _ => ⟨OFF, rfl, by rw [hl]; exact hR, hN⟩⟩
theorem at_isSome {w : World} {a : Addr} {u : Value} (h : w.cell? a = some u) : (w.cell? a).isSome = true := by rw [h]; rfl
theorem in_setCells {w : World} {b o : Nat} {vs : List Value} (hs : ∀ j, j < vs.length → (w.cell? ⟨b, o + j, none⟩).isSome = true) {j : Nat} {u : Value} (hj : vs[j]? = some u) : (w.setCells b o vs).cell? ⟨b, o + j, none⟩ = some u := by
  obtain ⟨h1, rfl⟩ := List.getElem?_eq_some_iff.1 hj
  exact World.cell?_setCells_in b vs o w hs j h1
theorem out_setCells (w : World) {b o : Nat} (vs : List Value) {c k : Nat} (h : c ≠ b ∨ k < o ∨ o + vs.length ≤ k) : (w.setCells b o vs).cell? ⟨c, k, none⟩ = w.cell? ⟨c, k, none⟩ :=
  World.cell?_setCells_out b vs o w ⟨c, k, none⟩ (fun h1 _ => by rcases h with h | h; exact absurd h1 h; exact h)

set_option maxHeartbeats 400000 in
theorem ins_shift {g off cap k : Nat} {zs : List Zn} {z : Zn} {w : World} (hW : Wide w g off cap zs) (hk : k ≤ zs.length) (hroom : zs.length + 1 ≤ cap) {W2 : World}
    (hW2 : W2 = (w.drew.setCells g (off + (k + 1) * 5) (cellsZ (zs.drop k))).setCells g (off + k * 5) (zcells z)) : InsRet w g k zs z (.returned (.slice (some ⟨g, off, none⟩) (zs.length + 1) cap)) W2 := by
  obtain ⟨hnc, hcm, hp, hR, hN, -⟩ := hW
  have hld : (cellsZ (zs.drop k)).length = (zs.length - k) * 5 := by rw [cellsZ_length, List.length_drop]
  have hz5 : (zcells z).length = 5 := rfl
  have hRd : Room w.drew g off cap := hR
  have s1 := hRd.some (off + (k + 1) * 5) (cellsZ (zs.drop k)).length (by omega) (by omega)
  have hR1 := hRd.setCells (off + (k + 1) * 5) (cellsZ (zs.drop k)) (fun j hj => (s1 j hj).1)
  have s2 := hR1.some (off + k * 5) 5 (by omega) (by omega)
  have hR2 := hR1.setCells (off + k * 5) (zcells z) (fun j hj => (s2 j (by omega)).1)
  rw [← hW2] at hR2
  refine ⟨_, cap, g, rfl, Nat.le_refl _, own_ins hk hroom hcm (hR2.less hroom) ?_, ?_⟩
  · refine spread (W := w.drew) z hk (fun j u hj => (NodesAt.news' (w := w.drew) (hN.take k)) j u hj) (fun j hj => ?_) (fun j u hj => ?_) (fun j u hj => ?_)
    · rw [hW2, out_setCells _ _ (by omega), out_setCells _ _ (by omega)]
    · rw [hW2]
      exact in_setCells (fun i hi => (s2 i (by omega)).1) hj
    · have hj5 := (List.getElem?_eq_some_iff.1 hj).1
      rw [hW2, out_setCells _ _ (by omega)]
      exact in_setCells (fun i hi => (s1 i hi).1) hj
  · rw [hW2]
    exact updSetCells _ _ _ (updSetCells _ _ _ (upd_drew (Nat.le_of_lt hR.1)))

set_option maxHeartbeats 400000 in
theorem ins_room {g off cap : Nat} {zs : List Zn} {z : Zn} {w : World} (hW : Wide w g off cap zs) (hroom : zs.length + 1 ≤ cap) {W2 : World}
    (hW2 : W2 = w.setCells g (off + zs.length * 5) (zcells z)) : InsRet w g zs.length zs z (.returned (.slice (some ⟨g, off, none⟩) (zs.length + 1) cap)) W2 := by
  obtain ⟨hnc, hcm, hp, hR, hN, -⟩ := hW
  have hz5 : (zcells z).length = 5 := rfl
  have s2 := hR.some (off + zs.length * 5) 5 (by omega) (by omega)
  have hR2 := hR.setCells (off + zs.length * 5) (zcells z) (fun j hj => (s2 j (by omega)).1)
  rw [← hW2] at hR2
  refine ⟨_, cap, g, rfl, Nat.le_refl _, own_ins (Nat.le_refl _) hroom hcm (hR2.less hroom) ?_, ?_⟩
  · refine spread (W := w) z (Nat.le_refl _) (fun j u hj => (hN.take zs.length).news' j u hj) (fun j hj => ?_) (fun j u hj => ?_) (fun j u hj => ?_)
    · rw [hW2, out_setCells _ _ (by omega)]
    · rw [hW2]
      exact in_setCells (fun i hi => (s2 i (by omega)).1) hj
    · rw [List.drop_length] at hj; simp [cellsZ] at hj
  · rw [hW2]
    exact updSetCells _ _ _ (Upd.refl _ _)

set_option maxHeartbeats 400000 in
theorem ins_end {g off cap : Nat} {zs : List Zn} {z : Zn} {w : World} (hW : Wide w g off cap zs) {C : Nat} (hC : zs.length + 1 ≤ C) (hCm : C ≤ maxLen) (more : Array Value) {W2 : World}
    (hW2 : W2 = w.drew.alloc (.cells ((cellsZ zs ++ zcells z).toArray ++ more) 39)) : InsRet w g zs.length zs z (.returned (.slice (some ⟨w.heap.size, 0, none⟩) (zs.length + 1) C)) W2 := by
  obtain ⟨hnc, hcm, hp, hR, hN, -⟩ := hW
  have hz5 : (zcells z).length = 5 := rfl
  have hcl : (cellsZ zs).length = zs.length * 5 := cellsZ_length zs
  have hat : ∀ j u, (cellsZ zs ++ zcells z)[j]? = some u → W2.cell? ⟨w.heap.size, 0 + j, none⟩ = some u := fun j u hj => by
    have h1 := (List.getElem?_eq_some_iff.1 hj).1
    rw [hW2, Nat.zero_add, World.cell?_alloc_at (w := w.drew) _ _ w.heap.size j rfl, Array.getElem?_append_left (by simpa using h1)]
    simpa using hj
  have hsz : (zs.length + 1) * 5 ≤ ((cellsZ zs ++ zcells z).toArray ++ more).size := by
    rw [Array.size_append, List.size_toArray, List.length_append, hcl, hz5]; omega
  have hR2 : Room W2 w.heap.size 0 (zs.length + 1) := by
    refine ⟨by rw [hW2]; simp, fun j hj => ⟨⟨((cellsZ zs ++ zcells z).toArray ++ more)[j]'(by omega), ?_⟩, ?_⟩⟩
    · rw [hW2, Nat.zero_add, World.cell?_alloc_at (w := w.drew) _ _ w.heap.size j rfl, Array.getElem?_eq_getElem (by omega)]
    · rw [hW2, Nat.zero_add]; exact World.frozen?_alloc_at (w := w.drew) _ _ w.heap.size j rfl
  refine ⟨_, C, w.heap.size, rfl, Nat.le_of_lt hR.1, own_ins (Nat.le_refl _) hC hCm hR2 ?_, ?_⟩
  · refine spread (W := W2) z (Nat.le_refl _) (fun j u hj => ?_) (fun _ _ => rfl) (fun j u hj => ?_) (fun j u hj => ?_)
    · rw [List.take_length] at hj
      have h1 := (List.getElem?_eq_some_iff.1 hj).1
      exact hat j u (by rw [List.getElem?_append_left h1]; exact hj)
    · have h1 := (List.getElem?_eq_some_iff.1 hj).1
      have := hat (zs.length * 5 + j) u (by rw [List.getElem?_append_right (by omega), hcl, Nat.add_sub_cancel_left]; exact hj)
      rw [Nat.add_assoc]; exact this
    · rw [List.drop_length] at hj; simp [cellsZ] at hj
  · rw [hW2]
    exact Upd.ext (((Ext.refl w).drew).alloc _) (Nat.le_of_lt hR.1)

set_option maxHeartbeats 400000 in
theorem ins_grow {g off cap k : Nat} {zs : List Zn} {z : Zn} {w : World} (hW : Wide w g off cap zs) (hk : k ≤ zs.length) {C : Nat} (hC : zs.length + 1 ≤ C) (hCm : C ≤ maxLen) (ROW : Array Value) (hRl : (zs.length + 1) * 5 ≤ ROW.size)
    (hRt : ∀ (j : Nat) (u : Value), (cellsZ (zs.take k))[j]? = some u → ROW[j]? = some u) {W2 : World}
    (hW2 : W2 = (((w.alloc (.cells ROW 39)).drew.setCells w.heap.size (k * 5) (zcells z)).drew).setCells w.heap.size ((k + 1) * 5) (cellsZ (zs.drop k))) : InsRet w g k zs z (.returned (.slice (some ⟨w.heap.size, 0, none⟩) (zs.length + 1) C)) W2 := by
  obtain ⟨hnc, hcm, hp, hR, hN, -⟩ := hW
  have hz5 : (zcells z).length = 5 := rfl
  have hld : (cellsZ (zs.drop k)).length = (zs.length - k) * 5 := by rw [cellsZ_length, List.length_drop]
  have hlt : (cellsZ (zs.take k)).length = k * 5 := by rw [cellsZ_length, List.length_take]; omega
  obtain ⟨W0, hW0⟩ : ∃ W0, W0 = (w.alloc (.cells ROW 39)).drew := ⟨_, rfl⟩
  have hE0 : Ext w W0 := by rw [hW0]; exact ((Ext.refl w).alloc _).drew
  have hc0 : ∀ j, W0.cell? ⟨w.heap.size, j, none⟩ = ROW[j]? := fun j => by
    rw [hW0, drew_cell]; exact World.cell?_alloc_at (w := w) ROW _ w.heap.size j rfl
  have hR0 : Room W0 w.heap.size 0 (zs.length + 1) := by
    refine ⟨by rw [hW0]; show w.heap.size < (w.alloc _).heap.size; simp, fun j hj => ⟨⟨ROW[j]'(by omega), ?_⟩, ?_⟩⟩
    · rw [Nat.zero_add, hc0, Array.getElem?_eq_getElem (by omega)]
    · rw [Nat.zero_add, hW0, drew_frozen]; exact World.frozen?_alloc_at (w := w) ROW _ w.heap.size j rfl
  have s1 := hR0.some (k * 5) 5 (by omega) (by omega)
  have hR1 := hR0.setCells (k * 5) (zcells z) (fun j hj => (s1 j (by omega)).1)
  rw [← hW0] at hW2
  obtain ⟨W1, hW1⟩ : ∃ W1, W1 = (W0.setCells w.heap.size (k * 5) (zcells z)).drew := ⟨_, rfl⟩
  rw [← hW1] at hW2
  have hR1' : Room W1 w.heap.size 0 (zs.length + 1) := by rw [hW1]; exact room_drew hR1
  have s2 := hR1'.some ((k + 1) * 5) (cellsZ (zs.drop k)).length (by omega) (by omega)
  have hR2 := hR1'.setCells ((k + 1) * 5) (cellsZ (zs.drop k)) (fun j hj => (s2 j hj).1)
  rw [← hW2] at hR2
  refine ⟨_, C, w.heap.size, rfl, Nat.le_of_lt hR.1, own_ins hk hC hCm hR2 ?_, ?_⟩
  · refine spread (W := W0) z hk (fun j u hj => ?_) (fun j hj => ?_) (fun j u hj => ?_) (fun j u hj => ?_)
    · rw [Nat.zero_add, hc0]; exact hRt j u hj
    · rw [Nat.zero_add, hW2, out_setCells _ _ (by omega), hW1, drew_cell, out_setCells _ _ (by omega)]
    · have hj5 := (List.getElem?_eq_some_iff.1 hj).1
      rw [Nat.zero_add, hW2, out_setCells _ _ (by omega), hW1, drew_cell]
      exact in_setCells (fun i hi => (s1 i (by omega)).1) hj
    · rw [Nat.zero_add, hW2]
      exact in_setCells (fun i hi => (s2 i hi).1) hj
  · have hU : Upd w.heap.size w W2 := by
      rw [hW2]
      refine updSetCells _ _ _ ?_
      have h1 : Upd w.heap.size w (W0.setCells w.heap.size (k * 5) (zcells z)) := updSetCells _ _ _ (Upd.ext hE0 (Nat.le_refl _))
      rw [hW1]
      exact h1.trans (upd_drew h1.2.1)
    exact Upd.ext (hU.to_ext (Ext.refl _) (Nat.le_refl _)) (Nat.le_of_lt hR.1)

theorem insertZ_any (g off cap k vb : Nat) (zs : List Zn) (z : Zn) (w : World) (hW : Wide w g off cap zs) (hl : zs.length ≤ 1000) (hk : k ≤ zs.length) (hvb : vb ≠ g) (hvw : vb < w.heap.size)
    (hv : w.heap[vb]? = some (.cells (zcells z).toArray 39 (0, 0))) :
    Calls Tryz.prog 49 #[.slice (some ⟨g, off, none⟩) zs.length cap, .int .i64 k, .slice (some ⟨vb, 0, none⟩) 1 1] w (InsRet w g k zs z) := by
  by_cases hroom : zs.length + 1 ≤ cap
  · by_cases hke : k = zs.length
    · subst hke
      exact (insert_end_room g off cap vb zs z w hW hroom hv).mono fun e w' ⟨he, hw⟩ => by rw [he]; exact ins_room hW hroom hw
    · exact (insert_shift g off cap k vb zs z w hW (by omega) hroom hvb hv).mono fun e w' ⟨he, hw⟩ => by rw [he]; exact ins_shift hW hk hroom hw
  · by_cases hke : k = zs.length
    · subst hke
      exact (insert_end_grow g off cap vb zs z w hW hl (by omega) hv).mono fun e w' ⟨he, hw⟩ => by
        rw [he]
        exact ins_end hW (grownCap_ge w _ _ _) (grownCap_le_maxLen w _ _ _ (by have := hW.2.1; unfold maxLen at *; omega)) _ hw
    · exact (insert_grow g off cap k vb zs z w hW hl (by omega) (by omega) hvw hv).mono fun e w' ⟨G, ROW, he, h1, h2, h3, h4, hw⟩ => by
        rw [he]
        exact ins_grow hW hk h1 h2 ROW h3 h4 hw
end Go.Proofs.YtmiffefnpendoaaGreatDoor
