/- S2, S3, in one text. -/
import Derived.Test.YtilinjjimiiplaaGreatDoorKqS1
namespace Go.Proofs.YtilinjjimiiplaaGreatDoor
open Go.RowKit
/-- The slice value v of world w' holds the texts ps. -/
def Txts (w' : World) (v : Value) (ps : List ByteArray) : Prop :=
  ∃ g off cap, v = .slice (some ⟨g, off, none⟩) ps.length cap ∧ ps.length ≤ cap ∧ cap ≤ maxLen ∧ ∀ j b, ps[j]? = some b → w'.cell? ⟨g, off + j, none⟩ = some (.string b)

theorem txts_of_owns {w' : World} {base : Nat} {v : Value} {ps : List ByteArray} (h : w'.ownsRow base 9 1 v ps.length (ps.map Value.string)) (hne : ps ≠ []) : Txts w' v ps := by
  rcases h.2 with ⟨_, h0⟩ | ⟨g, cap, cur, hv, hb, hh, hn, hm, _⟩
  · exact absurd (List.eq_nil_of_length_eq_zero h0) hne
  · refine ⟨g, 0, cap, hv, hn, hm, fun j b hj => ?_⟩
    have := h.cells (g := g) (by rw [hv]; rfl) j (.string b) (by rw [List.getElem?_map, hj]; rfl)
    rw [Addr.add_lit] at this
    simpa using this

set_option maxHeartbeats 2000000 in
set_option maxRecDepth 100000 in
theorem l1Cut_any (s : ByteArray) (w : World) (hs : s.size ≤ 24) :
    Calls Tryz.prog 69 #[.string s, .int .u8 47] w fun e w' => ∃ v ps, e = .returned v ∧ Txts w' v ps ∧ ps.map (·.data.toList) = Pth.cut [] s.data.toList ∧ Ext w w' := by
  have hi9 : (Tryz.prog.info? 9).map (fun i => (i.zero, i.size, i.bytes)) = some (some (.string ByteArray.empty), 1, 16) := by kernel_rfl
  obtain ⟨i0, hi, hx⟩ := Option.map_eq_some_iff.1 hi9
  simp only [Prod.mk.injEq] at hx
  obtain ⟨hz0, hz1, hz2⟩ := hx
  clear hi9
  go_enter Tryz.func69, Tryz.ntmps69
  go_wp2
  go_loopw [5, 6, 7] (fun v fr i wr => ∃ (k f : Nat) (ps : List ByteArray), k ≤ s.size + 1 ∧ i = .int .i64 k ∧ fr = .int .i64 f ∧ Hid (wr.ownsRow w.heap.size 9 1 v ps.length (ps.map Value.string)) ∧ CutAt s.data.toList ps f k ∧ Hid (Below w.heap.size w wr))
    (fun _ _ i _ => s.size + 1 - (intOf i).toNat)
  case atStart =>
    refine ⟨0, 0, [], by omega, rfl, rfl, ?_, cutAt_start _, (Below.refl _ _).alloc (Nat.le_refl _) _⟩
    exact World.ownsRow_made w #[] 0 (Nat.le_refl _) (by unfold maxLen; omega) rfl
  case round =>
    obtain ⟨k, f, ps, hk, rfl, rfl, HO, hc, HB⟩ := hrel
    have hfk : f ≤ k := hc.1
    have hpk : ps.length ≤ k := hc.2.1
    by_cases h1 : k ≤ s.size
    · by_cases h2 : k = s.size
      · subst h2
        have hle : ps.length ≤ 24 := by omega
        go_wp2_with (at_builtin; go_must (refine wpList_append_own _ rfl _ _ 100 rfl w.heap.size 9 i0 (.string ByteArray.empty) 1 16 Tryz.underlying100 hi hz0 hz1 hz2 rfl (by decide) _ _ _ rfl (HO.out.alloc _) ⟨wr.heap.size, 0, none⟩ 1 1 [.string (s.extract f s.size)] rfl rfl (cell_one_new _ _ _) (fun x hx => by simp at hx; subst hx; rfl) (by unfold maxLen; omega) (by omega) (by have := HB.out.size; simp; omega) ?_; intro v' w3 hown' hgrow3 hnil3))
        refine ⟨⟨s.size + 1, s.size + 1, ps ++ [s.extract f s.size], by omega, by go_num, by go_num, ?_, cutAt_last s ps f hc, (HB.out.alloc HB.out.size _).grown hgrow3 (by have := HB.out.size; simp; omega) (fun q hq => (HO.out.lt q hq).1)⟩, by simp [intOf]⟩
        show w3.ownsRow _ _ _ _ _ _
        rw [List.map_append, List.length_append]
        exact hown'
      · have h3 : k < s.size := by omega
        have e1 : ((k : Int) == (s.size : Int)) = false := by simp; omega
        by_cases h4 : s[k] = 47
        · have hle : ps.length ≤ 24 := by omega
          go_wp2_with (at_builtin; go_must (refine wpList_append_own _ rfl _ _ 100 rfl w.heap.size 9 i0 (.string ByteArray.empty) 1 16 Tryz.underlying100 hi hz0 hz1 hz2 rfl (by decide) _ _ _ rfl (HO.out.alloc _) ⟨wr.heap.size, 0, none⟩ 1 1 [.string (s.extract f k)] rfl rfl (cell_one_new _ _ _) (fun x hx => by simp at hx; subst hx; rfl) (by unfold maxLen; omega) (by omega) (by have := HB.out.size; simp; omega) ?_; intro v' w3 hown' hgrow3 hnil3))
          refine ⟨⟨k + 1, k + 1, ps ++ [s.extract f k], by omega, by go_num, by go_num, ?_, cutAt_piece s ps f k h3 h4 hc, (HB.out.alloc HB.out.size _).grown hgrow3 (by have := HB.out.size; simp; omega) (fun q hq => (HO.out.lt q hq).1)⟩, by simp [intOf]; omega⟩
          show w3.ownsRow _ _ _ _ _ _
          rw [List.map_append, List.length_append]
          exact hown'
        · have e4 : ((s[k].toNat : Int) == 47) = false := by
            rw [beq_eq_false_iff_ne]; intro x; apply h4; apply UInt8.toNat_inj.1; show s[k].toNat = 47; omega
          go_wp2
          exact ⟨⟨k + 1, f, ps, by omega, by go_num, rfl, HO, cutAt_on s ps f k h3 h4 hc, HB⟩, by simp [intOf]; omega⟩
    · have h2 : k = s.size + 1 := by omega
      subst h2
      have HE : Hid (ps.map (·.data.toList) = Pth.cut [] s.data.toList) := cutAt_end s ps f hc
      go_wp2
      go_ret
      refine ⟨_, ps, rfl, txts_of_owns HO.out ?_, HE.out, HB.out⟩
      intro e
      have h3 := Pth.cut_length s.data.toList []
      rw [← HE.out, e] at h3
      simp at h3

section
variable {l : List UInt8} {ps : List ByteArray}
theorem names_short (hc : ps.map (·.data.toList) = Pth.cut [] l) (hne : l ≠ [47]) (h : ps.length < 2) : Pth.namesS l = none := by
  unfold Pth.namesS
  rw [if_neg hne, if_pos (Or.inl (by rw [← hc]; simpa using h))]
theorem names_head (hc : ps.map (·.data.toList) = Pth.cut [] l) (hne : l ≠ [47]) (p : ByteArray) (h : ps[0]? = some p) (hp : p.data.toList ≠ []) : Pth.namesS l = none := by
  unfold Pth.namesS
  rw [if_neg hne, if_pos (Or.inr ?_)]
  rw [← hc, List.head?_eq_getElem?, List.getElem?_map, h]
  simpa using hp
theorem tail_get (i : Nat) (b : ByteArray) (h : ps[i + 1]? = some b) : (ps.map (·.data.toList)).tail[i]? = some b.data.toList := by
  rw [List.getElem?_tail, List.getElem?_map, h]; rfl
theorem names_bad (hc : ps.map (·.data.toList) = Pth.cut [] l) (hne : l ≠ [47]) (i : Nat) (b : ByteArray) (hi : 1 ≤ i) (h : ps[i]? = some b) (hb : Pth.okName b.data.toList = false) : Pth.namesS l = none := by
  unfold Pth.namesS
  rw [if_neg hne]
  have : ¬ (Pth.cut [] l).tail.all Pth.okName = true := by
    rw [← hc]
    intro ha
    obtain ⟨j, rfl⟩ : ∃ j, i = j + 1 := ⟨i - 1, by omega⟩
    have := List.all_eq_true.1 ha _ (List.mem_of_getElem? (tail_get j b h))
    rw [hb] at this; cases this
  rw [if_neg this]
  split <;> rfl
theorem names_good (hc : ps.map (·.data.toList) = Pth.cut [] l) (hne : l ≠ [47]) (h2 : 2 ≤ ps.length) (p : ByteArray) (h : ps[0]? = some p) (hp : p.data.toList = [])
    (ha : ∀ j b, 1 ≤ j → j < ps.length → ps[j]? = some b → Pth.okName b.data.toList = true) : ∃ ns, Pth.namesS l = some ns ∧ ns.length = ps.length - 1 := by
  refine ⟨(Pth.cut [] l).tail, ?_, by rw [← hc]; simp⟩
  unfold Pth.namesS
  rw [if_neg hne, if_neg, if_pos]
  · rw [← hc, List.all_eq_true]
    intro x hx
    obtain ⟨j, hj⟩ := List.getElem?_of_mem hx
    rw [List.getElem?_tail, List.getElem?_map] at hj
    cases hb : ps[j + 1]? with
    | none => rw [hb] at hj; cases hj
    | some b =>
      rw [hb] at hj
      simp only [Option.map_some, Option.some.injEq] at hj
      rw [← hj]
      exact ha (j + 1) b (by omega) (List.getElem?_eq_some_iff.1 hb).1 hb
  · rw [← hc]
    rintro (x | x)
    · simp at x; omega
    · rw [List.head?_eq_getElem?, List.getElem?_map, h] at x
      simp [hp] at x
end
def namesSaid (l : List UInt8) (w : World) (e : Ending) (w' : World) : Prop :=
  ∃ v : Value, e = .returned (.tuple #[v, .bool (Pth.namesS l).isSome]) ∧ (∀ ns, Pth.namesS l = some ns → ∃ a cap, v = .slice (some a) ns.length cap) ∧ Ext w w'
theorem said_none {l : List UInt8} {w w' : World} {v : Value} (h : Pth.namesS l = none) (hb : Ext w w') : namesSaid l w (.returned (.tuple #[v, .bool false])) w' :=
  ⟨v, by rw [h]; rfl, fun ns hn => (by rw [h] at hn; cases hn), hb⟩
theorem said_some {l : List UInt8} {w w' : World} {a : Addr} {n cap : Nat} {ns : List (List UInt8)} (h : Pth.namesS l = some ns) (hl : ns.length = n) (hb : Ext w w') : namesSaid l w (.returned (.tuple #[.slice (some a) n cap, .bool true])) w' :=
  ⟨_, by rw [h]; rfl, fun ns' hn => (by rw [h] at hn; cases hn; exact ⟨a, cap, by rw [hl]⟩), hb⟩

set_option maxHeartbeats 2000000 in
set_option maxRecDepth 100000 in
theorem l1Names_any (s : ByteArray) (w : World) (hs : s.size ≤ 24) :
    Calls Tryz.prog 70 #[.string s] w (namesSaid s.data.toList w) := by
  by_cases h0 : s.data.toList = [47]
  · have e0 : (s.toList == [47]) = true := by rw [Lib.toList_data, h0]; rfl
    have H0 : Hid (s.data.toList = [47]) := h0
    clear h0
    go_enter Tryz.func70, Tryz.ntmps70
    go_wp2
    go_ret2
    exact said_some (ns := []) (by rw [H0.out]; rfl) rfl ((Ext.refl _).alloc _)
  · have e0 : (s.toList == [47]) = false := by rw [Lib.toList_data]; simpa using h0
    go_enter Tryz.func70, Tryz.ntmps70
    go_wp2_with fail
    refine (l1Cut_any s _ hs).mono ?_
    rintro e w1 ⟨v, ps, rfl, ⟨g, off, cap, rfl, hle, hm, hcell⟩, hc, hb⟩
    have HB : Hid (Ext w w1) := hb
    have HC : Hid (ps.map (·.data.toList) = Pth.cut [] s.data.toList) := hc
    have HL : Hid (∀ j b, ps[j]? = some b → w1.cell? ⟨g, off + j, none⟩ = some (.string b)) := hcell
    clear hb hc hcell
    have hn : ps.length ≤ 25 := by
      have e := Pth.cut_length s.data.toList []
      rw [← HC.out] at e
      have := List.count_le_length (a := (47 : UInt8)) (l := s.data.toList)
      rw [len_eq] at this
      simp only [List.length_map] at e
      omega
    by_cases h1 : ps.length < 2
    · go_wp2
      go_ret2
      exact said_none (names_short HC.out h0 h1) HB.out
    · obtain ⟨p0, hp0⟩ : ∃ p0, ps[0]? = some p0 := ⟨_, List.getElem?_eq_getElem (by omega)⟩
      have hc0 : w1.cell? ⟨g, off, none⟩ = some (.string p0) := HL.out 0 p0 hp0
      have HP : Hid (ps[0]? = some p0) := hp0
      clear hp0
      by_cases h2 : p0.data.toList = []
      · have e2 : p0.toList.isEmpty = true := by rw [Lib.toList_data, h2]; rfl
        have H2 : Hid (p0.data.toList = []) := h2
        clear h2
        go_wp2
        go_loop [5] (fun i => ∃ k : Nat, 1 ≤ k ∧ k ≤ ps.length ∧ i = .int .i64 k ∧ Hid (∀ j b, 1 ≤ j → j < k → ps[j]? = some b → Pth.okName b.data.toList = true)) (fun i => ps.length - (intOf i).toNat)
        case atStart => exact ⟨1, by omega, by omega, rfl, fun j b x y => by omega⟩
        case round =>
          obtain ⟨k, hk1, hk, rfl, HA⟩ := hrel
          by_cases hlt : k < ps.length
          · obtain ⟨b, hb⟩ : ∃ b, ps[k]? = some b := ⟨_, List.getElem?_eq_getElem hlt⟩
            have hck : w1.cell? ⟨g, off + k, none⟩ = some (.string b) := HL.out k b hb
            have hbs : b.size ≤ maxLen := by
              have hm1 : b.data.toList ∈ Pth.cut [] s.data.toList := by
                rw [← HC.out]; exact List.mem_map.2 ⟨b, List.mem_of_getElem? hb, rfl⟩
              have := Pth.cut_mem_len _ _ _ hm1
              rw [len_eq, len_eq] at this
              simp at this
              unfold maxLen; omega
            have HK : Hid (ps[k]? = some b) := hb
            clear hb
            cases hok : Pth.okName b.data.toList
            · go_wp2_with (go_at_call 78; refine (l1Name_any b _ hbs).mono ?_; rintro e w' ⟨rfl, rfl⟩)
              go_ret2
              exact said_none (names_bad HC.out h0 k b hk1 HK.out hok) HB.out
            · have HA2 : Hid (∀ j b, 1 ≤ j → j < k + 1 → ps[j]? = some b → Pth.okName b.data.toList = true) := by
                intro j b' hj1 hj2 hb'
                by_cases hjk : j = k
                · subst hjk; rw [HK.out] at hb'; cases hb'; exact hok
                · exact HA.out j b' hj1 (by omega) hb'
              go_wp2_with (go_at_call 78; refine (l1Name_any b _ hbs).mono ?_; rintro e w' ⟨rfl, rfl⟩)
              exact ⟨⟨k + 1, by omega, by omega, by go_num, HA2⟩, by simp [intOf]; omega⟩
          · have hke : k = ps.length := by omega
            obtain ⟨ns, hns, hnl⟩ := names_good HC.out h0 (by omega) p0 HP.out H2.out (by rw [← hke]; exact HA.out)
            have HN : Hid (Pth.namesS s.data.toList = some ns) := hns
            have HNL : Hid (ns.length = ps.length - 1) := hnl
            clear hke hns hnl
            go_wp2
            go_ret2
            exact said_some HN.out HNL.out HB.out
      · have e2 : p0.toList.isEmpty = false := by rw [Lib.toList_data]; simpa using h2
        go_wp2
        go_ret2
        exact said_none (names_head HC.out h0 p0 HP.out h2) HB.out

set_option maxHeartbeats 1000000 in
theorem l1Fault_any (s : ByteArray) (w : World) :
    Calls Tryz.prog 47 #[.string s] w fun e w' => e = .returned (.int .i64 (Pth.faultS s.data.toList)) ∧ Ext w w' := by
  by_cases h1 : 24 < s.size
  · have hf : Pth.faultS s.data.toList = 2 := by
      unfold Pth.faultS Pth.manyS; rw [len_eq]; simp [h1]
    rw [hf]
    go_enter Tryz.func47, Tryz.ntmps47
    go_wp2
    go_ret
    exact ⟨rfl, Ext.refl _⟩
  · by_cases h0 : s.data.toList = [47]
    · have e0 : (s.toList == [47]) = true := by rw [Lib.toList_data, h0]; rfl
      have hf : Pth.faultS s.data.toList = 0 := by rw [h0]; rfl
      have hn : Pth.namesS s.data.toList = some [] := by rw [h0]; rfl
      have hz : s.size ≤ 24 := by omega
      rw [hf]
      have HN : Hid (Pth.namesS s.data.toList = some []) := hn
      clear h0 hf hn
      go_enter Tryz.func47, Tryz.ntmps47
      go_wp2_with fail
      refine (l1Names_any s _ hz).mono ?_
      rintro e w1 ⟨v, rfl, _, hb⟩
      have HB : Hid (Ext w w1) := hb
      rw [HN.out]
      clear hb
      go_wp2
      go_ret
      exact ⟨rfl, HB.out⟩
    · have e0 : (s.toList == [47]) = false := by rw [Lib.toList_data]; simpa using h0
      have hz : s.size ≤ 24 := by omega
      have HM : Hid (Pth.manyS s.data.toList = decide (5 < (Pth.cut [] s.data.toList).length)) := by
        show _ = _
        unfold Pth.manyS
        rw [len_eq]
        have : decide (24 < s.size) = false := by simpa using h1
        simp [this, h0]
      go_enter Tryz.func47, Tryz.ntmps47
      go_wp2_with fail
      refine (l1Cut_any s _ hz).mono ?_
      rintro e w1 ⟨v, ps, rfl, ⟨g, off, cap, rfl, hle, hm, hcell⟩, hc, hb⟩
      have HB : Hid (Ext w w1) := hb
      have HC : Hid ((Pth.cut [] s.data.toList).length = ps.length) := by show _ = _; rw [← hc]; simp
      clear hb hc hcell
      by_cases h5 : 5 < ps.length
      · have HF : Hid (Pth.faultS s.data.toList = 2) := by
          show _ = _; unfold Pth.faultS; rw [HM.out, HC.out]; simp [h5]
        go_wp2
        go_ret
        exact ⟨ret_int HF.out.symm, HB.out⟩
      · have HF : Hid (Pth.faultS s.data.toList = if (Pth.namesS s.data.toList).isNone then 5 else 0) := by
          show _ = _; unfold Pth.faultS; rw [HM.out, HC.out]; simp [h5]
        go_wp2_with fail
        refine (l1Names_any s _ hz).mono ?_
        rintro e w2 ⟨v, rfl, _, hb⟩
        have HB2 : Hid (Ext w1 w2) := hb
        clear hb
        cases hn : Pth.namesS s.data.toList with
        | none =>
          have HF2 : Hid (Pth.faultS s.data.toList = 5) := by show _ = _; rw [HF.out, hn]; rfl
          clear hn
          rw [Option.isSome_none]
          go_wp2
          go_ret
          exact ⟨ret_int HF2.out.symm, HB.out.trans HB2.out⟩
        | some ns =>
          have HF2 : Hid (Pth.faultS s.data.toList = 0) := by show _ = _; rw [HF.out, hn]; rfl
          clear hn
          rw [Option.isSome_some]
          go_wp2
          go_ret
          exact ⟨ret_int HF2.out.symm, HB.out.trans HB2.out⟩

end Go.Proofs.YtilinjjimiiplaaGreatDoor
namespace Go.Proofs.YtilinjjimiiplaaGreatDoor
open Go.RowKit
theorem last_on (s : ByteArray) (k a : Nat) (h : k < s.size) : Pth.lastSl (s.data.toList.drop k) k a = Pth.lastSl (s.data.toList.drop (k + 1)) (k + 1) (if s[k] = 47 then k else a) := by
  rw [drop_at s k h, Pth.lastSl]
  split <;> rfl

set_option maxHeartbeats 1000000 in
theorem l1Last_any (s : ByteArray) (w : World) (hs : s.size ≤ 24) :
    Calls Tryz.prog 77 #[.string s] w fun e w' => e = .returned (.int .i64 (Pth.lastSl s.data.toList 0 0 : Nat)) ∧ w' = w := by
  go_enter Tryz.func77, Tryz.ntmps77
  go_wp2
  go_loop [3, 4] (fun at_ i => ∃ k a : Nat, k ≤ s.size ∧ i = .int .i64 k ∧ at_ = .int .i64 a ∧ Hid (Pth.lastSl (s.data.toList.drop k) k a = Pth.lastSl s.data.toList 0 0)) (fun _ i => s.size - (intOf i).toNat)
  case atStart => exact ⟨0, 0, Nat.zero_le _, rfl, rfl, rfl⟩
  case round =>
    obtain ⟨k, a, hk, rfl, rfl, HA⟩ := hrel
    by_cases hlt : k < s.size
    · have hon := last_on s k a hlt
      by_cases h47 : s[k] = 47
      · have HB : Hid (Pth.lastSl (s.data.toList.drop (k + 1)) (k + 1) k = Pth.lastSl s.data.toList 0 0) := by
          show _ = _; rw [← HA.out, hon, if_pos h47]
        clear hon
        go_wp2
        exact ⟨⟨k + 1, k, by omega, by go_num, rfl, HB⟩, by simp [intOf]; omega⟩
      · have HB : Hid (Pth.lastSl (s.data.toList.drop (k + 1)) (k + 1) a = Pth.lastSl s.data.toList 0 0) := by
          show _ = _; rw [← HA.out, hon, if_neg h47]
        have e4 : ((s[k].toNat : Int) == 47) = false := by
          rw [beq_eq_false_iff_ne]; intro x; apply h47; apply UInt8.toNat_inj.1; show s[k].toNat = 47; omega
        clear hon
        go_wp2
        exact ⟨⟨k + 1, a, by omega, by go_num, rfl, HB⟩, by simp [intOf]; omega⟩
    · have HB : Hid (a = Pth.lastSl s.data.toList 0 0) := by
        show _ = _; rw [← HA.out, List.drop_of_length_le (by rw [len_eq]; omega)]; rfl
      go_wp2
      go_ret
      exact ⟨ret_int (by rw [← HB.out]), rfl⟩

theorem lastSl_le (l : List UInt8) : Pth.lastSl l 0 0 ≤ l.length := by
  rcases Pth.lastSl_lt l 0 0 with h | h <;> omega

set_option maxHeartbeats 1000000 in
theorem l1Parent_any (s : ByteArray) (w : World) (hs : s.size ≤ 24) :
    Calls Tryz.prog 67 #[.string s] w fun e w' => e = .returned (.string (mkB (if Pth.lastSl s.data.toList 0 0 = 0 then [47] else s.data.toList.take (Pth.lastSl s.data.toList 0 0)))) ∧ w' = w := by
  have hle := lastSl_le s.data.toList
  rw [len_eq] at hle
  have hx : s.extract 0 (Pth.lastSl s.data.toList 0 0) = mkB (s.data.toList.take (Pth.lastSl s.data.toList 0 0)) := eq_mkB (by rw [extract_list]; simp)
  have hl := l1Last_any s
  generalize Pth.lastSl s.data.toList 0 0 = a at *
  have HX : Hid (s.extract 0 a = mkB (s.data.toList.take a)) := hx
  clear hx
  have HL : Hid (∀ w : World, s.size ≤ 24 → Calls Tryz.prog 77 #[.string s] w fun e w' => e = .returned (.int .i64 (a : Nat)) ∧ w' = w) := hl
  clear hl
  by_cases h : a = 0
  · subst h
    go_enter Tryz.func67, Tryz.ntmps67
    go_wp2_with (go_at_call 77; refine (HL.out _ hs).mono ?_; rintro e w' ⟨rfl, rfl⟩)
    go_ret
    exact ⟨rfl, rfl⟩
  · have e1 : ((a : Int) == 0) = false := by simp; omega
    rw [if_neg h]
    go_enter Tryz.func67, Tryz.ntmps67
    go_wp2_with (go_at_call 77; refine (HL.out _ hs).mono ?_; rintro e w' ⟨rfl, rfl⟩)
    go_ret
    refine ⟨?_, rfl⟩
    rw [← HX.out]
    rfl
end Go.Proofs.YtilinjjimiiplaaGreatDoor
