/- I4, I5, in one text. -/
import Derived.Test.YtilinjjimiiplaaGreatDoorKqJ13
namespace Go.Proofs.YtilinjjimiiplaaGreatDoor
open Go.RowKit
set_option maxHeartbeats 1000000 in
theorem findNode_miss (v : Value) (zs : List Zn) (p : ByteArray) (w : World) (hS : NSlice w v zs) (hU : Tre.Up zs) (hl : zs.length ≤ 1048576) (hh : Tre.has zs p = false) :
    Calls Tryz.prog 72 #[v, .string p] w fun e w' => e = .returned (.pointer none) ∧ Ext w w' := by
  have HL : Hid (∀ wx : World, Ext w wx → Calls Tryz.prog 17 #[v, .string p] wx fun e w' => e = .returned (.tuple #[.int .i64 (Tre.cut zs p.data.toList : Nat), .bool (Tre.has zs p)]) ∧ Ext wx w') := fun wx h => placeOf_any _ zs p wx (hS.ext h) hU hl
  obtain ⟨a, cap, rfl, -⟩ := hS
  rw [hh] at HL
  clear hU
  generalize Tre.cut zs p.data.toList = k at *
  go_enter Tryz.func72, Tryz.ntmps72
  go_wp2_with fail
  refine (HL.out _ (Ext.refl _)).mono ?_
  rintro e w2 ⟨rfl, hb⟩
  have HB : Hid (Ext w w2) := hb
  clear hb
  go_wp2
  go_ret
  exact ⟨rfl, HB.out⟩

namespace Tre
def hangC (zs : List Zn) : Int := if atI zs top < 0 then 4 else if first (parC zs) zs.length ≠ 0 then first (parC zs) zs.length else first (ownC zs) zs.length
theorem fault_eq {zs : List Zn} (h20 : ¬ 20 < zs.length) (h : ∀ j, j < zs.length → nodeC zs j = 0) : fault zs = hangC zs := by
  unfold fault hangC; rw [if_neg h20, first_none h, if_neg (by simp)]
theorem par_top {p : ByteArray} (h : p.data.toList = [47]) : par p = top := by
  unfold par; rw [h]; rfl
theorem hang_par {zs : List Zn} {k : Nat} {z : Zn} (ht : ¬ atI zs top < 0) (hk : zs[k]? = some z) (h0 : ∀ j, j < k → parC zs j = 0) (hn : has zs (par z.path) = false) : hangC zs = 4 := by
  have h4 : parC zs k = 4 := by rw [parC_eq hk, if_pos (has_not hn)]
  have := first_hit (f := parC zs) (List.getElem?_eq_some_iff.1 hk).1 h0 (by rw [h4]; decide)
  unfold hangC; rw [if_neg ht, this, h4, if_pos (by decide)]
theorem own_cases (zs : List Zn) (j : Nat) : ownC zs j = 0 ∨ ownC zs j = 1 := by
  unfold ownC
  split
  · exact .inl rfl
  · split
    · exact .inl rfl
    · split
      · exact .inr rfl
      · exact .inl rfl
theorem first_own (zs : List Zn) : ∀ n, (first (ownC zs) n = 0 ∧ ∀ j, j < n → ownC zs j = 0) ∨ (first (ownC zs) n = 1 ∧ ∃ j, j < n ∧ ownC zs j ≠ 0) := by
  intro n
  induction n with
  | zero => exact .inl ⟨rfl, fun j h => by omega⟩
  | succ n ih =>
    rcases ih with ⟨h1, h2⟩ | ⟨h1, j, hj, h2⟩
    · rcases own_cases zs n with h3 | h3
      · left
        refine ⟨by rw [first, h1, if_neg (by simp), h3], fun j hj => ?_⟩
        by_cases hjn : j = n
        · subst hjn; exact h3
        · exact h2 j (by omega)
      · right
        exact ⟨by rw [first, h1, if_neg (by simp), h3], n, by omega, by rw [h3]; decide⟩
    · right
      exact ⟨by rw [first, h1, if_pos (by decide)], j, by omega, h2⟩
theorem hang_end {zs : List Zn} {k0 : Nat} {zt : Zn} {ow : Bool} (ht : atI zs top = k0) (hz : zs[k0]? = some zt) (hp : ∀ j, j < zs.length → parC zs j = 0) (ho : ow = true ↔ (zt.owner ≠ 0 ∨ ∃ j, j < zs.length ∧ ownC zs j ≠ 0)) (hkey : zt.path.data.toList = [47]) : hangC zs = if ow = true then 1 else 0 := by
  have hz0 : ownC zs k0 = if zt.owner ≠ 0 then 1 else 0 := ownC_eq hz (by rw [par_top hkey]; exact ht) hz
  unfold hangC
  rw [if_neg (by omega), first_none hp, if_neg (by simp)]
  rcases first_own zs zs.length with ⟨h1, h2⟩ | ⟨h1, h2⟩
  · rw [h1, if_neg]
    rw [ho]
    rintro (h | ⟨j, hj, hne⟩)
    · have := h2 k0 (List.getElem?_eq_some_iff.1 hz).1
      rw [hz0, if_pos h] at this; cases this
    · exact hne (h2 j hj)
  · rw [h1, if_pos (ho.2 (.inr h2))]
end Tre
set_option maxHeartbeats 2000000 in
set_option maxRecDepth 100000 in
theorem hangFault_any (v : Value) (zs : List Zn) (w : World) (hg : Gd w) (hS : NSlice w v zs) (hl : zs.length ≤ 20) (hN : ∀ j, j < zs.length → Tre.nodeC zs j = 0) :
    Calls Tryz.prog 52 #[v] w fun e w' => e = .returned (.int .i64 (Tre.hangC zs)) ∧ Ext w w' := by
  have hU : Tre.Up zs := Tre.up_of_nodes hN
  cases hh : Tre.has zs Tre.top with
  | false =>
    have HL : Hid (∀ wx : World, Ext w wx → Calls Tryz.prog 72 #[v, .string ⟨#[47]⟩] wx fun e w' => e = .returned (.pointer none) ∧ Ext wx w') := fun wx h => findNode_miss v zs _ wx (hS.ext h) hU (by omega) hh
    obtain ⟨a, cap, rfl, -⟩ := hS
    rw [show Tre.hangC zs = 4 from by unfold Tre.hangC; rw [if_pos (Tre.has_not hh)]]
    clear hh hU hN
    go_enter Tryz.func52, Tryz.ntmps52
    go_wp2_with fail
    refine (HL.out _ (Ext.refl _)).mono ?_
    rintro e w2 ⟨rfl, hb⟩
    have HB : Hid (Ext w w2) := hb
    clear hb
    go_wp2
    go_ret
    exact ⟨rfl, HB.out⟩
  | true =>
    have HS : Hid (NSlice w v zs) := hS
    have HG : Hid (Gd w) := hg
    have HU : Hid (Tre.Up zs) := hU
    have HN : Hid (∀ j, j < zs.length → Tre.nodeC zs j = 0) := hN
    obtain ⟨zt, ht, hzt, hkey⟩ := Tre.has_at hU hh
    obtain ⟨a, cap, rfl, hlc, hcm, hx⟩ := hS
    have hkl := (List.getElem?_eq_some_iff.1 hzt).1
    obtain ⟨b, off, rfl, hb, hNo⟩ := hx (by omega)
    have HX : Hid (b < w.heap.size ∧ NodesAt w b off zs) := ⟨hb, hNo⟩
    have HL : Hid (∀ wx : World, Ext w wx → Calls Tryz.prog 72 #[.slice (some ⟨b, off, none⟩) zs.length cap, .string ⟨#[47]⟩] wx fun e w' => e = .returned (.pointer (some ⟨b, off + Tre.cut zs Tre.top.data.toList * 5, none⟩)) ∧ Ext wx w') := fun wx h => by
      have := findNode_any b off cap zs Tre.top wx (HS.out.ext h) hU (by omega)
      rw [ptrV_hit hh rfl] at this
      exact this
    have HP : Hid (∀ (wx : World) (z : Zn), Ext w wx → z ∈ zs → ¬ z.path.data.toList = [47] → Calls Tryz.prog 73 #[.slice (some ⟨b, off, none⟩) zs.length cap, .string z.path] wx fun e w' => e = .returned (ptrV b off zs (Tre.par z.path)) ∧ Ext wx w') := fun wx z h hz hne => by
      obtain ⟨j, hj⟩ := List.getElem?_of_mem hz
      exact findParent_any b off cap zs z.path wx (HG.out.ext h) (Tre.nodeC_ok hj (HN.out j (List.getElem?_eq_some_iff.1 hj).1)).1 hne (HS.out.ext h) HU.out (by omega)
    generalize Tre.cut zs Tre.top.data.toList = k0 at *
    have HT : Hid (Tre.atI zs Tre.top = k0 ∧ zs[k0]? = some zt ∧ zt.path.data.toList = [47]) := ⟨ht, hzt, hkey⟩
    generalize hR : Tre.hangC zs = R
    have HR : Hid (Tre.hangC zs = R) := hR
    clear ht hzt hkey hh hU hN hb hNo hx hg hR
    unfold maxLen at hcm
    go_enter Tryz.func52, Tryz.ntmps52
    go_wp2_with fail
    refine (HL.out _ (Ext.refl _)).mono ?_
    rintro e w2 ⟨rfl, hb⟩
    have HB : Hid (Ext w w2) := hb
    have HD : Hid (w2.cell? ⟨b, off + k0 * 5 + 3, none⟩ = some (.int .i64 zt.owner)) := (HX.out.2.ext HX.out.1 hb k0 zt HT.out.2.1).2.2.2.1
    clear hb
    generalize off + k0 * 5 = o0 at *
    have hd := HD.out
    clear HD
    go_wp2
    go_loopw [18, 4] (fun i o wr => ∃ (k : Nat) (ow : Bool), k ≤ zs.length ∧ i = .int .i64 k ∧ o = .bool ow ∧ Hid (∀ j, j < k → Tre.parC zs j = 0) ∧ Hid (ow = true ↔ (zt.owner ≠ 0 ∨ ∃ j, j < k ∧ Tre.ownC zs j ≠ 0)) ∧ Hid (Ext w wr)) (fun i _ _ => zs.length - (intOf i).toNat)
    case atStart => exact ⟨0, _, Nat.zero_le _, rfl, rfl, fun j h => by omega, (by show _ ↔ _; simp), HB.out⟩
    case round =>
      obtain ⟨k, ow, hk, rfl, rfl, HA, HO, HE⟩ := hrel
      by_cases hlt : k < zs.length
      · obtain ⟨z, hzk⟩ : ∃ z, zs[k]? = some z := ⟨_, List.getElem?_eq_getElem hlt⟩
        obtain ⟨d0, -, -, -, -⟩ := HX.out.2.ext HX.out.1 HE.out k z hzk
        have HZ : Hid (zs[k]? = some z) := hzk
        clear hzk
        by_cases htop : z.path.data.toList = [47]
        · have he : (z.path.toList == [47]) = true := by rw [beq_top, htop]; rfl
          have HPk : Hid (Tre.parC zs k = 0) := by
            show _ = _
            rw [Tre.parC_eq HZ.out, Tre.par_top htop, HT.out.1, if_neg (by omega)]
          have HOk : Hid (Tre.ownC zs k = if zt.owner ≠ 0 then 1 else 0) := Tre.ownC_eq HZ.out (by rw [Tre.par_top htop]; exact HT.out.1) HT.out.2.1
          have HA2 : Hid (∀ j, j < k + 1 → Tre.parC zs j = 0) := by
            intro j hj
            by_cases hjk : j = k
            · subst hjk; exact HPk.out
            · exact HA.out j (by omega)
          have HO2 : Hid (ow = true ↔ (zt.owner ≠ 0 ∨ ∃ j, j < k + 1 ∧ Tre.ownC zs j ≠ 0)) := by
            show _ ↔ _
            rw [HO.out]
            constructor
            · rintro (h | ⟨j, hj, hne⟩)
              · exact .inl h
              · exact .inr ⟨j, by omega, hne⟩
            · rintro (h | ⟨j, hj, hne⟩)
              · exact .inl h
              · by_cases hjk : j = k
                · subst hjk
                  rw [HOk.out] at hne
                  by_cases hz : zt.owner ≠ 0
                  · exact .inl hz
                  · rw [if_neg hz] at hne; exact absurd rfl hne
                · exact .inr ⟨j, by omega, hne⟩
          go_wp2
          exact ⟨⟨k + 1, ow, by omega, by go_num, rfl, HA2, HO2, HE⟩, by simp [intOf]; omega⟩
        · have he : (z.path.toList == [47]) = false := by rw [beq_top]; exact decide_eq_false htop
          have HPz : Hid (Calls Tryz.prog 73 #[.slice (some ⟨b, off, none⟩) zs.length cap, .string z.path] wr fun e w' => e = .returned (ptrV b off zs (Tre.par z.path)) ∧ Ext wr w') := HP.out wr z HE.out (List.mem_of_getElem? HZ.out) htop
          cases hpp : Tre.has zs (Tre.par z.path) with
          | false =>
            rw [ptrV_miss hpp] at HPz
            have HF : Hid (R = 4) := HR.out.symm.trans (Tre.hang_par (by rw [HT.out.1]; omega) HZ.out HA.out hpp)
            clear htop hpp
            go_wp2_with fail
            refine HPz.out.mono ?_
            rintro e w3 ⟨rfl, hb⟩
            have HE3 : Hid (Ext w w3) := HE.out.trans hb
            clear hb
            go_wp2
            go_ret
            exact ⟨ret_int HF.out.symm, HE3.out⟩
          | true =>
            obtain ⟨y, hat, hy, -⟩ := Tre.has_at HU.out hpp
            rw [ptrV_hit hpp rfl] at HPz
            generalize Tre.cut zs (Tre.par z.path).data.toList = kp at *
            have HY : Hid (zs[kp]? = some y) := hy
            have HOk : Hid (Tre.ownC zs k = if y.owner ≠ 0 then 1 else 0) := Tre.ownC_eq HZ.out hat hy
            have HPk : Hid (Tre.parC zs k = 0) := by
              show _ = _
              rw [Tre.parC_eq HZ.out, hat, if_neg (by omega)]
            have HA2 : Hid (∀ j, j < k + 1 → Tre.parC zs j = 0) := by
              intro j hj
              by_cases hjk : j = k
              · subst hjk; exact HPk.out
              · exact HA.out j (by omega)
            have HO2 : Hid ((ow || (y.owner != 0)) = true ↔ (zt.owner ≠ 0 ∨ ∃ j, j < k + 1 ∧ Tre.ownC zs j ≠ 0)) := by
              show _ ↔ _
              rw [Bool.or_eq_true, HO.out]
              constructor
              · rintro ((h | ⟨j, hj, hne⟩) | h)
                · exact .inl h
                · exact .inr ⟨j, by omega, hne⟩
                · exact .inr ⟨k, by omega, by rw [HOk.out, if_pos (by simpa using h)]; decide⟩
              · rintro (h | ⟨j, hj, hne⟩)
                · exact .inl (.inl h)
                · by_cases hjk : j = k
                  · subst hjk
                    rw [HOk.out] at hne
                    by_cases hz : y.owner ≠ 0
                    · exact .inr (by simpa using hz)
                    · rw [if_neg hz] at hne; exact absurd rfl hne
                  · exact .inl (.inr ⟨j, by omega, hne⟩)
            clear htop hpp hat hy
            go_wp2_with fail
            refine HPz.out.mono ?_
            rintro e w3 ⟨rfl, hb⟩
            have HE3 : Hid (Ext w w3) := HE.out.trans hb
            have HD3 : Hid (w3.cell? ⟨b, off + kp * 5 + 3, none⟩ = some (.int .i64 y.owner)) := (HX.out.2.ext HX.out.1 HE3.out kp y HY.out).2.2.2.1
            clear hb d0
            generalize off + kp * 5 = op at *
            have d3 := HD3.out
            clear HD3
            cases ow with
            | true =>
              rw [Bool.true_or] at HO2
              go_wp2
              exact ⟨⟨k + 1, true, by omega, by go_num, rfl, HA2, ⟨fun _ => HO2.out.1 trivial, fun _ => rfl⟩, HE3⟩, by simp [intOf]; omega⟩
            | false =>
              rw [Bool.false_or] at HO2
              go_wp2
              exact ⟨⟨k + 1, _, by omega, by go_num, rfl, HA2, HO2, HE3⟩, by simp [intOf]; omega⟩
      · have hke : k = zs.length := by omega
        subst hke
        have HF : Hid (R = if ow = true then 1 else 0) := HR.out.symm.trans (Tre.hang_end HT.out.1 HT.out.2.1 HA.out HO.out HT.out.2.2)
        cases ow with
        | true =>
          go_wp2
          go_ret
          exact ⟨ret_int HF.out.symm, HE.out⟩
        | false =>
          go_wp2
          go_ret
          exact ⟨ret_int HF.out.symm, HE.out⟩
end Go.Proofs.YtilinjjimiiplaaGreatDoor
namespace Go.Proofs.YtilinjjimiiplaaGreatDoor
open Go.RowKit
set_option maxHeartbeats 2000000 in
set_option maxRecDepth 100000 in
theorem implTreeFault_any (v : Value) (zs : List Zn) (w : World) (hg : Gd w) (hS : NSlice w v zs) :
    Calls Tryz.prog 26 #[v] w fun e w' => e = .returned (.int .i64 (Tre.fault zs)) ∧ Ext w w' := by
  have HS : Hid (NSlice w v zs) := hS
  have HG : Hid (Gd w) := hg
  obtain ⟨a, cap, rfl, hlc, hcm, hx⟩ := hS
  have HX : Hid (0 < zs.length → ∃ b off, a = some ⟨b, off, none⟩ ∧ b < w.heap.size ∧ NodesAt w b off zs) := hx
  clear hx hg
  unfold maxLen at hcm
  by_cases h20 : 20 < zs.length
  · rw [Tre.fault_many h20]
    go_enter Tryz.func26, Tryz.ntmps26
    go_wp2
    go_ret
    exact ⟨rfl, Ext.refl _⟩
  obtain ⟨F, hF⟩ : ∃ F, F = Tre.fault zs := ⟨_, rfl⟩
  have HF : Hid (F = Tre.fault zs) := hF
  rw [← hF]
  clear hF
  have H20 : Hid (¬ 20 < zs.length) := h20
  have HH : Hid (∀ wx : World, Ext w wx → (∀ j, j < zs.length → Tre.nodeC zs j = 0) → Calls Tryz.prog 52 #[.slice a zs.length cap] wx fun e w' => e = .returned (.int .i64 F) ∧ Ext wx w') := fun wx h hn => by
    have := hangFault_any _ zs wx (HG.out.ext h) (HS.out.ext h) (by have := H20.out; omega) hn
    rw [← Tre.fault_eq (by have := H20.out; omega) hn, ← HF.out] at this
    exact this
  go_enter Tryz.func26, Tryz.ntmps26
  go_wp2
  go_loopw [11, 3] (fun i ah wr => ∃ (k : Nat) (q : Option Addr), k ≤ zs.length ∧ i = .int .i64 k ∧ ah = .pointer q ∧ Hid ((k = 0 ∧ q = none) ∨ ∃ m b off, k = m + 1 ∧ a = some ⟨b, off, none⟩ ∧ q = some ⟨b, off + m * 5, none⟩) ∧ Hid (∀ j, j < k → Tre.nodeC zs j = 0) ∧ Hid (Ext w wr)) (fun i _ _ => zs.length - (intOf i).toNat)
  case atStart => exact ⟨0, none, Nat.zero_le _, rfl, rfl, .inl ⟨rfl, rfl⟩, fun j h => by omega, Ext.refl _⟩
  case round =>
    obtain ⟨k, q, hk, rfl, rfl, HQ, HA, HE⟩ := hrel
    by_cases hlt : k < zs.length
    · obtain ⟨z, hzk⟩ : ∃ z, zs[k]? = some z := ⟨_, List.getElem?_eq_getElem hlt⟩
      obtain ⟨b, off, rfl, hb, hN⟩ := HX.out (by omega)
      have HC := nodeFault_any b off k zs z q wr (HG.out.ext HE.out) (Nat.lt_of_lt_of_le hb HE.out.size) (hN.ext hb HE.out) hzk (by
        rcases HQ.out with h | ⟨m, b', off', h1, h2, h3⟩
        · exact .inl h
        · injection h2 with h2; injection h2 with h4 h5; subst h4; subst h5; exact .inr ⟨m, h1, h3⟩)
      obtain ⟨c, hc⟩ : ∃ c, c = Tre.nodeC zs k := ⟨_, rfl⟩
      rw [← hc] at HC
      have HC1 : Hid (Calls Tryz.prog 51 #[.pointer (some ⟨b, off + k * 5, none⟩), .pointer q] wr fun e w' => e = .returned (.int .i64 c) ∧ Ext wr w') := HC
      have HCC : Hid (c = Tre.nodeC zs k) := hc
      clear HC hc hN hzk
      by_cases hc0 : c ≠ 0
      · have HR : Hid (F = c) := by
          show _ = _
          rw [HF.out]
          exact Tre.fault_node H20.out (by rw [HCC.out]; exact Tre.first_hit hlt HA.out (by rw [← HCC.out]; exact hc0)) hc0
        go_wp2_with fail
        refine HC1.out.mono ?_
        rintro e w2 ⟨rfl, hb2⟩
        have HE2 : Hid (Ext w w2) := HE.out.trans hb2
        clear hb2
        go_wp2
        go_ret
        exact ⟨ret_int HR.out.symm, HE2.out⟩
      · have hc1 : c = 0 := by omega
        subst hc1
        clear hc0
        have HA2 : Hid (∀ j, j < k + 1 → Tre.nodeC zs j = 0) := by
          intro j hj
          by_cases hjk : j = k
          · subst hjk; exact HCC.out.symm
          · exact HA.out j (by omega)
        go_wp2_with fail
        refine HC1.out.mono ?_
        rintro e w2 ⟨rfl, hb2⟩
        have HE2 : Hid (Ext w w2) := HE.out.trans hb2
        clear hb2
        go_wp2
        exact ⟨⟨k + 1, _, by omega, by go_num, rfl, .inr ⟨k, b, off, rfl, rfl, rfl⟩, HA2, HE2⟩, by simp [intOf]; omega⟩
    · have HC1 : Hid (Calls Tryz.prog 52 #[.slice a zs.length cap] wr fun e w' => e = .returned (.int .i64 F) ∧ Ext wr w') := HH.out wr HE.out (fun j hj => HA.out j (by omega))
      go_wp2_with fail
      refine HC1.out.mono ?_
      rintro e w2 ⟨rfl, hb2⟩
      have HE2 : Hid (Ext w w2) := HE.out.trans hb2
      clear hb2
      go_wp2
      go_ret
      exact ⟨rfl, HE2.out⟩

set_option maxHeartbeats 1000000 in
theorem treeOrPath_any (v : Value) (zs : List Zn) (p : ByteArray) (w : World) (hg : Gd w) (hS : NSlice w v zs) :
    Calls Tryz.prog 16 #[v, .string p] w fun e w' => e = .returned (.int .i64 (Tre.asked zs p)) ∧ Ext w w' := by
  have HL : Hid (Calls Tryz.prog 26 #[v] w fun e w' => e = .returned (.int .i64 (Tre.fault zs)) ∧ Ext w w') := implTreeFault_any v zs w hg hS
  obtain ⟨a, cap, rfl, -⟩ := hS
  have HP : Hid (∀ wx : World, Ext w wx → Calls Tryz.prog 34 #[.string p] wx fun e w' => e = .returned (.int .i64 (Pth.faultI p.data.toList)) ∧ Ext wx w') := fun wx h => pathFault_any p wx (hg.ext h)
  by_cases h0 : Tre.fault zs ≠ 0
  · rw [show Tre.asked zs p = Tre.fault zs from by unfold Tre.asked; rw [if_pos h0]]
    generalize Tre.fault zs = F at *
    go_enter Tryz.func16, Tryz.ntmps16
    go_wp2_with fail
    refine HL.out.mono ?_
    rintro e w2 ⟨rfl, hb⟩
    have HB : Hid (Ext w w2) := hb
    clear hb
    go_wp2
    go_ret
    exact ⟨rfl, HB.out⟩
  · rw [show Tre.asked zs p = Pth.faultI p.data.toList from by unfold Tre.asked; rw [if_neg h0]]
    rw [show Tre.fault zs = 0 from by omega] at HL
    go_enter Tryz.func16, Tryz.ntmps16
    go_wp2_with fail
    refine HL.out.mono ?_
    rintro e w2 ⟨rfl, hb⟩
    have HB : Hid (Ext w w2) := hb
    clear hb
    go_wp2_with fail
    refine (HP.out _ HB.out).mono ?_
    rintro e w3 ⟨rfl, hb⟩
    have HB3 : Hid (Ext w w3) := HB.out.trans hb
    clear hb
    go_wp2
    go_ret
    exact ⟨rfl, HB3.out⟩
end Go.Proofs.YtilinjjimiiplaaGreatDoor
