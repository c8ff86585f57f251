/- l2Kids, KidsZ. -/
import Derived.Test.YtlnkheopmagacaaDoorT4
import Derived.Test.YtlnkheopmagacaaDoorZ8
import Derived.Test.YtlnkheopmagacaaDoorS5
namespace Go.Proofs.YtlnkheopmagacaaDoor
open Go.RowKit
namespace Tre
def lastName (p : ByteArray) : ByteArray := p.extract (Pth.lastSl p.data.toList 0 0 + 1) p.size
def isKid (p : ByteArray) (z : Zn) : Bool := !(z.path.toList == [47]) && ((par z.path).toList == p.toList)
def kids (zs : List Zn) (p : ByteArray) : List ByteArray := (zs.filter (isKid p)).map fun z => lastName z.path
theorem kids_snoc {zs : List Zn} {p : ByteArray} {k : Nat} {z : Zn} (hz : zs[k]? = some z) : kids (zs.take (k + 1)) p = kids (zs.take k) p ++ (if isKid p z = true then [lastName z.path] else []) := by
  obtain ⟨hk, he⟩ := List.getElem?_eq_some_iff.1 hz
  unfold kids
  rw [List.take_succ_eq_append_getElem hk, he, List.filter_append, List.map_append]
  congr 1
  by_cases h : isKid p z = true
  · rw [if_pos h, List.filter_cons_of_pos h]; rfl
  · rw [if_neg h, List.filter_cons_of_neg h]; rfl
theorem kids_le (zs : List Zn) (p : ByteArray) : (kids zs p).length ≤ zs.length := by
  unfold kids; rw [List.length_map]; exact List.length_filter_le _ _
end Tre
theorem TOwn.of_row {w : World} {base : Nat} {e : TypeId} {v : Value} {ts : List ByteArray} (h : w.ownsRow base e 1 v ts.length (ts.map Value.string)) : ∃ g, base ≤ g ∧ TOwn w v g ts := by
  rcases h.2 with ⟨hv, h0⟩ | ⟨g, cap, cur, hv, hb, hh, hn, hm, hs, ht⟩
  · exact ⟨base, Nat.le_refl _, none, 0, by rw [hv, h0], by omega, by unfold maxLen; omega, fun h => by omega⟩
  · subst hv
    refine ⟨g, hb, some ⟨g, 0, none⟩, cap, rfl, hn, hm, fun _ => ⟨0, rfl, ⟨?_, fun j hj => ?_⟩, ?_⟩⟩
    · exact (Array.getElem?_eq_some_iff.1 hh).1
    · have hc := h.cellAt j (by omega)
      rw [Nat.zero_add, hc]
      exact ⟨⟨_, List.getElem?_eq_getElem (by rw [List.length_map]; omega)⟩, h.frozenAt j⟩
    · intro i t hz
      have hi := (List.getElem?_eq_some_iff.1 hz).1
      rw [Nat.zero_add, h.cellAt i (by omega), List.getElem?_map, hz]; rfl

set_option maxHeartbeats 2000000 in
set_option maxRecDepth 100000 in
theorem l2Kids_any (v : Value) (zs : List Zn) (p : ByteArray) (w : World) (hS : NSlice w v zs) (hl : zs.length ≤ 1048576) (hf : ∀ z ∈ zs, Pth.faultI z.path.data.toList = 0) :
    Calls Tryd.prog 72 #[v, .string p] w fun e w' => ∃ v' g, e = .returned v' ∧ w.heap.size ≤ g ∧ TOwn w' v' g (Tre.kids zs p) ∧ Ext w w' := by
  have hi9 : (Tryd.prog.info? 9).map (fun i => (i.zero, i.size, i.bytes)) = some (some (.string ByteArray.empty), 1, 16) := by kernel_rfl
  obtain ⟨i0, hi, hx⟩ := Option.map_eq_some_iff.1 hi9
  simp only [Prod.mk.injEq] at hx
  obtain ⟨hz0, hz1, hz2⟩ := hx
  clear hi9
  obtain ⟨a, cap, rfl, hlc, hcm, hx⟩ := hS
  have HX : Hid (0 < zs.length → ∃ b off, a = some ⟨b, off, none⟩ ∧ b < w.heap.size ∧ NodesAt w b off zs) := hx
  have HF : Hid (∀ z ∈ zs, Pth.faultI z.path.data.toList = 0) := hf
  clear hx hf
  unfold maxLen at hcm
  go_enter Tryd.func72, Tryd.ntmps72
  go_wp2
  go_loopw [5, 6] (fun v i wr => ∃ (k : Nat), k ≤ zs.length ∧ i = .int .i64 k ∧ Hid (wr.ownsRow w.heap.size 9 1 v (Tre.kids (zs.take k) p).length ((Tre.kids (zs.take k) p).map Value.string)) ∧ Hid (Ext w wr)) (fun _ i _ => zs.length - (intOf i).toNat)
  case atStart =>
    refine ⟨0, by omega, rfl, ?_, (Ext.refl _).alloc _⟩
    exact World.ownsRow_made w #[] 0 (Nat.le_refl _) (by unfold maxLen; omega) rfl
  case round =>
    obtain ⟨k, hk, rfl, HO, HE⟩ := hrel
    by_cases hlt : k < zs.length
    · obtain ⟨z, hzk⟩ : ∃ z, zs[k]? = some z := ⟨_, List.getElem?_eq_getElem hlt⟩
      obtain ⟨b, off, rfl, hb, hN⟩ := HX.out (by omega)
      obtain ⟨d0, d1, d2, d3, d4⟩ := hN.ext hb HE.out k z hzk
      have hfz := HF.out z (List.mem_of_getElem? hzk)
      have h24 := few_of_ok hfz
      have HK : Hid (Tre.kids (zs.take (k + 1)) p = Tre.kids (zs.take k) p ++ (if Tre.isKid p z = true then [Tre.lastName z.path] else [])) := Tre.kids_snoc hzk
      have hkl : (Tre.kids (zs.take k) p).length ≤ k := by have := Tre.kids_le (zs.take k) p; rw [List.length_take] at this; omega
      have HP : Hid (∀ wx : World, Calls Tryd.prog 48 #[.string z.path] wx fun e w' => e = .returned (.string (Tre.par z.path)) ∧ w' = wx) := fun wx => l1Parent_any z.path wx h24
      have HL : Hid (∀ wx : World, Calls Tryd.prog 58 #[.string z.path] wx fun e w' => e = .returned (.int .i64 (Pth.lastSl z.path.data.toList 0 0 : Nat)) ∧ w' = wx) := fun wx => l1Last_any z.path wx h24
      clear hzk hN d1 d2 d3 d4
      cases ht : (z.path.toList == [47]) with
      | true =>
        have HK2 : Hid (Tre.kids (zs.take (k + 1)) p = Tre.kids (zs.take k) p) := by
          show _ = _
          rw [HK.out, if_neg]; · simp
          unfold Tre.isKid; rw [ht]; simp
        go_wp2
        refine ⟨⟨k + 1, by omega, by go_num, ?_, HE.out⟩, by simp [intOf]; omega⟩
        show World.ownsRow _ _ _ _ _ _ _
        rw [HK2.out]; exact HO.out
      | false =>
        have hll := lastSl_le2 z.path hfz ht
        cases hp : ((Tre.par z.path).toList == p.toList) with
        | false =>
          have HK2 : Hid (Tre.kids (zs.take (k + 1)) p = Tre.kids (zs.take k) p) := by
            show _ = _
            rw [HK.out, if_neg]; · simp
            unfold Tre.isKid; rw [hp]; simp
          go_wp2_with fail
          refine (HP.out _).mono ?_
          rintro e w3 ⟨rfl, rfl⟩
          go_wp2
          refine ⟨⟨k + 1, by omega, by go_num, ?_, HE.out⟩, by simp [intOf]; omega⟩
          show World.ownsRow _ _ _ _ _ _ _
          rw [HK2.out]; exact HO.out
        | true =>
          have HK2 : Hid (Tre.kids (zs.take (k + 1)) p = Tre.kids (zs.take k) p ++ [Tre.lastName z.path]) := by
            show _ = _
            rw [HK.out, if_pos]
            unfold Tre.isKid; rw [hp, ht]; simp
          go_wp2_with fail
          refine (HP.out _).mono ?_
          rintro e w3 ⟨rfl, rfl⟩
          go_wp2_with fail
          refine (HL.out _).mono ?_
          rintro e w3 ⟨rfl, rfl⟩
          go_wp2_with (at_builtin; go_must (refine wpList_append_own _ rfl _ _ 75 rfl w.heap.size 9 i0 (.string ByteArray.empty) 1 16 Tryd.underlying75 hi hz0 hz1 hz2 rfl (by decide) _ _ _ rfl (HO.out.alloc _) ⟨w3.heap.size, 0, none⟩ 1 1 [.string (z.path.extract (Pth.lastSl z.path.data.toList 0 0 + 1) z.path.size)] rfl rfl (cell_one_new _ _ _) (fun x hx => by simp at hx; subst hx; rfl) (by unfold maxLen; omega) (by omega) (by have := HE.out.size; simp; omega) ?_; intro v' w4 hown' hgrow3 hnil3))
          refine ⟨⟨k + 1, by omega, by go_num, ?_, Below.grown (HE.out.alloc _) hgrow3 (by have := HE.out.size; simp; omega) (fun q hq => (HO.out.lt q hq).1)⟩, by simp [intOf]; omega⟩
          show w4.ownsRow _ _ _ _ _ _
          rw [HK2.out, List.map_append, List.length_append]
          exact hown'
    · have hke : k = zs.length := by omega
      subst hke
      obtain ⟨g, hg, hT⟩ := TOwn.of_row HO.out
      rw [List.take_length] at hT
      have HT : Hid (w.heap.size ≤ g ∧ TOwn wr u5 g (Tre.kids zs p)) := ⟨hg, hT⟩
      clear hg hT
      go_wp2
      go_ret
      exact ⟨_, g, rfl, HT.out.1, HT.out.2, HE.out⟩
namespace Tre
def kidsV (zs : List Zn) (p : ByteArray) : Int × List ByteArray := if asked zs p ≠ 0 then (asked zs p, []) else if atI zs p < 0 then (4, []) else (0, kids zs p)
theorem kidsV_bad {zs : List Zn} {p : ByteArray} {c : Int} (h : asked zs p = c) (h0 : c ≠ 0) : kidsV zs p = (c, []) := by unfold kidsV; rw [h, if_pos h0]
theorem kidsV_none {zs : List Zn} {p : ByteArray} (h : asked zs p = 0) (h0 : atI zs p < 0) : kidsV zs p = (4, []) := by unfold kidsV; rw [h, if_neg (by simp), if_pos h0]
theorem kidsV_ok {zs : List Zn} {p : ByteArray} (h : asked zs p = 0) (h0 : ¬ atI zs p < 0) : kidsV zs p = (0, kids zs p) := by unfold kidsV; rw [h, if_neg (by simp), if_neg h0]
end Tre
theorem town_none (w : World) (g : Nat) : TOwn w (.slice none 0 0) g [] := ⟨none, 0, rfl, Nat.le_refl _, by unfold maxLen; omega, fun h => by simp at h⟩
/-- Block r holds a TextsResult that nobody has written yet, and may be written. -/
def XBox (w : World) (r : Nat) : Prop :=
  r < w.heap.size ∧ w.cell? ⟨r, 0, none⟩ = some (.int .i64 0) ∧ w.cell? ⟨r, 1, none⟩ = some (.slice none 0 0) ∧ w.frozen? ⟨r, 0, none⟩ = false ∧ w.frozen? ⟨r, 1, none⟩ = false
theorem XBox.new (w : World) (t : TypeId) : XBox (w.alloc (.cells #[.int .i64 0, .slice none 0 0] t)) w.heap.size := ⟨by simp, by simp, by simp, by simp, by simp⟩
theorem XBox.ext {w w2 : World} {r : Nat} (h : XBox w r) (he : Ext w w2) : XBox w2 r := by
  obtain ⟨hc, hf⟩ := Ext.cell he
  obtain ⟨h1, h2, h3, h5, h6⟩ := h
  exact ⟨Nat.lt_of_lt_of_le h1 he.size, (hc _ _ h1).trans h2, (hc _ _ h1).trans h3, (hf _ _ h1).trans h5, (hf _ _ h1).trans h6⟩
theorem Ext.box2 {w w2 : World} (h : Ext w w2) (a b : Value) : Ext w ((w2.setCell ⟨w.heap.size, 0, none⟩ a).setCell ⟨w.heap.size, 1, none⟩ b) :=
  (h.setCell (p := ⟨w.heap.size, 0, none⟩) (Nat.le_refl _) a).setCell (p := ⟨w.heap.size, 1, none⟩) (Nat.le_refl _) b
theorem xret_bad {w w' : World} (c : Int) (h : Ext w w') : XRet w c [] (.returned (xr c (.slice none 0 0))) w' := ⟨_, w.heap.size, rfl, Nat.le_refl _, town_none _ _, h⟩
theorem xret_own {w w4 : World} {v : Value} {g : Nat} {rs : List ByteArray} (c : Int) (hO : TOwn w4 v g rs) (hg : w.heap.size + 1 ≤ g) (h : Ext w w4) (x y : Value) :
    XRet w c rs (.returned (xr c v)) ((w4.setCell ⟨w.heap.size, 0, none⟩ x).setCell ⟨w.heap.size, 1, none⟩ y) :=
  ⟨v, g, rfl, by omega, hO.upd' (((Upd.refl _ _).setAt 0 x).setAt 1 y) (fun _ => by omega), h.box2 _ _⟩

end Go.Proofs.YtlnkheopmagacaaDoor
