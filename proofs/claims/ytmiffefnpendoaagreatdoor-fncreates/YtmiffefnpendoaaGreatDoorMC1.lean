/- Z6, Z7, Z8, S5, T5, I11, T6, T7, S6, T8, T9, V1, V2, in one text. -/
import Derived.Test.YtmiffefnpendoaaGreatDoorZ5
import Derived.Test.YtmiffefnpendoaaGreatDoorS4
import Derived.Test.YtmiffefnpendoaaGreatDoorT4
import Derived.Test.YtmiffefnpendoaaGreatDoorI7
import Derived.Laws.IdiomCopy
import Derived.Deep.RegionLaw
import Derived.Lib.SliceRun
import Derived.Test.YtmiffefnpendoaaGreatDoorQ1
import Derived.Test.YtmiffefnpendoaaGreatDoorS1
import Derived.Test.YtmiffefnpendoaaGreatDoorConv
import Derived.Test.YtmiffefnpendoaaGreatDoorProg
import Derived.Test.YtmiffefnpendoaaGreatDoorBase
import Derived.Deep.RegionWith
import Derived.Laws.MakeOwn
/- the exact laws TreeFault, SameTrees and NewTree, walked, out of what the function and its specification answer. -/
namespace Go.Proofs.YtmiffefnpendoaaGreatDoor
open Go.RowKit

end Go.Proofs.YtmiffefnpendoaaGreatDoor

/- the laws' small functions over texts in slices. -/
namespace Go.Proofs.YtmiffefnpendoaaGreatDoor
open Go.RowKit

def TextsAt (w : World) (b off : Nat) (ts : List ByteArray) : Prop := ∀ (i : Nat) t, ts[i]? = some t → w.cell? ⟨b, off + i, none⟩ = some (.string t)
theorem TextsAt.ext {w w' : World} {b off : Nat} {ts : List ByteArray} (h : TextsAt w b off ts) (hb : b < w.heap.size) (he : Ext w w') : TextsAt w' b off ts :=
  fun i t ht => ((Ext.cell he).1 _ _ hb).trans (h i t ht)
theorem TextsAt.upd {w w' : World} {g off b : Nat} {ts : List ByteArray} (h : TextsAt w g off ts) (he : Upd b w w') (hne : g ≠ b) (hg : g < w.heap.size) : TextsAt w' g off ts :=
  fun i t ht => (he.at_ne _ _ hne hg).1.trans (h i t ht)
/-- The slice value v reads as the texts ts. -/
def TSlice (w : World) (v : Value) (ts : List ByteArray) : Prop :=
  ∃ a cap, v = .slice a ts.length cap ∧ ts.length ≤ cap ∧ cap ≤ maxLen ∧ (0 < ts.length → ∃ b off, a = some ⟨b, off, none⟩ ∧ b < w.heap.size ∧ TextsAt w b off ts)
theorem TSlice.ext {w w' : World} {v : Value} {ts : List ByteArray} (h : TSlice w v ts) (he : Ext w w') : TSlice w' v ts := by
  obtain ⟨a, cap, h1, h2, h3, h4⟩ := h
  refine ⟨a, cap, h1, h2, h3, fun h0 => ?_⟩
  obtain ⟨b, off, e, hb, hN⟩ := h4 h0
  exact ⟨b, off, e, Nat.lt_of_lt_of_le hb he.size, hN.ext hb he⟩
/-- Block g holds room for n texts from off on, and may be written there. -/
def TRoom (w : World) (g off n : Nat) : Prop := g < w.heap.size ∧ ∀ j, j < n → (∃ u, w.cell? ⟨g, off + j, none⟩ = some u) ∧ w.frozen? ⟨g, off + j, none⟩ = false
theorem TRoom.ext {w w' : World} {g off n : Nat} (h : TRoom w g off n) (he : Ext w w') : TRoom w' g off n := by
  obtain ⟨hc, hf⟩ := Ext.cell he
  exact ⟨Nat.lt_of_lt_of_le h.1 he.size, fun j hj => ⟨by rw [hc _ _ h.1]; exact (h.2 j hj).1, by rw [hf _ _ h.1]; exact (h.2 j hj).2⟩⟩
theorem TRoom.upd {w w' : World} {g off n b : Nat} (h : TRoom w g off n) (he : Upd b w w') (hne : g ≠ b) : TRoom w' g off n :=
  ⟨Nat.lt_of_lt_of_le h.1 he.2.1, fun j hj => ⟨by rw [(he.at_ne _ _ hne h.1).1]; exact (h.2 j hj).1, by rw [(he.at_ne _ _ hne h.1).2]; exact (h.2 j hj).2⟩⟩
theorem TRoom.put {w : World} {g off n k : Nat} (h : TRoom w g off n) (t : ByteArray) (_hk : k < n) : TRoom (w.setCell ⟨g, off + k, none⟩ (.string t)) g off n := by
  refine ⟨by simpa using h.1, fun j hj => ⟨?_, by simpa using (h.2 j hj).2⟩⟩
  by_cases hjk : j = k
  · subst hjk; exact ⟨_, set_eq _ _ _ _ (h.2 j hj).1⟩
  · rw [set_ne _ _ _ _ _ _ (by omega)]; exact (h.2 j hj).1
theorem TextsAt.put {w : World} {g off n k : Nat} {ts : List ByteArray} {t : ByteArray} (hr : TRoom w g off n) (hk : k < n) (hz : ts[k]? = some t) (h : TextsAt w g off (ts.take k)) : TextsAt (w.setCell ⟨g, off + k, none⟩ (.string t)) g off (ts.take (k + 1)) := by
  intro i t' hi
  rw [List.getElem?_take] at hi
  split at hi
  · by_cases hik : i = k
    · subst hik
      rw [hz] at hi
      cases hi
      exact set_eq _ _ _ _ (hr.2 i hk).1
    · rw [set_ne _ _ _ _ _ _ (by omega)]
      exact h i t' (by rw [List.getElem?_take, if_pos (by omega)]; exact hi)
  · cases hi
def TOwn (w : World) (v : Value) (g : Nat) (ts : List ByteArray) : Prop :=
  ∃ a cap, v = .slice a ts.length cap ∧ ts.length ≤ cap ∧ cap ≤ maxLen ∧ (0 < ts.length → ∃ off, a = some ⟨g, off, none⟩ ∧ TRoom w g off ts.length ∧ TextsAt w g off ts)
theorem TOwn.slice {w : World} {v : Value} {g : Nat} {ts : List ByteArray} (h : TOwn w v g ts) : TSlice w v ts := by
  obtain ⟨a, cap, h1, h2, h3, h4⟩ := h
  refine ⟨a, cap, h1, h2, h3, fun h0 => ?_⟩
  obtain ⟨off, e, hr, hN⟩ := h4 h0
  exact ⟨g, off, e, hr.1, hN⟩
theorem TOwn.ext {w w' : World} {v : Value} {g : Nat} {ts : List ByteArray} (h : TOwn w v g ts) (he : Ext w w') : TOwn w' v g ts := by
  obtain ⟨a, cap, h1, h2, h3, h4⟩ := h
  refine ⟨a, cap, h1, h2, h3, fun h0 => ?_⟩
  obtain ⟨off, e, hr, hN⟩ := h4 h0
  exact ⟨off, e, hr.ext he, hN.ext hr.1 he⟩
theorem TOwn.lt {w : World} {v : Value} {g : Nat} {ts : List ByteArray} (h : TOwn w v g ts) (h0 : 0 < ts.length) : g < w.heap.size := by
  obtain ⟨a, cap, -, -, -, h4⟩ := h
  obtain ⟨off, -, hr, -⟩ := h4 h0
  exact hr.1
theorem TOwn.nil {w w' : World} {v : Value} {g g' : Nat} {ts : List ByteArray} (h : TOwn w v g ts) (h0 : ¬ 0 < ts.length) : TOwn w' v g' ts := by
  obtain ⟨a, cap, h1, h2, h3, -⟩ := h
  exact ⟨a, cap, h1, h2, h3, fun h => absurd h h0⟩
theorem TOwn.upd' {w w' : World} {v : Value} {g b : Nat} {ts : List ByteArray} (h : TOwn w v g ts) (he : Upd b w w') (hne : 0 < ts.length → g ≠ b) : TOwn w' v g ts := by
  by_cases h0 : 0 < ts.length
  · obtain ⟨a, cap, h1, h2, h3, h4⟩ := h
    refine ⟨a, cap, h1, h2, h3, fun _ => ?_⟩
    obtain ⟨off, e, hr, hN⟩ := h4 h0
    exact ⟨off, e, hr.upd he (hne h0), hN.upd he (hne h0) hr.1⟩
  · exact h.nil h0
theorem TOwn.pick {w : World} {v : Value} {g : Nat} {ts : List ByteArray} (h : TOwn w v g ts) : ∃ g', g' ≤ w.heap.size ∧ TOwn w v g' ts ∧ (g' = w.heap.size ∧ ¬ 0 < ts.length ∨ (g' = g ∧ g < w.heap.size ∧ 0 < ts.length)) := by
  by_cases h0 : 0 < ts.length
  · exact ⟨g, Nat.le_of_lt (h.lt h0), h, Or.inr ⟨rfl, h.lt h0, h0⟩⟩
  · exact ⟨_, Nat.le_refl _, h.nil h0, Or.inl ⟨rfl, h0⟩⟩

def tmarks (k n : Nat) : List ByteArray := (List.range n).map fun i => mtext (k + i)
theorem tmarks_length (k n : Nat) : (tmarks k n).length = n := by simp [tmarks]
theorem tmarks_get (k n i : Nat) (h : i < n) : (tmarks k n)[i]? = some (mtext (k + i)) := by
  unfold tmarks
  rw [List.getElem?_map, List.getElem?_range h]; rfl

/-- A TextsResult as a value. -/
def xr (c : Int) (v : Value) : Value := .agg #[.int .i64 c, v]

end Go.Proofs.YtmiffefnpendoaaGreatDoor

/- the exact law of KidsZ, walked, out of what the function and its specification answer. -/
namespace Go.Proofs.YtmiffefnpendoaaGreatDoor
open Go.RowKit

/-- A TextsResult of code c and texts rs came back, its texts in new memory. -/
def XRet (w : World) (c : Int) (rs : List ByteArray) (e : Ending) (w' : World) : Prop :=
  ∃ v g, e = .returned (xr c v) ∧ w.heap.size ≤ g ∧ TOwn w' v g rs ∧ Ext w w'
/-- Block b holds a TextsResult. -/
def XBoxAt (w : World) (b : Nat) (c : Int) (v : Value) : Prop :=
  b < w.heap.size ∧ w.cell? ⟨b, 0, none⟩ = some (.int .i64 c) ∧ w.cell? ⟨b, 1, none⟩ = some v
theorem XBoxAt.ext {w w' : World} {b : Nat} {c : Int} {v : Value} (h : XBoxAt w b c v) (he : Ext w w') : XBoxAt w' b c v := by
  obtain ⟨hc, _⟩ := Ext.cell he
  exact ⟨Nat.lt_of_lt_of_le h.1 he.size, (hc _ _ h.1).trans h.2.1, (hc _ _ h.1).trans h.2.2⟩
theorem XBoxAt.upd {w w' : World} {b g : Nat} {c : Int} {v : Value} (h : XBoxAt w b c v) (he : Upd g w w') (hne : b ≠ g) : XBoxAt w' b c v :=
  ⟨Nat.lt_of_lt_of_le h.1 he.2.1, (he.at_ne _ _ hne h.1).1.trans h.2.1, (he.at_ne _ _ hne h.1).1.trans h.2.2⟩
theorem xbox_new (w : World) (c : Int) (v : Value) (t : TypeId) : XBoxAt (w.alloc (.cells #[.int .i64 c, v] t)) w.heap.size c v :=
  ⟨by simp, by simp, by simp⟩

end Go.Proofs.YtmiffefnpendoaaGreatDoor

/- the specification's l1Under, IsUnder, l1Join: what they answer. -/
namespace Go.Proofs.YtmiffefnpendoaaGreatDoor
open Go.RowKit

theorem pre_iff (p t : ByteArray) : (t.data.toList ++ [47]).isPrefixOf p.data.toList = true ↔ ∃ h : t.size < p.size, p.data.toList.take t.size = t.data.toList ∧ p[t.size] = 47 := by
  rw [List.isPrefixOf_iff_prefix, List.prefix_iff_eq_take]
  have hl : (t.data.toList ++ [47]).length = t.size + 1 := by rw [List.length_append, len_eq]; rfl
  rw [hl]
  constructor
  · intro h
    have hlen := congrArg List.length h
    rw [hl, List.length_take, len_eq] at hlen
    have hlt : t.size < p.size := by omega
    refine ⟨hlt, ?_, ?_⟩
    · have h2 := congrArg (List.take t.size) h
      rw [List.take_left' (by rw [len_eq]), List.take_take, Nat.min_eq_left (by omega)] at h2
      exact h2.symm
    · rw [take_snoc p t.size hlt] at h
      have := (List.append_inj' h rfl).2
      simp only [List.cons.injEq, and_true] at this
      exact this.symm
  · rintro ⟨hlt, h1, h2⟩
    rw [take_snoc p t.size hlt, h1, h2]

theorem join_list (p n : ByteArray) : (if p.data.toList = [47] then (⟨#[47]⟩ : ByteArray) ++ n else p ++ (⟨#[47]⟩ : ByteArray) ++ n).data.toList = Pth.joined p.data.toList n.data.toList := by
  unfold Pth.joined
  split <;> simp [ByteArray.data_append]

set_option maxHeartbeats 1000000 in
theorem l1Join_any (p n : ByteArray) (w : World) (hp : p.size ≤ 1048576) (hn : n.size ≤ 1048576) :
    Calls Tryz.prog 38 #[.string p, .string n] w fun e w' => e = .returned (.string (mkB (Pth.joined p.data.toList n.data.toList))) ∧ w' = w := by
  have hj := eq_mkB (join_list p n)
  rw [← hj]
  clear hj
  by_cases h : p.data.toList = [47]
  · rw [if_pos h]
    have b : (p.toList == [47]) = true := by rw [beq_top]; simpa using h
    clear h
    go_enter Tryz.func38, Tryz.ntmps38
    go_wp2
    go_ret
    exact ⟨rfl, rfl⟩
  · rw [if_neg h]
    have b : (p.toList == [47]) = false := by rw [beq_top]; simpa using h
    clear h
    go_enter Tryz.func38, Tryz.ntmps38
    go_wp2
    go_ret
    exact ⟨rfl, rfl⟩
end Go.Proofs.YtmiffefnpendoaaGreatDoor

/- l2Kids, KidsZ. -/
namespace Go.Proofs.YtmiffefnpendoaaGreatDoor
open Go.RowKit
namespace Tre
def lastName (p : ByteArray) : ByteArray := p.extract (Pth.lastSl p.data.toList 0 0 + 1) p.size
def isKid (p : ByteArray) (z : Zn) : Bool := !(z.path.toList == [47]) && ((par z.path).toList == p.toList)
def kids (zs : List Zn) (p : ByteArray) : List ByteArray := (zs.filter (isKid p)).map fun z => lastName z.path
theorem kids_snoc {zs : List Zn} {p : ByteArray} {k : Nat} {z : Zn} (hz : zs[k]? = some z) : kids (zs.take (k + 1)) p = kids (zs.take k) p ++ (if isKid p z = true then [lastName z.path] else []) := by
  obtain ⟨hk, he⟩ := List.getElem?_eq_some_iff.1 hz
  unfold kids
  rw [List.take_succ_eq_append_getElem hk, he, List.filter_append, List.map_append]
  congr 1
  by_cases h : isKid p z = true
  · rw [if_pos h, List.filter_cons_of_pos h]; rfl
  · rw [if_neg h, List.filter_cons_of_neg h]; rfl
theorem kids_le (zs : List Zn) (p : ByteArray) : (kids zs p).length ≤ zs.length := by
  unfold kids; rw [List.length_map]; exact List.length_filter_le _ _
end Tre
theorem TOwn.of_row {w : World} {base : Nat} {e : TypeId} {v : Value} {ts : List ByteArray} (h : w.ownsRow base e 1 v ts.length (ts.map Value.string)) : ∃ g, base ≤ g ∧ TOwn w v g ts := by
  rcases h.2 with ⟨hv, h0⟩ | ⟨g, cap, cur, hv, hb, hh, hn, hm, hs, ht⟩
  · exact ⟨base, Nat.le_refl _, none, 0, by rw [hv, h0], by omega, by unfold maxLen; omega, fun h => by omega⟩
  · subst hv
    refine ⟨g, hb, some ⟨g, 0, none⟩, cap, rfl, hn, hm, fun _ => ⟨0, rfl, ⟨?_, fun j hj => ?_⟩, ?_⟩⟩
    · exact (Array.getElem?_eq_some_iff.1 hh).1
    · have hc := h.cellAt j (by omega)
      rw [Nat.zero_add, hc]
      exact ⟨⟨_, List.getElem?_eq_getElem (by rw [List.length_map]; omega)⟩, h.frozenAt j⟩
    · intro i t hz
      have hi := (List.getElem?_eq_some_iff.1 hz).1
      rw [Nat.zero_add, h.cellAt i (by omega), List.getElem?_map, hz]; rfl

set_option maxHeartbeats 2000000 in
set_option maxRecDepth 100000 in
theorem l2Kids_any (v : Value) (zs : List Zn) (p : ByteArray) (w : World) (hS : NSlice w v zs) (hl : zs.length ≤ 1048576) (hf : ∀ z ∈ zs, Pth.faultI z.path.data.toList = 0) :
    Calls Tryz.prog 155 #[v, .string p] w fun e w' => ∃ v' g, e = .returned v' ∧ w.heap.size ≤ g ∧ TOwn w' v' g (Tre.kids zs p) ∧ Ext w w' := by
  have hi9 : (Tryz.prog.info? 9).map (fun i => (i.zero, i.size, i.bytes)) = some (some (.string ByteArray.empty), 1, 16) := by kernel_rfl
  obtain ⟨i0, hi, hx⟩ := Option.map_eq_some_iff.1 hi9
  simp only [Prod.mk.injEq] at hx
  obtain ⟨hz0, hz1, hz2⟩ := hx
  clear hi9
  obtain ⟨a, cap, rfl, hlc, hcm, hx⟩ := hS
  have HX : Hid (0 < zs.length → ∃ b off, a = some ⟨b, off, none⟩ ∧ b < w.heap.size ∧ NodesAt w b off zs) := hx
  have HF : Hid (∀ z ∈ zs, Pth.faultI z.path.data.toList = 0) := hf
  clear hx hf
  unfold maxLen at hcm
  go_enter Tryz.func155, Tryz.ntmps155
  go_wp2
  go_loopw [5, 6] (fun v i wr => ∃ (k : Nat), k ≤ zs.length ∧ i = .int .i64 k ∧ Hid (wr.ownsRow w.heap.size 9 1 v (Tre.kids (zs.take k) p).length ((Tre.kids (zs.take k) p).map Value.string)) ∧ Hid (Ext w wr)) (fun _ i _ => zs.length - (intOf i).toNat)
  case atStart =>
    refine ⟨0, by omega, rfl, ?_, (Ext.refl _).alloc _⟩
    exact World.ownsRow_made w #[] 0 (Nat.le_refl _) (by unfold maxLen; omega) rfl
  case round =>
    obtain ⟨k, hk, rfl, HO, HE⟩ := hrel
    by_cases hlt : k < zs.length
    · obtain ⟨z, hzk⟩ : ∃ z, zs[k]? = some z := ⟨_, List.getElem?_eq_getElem hlt⟩
      obtain ⟨b, off, rfl, hb, hN⟩ := HX.out (by omega)
      obtain ⟨d0, d1, d2, d3, d4⟩ := hN.ext hb HE.out k z hzk
      have hfz := HF.out z (List.mem_of_getElem? hzk)
      have h24 := few_of_ok hfz
      have HK : Hid (Tre.kids (zs.take (k + 1)) p = Tre.kids (zs.take k) p ++ (if Tre.isKid p z = true then [Tre.lastName z.path] else [])) := Tre.kids_snoc hzk
      have hkl : (Tre.kids (zs.take k) p).length ≤ k := by have := Tre.kids_le (zs.take k) p; rw [List.length_take] at this; omega
      have HP : Hid (∀ wx : World, Calls Tryz.prog 108 #[.string z.path] wx fun e w' => e = .returned (.string (Tre.par z.path)) ∧ w' = wx) := fun wx => l1Parent_any z.path wx h24
      have HL : Hid (∀ wx : World, Calls Tryz.prog 110 #[.string z.path] wx fun e w' => e = .returned (.int .i64 (Pth.lastSl z.path.data.toList 0 0 : Nat)) ∧ w' = wx) := fun wx => l1Last_any z.path wx h24
      clear hzk hN d1 d2 d3 d4
      cases ht : (z.path.toList == [47]) with
      | true =>
        have HK2 : Hid (Tre.kids (zs.take (k + 1)) p = Tre.kids (zs.take k) p) := by
          show _ = _
          rw [HK.out, if_neg]; · simp
          unfold Tre.isKid; rw [ht]; simp
        go_wp2
        refine ⟨⟨k + 1, by omega, by go_num, ?_, HE.out⟩, by simp [intOf]; omega⟩
        show World.ownsRow _ _ _ _ _ _ _
        rw [HK2.out]; exact HO.out
      | false =>
        have hll := lastSl_le2 z.path hfz ht
        cases hp : ((Tre.par z.path).toList == p.toList) with
        | false =>
          have HK2 : Hid (Tre.kids (zs.take (k + 1)) p = Tre.kids (zs.take k) p) := by
            show _ = _
            rw [HK.out, if_neg]; · simp
            unfold Tre.isKid; rw [hp]; simp
          go_wp2_with fail
          refine (HP.out _).mono ?_
          rintro e w3 ⟨rfl, rfl⟩
          go_wp2
          refine ⟨⟨k + 1, by omega, by go_num, ?_, HE.out⟩, by simp [intOf]; omega⟩
          show World.ownsRow _ _ _ _ _ _ _
          rw [HK2.out]; exact HO.out
        | true =>
          have HK2 : Hid (Tre.kids (zs.take (k + 1)) p = Tre.kids (zs.take k) p ++ [Tre.lastName z.path]) := by
            show _ = _
            rw [HK.out, if_pos]
            unfold Tre.isKid; rw [hp, ht]; simp
          go_wp2_with fail
          refine (HP.out _).mono ?_
          rintro e w3 ⟨rfl, rfl⟩
          go_wp2_with fail
          refine (HL.out _).mono ?_
          rintro e w3 ⟨rfl, rfl⟩
          go_wp2_with (at_builtin; go_must (refine wpList_append_own _ rfl _ _ 31 rfl w.heap.size 9 i0 (.string ByteArray.empty) 1 16 Tryz.underlying31 hi hz0 hz1 hz2 rfl (by decide) _ _ _ rfl (HO.out.alloc _) ⟨w3.heap.size, 0, none⟩ 1 1 [.string (z.path.extract (Pth.lastSl z.path.data.toList 0 0 + 1) z.path.size)] rfl rfl (cell_one_new _ _ _) (fun x hx => by simp at hx; subst hx; rfl) (by unfold maxLen; omega) (by omega) (by have := HE.out.size; simp; omega) ?_; intro v' w4 hown' hgrow3 hnil3))
          refine ⟨⟨k + 1, by omega, by go_num, ?_, Below.grown (HE.out.alloc _) hgrow3 (by have := HE.out.size; simp; omega) (fun q hq => (HO.out.lt q hq).1)⟩, by simp [intOf]; omega⟩
          show w4.ownsRow _ _ _ _ _ _
          rw [HK2.out, List.map_append, List.length_append]
          exact hown'
    · have hke : k = zs.length := by omega
      subst hke
      obtain ⟨g, hg, hT⟩ := TOwn.of_row HO.out
      rw [List.take_length] at hT
      have HT : Hid (w.heap.size ≤ g ∧ TOwn wr u5 g (Tre.kids zs p)) := ⟨hg, hT⟩
      clear hg hT
      go_wp2
      go_ret
      exact ⟨_, g, rfl, HT.out.1, HT.out.2, HE.out⟩
namespace Tre
def kidsV (zs : List Zn) (p : ByteArray) : Int × List ByteArray := if asked zs p ≠ 0 then (asked zs p, []) else if atI zs p < 0 then (4, []) else (0, kids zs p)
theorem kidsV_bad {zs : List Zn} {p : ByteArray} {c : Int} (h : asked zs p = c) (h0 : c ≠ 0) : kidsV zs p = (c, []) := by unfold kidsV; rw [h, if_pos h0]
theorem kidsV_none {zs : List Zn} {p : ByteArray} (h : asked zs p = 0) (h0 : atI zs p < 0) : kidsV zs p = (4, []) := by unfold kidsV; rw [h, if_neg (by simp), if_pos h0]
theorem kidsV_ok {zs : List Zn} {p : ByteArray} (h : asked zs p = 0) (h0 : ¬ atI zs p < 0) : kidsV zs p = (0, kids zs p) := by unfold kidsV; rw [h, if_neg (by simp), if_neg h0]
end Tre
theorem town_none (w : World) (g : Nat) : TOwn w (.slice none 0 0) g [] := ⟨none, 0, rfl, Nat.le_refl _, by unfold maxLen; omega, fun h => by simp at h⟩
/-- Block r holds a TextsResult that nobody has written yet, and may be written. -/
def XBox (w : World) (r : Nat) : Prop :=
  r < w.heap.size ∧ w.cell? ⟨r, 0, none⟩ = some (.int .i64 0) ∧ w.cell? ⟨r, 1, none⟩ = some (.slice none 0 0) ∧ w.frozen? ⟨r, 0, none⟩ = false ∧ w.frozen? ⟨r, 1, none⟩ = false
theorem XBox.new (w : World) (t : TypeId) : XBox (w.alloc (.cells #[.int .i64 0, .slice none 0 0] t)) w.heap.size := ⟨by simp, by simp, by simp, by simp, by simp⟩
theorem XBox.ext {w w2 : World} {r : Nat} (h : XBox w r) (he : Ext w w2) : XBox w2 r := by
  obtain ⟨hc, hf⟩ := Ext.cell he
  obtain ⟨h1, h2, h3, h5, h6⟩ := h
  exact ⟨Nat.lt_of_lt_of_le h1 he.size, (hc _ _ h1).trans h2, (hc _ _ h1).trans h3, (hf _ _ h1).trans h5, (hf _ _ h1).trans h6⟩
theorem Ext.box2 {w w2 : World} (h : Ext w w2) (a b : Value) : Ext w ((w2.setCell ⟨w.heap.size, 0, none⟩ a).setCell ⟨w.heap.size, 1, none⟩ b) :=
  (h.setCell (p := ⟨w.heap.size, 0, none⟩) (Nat.le_refl _) a).setCell (p := ⟨w.heap.size, 1, none⟩) (Nat.le_refl _) b
theorem xret_bad {w w' : World} (c : Int) (h : Ext w w') : XRet w c [] (.returned (xr c (.slice none 0 0))) w' := ⟨_, w.heap.size, rfl, Nat.le_refl _, town_none _ _, h⟩
theorem xret_own {w w4 : World} {v : Value} {g : Nat} {rs : List ByteArray} (c : Int) (hO : TOwn w4 v g rs) (hg : w.heap.size + 1 ≤ g) (h : Ext w w4) (x y : Value) :
    XRet w c rs (.returned (xr c v)) ((w4.setCell ⟨w.heap.size, 0, none⟩ x).setCell ⟨w.heap.size, 1, none⟩ y) :=
  ⟨v, g, rfl, by omega, hO.upd' (((Upd.refl _ _).setAt 0 x).setAt 1 y) (fun _ => by omega), h.box2 _ _⟩

end Go.Proofs.YtmiffefnpendoaaGreatDoor

/- slices.Delete of one node, in memory of its own. -/
namespace Go.Proofs.YtmiffefnpendoaaGreatDoor
open Go.RowKit

theorem upd_setCells {g : Nat} {w : World} : ∀ (cs : List Value) (o : Nat) (w' : World), Upd g w w' → Upd g w (w'.setCells g o cs)
  | [], _, _, h => h
  | _ :: cs, o, _, h => upd_setCells cs (o + 1) _ (h.setAt o _)
theorem size_setCells (g : Nat) : ∀ (cs : List Value) (o : Nat) (w : World), (w.setCells g o cs).heap.size = w.heap.size
  | [], _, _ => rfl
  | _ :: cs, o, w => (size_setCells g cs (o + 1) _).trans (by simp)
theorem isSome_setC (g : Nat) (cs : List Value) (o : Nat) (w : World) (k : Nat) (h : ∃ u, w.cell? ⟨g, k, none⟩ = some u) (hall : ∀ j, j < cs.length → (w.cell? ⟨g, o + j, none⟩).isSome = true) : ∃ u, (w.setCells g o cs).cell? ⟨g, k, none⟩ = some u := by
  by_cases hh : k < o ∨ o + cs.length ≤ k
  · rw [World.cell?_setCells_out g cs o w _ (fun _ _ => hh)]; exact h
  · obtain ⟨j, rfl⟩ : ∃ j, k = o + j := ⟨k - o, by omega⟩
    exact ⟨_, World.cell?_setCells_in g cs o w hall j (by omega)⟩
theorem Room.setCells {w : World} {g off n : Nat} (h : Room w g off n) (o : Nat) (cs : List Value) (hall : ∀ j, j < cs.length → (w.cell? ⟨g, o + j, none⟩).isSome = true) : Room (w.setCells g o cs) g off n :=
  ⟨by rw [size_setCells]; exact h.1, fun j hj => ⟨isSome_setC g cs o w _ (h.2 j hj).1 hall, by rw [World.frozen?_setCells]; exact (h.2 j hj).2⟩⟩
theorem NodesAt.of_news {w : World} {b off : Nat} {zs : List Zn} (h : ∀ j u, (cellsZ zs)[j]? = some u → w.cell? ⟨b, off + j, none⟩ = some u) : NodesAt w b off zs := by
  rw [nodesAt_iff]
  intro i z hz s hs
  have hl : (zcells z).length = 5 := rfl
  have hc := cellsZ_get zs i s z hz hs
  obtain ⟨u, hu⟩ : ∃ u, (zcells z)[s]? = some u := ⟨_, List.getElem?_eq_getElem (by omega)⟩
  rw [hu] at hc ⊢
  rw [Nat.add_assoc]
  exact h _ _ hc
theorem NodesAt.news' {w : World} {b off : Nat} {zs : List Zn} (h : NodesAt w b off zs) : ∀ j u, (cellsZ zs)[j]? = some u → w.cell? ⟨b, off + j, none⟩ = some u := by
  intro j u hu
  have := h.news j u hu
  rw [Addr.add_lit] at this
  exact this
theorem NodesAt.take {w : World} {b off : Nat} {zs : List Zn} (h : NodesAt w b off zs) (k : Nat) : NodesAt w b off (zs.take k) := by
  intro i z hz
  rw [List.getElem?_take] at hz
  split at hz
  · exact h i z hz
  · cases hz
theorem NodesAt.drop {w : World} {b off : Nat} {zs : List Zn} (h : NodesAt w b off zs) (k : Nat) : NodesAt w b (off + k * 5) (zs.drop k) := by
  intro i z hz
  rw [List.getElem?_drop] at hz
  have := h (k + i) z hz
  rw [show off + (k + i) * 5 = off + k * 5 + i * 5 from by omega] at this
  exact this
theorem Room.some {w : World} {g off n : Nat} (h : Room w g off n) (o m : Nat) (h1 : off ≤ o) (h2 : o + m ≤ off + n * 5) : ∀ j, j < m → (w.cell? ⟨g, o + j, none⟩).isSome = true ∧ w.frozen? ⟨g, o + j, none⟩ = false := by
  intro j hj
  obtain ⟨⟨u, hu⟩, hf⟩ := h.2 (o + j - off) (by omega)
  rw [show off + (o + j - off) = o + j from by omega] at hu hf
  exact ⟨by rw [hu]; rfl, hf⟩
theorem Room.less {w : World} {g off n m : Nat} (h : Room w g off n) (hm : m ≤ n) : Room w g off m := ⟨h.1, fun j hj => h.2 j (by omega)⟩

/-- One node taken out: what lay behind it lies one place ahead. -/
theorem own_cutout {w : World} {g off k : Nat} {zs : List Zn} (hR : Room w g off zs.length) (hN : NodesAt w g off zs) (hk : k < zs.length) (zc : List Value) (hzc : zc.length = 5) :
    Room ((w.setCells g (off + k * 5) (cellsZ (zs.drop (k + 1)))).setCells g (off + (zs.length - 1) * 5) zc) g off (zs.take k ++ zs.drop (k + 1)).length ∧
    NodesAt ((w.setCells g (off + k * 5) (cellsZ (zs.drop (k + 1)))).setCells g (off + (zs.length - 1) * 5) zc) g off (zs.take k ++ zs.drop (k + 1)) := by
  have hld : (cellsZ (zs.drop (k + 1))).length = (zs.length - (k + 1)) * 5 := by rw [cellsZ_length, List.length_drop]
  have hlt : (cellsZ (zs.take k)).length = k * 5 := by rw [cellsZ_length, List.length_take]; omega
  have h1 := hR.some (off + k * 5) (cellsZ (zs.drop (k + 1))).length (by omega) (by omega)
  have hR1 := hR.setCells (off + k * 5) (cellsZ (zs.drop (k + 1))) (fun j hj => (h1 j hj).1)
  have h2 := hR1.some (off + (zs.length - 1) * 5) zc.length (by omega) (by omega)
  have hR2 := hR1.setCells (off + (zs.length - 1) * 5) zc (fun j hj => (h2 j hj).1)
  refine ⟨hR2.less (by simp; omega), NodesAt.of_news fun j u hu => ?_⟩
  rw [cellsZ_append] at hu
  have hj : j < (zs.length - 1) * 5 := by
    have := (List.getElem?_eq_some_iff.1 hu).1
    rw [List.length_append, hlt, hld] at this
    omega
  rw [World.cell?_setCells_out g zc _ _ _ (fun _ _ => .inl (by show off + j < _; omega))]
  by_cases hjk : j < k * 5
  · rw [List.getElem?_append_left (by omega)] at hu
    rw [World.cell?_setCells_out g _ _ _ _ (fun _ _ => .inl (by show off + j < _; omega))]
    exact (hN.take k).news' j u hu
  · rw [List.getElem?_append_right (by omega), hlt] at hu
    obtain ⟨i, rfl⟩ : ∃ i, j = k * 5 + i := ⟨j - k * 5, by omega⟩
    rw [show k * 5 + i - k * 5 = i from by omega] at hu
    obtain ⟨hi, he⟩ := List.getElem?_eq_some_iff.1 hu
    rw [← Nat.add_assoc, World.cell?_setCells_in g _ _ _ (fun j hj => (h1 j hj).1) i hi, he]

theorem clear_one (w : World) (ty : TypeId) (g o c : Nat) (hs : ∀ j, j < 5 → (w.cell? ⟨g, o + j, none⟩).isSome = true ∧ w.frozen? ⟨g, o + j, none⟩ = false) :
    (Builtin.clear_ #[24] ty #[.slice (some ⟨g, o, none⟩) 1 c]).run Tryz.prog w = .ok (.tuple #[]) (w.setCells g o [.string ByteArray.empty, .int .i64 0, .int .i64 0, .int .i64 0, .int .i64 0]) := by
  have hst := run_storeCells_cells (P := Tryz.prog) g o [.string ByteArray.empty, .int .i64 0, .int .i64 0, .int .i64 0, .int .i64 0] 0 w (by simpa using fun j hj => (hs j hj).1) (by simpa using fun j hj => (hs j hj).2) (by intro v hv; simp at hv; rcases hv with rfl | rfl | rfl | rfl | rfl <;> rfl)
  simp only [Nat.add_zero] at hst
  have hz : ∀ w, (zeroValue 39).run Tryz.prog w = .ok (.agg #[.string ByteArray.empty, .int .i64 0, .int .i64 0, .int .i64 0, .int .i64 0]) w := Tryz.zeroValue39
  have hzc : (Builtin.zeroCells (Value.agg #[.string ByteArray.empty, .int .i64 0, .int .i64 0, .int .i64 0, .int .i64 0]).cells 1).toList = [.string ByteArray.empty, .int .i64 0, .int .i64 0, .int .i64 0, .int .i64 0] := by kernel_rfl
  simp [Builtin.clear_, run_underlying Tryz.underlying24, hz, hzc, hst]
end Go.Proofs.YtmiffefnpendoaaGreatDoor

/- l2Delete, DeleteZ. -/
namespace Go.Proofs.YtmiffefnpendoaaGreatDoor
open Go.RowKit
namespace Tre
def delT (zs : List Zn) (p : ByteArray) (n : Int) : Int × ByteArray × List Zn :=
  if (p.toList == [47]) = true then (1, ⟨#[]⟩, [])
  else if atI zs p < 0 then (4, ⟨#[]⟩, [])
  else match zs[(atI zs p).toNat]? with
    | none => (4, ⟨#[]⟩, [])
    | some z => if n ≠ -1 ∧ n ≠ z.version then (7, ⟨#[]⟩, []) else if 0 < (kids zs p).length then (8, ⟨#[]⟩, []) else (0, ⟨#[]⟩, zs.take (atI zs p).toNat ++ zs.drop ((atI zs p).toNat + 1))
theorem delT_top {zs : List Zn} {p : ByteArray} {n : Int} (h : (p.toList == [47]) = true) : delT zs p n = (1, ⟨#[]⟩, []) := by unfold delT; rw [if_pos h]
theorem delT_none {zs : List Zn} {p : ByteArray} {n : Int} (h : (p.toList == [47]) = false) (ha : atI zs p < 0) : delT zs p n = (4, ⟨#[]⟩, []) := by unfold delT; rw [if_neg (by rw [h]; simp), if_pos ha]
theorem delT_some {zs : List Zn} {p : ByteArray} {n : Int} {k : Nat} {z : Zn} (h : (p.toList == [47]) = false) (ha : atI zs p = k) (hz : zs[k]? = some z) : delT zs p n = if n ≠ -1 ∧ n ≠ z.version then (7, ⟨#[]⟩, []) else if 0 < (kids zs p).length then (8, ⟨#[]⟩, []) else (0, ⟨#[]⟩, zs.take k ++ zs.drop (k + 1)) := by
  unfold delT
  rw [if_neg (by rw [h]; simp), ha, if_neg (by omega), Int.toNat_natCast, hz]
def delV (zs : List Zn) (p : ByteArray) (n : Int) : Int × ByteArray × List Zn := if asked zs p ≠ 0 then (asked zs p, ⟨#[]⟩, []) else delT zs p n
theorem delV_bad {zs : List Zn} {p : ByteArray} {n c : Int} (h : asked zs p = c) (h0 : c ≠ 0) : delV zs p n = (c, ⟨#[]⟩, []) := by unfold delV; rw [h, if_pos h0]
theorem delV_ok {zs : List Zn} {p : ByteArray} {n : Int} (h : asked zs p = 0) : delV zs p n = delT zs p n := by unfold delV; rw [h, if_neg (by simp)]
end Tre
theorem zret_own3 {w5 : World} {base : Nat} {v5 : Value} {rs : List Zn} {m : Nat} {cs : List Value} {t : TypeId} (h : w5.ownsRow base t 5 v5 m cs) (hm : m = rs.length) (hcs : cs = cellsZ rs) : ∃ g a5 cap5, base ≤ g ∧ v5 = .slice a5 rs.length cap5 ∧ Own w5 (.slice a5 rs.length cap5) g rs := by
  subst hm hcs
  obtain ⟨g, hg, hO⟩ := Own.of_row h
  obtain ⟨a5, cap5, rfl, -⟩ := id hO
  exact ⟨g, a5, cap5, hg, rfl, hO⟩

set_option maxHeartbeats 2000000 in
set_option maxRecDepth 100000 in
theorem l2Delete_top (a : Option Addr) (cap : Nat) (zs : List Zn) (p : ByteArray) (n : Int) (w : World) (hS : NSlice w (.slice a zs.length cap) zs) (hl : zs.length ≤ 1048576) (hf : ∀ z ∈ zs, Pth.faultI z.path.data.toList = 0) (ht : (p.toList == [47]) = true) :
    Calls Tryz.prog 121 #[.slice a zs.length cap, .string p, .int .i64 n] w (ZRet w 1 ⟨#[]⟩ []) := by
  have HK : Hid (∀ wx : World, Ext w wx → Calls Tryz.prog 155 #[.slice a zs.length cap, .string p] wx fun e w' => ∃ v' g, e = .returned v' ∧ wx.heap.size ≤ g ∧ TOwn w' v' g (Tre.kids zs p) ∧ Ext wx w') := fun wx h => l2Kids_any _ zs p wx (hS.ext h) hl hf
  have HT : Hid (∀ wx : World, Ext w wx → Calls Tryz.prog 62 #[.slice a zs.length cap, .string p] wx fun e w' => e = .returned (.int .i64 (Tre.atI zs p)) ∧ w' = wx) := fun wx h => l2At_any _ zs p wx (hS.ext h)
  have HB0 : Hid (∀ (c : Int) (wx : World), Calls Tryz.prog 51 #[.int .i64 c] wx fun e w' => e = .returned (zr c ⟨#[]⟩ (.slice none 0 0)) ∧ Ext wx w') := l2Bad_any
  unfold zr at HB0
  obtain ⟨a', cap', he, hlc, hcm, hx⟩ := hS
  injection he with e1 _ e3
  subst e1 e3
  clear hx HK HT
  go_enter Tryz.func121, Tryz.ntmps121
  go_wp2_with fail
  refine (HB0.out _ _).mono ?_
  rintro e w4 ⟨rfl, hb4⟩
  obtain ⟨q, q0, q1, q2, f0, f1, f2⟩ := (RBox.new w _).ext hb4
  have HB4 : Hid (Ext w w4) := ((Ext.refl _).alloc _).trans hb4
  clear hb4
  go_wp2
  exact bodyPost_ret (v := zr 1 ⟨#[]⟩ (.slice none 0 0)) (by simp [results, Tryz.results121, go_sem, zr, q0, q1, q2]) rfl (zret_bad _ _ (HB4.out.box3 _ _ _))

set_option maxHeartbeats 2000000 in
set_option maxRecDepth 100000 in
theorem l2Delete_none (a : Option Addr) (cap : Nat) (zs : List Zn) (p : ByteArray) (n : Int) (w : World) (hS : NSlice w (.slice a zs.length cap) zs) (hl : zs.length ≤ 1048576) (hf : ∀ z ∈ zs, Pth.faultI z.path.data.toList = 0) (ht : (p.toList == [47]) = false) (hm : Tre.atI zs p < 0) :
    Calls Tryz.prog 121 #[.slice a zs.length cap, .string p, .int .i64 n] w (ZRet w 4 ⟨#[]⟩ []) := by
  have HK : Hid (∀ wx : World, Ext w wx → Calls Tryz.prog 155 #[.slice a zs.length cap, .string p] wx fun e w' => ∃ v' g, e = .returned v' ∧ wx.heap.size ≤ g ∧ TOwn w' v' g (Tre.kids zs p) ∧ Ext wx w') := fun wx h => l2Kids_any _ zs p wx (hS.ext h) hl hf
  have HT : Hid (∀ wx : World, Ext w wx → Calls Tryz.prog 62 #[.slice a zs.length cap, .string p] wx fun e w' => e = .returned (.int .i64 (Tre.atI zs p)) ∧ w' = wx) := fun wx h => l2At_any _ zs p wx (hS.ext h)
  have HB0 : Hid (∀ (c : Int) (wx : World), Calls Tryz.prog 51 #[.int .i64 c] wx fun e w' => e = .returned (zr c ⟨#[]⟩ (.slice none 0 0)) ∧ Ext wx w') := l2Bad_any
  unfold zr at HB0
  obtain ⟨a', cap', he, hlc, hcm, hx⟩ := hS
  injection he with e1 _ e3
  subst e1 e3
  generalize Tre.atI zs p = t at *
  clear hx HK
  go_enter Tryz.func121, Tryz.ntmps121
  go_wp2_with fail
  refine (HT.out _ ((Ext.refl _).alloc _)).mono ?_
  rintro e w3 ⟨rfl, rfl⟩
  go_wp2_with fail
  refine (HB0.out _ _).mono ?_
  rintro e w4 ⟨rfl, hb4⟩
  obtain ⟨q, q0, q1, q2, f0, f1, f2⟩ := (RBox.new w _).ext hb4
  have HB4 : Hid (Ext w w4) := ((Ext.refl _).alloc _).trans hb4
  clear hb4
  go_wp2
  exact bodyPost_ret (v := zr 4 ⟨#[]⟩ (.slice none 0 0)) (by simp [results, Tryz.results121, go_sem, zr, q0, q1, q2]) rfl (zret_bad _ _ (HB4.out.box3 _ _ _))

set_option maxHeartbeats 2000000 in
set_option maxRecDepth 100000 in
theorem l2Delete_vers (a : Option Addr) (cap : Nat) (zs : List Zn) (p : ByteArray) (n : Int) (w : World) (hS : NSlice w (.slice a zs.length cap) zs) (hl : zs.length ≤ 1048576) (hf : ∀ z ∈ zs, Pth.faultI z.path.data.toList = 0) (ht : (p.toList == [47]) = false) (k : Nat) (z : Zn) (hk : Tre.atI zs p = k) (hz : zs[k]? = some z) (h1 : ¬ n = -1) (h2 : ¬ n = z.version) :
    Calls Tryz.prog 121 #[.slice a zs.length cap, .string p, .int .i64 n] w (ZRet w 7 ⟨#[]⟩ []) := by
  have HK : Hid (∀ wx : World, Ext w wx → Calls Tryz.prog 155 #[.slice a zs.length cap, .string p] wx fun e w' => ∃ v' g, e = .returned v' ∧ wx.heap.size ≤ g ∧ TOwn w' v' g (Tre.kids zs p) ∧ Ext wx w') := fun wx h => l2Kids_any _ zs p wx (hS.ext h) hl hf
  have HT : Hid (∀ wx : World, Ext w wx → Calls Tryz.prog 62 #[.slice a zs.length cap, .string p] wx fun e w' => e = .returned (.int .i64 (Tre.atI zs p)) ∧ w' = wx) := fun wx h => l2At_any _ zs p wx (hS.ext h)
  have HB0 : Hid (∀ (c : Int) (wx : World), Calls Tryz.prog 51 #[.int .i64 c] wx fun e w' => e = .returned (zr c ⟨#[]⟩ (.slice none 0 0)) ∧ Ext wx w') := l2Bad_any
  unfold zr at HB0
  obtain ⟨a', cap', he, hlc, hcm, hx⟩ := hS
  injection he with e1 _ e3
  subst e1 e3
  rw [hk] at HT
  have hkl := (List.getElem?_eq_some_iff.1 hz).1
  obtain ⟨b, off, rfl, hb, hN⟩ := hx (by omega)
  have HN : Hid (b < w.heap.size ∧ NodesAt w b off zs) := ⟨hb, hN⟩
  obtain ⟨-, -, d2, -, -⟩ := hN k z hz
  clear hN hz hx hk
  have g1 : (n != -1) = true := by simp [h1]
  have g2 : (n != z.version) = true := by simp [h2]
  go_enter Tryz.func121, Tryz.ntmps121
  go_wp2_with fail
  refine (HT.out _ ((Ext.refl _).alloc _)).mono ?_
  rintro e w3 ⟨rfl, rfl⟩
  go_wp2_with fail
  refine (HB0.out _ _).mono ?_
  rintro e w4 ⟨rfl, hb4⟩
  obtain ⟨q, q0, q1, q2, f0, f1, f2⟩ := (RBox.new w _).ext hb4
  have HB4 : Hid (Ext w w4) := ((Ext.refl _).alloc _).trans hb4
  clear hb4
  go_wp2
  exact bodyPost_ret (v := zr 7 ⟨#[]⟩ (.slice none 0 0)) (by simp [results, Tryz.results121, go_sem, zr, q0, q1, q2]) rfl (zret_bad _ _ (HB4.out.box3 _ _ _))

set_option maxHeartbeats 2000000 in
set_option maxRecDepth 100000 in
theorem l2Delete_kids (a : Option Addr) (cap : Nat) (zs : List Zn) (p : ByteArray) (n : Int) (w : World) (hS : NSlice w (.slice a zs.length cap) zs) (hl : zs.length ≤ 1048576) (hf : ∀ z ∈ zs, Pth.faultI z.path.data.toList = 0) (ht : (p.toList == [47]) = false) (k : Nat) (z : Zn) (hk : Tre.atI zs p = k) (hz : zs[k]? = some z) (hv : n = -1 ∨ (¬ n = -1 ∧ n = z.version)) (hk0 : 0 < (Tre.kids zs p).length) :
    Calls Tryz.prog 121 #[.slice a zs.length cap, .string p, .int .i64 n] w (ZRet w 8 ⟨#[]⟩ []) := by
  have HK : Hid (∀ wx : World, Ext w wx → Calls Tryz.prog 155 #[.slice a zs.length cap, .string p] wx fun e w' => ∃ v' g, e = .returned v' ∧ wx.heap.size ≤ g ∧ TOwn w' v' g (Tre.kids zs p) ∧ Ext wx w') := fun wx h => l2Kids_any _ zs p wx (hS.ext h) hl hf
  have HT : Hid (∀ wx : World, Ext w wx → Calls Tryz.prog 62 #[.slice a zs.length cap, .string p] wx fun e w' => e = .returned (.int .i64 (Tre.atI zs p)) ∧ w' = wx) := fun wx h => l2At_any _ zs p wx (hS.ext h)
  have HB0 : Hid (∀ (c : Int) (wx : World), Calls Tryz.prog 51 #[.int .i64 c] wx fun e w' => e = .returned (zr c ⟨#[]⟩ (.slice none 0 0)) ∧ Ext wx w') := l2Bad_any
  unfold zr at HB0
  obtain ⟨a', cap', he, hlc, hcm, hx⟩ := hS
  injection he with e1 _ e3
  subst e1 e3
  rw [hk] at HT
  have hkl := (List.getElem?_eq_some_iff.1 hz).1
  obtain ⟨b, off, rfl, hb, hN⟩ := hx (by omega)
  have HN : Hid (b < w.heap.size ∧ NodesAt w b off zs) := ⟨hb, hN⟩
  obtain ⟨-, -, d2, -, -⟩ := hN k z hz
  clear hN hz hx hk
  rcases hv with h1 | ⟨h1, h2⟩
  · have g1 : (n != -1) = false := by simp [h1]
    go_enter Tryz.func121, Tryz.ntmps121
    go_wp2_with fail
    refine (HT.out _ ((Ext.refl _).alloc _)).mono ?_
    rintro e w3 ⟨rfl, rfl⟩
    go_wp2_with fail
    refine (HK.out _ ((Ext.refl _).alloc _)).mono ?_
    rintro e w3 ⟨v3, g, rfl, hg, hO, hb3⟩
    obtain ⟨a3, cap3, rfl, -⟩ := hO
    have HB3 : Hid (Ext w w3) := ((Ext.refl _).alloc _).trans hb3
    have HQ : Hid (RBox w3 w.heap.size) := (RBox.new w _).ext hb3
    clear hb3 hg
    go_wp2_with fail
    refine (HB0.out _ _).mono ?_
    rintro e w4 ⟨rfl, hb4⟩
    obtain ⟨q, q0, q1, q2, f0, f1, f2⟩ := (HQ.out).ext hb4
    have HB4 : Hid (Ext w w4) := (HB3.out).trans hb4
    clear hb4
    go_wp2
    exact bodyPost_ret (v := zr 8 ⟨#[]⟩ (.slice none 0 0)) (by simp [results, Tryz.results121, go_sem, zr, q0, q1, q2]) rfl (zret_bad _ _ (HB4.out.box3 _ _ _))
  · have g1 : (n != -1) = true := by simp [h1]
    have g2 : (n != z.version) = false := by simp [h2]
    go_enter Tryz.func121, Tryz.ntmps121
    go_wp2_with fail
    refine (HT.out _ ((Ext.refl _).alloc _)).mono ?_
    rintro e w3 ⟨rfl, rfl⟩
    go_wp2_with fail
    refine (HK.out _ ((Ext.refl _).alloc _)).mono ?_
    rintro e w3 ⟨v3, g, rfl, hg, hO, hb3⟩
    obtain ⟨a3, cap3, rfl, -⟩ := hO
    have HB3 : Hid (Ext w w3) := ((Ext.refl _).alloc _).trans hb3
    have HQ : Hid (RBox w3 w.heap.size) := (RBox.new w _).ext hb3
    clear hb3 hg
    go_wp2_with fail
    refine (HB0.out _ _).mono ?_
    rintro e w4 ⟨rfl, hb4⟩
    obtain ⟨q, q0, q1, q2, f0, f1, f2⟩ := (HQ.out).ext hb4
    have HB4 : Hid (Ext w w4) := (HB3.out).trans hb4
    clear hb4
    go_wp2
    exact bodyPost_ret (v := zr 8 ⟨#[]⟩ (.slice none 0 0)) (by simp [results, Tryz.results121, go_sem, zr, q0, q1, q2]) rfl (zret_bad _ _ (HB4.out.box3 _ _ _))

set_option maxHeartbeats 2000000 in
set_option maxRecDepth 100000 in
theorem l2Delete_ok (a : Option Addr) (cap : Nat) (zs : List Zn) (p : ByteArray) (n : Int) (w : World) (hS : NSlice w (.slice a zs.length cap) zs) (hl : zs.length ≤ 1048576) (hf : ∀ z ∈ zs, Pth.faultI z.path.data.toList = 0) (ht : (p.toList == [47]) = false) (k : Nat) (z : Zn) (hk : Tre.atI zs p = k) (hz : zs[k]? = some z) (hv : n = -1 ∨ (¬ n = -1 ∧ n = z.version)) (hkz : (Tre.kids zs p).length = 0) :
    Calls Tryz.prog 121 #[.slice a zs.length cap, .string p, .int .i64 n] w (ZRet w 0 ⟨#[]⟩ (zs.take k ++ zs.drop (k + 1))) := by
  have HK : Hid (∀ wx : World, Ext w wx → Calls Tryz.prog 155 #[.slice a zs.length cap, .string p] wx fun e w' => ∃ v' g, e = .returned v' ∧ wx.heap.size ≤ g ∧ TOwn w' v' g (Tre.kids zs p) ∧ Ext wx w') := fun wx h => l2Kids_any _ zs p wx (hS.ext h) hl hf
  have HT : Hid (∀ wx : World, Ext w wx → Calls Tryz.prog 62 #[.slice a zs.length cap, .string p] wx fun e w' => e = .returned (.int .i64 (Tre.atI zs p)) ∧ w' = wx) := fun wx h => l2At_any _ zs p wx (hS.ext h)
  have HB0 : Hid (∀ (c : Int) (wx : World), Calls Tryz.prog 51 #[.int .i64 c] wx fun e w' => e = .returned (zr c ⟨#[]⟩ (.slice none 0 0)) ∧ Ext wx w') := l2Bad_any
  unfold zr at HB0
  obtain ⟨a', cap', he, hlc, hcm, hx⟩ := hS
  injection he with e1 _ e3
  subst e1 e3
  have hi9 : (Tryz.prog.info? 39).map (fun i => (i.zero, i.size, i.bytes)) = some (some (.agg #[.string ByteArray.empty, .int .i64 0, .int .i64 0, .int .i64 0, .int .i64 0]), 5, 48) := by kernel_rfl
  obtain ⟨i0, hi, hx9⟩ := Option.map_eq_some_iff.1 hi9
  simp only [Prod.mk.injEq] at hx9
  obtain ⟨hz0, hz1, hz2⟩ := hx9
  clear hi9
  rw [hk] at HT
  have hkl := (List.getElem?_eq_some_iff.1 hz).1
  obtain ⟨b, off, rfl, hb, hN⟩ := hx (by omega)
  have HN : Hid (b < w.heap.size ∧ NodesAt w b off zs) := ⟨hb, hN⟩
  obtain ⟨-, -, d2, -, -⟩ := hN k z hz
  clear hN hz hx hk
  have hlt : (cellsZ (zs.take k)).length = k * 5 := by rw [cellsZ_length, List.length_take]; omega
  have hld : (cellsZ (zs.drop (k + 1))).length = (zs.length - (k + 1)) * 5 := by rw [cellsZ_length, List.length_drop]
  obtain ⟨A, hA, HSrc⟩ : ∃ A : Addr, (if cap = k + 1 then some (⟨b, off, none⟩ : Addr) else some ⟨b, off + (k + 1) * 5, none⟩) = some A ∧ Hid (∀ wx : World, NodesAt wx b off zs → ∀ j u, (cellsZ (zs.drop (k + 1)))[j]? = some u → wx.cell? (A.add j) = some u) := by
    by_cases h : cap = k + 1
    · refine ⟨⟨b, off, none⟩, by simp [h], fun wx _ t u hu => ?_⟩
      rw [List.drop_of_length_le (by omega)] at hu
      simp [cellsZ] at hu
    · refine ⟨⟨b, off + (k + 1) * 5, none⟩, by simp [h], fun wx hN => (hN.drop (k + 1)).news⟩
  unfold maxLen at hcm
  rcases hv with h1 | ⟨h1, h2⟩
  · have g1 : (n != -1) = false := by simp [h1]
    go_enter Tryz.func121, Tryz.ntmps121
    go_wp2_with fail
    refine (HT.out _ ((Ext.refl _).alloc _)).mono ?_
    rintro e w3 ⟨rfl, rfl⟩
    go_wp2_with fail
    refine (HK.out _ ((Ext.refl _).alloc _)).mono ?_
    rintro e w3 ⟨v3, g, rfl, hg, hO, hb3⟩
    obtain ⟨a3, cap3, rfl, -⟩ := hO
    have HB3 : Hid (Ext w w3) := ((Ext.refl _).alloc _).trans hb3
    have HQ : Hid (RBox w3 w.heap.size) := (RBox.new w _).ext hb3
    clear hb3 hg
    rw [hkz]
    have hbl : b < w3.heap.size := Nat.lt_of_lt_of_le hb HB3.out.size
    have HN3 : Hid (NodesAt (w3.alloc (.cells #[] 39)) b off zs) := HN.out.2.ext HN.out.1 (HB3.out.alloc _)
    have HO : Hid ((w3.alloc (.cells #[] 39)).ownsRow w3.heap.size 39 5 (.slice (some ⟨w3.heap.size, 0, none⟩) 0 0) 0 []) := World.ownsRow_made w3 #[] 0 (Nat.le_refl _) (by unfold maxLen; omega) rfl
    go_wp2_with first | (at_builtin; refine wpList_append_own _ rfl _ _ 24 rfl w3.heap.size 39 i0 (.agg #[.string ByteArray.empty, .int .i64 0, .int .i64 0, .int .i64 0, .int .i64 0]) 5 48 Tryz.underlying24 hi hz0 hz1 hz2 rfl (by decide) v4 (0 + k) ([] ++ cellsZ (zs.take k)) rfl HO4.out A (zs.length - (k + 1)) _ (cellsZ (zs.drop (k + 1))) rfl hld (HSrc.out w4 HN4.out) (cellsZ_one _) (by unfold maxLen; omega) (by omega) (by have := HS4.out; omega) ?_; intro v5 w5 hown5 hgrow5 hnil5; obtain ⟨g5, a5, cap5, hg5, rfl, hO5⟩ := zret_own3 (rs := zs.take k ++ zs.drop (k + 1)) hown5 (by simp; omega) (by rw [cellsZ_append]; simp); have HE5 : Hid (Ext w3 w5) := Below.grown HE34.out hgrow5 (by have := HS4.out; omega) (fun q hq => (HO4.out.lt q hq).1); have HO5 : Hid (Own w5 (.slice a5 (zs.take k ++ zs.drop (k + 1)).length cap5) g5 (zs.take k ++ zs.drop (k + 1)) ∧ w3.heap.size ≤ g5) := ⟨hO5, hg5⟩; obtain ⟨q, q0, q1, q2, f0, f1, f2⟩ := HQ.out.ext HE5.out; clear hown5 hgrow5 hnil5 hO5 hg5) | (at_builtin; refine wpList_append_own _ rfl _ _ 24 rfl w3.heap.size 39 i0 (.agg #[.string ByteArray.empty, .int .i64 0, .int .i64 0, .int .i64 0, .int .i64 0]) 5 48 Tryz.underlying24 hi hz0 hz1 hz2 rfl (by decide) (.slice (some ⟨w3.heap.size, 0, none⟩) 0 0) 0 [] rfl HO.out ⟨b, off, none⟩ k _ (cellsZ (zs.take k)) rfl hlt (HN3.out.take k).news (cellsZ_one _) (by unfold maxLen; omega) (by omega) (by simp) ?_; intro v4 w4 hown4 hgrow4 hnil4; have HE34 : Hid (Ext w3 w4) := Below.grown ((Ext.refl _).alloc _) hgrow4 (by simp) (fun q hq => (HO.out.lt q hq).1); have HS4 : Hid (w3.heap.size ≤ w4.heap.size) := HE34.out.size; have HN4 : Hid (NodesAt w4 b off zs) := HN.out.2.ext HN.out.1 (HB3.out.trans HE34.out); have HO4 : Hid (w4.ownsRow w3.heap.size 39 5 v4 (0 + k) ([] ++ cellsZ (zs.take k))) := hown4; clear hown4 hgrow4 hnil4)
    exact bodyPost_ret (v := zr 0 ⟨#[]⟩ (.slice a5 (zs.take k ++ zs.drop (k + 1)).length cap5)) (by simp [results, Tryz.results121, go_sem, zr, q0, q1, q2]) rfl (zret_own 0 ⟨#[]⟩ HO5.out.1 (by have := HO5.out.2; have := HQ.out.1; omega) (HB3.out.trans HE5.out) _ _ _)
  · have g1 : (n != -1) = true := by simp [h1]
    have g2 : (n != z.version) = false := by simp [h2]
    go_enter Tryz.func121, Tryz.ntmps121
    go_wp2_with fail
    refine (HT.out _ ((Ext.refl _).alloc _)).mono ?_
    rintro e w3 ⟨rfl, rfl⟩
    go_wp2_with fail
    refine (HK.out _ ((Ext.refl _).alloc _)).mono ?_
    rintro e w3 ⟨v3, g, rfl, hg, hO, hb3⟩
    obtain ⟨a3, cap3, rfl, -⟩ := hO
    have HB3 : Hid (Ext w w3) := ((Ext.refl _).alloc _).trans hb3
    have HQ : Hid (RBox w3 w.heap.size) := (RBox.new w _).ext hb3
    clear hb3 hg
    rw [hkz]
    have hbl : b < w3.heap.size := Nat.lt_of_lt_of_le hb HB3.out.size
    have HN3 : Hid (NodesAt (w3.alloc (.cells #[] 39)) b off zs) := HN.out.2.ext HN.out.1 (HB3.out.alloc _)
    have HO : Hid ((w3.alloc (.cells #[] 39)).ownsRow w3.heap.size 39 5 (.slice (some ⟨w3.heap.size, 0, none⟩) 0 0) 0 []) := World.ownsRow_made w3 #[] 0 (Nat.le_refl _) (by unfold maxLen; omega) rfl
    go_wp2_with first | (at_builtin; refine wpList_append_own _ rfl _ _ 24 rfl w3.heap.size 39 i0 (.agg #[.string ByteArray.empty, .int .i64 0, .int .i64 0, .int .i64 0, .int .i64 0]) 5 48 Tryz.underlying24 hi hz0 hz1 hz2 rfl (by decide) v4 (0 + k) ([] ++ cellsZ (zs.take k)) rfl HO4.out A (zs.length - (k + 1)) _ (cellsZ (zs.drop (k + 1))) rfl hld (HSrc.out w4 HN4.out) (cellsZ_one _) (by unfold maxLen; omega) (by omega) (by have := HS4.out; omega) ?_; intro v5 w5 hown5 hgrow5 hnil5; obtain ⟨g5, a5, cap5, hg5, rfl, hO5⟩ := zret_own3 (rs := zs.take k ++ zs.drop (k + 1)) hown5 (by simp; omega) (by rw [cellsZ_append]; simp); have HE5 : Hid (Ext w3 w5) := Below.grown HE34.out hgrow5 (by have := HS4.out; omega) (fun q hq => (HO4.out.lt q hq).1); have HO5 : Hid (Own w5 (.slice a5 (zs.take k ++ zs.drop (k + 1)).length cap5) g5 (zs.take k ++ zs.drop (k + 1)) ∧ w3.heap.size ≤ g5) := ⟨hO5, hg5⟩; obtain ⟨q, q0, q1, q2, f0, f1, f2⟩ := HQ.out.ext HE5.out; clear hown5 hgrow5 hnil5 hO5 hg5) | (at_builtin; refine wpList_append_own _ rfl _ _ 24 rfl w3.heap.size 39 i0 (.agg #[.string ByteArray.empty, .int .i64 0, .int .i64 0, .int .i64 0, .int .i64 0]) 5 48 Tryz.underlying24 hi hz0 hz1 hz2 rfl (by decide) (.slice (some ⟨w3.heap.size, 0, none⟩) 0 0) 0 [] rfl HO.out ⟨b, off, none⟩ k _ (cellsZ (zs.take k)) rfl hlt (HN3.out.take k).news (cellsZ_one _) (by unfold maxLen; omega) (by omega) (by simp) ?_; intro v4 w4 hown4 hgrow4 hnil4; have HE34 : Hid (Ext w3 w4) := Below.grown ((Ext.refl _).alloc _) hgrow4 (by simp) (fun q hq => (HO.out.lt q hq).1); have HS4 : Hid (w3.heap.size ≤ w4.heap.size) := HE34.out.size; have HN4 : Hid (NodesAt w4 b off zs) := HN.out.2.ext HN.out.1 (HB3.out.trans HE34.out); have HO4 : Hid (w4.ownsRow w3.heap.size 39 5 v4 (0 + k) ([] ++ cellsZ (zs.take k))) := hown4; clear hown4 hgrow4 hnil4)
    exact bodyPost_ret (v := zr 0 ⟨#[]⟩ (.slice a5 (zs.take k ++ zs.drop (k + 1)).length cap5)) (by simp [results, Tryz.results121, go_sem, zr, q0, q1, q2]) rfl (zret_own 0 ⟨#[]⟩ HO5.out.1 (by have := HO5.out.2; have := HQ.out.1; omega) (HB3.out.trans HE5.out) _ _ _)

theorem l2Delete_any (v : Value) (zs : List Zn) (p : ByteArray) (n : Int) (w : World) (hS : NSlice w v zs) (hl : zs.length ≤ 1048576) (hf : ∀ z ∈ zs, Pth.faultI z.path.data.toList = 0) :
    Calls Tryz.prog 121 #[v, .string p, .int .i64 n] w (ZRet w (Tre.delT zs p n).1 (Tre.delT zs p n).2.1 (Tre.delT zs p n).2.2) := by
  obtain ⟨a, cap, rfl, -⟩ := id hS
  cases ht : (p.toList == [47]) with
  | true => rw [Tre.delT_top ht]; exact l2Delete_top a cap zs p n w hS hl hf ht
  | false =>
    rcases Tre.atI_range zs p with ⟨hm, -⟩ | ⟨k, z, hk, hkl, hz, -⟩
    · rw [Tre.delT_none ht (by omega)]; exact l2Delete_none a cap zs p n w hS hl hf ht (by omega)
    · rw [Tre.delT_some ht hk hz]
      by_cases hv : n ≠ -1 ∧ n ≠ z.version
      · rw [if_pos hv]; exact l2Delete_vers a cap zs p n w hS hl hf ht k z hk hz hv.1 hv.2
      · rw [if_neg hv]
        have hv2 : n = -1 ∨ (¬ n = -1 ∧ n = z.version) := by
          by_cases h1 : n = -1
          · exact .inl h1
          · exact .inr ⟨h1, by apply Classical.byContradiction; intro h2; exact hv ⟨h1, h2⟩⟩
        by_cases hk0 : 0 < (Tre.kids zs p).length
        · rw [if_pos hk0]; exact l2Delete_kids a cap zs p n w hS hl hf ht k z hk hz hv2 hk0
        · rw [if_neg hk0]
          exact l2Delete_ok a cap zs p n w hS hl hf ht k z hk hz hv2 (by omega)

end Go.Proofs.YtmiffefnpendoaaGreatDoor

/- l2Put: a node put among others where it stands. -/
namespace Go.Proofs.YtmiffefnpendoaaGreatDoor
open Go.RowKit
namespace Tre
def putT (zs : List Zn) (z : Zn) : List Zn := zs.take (cut zs (key z)) ++ z :: zs.drop (cut zs (key z))
theorem less_path (y z : Zn) : Op.bytesLess y.path.toList z.path.toList = decide (key y < key z) := by
  unfold key; rw [less_eq, Lib.toList_data, Lib.toList_data]
end Tre
theorem cells_new (w : World) (z : Zn) (t : TypeId) : ∀ j u, (cellsZ [z])[j]? = some u → (w.alloc (.cells #[.string z.path, .int .i64 z.data, .int .i64 z.version, .int .i64 z.owner, .int .i64 z.next] t)).cell? ((⟨w.heap.size, 0, none⟩ : Addr).add j) = some u := by
  intro j u hu
  have hj := (List.getElem?_eq_some_iff.1 hu).1
  have hl : (cellsZ [z]).length = 5 := rfl
  have h5 : j = 0 ∨ j = 1 ∨ j = 2 ∨ j = 3 ∨ j = 4 := by omega
  rw [Addr.add_lit]
  rcases h5 with rfl | rfl | rfl | rfl | rfl <;> simp [cellsZ, zcells] at hu <;> subst hu <;> simp
/-- The node z was laid behind w, and nothing up to it has turned since. -/
def Boxd (w wx : World) (z : Zn) : Prop := Below (w.heap.size + 1) (w.alloc (.cells #[.string z.path, .int .i64 z.data, .int .i64 z.version, .int .i64 z.owner, .int .i64 z.next] 39)) wx
theorem Boxd.new (w : World) (z : Zn) : Boxd w (w.alloc (.cells #[.string z.path, .int .i64 z.data, .int .i64 z.version, .int .i64 z.owner, .int .i64 z.next] 39)) z := Below.refl _ _
theorem Boxd.ext {w wx : World} {z : Zn} (h : Boxd w wx z) : Ext w wx := ((Ext.refl w).alloc _).trans (Below.mono h (by simp))
theorem Boxd.drew {w wx : World} {z : Zn} (h : Boxd w wx z) : Boxd w wx.drew z := Below.drew h
theorem Boxd.alloc {w wx : World} {z : Zn} (h : Boxd w wx z) (o : Obj) : Boxd w (wx.alloc o) z := Below.alloc h (by have := Below.size h; simpa using this) o
theorem Boxd.size {w wx : World} {z : Zn} (h : Boxd w wx z) : w.heap.size + 1 ≤ wx.heap.size := by have := Below.size h; simpa using this
theorem Boxd.grown {w wx wy : World} {z : Zn} {row : Option Nat} (h : Boxd w wx z) (hg : wx.grownBy wy row) (hr : ∀ q, row = some q → w.heap.size + 1 ≤ q) : Boxd w wy z := Below.grown h hg h.size hr
theorem Boxd.cells {w wx : World} {z : Zn} (h : Boxd w wx z) : wx.cell? ⟨w.heap.size, 0, none⟩ = some (.string z.path) ∧ wx.cell? ⟨w.heap.size, 1, none⟩ = some (.int .i64 z.data) ∧ wx.cell? ⟨w.heap.size, 2, none⟩ = some (.int .i64 z.version) ∧ wx.cell? ⟨w.heap.size, 3, none⟩ = some (.int .i64 z.owner) ∧ wx.cell? ⟨w.heap.size, 4, none⟩ = some (.int .i64 z.next) := by
  have hc := fun r => Below.cell h (p := ⟨w.heap.size, r, none⟩) (by show w.heap.size < _; omega)
  exact ⟨(hc 0).trans (by simp), (hc 1).trans (by simp), (hc 2).trans (by simp), (hc 3).trans (by simp), (hc 4).trans (by simp)⟩
theorem step_append_own {P : Program} (w : World) {ops : Array Oper} {o : Oper} {a : Act} {K : Act → World → Prop} {Q : Exit → Act → World → Prop} {E : Prop} (hgd : o.guard = none) (s x : Operand) (t : TypeId)
    (ho : o.op = .call { callee := .builtin .append, args := #[s, x], argTypes := #[t, t] })
    (base : Nat) (e : TypeId) (i : TypeInfo) (z : Value) (size bytes : Nat) (ht : P.underlying t = some (.slice e)) (hi : P.info? e = some i) (hz : i.zero = some z)
    (hsize : i.size = size) (hby : i.bytes = bytes) (hzs : z.cells.size = size) (hsz : 0 < size)
    (v : Value) (n : Nat) (xs : List Value) (hs : a.eval s = v) (hown : w.ownsRow base e size v n xs)
    (ad : Addr) (m c : Nat) (news : List Value) (hx : a.eval x = .slice (some ad) m c) (hl : news.length = m * size) (hnews : ∀ j u, news[j]? = some u → w.cell? (ad.add j) = some u) (h1 : ∀ u ∈ news, u.oneCell' = true)
    (h63 : n + m ≤ maxLen) (hbytes : (n + m) * bytes ≤ 140737488355328) (hbase : base ≤ w.heap.size)
    (h : ∀ v' w', w'.ownsRow base e size v' (n + m) (xs ++ news) → w.grownBy w' v.ownBlock → (v' = .slice none 0 0 ↔ v = .slice none 0 0 ∧ m = 0) → K (a.put o.dst v') w') :
    if Region.wanted o (yielded ops a.tmps) = true then Oper.wp P o a w K Q else E := by
  have hw : Region.wanted o (yielded ops a.tmps) = true := by simp [Region.wanted, hgd]
  rw [if_pos hw]
  exact wp_append_own w s x t ho base e i z size bytes ht hi hz hsize hby hzs hsz v n xs hs hown ad m c news hx hl hnews h1 h63 hbytes hbase h

set_option maxHeartbeats 4000000 in
set_option maxRecDepth 100000 in
theorem l2Put_any (b off cap : Nat) (zs : List Zn) (z : Zn) (w : World) (hS : NSlice w (.slice (some ⟨b, off, none⟩) zs.length cap) zs) (hl : zs.length ≤ 1000000) (hp : 0 < zs.length) :
    Calls Tryz.prog 113 #[.slice (some ⟨b, off, none⟩) zs.length cap, zagg z] w fun e w' => ∃ v' g, e = .returned v' ∧ w.heap.size ≤ g ∧ Own w' v' g (Tre.putT zs z) ∧ Ext w w' := by
  have hi9 : (Tryz.prog.info? 39).map (fun i => (i.zero, i.size, i.bytes)) = some (some (.agg #[.string ByteArray.empty, .int .i64 0, .int .i64 0, .int .i64 0, .int .i64 0]), 5, 48) := by kernel_rfl
  obtain ⟨i0, hi, hx9⟩ := Option.map_eq_some_iff.1 hi9
  simp only [Prod.mk.injEq] at hx9
  obtain ⟨hz0, hz1, hz2⟩ := hx9
  clear hi9
  obtain ⟨a', cap', he, hlc, hcm, hx⟩ := hS
  injection he with e1 _ e3
  subst e1 e3
  obtain ⟨b', off', he, hb, hN⟩ := hx hp
  injection he with he
  injection he with e1 e2 _
  subst e1 e2
  have HN : Hid (b < w.heap.size ∧ NodesAt w b off zs) := ⟨hb, hN⟩
  generalize hR : Tre.putT zs z = rs
  have HR : Hid (Tre.putT zs z = rs) := hR
  clear hx hN hR
  unfold maxLen at hcm
  unfold zagg
  go_enter Tryz.func113, Tryz.ntmps113
  go_wp2
  go_loopw [5] (fun i wr => ∃ (k : Nat), k ≤ zs.length ∧ i = .int .i64 k ∧ Hid (∀ (j : Nat) y, j < k → zs[j]? = some y → Tre.key y < Tre.key z) ∧ Hid (Boxd w wr z)) (fun i _ => zs.length - (intOf i).toNat)
  case atStart => exact ⟨0, Nat.zero_le _, rfl, fun j y h => by omega, Boxd.new w z⟩
  case round =>
    obtain ⟨k, hk, rfl, HA, HE⟩ := hrel
    obtain ⟨c0, -, -, -, -⟩ := HE.out.cells
    by_cases hlt : k < zs.length
    · obtain ⟨y, hyk⟩ : ∃ y, zs[k]? = some y := ⟨_, List.getElem?_eq_getElem hlt⟩
      obtain ⟨d0, -, -, -, -⟩ := HN.out.2.ext HN.out.1 HE.out.ext k y hyk
      have HY : Hid (zs[k]? = some y) := hyk
      clear hyk
      by_cases hyz : Tre.key y < Tre.key z
      · have hbl : Op.bytesLess y.path.toList z.path.toList = true := by rw [Tre.less_path]; exact decide_eq_true hyz
        have HA2 : Hid (∀ (j : Nat) x, j < k + 1 → zs[j]? = some x → Tre.key x < Tre.key z) := by
          intro j x hj hx
          by_cases hjk : j = k
          · subst hjk; rw [HY.out] at hx; cases hx; exact hyz
          · exact HA.out j x (by omega) hx
        clear hyz
        go_wp2
        go_region
        all_goals go_wp2
        exact ⟨⟨k + 1, by omega, by go_num, HA2, HE.out.drew⟩, by simp [intOf]; omega⟩
      · have hbl : Op.bytesLess y.path.toList z.path.toList = false := by rw [Tre.less_path]; exact decide_eq_false hyz
        have HC : Hid (Tre.cut zs (Tre.key z) = k) := Tre.cut_eq hk HA.out (fun x hx => by rw [HY.out] at hx; cases hx; exact hyz)
        clear hyz
        go_wp2
        go_region
        generalize hw1 : wr.drew = w1
        have HE1 : Hid (Boxd w w1 z) := by show Boxd _ _ _; rw [← hw1]; exact HE.out.drew
        clear hw1 d0 c0 hbl HE
        have HRS : Hid (rs = zs.take k ++ z :: zs.drop k) := by show _ = _; rw [← HR.out]; unfold Tre.putT; rw [HC.out]
        obtain ⟨A, hA, HSrc⟩ : ∃ A : Addr, (if cap = k then some (⟨b, off, none⟩ : Addr) else some ⟨b, off + k * 5, none⟩) = some A ∧ Hid (∀ wy : World, NodesAt wy b off zs → ∀ j u, (cellsZ (zs.drop k))[j]? = some u → wy.cell? (A.add j) = some u) := by
          by_cases h : cap = k
          · refine ⟨⟨b, off, none⟩, by simp [h], fun wy _ t u hu => ?_⟩
            rw [List.drop_of_length_le (by omega)] at hu
            simp [cellsZ] at hu
          · refine ⟨⟨b, off + k * 5, none⟩, by simp [h], fun wy hN => (hN.drop k).news⟩
        have hkc : k ≤ cap := by omega
        have hlt5 : (cellsZ (zs.take k)).length = k * 5 := by rw [cellsZ_length, List.length_take]; omega
        have hld : (cellsZ (zs.drop k)).length = (zs.length - k) * 5 := by rw [cellsZ_length, List.length_drop]
        have HN0 : Hid (NodesAt (w1.alloc (.cells #[] 39)) b off zs) := HN.out.2.ext HN.out.1 (HE1.out.alloc _).ext
        have HO : Hid ((w1.alloc (.cells #[] 39)).ownsRow (w.heap.size + 1) 39 5 (.slice (some ⟨w1.heap.size, 0, none⟩) 0 0) 0 []) := World.ownsRow_made w1 #[] 0 HE1.out.size (by unfold maxLen; omega) rfl
        have hbl1 : b < w1.heap.size := Nat.lt_of_lt_of_le hb HE1.out.ext.size
        go_wp2_with (at_builtin; refine wpList_append_own _ rfl _ _ 24 rfl (w.heap.size + 1) 39 i0 (.agg #[.string ByteArray.empty, .int .i64 0, .int .i64 0, .int .i64 0, .int .i64 0]) 5 48 Tryz.underlying24 hi hz0 hz1 hz2 rfl (by decide) (.slice (some ⟨w1.heap.size, 0, none⟩) 0 0) 0 [] rfl HO.out ⟨b, off, none⟩ k _ (cellsZ (zs.take k)) rfl hlt5 (HN0.out.take k).news (cellsZ_one _) (by unfold maxLen; omega) (by omega) (by have := HE1.out.size; simp; omega) ?_; intro v4 w4 hown4 hgrow4 hnil4)
        have HE4 : Hid (Boxd w w4 z) := (HE1.out.alloc _).grown hgrow4 (fun q hq => (HO.out.lt q hq).1)
        have HO4 : Hid (w4.ownsRow (w.heap.size + 1) 39 5 v4 (0 + k) ([] ++ cellsZ (zs.take k))) := hown4
        obtain ⟨c0, c1, c2, c3, c4⟩ := HE4.out.cells
        have hwl : w.heap.size < w4.heap.size := by have := HE4.out.size; omega
        clear hown4 hgrow4 hnil4
        go_region_law (first | (refine step_append_own _ rfl (.tmp 31) (.tmp 34) 24 rfl (w.heap.size + 1) 39 i0 (.agg #[.string ByteArray.empty, .int .i64 0, .int .i64 0, .int .i64 0, .int .i64 0]) 5 48 Tryz.underlying24 hi hz0 hz1 hz2 rfl (by decide) v5 (0 + k + 1) ([] ++ cellsZ (zs.take k) ++ cellsZ [z]) (by simp [Act.eval]) HO5.out A (zs.length - k) (cap - k) (cellsZ (zs.drop k)) (by simp [Act.eval]) hld (HSrc.out w5 HN5.out) (cellsZ_one _) (by unfold maxLen; omega) (by omega) (by have := HE5.out.size; omega) ?_; intro v6 w6 hown6 hgrow6 hnil6; have HE6 : Hid (Boxd w w6 z) := HE5.out.grown hgrow6 (fun q hq => (HO5.out.lt q hq).1); have HO6 : Hid (w6.ownsRow (w.heap.size + 1) 39 5 v6 (0 + k + 1 + (zs.length - k)) ([] ++ cellsZ (zs.take k) ++ cellsZ [z] ++ cellsZ (zs.drop k))) := hown6; clear hown6 hgrow6 hnil6) | (refine step_append_own _ rfl (.tmp 28) (.tmp 30) 24 rfl (w.heap.size + 1) 39 i0 (.agg #[.string ByteArray.empty, .int .i64 0, .int .i64 0, .int .i64 0, .int .i64 0]) 5 48 Tryz.underlying24 hi hz0 hz1 hz2 rfl (by decide) v4 (0 + k) ([] ++ cellsZ (zs.take k)) (by simp [Act.eval]) (World.ownsRow.alloc (w := w4.drew) HO4.out _) ⟨w4.heap.size, 0, none⟩ 1 1 (cellsZ [z]) (by simp [Act.eval]) rfl (cells_new w4.drew z _) (cellsZ_one _) (by unfold maxLen; omega) (by omega) (by have := HE4.out.size; simp; omega) ?_; intro v5 w5 hown5 hgrow5 hnil5; have HE5 : Hid (Boxd w w5 z) := (HE4.out.drew.alloc _).grown hgrow5 (fun q hq => (HO4.out.lt q hq).1); have HO5 : Hid (w5.ownsRow (w.heap.size + 1) 39 5 v5 (0 + k + 1) ([] ++ cellsZ (zs.take k) ++ cellsZ [z])) := hown5; have HN5 : Hid (NodesAt w5 b off zs) := HN.out.2.ext HN.out.1 HE5.out.ext; clear hown5 hgrow5 hnil5))
        all_goals go_wp2
        all_goals
          obtain ⟨g, a6, cap6, hg6, rfl, hO6⟩ := zret_own3 (rs := zs.take k ++ z :: zs.drop k) HO6.out (by simp; omega) (by rw [cellsZ_append]; simp [cellsZ])
          go_ret
          exact ⟨_, g, rfl, by omega, by rw [HRS.out]; exact hO6, HE6.out.ext⟩
    · have HC : Hid (Tre.cut zs (Tre.key z) = k) := Tre.cut_eq hk HA.out (fun x hx => by have := (List.getElem?_eq_some_iff.1 hx).1; omega)
      go_wp2
      go_region
      generalize hw1 : wr.drew = w1
      have HE1 : Hid (Boxd w w1 z) := by show Boxd _ _ _; rw [← hw1]; exact HE.out.drew
      clear hw1 c0 HE
      have HRS : Hid (rs = zs.take k ++ z :: zs.drop k) := by show _ = _; rw [← HR.out]; unfold Tre.putT; rw [HC.out]
      obtain ⟨A, hA, HSrc⟩ : ∃ A : Addr, (if cap = k then some (⟨b, off, none⟩ : Addr) else some ⟨b, off + k * 5, none⟩) = some A ∧ Hid (∀ wy : World, NodesAt wy b off zs → ∀ j u, (cellsZ (zs.drop k))[j]? = some u → wy.cell? (A.add j) = some u) := by
        by_cases h : cap = k
        · refine ⟨⟨b, off, none⟩, by simp [h], fun wy _ t u hu => ?_⟩
          rw [List.drop_of_length_le (by omega)] at hu
          simp [cellsZ] at hu
        · refine ⟨⟨b, off + k * 5, none⟩, by simp [h], fun wy hN => (hN.drop k).news⟩
      have hkc : k ≤ cap := by omega
      have hlt5 : (cellsZ (zs.take k)).length = k * 5 := by rw [cellsZ_length, List.length_take]; omega
      have hld : (cellsZ (zs.drop k)).length = (zs.length - k) * 5 := by rw [cellsZ_length, List.length_drop]
      have HN0 : Hid (NodesAt (w1.alloc (.cells #[] 39)) b off zs) := HN.out.2.ext HN.out.1 (HE1.out.alloc _).ext
      have HO : Hid ((w1.alloc (.cells #[] 39)).ownsRow (w.heap.size + 1) 39 5 (.slice (some ⟨w1.heap.size, 0, none⟩) 0 0) 0 []) := World.ownsRow_made w1 #[] 0 HE1.out.size (by unfold maxLen; omega) rfl
      have hbl1 : b < w1.heap.size := Nat.lt_of_lt_of_le hb HE1.out.ext.size
      go_wp2_with (at_builtin; refine wpList_append_own _ rfl _ _ 24 rfl (w.heap.size + 1) 39 i0 (.agg #[.string ByteArray.empty, .int .i64 0, .int .i64 0, .int .i64 0, .int .i64 0]) 5 48 Tryz.underlying24 hi hz0 hz1 hz2 rfl (by decide) (.slice (some ⟨w1.heap.size, 0, none⟩) 0 0) 0 [] rfl HO.out ⟨b, off, none⟩ k _ (cellsZ (zs.take k)) rfl hlt5 (HN0.out.take k).news (cellsZ_one _) (by unfold maxLen; omega) (by omega) (by have := HE1.out.size; simp; omega) ?_; intro v4 w4 hown4 hgrow4 hnil4)
      have HE4 : Hid (Boxd w w4 z) := (HE1.out.alloc _).grown hgrow4 (fun q hq => (HO.out.lt q hq).1)
      have HO4 : Hid (w4.ownsRow (w.heap.size + 1) 39 5 v4 (0 + k) ([] ++ cellsZ (zs.take k))) := hown4
      obtain ⟨c0, c1, c2, c3, c4⟩ := HE4.out.cells
      have hwl : w.heap.size < w4.heap.size := by have := HE4.out.size; omega
      clear hown4 hgrow4 hnil4
      go_region_law (first | (refine step_append_own _ rfl (.tmp 31) (.tmp 34) 24 rfl (w.heap.size + 1) 39 i0 (.agg #[.string ByteArray.empty, .int .i64 0, .int .i64 0, .int .i64 0, .int .i64 0]) 5 48 Tryz.underlying24 hi hz0 hz1 hz2 rfl (by decide) v5 (0 + k + 1) ([] ++ cellsZ (zs.take k) ++ cellsZ [z]) (by simp [Act.eval]) HO5.out A (zs.length - k) (cap - k) (cellsZ (zs.drop k)) (by simp [Act.eval]) hld (HSrc.out w5 HN5.out) (cellsZ_one _) (by unfold maxLen; omega) (by omega) (by have := HE5.out.size; omega) ?_; intro v6 w6 hown6 hgrow6 hnil6; have HE6 : Hid (Boxd w w6 z) := HE5.out.grown hgrow6 (fun q hq => (HO5.out.lt q hq).1); have HO6 : Hid (w6.ownsRow (w.heap.size + 1) 39 5 v6 (0 + k + 1 + (zs.length - k)) ([] ++ cellsZ (zs.take k) ++ cellsZ [z] ++ cellsZ (zs.drop k))) := hown6; clear hown6 hgrow6 hnil6) | (refine step_append_own _ rfl (.tmp 28) (.tmp 30) 24 rfl (w.heap.size + 1) 39 i0 (.agg #[.string ByteArray.empty, .int .i64 0, .int .i64 0, .int .i64 0, .int .i64 0]) 5 48 Tryz.underlying24 hi hz0 hz1 hz2 rfl (by decide) v4 (0 + k) ([] ++ cellsZ (zs.take k)) (by simp [Act.eval]) (World.ownsRow.alloc (w := w4.drew) HO4.out _) ⟨w4.heap.size, 0, none⟩ 1 1 (cellsZ [z]) (by simp [Act.eval]) rfl (cells_new w4.drew z _) (cellsZ_one _) (by unfold maxLen; omega) (by omega) (by have := HE4.out.size; simp; omega) ?_; intro v5 w5 hown5 hgrow5 hnil5; have HE5 : Hid (Boxd w w5 z) := (HE4.out.drew.alloc _).grown hgrow5 (fun q hq => (HO4.out.lt q hq).1); have HO5 : Hid (w5.ownsRow (w.heap.size + 1) 39 5 v5 (0 + k + 1) ([] ++ cellsZ (zs.take k) ++ cellsZ [z])) := hown5; have HN5 : Hid (NodesAt w5 b off zs) := HN.out.2.ext HN.out.1 HE5.out.ext; clear hown5 hgrow5 hnil5))
      all_goals go_wp2
      all_goals
        obtain ⟨g, a6, cap6, hg6, rfl, hO6⟩ := zret_own3 (rs := zs.take k ++ z :: zs.drop k) HO6.out (by simp; omega) (by rw [cellsZ_append]; simp [cellsZ])
        go_ret
        exact ⟨_, g, rfl, by omega, by rw [HRS.out]; exact hO6, HE6.out.ext⟩
end Go.Proofs.YtmiffefnpendoaaGreatDoor

/- the specification's digits: l1Digits at a digit, l1Seq: what they answer. -/
namespace Go.Proofs.YtmiffefnpendoaaGreatDoor
open Go.RowKit

def dig (d : Int) : ByteArray := mkB [UInt8.ofNat (48 + d.toNat)]

set_option maxHeartbeats 1000000 in
set_option maxRecDepth 100000 in
theorem l1Digits_digit (d : Int) (w : World) (h0 : 0 ≤ d) (h9 : d ≤ 9) :
    Calls Tryz.prog 128 #[.int .i64 d] w fun e w' => e = .returned (.string (dig d)) ∧ Ext w w' := by
  have hcv := conv_one
  have hd : d = 0 ∨ d = 1 ∨ d = 2 ∨ d = 3 ∨ d = 4 ∨ d = 5 ∨ d = 6 ∨ d = 7 ∨ d = 8 ∨ d = 9 := by omega
  clear h0 h9
  rcases hd with rfl | rfl | rfl | rfl | rfl | rfl | rfl | rfl | rfl | rfl
  all_goals
    go_enter Tryz.func128, Tryz.ntmps128
    go_wp2
    go_ret
    exact ⟨rfl, (Ext.refl _).alloc _⟩

theorem dig_size (d : Int) : (dig d).size = 1 := by
  show (mkB _).size = 1
  rw [← len_eq, mkB_list]; rfl

theorem seq_list (s : ByteArray) (n : Int) (h0 : 0 ≤ n) : (s ++ dig (n / 10) ++ dig (n % 10)).data.toList = Pth.seqd s.data.toList n.toNat := by
  have e1 : (n / 10).toNat = n.toNat / 10 := by omega
  have e2 : (n % 10).toNat = n.toNat % 10 := by omega
  unfold Pth.seqd dig
  rw [e1, e2]
  simp [ByteArray.data_append, mkB]

set_option maxHeartbeats 1000000 in
theorem l1Seq_any (s : ByteArray) (n : Int) (w : World) (hs : s.size ≤ 1048576) (h0 : 0 ≤ n) (h9 : n ≤ 99) :
    Calls Tryz.prog 112 #[.string s, .int .i64 n] w fun e w' => e = .returned (.string (s ++ dig (n / 10) ++ dig (n % 10))) ∧ Ext w w' := by
  have z1 := dig_size (n / 10)
  have z2 := dig_size (n % 10)
  go_enter Tryz.func112, Tryz.ntmps112
  go_wp2_with fail
  refine (l1Digits_digit (n / 10) _ (by omega) (by omega)).mono ?_
  rintro e w1 ⟨rfl, hb⟩
  have HB : Hid (Ext w w1) := hb
  clear hb
  go_wp2_with fail
  refine (l1Digits_digit (n % 10) _ (by omega) (by omega)).mono ?_
  rintro e w2 ⟨rfl, hb⟩
  go_wp2
  go_ret
  exact ⟨rfl, HB.out.trans hb⟩
end Go.Proofs.YtmiffefnpendoaaGreatDoor

/- l2Create. -/
namespace Go.Proofs.YtmiffefnpendoaaGreatDoor
open Go.RowKit
namespace Tre
def okOwner (o : Int) : Bool := decide (0 ≤ o) && decide (o ≤ 9)
def seqN (p : ByteArray) (n : Int) : ByteArray := lastName p ++ dig (n / 10) ++ dig (n % 10)
def seqP (p : ByteArray) (n : Int) : ByteArray := mkB (Pth.joined (par p).data.toList (seqN p n).data.toList)
/-- The path that a numbered node gets, and the nodes with the parent's number turned on. -/
def seqT (zs : List Zn) (p : ByteArray) (k : Nat) (y : Zn) : Int × ByteArray × List Zn :=
  if 100 ≤ y.next then (3, ⟨#[]⟩, [])
  else if Pth.okName (seqN p y.next).data.toList = false then (5, ⟨#[]⟩, [])
  else if Pth.faultI (seqP p y.next).data.toList ≠ 0 then (Pth.faultI (seqP p y.next).data.toList, ⟨#[]⟩, [])
  else (0, seqP p y.next, zs.set k { y with next := y.next + 1 })
def finT (zs : List Zn) (p : ByteArray) (bs : List Zn) (d o : Int) : Int × ByteArray × List Zn :=
  if 0 ≤ atI zs p then (6, ⟨#[]⟩, []) else if 20 ≤ zs.length then (2, ⟨#[]⟩, []) else (0, p, putT bs ⟨p, d, 0, o, 0⟩)
def createT (zs : List Zn) (p : ByteArray) (d o : Int) (q : Bool) : Int × ByteArray × List Zn :=
  if (okData d && okOwner o) = false then (3, ⟨#[]⟩, [])
  else if (p.toList == [47]) = true then (1, ⟨#[]⟩, [])
  else if atI zs (par p) < 0 then (4, ⟨#[]⟩, [])
  else match zs[(atI zs (par p)).toNat]? with
    | none => (4, ⟨#[]⟩, [])
    | some y => if y.owner ≠ 0 then (8, ⟨#[]⟩, [])
      else if q = true then (if (seqT zs p (atI zs (par p)).toNat y).1 ≠ 0 then ((seqT zs p (atI zs (par p)).toNat y).1, ⟨#[]⟩, []) else finT zs (seqT zs p (atI zs (par p)).toNat y).2.1 (seqT zs p (atI zs (par p)).toNat y).2.2 d o)
      else finT zs p zs d o
theorem createT_range {zs : List Zn} {p : ByteArray} {d o : Int} {q : Bool} (h : (okData d && okOwner o) = false) : createT zs p d o q = (3, ⟨#[]⟩, []) := by unfold createT; rw [if_pos h]
theorem createT_top {zs : List Zn} {p : ByteArray} {d o : Int} {q : Bool} (h : (okData d && okOwner o) = true) (ht : (p.toList == [47]) = true) : createT zs p d o q = (1, ⟨#[]⟩, []) := by unfold createT; rw [if_neg (by rw [h]; simp), if_pos ht]
theorem createT_none {zs : List Zn} {p : ByteArray} {d o : Int} {q : Bool} (h : (okData d && okOwner o) = true) (ht : (p.toList == [47]) = false) (ha : atI zs (par p) < 0) : createT zs p d o q = (4, ⟨#[]⟩, []) := by unfold createT; rw [if_neg (by rw [h]; simp), if_neg (by rw [ht]; simp), if_pos ha]
theorem createT_some {zs : List Zn} {p : ByteArray} {d o : Int} {q : Bool} {k : Nat} {y : Zn} (h : (okData d && okOwner o) = true) (ht : (p.toList == [47]) = false) (ha : atI zs (par p) = k) (hy : zs[k]? = some y) : createT zs p d o q = if y.owner ≠ 0 then (8, ⟨#[]⟩, []) else if q = true then (if (seqT zs p k y).1 ≠ 0 then ((seqT zs p k y).1, ⟨#[]⟩, []) else finT zs (seqT zs p k y).2.1 (seqT zs p k y).2.2 d o) else finT zs p zs d o := by
  unfold createT
  rw [if_neg (by rw [h]; simp), if_neg (by rw [ht]; simp), ha, if_neg (by omega), Int.toNat_natCast, hy]
theorem finT_taken {zs bs : List Zn} {p : ByteArray} {d o : Int} (h : 0 ≤ atI zs p) : finT zs p bs d o = (6, ⟨#[]⟩, []) := by unfold finT; rw [if_pos h]
theorem finT_many {zs bs : List Zn} {p : ByteArray} {d o : Int} (h : ¬ 0 ≤ atI zs p) (h2 : 20 ≤ zs.length) : finT zs p bs d o = (2, ⟨#[]⟩, []) := by unfold finT; rw [if_neg h, if_pos h2]
theorem finT_ok {zs bs : List Zn} {p : ByteArray} {d o : Int} (h : ¬ 0 ≤ atI zs p) (h2 : ¬ 20 ≤ zs.length) : finT zs p bs d o = (0, p, putT bs ⟨p, d, 0, o, 0⟩) := by unfold finT; rw [if_neg h, if_neg h2]
theorem seqN_size (p : ByteArray) (n : Int) : (seqN p n).size ≤ p.size + 2 := by
  have h1 := dig_size (n / 10)
  have h2 := dig_size (n % 10)
  have h3 : (lastName p).size ≤ p.size := by unfold lastName; simp [ByteArray.size_extract]
  unfold seqN
  simp only [ByteArray.size_append]
  omega
theorem par_size (p : ByteArray) : (par p).size ≤ p.size + 1 := by
  unfold par
  rw [← len_eq, mkB_list]
  split
  · simp
  · rw [List.length_take, len_eq]; omega
end Tre
theorem RBox.updS {w w2 : World} {r b : Nat} (h : RBox w r) (he : Upd b w w2) (hne : r ≠ b) : RBox w2 r := by
  obtain ⟨h1, h2, h3, h4, h5, h6, h7⟩ := h
  exact ⟨Nat.lt_of_lt_of_le h1 he.2.1, (he.at_ne _ _ hne h1).1.trans h2, (he.at_ne _ _ hne h1).1.trans h3, (he.at_ne _ _ hne h1).1.trans h4, (he.at_ne _ _ hne h1).2.trans h5, (he.at_ne _ _ hne h1).2.trans h6, (he.at_ne _ _ hne h1).2.trans h7⟩

set_option maxHeartbeats 4000000 in
set_option maxRecDepth 100000 in
theorem l2Create_data (b off cap : Nat) (zs : List Zn) (p : ByteArray) (d o : Int) (q : Bool) (w : World) (hS : NSlice w (.slice (some ⟨b, off, none⟩) zs.length cap) zs) (hl : zs.length ≤ 1000) (hp : 0 < zs.length) (hf : Pth.faultI p.data.toList = 0) (hd : Tre.okData d = false) :
    Calls Tryz.prog 52 #[.slice (some ⟨b, off, none⟩) zs.length cap, .string p, .int .i64 d, .int .i64 o, .bool q] w (ZRet w 3 ⟨#[]⟩ []) := by
  have HS : Hid (NSlice w (.slice (some ⟨b, off, none⟩) zs.length cap) zs) := hS
  have h24 := few_of_ok hf
  have HD : Hid (∀ wx : World, Calls Tryz.prog 106 #[.int .i64 d] wx fun e w' => e = .returned (.bool (Tre.okData d)) ∧ w' = wx) := l2Data_any d
  have HW : Hid (∀ wx : World, Calls Tryz.prog 107 #[.int .i64 o] wx fun e w' => e = .returned (.bool (Tre.okOwner o)) ∧ w' = wx) := l2Owner_any o
  have HP : Hid (∀ wx : World, Calls Tryz.prog 108 #[.string p] wx fun e w' => e = .returned (.string (Tre.par p)) ∧ w' = wx) := fun wx => l1Parent_any p wx h24
  have HT : Hid (∀ (wx : World) (s : ByteArray), Ext w wx → Calls Tryz.prog 62 #[.slice (some ⟨b, off, none⟩) zs.length cap, .string s] wx fun e w' => e = .returned (.int .i64 (Tre.atI zs s)) ∧ w' = wx) := fun wx s h => l2At_any _ zs s wx (hS.ext h)
  have HB0 : Hid (∀ (c : Int) (wx : World), Calls Tryz.prog 51 #[.int .i64 c] wx fun e w' => e = .returned (zr c ⟨#[]⟩ (.slice none 0 0)) ∧ Ext wx w') := l2Bad_any
  unfold zr at HB0
  have HC : Hid (∀ wx : World, Ext w wx → Calls Tryz.prog 109 #[.slice (some ⟨b, off, none⟩) zs.length cap] wx fun e w' => ∃ v' g, e = .returned v' ∧ wx.heap.size ≤ g ∧ Own w' v' g zs ∧ Ext wx w') := fun wx h => l2Copy_any _ zs wx (hS.ext h) (by omega) hp
  obtain ⟨a', cap', he, hlc, hcm, hx⟩ := hS
  injection he with e1 _ e3
  subst e1 e3
  obtain ⟨b', off', he, hb, hN⟩ := hx hp
  injection he with he
  injection he with e1 e2 _
  subst e1 e2
  have HN : Hid (b < w.heap.size ∧ NodesAt w b off zs) := ⟨hb, hN⟩
  clear hx hN
  unfold maxLen at hcm
  rw [hd] at HD
  go_enter Tryz.func52, Tryz.ntmps52
  go_wp2_with fail
  refine (HD.out _).mono ?_
  rintro e w0 ⟨rfl, rfl⟩
  go_wp2_with fail
  refine (HB0.out _ _).mono ?_
  rintro e w9 ⟨rfl, hb9⟩
  obtain ⟨q9, q0, q1, q2, f0, f1, f2⟩ := (RBox.new w _).ext hb9
  have HB9 : Hid (Ext w w9) := ((Ext.refl _).alloc _).trans hb9
  clear hb9
  go_wp2
  exact bodyPost_ret (v := zr 3 ⟨#[]⟩ (.slice none 0 0)) (by simp [results, Tryz.results52, go_sem, zr, q0, q1, q2]) rfl (zret_bad _ _ (HB9.out.box3 _ _ _))

set_option maxHeartbeats 4000000 in
set_option maxRecDepth 100000 in
theorem l2Create_owner (b off cap : Nat) (zs : List Zn) (p : ByteArray) (d o : Int) (q : Bool) (w : World) (hS : NSlice w (.slice (some ⟨b, off, none⟩) zs.length cap) zs) (hl : zs.length ≤ 1000) (hp : 0 < zs.length) (hf : Pth.faultI p.data.toList = 0) (hd : Tre.okData d = true) (ho : Tre.okOwner o = false) :
    Calls Tryz.prog 52 #[.slice (some ⟨b, off, none⟩) zs.length cap, .string p, .int .i64 d, .int .i64 o, .bool q] w (ZRet w 3 ⟨#[]⟩ []) := by
  have HS : Hid (NSlice w (.slice (some ⟨b, off, none⟩) zs.length cap) zs) := hS
  have h24 := few_of_ok hf
  have HD : Hid (∀ wx : World, Calls Tryz.prog 106 #[.int .i64 d] wx fun e w' => e = .returned (.bool (Tre.okData d)) ∧ w' = wx) := l2Data_any d
  have HW : Hid (∀ wx : World, Calls Tryz.prog 107 #[.int .i64 o] wx fun e w' => e = .returned (.bool (Tre.okOwner o)) ∧ w' = wx) := l2Owner_any o
  have HP : Hid (∀ wx : World, Calls Tryz.prog 108 #[.string p] wx fun e w' => e = .returned (.string (Tre.par p)) ∧ w' = wx) := fun wx => l1Parent_any p wx h24
  have HT : Hid (∀ (wx : World) (s : ByteArray), Ext w wx → Calls Tryz.prog 62 #[.slice (some ⟨b, off, none⟩) zs.length cap, .string s] wx fun e w' => e = .returned (.int .i64 (Tre.atI zs s)) ∧ w' = wx) := fun wx s h => l2At_any _ zs s wx (hS.ext h)
  have HB0 : Hid (∀ (c : Int) (wx : World), Calls Tryz.prog 51 #[.int .i64 c] wx fun e w' => e = .returned (zr c ⟨#[]⟩ (.slice none 0 0)) ∧ Ext wx w') := l2Bad_any
  unfold zr at HB0
  have HC : Hid (∀ wx : World, Ext w wx → Calls Tryz.prog 109 #[.slice (some ⟨b, off, none⟩) zs.length cap] wx fun e w' => ∃ v' g, e = .returned v' ∧ wx.heap.size ≤ g ∧ Own w' v' g zs ∧ Ext wx w') := fun wx h => l2Copy_any _ zs wx (hS.ext h) (by omega) hp
  obtain ⟨a', cap', he, hlc, hcm, hx⟩ := hS
  injection he with e1 _ e3
  subst e1 e3
  obtain ⟨b', off', he, hb, hN⟩ := hx hp
  injection he with he
  injection he with e1 e2 _
  subst e1 e2
  have HN : Hid (b < w.heap.size ∧ NodesAt w b off zs) := ⟨hb, hN⟩
  clear hx hN
  unfold maxLen at hcm
  rw [hd] at HD
  rw [ho] at HW
  go_enter Tryz.func52, Tryz.ntmps52
  go_wp2_with fail
  refine (HD.out _).mono ?_
  rintro e w0 ⟨rfl, rfl⟩
  go_wp2_with fail
  refine (HW.out _).mono ?_
  rintro e w0 ⟨rfl, rfl⟩
  go_wp2_with fail
  refine (HB0.out _ _).mono ?_
  rintro e w9 ⟨rfl, hb9⟩
  obtain ⟨q9, q0, q1, q2, f0, f1, f2⟩ := (RBox.new w _).ext hb9
  have HB9 : Hid (Ext w w9) := ((Ext.refl _).alloc _).trans hb9
  clear hb9
  go_wp2
  exact bodyPost_ret (v := zr 3 ⟨#[]⟩ (.slice none 0 0)) (by simp [results, Tryz.results52, go_sem, zr, q0, q1, q2]) rfl (zret_bad _ _ (HB9.out.box3 _ _ _))

set_option maxHeartbeats 4000000 in
set_option maxRecDepth 100000 in
theorem l2Create_top (b off cap : Nat) (zs : List Zn) (p : ByteArray) (d o : Int) (q : Bool) (w : World) (hS : NSlice w (.slice (some ⟨b, off, none⟩) zs.length cap) zs) (hl : zs.length ≤ 1000) (hp : 0 < zs.length) (hf : Pth.faultI p.data.toList = 0) (hd : Tre.okData d = true) (ho : Tre.okOwner o = true) (ht : (p.toList == [47]) = true) :
    Calls Tryz.prog 52 #[.slice (some ⟨b, off, none⟩) zs.length cap, .string p, .int .i64 d, .int .i64 o, .bool q] w (ZRet w 1 ⟨#[]⟩ []) := by
  have HS : Hid (NSlice w (.slice (some ⟨b, off, none⟩) zs.length cap) zs) := hS
  have h24 := few_of_ok hf
  have HD : Hid (∀ wx : World, Calls Tryz.prog 106 #[.int .i64 d] wx fun e w' => e = .returned (.bool (Tre.okData d)) ∧ w' = wx) := l2Data_any d
  have HW : Hid (∀ wx : World, Calls Tryz.prog 107 #[.int .i64 o] wx fun e w' => e = .returned (.bool (Tre.okOwner o)) ∧ w' = wx) := l2Owner_any o
  have HP : Hid (∀ wx : World, Calls Tryz.prog 108 #[.string p] wx fun e w' => e = .returned (.string (Tre.par p)) ∧ w' = wx) := fun wx => l1Parent_any p wx h24
  have HT : Hid (∀ (wx : World) (s : ByteArray), Ext w wx → Calls Tryz.prog 62 #[.slice (some ⟨b, off, none⟩) zs.length cap, .string s] wx fun e w' => e = .returned (.int .i64 (Tre.atI zs s)) ∧ w' = wx) := fun wx s h => l2At_any _ zs s wx (hS.ext h)
  have HB0 : Hid (∀ (c : Int) (wx : World), Calls Tryz.prog 51 #[.int .i64 c] wx fun e w' => e = .returned (zr c ⟨#[]⟩ (.slice none 0 0)) ∧ Ext wx w') := l2Bad_any
  unfold zr at HB0
  have HC : Hid (∀ wx : World, Ext w wx → Calls Tryz.prog 109 #[.slice (some ⟨b, off, none⟩) zs.length cap] wx fun e w' => ∃ v' g, e = .returned v' ∧ wx.heap.size ≤ g ∧ Own w' v' g zs ∧ Ext wx w') := fun wx h => l2Copy_any _ zs wx (hS.ext h) (by omega) hp
  obtain ⟨a', cap', he, hlc, hcm, hx⟩ := hS
  injection he with e1 _ e3
  subst e1 e3
  obtain ⟨b', off', he, hb, hN⟩ := hx hp
  injection he with he
  injection he with e1 e2 _
  subst e1 e2
  have HN : Hid (b < w.heap.size ∧ NodesAt w b off zs) := ⟨hb, hN⟩
  clear hx hN
  unfold maxLen at hcm
  rw [hd] at HD
  rw [ho] at HW
  go_enter Tryz.func52, Tryz.ntmps52
  go_wp2_with fail
  refine (HD.out _).mono ?_
  rintro e w0 ⟨rfl, rfl⟩
  go_wp2_with fail
  refine (HW.out _).mono ?_
  rintro e w0 ⟨rfl, rfl⟩
  go_wp2_with fail
  refine (HB0.out _ _).mono ?_
  rintro e w9 ⟨rfl, hb9⟩
  obtain ⟨q9, q0, q1, q2, f0, f1, f2⟩ := (RBox.new w _).ext hb9
  have HB9 : Hid (Ext w w9) := ((Ext.refl _).alloc _).trans hb9
  clear hb9
  go_wp2
  exact bodyPost_ret (v := zr 1 ⟨#[]⟩ (.slice none 0 0)) (by simp [results, Tryz.results52, go_sem, zr, q0, q1, q2]) rfl (zret_bad _ _ (HB9.out.box3 _ _ _))

set_option maxHeartbeats 4000000 in
set_option maxRecDepth 100000 in
theorem l2Create_none (b off cap : Nat) (zs : List Zn) (p : ByteArray) (d o : Int) (q : Bool) (w : World) (hS : NSlice w (.slice (some ⟨b, off, none⟩) zs.length cap) zs) (hl : zs.length ≤ 1000) (hp : 0 < zs.length) (hf : Pth.faultI p.data.toList = 0) (hd : Tre.okData d = true) (ho : Tre.okOwner o = true) (ht : (p.toList == [47]) = false) (ha : Tre.atI zs (Tre.par p) < 0) :
    Calls Tryz.prog 52 #[.slice (some ⟨b, off, none⟩) zs.length cap, .string p, .int .i64 d, .int .i64 o, .bool q] w (ZRet w 4 ⟨#[]⟩ []) := by
  have HS : Hid (NSlice w (.slice (some ⟨b, off, none⟩) zs.length cap) zs) := hS
  have h24 := few_of_ok hf
  have HD : Hid (∀ wx : World, Calls Tryz.prog 106 #[.int .i64 d] wx fun e w' => e = .returned (.bool (Tre.okData d)) ∧ w' = wx) := l2Data_any d
  have HW : Hid (∀ wx : World, Calls Tryz.prog 107 #[.int .i64 o] wx fun e w' => e = .returned (.bool (Tre.okOwner o)) ∧ w' = wx) := l2Owner_any o
  have HP : Hid (∀ wx : World, Calls Tryz.prog 108 #[.string p] wx fun e w' => e = .returned (.string (Tre.par p)) ∧ w' = wx) := fun wx => l1Parent_any p wx h24
  have HT : Hid (∀ (wx : World) (s : ByteArray), Ext w wx → Calls Tryz.prog 62 #[.slice (some ⟨b, off, none⟩) zs.length cap, .string s] wx fun e w' => e = .returned (.int .i64 (Tre.atI zs s)) ∧ w' = wx) := fun wx s h => l2At_any _ zs s wx (hS.ext h)
  have HB0 : Hid (∀ (c : Int) (wx : World), Calls Tryz.prog 51 #[.int .i64 c] wx fun e w' => e = .returned (zr c ⟨#[]⟩ (.slice none 0 0)) ∧ Ext wx w') := l2Bad_any
  unfold zr at HB0
  have HC : Hid (∀ wx : World, Ext w wx → Calls Tryz.prog 109 #[.slice (some ⟨b, off, none⟩) zs.length cap] wx fun e w' => ∃ v' g, e = .returned v' ∧ wx.heap.size ≤ g ∧ Own w' v' g zs ∧ Ext wx w') := fun wx h => l2Copy_any _ zs wx (hS.ext h) (by omega) hp
  obtain ⟨a', cap', he, hlc, hcm, hx⟩ := hS
  injection he with e1 _ e3
  subst e1 e3
  obtain ⟨b', off', he, hb, hN⟩ := hx hp
  injection he with he
  injection he with e1 e2 _
  subst e1 e2
  have HN : Hid (b < w.heap.size ∧ NodesAt w b off zs) := ⟨hb, hN⟩
  clear hx hN
  unfold maxLen at hcm
  rw [hd] at HD
  rw [ho] at HW
  have HT1 := HT.out
  generalize hpp : Tre.par p = pp at *
  generalize hat : Tre.atI zs pp = t at *
  have HT2 : Hid (∀ (wx : World), Ext w wx → Calls Tryz.prog 62 #[.slice (some ⟨b, off, none⟩) zs.length cap, .string pp] wx fun e w' => e = .returned (.int .i64 t) ∧ w' = wx) := fun wx h => by have := HT1 wx pp h; rw [hat] at this; exact this
  clear HT1 hpp hat
  go_enter Tryz.func52, Tryz.ntmps52
  go_wp2_with fail
  refine (HD.out _).mono ?_
  rintro e w0 ⟨rfl, rfl⟩
  go_wp2_with fail
  refine (HW.out _).mono ?_
  rintro e w0 ⟨rfl, rfl⟩
  go_wp2_with fail
  refine (HP.out _).mono ?_
  rintro e w0 ⟨rfl, rfl⟩
  go_wp2_with fail
  refine (HT2.out _ ((Ext.refl _).alloc _)).mono ?_
  rintro e w0 ⟨rfl, rfl⟩
  go_wp2_with fail
  refine (HB0.out _ _).mono ?_
  rintro e w9 ⟨rfl, hb9⟩
  obtain ⟨q9, q0, q1, q2, f0, f1, f2⟩ := (RBox.new w _).ext hb9
  have HB9 : Hid (Ext w w9) := ((Ext.refl _).alloc _).trans hb9
  clear hb9
  go_wp2
  exact bodyPost_ret (v := zr 4 ⟨#[]⟩ (.slice none 0 0)) (by simp [results, Tryz.results52, go_sem, zr, q0, q1, q2]) rfl (zret_bad _ _ (HB9.out.box3 _ _ _))

set_option maxHeartbeats 4000000 in
set_option maxRecDepth 100000 in
theorem l2Create_owned (b off cap : Nat) (zs : List Zn) (p : ByteArray) (d o : Int) (q : Bool) (w : World) (hS : NSlice w (.slice (some ⟨b, off, none⟩) zs.length cap) zs) (hl : zs.length ≤ 1000) (hp : 0 < zs.length) (hf : Pth.faultI p.data.toList = 0) (hd : Tre.okData d = true) (ho : Tre.okOwner o = true) (ht : (p.toList == [47]) = false) (k : Nat) (y : Zn) (ha : Tre.atI zs (Tre.par p) = k) (hy : zs[k]? = some y) (hw : y.owner ≠ 0) :
    Calls Tryz.prog 52 #[.slice (some ⟨b, off, none⟩) zs.length cap, .string p, .int .i64 d, .int .i64 o, .bool q] w (ZRet w 8 ⟨#[]⟩ []) := by
  have HS : Hid (NSlice w (.slice (some ⟨b, off, none⟩) zs.length cap) zs) := hS
  have h24 := few_of_ok hf
  have HD : Hid (∀ wx : World, Calls Tryz.prog 106 #[.int .i64 d] wx fun e w' => e = .returned (.bool (Tre.okData d)) ∧ w' = wx) := l2Data_any d
  have HW : Hid (∀ wx : World, Calls Tryz.prog 107 #[.int .i64 o] wx fun e w' => e = .returned (.bool (Tre.okOwner o)) ∧ w' = wx) := l2Owner_any o
  have HP : Hid (∀ wx : World, Calls Tryz.prog 108 #[.string p] wx fun e w' => e = .returned (.string (Tre.par p)) ∧ w' = wx) := fun wx => l1Parent_any p wx h24
  have HT : Hid (∀ (wx : World) (s : ByteArray), Ext w wx → Calls Tryz.prog 62 #[.slice (some ⟨b, off, none⟩) zs.length cap, .string s] wx fun e w' => e = .returned (.int .i64 (Tre.atI zs s)) ∧ w' = wx) := fun wx s h => l2At_any _ zs s wx (hS.ext h)
  have HB0 : Hid (∀ (c : Int) (wx : World), Calls Tryz.prog 51 #[.int .i64 c] wx fun e w' => e = .returned (zr c ⟨#[]⟩ (.slice none 0 0)) ∧ Ext wx w') := l2Bad_any
  unfold zr at HB0
  have HC : Hid (∀ wx : World, Ext w wx → Calls Tryz.prog 109 #[.slice (some ⟨b, off, none⟩) zs.length cap] wx fun e w' => ∃ v' g, e = .returned v' ∧ wx.heap.size ≤ g ∧ Own w' v' g zs ∧ Ext wx w') := fun wx h => l2Copy_any _ zs wx (hS.ext h) (by omega) hp
  obtain ⟨a', cap', he, hlc, hcm, hx⟩ := hS
  injection he with e1 _ e3
  subst e1 e3
  obtain ⟨b', off', he, hb, hN⟩ := hx hp
  injection he with he
  injection he with e1 e2 _
  subst e1 e2
  have HN : Hid (b < w.heap.size ∧ NodesAt w b off zs) := ⟨hb, hN⟩
  clear hx hN
  unfold maxLen at hcm
  rw [hd] at HD
  rw [ho] at HW
  have hkl := (List.getElem?_eq_some_iff.1 hy).1
  have HY : Hid (zs[k]? = some y) := hy
  have HTp : Hid (∀ (wx : World), Ext w wx → Calls Tryz.prog 62 #[.slice (some ⟨b, off, none⟩) zs.length cap, .string (Tre.par p)] wx fun e w' => e = .returned (.int .i64 k) ∧ w' = wx) := fun wx h => by have := HT.out wx (Tre.par p) h; rw [ha] at this; exact this
  have HDy : Hid (∀ wx : World, Ext w wx → wx.cell? ⟨b, off + k * 5 + 3, none⟩ = some (.int .i64 y.owner) ∧ wx.cell? ⟨b, off + k * 5 + 4, none⟩ = some (.int .i64 y.next)) := fun wx h => ⟨(HN.out.2.ext HN.out.1 h k y HY.out).2.2.2.1, (HN.out.2.ext HN.out.1 h k y HY.out).2.2.2.2⟩
  clear hy ha
  have hw1 : (y.owner != 0) = true := by simpa using hw
  clear hw
  go_enter Tryz.func52, Tryz.ntmps52
  go_wp2_with fail
  refine (HD.out _).mono ?_
  rintro e w0 ⟨rfl, rfl⟩
  go_wp2_with fail
  refine (HW.out _).mono ?_
  rintro e w0 ⟨rfl, rfl⟩
  go_wp2_with fail
  refine (HP.out _).mono ?_
  rintro e w0 ⟨rfl, rfl⟩
  go_wp2_with fail
  refine (HTp.out _ ((Ext.refl _).alloc _)).mono ?_
  rintro e w0 ⟨rfl, rfl⟩
  have hdy := (HDy.out _ ((Ext.refl w).alloc (.cells #[.int .i64 0, .string ⟨#[]⟩, .slice none 0 0] 28))).1
  go_wp2_with fail
  refine (HB0.out _ _).mono ?_
  rintro e w9 ⟨rfl, hb9⟩
  obtain ⟨q9, q0, q1, q2, f0, f1, f2⟩ := (RBox.new w _).ext hb9
  have HB9 : Hid (Ext w w9) := ((Ext.refl _).alloc _).trans hb9
  clear hb9
  go_wp2
  exact bodyPost_ret (v := zr 8 ⟨#[]⟩ (.slice none 0 0)) (by simp [results, Tryz.results52, go_sem, zr, q0, q1, q2]) rfl (zret_bad _ _ (HB9.out.box3 _ _ _))

set_option maxHeartbeats 4000000 in
set_option maxRecDepth 100000 in
theorem l2Create_p6 (b off cap : Nat) (zs : List Zn) (p : ByteArray) (d o : Int) (q : Bool) (w : World) (hS : NSlice w (.slice (some ⟨b, off, none⟩) zs.length cap) zs) (hl : zs.length ≤ 1000) (hp : 0 < zs.length) (hf : Pth.faultI p.data.toList = 0) (hd : Tre.okData d = true) (ho : Tre.okOwner o = true) (ht : (p.toList == [47]) = false) (k : Nat) (y : Zn) (ha : Tre.atI zs (Tre.par p) = k) (hy : zs[k]? = some y) (hw : y.owner = 0) (hq : q = false) (hm : 0 ≤ Tre.atI zs p) :
    Calls Tryz.prog 52 #[.slice (some ⟨b, off, none⟩) zs.length cap, .string p, .int .i64 d, .int .i64 o, .bool q] w (ZRet w 6 ⟨#[]⟩ []) := by
  have HS : Hid (NSlice w (.slice (some ⟨b, off, none⟩) zs.length cap) zs) := hS
  have h24 := few_of_ok hf
  have HD : Hid (∀ wx : World, Calls Tryz.prog 106 #[.int .i64 d] wx fun e w' => e = .returned (.bool (Tre.okData d)) ∧ w' = wx) := l2Data_any d
  have HW : Hid (∀ wx : World, Calls Tryz.prog 107 #[.int .i64 o] wx fun e w' => e = .returned (.bool (Tre.okOwner o)) ∧ w' = wx) := l2Owner_any o
  have HP : Hid (∀ wx : World, Calls Tryz.prog 108 #[.string p] wx fun e w' => e = .returned (.string (Tre.par p)) ∧ w' = wx) := fun wx => l1Parent_any p wx h24
  have HT : Hid (∀ (wx : World) (s : ByteArray), Ext w wx → Calls Tryz.prog 62 #[.slice (some ⟨b, off, none⟩) zs.length cap, .string s] wx fun e w' => e = .returned (.int .i64 (Tre.atI zs s)) ∧ w' = wx) := fun wx s h => l2At_any _ zs s wx (hS.ext h)
  have HB0 : Hid (∀ (c : Int) (wx : World), Calls Tryz.prog 51 #[.int .i64 c] wx fun e w' => e = .returned (zr c ⟨#[]⟩ (.slice none 0 0)) ∧ Ext wx w') := l2Bad_any
  unfold zr at HB0
  have HC : Hid (∀ wx : World, Ext w wx → Calls Tryz.prog 109 #[.slice (some ⟨b, off, none⟩) zs.length cap] wx fun e w' => ∃ v' g, e = .returned v' ∧ wx.heap.size ≤ g ∧ Own w' v' g zs ∧ Ext wx w') := fun wx h => l2Copy_any _ zs wx (hS.ext h) (by omega) hp
  obtain ⟨a', cap', he, hlc, hcm, hx⟩ := hS
  injection he with e1 _ e3
  subst e1 e3
  obtain ⟨b', off', he, hb, hN⟩ := hx hp
  injection he with he
  injection he with e1 e2 _
  subst e1 e2
  have HN : Hid (b < w.heap.size ∧ NodesAt w b off zs) := ⟨hb, hN⟩
  clear hx hN
  unfold maxLen at hcm
  subst hq
  rw [hd] at HD
  rw [ho] at HW
  have hkl := (List.getElem?_eq_some_iff.1 hy).1
  have HY : Hid (zs[k]? = some y) := hy
  have HTp : Hid (∀ (wx : World), Ext w wx → Calls Tryz.prog 62 #[.slice (some ⟨b, off, none⟩) zs.length cap, .string (Tre.par p)] wx fun e w' => e = .returned (.int .i64 k) ∧ w' = wx) := fun wx h => by have := HT.out wx (Tre.par p) h; rw [ha] at this; exact this
  have HDy : Hid (∀ wx : World, Ext w wx → wx.cell? ⟨b, off + k * 5 + 3, none⟩ = some (.int .i64 y.owner) ∧ wx.cell? ⟨b, off + k * 5 + 4, none⟩ = some (.int .i64 y.next)) := fun wx h => ⟨(HN.out.2.ext HN.out.1 h k y HY.out).2.2.2.1, (HN.out.2.ext HN.out.1 h k y HY.out).2.2.2.2⟩
  clear hy ha
  have hw1 : (y.owner != 0) = false := by simp [hw]
  clear hw
  have HT2 : Hid (∀ (wx : World), Ext w wx → Calls Tryz.prog 62 #[.slice (some ⟨b, off, none⟩) zs.length cap, .string p] wx fun e w' => e = .returned (.int .i64 (Tre.atI zs p)) ∧ w' = wx) := fun wx h => HT.out wx p h
  generalize Tre.atI zs p = t at *
  go_enter Tryz.func52, Tryz.ntmps52
  go_wp2_with fail
  refine (HD.out _).mono ?_
  rintro e w0 ⟨rfl, rfl⟩
  go_wp2_with fail
  refine (HW.out _).mono ?_
  rintro e w0 ⟨rfl, rfl⟩
  go_wp2_with fail
  refine (HP.out _).mono ?_
  rintro e w0 ⟨rfl, rfl⟩
  go_wp2_with fail
  refine (HTp.out _ ((Ext.refl _).alloc _)).mono ?_
  rintro e w0 ⟨rfl, rfl⟩
  have hdy := (HDy.out _ ((Ext.refl w).alloc (.cells #[.int .i64 0, .string ⟨#[]⟩, .slice none 0 0] 28))).1
  go_wp2_with fail
  refine (HC.out _ ((Ext.refl _).alloc _)).mono ?_
  rintro e w3 ⟨v3, g, rfl, hg, hO, hb3⟩
  obtain ⟨a3, cap3, rfl, hlc3, hcm3, hx3⟩ := id hO
  obtain ⟨off3, rfl, -, -⟩ := hx3 hp
  have HO : Hid (Own w3 (.slice (some ⟨g, off3, none⟩) zs.length cap3) g zs) := hO
  have HG : Hid (w.heap.size + 1 ≤ g) := by have h := hg; simp at h; exact h
  have HQ : Hid (RBox w3 w.heap.size) := (RBox.new w _).ext hb3
  have HB3 : Hid (Ext w w3) := ((Ext.refl _).alloc _).trans hb3
  clear hb3 hO hg hx3
  unfold maxLen at hcm3
  go_wp2_with fail
  refine (HT2.out _ HB3.out).mono ?_
  rintro e w0 ⟨rfl, rfl⟩
  go_wp2_with fail
  refine (HB0.out _ _).mono ?_
  rintro e w9 ⟨rfl, hb9⟩
  obtain ⟨q9, q0, q1, q2, f0, f1, f2⟩ := (HQ.out).ext hb9
  have HB9 : Hid (Ext w w9) := (HB3.out).trans hb9
  clear hb9
  go_wp2
  exact bodyPost_ret (v := zr 6 ⟨#[]⟩ (.slice none 0 0)) (by simp [results, Tryz.results52, go_sem, zr, q0, q1, q2]) rfl (zret_bad _ _ (HB9.out.box3 _ _ _))

set_option maxHeartbeats 4000000 in
set_option maxRecDepth 100000 in
theorem l2Create_p2 (b off cap : Nat) (zs : List Zn) (p : ByteArray) (d o : Int) (q : Bool) (w : World) (hS : NSlice w (.slice (some ⟨b, off, none⟩) zs.length cap) zs) (hl : zs.length ≤ 1000) (hp : 0 < zs.length) (hf : Pth.faultI p.data.toList = 0) (hd : Tre.okData d = true) (ho : Tre.okOwner o = true) (ht : (p.toList == [47]) = false) (k : Nat) (y : Zn) (ha : Tre.atI zs (Tre.par p) = k) (hy : zs[k]? = some y) (hw : y.owner = 0) (hq : q = false) (hm : ¬ 0 ≤ Tre.atI zs p) (h20 : 20 ≤ zs.length) :
    Calls Tryz.prog 52 #[.slice (some ⟨b, off, none⟩) zs.length cap, .string p, .int .i64 d, .int .i64 o, .bool q] w (ZRet w 2 ⟨#[]⟩ []) := by
  have HS : Hid (NSlice w (.slice (some ⟨b, off, none⟩) zs.length cap) zs) := hS
  have h24 := few_of_ok hf
  have HD : Hid (∀ wx : World, Calls Tryz.prog 106 #[.int .i64 d] wx fun e w' => e = .returned (.bool (Tre.okData d)) ∧ w' = wx) := l2Data_any d
  have HW : Hid (∀ wx : World, Calls Tryz.prog 107 #[.int .i64 o] wx fun e w' => e = .returned (.bool (Tre.okOwner o)) ∧ w' = wx) := l2Owner_any o
  have HP : Hid (∀ wx : World, Calls Tryz.prog 108 #[.string p] wx fun e w' => e = .returned (.string (Tre.par p)) ∧ w' = wx) := fun wx => l1Parent_any p wx h24
  have HT : Hid (∀ (wx : World) (s : ByteArray), Ext w wx → Calls Tryz.prog 62 #[.slice (some ⟨b, off, none⟩) zs.length cap, .string s] wx fun e w' => e = .returned (.int .i64 (Tre.atI zs s)) ∧ w' = wx) := fun wx s h => l2At_any _ zs s wx (hS.ext h)
  have HB0 : Hid (∀ (c : Int) (wx : World), Calls Tryz.prog 51 #[.int .i64 c] wx fun e w' => e = .returned (zr c ⟨#[]⟩ (.slice none 0 0)) ∧ Ext wx w') := l2Bad_any
  unfold zr at HB0
  have HC : Hid (∀ wx : World, Ext w wx → Calls Tryz.prog 109 #[.slice (some ⟨b, off, none⟩) zs.length cap] wx fun e w' => ∃ v' g, e = .returned v' ∧ wx.heap.size ≤ g ∧ Own w' v' g zs ∧ Ext wx w') := fun wx h => l2Copy_any _ zs wx (hS.ext h) (by omega) hp
  obtain ⟨a', cap', he, hlc, hcm, hx⟩ := hS
  injection he with e1 _ e3
  subst e1 e3
  obtain ⟨b', off', he, hb, hN⟩ := hx hp
  injection he with he
  injection he with e1 e2 _
  subst e1 e2
  have HN : Hid (b < w.heap.size ∧ NodesAt w b off zs) := ⟨hb, hN⟩
  clear hx hN
  unfold maxLen at hcm
  subst hq
  rw [hd] at HD
  rw [ho] at HW
  have hkl := (List.getElem?_eq_some_iff.1 hy).1
  have HY : Hid (zs[k]? = some y) := hy
  have HTp : Hid (∀ (wx : World), Ext w wx → Calls Tryz.prog 62 #[.slice (some ⟨b, off, none⟩) zs.length cap, .string (Tre.par p)] wx fun e w' => e = .returned (.int .i64 k) ∧ w' = wx) := fun wx h => by have := HT.out wx (Tre.par p) h; rw [ha] at this; exact this
  have HDy : Hid (∀ wx : World, Ext w wx → wx.cell? ⟨b, off + k * 5 + 3, none⟩ = some (.int .i64 y.owner) ∧ wx.cell? ⟨b, off + k * 5 + 4, none⟩ = some (.int .i64 y.next)) := fun wx h => ⟨(HN.out.2.ext HN.out.1 h k y HY.out).2.2.2.1, (HN.out.2.ext HN.out.1 h k y HY.out).2.2.2.2⟩
  clear hy ha
  have hw1 : (y.owner != 0) = false := by simp [hw]
  clear hw
  have HT2 : Hid (∀ (wx : World), Ext w wx → Calls Tryz.prog 62 #[.slice (some ⟨b, off, none⟩) zs.length cap, .string p] wx fun e w' => e = .returned (.int .i64 (Tre.atI zs p)) ∧ w' = wx) := fun wx h => HT.out wx p h
  generalize Tre.atI zs p = t at *
  go_enter Tryz.func52, Tryz.ntmps52
  go_wp2_with fail
  refine (HD.out _).mono ?_
  rintro e w0 ⟨rfl, rfl⟩
  go_wp2_with fail
  refine (HW.out _).mono ?_
  rintro e w0 ⟨rfl, rfl⟩
  go_wp2_with fail
  refine (HP.out _).mono ?_
  rintro e w0 ⟨rfl, rfl⟩
  go_wp2_with fail
  refine (HTp.out _ ((Ext.refl _).alloc _)).mono ?_
  rintro e w0 ⟨rfl, rfl⟩
  have hdy := (HDy.out _ ((Ext.refl w).alloc (.cells #[.int .i64 0, .string ⟨#[]⟩, .slice none 0 0] 28))).1
  go_wp2_with fail
  refine (HC.out _ ((Ext.refl _).alloc _)).mono ?_
  rintro e w3 ⟨v3, g, rfl, hg, hO, hb3⟩
  obtain ⟨a3, cap3, rfl, hlc3, hcm3, hx3⟩ := id hO
  obtain ⟨off3, rfl, -, -⟩ := hx3 hp
  have HO : Hid (Own w3 (.slice (some ⟨g, off3, none⟩) zs.length cap3) g zs) := hO
  have HG : Hid (w.heap.size + 1 ≤ g) := by have h := hg; simp at h; exact h
  have HQ : Hid (RBox w3 w.heap.size) := (RBox.new w _).ext hb3
  have HB3 : Hid (Ext w w3) := ((Ext.refl _).alloc _).trans hb3
  clear hb3 hO hg hx3
  unfold maxLen at hcm3
  go_wp2_with fail
  refine (HT2.out _ HB3.out).mono ?_
  rintro e w0 ⟨rfl, rfl⟩
  go_wp2_with fail
  refine (HB0.out _ _).mono ?_
  rintro e w9 ⟨rfl, hb9⟩
  obtain ⟨q9, q0, q1, q2, f0, f1, f2⟩ := (HQ.out).ext hb9
  have HB9 : Hid (Ext w w9) := (HB3.out).trans hb9
  clear hb9
  go_wp2
  exact bodyPost_ret (v := zr 2 ⟨#[]⟩ (.slice none 0 0)) (by simp [results, Tryz.results52, go_sem, zr, q0, q1, q2]) rfl (zret_bad _ _ (HB9.out.box3 _ _ _))

set_option maxHeartbeats 4000000 in
set_option maxRecDepth 100000 in
theorem l2Create_p0 (b off cap : Nat) (zs : List Zn) (p : ByteArray) (d o : Int) (q : Bool) (w : World) (hS : NSlice w (.slice (some ⟨b, off, none⟩) zs.length cap) zs) (hl : zs.length ≤ 1000) (hp : 0 < zs.length) (hf : Pth.faultI p.data.toList = 0) (hd : Tre.okData d = true) (ho : Tre.okOwner o = true) (ht : (p.toList == [47]) = false) (k : Nat) (y : Zn) (ha : Tre.atI zs (Tre.par p) = k) (hy : zs[k]? = some y) (hw : y.owner = 0) (hq : q = false) (hm : ¬ 0 ≤ Tre.atI zs p) (h20 : ¬ 20 ≤ zs.length) :
    Calls Tryz.prog 52 #[.slice (some ⟨b, off, none⟩) zs.length cap, .string p, .int .i64 d, .int .i64 o, .bool q] w (ZRet w 0 p (Tre.putT zs ⟨p, d, 0, o, 0⟩)) := by
  have HS : Hid (NSlice w (.slice (some ⟨b, off, none⟩) zs.length cap) zs) := hS
  have h24 := few_of_ok hf
  have HD : Hid (∀ wx : World, Calls Tryz.prog 106 #[.int .i64 d] wx fun e w' => e = .returned (.bool (Tre.okData d)) ∧ w' = wx) := l2Data_any d
  have HW : Hid (∀ wx : World, Calls Tryz.prog 107 #[.int .i64 o] wx fun e w' => e = .returned (.bool (Tre.okOwner o)) ∧ w' = wx) := l2Owner_any o
  have HP : Hid (∀ wx : World, Calls Tryz.prog 108 #[.string p] wx fun e w' => e = .returned (.string (Tre.par p)) ∧ w' = wx) := fun wx => l1Parent_any p wx h24
  have HT : Hid (∀ (wx : World) (s : ByteArray), Ext w wx → Calls Tryz.prog 62 #[.slice (some ⟨b, off, none⟩) zs.length cap, .string s] wx fun e w' => e = .returned (.int .i64 (Tre.atI zs s)) ∧ w' = wx) := fun wx s h => l2At_any _ zs s wx (hS.ext h)
  have HB0 : Hid (∀ (c : Int) (wx : World), Calls Tryz.prog 51 #[.int .i64 c] wx fun e w' => e = .returned (zr c ⟨#[]⟩ (.slice none 0 0)) ∧ Ext wx w') := l2Bad_any
  unfold zr at HB0
  have HC : Hid (∀ wx : World, Ext w wx → Calls Tryz.prog 109 #[.slice (some ⟨b, off, none⟩) zs.length cap] wx fun e w' => ∃ v' g, e = .returned v' ∧ wx.heap.size ≤ g ∧ Own w' v' g zs ∧ Ext wx w') := fun wx h => l2Copy_any _ zs wx (hS.ext h) (by omega) hp
  obtain ⟨a', cap', he, hlc, hcm, hx⟩ := hS
  injection he with e1 _ e3
  subst e1 e3
  obtain ⟨b', off', he, hb, hN⟩ := hx hp
  injection he with he
  injection he with e1 e2 _
  subst e1 e2
  have HN : Hid (b < w.heap.size ∧ NodesAt w b off zs) := ⟨hb, hN⟩
  clear hx hN
  unfold maxLen at hcm
  subst hq
  rw [hd] at HD
  rw [ho] at HW
  have hkl := (List.getElem?_eq_some_iff.1 hy).1
  have HY : Hid (zs[k]? = some y) := hy
  have HTp : Hid (∀ (wx : World), Ext w wx → Calls Tryz.prog 62 #[.slice (some ⟨b, off, none⟩) zs.length cap, .string (Tre.par p)] wx fun e w' => e = .returned (.int .i64 k) ∧ w' = wx) := fun wx h => by have := HT.out wx (Tre.par p) h; rw [ha] at this; exact this
  have HDy : Hid (∀ wx : World, Ext w wx → wx.cell? ⟨b, off + k * 5 + 3, none⟩ = some (.int .i64 y.owner) ∧ wx.cell? ⟨b, off + k * 5 + 4, none⟩ = some (.int .i64 y.next)) := fun wx h => ⟨(HN.out.2.ext HN.out.1 h k y HY.out).2.2.2.1, (HN.out.2.ext HN.out.1 h k y HY.out).2.2.2.2⟩
  clear hy ha
  have hw1 : (y.owner != 0) = false := by simp [hw]
  clear hw
  have HPut : Hid (∀ (wx : World) (g off3 cap3 : Nat), NSlice wx (.slice (some ⟨g, off3, none⟩) zs.length cap3) zs → Calls Tryz.prog 113 #[.slice (some ⟨g, off3, none⟩) zs.length cap3, .agg #[.string p, .int .i64 d, .int .i64 0, .int .i64 o, .int .i64 0]] wx fun e w' => ∃ v' g, e = .returned v' ∧ wx.heap.size ≤ g ∧ Own w' v' g (Tre.putT zs ⟨p, d, 0, o, 0⟩) ∧ Ext wx w') := fun wx g off3 cap3 h => by
    have := l2Put_any g off3 cap3 zs ⟨p, d, 0, o, 0⟩ wx (by exact h) (by omega) (by omega)
    skip
    exact this
  have HT2 : Hid (∀ (wx : World), Ext w wx → Calls Tryz.prog 62 #[.slice (some ⟨b, off, none⟩) zs.length cap, .string p] wx fun e w' => e = .returned (.int .i64 (Tre.atI zs p)) ∧ w' = wx) := fun wx h => HT.out wx p h
  generalize Tre.atI zs p = t at *
  go_enter Tryz.func52, Tryz.ntmps52
  go_wp2_with fail
  refine (HD.out _).mono ?_
  rintro e w0 ⟨rfl, rfl⟩
  go_wp2_with fail
  refine (HW.out _).mono ?_
  rintro e w0 ⟨rfl, rfl⟩
  go_wp2_with fail
  refine (HP.out _).mono ?_
  rintro e w0 ⟨rfl, rfl⟩
  go_wp2_with fail
  refine (HTp.out _ ((Ext.refl _).alloc _)).mono ?_
  rintro e w0 ⟨rfl, rfl⟩
  have hdy := (HDy.out _ ((Ext.refl w).alloc (.cells #[.int .i64 0, .string ⟨#[]⟩, .slice none 0 0] 28))).1
  go_wp2_with fail
  refine (HC.out _ ((Ext.refl _).alloc _)).mono ?_
  rintro e w3 ⟨v3, g, rfl, hg, hO, hb3⟩
  obtain ⟨a3, cap3, rfl, hlc3, hcm3, hx3⟩ := id hO
  obtain ⟨off3, rfl, -, -⟩ := hx3 hp
  have HO : Hid (Own w3 (.slice (some ⟨g, off3, none⟩) zs.length cap3) g zs) := hO
  have HG : Hid (w.heap.size + 1 ≤ g) := by have h := hg; simp at h; exact h
  have HQ : Hid (RBox w3 w.heap.size) := (RBox.new w _).ext hb3
  have HB3 : Hid (Ext w w3) := ((Ext.refl _).alloc _).trans hb3
  clear hb3 hO hg hx3
  unfold maxLen at hcm3
  go_wp2_with fail
  refine (HT2.out _ HB3.out).mono ?_
  rintro e w0 ⟨rfl, rfl⟩
  go_wp2_with fail
  refine (HPut.out _ _ _ _ HO.out.slice).mono ?_
  rintro e w7 ⟨v7, g7, rfl, hg7, hO7, hb7⟩
  obtain ⟨a7, cap7, rfl, -⟩ := id hO7
  have HO7 : Hid (Own w7 (.slice a7 (Tre.putT zs ⟨p, d, 0, o, 0⟩).length cap7) g7 (Tre.putT zs ⟨p, d, 0, o, 0⟩)) := hO7
  have HG7 : Hid (w.heap.size + 1 ≤ g7) := by have := (HQ.out).1; show _ ≤ _; omega
  obtain ⟨q9, q0, q1, q2, f0, f1, f2⟩ := (HQ.out).ext hb7
  have HB7 : Hid (Ext w w7) := (HB3.out).trans hb7
  clear hb7 hO7 hg7
  go_wp2
  exact bodyPost_ret (v := zr 0 p (.slice a7 (Tre.putT zs ⟨p, d, 0, o, 0⟩).length cap7)) (by simp [results, Tryz.results52, go_sem, zr, q0, q1, q2]) rfl (zret_own 0 p HO7.out HG7.out HB7.out _ _ _)
end Go.Proofs.YtmiffefnpendoaaGreatDoor

/- l2Create with a number; l2Create, CreateZ whole. -/
namespace Go.Proofs.YtmiffefnpendoaaGreatDoor
open Go.RowKit

set_option maxHeartbeats 4000000 in
set_option maxRecDepth 100000 in
theorem l2Create_s3 (b off cap : Nat) (zs : List Zn) (p : ByteArray) (d o : Int) (q : Bool) (w : World) (hS : NSlice w (.slice (some ⟨b, off, none⟩) zs.length cap) zs) (hl : zs.length ≤ 1000) (hp : 0 < zs.length) (hf : Pth.faultI p.data.toList = 0) (hd : Tre.okData d = true) (ho : Tre.okOwner o = true) (ht : (p.toList == [47]) = false) (k : Nat) (y : Zn) (ha : Tre.atI zs (Tre.par p) = k) (hy : zs[k]? = some y) (hw : y.owner = 0) (hq : q = true) (_hn0 : 0 ≤ y.next) (hn9 : 100 ≤ y.next) :
    Calls Tryz.prog 52 #[.slice (some ⟨b, off, none⟩) zs.length cap, .string p, .int .i64 d, .int .i64 o, .bool q] w (ZRet w 3 ⟨#[]⟩ []) := by
  have HS : Hid (NSlice w (.slice (some ⟨b, off, none⟩) zs.length cap) zs) := hS
  have h24 := few_of_ok hf
  have HD : Hid (∀ wx : World, Calls Tryz.prog 106 #[.int .i64 d] wx fun e w' => e = .returned (.bool (Tre.okData d)) ∧ w' = wx) := l2Data_any d
  have HW : Hid (∀ wx : World, Calls Tryz.prog 107 #[.int .i64 o] wx fun e w' => e = .returned (.bool (Tre.okOwner o)) ∧ w' = wx) := l2Owner_any o
  have HP : Hid (∀ wx : World, Calls Tryz.prog 108 #[.string p] wx fun e w' => e = .returned (.string (Tre.par p)) ∧ w' = wx) := fun wx => l1Parent_any p wx h24
  have HT : Hid (∀ (wx : World) (s : ByteArray), Ext w wx → Calls Tryz.prog 62 #[.slice (some ⟨b, off, none⟩) zs.length cap, .string s] wx fun e w' => e = .returned (.int .i64 (Tre.atI zs s)) ∧ w' = wx) := fun wx s h => l2At_any _ zs s wx (hS.ext h)
  have HB0 : Hid (∀ (c : Int) (wx : World), Calls Tryz.prog 51 #[.int .i64 c] wx fun e w' => e = .returned (zr c ⟨#[]⟩ (.slice none 0 0)) ∧ Ext wx w') := l2Bad_any
  unfold zr at HB0
  have HC : Hid (∀ wx : World, Ext w wx → Calls Tryz.prog 109 #[.slice (some ⟨b, off, none⟩) zs.length cap] wx fun e w' => ∃ v' g, e = .returned v' ∧ wx.heap.size ≤ g ∧ Own w' v' g zs ∧ Ext wx w') := fun wx h => l2Copy_any _ zs wx (hS.ext h) (by omega) hp
  obtain ⟨a', cap', he, hlc, hcm, hx⟩ := hS
  injection he with e1 _ e3
  subst e1 e3
  obtain ⟨b', off', he, hb, hN⟩ := hx hp
  injection he with he
  injection he with e1 e2 _
  subst e1 e2
  have HN : Hid (b < w.heap.size ∧ NodesAt w b off zs) := ⟨hb, hN⟩
  clear hx hN
  unfold maxLen at hcm
  subst hq
  rw [hd] at HD
  rw [ho] at HW
  have hkl := (List.getElem?_eq_some_iff.1 hy).1
  have HY : Hid (zs[k]? = some y) := hy
  have HTp : Hid (∀ (wx : World), Ext w wx → Calls Tryz.prog 62 #[.slice (some ⟨b, off, none⟩) zs.length cap, .string (Tre.par p)] wx fun e w' => e = .returned (.int .i64 k) ∧ w' = wx) := fun wx h => by have := HT.out wx (Tre.par p) h; rw [ha] at this; exact this
  have HDy : Hid (∀ wx : World, Ext w wx → wx.cell? ⟨b, off + k * 5 + 3, none⟩ = some (.int .i64 y.owner) ∧ wx.cell? ⟨b, off + k * 5 + 4, none⟩ = some (.int .i64 y.next)) := fun wx h => ⟨(HN.out.2.ext HN.out.1 h k y HY.out).2.2.2.1, (HN.out.2.ext HN.out.1 h k y HY.out).2.2.2.2⟩
  clear hy ha
  have hw1 : (y.owner != 0) = false := by simp [hw]
  clear hw
  go_enter Tryz.func52, Tryz.ntmps52
  go_wp2_with fail
  refine (HD.out _).mono ?_
  rintro e w0 ⟨rfl, rfl⟩
  go_wp2_with fail
  refine (HW.out _).mono ?_
  rintro e w0 ⟨rfl, rfl⟩
  go_wp2_with fail
  refine (HP.out _).mono ?_
  rintro e w0 ⟨rfl, rfl⟩
  go_wp2_with fail
  refine (HTp.out _ ((Ext.refl _).alloc _)).mono ?_
  rintro e w0 ⟨rfl, rfl⟩
  have hdy := (HDy.out _ ((Ext.refl w).alloc (.cells #[.int .i64 0, .string ⟨#[]⟩, .slice none 0 0] 28))).1
  go_wp2_with fail
  refine (HC.out _ ((Ext.refl _).alloc _)).mono ?_
  rintro e w3 ⟨v3, g, rfl, hg, hO, hb3⟩
  obtain ⟨a3, cap3, rfl, hlc3, hcm3, hx3⟩ := id hO
  obtain ⟨off3, rfl, -, -⟩ := hx3 hp
  have HO : Hid (Own w3 (.slice (some ⟨g, off3, none⟩) zs.length cap3) g zs) := hO
  have HG : Hid (w.heap.size + 1 ≤ g) := by have h := hg; simp at h; exact h
  have HQ : Hid (RBox w3 w.heap.size) := (RBox.new w _).ext hb3
  have HB3 : Hid (Ext w w3) := ((Ext.refl _).alloc _).trans hb3
  clear hb3 hO hg hx3
  unfold maxLen at hcm3
  have hny := (HDy.out _ HB3.out).2
  go_wp2_with fail
  refine (HB0.out _ _).mono ?_
  rintro e w9 ⟨rfl, hb9⟩
  obtain ⟨q9, q0, q1, q2, f0, f1, f2⟩ := (HQ.out).ext hb9
  have HB9 : Hid (Ext w w9) := (HB3.out).trans hb9
  clear hb9
  go_wp2
  exact bodyPost_ret (v := zr 3 ⟨#[]⟩ (.slice none 0 0)) (by simp [results, Tryz.results52, go_sem, zr, q0, q1, q2]) rfl (zret_bad _ _ (HB9.out.box3 _ _ _))

set_option maxHeartbeats 4000000 in
set_option maxRecDepth 100000 in
theorem l2Create_s5 (b off cap : Nat) (zs : List Zn) (p : ByteArray) (d o : Int) (q : Bool) (w : World) (hS : NSlice w (.slice (some ⟨b, off, none⟩) zs.length cap) zs) (hl : zs.length ≤ 1000) (hp : 0 < zs.length) (hf : Pth.faultI p.data.toList = 0) (hd : Tre.okData d = true) (ho : Tre.okOwner o = true) (ht : (p.toList == [47]) = false) (k : Nat) (y : Zn) (ha : Tre.atI zs (Tre.par p) = k) (hy : zs[k]? = some y) (hw : y.owner = 0) (hq : q = true) (hn0 : 0 ≤ y.next) (hn9 : ¬ 100 ≤ y.next) (hk5 : Pth.okName (Tre.seqN p y.next).data.toList = false) :
    Calls Tryz.prog 52 #[.slice (some ⟨b, off, none⟩) zs.length cap, .string p, .int .i64 d, .int .i64 o, .bool q] w (ZRet w 5 ⟨#[]⟩ []) := by
  have HS : Hid (NSlice w (.slice (some ⟨b, off, none⟩) zs.length cap) zs) := hS
  have h24 := few_of_ok hf
  have HD : Hid (∀ wx : World, Calls Tryz.prog 106 #[.int .i64 d] wx fun e w' => e = .returned (.bool (Tre.okData d)) ∧ w' = wx) := l2Data_any d
  have HW : Hid (∀ wx : World, Calls Tryz.prog 107 #[.int .i64 o] wx fun e w' => e = .returned (.bool (Tre.okOwner o)) ∧ w' = wx) := l2Owner_any o
  have HP : Hid (∀ wx : World, Calls Tryz.prog 108 #[.string p] wx fun e w' => e = .returned (.string (Tre.par p)) ∧ w' = wx) := fun wx => l1Parent_any p wx h24
  have HT : Hid (∀ (wx : World) (s : ByteArray), Ext w wx → Calls Tryz.prog 62 #[.slice (some ⟨b, off, none⟩) zs.length cap, .string s] wx fun e w' => e = .returned (.int .i64 (Tre.atI zs s)) ∧ w' = wx) := fun wx s h => l2At_any _ zs s wx (hS.ext h)
  have HB0 : Hid (∀ (c : Int) (wx : World), Calls Tryz.prog 51 #[.int .i64 c] wx fun e w' => e = .returned (zr c ⟨#[]⟩ (.slice none 0 0)) ∧ Ext wx w') := l2Bad_any
  unfold zr at HB0
  have HC : Hid (∀ wx : World, Ext w wx → Calls Tryz.prog 109 #[.slice (some ⟨b, off, none⟩) zs.length cap] wx fun e w' => ∃ v' g, e = .returned v' ∧ wx.heap.size ≤ g ∧ Own w' v' g zs ∧ Ext wx w') := fun wx h => l2Copy_any _ zs wx (hS.ext h) (by omega) hp
  obtain ⟨a', cap', he, hlc, hcm, hx⟩ := hS
  injection he with e1 _ e3
  subst e1 e3
  obtain ⟨b', off', he, hb, hN⟩ := hx hp
  injection he with he
  injection he with e1 e2 _
  subst e1 e2
  have HN : Hid (b < w.heap.size ∧ NodesAt w b off zs) := ⟨hb, hN⟩
  clear hx hN
  unfold maxLen at hcm
  subst hq
  have hll := lastSl_le2 p hf ht
  have HL : Hid (∀ wx : World, Calls Tryz.prog 110 #[.string p] wx fun e w' => e = .returned (.int .i64 (Pth.lastSl p.data.toList 0 0 : Nat)) ∧ w' = wx) := fun wx => l1Last_any p wx h24
  rw [hd] at HD
  rw [ho] at HW
  have hkl := (List.getElem?_eq_some_iff.1 hy).1
  have HY : Hid (zs[k]? = some y) := hy
  have HTp : Hid (∀ (wx : World), Ext w wx → Calls Tryz.prog 62 #[.slice (some ⟨b, off, none⟩) zs.length cap, .string (Tre.par p)] wx fun e w' => e = .returned (.int .i64 k) ∧ w' = wx) := fun wx h => by have := HT.out wx (Tre.par p) h; rw [ha] at this; exact this
  have HDy : Hid (∀ wx : World, Ext w wx → wx.cell? ⟨b, off + k * 5 + 3, none⟩ = some (.int .i64 y.owner) ∧ wx.cell? ⟨b, off + k * 5 + 4, none⟩ = some (.int .i64 y.next)) := fun wx h => ⟨(HN.out.2.ext HN.out.1 h k y HY.out).2.2.2.1, (HN.out.2.ext HN.out.1 h k y HY.out).2.2.2.2⟩
  clear hy ha
  have hw1 : (y.owner != 0) = false := by simp [hw]
  clear hw
  have HSq : Hid (∀ wx : World, Calls Tryz.prog 112 #[.string (p.extract (Pth.lastSl p.data.toList 0 0 + 1) p.size), .int .i64 y.next] wx fun e w' => e = .returned (.string (Tre.seqN p y.next)) ∧ Ext wx w') := fun wx => l1Seq_any _ y.next wx (by simp [ByteArray.size_extract]; omega) hn0 (by omega)
  have hsn := Tre.seqN_size p y.next
  have hps := Tre.par_size p
  have HNm : Hid (∀ wx : World, Calls Tryz.prog 111 #[.string (Tre.seqN p y.next)] wx fun e w' => e = .returned (.bool (Pth.okName (Tre.seqN p y.next).data.toList)) ∧ w' = wx) := fun wx => l1Name_any _ wx (by unfold maxLen; omega)
  have HJ : Hid (∀ wx : World, Calls Tryz.prog 38 #[.string (Tre.par p), .string (Tre.seqN p y.next)] wx fun e w' => e = .returned (.string (Tre.seqP p y.next)) ∧ w' = wx) := fun wx => l1Join_any _ _ wx (by omega) (by omega)
  have HFt : Hid (∀ wx : World, Calls Tryz.prog 105 #[.string (Tre.seqP p y.next)] wx fun e w' => e = .returned (.int .i64 (Pth.faultI (Tre.seqP p y.next).data.toList)) ∧ Ext wx w') := l1FaultI_any _
  rw [hk5] at HNm
  generalize Pth.lastSl p.data.toList 0 0 = la at *
  generalize Tre.seqN p y.next = sn at *
  go_enter Tryz.func52, Tryz.ntmps52
  go_wp2_with fail
  refine (HD.out _).mono ?_
  rintro e w0 ⟨rfl, rfl⟩
  go_wp2_with fail
  refine (HW.out _).mono ?_
  rintro e w0 ⟨rfl, rfl⟩
  go_wp2_with fail
  refine (HP.out _).mono ?_
  rintro e w0 ⟨rfl, rfl⟩
  go_wp2_with fail
  refine (HTp.out _ ((Ext.refl _).alloc _)).mono ?_
  rintro e w0 ⟨rfl, rfl⟩
  have hdy := (HDy.out _ ((Ext.refl w).alloc (.cells #[.int .i64 0, .string ⟨#[]⟩, .slice none 0 0] 28))).1
  go_wp2_with fail
  refine (HC.out _ ((Ext.refl _).alloc _)).mono ?_
  rintro e w3 ⟨v3, g, rfl, hg, hO, hb3⟩
  obtain ⟨a3, cap3, rfl, hlc3, hcm3, hx3⟩ := id hO
  obtain ⟨off3, rfl, -, -⟩ := hx3 hp
  have HO : Hid (Own w3 (.slice (some ⟨g, off3, none⟩) zs.length cap3) g zs) := hO
  have HG : Hid (w.heap.size + 1 ≤ g) := by have h := hg; simp at h; exact h
  have HQ : Hid (RBox w3 w.heap.size) := (RBox.new w _).ext hb3
  have HB3 : Hid (Ext w w3) := ((Ext.refl _).alloc _).trans hb3
  clear hb3 hO hg hx3
  unfold maxLen at hcm3
  have hny := (HDy.out _ HB3.out).2
  go_wp2_with fail
  refine (HL.out _).mono ?_
  rintro e w0 ⟨rfl, rfl⟩
  go_wp2_with fail
  refine (HSq.out _).mono ?_
  rintro e w4 ⟨rfl, hb4⟩
  have HB4 : Hid (Ext w w4) := HB3.out.trans hb4
  have HQ4 : Hid (RBox w4 w.heap.size) := HQ.out.ext hb4
  have HO4 : Hid (Own w4 (.slice (some ⟨g, off3, none⟩) zs.length cap3) g zs) := HO.out.ext hb4
  clear hb4
  go_wp2_with fail
  refine (HNm.out _).mono ?_
  rintro e w0 ⟨rfl, rfl⟩
  go_wp2_with fail
  refine (HB0.out _ _).mono ?_
  rintro e w9 ⟨rfl, hb9⟩
  obtain ⟨q9, q0, q1, q2, f0, f1, f2⟩ := (HQ4.out).ext hb9
  have HB9 : Hid (Ext w w9) := (HB4.out).trans hb9
  clear hb9
  go_wp2
  exact bodyPost_ret (v := zr 5 ⟨#[]⟩ (.slice none 0 0)) (by simp [results, Tryz.results52, go_sem, zr, q0, q1, q2]) rfl (zret_bad _ _ (HB9.out.box3 _ _ _))

set_option maxHeartbeats 4000000 in
set_option maxRecDepth 100000 in
theorem l2Create_sf (b off cap : Nat) (zs : List Zn) (p : ByteArray) (d o : Int) (q : Bool) (w : World) (hS : NSlice w (.slice (some ⟨b, off, none⟩) zs.length cap) zs) (hl : zs.length ≤ 1000) (hp : 0 < zs.length) (hf : Pth.faultI p.data.toList = 0) (hd : Tre.okData d = true) (ho : Tre.okOwner o = true) (ht : (p.toList == [47]) = false) (k : Nat) (y : Zn) (ha : Tre.atI zs (Tre.par p) = k) (hy : zs[k]? = some y) (hw : y.owner = 0) (hq : q = true) (hn0 : 0 ≤ y.next) (hn9 : ¬ 100 ≤ y.next) (hk5 : Pth.okName (Tre.seqN p y.next).data.toList = true) (hfs : Pth.faultI (Tre.seqP p y.next).data.toList ≠ 0) :
    Calls Tryz.prog 52 #[.slice (some ⟨b, off, none⟩) zs.length cap, .string p, .int .i64 d, .int .i64 o, .bool q] w (ZRet w (Pth.faultI (Tre.seqP p y.next).data.toList) ⟨#[]⟩ []) := by
  have HS : Hid (NSlice w (.slice (some ⟨b, off, none⟩) zs.length cap) zs) := hS
  have h24 := few_of_ok hf
  have HD : Hid (∀ wx : World, Calls Tryz.prog 106 #[.int .i64 d] wx fun e w' => e = .returned (.bool (Tre.okData d)) ∧ w' = wx) := l2Data_any d
  have HW : Hid (∀ wx : World, Calls Tryz.prog 107 #[.int .i64 o] wx fun e w' => e = .returned (.bool (Tre.okOwner o)) ∧ w' = wx) := l2Owner_any o
  have HP : Hid (∀ wx : World, Calls Tryz.prog 108 #[.string p] wx fun e w' => e = .returned (.string (Tre.par p)) ∧ w' = wx) := fun wx => l1Parent_any p wx h24
  have HT : Hid (∀ (wx : World) (s : ByteArray), Ext w wx → Calls Tryz.prog 62 #[.slice (some ⟨b, off, none⟩) zs.length cap, .string s] wx fun e w' => e = .returned (.int .i64 (Tre.atI zs s)) ∧ w' = wx) := fun wx s h => l2At_any _ zs s wx (hS.ext h)
  have HB0 : Hid (∀ (c : Int) (wx : World), Calls Tryz.prog 51 #[.int .i64 c] wx fun e w' => e = .returned (zr c ⟨#[]⟩ (.slice none 0 0)) ∧ Ext wx w') := l2Bad_any
  unfold zr at HB0
  have HC : Hid (∀ wx : World, Ext w wx → Calls Tryz.prog 109 #[.slice (some ⟨b, off, none⟩) zs.length cap] wx fun e w' => ∃ v' g, e = .returned v' ∧ wx.heap.size ≤ g ∧ Own w' v' g zs ∧ Ext wx w') := fun wx h => l2Copy_any _ zs wx (hS.ext h) (by omega) hp
  obtain ⟨a', cap', he, hlc, hcm, hx⟩ := hS
  injection he with e1 _ e3
  subst e1 e3
  obtain ⟨b', off', he, hb, hN⟩ := hx hp
  injection he with he
  injection he with e1 e2 _
  subst e1 e2
  have HN : Hid (b < w.heap.size ∧ NodesAt w b off zs) := ⟨hb, hN⟩
  clear hx hN
  unfold maxLen at hcm
  subst hq
  have hll := lastSl_le2 p hf ht
  have HL : Hid (∀ wx : World, Calls Tryz.prog 110 #[.string p] wx fun e w' => e = .returned (.int .i64 (Pth.lastSl p.data.toList 0 0 : Nat)) ∧ w' = wx) := fun wx => l1Last_any p wx h24
  rw [hd] at HD
  rw [ho] at HW
  have hkl := (List.getElem?_eq_some_iff.1 hy).1
  have HY : Hid (zs[k]? = some y) := hy
  have HTp : Hid (∀ (wx : World), Ext w wx → Calls Tryz.prog 62 #[.slice (some ⟨b, off, none⟩) zs.length cap, .string (Tre.par p)] wx fun e w' => e = .returned (.int .i64 k) ∧ w' = wx) := fun wx h => by have := HT.out wx (Tre.par p) h; rw [ha] at this; exact this
  have HDy : Hid (∀ wx : World, Ext w wx → wx.cell? ⟨b, off + k * 5 + 3, none⟩ = some (.int .i64 y.owner) ∧ wx.cell? ⟨b, off + k * 5 + 4, none⟩ = some (.int .i64 y.next)) := fun wx h => ⟨(HN.out.2.ext HN.out.1 h k y HY.out).2.2.2.1, (HN.out.2.ext HN.out.1 h k y HY.out).2.2.2.2⟩
  clear hy ha
  have hw1 : (y.owner != 0) = false := by simp [hw]
  clear hw
  have HSq : Hid (∀ wx : World, Calls Tryz.prog 112 #[.string (p.extract (Pth.lastSl p.data.toList 0 0 + 1) p.size), .int .i64 y.next] wx fun e w' => e = .returned (.string (Tre.seqN p y.next)) ∧ Ext wx w') := fun wx => l1Seq_any _ y.next wx (by simp [ByteArray.size_extract]; omega) hn0 (by omega)
  have hsn := Tre.seqN_size p y.next
  have hps := Tre.par_size p
  have HNm : Hid (∀ wx : World, Calls Tryz.prog 111 #[.string (Tre.seqN p y.next)] wx fun e w' => e = .returned (.bool (Pth.okName (Tre.seqN p y.next).data.toList)) ∧ w' = wx) := fun wx => l1Name_any _ wx (by unfold maxLen; omega)
  have HJ : Hid (∀ wx : World, Calls Tryz.prog 38 #[.string (Tre.par p), .string (Tre.seqN p y.next)] wx fun e w' => e = .returned (.string (Tre.seqP p y.next)) ∧ w' = wx) := fun wx => l1Join_any _ _ wx (by omega) (by omega)
  have HFt : Hid (∀ wx : World, Calls Tryz.prog 105 #[.string (Tre.seqP p y.next)] wx fun e w' => e = .returned (.int .i64 (Pth.faultI (Tre.seqP p y.next).data.toList)) ∧ Ext wx w') := l1FaultI_any _
  rw [hk5] at HNm
  generalize Tre.seqP p y.next = sp at *
  generalize Pth.faultI sp.data.toList = fc at *
  generalize Pth.lastSl p.data.toList 0 0 = la at *
  generalize Tre.seqN p y.next = sn at *
  go_enter Tryz.func52, Tryz.ntmps52
  go_wp2_with fail
  refine (HD.out _).mono ?_
  rintro e w0 ⟨rfl, rfl⟩
  go_wp2_with fail
  refine (HW.out _).mono ?_
  rintro e w0 ⟨rfl, rfl⟩
  go_wp2_with fail
  refine (HP.out _).mono ?_
  rintro e w0 ⟨rfl, rfl⟩
  go_wp2_with fail
  refine (HTp.out _ ((Ext.refl _).alloc _)).mono ?_
  rintro e w0 ⟨rfl, rfl⟩
  have hdy := (HDy.out _ ((Ext.refl w).alloc (.cells #[.int .i64 0, .string ⟨#[]⟩, .slice none 0 0] 28))).1
  go_wp2_with fail
  refine (HC.out _ ((Ext.refl _).alloc _)).mono ?_
  rintro e w3 ⟨v3, g, rfl, hg, hO, hb3⟩
  obtain ⟨a3, cap3, rfl, hlc3, hcm3, hx3⟩ := id hO
  obtain ⟨off3, rfl, -, -⟩ := hx3 hp
  have HO : Hid (Own w3 (.slice (some ⟨g, off3, none⟩) zs.length cap3) g zs) := hO
  have HG : Hid (w.heap.size + 1 ≤ g) := by have h := hg; simp at h; exact h
  have HQ : Hid (RBox w3 w.heap.size) := (RBox.new w _).ext hb3
  have HB3 : Hid (Ext w w3) := ((Ext.refl _).alloc _).trans hb3
  clear hb3 hO hg hx3
  unfold maxLen at hcm3
  have hny := (HDy.out _ HB3.out).2
  go_wp2_with fail
  refine (HL.out _).mono ?_
  rintro e w0 ⟨rfl, rfl⟩
  go_wp2_with fail
  refine (HSq.out _).mono ?_
  rintro e w4 ⟨rfl, hb4⟩
  have HB4 : Hid (Ext w w4) := HB3.out.trans hb4
  have HQ4 : Hid (RBox w4 w.heap.size) := HQ.out.ext hb4
  have HO4 : Hid (Own w4 (.slice (some ⟨g, off3, none⟩) zs.length cap3) g zs) := HO.out.ext hb4
  clear hb4
  go_wp2_with fail
  refine (HNm.out _).mono ?_
  rintro e w0 ⟨rfl, rfl⟩
  go_wp2_with fail
  refine (HP.out _).mono ?_
  rintro e w0 ⟨rfl, rfl⟩
  go_wp2_with fail
  refine (HSq.out _).mono ?_
  rintro e w5 ⟨rfl, hb5⟩
  have HB5 : Hid (Ext w w5) := HB4.out.trans hb5
  have HQ5 : Hid (RBox w5 w.heap.size) := HQ4.out.ext hb5
  have HO5 : Hid (Own w5 (.slice (some ⟨g, off3, none⟩) zs.length cap3) g zs) := HO4.out.ext hb5
  clear hb5
  go_wp2_with fail
  refine (HJ.out _).mono ?_
  rintro e w0 ⟨rfl, rfl⟩
  go_wp2_with fail
  refine (HFt.out _).mono ?_
  rintro e w6 ⟨rfl, hb6⟩
  have HB6 : Hid (Ext w w6) := HB5.out.trans hb6
  have HQ6 : Hid (RBox w6 w.heap.size) := HQ5.out.ext hb6
  have HO6 : Hid (Own w6 (.slice (some ⟨g, off3, none⟩) zs.length cap3) g zs) := HO5.out.ext hb6
  clear hb6
  go_wp2_with fail
  refine (HB0.out _ _).mono ?_
  rintro e w9 ⟨rfl, hb9⟩
  obtain ⟨q9, q0, q1, q2, f0, f1, f2⟩ := (HQ6.out).ext hb9
  have HB9 : Hid (Ext w w9) := (HB6.out).trans hb9
  clear hb9
  go_wp2
  exact bodyPost_ret (v := zr fc ⟨#[]⟩ (.slice none 0 0)) (by simp [results, Tryz.results52, go_sem, zr, q0, q1, q2]) rfl (zret_bad _ _ (HB9.out.box3 _ _ _))

set_option maxHeartbeats 4000000 in
set_option maxRecDepth 100000 in
theorem l2Create_s6 (b off cap : Nat) (zs : List Zn) (p : ByteArray) (d o : Int) (q : Bool) (w : World) (hS : NSlice w (.slice (some ⟨b, off, none⟩) zs.length cap) zs) (hl : zs.length ≤ 1000) (hp : 0 < zs.length) (hf : Pth.faultI p.data.toList = 0) (hd : Tre.okData d = true) (ho : Tre.okOwner o = true) (ht : (p.toList == [47]) = false) (k : Nat) (y : Zn) (ha : Tre.atI zs (Tre.par p) = k) (hy : zs[k]? = some y) (hw : y.owner = 0) (hq : q = true) (hn0 : 0 ≤ y.next) (hn9 : ¬ 100 ≤ y.next) (hk5 : Pth.okName (Tre.seqN p y.next).data.toList = true) (hfs : Pth.faultI (Tre.seqP p y.next).data.toList = 0) (hm : 0 ≤ Tre.atI zs (Tre.seqP p y.next)) :
    Calls Tryz.prog 52 #[.slice (some ⟨b, off, none⟩) zs.length cap, .string p, .int .i64 d, .int .i64 o, .bool q] w (ZRet w 6 ⟨#[]⟩ []) := by
  have HS : Hid (NSlice w (.slice (some ⟨b, off, none⟩) zs.length cap) zs) := hS
  have h24 := few_of_ok hf
  have HD : Hid (∀ wx : World, Calls Tryz.prog 106 #[.int .i64 d] wx fun e w' => e = .returned (.bool (Tre.okData d)) ∧ w' = wx) := l2Data_any d
  have HW : Hid (∀ wx : World, Calls Tryz.prog 107 #[.int .i64 o] wx fun e w' => e = .returned (.bool (Tre.okOwner o)) ∧ w' = wx) := l2Owner_any o
  have HP : Hid (∀ wx : World, Calls Tryz.prog 108 #[.string p] wx fun e w' => e = .returned (.string (Tre.par p)) ∧ w' = wx) := fun wx => l1Parent_any p wx h24
  have HT : Hid (∀ (wx : World) (s : ByteArray), Ext w wx → Calls Tryz.prog 62 #[.slice (some ⟨b, off, none⟩) zs.length cap, .string s] wx fun e w' => e = .returned (.int .i64 (Tre.atI zs s)) ∧ w' = wx) := fun wx s h => l2At_any _ zs s wx (hS.ext h)
  have HB0 : Hid (∀ (c : Int) (wx : World), Calls Tryz.prog 51 #[.int .i64 c] wx fun e w' => e = .returned (zr c ⟨#[]⟩ (.slice none 0 0)) ∧ Ext wx w') := l2Bad_any
  unfold zr at HB0
  have HC : Hid (∀ wx : World, Ext w wx → Calls Tryz.prog 109 #[.slice (some ⟨b, off, none⟩) zs.length cap] wx fun e w' => ∃ v' g, e = .returned v' ∧ wx.heap.size ≤ g ∧ Own w' v' g zs ∧ Ext wx w') := fun wx h => l2Copy_any _ zs wx (hS.ext h) (by omega) hp
  obtain ⟨a', cap', he, hlc, hcm, hx⟩ := hS
  injection he with e1 _ e3
  subst e1 e3
  obtain ⟨b', off', he, hb, hN⟩ := hx hp
  injection he with he
  injection he with e1 e2 _
  subst e1 e2
  have HN : Hid (b < w.heap.size ∧ NodesAt w b off zs) := ⟨hb, hN⟩
  clear hx hN
  unfold maxLen at hcm
  subst hq
  have hll := lastSl_le2 p hf ht
  have HL : Hid (∀ wx : World, Calls Tryz.prog 110 #[.string p] wx fun e w' => e = .returned (.int .i64 (Pth.lastSl p.data.toList 0 0 : Nat)) ∧ w' = wx) := fun wx => l1Last_any p wx h24
  rw [hd] at HD
  rw [ho] at HW
  have hkl := (List.getElem?_eq_some_iff.1 hy).1
  have HY : Hid (zs[k]? = some y) := hy
  have HTp : Hid (∀ (wx : World), Ext w wx → Calls Tryz.prog 62 #[.slice (some ⟨b, off, none⟩) zs.length cap, .string (Tre.par p)] wx fun e w' => e = .returned (.int .i64 k) ∧ w' = wx) := fun wx h => by have := HT.out wx (Tre.par p) h; rw [ha] at this; exact this
  have HDy : Hid (∀ wx : World, Ext w wx → wx.cell? ⟨b, off + k * 5 + 3, none⟩ = some (.int .i64 y.owner) ∧ wx.cell? ⟨b, off + k * 5 + 4, none⟩ = some (.int .i64 y.next)) := fun wx h => ⟨(HN.out.2.ext HN.out.1 h k y HY.out).2.2.2.1, (HN.out.2.ext HN.out.1 h k y HY.out).2.2.2.2⟩
  clear hy ha
  have hw1 : (y.owner != 0) = false := by simp [hw]
  clear hw
  have HSq : Hid (∀ wx : World, Calls Tryz.prog 112 #[.string (p.extract (Pth.lastSl p.data.toList 0 0 + 1) p.size), .int .i64 y.next] wx fun e w' => e = .returned (.string (Tre.seqN p y.next)) ∧ Ext wx w') := fun wx => l1Seq_any _ y.next wx (by simp [ByteArray.size_extract]; omega) hn0 (by omega)
  have hsn := Tre.seqN_size p y.next
  have hps := Tre.par_size p
  have HNm : Hid (∀ wx : World, Calls Tryz.prog 111 #[.string (Tre.seqN p y.next)] wx fun e w' => e = .returned (.bool (Pth.okName (Tre.seqN p y.next).data.toList)) ∧ w' = wx) := fun wx => l1Name_any _ wx (by unfold maxLen; omega)
  have HJ : Hid (∀ wx : World, Calls Tryz.prog 38 #[.string (Tre.par p), .string (Tre.seqN p y.next)] wx fun e w' => e = .returned (.string (Tre.seqP p y.next)) ∧ w' = wx) := fun wx => l1Join_any _ _ wx (by omega) (by omega)
  have HFt : Hid (∀ wx : World, Calls Tryz.prog 105 #[.string (Tre.seqP p y.next)] wx fun e w' => e = .returned (.int .i64 (Pth.faultI (Tre.seqP p y.next).data.toList)) ∧ Ext wx w') := l1FaultI_any _
  rw [hk5] at HNm
  rw [hfs] at HFt
  have HT2 : Hid (∀ (wx : World), Ext w wx → Calls Tryz.prog 62 #[.slice (some ⟨b, off, none⟩) zs.length cap, .string (Tre.seqP p y.next)] wx fun e w' => e = .returned (.int .i64 (Tre.atI zs (Tre.seqP p y.next))) ∧ w' = wx) := fun wx h => HT.out wx (Tre.seqP p y.next) h
  generalize Tre.atI zs (Tre.seqP p y.next) = t at *
  generalize Tre.seqP p y.next = sp at *
  generalize Pth.lastSl p.data.toList 0 0 = la at *
  generalize Tre.seqN p y.next = sn at *
  go_enter Tryz.func52, Tryz.ntmps52
  go_wp2_with fail
  refine (HD.out _).mono ?_
  rintro e w0 ⟨rfl, rfl⟩
  go_wp2_with fail
  refine (HW.out _).mono ?_
  rintro e w0 ⟨rfl, rfl⟩
  go_wp2_with fail
  refine (HP.out _).mono ?_
  rintro e w0 ⟨rfl, rfl⟩
  go_wp2_with fail
  refine (HTp.out _ ((Ext.refl _).alloc _)).mono ?_
  rintro e w0 ⟨rfl, rfl⟩
  have hdy := (HDy.out _ ((Ext.refl w).alloc (.cells #[.int .i64 0, .string ⟨#[]⟩, .slice none 0 0] 28))).1
  go_wp2_with fail
  refine (HC.out _ ((Ext.refl _).alloc _)).mono ?_
  rintro e w3 ⟨v3, g, rfl, hg, hO, hb3⟩
  obtain ⟨a3, cap3, rfl, hlc3, hcm3, hx3⟩ := id hO
  obtain ⟨off3, rfl, -, -⟩ := hx3 hp
  have HO : Hid (Own w3 (.slice (some ⟨g, off3, none⟩) zs.length cap3) g zs) := hO
  have HG : Hid (w.heap.size + 1 ≤ g) := by have h := hg; simp at h; exact h
  have HQ : Hid (RBox w3 w.heap.size) := (RBox.new w _).ext hb3
  have HB3 : Hid (Ext w w3) := ((Ext.refl _).alloc _).trans hb3
  clear hb3 hO hg hx3
  unfold maxLen at hcm3
  have hny := (HDy.out _ HB3.out).2
  go_wp2_with fail
  refine (HL.out _).mono ?_
  rintro e w0 ⟨rfl, rfl⟩
  go_wp2_with fail
  refine (HSq.out _).mono ?_
  rintro e w4 ⟨rfl, hb4⟩
  have HB4 : Hid (Ext w w4) := HB3.out.trans hb4
  have HQ4 : Hid (RBox w4 w.heap.size) := HQ.out.ext hb4
  have HO4 : Hid (Own w4 (.slice (some ⟨g, off3, none⟩) zs.length cap3) g zs) := HO.out.ext hb4
  clear hb4
  go_wp2_with fail
  refine (HNm.out _).mono ?_
  rintro e w0 ⟨rfl, rfl⟩
  go_wp2_with fail
  refine (HP.out _).mono ?_
  rintro e w0 ⟨rfl, rfl⟩
  go_wp2_with fail
  refine (HSq.out _).mono ?_
  rintro e w5 ⟨rfl, hb5⟩
  have HB5 : Hid (Ext w w5) := HB4.out.trans hb5
  have HQ5 : Hid (RBox w5 w.heap.size) := HQ4.out.ext hb5
  have HO5 : Hid (Own w5 (.slice (some ⟨g, off3, none⟩) zs.length cap3) g zs) := HO4.out.ext hb5
  clear hb5
  go_wp2_with fail
  refine (HJ.out _).mono ?_
  rintro e w0 ⟨rfl, rfl⟩
  go_wp2_with fail
  refine (HFt.out _).mono ?_
  rintro e w6 ⟨rfl, hb6⟩
  have HB6 : Hid (Ext w w6) := HB5.out.trans hb6
  have HQ6 : Hid (RBox w6 w.heap.size) := HQ5.out.ext hb6
  have HO6 : Hid (Own w6 (.slice (some ⟨g, off3, none⟩) zs.length cap3) g zs) := HO5.out.ext hb6
  clear hb6
  obtain ⟨a8, cap8, he8, -, -, hx8⟩ := id HO6.out
  injection he8 with e1 e2 e3
  subst e1 e3
  obtain ⟨off8, ho8, hR8, hN8⟩ := hx8 hp
  injection ho8 with ho8
  injection ho8 with _ ho8 _
  subst ho8
  obtain ⟨⟨u4, r4⟩, s4⟩ := hR8.2 (k * 5 + 4) (by omega)
  rw [← Nat.add_assoc] at r4 s4
  have HS7 : Hid (Own (w6.setCell ⟨g, off3 + k * 5 + 4, none⟩ (.int .i64 (y.next + 1))) (.slice (some ⟨g, off3, none⟩) zs.length cap3) g (zs.set k { y with next := y.next + 1 })) := HO6.out.field HY.out 4 (by omega) (.int .i64 (y.next + 1)) { y with next := y.next + 1 } rfl
  have HB7s : Hid (Ext w (w6.setCell ⟨g, off3 + k * 5 + 4, none⟩ (.int .i64 (y.next + 1)))) := HB6.out.setCell (p := ⟨g, off3 + k * 5 + 4, none⟩) (by have := HG.out; show _ ≤ g; omega) _
  have HQ7s : Hid (RBox (w6.setCell ⟨g, off3 + k * 5 + 4, none⟩ (.int .i64 (y.next + 1))) w.heap.size) := HQ6.out.updS ((Upd.refl g w6).setAt _ _) (by have := HG.out; omega)
  clear hR8 hN8 hx8
  go_wp2_with fail
  refine (HT2.out _ HB7s.out).mono ?_
  rintro e w0 ⟨rfl, rfl⟩
  go_wp2_with fail
  refine (HB0.out _ _).mono ?_
  rintro e w9 ⟨rfl, hb9⟩
  obtain ⟨q9, q0, q1, q2, f0, f1, f2⟩ := (HQ7s.out).ext hb9
  have HB9 : Hid (Ext w w9) := (HB7s.out).trans hb9
  clear hb9
  go_wp2
  exact bodyPost_ret (v := zr 6 ⟨#[]⟩ (.slice none 0 0)) (by simp [results, Tryz.results52, go_sem, zr, q0, q1, q2]) rfl (zret_bad _ _ (HB9.out.box3 _ _ _))

set_option maxHeartbeats 4000000 in
set_option maxRecDepth 100000 in
theorem l2Create_s2 (b off cap : Nat) (zs : List Zn) (p : ByteArray) (d o : Int) (q : Bool) (w : World) (hS : NSlice w (.slice (some ⟨b, off, none⟩) zs.length cap) zs) (hl : zs.length ≤ 1000) (hp : 0 < zs.length) (hf : Pth.faultI p.data.toList = 0) (hd : Tre.okData d = true) (ho : Tre.okOwner o = true) (ht : (p.toList == [47]) = false) (k : Nat) (y : Zn) (ha : Tre.atI zs (Tre.par p) = k) (hy : zs[k]? = some y) (hw : y.owner = 0) (hq : q = true) (hn0 : 0 ≤ y.next) (hn9 : ¬ 100 ≤ y.next) (hk5 : Pth.okName (Tre.seqN p y.next).data.toList = true) (hfs : Pth.faultI (Tre.seqP p y.next).data.toList = 0) (hm : ¬ 0 ≤ Tre.atI zs (Tre.seqP p y.next)) (h20 : 20 ≤ zs.length) :
    Calls Tryz.prog 52 #[.slice (some ⟨b, off, none⟩) zs.length cap, .string p, .int .i64 d, .int .i64 o, .bool q] w (ZRet w 2 ⟨#[]⟩ []) := by
  have HS : Hid (NSlice w (.slice (some ⟨b, off, none⟩) zs.length cap) zs) := hS
  have h24 := few_of_ok hf
  have HD : Hid (∀ wx : World, Calls Tryz.prog 106 #[.int .i64 d] wx fun e w' => e = .returned (.bool (Tre.okData d)) ∧ w' = wx) := l2Data_any d
  have HW : Hid (∀ wx : World, Calls Tryz.prog 107 #[.int .i64 o] wx fun e w' => e = .returned (.bool (Tre.okOwner o)) ∧ w' = wx) := l2Owner_any o
  have HP : Hid (∀ wx : World, Calls Tryz.prog 108 #[.string p] wx fun e w' => e = .returned (.string (Tre.par p)) ∧ w' = wx) := fun wx => l1Parent_any p wx h24
  have HT : Hid (∀ (wx : World) (s : ByteArray), Ext w wx → Calls Tryz.prog 62 #[.slice (some ⟨b, off, none⟩) zs.length cap, .string s] wx fun e w' => e = .returned (.int .i64 (Tre.atI zs s)) ∧ w' = wx) := fun wx s h => l2At_any _ zs s wx (hS.ext h)
  have HB0 : Hid (∀ (c : Int) (wx : World), Calls Tryz.prog 51 #[.int .i64 c] wx fun e w' => e = .returned (zr c ⟨#[]⟩ (.slice none 0 0)) ∧ Ext wx w') := l2Bad_any
  unfold zr at HB0
  have HC : Hid (∀ wx : World, Ext w wx → Calls Tryz.prog 109 #[.slice (some ⟨b, off, none⟩) zs.length cap] wx fun e w' => ∃ v' g, e = .returned v' ∧ wx.heap.size ≤ g ∧ Own w' v' g zs ∧ Ext wx w') := fun wx h => l2Copy_any _ zs wx (hS.ext h) (by omega) hp
  obtain ⟨a', cap', he, hlc, hcm, hx⟩ := hS
  injection he with e1 _ e3
  subst e1 e3
  obtain ⟨b', off', he, hb, hN⟩ := hx hp
  injection he with he
  injection he with e1 e2 _
  subst e1 e2
  have HN : Hid (b < w.heap.size ∧ NodesAt w b off zs) := ⟨hb, hN⟩
  clear hx hN
  unfold maxLen at hcm
  subst hq
  have hll := lastSl_le2 p hf ht
  have HL : Hid (∀ wx : World, Calls Tryz.prog 110 #[.string p] wx fun e w' => e = .returned (.int .i64 (Pth.lastSl p.data.toList 0 0 : Nat)) ∧ w' = wx) := fun wx => l1Last_any p wx h24
  rw [hd] at HD
  rw [ho] at HW
  have hkl := (List.getElem?_eq_some_iff.1 hy).1
  have HY : Hid (zs[k]? = some y) := hy
  have HTp : Hid (∀ (wx : World), Ext w wx → Calls Tryz.prog 62 #[.slice (some ⟨b, off, none⟩) zs.length cap, .string (Tre.par p)] wx fun e w' => e = .returned (.int .i64 k) ∧ w' = wx) := fun wx h => by have := HT.out wx (Tre.par p) h; rw [ha] at this; exact this
  have HDy : Hid (∀ wx : World, Ext w wx → wx.cell? ⟨b, off + k * 5 + 3, none⟩ = some (.int .i64 y.owner) ∧ wx.cell? ⟨b, off + k * 5 + 4, none⟩ = some (.int .i64 y.next)) := fun wx h => ⟨(HN.out.2.ext HN.out.1 h k y HY.out).2.2.2.1, (HN.out.2.ext HN.out.1 h k y HY.out).2.2.2.2⟩
  clear hy ha
  have hw1 : (y.owner != 0) = false := by simp [hw]
  clear hw
  have HSq : Hid (∀ wx : World, Calls Tryz.prog 112 #[.string (p.extract (Pth.lastSl p.data.toList 0 0 + 1) p.size), .int .i64 y.next] wx fun e w' => e = .returned (.string (Tre.seqN p y.next)) ∧ Ext wx w') := fun wx => l1Seq_any _ y.next wx (by simp [ByteArray.size_extract]; omega) hn0 (by omega)
  have hsn := Tre.seqN_size p y.next
  have hps := Tre.par_size p
  have HNm : Hid (∀ wx : World, Calls Tryz.prog 111 #[.string (Tre.seqN p y.next)] wx fun e w' => e = .returned (.bool (Pth.okName (Tre.seqN p y.next).data.toList)) ∧ w' = wx) := fun wx => l1Name_any _ wx (by unfold maxLen; omega)
  have HJ : Hid (∀ wx : World, Calls Tryz.prog 38 #[.string (Tre.par p), .string (Tre.seqN p y.next)] wx fun e w' => e = .returned (.string (Tre.seqP p y.next)) ∧ w' = wx) := fun wx => l1Join_any _ _ wx (by omega) (by omega)
  have HFt : Hid (∀ wx : World, Calls Tryz.prog 105 #[.string (Tre.seqP p y.next)] wx fun e w' => e = .returned (.int .i64 (Pth.faultI (Tre.seqP p y.next).data.toList)) ∧ Ext wx w') := l1FaultI_any _
  rw [hk5] at HNm
  rw [hfs] at HFt
  have HT2 : Hid (∀ (wx : World), Ext w wx → Calls Tryz.prog 62 #[.slice (some ⟨b, off, none⟩) zs.length cap, .string (Tre.seqP p y.next)] wx fun e w' => e = .returned (.int .i64 (Tre.atI zs (Tre.seqP p y.next))) ∧ w' = wx) := fun wx h => HT.out wx (Tre.seqP p y.next) h
  generalize Tre.atI zs (Tre.seqP p y.next) = t at *
  generalize Tre.seqP p y.next = sp at *
  generalize Pth.lastSl p.data.toList 0 0 = la at *
  generalize Tre.seqN p y.next = sn at *
  go_enter Tryz.func52, Tryz.ntmps52
  go_wp2_with fail
  refine (HD.out _).mono ?_
  rintro e w0 ⟨rfl, rfl⟩
  go_wp2_with fail
  refine (HW.out _).mono ?_
  rintro e w0 ⟨rfl, rfl⟩
  go_wp2_with fail
  refine (HP.out _).mono ?_
  rintro e w0 ⟨rfl, rfl⟩
  go_wp2_with fail
  refine (HTp.out _ ((Ext.refl _).alloc _)).mono ?_
  rintro e w0 ⟨rfl, rfl⟩
  have hdy := (HDy.out _ ((Ext.refl w).alloc (.cells #[.int .i64 0, .string ⟨#[]⟩, .slice none 0 0] 28))).1
  go_wp2_with fail
  refine (HC.out _ ((Ext.refl _).alloc _)).mono ?_
  rintro e w3 ⟨v3, g, rfl, hg, hO, hb3⟩
  obtain ⟨a3, cap3, rfl, hlc3, hcm3, hx3⟩ := id hO
  obtain ⟨off3, rfl, -, -⟩ := hx3 hp
  have HO : Hid (Own w3 (.slice (some ⟨g, off3, none⟩) zs.length cap3) g zs) := hO
  have HG : Hid (w.heap.size + 1 ≤ g) := by have h := hg; simp at h; exact h
  have HQ : Hid (RBox w3 w.heap.size) := (RBox.new w _).ext hb3
  have HB3 : Hid (Ext w w3) := ((Ext.refl _).alloc _).trans hb3
  clear hb3 hO hg hx3
  unfold maxLen at hcm3
  have hny := (HDy.out _ HB3.out).2
  go_wp2_with fail
  refine (HL.out _).mono ?_
  rintro e w0 ⟨rfl, rfl⟩
  go_wp2_with fail
  refine (HSq.out _).mono ?_
  rintro e w4 ⟨rfl, hb4⟩
  have HB4 : Hid (Ext w w4) := HB3.out.trans hb4
  have HQ4 : Hid (RBox w4 w.heap.size) := HQ.out.ext hb4
  have HO4 : Hid (Own w4 (.slice (some ⟨g, off3, none⟩) zs.length cap3) g zs) := HO.out.ext hb4
  clear hb4
  go_wp2_with fail
  refine (HNm.out _).mono ?_
  rintro e w0 ⟨rfl, rfl⟩
  go_wp2_with fail
  refine (HP.out _).mono ?_
  rintro e w0 ⟨rfl, rfl⟩
  go_wp2_with fail
  refine (HSq.out _).mono ?_
  rintro e w5 ⟨rfl, hb5⟩
  have HB5 : Hid (Ext w w5) := HB4.out.trans hb5
  have HQ5 : Hid (RBox w5 w.heap.size) := HQ4.out.ext hb5
  have HO5 : Hid (Own w5 (.slice (some ⟨g, off3, none⟩) zs.length cap3) g zs) := HO4.out.ext hb5
  clear hb5
  go_wp2_with fail
  refine (HJ.out _).mono ?_
  rintro e w0 ⟨rfl, rfl⟩
  go_wp2_with fail
  refine (HFt.out _).mono ?_
  rintro e w6 ⟨rfl, hb6⟩
  have HB6 : Hid (Ext w w6) := HB5.out.trans hb6
  have HQ6 : Hid (RBox w6 w.heap.size) := HQ5.out.ext hb6
  have HO6 : Hid (Own w6 (.slice (some ⟨g, off3, none⟩) zs.length cap3) g zs) := HO5.out.ext hb6
  clear hb6
  obtain ⟨a8, cap8, he8, -, -, hx8⟩ := id HO6.out
  injection he8 with e1 e2 e3
  subst e1 e3
  obtain ⟨off8, ho8, hR8, hN8⟩ := hx8 hp
  injection ho8 with ho8
  injection ho8 with _ ho8 _
  subst ho8
  obtain ⟨⟨u4, r4⟩, s4⟩ := hR8.2 (k * 5 + 4) (by omega)
  rw [← Nat.add_assoc] at r4 s4
  have HS7 : Hid (Own (w6.setCell ⟨g, off3 + k * 5 + 4, none⟩ (.int .i64 (y.next + 1))) (.slice (some ⟨g, off3, none⟩) zs.length cap3) g (zs.set k { y with next := y.next + 1 })) := HO6.out.field HY.out 4 (by omega) (.int .i64 (y.next + 1)) { y with next := y.next + 1 } rfl
  have HB7s : Hid (Ext w (w6.setCell ⟨g, off3 + k * 5 + 4, none⟩ (.int .i64 (y.next + 1)))) := HB6.out.setCell (p := ⟨g, off3 + k * 5 + 4, none⟩) (by have := HG.out; show _ ≤ g; omega) _
  have HQ7s : Hid (RBox (w6.setCell ⟨g, off3 + k * 5 + 4, none⟩ (.int .i64 (y.next + 1))) w.heap.size) := HQ6.out.updS ((Upd.refl g w6).setAt _ _) (by have := HG.out; omega)
  clear hR8 hN8 hx8
  go_wp2_with fail
  refine (HT2.out _ HB7s.out).mono ?_
  rintro e w0 ⟨rfl, rfl⟩
  go_wp2_with fail
  refine (HB0.out _ _).mono ?_
  rintro e w9 ⟨rfl, hb9⟩
  obtain ⟨q9, q0, q1, q2, f0, f1, f2⟩ := (HQ7s.out).ext hb9
  have HB9 : Hid (Ext w w9) := (HB7s.out).trans hb9
  clear hb9
  go_wp2
  exact bodyPost_ret (v := zr 2 ⟨#[]⟩ (.slice none 0 0)) (by simp [results, Tryz.results52, go_sem, zr, q0, q1, q2]) rfl (zret_bad _ _ (HB9.out.box3 _ _ _))

set_option maxHeartbeats 4000000 in
set_option maxRecDepth 100000 in
theorem l2Create_s0 (b off cap : Nat) (zs : List Zn) (p : ByteArray) (d o : Int) (q : Bool) (w : World) (hS : NSlice w (.slice (some ⟨b, off, none⟩) zs.length cap) zs) (hl : zs.length ≤ 1000) (hp : 0 < zs.length) (hf : Pth.faultI p.data.toList = 0) (hd : Tre.okData d = true) (ho : Tre.okOwner o = true) (ht : (p.toList == [47]) = false) (k : Nat) (y : Zn) (ha : Tre.atI zs (Tre.par p) = k) (hy : zs[k]? = some y) (hw : y.owner = 0) (hq : q = true) (hn0 : 0 ≤ y.next) (hn9 : ¬ 100 ≤ y.next) (hk5 : Pth.okName (Tre.seqN p y.next).data.toList = true) (hfs : Pth.faultI (Tre.seqP p y.next).data.toList = 0) (hm : ¬ 0 ≤ Tre.atI zs (Tre.seqP p y.next)) (h20 : ¬ 20 ≤ zs.length) :
    Calls Tryz.prog 52 #[.slice (some ⟨b, off, none⟩) zs.length cap, .string p, .int .i64 d, .int .i64 o, .bool q] w (ZRet w 0 (Tre.seqP p y.next) (Tre.putT (zs.set k { y with next := y.next + 1 }) ⟨(Tre.seqP p y.next), d, 0, o, 0⟩)) := by
  have HS : Hid (NSlice w (.slice (some ⟨b, off, none⟩) zs.length cap) zs) := hS
  have h24 := few_of_ok hf
  have HD : Hid (∀ wx : World, Calls Tryz.prog 106 #[.int .i64 d] wx fun e w' => e = .returned (.bool (Tre.okData d)) ∧ w' = wx) := l2Data_any d
  have HW : Hid (∀ wx : World, Calls Tryz.prog 107 #[.int .i64 o] wx fun e w' => e = .returned (.bool (Tre.okOwner o)) ∧ w' = wx) := l2Owner_any o
  have HP : Hid (∀ wx : World, Calls Tryz.prog 108 #[.string p] wx fun e w' => e = .returned (.string (Tre.par p)) ∧ w' = wx) := fun wx => l1Parent_any p wx h24
  have HT : Hid (∀ (wx : World) (s : ByteArray), Ext w wx → Calls Tryz.prog 62 #[.slice (some ⟨b, off, none⟩) zs.length cap, .string s] wx fun e w' => e = .returned (.int .i64 (Tre.atI zs s)) ∧ w' = wx) := fun wx s h => l2At_any _ zs s wx (hS.ext h)
  have HB0 : Hid (∀ (c : Int) (wx : World), Calls Tryz.prog 51 #[.int .i64 c] wx fun e w' => e = .returned (zr c ⟨#[]⟩ (.slice none 0 0)) ∧ Ext wx w') := l2Bad_any
  unfold zr at HB0
  have HC : Hid (∀ wx : World, Ext w wx → Calls Tryz.prog 109 #[.slice (some ⟨b, off, none⟩) zs.length cap] wx fun e w' => ∃ v' g, e = .returned v' ∧ wx.heap.size ≤ g ∧ Own w' v' g zs ∧ Ext wx w') := fun wx h => l2Copy_any _ zs wx (hS.ext h) (by omega) hp
  obtain ⟨a', cap', he, hlc, hcm, hx⟩ := hS
  injection he with e1 _ e3
  subst e1 e3
  obtain ⟨b', off', he, hb, hN⟩ := hx hp
  injection he with he
  injection he with e1 e2 _
  subst e1 e2
  have HN : Hid (b < w.heap.size ∧ NodesAt w b off zs) := ⟨hb, hN⟩
  clear hx hN
  unfold maxLen at hcm
  subst hq
  have hll := lastSl_le2 p hf ht
  have HL : Hid (∀ wx : World, Calls Tryz.prog 110 #[.string p] wx fun e w' => e = .returned (.int .i64 (Pth.lastSl p.data.toList 0 0 : Nat)) ∧ w' = wx) := fun wx => l1Last_any p wx h24
  rw [hd] at HD
  rw [ho] at HW
  have hkl := (List.getElem?_eq_some_iff.1 hy).1
  have HY : Hid (zs[k]? = some y) := hy
  have HTp : Hid (∀ (wx : World), Ext w wx → Calls Tryz.prog 62 #[.slice (some ⟨b, off, none⟩) zs.length cap, .string (Tre.par p)] wx fun e w' => e = .returned (.int .i64 k) ∧ w' = wx) := fun wx h => by have := HT.out wx (Tre.par p) h; rw [ha] at this; exact this
  have HDy : Hid (∀ wx : World, Ext w wx → wx.cell? ⟨b, off + k * 5 + 3, none⟩ = some (.int .i64 y.owner) ∧ wx.cell? ⟨b, off + k * 5 + 4, none⟩ = some (.int .i64 y.next)) := fun wx h => ⟨(HN.out.2.ext HN.out.1 h k y HY.out).2.2.2.1, (HN.out.2.ext HN.out.1 h k y HY.out).2.2.2.2⟩
  clear hy ha
  have hw1 : (y.owner != 0) = false := by simp [hw]
  clear hw
  have HSq : Hid (∀ wx : World, Calls Tryz.prog 112 #[.string (p.extract (Pth.lastSl p.data.toList 0 0 + 1) p.size), .int .i64 y.next] wx fun e w' => e = .returned (.string (Tre.seqN p y.next)) ∧ Ext wx w') := fun wx => l1Seq_any _ y.next wx (by simp [ByteArray.size_extract]; omega) hn0 (by omega)
  have hsn := Tre.seqN_size p y.next
  have hps := Tre.par_size p
  have HNm : Hid (∀ wx : World, Calls Tryz.prog 111 #[.string (Tre.seqN p y.next)] wx fun e w' => e = .returned (.bool (Pth.okName (Tre.seqN p y.next).data.toList)) ∧ w' = wx) := fun wx => l1Name_any _ wx (by unfold maxLen; omega)
  have HJ : Hid (∀ wx : World, Calls Tryz.prog 38 #[.string (Tre.par p), .string (Tre.seqN p y.next)] wx fun e w' => e = .returned (.string (Tre.seqP p y.next)) ∧ w' = wx) := fun wx => l1Join_any _ _ wx (by omega) (by omega)
  have HFt : Hid (∀ wx : World, Calls Tryz.prog 105 #[.string (Tre.seqP p y.next)] wx fun e w' => e = .returned (.int .i64 (Pth.faultI (Tre.seqP p y.next).data.toList)) ∧ Ext wx w') := l1FaultI_any _
  rw [hk5] at HNm
  rw [hfs] at HFt
  have HPut : Hid (∀ (wx : World) (g off3 cap3 : Nat), NSlice wx (.slice (some ⟨g, off3, none⟩) zs.length cap3) (zs.set k { y with next := y.next + 1 }) → Calls Tryz.prog 113 #[.slice (some ⟨g, off3, none⟩) zs.length cap3, .agg #[.string (Tre.seqP p y.next), .int .i64 d, .int .i64 0, .int .i64 o, .int .i64 0]] wx fun e w' => ∃ v' g, e = .returned v' ∧ wx.heap.size ≤ g ∧ Own w' v' g (Tre.putT (zs.set k { y with next := y.next + 1 }) ⟨(Tre.seqP p y.next), d, 0, o, 0⟩) ∧ Ext wx w') := fun wx g off3 cap3 h => by
    have := l2Put_any g off3 cap3 (zs.set k { y with next := y.next + 1 }) ⟨(Tre.seqP p y.next), d, 0, o, 0⟩ wx (by rw [List.length_set]; exact h) (by rw [List.length_set]; omega) (by rw [List.length_set]; omega)
    rw [List.length_set] at this
    exact this
  have HT2 : Hid (∀ (wx : World), Ext w wx → Calls Tryz.prog 62 #[.slice (some ⟨b, off, none⟩) zs.length cap, .string (Tre.seqP p y.next)] wx fun e w' => e = .returned (.int .i64 (Tre.atI zs (Tre.seqP p y.next))) ∧ w' = wx) := fun wx h => HT.out wx (Tre.seqP p y.next) h
  generalize Tre.atI zs (Tre.seqP p y.next) = t at *
  generalize Tre.seqP p y.next = sp at *
  generalize Pth.lastSl p.data.toList 0 0 = la at *
  generalize Tre.seqN p y.next = sn at *
  go_enter Tryz.func52, Tryz.ntmps52
  go_wp2_with fail
  refine (HD.out _).mono ?_
  rintro e w0 ⟨rfl, rfl⟩
  go_wp2_with fail
  refine (HW.out _).mono ?_
  rintro e w0 ⟨rfl, rfl⟩
  go_wp2_with fail
  refine (HP.out _).mono ?_
  rintro e w0 ⟨rfl, rfl⟩
  go_wp2_with fail
  refine (HTp.out _ ((Ext.refl _).alloc _)).mono ?_
  rintro e w0 ⟨rfl, rfl⟩
  have hdy := (HDy.out _ ((Ext.refl w).alloc (.cells #[.int .i64 0, .string ⟨#[]⟩, .slice none 0 0] 28))).1
  go_wp2_with fail
  refine (HC.out _ ((Ext.refl _).alloc _)).mono ?_
  rintro e w3 ⟨v3, g, rfl, hg, hO, hb3⟩
  obtain ⟨a3, cap3, rfl, hlc3, hcm3, hx3⟩ := id hO
  obtain ⟨off3, rfl, -, -⟩ := hx3 hp
  have HO : Hid (Own w3 (.slice (some ⟨g, off3, none⟩) zs.length cap3) g zs) := hO
  have HG : Hid (w.heap.size + 1 ≤ g) := by have h := hg; simp at h; exact h
  have HQ : Hid (RBox w3 w.heap.size) := (RBox.new w _).ext hb3
  have HB3 : Hid (Ext w w3) := ((Ext.refl _).alloc _).trans hb3
  clear hb3 hO hg hx3
  unfold maxLen at hcm3
  have hny := (HDy.out _ HB3.out).2
  go_wp2_with fail
  refine (HL.out _).mono ?_
  rintro e w0 ⟨rfl, rfl⟩
  go_wp2_with fail
  refine (HSq.out _).mono ?_
  rintro e w4 ⟨rfl, hb4⟩
  have HB4 : Hid (Ext w w4) := HB3.out.trans hb4
  have HQ4 : Hid (RBox w4 w.heap.size) := HQ.out.ext hb4
  have HO4 : Hid (Own w4 (.slice (some ⟨g, off3, none⟩) zs.length cap3) g zs) := HO.out.ext hb4
  clear hb4
  go_wp2_with fail
  refine (HNm.out _).mono ?_
  rintro e w0 ⟨rfl, rfl⟩
  go_wp2_with fail
  refine (HP.out _).mono ?_
  rintro e w0 ⟨rfl, rfl⟩
  go_wp2_with fail
  refine (HSq.out _).mono ?_
  rintro e w5 ⟨rfl, hb5⟩
  have HB5 : Hid (Ext w w5) := HB4.out.trans hb5
  have HQ5 : Hid (RBox w5 w.heap.size) := HQ4.out.ext hb5
  have HO5 : Hid (Own w5 (.slice (some ⟨g, off3, none⟩) zs.length cap3) g zs) := HO4.out.ext hb5
  clear hb5
  go_wp2_with fail
  refine (HJ.out _).mono ?_
  rintro e w0 ⟨rfl, rfl⟩
  go_wp2_with fail
  refine (HFt.out _).mono ?_
  rintro e w6 ⟨rfl, hb6⟩
  have HB6 : Hid (Ext w w6) := HB5.out.trans hb6
  have HQ6 : Hid (RBox w6 w.heap.size) := HQ5.out.ext hb6
  have HO6 : Hid (Own w6 (.slice (some ⟨g, off3, none⟩) zs.length cap3) g zs) := HO5.out.ext hb6
  clear hb6
  obtain ⟨a8, cap8, he8, -, -, hx8⟩ := id HO6.out
  injection he8 with e1 e2 e3
  subst e1 e3
  obtain ⟨off8, ho8, hR8, hN8⟩ := hx8 hp
  injection ho8 with ho8
  injection ho8 with _ ho8 _
  subst ho8
  obtain ⟨⟨u4, r4⟩, s4⟩ := hR8.2 (k * 5 + 4) (by omega)
  rw [← Nat.add_assoc] at r4 s4
  have HS7 : Hid (Own (w6.setCell ⟨g, off3 + k * 5 + 4, none⟩ (.int .i64 (y.next + 1))) (.slice (some ⟨g, off3, none⟩) zs.length cap3) g (zs.set k { y with next := y.next + 1 })) := HO6.out.field HY.out 4 (by omega) (.int .i64 (y.next + 1)) { y with next := y.next + 1 } rfl
  have HB7s : Hid (Ext w (w6.setCell ⟨g, off3 + k * 5 + 4, none⟩ (.int .i64 (y.next + 1)))) := HB6.out.setCell (p := ⟨g, off3 + k * 5 + 4, none⟩) (by have := HG.out; show _ ≤ g; omega) _
  have HQ7s : Hid (RBox (w6.setCell ⟨g, off3 + k * 5 + 4, none⟩ (.int .i64 (y.next + 1))) w.heap.size) := HQ6.out.updS ((Upd.refl g w6).setAt _ _) (by have := HG.out; omega)
  clear hR8 hN8 hx8
  go_wp2_with fail
  refine (HT2.out _ HB7s.out).mono ?_
  rintro e w0 ⟨rfl, rfl⟩
  go_wp2_with fail
  refine (HPut.out _ _ _ _ (by have h := HS7.out.slice; exact h)).mono ?_
  rintro e w7 ⟨v7, g7, rfl, hg7, hO7, hb7⟩
  obtain ⟨a7, cap7, rfl, -⟩ := id hO7
  have HO7 : Hid (Own w7 (.slice a7 (Tre.putT (zs.set k { y with next := y.next + 1 }) ⟨sp, d, 0, o, 0⟩).length cap7) g7 (Tre.putT (zs.set k { y with next := y.next + 1 }) ⟨sp, d, 0, o, 0⟩)) := hO7
  have HG7 : Hid (w.heap.size + 1 ≤ g7) := by have := (HQ7s.out).1; show _ ≤ _; omega
  obtain ⟨q9, q0, q1, q2, f0, f1, f2⟩ := (HQ7s.out).ext hb7
  have HB7 : Hid (Ext w w7) := (HB7s.out).trans hb7
  clear hb7 hO7 hg7
  go_wp2
  exact bodyPost_ret (v := zr 0 sp (.slice a7 (Tre.putT (zs.set k { y with next := y.next + 1 }) ⟨sp, d, 0, o, 0⟩).length cap7)) (by simp [results, Tryz.results52, go_sem, zr, q0, q1, q2]) rfl (zret_own 0 sp HO7.out HG7.out HB7.out _ _ _)

theorem l2Create_any (b off cap : Nat) (zs : List Zn) (p : ByteArray) (d o : Int) (q : Bool) (w : World) (hS : NSlice w (.slice (some ⟨b, off, none⟩) zs.length cap) zs) (hl : zs.length ≤ 1000) (hp : 0 < zs.length) (hf : Pth.faultI p.data.toList = 0) (hn : ∀ z ∈ zs, 0 ≤ z.next) :
    Calls Tryz.prog 52 #[.slice (some ⟨b, off, none⟩) zs.length cap, .string p, .int .i64 d, .int .i64 o, .bool q] w (ZRet w (Tre.createT zs p d o q).1 (Tre.createT zs p d o q).2.1 (Tre.createT zs p d o q).2.2) := by
  cases hd : Tre.okData d with
  | false => rw [Tre.createT_range (by rw [hd]; rfl)]; exact l2Create_data b off cap zs p d o q w hS hl hp hf hd
  | true =>
  cases ho : Tre.okOwner o with
  | false => rw [Tre.createT_range (by rw [hd, ho]; rfl)]; exact l2Create_owner b off cap zs p d o q w hS hl hp hf hd ho
  | true =>
  have hdo : (Tre.okData d && Tre.okOwner o) = true := by rw [hd, ho]; rfl
  cases ht : (p.toList == [47]) with
  | true => rw [Tre.createT_top hdo ht]; exact l2Create_top b off cap zs p d o q w hS hl hp hf hd ho ht
  | false =>
  rcases Tre.atI_range zs (Tre.par p) with ⟨hm, -⟩ | ⟨k, y, ha, hkl, hy, -⟩
  · rw [Tre.createT_none hdo ht (by omega)]; exact l2Create_none b off cap zs p d o q w hS hl hp hf hd ho ht (by omega)
  rw [Tre.createT_some hdo ht ha hy]
  by_cases hw : y.owner = 0
  · rw [if_neg (by simpa using hw)]
    have hn0 := hn y (List.mem_of_getElem? hy)
    cases q with
    | false =>
      rw [if_neg (by simp)]
      by_cases hm : 0 ≤ Tre.atI zs p
      · rw [Tre.finT_taken hm]; exact l2Create_p6 b off cap zs p d o false w hS hl hp hf hd ho ht k y ha hy hw rfl hm
      by_cases h20 : 20 ≤ zs.length
      · rw [Tre.finT_many hm h20]; exact l2Create_p2 b off cap zs p d o false w hS hl hp hf hd ho ht k y ha hy hw rfl hm h20
      · rw [Tre.finT_ok hm h20]; exact l2Create_p0 b off cap zs p d o false w hS hl hp hf hd ho ht k y ha hy hw rfl hm h20
    | true =>
      rw [if_pos rfl]
      by_cases hn9 : 100 ≤ y.next
      · rw [show Tre.seqT zs p k y = (3, ⟨#[]⟩, []) from by unfold Tre.seqT; rw [if_pos hn9]]
        rw [if_pos (by simp)]
        exact l2Create_s3 b off cap zs p d o true w hS hl hp hf hd ho ht k y ha hy hw rfl hn0 hn9
      cases hk5 : Pth.okName (Tre.seqN p y.next).data.toList with
      | false =>
        rw [show Tre.seqT zs p k y = (5, ⟨#[]⟩, []) from by unfold Tre.seqT; rw [if_neg hn9, if_pos hk5]]
        rw [if_pos (by simp)]
        exact l2Create_s5 b off cap zs p d o true w hS hl hp hf hd ho ht k y ha hy hw rfl hn0 hn9 hk5
      | true =>
      by_cases hfs : Pth.faultI (Tre.seqP p y.next).data.toList ≠ 0
      · rw [show Tre.seqT zs p k y = (Pth.faultI (Tre.seqP p y.next).data.toList, ⟨#[]⟩, []) from by unfold Tre.seqT; rw [if_neg hn9, if_neg (by rw [hk5]; simp), if_pos hfs]]
        rw [if_pos hfs]
        exact l2Create_sf b off cap zs p d o true w hS hl hp hf hd ho ht k y ha hy hw rfl hn0 hn9 hk5 hfs
      have hf0 : Pth.faultI (Tre.seqP p y.next).data.toList = 0 := by omega
      rw [show Tre.seqT zs p k y = (0, Tre.seqP p y.next, zs.set k { y with next := y.next + 1 }) from by unfold Tre.seqT; rw [if_neg hn9, if_neg (by rw [hk5]; simp), if_neg hfs]]
      rw [if_neg (by simp)]
      show Calls _ _ _ _ (ZRet w (Tre.finT zs (Tre.seqP p y.next) (zs.set k { y with next := y.next + 1 }) d o).1 _ _)
      by_cases hm : 0 ≤ Tre.atI zs (Tre.seqP p y.next)
      · rw [Tre.finT_taken hm]; exact l2Create_s6 b off cap zs p d o true w hS hl hp hf hd ho ht k y ha hy hw rfl hn0 hn9 hk5 hf0 hm
      by_cases h20 : 20 ≤ zs.length
      · rw [Tre.finT_many hm h20]; exact l2Create_s2 b off cap zs p d o true w hS hl hp hf hd ho ht k y ha hy hw rfl hn0 hn9 hk5 hf0 hm h20
      · rw [Tre.finT_ok hm h20]; exact l2Create_s0 b off cap zs p d o true w hS hl hp hf hd ho ht k y ha hy hw rfl hn0 hn9 hk5 hf0 hm h20
  · rw [if_pos (by simpa using hw)]; exact l2Create_owned b off cap zs p d o q w hS hl hp hf hd ho ht k y ha hy (by simpa using hw)
end Go.Proofs.YtmiffefnpendoaaGreatDoor

/- sums of numbers: what the specification and the program answer at a slice of numbers. -/
namespace Go.Proofs.YtmiffefnpendoaaGreatDoor
open Go.RowKit

/-- One more number in a sum. -/
def Sm.step (n x : Int) : Int := (n * 31 + x + 1) % 1000003
def Sm.sum (l : List Int) : Int := l.foldl Sm.step 7
def Sm.is (n : Int) : Bool := decide (0 ≤ n) && decide (n ≤ 1000002)
def Sm.ok (l : List Int) : Bool := l.all Sm.is
def Sm.sumV (l : List Int) : Int × Int := if 200 < l.length then (2, 0) else if Sm.ok l = true then (0, Sm.sum l) else (3, 0)
theorem Sm.is_iff {n : Int} : Sm.is n = true ↔ 0 ≤ n ∧ n ≤ 1000002 := by unfold Sm.is; simp
theorem Sm.step_is (n x : Int) : 0 ≤ Sm.step n x ∧ Sm.step n x ≤ 1000002 := by unfold Sm.step; omega
theorem Sm.sum_take {l : List Int} {k : Nat} {x : Int} (h : l[k]? = some x) : Sm.sum (l.take (k + 1)) = Sm.step (Sm.sum (l.take k)) x := by
  obtain ⟨hk, rfl⟩ := List.getElem?_eq_some_iff.1 h
  unfold Sm.sum
  rw [List.take_succ_eq_append_getElem hk, List.foldl_append]; rfl
theorem Sm.sum_is (l : List Int) : 0 ≤ Sm.sum l ∧ Sm.sum l ≤ 1000002 := by
  rcases List.eq_nil_or_concat l with rfl | ⟨m, x, rfl⟩
  · decide
  · unfold Sm.sum; rw [List.concat_eq_append, List.foldl_append]; exact Sm.step_is _ _
theorem Sm.ok_at {l : List Int} {k : Nat} {x : Int} (h : l[k]? = some x) (ho : Sm.ok l = true) : 0 ≤ x ∧ x ≤ 1000002 := by
  unfold Sm.ok at ho
  rw [List.all_eq_true] at ho
  exact Sm.is_iff.1 (ho x (List.mem_of_getElem? h))
theorem Sm.ok_bad {l : List Int} {k : Nat} {x : Int} (h : l[k]? = some x) (hx : Sm.is x = false) : Sm.ok l = false := by
  unfold Sm.ok
  rw [List.all_eq_false]
  exact ⟨x, List.mem_of_getElem? h, by simp [hx]⟩
theorem Sm.ok_all {l : List Int} (h : ∀ j x, j < l.length → l[j]? = some x → Sm.is x = true) : Sm.ok l = true := by
  unfold Sm.ok
  rw [List.all_eq_true]
  intro x hx
  obtain ⟨j, hj⟩ := List.getElem?_of_mem hx
  exact h j x (List.getElem?_eq_some_iff.1 hj).1 hj
theorem Sm.sumV_many {l : List Int} (h : 200 < l.length) : Sm.sumV l = (2, 0) := by unfold Sm.sumV; rw [if_pos h]
theorem Sm.sumV_bad {l : List Int} (h : ¬ 200 < l.length) (ho : Sm.ok l = false) : Sm.sumV l = (3, 0) := by unfold Sm.sumV; rw [if_neg h, if_neg (by simp [ho])]
theorem Sm.sumV_ok {l : List Int} (h : ¬ 200 < l.length) (ho : Sm.ok l = true) : Sm.sumV l = (0, Sm.sum l) := by unfold Sm.sumV; rw [if_neg h, if_pos ho]

/-- The numbers l lie in block b, from off on. -/
def NumsAt (w : World) (b off : Nat) (l : List Int) : Prop := ∀ (i : Nat) x, l[i]? = some x → w.cell? ⟨b, off + i, none⟩ = some (.int .i64 x)
theorem NumsAt.ext {w w' : World} {b off : Nat} {l : List Int} (h : NumsAt w b off l) (hb : b < w.heap.size) (he : Ext w w') : NumsAt w' b off l := by
  intro i x hx
  exact ((Ext.cell he).1 _ _ hb).trans (h i x hx)
/-- The slice value v reads as the numbers l. -/
def ISlice (w : World) (v : Value) (l : List Int) : Prop :=
  ∃ a cap, v = .slice a l.length cap ∧ l.length ≤ cap ∧ cap ≤ maxLen ∧ (0 < l.length → ∃ b off, a = some ⟨b, off, none⟩ ∧ b < w.heap.size ∧ NumsAt w b off l)
theorem ISlice.ext {w w' : World} {v : Value} {l : List Int} (h : ISlice w v l) (he : Ext w w') : ISlice w' v l := by
  obtain ⟨a, cap, h1, h2, h3, h4⟩ := h
  refine ⟨a, cap, h1, h2, h3, fun h0 => ?_⟩
  obtain ⟨b, off, e, hb, hN⟩ := h4 h0
  exact ⟨b, off, e, Nat.lt_of_lt_of_le hb he.size, hN.ext hb he⟩

/-- Block r holds an IntResult that nobody has written yet, and may be written. -/
def IBox (w : World) (r : Nat) : Prop :=
  r < w.heap.size ∧ w.cell? ⟨r, 0, none⟩ = some (.int .i64 0) ∧ w.cell? ⟨r, 1, none⟩ = some (.int .i64 0) ∧ w.frozen? ⟨r, 0, none⟩ = false ∧ w.frozen? ⟨r, 1, none⟩ = false
theorem IBox.new (w : World) (t : TypeId) : IBox (w.alloc (.cells #[.int .i64 0, .int .i64 0] t)) w.heap.size := ⟨by simp, by simp, by simp, by simp, by simp⟩
theorem IBox.ext {w w2 : World} {r : Nat} (h : IBox w r) (he : Ext w w2) : IBox w2 r := by
  obtain ⟨hc, hf⟩ := Ext.cell he
  obtain ⟨h1, h2, h3, h5, h6⟩ := h
  exact ⟨Nat.lt_of_lt_of_le h1 he.size, (hc _ _ h1).trans h2, (hc _ _ h1).trans h3, (hf _ _ h1).trans h5, (hf _ _ h1).trans h6⟩
theorem Ext.two {w w2 : World} (h : Ext w w2) (a b : Value) : Ext w ((w2.setCell ⟨w.heap.size, 0, none⟩ a).setCell ⟨w.heap.size, 1, none⟩ b) :=
  (h.setCell (p := ⟨w.heap.size, 0, none⟩) (Nat.le_refl _) a).setCell (p := ⟨w.heap.size, 1, none⟩) (Nat.le_refl _) b

set_option maxHeartbeats 1000000 in
theorem l3Is_any (n : Int) (w : World) : Calls Tryz.prog 75 #[.int .i64 n] w fun e w' => e = .returned (.bool (Sm.is n)) ∧ w' = w := by
  go_enter Tryz.func75, Tryz.ntmps75
  go_wp2_with fail
  refine (l1In_any _ _ _ _).mono ?_
  rintro e w' ⟨rfl, rfl⟩
  go_wp2
  go_ret
  exact ⟨rfl, rfl⟩

set_option maxHeartbeats 1000000 in
theorem l3Sum_any (v : Value) (l : List Int) (w : World) (hS : ISlice w v l) (hl : l.length ≤ 1000) (ho : Sm.ok l = true) :
    Calls Tryz.prog 117 #[v] w fun e w' => e = .returned (.int .i64 (Sm.sum l)) ∧ w' = w := by
  obtain ⟨a, cap, rfl, hlc, hcm, hx⟩ := hS
  have HX : Hid (0 < l.length → ∃ b off, a = some ⟨b, off, none⟩ ∧ b < w.heap.size ∧ NumsAt w b off l) := hx
  have HO : Hid (Sm.ok l = true) := ho
  clear hx ho
  unfold maxLen at hcm
  go_enter Tryz.func117, Tryz.ntmps117
  go_wp2
  go_loop [3, 4] (fun nv i => ∃ (k : Nat) (n : Int), k ≤ l.length ∧ i = .int .i64 k ∧ nv = .int .i64 n ∧ 0 ≤ n ∧ n ≤ 1000002 ∧ Hid (n = Sm.sum (l.take k))) (fun _ i => l.length - (intOf i).toNat)
  case atStart => exact ⟨0, 7, Nat.zero_le _, rfl, rfl, by omega, by omega, rfl⟩
  case round =>
    obtain ⟨k, n, hk, rfl, rfl, hn0, hn1, HA⟩ := hrel
    by_cases hlt : k < l.length
    · obtain ⟨x, hxk⟩ : ∃ x, l[k]? = some x := ⟨_, List.getElem?_eq_getElem hlt⟩
      obtain ⟨b, off, rfl, hb, hN⟩ := HX.out (by omega)
      have hc := hN k x hxk
      obtain ⟨hx0, hx1⟩ := Sm.ok_at hxk HO.out
      have HA2 : Hid (Sm.step n x = Sm.sum (l.take (k + 1))) := by show _ = _; rw [Sm.sum_take hxk, HA.out]
      clear hN hxk
      have h1 : 0 ≤ (n * 31 + x + 1) % 1000003 ∧ (n * 31 + x + 1) % 1000003 ≤ 1000002 := Sm.step_is n x
      go_wp2
      exact ⟨⟨k + 1, _, by omega, by go_num, rfl, h1.1, h1.2, HA2⟩, by simp [intOf]; omega⟩
    · have hke : k = l.length := by omega
      have HF : Hid (n = Sm.sum l) := by show _ = _; rw [HA.out, hke, List.take_length]
      clear hke
      go_wp2
      go_ret
      exact ⟨ret_int HF.out, rfl⟩

set_option maxHeartbeats 1000000 in
theorem isSum_any (n : Int) (w : World) : Calls Tryz.prog 122 #[.int .i64 n] w fun e w' => e = .returned (.bool (Sm.is n)) ∧ w' = w := by
  have hb : ∀ w : World, Calls Tryz.prog 43 #[.int .i64 n, .int .i64 1000002] w fun e w' => e = .returned (.bool (Sm.is n)) ∧ w' = w := by
    intro w
    by_cases h0 : 0 ≤ n
    · by_cases h1 : n ≤ 1000002
      · go_enter Tryz.func43, Tryz.ntmps43
        go_wp2
        go_ret
        exact ⟨by simp [h0, h1, Sm.is], rfl⟩
      · go_enter Tryz.func43, Tryz.ntmps43
        go_wp2
        go_ret
        exact ⟨by simp [h1, Sm.is], rfl⟩
    · go_enter Tryz.func43, Tryz.ntmps43
      go_wp2
      go_ret
      exact ⟨by simp [Sm.is]; omega, rfl⟩
  go_enter Tryz.func122, Tryz.ntmps122
  go_wp2_with fail
  refine (hb _).mono ?_
  rintro e w' ⟨rfl, rfl⟩
  go_wp2
  go_ret
  exact ⟨rfl, rfl⟩

set_option maxHeartbeats 1000000 in
theorem with_any (n x : Int) (w : World) (h0 : 0 ≤ n) (h1 : n ≤ 1000002) (h2 : 0 ≤ x) (h3 : x ≤ 1000002) :
    Calls Tryz.prog 123 #[.int .u64 n, .int .u64 x] w fun e w' => e = .returned (.int .u64 (Sm.step n x)) ∧ w' = w := by
  go_enter Tryz.func123, Tryz.ntmps123
  go_wp2
  go_ret
  exact ⟨rfl, rfl⟩

set_option maxHeartbeats 1000000 in
theorem implSumOf_any (v : Value) (l : List Int) (w : World) (hS : ISlice w v l) :
    Calls Tryz.prog 72 #[v] w fun e w' => e = .returned (ir (Sm.sumV l)) ∧ Ext w w' := by
  obtain ⟨a, cap, rfl, hlc, hcm, hx⟩ := hS
  have HX : Hid (0 < l.length → ∃ b off, a = some ⟨b, off, none⟩ ∧ b < w.heap.size ∧ NumsAt w b off l) := hx
  clear hx
  unfold maxLen at hcm
  by_cases h2 : 200 < l.length
  · rw [Sm.sumV_many h2]
    go_enter Tryz.func72, Tryz.ntmps72
    go_wp2
    exact bodyPost_ret (v := ir (2, 0)) (by simp [results, Tryz.results72, go_sem, ir]) rfl ⟨rfl, (Ext.refl _).alloc _⟩
  · go_enter Tryz.func72, Tryz.ntmps72
    go_wp2
    go_loop [3, 12] (fun nv i => ∃ (k : Nat) (n : Int), k ≤ l.length ∧ i = .int .i64 k ∧ nv = .int .u64 n ∧ 0 ≤ n ∧ n ≤ 1000002 ∧ Hid (n = Sm.sum (l.take k)) ∧ Hid (∀ j x, j < k → l[j]? = some x → Sm.is x = true)) (fun _ i => l.length - (intOf i).toNat)
    case atStart => exact ⟨0, 7, Nat.zero_le _, rfl, rfl, by omega, by omega, rfl, fun j x h => by omega⟩
    case round =>
      obtain ⟨k, n, hk, rfl, rfl, hn0, hn1, HB, HA⟩ := hrel
      by_cases hlt : k < l.length
      · obtain ⟨x, hxk⟩ : ∃ x, l[k]? = some x := ⟨_, List.getElem?_eq_getElem hlt⟩
        obtain ⟨b, off, rfl, hb, hN⟩ := HX.out (by omega)
        have hc := hN k x hxk
        have HK : Hid (l[k]? = some x) := hxk
        have HI : Hid (∀ w : World, Calls Tryz.prog 122 #[.int .i64 x] w fun e w' => e = .returned (.bool (Sm.is x)) ∧ w' = w) := isSum_any x
        clear hN hxk
        cases hix : Sm.is x with
        | false =>
          rw [hix] at HI
          have HF : Hid (Sm.sumV l = (3, 0)) := Sm.sumV_bad h2 (Sm.ok_bad HK.out hix)
          clear hix
          go_wp2_with (go_at_call 122; refine (HI.out _).mono ?_; rintro e w' ⟨rfl, rfl⟩)
          exact bodyPost_ret (v := ir (3, 0)) (by simp [results, Tryz.results72, go_sem, ir]) rfl ⟨by rw [HF.out], (Ext.refl _).alloc _⟩
        | true =>
          rw [hix] at HI
          obtain ⟨hx0, hx1⟩ := Sm.is_iff.1 hix
          have HA2 : Hid (∀ j x, j < k + 1 → l[j]? = some x → Sm.is x = true) := by
            intro j y hj hy
            by_cases hjk : j = k
            · subst hjk; rw [HK.out] at hy; cases hy; exact hix
            · exact HA.out j y (by omega) hy
          have HW : Hid (∀ w : World, Calls Tryz.prog 123 #[.int .u64 n, .int .u64 x] w fun e w' => e = .returned (.int .u64 (Sm.step n x)) ∧ w' = w) := fun w => with_any n x w hn0 hn1 hx0 hx1
          have HB2 : Hid (Sm.step n x = Sm.sum (l.take (k + 1))) := by show _ = _; rw [Sm.sum_take HK.out, HB.out]
          obtain ⟨hs0, hs1⟩ := Sm.step_is n x
          generalize Sm.step n x = m at *
          clear hix
          go_wp2_with fail
          refine (HI.out _).mono ?_
          rintro e w' ⟨rfl, rfl⟩
          go_wp2_with fail
          refine (HW.out _).mono ?_
          rintro e w' ⟨rfl, rfl⟩
          go_wp2
          exact ⟨⟨k + 1, m, by omega, by go_num, rfl, hs0, hs1, HB2, HA2⟩, by simp [intOf]; omega⟩
      · have hok : Sm.ok l = true := Sm.ok_all fun j x hj hx => HA.out j x (by omega) hx
        have HF : Hid (Sm.sumV l = (0, n)) := by
          have hke : k = l.length := by omega
          show _ = _
          rw [Sm.sumV_ok h2 hok, HB.out, hke, List.take_length]
        clear hok
        go_wp2
        exact bodyPost_ret (v := ir (0, n)) (by simp [results, Tryz.results72, go_sem, ir]) rfl ⟨by rw [HF.out], (Ext.refl _).alloc _⟩

def Sm.pairV (x y : Int) : Int × Int := Sm.sumV [1, x, y]
theorem three_lie (w : World) (x y : Int) (t : TypeId) (g : Nat) (hg : g = w.heap.size) : ISlice (w.alloc (.cells #[.int .i64 1, .int .i64 x, .int .i64 y] t)) (.slice (some ⟨g, 0, none⟩) 3 3) [1, x, y] := by
  subst hg
  refine ⟨_, 3, rfl, by simp, by unfold maxLen; omega, fun _ => ⟨w.heap.size, 0, rfl, by simp, ?_⟩⟩
  intro i z hz
  match i, hz with
  | 0, hz => cases hz; simp
  | 1, hz => cases hz; simp
  | 2, hz => cases hz; simp
end Go.Proofs.YtmiffefnpendoaaGreatDoor

/- the pair's sum. -/
namespace Go.Proofs.YtmiffefnpendoaaGreatDoor
open Go.RowKit
set_option maxHeartbeats 1000000 in
theorem implPairSum_any (x y : Int) (w : World) : Calls Tryz.prog 118 #[.int .i64 x, .int .i64 y] w fun e w' => e = .returned (ir (Sm.pairV x y)) ∧ Ext w w' := by
  have HI : Hid (∀ (v : Value) (w : World), ISlice w v [1, x, y] → Calls Tryz.prog 72 #[v] w fun e w' => e = .returned (ir (Sm.pairV x y)) ∧ Ext w w') := by
    intro v w h
    unfold Sm.pairV
    exact implSumOf_any v _ w h
  have HL : Hid (∀ (w : World) (t : TypeId) (g : Nat), g = w.heap.size → ISlice (w.alloc (.cells #[.int .i64 1, .int .i64 x, .int .i64 y] t)) (.slice (some ⟨g, 0, none⟩) 3 3) [1, x, y]) := fun w t g hg => three_lie w x y t g hg
  generalize Sm.pairV x y = r at *
  obtain ⟨c, n⟩ := r
  go_enter Tryz.func118, Tryz.ntmps118
  go_wp2_with fail
  refine (HI.out _ _ (HL.out _ _ _ (by simp))).mono ?_
  rintro e w2 ⟨rfl, hb⟩
  have HB : Hid (Ext w w2) := (((Ext.refl _).alloc _).alloc _).trans hb
  obtain ⟨q, q0, q1, f0, f1⟩ := ((IBox.new w _).ext ((Ext.refl _).alloc _)).ext hb
  clear hb
  unfold ir
  go_wp2
  exact bodyPost_ret (v := ir (c, n)) (by simp [results, Tryz.results118, go_sem, ir, q0, q1]) rfl ⟨rfl, HB.out.two _ _⟩

/-- Block g holds room for n cells from off on, and may be written there. -/
def IRoom (w : World) (g off n : Nat) : Prop := g < w.heap.size ∧ ∀ j, j < n → (∃ u, w.cell? ⟨g, off + j, none⟩ = some u) ∧ w.frozen? ⟨g, off + j, none⟩ = false
theorem iset_ne (w : World) (g o b k : Nat) (v : Value) (h : g ≠ b ∨ o ≠ k) : (w.setCell ⟨g, o, none⟩ v).cell? ⟨b, k, none⟩ = w.cell? ⟨b, k, none⟩ :=
  World.cell?_setCell_other _ _ _ _ (by intro e; injection e with e1 e2 _; rcases h with h | h; exact h e1; exact h e2)
theorem iset_eq (w : World) (g o : Nat) (v : Value) (h : ∃ u, w.cell? ⟨g, o, none⟩ = some u) : (w.setCell ⟨g, o, none⟩ v).cell? ⟨g, o, none⟩ = some v := by
  obtain ⟨u, hu⟩ := h; exact World.cell?_setCell_same _ _ _ hu
theorem IRoom.set {w : World} {g off n k : Nat} (h : IRoom w g off n) (v : Value) (hk : k < n) : IRoom (w.setCell ⟨g, off + k, none⟩ v) g off n := by
  refine ⟨by simpa using h.1, fun j hj => ⟨?_, by simpa using (h.2 j hj).2⟩⟩
  by_cases hjk : j = k
  · subst hjk; exact ⟨_, iset_eq _ _ _ _ (h.2 j hj).1⟩
  · rw [iset_ne _ _ _ _ _ _ (by omega)]; exact (h.2 j hj).1
theorem NumsAt.set {w : World} {g off n k : Nat} {l : List Int} {x : Int} (hr : IRoom w g off n) (hk : k < n) (hx : l[k]? = some x) (h : NumsAt w g off (l.take k)) : NumsAt (w.setCell ⟨g, off + k, none⟩ (.int .i64 x)) g off (l.take (k + 1)) := by
  intro i y hi
  rw [List.getElem?_take] at hi
  split at hi
  · by_cases hik : i = k
    · subst hik
      rw [hx] at hi
      cases hi
      exact iset_eq _ _ _ _ (hr.2 i hk).1
    · rw [iset_ne _ _ _ _ _ _ (by omega)]
      exact h i y (by rw [List.getElem?_take, if_pos (by omega)]; exact hi)
  · cases hi

end Go.Proofs.YtmiffefnpendoaaGreatDoor
