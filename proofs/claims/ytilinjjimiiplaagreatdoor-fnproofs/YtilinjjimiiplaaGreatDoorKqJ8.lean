/- Z7, Z8, S5, T5, I0, Q0, in one text. -/
import Derived.Test.YtilinjjimiiplaaGreatDoorKqJ6
import Derived.Test.YtilinjjimiiplaaGreatDoorKqJ4
import Derived.Test.YtilinjjimiiplaaGreatDoorKqT4
import Derived.Lib.Bytealg
import Derived.WalkKit
namespace Go.Proofs.YtilinjjimiiplaaGreatDoor
open Go.RowKit
def TextsAt (w : World) (b off : Nat) (ts : List ByteArray) : Prop := ∀ (i : Nat) t, ts[i]? = some t → w.cell? ⟨b, off + i, none⟩ = some (.string t)
theorem TextsAt.ext {w w' : World} {b off : Nat} {ts : List ByteArray} (h : TextsAt w b off ts) (hb : b < w.heap.size) (he : Ext w w') : TextsAt w' b off ts :=
  fun i t ht => ((Ext.cell he).1 _ _ hb).trans (h i t ht)
theorem TextsAt.upd {w w' : World} {g off b : Nat} {ts : List ByteArray} (h : TextsAt w g off ts) (he : Upd b w w') (hne : g ≠ b) (hg : g < w.heap.size) : TextsAt w' g off ts :=
  fun i t ht => (he.at_ne _ _ hne hg).1.trans (h i t ht)
/-- The slice value v reads as the texts ts. -/
def TSlice (w : World) (v : Value) (ts : List ByteArray) : Prop :=
  ∃ a cap, v = .slice a ts.length cap ∧ ts.length ≤ cap ∧ cap ≤ maxLen ∧ (0 < ts.length → ∃ b off, a = some ⟨b, off, none⟩ ∧ b < w.heap.size ∧ TextsAt w b off ts)
theorem TSlice.ext {w w' : World} {v : Value} {ts : List ByteArray} (h : TSlice w v ts) (he : Ext w w') : TSlice w' v ts := by
  obtain ⟨a, cap, h1, h2, h3, h4⟩ := h
  refine ⟨a, cap, h1, h2, h3, fun h0 => ?_⟩
  obtain ⟨b, off, e, hb, hN⟩ := h4 h0
  exact ⟨b, off, e, Nat.lt_of_lt_of_le hb he.size, hN.ext hb he⟩
/-- Block g holds room for n texts from off on, and may be written there. -/
def TRoom (w : World) (g off n : Nat) : Prop := g < w.heap.size ∧ ∀ j, j < n → (∃ u, w.cell? ⟨g, off + j, none⟩ = some u) ∧ w.frozen? ⟨g, off + j, none⟩ = false
theorem TRoom.ext {w w' : World} {g off n : Nat} (h : TRoom w g off n) (he : Ext w w') : TRoom w' g off n := by
  obtain ⟨hc, hf⟩ := Ext.cell he
  exact ⟨Nat.lt_of_lt_of_le h.1 he.size, fun j hj => ⟨by rw [hc _ _ h.1]; exact (h.2 j hj).1, by rw [hf _ _ h.1]; exact (h.2 j hj).2⟩⟩
theorem TRoom.upd {w w' : World} {g off n b : Nat} (h : TRoom w g off n) (he : Upd b w w') (hne : g ≠ b) : TRoom w' g off n :=
  ⟨Nat.lt_of_lt_of_le h.1 he.2.1, fun j hj => ⟨by rw [(he.at_ne _ _ hne h.1).1]; exact (h.2 j hj).1, by rw [(he.at_ne _ _ hne h.1).2]; exact (h.2 j hj).2⟩⟩
theorem TRoom.put {w : World} {g off n k : Nat} (h : TRoom w g off n) (t : ByteArray) (_hk : k < n) : TRoom (w.setCell ⟨g, off + k, none⟩ (.string t)) g off n := by
  refine ⟨by simpa using h.1, fun j hj => ⟨?_, by simpa using (h.2 j hj).2⟩⟩
  by_cases hjk : j = k
  · subst hjk; exact ⟨_, set_eq _ _ _ _ (h.2 j hj).1⟩
  · rw [set_ne _ _ _ _ _ _ (by omega)]; exact (h.2 j hj).1
theorem TextsAt.put {w : World} {g off n k : Nat} {ts : List ByteArray} {t : ByteArray} (hr : TRoom w g off n) (hk : k < n) (hz : ts[k]? = some t) (h : TextsAt w g off (ts.take k)) : TextsAt (w.setCell ⟨g, off + k, none⟩ (.string t)) g off (ts.take (k + 1)) := by
  intro i t' hi
  rw [List.getElem?_take] at hi
  split at hi
  · by_cases hik : i = k
    · subst hik
      rw [hz] at hi
      cases hi
      exact set_eq _ _ _ _ (hr.2 i hk).1
    · rw [set_ne _ _ _ _ _ _ (by omega)]
      exact h i t' (by rw [List.getElem?_take, if_pos (by omega)]; exact hi)
  · cases hi
def TOwn (w : World) (v : Value) (g : Nat) (ts : List ByteArray) : Prop :=
  ∃ a cap, v = .slice a ts.length cap ∧ ts.length ≤ cap ∧ cap ≤ maxLen ∧ (0 < ts.length → ∃ off, a = some ⟨g, off, none⟩ ∧ TRoom w g off ts.length ∧ TextsAt w g off ts)
theorem TOwn.slice {w : World} {v : Value} {g : Nat} {ts : List ByteArray} (h : TOwn w v g ts) : TSlice w v ts := by
  obtain ⟨a, cap, h1, h2, h3, h4⟩ := h
  refine ⟨a, cap, h1, h2, h3, fun h0 => ?_⟩
  obtain ⟨off, e, hr, hN⟩ := h4 h0
  exact ⟨g, off, e, hr.1, hN⟩
theorem TOwn.ext {w w' : World} {v : Value} {g : Nat} {ts : List ByteArray} (h : TOwn w v g ts) (he : Ext w w') : TOwn w' v g ts := by
  obtain ⟨a, cap, h1, h2, h3, h4⟩ := h
  refine ⟨a, cap, h1, h2, h3, fun h0 => ?_⟩
  obtain ⟨off, e, hr, hN⟩ := h4 h0
  exact ⟨off, e, hr.ext he, hN.ext hr.1 he⟩
theorem TOwn.lt {w : World} {v : Value} {g : Nat} {ts : List ByteArray} (h : TOwn w v g ts) (h0 : 0 < ts.length) : g < w.heap.size := by
  obtain ⟨a, cap, -, -, -, h4⟩ := h
  obtain ⟨off, -, hr, -⟩ := h4 h0
  exact hr.1
theorem TOwn.nil {w w' : World} {v : Value} {g g' : Nat} {ts : List ByteArray} (h : TOwn w v g ts) (h0 : ¬ 0 < ts.length) : TOwn w' v g' ts := by
  obtain ⟨a, cap, h1, h2, h3, -⟩ := h
  exact ⟨a, cap, h1, h2, h3, fun h => absurd h h0⟩
theorem TOwn.upd' {w w' : World} {v : Value} {g b : Nat} {ts : List ByteArray} (h : TOwn w v g ts) (he : Upd b w w') (hne : 0 < ts.length → g ≠ b) : TOwn w' v g ts := by
  by_cases h0 : 0 < ts.length
  · obtain ⟨a, cap, h1, h2, h3, h4⟩ := h
    refine ⟨a, cap, h1, h2, h3, fun _ => ?_⟩
    obtain ⟨off, e, hr, hN⟩ := h4 h0
    exact ⟨off, e, hr.upd he (hne h0), hN.upd he (hne h0) hr.1⟩
  · exact h.nil h0
def tmarks (k n : Nat) : List ByteArray := (List.range n).map fun i => mtext (k + i)
/-- A TextsResult as a value. -/
def xr (c : Int) (v : Value) : Value := .agg #[.int .i64 c, v]

end Go.Proofs.YtilinjjimiiplaaGreatDoor
namespace Go.Proofs.YtilinjjimiiplaaGreatDoor
open Go.RowKit
/-- A TextsResult of code c and texts rs came back, its texts in new memory. -/
def XRet (w : World) (c : Int) (rs : List ByteArray) (e : Ending) (w' : World) : Prop :=
  ∃ v g, e = .returned (xr c v) ∧ w.heap.size ≤ g ∧ TOwn w' v g rs ∧ Ext w w'
/-- Block b holds a TextsResult. -/
def XBoxAt (w : World) (b : Nat) (c : Int) (v : Value) : Prop :=
  b < w.heap.size ∧ w.cell? ⟨b, 0, none⟩ = some (.int .i64 c) ∧ w.cell? ⟨b, 1, none⟩ = some v
theorem XBoxAt.ext {w w' : World} {b : Nat} {c : Int} {v : Value} (h : XBoxAt w b c v) (he : Ext w w') : XBoxAt w' b c v := by
  obtain ⟨hc, _⟩ := Ext.cell he
  exact ⟨Nat.lt_of_lt_of_le h.1 he.size, (hc _ _ h.1).trans h.2.1, (hc _ _ h.1).trans h.2.2⟩
theorem XBoxAt.upd {w w' : World} {b g : Nat} {c : Int} {v : Value} (h : XBoxAt w b c v) (he : Upd g w w') (hne : b ≠ g) : XBoxAt w' b c v :=
  ⟨Nat.lt_of_lt_of_le h.1 he.2.1, (he.at_ne _ _ hne h.1).1.trans h.2.1, (he.at_ne _ _ hne h.1).1.trans h.2.2⟩
end Go.Proofs.YtilinjjimiiplaaGreatDoor
namespace Go.Proofs.YtilinjjimiiplaaGreatDoor
open Go.RowKit
theorem join_list (p n : ByteArray) : (if p.data.toList = [47] then (⟨#[47]⟩ : ByteArray) ++ n else p ++ (⟨#[47]⟩ : ByteArray) ++ n).data.toList = Pth.joined p.data.toList n.data.toList := by
  unfold Pth.joined
  split <;> simp [ByteArray.data_append]

set_option maxHeartbeats 1000000 in
theorem l1Join_any (p n : ByteArray) (w : World) (hp : p.size ≤ 1048576) (hn : n.size ≤ 1048576) :
    Calls Tryz.prog 74 #[.string p, .string n] w fun e w' => e = .returned (.string (mkB (Pth.joined p.data.toList n.data.toList))) ∧ w' = w := by
  have hj := eq_mkB (join_list p n)
  rw [← hj]
  clear hj
  by_cases h : p.data.toList = [47]
  · rw [if_pos h]
    have b : (p.toList == [47]) = true := by rw [beq_top]; simpa using h
    clear h
    go_enter Tryz.func74, Tryz.ntmps74
    go_wp2
    go_ret
    exact ⟨rfl, rfl⟩
  · rw [if_neg h]
    have b : (p.toList == [47]) = false := by rw [beq_top]; simpa using h
    clear h
    go_enter Tryz.func74, Tryz.ntmps74
    go_wp2
    go_ret
    exact ⟨rfl, rfl⟩
end Go.Proofs.YtilinjjimiiplaaGreatDoor
namespace Go.Proofs.YtilinjjimiiplaaGreatDoor
open Go.RowKit
namespace Tre
def lastName (p : ByteArray) : ByteArray := p.extract (Pth.lastSl p.data.toList 0 0 + 1) p.size
def isKid (p : ByteArray) (z : Zn) : Bool := !(z.path.toList == [47]) && ((par z.path).toList == p.toList)
def kids (zs : List Zn) (p : ByteArray) : List ByteArray := (zs.filter (isKid p)).map fun z => lastName z.path
theorem kids_snoc {zs : List Zn} {p : ByteArray} {k : Nat} {z : Zn} (hz : zs[k]? = some z) : kids (zs.take (k + 1)) p = kids (zs.take k) p ++ (if isKid p z = true then [lastName z.path] else []) := by
  obtain ⟨hk, he⟩ := List.getElem?_eq_some_iff.1 hz
  unfold kids
  rw [List.take_succ_eq_append_getElem hk, he, List.filter_append, List.map_append]
  congr 1
  by_cases h : isKid p z = true
  · rw [if_pos h, List.filter_cons_of_pos h]; rfl
  · rw [if_neg h, List.filter_cons_of_neg h]; rfl
theorem kids_le (zs : List Zn) (p : ByteArray) : (kids zs p).length ≤ zs.length := by
  unfold kids; rw [List.length_map]; exact List.length_filter_le _ _
end Tre
theorem TOwn.of_row {w : World} {base : Nat} {e : TypeId} {v : Value} {ts : List ByteArray} (h : w.ownsRow base e 1 v ts.length (ts.map Value.string)) : ∃ g, base ≤ g ∧ TOwn w v g ts := by
  rcases h.2 with ⟨hv, h0⟩ | ⟨g, cap, cur, hv, hb, hh, hn, hm, hs, ht⟩
  · exact ⟨base, Nat.le_refl _, none, 0, by rw [hv, h0], by omega, by unfold maxLen; omega, fun h => by omega⟩
  · subst hv
    refine ⟨g, hb, some ⟨g, 0, none⟩, cap, rfl, hn, hm, fun _ => ⟨0, rfl, ⟨?_, fun j hj => ?_⟩, ?_⟩⟩
    · exact (Array.getElem?_eq_some_iff.1 hh).1
    · have hc := h.cellAt j (by omega)
      rw [Nat.zero_add, hc]
      exact ⟨⟨_, List.getElem?_eq_getElem (by rw [List.length_map]; omega)⟩, h.frozenAt j⟩
    · intro i t hz
      have hi := (List.getElem?_eq_some_iff.1 hz).1
      rw [Nat.zero_add, h.cellAt i (by omega), List.getElem?_map, hz]; rfl

set_option maxHeartbeats 2000000 in
set_option maxRecDepth 100000 in
theorem l2Kids_any (v : Value) (zs : List Zn) (p : ByteArray) (w : World) (hS : NSlice w v zs) (hl : zs.length ≤ 1048576) (hf : ∀ z ∈ zs, Pth.faultI z.path.data.toList = 0) :
    Calls Tryz.prog 81 #[v, .string p] w fun e w' => ∃ v' g, e = .returned v' ∧ w.heap.size ≤ g ∧ TOwn w' v' g (Tre.kids zs p) ∧ Ext w w' := by
  have hi9 : (Tryz.prog.info? 9).map (fun i => (i.zero, i.size, i.bytes)) = some (some (.string ByteArray.empty), 1, 16) := by kernel_rfl
  obtain ⟨i0, hi, hx⟩ := Option.map_eq_some_iff.1 hi9
  simp only [Prod.mk.injEq] at hx
  obtain ⟨hz0, hz1, hz2⟩ := hx
  clear hi9
  obtain ⟨a, cap, rfl, hlc, hcm, hx⟩ := hS
  have HX : Hid (0 < zs.length → ∃ b off, a = some ⟨b, off, none⟩ ∧ b < w.heap.size ∧ NodesAt w b off zs) := hx
  have HF : Hid (∀ z ∈ zs, Pth.faultI z.path.data.toList = 0) := hf
  clear hx hf
  unfold maxLen at hcm
  go_enter Tryz.func81, Tryz.ntmps81
  go_wp2
  go_loopw [5, 6] (fun v i wr => ∃ (k : Nat), k ≤ zs.length ∧ i = .int .i64 k ∧ Hid (wr.ownsRow w.heap.size 9 1 v (Tre.kids (zs.take k) p).length ((Tre.kids (zs.take k) p).map Value.string)) ∧ Hid (Ext w wr)) (fun _ i _ => zs.length - (intOf i).toNat)
  case atStart =>
    refine ⟨0, by omega, rfl, ?_, (Ext.refl _).alloc _⟩
    exact World.ownsRow_made w #[] 0 (Nat.le_refl _) (by unfold maxLen; omega) rfl
  case round =>
    obtain ⟨k, hk, rfl, HO, HE⟩ := hrel
    by_cases hlt : k < zs.length
    · obtain ⟨z, hzk⟩ : ∃ z, zs[k]? = some z := ⟨_, List.getElem?_eq_getElem hlt⟩
      obtain ⟨b, off, rfl, hb, hN⟩ := HX.out (by omega)
      obtain ⟨d0, d1, d2, d3, d4⟩ := hN.ext hb HE.out k z hzk
      have hfz := HF.out z (List.mem_of_getElem? hzk)
      have h24 := few_of_ok hfz
      have HK : Hid (Tre.kids (zs.take (k + 1)) p = Tre.kids (zs.take k) p ++ (if Tre.isKid p z = true then [Tre.lastName z.path] else [])) := Tre.kids_snoc hzk
      have hkl : (Tre.kids (zs.take k) p).length ≤ k := by have := Tre.kids_le (zs.take k) p; rw [List.length_take] at this; omega
      have HP : Hid (∀ wx : World, Calls Tryz.prog 67 #[.string z.path] wx fun e w' => e = .returned (.string (Tre.par z.path)) ∧ w' = wx) := fun wx => l1Parent_any z.path wx h24
      have HL : Hid (∀ wx : World, Calls Tryz.prog 77 #[.string z.path] wx fun e w' => e = .returned (.int .i64 (Pth.lastSl z.path.data.toList 0 0 : Nat)) ∧ w' = wx) := fun wx => l1Last_any z.path wx h24
      clear hzk hN d1 d2 d3 d4
      cases ht : (z.path.toList == [47]) with
      | true =>
        have HK2 : Hid (Tre.kids (zs.take (k + 1)) p = Tre.kids (zs.take k) p) := by
          show _ = _
          rw [HK.out, if_neg]; · simp
          unfold Tre.isKid; rw [ht]; simp
        go_wp2
        refine ⟨⟨k + 1, by omega, by go_num, ?_, HE.out⟩, by simp [intOf]; omega⟩
        show World.ownsRow _ _ _ _ _ _ _
        rw [HK2.out]; exact HO.out
      | false =>
        have hll := lastSl_le2 z.path hfz ht
        cases hp : ((Tre.par z.path).toList == p.toList) with
        | false =>
          have HK2 : Hid (Tre.kids (zs.take (k + 1)) p = Tre.kids (zs.take k) p) := by
            show _ = _
            rw [HK.out, if_neg]; · simp
            unfold Tre.isKid; rw [hp]; simp
          go_wp2_with fail
          refine (HP.out _).mono ?_
          rintro e w3 ⟨rfl, rfl⟩
          go_wp2
          refine ⟨⟨k + 1, by omega, by go_num, ?_, HE.out⟩, by simp [intOf]; omega⟩
          show World.ownsRow _ _ _ _ _ _ _
          rw [HK2.out]; exact HO.out
        | true =>
          have HK2 : Hid (Tre.kids (zs.take (k + 1)) p = Tre.kids (zs.take k) p ++ [Tre.lastName z.path]) := by
            show _ = _
            rw [HK.out, if_pos]
            unfold Tre.isKid; rw [hp, ht]; simp
          go_wp2_with fail
          refine (HP.out _).mono ?_
          rintro e w3 ⟨rfl, rfl⟩
          go_wp2_with fail
          refine (HL.out _).mono ?_
          rintro e w3 ⟨rfl, rfl⟩
          go_wp2_with (at_builtin; go_must (refine wpList_append_own _ rfl _ _ 100 rfl w.heap.size 9 i0 (.string ByteArray.empty) 1 16 Tryz.underlying100 hi hz0 hz1 hz2 rfl (by decide) _ _ _ rfl (HO.out.alloc _) ⟨w3.heap.size, 0, none⟩ 1 1 [.string (z.path.extract (Pth.lastSl z.path.data.toList 0 0 + 1) z.path.size)] rfl rfl (cell_one_new _ _ _) (fun x hx => by simp at hx; subst hx; rfl) (by unfold maxLen; omega) (by omega) (by have := HE.out.size; simp; omega) ?_; intro v' w4 hown' hgrow3 hnil3))
          refine ⟨⟨k + 1, by omega, by go_num, ?_, Below.grown (HE.out.alloc _) hgrow3 (by have := HE.out.size; simp; omega) (fun q hq => (HO.out.lt q hq).1)⟩, by simp [intOf]; omega⟩
          show w4.ownsRow _ _ _ _ _ _
          rw [HK2.out, List.map_append, List.length_append]
          exact hown'
    · have hke : k = zs.length := by omega
      subst hke
      obtain ⟨g, hg, hT⟩ := TOwn.of_row HO.out
      rw [List.take_length] at hT
      have HT : Hid (w.heap.size ≤ g ∧ TOwn wr u5 g (Tre.kids zs p)) := ⟨hg, hT⟩
      clear hg hT
      go_wp2
      go_ret
      exact ⟨_, g, rfl, HT.out.1, HT.out.2, HE.out⟩
namespace Tre
def kidsV (zs : List Zn) (p : ByteArray) : Int × List ByteArray := if asked zs p ≠ 0 then (asked zs p, []) else if atI zs p < 0 then (4, []) else (0, kids zs p)
end Tre
/-- Block r holds a TextsResult that nobody has written yet, and may be written. -/
def XBox (w : World) (r : Nat) : Prop :=
  r < w.heap.size ∧ w.cell? ⟨r, 0, none⟩ = some (.int .i64 0) ∧ w.cell? ⟨r, 1, none⟩ = some (.slice none 0 0) ∧ w.frozen? ⟨r, 0, none⟩ = false ∧ w.frozen? ⟨r, 1, none⟩ = false
theorem XBox.new (w : World) (t : TypeId) : XBox (w.alloc (.cells #[.int .i64 0, .slice none 0 0] t)) w.heap.size := ⟨by simp, by simp, by simp, by simp, by simp⟩
theorem XBox.ext {w w2 : World} {r : Nat} (h : XBox w r) (he : Ext w w2) : XBox w2 r := by
  obtain ⟨hc, hf⟩ := Ext.cell he
  obtain ⟨h1, h2, h3, h5, h6⟩ := h
  exact ⟨Nat.lt_of_lt_of_le h1 he.size, (hc _ _ h1).trans h2, (hc _ _ h1).trans h3, (hf _ _ h1).trans h5, (hf _ _ h1).trans h6⟩
end Go.Proofs.YtilinjjimiiplaaGreatDoor
namespace Go.Proofs.YtilinjjimiiplaaGreatDoor
open Go.RowKit
set_option maxHeartbeats 1000000 in
theorem isUpTo_any (n m : Int) (w : World) : Calls Tryz.prog 61 #[.int .i64 n, .int .i64 m] w fun e w' => e = .returned (.bool (decide (0 ≤ n) && decide (n ≤ m))) ∧ w' = w := by
  by_cases h0 : 0 ≤ n
  · by_cases h1 : n ≤ m
    · go_enter Tryz.func61, Tryz.ntmps61
      go_wp2
      go_ret
      exact ⟨by simp [h0, h1], rfl⟩
    · go_enter Tryz.func61, Tryz.ntmps61
      go_wp2
      go_ret
      exact ⟨by simp [h1], rfl⟩
  · go_enter Tryz.func61, Tryz.ntmps61
    go_wp2
    go_ret
    exact ⟨by simp; omega, rfl⟩

end Go.Proofs.YtilinjjimiiplaaGreatDoor
namespace Go.Proofs.YtilinjjimiiplaaGreatDoor
open Go.RowKit
namespace Tre
theorem less_eq : ∀ (x y : List UInt8), Op.bytesLess x y = decide (x < y)
  | [], [] => by simp [Op.bytesLess]
  | _ :: _, [] => by simp [Op.bytesLess]
  | [], _ :: _ => by simp [Op.bytesLess]
  | a :: x, b :: y => by
    rw [Op.bytesLess, less_eq x y]
    simp only [List.cons_lt_cons_iff]
    by_cases h1 : a < b <;> by_cases h2 : a = b <;> by_cases h3 : x < y <;> simp [h1, h2, h3]
theorem cmp_neg : ∀ (x y : List UInt8), Lib.compareBytes x y < 0 ↔ x < y
  | [], [] => by simp [Lib.compareBytes]
  | _ :: _, [] => by simp [Lib.compareBytes]
  | [], _ :: _ => by simp [Lib.compareBytes]
  | a :: x, b :: y => by
    have ih := cmp_neg x y
    rw [Lib.compareBytes, List.cons_lt_cons_iff]
    by_cases h1 : a < b
    · simp [h1]
    · by_cases h2 : b < a
      · have h3 : ¬ a = b := by intro e; subst e; exact h1 h2
        simp [h1, h2, h3]
      · have h3 : a = b := UInt8.le_antisymm (UInt8.not_lt.1 h2) (UInt8.not_lt.1 h1)
        subst h3
        simp [h1, ih]
theorem cmp_zero : ∀ (x y : List UInt8), Lib.compareBytes x y = 0 ↔ x = y
  | [], [] => by simp [Lib.compareBytes]
  | _ :: _, [] => by simp [Lib.compareBytes]
  | [], _ :: _ => by simp [Lib.compareBytes]
  | a :: x, b :: y => by
    have ih := cmp_zero x y
    rw [Lib.compareBytes]
    by_cases h1 : a < b
    · have h3 : ¬ a = b := by intro e; subst e; exact (UInt8.lt_irrefl _) h1
      simp [h1, h3]
    · by_cases h2 : b < a
      · have h3 : ¬ a = b := by intro e; subst e; exact h1 h2
        simp [h1, h2, h3]
      · have h3 : a = b := UInt8.le_antisymm (UInt8.not_lt.1 h2) (UInt8.not_lt.1 h1)
        subst h3
        simp [h1, ih]
theorem lt_irr (x : List UInt8) : ¬ x < x := List.lt_irrefl x
theorem lt_tr {x y z : List UInt8} (h : x < y) (h2 : y < z) : x < z := List.lt_trans h h2
theorem lt_ne {x y : List UInt8} (h : x < y) : ¬ x = y := fun e => lt_irr y (e ▸ h)
theorem lt_asym {x y : List UInt8} (h : x < y) : ¬ y < x := fun h2 => lt_irr x (lt_tr h h2)
theorem lt_tot {x y : List UInt8} (h : ¬ x < y) (h2 : ¬ x = y) : y < x := by
  have hle : y ≤ x := List.not_lt.1 h
  by_cases h3 : y < x
  · exact h3
  · exact absurd (List.le_antisymm (List.not_lt.1 h3) hle) (by intro e; exact h2 e)
end Tre
end Go.Proofs.YtilinjjimiiplaaGreatDoor
