/- sessions told in order: the program's inOrder. -/
import Derived.Test.YtjlmkjcahnnjpaaE2
import Derived.Test.YtjlmkjcahnnjpaaE6
import Derived.Test.YtjlmkjcahnnjpaaE7a
import Derived.Deep.Onto
namespace Go.Proofs.Ytjlmkjcahnnjpaa
open Go.RowKit Go.Maps

/-- maps.Keys of a map of sessions. -/
theorem keys_any (b : Nat) (w : World) : Calls Try.prog 57 #[.map (some b)] w fun e w' => e = .returned (.func (.func 65) #[] #[.pointer (some ⟨w.heap.size, 0, none⟩)]) ∧ w' = w.alloc (.cells #[.map (some b)] 51) :=
  (callsIn_wide (n := 5)).1 (AnyZI.keys_in keysA Fence.wide 5 trivial rfl (some b) w)

/-- slices.Sorted of what maps.Keys gives: the Ids, rising. -/
theorem sorted_any (b n Bm : Nat) (l : List Se) (w : World) (hM : EMap w b n l) (hr : Rises l) (hl : l.length ≤ 20) (hm : w.cell? ⟨Bm, 0, none⟩ = some (.map (some b))) :
    Calls Try.prog 56 #[.func (.func 65) #[] #[.pointer (some ⟨Bm, 0, none⟩)]] w fun e w' => ∃ v, e = .returned v ∧ w'.ownsRow w.heap.size 2 1 v l.length ((l.map (·.id)).map (Value.int .i64)) ∧ Ext w w' := by
  have hBm : Bm < w.heap.size := World.block_lt_of_cell? w _ hm
  have hseq : SeqGives Fence.wide 2 Try.prog 65 #[.pointer (some ⟨Bm, 0, none⟩)] encZ (fun ss => ss.Perm (intKeys (mapE l))) (Maps.size (mapE l)) w :=
    AnyZI.keys_gives (ρ := keysA_ren) { keysA with } Fence.wide _ trivial rfl (by omega) Bm b n _ _ hBm hm hM
  have cS := AnyZI.sorted_in sortedA Fence.wide 5 trivial trivial trivial trivial rfl (by omega) (sortsA _) (enters_of Try.func64 (by kernel_rfl) rfl) 65 #[.pointer (some ⟨Bm, 0, none⟩)] trivial (enters_of Try.func65 (by kernel_rfl) rfl) _ _ (by rw [mapE_size]; unfold maxLen; omega) (by rw [mapE_size]; omega) _ hseq
  refine ((callsIn_wide (n := 5)).1 cS).mono ?_
  rintro e w' ⟨v, ss, rfl, hS, hrow, -, hb⟩
  have hlen : ss.length = l.length := by have := hS.length_eq; rw [mapE_keys, List.length_map] at this; exact this
  rw [sorted_keys hS hr, hlen] at hrow
  exact ⟨v, rfl, hrow, hb⟩

theorem isl_of_owns {w : World} {base : Nat} {v : Value} {l : List Int} (h : w.ownsRow base 2 1 v l.length (l.map (Value.int .i64))) : ISlice w v l := by
  have hlt := h.lt
  rcases h.2 with ⟨hv, h0⟩ | ⟨g, cap, cur, hv, hb, hh, hn, hm, hcs, htk⟩
  · exact ⟨none, 0, by rw [hv, h0], by omega, by unfold maxLen; omega, fun h => by omega⟩
  · subst hv
    refine ⟨some ⟨g, 0, none⟩, cap, rfl, hn, hm, fun h0 => ⟨g, 0, rfl, (hlt g rfl).2, fun i x hx => ?_⟩⟩
    have hi := (List.getElem?_eq_some_iff.1 hx).1
    rw [Nat.zero_add, h.cellAt i (by omega), List.getElem?_map, hx]
    rfl

def cellsE (l : List Se) : List Value := l.flatMap fun s => [.int .i64 s.id, .int .i64 s.til]
theorem cellsE_app (l m : List Se) : cellsE (l ++ m) = cellsE l ++ cellsE m := by simp [cellsE]
theorem cellsE_len (l : List Se) : (cellsE l).length = l.length * 2 := by
  induction l with
  | nil => rfl
  | cons s r ih => simp only [cellsE, List.flatMap_cons, List.length_append, List.length_cons, List.length_nil] at ih ⊢; omega
theorem cellsE_at : ∀ (l : List Se) (i : Nat) (s : Se), l[i]? = some s → (cellsE l)[i * 2]? = some (.int .i64 s.id) ∧ (cellsE l)[i * 2 + 1]? = some (.int .i64 s.til)
  | s :: r, 0, t, h => by simp at h; subst h; exact ⟨rfl, rfl⟩
  | s :: r, i + 1, t, h => by
    simp only [List.getElem?_cons_succ] at h
    have := cellsE_at r i t h
    rw [show (i + 1) * 2 = i * 2 + 1 + 1 from by omega]
    exact this
  | [], i, t, h => by simp at h
/-- Sessions in memory of their own. -/
theorem eown_of_owns {w : World} {base : Nat} {v : Value} {l : List Se} (h : w.ownsRow base 58 2 v l.length (cellsE l)) : ∃ g, base ≤ g ∧ EOwn w v g l := by
  have hlt := h.lt
  rcases h.2 with ⟨hv, h0⟩ | ⟨g, cap, cur, hv, hb, hh, hn, hm, hcs, htk⟩
  · exact ⟨base, Nat.le_refl _, none, 0, by rw [hv, h0], by omega, by unfold maxLen; omega, fun h => by omega⟩
  · subst hv
    refine ⟨g, hb, some ⟨g, 0, none⟩, cap, rfl, hn, hm, fun h0 => ⟨0, rfl, ⟨(hlt g rfl).2, fun j hj => ⟨?_, h.frozenAt _⟩⟩, fun i s hs => ?_⟩⟩
    · have hj' : j < (cellsE l).length := by rw [cellsE_len]; exact hj
      rw [Nat.zero_add]
      exact ⟨(cellsE l)[j], by rw [h.cellAt j hj, List.getElem?_eq_getElem hj']⟩
    · obtain ⟨h1, h2⟩ := cellsE_at l i s hs
      have hi := (List.getElem?_eq_some_iff.1 hs).1
      rw [Nat.zero_add]
      exact ⟨by rw [h.cellAt _ (by omega)]; exact h1, by rw [h.cellAt _ (by omega)]; exact h2⟩
theorem cells_ses (w : World) (x y : Int) (t : TypeId) : ∀ j u, (cellsE [⟨x, y⟩])[j]? = some u → (w.alloc (.cells #[.int .i64 x, .int .i64 y] t)).cell? ((⟨w.heap.size, 0, none⟩ : Addr).add j) = some u := by
  intro j u hj
  rw [Addr.add_lit]
  match j, hj with
  | 0, hj => simp [cellsE] at hj; subst hj; simp
  | 1, hj => simp [cellsE] at hj; subst hj; simp
  | j + 2, hj => simp [cellsE] at hj
theorem cellsE_one (l : List Se) : ∀ u ∈ cellsE l, u.oneCell' = true := by
  intro u hu
  simp only [cellsE, List.mem_flatMap] at hu
  obtain ⟨s, _, hs⟩ := hu
  simp at hs
  rcases hs with rfl | rfl <;> rfl

set_option maxHeartbeats 2000000 in
set_option maxRecDepth 100000 in
theorem inOrder_any (b n : Nat) (l : List Se) (w : World) (hM : EMap w b n l) (hr : Rises l) (hl : l.length ≤ 20) (ho : ∀ s ∈ l, -100000 ≤ s.id ∧ s.id ≤ 100000) :
    Calls Try.prog 35 #[.map (some b)] w fun e w' => ∃ v g, e = .returned v ∧ w.heap.size ≤ g ∧ EOwn w' v g l ∧ Ext w w' := by
  have hi9 : (Try.prog.info? 58).map (fun i => (i.zero, i.size, i.bytes)) = some (some (.agg #[.int .i64 0, .int .i64 0]), 2, 16) := by kernel_rfl
  obtain ⟨ti, hti, hxx⟩ := Option.map_eq_some_iff.1 hi9
  simp only [Prod.mk.injEq] at hxx
  obtain ⟨hz0, hz1, hz2⟩ := hxx
  clear hi9
  have HM : Hid (EMap w b n l) := hM
  have HR : Hid (Rises l ∧ ∀ s ∈ l, -100000 ≤ s.id ∧ s.id ≤ 100000) := ⟨hr, ho⟩
  have HK : Hid (Calls Try.prog 57 #[.map (some b)] w fun e w' => e = .returned (.func (.func 65) #[] #[.pointer (some ⟨w.heap.size, 0, none⟩)]) ∧ w' = w.alloc (.cells #[.map (some b)] 51)) := keys_any b w
  clear hM hr ho
  go_enter Try.func35, Try.ntmps35
  go_wp2_with fail
  refine HK.out.mono ?_
  rintro e w1 ⟨rfl, rfl⟩
  go_wp2_with fail
  refine (sorted_any b n _ l _ (HM.out.ext ((Ext.refl _).alloc _)) HR.out.1 hl (by simp)).mono ?_
  rintro e w2 ⟨v, rfl, hrow, hb⟩
  have HE2 : Hid (Ext w w2) := ((Ext.refl _).alloc _).trans hb
  have HI2 : Hid (ISlice w2 v (l.map (·.id))) := isl_of_owns (by rw [List.length_map]; exact hrow)
  have HM2 : Hid (EMap w2 b n l) := HM.out.ext HE2.out
  clear hrow hb HK HM
  obtain ⟨a, cap, rfl, hlc, hcm, hx⟩ := id HI2.out
  rw [List.length_map] at hlc hx ⊢
  have HX : Hid (0 < l.length → ∃ b off, a = some ⟨b, off, none⟩ ∧ b < w2.heap.size ∧ NumsAt w2 b off (l.map (·.id))) := hx
  clear hx
  unfold maxLen at hcm
  go_wp2
  go_loopw [3, 10] (fun lv i wr => ∃ (k : Nat), k ≤ l.length ∧ i = .int .i64 k ∧ Hid (wr.ownsRow w2.heap.size 58 2 lv k (cellsE (l.take k))) ∧ Hid (Ext w2 wr)) (fun _ i _ => l.length - (intOf i).toNat)
  case atStart => exact ⟨0, Nat.zero_le _, rfl, World.ownsRow_nil _ _ _ _, Ext.refl _⟩
  case round =>
    obtain ⟨k, hk, rfl, HO, HE⟩ := hrel
    by_cases hlt : k < l.length
    · obtain ⟨s, hsk⟩ : ∃ s, l[k]? = some s := ⟨_, List.getElem?_eq_getElem hlt⟩
      obtain ⟨g, off, rfl, hg, hN⟩ := HX.out (by omega)
      have d0 := (hN.ext hg HE.out) k s.id (by rw [List.getElem?_map, hsk]; rfl)
      have hkey : keyOf Try.prog 2 (.int .i64 s.id) = some (.int .i64 s.id) := key64 (HR.out.2 s (List.mem_of_getElem? hsk))
      have hatt : (mapE l).atKey (.int .i64 s.id) (.lit (.int .i64 0)) = .lit (.int .i64 s.til) := by rw [mapE_at, HR.out.1.til hsk]
      have htk : cellsE (l.take k) ++ cellsE [⟨s.id, s.til⟩] = cellsE (l.take (k + 1)) := by
        obtain ⟨hk', rfl⟩ := List.getElem?_eq_some_iff.1 hsk
        rw [← cellsE_app, List.take_succ_eq_append_getElem hk']
      have HMr : Hid (EMap wr b n l) := HM2.out.ext HE.out
      clear hN hsk
      go_wp2_with (first | (at_lookup; refine wpList_lookup_own_int _ rfl _ _ 51 rfl 2 2 .i64 law64 Try.underlying51 Try.underlying2 (zero64 _) b n _ rfl HMr.out _ _ rfl hkey ?_; intro c hat hwc; rw [hatt] at hat; simp only [DataW.lit.injEq, Lit.int.injEq, true_and] at hat; rw [← hat]; clear hat hwc) | (at_builtin; go_must (refine wpList_append_own _ rfl _ _ 24 rfl w2.heap.size 58 ti (.agg #[.int .i64 0, .int .i64 0]) 2 16 Try.underlying24 hti hz0 hz1 hz2 rfl (by decide) _ _ _ rfl (HO.out.alloc _) ⟨wr.heap.size, 0, none⟩ 1 1 (cellsE [⟨s.id, s.til⟩]) rfl rfl (cells_ses _ _ _ _) (cellsE_one _) (by unfold maxLen; omega) (by omega) (by have := HE.out.size; simp; omega) ?_; intro v6 w6 hown6 hgrow6 hnil6; have HB6 : Hid (Ext w2 w6) := Below.trans HE.out (((Below.refl _ _).alloc HE.out.size _).grown hgrow6 (by have := HE.out.size; simp; omega) (fun q hq => (HO.out.lt q hq).1)); have HO6 : Hid (w6.ownsRow w2.heap.size 58 2 v6 (k + 1) (cellsE (l.take (k + 1)))) := (by rw [htk] at hown6; exact hown6); clear hown6 hgrow6 hnil6)))
      exact ⟨⟨k + 1, by omega, by go_num, HO6, HB6⟩, by simp [intOf]; omega⟩
    · have hke : k = l.length := by omega
      subst hke
      go_wp2
      go_ret
      have h := HO.out
      rw [List.take_length] at h
      obtain ⟨g, hg, hO⟩ := eown_of_owns h
      exact ⟨_, g, rfl, Nat.le_trans HE2.out.size hg, hO, HE2.out.trans HE.out⟩
end Go.Proofs.Ytjlmkjcahnnjpaa
