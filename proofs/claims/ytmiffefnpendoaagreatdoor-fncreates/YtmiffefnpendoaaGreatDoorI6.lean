/- The program's copyNodes: the same nodes in memory of its own. -/
import Derived.Test.YtmiffefnpendoaaGreatDoorI5
import Derived.Test.YtmiffefnpendoaaGreatDoorClone
import Derived.Lib.SliceRun
namespace Go.Proofs.YtmiffefnpendoaaGreatDoor
open Go.RowKit

set_option maxHeartbeats 1000000 in
set_option maxRecDepth 100000 in
theorem cloneZ_any (v : Value) (zs : List Zn) (w : World) (hS : NSlice w v zs) (hl : zs.length ≤ 1048576) (hp : 0 < zs.length) :
    Calls Tryz.prog 95 #[v] w fun e w' => ∃ v' g, e = .returned v' ∧ w.heap.size ≤ g ∧ Own w' v' g zs ∧ Ext w w' := by
  have hi9 : (Tryz.prog.info? 39).map (fun i => (i.zero, i.size, i.bytes)) = some (some (.agg #[.string ByteArray.empty, .int .i64 0, .int .i64 0, .int .i64 0, .int .i64 0]), 5, 48) := by kernel_rfl
  obtain ⟨i0, hi, hx⟩ := Option.map_eq_some_iff.1 hi9
  simp only [Prod.mk.injEq] at hx
  obtain ⟨hz0, hz1, hz2⟩ := hx
  clear hi9
  obtain ⟨a, cap, rfl, hlc, hcm, hx⟩ := hS
  obtain ⟨b, off, rfl, hb, hN⟩ := hx hp
  have HN : Hid (NodesAt (w.alloc (.cells #[] 39)) b off zs) := hN.ext hb ((Ext.refl _).alloc _)
  clear hN hx
  unfold maxLen at hcm
  have HO : Hid ((w.alloc (.cells #[] 39)).ownsRow w.heap.size 39 5 (.slice (some ⟨w.heap.size, 0, none⟩) 0 0) 0 []) := World.ownsRow_made w #[] 0 (Nat.le_refl _) (by unfold maxLen; omega) rfl
  have q22 : ∀ (w : World) (a : Option Addr) (n c n' c' : Nat), (binOp .eql 24 (.slice a n c) (.slice none n' c')).run Tryz.prog w = .ok (.bool a.isNone) w := fun w a n c n' c' => Lib.run_eql_slice_nil w _ _ a n c n' c' Tryz.underlying24
  go_enter Tryz.func95, Tryz.ntmps95
  go_wp2_with (at_builtin; go_must (refine wpList_append_own _ rfl _ _ 24 rfl w.heap.size 39 i0 (.agg #[.string ByteArray.empty, .int .i64 0, .int .i64 0, .int .i64 0, .int .i64 0]) 5 48 Tryz.underlying24 hi hz0 hz1 hz2 rfl (by decide) _ 0 [] rfl HO.out ⟨b, off, none⟩ zs.length cap (cellsZ zs) rfl (cellsZ_length zs) HN.out.news (cellsZ_one zs) (by unfold maxLen; omega) (by omega) (by simp) ?_; intro v' w3 hown' hgrow3 hnil3))
  have hown2 : w3.ownsRow w.heap.size 39 5 v' zs.length (cellsZ zs) := by simpa using hown'
  obtain ⟨g, hg, hO⟩ := Own.of_row hown2
  have HE : Ext w w3 := ((Below.refl _ _).alloc (Nat.le_refl _) _).grown hgrow3 (by simp) (fun q hq => (HO.out.lt q hq).1)
  go_ret
  exact ⟨_, g, rfl, hg, hO, HE⟩

theorem List.set_getElem?_self' {α : Type} {l : List α} {k : Nat} {z : α} (h : l[k]? = some z) : l.set k z = l := by
  apply List.ext_getElem?
  intro i
  rw [List.getElem?_set]
  split
  · rename_i hi; subst hi; rw [h]; split
    · rfl
    · rename_i hn; exact absurd (List.getElem?_eq_some_iff.1 h).1 hn
  · rfl

set_option maxHeartbeats 1000000 in
set_option maxRecDepth 100000 in
theorem copyNodes_any (v : Value) (zs : List Zn) (w : World) (hS : NSlice w v zs) (hl : zs.length ≤ 1048576) (hp : 0 < zs.length) (hz : ∀ z ∈ zs, z.path.size ≤ 1048576) :
    Calls Tryz.prog 44 #[v] w fun e w' => ∃ v' g, e = .returned v' ∧ w.heap.size ≤ g ∧ Own w' v' g zs ∧ Ext w w' := by
  have HL : Hid (∀ wx : World, Ext w wx → Calls Tryz.prog 95 #[v] wx fun e w' => ∃ v' g, e = .returned v' ∧ wx.heap.size ≤ g ∧ Own w' v' g zs ∧ Ext wx w') := fun wx h => cloneZ_any v zs wx (hS.ext h) hl hp
  have HZ : Hid (∀ z ∈ zs, z.path.size ≤ 1048576) := hz
  clear hz
  obtain ⟨a, cap, rfl, -⟩ := hS
  go_enter Tryz.func44, Tryz.ntmps44
  go_wp2_with fail
  refine (HL.out _ (Ext.refl _)).mono ?_
  rintro e w2 ⟨v2, g, rfl, hg, hO, hb⟩
  obtain ⟨a2, cap2, rfl, hlc2, hcm2, hx2⟩ := id hO
  obtain ⟨off, rfl, -, -⟩ := hx2 hp
  have HO : Hid (Own w2 (.slice (some ⟨g, off, none⟩) zs.length cap2) g zs) := hO
  have HE : Hid (Ext w w2) := hb
  have HG : Hid (w.heap.size ≤ g) := hg
  clear hb hO hx2 hg
  unfold maxLen at hcm2
  go_wp2
  go_loopw [9] (fun i wr => ∃ (k : Nat), k ≤ zs.length ∧ i = .int .i64 k ∧ Hid (Own wr (.slice (some ⟨g, off, none⟩) zs.length cap2) g zs) ∧ Hid (Ext w wr)) (fun i _ => zs.length - (intOf i).toNat)
  case atStart => exact ⟨0, Nat.zero_le _, rfl, HO.out, HE.out⟩
  case round =>
    clear HO HE
    obtain ⟨k, hk, rfl, HO, HE⟩ := hrel
    by_cases hlt : k < zs.length
    · obtain ⟨z, hzk⟩ : ∃ z, zs[k]? = some z := ⟨_, List.getElem?_eq_getElem hlt⟩
      have HK : Hid (zs[k]? = some z) := hzk
      obtain ⟨a3, cap3, he, -, -, hx3⟩ := id HO.out
      injection he with e1 e2 e3
      subst e1 e3
      obtain ⟨off3, ho, hR, hN⟩ := hx3 hp
      injection ho with ho
      injection ho with _ ho _
      subst ho
      obtain ⟨d0, -, -, -, -⟩ := hN k z hzk
      have hf := (hR.2 (k * 5) (by omega)).2
      have HC : Hid (∀ wx : World, Calls Tryz.prog 46 #[.string z.path] wx fun e w' => e = .returned (.string z.path) ∧ Ext wx w') := fun wx => clone_any z.path wx (HZ.out z (List.mem_of_getElem? hzk))
      have HF : Hid (wr.frozen? ⟨g, off + k * 5, none⟩ = false) := hf
      have HLt : Hid (g < wr.heap.size) := hR.1
      clear hzk hx3 hR hN hf
      go_wp2_with fail
      refine (HC.out _).mono ?_
      rintro e w3 ⟨rfl, hb⟩
      have HO3 : Hid (Own w3 (.slice (some ⟨g, off, none⟩) zs.length cap2) g zs) := HO.out.ext hb
      have HE3 : Hid (Ext w w3) := HE.out.trans hb
      have d3 := (Below.cell hb (p := ⟨g, off + k * 5, none⟩) HLt.out).trans d0
      have f3 := (Below.frozen hb (p := ⟨g, off + k * 5, none⟩) HLt.out).trans HF.out
      clear hb d0
      go_wp2
      have HO4 : Hid (Own (w3.setCell ⟨g, off + k * 5, none⟩ (.string z.path)) (.slice (some ⟨g, off, none⟩) zs.length cap2) g zs) := by
        have h := HO3.out.field HK.out 0 (by omega) (.string z.path) z rfl
        rw [List.set_getElem?_self' HK.out] at h
        exact h
      exact ⟨⟨k + 1, by omega, by go_num, HO4, HE3.out.setCell (p := ⟨g, off + k * 5, none⟩) HG.out _⟩, by simp [intOf]; omega⟩
    · go_wp2
      go_ret
      exact ⟨_, g, rfl, HG.out, HO.out, HE.out⟩
end Go.Proofs.YtmiffefnpendoaaGreatDoor
