/- The program's findNode, findParent, nodeFault. -/
import Derived.Test.YtmiffefnpendoaaGreatDoorI0
import Derived.Test.YtmiffefnpendoaaGreatDoorI1
import Derived.Test.YtmiffefnpendoaaGreatDoorW5
namespace Go.Proofs.YtmiffefnpendoaaGreatDoor
open Go.RowKit

theorem fieldT_code (c : Int) (t : ByteArray) (w : World) : (Instr.field 36 (.agg #[.int .i64 c, .string t]) 0).run Tryz.prog w = .ok (.int .i64 c) w := by kernel_rfl
theorem fieldT_text (c : Int) (t : ByteArray) (w : World) : (Instr.field 36 (.agg #[.int .i64 c, .string t]) 1).run Tryz.prog w = .ok (.string t) w := by kernel_rfl
/-- The address of the node of path p, or nil. -/
def ptrV (b off : Nat) (zs : List Zn) (p : ByteArray) : Value := if Tre.has zs p = true then .pointer (some ⟨b, off + Tre.cut zs p.data.toList * 5, none⟩) else .pointer none
theorem ptrV_hit {b off : Nat} {zs : List Zn} {p : ByteArray} {k : Nat} (h : Tre.has zs p = true) (hk : Tre.cut zs p.data.toList = k) : ptrV b off zs p = .pointer (some ⟨b, off + k * 5, none⟩) := by unfold ptrV; rw [if_pos h, hk]
theorem ptrV_miss {b off : Nat} {zs : List Zn} {p : ByteArray} (h : Tre.has zs p = false) : ptrV b off zs p = .pointer none := by unfold ptrV; rw [if_neg (by rw [h]; simp)]
theorem nslice_mk {w : World} {b off cap : Nat} {zs : List Zn} (hlc : zs.length ≤ cap) (hcm : cap ≤ maxLen) (hb : b < w.heap.size) (hN : NodesAt w b off zs) : NSlice w (.slice (some ⟨b, off, none⟩) zs.length cap) zs := ⟨_, cap, rfl, hlc, hcm, fun _ => ⟨b, off, rfl, hb, hN⟩⟩

set_option maxHeartbeats 1000000 in
theorem findNode_any (b off cap : Nat) (zs : List Zn) (p : ByteArray) (w : World) (hS : NSlice w (.slice (some ⟨b, off, none⟩) zs.length cap) zs) (hU : Tre.Up zs) (hl : zs.length ≤ 1048576) :
    Calls Tryz.prog 53 #[.slice (some ⟨b, off, none⟩) zs.length cap, .string p] w fun e w' => e = .returned (ptrV b off zs p) ∧ Ext w w' := by
  have HL : Hid (∀ wx : World, Ext w wx → Calls Tryz.prog 48 #[.slice (some ⟨b, off, none⟩) zs.length cap, .string p] wx fun e w' => e = .returned (.tuple #[.int .i64 (Tre.cut zs p.data.toList : Nat), .bool (Tre.has zs p)]) ∧ Ext wx w') := fun wx h => placeOf_any _ zs p wx (hS.ext h) hU hl
  cases hh : Tre.has zs p with
  | true =>
    obtain ⟨z, -, hz, -⟩ := Tre.has_at hU hh
    have hk := (List.getElem?_eq_some_iff.1 hz).1
    rw [ptrV_hit hh rfl]
    rw [hh] at HL
    clear hz hU
    generalize Tre.cut zs p.data.toList = k at *
    go_enter Tryz.func53, Tryz.ntmps53
    go_wp2_with fail
    refine (HL.out _ (Ext.refl _)).mono ?_
    rintro e w2 ⟨rfl, hb⟩
    have HB : Hid (Ext w w2) := hb
    clear hb
    go_wp2
    go_ret
    exact ⟨rfl, HB.out⟩
  | false =>
    rw [ptrV_miss hh]
    rw [hh] at HL
    clear hU
    generalize Tre.cut zs p.data.toList = k at *
    go_enter Tryz.func53, Tryz.ntmps53
    go_wp2_with fail
    refine (HL.out _ (Ext.refl _)).mono ?_
    rintro e w2 ⟨rfl, hb⟩
    have HB : Hid (Ext w w2) := hb
    clear hb
    go_wp2
    go_ret
    exact ⟨rfl, HB.out⟩

namespace Tre
theorem parentV_ok {p : ByteArray} (h : Pth.faultI p.data.toList = 0) (ht : ¬ p.data.toList = [47]) : Pth.parentV p.data.toList = (0, (par p).data.toList) := by
  unfold Pth.parentV par; rw [h, if_neg (by simp), if_neg ht, mkB_list]
theorem mkB_data (p : ByteArray) : mkB p.data.toList = p := by unfold mkB; simp
end Tre

set_option maxHeartbeats 1000000 in
set_option maxRecDepth 100000 in
theorem findParent_any (b off cap : Nat) (zs : List Zn) (p : ByteArray) (w : World) (hg : Gd w) (hp : Pth.faultI p.data.toList = 0) (ht : ¬ p.data.toList = [47]) (hS : NSlice w (.slice (some ⟨b, off, none⟩) zs.length cap) zs) (hU : Tre.Up zs) (hl : zs.length ≤ 1048576) :
    Calls Tryz.prog 45 #[.slice (some ⟨b, off, none⟩) zs.length cap, .string p] w fun e w' => e = .returned (ptrV b off zs (Tre.par p)) ∧ Ext w w' := by
  have HL : Hid (∀ wx : World, Ext w wx → Calls Tryz.prog 53 #[.slice (some ⟨b, off, none⟩) zs.length cap, .string (Tre.par p)] wx fun e w' => e = .returned (ptrV b off zs (Tre.par p)) ∧ Ext wx w') := fun wx h => findNode_any b off cap zs (Tre.par p) wx (hS.ext h) hU hl
  have HP : Hid (Calls Tryz.prog 12 #[.string p] w fun e w' => e = .returned (tr (0, (Tre.par p).data.toList)) ∧ Ext w w') := by
    have := parentOf_any p w hg; rw [Tre.parentV_ok hp ht] at this; exact this
  unfold tr at HP
  simp only [Tre.mkB_data] at HP
  obtain ⟨q, hq⟩ : ∃ q, ptrV b off zs (Tre.par p) = .pointer q := by
    cases hh : Tre.has zs (Tre.par p) with
    | true => exact ⟨_, ptrV_hit hh rfl⟩
    | false => exact ⟨_, ptrV_miss hh⟩
  rw [hq] at HL ⊢
  clear hq
  generalize Tre.par p = pp at *
  have hft := fieldT_text
  go_enter Tryz.func45, Tryz.ntmps45
  go_wp2_with fail
  refine HP.out.mono ?_
  rintro e w2 ⟨rfl, hb⟩
  have HB : Hid (Ext w w2) := hb
  clear hb
  go_wp2_with fail
  refine (HL.out _ ?_).mono ?_
  · first | exact HB.out | exact HB.out.alloc _
  rintro e w3 ⟨rfl, hb⟩
  have HB3 : Hid (Ext w w3) := by first | exact HB.out.trans hb | exact (HB.out.alloc _).trans hb
  clear hb
  go_wp2
  go_ret
  exact ⟨rfl, HB3.out⟩
end Go.Proofs.YtmiffefnpendoaaGreatDoor
