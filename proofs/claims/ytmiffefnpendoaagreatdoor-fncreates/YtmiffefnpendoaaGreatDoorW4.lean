/- chapter 1's functions over readPath and codeOfPath: PathFault, isName, DeepIn. -/
import Derived.Test.YtmiffefnpendoaaGreatDoorW3
import Derived.Test.YtmiffefnpendoaaGreatDoorAsHit
namespace Go.Proofs.YtmiffefnpendoaaGreatDoor
open Go.RowKit

/-- errors.errorType holds what it holds. -/
def Gd (w : World) : Prop := w.cell? ⟨0, 0, none⟩ = some errH
theorem Gd.lt {w : World} (h : Gd w) : 0 < w.heap.size := by
  unfold Gd at h
  rcases Nat.lt_or_ge 0 w.heap.size with h' | h'
  · exact h'
  · simp [World.cell?, Array.getElem?_eq_none h'] at h
theorem Gd.ext {w w1 : World} (h : Gd w) (hb : Ext w w1) : Gd w1 := (Below.cell hb (p := ⟨0, 0, none⟩) h.lt).trans h
theorem Gd.alloc {w : World} (h : Gd w) (o : Obj) : Gd (w.alloc o) := h.ext ((Ext.refl w).alloc o)

theorem rp_many (s : ByteArray) (w : World) (hm : Pth.many s.data.toList = true) :
    Calls Tryz.prog 55 #[.string s] w fun e w' => e = .returned rpMany ∧ Ext w w' := readPath_many s w hm
theorem rp_none (s : ByteArray) (w : World) (hm : Pth.many s.data.toList = false) (hr : Pth.rd s.data.toList = none) :
    Calls Tryz.prog 55 #[.string s] w fun e w' => e = .returned rpText ∧ Ext w w' := by
  refine (readPath_few s w hm).mono ?_
  rintro e w' ⟨⟨_, h⟩ | ⟨n, la, h, _⟩, hb⟩
  · exact ⟨h, hb⟩
  · rw [hr] at h; cases h
theorem rp_some (s : ByteArray) (w : World) (n la : Nat) (hm : Pth.many s.data.toList = false) (hr : Pth.rd s.data.toList = some (n, la)) :
    Calls Tryz.prog 55 #[.string s] w fun e w' => e = .returned (rpShape n la) ∧ Ext w w' := by
  refine (readPath_few s w hm).mono ?_
  rintro e w' ⟨⟨h, _⟩ | ⟨n', la', h, h'⟩, hb⟩
  · rw [hr] at h; cases h
  · rw [hr] at h
    simp only [Option.some.injEq, Prod.mk.injEq] at h
    obtain ⟨rfl, rfl⟩ := h
    exact ⟨h', hb⟩

theorem fault_many {l : List UInt8} (h : Pth.many l = true) : Pth.faultI l = 2 := by unfold Pth.faultI; rw [h]; rfl
theorem fault_none {l : List UInt8} (h : Pth.many l = false) (hr : Pth.rd l = none) : Pth.faultI l = 5 := by unfold Pth.faultI; rw [h, hr]; rfl
theorem fault_some {l : List UInt8} {x : Nat × Nat} (h : Pth.many l = false) (hr : Pth.rd l = some x) : Pth.faultI l = 0 := by unfold Pth.faultI; rw [h, hr]; rfl

set_option maxHeartbeats 1000000 in
theorem pathFault_any (s : ByteArray) (w : World) (hg : Gd w) :
    Calls Tryz.prog 70 #[.string s] w fun e w' => e = .returned (.int .i64 (Pth.faultI s.data.toList)) ∧ Ext w w' := by
  have HG : Hid (Gd w) := hg
  clear hg
  cases hm : Pth.many s.data.toList
  · cases hr : Pth.rd s.data.toList with
    | none =>
      rw [fault_none hm hr]
      go_enter Tryz.func70, Tryz.ntmps70
      go_wp2_with fail
      refine (rp_none s _ hm hr).mono ?_
      rintro e w1 ⟨rfl, hb⟩
      have HB : Hid (Ext w w1) := hb
      clear hb
      unfold rpText
      go_wp2_with fail
      refine (code_err 5 _ (by exact (HG.out.ext HB.out).alloc _)).mono ?_
      rintro e w2 ⟨rfl, hb⟩
      go_wp2
      go_ret
      exact ⟨rfl, (HB.out.alloc _).trans hb⟩
    | some x =>
      obtain ⟨n, la⟩ := x
      rw [fault_some hm hr]
      go_enter Tryz.func70, Tryz.ntmps70
      go_wp2_with fail
      refine (rp_some s _ n la hm hr).mono ?_
      rintro e w1 ⟨rfl, hb⟩
      have HB : Hid (Ext w w1) := hb
      clear hb
      unfold rpShape
      go_wp2_with fail
      refine (code_nil _).mono ?_
      rintro e w2 ⟨rfl, hb⟩
      go_wp2
      go_ret
      exact ⟨rfl, (HB.out.alloc _).trans hb⟩
  · rw [fault_many hm]
    go_enter Tryz.func70, Tryz.ntmps70
    go_wp2_with fail
    refine (rp_many s _ hm).mono ?_
    rintro e w1 ⟨rfl, hb⟩
    have HB : Hid (Ext w w1) := hb
    clear hb
    unfold rpMany
    go_wp2_with fail
    refine (code_err 2 _ (by exact (HG.out.ext HB.out).alloc _)).mono ?_
    rintro e w2 ⟨rfl, hb⟩
    go_wp2
    go_ret
    exact ⟨rfl, (HB.out.alloc _).trans hb⟩

theorem slash_cat (s : ByteArray) : ((⟨#[47]⟩ : ByteArray) ++ s).data.toList = (47 : UInt8) :: s.data.toList := by simp [ByteArray.data_append]

end Go.Proofs.YtmiffefnpendoaaGreatDoor
