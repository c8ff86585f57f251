/- spec.DrawJoinPath and DrawIsUnder: two texts of at most 30 bytes; nothing that was there turns. -/
import Derived.Test.YtihfgaanaffinaaDoorD2
namespace Go.Proofs.YtihfgaanaffinaaDoor
open Go.RowKit

set_option maxHeartbeats 400000 in
theorem source_any (cv : Value) (w : World) (ad : Option Addr) (len cap : Nat) (hcv : cv = .slice ad len cap) :
    Calls Tryd.prog 57 #[cv] w fun e w' => e = .returned (.pointer (some ⟨w.heap.size, 0, none⟩)) ∧ w' = w.alloc (.cells #[cv, .int .i64 0] 113) := by
  subst hcv
  go_enter Tryd.func57, Tryd.ntmps57
  go_wp2
  go_ret
  exact ⟨rfl, rfl⟩

theorem src_new {w : World} {cv : Value} (h : CodeOk w w.heap.size cv) : SrcAt (w.alloc (.cells #[cv, .int .i64 0] 113)) w.heap.size 0 cv :=
  ⟨by simp, by simp, by simp, by simp, h.below ((Below.refl _ _).alloc (Nat.le_refl _) _)⟩
theorem ext_of_upd {w w' : World} {o : Obj} (h : Upd w.heap.size (w.alloc o) w') : Ext w w' := Below.trans ((Below.refl _ _).alloc (Nat.le_refl _) _) h.1

/-- What a draw of two texts leaves. -/
def Two (w : World) (e : Ending) (w' : World) : Prop :=
  ∃ p n : ByteArray, e = .returned (.tuple #[.string p, .string n]) ∧ p.size ≤ 30 ∧ n.size ≤ 30 ∧ Ext w w'

set_option maxHeartbeats 2000000 in
set_option maxRecDepth 100000 in
theorem drawIsUnder_any (cv : Value) (w : World) (hc : CodeOk w w.heap.size cv) :
    Calls Tryd.prog 21 #[cv] w (Two w) := by
  have HS : Hid (SrcAt (w.alloc (.cells #[cv, .int .i64 0] 113)) w.heap.size 0 cv) := src_new hc
  obtain ⟨ad, len, cap, hcv, -⟩ := hc
  have HC := source_any cv w ad len cap hcv
  clear hcv
  go_enter Tryd.func21, Tryd.ntmps21
  go_wp2_with fail
  refine HC.mono ?_
  rintro e w1 ⟨rfl, rfl⟩
  clear HC
  go_wp2_with fail
  refine (bent_any w.heap.size 0 cv _ (by exact HS.out) (by omega)).mono ?_
  rintro e w2 ⟨p, a1, rfl, hp, ha1, hS1, hU1⟩
  have HS1 : Hid (SrcAt w2 w.heap.size a1 cv) := hS1
  have HU1 : Hid (Upd w.heap.size (w.alloc (.cells #[cv, .int .i64 0] 113)) w2) := hU1
  clear hS1 hU1
  go_wp2_with fail
  refine (bent_any w.heap.size a1 cv _ (by exact HS1.out) (by omega)).mono ?_
  rintro e w3 ⟨n, a2, rfl, hn, ha2, hS2, hU2⟩
  have HU2 : Hid (Upd w.heap.size w2 w3) := hU2
  clear hS2 hU2
  go_wp2
  go_ret2
  exact ⟨p, n, rfl, hp, hn, ext_of_upd (HU1.out.trans HU2.out)⟩

set_option maxHeartbeats 2000000 in
set_option maxRecDepth 100000 in
theorem drawJoinPath_any (cv : Value) (w : World) (hc : CodeOk w w.heap.size cv) :
    Calls Tryd.prog 18 #[cv] w (Two w) := by
  have HS : Hid (SrcAt (w.alloc (.cells #[cv, .int .i64 0] 113)) w.heap.size 0 cv) := src_new hc
  obtain ⟨ad, len, cap, hcv, -⟩ := hc
  have HC := source_any cv w ad len cap hcv
  clear hcv
  go_enter Tryd.func18, Tryd.ntmps18
  go_wp2_with fail
  refine HC.mono ?_
  rintro e w1 ⟨rfl, rfl⟩
  clear HC
  go_wp2_with fail
  refine (bent_any w.heap.size 0 cv _ (by exact HS.out) (by omega)).mono ?_
  rintro e w2 ⟨p, a1, rfl, hp, ha1, hS1, hU1⟩
  have HS1 : Hid (SrcAt w2 w.heap.size a1 cv) := hS1
  have HU1 : Hid (Upd w.heap.size (w.alloc (.cells #[cv, .int .i64 0] 113)) w2) := hU1
  clear hS1 hU1
  go_wp2_with fail
  refine (chance_any w.heap.size a1 cv 8 _ (by exact HS1.out) (by omega) (by omega) (by omega)).mono ?_
  rintro e w3 ⟨c, q, rfl, hw⟩
  have HS3 : Hid (SrcAt w3 w.heap.size (a1 + 1) cv) := by rw [hw]; exact (HS1.out.set (a1 + 1)).drewN _
  have HU3 : Hid (Upd w.heap.size (w.alloc (.cells #[cv, .int .i64 0] 113)) w3) := by rw [hw]; exact HU1.out.trans ((Upd.set w2 _).drewN _)
  have hl3 : w.heap.size < w3.heap.size := HS3.out.lt
  have hne : ¬ w.heap.size = w3.heap.size := by omega
  clear hw
  cases c
  · go_wp2_with fail
    refine (drawName_any w.heap.size (a1 + 1) cv _ (by exact HS3.out) (by omega)).mono ?_
    rintro e w4 ⟨n, a2, rfl, hn, ha2, hS4, hU4⟩
    have HU4 : Hid (Upd w.heap.size w3 w4) := hU4
    clear hS4 hU4
    go_wp2
    go_ret2
    exact ⟨p, n, rfl, hp, by omega, ext_of_upd (HU3.out.trans HU4.out)⟩
  · go_wp2
    go_region_with (go_at_call 60; refine (next_any w.heap.size (a1 + 1) cv 4 _ (by first | exact HS3.out.drewN 1 | exact (HS3.out.alloc _).drewN 1 | exact (HS3.out.drewN 1).alloc _) (by omega) (by omega) (by omega)).mono ?_; rintro e w4 ⟨r, q4, rfl, hr0, hr1, rfl⟩)
    all_goals
      have hd : r = 0 ∨ r = 1 ∨ r = 2 ∨ r = 3 := by omega
      rcases hd with rfl | rfl | rfl | rfl
    all_goals
      go_wp2
      go_ret2
      exact ⟨p, _, rfl, hp, by decide, ext_of_upd (HU3.out.trans (((Upd.set w3 _).trans (Upd.alloc _ _ (by simp; omega))).drewN _))⟩
end Go.Proofs.YtihfgaanaffinaaDoor
