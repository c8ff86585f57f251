/- spec.DrawJoinPath and DrawIsUnder: two texts of at most 30 bytes; nothing that was there turns. -/
import Derived.Test.YtflojfkalnojbaaD2
namespace Go.Proofs.Ytflojfkalnojbaa
open Go.RowKit

set_option maxHeartbeats 400000 in
theorem source_any (cv : Value) (w : World) (ad : Option Addr) (len cap : Nat) (hcv : cv = .slice ad len cap) :
    Calls Try.prog 62 #[cv] w fun e w' => e = .returned (.pointer (some ⟨w.heap.size, 0, none⟩)) ∧ w' = w.alloc (.cells #[cv, .int .i64 0] 137) := by
  subst hcv
  go_enter Try.func62, Try.ntmps62
  go_wp2
  go_ret
  exact ⟨rfl, rfl⟩

theorem src_new {w : World} {cv : Value} (h : CodeOk w w.heap.size cv) : SrcAt (w.alloc (.cells #[cv, .int .i64 0] 137)) w.heap.size 0 cv :=
  ⟨by simp, by simp, by simp, by simp, h.below ((Below.refl _ _).alloc (Nat.le_refl _) _)⟩
theorem ext_of_upd {w w' : World} {o : Obj} (h : Upd w.heap.size (w.alloc o) w') : Ext w w' := Below.trans ((Below.refl _ _).alloc (Nat.le_refl _) _) h.1

/-- What a draw of two texts leaves. -/
def Two (w : World) (e : Ending) (w' : World) : Prop :=
  ∃ p n : ByteArray, e = .returned (.tuple #[.string p, .string n]) ∧ p.size ≤ 30 ∧ n.size ≤ 30 ∧ Ext w w'

end Go.Proofs.Ytflojfkalnojbaa
